/- How lists that came in are read where all that came in is small. -/
import Derived.Test.YtdalkkjojflakaaOpN
namespace Go.Proofs.Ytdalkkjojflakaa
open Go.ChangeShapes Go.WideShapes Go.ChangeAt Go.RowKit Go.Deep
set_option maxRecDepth 100000
set_option linter.unusedVariables false
set_option linter.unusedSimpArgs false
theorem bulk_pos {H : Type} (d : DataW H) : 1 ≤ Rows.uptoBulk d := by
  cases d with
  | lit l => cases l <;> simp [Rows.uptoBulk]
  | _ => simp [Rows.uptoBulk]
theorem bulk_len {H : Type} : ∀ l : List (DataW H), l.length ≤ Rows.uptoBulkAll l
  | [] => by simp
  | x :: r => by have h1 := bulk_pos x; have h2 := bulk_len r; simp only [Rows.uptoBulkAll, List.length_cons]; omega
theorem bulk_slice {H : Type} {e s : List (DataW H)} {n : Nat} (h : Rows.uptoBulk (.slice e s) ≤ n) : e.length ≤ n := by
  have := bulk_len e
  simp only [Rows.uptoBulk] at h
  omega
section
variable {H : Type} {enc : TypeId × Value → H} {w : World} {base : Nat} {spare : Nat → Bool} {held : Bool} {v : Value} {d : DataW H} {p : List MemPlace} {r : Reach} {b0 : Nat}
theorem open_intsU (hv : Value.okWide Try.prog w r b0 22 v) (h : DataW.Trod enc Try.prog w base spare held 22 v d p) (hw : Rows.uptoBulk d ≤ 1048576) :
    ∃ xs, Nts w v xs ∧ xs.length ≤ 1048576 := by
  obtain ⟨a, l, c, rfl⟩ := okWide_slice Try.underlying22 hv
  obtain ⟨fuel, h0⟩ := h
  have h : DataW.trod enc Try.prog w base spare held fuel 22 [.slice a l c] = some (d, p) := h0
  rcases open_ints Try.underlying22 Try.underlying3 cellsInt h with ⟨hcs, _⟩ | ⟨a, len, cap, zs, hcs, _, hl, hm, hz, hxx, hcell, _⟩
  · simp at hcs
    obtain ⟨rfl, rfl, rfl⟩ := hcs
    exact ⟨[], ⟨none, 0, rfl, Nat.le_refl _, Nat.zero_le _, fun i hi => absurd hi (Nat.not_lt_zero _)⟩, by simp⟩
  · simp at hcs
    obtain ⟨rfl, rfl, rfl⟩ := hcs
    have hzl : l ≤ zs.length := by rw [hz]; split <;> omega
    have hl' : (zs.take l).length = l := by simp; omega
    refine ⟨zs.take l, ⟨some a, c, by rw [hl'], by rw [hl']; exact hl, hm, fun i hi => ?_⟩, ?_⟩
    · rw [hl'] at hi
      obtain ⟨b, o, rfl⟩ := spot_of (hcell 0 (by omega))
      have hc := hcell i (by omega)
      rw [add_none] at hc
      exact ⟨b, o, rfl, by rw [hc]; simp [List.getD, hi]⟩
    · have hx1 : d = _ := congrArg Prod.fst hxx
      rw [hx1] at hw
      have := bulk_slice hw
      simp [lits] at this
      simp
      omega
theorem open_rowsU (hv : Value.okWide Try.prog w r b0 23 v) (h : DataW.Trod enc Try.prog w base spare held 23 v d p) (hw : Rows.uptoBulk d ≤ 1048576) :
    ∃ xs, RowsAt w v xs ∧ xs.length ≤ 1048576 := by
  obtain ⟨a, l, c, rfl⟩ := okWide_slice Try.underlying23 hv
  obtain ⟨fuel, h0⟩ := h
  have h : DataW.trod enc Try.prog w base spare held fuel 23 [.slice a l c] = some (d, p) := h0
  obtain ⟨xs, hx⟩ := open_rows h
  refine ⟨xs, hx, ?_⟩
  rcases open_slice1 Try.underlying23 cellsBts h with ⟨hcs, _⟩ | ⟨a, len, cap, m, n, V, D, Pl, hcs, _, hl, hm, hmm, hxx, _⟩
  · obtain ⟨a', cap', e, _⟩ := hx
    rw [e] at hcs
    simp at hcs
    omega
  · obtain ⟨a', cap', e, _⟩ := hx
    rw [e] at hcs
    simp at hcs
    have hx1 : d = _ := congrArg Prod.fst hxx
    rw [hx1] at hw
    have := bulk_slice hw
    simp at this
    omega
end
end Go.Proofs.Ytdalkkjojflakaa
