/- How a list of numbers that came in is read, and how long it is at the most. -/
import Derived.Test.YtdalkkjojflakaaOpen3
import Derived.Test.YtdalkkjojflakaaRom
namespace Go.Proofs.Ytdalkkjojflakaa
open Go.ChangeShapes Go.WideShapes Go.ChangeAt Go.RowKit Go.Deep
set_option maxRecDepth 100000
set_option linter.unusedVariables false
set_option linter.unusedSimpArgs false
theorem bytesI64 : Try.prog.bytesOf 3 = 8 := by kernel_rfl
theorem open_intsS {H : Type} {enc : TypeId × Value → H} {w : World} {base : Nat} {spare : Nat → Bool} {held : Bool} {v : Value} {d : DataW H} {p : List MemPlace} {r : Reach} {b0 : Nat}
    (hv : Value.okWide Try.prog w r b0 22 v) (h : DataW.Trod enc Try.prog w base spare held 22 v d p) (hw : ∀ n ∈ d.weights Try.prog 22, n ≤ reachBytes) :
    ∃ xs, Nts w v xs ∧ xs.length * 8 ≤ 140737488355328 := by
  obtain ⟨a, l, c, rfl⟩ := okWide_slice Try.underlying22 hv
  obtain ⟨fuel, h0⟩ := h
  have h : DataW.trod enc Try.prog w base spare held fuel 22 [.slice a l c] = some (d, p) := h0
  rcases open_ints Try.underlying22 Try.underlying3 cellsInt h with ⟨hcs, _⟩ | ⟨a, len, cap, zs, hcs, _, hl, hm, hz, hxx, hcell, _⟩
  · simp at hcs
    obtain ⟨rfl, rfl, rfl⟩ := hcs
    exact ⟨[], ⟨none, 0, rfl, Nat.le_refl _, Nat.zero_le _, fun i hi => absurd hi (Nat.not_lt_zero _)⟩, by simp⟩
  · simp at hcs
    obtain ⟨rfl, rfl, rfl⟩ := hcs
    have hzl : l ≤ zs.length := by rw [hz]; split <;> omega
    have hl' : (zs.take l).length = l := by simp; omega
    refine ⟨zs.take l, ⟨some a, c, by rw [hl'], by rw [hl']; exact hl, hm, fun i hi => ?_⟩, ?_⟩
    · rw [hl'] at hi
      obtain ⟨b, o, rfl⟩ := spot_of (hcell 0 (by omega))
      have hc := hcell i (by omega)
      rw [add_none] at hc
      exact ⟨b, o, rfl, by rw [hc]; simp [List.getD, hi]⟩
    · have hx1 : d = _ := congrArg Prod.fst hxx
      have := hw (((zs.take l).length + (zs.drop l).length) * 8) (by rw [hx1]; simp [DataW.weights, Try.underlying22, lits, bytesI64])
      have hr := reach_num
      simp at this
      omega
end Go.Proofs.Ytdalkkjojflakaa
