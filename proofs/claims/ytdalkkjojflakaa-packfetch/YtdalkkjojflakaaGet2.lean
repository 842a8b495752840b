import Derived.Test.YtdalkkjojflakaaGet
import Derived.Test.YtdalkkjojflakaaBase2
namespace Go.Proofs.Ytdalkkjojflakaa
open Go.RowKit
set_option linter.unusedVariables false
set_option linter.unusedSimpArgs false

def okL (e : Int) (l : List Int) : List Int := if e = 0 then l else []
theorem okL0 (l : List Int) : okL 0 l = l := by simp [okL]
theorem okLn {e : Int} (h : e ≠ 0) (l : List Int) : okL e l = [] := by simp [okL, h]
theorem ret_pair {u : Value} {a b : Int} (h : a = b) : Ending.returned (.tuple #[u, .int .i64 a]) = .returned (.tuple #[u, .int .i64 b]) := by rw [h]
theorem atE_bad {D : Dv} {x e : Int} (h : e ≠ 0) : atE D x e = e := by simp [atE, h]
theorem atE_f {D : Dv} {x : Int} (h : inB x 0 ((D.safe.length : Int) - 1) = false) : atE D x 0 = 2 := by simp [atE, h]
theorem atE_t {D : Dv} {x : Int} (h : inB x 0 ((D.safe.length : Int) - 1) = true) : atE D x 0 = 0 := by simp [atE, h]

/-- Devices that may be: every sector and every write has 64 bytes. -/
theorem devB_all {r a h vm nv : Int} {D : Dv} (x : devB r a h vm nv D = true) :
    (D.safe.length : Int) = 2 + r + 2 * a + h ∧ (D.cache.length : Int) ≤ 2000 ∧ (D.vols.length : Int) ≤ nv ∧ inB D.fuel (-1) 1048576 = true ∧ (∀ i, i < D.safe.length → (D.safe.getD i []).length = 64) ∧
    (∀ i, i < D.cache.length → (0 ≤ (D.cache.getD i ⟨0, []⟩).pos ∧ (D.cache.getD i ⟨0, []⟩).pos < D.safe.length) ∧ (D.cache.getD i ⟨0, []⟩).data.length = 64) ∧
    (∀ i, i < D.vols.length → volB vm (D.vols.getD i ⟨[], 0, false⟩).data.length (D.vols.getD i ⟨[], 0, false⟩).synced (D.vols.getD i ⟨[], 0, false⟩).gone = true) := by
  unfold devB at x
  simp only [Bool.and_eq_true, decide_eq_true_eq] at x
  obtain ⟨⟨⟨⟨⟨⟨x1, x2⟩, x3⟩, x4⟩, x5⟩, x6⟩, x7⟩ := x
  refine ⟨x1, x2, x3, x4, fun i hi => ?_, fun i hi => ?_, fun i hi => ?_⟩
  · have := List.all_eq_true.1 x5 i (by simpa using hi)
    have := beq_iff_eq.1 this
    omega
  · have := List.all_eq_true.1 x6 i (by simpa using hi)
    rw [Bool.and_eq_true] at this
    have h1 := inB_t this.1
    have h2 := beq_iff_eq.1 this.2
    exact ⟨⟨h1.1, by omega⟩, by omega⟩
  · exact List.all_eq_true.1 x7 i (by simpa using hi)

theorem seen_length {r a h vm nv : Int} {D : Dv} (hd : devB r a h vm nv D = true) {x : Int} (hx : 0 ≤ x ∧ x < D.safe.length) {k : Nat} (hk : k ≤ D.cache.length) : (seen D x k).length = 64 := by
  obtain ⟨_, _, _, _, h5, h6, _⟩ := devB_all hd
  have hl := lastI_lt k (posIs D x)
  unfold seen
  split
  · exact (h6 _ (by omega)).2
  · exact h5 _ (by omega)
theorem pad_self {m : Nat} {xs : List Int} (h : xs.length = m) : pad m xs = xs := by subst h; simp [pad]

end Go.Proofs.Ytdalkkjojflakaa
