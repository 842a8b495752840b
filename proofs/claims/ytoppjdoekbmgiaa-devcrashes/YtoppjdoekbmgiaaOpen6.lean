/- A list of truths that comes in, with its size. -/
import Derived.Test.YtoppjdoekbmgiaaOpen4
import Derived.Test.YtoppjdoekbmgiaaBol
namespace Go.Proofs.Ytoppjdoekbmgiaa
open Go.ChangeShapes Go.WideShapes Go.ChangeAt Go.RowKit Go.Deep
set_option maxRecDepth 100000
set_option linter.unusedVariables false
set_option linter.unusedSimpArgs false
theorem bytesBool : Try.prog.bytesOf 4 = 1 := by kernel_rfl
theorem open_boolsS {H : Type} {enc : TypeId × Value → H} {w : World} {base : Nat} {spare : Nat → Bool} {held : Bool} {v : Value} {d : DataW H} {p : List MemPlace} {r : Reach} {b0 : Nat}
    (hv : Value.okWide Try.prog w r b0 49 v) (h : DataW.Trod enc Try.prog w base spare held 49 v d p) (hw : ∀ n ∈ d.weights Try.prog 49, n ≤ reachBytes) :
    ∃ ks, Bls w v ks ∧ ks.length ≤ 140737488355328 := by
  obtain ⟨a, l, c, rfl⟩ := okWide_slice Try.underlying49 hv
  obtain ⟨fuel, hf⟩ := h
  have hr := reach_num
  rcases open_slice1 (x := (d, p)) Try.underlying49 cellsBool hf with ⟨hcs, _⟩ | ⟨a, len, cap, m, n, V, D, Pl, hcs, _, hl, hm, hmm, hxx, hx⟩
  · simp [Value.cells] at hcs
    obtain ⟨rfl, rfl, rfl⟩ := hcs
    exact ⟨[], ⟨none, 0, rfl, Nat.le_refl _, Nat.zero_le _, fun i hi => absurd hi (Nat.not_lt_zero _)⟩, by simp⟩
  · simp [Value.cells] at hcs
    obtain ⟨rfl, rfl, rfl⟩ := hcs
    have hml : l ≤ m := by rw [hmm]; split <;> omega
    obtain ⟨f, hf'⟩ := pick_lt false (p := fun i g => V i = .bool g) (n := l) fun i hi => by
      obtain ⟨g, e1, _⟩ := DataW.trod_bool Try.underlying4 (hx i (by omega)).2
      simp at e1
      exact ⟨g, e1⟩
    have htop := hw ((l + (m - l)) * 1) (by
      have : d = (d, p).1 := rfl
      rw [this, hxx]; simp [DataW.weights, Try.underlying49, bytesBool])
    refine ⟨(List.range l).map f, ⟨some a, c, by simp, by simpa using hl, hm, fun i hi => ?_⟩, by simp; omega⟩
    have hi' : i < l := by simpa using hi
    obtain ⟨b, o, rfl⟩ := spot_of (hx 0 (by omega)).1
    have hc := (hx i (by omega)).1
    rw [add_none] at hc
    exact ⟨b, o, rfl, by rw [hc, hf' i hi', getD_map_range f _ hi']⟩
end Go.Proofs.Ytoppjdoekbmgiaa
