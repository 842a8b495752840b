/- How a list that came in is read, whatever its elements. -/
import Derived.Test.YtdalkkjojflakaaOpen0
import Derived.ChangeMaps5
import Derived.Deep.Slices
namespace Go.Proofs.Ytdalkkjojflakaa
open Go.ChangeShapes Go.WideShapes Go.ChangeAt Go.RowKit Go.Deep
set_option maxRecDepth 100000
set_option linter.unusedVariables false
set_option linter.unusedSimpArgs false
theorem spick_lt {α : Type} (x0 : α) {n : Nat} {p : Nat → α → Prop} (h : ∀ i, i < n → ∃ x, p i x) : ∃ f : Nat → α, ∀ i, i < n → p i (f i) := by
  refine ⟨fun i => if hi : i < n then Classical.choose (h i hi) else x0, fun i hi => ?_⟩
  simp only [dif_pos hi]
  exact Classical.choose_spec (h i hi)
theorem sgetD_map_range {α : Type} (f : Nat → α) (d : α) {n i : Nat} (h : i < n) : ((List.range n).map f).getD i d = f i := by
  simp [List.getD, h]
theorem sadd_none (b o i : Nat) : (⟨b, o, none⟩ : Addr).add i = ⟨b, o + i, none⟩ := by unfold Addr.add; split <;> simp_all
theorem sspot_of {w : World} {a : Addr} {v : Value} (h : w.cell? (a.add 0) = some v) : ∃ b o, a = ⟨b, o, none⟩ := by
  obtain ⟨b, o, s⟩ := a
  have hs : s = none := by simpa [Addr.add] using World.cell?_spot h
  subst hs
  exact ⟨b, o, rfl⟩
section
variable {H : Type} {enc : TypeId × Value → H} {w : World} {base : Nat} {spare : Nat → Bool} {held : Bool} {fuel : Nat} {v : Value} {x : DataW H × List MemPlace}

theorem open_list {α : Type} (R : World → Nat → Nat → α → Prop) (size : Nat) (d : α) (t e : TypeId) (hu : Try.prog.underlying t = some (.slice e)) (hc : Try.prog.cellsOf e = size) (hs : 0 < size)
    (h : DataW.trod enc Try.prog w base spare held fuel t [v] = some x)
    (f : ∀ fuel' (b p : Nat) (cs : List Value) (y : DataW H × List MemPlace), cs.length = size → (∀ j, j < size → w.cell? ⟨b, p + j, none⟩ = cs[j]?) → DataW.trod enc Try.prog w base spare held fuel' e cs = some y → ∃ z, R w b p z) :
    ∃ (xs : List α) (a : Option Addr) (cap : Nat), v = .slice a xs.length cap ∧ xs.length ≤ cap ∧ cap ≤ maxLen ∧ ∀ i, i < xs.length → ∃ b o, a = some ⟨b, o, none⟩ ∧ R w b (o + i * size) (xs.getD i d) := by
  rcases open_slice hu h with ⟨hcs, _⟩ | ⟨a, len, cap, m, n, D, Pl, hcs, _, hl, hm, hmm, _, hx⟩
  · simp at hcs
    subst hcs
    exact ⟨[], none, 0, rfl, Nat.le_refl _, Nat.zero_le _, fun i hi => absurd hi (Nat.not_lt_zero _)⟩
  · simp at hcs
    subst hcs
    have hml : len ≤ m := by rw [hmm]; split <;> omega
    have hsp : 0 < len → ∃ b o, a = ⟨b, o, none⟩ := fun h0 => by
      obtain ⟨cs', hc', _⟩ := hx 0 (by omega)
      rw [hc] at hc'
      obtain ⟨_, hl', k⟩ := World.cells?_some hc'
      have k0 := k 0 hs
      rw [List.getElem?_eq_getElem (by omega)] at k0
      exact sspot_of (by simpa [Addr.add] using k0)
    obtain ⟨g, hg⟩ := spick_lt d (n := len) (p := fun i z => ∃ b o, a = ⟨b, o, none⟩ ∧ R w b (o + i * size) z) fun i hi => by
      obtain ⟨cs', hc', ht⟩ := hx i (by omega)
      rw [hc] at hc'
      obtain ⟨_, hl', k⟩ := World.cells?_some hc'
      obtain ⟨b, o, rfl⟩ := hsp (by omega)
      obtain ⟨z, hz⟩ := f _ b (o + i * size) cs' _ hl' (fun j hj => by have := k j hj; rw [sadd_none, sadd_none] at this; exact this) ht
      exact ⟨z, b, o, rfl, hz⟩
    refine ⟨(List.range len).map g, some a, cap, by simp, by simpa using hl, hm, fun i hi => ?_⟩
    have hi' : i < len := by simpa using hi
    rw [sgetD_map_range g _ hi']
    obtain ⟨b, o, rfl, r⟩ := hg i hi'
    exact ⟨b, o, rfl, r⟩
end
end Go.Proofs.Ytdalkkjojflakaa
