/- icehouseref.NewOf. -/
import Derived.Test.YtdalkkjojflakaaNew
import Derived.Deep.RegionHeld3
import Derived.Deep.AppendLies
import Derived.Deep.RegionLaw
import Derived.Deep.DrawnRows
namespace Go.Proofs.Ytdalkkjojflakaa
open Go.RowKit
set_option linter.unusedVariables false
set_option linter.unusedSimpArgs false

/-- One more sector is appended. -/
theorem RowsIn.push {w w' : World} {B : Nat} {us : List Value} {xs : List (List Int)} (h : RowsIn w B us xs) (f : ∀ u ys, Own w B u ys → Own w' B u ys) {u : Value} {ys : List Int} (hu : Own w' B u ys) : RowsIn w' B (us ++ [u]) (xs ++ [ys]) := by
  refine ⟨by simp [h.1], fun i hi => ?_⟩
  simp at hi
  by_cases e : i = xs.length
  · subst e
    refine ⟨u, ?_, ?_⟩
    · rw [List.getElem?_append_right (by rw [h.1]; exact Nat.le_refl _), h.1]; simp
    · simpa [List.getD] using hu
  · obtain ⟨v, h1, h2⟩ := h.2 i (by omega)
    refine ⟨v, ?_, ?_⟩
    · rw [List.getElem?_append_left (by rw [h.1]; omega)]; exact h1
    · rw [show (xs ++ [ys]).getD i [] = xs.getD i [] by simp [List.getD, List.getElem?_append_left (show i < xs.length by omega)]]
      exact f _ _ h2
theorem own_two {w w' : World} {B B' : Nat} {e e' : TypeId} {size size' : Nat} {v v' : Value} {n n' : Nat} {xs xs' : List Value} (h : w.ownsRow B e size v n xs) (h' : w.ownsRow B' e' size' v' n' xs') (he : e ≠ e') (hg : w.grownBy w' v'.ownBlock) : w'.ownsRow B e size v n xs := by
  refine h.kept hg ?_
  cases hv : v.ownBlock with
  | none => exact .inl rfl
  | some g =>
    refine .inr fun q => ?_
    obtain ⟨c1, h1⟩ := own_tag h hv
    obtain ⟨c2, h2⟩ := own_tag h' q.symm
    rw [h1] at h2
    simp at h2
    exact he h2.2
theorem repl_succ {α : Type} (k : Nat) (x : α) : List.replicate (k + 1) x = List.replicate k x ++ [x] := List.replicate_succ'

attribute [local go_sem ↓] Go.wp_at_zero Go.wp_at_succ
end Go.Proofs.Ytdalkkjojflakaa
