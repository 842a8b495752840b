/- icehouseref.DevCopy. -/
import Derived.Test.YtdalkkjojflakaaFit
import Derived.Deep.DeepCutAuto
namespace Go.Proofs.Ytdalkkjojflakaa
open Go.RowKit
set_option linter.unusedVariables false
set_option linter.unusedSimpArgs false

theorem take_push {α : Type} (xs : List α) (d : α) (k : Nat) (h : k < xs.length) : xs.take (k + 1) = xs.take k ++ [xs.getD k d] := by
  rw [List.take_succ_eq_append_getElem h]; simp [List.getD, h]

theorem gb_own {a b c : World} {R r : Option Nat} (h : a.grownBy b R) (hg : b.grownBy c r) (hr : ∀ j, r = some j → a.heap.size ≤ j) : a.grownBy c R :=
  ⟨hg.os.trans h.os, hg.tape.trans h.tape, hg.output.trans h.output, Nat.le_trans h.size hg.size, fun k hk hne => (hg.block k (Nat.lt_of_lt_of_le hk h.size) (fun e => by have := hr k e.symm; omega)).trans (h.block k hk hne)⟩
theorem WrsIn.push {w w' : World} {B : Nat} {us : List Value} {xs : List Wr} (h : WrsIn w B us xs) (f : ∀ u ys, Own w B u ys → Own w' B u ys) {u : Value} {y : Wr} (hu : Own w' B u y.data) : WrsIn w' B (us ++ [.int .i64 y.pos, u]) (xs ++ [y]) := by
  have hl := h.1
  refine ⟨by simp [hl]; omega, fun i hi => ?_⟩
  simp at hi
  by_cases e : i = xs.length
  · subst e
    refine ⟨?_, u, ?_, ?_⟩
    · rw [List.getElem?_append_right (by omega), show xs.length * 2 - us.length = 0 by omega]; simp [List.getD]
    · rw [List.getElem?_append_right (by omega), show xs.length * 2 + 1 - us.length = 1 by omega]; simp
    · simpa [List.getD] using hu
  · obtain ⟨h0, v, h1, h2⟩ := h.2 i (by omega)
    rw [show (xs ++ [y]).getD i ⟨0, []⟩ = xs.getD i ⟨0, []⟩ by simp [List.getD, List.getElem?_append_left (show i < xs.length by omega)]]
    exact ⟨by rw [List.getElem?_append_left (by omega)]; exact h0, v, by rw [List.getElem?_append_left (by omega)]; exact h1, f _ _ h2⟩
theorem VosIn.push {w w' : World} {B : Nat} {us : List Value} {xs : List Vo} (h : VosIn w B us xs) (f : ∀ u ys, Own w B u ys → Own w' B u ys) {u : Value} {y : Vo} (hu : Own w' B u y.data) : VosIn w' B (us ++ [u, .int .i64 y.synced, .bool y.gone]) (xs ++ [y]) := by
  have hl := h.1
  refine ⟨by simp [hl]; omega, fun i hi => ?_⟩
  simp at hi
  by_cases e : i = xs.length
  · subst e
    refine ⟨⟨u, ?_, ?_⟩, ?_, ?_⟩
    · rw [List.getElem?_append_right (by omega), show xs.length * 3 - us.length = 0 by omega]; simp
    · simpa [List.getD] using hu
    · rw [List.getElem?_append_right (by omega), show xs.length * 3 + 1 - us.length = 1 by omega]; simp [List.getD]
    · rw [List.getElem?_append_right (by omega), show xs.length * 3 + 2 - us.length = 2 by omega]; simp [List.getD]
  · obtain ⟨⟨v, h1, h2⟩, h3, h4⟩ := h.2 i (by omega)
    rw [show (xs ++ [y]).getD i ⟨[], 0, false⟩ = xs.getD i ⟨[], 0, false⟩ by simp [List.getD, List.getElem?_append_left (show i < xs.length by omega)]]
    exact ⟨⟨v, by rw [List.getElem?_append_left (by omega)]; exact h1, f _ _ h2⟩, by rw [List.getElem?_append_left (by omega)]; exact h3, by rw [List.getElem?_append_left (by omega)]; exact h4⟩

attribute [local go_sem ↓] Go.wp_at_zero Go.wp_at_succ
end Go.Proofs.Ytdalkkjojflakaa
