/- dev.settle, of the two ways in which it is called. -/
import Derived.Test.YtdalkkjojflakaaCpb
import Derived.Deep.DrawnRows
import Derived.Deep.RegionHeld3
namespace Go.Proofs.Ytdalkkjojflakaa
open Go.RowKit
set_option maxRecDepth 100000
set_option linter.unusedVariables false
set_option linter.unusedSimpArgs false
attribute [local go_sem ↓] Go.wp_at_zero Go.wp_at_succ

/-- Nothing that was there has changed but in the blocks of the sectors. -/
structure Touch (g : Nat → Nat) (n : Nat) (w w' : World) : Prop where
  os : w'.os = w.os
  tape : w'.tape = w.tape
  output : w'.output = w.output
  size : w.heap.size ≤ w'.heap.size
  block : ∀ i, i < w.heap.size → (∀ j, j < n → g j ≠ i) → w'.heap[i]? = w.heap[i]?
section
variable {g : Nat → Nat} {n : Nat} {a b c : World}
theorem Touch.refl (a : World) : Touch g n a a := ⟨rfl, rfl, rfl, Nat.le_refl _, fun _ _ _ => rfl⟩
theorem Touch.trans (h : Touch g n a b) (k : Touch g n b c) : Touch g n a c :=
  ⟨k.os.trans h.os, k.tape.trans h.tape, k.output.trans h.output, Nat.le_trans h.size k.size, fun i hi hj => (k.block i (Nat.lt_of_lt_of_le hi h.size) hj).trans (h.block i hi hj)⟩
theorem Touch.below (h : Below a.heap.size a b) : Touch g n a b := ⟨h.os, h.tape, h.output, h.size, fun i hi _ => h.block i hi⟩
theorem Touch.one (j : Nat) (hj : j < n) (h : a.grownBy b (some (g j))) : Touch g n a b := ⟨h.os, h.tape, h.output, h.size, fun i hi hne => h.block i hi (by simpa using Ne.symm (hne j hj))⟩
theorem Touch.row (h : Touch g n a b) {t : TypeId} {i : Nat} {cs : List Value} (hr : Row a i t cs) (ht : 5 ≠ t) {xs : Nat → List Int} (hb : ∀ j, j < n → Blk a (g j) (xs j)) : Row b i t cs :=
  (h.block i hr.lt fun j hj => Row.apart (w := a) (hb j hj) hr ht).trans hr
theorem Touch.from {B : Nat} (h : Touch g n a b) (hB : ∀ j, j < n → B ≤ g j) (hs : B ≤ a.heap.size) {z : World} (hz : Below z.heap.size z a) (hzB : z.heap.size ≤ B) : Below z.heap.size z b :=
  ⟨h.os.trans hz.os, h.tape.trans hz.tape, h.output.trans hz.output, Nat.le_trans hz.size h.size, fun i hi => (h.block i (Nat.lt_of_lt_of_le hi hz.size) (fun j hj e => by have := hB j hj; omega)).trans (hz.block i hi)⟩
end
theorem Own.low {w w' : World} {M q : Nat} {u : Value} {ys : List Int} (h : Own w M u ys) (hg : w.grownBy w' (some q)) (hq : q < M) : Own w' M u ys :=
  World.ownsRow.kept h hg (.inr fun e => by have := (World.ownsRow.lt h q e).1; omega)
theorem Sec.put {w w' : World} {B M : Nat} {us : List Value} {xs : List (List Int)} {g : Nat → Nat} (h : Sec w B M us xs g xs.length) {p : Nat} (hp : p < xs.length) {ys : List Int} (hy : Blk w' (g p) ys) (hg : w.grownBy w' (some (g p))) (hl : ys.length = (xs.getD p []).length) :
    Sec w' B M us (xs.set p ys) g (xs.set p ys).length := by
  have hd : ∀ i, i ≠ p → i < xs.length → g i ≠ g p := fun i hi hx => by
    rcases Nat.lt_or_gt_of_ne hi with e | e
    · exact Nat.ne_of_lt (h.inc i p e hp)
    · exact (Nat.ne_of_lt (h.inc p i e hx)).symm
  have hs : (xs.set p ys).length = xs.length := by simp
  refine ⟨by simpa using h.len, fun i hi => ?_, fun i hi => ?_, fun i hi => h.lo i (by omega), fun i hi => h.hi i (by omega), fun i j hij hj => h.inc i j hij (by omega)⟩
  · rw [hs] at hi
    rw [getD_setL _ _ _ _ _ hp]
    by_cases e : i = p
    · subst e; rw [if_pos rfl, hl]; exact h.pos i hi
    · rw [if_neg e]; exact h.pos i hi
  · rw [hs] at hi
    rw [getD_setL _ _ _ _ _ hp]
    by_cases e : i = p
    · subst e; rw [if_pos rfl]; exact hy
    · rw [if_neg e]; exact (hg.block _ (h.blk i hi).lt (by simpa using hd i e hi)).trans (h.blk i hi)
theorem settled_64 {keep : Nat → Bool} {S : List (List Int)} {C : List Wr} (h1 : ∀ i, i < S.length → (S.getD i []).length = 64) (h2 : ∀ i, i < C.length → (0 ≤ (C.getD i ⟨0, []⟩).pos ∧ (C.getD i ⟨0, []⟩).pos < S.length) ∧ (C.getD i ⟨0, []⟩).data.length = 64) :
    ∀ k, k ≤ C.length → ∀ i, i < S.length → ((settled keep S C k).getD i []).length = 64 := by
  intro k
  induction k with
  | zero => intro _ i hi; exact h1 i hi
  | succ k ih =>
    intro hk i hi
    cases hkk : keep k
    · rw [settled_no hkk]; exact ih (by omega) i hi
    · rw [settled_yes hkk, getD_setL _ _ _ _ _ (by rw [settled_length]; have := (h2 k (by omega)).1; omega)]
      split
      · exact (h2 k (by omega)).2
      · exact ih (by omega) i hi

end Go.Proofs.Ytdalkkjojflakaa
