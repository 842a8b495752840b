/- What a sector has behind a put, a flush and a crash: plain facts, no walk. -/
import Derived.Test.YtkcakecmhoamaaaOkd
import Derived.Test.YtkcakecmhoamaaaGet3
namespace Go.Proofs.Ytkcakecmhoamaaa
open Go.RowKit
set_option maxRecDepth 100000
set_option linter.unusedVariables false
set_option linter.unusedSimpArgs false
theorem lastI_congr {n : Nat} {p q : Nat → Bool} (h : ∀ i, i < n → p i = q i) : lastI n p = lastI n q := by
  induction n with
  | zero => rfl
  | succ n ih => simp only [lastI]; rw [h n (Nat.lt_succ_self _), ih fun i hi => h i (by omega)]
theorem posIs_old {S : List (List Int)} {C : List Wr} {V : List Vo} {f : Int} {y : Int} {z : Wr} {i : Nat} (hi : i < C.length) {S' : List (List Int)} {V' : List Vo} {f' : Int} : posIs ⟨S, C ++ [z], V, f⟩ y i = posIs ⟨S', C, V', f'⟩ y i := by
  unfold posIs
  simp only [getD_snoc, hi, if_true]
theorem getL_put_same (D : Dv) (x : Int) (xs : List Int) : getL (putD D x xs 0) x = pad 64 xs := by
  rw [putD_ok]
  unfold getL
  simp only [List.length_append, List.length_singleton]
  rw [seen_t (by unfold posIs; simp [getD_snoc])]
  simp [getD_snoc]
theorem getL_put_other (D : Dv) (x y : Int) (xs : List Int) (h : y ≠ x) : getL (putD D x xs 0) y = getL D y := by
  rw [putD_ok]
  unfold getL
  simp only [List.length_append, List.length_singleton]
  rw [seen_f (by unfold posIs; simp only [getD_snoc, Nat.lt_irrefl, if_false, if_true]; simp; exact fun e => h e.symm)]
  unfold seen
  have hp : lastI D.cache.length (posIs ⟨D.safe, D.cache ++ [⟨x, pad 64 xs⟩], D.vols, lessF D.fuel⟩ y) = lastI D.cache.length (posIs D y) := lastI_congr fun i hi => posIs_old hi
  rw [hp]
  have hb := lastI_lt D.cache.length (posIs D y)
  split
  · simp only [getD_snoc]
    rw [if_pos (by omega)]
  · rfl
theorem getL_bare {S : List (List Int)} {V : List Vo} {f : Int} (x : Nat) : getL ⟨S, [], V, f⟩ (x : Int) = S.getD x [] := by
  unfold getL; exact seen_0 _ x
theorem pad_first {m M : Nat} {xs : List Int} (h : xs.length = M) (hm : M ≤ m) : (pad m xs).take M = xs := by
  unfold pad
  subst h
  rw [List.take_of_length_le hm]
  simp
/-- What stays of a sector behind a crash, write by write. -/
theorem settled_at {keep : Nat → Bool} {S : List (List Int)} {C : List Wr} {k : Nat} {x : Nat} (hp : 0 ≤ (C.getD k ⟨0, []⟩).pos ∧ (C.getD k ⟨0, []⟩).pos < S.length) :
    (settled keep S C (k + 1)).getD x [] = if keep k = true ∧ (C.getD k ⟨0, []⟩).pos = (x : Int) then (C.getD k ⟨0, []⟩).data else (settled keep S C k).getD x [] := by
  cases hk : keep k
  · rw [settled_no hk]; simp
  · rw [settled_yes hk, getD_setL _ _ _ _ _ (by rw [settled_length]; omega)]
    by_cases e : (C.getD k ⟨0, []⟩).pos = (x : Int)
    · rw [if_pos (by omega), if_pos ⟨rfl, e⟩]
    · rw [if_neg (by omega), if_neg (fun h => e h.2)]
theorem settled_none {S : List (List Int)} {C : List Wr} (n : Nat) : settled (keepF []) S C n = S := by
  rw [settled_stop (m := 0) (fun k _ => by simp [keepF]) n (Nat.zero_le _)]
  rfl
theorem settled_congr {keep : Nat → Bool} {S : List (List Int)} {C C' : List Wr} (n : Nat) (h : ∀ i, i < n → C.getD i ⟨0, []⟩ = C'.getD i ⟨0, []⟩) : settled keep S C n = settled keep S C' n := by
  induction n with
  | zero => rfl
  | succ n ih => unfold settled; rw [h n (Nat.lt_succ_self _), ih fun i hi => h i (by omega)]
/-- What was put last is safe behind a flush. -/
theorem flu_put {D : Dv} {r a h vm nv : Int} (o : DOk r a h vm nv D) (x : Nat) (xs : List Int) (hx : x < D.safe.length) : (fluD (putD D (x : Int) xs 0) 0).safe.getD x [] = pad 64 xs := by
  rw [fluD_ok, putD_ok]
  simp only [List.length_append, List.length_singleton]
  rw [settled_at (by simp only [getD_snoc, Nat.lt_irrefl, if_false, if_true]; omega)]
  simp [getD_snoc]
theorem cra_none {D : Dv} (x : Nat) {t : Int} : getL (craD [] t D 0) (x : Int) = D.safe.getD x [] := by
  rw [craD_ok, getL_bare, settled_none]
theorem cra_some {D : Dv} (ks : List Bool) (x : Nat) {t : Int} : getL (craD ks t D 0) (x : Int) = (settled (keepF ks) D.safe D.cache D.cache.length).getD x [] := by
  rw [craD_ok, getL_bare]
end Go.Proofs.Ytkcakecmhoamaaa
