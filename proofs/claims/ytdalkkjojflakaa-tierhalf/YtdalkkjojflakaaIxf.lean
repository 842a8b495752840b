/- slices.IndexFunc, of whatever is asked of each. -/
import Derived.Test.YtdalkkjojflakaaAll
namespace Go.Proofs.Ytdalkkjojflakaa
open Go.RowKit
set_option maxRecDepth 100000
set_option linter.unusedVariables false
set_option linter.unusedSimpArgs false
/-- The first of n places where it holds; -1: there is none. -/
def firstI : Nat → (Nat → Bool) → Int
  | 0, _ => -1
  | n + 1, p => if p 0 then 0 else (let r := firstI n (fun i => p (i + 1)); if r < 0 then -1 else r + 1)
theorem firstI_f {n : Nat} {p : Nat → Bool} (h : ∀ j, j < n → p j = false) : firstI n p = -1 := by
  induction n generalizing p with
  | zero => rfl
  | succ n ih => simp [firstI, h 0 (by omega), ih (p := fun i => p (i + 1)) fun j hj => h (j + 1) (by omega)]
theorem firstI_t {n k : Nat} {p : Nat → Bool} (hk : k < n) (hp : p k = true) (h : ∀ j, j < k → p j = false) : firstI n p = k := by
  induction n generalizing p k with
  | zero => omega
  | succ n ih =>
    cases k with
    | zero => simp [firstI, hp]
    | succ k =>
      have e := ih (p := fun i => p (i + 1)) (k := k) (by omega) hp fun j hj => h (j + 1) (by omega)
      simp only [firstI, h 0 (by omega), e]
      have : ¬ (k : Int) < 0 := by omega
      simp [this]
theorem firstI_cases (n : Nat) (p : Nat → Bool) : (firstI n p = -1 ∧ ∀ j, j < n → p j = false) ∨ ∃ k, k < n ∧ firstI n p = (k : Int) ∧ p k = true ∧ ∀ j, j < k → p j = false := by
  by_cases h : ∀ j, j < n → p j = false
  · exact .inl ⟨firstI_f h, h⟩
  · right
    have ⟨k, hk⟩ : ∃ k, (k < n ∧ p k = true) ∧ ∀ j, j < k → ¬ (j < n ∧ p j = true) := by
      have ⟨k, hk⟩ : ∃ k, k < n ∧ p k = true := by
        refine Classical.byContradiction fun e => h fun j hj => ?_
        cases hp : p j
        · rfl
        · exact absurd ⟨j, hj, hp⟩ e
      induction k using Nat.strongRecOn with
      | _ k ih =>
        by_cases hm : ∃ m, m < k ∧ m < n ∧ p m = true
        · obtain ⟨m, h1, h2⟩ := hm; exact ih m h1 h2
        · exact ⟨k, hk, fun j hj e => hm ⟨j, hj, e⟩⟩
    have hf : ∀ j, j < k → p j = false := fun j hj => by
      cases hp : p j
      · rfl
      · exact absurd ⟨by omega, hp⟩ (hk.2 j hj)
    exact ⟨k, hk.1.1, firstI_t hk.1.1 hk.1.2 hf, hk.1.2, hf⟩
theorem RInt.up {w w' : World} (hb : Below w.heap.size w w') {b p : Nat} {x : Int} (h : RInt w b p x) : RInt w' b p x := ⟨scell_up hb h.1, h.2⟩
set_option maxHeartbeats 1000000 in
theorem index_findBucket_1 (C1 : Value) (a : Option Addr) (cap : Nat) (xs : List Bu) (p : Nat → Bool) (w : World) (hL : Lst RBu 5 bu0 w (.slice a xs.length cap) xs) (hn : xs.length ≤ 9223372036854775807)
    (hst : ∀ (k : Nat) (wr : World) (X : Bu), k < xs.length → xs.getD k bu0 = X → Below w.heap.size w wr → Calls Try.prog 137 #[buV X, C1] wr fun e w' => e = .returned (.bool (p k)) ∧ Below wr.heap.size wr w') :
    Calls Try.prog 136 #[.slice a xs.length cap, .func (.func 137) #[] #[C1]] w fun e w' => e = .returned (.int .i64 (firstI xs.length p)) ∧ Below w.heap.size w w' := by
  have HL := hide hL
  have HST := hide hst
  clear hL hst
  obtain ⟨N, hN⟩ : ∃ N, xs.length = N := ⟨_, rfl⟩
  have HN := hide hN
  rw [hN] at hn HL HST ⊢
  clear hN
  go_enter Try.func136, Try.ntmps136
  go_wp2
  go_loopw [5, 8] (fun _ i wr => ∃ k : Nat, k ≤ N ∧ i = .int .i64 k ∧ Below w.heap.size w wr ∧ ∀ j, j < k → p j = false) (fun _ i _ => N - (intOf i).toNat)
  case atStart => exact ⟨0, Nat.zero_le _, rfl, Below.refl _ _, fun j hj => absurd hj (Nat.not_lt_zero _)⟩
  case round =>
    obtain ⟨k, hk, rfl, hb, hall⟩ := hrel
    have HA := hide hall
    clear hall
    by_cases hlt : k < N
    · obtain ⟨b, o, rfl, r0⟩ := Lst.at (unhide HL) (i := k) (by rw [unhide HN]; exact hlt)
      obtain ⟨X, hX⟩ : ∃ X, xs.getD k bu0 = X := ⟨_, rfl⟩
      rw [hX] at r0
      have r := RBu.up hb r0
      have HX := hide hX
      clear hX r0
      have hI := hb
      have c0 := r.c0
      have c1 := r.c1
      have c2 := r.c2
      have c3 := r.c3
      have c4 := r.c4
      have HI := hide hI
      clear r hI
      go_wp2_with fail
      refine (unhide HST k _ X hlt (unhide HX) (unhide HI)).mono ?_
      rintro e w1 ⟨rfl, hb1⟩
      cases hpk : p k
      · go_wp2
        go_roundw
        case rel => exact ⟨k + 1, by omega, by go_num, bl_trans hb hb1, fun j hj => if e : j < k then unhide HA j e else (show j = k by omega) ▸ hpk⟩
        case measure => simp [intOf]; omega
      · go_wp2
        go_ret
        exact ⟨ret_int (firstI_t hlt hpk (unhide HA)).symm, bl_trans hb hb1⟩
    · obtain rfl : k = N := by omega
      go_wp2
      go_ret
      exact ⟨ret_int (firstI_f (unhide HA)).symm, hb⟩
set_option maxHeartbeats 1000000 in
theorem index_findVersion_1 (C1 : Value) (a : Option Addr) (cap : Nat) (xs : List Ve) (p : Nat → Bool) (w : World) (hL : Lst RVe 12 ve0 w (.slice a xs.length cap) xs) (hn : xs.length ≤ 9223372036854775807)
    (hst : ∀ (k : Nat) (wr : World) (X : Ve) (ua : Option Addr) (un uc : Nat), k < xs.length → xs.getD k ve0 = X → Below w.heap.size w wr → Ints wr (.slice ua un uc) X.sec → Calls Try.prog 129 #[veV X (.slice ua un uc), C1] wr fun e w' => e = .returned (.bool (p k)) ∧ Below wr.heap.size wr w') :
    Calls Try.prog 128 #[.slice a xs.length cap, .func (.func 129) #[] #[C1]] w fun e w' => e = .returned (.int .i64 (firstI xs.length p)) ∧ Below w.heap.size w w' := by
  have HL := hide hL
  have HST := hide hst
  clear hL hst
  obtain ⟨N, hN⟩ : ∃ N, xs.length = N := ⟨_, rfl⟩
  have HN := hide hN
  rw [hN] at hn HL HST ⊢
  clear hN
  go_enter Try.func128, Try.ntmps128
  go_wp2
  go_loopw [5, 8] (fun _ i wr => ∃ k : Nat, k ≤ N ∧ i = .int .i64 k ∧ Below w.heap.size w wr ∧ ∀ j, j < k → p j = false) (fun _ i _ => N - (intOf i).toNat)
  case atStart => exact ⟨0, Nat.zero_le _, rfl, Below.refl _ _, fun j hj => absurd hj (Nat.not_lt_zero _)⟩
  case round =>
    obtain ⟨k, hk, rfl, hb, hall⟩ := hrel
    have HA := hide hall
    clear hall
    by_cases hlt : k < N
    · obtain ⟨b, o, rfl, r0⟩ := Lst.at (unhide HL) (i := k) (by rw [unhide HN]; exact hlt)
      obtain ⟨X, hX⟩ : ∃ X, xs.getD k ve0 = X := ⟨_, rfl⟩
      rw [hX] at r0
      have r := RVe.up hb r0
      have HX := hide hX
      clear hX r0
      have hI := hb
      obtain ⟨U, hu, hi⟩ := r.c8
      obtain ⟨ua, uc, rfl, _⟩ := hi.form
      have HII := hide hi
      have c0 := r.c0
      have c1 := r.c1
      have c2 := r.c2
      have c3 := r.c3
      have c4 := r.c4
      have c5 := r.c5
      have c6 := r.c6
      have c7 := r.c7
      have c8 := r.c9
      have c9 := r.c10
      have c10 := r.c11
      have HI := hide hI
      clear r hI hi
      go_wp2_with fail
      refine (unhide HST k _ X _ _ _ hlt (unhide HX) (unhide HI) (unhide HII)).mono ?_
      rintro e w1 ⟨rfl, hb1⟩
      cases hpk : p k
      · go_wp2
        go_roundw
        case rel => exact ⟨k + 1, by omega, by go_num, bl_trans hb hb1, fun j hj => if e : j < k then unhide HA j e else (show j = k by omega) ▸ hpk⟩
        case measure => simp [intOf]; omega
      · go_wp2
        go_ret
        exact ⟨ret_int (firstI_t hlt hpk (unhide HA)).symm, bl_trans hb hb1⟩
    · obtain rfl : k = N := by omega
      go_wp2
      go_ret
      exact ⟨ret_int (firstI_f (unhide HA)).symm, hb⟩
set_option maxHeartbeats 1000000 in
theorem index_findGone_1 (C1 : Value) (a : Option Addr) (cap : Nat) (xs : List Int) (p : Nat → Bool) (w : World) (hL : Lst RInt 1 0 w (.slice a xs.length cap) xs) (hn : xs.length ≤ 9223372036854775807)
    (hst : ∀ (k : Nat) (wr : World) (X : Int), k < xs.length → xs.getD k 0 = X → Below w.heap.size w wr → (Lit.int .i64 X).wf = true → Calls Try.prog 138 #[.int .i64 X, C1] wr fun e w' => e = .returned (.bool (p k)) ∧ Below wr.heap.size wr w') :
    Calls Try.prog 114 #[.slice a xs.length cap, .func (.func 138) #[] #[C1]] w fun e w' => e = .returned (.int .i64 (firstI xs.length p)) ∧ Below w.heap.size w w' := by
  have HL := hide hL
  have HST := hide hst
  clear hL hst
  obtain ⟨N, hN⟩ : ∃ N, xs.length = N := ⟨_, rfl⟩
  have HN := hide hN
  rw [hN] at hn HL HST ⊢
  clear hN
  go_enter Try.func114, Try.ntmps114
  go_wp2
  go_loopw [5, 8] (fun _ i wr => ∃ k : Nat, k ≤ N ∧ i = .int .i64 k ∧ Below w.heap.size w wr ∧ ∀ j, j < k → p j = false) (fun _ i _ => N - (intOf i).toNat)
  case atStart => exact ⟨0, Nat.zero_le _, rfl, Below.refl _ _, fun j hj => absurd hj (Nat.not_lt_zero _)⟩
  case round =>
    obtain ⟨k, hk, rfl, hb, hall⟩ := hrel
    have HA := hide hall
    clear hall
    by_cases hlt : k < N
    · obtain ⟨b, o, rfl, r0⟩ := Lst.at (unhide HL) (i := k) (by rw [unhide HN]; exact hlt)
      obtain ⟨X, hX⟩ : ∃ X, xs.getD k 0 = X := ⟨_, rfl⟩
      rw [hX] at r0
      have r := RInt.up hb r0
      have HX := hide hX
      clear hX r0
      have hI := hb
      have c0 := r.1
      rw [Nat.mul_one] at c0
      have HW := hide r.2
      have HI := hide hI
      clear r hI
      go_wp2_with fail
      refine (unhide HST k _ X hlt (unhide HX) (unhide HI) (unhide HW)).mono ?_
      rintro e w1 ⟨rfl, hb1⟩
      cases hpk : p k
      · go_wp2
        go_roundw
        case rel => exact ⟨k + 1, by omega, by go_num, bl_trans hb hb1, fun j hj => if e : j < k then unhide HA j e else (show j = k by omega) ▸ hpk⟩
        case measure => simp [intOf]; omega
      · go_wp2
        go_ret
        exact ⟨ret_int (firstI_t hlt hpk (unhide HA)).symm, bl_trans hb hb1⟩
    · obtain rfl : k = N := by omega
      go_wp2
      go_ret
      exact ⟨ret_int (firstI_f (unhide HA)).symm, hb⟩
end Go.Proofs.Ytdalkkjojflakaa
