/- state.every, of whatever is asked of each. -/
import Derived.Test.YtdgmdapijhbocaaGreatG2
import Derived.PlainAid
namespace Go.Proofs.YtdgmdapijhbocaaGreat
open Go.RowKit
set_option maxRecDepth 100000
set_option linter.unusedVariables false
set_option linter.unusedSimpArgs false
theorem Pas.up {w w' : World} (hb : Below w.heap.size w w') {v : Value} {xs : List Pa} (h : Lst RPa 3 pa0 w v xs) : Lst RPa 3 pa0 w' v xs := h.imp fun _ _ _ r => RPa.up hb r
set_option maxHeartbeats 1000000 in
theorem every_goneMayBe_2 (a : Option Addr) (cap : Nat) (xs : List Int) (p : Nat → Bool) (I : Nat → World → Prop) (J : World → Prop) (w : World) (hn : xs.length ≤ 9223372036854775807)
    (hel : ∀ k wr, k < xs.length → I k wr → ∃ b o, a = some ⟨b, o, none⟩ ∧ RInt wr b (o + k * 1) (xs.getD k 0))
    (hup : ∀ k wr wr', I k wr → Below wr.heap.size wr wr' → I k wr') (h0 : I 0 w)
    (hst : ∀ (k : Nat) (wr : World) (X : Int), k < xs.length → xs.getD k 0 = X → I k wr → (Lit.int .i64 X).wf = true → Calls Tryz.prog 77 #[.int .i64 X] wr fun e w' => e = .returned (.bool (p k)) ∧ (p k = true → I (k + 1) w') ∧ (p k = false → J w')) :
    Calls Tryz.prog 76 #[.slice a xs.length cap, .func (.func 77) #[] #[]] w fun e w' => e = .returned (.bool (allB xs.length p)) ∧ (allB xs.length p = true → I xs.length w') ∧ (allB xs.length p = false → J w') := by
  have HEL := hide hel
  have HUP := hide hup
  have HST := hide hst
  have H0 := hide h0
  clear hel hup hst h0
  obtain ⟨N, hN⟩ : ∃ N, xs.length = N := ⟨_, rfl⟩
  rw [hN] at hn HEL HST ⊢
  clear hN
  go_enter Tryz.func76, Tryz.ntmps76
  go_wp2
  go_loopw [6, 9] (fun _ i wr => ∃ k : Nat, k ≤ N ∧ i = .int .i64 k ∧ I k wr ∧ ∀ j, j < k → p j = true) (fun _ i _ => N - (intOf i).toNat)
  case atStart => exact ⟨0, Nat.zero_le _, rfl, unhide H0, fun j hj => absurd hj (Nat.not_lt_zero _)⟩
  case round =>
    obtain ⟨k, hk, rfl, hI, hall⟩ := hrel
    have HA := hide hall
    clear hall
    by_cases hlt : k < N
    · obtain ⟨b, o, rfl, r⟩ := unhide HEL k _ hlt hI
      obtain ⟨X, hX⟩ : ∃ X, xs.getD k 0 = X := ⟨_, rfl⟩
      rw [hX] at r
      have HX := hide hX
      clear hX
      have c0 := r.1
      rw [Nat.mul_one] at c0
      have HW := hide r.2
      have HI := hide hI
      clear r hI
      go_wp2_with fail
      refine (unhide HST k _ X hlt (unhide HX) (unhide HI) (unhide HW)).mono ?_
      rintro e w1 ⟨rfl, hy, hn⟩
      have HY := hide hy
      have HN := hide hn
      clear hy hn
      cases hpk : p k
      · go_wp2
        go_ret
        have hf := allB_f hlt hpk
        exact ⟨ret_bool hf.symm, fun h => absurd (hf.symm.trans h) (by decide), fun _ => unhide HN hpk⟩
      · go_wp2
        go_roundw
        case rel => exact ⟨k + 1, by omega, by go_num, unhide HY hpk, fun j hj => if e : j < k then unhide HA j e else (show j = k by omega) ▸ hpk⟩
        case measure => simp [intOf]; omega
    · obtain rfl : k = N := by omega
      go_wp2
      go_ret
      have ht := allB_t fun j hj => unhide HA j (by omega)
      exact ⟨ret_bool ht.symm, fun _ => hI, fun h => absurd (h.symm.trans ht) (by decide)⟩
set_option maxHeartbeats 1000000 in
theorem every_takersOf_1 (C1 : Value) (a : Option Addr) (cap : Nat) (xs : List Int) (p : Nat → Bool) (I : Nat → World → Prop) (J : World → Prop) (w : World) (hn : xs.length ≤ 9223372036854775807)
    (hel : ∀ k wr, k < xs.length → I k wr → ∃ b o, a = some ⟨b, o, none⟩ ∧ RInt wr b (o + k * 1) (xs.getD k 0))
    (hup : ∀ k wr wr', I k wr → Below wr.heap.size wr wr' → I k wr') (h0 : I 0 w)
    (hst : ∀ (k : Nat) (wr : World) (X : Int), k < xs.length → xs.getD k 0 = X → I k wr → (Lit.int .i64 X).wf = true → Calls Tryz.prog 103 #[.int .i64 X, C1] wr fun e w' => e = .returned (.bool (p k)) ∧ (p k = true → I (k + 1) w') ∧ (p k = false → J w')) :
    Calls Tryz.prog 76 #[.slice a xs.length cap, .func (.func 103) #[] #[C1]] w fun e w' => e = .returned (.bool (allB xs.length p)) ∧ (allB xs.length p = true → I xs.length w') ∧ (allB xs.length p = false → J w') := by
  have HEL := hide hel
  have HUP := hide hup
  have HST := hide hst
  have H0 := hide h0
  clear hel hup hst h0
  obtain ⟨N, hN⟩ : ∃ N, xs.length = N := ⟨_, rfl⟩
  rw [hN] at hn HEL HST ⊢
  clear hN
  go_enter Tryz.func76, Tryz.ntmps76
  go_wp2
  go_loopw [6, 9] (fun _ i wr => ∃ k : Nat, k ≤ N ∧ i = .int .i64 k ∧ I k wr ∧ ∀ j, j < k → p j = true) (fun _ i _ => N - (intOf i).toNat)
  case atStart => exact ⟨0, Nat.zero_le _, rfl, unhide H0, fun j hj => absurd hj (Nat.not_lt_zero _)⟩
  case round =>
    obtain ⟨k, hk, rfl, hI, hall⟩ := hrel
    have HA := hide hall
    clear hall
    by_cases hlt : k < N
    · obtain ⟨b, o, rfl, r⟩ := unhide HEL k _ hlt hI
      obtain ⟨X, hX⟩ : ∃ X, xs.getD k 0 = X := ⟨_, rfl⟩
      rw [hX] at r
      have HX := hide hX
      clear hX
      have c0 := r.1
      rw [Nat.mul_one] at c0
      have HW := hide r.2
      have HI := hide hI
      clear r hI
      go_wp2_with fail
      refine (unhide HST k _ X hlt (unhide HX) (unhide HI) (unhide HW)).mono ?_
      rintro e w1 ⟨rfl, hy, hn⟩
      have HY := hide hy
      have HN := hide hn
      clear hy hn
      cases hpk : p k
      · go_wp2
        go_ret
        have hf := allB_f hlt hpk
        exact ⟨ret_bool hf.symm, fun h => absurd (hf.symm.trans h) (by decide), fun _ => unhide HN hpk⟩
      · go_wp2
        go_roundw
        case rel => exact ⟨k + 1, by omega, by go_num, unhide HY hpk, fun j hj => if e : j < k then unhide HA j e else (show j = k by omega) ▸ hpk⟩
        case measure => simp [intOf]; omega
    · obtain rfl : k = N := by omega
      go_wp2
      go_ret
      have ht := allB_t fun j hj => unhide HA j (by omega)
      exact ⟨ret_bool ht.symm, fun _ => hI, fun h => absurd (h.symm.trans ht) (by decide)⟩
set_option maxHeartbeats 1000000 in
theorem every_sectorsMayBe_1 (C1 : Value) (a : Option Addr) (cap : Nat) (xs : List Int) (p : Nat → Bool) (I : Nat → World → Prop) (J : World → Prop) (w : World) (hn : xs.length ≤ 9223372036854775807)
    (hel : ∀ k wr, k < xs.length → I k wr → ∃ b o, a = some ⟨b, o, none⟩ ∧ RInt wr b (o + k * 1) (xs.getD k 0))
    (hup : ∀ k wr wr', I k wr → Below wr.heap.size wr wr' → I k wr') (h0 : I 0 w)
    (hst : ∀ (k : Nat) (wr : World) (X : Int), k < xs.length → xs.getD k 0 = X → I k wr → (Lit.int .i64 X).wf = true → Calls Tryz.prog 102 #[.int .i64 X, C1] wr fun e w' => e = .returned (.bool (p k)) ∧ (p k = true → I (k + 1) w') ∧ (p k = false → J w')) :
    Calls Tryz.prog 76 #[.slice a xs.length cap, .func (.func 102) #[] #[C1]] w fun e w' => e = .returned (.bool (allB xs.length p)) ∧ (allB xs.length p = true → I xs.length w') ∧ (allB xs.length p = false → J w') := by
  have HEL := hide hel
  have HUP := hide hup
  have HST := hide hst
  have H0 := hide h0
  clear hel hup hst h0
  obtain ⟨N, hN⟩ : ∃ N, xs.length = N := ⟨_, rfl⟩
  rw [hN] at hn HEL HST ⊢
  clear hN
  go_enter Tryz.func76, Tryz.ntmps76
  go_wp2
  go_loopw [6, 9] (fun _ i wr => ∃ k : Nat, k ≤ N ∧ i = .int .i64 k ∧ I k wr ∧ ∀ j, j < k → p j = true) (fun _ i _ => N - (intOf i).toNat)
  case atStart => exact ⟨0, Nat.zero_le _, rfl, unhide H0, fun j hj => absurd hj (Nat.not_lt_zero _)⟩
  case round =>
    obtain ⟨k, hk, rfl, hI, hall⟩ := hrel
    have HA := hide hall
    clear hall
    by_cases hlt : k < N
    · obtain ⟨b, o, rfl, r⟩ := unhide HEL k _ hlt hI
      obtain ⟨X, hX⟩ : ∃ X, xs.getD k 0 = X := ⟨_, rfl⟩
      rw [hX] at r
      have HX := hide hX
      clear hX
      have c0 := r.1
      rw [Nat.mul_one] at c0
      have HW := hide r.2
      have HI := hide hI
      clear r hI
      go_wp2_with fail
      refine (unhide HST k _ X hlt (unhide HX) (unhide HI) (unhide HW)).mono ?_
      rintro e w1 ⟨rfl, hy, hn⟩
      have HY := hide hy
      have HN := hide hn
      clear hy hn
      cases hpk : p k
      · go_wp2
        go_ret
        have hf := allB_f hlt hpk
        exact ⟨ret_bool hf.symm, fun h => absurd (hf.symm.trans h) (by decide), fun _ => unhide HN hpk⟩
      · go_wp2
        go_roundw
        case rel => exact ⟨k + 1, by omega, by go_num, unhide HY hpk, fun j hj => if e : j < k then unhide HA j e else (show j = k by omega) ▸ hpk⟩
        case measure => simp [intOf]; omega
    · obtain rfl : k = N := by omega
      go_wp2
      go_ret
      have ht := allB_t fun j hj => unhide HA j (by omega)
      exact ⟨ret_bool ht.symm, fun _ => hI, fun h => absurd (h.symm.trans ht) (by decide)⟩
set_option maxHeartbeats 1000000 in
theorem every_bucketsMayBe_2 (a : Option Addr) (cap : Nat) (xs : List Bu) (p : Nat → Bool) (I : Nat → World → Prop) (J : World → Prop) (w : World) (hn : xs.length ≤ 9223372036854775807)
    (hel : ∀ k wr, k < xs.length → I k wr → ∃ b o, a = some ⟨b, o, none⟩ ∧ RBu wr b (o + k * 5) (xs.getD k bu0))
    (hup : ∀ k wr wr', I k wr → Below wr.heap.size wr wr' → I k wr') (h0 : I 0 w)
    (hst : ∀ (k : Nat) (wr : World) (X : Bu), k < xs.length → xs.getD k bu0 = X → I k wr → Calls Tryz.prog 81 #[buV X] wr fun e w' => e = .returned (.bool (p k)) ∧ (p k = true → I (k + 1) w') ∧ (p k = false → J w')) :
    Calls Tryz.prog 80 #[.slice a xs.length cap, .func (.func 81) #[] #[]] w fun e w' => e = .returned (.bool (allB xs.length p)) ∧ (allB xs.length p = true → I xs.length w') ∧ (allB xs.length p = false → J w') := by
  have HEL := hide hel
  have HUP := hide hup
  have HST := hide hst
  have H0 := hide h0
  clear hel hup hst h0
  obtain ⟨N, hN⟩ : ∃ N, xs.length = N := ⟨_, rfl⟩
  rw [hN] at hn HEL HST ⊢
  clear hN
  go_enter Tryz.func80, Tryz.ntmps80
  go_wp2
  go_loopw [6, 9] (fun _ i wr => ∃ k : Nat, k ≤ N ∧ i = .int .i64 k ∧ I k wr ∧ ∀ j, j < k → p j = true) (fun _ i _ => N - (intOf i).toNat)
  case atStart => exact ⟨0, Nat.zero_le _, rfl, unhide H0, fun j hj => absurd hj (Nat.not_lt_zero _)⟩
  case round =>
    obtain ⟨k, hk, rfl, hI, hall⟩ := hrel
    have HA := hide hall
    clear hall
    by_cases hlt : k < N
    · obtain ⟨b, o, rfl, r⟩ := unhide HEL k _ hlt hI
      obtain ⟨X, hX⟩ : ∃ X, xs.getD k bu0 = X := ⟨_, rfl⟩
      rw [hX] at r
      have HX := hide hX
      clear hX
      have c0 := r.c0
      have c1 := r.c1
      have c2 := r.c2
      have c3 := r.c3
      have c4 := r.c4
      have HI := hide hI
      clear r hI
      go_wp2_with fail
      refine (unhide HST k _ X hlt (unhide HX) (unhide HUP _ _ _ (unhide HI) (bl1 _ _))).mono ?_
      rintro e w1 ⟨rfl, hy, hn⟩
      have HY := hide hy
      have HN := hide hn
      clear hy hn
      cases hpk : p k
      · go_wp2
        go_ret
        have hf := allB_f hlt hpk
        exact ⟨ret_bool hf.symm, fun h => absurd (hf.symm.trans h) (by decide), fun _ => unhide HN hpk⟩
      · go_wp2
        go_roundw
        case rel => exact ⟨k + 1, by omega, by go_num, unhide HY hpk, fun j hj => if e : j < k then unhide HA j e else (show j = k by omega) ▸ hpk⟩
        case measure => simp [intOf]; omega
    · obtain rfl : k = N := by omega
      go_wp2
      go_ret
      have ht := allB_t fun j hj => unhide HA j (by omega)
      exact ⟨ret_bool ht.symm, fun _ => hI, fun h => absurd (h.symm.trans ht) (by decide)⟩
set_option maxHeartbeats 1000000 in
theorem every_versionsMayBe_2 (C1 : Value) (a : Option Addr) (cap : Nat) (xs : List Ve) (p : Nat → Bool) (I : Nat → World → Prop) (J : World → Prop) (w : World) (hn : xs.length ≤ 9223372036854775807)
    (hel : ∀ k wr, k < xs.length → I k wr → ∃ b o, a = some ⟨b, o, none⟩ ∧ RVe wr b (o + k * 12) (xs.getD k ve0))
    (hup : ∀ k wr wr', I k wr → Below wr.heap.size wr wr' → I k wr') (h0 : I 0 w)
    (hst : ∀ (k : Nat) (wr : World) (X : Ve) (ua : Option Addr) (un uc : Nat), k < xs.length → xs.getD k ve0 = X → I k wr → Ints wr (.slice ua un uc) X.sec → Calls Tryz.prog 88 #[veV X (.slice ua un uc), C1] wr fun e w' => e = .returned (.bool (p k)) ∧ (p k = true → I (k + 1) w') ∧ (p k = false → J w')) :
    Calls Tryz.prog 87 #[.slice a xs.length cap, .func (.func 88) #[] #[C1]] w fun e w' => e = .returned (.bool (allB xs.length p)) ∧ (allB xs.length p = true → I xs.length w') ∧ (allB xs.length p = false → J w') := by
  have HEL := hide hel
  have HUP := hide hup
  have HST := hide hst
  have H0 := hide h0
  clear hel hup hst h0
  obtain ⟨N, hN⟩ : ∃ N, xs.length = N := ⟨_, rfl⟩
  rw [hN] at hn HEL HST ⊢
  clear hN
  go_enter Tryz.func87, Tryz.ntmps87
  go_wp2
  go_loopw [6, 9] (fun _ i wr => ∃ k : Nat, k ≤ N ∧ i = .int .i64 k ∧ I k wr ∧ ∀ j, j < k → p j = true) (fun _ i _ => N - (intOf i).toNat)
  case atStart => exact ⟨0, Nat.zero_le _, rfl, unhide H0, fun j hj => absurd hj (Nat.not_lt_zero _)⟩
  case round =>
    obtain ⟨k, hk, rfl, hI, hall⟩ := hrel
    have HA := hide hall
    clear hall
    by_cases hlt : k < N
    · obtain ⟨b, o, rfl, r⟩ := unhide HEL k _ hlt hI
      obtain ⟨X, hX⟩ : ∃ X, xs.getD k ve0 = X := ⟨_, rfl⟩
      rw [hX] at r
      have HX := hide hX
      clear hX
      obtain ⟨U, hu, hi⟩ := r.c8
      obtain ⟨ua, uc, rfl, _⟩ := hi.form
      have HII := hide hi
      have c0 := r.c0
      have c1 := r.c1
      have c2 := r.c2
      have c3 := r.c3
      have c4 := r.c4
      have c5 := r.c5
      have c6 := r.c6
      have c7 := r.c7
      have c8 := r.c9
      have c9 := r.c10
      have c10 := r.c11
      have HI := hide hI
      clear r hI hi
      go_wp2_with fail
      refine (unhide HST k _ X _ _ _ hlt (unhide HX) (unhide HUP _ _ _ (unhide HI) (bl1 _ _)) (Ints.up (bl1 _ _) (unhide HII))).mono ?_
      rintro e w1 ⟨rfl, hy, hn⟩
      have HY := hide hy
      have HN := hide hn
      clear hy hn
      cases hpk : p k
      · go_wp2
        go_ret
        have hf := allB_f hlt hpk
        exact ⟨ret_bool hf.symm, fun h => absurd (hf.symm.trans h) (by decide), fun _ => unhide HN hpk⟩
      · go_wp2
        go_roundw
        case rel => exact ⟨k + 1, by omega, by go_num, unhide HY hpk, fun j hj => if e : j < k then unhide HA j e else (show j = k by omega) ▸ hpk⟩
        case measure => simp [intOf]; omega
    · obtain rfl : k = N := by omega
      go_wp2
      go_ret
      have ht := allB_t fun j hj => unhide HA j (by omega)
      exact ⟨ret_bool ht.symm, fun _ => hI, fun h => absurd (h.symm.trans ht) (by decide)⟩
set_option maxHeartbeats 1000000 in
theorem every_nullsMayBe_1 (C1 : Value) (a : Option Addr) (cap : Nat) (xs : List Ve) (p : Nat → Bool) (I : Nat → World → Prop) (J : World → Prop) (w : World) (hn : xs.length ≤ 9223372036854775807)
    (hel : ∀ k wr, k < xs.length → I k wr → ∃ b o, a = some ⟨b, o, none⟩ ∧ RVe wr b (o + k * 12) (xs.getD k ve0))
    (hup : ∀ k wr wr', I k wr → Below wr.heap.size wr wr' → I k wr') (h0 : I 0 w)
    (hst : ∀ (k : Nat) (wr : World) (X : Ve) (ua : Option Addr) (un uc : Nat), k < xs.length → xs.getD k ve0 = X → I k wr → Ints wr (.slice ua un uc) X.sec → Calls Tryz.prog 141 #[veV X (.slice ua un uc), C1] wr fun e w' => e = .returned (.bool (p k)) ∧ (p k = true → I (k + 1) w') ∧ (p k = false → J w')) :
    Calls Tryz.prog 87 #[.slice a xs.length cap, .func (.func 141) #[] #[C1]] w fun e w' => e = .returned (.bool (allB xs.length p)) ∧ (allB xs.length p = true → I xs.length w') ∧ (allB xs.length p = false → J w') := by
  have HEL := hide hel
  have HUP := hide hup
  have HST := hide hst
  have H0 := hide h0
  clear hel hup hst h0
  obtain ⟨N, hN⟩ : ∃ N, xs.length = N := ⟨_, rfl⟩
  rw [hN] at hn HEL HST ⊢
  clear hN
  go_enter Tryz.func87, Tryz.ntmps87
  go_wp2
  go_loopw [6, 9] (fun _ i wr => ∃ k : Nat, k ≤ N ∧ i = .int .i64 k ∧ I k wr ∧ ∀ j, j < k → p j = true) (fun _ i _ => N - (intOf i).toNat)
  case atStart => exact ⟨0, Nat.zero_le _, rfl, unhide H0, fun j hj => absurd hj (Nat.not_lt_zero _)⟩
  case round =>
    obtain ⟨k, hk, rfl, hI, hall⟩ := hrel
    have HA := hide hall
    clear hall
    by_cases hlt : k < N
    · obtain ⟨b, o, rfl, r⟩ := unhide HEL k _ hlt hI
      obtain ⟨X, hX⟩ : ∃ X, xs.getD k ve0 = X := ⟨_, rfl⟩
      rw [hX] at r
      have HX := hide hX
      clear hX
      obtain ⟨U, hu, hi⟩ := r.c8
      obtain ⟨ua, uc, rfl, _⟩ := hi.form
      have HII := hide hi
      have c0 := r.c0
      have c1 := r.c1
      have c2 := r.c2
      have c3 := r.c3
      have c4 := r.c4
      have c5 := r.c5
      have c6 := r.c6
      have c7 := r.c7
      have c8 := r.c9
      have c9 := r.c10
      have c10 := r.c11
      have HI := hide hI
      clear r hI hi
      go_wp2_with fail
      refine (unhide HST k _ X _ _ _ hlt (unhide HX) (unhide HUP _ _ _ (unhide HI) (bl1 _ _)) (Ints.up (bl1 _ _) (unhide HII))).mono ?_
      rintro e w1 ⟨rfl, hy, hn⟩
      have HY := hide hy
      have HN := hide hn
      clear hy hn
      cases hpk : p k
      · go_wp2
        go_ret
        have hf := allB_f hlt hpk
        exact ⟨ret_bool hf.symm, fun h => absurd (hf.symm.trans h) (by decide), fun _ => unhide HN hpk⟩
      · go_wp2
        go_roundw
        case rel => exact ⟨k + 1, by omega, by go_num, unhide HY hpk, fun j hj => if e : j < k then unhide HA j e else (show j = k by omega) ▸ hpk⟩
        case measure => simp [intOf]; omega
    · obtain rfl : k = N := by omega
      go_wp2
      go_ret
      have ht := allB_t fun j hj => unhide HA j (by omega)
      exact ⟨ret_bool ht.symm, fun _ => hI, fun h => absurd (h.symm.trans ht) (by decide)⟩
set_option maxHeartbeats 1000000 in
theorem every_everySector_1 (C1 : Value) (a : Option Addr) (cap : Nat) (xs : List Ve) (p : Nat → Bool) (I : Nat → World → Prop) (J : World → Prop) (w : World) (hn : xs.length ≤ 9223372036854775807)
    (hel : ∀ k wr, k < xs.length → I k wr → ∃ b o, a = some ⟨b, o, none⟩ ∧ RVe wr b (o + k * 12) (xs.getD k ve0))
    (hup : ∀ k wr wr', I k wr → Below wr.heap.size wr wr' → I k wr') (h0 : I 0 w)
    (hst : ∀ (k : Nat) (wr : World) (X : Ve) (ua : Option Addr) (un uc : Nat), k < xs.length → xs.getD k ve0 = X → I k wr → Ints wr (.slice ua un uc) X.sec → Calls Tryz.prog 149 #[veV X (.slice ua un uc), C1] wr fun e w' => e = .returned (.bool (p k)) ∧ (p k = true → I (k + 1) w') ∧ (p k = false → J w')) :
    Calls Tryz.prog 87 #[.slice a xs.length cap, .func (.func 149) #[] #[C1]] w fun e w' => e = .returned (.bool (allB xs.length p)) ∧ (allB xs.length p = true → I xs.length w') ∧ (allB xs.length p = false → J w') := by
  have HEL := hide hel
  have HUP := hide hup
  have HST := hide hst
  have H0 := hide h0
  clear hel hup hst h0
  obtain ⟨N, hN⟩ : ∃ N, xs.length = N := ⟨_, rfl⟩
  rw [hN] at hn HEL HST ⊢
  clear hN
  go_enter Tryz.func87, Tryz.ntmps87
  go_wp2
  go_loopw [6, 9] (fun _ i wr => ∃ k : Nat, k ≤ N ∧ i = .int .i64 k ∧ I k wr ∧ ∀ j, j < k → p j = true) (fun _ i _ => N - (intOf i).toNat)
  case atStart => exact ⟨0, Nat.zero_le _, rfl, unhide H0, fun j hj => absurd hj (Nat.not_lt_zero _)⟩
  case round =>
    obtain ⟨k, hk, rfl, hI, hall⟩ := hrel
    have HA := hide hall
    clear hall
    by_cases hlt : k < N
    · obtain ⟨b, o, rfl, r⟩ := unhide HEL k _ hlt hI
      obtain ⟨X, hX⟩ : ∃ X, xs.getD k ve0 = X := ⟨_, rfl⟩
      rw [hX] at r
      have HX := hide hX
      clear hX
      obtain ⟨U, hu, hi⟩ := r.c8
      obtain ⟨ua, uc, rfl, _⟩ := hi.form
      have HII := hide hi
      have c0 := r.c0
      have c1 := r.c1
      have c2 := r.c2
      have c3 := r.c3
      have c4 := r.c4
      have c5 := r.c5
      have c6 := r.c6
      have c7 := r.c7
      have c8 := r.c9
      have c9 := r.c10
      have c10 := r.c11
      have HI := hide hI
      clear r hI hi
      go_wp2_with fail
      refine (unhide HST k _ X _ _ _ hlt (unhide HX) (unhide HUP _ _ _ (unhide HI) (bl1 _ _)) (Ints.up (bl1 _ _) (unhide HII))).mono ?_
      rintro e w1 ⟨rfl, hy, hn⟩
      have HY := hide hy
      have HN := hide hn
      clear hy hn
      cases hpk : p k
      · go_wp2
        go_ret
        have hf := allB_f hlt hpk
        exact ⟨ret_bool hf.symm, fun h => absurd (hf.symm.trans h) (by decide), fun _ => unhide HN hpk⟩
      · go_wp2
        go_roundw
        case rel => exact ⟨k + 1, by omega, by go_num, unhide HY hpk, fun j hj => if e : j < k then unhide HA j e else (show j = k by omega) ▸ hpk⟩
        case measure => simp [intOf]; omega
    · obtain rfl : k = N := by omega
      go_wp2
      go_ret
      have ht := allB_t fun j hj => unhide HA j (by omega)
      exact ⟨ret_bool ht.symm, fun _ => hI, fun h => absurd (h.symm.trans ht) (by decide)⟩
set_option maxHeartbeats 1000000 in
theorem every_uploadsMayBe_2 (C1 : Value) (a : Option Addr) (cap : Nat) (xs : List Up) (p : Nat → Bool) (I : Nat → World → Prop) (J : World → Prop) (w : World) (hn : xs.length ≤ 9223372036854775807)
    (hel : ∀ k wr, k < xs.length → I k wr → ∃ b o, a = some ⟨b, o, none⟩ ∧ RUp wr b (o + k * 4) (xs.getD k up0))
    (hup : ∀ k wr wr', I k wr → Below wr.heap.size wr wr' → I k wr') (h0 : I 0 w)
    (hst : ∀ (k : Nat) (wr : World) (X : Up) (ua : Option Addr) (un uc : Nat), k < xs.length → xs.getD k up0 = X → I k wr → Lst RPa 3 pa0 wr (.slice ua un uc) X.parts → Calls Tryz.prog 94 #[upV X (.slice ua un uc), C1] wr fun e w' => e = .returned (.bool (p k)) ∧ (p k = true → I (k + 1) w') ∧ (p k = false → J w')) :
    Calls Tryz.prog 93 #[.slice a xs.length cap, .func (.func 94) #[] #[C1]] w fun e w' => e = .returned (.bool (allB xs.length p)) ∧ (allB xs.length p = true → I xs.length w') ∧ (allB xs.length p = false → J w') := by
  have HEL := hide hel
  have HUP := hide hup
  have HST := hide hst
  have H0 := hide h0
  clear hel hup hst h0
  obtain ⟨N, hN⟩ : ∃ N, xs.length = N := ⟨_, rfl⟩
  rw [hN] at hn HEL HST ⊢
  clear hN
  go_enter Tryz.func93, Tryz.ntmps93
  go_wp2
  go_loopw [6, 9] (fun _ i wr => ∃ k : Nat, k ≤ N ∧ i = .int .i64 k ∧ I k wr ∧ ∀ j, j < k → p j = true) (fun _ i _ => N - (intOf i).toNat)
  case atStart => exact ⟨0, Nat.zero_le _, rfl, unhide H0, fun j hj => absurd hj (Nat.not_lt_zero _)⟩
  case round =>
    obtain ⟨k, hk, rfl, hI, hall⟩ := hrel
    have HA := hide hall
    clear hall
    by_cases hlt : k < N
    · obtain ⟨b, o, rfl, r⟩ := unhide HEL k _ hlt hI
      obtain ⟨X, hX⟩ : ∃ X, xs.getD k up0 = X := ⟨_, rfl⟩
      rw [hX] at r
      have HX := hide hX
      clear hX
      obtain ⟨U, hu, hi⟩ := r.c3
      obtain ⟨ua, uc, rfl, _⟩ := hi.form
      have HII := hide hi
      have c0 := r.c0
      have c1 := r.c1
      have c2 := r.c2
      have HI := hide hI
      clear r hI hi
      go_wp2_with fail
      refine (unhide HST k _ X _ _ _ hlt (unhide HX) (unhide HUP _ _ _ (unhide HI) (bl1 _ _)) (Pas.up (bl1 _ _) (unhide HII))).mono ?_
      rintro e w1 ⟨rfl, hy, hn⟩
      have HY := hide hy
      have HN := hide hn
      clear hy hn
      cases hpk : p k
      · go_wp2
        go_ret
        have hf := allB_f hlt hpk
        exact ⟨ret_bool hf.symm, fun h => absurd (hf.symm.trans h) (by decide), fun _ => unhide HN hpk⟩
      · go_wp2
        go_roundw
        case rel => exact ⟨k + 1, by omega, by go_num, unhide HY hpk, fun j hj => if e : j < k then unhide HA j e else (show j = k by omega) ▸ hpk⟩
        case measure => simp [intOf]; omega
    · obtain rfl : k = N := by omega
      go_wp2
      go_ret
      have ht := allB_t fun j hj => unhide HA j (by omega)
      exact ⟨ret_bool ht.symm, fun _ => hI, fun h => absurd (h.symm.trans ht) (by decide)⟩
set_option maxHeartbeats 1000000 in
theorem every_everySector_2 (C1 : Value) (a : Option Addr) (cap : Nat) (xs : List Up) (p : Nat → Bool) (I : Nat → World → Prop) (J : World → Prop) (w : World) (hn : xs.length ≤ 9223372036854775807)
    (hel : ∀ k wr, k < xs.length → I k wr → ∃ b o, a = some ⟨b, o, none⟩ ∧ RUp wr b (o + k * 4) (xs.getD k up0))
    (hup : ∀ k wr wr', I k wr → Below wr.heap.size wr wr' → I k wr') (h0 : I 0 w)
    (hst : ∀ (k : Nat) (wr : World) (X : Up) (ua : Option Addr) (un uc : Nat), k < xs.length → xs.getD k up0 = X → I k wr → Lst RPa 3 pa0 wr (.slice ua un uc) X.parts → Calls Tryz.prog 150 #[upV X (.slice ua un uc), C1] wr fun e w' => e = .returned (.bool (p k)) ∧ (p k = true → I (k + 1) w') ∧ (p k = false → J w')) :
    Calls Tryz.prog 93 #[.slice a xs.length cap, .func (.func 150) #[] #[C1]] w fun e w' => e = .returned (.bool (allB xs.length p)) ∧ (allB xs.length p = true → I xs.length w') ∧ (allB xs.length p = false → J w') := by
  have HEL := hide hel
  have HUP := hide hup
  have HST := hide hst
  have H0 := hide h0
  clear hel hup hst h0
  obtain ⟨N, hN⟩ : ∃ N, xs.length = N := ⟨_, rfl⟩
  rw [hN] at hn HEL HST ⊢
  clear hN
  go_enter Tryz.func93, Tryz.ntmps93
  go_wp2
  go_loopw [6, 9] (fun _ i wr => ∃ k : Nat, k ≤ N ∧ i = .int .i64 k ∧ I k wr ∧ ∀ j, j < k → p j = true) (fun _ i _ => N - (intOf i).toNat)
  case atStart => exact ⟨0, Nat.zero_le _, rfl, unhide H0, fun j hj => absurd hj (Nat.not_lt_zero _)⟩
  case round =>
    obtain ⟨k, hk, rfl, hI, hall⟩ := hrel
    have HA := hide hall
    clear hall
    by_cases hlt : k < N
    · obtain ⟨b, o, rfl, r⟩ := unhide HEL k _ hlt hI
      obtain ⟨X, hX⟩ : ∃ X, xs.getD k up0 = X := ⟨_, rfl⟩
      rw [hX] at r
      have HX := hide hX
      clear hX
      obtain ⟨U, hu, hi⟩ := r.c3
      obtain ⟨ua, uc, rfl, _⟩ := hi.form
      have HII := hide hi
      have c0 := r.c0
      have c1 := r.c1
      have c2 := r.c2
      have HI := hide hI
      clear r hI hi
      go_wp2_with fail
      refine (unhide HST k _ X _ _ _ hlt (unhide HX) (unhide HUP _ _ _ (unhide HI) (bl1 _ _)) (Pas.up (bl1 _ _) (unhide HII))).mono ?_
      rintro e w1 ⟨rfl, hy, hn⟩
      have HY := hide hy
      have HN := hide hn
      clear hy hn
      cases hpk : p k
      · go_wp2
        go_ret
        have hf := allB_f hlt hpk
        exact ⟨ret_bool hf.symm, fun h => absurd (hf.symm.trans h) (by decide), fun _ => unhide HN hpk⟩
      · go_wp2
        go_roundw
        case rel => exact ⟨k + 1, by omega, by go_num, unhide HY hpk, fun j hj => if e : j < k then unhide HA j e else (show j = k by omega) ▸ hpk⟩
        case measure => simp [intOf]; omega
    · obtain rfl : k = N := by omega
      go_wp2
      go_ret
      have ht := allB_t fun j hj => unhide HA j (by omega)
      exact ⟨ret_bool ht.symm, fun _ => hI, fun h => absurd (h.symm.trans ht) (by decide)⟩
set_option maxHeartbeats 1000000 in
theorem every_queueMayBe_1 (C1 C2 : Value) (a : Option Addr) (cap : Nat) (xs : List Ak) (p : Nat → Bool) (I : Nat → World → Prop) (J : World → Prop) (w : World) (hn : xs.length ≤ 9223372036854775807)
    (hel : ∀ k wr, k < xs.length → I k wr → ∃ b o, a = some ⟨b, o, none⟩ ∧ RAk wr b (o + k * 3) (xs.getD k ak0))
    (hup : ∀ k wr wr', I k wr → Below wr.heap.size wr wr' → I k wr') (h0 : I 0 w)
    (hst : ∀ (k : Nat) (wr : World) (X : Ak), k < xs.length → xs.getD k ak0 = X → I k wr → Calls Tryz.prog 98 #[akV X, C1, C2] wr fun e w' => e = .returned (.bool (p k)) ∧ (p k = true → I (k + 1) w') ∧ (p k = false → J w')) :
    Calls Tryz.prog 97 #[.slice a xs.length cap, .func (.func 98) #[] #[C1, C2]] w fun e w' => e = .returned (.bool (allB xs.length p)) ∧ (allB xs.length p = true → I xs.length w') ∧ (allB xs.length p = false → J w') := by
  have HEL := hide hel
  have HUP := hide hup
  have HST := hide hst
  have H0 := hide h0
  clear hel hup hst h0
  obtain ⟨N, hN⟩ : ∃ N, xs.length = N := ⟨_, rfl⟩
  rw [hN] at hn HEL HST ⊢
  clear hN
  go_enter Tryz.func97, Tryz.ntmps97
  go_wp2
  go_loopw [6, 9] (fun _ i wr => ∃ k : Nat, k ≤ N ∧ i = .int .i64 k ∧ I k wr ∧ ∀ j, j < k → p j = true) (fun _ i _ => N - (intOf i).toNat)
  case atStart => exact ⟨0, Nat.zero_le _, rfl, unhide H0, fun j hj => absurd hj (Nat.not_lt_zero _)⟩
  case round =>
    obtain ⟨k, hk, rfl, hI, hall⟩ := hrel
    have HA := hide hall
    clear hall
    by_cases hlt : k < N
    · obtain ⟨b, o, rfl, r⟩ := unhide HEL k _ hlt hI
      obtain ⟨X, hX⟩ : ∃ X, xs.getD k ak0 = X := ⟨_, rfl⟩
      rw [hX] at r
      have HX := hide hX
      clear hX
      have c0 := r.c0
      have c1 := r.c1
      have c2 := r.c2
      have HI := hide hI
      clear r hI
      go_wp2_with fail
      refine (unhide HST k _ X hlt (unhide HX) (unhide HUP _ _ _ (unhide HI) (bl1 _ _))).mono ?_
      rintro e w1 ⟨rfl, hy, hn⟩
      have HY := hide hy
      have HN := hide hn
      clear hy hn
      cases hpk : p k
      · go_wp2
        go_ret
        have hf := allB_f hlt hpk
        exact ⟨ret_bool hf.symm, fun h => absurd (hf.symm.trans h) (by decide), fun _ => unhide HN hpk⟩
      · go_wp2
        go_roundw
        case rel => exact ⟨k + 1, by omega, by go_num, unhide HY hpk, fun j hj => if e : j < k then unhide HA j e else (show j = k by omega) ▸ hpk⟩
        case measure => simp [intOf]; omega
    · obtain rfl : k = N := by omega
      go_wp2
      go_ret
      have ht := allB_t fun j hj => unhide HA j (by omega)
      exact ⟨ret_bool ht.symm, fun _ => hI, fun h => absurd (h.symm.trans ht) (by decide)⟩
set_option maxHeartbeats 1000000 in
theorem every_partsMayBe_2 (a : Option Addr) (cap : Nat) (xs : List Pa) (p : Nat → Bool) (I : Nat → World → Prop) (J : World → Prop) (w : World) (hn : xs.length ≤ 9223372036854775807)
    (hel : ∀ k wr, k < xs.length → I k wr → ∃ b o, a = some ⟨b, o, none⟩ ∧ RPa wr b (o + k * 3) (xs.getD k pa0))
    (hup : ∀ k wr wr', I k wr → Below wr.heap.size wr wr' → I k wr') (h0 : I 0 w)
    (hst : ∀ (k : Nat) (wr : World) (X : Pa) (ua : Option Addr) (un uc : Nat), k < xs.length → xs.getD k pa0 = X → I k wr → Ints wr (.slice ua un uc) X.sec → Calls Tryz.prog 146 #[paV X (.slice ua un uc)] wr fun e w' => e = .returned (.bool (p k)) ∧ (p k = true → I (k + 1) w') ∧ (p k = false → J w')) :
    Calls Tryz.prog 145 #[.slice a xs.length cap, .func (.func 146) #[] #[]] w fun e w' => e = .returned (.bool (allB xs.length p)) ∧ (allB xs.length p = true → I xs.length w') ∧ (allB xs.length p = false → J w') := by
  have HEL := hide hel
  have HUP := hide hup
  have HST := hide hst
  have H0 := hide h0
  clear hel hup hst h0
  obtain ⟨N, hN⟩ : ∃ N, xs.length = N := ⟨_, rfl⟩
  rw [hN] at hn HEL HST ⊢
  clear hN
  go_enter Tryz.func145, Tryz.ntmps145
  go_wp2
  go_loopw [6, 9] (fun _ i wr => ∃ k : Nat, k ≤ N ∧ i = .int .i64 k ∧ I k wr ∧ ∀ j, j < k → p j = true) (fun _ i _ => N - (intOf i).toNat)
  case atStart => exact ⟨0, Nat.zero_le _, rfl, unhide H0, fun j hj => absurd hj (Nat.not_lt_zero _)⟩
  case round =>
    obtain ⟨k, hk, rfl, hI, hall⟩ := hrel
    have HA := hide hall
    clear hall
    by_cases hlt : k < N
    · obtain ⟨b, o, rfl, r⟩ := unhide HEL k _ hlt hI
      obtain ⟨X, hX⟩ : ∃ X, xs.getD k pa0 = X := ⟨_, rfl⟩
      rw [hX] at r
      have HX := hide hX
      clear hX
      obtain ⟨U, hu, hi⟩ := r.c2
      obtain ⟨ua, uc, rfl, _⟩ := hi.form
      have HII := hide hi
      have c0 := r.c0
      have c1 := r.c1
      have HI := hide hI
      clear r hI hi
      go_wp2_with fail
      refine (unhide HST k _ X _ _ _ hlt (unhide HX) (unhide HUP _ _ _ (unhide HI) (bl1 _ _)) (Ints.up (bl1 _ _) (unhide HII))).mono ?_
      rintro e w1 ⟨rfl, hy, hn⟩
      have HY := hide hy
      have HN := hide hn
      clear hy hn
      cases hpk : p k
      · go_wp2
        go_ret
        have hf := allB_f hlt hpk
        exact ⟨ret_bool hf.symm, fun h => absurd (hf.symm.trans h) (by decide), fun _ => unhide HN hpk⟩
      · go_wp2
        go_roundw
        case rel => exact ⟨k + 1, by omega, by go_num, unhide HY hpk, fun j hj => if e : j < k then unhide HA j e else (show j = k by omega) ▸ hpk⟩
        case measure => simp [intOf]; omega
    · obtain rfl : k = N := by omega
      go_wp2
      go_ret
      have ht := allB_t fun j hj => unhide HA j (by omega)
      exact ⟨ret_bool ht.symm, fun _ => hI, fun h => absurd (h.symm.trans ht) (by decide)⟩
set_option maxHeartbeats 1000000 in
theorem every_everySector_2_1 (C1 : Value) (a : Option Addr) (cap : Nat) (xs : List Pa) (p : Nat → Bool) (I : Nat → World → Prop) (J : World → Prop) (w : World) (hn : xs.length ≤ 9223372036854775807)
    (hel : ∀ k wr, k < xs.length → I k wr → ∃ b o, a = some ⟨b, o, none⟩ ∧ RPa wr b (o + k * 3) (xs.getD k pa0))
    (hup : ∀ k wr wr', I k wr → Below wr.heap.size wr wr' → I k wr') (h0 : I 0 w)
    (hst : ∀ (k : Nat) (wr : World) (X : Pa) (ua : Option Addr) (un uc : Nat), k < xs.length → xs.getD k pa0 = X → I k wr → Ints wr (.slice ua un uc) X.sec → Calls Tryz.prog 151 #[paV X (.slice ua un uc), C1] wr fun e w' => e = .returned (.bool (p k)) ∧ (p k = true → I (k + 1) w') ∧ (p k = false → J w')) :
    Calls Tryz.prog 145 #[.slice a xs.length cap, .func (.func 151) #[] #[C1]] w fun e w' => e = .returned (.bool (allB xs.length p)) ∧ (allB xs.length p = true → I xs.length w') ∧ (allB xs.length p = false → J w') := by
  have HEL := hide hel
  have HUP := hide hup
  have HST := hide hst
  have H0 := hide h0
  clear hel hup hst h0
  obtain ⟨N, hN⟩ : ∃ N, xs.length = N := ⟨_, rfl⟩
  rw [hN] at hn HEL HST ⊢
  clear hN
  go_enter Tryz.func145, Tryz.ntmps145
  go_wp2
  go_loopw [6, 9] (fun _ i wr => ∃ k : Nat, k ≤ N ∧ i = .int .i64 k ∧ I k wr ∧ ∀ j, j < k → p j = true) (fun _ i _ => N - (intOf i).toNat)
  case atStart => exact ⟨0, Nat.zero_le _, rfl, unhide H0, fun j hj => absurd hj (Nat.not_lt_zero _)⟩
  case round =>
    obtain ⟨k, hk, rfl, hI, hall⟩ := hrel
    have HA := hide hall
    clear hall
    by_cases hlt : k < N
    · obtain ⟨b, o, rfl, r⟩ := unhide HEL k _ hlt hI
      obtain ⟨X, hX⟩ : ∃ X, xs.getD k pa0 = X := ⟨_, rfl⟩
      rw [hX] at r
      have HX := hide hX
      clear hX
      obtain ⟨U, hu, hi⟩ := r.c2
      obtain ⟨ua, uc, rfl, _⟩ := hi.form
      have HII := hide hi
      have c0 := r.c0
      have c1 := r.c1
      have HI := hide hI
      clear r hI hi
      go_wp2_with fail
      refine (unhide HST k _ X _ _ _ hlt (unhide HX) (unhide HUP _ _ _ (unhide HI) (bl1 _ _)) (Ints.up (bl1 _ _) (unhide HII))).mono ?_
      rintro e w1 ⟨rfl, hy, hn⟩
      have HY := hide hy
      have HN := hide hn
      clear hy hn
      cases hpk : p k
      · go_wp2
        go_ret
        have hf := allB_f hlt hpk
        exact ⟨ret_bool hf.symm, fun h => absurd (hf.symm.trans h) (by decide), fun _ => unhide HN hpk⟩
      · go_wp2
        go_roundw
        case rel => exact ⟨k + 1, by omega, by go_num, unhide HY hpk, fun j hj => if e : j < k then unhide HA j e else (show j = k by omega) ▸ hpk⟩
        case measure => simp [intOf]; omega
    · obtain rfl : k = N := by omega
      go_wp2
      go_ret
      have ht := allB_t fun j hj => unhide HA j (by omega)
      exact ⟨ret_bool ht.symm, fun _ => hI, fun h => absurd (h.symm.trans ht) (by decide)⟩
end Go.Proofs.YtdgmdapijhbocaaGreat

/- state.CheckName, CheckKey, CheckRule and the document's NameFault, KeyFault, RuleFault: each answers worE or rulE of the text, and touches nothing that was there. -/
namespace Go.Proofs.YtdgmdapijhbocaaGreat
open Go.RowKit Go.PlainAid
set_option linter.unusedVariables false
set_option linter.unusedSimpArgs false

/-- All bytes of a text are signs that can be seen. -/
def txtB (s : ByteArray) : Bool := (List.range s.size).all fun i => inB (bt s i) 33 126
theorem txtB_t {s : ByteArray} (h : ∀ j, j < s.size → inB (bt s j) 33 126 = true) : txtB s = true := by simp [txtB]; exact h
theorem txtB_f {s : ByteArray} {k : Nat} (hk : k < s.size) (h : inB (bt s k) 33 126 = false) : txtB s = false := by simp [txtB]; exact ⟨k, hk, h⟩
/-- What a check of bytes answers. -/
def txtE (s : ByteArray) : Int := if txtB s then 0 else 4
theorem txtE_t {s : ByteArray} (h : ∀ j, j < s.size → inB (bt s j) 33 126 = true) : 0 = txtE s := by simp [txtE, txtB_t h]
theorem txtE_f {s : ByteArray} {k : Nat} (hk : k < s.size) (h : ¬ (33 ≤ bt s k ∧ bt s k ≤ 126)) : 4 = txtE s := by
  simp [txtE, txtB_f hk (by simp only [inB, decide_eq_false_iff_not]; exact h)]
/-- What a check of a word answers. -/
def worE (s : ByteArray) (most : Int) : Int := if inB s.size 1 most then txtE s else 1
/-- What a check of a rule answers. -/
def rulE (s : ByteArray) (f d : Int) : Int := if (s.size : Int) ≤ 16 then (if txtE s = 0 then (if inB f (-1) 1073741824 && inB d (-1) 1073741824 then 0 else 2) else txtE s) else 1

theorem within_any (n lo hi : Int) (w : World) :
    Calls Tryz.prog 29 #[.int .i64 n, .int .i64 lo, .int .i64 hi] w fun e w' => e = .returned (.bool (inB n lo hi)) ∧ w = w' := by
  by_cases h1 : lo ≤ n
  · by_cases h2 : n ≤ hi
    · go_enter Tryz.func29, Tryz.ntmps29
      go_wp2
      go_ret
      exact ⟨ret_bool (by simp [inB, h1, h2]), rfl⟩
    · go_enter Tryz.func29, Tryz.ntmps29
      go_wp2
      go_ret
      exact ⟨ret_bool (by simp [inB, h1, h2]), rfl⟩
  · go_enter Tryz.func29, Tryz.ntmps29
    go_wp2
    go_ret
    exact ⟨ret_bool (by simp [inB]; omega), rfl⟩

theorem checkBytes_any (s : ByteArray) (w : World) (hs : s.size ≤ maxLen) :
    Calls Tryz.prog 136 #[.string s] w fun e w' => e = .returned (.int .i64 (txtE s)) ∧ Below w.heap.size w w' := by
  have hm : maxLen = 9223372036854775807 := rfl
  rw [hm] at hs
  have hg := get_bt s
  go_enter Tryz.func136, Tryz.ntmps136
  go_wp2
  go_loopw [3, 6] (fun _ i wr => ∃ k : Nat, k ≤ s.size ∧ i = .int .i64 k ∧ Below w.heap.size w wr ∧ ∀ j, j < k → inB (bt s j) 33 126 = true) (fun _ i _ => s.size - (intOf i).toNat)
  case atStart => exact ⟨0, Nat.zero_le _, rfl, Below.refl _ _, fun j hj => absurd hj (Nat.not_lt_zero _)⟩
  case round =>
    obtain ⟨k, hk, rfl, hb, hall⟩ := hrel
    have HA : Hid (∀ j, j < k → inB (bt s j) 33 126 = true) := hall
    clear hall
    by_cases hlt : k < s.size
    · have hgk := hg k hlt
      obtain ⟨B, hB⟩ : ∃ B, bt s k = B := ⟨_, rfl⟩
      have b0 := bt_nonneg s k
      have b1 := bt_le s k
      rw [hB] at hgk b0 b1
      clear hg
      by_cases c1 : B < 33
      · go_wp2
        go_ret
        exact ⟨ret_int (txtE_f hlt (by omega)), hb⟩
      by_cases c2 : 126 < B
      · go_wp2
        go_ret
        exact ⟨ret_int (txtE_f hlt (by omega)), hb⟩
      go_wp2
      go_roundw
      case rel => exact ⟨k + 1, by omega, by go_num, hb, fun j hj => if e : j < k then HA.out j e else (show j = k by omega) ▸ (by rw [hB]; simp [inB]; omega)⟩
      case measure => simp [intOf]; omega
    · go_wp2
      go_ret
      exact ⟨ret_int (txtE_t fun j hj => HA.out j (by omega)), hb⟩

theorem checkName_any (s : ByteArray) (w : World) (hs : s.size ≤ maxLen) :
    Calls Tryz.prog 82 #[.string s] w fun e w' => e = .returned (.int .i64 (worE s 8)) ∧ Below w.heap.size w w' := by
  have hm : maxLen = 9223372036854775807 := rfl
  have hs' := hs
  rw [hm] at hs'
  by_cases h1 : s.size < 1
  · go_enter Tryz.func82, Tryz.ntmps82
    go_wp2
    go_ret
    exact ⟨ret_int (by simp [worE, inB]; omega), Below.refl _ _⟩
  by_cases h2 : 8 < s.size
  · go_enter Tryz.func82, Tryz.ntmps82
    go_wp2
    go_ret
    exact ⟨ret_int (by simp [worE, inB]; omega), Below.refl _ _⟩
  go_enter Tryz.func82, Tryz.ntmps82
  go_wp2_with fail
  refine (checkBytes_any _ _ hs).mono ?_
  rintro e w1 ⟨rfl, hb⟩
  go_wp2
  go_ret
  exact ⟨ret_int (by rw [worE, if_pos (by simp [inB]; omega)]), hb⟩
theorem checkKey_any (s : ByteArray) (w : World) (hs : s.size ≤ maxLen) :
    Calls Tryz.prog 142 #[.string s] w fun e w' => e = .returned (.int .i64 (worE s 16)) ∧ Below w.heap.size w w' := by
  have hm : maxLen = 9223372036854775807 := rfl
  have hs' := hs
  rw [hm] at hs'
  by_cases h1 : s.size < 1
  · go_enter Tryz.func142, Tryz.ntmps142
    go_wp2
    go_ret
    exact ⟨ret_int (by simp [worE, inB]; omega), Below.refl _ _⟩
  by_cases h2 : 16 < s.size
  · go_enter Tryz.func142, Tryz.ntmps142
    go_wp2
    go_ret
    exact ⟨ret_int (by simp [worE, inB]; omega), Below.refl _ _⟩
  go_enter Tryz.func142, Tryz.ntmps142
  go_wp2_with fail
  refine (checkBytes_any _ _ hs).mono ?_
  rintro e w1 ⟨rfl, hb⟩
  go_wp2
  go_ret
  exact ⟨ret_int (by rw [worE, if_pos (by simp [inB]; omega)]), hb⟩
end Go.Proofs.YtdgmdapijhbocaaGreat

/- state.CheckRule and the document's RuleFault: each answers rulE of the rule. -/
namespace Go.Proofs.YtdgmdapijhbocaaGreat
open Go.RowKit Go.PlainAid
set_option linter.unusedVariables false
set_option linter.unusedSimpArgs false
theorem rul1 {s : ByteArray} {f d : Int} (h : 16 < s.size) : 1 = rulE s f d := by rw [rulE, if_neg (by omega)]
theorem rul2 {s : ByteArray} {f d : Int} (h : ¬ 16 < s.size) (h2 : txtE s ≠ 0) : txtE s = rulE s f d := by rw [rulE, if_pos (by omega), if_neg h2]
theorem rul3 {s : ByteArray} {f d : Int} (h : ¬ 16 < s.size) (h2 : txtE s = 0) (b c : Bool) (hb : inB f (-1) 1073741824 = b) (hc : inB d (-1) 1073741824 = c) : (if b && c then 0 else 2) = rulE s f d := by
  subst hb hc
  have e : (s.size : Int) ≤ 16 := by omega
  rw [rulE, if_pos e, if_pos h2]
theorem rul4 {s : ByteArray} {f d : Int} (h : ¬ 16 < s.size) (h2 : txtE s = 0) (hb : inB f (-1) 1073741824 = false) : 2 = rulE s f d := rul3 h h2 false _ hb rfl
theorem txtE_any (s : ByteArray) : txtE s = 0 ∧ txtB s = true ∨ txtE s = 4 ∧ txtB s = false := by unfold txtE; cases txtB s <;> simp

set_option maxHeartbeats 1000000 in
theorem checkRule_any (s : ByteArray) (f d : Int) (w : World) (hs : s.size ≤ maxLen) :
    Calls Tryz.prog 83 #[.agg #[.string s, .int .i64 f, .int .i64 d]] w fun e w' => e = .returned (.int .i64 (rulE s f d)) ∧ Below w.heap.size w w' := by
  have hm : maxLen = 9223372036854775807 := rfl
  have hs' := hs
  rw [hm] at hs'
  by_cases h1 : 16 < s.size
  · go_enter Tryz.func83, Tryz.ntmps83
    go_wp2
    go_ret
    exact ⟨ret_int (rul1 h1), bl_alloc (Below.refl _ _) _⟩
  go_enter Tryz.func83, Tryz.ntmps83
  go_wp2_with fail
  refine (checkBytes_any _ _ hs).mono ?_
  rintro e w1 ⟨rfl, hb⟩
  have g0 := box1 hb 0 rfl
  have g1 := box1 hb 1 rfl
  have g2 := box1 hb 2 rfl
  have hb1 := bl_trans (bl_alloc (Below.refl _ _) _) hb
  obtain ⟨hE, hB⟩ | ⟨hE, hB⟩ := txtE_any s
  · have HR := hide hE
    rw [hE]
    clear hE
    cases hf : inB f (-1) 1073741824
    · go_wp2_with (go_at_call 29; refine (within_any _ _ _ _).mono ?_; rintro e w' ⟨rfl, rfl⟩)
      go_ret
      exact ⟨ret_int (rul4 h1 (unhide HR) hf), hb1⟩
    · cases hd : inB d (-1) 1073741824
      · go_wp2_with (go_at_call 29; refine (within_any _ _ _ _).mono ?_; rintro e w' ⟨rfl, rfl⟩)
        go_ret
        exact ⟨ret_int (rul3 h1 (unhide HR) true false hf hd), hb1⟩
      · go_wp2_with (go_at_call 29; refine (within_any _ _ _ _).mono ?_; rintro e w' ⟨rfl, rfl⟩)
        go_ret
        exact ⟨ret_int (rul3 h1 (unhide HR) true true hf hd), hb1⟩
  · have HR := hide (rul2 (f := f) (d := d) h1 (by omega))
    rw [hE] at HR ⊢
    clear hE
    go_wp2
    go_ret
    exact ⟨ret_int (unhide HR), hb1⟩

end Go.Proofs.YtdgmdapijhbocaaGreat

/- state's small checks: of what was given up, of buckets; the places of buckets, versions and volumes. -/
namespace Go.Proofs.YtdgmdapijhbocaaGreat
open Go.RowKit
set_option maxRecDepth 100000
set_option linter.unusedVariables false
set_option linter.unusedSimpArgs false
theorem both_ways {b : Bool} {P : Prop} (h : b = true → P) (k : b = false → P) : P := by cases b; exact k rfl; exact h rfl
/-- Go's order of texts. -/
def ltS (a b : ByteArray) : Bool := Op.bytesLess a.toList b.toList
def eqS (a b : ByteArray) : Bool := a.toList == b.toList
theorem goneMayBe_1 (X Y : Int) (w : World) : Calls Tryz.prog 75 #[.int .i64 X, .int .i64 Y] w fun e w' => e = .returned (.bool (decide (X < Y))) ∧ Below w.heap.size w w' := by
  go_enter Tryz.func75, Tryz.ntmps75
  go_wp2
  go_ret
  exact ⟨rfl, Below.refl _ _⟩
theorem goneMayBe_2 (X : Int) (w : World) : Calls Tryz.prog 77 #[.int .i64 X] w fun e w' => e = .returned (.bool (inB X 0 7)) ∧ Below w.heap.size w w' := by
  go_enter Tryz.func77, Tryz.ntmps77
  go_wp2_with fail
  refine (within_any _ _ _ _).mono ?_
  rintro e w1 ⟨rfl, rfl⟩
  go_wp2
  go_ret
  exact ⟨rfl, Below.refl _ _⟩
def goneP (g : List Int) (i : Nat) : Bool := decide (g.getD i 0 < g.getD (i + 1) 0)
def goneQ (g : List Int) (i : Nat) : Bool := inB (g.getD i 0) 0 7
def goneC (g : List Int) : Bool := decide ((g.length : Int) ≤ 8) && allB (g.length - 1) (goneP g) && allB g.length (goneQ g)
theorem goneMayBe_any (gv : Value) (g : List Int) (w : World) (hG : Ints w gv g) : Calls Tryz.prog 30 #[gv] w fun e w' => e = .returned (.bool (goneC g)) ∧ Below w.heap.size w w' := by
  obtain ⟨a, cap, rfl, h1, h2⟩ := hG.form
  unfold maxLen at h2
  have HG := hide hG
  clear hG
  by_cases hl : (g.length : Int) ≤ 8
  · have HC : Hid (goneC g = (allB (g.length - 1) (goneP g) && allB g.length (goneQ g))) := by show _ = _; unfold goneC; rw [decide_eq_true hl, Bool.true_and]
    go_enter Tryz.func30, Tryz.ntmps30
    go_wp2_with fail
    refine (rise_goneMayBe_1 a cap g (goneP g) _ (unhide HG) (by omega) (fun k wr X Y h e1 e2 => by subst e1 e2; exact goneMayBe_1 _ _ _)).mono ?_
    rintro e w1 ⟨rfl, hb⟩
    cases hr : allB (g.length - 1) (goneP g)
    · go_wp2
      go_ret
      exact ⟨ret_bool (by rw [unhide HC, hr]; rfl), hb⟩
    · go_wp2_with fail
      refine (every_goneMayBe_2 a cap g (goneQ g) (fun _ wr => Below w.heap.size w wr) (fun wr => Below w.heap.size w wr) _ (by omega) (fun k wr hk hb => Lst.at (Ints.up hb (unhide HG)) hk) (fun _ _ _ x y => bl_trans x y) hb (fun k wr X hk e hI hw => by subst e; exact (goneMayBe_2 _ _).mono fun _ _ ⟨x, y⟩ => ⟨x, fun _ => bl_trans hI y, fun _ => bl_trans hI y⟩)).mono ?_
      rintro e w2 ⟨rfl, hy, hn⟩
      have hb2 := both_ways hy hn
      clear hy hn
      have HR := hide hr
      clear hr
      go_wp2
      go_ret
      exact ⟨ret_bool (by rw [unhide HC, unhide HR]; rfl), hb2⟩
  · have HC : Hid (goneC g = false) := by show _ = _; unfold goneC; rw [decide_eq_false hl]; rfl
    go_enter Tryz.func30, Tryz.ntmps30
    go_wp2
    go_ret
    exact ⟨ret_bool (unhide HC).symm, Below.refl _ _⟩
theorem findBucket_1 (X : Bu) (nm : ByteArray) (B : Nat) (w : World) (h : w.cell? ⟨B, 0, none⟩ = some (.string nm)) : Calls Tryz.prog 159 #[buV X, .pointer (some ⟨B, 0, none⟩)] w fun e w' => e = .returned (.bool (eqS X.nam nm)) ∧ Below w.heap.size w w' := by
  have hB := World.block_lt_of_cell? w _ h
  simp at hB
  go_enter Tryz.func159, Tryz.ntmps159
  go_wp2
  go_ret
  exact ⟨rfl, bl1 _ _⟩
theorem findVersion_1 (X : Ve) (ua : Option Addr) (un uc : Nat) (n : Int) (B : Nat) (w : World) (h : w.cell? ⟨B, 0, none⟩ = some (.int .i64 n)) : Calls Tryz.prog 148 #[veV X (.slice ua un uc), .pointer (some ⟨B, 0, none⟩)] w fun e w' => e = .returned (.bool (X.id == n)) ∧ Below w.heap.size w w' := by
  have hB := World.block_lt_of_cell? w _ h
  simp at hB
  go_enter Tryz.func148, Tryz.ntmps148
  go_wp2
  go_ret
  exact ⟨rfl, bl1 _ _⟩
theorem findGone_1 (X n : Int) (B : Nat) (w : World) (h : w.cell? ⟨B, 0, none⟩ = some (.int .i64 n)) : Calls Tryz.prog 172 #[.int .i64 X, .pointer (some ⟨B, 0, none⟩)] w fun e w' => e = .returned (.bool (X == n)) ∧ Below w.heap.size w w' := by
  go_enter Tryz.func172, Tryz.ntmps172
  go_wp2
  go_ret
  exact ⟨rfl, Below.refl _ _⟩
def buP (l : List Bu) (nm : ByteArray) (i : Nat) : Bool := eqS (l.getD i bu0).nam nm
def veP (l : List Ve) (n : Int) (i : Nat) : Bool := (l.getD i ve0).id == n
def goP (l : List Int) (n : Int) (i : Nat) : Bool := l.getD i 0 == n
theorem findBucket_any (S : St) (b v u q g : Value) (nm : ByteArray) (w : World) (hB : Lst RBu 5 bu0 w b S.bus) :
    Calls Tryz.prog 118 #[stV S b v u q g, .string nm] w fun e w' => e = .returned (.int .i64 (firstI S.bus.length (buP S.bus nm))) ∧ Below w.heap.size w w' := by
  obtain ⟨a, cap, rfl, h1, h2⟩ := hB.form
  unfold maxLen at h2
  have HB := hide hB
  clear hB
  go_enter Tryz.func118, Tryz.ntmps118
  go_wp2_with fail
  refine (index_findBucket_1 _ a cap S.bus (buP S.bus nm) _ ((unhide HB).imp fun _ _ _ r => RBu.up (bl_alloc (bl1 _ _) _) r) (by omega) (fun k wr X hk e hI => by subst e; exact findBucket_1 _ nm _ _ (by rw [hI.cell (by simp)]; simp [World.cell?_alloc_at]))).mono ?_
  rintro e w1 ⟨rfl, hb⟩
  go_wp2
  go_ret
  exact ⟨rfl, bl_trans (bl_alloc (bl1 _ _) _) hb⟩
end Go.Proofs.YtdgmdapijhbocaaGreat

/- state's checks of buckets, parts, uploads and versions, each by itself. -/
namespace Go.Proofs.YtdgmdapijhbocaaGreat
open Go.RowKit
set_option maxRecDepth 100000
set_option linter.unusedVariables false
set_option linter.unusedSimpArgs false
theorem findVersion_any (S : St) (b v u q g : Value) (n : Int) (w : World) (hB : Lst RVe 12 ve0 w v S.ves) :
    Calls Tryz.prog 99 #[stV S b v u q g, .int .i64 n] w fun e w' => e = .returned (.int .i64 (firstI S.ves.length (veP S.ves n))) ∧ Below w.heap.size w w' := by
  obtain ⟨a, cap, rfl, h1, h2⟩ := hB.form
  unfold maxLen at h2
  have HB := hide hB
  clear hB
  go_enter Tryz.func99, Tryz.ntmps99
  go_wp2_with fail
  refine (index_findVersion_1 _ a cap S.ves (veP S.ves n) _ ((unhide HB).imp fun _ _ _ r => RVe.up (bl_alloc (bl1 _ _) _) r) (by omega) (fun k wr X ua un uc hk e hI hi => by subst e; exact findVersion_1 _ _ _ _ n _ _ (by rw [hI.cell (by simp)]; simp [World.cell?_alloc_at]))).mono ?_
  rintro e w1 ⟨rfl, hb⟩
  go_wp2
  go_ret
  exact ⟨rfl, bl_trans (bl_alloc (bl1 _ _) _) hb⟩
theorem findGone_any (S : St) (b v u q g : Value) (n : Int) (w : World) (hB : Ints w g S.gone) :
    Calls Tryz.prog 133 #[stV S b v u q g, .int .i64 n] w fun e w' => e = .returned (.int .i64 (firstI S.gone.length (goP S.gone n))) ∧ Below w.heap.size w w' := by
  obtain ⟨a, cap, rfl, h1, h2⟩ := hB.form
  unfold maxLen at h2
  have HB := hide hB
  clear hB
  go_enter Tryz.func133, Tryz.ntmps133
  go_wp2_with fail
  refine (index_findGone_1 _ a cap S.gone (goP S.gone n) _ (Ints.up (bl_alloc (bl1 _ _) _) (unhide HB)) (by omega) (fun k wr X hk e hI hi => by subst e; exact findGone_1 _ n _ _ (by rw [hI.cell (by simp)]; simp [World.cell?_alloc_at]))).mono ?_
  rintro e w1 ⟨rfl, hb⟩
  go_wp2
  go_ret
  exact ⟨rfl, bl_trans (bl_alloc (bl1 _ _) _) hb⟩
theorem modeMayBe_any (n : Int) (w : World) : Calls Tryz.prog 84 #[.int .i64 n] w fun e w' => e = .returned (.bool (inB n 0 2)) ∧ w = w' := by
  go_enter Tryz.func84, Tryz.ntmps84
  go_wp2_with fail
  refine (within_any _ _ _ _).mono ?_
  rintro e w1 ⟨rfl, rfl⟩
  go_wp2
  go_ret
  exact ⟨rfl, rfl⟩
theorem bucketsMayBe_1 (X Y : Bu) (w : World) : Calls Tryz.prog 79 #[buV X, buV Y] w fun e w' => e = .returned (.bool (ltS X.nam Y.nam)) ∧ Below w.heap.size w w' := by
  go_enter Tryz.func79, Tryz.ntmps79
  go_wp2
  go_ret
  exact ⟨rfl, bl_alloc (bl1 _ _) _⟩
def buC (x : Bu) : Bool := worE x.nam 8 == 0 && rulE x.pre x.fre x.dro == 0 && inB x.mode 0 2
theorem bucketsMayBe_2 (X : Bu) (w : World) (h1 : X.nam.size ≤ maxLen) (h2 : X.pre.size ≤ maxLen) : Calls Tryz.prog 81 #[buV X] w fun e w' => e = .returned (.bool (buC X)) ∧ Below w.heap.size w w' := by
  have HC : Hid (buC X = (worE X.nam 8 == 0 && rulE X.pre X.fre X.dro == 0 && inB X.mode 0 2)) := rfl
  go_enter Tryz.func81, Tryz.ntmps81
  go_wp2_with fail
  refine (checkName_any _ _ h1).mono ?_
  rintro e w1 ⟨rfl, hb1⟩
  obtain ⟨E, hE⟩ : ∃ E, worE X.nam 8 = E := ⟨_, rfl⟩
  rw [hE] at HC ⊢
  clear hE
  have c2 := box1 hb1 2 (v := .string X.pre) rfl
  have c3 := box1 hb1 3 (v := .int .i64 X.fre) rfl
  have c4 := box1 hb1 4 (v := .int .i64 X.dro) rfl
  have c1 := box1 hb1 1 (v := .int .i64 X.mode) rfl
  cases hE0 : (E == 0)
  · rw [hE0] at HC
    go_wp2
    go_ret
    exact ⟨ret_bool (by rw [unhide HC]; rfl), bl_trans (bl1 _ _) hb1⟩
  · rw [hE0] at HC
    go_wp2_with fail
    refine (checkRule_any _ _ _ _ h2).mono ?_
    rintro e w2 ⟨rfl, hb2⟩
    obtain ⟨R, hR⟩ : ∃ R, rulE X.pre X.fre X.dro = R := ⟨_, rfl⟩
    rw [hR] at HC ⊢
    clear hR
    have d1 := scell_up hb2 c1
    clear c1 c2 c3 c4
    cases hR0 : (R == 0)
    · rw [hR0] at HC
      go_wp2
      go_ret
      exact ⟨ret_bool (by rw [unhide HC]; rfl), bl_trans (bl_trans (bl1 _ _) hb1) hb2⟩
    · rw [hR0] at HC
      go_wp2_with fail
      refine (modeMayBe_any _ _).mono ?_
      rintro e w3 ⟨rfl, rfl⟩
      go_wp2
      go_ret
      exact ⟨ret_bool (by rw [unhide HC]; rfl), bl_trans (bl_trans (bl1 _ _) hb1) hb2⟩
def busP (l : List Bu) (i : Nat) : Bool := ltS (l.getD i bu0).nam (l.getD (i + 1) bu0).nam
def busQ (l : List Bu) (i : Nat) : Bool := buC (l.getD i bu0)
def busC (l : List Bu) : Bool := decide ((l.length : Int) ≤ 4) && allB (l.length - 1) (busP l) && allB l.length (busQ l)
theorem bucketsMayBe_any (bv : Value) (l : List Bu) (w : World) (hL : Lst RBu 5 bu0 w bv l) : Calls Tryz.prog 31 #[bv] w fun e w' => e = .returned (.bool (busC l)) ∧ Below w.heap.size w w' := by
  obtain ⟨a, cap, rfl, h1, h2⟩ := hL.form
  unfold maxLen at h2
  have HL := hide hL
  clear hL
  by_cases hl : (l.length : Int) ≤ 4
  · have HC : Hid (busC l = (allB (l.length - 1) (busP l) && allB l.length (busQ l))) := by show _ = _; unfold busC; rw [decide_eq_true hl, Bool.true_and]
    go_enter Tryz.func31, Tryz.ntmps31
    go_wp2_with fail
    refine (rise_bucketsMayBe_1 a cap l (busP l) _ (unhide HL) (by omega) (fun k wr X Y h e1 e2 => by subst e1 e2; exact bucketsMayBe_1 _ _ _)).mono ?_
    rintro e w1 ⟨rfl, hb⟩
    cases hr : allB (l.length - 1) (busP l)
    · rw [hr] at HC
      go_wp2
      go_ret
      exact ⟨ret_bool (by rw [unhide HC]; rfl), hb⟩
    · rw [hr] at HC
      clear hr
      go_wp2_with fail
      refine (every_bucketsMayBe_2 a cap l (busQ l) (fun _ wr => Below w.heap.size w wr) (fun wr => Below w.heap.size w wr) _ (by omega) (fun k wr hk hb => Lst.at ((unhide HL).imp fun _ _ _ r => RBu.up hb r) hk) (fun _ _ _ x y => bl_trans x y) hb (fun k wr X hk e hI => by
        subst e
        obtain ⟨_, _, _, r⟩ := Lst.at (unhide HL) hk
        exact (bucketsMayBe_2 _ _ r.s0 r.s2).mono fun _ _ ⟨x, y⟩ => ⟨x, fun _ => bl_trans hI y, fun _ => bl_trans hI y⟩)).mono ?_
      rintro e w2 ⟨rfl, hy, hn⟩
      have hb2 := both_ways hy hn
      clear hy hn
      go_wp2
      go_ret
      exact ⟨ret_bool (by rw [unhide HC]; rfl), hb2⟩
  · have HC : Hid (busC l = false) := by show _ = _; unfold busC; rw [decide_eq_false hl]; rfl
    go_enter Tryz.func31, Tryz.ntmps31
    go_wp2
    go_ret
    exact ⟨ret_bool (unhide HC).symm, Below.refl _ _⟩
/-- Sectors that so many bytes need. -/
def secN (n : Int) : Int := if n ≤ 0 then 0 else (n - 1) / 64 + 1
theorem sectorsN_any (n : Int) (w : World) (h0 : -9223372036854775808 ≤ n) (h1 : n ≤ 9223372036854775807) : Calls Tryz.prog 26 #[.int .i64 n] w fun e w' => e = .returned (.int .i64 (secN n)) ∧ w = w' := by
  by_cases h : n ≤ 0
  · have HC : Hid (secN n = 0) := by show _ = _; unfold secN; rw [if_pos h]
    go_enter Tryz.func26, Tryz.ntmps26
    go_wp2
    go_ret
    exact ⟨ret_int (unhide HC).symm, rfl⟩
  · have HC : Hid (secN n = (n - 1) / 64 + 1) := by show _ = _; unfold secN; rw [if_neg h]
    go_enter Tryz.func26, Tryz.ntmps26
    go_wp2
    go_ret
    exact ⟨ret_int (unhide HC).symm, rfl⟩
theorem rightMany_any (a : Option Addr) (n cap : Nat) (size : Int) (w : World) (hn : n ≤ 9223372036854775807) (h0 : -9223372036854775808 ≤ size) (h1 : size ≤ 9223372036854775807) : Calls Tryz.prog 139 #[.slice a n cap, .int .i64 size] w fun e w' => e = .returned (.bool ((n : Int) == secN size)) ∧ w = w' := by
  go_enter Tryz.func139, Tryz.ntmps139
  go_wp2_with fail
  refine (sectorsN_any _ _ h0 h1).mono ?_
  rintro e w1 ⟨rfl, rfl⟩
  go_wp2
  go_ret
  exact ⟨rfl, rfl⟩
theorem askMayBe_any (X : Ak) (w : World) : Calls Tryz.prog 100 #[akV X] w fun e w' => e = .returned (.bool (inB X.days 1 1000 && inB X.cls 0 2)) ∧ Below w.heap.size w w' := by
  go_enter Tryz.func100, Tryz.ntmps100
  go_wp2_with fail
  refine (within_any _ _ _ _).mono ?_
  rintro e w1 ⟨rfl, rfl⟩
  cases h : inB X.days 1 1000
  · go_wp2
    go_ret
    exact ⟨ret_bool (by rw [h]; rfl), bl1 _ _⟩
  · go_wp2_with fail
    refine (within_any _ _ _ _).mono ?_
    rintro e w1 ⟨rfl, rfl⟩
    go_wp2
    go_ret
    exact ⟨ret_bool (by rw [h]; rfl), bl1 _ _⟩
end Go.Proofs.YtdgmdapijhbocaaGreat
