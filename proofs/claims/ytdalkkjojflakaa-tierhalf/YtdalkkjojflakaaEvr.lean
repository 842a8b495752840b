/- state.every, of whatever is asked of each. -/
import Derived.Test.YtdalkkjojflakaaAll
namespace Go.Proofs.Ytdalkkjojflakaa
open Go.RowKit
set_option maxRecDepth 100000
set_option linter.unusedVariables false
set_option linter.unusedSimpArgs false
theorem Pas.up {w w' : World} (hb : Below w.heap.size w w') {v : Value} {xs : List Pa} (h : Lst RPa 3 pa0 w v xs) : Lst RPa 3 pa0 w' v xs := h.imp fun _ _ _ r => RPa.up hb r
set_option maxHeartbeats 1000000 in
theorem every_goneMayBe_2 (a : Option Addr) (cap : Nat) (xs : List Int) (p : Nat → Bool) (I : Nat → World → Prop) (J : World → Prop) (w : World) (hn : xs.length ≤ 9223372036854775807)
    (hel : ∀ k wr, k < xs.length → I k wr → ∃ b o, a = some ⟨b, o, none⟩ ∧ RInt wr b (o + k * 1) (xs.getD k 0))
    (hup : ∀ k wr wr', I k wr → Below wr.heap.size wr wr' → I k wr') (h0 : I 0 w)
    (hst : ∀ (k : Nat) (wr : World) (X : Int), k < xs.length → xs.getD k 0 = X → I k wr → (Lit.int .i64 X).wf = true → Calls Try.prog 85 #[.int .i64 X] wr fun e w' => e = .returned (.bool (p k)) ∧ (p k = true → I (k + 1) w') ∧ (p k = false → J w')) :
    Calls Try.prog 84 #[.slice a xs.length cap, .func (.func 85) #[] #[]] w fun e w' => e = .returned (.bool (allB xs.length p)) ∧ (allB xs.length p = true → I xs.length w') ∧ (allB xs.length p = false → J w') := by
  have HEL := hide hel
  have HUP := hide hup
  have HST := hide hst
  have H0 := hide h0
  clear hel hup hst h0
  obtain ⟨N, hN⟩ : ∃ N, xs.length = N := ⟨_, rfl⟩
  rw [hN] at hn HEL HST ⊢
  clear hN
  go_enter Try.func84, Try.ntmps84
  go_wp2
  go_loopw [6, 9] (fun _ i wr => ∃ k : Nat, k ≤ N ∧ i = .int .i64 k ∧ I k wr ∧ ∀ j, j < k → p j = true) (fun _ i _ => N - (intOf i).toNat)
  case atStart => exact ⟨0, Nat.zero_le _, rfl, unhide H0, fun j hj => absurd hj (Nat.not_lt_zero _)⟩
  case round =>
    obtain ⟨k, hk, rfl, hI, hall⟩ := hrel
    have HA := hide hall
    clear hall
    by_cases hlt : k < N
    · obtain ⟨b, o, rfl, r⟩ := unhide HEL k _ hlt hI
      obtain ⟨X, hX⟩ : ∃ X, xs.getD k 0 = X := ⟨_, rfl⟩
      rw [hX] at r
      have HX := hide hX
      clear hX
      have c0 := r.1
      rw [Nat.mul_one] at c0
      have HW := hide r.2
      have HI := hide hI
      clear r hI
      go_wp2_with fail
      refine (unhide HST k _ X hlt (unhide HX) (unhide HI) (unhide HW)).mono ?_
      rintro e w1 ⟨rfl, hy, hn⟩
      have HY := hide hy
      have HN := hide hn
      clear hy hn
      cases hpk : p k
      · go_wp2
        go_ret
        have hf := allB_f hlt hpk
        exact ⟨ret_bool hf.symm, fun h => absurd (hf.symm.trans h) (by decide), fun _ => unhide HN hpk⟩
      · go_wp2
        go_roundw
        case rel => exact ⟨k + 1, by omega, by go_num, unhide HY hpk, fun j hj => if e : j < k then unhide HA j e else (show j = k by omega) ▸ hpk⟩
        case measure => simp [intOf]; omega
    · obtain rfl : k = N := by omega
      go_wp2
      go_ret
      have ht := allB_t fun j hj => unhide HA j (by omega)
      exact ⟨ret_bool ht.symm, fun _ => hI, fun h => absurd (h.symm.trans ht) (by decide)⟩
set_option maxHeartbeats 1000000 in
theorem every_takersOf_1 (C1 : Value) (a : Option Addr) (cap : Nat) (xs : List Int) (p : Nat → Bool) (I : Nat → World → Prop) (J : World → Prop) (w : World) (hn : xs.length ≤ 9223372036854775807)
    (hel : ∀ k wr, k < xs.length → I k wr → ∃ b o, a = some ⟨b, o, none⟩ ∧ RInt wr b (o + k * 1) (xs.getD k 0))
    (hup : ∀ k wr wr', I k wr → Below wr.heap.size wr wr' → I k wr') (h0 : I 0 w)
    (hst : ∀ (k : Nat) (wr : World) (X : Int), k < xs.length → xs.getD k 0 = X → I k wr → (Lit.int .i64 X).wf = true → Calls Try.prog 130 #[.int .i64 X, C1] wr fun e w' => e = .returned (.bool (p k)) ∧ (p k = true → I (k + 1) w') ∧ (p k = false → J w')) :
    Calls Try.prog 84 #[.slice a xs.length cap, .func (.func 130) #[] #[C1]] w fun e w' => e = .returned (.bool (allB xs.length p)) ∧ (allB xs.length p = true → I xs.length w') ∧ (allB xs.length p = false → J w') := by
  have HEL := hide hel
  have HUP := hide hup
  have HST := hide hst
  have H0 := hide h0
  clear hel hup hst h0
  obtain ⟨N, hN⟩ : ∃ N, xs.length = N := ⟨_, rfl⟩
  rw [hN] at hn HEL HST ⊢
  clear hN
  go_enter Try.func84, Try.ntmps84
  go_wp2
  go_loopw [6, 9] (fun _ i wr => ∃ k : Nat, k ≤ N ∧ i = .int .i64 k ∧ I k wr ∧ ∀ j, j < k → p j = true) (fun _ i _ => N - (intOf i).toNat)
  case atStart => exact ⟨0, Nat.zero_le _, rfl, unhide H0, fun j hj => absurd hj (Nat.not_lt_zero _)⟩
  case round =>
    obtain ⟨k, hk, rfl, hI, hall⟩ := hrel
    have HA := hide hall
    clear hall
    by_cases hlt : k < N
    · obtain ⟨b, o, rfl, r⟩ := unhide HEL k _ hlt hI
      obtain ⟨X, hX⟩ : ∃ X, xs.getD k 0 = X := ⟨_, rfl⟩
      rw [hX] at r
      have HX := hide hX
      clear hX
      have c0 := r.1
      rw [Nat.mul_one] at c0
      have HW := hide r.2
      have HI := hide hI
      clear r hI
      go_wp2_with fail
      refine (unhide HST k _ X hlt (unhide HX) (unhide HI) (unhide HW)).mono ?_
      rintro e w1 ⟨rfl, hy, hn⟩
      have HY := hide hy
      have HN := hide hn
      clear hy hn
      cases hpk : p k
      · go_wp2
        go_ret
        have hf := allB_f hlt hpk
        exact ⟨ret_bool hf.symm, fun h => absurd (hf.symm.trans h) (by decide), fun _ => unhide HN hpk⟩
      · go_wp2
        go_roundw
        case rel => exact ⟨k + 1, by omega, by go_num, unhide HY hpk, fun j hj => if e : j < k then unhide HA j e else (show j = k by omega) ▸ hpk⟩
        case measure => simp [intOf]; omega
    · obtain rfl : k = N := by omega
      go_wp2
      go_ret
      have ht := allB_t fun j hj => unhide HA j (by omega)
      exact ⟨ret_bool ht.symm, fun _ => hI, fun h => absurd (h.symm.trans ht) (by decide)⟩
set_option maxHeartbeats 1000000 in
theorem every_sectorsMayBe_1 (C1 : Value) (a : Option Addr) (cap : Nat) (xs : List Int) (p : Nat → Bool) (I : Nat → World → Prop) (J : World → Prop) (w : World) (hn : xs.length ≤ 9223372036854775807)
    (hel : ∀ k wr, k < xs.length → I k wr → ∃ b o, a = some ⟨b, o, none⟩ ∧ RInt wr b (o + k * 1) (xs.getD k 0))
    (hup : ∀ k wr wr', I k wr → Below wr.heap.size wr wr' → I k wr') (h0 : I 0 w)
    (hst : ∀ (k : Nat) (wr : World) (X : Int), k < xs.length → xs.getD k 0 = X → I k wr → (Lit.int .i64 X).wf = true → Calls Try.prog 111 #[.int .i64 X, C1] wr fun e w' => e = .returned (.bool (p k)) ∧ (p k = true → I (k + 1) w') ∧ (p k = false → J w')) :
    Calls Try.prog 84 #[.slice a xs.length cap, .func (.func 111) #[] #[C1]] w fun e w' => e = .returned (.bool (allB xs.length p)) ∧ (allB xs.length p = true → I xs.length w') ∧ (allB xs.length p = false → J w') := by
  have HEL := hide hel
  have HUP := hide hup
  have HST := hide hst
  have H0 := hide h0
  clear hel hup hst h0
  obtain ⟨N, hN⟩ : ∃ N, xs.length = N := ⟨_, rfl⟩
  rw [hN] at hn HEL HST ⊢
  clear hN
  go_enter Try.func84, Try.ntmps84
  go_wp2
  go_loopw [6, 9] (fun _ i wr => ∃ k : Nat, k ≤ N ∧ i = .int .i64 k ∧ I k wr ∧ ∀ j, j < k → p j = true) (fun _ i _ => N - (intOf i).toNat)
  case atStart => exact ⟨0, Nat.zero_le _, rfl, unhide H0, fun j hj => absurd hj (Nat.not_lt_zero _)⟩
  case round =>
    obtain ⟨k, hk, rfl, hI, hall⟩ := hrel
    have HA := hide hall
    clear hall
    by_cases hlt : k < N
    · obtain ⟨b, o, rfl, r⟩ := unhide HEL k _ hlt hI
      obtain ⟨X, hX⟩ : ∃ X, xs.getD k 0 = X := ⟨_, rfl⟩
      rw [hX] at r
      have HX := hide hX
      clear hX
      have c0 := r.1
      rw [Nat.mul_one] at c0
      have HW := hide r.2
      have HI := hide hI
      clear r hI
      go_wp2_with fail
      refine (unhide HST k _ X hlt (unhide HX) (unhide HI) (unhide HW)).mono ?_
      rintro e w1 ⟨rfl, hy, hn⟩
      have HY := hide hy
      have HN := hide hn
      clear hy hn
      cases hpk : p k
      · go_wp2
        go_ret
        have hf := allB_f hlt hpk
        exact ⟨ret_bool hf.symm, fun h => absurd (hf.symm.trans h) (by decide), fun _ => unhide HN hpk⟩
      · go_wp2
        go_roundw
        case rel => exact ⟨k + 1, by omega, by go_num, unhide HY hpk, fun j hj => if e : j < k then unhide HA j e else (show j = k by omega) ▸ hpk⟩
        case measure => simp [intOf]; omega
    · obtain rfl : k = N := by omega
      go_wp2
      go_ret
      have ht := allB_t fun j hj => unhide HA j (by omega)
      exact ⟨ret_bool ht.symm, fun _ => hI, fun h => absurd (h.symm.trans ht) (by decide)⟩
set_option maxHeartbeats 1000000 in
theorem every_bucketsMayBe_2 (a : Option Addr) (cap : Nat) (xs : List Bu) (p : Nat → Bool) (I : Nat → World → Prop) (J : World → Prop) (w : World) (hn : xs.length ≤ 9223372036854775807)
    (hel : ∀ k wr, k < xs.length → I k wr → ∃ b o, a = some ⟨b, o, none⟩ ∧ RBu wr b (o + k * 5) (xs.getD k bu0))
    (hup : ∀ k wr wr', I k wr → Below wr.heap.size wr wr' → I k wr') (h0 : I 0 w)
    (hst : ∀ (k : Nat) (wr : World) (X : Bu), k < xs.length → xs.getD k bu0 = X → I k wr → Calls Try.prog 89 #[buV X] wr fun e w' => e = .returned (.bool (p k)) ∧ (p k = true → I (k + 1) w') ∧ (p k = false → J w')) :
    Calls Try.prog 88 #[.slice a xs.length cap, .func (.func 89) #[] #[]] w fun e w' => e = .returned (.bool (allB xs.length p)) ∧ (allB xs.length p = true → I xs.length w') ∧ (allB xs.length p = false → J w') := by
  have HEL := hide hel
  have HUP := hide hup
  have HST := hide hst
  have H0 := hide h0
  clear hel hup hst h0
  obtain ⟨N, hN⟩ : ∃ N, xs.length = N := ⟨_, rfl⟩
  rw [hN] at hn HEL HST ⊢
  clear hN
  go_enter Try.func88, Try.ntmps88
  go_wp2
  go_loopw [6, 9] (fun _ i wr => ∃ k : Nat, k ≤ N ∧ i = .int .i64 k ∧ I k wr ∧ ∀ j, j < k → p j = true) (fun _ i _ => N - (intOf i).toNat)
  case atStart => exact ⟨0, Nat.zero_le _, rfl, unhide H0, fun j hj => absurd hj (Nat.not_lt_zero _)⟩
  case round =>
    obtain ⟨k, hk, rfl, hI, hall⟩ := hrel
    have HA := hide hall
    clear hall
    by_cases hlt : k < N
    · obtain ⟨b, o, rfl, r⟩ := unhide HEL k _ hlt hI
      obtain ⟨X, hX⟩ : ∃ X, xs.getD k bu0 = X := ⟨_, rfl⟩
      rw [hX] at r
      have HX := hide hX
      clear hX
      have c0 := r.c0
      have c1 := r.c1
      have c2 := r.c2
      have c3 := r.c3
      have c4 := r.c4
      have HI := hide hI
      clear r hI
      go_wp2_with fail
      refine (unhide HST k _ X hlt (unhide HX) (unhide HUP _ _ _ (unhide HI) (bl1 _ _))).mono ?_
      rintro e w1 ⟨rfl, hy, hn⟩
      have HY := hide hy
      have HN := hide hn
      clear hy hn
      cases hpk : p k
      · go_wp2
        go_ret
        have hf := allB_f hlt hpk
        exact ⟨ret_bool hf.symm, fun h => absurd (hf.symm.trans h) (by decide), fun _ => unhide HN hpk⟩
      · go_wp2
        go_roundw
        case rel => exact ⟨k + 1, by omega, by go_num, unhide HY hpk, fun j hj => if e : j < k then unhide HA j e else (show j = k by omega) ▸ hpk⟩
        case measure => simp [intOf]; omega
    · obtain rfl : k = N := by omega
      go_wp2
      go_ret
      have ht := allB_t fun j hj => unhide HA j (by omega)
      exact ⟨ret_bool ht.symm, fun _ => hI, fun h => absurd (h.symm.trans ht) (by decide)⟩
set_option maxHeartbeats 1000000 in
theorem every_versionsMayBe_2 (C1 : Value) (a : Option Addr) (cap : Nat) (xs : List Ve) (p : Nat → Bool) (I : Nat → World → Prop) (J : World → Prop) (w : World) (hn : xs.length ≤ 9223372036854775807)
    (hel : ∀ k wr, k < xs.length → I k wr → ∃ b o, a = some ⟨b, o, none⟩ ∧ RVe wr b (o + k * 12) (xs.getD k ve0))
    (hup : ∀ k wr wr', I k wr → Below wr.heap.size wr wr' → I k wr') (h0 : I 0 w)
    (hst : ∀ (k : Nat) (wr : World) (X : Ve) (ua : Option Addr) (un uc : Nat), k < xs.length → xs.getD k ve0 = X → I k wr → Ints wr (.slice ua un uc) X.sec → Calls Try.prog 96 #[veV X (.slice ua un uc), C1] wr fun e w' => e = .returned (.bool (p k)) ∧ (p k = true → I (k + 1) w') ∧ (p k = false → J w')) :
    Calls Try.prog 95 #[.slice a xs.length cap, .func (.func 96) #[] #[C1]] w fun e w' => e = .returned (.bool (allB xs.length p)) ∧ (allB xs.length p = true → I xs.length w') ∧ (allB xs.length p = false → J w') := by
  have HEL := hide hel
  have HUP := hide hup
  have HST := hide hst
  have H0 := hide h0
  clear hel hup hst h0
  obtain ⟨N, hN⟩ : ∃ N, xs.length = N := ⟨_, rfl⟩
  rw [hN] at hn HEL HST ⊢
  clear hN
  go_enter Try.func95, Try.ntmps95
  go_wp2
  go_loopw [6, 9] (fun _ i wr => ∃ k : Nat, k ≤ N ∧ i = .int .i64 k ∧ I k wr ∧ ∀ j, j < k → p j = true) (fun _ i _ => N - (intOf i).toNat)
  case atStart => exact ⟨0, Nat.zero_le _, rfl, unhide H0, fun j hj => absurd hj (Nat.not_lt_zero _)⟩
  case round =>
    obtain ⟨k, hk, rfl, hI, hall⟩ := hrel
    have HA := hide hall
    clear hall
    by_cases hlt : k < N
    · obtain ⟨b, o, rfl, r⟩ := unhide HEL k _ hlt hI
      obtain ⟨X, hX⟩ : ∃ X, xs.getD k ve0 = X := ⟨_, rfl⟩
      rw [hX] at r
      have HX := hide hX
      clear hX
      obtain ⟨U, hu, hi⟩ := r.c8
      obtain ⟨ua, uc, rfl, _⟩ := hi.form
      have HII := hide hi
      have c0 := r.c0
      have c1 := r.c1
      have c2 := r.c2
      have c3 := r.c3
      have c4 := r.c4
      have c5 := r.c5
      have c6 := r.c6
      have c7 := r.c7
      have c8 := r.c9
      have c9 := r.c10
      have c10 := r.c11
      have HI := hide hI
      clear r hI hi
      go_wp2_with fail
      refine (unhide HST k _ X _ _ _ hlt (unhide HX) (unhide HUP _ _ _ (unhide HI) (bl1 _ _)) (Ints.up (bl1 _ _) (unhide HII))).mono ?_
      rintro e w1 ⟨rfl, hy, hn⟩
      have HY := hide hy
      have HN := hide hn
      clear hy hn
      cases hpk : p k
      · go_wp2
        go_ret
        have hf := allB_f hlt hpk
        exact ⟨ret_bool hf.symm, fun h => absurd (hf.symm.trans h) (by decide), fun _ => unhide HN hpk⟩
      · go_wp2
        go_roundw
        case rel => exact ⟨k + 1, by omega, by go_num, unhide HY hpk, fun j hj => if e : j < k then unhide HA j e else (show j = k by omega) ▸ hpk⟩
        case measure => simp [intOf]; omega
    · obtain rfl : k = N := by omega
      go_wp2
      go_ret
      have ht := allB_t fun j hj => unhide HA j (by omega)
      exact ⟨ret_bool ht.symm, fun _ => hI, fun h => absurd (h.symm.trans ht) (by decide)⟩
set_option maxHeartbeats 1000000 in
theorem every_nullsMayBe_1 (C1 : Value) (a : Option Addr) (cap : Nat) (xs : List Ve) (p : Nat → Bool) (I : Nat → World → Prop) (J : World → Prop) (w : World) (hn : xs.length ≤ 9223372036854775807)
    (hel : ∀ k wr, k < xs.length → I k wr → ∃ b o, a = some ⟨b, o, none⟩ ∧ RVe wr b (o + k * 12) (xs.getD k ve0))
    (hup : ∀ k wr wr', I k wr → Below wr.heap.size wr wr' → I k wr') (h0 : I 0 w)
    (hst : ∀ (k : Nat) (wr : World) (X : Ve) (ua : Option Addr) (un uc : Nat), k < xs.length → xs.getD k ve0 = X → I k wr → Ints wr (.slice ua un uc) X.sec → Calls Try.prog 121 #[veV X (.slice ua un uc), C1] wr fun e w' => e = .returned (.bool (p k)) ∧ (p k = true → I (k + 1) w') ∧ (p k = false → J w')) :
    Calls Try.prog 95 #[.slice a xs.length cap, .func (.func 121) #[] #[C1]] w fun e w' => e = .returned (.bool (allB xs.length p)) ∧ (allB xs.length p = true → I xs.length w') ∧ (allB xs.length p = false → J w') := by
  have HEL := hide hel
  have HUP := hide hup
  have HST := hide hst
  have H0 := hide h0
  clear hel hup hst h0
  obtain ⟨N, hN⟩ : ∃ N, xs.length = N := ⟨_, rfl⟩
  rw [hN] at hn HEL HST ⊢
  clear hN
  go_enter Try.func95, Try.ntmps95
  go_wp2
  go_loopw [6, 9] (fun _ i wr => ∃ k : Nat, k ≤ N ∧ i = .int .i64 k ∧ I k wr ∧ ∀ j, j < k → p j = true) (fun _ i _ => N - (intOf i).toNat)
  case atStart => exact ⟨0, Nat.zero_le _, rfl, unhide H0, fun j hj => absurd hj (Nat.not_lt_zero _)⟩
  case round =>
    obtain ⟨k, hk, rfl, hI, hall⟩ := hrel
    have HA := hide hall
    clear hall
    by_cases hlt : k < N
    · obtain ⟨b, o, rfl, r⟩ := unhide HEL k _ hlt hI
      obtain ⟨X, hX⟩ : ∃ X, xs.getD k ve0 = X := ⟨_, rfl⟩
      rw [hX] at r
      have HX := hide hX
      clear hX
      obtain ⟨U, hu, hi⟩ := r.c8
      obtain ⟨ua, uc, rfl, _⟩ := hi.form
      have HII := hide hi
      have c0 := r.c0
      have c1 := r.c1
      have c2 := r.c2
      have c3 := r.c3
      have c4 := r.c4
      have c5 := r.c5
      have c6 := r.c6
      have c7 := r.c7
      have c8 := r.c9
      have c9 := r.c10
      have c10 := r.c11
      have HI := hide hI
      clear r hI hi
      go_wp2_with fail
      refine (unhide HST k _ X _ _ _ hlt (unhide HX) (unhide HUP _ _ _ (unhide HI) (bl1 _ _)) (Ints.up (bl1 _ _) (unhide HII))).mono ?_
      rintro e w1 ⟨rfl, hy, hn⟩
      have HY := hide hy
      have HN := hide hn
      clear hy hn
      cases hpk : p k
      · go_wp2
        go_ret
        have hf := allB_f hlt hpk
        exact ⟨ret_bool hf.symm, fun h => absurd (hf.symm.trans h) (by decide), fun _ => unhide HN hpk⟩
      · go_wp2
        go_roundw
        case rel => exact ⟨k + 1, by omega, by go_num, unhide HY hpk, fun j hj => if e : j < k then unhide HA j e else (show j = k by omega) ▸ hpk⟩
        case measure => simp [intOf]; omega
    · obtain rfl : k = N := by omega
      go_wp2
      go_ret
      have ht := allB_t fun j hj => unhide HA j (by omega)
      exact ⟨ret_bool ht.symm, fun _ => hI, fun h => absurd (h.symm.trans ht) (by decide)⟩
set_option maxHeartbeats 1000000 in
theorem every_everySector_1 (C1 : Value) (a : Option Addr) (cap : Nat) (xs : List Ve) (p : Nat → Bool) (I : Nat → World → Prop) (J : World → Prop) (w : World) (hn : xs.length ≤ 9223372036854775807)
    (hel : ∀ k wr, k < xs.length → I k wr → ∃ b o, a = some ⟨b, o, none⟩ ∧ RVe wr b (o + k * 12) (xs.getD k ve0))
    (hup : ∀ k wr wr', I k wr → Below wr.heap.size wr wr' → I k wr') (h0 : I 0 w)
    (hst : ∀ (k : Nat) (wr : World) (X : Ve) (ua : Option Addr) (un uc : Nat), k < xs.length → xs.getD k ve0 = X → I k wr → Ints wr (.slice ua un uc) X.sec → Calls Try.prog 131 #[veV X (.slice ua un uc), C1] wr fun e w' => e = .returned (.bool (p k)) ∧ (p k = true → I (k + 1) w') ∧ (p k = false → J w')) :
    Calls Try.prog 95 #[.slice a xs.length cap, .func (.func 131) #[] #[C1]] w fun e w' => e = .returned (.bool (allB xs.length p)) ∧ (allB xs.length p = true → I xs.length w') ∧ (allB xs.length p = false → J w') := by
  have HEL := hide hel
  have HUP := hide hup
  have HST := hide hst
  have H0 := hide h0
  clear hel hup hst h0
  obtain ⟨N, hN⟩ : ∃ N, xs.length = N := ⟨_, rfl⟩
  rw [hN] at hn HEL HST ⊢
  clear hN
  go_enter Try.func95, Try.ntmps95
  go_wp2
  go_loopw [6, 9] (fun _ i wr => ∃ k : Nat, k ≤ N ∧ i = .int .i64 k ∧ I k wr ∧ ∀ j, j < k → p j = true) (fun _ i _ => N - (intOf i).toNat)
  case atStart => exact ⟨0, Nat.zero_le _, rfl, unhide H0, fun j hj => absurd hj (Nat.not_lt_zero _)⟩
  case round =>
    obtain ⟨k, hk, rfl, hI, hall⟩ := hrel
    have HA := hide hall
    clear hall
    by_cases hlt : k < N
    · obtain ⟨b, o, rfl, r⟩ := unhide HEL k _ hlt hI
      obtain ⟨X, hX⟩ : ∃ X, xs.getD k ve0 = X := ⟨_, rfl⟩
      rw [hX] at r
      have HX := hide hX
      clear hX
      obtain ⟨U, hu, hi⟩ := r.c8
      obtain ⟨ua, uc, rfl, _⟩ := hi.form
      have HII := hide hi
      have c0 := r.c0
      have c1 := r.c1
      have c2 := r.c2
      have c3 := r.c3
      have c4 := r.c4
      have c5 := r.c5
      have c6 := r.c6
      have c7 := r.c7
      have c8 := r.c9
      have c9 := r.c10
      have c10 := r.c11
      have HI := hide hI
      clear r hI hi
      go_wp2_with fail
      refine (unhide HST k _ X _ _ _ hlt (unhide HX) (unhide HUP _ _ _ (unhide HI) (bl1 _ _)) (Ints.up (bl1 _ _) (unhide HII))).mono ?_
      rintro e w1 ⟨rfl, hy, hn⟩
      have HY := hide hy
      have HN := hide hn
      clear hy hn
      cases hpk : p k
      · go_wp2
        go_ret
        have hf := allB_f hlt hpk
        exact ⟨ret_bool hf.symm, fun h => absurd (hf.symm.trans h) (by decide), fun _ => unhide HN hpk⟩
      · go_wp2
        go_roundw
        case rel => exact ⟨k + 1, by omega, by go_num, unhide HY hpk, fun j hj => if e : j < k then unhide HA j e else (show j = k by omega) ▸ hpk⟩
        case measure => simp [intOf]; omega
    · obtain rfl : k = N := by omega
      go_wp2
      go_ret
      have ht := allB_t fun j hj => unhide HA j (by omega)
      exact ⟨ret_bool ht.symm, fun _ => hI, fun h => absurd (h.symm.trans ht) (by decide)⟩
set_option maxHeartbeats 1000000 in
theorem every_uploadsMayBe_2 (C1 : Value) (a : Option Addr) (cap : Nat) (xs : List Up) (p : Nat → Bool) (I : Nat → World → Prop) (J : World → Prop) (w : World) (hn : xs.length ≤ 9223372036854775807)
    (hel : ∀ k wr, k < xs.length → I k wr → ∃ b o, a = some ⟨b, o, none⟩ ∧ RUp wr b (o + k * 4) (xs.getD k up0))
    (hup : ∀ k wr wr', I k wr → Below wr.heap.size wr wr' → I k wr') (h0 : I 0 w)
    (hst : ∀ (k : Nat) (wr : World) (X : Up) (ua : Option Addr) (un uc : Nat), k < xs.length → xs.getD k up0 = X → I k wr → Lst RPa 3 pa0 wr (.slice ua un uc) X.parts → Calls Try.prog 102 #[upV X (.slice ua un uc), C1] wr fun e w' => e = .returned (.bool (p k)) ∧ (p k = true → I (k + 1) w') ∧ (p k = false → J w')) :
    Calls Try.prog 101 #[.slice a xs.length cap, .func (.func 102) #[] #[C1]] w fun e w' => e = .returned (.bool (allB xs.length p)) ∧ (allB xs.length p = true → I xs.length w') ∧ (allB xs.length p = false → J w') := by
  have HEL := hide hel
  have HUP := hide hup
  have HST := hide hst
  have H0 := hide h0
  clear hel hup hst h0
  obtain ⟨N, hN⟩ : ∃ N, xs.length = N := ⟨_, rfl⟩
  rw [hN] at hn HEL HST ⊢
  clear hN
  go_enter Try.func101, Try.ntmps101
  go_wp2
  go_loopw [6, 9] (fun _ i wr => ∃ k : Nat, k ≤ N ∧ i = .int .i64 k ∧ I k wr ∧ ∀ j, j < k → p j = true) (fun _ i _ => N - (intOf i).toNat)
  case atStart => exact ⟨0, Nat.zero_le _, rfl, unhide H0, fun j hj => absurd hj (Nat.not_lt_zero _)⟩
  case round =>
    obtain ⟨k, hk, rfl, hI, hall⟩ := hrel
    have HA := hide hall
    clear hall
    by_cases hlt : k < N
    · obtain ⟨b, o, rfl, r⟩ := unhide HEL k _ hlt hI
      obtain ⟨X, hX⟩ : ∃ X, xs.getD k up0 = X := ⟨_, rfl⟩
      rw [hX] at r
      have HX := hide hX
      clear hX
      obtain ⟨U, hu, hi⟩ := r.c3
      obtain ⟨ua, uc, rfl, _⟩ := hi.form
      have HII := hide hi
      have c0 := r.c0
      have c1 := r.c1
      have c2 := r.c2
      have HI := hide hI
      clear r hI hi
      go_wp2_with fail
      refine (unhide HST k _ X _ _ _ hlt (unhide HX) (unhide HUP _ _ _ (unhide HI) (bl1 _ _)) (Pas.up (bl1 _ _) (unhide HII))).mono ?_
      rintro e w1 ⟨rfl, hy, hn⟩
      have HY := hide hy
      have HN := hide hn
      clear hy hn
      cases hpk : p k
      · go_wp2
        go_ret
        have hf := allB_f hlt hpk
        exact ⟨ret_bool hf.symm, fun h => absurd (hf.symm.trans h) (by decide), fun _ => unhide HN hpk⟩
      · go_wp2
        go_roundw
        case rel => exact ⟨k + 1, by omega, by go_num, unhide HY hpk, fun j hj => if e : j < k then unhide HA j e else (show j = k by omega) ▸ hpk⟩
        case measure => simp [intOf]; omega
    · obtain rfl : k = N := by omega
      go_wp2
      go_ret
      have ht := allB_t fun j hj => unhide HA j (by omega)
      exact ⟨ret_bool ht.symm, fun _ => hI, fun h => absurd (h.symm.trans ht) (by decide)⟩
set_option maxHeartbeats 1000000 in
theorem every_everySector_2 (C1 : Value) (a : Option Addr) (cap : Nat) (xs : List Up) (p : Nat → Bool) (I : Nat → World → Prop) (J : World → Prop) (w : World) (hn : xs.length ≤ 9223372036854775807)
    (hel : ∀ k wr, k < xs.length → I k wr → ∃ b o, a = some ⟨b, o, none⟩ ∧ RUp wr b (o + k * 4) (xs.getD k up0))
    (hup : ∀ k wr wr', I k wr → Below wr.heap.size wr wr' → I k wr') (h0 : I 0 w)
    (hst : ∀ (k : Nat) (wr : World) (X : Up) (ua : Option Addr) (un uc : Nat), k < xs.length → xs.getD k up0 = X → I k wr → Lst RPa 3 pa0 wr (.slice ua un uc) X.parts → Calls Try.prog 132 #[upV X (.slice ua un uc), C1] wr fun e w' => e = .returned (.bool (p k)) ∧ (p k = true → I (k + 1) w') ∧ (p k = false → J w')) :
    Calls Try.prog 101 #[.slice a xs.length cap, .func (.func 132) #[] #[C1]] w fun e w' => e = .returned (.bool (allB xs.length p)) ∧ (allB xs.length p = true → I xs.length w') ∧ (allB xs.length p = false → J w') := by
  have HEL := hide hel
  have HUP := hide hup
  have HST := hide hst
  have H0 := hide h0
  clear hel hup hst h0
  obtain ⟨N, hN⟩ : ∃ N, xs.length = N := ⟨_, rfl⟩
  rw [hN] at hn HEL HST ⊢
  clear hN
  go_enter Try.func101, Try.ntmps101
  go_wp2
  go_loopw [6, 9] (fun _ i wr => ∃ k : Nat, k ≤ N ∧ i = .int .i64 k ∧ I k wr ∧ ∀ j, j < k → p j = true) (fun _ i _ => N - (intOf i).toNat)
  case atStart => exact ⟨0, Nat.zero_le _, rfl, unhide H0, fun j hj => absurd hj (Nat.not_lt_zero _)⟩
  case round =>
    obtain ⟨k, hk, rfl, hI, hall⟩ := hrel
    have HA := hide hall
    clear hall
    by_cases hlt : k < N
    · obtain ⟨b, o, rfl, r⟩ := unhide HEL k _ hlt hI
      obtain ⟨X, hX⟩ : ∃ X, xs.getD k up0 = X := ⟨_, rfl⟩
      rw [hX] at r
      have HX := hide hX
      clear hX
      obtain ⟨U, hu, hi⟩ := r.c3
      obtain ⟨ua, uc, rfl, _⟩ := hi.form
      have HII := hide hi
      have c0 := r.c0
      have c1 := r.c1
      have c2 := r.c2
      have HI := hide hI
      clear r hI hi
      go_wp2_with fail
      refine (unhide HST k _ X _ _ _ hlt (unhide HX) (unhide HUP _ _ _ (unhide HI) (bl1 _ _)) (Pas.up (bl1 _ _) (unhide HII))).mono ?_
      rintro e w1 ⟨rfl, hy, hn⟩
      have HY := hide hy
      have HN := hide hn
      clear hy hn
      cases hpk : p k
      · go_wp2
        go_ret
        have hf := allB_f hlt hpk
        exact ⟨ret_bool hf.symm, fun h => absurd (hf.symm.trans h) (by decide), fun _ => unhide HN hpk⟩
      · go_wp2
        go_roundw
        case rel => exact ⟨k + 1, by omega, by go_num, unhide HY hpk, fun j hj => if e : j < k then unhide HA j e else (show j = k by omega) ▸ hpk⟩
        case measure => simp [intOf]; omega
    · obtain rfl : k = N := by omega
      go_wp2
      go_ret
      have ht := allB_t fun j hj => unhide HA j (by omega)
      exact ⟨ret_bool ht.symm, fun _ => hI, fun h => absurd (h.symm.trans ht) (by decide)⟩
set_option maxHeartbeats 1000000 in
theorem every_queueMayBe_1 (C1 C2 : Value) (a : Option Addr) (cap : Nat) (xs : List Ak) (p : Nat → Bool) (I : Nat → World → Prop) (J : World → Prop) (w : World) (hn : xs.length ≤ 9223372036854775807)
    (hel : ∀ k wr, k < xs.length → I k wr → ∃ b o, a = some ⟨b, o, none⟩ ∧ RAk wr b (o + k * 3) (xs.getD k ak0))
    (hup : ∀ k wr wr', I k wr → Below wr.heap.size wr wr' → I k wr') (h0 : I 0 w)
    (hst : ∀ (k : Nat) (wr : World) (X : Ak), k < xs.length → xs.getD k ak0 = X → I k wr → Calls Try.prog 106 #[akV X, C1, C2] wr fun e w' => e = .returned (.bool (p k)) ∧ (p k = true → I (k + 1) w') ∧ (p k = false → J w')) :
    Calls Try.prog 105 #[.slice a xs.length cap, .func (.func 106) #[] #[C1, C2]] w fun e w' => e = .returned (.bool (allB xs.length p)) ∧ (allB xs.length p = true → I xs.length w') ∧ (allB xs.length p = false → J w') := by
  have HEL := hide hel
  have HUP := hide hup
  have HST := hide hst
  have H0 := hide h0
  clear hel hup hst h0
  obtain ⟨N, hN⟩ : ∃ N, xs.length = N := ⟨_, rfl⟩
  rw [hN] at hn HEL HST ⊢
  clear hN
  go_enter Try.func105, Try.ntmps105
  go_wp2
  go_loopw [6, 9] (fun _ i wr => ∃ k : Nat, k ≤ N ∧ i = .int .i64 k ∧ I k wr ∧ ∀ j, j < k → p j = true) (fun _ i _ => N - (intOf i).toNat)
  case atStart => exact ⟨0, Nat.zero_le _, rfl, unhide H0, fun j hj => absurd hj (Nat.not_lt_zero _)⟩
  case round =>
    obtain ⟨k, hk, rfl, hI, hall⟩ := hrel
    have HA := hide hall
    clear hall
    by_cases hlt : k < N
    · obtain ⟨b, o, rfl, r⟩ := unhide HEL k _ hlt hI
      obtain ⟨X, hX⟩ : ∃ X, xs.getD k ak0 = X := ⟨_, rfl⟩
      rw [hX] at r
      have HX := hide hX
      clear hX
      have c0 := r.c0
      have c1 := r.c1
      have c2 := r.c2
      have HI := hide hI
      clear r hI
      go_wp2_with fail
      refine (unhide HST k _ X hlt (unhide HX) (unhide HUP _ _ _ (unhide HI) (bl1 _ _))).mono ?_
      rintro e w1 ⟨rfl, hy, hn⟩
      have HY := hide hy
      have HN := hide hn
      clear hy hn
      cases hpk : p k
      · go_wp2
        go_ret
        have hf := allB_f hlt hpk
        exact ⟨ret_bool hf.symm, fun h => absurd (hf.symm.trans h) (by decide), fun _ => unhide HN hpk⟩
      · go_wp2
        go_roundw
        case rel => exact ⟨k + 1, by omega, by go_num, unhide HY hpk, fun j hj => if e : j < k then unhide HA j e else (show j = k by omega) ▸ hpk⟩
        case measure => simp [intOf]; omega
    · obtain rfl : k = N := by omega
      go_wp2
      go_ret
      have ht := allB_t fun j hj => unhide HA j (by omega)
      exact ⟨ret_bool ht.symm, fun _ => hI, fun h => absurd (h.symm.trans ht) (by decide)⟩
set_option maxHeartbeats 1000000 in
theorem every_partsMayBe_2 (a : Option Addr) (cap : Nat) (xs : List Pa) (p : Nat → Bool) (I : Nat → World → Prop) (J : World → Prop) (w : World) (hn : xs.length ≤ 9223372036854775807)
    (hel : ∀ k wr, k < xs.length → I k wr → ∃ b o, a = some ⟨b, o, none⟩ ∧ RPa wr b (o + k * 3) (xs.getD k pa0))
    (hup : ∀ k wr wr', I k wr → Below wr.heap.size wr wr' → I k wr') (h0 : I 0 w)
    (hst : ∀ (k : Nat) (wr : World) (X : Pa) (ua : Option Addr) (un uc : Nat), k < xs.length → xs.getD k pa0 = X → I k wr → Ints wr (.slice ua un uc) X.sec → Calls Try.prog 127 #[paV X (.slice ua un uc)] wr fun e w' => e = .returned (.bool (p k)) ∧ (p k = true → I (k + 1) w') ∧ (p k = false → J w')) :
    Calls Try.prog 126 #[.slice a xs.length cap, .func (.func 127) #[] #[]] w fun e w' => e = .returned (.bool (allB xs.length p)) ∧ (allB xs.length p = true → I xs.length w') ∧ (allB xs.length p = false → J w') := by
  have HEL := hide hel
  have HUP := hide hup
  have HST := hide hst
  have H0 := hide h0
  clear hel hup hst h0
  obtain ⟨N, hN⟩ : ∃ N, xs.length = N := ⟨_, rfl⟩
  rw [hN] at hn HEL HST ⊢
  clear hN
  go_enter Try.func126, Try.ntmps126
  go_wp2
  go_loopw [6, 9] (fun _ i wr => ∃ k : Nat, k ≤ N ∧ i = .int .i64 k ∧ I k wr ∧ ∀ j, j < k → p j = true) (fun _ i _ => N - (intOf i).toNat)
  case atStart => exact ⟨0, Nat.zero_le _, rfl, unhide H0, fun j hj => absurd hj (Nat.not_lt_zero _)⟩
  case round =>
    obtain ⟨k, hk, rfl, hI, hall⟩ := hrel
    have HA := hide hall
    clear hall
    by_cases hlt : k < N
    · obtain ⟨b, o, rfl, r⟩ := unhide HEL k _ hlt hI
      obtain ⟨X, hX⟩ : ∃ X, xs.getD k pa0 = X := ⟨_, rfl⟩
      rw [hX] at r
      have HX := hide hX
      clear hX
      obtain ⟨U, hu, hi⟩ := r.c2
      obtain ⟨ua, uc, rfl, _⟩ := hi.form
      have HII := hide hi
      have c0 := r.c0
      have c1 := r.c1
      have HI := hide hI
      clear r hI hi
      go_wp2_with fail
      refine (unhide HST k _ X _ _ _ hlt (unhide HX) (unhide HUP _ _ _ (unhide HI) (bl1 _ _)) (Ints.up (bl1 _ _) (unhide HII))).mono ?_
      rintro e w1 ⟨rfl, hy, hn⟩
      have HY := hide hy
      have HN := hide hn
      clear hy hn
      cases hpk : p k
      · go_wp2
        go_ret
        have hf := allB_f hlt hpk
        exact ⟨ret_bool hf.symm, fun h => absurd (hf.symm.trans h) (by decide), fun _ => unhide HN hpk⟩
      · go_wp2
        go_roundw
        case rel => exact ⟨k + 1, by omega, by go_num, unhide HY hpk, fun j hj => if e : j < k then unhide HA j e else (show j = k by omega) ▸ hpk⟩
        case measure => simp [intOf]; omega
    · obtain rfl : k = N := by omega
      go_wp2
      go_ret
      have ht := allB_t fun j hj => unhide HA j (by omega)
      exact ⟨ret_bool ht.symm, fun _ => hI, fun h => absurd (h.symm.trans ht) (by decide)⟩
set_option maxHeartbeats 1000000 in
theorem every_everySector_2_1 (C1 : Value) (a : Option Addr) (cap : Nat) (xs : List Pa) (p : Nat → Bool) (I : Nat → World → Prop) (J : World → Prop) (w : World) (hn : xs.length ≤ 9223372036854775807)
    (hel : ∀ k wr, k < xs.length → I k wr → ∃ b o, a = some ⟨b, o, none⟩ ∧ RPa wr b (o + k * 3) (xs.getD k pa0))
    (hup : ∀ k wr wr', I k wr → Below wr.heap.size wr wr' → I k wr') (h0 : I 0 w)
    (hst : ∀ (k : Nat) (wr : World) (X : Pa) (ua : Option Addr) (un uc : Nat), k < xs.length → xs.getD k pa0 = X → I k wr → Ints wr (.slice ua un uc) X.sec → Calls Try.prog 133 #[paV X (.slice ua un uc), C1] wr fun e w' => e = .returned (.bool (p k)) ∧ (p k = true → I (k + 1) w') ∧ (p k = false → J w')) :
    Calls Try.prog 126 #[.slice a xs.length cap, .func (.func 133) #[] #[C1]] w fun e w' => e = .returned (.bool (allB xs.length p)) ∧ (allB xs.length p = true → I xs.length w') ∧ (allB xs.length p = false → J w') := by
  have HEL := hide hel
  have HUP := hide hup
  have HST := hide hst
  have H0 := hide h0
  clear hel hup hst h0
  obtain ⟨N, hN⟩ : ∃ N, xs.length = N := ⟨_, rfl⟩
  rw [hN] at hn HEL HST ⊢
  clear hN
  go_enter Try.func126, Try.ntmps126
  go_wp2
  go_loopw [6, 9] (fun _ i wr => ∃ k : Nat, k ≤ N ∧ i = .int .i64 k ∧ I k wr ∧ ∀ j, j < k → p j = true) (fun _ i _ => N - (intOf i).toNat)
  case atStart => exact ⟨0, Nat.zero_le _, rfl, unhide H0, fun j hj => absurd hj (Nat.not_lt_zero _)⟩
  case round =>
    obtain ⟨k, hk, rfl, hI, hall⟩ := hrel
    have HA := hide hall
    clear hall
    by_cases hlt : k < N
    · obtain ⟨b, o, rfl, r⟩ := unhide HEL k _ hlt hI
      obtain ⟨X, hX⟩ : ∃ X, xs.getD k pa0 = X := ⟨_, rfl⟩
      rw [hX] at r
      have HX := hide hX
      clear hX
      obtain ⟨U, hu, hi⟩ := r.c2
      obtain ⟨ua, uc, rfl, _⟩ := hi.form
      have HII := hide hi
      have c0 := r.c0
      have c1 := r.c1
      have HI := hide hI
      clear r hI hi
      go_wp2_with fail
      refine (unhide HST k _ X _ _ _ hlt (unhide HX) (unhide HUP _ _ _ (unhide HI) (bl1 _ _)) (Ints.up (bl1 _ _) (unhide HII))).mono ?_
      rintro e w1 ⟨rfl, hy, hn⟩
      have HY := hide hy
      have HN := hide hn
      clear hy hn
      cases hpk : p k
      · go_wp2
        go_ret
        have hf := allB_f hlt hpk
        exact ⟨ret_bool hf.symm, fun h => absurd (hf.symm.trans h) (by decide), fun _ => unhide HN hpk⟩
      · go_wp2
        go_roundw
        case rel => exact ⟨k + 1, by omega, by go_num, unhide HY hpk, fun j hj => if e : j < k then unhide HA j e else (show j = k by omega) ▸ hpk⟩
        case measure => simp [intOf]; omega
    · obtain rfl : k = N := by omega
      go_wp2
      go_ret
      have ht := allB_t fun j hj => unhide HA j (by omega)
      exact ⟨ret_bool ht.symm, fun _ => hI, fun h => absurd (h.symm.trans ht) (by decide)⟩
end Go.Proofs.Ytdalkkjojflakaa
