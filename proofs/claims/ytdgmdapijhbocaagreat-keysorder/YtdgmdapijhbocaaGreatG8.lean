/- slices.IndexFunc with the closures of state.Apply; findNull, findUpload, findAsk. -/
import Derived.Test.YtdgmdapijhbocaaGreatG3
import Derived.Test.YtdgmdapijhbocaaGreatG7
namespace Go.Proofs.YtdgmdapijhbocaaGreat
open Go.RowKit
set_option maxRecDepth 100000
set_option linter.unusedVariables false
set_option linter.unusedSimpArgs false
set_option maxHeartbeats 1000000 in
theorem index_findNull_1 (C1 C2 : Value) (a : Option Addr) (cap : Nat) (xs : List Ve) (p : Nat → Bool) (w : World) (hL : Lst RVe 12 ve0 w (.slice a xs.length cap) xs) (hn : xs.length ≤ 9223372036854775807)
    (hst : ∀ (k : Nat) (wr : World) (X : Ve) (ua : Option Addr) (un uc : Nat), k < xs.length → xs.getD k ve0 = X → Below w.heap.size w wr → Ints wr (.slice ua un uc) X.sec → Calls Tryz.prog 161 #[veV X (.slice ua un uc), C1, C2] wr fun e w' => e = .returned (.bool (p k)) ∧ Below wr.heap.size wr w') :
    Calls Tryz.prog 147 #[.slice a xs.length cap, .func (.func 161) #[] #[C1, C2]] w fun e w' => e = .returned (.int .i64 (firstI xs.length p)) ∧ Below w.heap.size w w' := by
  have HL := hide hL
  have HST := hide hst
  clear hL hst
  obtain ⟨N, hN⟩ : ∃ N, xs.length = N := ⟨_, rfl⟩
  have HN := hide hN
  rw [hN] at hn HL HST ⊢
  clear hN
  go_enter Tryz.func147, Tryz.ntmps147
  go_wp2
  go_loopw [5, 8] (fun _ i wr => ∃ k : Nat, k ≤ N ∧ i = .int .i64 k ∧ Below w.heap.size w wr ∧ ∀ j, j < k → p j = false) (fun _ i _ => N - (intOf i).toNat)
  case atStart => exact ⟨0, Nat.zero_le _, rfl, Below.refl _ _, fun j hj => absurd hj (Nat.not_lt_zero _)⟩
  case round =>
    obtain ⟨k, hk, rfl, hb, hall⟩ := hrel
    have HA := hide hall
    clear hall
    by_cases hlt : k < N
    · obtain ⟨b, o, rfl, r0⟩ := Lst.at (unhide HL) (i := k) (by rw [unhide HN]; exact hlt)
      obtain ⟨X, hX⟩ : ∃ X, xs.getD k ve0 = X := ⟨_, rfl⟩
      rw [hX] at r0
      have r := RVe.up hb r0
      have HX := hide hX
      clear hX r0
      have hI := hb
      obtain ⟨U, hu, hi⟩ := r.c8
      obtain ⟨ua, uc, rfl, _⟩ := hi.form
      have HII := hide hi
      have c0 := r.c0
      have c1 := r.c1
      have c2 := r.c2
      have c3 := r.c3
      have c4 := r.c4
      have c5 := r.c5
      have c6 := r.c6
      have c7 := r.c7
      have c8 := r.c9
      have c9 := r.c10
      have c10 := r.c11
      have HI := hide hI
      clear r hI hi
      go_wp2_with fail
      refine (unhide HST k _ X _ _ _ hlt (unhide HX) (unhide HI) (unhide HII)).mono ?_
      rintro e w1 ⟨rfl, hb1⟩
      cases hpk : p k
      · go_wp2
        go_roundw
        case rel => exact ⟨k + 1, by omega, by go_num, bl_trans hb hb1, fun j hj => if e : j < k then unhide HA j e else (show j = k by omega) ▸ hpk⟩
        case measure => simp [intOf]; omega
      · go_wp2
        go_ret
        exact ⟨ret_int (firstI_t hlt hpk (unhide HA)).symm, bl_trans hb hb1⟩
    · obtain rfl : k = N := by omega
      go_wp2
      go_ret
      exact ⟨ret_int (firstI_f (unhide HA)).symm, hb⟩
set_option maxHeartbeats 1000000 in
theorem index_findUpload_1 (C1 : Value) (a : Option Addr) (cap : Nat) (xs : List Up) (p : Nat → Bool) (w : World) (hL : Lst RUp 4 up0 w (.slice a xs.length cap) xs) (hn : xs.length ≤ 9223372036854775807)
    (hst : ∀ (k : Nat) (wr : World) (X : Up) (ua : Option Addr) (un uc : Nat), k < xs.length → xs.getD k up0 = X → Below w.heap.size w wr → Lst RPa 3 pa0 wr (.slice ua un uc) X.parts → Calls Tryz.prog 168 #[upV X (.slice ua un uc), C1] wr fun e w' => e = .returned (.bool (p k)) ∧ Below wr.heap.size wr w') :
    Calls Tryz.prog 167 #[.slice a xs.length cap, .func (.func 168) #[] #[C1]] w fun e w' => e = .returned (.int .i64 (firstI xs.length p)) ∧ Below w.heap.size w w' := by
  have HL := hide hL
  have HST := hide hst
  clear hL hst
  obtain ⟨N, hN⟩ : ∃ N, xs.length = N := ⟨_, rfl⟩
  have HN := hide hN
  rw [hN] at hn HL HST ⊢
  clear hN
  go_enter Tryz.func167, Tryz.ntmps167
  go_wp2
  go_loopw [5, 8] (fun _ i wr => ∃ k : Nat, k ≤ N ∧ i = .int .i64 k ∧ Below w.heap.size w wr ∧ ∀ j, j < k → p j = false) (fun _ i _ => N - (intOf i).toNat)
  case atStart => exact ⟨0, Nat.zero_le _, rfl, Below.refl _ _, fun j hj => absurd hj (Nat.not_lt_zero _)⟩
  case round =>
    obtain ⟨k, hk, rfl, hb, hall⟩ := hrel
    have HA := hide hall
    clear hall
    by_cases hlt : k < N
    · obtain ⟨b, o, rfl, r0⟩ := Lst.at (unhide HL) (i := k) (by rw [unhide HN]; exact hlt)
      obtain ⟨X, hX⟩ : ∃ X, xs.getD k up0 = X := ⟨_, rfl⟩
      rw [hX] at r0
      have r := RUp.up hb r0
      have HX := hide hX
      clear hX r0
      have hI := hb
      obtain ⟨U, hu, hi⟩ := r.c3
      obtain ⟨ua, uc, rfl, _⟩ := hi.form
      have HII := hide hi
      have c0 := r.c0
      have c1 := r.c1
      have c2 := r.c2
      have HI := hide hI
      clear r hI hi
      go_wp2_with fail
      refine (unhide HST k _ X _ _ _ hlt (unhide HX) (unhide HI) (unhide HII)).mono ?_
      rintro e w1 ⟨rfl, hb1⟩
      cases hpk : p k
      · go_wp2
        go_roundw
        case rel => exact ⟨k + 1, by omega, by go_num, bl_trans hb hb1, fun j hj => if e : j < k then unhide HA j e else (show j = k by omega) ▸ hpk⟩
        case measure => simp [intOf]; omega
      · go_wp2
        go_ret
        exact ⟨ret_int (firstI_t hlt hpk (unhide HA)).symm, bl_trans hb hb1⟩
    · obtain rfl : k = N := by omega
      go_wp2
      go_ret
      exact ⟨ret_int (firstI_f (unhide HA)).symm, hb⟩
set_option maxHeartbeats 1000000 in
theorem index_findAsk_1 (C1 : Value) (a : Option Addr) (cap : Nat) (xs : List Ak) (p : Nat → Bool) (w : World) (hL : Lst RAk 3 ak0 w (.slice a xs.length cap) xs) (hn : xs.length ≤ 9223372036854775807)
    (hst : ∀ (k : Nat) (wr : World) (X : Ak), k < xs.length → xs.getD k ak0 = X → Below w.heap.size w wr → Calls Tryz.prog 164 #[akV X, C1] wr fun e w' => e = .returned (.bool (p k)) ∧ Below wr.heap.size wr w') :
    Calls Tryz.prog 163 #[.slice a xs.length cap, .func (.func 164) #[] #[C1]] w fun e w' => e = .returned (.int .i64 (firstI xs.length p)) ∧ Below w.heap.size w w' := by
  have HL := hide hL
  have HST := hide hst
  clear hL hst
  obtain ⟨N, hN⟩ : ∃ N, xs.length = N := ⟨_, rfl⟩
  have HN := hide hN
  rw [hN] at hn HL HST ⊢
  clear hN
  go_enter Tryz.func163, Tryz.ntmps163
  go_wp2
  go_loopw [5, 8] (fun _ i wr => ∃ k : Nat, k ≤ N ∧ i = .int .i64 k ∧ Below w.heap.size w wr ∧ ∀ j, j < k → p j = false) (fun _ i _ => N - (intOf i).toNat)
  case atStart => exact ⟨0, Nat.zero_le _, rfl, Below.refl _ _, fun j hj => absurd hj (Nat.not_lt_zero _)⟩
  case round =>
    obtain ⟨k, hk, rfl, hb, hall⟩ := hrel
    have HA := hide hall
    clear hall
    by_cases hlt : k < N
    · obtain ⟨b, o, rfl, r0⟩ := Lst.at (unhide HL) (i := k) (by rw [unhide HN]; exact hlt)
      obtain ⟨X, hX⟩ : ∃ X, xs.getD k ak0 = X := ⟨_, rfl⟩
      rw [hX] at r0
      have r := RAk.up hb r0
      have HX := hide hX
      clear hX r0
      have hI := hb
      have c0 := r.c0
      have c1 := r.c1
      have c2 := r.c2
      have HI := hide hI
      clear r hI
      go_wp2_with fail
      refine (unhide HST k _ X hlt (unhide HX) (unhide HI)).mono ?_
      rintro e w1 ⟨rfl, hb1⟩
      cases hpk : p k
      · go_wp2
        go_roundw
        case rel => exact ⟨k + 1, by omega, by go_num, bl_trans hb hb1, fun j hj => if e : j < k then unhide HA j e else (show j = k by omega) ▸ hpk⟩
        case measure => simp [intOf]; omega
      · go_wp2
        go_ret
        exact ⟨ret_int (firstI_t hlt hpk (unhide HA)).symm, bl_trans hb hb1⟩
    · obtain rfl : k = N := by omega
      go_wp2
      go_ret
      exact ⟨ret_int (firstI_f (unhide HA)).symm, hb⟩
set_option maxHeartbeats 1000000 in
theorem index_addBucket_1 (C1 : Value) (a : Option Addr) (cap : Nat) (xs : List Bu) (p : Nat → Bool) (w : World) (hL : Lst RBu 5 bu0 w (.slice a xs.length cap) xs) (hn : xs.length ≤ 9223372036854775807)
    (hst : ∀ (k : Nat) (wr : World) (X : Bu), k < xs.length → xs.getD k bu0 = X → Below w.heap.size w wr → Calls Tryz.prog 120 #[buV X, C1] wr fun e w' => e = .returned (.bool (p k)) ∧ Below wr.heap.size wr w') :
    Calls Tryz.prog 152 #[.slice a xs.length cap, .func (.func 120) #[] #[C1]] w fun e w' => e = .returned (.int .i64 (firstI xs.length p)) ∧ Below w.heap.size w w' := by
  have HL := hide hL
  have HST := hide hst
  clear hL hst
  obtain ⟨N, hN⟩ : ∃ N, xs.length = N := ⟨_, rfl⟩
  have HN := hide hN
  rw [hN] at hn HL HST ⊢
  clear hN
  go_enter Tryz.func152, Tryz.ntmps152
  go_wp2
  go_loopw [5, 8] (fun _ i wr => ∃ k : Nat, k ≤ N ∧ i = .int .i64 k ∧ Below w.heap.size w wr ∧ ∀ j, j < k → p j = false) (fun _ i _ => N - (intOf i).toNat)
  case atStart => exact ⟨0, Nat.zero_le _, rfl, Below.refl _ _, fun j hj => absurd hj (Nat.not_lt_zero _)⟩
  case round =>
    obtain ⟨k, hk, rfl, hb, hall⟩ := hrel
    have HA := hide hall
    clear hall
    by_cases hlt : k < N
    · obtain ⟨b, o, rfl, r0⟩ := Lst.at (unhide HL) (i := k) (by rw [unhide HN]; exact hlt)
      obtain ⟨X, hX⟩ : ∃ X, xs.getD k bu0 = X := ⟨_, rfl⟩
      rw [hX] at r0
      have r := RBu.up hb r0
      have HX := hide hX
      clear hX r0
      have hI := hb
      have c0 := r.c0
      have c1 := r.c1
      have c2 := r.c2
      have c3 := r.c3
      have c4 := r.c4
      have HI := hide hI
      clear r hI
      go_wp2_with fail
      refine (unhide HST k _ X hlt (unhide HX) (unhide HI)).mono ?_
      rintro e w1 ⟨rfl, hb1⟩
      cases hpk : p k
      · go_wp2
        go_roundw
        case rel => exact ⟨k + 1, by omega, by go_num, bl_trans hb hb1, fun j hj => if e : j < k then unhide HA j e else (show j = k by omega) ▸ hpk⟩
        case measure => simp [intOf]; omega
      · go_wp2
        go_ret
        exact ⟨ret_int (firstI_t hlt hpk (unhide HA)).symm, bl_trans hb hb1⟩
    · obtain rfl : k = N := by omega
      go_wp2
      go_ret
      exact ⟨ret_int (firstI_f (unhide HA)).symm, hb⟩
set_option maxHeartbeats 1000000 in
theorem index_addPart_1 (C1 : Value) (a : Option Addr) (cap : Nat) (xs : List Pa) (p : Nat → Bool) (w : World) (hL : Lst RPa 3 pa0 w (.slice a xs.length cap) xs) (hn : xs.length ≤ 9223372036854775807)
    (hst : ∀ (k : Nat) (wr : World) (X : Pa) (ua : Option Addr) (un uc : Nat), k < xs.length → xs.getD k pa0 = X → Below w.heap.size w wr → Ints wr (.slice ua un uc) X.sec → Calls Tryz.prog 129 #[paV X (.slice ua un uc), C1] wr fun e w' => e = .returned (.bool (p k)) ∧ Below wr.heap.size wr w') :
    Calls Tryz.prog 169 #[.slice a xs.length cap, .func (.func 129) #[] #[C1]] w fun e w' => e = .returned (.int .i64 (firstI xs.length p)) ∧ Below w.heap.size w w' := by
  have HL := hide hL
  have HST := hide hst
  clear hL hst
  obtain ⟨N, hN⟩ : ∃ N, xs.length = N := ⟨_, rfl⟩
  have HN := hide hN
  rw [hN] at hn HL HST ⊢
  clear hN
  go_enter Tryz.func169, Tryz.ntmps169
  go_wp2
  go_loopw [5, 8] (fun _ i wr => ∃ k : Nat, k ≤ N ∧ i = .int .i64 k ∧ Below w.heap.size w wr ∧ ∀ j, j < k → p j = false) (fun _ i _ => N - (intOf i).toNat)
  case atStart => exact ⟨0, Nat.zero_le _, rfl, Below.refl _ _, fun j hj => absurd hj (Nat.not_lt_zero _)⟩
  case round =>
    obtain ⟨k, hk, rfl, hb, hall⟩ := hrel
    have HA := hide hall
    clear hall
    by_cases hlt : k < N
    · obtain ⟨b, o, rfl, r0⟩ := Lst.at (unhide HL) (i := k) (by rw [unhide HN]; exact hlt)
      obtain ⟨X, hX⟩ : ∃ X, xs.getD k pa0 = X := ⟨_, rfl⟩
      rw [hX] at r0
      have r := RPa.up hb r0
      have HX := hide hX
      clear hX r0
      have hI := hb
      obtain ⟨U, hu, hi⟩ := r.c2
      obtain ⟨ua, uc, rfl, _⟩ := hi.form
      have HII := hide hi
      have c0 := r.c0
      have c1 := r.c1
      have HI := hide hI
      clear r hI hi
      go_wp2_with fail
      refine (unhide HST k _ X _ _ _ hlt (unhide HX) (unhide HI) (unhide HII)).mono ?_
      rintro e w1 ⟨rfl, hb1⟩
      cases hpk : p k
      · go_wp2
        go_roundw
        case rel => exact ⟨k + 1, by omega, by go_num, bl_trans hb hb1, fun j hj => if e : j < k then unhide HA j e else (show j = k by omega) ▸ hpk⟩
        case measure => simp [intOf]; omega
      · go_wp2
        go_ret
        exact ⟨ret_int (firstI_t hlt hpk (unhide HA)).symm, bl_trans hb hb1⟩
    · obtain rfl : k = N := by omega
      go_wp2
      go_ret
      exact ⟨ret_int (firstI_f (unhide HA)).symm, hb⟩
set_option maxHeartbeats 1000000 in
theorem index_addPart_2 (C1 : Value) (a : Option Addr) (cap : Nat) (xs : List Pa) (p : Nat → Bool) (w : World) (hL : Lst RPa 3 pa0 w (.slice a xs.length cap) xs) (hn : xs.length ≤ 9223372036854775807)
    (hst : ∀ (k : Nat) (wr : World) (X : Pa) (ua : Option Addr) (un uc : Nat), k < xs.length → xs.getD k pa0 = X → Below w.heap.size w wr → Ints wr (.slice ua un uc) X.sec → Calls Tryz.prog 131 #[paV X (.slice ua un uc), C1] wr fun e w' => e = .returned (.bool (p k)) ∧ Below wr.heap.size wr w') :
    Calls Tryz.prog 169 #[.slice a xs.length cap, .func (.func 131) #[] #[C1]] w fun e w' => e = .returned (.int .i64 (firstI xs.length p)) ∧ Below w.heap.size w w' := by
  have HL := hide hL
  have HST := hide hst
  clear hL hst
  obtain ⟨N, hN⟩ : ∃ N, xs.length = N := ⟨_, rfl⟩
  have HN := hide hN
  rw [hN] at hn HL HST ⊢
  clear hN
  go_enter Tryz.func169, Tryz.ntmps169
  go_wp2
  go_loopw [5, 8] (fun _ i wr => ∃ k : Nat, k ≤ N ∧ i = .int .i64 k ∧ Below w.heap.size w wr ∧ ∀ j, j < k → p j = false) (fun _ i _ => N - (intOf i).toNat)
  case atStart => exact ⟨0, Nat.zero_le _, rfl, Below.refl _ _, fun j hj => absurd hj (Nat.not_lt_zero _)⟩
  case round =>
    obtain ⟨k, hk, rfl, hb, hall⟩ := hrel
    have HA := hide hall
    clear hall
    by_cases hlt : k < N
    · obtain ⟨b, o, rfl, r0⟩ := Lst.at (unhide HL) (i := k) (by rw [unhide HN]; exact hlt)
      obtain ⟨X, hX⟩ : ∃ X, xs.getD k pa0 = X := ⟨_, rfl⟩
      rw [hX] at r0
      have r := RPa.up hb r0
      have HX := hide hX
      clear hX r0
      have hI := hb
      obtain ⟨U, hu, hi⟩ := r.c2
      obtain ⟨ua, uc, rfl, _⟩ := hi.form
      have HII := hide hi
      have c0 := r.c0
      have c1 := r.c1
      have HI := hide hI
      clear r hI hi
      go_wp2_with fail
      refine (unhide HST k _ X _ _ _ hlt (unhide HX) (unhide HI) (unhide HII)).mono ?_
      rintro e w1 ⟨rfl, hb1⟩
      cases hpk : p k
      · go_wp2
        go_roundw
        case rel => exact ⟨k + 1, by omega, by go_num, bl_trans hb hb1, fun j hj => if e : j < k then unhide HA j e else (show j = k by omega) ▸ hpk⟩
        case measure => simp [intOf]; omega
      · go_wp2
        go_ret
        exact ⟨ret_int (firstI_t hlt hpk (unhide HA)).symm, bl_trans hb hb1⟩
    · obtain rfl : k = N := by omega
      go_wp2
      go_ret
      exact ⟨ret_int (firstI_f (unhide HA)).symm, hb⟩
set_option maxHeartbeats 1000000 in
theorem index_giveUp_1 (C1 : Value) (a : Option Addr) (cap : Nat) (xs : List Int) (p : Nat → Bool) (w : World) (hL : Lst RInt 1 0 w (.slice a xs.length cap) xs) (hn : xs.length ≤ 9223372036854775807)
    (hst : ∀ (k : Nat) (wr : World) (X : Int), k < xs.length → xs.getD k 0 = X → Below w.heap.size w wr → (Lit.int .i64 X).wf = true → Calls Tryz.prog 135 #[.int .i64 X, C1] wr fun e w' => e = .returned (.bool (p k)) ∧ Below wr.heap.size wr w') :
    Calls Tryz.prog 171 #[.slice a xs.length cap, .func (.func 135) #[] #[C1]] w fun e w' => e = .returned (.int .i64 (firstI xs.length p)) ∧ Below w.heap.size w w' := by
  have HL := hide hL
  have HST := hide hst
  clear hL hst
  obtain ⟨N, hN⟩ : ∃ N, xs.length = N := ⟨_, rfl⟩
  have HN := hide hN
  rw [hN] at hn HL HST ⊢
  clear hN
  go_enter Tryz.func171, Tryz.ntmps171
  go_wp2
  go_loopw [5, 8] (fun _ i wr => ∃ k : Nat, k ≤ N ∧ i = .int .i64 k ∧ Below w.heap.size w wr ∧ ∀ j, j < k → p j = false) (fun _ i _ => N - (intOf i).toNat)
  case atStart => exact ⟨0, Nat.zero_le _, rfl, Below.refl _ _, fun j hj => absurd hj (Nat.not_lt_zero _)⟩
  case round =>
    obtain ⟨k, hk, rfl, hb, hall⟩ := hrel
    have HA := hide hall
    clear hall
    by_cases hlt : k < N
    · obtain ⟨b, o, rfl, r0⟩ := Lst.at (unhide HL) (i := k) (by rw [unhide HN]; exact hlt)
      obtain ⟨X, hX⟩ : ∃ X, xs.getD k 0 = X := ⟨_, rfl⟩
      rw [hX] at r0
      have r := RInt.up hb r0
      have HX := hide hX
      clear hX r0
      have hI := hb
      have c0 := r.1
      rw [Nat.mul_one] at c0
      have HW := hide r.2
      have HI := hide hI
      clear r hI
      go_wp2_with fail
      refine (unhide HST k _ X hlt (unhide HX) (unhide HI) (unhide HW)).mono ?_
      rintro e w1 ⟨rfl, hb1⟩
      cases hpk : p k
      · go_wp2
        go_roundw
        case rel => exact ⟨k + 1, by omega, by go_num, bl_trans hb hb1, fun j hj => if e : j < k then unhide HA j e else (show j = k by omega) ▸ hpk⟩
        case measure => simp [intOf]; omega
      · go_wp2
        go_ret
        exact ⟨ret_int (firstI_t hlt hpk (unhide HA)).symm, bl_trans hb hb1⟩
    · obtain rfl : k = N := by omega
      go_wp2
      go_ret
      exact ⟨ret_int (firstI_f (unhide HA)).symm, hb⟩
set_option maxHeartbeats 1000000 in
theorem index_unask_1 (C1 : Value) (a : Option Addr) (cap : Nat) (xs : List Ak) (p : Nat → Bool) (w : World) (hL : Lst RAk 3 ak0 w (.slice a xs.length cap) xs) (hn : xs.length ≤ 9223372036854775807)
    (hst : ∀ (k : Nat) (wr : World) (X : Ak), k < xs.length → xs.getD k ak0 = X → Below w.heap.size w wr → Calls Tryz.prog 166 #[akV X, C1] wr fun e w' => e = .returned (.bool (p k)) ∧ Below wr.heap.size wr w') :
    Calls Tryz.prog 163 #[.slice a xs.length cap, .func (.func 166) #[] #[C1]] w fun e w' => e = .returned (.int .i64 (firstI xs.length p)) ∧ Below w.heap.size w w' := by
  have HL := hide hL
  have HST := hide hst
  clear hL hst
  obtain ⟨N, hN⟩ : ∃ N, xs.length = N := ⟨_, rfl⟩
  have HN := hide hN
  rw [hN] at hn HL HST ⊢
  clear hN
  go_enter Tryz.func163, Tryz.ntmps163
  go_wp2
  go_loopw [5, 8] (fun _ i wr => ∃ k : Nat, k ≤ N ∧ i = .int .i64 k ∧ Below w.heap.size w wr ∧ ∀ j, j < k → p j = false) (fun _ i _ => N - (intOf i).toNat)
  case atStart => exact ⟨0, Nat.zero_le _, rfl, Below.refl _ _, fun j hj => absurd hj (Nat.not_lt_zero _)⟩
  case round =>
    obtain ⟨k, hk, rfl, hb, hall⟩ := hrel
    have HA := hide hall
    clear hall
    by_cases hlt : k < N
    · obtain ⟨b, o, rfl, r0⟩ := Lst.at (unhide HL) (i := k) (by rw [unhide HN]; exact hlt)
      obtain ⟨X, hX⟩ : ∃ X, xs.getD k ak0 = X := ⟨_, rfl⟩
      rw [hX] at r0
      have r := RAk.up hb r0
      have HX := hide hX
      clear hX r0
      have hI := hb
      have c0 := r.c0
      have c1 := r.c1
      have c2 := r.c2
      have HI := hide hI
      clear r hI
      go_wp2_with fail
      refine (unhide HST k _ X hlt (unhide HX) (unhide HI)).mono ?_
      rintro e w1 ⟨rfl, hb1⟩
      cases hpk : p k
      · go_wp2
        go_roundw
        case rel => exact ⟨k + 1, by omega, by go_num, bl_trans hb hb1, fun j hj => if e : j < k then unhide HA j e else (show j = k by omega) ▸ hpk⟩
        case measure => simp [intOf]; omega
      · go_wp2
        go_ret
        exact ⟨ret_int (firstI_t hlt hpk (unhide HA)).symm, bl_trans hb hb1⟩
    · obtain rfl : k = N := by omega
      go_wp2
      go_ret
      exact ⟨ret_int (firstI_f (unhide HA)).symm, hb⟩
def gtS (a b : ByteArray) : Bool := !Op.bytesLess a.toList b.toList && !a.toList == b.toList
theorem findUpload_1 (X : Up) (ua : Option Addr) (un uc : Nat) (n : Int) (B : Nat) (w : World) (h : w.cell? ⟨B, 0, none⟩ = some (.int .i64 n)) : Calls Tryz.prog 168 #[upV X (.slice ua un uc), .pointer (some ⟨B, 0, none⟩)] w fun e w' => e = .returned (.bool (X.id == n)) ∧ Below w.heap.size w w' := by
  have hB0 := World.block_lt_of_cell? w _ h
  simp at hB0
  go_enter Tryz.func168, Tryz.ntmps168
  go_wp2
  go_ret
  exact ⟨rfl, bl1 _ _⟩
theorem findAsk_1 (X : Ak) (n : Int) (B : Nat) (w : World) (h : w.cell? ⟨B, 0, none⟩ = some (.int .i64 n)) : Calls Tryz.prog 164 #[akV X, .pointer (some ⟨B, 0, none⟩)] w fun e w' => e = .returned (.bool (X.ver == n)) ∧ Below w.heap.size w w' := by
  have hB0 := World.block_lt_of_cell? w _ h
  simp at hB0
  go_enter Tryz.func164, Tryz.ntmps164
  go_wp2
  go_ret
  exact ⟨rfl, bl1 _ _⟩
theorem unask_1 (X : Ak) (n : Int) (B : Nat) (w : World) (h : w.cell? ⟨B, 0, none⟩ = some (.int .i64 n)) : Calls Tryz.prog 166 #[akV X, .pointer (some ⟨B, 0, none⟩)] w fun e w' => e = .returned (.bool (X.ver == n)) ∧ Below w.heap.size w w' := by
  have hB0 := World.block_lt_of_cell? w _ h
  simp at hB0
  go_enter Tryz.func166, Tryz.ntmps166
  go_wp2
  go_ret
  exact ⟨rfl, bl1 _ _⟩
theorem addBucket_1 (X : Bu) (nm : ByteArray) (B : Nat) (w : World) (h : w.cell? ⟨B, 0, none⟩ = some (.string nm)) : Calls Tryz.prog 120 #[buV X, .pointer (some ⟨B, 0, none⟩)] w fun e w' => e = .returned (.bool (gtS X.nam nm)) ∧ Below w.heap.size w w' := by
  have hB0 := World.block_lt_of_cell? w _ h
  simp at hB0
  go_enter Tryz.func120, Tryz.ntmps120
  go_wp2
  go_ret
  exact ⟨rfl, bl1 _ _⟩
theorem addPart_1 (X : Pa) (ua : Option Addr) (un uc : Nat) (n : Int) (B : Nat) (w : World) (h : w.cell? ⟨B, 0, none⟩ = some (.int .i64 n)) : Calls Tryz.prog 129 #[paV X (.slice ua un uc), .pointer (some ⟨B, 0, none⟩)] w fun e w' => e = .returned (.bool (X.n == n)) ∧ Below w.heap.size w w' := by
  have hB0 := World.block_lt_of_cell? w _ h
  simp at hB0
  go_enter Tryz.func129, Tryz.ntmps129
  go_wp2
  go_ret
  exact ⟨rfl, bl1 _ _⟩
theorem addPart_2 (X : Pa) (ua : Option Addr) (un uc : Nat) (n : Int) (B : Nat) (w : World) (h : w.cell? ⟨B, 0, none⟩ = some (.int .i64 n)) : Calls Tryz.prog 131 #[paV X (.slice ua un uc), .pointer (some ⟨B, 0, none⟩)] w fun e w' => e = .returned (.bool (decide (n < X.n))) ∧ Below w.heap.size w w' := by
  have hB0 := World.block_lt_of_cell? w _ h
  simp at hB0
  go_enter Tryz.func131, Tryz.ntmps131
  go_wp2
  go_ret
  exact ⟨rfl, bl1 _ _⟩
theorem giveUp_1 (X n : Int) (B : Nat) (w : World) (h : w.cell? ⟨B, 0, none⟩ = some (.int .i64 n)) : Calls Tryz.prog 135 #[.int .i64 X, .pointer (some ⟨B, 0, none⟩)] w fun e w' => e = .returned (.bool (decide (n < X))) ∧ Below w.heap.size w w' := by
  have hB0 := World.block_lt_of_cell? w _ h
  simp at hB0
  go_enter Tryz.func135, Tryz.ntmps135
  go_wp2
  go_ret
  exact ⟨rfl, Below.refl _ _⟩
def nulP (l : List Ve) (bu ke : ByteArray) (i : Nat) : Bool := (l.getD i ve0).nul && eqS (l.getD i ve0).bu bu && eqS (l.getD i ve0).ke ke
theorem findNull_1 (X : Ve) (ua : Option Addr) (un uc : Nat) (bu ke : ByteArray) (B C : Nat) (w : World) (h : w.cell? ⟨B, 0, none⟩ = some (.string bu)) (h2 : w.cell? ⟨C, 0, none⟩ = some (.string ke)) :
    Calls Tryz.prog 161 #[veV X (.slice ua un uc), .pointer (some ⟨B, 0, none⟩), .pointer (some ⟨C, 0, none⟩)] w fun e w' => e = .returned (.bool (X.nul && eqS X.bu bu && eqS X.ke ke)) ∧ Below w.heap.size w w' := by
  have hB := World.block_lt_of_cell? w _ h
  have hC := World.block_lt_of_cell? w _ h2
  simp at hB hC
  obtain ⟨N, hN⟩ : ∃ N, X.nul = N := ⟨_, rfl⟩
  rw [hN]
  have HE : Hid ((N && eqS X.bu bu && eqS X.ke ke) = (N && (X.bu.toList == bu.toList) && (X.ke.toList == ke.toList))) := rfl
  have c3 : veV X (.slice ua un uc) = .agg #[.int .i64 X.id, .string X.bu, .string X.ke, .bool N, .bool X.mar, .int .i64 X.size, .int .i64 X.time, .int .i64 X.tier, .slice ua un uc, .int .i64 X.vol, .int .i64 X.pos, .int .i64 X.til] := by rw [← hN]
  rw [c3]
  clear c3 hN
  cases N
  · go_enter Tryz.func161, Tryz.ntmps161
    go_wp2
    go_ret
    exact ⟨rfl, bl1 _ _⟩
  · cases t : (X.bu.toList == bu.toList)
    · rw [t] at HE
      go_enter Tryz.func161, Tryz.ntmps161
      go_wp2
      go_ret
      exact ⟨ret_bool (by rw [unhide HE]; rfl), bl1 _ _⟩
    · rw [t] at HE
      go_enter Tryz.func161, Tryz.ntmps161
      go_wp2
      go_ret
      exact ⟨ret_bool (by rw [unhide HE]; rfl), bl1 _ _⟩
theorem findNull_any (S : St) (b v u q g : Value) (bu ke : ByteArray) (w : World) (hB : Lst RVe 12 ve0 w v S.ves) :
    Calls Tryz.prog 122 #[stV S b v u q g, .string bu, .string ke] w fun e w' => e = .returned (.int .i64 (firstI S.ves.length (nulP S.ves bu ke))) ∧ Below w.heap.size w w' := by
  obtain ⟨a, cap, rfl, h1, h2⟩ := hB.form
  unfold maxLen at h2
  have HB := hide hB
  clear hB
  go_enter Tryz.func122, Tryz.ntmps122
  go_wp2_with fail
  refine (index_findNull_1 _ _ a cap S.ves (nulP S.ves bu ke) _ ((unhide HB).imp fun _ _ _ r => RVe.up (bl_alloc (bl_alloc (bl1 _ _) _) _) r) (by omega) (fun k wr X ua un uc hk e hI hi => by subst e; exact findNull_1 _ ua un uc bu ke _ _ _ (by rw [hI.cell (by simp)]; simp [World.cell?_alloc_at, World.cell?_alloc_past]) (by rw [hI.cell (by simp)]; simp [World.cell?_alloc_at]))).mono ?_
  rintro e w1 ⟨rfl, hb⟩
  go_wp2
  go_ret
  exact ⟨rfl, bl_trans (bl_alloc (bl_alloc (bl1 _ _) _) _) hb⟩
def upP (l : List Up) (n : Int) (i : Nat) : Bool := (l.getD i up0).id == n
def akP (l : List Ak) (n : Int) (i : Nat) : Bool := (l.getD i ak0).ver == n
theorem findUpload_any (S : St) (b v u q g : Value) (n : Int) (w : World) (hB : Lst RUp 4 up0 w u S.ups) :
    Calls Tryz.prog 127 #[stV S b v u q g, .int .i64 n] w fun e w' => e = .returned (.int .i64 (firstI S.ups.length (upP S.ups n))) ∧ Below w.heap.size w w' := by
  obtain ⟨a, cap, rfl, h1, h2⟩ := hB.form
  unfold maxLen at h2
  have HB := hide hB
  clear hB
  go_enter Tryz.func127, Tryz.ntmps127
  go_wp2_with fail
  refine (index_findUpload_1 _ a cap S.ups (upP S.ups n) _ ((unhide HB).imp fun _ _ _ r => RUp.up (bl_alloc (bl1 _ _) _) r) (by omega) (fun k wr X ua un uc hk e hI hi => by subst e; exact findUpload_1 _ ua un uc n _ _ (by rw [hI.cell (by simp)]; simp [World.cell?_alloc_at]))).mono ?_
  rintro e w1 ⟨rfl, hb⟩
  go_wp2
  go_ret
  exact ⟨rfl, bl_trans (bl_alloc (bl1 _ _) _) hb⟩
theorem findAsk_any (S : St) (b v u q g : Value) (n : Int) (w : World) (hB : Lst RAk 3 ak0 w q S.que) :
    Calls Tryz.prog 125 #[stV S b v u q g, .int .i64 n] w fun e w' => e = .returned (.int .i64 (firstI S.que.length (akP S.que n))) ∧ Below w.heap.size w w' := by
  obtain ⟨a, cap, rfl, h1, h2⟩ := hB.form
  unfold maxLen at h2
  have HB := hide hB
  clear hB
  go_enter Tryz.func125, Tryz.ntmps125
  go_wp2_with fail
  refine (index_findAsk_1 _ a cap S.que (akP S.que n) _ ((unhide HB).imp fun _ _ _ r => RAk.up (bl_alloc (bl1 _ _) _) r) (by omega) (fun k wr X hk e hI => by subst e; exact findAsk_1 _ n _ _ (by rw [hI.cell (by simp)]; simp [World.cell?_alloc_at]))).mono ?_
  rintro e w1 ⟨rfl, hb⟩
  go_wp2
  go_ret
  exact ⟨rfl, bl_trans (bl_alloc (bl1 _ _) _) hb⟩
end Go.Proofs.YtdgmdapijhbocaaGreat

/- slices.DeleteFunc at asks and at parts, on rows of one's own. -/
namespace Go.Proofs.YtdgmdapijhbocaaGreat
open Go.RowKit Go.Maps
set_option maxRecDepth 100000
set_option linter.unusedVariables false
set_option linter.unusedSimpArgs false
theorem ret_sl {p : Option Addr} {a b c : Nat} (h : a = b) : Ending.returned (.slice p a c) = .returned (.slice p b c) := by rw [h]
theorem Keeps_gb {w w' : World} {g B : Nat} (hg : w.grownBy w' (some g)) (hne : B ≠ g) {i : Nat} {v : Value} (h : w.cell? ⟨B, i, none⟩ = some v) : w'.cell? ⟨B, i, none⟩ = some v := by
  have hb := World.block_lt_of_cell? w _ h
  have hh := hg.block B hb (by simpa using hne)
  rw [← h]
  simp only [World.cell?, hh]
theorem row_own {w : World} {g cap n k : Nat} {T : TypeId} {xs sp : List Value} (hrow : w.heap[g]? = some (.cells (xs ++ sp).toArray T (0, 0))) (hx : xs.length = n * k) (hs : xs.length + sp.length = cap * k) (hn : n ≤ cap) (hcap : cap ≤ 9223372036854775807) : w.ownsRow 0 T k (.slice (some ⟨g, 0, none⟩) n cap) n xs :=
  ⟨hx, .inr ⟨g, cap, _, rfl, Nat.zero_le _, hrow, hn, by unfold maxLen; omega, by simpa using hs, by rw [← hx]; simp⟩⟩
theorem firstI_lt (n : Nat) (p : Nat → Bool) : -1 ≤ firstI n p ∧ firstI n p < n := by
  rcases firstI_cases n p with ⟨h, _⟩ | ⟨k, hk, h, _⟩ <;> omega
theorem flat_split {α : Type} (C : α → List Value) (d : α) (xs : List α) {j : Nat} (h : j < xs.length) : xs.flatMap C = (xs.take j).flatMap C ++ C (xs.getD j d) ++ (xs.drop (j + 1)).flatMap C := by
  have e : xs = xs.take j ++ [xs.getD j d] ++ xs.drop (j + 1) := by
    rw [List.getD_eq_getElem?_getD, List.getElem?_eq_getElem h]
    simp [List.append_assoc]
  conv => lhs; rw [e]
  simp [List.flatMap_append]
theorem drop_split {α : Type} (C : α → List Value) (d : α) (xs : List α) {j : Nat} (h : j < xs.length) : (xs.drop j).flatMap C = C (xs.getD j d) ++ (xs.drop (j + 1)).flatMap C := by
  rw [List.drop_eq_getElem_cons h, List.flatMap_cons, List.getD_eq_getElem?_getD, List.getElem?_eq_getElem h]
  rfl
theorem zAk_run (w : World) : (zeroValue 43).run Tryz.prog w = .ok (.agg #[.int .i64 0, .int .i64 0, .int .i64 0]) w := by kernel_rfl
theorem zPa_run (w : World) : (zeroValue 45).run Tryz.prog w = .ok (.agg #[.int .i64 0, .int .i64 0, .slice none 0 0]) w := by kernel_rfl
theorem filt_takeA (xs : List Ak) (q : Ak → Bool) {j : Nat} (h : j < xs.length) : (xs.take (j + 1)).filter q = (xs.take j).filter q ++ (if q (xs.getD j ak0) then [xs.getD j ak0] else []) := by
  have e : xs.take (j + 1) = xs.take j ++ [xs.getD j ak0] := by
    rw [List.take_succ_eq_append_getElem h, List.getD_eq_getElem?_getD, List.getElem?_eq_getElem h]; rfl
  rw [e, List.filter_append]
  congr 1
  simp only [List.filter_cons, List.filter_nil]
set_option maxHeartbeats 4000000 in
theorem deleteFuncA_any (n0 : Int) (B g cap : Nat) (xs : List Ak) (sp : List Value) (w : World) (hrow : w.heap[g]? = some (.cells ((xs.flatMap akL) ++ sp).toArray 43 (0, 0))) (hsp : (xs.flatMap akL).length + sp.length = cap * 3) (hcap : cap ≤ 9223372036854775807) (hB : w.cell? ⟨B, 0, none⟩ = some (.int .i64 n0)) (hBg : B ≠ g) (hw : ∀ x ∈ xs, (Lit.int .i64 x.ver).wf = true) :
    Calls Tryz.prog 165 #[.slice (some ⟨g, 0, none⟩) xs.length cap, .func (.func 166) #[] #[.pointer (some ⟨B, 0, none⟩)]] w fun e w' => e = .returned (.slice (some ⟨g, 0, none⟩) (xs.filter (fun x => !(fun x : Ak => x.ver == n0) x)).length cap) ∧
      (∃ sp' : List Value, w'.heap[g]? = some (.cells (((xs.filter (fun x => !(fun x : Ak => x.ver == n0) x)).flatMap akL) ++ sp').toArray 43 (0, 0)) ∧ ((xs.filter (fun x => !(fun x : Ak => x.ver == n0) x)).flatMap akL).length + sp'.length = cap * 3) ∧ w.grownBy w' (some g) := by
  obtain ⟨n, hn⟩ : ∃ n, xs.length = n := ⟨_, rfl⟩
  have hfl := flat_len2 akL 3 (fun _ => rfl) xs
  have hnc : n ≤ cap := by omega
  have hown := row_own hrow hfl hsp (by omega) hcap
  have hL : Lst RAk 3 ak0 w (.slice (some ⟨g, 0, none⟩) xs.length cap) xs := OwA.lst hown hw
  obtain ⟨q, hq⟩ : ∃ q : Ak → Bool, (fun x => !(fun x : Ak => x.ver == n0) x) = q := ⟨_, rfl⟩
  rw [hq]
  obtain ⟨F, hF⟩ : ∃ F, xs.filter q = F := ⟨_, rfl⟩
  rw [hF]
  have HF := hide hF
  have HQ := hide hq
  have HL := hide hL
  have HR := hide hrow
  have HSP := hide hsp
  have HFL := hide hfl
  have HN := hide hn
  clear hq hF hL hrow hsp hfl hown hw
  rw [hn]
  clear hn
  go_enter Tryz.func165, Tryz.ntmps165
  go_wp2_with fail
  have hix := index_unask_1 (.pointer (some ⟨B, 0, none⟩)) (some ⟨g, 0, none⟩) cap xs (fun i => !q (xs.getD i ak0)) w (unhide HL) (by rw [unhide HN]; omega) (fun k wr X hk e hbr => by
    subst e
    have h := unask_1 (xs.getD k ak0) n0 B wr (scell_up hbr hB)
    rw [← unhide HQ]
    simpa using h)
  rw [unhide HN] at hix
  refine hix.mono ?_
  rintro e w1 ⟨rfl, hb1⟩
  clear hix
  rcases firstI_cases n (fun i => !q (xs.getD i ak0)) with ⟨hf, hall⟩ | ⟨k0, hk0, hf, hp0, hall⟩
  · rw [hf]
    have hfil : F = xs := by
      rw [← unhide HF, List.filter_eq_self]
      intro x hx
      obtain ⟨k, hk, e⟩ := List.mem_iff_getElem.1 hx
      have := hall k (by rw [← unhide HN]; exact hk)
      rw [List.getD_eq_getElem?_getD, List.getElem?_eq_getElem hk] at this
      simpa [e] using this
    have HFX := hide hfil
    have HE : Hid ((∃ sp' : List Value, w1.heap[g]? = some (.cells ((xs.flatMap akL) ++ sp').toArray 43 (0, 0)) ∧ (xs.flatMap akL).length + sp'.length = cap * 3) ∧ w.grownBy w1 (some g)) := ⟨⟨sp, (hb1.block g (Array.getElem?_eq_some_iff.1 (unhide HR)).1).trans (unhide HR), unhide HSP⟩, gb_below hb1⟩
    clear hf hall hfil
    go_wp2
    go_ret
    exact ⟨ret_sl (by rw [unhide HFX, unhide HN]), by rw [unhide HFX]; exact unhide HE⟩
  rw [hf]
  have hr1 := (hb1.block g (Array.getElem?_eq_some_iff.1 (unhide HR)).1).trans (unhide HR)
  have HR1 := hide hr1
  have HG1 : Hid (w.grownBy w1 (some g)) := gb_below hb1
  have hx0 : k0 < xs.length := by rw [unhide HN]; exact hk0
  have hK0 : (xs.take (k0 + 1)).filter q = xs.take k0 := by
    rw [filt_takeA xs q hx0, if_neg (by simpa using hp0), List.append_nil, List.filter_eq_self]
    intro x hx
    obtain ⟨k, hk, e⟩ := List.mem_iff_getElem.1 hx
    have hk2 : k < k0 := by simp at hk; omega
    have hk3 : k < xs.length := by omega
    have := hall k hk2
    rw [List.getD_eq_getElem?_getD, List.getElem?_eq_getElem hk3] at this
    rw [List.getElem_take] at e
    simpa [e] using this
  have HS0 : Hid (∃ G : List Value, w1.heap[g]? = some (.cells (((xs.take (k0 + 1)).filter q).flatMap akL ++ G ++ (xs.drop (k0 + 1)).flatMap akL ++ sp).toArray 43 (0, 0)) ∧ G.length = (k0 + 1 - ((xs.take (k0 + 1)).filter q).length) * 3) := by
    refine ⟨akL (xs.getD k0 ak0), ?_, ?_⟩
    · rw [hK0, hr1, flat_split akL ak0 xs hx0]
    · rw [hK0, List.length_take, Nat.min_eq_left (Nat.le_of_lt hx0), Nat.add_sub_cancel_left]; rfl
  have HK0 : Hid (((xs.take (k0 + 1)).filter q).length = k0) := by show _ = _; rw [hK0, List.length_take]; omega
  have hk1 : ((k0 : Int) == -1) = false := by simp <;> omega
  clear hf hr1 hb1 hK0 hp0 hall
  go_wp2
  go_loopw [5, 6, 7] (fun i j _ wr => ∃ (m : Nat) (G : List Value), m ≤ n ∧ j = .int .i64 m ∧ i = .int .i64 (((xs.take m).filter q).length : Nat) ∧ ((xs.take m).filter q).length < m ∧ w.grownBy wr (some g) ∧ wr.heap[g]? = some (.cells (((xs.take m).filter q).flatMap akL ++ G ++ (xs.drop m).flatMap akL ++ sp).toArray 43 (0, 0)) ∧ G.length = (m - ((xs.take m).filter q).length) * 3) (fun _ j _ _ => n - (intOf j).toNat)
  case atStart =>
    obtain ⟨G, hG1, hG2⟩ := unhide HS0
    exact ⟨k0 + 1, G, by omega, by go_num, by rw [unhide HK0], by rw [unhide HK0]; omega, unhide HG1, hG1, hG2⟩
  case round =>
    obtain ⟨m, G, hm, rfl, rfl, hKm, hgw, hrw, hGl⟩ := hrel
    obtain ⟨K, hK⟩ : ∃ K, (xs.take m).filter q = K := ⟨_, rfl⟩
    rw [hK] at hKm hrw hGl ⊢
    obtain ⟨k, hk⟩ : ∃ k, K.length = k := ⟨_, rfl⟩
    have hKf := flat_len2 akL 3 (fun _ => rfl) K
    rw [hk] at hKm hGl hKf ⊢
    have hgt : g < wr.heap.size := (Array.getElem?_eq_some_iff.1 hrw).1
    have hBw := Keeps_gb hgw hBg hB
    have hBl : B < wr.heap.size := World.block_lt_of_cell? wr _ hBw
    by_cases hlt : m < n
    · have hml : m < xs.length := by rw [unhide HN]; exact hlt
      rw [drop_split akL ak0 xs hml] at hrw
      obtain ⟨X, hX⟩ : ∃ X, xs.getD m ak0 = X := ⟨_, rfl⟩
      have hft := filt_takeA xs q hml
      rw [hX] at hrw hft
      have hmem : X ∈ xs := by rw [← hX]; exact getD_mem hml
      rw [hK] at hft
      obtain ⟨a0, a1, a2, G', rfl, hG'⟩ := split3 (n := (m - (k + 1)) * 3) (R := G) (by rw [hGl]; omega)
      have hAG : (K.flatMap akL ++ (a0 :: a1 :: a2 :: G')).length = m * 3 := by rw [List.length_append, hKf, hGl]; omega
      have hrw2 : wr.heap[g]? = some (.cells ((K.flatMap akL ++ (a0 :: a1 :: a2 :: G')) ++ (akL X ++ (xs.drop (m + 1)).flatMap akL ++ sp)).toArray 43 (0, 0)) := by rw [hrw]; simp [List.append_assoc]
      have c0 := cell_app hrw2 hAG 0 (v := .int .i64 X.ver) rfl
      have c1 := cell_app hrw2 hAG 1 (v := .int .i64 X.days) rfl
      have c2 := cell_app hrw2 hAG 2 (v := .int .i64 X.cls) rfl
      rw [Nat.add_zero] at c0
      have hrw3 : wr.heap[g]? = some (.cells (K.flatMap akL ++ (a0 :: a1 :: a2 :: (G' ++ (akL X ++ (xs.drop (m + 1)).flatMap akL ++ sp)))).toArray 43 (0, 0)) := by rw [hrw]; simp [List.append_assoc]
      have HR3 := hide hrw3
      have HKF := hide hKf
      have HFT := hide hft
      have HGW := hide hgw
      have HG2 := hide hG'
      have HKL := hide hk
      clear hrw hrw2 hrw3 hKf hft hgw hK hX hG' hAG hGl hk
      go_wp2_with fail
      have hcl := unask_1 X n0 B (wr.alloc (.cells (akL X).toArray 43)) (scell_up (bl1 _ _) hBw)
      refine hcl.mono ?_
      rintro e w2 ⟨rfl, hb2⟩
      clear hcl
      have hb3 : Below wr.heap.size wr w2 := bl_trans (bl1 _ _) hb2
      have hrw4 := (hb3.block g hgt).trans (unhide HR3)
      have HG3 : Hid (w.grownBy w2 (some g)) := gb_trans (unhide HGW) (gb_below hb3)
      have hqX : (X.ver == n0) = !q X := by rw [← unhide HQ]; simp
      rw [hqX]
      have hsz : wr.heap.size < w2.heap.size := by have := hb2.size; simp at this; omega
      have v0 := (hb2.cell (p := ⟨wr.heap.size, 0, none⟩) (by simp)).trans (World.cell?_alloc_at _ _ _ _ rfl)
      have v1 := (hb2.cell (p := ⟨wr.heap.size, 1, none⟩) (by simp)).trans (World.cell?_alloc_at _ _ _ _ rfl)
      have v2 := (hb2.cell (p := ⟨wr.heap.size, 2, none⟩) (by simp)).trans (World.cell?_alloc_at _ _ _ _ rfl)
      cases hqv : q X
      · have HT : Hid ((xs.take (m + 1)).filter q = K) := by show _ = _; rw [unhide HFT, hqv]; simp
        have HR4 : Hid (w2.heap[g]? = some (.cells (K.flatMap akL ++ (a0 :: a1 :: a2 :: G' ++ akL X) ++ (xs.drop (m + 1)).flatMap akL ++ sp).toArray 43 (0, 0))) := by show _ = _; rw [hrw4]; simp [List.append_assoc]
        clear hqX hqv hrw4 hb2 hb3 hBw v0 v1 v2 c0 c1 c2
        go_wp2
        go_roundw
        case rel => exact ⟨m + 1, _, by omega, by go_num, by rw [unhide HT, unhide HKL], by rw [unhide HT, unhide HKL]; omega, unhide HG3, by rw [unhide HT]; exact unhide HR4, by rw [unhide HT, unhide HKL]; simp [unhide HG2]; omega⟩
        case measure => (simp [intOf] <;> omega)
      · have HT : Hid ((xs.take (m + 1)).filter q = K ++ [X]) := by show _ = _; rw [unhide HFT, hqv]; simp
        have d0 := cell_app hrw4 (unhide HKF) 0 (v := a0) rfl
        have d1 := cell_app hrw4 (unhide HKF) 1 (v := a1) rfl
        have d2 := cell_app hrw4 (unhide HKF) 2 (v := a2) rfl
        rw [Nat.add_zero] at d0
        have df := fun j => fz_of hrw4 j
        have HR4 := hide hrw4
        have hkn : k < n := by omega
        clear hqX hqv hrw4 hb2 hb3 hBw c0 c1 c2
        go_wp2
        go_roundw
        case rel =>
          refine ⟨m + 1, G' ++ akL X, by omega, by go_num, by rw [unhide HT, List.length_append, unhide HKL]; simp, by rw [unhide HT, List.length_append, unhide HKL]; simp; omega, ?_, ?_, by rw [unhide HT, List.length_append, List.length_append, unhide HKL, unhide HG2]; simp; omega⟩
          · exact gb_trans (unhide HG3) (gb_trans (gb_trans (gb_setCell _ _ _ _) (gb_setCell _ _ _ _)) (gb_setCell _ _ _ _))
          · have := put3 (unhide HR4) (unhide HKF) (.int .i64 X.ver) (.int .i64 X.days) (.int .i64 X.cls)
            rw [this, unhide HT, List.flatMap_append]
            simp [List.append_assoc]
        case measure => (simp [intOf] <;> omega)
    · obtain rfl : m = n := by omega
      have hd : (xs.drop m).flatMap akL = [] := by rw [List.drop_of_length_le (by rw [unhide HN]; exact Nat.le_refl _)]; rfl
      have hKF2 : K = F := by rw [← hK, ← unhide HF, List.take_of_length_le (by rw [unhide HN]; exact Nat.le_refl _)]
      rw [hd] at hrw
      have hrw5 : wr.heap[g]? = some (.cells (K.flatMap akL ++ G ++ sp).toArray 43 (0, 0)) := by rw [hrw]; simp
      have hfx := unhide HFL
      have hsx := unhide HSP
      rw [unhide HN] at hfx
      obtain ⟨Z, hZ⟩ : ∃ Z, (Builtin.zeroCells (Value.agg #[.int .i64 0, .int .i64 0, .int .i64 0]).cells (m - k)).toList = Z := ⟨_, rfl⟩
      have hZl : Z.length = (m - k) * 3 := by rw [← hZ, Array.length_toList, size_zeroCells]; rfl
      have htot : (K.flatMap akL ++ G ++ sp).length = cap * 3 := by rw [List.length_append, List.length_append, hKf, hGl]; omega
      have hcl : ∀ ty, (Builtin.clear_ #[26] ty #[.slice (some ⟨g, k * 3, none⟩) (m - k) (cap - k)]).run Tryz.prog wr = .ok (.tuple #[]) (wr.setCells g (k * 3) Z) := fun ty => by
        rw [← hZ]
        refine run_clearN wr 26 43 ty (.agg #[.int .i64 0, .int .i64 0, .int .i64 0]) 3 Tryz.underlying26 zAk_run rfl (by simp [Value.cells, Value.oneCell']) g (k * 3) (m - k) _ (by omega) (fun j hj => ?_) (fun j hj => fz_of hrw5 _)
        have hlt2 : k * 3 + j < (K.flatMap akL ++ G ++ sp).length := by rw [htot]; omega
        rw [cell_of hrw5 _ (v := (K.flatMap akL ++ G ++ sp)[k * 3 + j]) (by simp only [List.getElem?_toArray]; exact List.getElem?_eq_getElem hlt2)]
        rfl
      have hr6 := row_setCells Z (k * 3) wr _ hrw5 (by rw [hZl, htot]; omega)
      have e1 : (K.flatMap akL ++ G ++ sp).take (k * 3) = K.flatMap akL := by rw [List.append_assoc]; exact List.take_left' hKf
      have e2 : (K.flatMap akL ++ G ++ sp).drop (k * 3 + Z.length) = sp := by
        rw [List.append_assoc, drop_len hKf, hZl, ← hGl]
        exact List.drop_left
      rw [e1, e2, List.append_assoc] at hr6
      have HE : Hid ((∃ sp' : List Value, (wr.setCells g (k * 3) Z).heap[g]? = some (.cells (F.flatMap akL ++ sp').toArray 43 (0, 0)) ∧ (F.flatMap akL).length + sp'.length = cap * 3) ∧ w.grownBy (wr.setCells g (k * 3) Z) (some g)) := by
        rw [← hKF2]
        refine ⟨⟨_, hr6, ?_⟩, gb_trans hgw (gb_setCells g Z _ _)⟩
        rw [List.length_append, hKf, hZl]; omega
      have HKL : Hid (F.length = k) := by show _ = _; rw [← hKF2, hk]
      have hcm : ¬ cap = k := by omega
      have hkc : k ≤ cap := by omega
      have hkm : k ≤ m := by omega
      clear hr6 e1 e2 htot hZl hZ hrw hrw5 hd hKF2 hGl hKf hgw hfx hsx hBw hk hK
      go_wp2
      go_ret
      exact ⟨ret_sl (unhide HKL).symm, unhide HE⟩
theorem filt_takeP (xs : List (Pa × Value)) (q : (Pa × Value) → Bool) {j : Nat} (h : j < xs.length) : (xs.take (j + 1)).filter q = (xs.take j).filter q ++ (if q (xs.getD j (pa0, Value.slice none 0 0)) then [xs.getD j (pa0, Value.slice none 0 0)] else []) := by
  have e : xs.take (j + 1) = xs.take j ++ [xs.getD j (pa0, Value.slice none 0 0)] := by
    rw [List.take_succ_eq_append_getElem h, List.getD_eq_getElem?_getD, List.getElem?_eq_getElem h]; rfl
  rw [e, List.filter_append]
  congr 1
  simp only [List.filter_cons, List.filter_nil]
set_option maxHeartbeats 4000000 in
theorem deleteFuncP_any (n0 : Int) (B g cap : Nat) (xs : List (Pa × Value)) (sp : List Value) (w : World) (hrow : w.heap[g]? = some (.cells ((xs.flatMap (fun p : Pa × Value => paL p.1 p.2)) ++ sp).toArray 45 (0, 0))) (hsp : (xs.flatMap (fun p : Pa × Value => paL p.1 p.2)).length + sp.length = cap * 3) (hcap : cap ≤ 9223372036854775807) (hB : w.cell? ⟨B, 0, none⟩ = some (.int .i64 n0)) (hBg : B ≠ g) (hI : ∀ x ∈ xs, OwI w 0 x.2 x.1.sec ∧ x.2.ownBlock ≠ some g) (hw : ∀ x ∈ xs, ∀ n ∈ x.1.sec, (Lit.int .i64 n).wf = true) :
    Calls Tryz.prog 128 #[.slice (some ⟨g, 0, none⟩) xs.length cap, .func (.func 129) #[] #[.pointer (some ⟨B, 0, none⟩)]] w fun e w' => e = .returned (.slice (some ⟨g, 0, none⟩) (xs.filter (fun x => !(fun x : Pa × Value => x.1.n == n0) x)).length cap) ∧
      (∃ sp' : List Value, w'.heap[g]? = some (.cells (((xs.filter (fun x => !(fun x : Pa × Value => x.1.n == n0) x)).flatMap (fun p : Pa × Value => paL p.1 p.2)) ++ sp').toArray 45 (0, 0)) ∧ ((xs.filter (fun x => !(fun x : Pa × Value => x.1.n == n0) x)).flatMap (fun p : Pa × Value => paL p.1 p.2)).length + sp'.length = cap * 3) ∧ w.grownBy w' (some g) := by
  obtain ⟨n, hn⟩ : ∃ n, xs.length = n := ⟨_, rfl⟩
  have hfl := flat_len2 (fun p : Pa × Value => paL p.1 p.2) 3 (fun _ => rfl) xs
  have hnc : n ≤ cap := by omega
  have hown := row_own hrow hfl hsp (by omega) hcap
  have hL : Lst RPa 3 pa0 w (.slice (some ⟨g, 0, none⟩) xs.length cap) (xs.map (·.1)) := OwP.lst ⟨xs, rfl, hown, fun p hp => (hI p hp).1⟩ (fun x hx => by obtain ⟨p, hp, rfl⟩ := List.mem_map.1 hx; exact hw p hp)
  obtain ⟨q, hq⟩ : ∃ q : (Pa × Value) → Bool, (fun x => !(fun x : Pa × Value => x.1.n == n0) x) = q := ⟨_, rfl⟩
  rw [hq]
  obtain ⟨F, hF⟩ : ∃ F, xs.filter q = F := ⟨_, rfl⟩
  rw [hF]
  have HF := hide hF
  have HQ := hide hq
  have HL := hide hL
  have HR := hide hrow
  have HSP := hide hsp
  have HFL := hide hfl
  have HN := hide hn
  have HI := hide hI
  have HLN : Hid ((xs.map (·.1)).length = n) := by show _ = _; rw [List.length_map, hn]
  clear hq hF hL hrow hsp hfl hown hw hI
  rw [hn]
  clear hn
  go_enter Tryz.func128, Tryz.ntmps128
  go_wp2_with fail
  have hix := index_addPart_1 (.pointer (some ⟨B, 0, none⟩)) (some ⟨g, 0, none⟩) cap (xs.map (·.1)) (fun i => !q (xs.getD i (pa0, .slice none 0 0))) w (by have := unhide HL; simpa using this) (by rw [unhide HLN]; omega) (fun k wr X ua un uc hk e hbr hi => by
    have h := addPart_1 X ua un uc n0 B wr (scell_up hbr hB)
    have e2 : (xs.getD k (pa0, Value.slice none 0 0)).1 = X := by
      rw [← e]
      have hk' : k < xs.length := by simpa using hk
      simp [List.getD, hk']
    have e3 : (!q (xs.getD k (pa0, Value.slice none 0 0))) = (X.n == n0) := by
      rw [← unhide HQ]
      simp only [Bool.not_not]
      rw [e2]
    simp only [e3]
    exact h)
  rw [unhide HLN] at hix
  refine hix.mono ?_
  rintro e w1 ⟨rfl, hb1⟩
  clear hix
  rcases firstI_cases n (fun i => !q (xs.getD i (pa0, Value.slice none 0 0))) with ⟨hf, hall⟩ | ⟨k0, hk0, hf, hp0, hall⟩
  · rw [hf]
    have hfil : F = xs := by
      rw [← unhide HF, List.filter_eq_self]
      intro x hx
      obtain ⟨k, hk, e⟩ := List.mem_iff_getElem.1 hx
      have := hall k (by rw [← unhide HN]; exact hk)
      rw [List.getD_eq_getElem?_getD, List.getElem?_eq_getElem hk] at this
      simpa [e] using this
    have HFX := hide hfil
    have HE : Hid ((∃ sp' : List Value, w1.heap[g]? = some (.cells ((xs.flatMap (fun p : Pa × Value => paL p.1 p.2)) ++ sp').toArray 45 (0, 0)) ∧ (xs.flatMap (fun p : Pa × Value => paL p.1 p.2)).length + sp'.length = cap * 3) ∧ w.grownBy w1 (some g)) := ⟨⟨sp, (hb1.block g (Array.getElem?_eq_some_iff.1 (unhide HR)).1).trans (unhide HR), unhide HSP⟩, gb_below hb1⟩
    clear hf hall hfil
    go_wp2
    go_ret
    exact ⟨ret_sl (by rw [unhide HFX, unhide HN]), by rw [unhide HFX]; exact unhide HE⟩
  rw [hf]
  have hr1 := (hb1.block g (Array.getElem?_eq_some_iff.1 (unhide HR)).1).trans (unhide HR)
  have HR1 := hide hr1
  have HG1 : Hid (w.grownBy w1 (some g)) := gb_below hb1
  have hx0 : k0 < xs.length := by rw [unhide HN]; exact hk0
  have hK0 : (xs.take (k0 + 1)).filter q = xs.take k0 := by
    rw [filt_takeP xs q hx0, if_neg (by simpa using hp0), List.append_nil, List.filter_eq_self]
    intro x hx
    obtain ⟨k, hk, e⟩ := List.mem_iff_getElem.1 hx
    have hk2 : k < k0 := by simp at hk; omega
    have hk3 : k < xs.length := by omega
    have := hall k hk2
    rw [List.getD_eq_getElem?_getD, List.getElem?_eq_getElem hk3] at this
    rw [List.getElem_take] at e
    simpa [e] using this
  have HS0 : Hid (∃ G : List Value, w1.heap[g]? = some (.cells (((xs.take (k0 + 1)).filter q).flatMap (fun p : Pa × Value => paL p.1 p.2) ++ G ++ (xs.drop (k0 + 1)).flatMap (fun p : Pa × Value => paL p.1 p.2) ++ sp).toArray 45 (0, 0)) ∧ G.length = (k0 + 1 - ((xs.take (k0 + 1)).filter q).length) * 3) := by
    refine ⟨(fun p : Pa × Value => paL p.1 p.2) (xs.getD k0 (pa0, Value.slice none 0 0)), ?_, ?_⟩
    · rw [hK0, hr1, flat_split (fun p : Pa × Value => paL p.1 p.2) (pa0, Value.slice none 0 0) xs hx0]
    · rw [hK0, List.length_take, Nat.min_eq_left (Nat.le_of_lt hx0), Nat.add_sub_cancel_left]; rfl
  have HK0 : Hid (((xs.take (k0 + 1)).filter q).length = k0) := by show _ = _; rw [hK0, List.length_take]; omega
  have hk1 : ((k0 : Int) == -1) = false := by simp <;> omega
  clear hf hr1 hb1 hK0 hp0 hall
  go_wp2
  go_loopw [5, 6, 7] (fun i j _ wr => ∃ (m : Nat) (G : List Value), m ≤ n ∧ j = .int .i64 m ∧ i = .int .i64 (((xs.take m).filter q).length : Nat) ∧ ((xs.take m).filter q).length < m ∧ w.grownBy wr (some g) ∧ wr.heap[g]? = some (.cells (((xs.take m).filter q).flatMap (fun p : Pa × Value => paL p.1 p.2) ++ G ++ (xs.drop m).flatMap (fun p : Pa × Value => paL p.1 p.2) ++ sp).toArray 45 (0, 0)) ∧ G.length = (m - ((xs.take m).filter q).length) * 3) (fun _ j _ _ => n - (intOf j).toNat)
  case atStart =>
    obtain ⟨G, hG1, hG2⟩ := unhide HS0
    exact ⟨k0 + 1, G, by omega, by go_num, by rw [unhide HK0], by rw [unhide HK0]; omega, unhide HG1, hG1, hG2⟩
  case round =>
    obtain ⟨m, G, hm, rfl, rfl, hKm, hgw, hrw, hGl⟩ := hrel
    obtain ⟨K, hK⟩ : ∃ K, (xs.take m).filter q = K := ⟨_, rfl⟩
    rw [hK] at hKm hrw hGl ⊢
    obtain ⟨k, hk⟩ : ∃ k, K.length = k := ⟨_, rfl⟩
    have hKf := flat_len2 (fun p : Pa × Value => paL p.1 p.2) 3 (fun _ => rfl) K
    rw [hk] at hKm hGl hKf ⊢
    have hgt : g < wr.heap.size := (Array.getElem?_eq_some_iff.1 hrw).1
    have hBw := Keeps_gb hgw hBg hB
    have hBl : B < wr.heap.size := World.block_lt_of_cell? wr _ hBw
    by_cases hlt : m < n
    · have hml : m < xs.length := by rw [unhide HN]; exact hlt
      rw [drop_split (fun p : Pa × Value => paL p.1 p.2) (pa0, Value.slice none 0 0) xs hml] at hrw
      obtain ⟨X, hX⟩ : ∃ X, xs.getD m (pa0, Value.slice none 0 0) = X := ⟨_, rfl⟩
      have hft := filt_takeP xs q hml
      rw [hX] at hrw hft
      have hmem : X ∈ xs := by rw [← hX]; exact getD_mem hml
      rw [hK] at hft
      obtain ⟨a0, a1, a2, G', rfl, hG'⟩ := split3 (n := (m - (k + 1)) * 3) (R := G) (by rw [hGl]; omega)
      obtain ⟨ua, uc, hX2, _, _⟩ := own_form (unhide HI X hmem).1
      have HX2 := hide hX2
      clear hX2
      have hAG : (K.flatMap (fun p : Pa × Value => paL p.1 p.2) ++ (a0 :: a1 :: a2 :: G')).length = m * 3 := by rw [List.length_append, hKf, hGl]; omega
      have hrw2 : wr.heap[g]? = some (.cells ((K.flatMap (fun p : Pa × Value => paL p.1 p.2) ++ (a0 :: a1 :: a2 :: G')) ++ ((fun p : Pa × Value => paL p.1 p.2) X ++ (xs.drop (m + 1)).flatMap (fun p : Pa × Value => paL p.1 p.2) ++ sp)).toArray 45 (0, 0)) := by rw [hrw]; simp [List.append_assoc]
      have c0 := cell_app hrw2 hAG 0 (v := .int .i64 X.1.n) rfl
      have c1 := cell_app hrw2 hAG 1 (v := .int .i64 X.1.size) rfl
      have c2 := cell_app hrw2 hAG 2 (v := X.2) rfl
      rw [Nat.add_zero] at c0
      rw [unhide HX2] at c2
      have hrw3 : wr.heap[g]? = some (.cells (K.flatMap (fun p : Pa × Value => paL p.1 p.2) ++ (a0 :: a1 :: a2 :: (G' ++ ((fun p : Pa × Value => paL p.1 p.2) X ++ (xs.drop (m + 1)).flatMap (fun p : Pa × Value => paL p.1 p.2) ++ sp)))).toArray 45 (0, 0)) := by rw [hrw]; simp [List.append_assoc]
      have HR3 := hide hrw3
      have HKF := hide hKf
      have HFT := hide hft
      have HGW := hide hgw
      have HG2 := hide hG'
      have HKL := hide hk
      clear hrw hrw2 hrw3 hKf hft hgw hK hX hG' hAG hGl hk
      go_wp2_with fail
      have hcl := addPart_1 X.1 ua X.1.sec.length uc n0 B (wr.alloc (.cells (paL X.1 (.slice ua X.1.sec.length uc)).toArray 45)) (scell_up (bl1 _ _) hBw)
      refine hcl.mono ?_
      rintro e w2 ⟨rfl, hb2⟩
      clear hcl
      have hb3 : Below wr.heap.size wr w2 := bl_trans (bl1 _ _) hb2
      have hrw4 := (hb3.block g hgt).trans (unhide HR3)
      have HG3 : Hid (w.grownBy w2 (some g)) := gb_trans (unhide HGW) (gb_below hb3)
      have hqX : (X.1.n == n0) = !q X := by rw [← unhide HQ]; simp
      rw [hqX]
      have hsz : wr.heap.size < w2.heap.size := by have := hb2.size; simp at this; omega
      have v0 := (hb2.cell (p := ⟨wr.heap.size, 0, none⟩) (by simp)).trans (World.cell?_alloc_at _ _ _ _ rfl)
      have v1 := (hb2.cell (p := ⟨wr.heap.size, 1, none⟩) (by simp)).trans (World.cell?_alloc_at _ _ _ _ rfl)
      have v2 := (hb2.cell (p := ⟨wr.heap.size, 2, none⟩) (by simp)).trans (World.cell?_alloc_at _ _ _ _ rfl)
      cases hqv : q X
      · have HT : Hid ((xs.take (m + 1)).filter q = K) := by show _ = _; rw [unhide HFT, hqv]; simp
        have HR4 : Hid (w2.heap[g]? = some (.cells (K.flatMap (fun p : Pa × Value => paL p.1 p.2) ++ (a0 :: a1 :: a2 :: G' ++ (fun p : Pa × Value => paL p.1 p.2) X) ++ (xs.drop (m + 1)).flatMap (fun p : Pa × Value => paL p.1 p.2) ++ sp).toArray 45 (0, 0))) := by show _ = _; rw [hrw4]; simp [List.append_assoc]
        clear hqX hqv hrw4 hb2 hb3 hBw v0 v1 v2 c0 c1 c2
        go_wp2
        go_roundw
        case rel => exact ⟨m + 1, _, by omega, by go_num, by rw [unhide HT, unhide HKL], by rw [unhide HT, unhide HKL]; omega, unhide HG3, by rw [unhide HT]; exact unhide HR4, by rw [unhide HT, unhide HKL]; simp [unhide HG2]; omega⟩
        case measure => (simp [intOf] <;> omega)
      · have HT : Hid ((xs.take (m + 1)).filter q = K ++ [X]) := by show _ = _; rw [unhide HFT, hqv]; simp
        have d0 := cell_app hrw4 (unhide HKF) 0 (v := a0) rfl
        have d1 := cell_app hrw4 (unhide HKF) 1 (v := a1) rfl
        have d2 := cell_app hrw4 (unhide HKF) 2 (v := a2) rfl
        rw [Nat.add_zero] at d0
        have df := fun j => fz_of hrw4 j
        have HR4 := hide hrw4
        have hkn : k < n := by omega
        clear hqX hqv hrw4 hb2 hb3 hBw c0 c1 c2
        go_wp2
        go_roundw
        case rel =>
          refine ⟨m + 1, G' ++ (fun p : Pa × Value => paL p.1 p.2) X, by omega, by go_num, by rw [unhide HT, List.length_append, unhide HKL]; simp, by rw [unhide HT, List.length_append, unhide HKL]; simp; omega, ?_, ?_, by rw [unhide HT, List.length_append, List.length_append, unhide HKL, unhide HG2]; simp; omega⟩
          · exact gb_trans (unhide HG3) (gb_trans (gb_trans (gb_setCell _ _ _ _) (gb_setCell _ _ _ _)) (gb_setCell _ _ _ _))
          · have := put3 (unhide HR4) (unhide HKF) (.int .i64 X.1.n) (.int .i64 X.1.size) (.slice ua X.1.sec.length uc)
            rw [this, unhide HT, List.flatMap_append]
            simp [List.append_assoc, unhide HX2]
        case measure => (simp [intOf] <;> omega)
    · obtain rfl : m = n := by omega
      have hd : (xs.drop m).flatMap (fun p : Pa × Value => paL p.1 p.2) = [] := by rw [List.drop_of_length_le (by rw [unhide HN]; exact Nat.le_refl _)]; rfl
      have hKF2 : K = F := by rw [← hK, ← unhide HF, List.take_of_length_le (by rw [unhide HN]; exact Nat.le_refl _)]
      rw [hd] at hrw
      have hrw5 : wr.heap[g]? = some (.cells (K.flatMap (fun p : Pa × Value => paL p.1 p.2) ++ G ++ sp).toArray 45 (0, 0)) := by rw [hrw]; simp
      have hfx := unhide HFL
      have hsx := unhide HSP
      rw [unhide HN] at hfx
      obtain ⟨Z, hZ⟩ : ∃ Z, (Builtin.zeroCells (Value.agg #[.int .i64 0, .int .i64 0, .slice none 0 0]).cells (m - k)).toList = Z := ⟨_, rfl⟩
      have hZl : Z.length = (m - k) * 3 := by rw [← hZ, Array.length_toList, size_zeroCells]; rfl
      have htot : (K.flatMap (fun p : Pa × Value => paL p.1 p.2) ++ G ++ sp).length = cap * 3 := by rw [List.length_append, List.length_append, hKf, hGl]; omega
      have hcl : ∀ ty, (Builtin.clear_ #[100] ty #[.slice (some ⟨g, k * 3, none⟩) (m - k) (cap - k)]).run Tryz.prog wr = .ok (.tuple #[]) (wr.setCells g (k * 3) Z) := fun ty => by
        rw [← hZ]
        refine run_clearN wr 100 45 ty (.agg #[.int .i64 0, .int .i64 0, .slice none 0 0]) 3 Tryz.underlying100 zPa_run rfl (by simp [Value.cells, Value.oneCell']) g (k * 3) (m - k) _ (by omega) (fun j hj => ?_) (fun j hj => fz_of hrw5 _)
        have hlt2 : k * 3 + j < (K.flatMap (fun p : Pa × Value => paL p.1 p.2) ++ G ++ sp).length := by rw [htot]; omega
        rw [cell_of hrw5 _ (v := (K.flatMap (fun p : Pa × Value => paL p.1 p.2) ++ G ++ sp)[k * 3 + j]) (by simp only [List.getElem?_toArray]; exact List.getElem?_eq_getElem hlt2)]
        rfl
      have hr6 := row_setCells Z (k * 3) wr _ hrw5 (by rw [hZl, htot]; omega)
      have e1 : (K.flatMap (fun p : Pa × Value => paL p.1 p.2) ++ G ++ sp).take (k * 3) = K.flatMap (fun p : Pa × Value => paL p.1 p.2) := by rw [List.append_assoc]; exact List.take_left' hKf
      have e2 : (K.flatMap (fun p : Pa × Value => paL p.1 p.2) ++ G ++ sp).drop (k * 3 + Z.length) = sp := by
        rw [List.append_assoc, drop_len hKf, hZl, ← hGl]
        exact List.drop_left
      rw [e1, e2, List.append_assoc] at hr6
      have HE : Hid ((∃ sp' : List Value, (wr.setCells g (k * 3) Z).heap[g]? = some (.cells (F.flatMap (fun p : Pa × Value => paL p.1 p.2) ++ sp').toArray 45 (0, 0)) ∧ (F.flatMap (fun p : Pa × Value => paL p.1 p.2)).length + sp'.length = cap * 3) ∧ w.grownBy (wr.setCells g (k * 3) Z) (some g)) := by
        rw [← hKF2]
        refine ⟨⟨_, hr6, ?_⟩, gb_trans hgw (gb_setCells g Z _ _)⟩
        rw [List.length_append, hKf, hZl]; omega
      have HKL : Hid (F.length = k) := by show _ = _; rw [← hKF2, hk]
      have hcm : ¬ cap = k := by omega
      have hkc : k ≤ cap := by omega
      have hkm : k ≤ m := by omega
      clear hr6 e1 e2 htot hZl hZ hrw hrw5 hd hKF2 hGl hKf hgw hfx hsx hBw hk hK
      go_wp2
      go_ret
      exact ⟨ret_sl (unhide HKL).symm, unhide HE⟩
end Go.Proofs.YtdgmdapijhbocaaGreat
