/- state.rise, of whatever is asked of two neighbours. -/
import Derived.Test.YtdalkkjojflakaaIxf
import Derived.BigQuiet
import Derived.Deep.QuietTactic
import Derived.Deep.DeepCutAuto
namespace Go.Proofs.Ytdalkkjojflakaa
open Go.RowKit
set_option maxRecDepth 100000
set_option linter.unusedVariables false
set_option linter.unusedSimpArgs false
set_option maxHeartbeats 1000000 in
theorem rise_goneMayBe_1 (a : Option Addr) (cap : Nat) (xs : List Int) (p : Nat → Bool) (w : World) (hL : Lst RInt 1 0 w (.slice a xs.length cap) xs) (hn : xs.length ≤ 9223372036854775807)
    (hst : ∀ (k : Nat) (wr : World) (X Y : Int) , k + 1 < xs.length → xs.getD k 0 = X → xs.getD (k + 1) 0 = Y → Calls Try.prog 83 #[.int .i64 X, .int .i64 Y] wr fun e w' => e = .returned (.bool (p k)) ∧ Below wr.heap.size wr w') :
    Calls Try.prog 82 #[.slice a xs.length cap, .func (.func 83) #[] #[]] w fun e w' => e = .returned (.bool (allB (xs.length - 1) p)) ∧ Below w.heap.size w w' := by
  have HL := hide hL
  have HST := hide hst
  clear hL hst
  obtain ⟨N, hN⟩ : ∃ N, xs.length = N := ⟨_, rfl⟩
  have HN := hide hN
  rw [hN] at hn HL HST ⊢
  clear hN
  go_enter Try.func82, Try.ntmps82
  go_wp2
  go_loopw [5] (fun i wr => ∃ k : Nat, k ≤ N - 1 ∧ i = .int .i64 ((k : Int) + 1) ∧ Below w.heap.size w wr ∧ ∀ j, j < k → p j = true) (fun i _ => N - (intOf i).toNat)
  case atStart => exact ⟨0, Nat.zero_le _, rfl, Below.refl _ _, fun j hj => absurd hj (Nat.not_lt_zero _)⟩
  case round =>
    obtain ⟨k, hk, rfl, hb, hall⟩ := hrel
    have HA := hide hall
    clear hall
    by_cases hlt : k + 1 < N
    · have hlt' : (k : Int) + 1 < (N : Int) := by omega
      have hl0 : (k : Int) < (N : Int) := by omega
      obtain ⟨b, o, rfl, r0⟩ := Lst.at (unhide HL) (i := k) (by rw [unhide HN]; omega)
      obtain ⟨b', o', e', s0⟩ := Lst.at (unhide HL) (i := k + 1) (by rw [unhide HN]; omega)
      simp at e'
      obtain ⟨rfl, rfl⟩ := e'
      obtain ⟨X, hX⟩ : ∃ X, xs.getD k 0 = X := ⟨_, rfl⟩
      obtain ⟨Y, hY⟩ : ∃ X, xs.getD (k + 1) 0 = X := ⟨_, rfl⟩
      rw [hX] at r0
      rw [hY] at s0
      have r := RInt.up hb r0
      have s := RInt.up hb s0
      have HX := hide hX
      have HY := hide hY
      clear hX hY r0 s0
      have cX0 := r.1
      rw [Nat.mul_one] at cX0
      have dX0 := fun d : Later wr => d.cell cX0
      have cY0 := s.1
      rw [Nat.mul_one] at cY0
      have dY0 := fun d : Later wr => d.cell cY0
      clear r s
      have hne := Later.one wr
      go_wp2
      refine wp_region_later (by kernel_rfl) (by kernel_rfl) ?_
      repeat (go_big_quiet_step ((go_at_call 83; exact Calls.later (unhide HST k _ X Y hlt (unhide HX) (unhide HY)))))
      refine wpQuiet_nil ?_
      intro w9 hw'
      obtain ⟨⟨w8, hb2⟩, hw''⟩ := hw'
      subst hw''
      cases hpk : p k
      · go_wp2
        go_ret
        exact ⟨ret_bool (allB_f (show k < N - 1 by omega) hpk).symm, bl_trans hb hb2⟩
      · go_wp2
        go_roundw
        case rel => exact ⟨k + 1, by omega, by go_num, bl_trans hb hb2, fun j hj => if e : j < k then unhide HA j e else (show j = k by omega) ▸ hpk⟩
        case measure => simp [intOf]; omega
    · have hlt' : ¬ (k : Int) + 1 < (N : Int) := by omega
      have hkk : k = N - 1 := by omega
      have HA2 : Hid (allB (N - 1) p = true) := allB_t fun j hj => unhide HA j (by omega)
      clear hkk
      go_wp2
      go_ret
      exact ⟨ret_bool (unhide HA2).symm, hb⟩
set_option maxHeartbeats 1000000 in
theorem rise_bucketsMayBe_1 (a : Option Addr) (cap : Nat) (xs : List Bu) (p : Nat → Bool) (w : World) (hL : Lst RBu 5 bu0 w (.slice a xs.length cap) xs) (hn : xs.length ≤ 9223372036854775807)
    (hst : ∀ (k : Nat) (wr : World) (X Y : Bu) , k + 1 < xs.length → xs.getD k bu0 = X → xs.getD (k + 1) bu0 = Y → Calls Try.prog 87 #[buV X, buV Y] wr fun e w' => e = .returned (.bool (p k)) ∧ Below wr.heap.size wr w') :
    Calls Try.prog 86 #[.slice a xs.length cap, .func (.func 87) #[] #[]] w fun e w' => e = .returned (.bool (allB (xs.length - 1) p)) ∧ Below w.heap.size w w' := by
  have HL := hide hL
  have HST := hide hst
  clear hL hst
  obtain ⟨N, hN⟩ : ∃ N, xs.length = N := ⟨_, rfl⟩
  have HN := hide hN
  rw [hN] at hn HL HST ⊢
  clear hN
  go_enter Try.func86, Try.ntmps86
  go_wp2
  go_loopw [5] (fun i wr => ∃ k : Nat, k ≤ N - 1 ∧ i = .int .i64 ((k : Int) + 1) ∧ Below w.heap.size w wr ∧ ∀ j, j < k → p j = true) (fun i _ => N - (intOf i).toNat)
  case atStart => exact ⟨0, Nat.zero_le _, rfl, Below.refl _ _, fun j hj => absurd hj (Nat.not_lt_zero _)⟩
  case round =>
    obtain ⟨k, hk, rfl, hb, hall⟩ := hrel
    have HA := hide hall
    clear hall
    by_cases hlt : k + 1 < N
    · have hlt' : (k : Int) + 1 < (N : Int) := by omega
      have hl0 : (k : Int) < (N : Int) := by omega
      obtain ⟨b, o, rfl, r0⟩ := Lst.at (unhide HL) (i := k) (by rw [unhide HN]; omega)
      obtain ⟨b', o', e', s0⟩ := Lst.at (unhide HL) (i := k + 1) (by rw [unhide HN]; omega)
      simp at e'
      obtain ⟨rfl, rfl⟩ := e'
      obtain ⟨X, hX⟩ : ∃ X, xs.getD k bu0 = X := ⟨_, rfl⟩
      obtain ⟨Y, hY⟩ : ∃ X, xs.getD (k + 1) bu0 = X := ⟨_, rfl⟩
      rw [hX] at r0
      rw [hY] at s0
      have r := RBu.up hb r0
      have s := RBu.up hb s0
      have HX := hide hX
      have HY := hide hY
      clear hX hY r0 s0
      have dX0 := fun d : Later wr => d.cell r.c0
      have dX1 := fun d : Later wr => d.cell r.c1
      have dX2 := fun d : Later wr => d.cell r.c2
      have dX3 := fun d : Later wr => d.cell r.c3
      have dX4 := fun d : Later wr => d.cell r.c4
      have dY0 := fun d : Later wr => d.cell s.c0
      have dY1 := fun d : Later wr => d.cell s.c1
      have dY2 := fun d : Later wr => d.cell s.c2
      have dY3 := fun d : Later wr => d.cell s.c3
      have dY4 := fun d : Later wr => d.cell s.c4
      clear r s
      have hne := Later.one wr
      go_wp2
      refine wp_region_later (by kernel_rfl) (by kernel_rfl) ?_
      repeat (go_big_quiet_step ((go_at_call 87; exact Calls.later (unhide HST k _ X Y hlt (unhide HX) (unhide HY)))))
      refine wpQuiet_nil ?_
      intro w9 hw'
      obtain ⟨⟨w8, hb2⟩, hw''⟩ := hw'
      subst hw''
      cases hpk : p k
      · go_wp2
        go_ret
        exact ⟨ret_bool (allB_f (show k < N - 1 by omega) hpk).symm, bl_trans hb hb2⟩
      · go_wp2
        go_roundw
        case rel => exact ⟨k + 1, by omega, by go_num, bl_trans hb hb2, fun j hj => if e : j < k then unhide HA j e else (show j = k by omega) ▸ hpk⟩
        case measure => simp [intOf]; omega
    · have hlt' : ¬ (k : Int) + 1 < (N : Int) := by omega
      have hkk : k = N - 1 := by omega
      have HA2 : Hid (allB (N - 1) p = true) := allB_t fun j hj => unhide HA j (by omega)
      clear hkk
      go_wp2
      go_ret
      exact ⟨ret_bool (unhide HA2).symm, hb⟩
set_option maxHeartbeats 1000000 in
theorem rise_versionsMayBe_1 (a : Option Addr) (cap : Nat) (xs : List Ve) (p : Nat → Bool) (w : World) (hL : Lst RVe 12 ve0 w (.slice a xs.length cap) xs) (hn : xs.length ≤ 9223372036854775807)
    (hst : ∀ (k : Nat) (wr : World) (X Y : Ve) (ua : Option Addr) (un uc : Nat) (ua' : Option Addr) (un' uc' : Nat) , k + 1 < xs.length → xs.getD k ve0 = X → xs.getD (k + 1) ve0 = Y → Calls Try.prog 94 #[veV X (.slice ua un uc), veV Y (.slice ua' un' uc')] wr fun e w' => e = .returned (.bool (p k)) ∧ Below wr.heap.size wr w') :
    Calls Try.prog 93 #[.slice a xs.length cap, .func (.func 94) #[] #[]] w fun e w' => e = .returned (.bool (allB (xs.length - 1) p)) ∧ Below w.heap.size w w' := by
  have HL := hide hL
  have HST := hide hst
  clear hL hst
  obtain ⟨N, hN⟩ : ∃ N, xs.length = N := ⟨_, rfl⟩
  have HN := hide hN
  rw [hN] at hn HL HST ⊢
  clear hN
  go_enter Try.func93, Try.ntmps93
  go_wp2
  go_loopw [5] (fun i wr => ∃ k : Nat, k ≤ N - 1 ∧ i = .int .i64 ((k : Int) + 1) ∧ Below w.heap.size w wr ∧ ∀ j, j < k → p j = true) (fun i _ => N - (intOf i).toNat)
  case atStart => exact ⟨0, Nat.zero_le _, rfl, Below.refl _ _, fun j hj => absurd hj (Nat.not_lt_zero _)⟩
  case round =>
    obtain ⟨k, hk, rfl, hb, hall⟩ := hrel
    have HA := hide hall
    clear hall
    by_cases hlt : k + 1 < N
    · have hlt' : (k : Int) + 1 < (N : Int) := by omega
      have hl0 : (k : Int) < (N : Int) := by omega
      obtain ⟨b, o, rfl, r0⟩ := Lst.at (unhide HL) (i := k) (by rw [unhide HN]; omega)
      obtain ⟨b', o', e', s0⟩ := Lst.at (unhide HL) (i := k + 1) (by rw [unhide HN]; omega)
      simp at e'
      obtain ⟨rfl, rfl⟩ := e'
      obtain ⟨X, hX⟩ : ∃ X, xs.getD k ve0 = X := ⟨_, rfl⟩
      obtain ⟨Y, hY⟩ : ∃ X, xs.getD (k + 1) ve0 = X := ⟨_, rfl⟩
      rw [hX] at r0
      rw [hY] at s0
      have r := RVe.up hb r0
      have s := RVe.up hb s0
      have HX := hide hX
      have HY := hide hY
      clear hX hY r0 s0
      obtain ⟨UX, huX, hiX⟩ := r.c8
      obtain ⟨uaX, ucX, rfl, _⟩ := hiX.form
      have HIX := hide hiX
      clear hiX
      have kX := fun d : Later wr => d.cell huX
      have dX0 := fun d : Later wr => d.cell r.c0
      have dX1 := fun d : Later wr => d.cell r.c1
      have dX2 := fun d : Later wr => d.cell r.c2
      have dX3 := fun d : Later wr => d.cell r.c3
      have dX4 := fun d : Later wr => d.cell r.c4
      have dX5 := fun d : Later wr => d.cell r.c5
      have dX6 := fun d : Later wr => d.cell r.c6
      have dX7 := fun d : Later wr => d.cell r.c7
      have dX8 := fun d : Later wr => d.cell r.c9
      have dX9 := fun d : Later wr => d.cell r.c10
      have dX10 := fun d : Later wr => d.cell r.c11
      obtain ⟨UY, huY, hiY⟩ := s.c8
      obtain ⟨uaY, ucY, rfl, _⟩ := hiY.form
      have HIY := hide hiY
      clear hiY
      have kY := fun d : Later wr => d.cell huY
      have dY0 := fun d : Later wr => d.cell s.c0
      have dY1 := fun d : Later wr => d.cell s.c1
      have dY2 := fun d : Later wr => d.cell s.c2
      have dY3 := fun d : Later wr => d.cell s.c3
      have dY4 := fun d : Later wr => d.cell s.c4
      have dY5 := fun d : Later wr => d.cell s.c5
      have dY6 := fun d : Later wr => d.cell s.c6
      have dY7 := fun d : Later wr => d.cell s.c7
      have dY8 := fun d : Later wr => d.cell s.c9
      have dY9 := fun d : Later wr => d.cell s.c10
      have dY10 := fun d : Later wr => d.cell s.c11
      clear r s
      have hne := Later.one wr
      go_wp2
      refine wp_region_later (by kernel_rfl) (by kernel_rfl) ?_
      repeat (go_big_quiet_step ((go_at_call 94; exact Calls.later (unhide HST k _ X Y _ _ _ _ _ _ hlt (unhide HX) (unhide HY)))))
      refine wpQuiet_nil ?_
      intro w9 hw'
      obtain ⟨⟨w8, hb2⟩, hw''⟩ := hw'
      subst hw''
      cases hpk : p k
      · go_wp2
        go_ret
        exact ⟨ret_bool (allB_f (show k < N - 1 by omega) hpk).symm, bl_trans hb hb2⟩
      · go_wp2
        go_roundw
        case rel => exact ⟨k + 1, by omega, by go_num, bl_trans hb hb2, fun j hj => if e : j < k then unhide HA j e else (show j = k by omega) ▸ hpk⟩
        case measure => simp [intOf]; omega
    · have hlt' : ¬ (k : Int) + 1 < (N : Int) := by omega
      have hkk : k = N - 1 := by omega
      have HA2 : Hid (allB (N - 1) p = true) := allB_t fun j hj => unhide HA j (by omega)
      clear hkk
      go_wp2
      go_ret
      exact ⟨ret_bool (unhide HA2).symm, hb⟩
set_option maxHeartbeats 1000000 in
theorem rise_uploadsMayBe_1 (a : Option Addr) (cap : Nat) (xs : List Up) (p : Nat → Bool) (w : World) (hL : Lst RUp 4 up0 w (.slice a xs.length cap) xs) (hn : xs.length ≤ 9223372036854775807)
    (hst : ∀ (k : Nat) (wr : World) (X Y : Up) (ua : Option Addr) (un uc : Nat) (ua' : Option Addr) (un' uc' : Nat) , k + 1 < xs.length → xs.getD k up0 = X → xs.getD (k + 1) up0 = Y → Calls Try.prog 100 #[upV X (.slice ua un uc), upV Y (.slice ua' un' uc')] wr fun e w' => e = .returned (.bool (p k)) ∧ Below wr.heap.size wr w') :
    Calls Try.prog 99 #[.slice a xs.length cap, .func (.func 100) #[] #[]] w fun e w' => e = .returned (.bool (allB (xs.length - 1) p)) ∧ Below w.heap.size w w' := by
  have HL := hide hL
  have HST := hide hst
  clear hL hst
  obtain ⟨N, hN⟩ : ∃ N, xs.length = N := ⟨_, rfl⟩
  have HN := hide hN
  rw [hN] at hn HL HST ⊢
  clear hN
  go_enter Try.func99, Try.ntmps99
  go_wp2
  go_loopw [5] (fun i wr => ∃ k : Nat, k ≤ N - 1 ∧ i = .int .i64 ((k : Int) + 1) ∧ Below w.heap.size w wr ∧ ∀ j, j < k → p j = true) (fun i _ => N - (intOf i).toNat)
  case atStart => exact ⟨0, Nat.zero_le _, rfl, Below.refl _ _, fun j hj => absurd hj (Nat.not_lt_zero _)⟩
  case round =>
    obtain ⟨k, hk, rfl, hb, hall⟩ := hrel
    have HA := hide hall
    clear hall
    by_cases hlt : k + 1 < N
    · have hlt' : (k : Int) + 1 < (N : Int) := by omega
      have hl0 : (k : Int) < (N : Int) := by omega
      obtain ⟨b, o, rfl, r0⟩ := Lst.at (unhide HL) (i := k) (by rw [unhide HN]; omega)
      obtain ⟨b', o', e', s0⟩ := Lst.at (unhide HL) (i := k + 1) (by rw [unhide HN]; omega)
      simp at e'
      obtain ⟨rfl, rfl⟩ := e'
      obtain ⟨X, hX⟩ : ∃ X, xs.getD k up0 = X := ⟨_, rfl⟩
      obtain ⟨Y, hY⟩ : ∃ X, xs.getD (k + 1) up0 = X := ⟨_, rfl⟩
      rw [hX] at r0
      rw [hY] at s0
      have r := RUp.up hb r0
      have s := RUp.up hb s0
      have HX := hide hX
      have HY := hide hY
      clear hX hY r0 s0
      obtain ⟨UX, huX, hiX⟩ := r.c3
      obtain ⟨uaX, ucX, rfl, _⟩ := hiX.form
      have HIX := hide hiX
      clear hiX
      have kX := fun d : Later wr => d.cell huX
      have dX0 := fun d : Later wr => d.cell r.c0
      have dX1 := fun d : Later wr => d.cell r.c1
      have dX2 := fun d : Later wr => d.cell r.c2
      obtain ⟨UY, huY, hiY⟩ := s.c3
      obtain ⟨uaY, ucY, rfl, _⟩ := hiY.form
      have HIY := hide hiY
      clear hiY
      have kY := fun d : Later wr => d.cell huY
      have dY0 := fun d : Later wr => d.cell s.c0
      have dY1 := fun d : Later wr => d.cell s.c1
      have dY2 := fun d : Later wr => d.cell s.c2
      clear r s
      have hne := Later.one wr
      go_wp2
      refine wp_region_later (by kernel_rfl) (by kernel_rfl) ?_
      repeat (go_big_quiet_step ((go_at_call 100; exact Calls.later (unhide HST k _ X Y _ _ _ _ _ _ hlt (unhide HX) (unhide HY)))))
      refine wpQuiet_nil ?_
      intro w9 hw'
      obtain ⟨⟨w8, hb2⟩, hw''⟩ := hw'
      subst hw''
      cases hpk : p k
      · go_wp2
        go_ret
        exact ⟨ret_bool (allB_f (show k < N - 1 by omega) hpk).symm, bl_trans hb hb2⟩
      · go_wp2
        go_roundw
        case rel => exact ⟨k + 1, by omega, by go_num, bl_trans hb hb2, fun j hj => if e : j < k then unhide HA j e else (show j = k by omega) ▸ hpk⟩
        case measure => simp [intOf]; omega
    · have hlt' : ¬ (k : Int) + 1 < (N : Int) := by omega
      have hkk : k = N - 1 := by omega
      have HA2 : Hid (allB (N - 1) p = true) := allB_t fun j hj => unhide HA j (by omega)
      clear hkk
      go_wp2
      go_ret
      exact ⟨ret_bool (unhide HA2).symm, hb⟩
set_option maxHeartbeats 1000000 in
theorem rise_partsMayBe_1 (a : Option Addr) (cap : Nat) (xs : List Pa) (p : Nat → Bool) (w : World) (hL : Lst RPa 3 pa0 w (.slice a xs.length cap) xs) (hn : xs.length ≤ 9223372036854775807)
    (hst : ∀ (k : Nat) (wr : World) (X Y : Pa) (ua : Option Addr) (un uc : Nat) (ua' : Option Addr) (un' uc' : Nat) , k + 1 < xs.length → xs.getD k pa0 = X → xs.getD (k + 1) pa0 = Y → Calls Try.prog 125 #[paV X (.slice ua un uc), paV Y (.slice ua' un' uc')] wr fun e w' => e = .returned (.bool (p k)) ∧ Below wr.heap.size wr w') :
    Calls Try.prog 124 #[.slice a xs.length cap, .func (.func 125) #[] #[]] w fun e w' => e = .returned (.bool (allB (xs.length - 1) p)) ∧ Below w.heap.size w w' := by
  have HL := hide hL
  have HST := hide hst
  clear hL hst
  obtain ⟨N, hN⟩ : ∃ N, xs.length = N := ⟨_, rfl⟩
  have HN := hide hN
  rw [hN] at hn HL HST ⊢
  clear hN
  go_enter Try.func124, Try.ntmps124
  go_wp2
  go_loopw [5] (fun i wr => ∃ k : Nat, k ≤ N - 1 ∧ i = .int .i64 ((k : Int) + 1) ∧ Below w.heap.size w wr ∧ ∀ j, j < k → p j = true) (fun i _ => N - (intOf i).toNat)
  case atStart => exact ⟨0, Nat.zero_le _, rfl, Below.refl _ _, fun j hj => absurd hj (Nat.not_lt_zero _)⟩
  case round =>
    obtain ⟨k, hk, rfl, hb, hall⟩ := hrel
    have HA := hide hall
    clear hall
    by_cases hlt : k + 1 < N
    · have hlt' : (k : Int) + 1 < (N : Int) := by omega
      have hl0 : (k : Int) < (N : Int) := by omega
      obtain ⟨b, o, rfl, r0⟩ := Lst.at (unhide HL) (i := k) (by rw [unhide HN]; omega)
      obtain ⟨b', o', e', s0⟩ := Lst.at (unhide HL) (i := k + 1) (by rw [unhide HN]; omega)
      simp at e'
      obtain ⟨rfl, rfl⟩ := e'
      obtain ⟨X, hX⟩ : ∃ X, xs.getD k pa0 = X := ⟨_, rfl⟩
      obtain ⟨Y, hY⟩ : ∃ X, xs.getD (k + 1) pa0 = X := ⟨_, rfl⟩
      rw [hX] at r0
      rw [hY] at s0
      have r := RPa.up hb r0
      have s := RPa.up hb s0
      have HX := hide hX
      have HY := hide hY
      clear hX hY r0 s0
      obtain ⟨UX, huX, hiX⟩ := r.c2
      obtain ⟨uaX, ucX, rfl, _⟩ := hiX.form
      have HIX := hide hiX
      clear hiX
      have kX := fun d : Later wr => d.cell huX
      have dX0 := fun d : Later wr => d.cell r.c0
      have dX1 := fun d : Later wr => d.cell r.c1
      obtain ⟨UY, huY, hiY⟩ := s.c2
      obtain ⟨uaY, ucY, rfl, _⟩ := hiY.form
      have HIY := hide hiY
      clear hiY
      have kY := fun d : Later wr => d.cell huY
      have dY0 := fun d : Later wr => d.cell s.c0
      have dY1 := fun d : Later wr => d.cell s.c1
      clear r s
      have hne := Later.one wr
      go_wp2
      refine wp_region_later (by kernel_rfl) (by kernel_rfl) ?_
      repeat (go_big_quiet_step ((go_at_call 125; exact Calls.later (unhide HST k _ X Y _ _ _ _ _ _ hlt (unhide HX) (unhide HY)))))
      refine wpQuiet_nil ?_
      intro w9 hw'
      obtain ⟨⟨w8, hb2⟩, hw''⟩ := hw'
      subst hw''
      cases hpk : p k
      · go_wp2
        go_ret
        exact ⟨ret_bool (allB_f (show k < N - 1 by omega) hpk).symm, bl_trans hb hb2⟩
      · go_wp2
        go_roundw
        case rel => exact ⟨k + 1, by omega, by go_num, bl_trans hb hb2, fun j hj => if e : j < k then unhide HA j e else (show j = k by omega) ▸ hpk⟩
        case measure => simp [intOf]; omega
    · have hlt' : ¬ (k : Int) + 1 < (N : Int) := by omega
      have hkk : k = N - 1 := by omega
      have HA2 : Hid (allB (N - 1) p = true) := allB_t fun j hj => unhide HA j (by omega)
      clear hkk
      go_wp2
      go_ret
      exact ⟨ret_bool (unhide HA2).symm, hb⟩
end Go.Proofs.Ytdalkkjojflakaa
