/- tier.Freeze, Drop, Chill: the closures, ids, the calls. -/
import Derived.Test.YtdgmdapijhbocaaGreatG18
namespace Go.Proofs.YtdgmdapijhbocaaGreat
open Go.RowKit Go.Maps
set_option maxRecDepth 100000
set_option linter.unusedVariables false
set_option linter.unusedSimpArgs false
def frzP (S : St) (X : Ve) : Bool := X.tier == 1 && ageE S X false
def drpP (S : St) (X : Ve) : Bool := ageE S X true
def chlP (S : St) (X : Ve) : Bool := X.tier == 3 && decide (X.til ≤ S.clock)
def onB (X : Ve) : Bool := X.tier == 2 || X.tier == 3
def hlfP (n : Int) (X : Ve) : Bool := onB X && X.vol == n
theorem freeze_1 (S : St) (X : Ve) (b v u q g : Value) (ua : Option Addr) (un uc B : Nat) (w : World) (hB : BoxS w B S b v u q g) (hS : Sta w b v u q g S)
    (hc0 : 0 ≤ S.clock) (hc1 : S.clock ≤ 1073741824) (ht0 : 0 ≤ X.time) (ht1 : X.time ≤ 1073741824) (hk : X.ke.size ≤ maxLen) :
    Calls Tryz.prog 47 #[veV X (.slice ua un uc), .pointer (some ⟨B, 0, none⟩)] w fun e w' => e = .returned (.bool (frzP S X)) ∧ Below w.heap.size w w' := by
  have HE : Hid (frzP S X = ((X.tier == 1) && ageE S X false)) := rfl
  obtain ⟨R, hR⟩ : ∃ R, frzP S X = R := ⟨_, rfl⟩
  rw [hR] at HE ⊢
  clear hR
  have HS := hide hS
  have HK := hide hk
  have H1 := hide (And.intro hc0 (And.intro hc1 (And.intro ht0 ht1)))
  have hBl := hB.lt
  have x0 := hB.c0
  have x1 := hB.c1
  have x2 := hB.c2
  have x3 := hB.c3
  have x4 := hB.c4
  have x5 := hB.c5
  have x6 := hB.c6
  clear hS hk hc0 hc1 ht0 ht1 hB
  cases t : (X.tier == 1)
  · rw [t] at HE
    have HR : Hid (R = false) := unhide HE
    clear HE
    go_enter Tryz.func47, Tryz.ntmps47
    go_wp2
    go_ret
    exact ⟨ret_bool (unhide HR).symm, bl1 _ _⟩
  · rw [t] at HE
    have HR : Hid (R = ageE S X false) := unhide HE
    clear HE
    go_enter Tryz.func47, Tryz.ntmps47
    go_wp2_with fail
    refine (isFor_fre S X b v u q g ua un uc _ ((unhide HS).up (bl1 _ _)) (unhide H1).1 (unhide H1).2.1 (unhide H1).2.2.1 (unhide H1).2.2.2 (unhide HK)).mono ?_
    rintro e w1 ⟨rfl, hb⟩
    go_wp2
    go_ret
    exact ⟨ret_bool (unhide HR).symm, bl_trans (bl1 _ _) hb⟩
theorem drop_1 (S : St) (X : Ve) (b v u q g : Value) (ua : Option Addr) (un uc B : Nat) (w : World) (hB : BoxS w B S b v u q g) (hS : Sta w b v u q g S)
    (hc0 : 0 ≤ S.clock) (hc1 : S.clock ≤ 1073741824) (ht0 : 0 ≤ X.time) (ht1 : X.time ≤ 1073741824) (hk : X.ke.size ≤ maxLen) :
    Calls Tryz.prog 50 #[veV X (.slice ua un uc), .pointer (some ⟨B, 0, none⟩)] w fun e w' => e = .returned (.bool (drpP S X)) ∧ Below w.heap.size w w' := by
  have HE : Hid (drpP S X = ageE S X true) := rfl
  obtain ⟨R, hR⟩ : ∃ R, drpP S X = R := ⟨_, rfl⟩
  rw [hR] at HE ⊢
  clear hR
  have HS := hide hS
  have HK := hide hk
  have H1 := hide (And.intro hc0 (And.intro hc1 (And.intro ht0 ht1)))
  have hBl := hB.lt
  have x0 := hB.c0
  have x1 := hB.c1
  have x2 := hB.c2
  have x3 := hB.c3
  have x4 := hB.c4
  have x5 := hB.c5
  have x6 := hB.c6
  clear hS hk hc0 hc1 ht0 ht1 hB
  go_enter Tryz.func50, Tryz.ntmps50
  go_wp2_with fail
  refine (isFor_dro S X b v u q g ua un uc _ ((unhide HS).up (bl1 _ _)) (unhide H1).1 (unhide H1).2.1 (unhide H1).2.2.1 (unhide H1).2.2.2 (unhide HK)).mono ?_
  rintro e w1 ⟨rfl, hb⟩
  go_wp2
  go_ret
  exact ⟨ret_bool (unhide HE).symm, bl_trans (bl1 _ _) hb⟩
theorem tOnTape_any (X : Ve) (ua : Option Addr) (un uc : Nat) (w : World) :
    Calls Tryz.prog 112 #[veV X (.slice ua un uc)] w fun e w' => e = .returned (.bool (onB X)) ∧ Below w.heap.size w w' := by
  have HE : Hid (onB X = ((X.tier == 2) || (X.tier == 3))) := rfl
  obtain ⟨R, hR⟩ : ∃ R, onB X = R := ⟨_, rfl⟩
  rw [hR] at HE ⊢
  clear hR
  cases t : (X.tier == 2)
  · rw [t] at HE
    have HR : Hid (R = (X.tier == 3)) := unhide HE
    clear HE
    go_enter Tryz.func112, Tryz.ntmps112
    go_wp2
    go_ret
    exact ⟨ret_bool (unhide HR).symm, bl1 _ _⟩
  · rw [t] at HE
    have HR : Hid (R = true) := unhide HE
    clear HE
    go_enter Tryz.func112, Tryz.ntmps112
    go_wp2
    go_ret
    exact ⟨ret_bool (unhide HR).symm, bl1 _ _⟩
set_option maxHeartbeats 1000000 in
theorem ids_fre (C1 : Value) (S : St) (b v u q g : Value) (p : Ve → Bool) (w : World) (hS : Sta w b v u q g S) (hn : S.ves.length ≤ 1000)
    (hst : ∀ (k : Nat) (wr : World) (X : Ve) (ua : Option Addr) (un uc : Nat), k < S.ves.length → S.ves.getD k ve0 = X → Below w.heap.size w wr → X.bu.size ≤ maxLen → X.ke.size ≤ maxLen → Calls Tryz.prog 47 #[veV X (.slice ua un uc), C1] wr fun e w' => e = .returned (.bool (p X)) ∧ Below wr.heap.size wr w') :
    Calls Tryz.prog 114 #[stV S b v u q g, .func (.func 47) #[] #[C1]] w fun e w' => ∃ o, e = .returned o ∧ OwI w' w.heap.size o (idsK S.ves p S.ves.length) ∧ Below w.heap.size w w' := by
  obtain ⟨va, vc, rfl, hv1, hv2⟩ := hS.ves.form
  unfold maxLen at hv2
  obtain ⟨i0, hi, hz0, hz1, hz2⟩ := info_parts infoI
  have HV := hide hS.ves
  have HST := hide hst
  clear hst hS
  obtain ⟨l, hl⟩ : ∃ l, S.ves = l := ⟨_, rfl⟩
  rw [hl] at hn hv1 HV HST ⊢
  clear hl
  obtain ⟨N, hN⟩ : ∃ N, l.length = N := ⟨_, rfl⟩
  rw [hN] at hn hv1 HV HST ⊢
  have HN := hide hN
  clear hN
  go_enter Tryz.func114, Tryz.ntmps114
  go_wp2
  have hw0 := bl1 w (.cells #[.int .i64 S.next, .int .i64 S.clock, b, .slice va N vc, u, q, g] 29)
  obtain ⟨W, hW⟩ : ∃ W, w.alloc (.cells #[.int .i64 S.next, .int .i64 S.clock, b, .slice va N vc, u, q, g] 29) = W := ⟨_, rfl⟩
  rw [hW] at hw0 ⊢
  clear hW
  go_loopw [5, 7, 11] (fun o _ i wr => ∃ k : Nat, k ≤ N ∧ i = .int .i64 k ∧ Below W.heap.size W wr ∧ OwI wr W.heap.size o (idsK l p k)) (fun _ _ i _ => N - (intOf i).toNat)
  case atStart => exact ⟨0, Nat.zero_le _, rfl, Below.refl _ _, OwI.nil _ _⟩
  case round =>
    obtain ⟨k, hk, rfl, hbq, hO⟩ := hrel
    have HOQ := hide hO
    clear hO
    by_cases hlt : k < N
    · have hlt' : k < l.length := by rw [unhide HN]; exact hlt
      obtain ⟨b8, o8, e8, r0⟩ := Lst.at (unhide HV) hlt'
      obtain ⟨X, hX⟩ : ∃ X, l.getD k ve0 = X := ⟨_, rfl⟩
      rw [hX] at r0
      have HX := hide hX
      subst e8
      have r := RVe.up (bl_trans hw0 hbq) r0
      obtain ⟨U, hu, hI⟩ := r.c8
      obtain ⟨ua, uc, rfl, _⟩ := hI.form
      have c0 := r.c0
      have c1 := r.c1
      have c2 := r.c2
      have c3 := r.c3
      have c4 := r.c4
      have c5 := r.c5
      have c6 := r.c6
      have c7 := r.c7
      have c9 := r.c9
      have c10 := r.c10
      have c11 := r.c11
      have HS1 := hide r.s1
      have HS2 := hide r.s2
      clear r r0 hI hX
      have hWq := hbq.size
      have hln := idsK_len l p k
      go_wp2_with fail
      refine (unhide HST k _ X _ _ _ hlt (unhide HX) (bl_alloc (bl_trans hw0 hbq) _) (unhide HS1) (unhide HS2)).mono ?_
      rintro e w1 ⟨rfl, hb1⟩
      have z0 := box1 hb1 0 rfl
      have hbw := bl_trans (bl1 wr _) hb1
      have hw1 := bl_trans hbq hbw
      have HO1 := hide (oi_up (unhide HOQ) hbw)
      have hW1 := hw1.size
      have hs1 := hbw.size
      have hbl : wr.heap.size < w1.heap.size := World.block_lt_of_cell? w1 _ z0
      clear hb1 HOQ c0 c1 c2 c3 c4 c5 c6 c7 c9 c10 c11 hu
      cases hp : p X
      · have HZ : Hid (idsK l p (k + 1) = idsK l p k) := idsK_no hlt' (by rw [unhide HX]; exact hp)
        clear hp
        go_wp2
        go_roundw
        case rel => exact ⟨k + 1, by omega, by go_num, hw1, by rw [unhide HZ]; exact unhide HO1⟩
        case measure => (simp [intOf] <;> omega)
      · have HZ : Hid (idsK l p (k + 1) = idsK l p k ++ [X.id]) := by
          show _ = _
          rw [idsK_yes hlt' (by rw [unhide HX]; exact hp), unhide HX]
        clear hp
        obtain ⟨Q, hQ⟩ : ∃ Q, idsK l p k = Q := ⟨_, rfl⟩
        rw [hQ] at HO1 HZ hln
        clear hQ
        go_wp2_with (first
          | (at_builtin; refine wpList_append_own _ rfl _ _ 27 rfl W.heap.size 3 i0 (.int .i64 0) 1 8 Tryz.underlying27 hi hz0 hz1 hz2 rfl (by decide) _ _ _ rfl ((unhide HO1).alloc _) ⟨w1.heap.size, 0, none⟩ 1 1 [.int .i64 X.id] rfl rfl (cell_one_new _ _ _) (oneI _) (by unfold maxLen; omega) (by omega) (by simp; omega) ?_; intro v' w1' hown' hgrow hnil)
          | go_in)
        have hb1 := (bl_alloc hw1 _).grown hgrow (bl_alloc hw1 _).size (fun j hj => own_blk (unhide HO1) j hj)
        rw [i64s_snoc] at hown'
        clear hgrow hnil
        exact ⟨⟨k + 1, by omega, by go_num, hb1, by rw [unhide HZ]; unfold OwI; rw [List.length_append]; exact hown'⟩, by simp [intOf]; omega⟩
    · obtain rfl : k = N := by omega
      go_wp2
      go_ret
      exact ⟨_, rfl, own_lo (unhide HOQ) hw0.size, bl_trans hw0 hbq⟩
set_option maxHeartbeats 1000000 in
theorem ids_dro (C1 : Value) (S : St) (b v u q g : Value) (p : Ve → Bool) (w : World) (hS : Sta w b v u q g S) (hn : S.ves.length ≤ 1000)
    (hst : ∀ (k : Nat) (wr : World) (X : Ve) (ua : Option Addr) (un uc : Nat), k < S.ves.length → S.ves.getD k ve0 = X → Below w.heap.size w wr → X.bu.size ≤ maxLen → X.ke.size ≤ maxLen → Calls Tryz.prog 50 #[veV X (.slice ua un uc), C1] wr fun e w' => e = .returned (.bool (p X)) ∧ Below wr.heap.size wr w') :
    Calls Tryz.prog 114 #[stV S b v u q g, .func (.func 50) #[] #[C1]] w fun e w' => ∃ o, e = .returned o ∧ OwI w' w.heap.size o (idsK S.ves p S.ves.length) ∧ Below w.heap.size w w' := by
  obtain ⟨va, vc, rfl, hv1, hv2⟩ := hS.ves.form
  unfold maxLen at hv2
  obtain ⟨i0, hi, hz0, hz1, hz2⟩ := info_parts infoI
  have HV := hide hS.ves
  have HST := hide hst
  clear hst hS
  obtain ⟨l, hl⟩ : ∃ l, S.ves = l := ⟨_, rfl⟩
  rw [hl] at hn hv1 HV HST ⊢
  clear hl
  obtain ⟨N, hN⟩ : ∃ N, l.length = N := ⟨_, rfl⟩
  rw [hN] at hn hv1 HV HST ⊢
  have HN := hide hN
  clear hN
  go_enter Tryz.func114, Tryz.ntmps114
  go_wp2
  have hw0 := bl1 w (.cells #[.int .i64 S.next, .int .i64 S.clock, b, .slice va N vc, u, q, g] 29)
  obtain ⟨W, hW⟩ : ∃ W, w.alloc (.cells #[.int .i64 S.next, .int .i64 S.clock, b, .slice va N vc, u, q, g] 29) = W := ⟨_, rfl⟩
  rw [hW] at hw0 ⊢
  clear hW
  go_loopw [5, 7, 11] (fun o _ i wr => ∃ k : Nat, k ≤ N ∧ i = .int .i64 k ∧ Below W.heap.size W wr ∧ OwI wr W.heap.size o (idsK l p k)) (fun _ _ i _ => N - (intOf i).toNat)
  case atStart => exact ⟨0, Nat.zero_le _, rfl, Below.refl _ _, OwI.nil _ _⟩
  case round =>
    obtain ⟨k, hk, rfl, hbq, hO⟩ := hrel
    have HOQ := hide hO
    clear hO
    by_cases hlt : k < N
    · have hlt' : k < l.length := by rw [unhide HN]; exact hlt
      obtain ⟨b8, o8, e8, r0⟩ := Lst.at (unhide HV) hlt'
      obtain ⟨X, hX⟩ : ∃ X, l.getD k ve0 = X := ⟨_, rfl⟩
      rw [hX] at r0
      have HX := hide hX
      subst e8
      have r := RVe.up (bl_trans hw0 hbq) r0
      obtain ⟨U, hu, hI⟩ := r.c8
      obtain ⟨ua, uc, rfl, _⟩ := hI.form
      have c0 := r.c0
      have c1 := r.c1
      have c2 := r.c2
      have c3 := r.c3
      have c4 := r.c4
      have c5 := r.c5
      have c6 := r.c6
      have c7 := r.c7
      have c9 := r.c9
      have c10 := r.c10
      have c11 := r.c11
      have HS1 := hide r.s1
      have HS2 := hide r.s2
      clear r r0 hI hX
      have hWq := hbq.size
      have hln := idsK_len l p k
      go_wp2_with fail
      refine (unhide HST k _ X _ _ _ hlt (unhide HX) (bl_alloc (bl_trans hw0 hbq) _) (unhide HS1) (unhide HS2)).mono ?_
      rintro e w1 ⟨rfl, hb1⟩
      have z0 := box1 hb1 0 rfl
      have hbw := bl_trans (bl1 wr _) hb1
      have hw1 := bl_trans hbq hbw
      have HO1 := hide (oi_up (unhide HOQ) hbw)
      have hW1 := hw1.size
      have hs1 := hbw.size
      have hbl : wr.heap.size < w1.heap.size := World.block_lt_of_cell? w1 _ z0
      clear hb1 HOQ c0 c1 c2 c3 c4 c5 c6 c7 c9 c10 c11 hu
      cases hp : p X
      · have HZ : Hid (idsK l p (k + 1) = idsK l p k) := idsK_no hlt' (by rw [unhide HX]; exact hp)
        clear hp
        go_wp2
        go_roundw
        case rel => exact ⟨k + 1, by omega, by go_num, hw1, by rw [unhide HZ]; exact unhide HO1⟩
        case measure => (simp [intOf] <;> omega)
      · have HZ : Hid (idsK l p (k + 1) = idsK l p k ++ [X.id]) := by
          show _ = _
          rw [idsK_yes hlt' (by rw [unhide HX]; exact hp), unhide HX]
        clear hp
        obtain ⟨Q, hQ⟩ : ∃ Q, idsK l p k = Q := ⟨_, rfl⟩
        rw [hQ] at HO1 HZ hln
        clear hQ
        go_wp2_with (first
          | (at_builtin; refine wpList_append_own _ rfl _ _ 27 rfl W.heap.size 3 i0 (.int .i64 0) 1 8 Tryz.underlying27 hi hz0 hz1 hz2 rfl (by decide) _ _ _ rfl ((unhide HO1).alloc _) ⟨w1.heap.size, 0, none⟩ 1 1 [.int .i64 X.id] rfl rfl (cell_one_new _ _ _) (oneI _) (by unfold maxLen; omega) (by omega) (by simp; omega) ?_; intro v' w1' hown' hgrow hnil)
          | go_in)
        have hb1 := (bl_alloc hw1 _).grown hgrow (bl_alloc hw1 _).size (fun j hj => own_blk (unhide HO1) j hj)
        rw [i64s_snoc] at hown'
        clear hgrow hnil
        exact ⟨⟨k + 1, by omega, by go_num, hb1, by rw [unhide HZ]; unfold OwI; rw [List.length_append]; exact hown'⟩, by simp [intOf]; omega⟩
    · obtain rfl : k = N := by omega
      go_wp2
      go_ret
      exact ⟨_, rfl, own_lo (unhide HOQ) hw0.size, bl_trans hw0 hbq⟩
end Go.Proofs.YtdgmdapijhbocaaGreat
