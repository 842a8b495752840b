/- tier.Freeze, Drop, Chill: the closures, ids, the calls. -/
import Derived.Test.YtdgmdapijhbocaaGreatG17
import Derived.Test.YtdgmdapijhbocaaGreatG1
namespace Go.Proofs.YtdgmdapijhbocaaGreat
open Go.RowKit Go.Maps
set_option maxRecDepth 100000
set_option linter.unusedVariables false
set_option linter.unusedSimpArgs false
def frzP (S : St) (X : Ve) : Bool := X.tier == 1 && ageE S X false
def drpP (S : St) (X : Ve) : Bool := ageE S X true
def chlP (S : St) (X : Ve) : Bool := X.tier == 3 && decide (X.til ≤ S.clock)
def onB (X : Ve) : Bool := X.tier == 2 || X.tier == 3
def hlfP (n : Int) (X : Ve) : Bool := onB X && X.vol == n
theorem freeze_1 (S : St) (X : Ve) (b v u q g : Value) (ua : Option Addr) (un uc B : Nat) (w : World) (hB : BoxS w B S b v u q g) (hS : Sta w b v u q g S)
    (hc0 : 0 ≤ S.clock) (hc1 : S.clock ≤ 1073741824) (ht0 : 0 ≤ X.time) (ht1 : X.time ≤ 1073741824) (hk : X.ke.size ≤ maxLen) :
    Calls Tryz.prog 47 #[veV X (.slice ua un uc), .pointer (some ⟨B, 0, none⟩)] w fun e w' => e = .returned (.bool (frzP S X)) ∧ Below w.heap.size w w' := by
  have HE : Hid (frzP S X = ((X.tier == 1) && ageE S X false)) := rfl
  obtain ⟨R, hR⟩ : ∃ R, frzP S X = R := ⟨_, rfl⟩
  rw [hR] at HE ⊢
  clear hR
  have HS := hide hS
  have HK := hide hk
  have H1 := hide (And.intro hc0 (And.intro hc1 (And.intro ht0 ht1)))
  have hBl := hB.lt
  have x0 := hB.c0
  have x1 := hB.c1
  have x2 := hB.c2
  have x3 := hB.c3
  have x4 := hB.c4
  have x5 := hB.c5
  have x6 := hB.c6
  clear hS hk hc0 hc1 ht0 ht1 hB
  cases t : (X.tier == 1)
  · rw [t] at HE
    have HR : Hid (R = false) := unhide HE
    clear HE
    go_enter Tryz.func47, Tryz.ntmps47
    go_wp2
    go_ret
    exact ⟨ret_bool (unhide HR).symm, bl1 _ _⟩
  · rw [t] at HE
    have HR : Hid (R = ageE S X false) := unhide HE
    clear HE
    go_enter Tryz.func47, Tryz.ntmps47
    go_wp2_with fail
    refine (isFor_fre S X b v u q g ua un uc _ ((unhide HS).up (bl1 _ _)) (unhide H1).1 (unhide H1).2.1 (unhide H1).2.2.1 (unhide H1).2.2.2 (unhide HK)).mono ?_
    rintro e w1 ⟨rfl, hb⟩
    go_wp2
    go_ret
    exact ⟨ret_bool (unhide HR).symm, bl_trans (bl1 _ _) hb⟩
theorem drop_1 (S : St) (X : Ve) (b v u q g : Value) (ua : Option Addr) (un uc B : Nat) (w : World) (hB : BoxS w B S b v u q g) (hS : Sta w b v u q g S)
    (hc0 : 0 ≤ S.clock) (hc1 : S.clock ≤ 1073741824) (ht0 : 0 ≤ X.time) (ht1 : X.time ≤ 1073741824) (hk : X.ke.size ≤ maxLen) :
    Calls Tryz.prog 50 #[veV X (.slice ua un uc), .pointer (some ⟨B, 0, none⟩)] w fun e w' => e = .returned (.bool (drpP S X)) ∧ Below w.heap.size w w' := by
  have HE : Hid (drpP S X = ageE S X true) := rfl
  obtain ⟨R, hR⟩ : ∃ R, drpP S X = R := ⟨_, rfl⟩
  rw [hR] at HE ⊢
  clear hR
  have HS := hide hS
  have HK := hide hk
  have H1 := hide (And.intro hc0 (And.intro hc1 (And.intro ht0 ht1)))
  have hBl := hB.lt
  have x0 := hB.c0
  have x1 := hB.c1
  have x2 := hB.c2
  have x3 := hB.c3
  have x4 := hB.c4
  have x5 := hB.c5
  have x6 := hB.c6
  clear hS hk hc0 hc1 ht0 ht1 hB
  go_enter Tryz.func50, Tryz.ntmps50
  go_wp2_with fail
  refine (isFor_dro S X b v u q g ua un uc _ ((unhide HS).up (bl1 _ _)) (unhide H1).1 (unhide H1).2.1 (unhide H1).2.2.1 (unhide H1).2.2.2 (unhide HK)).mono ?_
  rintro e w1 ⟨rfl, hb⟩
  go_wp2
  go_ret
  exact ⟨ret_bool (unhide HE).symm, bl_trans (bl1 _ _) hb⟩
theorem tOnTape_any (X : Ve) (ua : Option Addr) (un uc : Nat) (w : World) :
    Calls Tryz.prog 112 #[veV X (.slice ua un uc)] w fun e w' => e = .returned (.bool (onB X)) ∧ Below w.heap.size w w' := by
  have HE : Hid (onB X = ((X.tier == 2) || (X.tier == 3))) := rfl
  obtain ⟨R, hR⟩ : ∃ R, onB X = R := ⟨_, rfl⟩
  rw [hR] at HE ⊢
  clear hR
  cases t : (X.tier == 2)
  · rw [t] at HE
    have HR : Hid (R = (X.tier == 3)) := unhide HE
    clear HE
    go_enter Tryz.func112, Tryz.ntmps112
    go_wp2
    go_ret
    exact ⟨ret_bool (unhide HR).symm, bl1 _ _⟩
  · rw [t] at HE
    have HR : Hid (R = true) := unhide HE
    clear HE
    go_enter Tryz.func112, Tryz.ntmps112
    go_wp2
    go_ret
    exact ⟨ret_bool (unhide HR).symm, bl1 _ _⟩
set_option maxHeartbeats 1000000 in
theorem ids_fre (C1 : Value) (S : St) (b v u q g : Value) (p : Ve → Bool) (w : World) (hS : Sta w b v u q g S) (hn : S.ves.length ≤ 1000)
    (hst : ∀ (k : Nat) (wr : World) (X : Ve) (ua : Option Addr) (un uc : Nat), k < S.ves.length → S.ves.getD k ve0 = X → Below w.heap.size w wr → X.bu.size ≤ maxLen → X.ke.size ≤ maxLen → Calls Tryz.prog 47 #[veV X (.slice ua un uc), C1] wr fun e w' => e = .returned (.bool (p X)) ∧ Below wr.heap.size wr w') :
    Calls Tryz.prog 114 #[stV S b v u q g, .func (.func 47) #[] #[C1]] w fun e w' => ∃ o, e = .returned o ∧ OwI w' w.heap.size o (idsK S.ves p S.ves.length) ∧ Below w.heap.size w w' := by
  obtain ⟨va, vc, rfl, hv1, hv2⟩ := hS.ves.form
  unfold maxLen at hv2
  obtain ⟨i0, hi, hz0, hz1, hz2⟩ := info_parts infoI
  have HV := hide hS.ves
  have HST := hide hst
  clear hst hS
  obtain ⟨l, hl⟩ : ∃ l, S.ves = l := ⟨_, rfl⟩
  rw [hl] at hn hv1 HV HST ⊢
  clear hl
  obtain ⟨N, hN⟩ : ∃ N, l.length = N := ⟨_, rfl⟩
  rw [hN] at hn hv1 HV HST ⊢
  have HN := hide hN
  clear hN
  go_enter Tryz.func114, Tryz.ntmps114
  go_wp2
  have hw0 := bl1 w (.cells #[.int .i64 S.next, .int .i64 S.clock, b, .slice va N vc, u, q, g] 29)
  obtain ⟨W, hW⟩ : ∃ W, w.alloc (.cells #[.int .i64 S.next, .int .i64 S.clock, b, .slice va N vc, u, q, g] 29) = W := ⟨_, rfl⟩
  rw [hW] at hw0 ⊢
  clear hW
  go_loopw [5, 7, 11] (fun o _ i wr => ∃ k : Nat, k ≤ N ∧ i = .int .i64 k ∧ Below W.heap.size W wr ∧ OwI wr W.heap.size o (idsK l p k)) (fun _ _ i _ => N - (intOf i).toNat)
  case atStart => exact ⟨0, Nat.zero_le _, rfl, Below.refl _ _, OwI.nil _ _⟩
  case round =>
    obtain ⟨k, hk, rfl, hbq, hO⟩ := hrel
    have HOQ := hide hO
    clear hO
    by_cases hlt : k < N
    · have hlt' : k < l.length := by rw [unhide HN]; exact hlt
      obtain ⟨b8, o8, e8, r0⟩ := Lst.at (unhide HV) hlt'
      obtain ⟨X, hX⟩ : ∃ X, l.getD k ve0 = X := ⟨_, rfl⟩
      rw [hX] at r0
      have HX := hide hX
      subst e8
      have r := RVe.up (bl_trans hw0 hbq) r0
      obtain ⟨U, hu, hI⟩ := r.c8
      obtain ⟨ua, uc, rfl, _⟩ := hI.form
      have c0 := r.c0
      have c1 := r.c1
      have c2 := r.c2
      have c3 := r.c3
      have c4 := r.c4
      have c5 := r.c5
      have c6 := r.c6
      have c7 := r.c7
      have c9 := r.c9
      have c10 := r.c10
      have c11 := r.c11
      have HS1 := hide r.s1
      have HS2 := hide r.s2
      clear r r0 hI hX
      have hWq := hbq.size
      have hln := idsK_len l p k
      go_wp2_with fail
      refine (unhide HST k _ X _ _ _ hlt (unhide HX) (bl_alloc (bl_trans hw0 hbq) _) (unhide HS1) (unhide HS2)).mono ?_
      rintro e w1 ⟨rfl, hb1⟩
      have z0 := box1 hb1 0 rfl
      have hbw := bl_trans (bl1 wr _) hb1
      have hw1 := bl_trans hbq hbw
      have HO1 := hide (oi_up (unhide HOQ) hbw)
      have hW1 := hw1.size
      have hs1 := hbw.size
      have hbl : wr.heap.size < w1.heap.size := World.block_lt_of_cell? w1 _ z0
      clear hb1 HOQ c0 c1 c2 c3 c4 c5 c6 c7 c9 c10 c11 hu
      cases hp : p X
      · have HZ : Hid (idsK l p (k + 1) = idsK l p k) := idsK_no hlt' (by rw [unhide HX]; exact hp)
        clear hp
        go_wp2
        go_roundw
        case rel => exact ⟨k + 1, by omega, by go_num, hw1, by rw [unhide HZ]; exact unhide HO1⟩
        case measure => (simp [intOf] <;> omega)
      · have HZ : Hid (idsK l p (k + 1) = idsK l p k ++ [X.id]) := by
          show _ = _
          rw [idsK_yes hlt' (by rw [unhide HX]; exact hp), unhide HX]
        clear hp
        obtain ⟨Q, hQ⟩ : ∃ Q, idsK l p k = Q := ⟨_, rfl⟩
        rw [hQ] at HO1 HZ hln
        clear hQ
        go_wp2_with (first
          | (at_builtin; refine wpList_append_own _ rfl _ _ 27 rfl W.heap.size 3 i0 (.int .i64 0) 1 8 Tryz.underlying27 hi hz0 hz1 hz2 rfl (by decide) _ _ _ rfl ((unhide HO1).alloc _) ⟨w1.heap.size, 0, none⟩ 1 1 [.int .i64 X.id] rfl rfl (cell_one_new _ _ _) (oneI _) (by unfold maxLen; omega) (by omega) (by simp; omega) ?_; intro v' w1' hown' hgrow hnil)
          | go_in)
        have hb1 := (bl_alloc hw1 _).grown hgrow (bl_alloc hw1 _).size (fun j hj => own_blk (unhide HO1) j hj)
        rw [i64s_snoc] at hown'
        clear hgrow hnil
        exact ⟨⟨k + 1, by omega, by go_num, hb1, by rw [unhide HZ]; unfold OwI; rw [List.length_append]; exact hown'⟩, by simp [intOf]; omega⟩
    · obtain rfl : k = N := by omega
      go_wp2
      go_ret
      exact ⟨_, rfl, own_lo (unhide HOQ) hw0.size, bl_trans hw0 hbq⟩
set_option maxHeartbeats 1000000 in
theorem ids_dro (C1 : Value) (S : St) (b v u q g : Value) (p : Ve → Bool) (w : World) (hS : Sta w b v u q g S) (hn : S.ves.length ≤ 1000)
    (hst : ∀ (k : Nat) (wr : World) (X : Ve) (ua : Option Addr) (un uc : Nat), k < S.ves.length → S.ves.getD k ve0 = X → Below w.heap.size w wr → X.bu.size ≤ maxLen → X.ke.size ≤ maxLen → Calls Tryz.prog 50 #[veV X (.slice ua un uc), C1] wr fun e w' => e = .returned (.bool (p X)) ∧ Below wr.heap.size wr w') :
    Calls Tryz.prog 114 #[stV S b v u q g, .func (.func 50) #[] #[C1]] w fun e w' => ∃ o, e = .returned o ∧ OwI w' w.heap.size o (idsK S.ves p S.ves.length) ∧ Below w.heap.size w w' := by
  obtain ⟨va, vc, rfl, hv1, hv2⟩ := hS.ves.form
  unfold maxLen at hv2
  obtain ⟨i0, hi, hz0, hz1, hz2⟩ := info_parts infoI
  have HV := hide hS.ves
  have HST := hide hst
  clear hst hS
  obtain ⟨l, hl⟩ : ∃ l, S.ves = l := ⟨_, rfl⟩
  rw [hl] at hn hv1 HV HST ⊢
  clear hl
  obtain ⟨N, hN⟩ : ∃ N, l.length = N := ⟨_, rfl⟩
  rw [hN] at hn hv1 HV HST ⊢
  have HN := hide hN
  clear hN
  go_enter Tryz.func114, Tryz.ntmps114
  go_wp2
  have hw0 := bl1 w (.cells #[.int .i64 S.next, .int .i64 S.clock, b, .slice va N vc, u, q, g] 29)
  obtain ⟨W, hW⟩ : ∃ W, w.alloc (.cells #[.int .i64 S.next, .int .i64 S.clock, b, .slice va N vc, u, q, g] 29) = W := ⟨_, rfl⟩
  rw [hW] at hw0 ⊢
  clear hW
  go_loopw [5, 7, 11] (fun o _ i wr => ∃ k : Nat, k ≤ N ∧ i = .int .i64 k ∧ Below W.heap.size W wr ∧ OwI wr W.heap.size o (idsK l p k)) (fun _ _ i _ => N - (intOf i).toNat)
  case atStart => exact ⟨0, Nat.zero_le _, rfl, Below.refl _ _, OwI.nil _ _⟩
  case round =>
    obtain ⟨k, hk, rfl, hbq, hO⟩ := hrel
    have HOQ := hide hO
    clear hO
    by_cases hlt : k < N
    · have hlt' : k < l.length := by rw [unhide HN]; exact hlt
      obtain ⟨b8, o8, e8, r0⟩ := Lst.at (unhide HV) hlt'
      obtain ⟨X, hX⟩ : ∃ X, l.getD k ve0 = X := ⟨_, rfl⟩
      rw [hX] at r0
      have HX := hide hX
      subst e8
      have r := RVe.up (bl_trans hw0 hbq) r0
      obtain ⟨U, hu, hI⟩ := r.c8
      obtain ⟨ua, uc, rfl, _⟩ := hI.form
      have c0 := r.c0
      have c1 := r.c1
      have c2 := r.c2
      have c3 := r.c3
      have c4 := r.c4
      have c5 := r.c5
      have c6 := r.c6
      have c7 := r.c7
      have c9 := r.c9
      have c10 := r.c10
      have c11 := r.c11
      have HS1 := hide r.s1
      have HS2 := hide r.s2
      clear r r0 hI hX
      have hWq := hbq.size
      have hln := idsK_len l p k
      go_wp2_with fail
      refine (unhide HST k _ X _ _ _ hlt (unhide HX) (bl_alloc (bl_trans hw0 hbq) _) (unhide HS1) (unhide HS2)).mono ?_
      rintro e w1 ⟨rfl, hb1⟩
      have z0 := box1 hb1 0 rfl
      have hbw := bl_trans (bl1 wr _) hb1
      have hw1 := bl_trans hbq hbw
      have HO1 := hide (oi_up (unhide HOQ) hbw)
      have hW1 := hw1.size
      have hs1 := hbw.size
      have hbl : wr.heap.size < w1.heap.size := World.block_lt_of_cell? w1 _ z0
      clear hb1 HOQ c0 c1 c2 c3 c4 c5 c6 c7 c9 c10 c11 hu
      cases hp : p X
      · have HZ : Hid (idsK l p (k + 1) = idsK l p k) := idsK_no hlt' (by rw [unhide HX]; exact hp)
        clear hp
        go_wp2
        go_roundw
        case rel => exact ⟨k + 1, by omega, by go_num, hw1, by rw [unhide HZ]; exact unhide HO1⟩
        case measure => (simp [intOf] <;> omega)
      · have HZ : Hid (idsK l p (k + 1) = idsK l p k ++ [X.id]) := by
          show _ = _
          rw [idsK_yes hlt' (by rw [unhide HX]; exact hp), unhide HX]
        clear hp
        obtain ⟨Q, hQ⟩ : ∃ Q, idsK l p k = Q := ⟨_, rfl⟩
        rw [hQ] at HO1 HZ hln
        clear hQ
        go_wp2_with (first
          | (at_builtin; refine wpList_append_own _ rfl _ _ 27 rfl W.heap.size 3 i0 (.int .i64 0) 1 8 Tryz.underlying27 hi hz0 hz1 hz2 rfl (by decide) _ _ _ rfl ((unhide HO1).alloc _) ⟨w1.heap.size, 0, none⟩ 1 1 [.int .i64 X.id] rfl rfl (cell_one_new _ _ _) (oneI _) (by unfold maxLen; omega) (by omega) (by simp; omega) ?_; intro v' w1' hown' hgrow hnil)
          | go_in)
        have hb1 := (bl_alloc hw1 _).grown hgrow (bl_alloc hw1 _).size (fun j hj => own_blk (unhide HO1) j hj)
        rw [i64s_snoc] at hown'
        clear hgrow hnil
        exact ⟨⟨k + 1, by omega, by go_num, hb1, by rw [unhide HZ]; unfold OwI; rw [List.length_append]; exact hown'⟩, by simp [intOf]; omega⟩
    · obtain rfl : k = N := by omega
      go_wp2
      go_ret
      exact ⟨_, rfl, own_lo (unhide HOQ) hw0.size, bl_trans hw0 hbq⟩
end Go.Proofs.YtdgmdapijhbocaaGreat

/- tier.Freeze, Drop, Chill, Next. -/
namespace Go.Proofs.YtdgmdapijhbocaaGreat
open Go.RowKit Go.Maps
set_option maxRecDepth 100000
set_option linter.unusedVariables false
set_option linter.unusedSimpArgs false
def idsL (S : St) (p : Ve → Bool) : List Int := if stC S then idsK S.ves p S.ves.length else []
theorem idsL_f {S : St} {p : Ve → Bool} (h : stC S = false) : idsL S p = [] := by simp [idsL, h]
theorem idsL_t {S : St} {p : Ve → Bool} (h : stC S = true) : idsL S p = idsK S.ves p S.ves.length := by simp [idsL, h]
theorem idsL_wf (S : St) (p : Ve → Bool) : ∀ x ∈ idsL S p, (Lit.int .i64 x).wf = true := by
  cases h : stC S
  · rw [idsL_f h]; intro x hx; cases hx
  · rw [idsL_t h]; exact ids_wf h p _
theorem checkedIds_fre (C1 : Value) (S : St) (b v u q g : Value) (p : Ve → Bool) (w : World) (hS : Sta w b v u q g S)
    (hst : stC S = true → ∀ (k : Nat) (wr : World) (X : Ve) (ua : Option Addr) (un uc : Nat), k < S.ves.length → S.ves.getD k ve0 = X → Below w.heap.size w wr → X.bu.size ≤ maxLen → X.ke.size ≤ maxLen → Calls Tryz.prog 47 #[veV X (.slice ua un uc), C1] wr fun e w' => e = .returned (.bool (p X)) ∧ Below wr.heap.size wr w') :
    Calls Tryz.prog 46 #[stV S b v u q g, .func (.func 47) #[] #[C1]] w fun e w' => ∃ o, e = .returned (.tuple #[o, .int .i64 (stE S)]) ∧ OwI w' w.heap.size o (idsL S p) ∧ Below w.heap.size w w' := by
  have HS := hide hS
  have HST := hide hst
  clear hS hst
  obtain ⟨E, hE⟩ : ∃ E, stE S = E := ⟨_, rfl⟩
  obtain ⟨L, hL⟩ : ∃ L, idsL S p = L := ⟨_, rfl⟩
  rw [hE, hL]
  have HE := hide hE
  have HL := hide hL
  clear hE hL
  go_enter Tryz.func46, Tryz.ntmps46
  go_wp2_with fail
  refine (check_any S b v u q g _ ((unhide HS).up (bl1 _ _))).mono ?_
  rintro e w1 ⟨rfl, hb⟩
  have hX := (BoxS.new w S b v u q g 29).up hb
  have hw1 := bl_trans (bl1 w _) hb
  have x0 := hX.c0
  have x1 := hX.c1
  have x2 := hX.c2
  have x3 := hX.c3
  have x4 := hX.c4
  have x5 := hX.c5
  have x6 := hX.c6
  clear hX hb
  rw [unhide HE]
  cases hc : stC S
  · have hf : E = 9 := by rw [← unhide HE]; exact stE_f hc
    have HL' : Hid (L = []) := by show _ = _; rw [← unhide HL]; exact idsL_f hc
    clear hc
    subst hf
    go_wp2
    go_ret2
    exact ⟨_, rfl, by rw [unhide HL']; exact OwI.nil _ _, hw1⟩
  have hf : E = 0 := by rw [← unhide HE]; exact stE_t hc
  have hlen := tstC_len hc
  have HL' : Hid (L = idsK S.ves p S.ves.length) := by show _ = _; rw [← unhide HL]; exact idsL_t hc
  have HST' := hide (unhide HST hc)
  clear hc HE HL HST
  subst hf
  go_wp2_with fail
  refine (ids_fre C1 S b v u q g p _ ((unhide HS).up hw1) (by omega) fun k wr X ua un uc hk hX hbr => unhide HST' k wr X ua un uc hk hX (bl_trans hw1 hbr)).mono ?_
  rintro e w2 ⟨o, rfl, hO, hb2⟩
  go_wp2
  go_ret2
  exact ⟨o, rfl, by rw [unhide HL']; exact own_lo hO hw1.size, bl_trans hw1 hb2⟩
theorem checkedIds_dro (C1 : Value) (S : St) (b v u q g : Value) (p : Ve → Bool) (w : World) (hS : Sta w b v u q g S)
    (hst : stC S = true → ∀ (k : Nat) (wr : World) (X : Ve) (ua : Option Addr) (un uc : Nat), k < S.ves.length → S.ves.getD k ve0 = X → Below w.heap.size w wr → X.bu.size ≤ maxLen → X.ke.size ≤ maxLen → Calls Tryz.prog 50 #[veV X (.slice ua un uc), C1] wr fun e w' => e = .returned (.bool (p X)) ∧ Below wr.heap.size wr w') :
    Calls Tryz.prog 46 #[stV S b v u q g, .func (.func 50) #[] #[C1]] w fun e w' => ∃ o, e = .returned (.tuple #[o, .int .i64 (stE S)]) ∧ OwI w' w.heap.size o (idsL S p) ∧ Below w.heap.size w w' := by
  have HS := hide hS
  have HST := hide hst
  clear hS hst
  obtain ⟨E, hE⟩ : ∃ E, stE S = E := ⟨_, rfl⟩
  obtain ⟨L, hL⟩ : ∃ L, idsL S p = L := ⟨_, rfl⟩
  rw [hE, hL]
  have HE := hide hE
  have HL := hide hL
  clear hE hL
  go_enter Tryz.func46, Tryz.ntmps46
  go_wp2_with fail
  refine (check_any S b v u q g _ ((unhide HS).up (bl1 _ _))).mono ?_
  rintro e w1 ⟨rfl, hb⟩
  have hX := (BoxS.new w S b v u q g 29).up hb
  have hw1 := bl_trans (bl1 w _) hb
  have x0 := hX.c0
  have x1 := hX.c1
  have x2 := hX.c2
  have x3 := hX.c3
  have x4 := hX.c4
  have x5 := hX.c5
  have x6 := hX.c6
  clear hX hb
  rw [unhide HE]
  cases hc : stC S
  · have hf : E = 9 := by rw [← unhide HE]; exact stE_f hc
    have HL' : Hid (L = []) := by show _ = _; rw [← unhide HL]; exact idsL_f hc
    clear hc
    subst hf
    go_wp2
    go_ret2
    exact ⟨_, rfl, by rw [unhide HL']; exact OwI.nil _ _, hw1⟩
  have hf : E = 0 := by rw [← unhide HE]; exact stE_t hc
  have hlen := tstC_len hc
  have HL' : Hid (L = idsK S.ves p S.ves.length) := by show _ = _; rw [← unhide HL]; exact idsL_t hc
  have HST' := hide (unhide HST hc)
  clear hc HE HL HST
  subst hf
  go_wp2_with fail
  refine (ids_dro C1 S b v u q g p _ ((unhide HS).up hw1) (by omega) fun k wr X ua un uc hk hX hbr => unhide HST' k wr X ua un uc hk hX (bl_trans hw1 hbr)).mono ?_
  rintro e w2 ⟨o, rfl, hO, hb2⟩
  go_wp2
  go_ret2
  exact ⟨o, rfl, by rw [unhide HL']; exact own_lo hO hw1.size, bl_trans hw1 hb2⟩
theorem tfre_any (S : St) (b v u q g : Value) (w : World) (hS : Sta w b v u q g S) :
    Calls Tryz.prog 23 #[stV S b v u q g] w fun e w' => ∃ o, e = .returned (.tuple #[o, .int .i64 (stE S)]) ∧ OwI w' w.heap.size o (idsL S (frzP S)) ∧ Below w.heap.size w w' := by
  have HS := hide hS
  clear hS
  go_enter Tryz.func23, Tryz.ntmps23
  go_wp2_with fail
  refine (checkedIds_fre _ S b v u q g (frzP S) _ ((unhide HS).up (bl1 _ _)) ?_).mono ?_
  · intro hc k wr X ua un uc hk hX hbr s1 s2
    subst hX
    obtain ⟨k0, k1⟩ := tstC_clock hc
    obtain ⟨k2, k3⟩ := tveC_time (tstC_at hc (mem_getD hk))
    exact freeze_1 S _ b v u q g ua un uc _ wr (((BoxS.new w S b v u q g _)).up hbr) ((unhide HS).up (bl_trans (bl1 _ _) hbr)) k0 k1 k2 (by omega) s2
  rintro e w1 ⟨o, rfl, hO, hb⟩
  go_wp2
  go_ret2
  exact ⟨o, rfl, own_lo hO (by simp), bl_trans (bl1 _ _) hb⟩
theorem tdro_any (S : St) (b v u q g : Value) (w : World) (hS : Sta w b v u q g S) :
    Calls Tryz.prog 24 #[stV S b v u q g] w fun e w' => ∃ o, e = .returned (.tuple #[o, .int .i64 (stE S)]) ∧ OwI w' w.heap.size o (idsL S (drpP S)) ∧ Below w.heap.size w w' := by
  have HS := hide hS
  clear hS
  go_enter Tryz.func24, Tryz.ntmps24
  go_wp2_with fail
  refine (checkedIds_dro _ S b v u q g (drpP S) _ ((unhide HS).up (bl1 _ _)) ?_).mono ?_
  · intro hc k wr X ua un uc hk hX hbr s1 s2
    subst hX
    obtain ⟨k0, k1⟩ := tstC_clock hc
    obtain ⟨k2, k3⟩ := tveC_time (tstC_at hc (mem_getD hk))
    exact drop_1 S _ b v u q g ua un uc _ wr (((BoxS.new w S b v u q g _)).up hbr) ((unhide HS).up (bl_trans (bl1 _ _) hbr)) k0 k1 k2 (by omega) s2
  rintro e w1 ⟨o, rfl, hO, hb⟩
  go_wp2
  go_ret2
  exact ⟨o, rfl, own_lo hO (by simp), bl_trans (bl1 _ _) hb⟩
end Go.Proofs.YtdgmdapijhbocaaGreat

/- tier.Next. -/
namespace Go.Proofs.YtdgmdapijhbocaaGreat
open Go.RowKit Go.Maps
set_option maxRecDepth 100000
set_option linter.unusedVariables false
set_option linter.unusedSimpArgs false
/-- The first of the least class of the first k + 1 that are asked for. -/
def nexK (l : List Ak) : Nat → Ak
  | 0 => l.getD 0 ak0
  | k + 1 => if (l.getD (k + 1) ak0).cls < (nexK l k).cls then l.getD (k + 1) ak0 else nexK l k
def nexE (S : St) : Int := if stC S then (if S.que.length = 0 then 14 else 0) else 9
def nexA (S : St) : Ak := if stC S then (if S.que.length = 0 then ak0 else nexK S.que (S.que.length - 1)) else ak0
theorem nex_9 {S : St} (h : stC S = false) : nexE S = 9 ∧ nexA S = ak0 := by simp [nexE, nexA, h]
theorem nex_14 {S : St} (h : stC S = true) (h2 : S.que.length = 0) : nexE S = 14 ∧ nexA S = ak0 := by simp [nexE, nexA, h, h2]
theorem nex_0 {S : St} (h : stC S = true) (h2 : ¬ S.que.length = 0) : nexE S = 0 ∧ nexA S = nexK S.que (S.que.length - 1) := by simp [nexE, nexA, h, h2]
abbrev akB (x : Ak) : Array Value := #[.int .i64 x.ver, .int .i64 x.days, .int .i64 x.cls]
theorem ret_ask {X Y : Ak} {a b : Int} (h : X = Y) (h2 : a = b) : Ending.returned (.tuple #[.agg #[.int .i64 X.ver, .int .i64 X.days, .int .i64 X.cls], .int .i64 a]) = .returned (.tuple #[.agg #[.int .i64 Y.ver, .int .i64 Y.days, .int .i64 Y.cls], .int .i64 b]) := by rw [h, h2]
theorem tcell_of {w : World} {g : Nat} {c : Array Value} {t : TypeId} {fz : Nat × Nat} (h : w.heap[g]? = some (.cells c t fz)) (j : Nat) {v : Value} (hv : c[j]? = some v) : w.cell? ⟨g, j, none⟩ = some v := by simp [World.cell?, h, hv]
theorem tfz_of {w : World} {g : Nat} {c : Array Value} {t : TypeId} (h : w.heap[g]? = some (.cells c t (0, 0))) (i : Nat) : w.frozen? ⟨g, i, none⟩ = false := by simp [World.frozen?, h]
theorem t_blk {w w1 : World} {g : Nat} {o : Obj} (h : w.heap[g]? = some o) (hb : Below w.heap.size w w1) : w1.heap[g]? = some o := (hb.block _ (Array.getElem?_eq_some_iff.1 h).1).trans h
theorem t_new1 (w : World) (o : Obj) : (w.alloc o).heap[w.heap.size]? = some o := heap_alloc_new w o
theorem t_new2 (w : World) (o o2 : Obj) : ((w.alloc o).alloc o2).heap[w.heap.size + 1]? = some o2 := by simpa using heap_alloc_new (w.alloc o) o2
theorem row3 {w : World} {g : Nat} {t : TypeId} {a0 a1 a2 : Value} (h : w.heap[g]? = some (.cells #[a0, a1, a2] t (0, 0))) (v0 v1 v2 : Value) :
    (((w.setCell ⟨g, 0, none⟩ v0).setCell ⟨g, 1, none⟩ v1).setCell ⟨g, 2, none⟩ v2).heap[g]? = some (.cells #[v0, v1, v2] t (0, 0)) := by
  replace h := heap_setCell_same w g 0 _ t v0 h
  replace h := heap_setCell_same _ g 1 _ t v1 h
  replace h := heap_setCell_same _ g 2 _ t v2 h
  exact h
end Go.Proofs.YtdgmdapijhbocaaGreat

/- piece.Size: a piece takes six bytes more than its body. -/
namespace Go.Proofs.YtdgmdapijhbocaaGreat
open Go.RowKit
set_option linter.unusedVariables false
set_option linter.unusedSimpArgs false
theorem pSize_any (n : Int) (w : World) (h0 : -1000000 ≤ n) (h1 : n ≤ 1000000) :
    Calls Tryz.prog 113 #[.int .i64 n] w fun e w' => e = .returned (.int .i64 (6 + n)) ∧ w = w' := by
  have HW : Hid (IntKind.i64.wrap (6 + n) = 6 + n) := Go.IntWalk.i64_in _ (by omega)
  go_enter Tryz.func113, Tryz.ntmps113
  go_wp2
  go_ret
  exact ⟨by first | rfl | rw [unhide HW], rfl⟩
end Go.Proofs.YtdgmdapijhbocaaGreat

/- tier.Live. -/
namespace Go.Proofs.YtdgmdapijhbocaaGreat
open Go.RowKit Go.Maps
set_option maxRecDepth 100000
set_option linter.unusedVariables false
set_option linter.unusedSimpArgs false
/-- How many bytes of the first k versions live on volume n. -/
def livK (l : List Ve) (k : Nat) (n : Nat) : Int := (((l.take k).filter (fun x => onB x && x.vol == (n : Int))).map (fun x => x.size + 6)).sum
def livL (l : List Ve) (k : Nat) : List Int := (List.range 8).map (livK l k)
def livS (S : St) : List Int := if stC S then livL S.ves S.ves.length else []
theorem livS_f {S : St} (h : stC S = false) : livS S = [] := by simp [livS, h]
theorem livS_t {S : St} (h : stC S = true) : livS S = livL S.ves S.ves.length := by simp [livS, h]
theorem livL_len (l : List Ve) (k : Nat) : (livL l k).length = 8 := by simp [livL]
theorem livL_0 (l : List Ve) : livL l 0 = [0, 0, 0, 0, 0, 0, 0, 0] := by rfl
theorem livK_next {l : List Ve} {k : Nat} (hk : k < l.length) (n : Nat) : livK l (k + 1) n = livK l k n + (if onB (l.getD k ve0) && (l.getD k ve0).vol == (n : Int) then (l.getD k ve0).size + 6 else 0) := by
  unfold livK
  rw [take_next l ve0 hk, List.filter_append, List.map_append, List.sum_append]
  congr 1
  rw [List.filter_cons]
  split <;> simp
theorem livL_no {l : List Ve} {k : Nat} (hk : k < l.length) (h : onB (l.getD k ve0) = false) : livL l (k + 1) = livL l k := by
  unfold livL
  refine List.map_congr_left fun n _ => ?_
  rw [livK_next hk, h]; simp
theorem livL_at (l : List Ve) (k : Nat) {n : Nat} (hn : n < 8) : (livL l k).getD n 0 = livK l k n := by
  simp [livL, List.getD, hn]
theorem livL_yes {l : List Ve} {k v : Nat} (hk : k < l.length) (h : onB (l.getD k ve0) = true) (hv : (l.getD k ve0).vol = (v : Int)) (hv8 : v < 8) : livL l (k + 1) = (livL l k).set v (livK l k v + ((l.getD k ve0).size + 6)) := by
  apply List.ext_getElem
  · simp [livL]
  · intro i h1 h2
    have hi : i < 8 := by simpa [livL] using h1
    rw [List.getElem_set]
    by_cases e : v = i
    · subst e
      rw [if_pos rfl]
      simp only [livL, List.getElem_map, List.getElem_range]
      rw [livK_next hk, h, hv]; simp
    · rw [if_neg e]
      simp only [livL, List.getElem_map, List.getElem_range]
      rw [livK_next hk, h, hv]
      have : ((v : Int) == (i : Int)) = false := by simp; omega
      rw [this]; simp
theorem veC_on {S : St} {x : Ve} (h : veC S x = true) (ho : onB x = true) : 0 ≤ x.size ∧ x.size ≤ 600 ∧ 0 ≤ x.vol ∧ x.vol ≤ 7 := by
  unfold onB at ho
  unfold veC onC at h
  simp only [Bool.and_eq_true] at h
  obtain ⟨_, h⟩ := h
  have ht : x.tier = 2 ∨ x.tier = 3 := by
    simp only [Bool.or_eq_true, beq_iff_eq] at ho
    exact ho
  by_cases hm : x.mar = true
  · rw [if_pos hm] at h
    simp only [Bool.and_eq_true, beq_iff_eq] at h
    omega
  · rw [if_neg hm] at h
    simp only [Bool.and_eq_true] at h
    obtain ⟨hs, h⟩ := h
    have hs2 := inB_t hs
    refine ⟨hs2.1, hs2.2, ?_⟩
    rcases ht with ht | ht
    · rw [if_neg (by omega), if_pos ht] at h
      simp only [Bool.and_eq_true] at h
      have := inB_t h.1.2.1.1
      exact this
    · rw [if_neg (by omega), if_neg (by omega), if_pos ht] at h
      simp only [Bool.and_eq_true] at h
      have := inB_t h.1.2.1.1
      exact this
theorem livK_bd {S : St} (h : stC S = true) : ∀ k, k ≤ S.ves.length → ∀ n, 0 ≤ livK S.ves k n ∧ livK S.ves k n ≤ 606 * (k : Int)
  | 0, _, n => by simp [livK]
  | k + 1, hk, n => by
    have ih := livK_bd h k (by omega) n
    rw [livK_next (by omega)]
    split
    · rename_i hq
      simp only [Bool.and_eq_true] at hq
      have := veC_on (tstC_at h (mem_getD (k := k) (by omega))) hq.1
      constructor
      · omega
      · push_cast; omega
    · constructor
      · omega
      · push_cast; omega
theorem i64_at (l : List Int) {n : Nat} (hn : n < l.length) : (i64s l).toArray[n]? = some (.int .i64 (l.getD n 0)) := by
  simp [i64s, List.getD, hn]
theorem i64_set (l : List Int) (n : Nat) (x : Int) : (i64s l).toArray.setIfInBounds n (.int .i64 x) = (i64s (l.set n x)).toArray := by
  simp [i64s, List.map_set]
theorem row_i64 {w : World} {g B : Nat} {l : List Int} (h : w.heap[g]? = some (.cells (i64s l).toArray 3 (0, 0))) (hB : B ≤ g) (hl : l.length ≤ 1000) : OwI w B (.slice (some ⟨g, 0, none⟩) l.length l.length) l := by
  refine ⟨by rw [Nat.mul_one]; exact i64s_length l, .inr ⟨g, l.length, (i64s l).toArray, rfl, hB, h, Nat.le_refl _, by unfold maxLen; omega, by rw [List.size_toArray, i64s_length, Nat.mul_one], ?_⟩⟩
  rw [List.take_of_length_le (by simp [i64s_length])]
set_option maxHeartbeats 2000000 in
theorem tLive_any (S : St) (b v u q g : Value) (w : World) (hS : Sta w b v u q g S) :
    Calls Tryz.prog 45 #[stV S b v u q g] w fun e w' => ∃ o, e = .returned (.tuple #[o, .int .i64 (stE S)]) ∧ OwI w' w.heap.size o (livS S) ∧ Below w.heap.size w w' := by
  obtain ⟨va, vc, rfl, hv1, hv2⟩ := hS.ves.form
  unfold maxLen at hv2
  have HS := hide hS
  clear hS
  obtain ⟨E, hE⟩ : ∃ E, stE S = E := ⟨_, rfl⟩
  obtain ⟨L, hL⟩ : ∃ L, livS S = L := ⟨_, rfl⟩
  rw [hE, hL]
  have HE := hide hE
  have HL := hide hL
  clear hE hL
  go_enter Tryz.func45, Tryz.ntmps45
  go_wp2_with fail
  refine (check_any S b _ u q g _ ((unhide HS).up (bl1 _ _))).mono ?_
  rintro e w1 ⟨rfl, hb⟩
  have hX := (BoxS.new w S b (.slice va S.ves.length vc) u q g 29).up hb
  have hw1 := bl_trans (bl1 w _) hb
  have x3 := hX.c3
  have hl1 := hX.lt
  clear hX hb
  rw [unhide HE]
  cases hc : stC S
  · have hf : E = 9 := by rw [← unhide HE]; exact stE_f hc
    have HL' : Hid (L = []) := by show _ = _; rw [← unhide HL]; exact livS_f hc
    clear hc
    subst hf
    go_wp2
    go_ret2
    exact ⟨_, rfl, by rw [unhide HL']; exact OwI.nil _ _, hw1⟩
  have hf : E = 0 := by rw [← unhide HE]; exact stE_t hc
  have hlen := tstC_len hc
  have HBD : Hid (∀ k, k ≤ S.ves.length → ∀ n, 0 ≤ livK S.ves k n ∧ livK S.ves k n ≤ 606 * (k : Int)) := livK_bd hc
  have HVE : Hid (∀ k, k < S.ves.length → onB (S.ves.getD k ve0) = true → 0 ≤ (S.ves.getD k ve0).size ∧ (S.ves.getD k ve0).size ≤ 600 ∧ 0 ≤ (S.ves.getD k ve0).vol ∧ (S.ves.getD k ve0).vol ≤ 7) := fun k hk ho => veC_on (tstC_at hc (mem_getD hk)) ho
  have HL' : Hid (L = livL S.ves S.ves.length) := by show _ = _; rw [← unhide HL]; exact livS_t hc
  have HV := hide ((unhide HS).up hw1).ves
  clear hc HE HL
  subst hf
  obtain ⟨l, hl⟩ : ∃ l, S.ves = l := ⟨_, rfl⟩
  rw [hl] at hlen hv1 HV HL' x3 HBD HVE HS ⊢
  clear hl
  obtain ⟨N, hN⟩ : ∃ N, l.length = N := ⟨_, rfl⟩
  rw [hN] at hlen hv1 HV HL' x3 HBD HVE HS ⊢
  have HN := hide hN
  clear hN
  have hmk : (Instr.makeSlice 27 (.int .i64 8) (.int .i64 8)).run Tryz.prog w1 = .ok (.slice (some ⟨w1.heap.size, 0, none⟩) 8 8) (w1.alloc (.cells (i64s [0, 0, 0, 0, 0, 0, 0, 0]).toArray 3)) := by
    obtain ⟨i0, hi, hz0, hz1, hz2⟩ := info_parts infoI
    have h := run_make (P := Tryz.prog) (w := w1) 27 3 i0 (.int .i64 0) Tryz.underlying27 hi hz0 .i64 .i64 8 8 (by omega) (Int.le_refl _) (by rw [hz2]; omega) (by omega)
    rw [show (i64s [0, 0, 0, 0, 0, 0, 0, 0]).toArray = madeCells (Value.int .i64 0).cells 8 from by kernel_rfl]
    simpa [hz1] using h
  go_wp2
  go_loopw [7, 17] (fun _ i wr => ∃ k : Nat, k ≤ N ∧ i = .int .i64 k ∧ Below w1.heap.size w1 wr ∧ wr.heap[w1.heap.size]? = some (.cells (i64s (livL l k)).toArray 3 (0, 0))) (fun _ i _ => N - (intOf i).toNat)
  case atStart => exact ⟨0, Nat.zero_le _, rfl, bl1 _ _, t_new1 _ _⟩
  case round =>
    obtain ⟨k, hk, rfl, hbq, hR⟩ := hrel
    have HR := hide hR
    have hlg : w1.heap.size < wr.heap.size := (Array.getElem?_eq_some_iff.1 hR).1
    clear hR
    by_cases hlt : k < N
    · have hlt' : k < l.length := by rw [unhide HN]; exact hlt
      obtain ⟨b8, o8, e8, r0⟩ := Lst.at (unhide HV) hlt'
      have HBK : Hid (∀ n, 0 ≤ livK l k n ∧ livK l k n ≤ 606 * (k : Int)) := unhide HBD k hk
      have HVK := hide (unhide HVE k hlt)
      have HNO : Hid (onB (l.getD k ve0) = false → livL l (k + 1) = livL l k) := livL_no hlt'
      have HYES : Hid (∀ v : Nat, onB (l.getD k ve0) = true → (l.getD k ve0).vol = (v : Int) → v < 8 → livL l (k + 1) = (livL l k).set v (livK l k v + (6 + (l.getD k ve0).size))) := fun v h1 h2 h3 => by rw [Int.add_comm 6]; exact livL_yes hlt' h1 h2 h3
      obtain ⟨X, hX⟩ : ∃ X, l.getD k ve0 = X := ⟨_, rfl⟩
      rw [hX] at r0 HVK HNO HYES
      clear hX
      subst e8
      have r := RVe.up hbq r0
      obtain ⟨U, hu, hI⟩ := r.c8
      obtain ⟨ua, uc, rfl, _⟩ := hI.form
      have c0 := r.c0
      have c1 := r.c1
      have c2 := r.c2
      have c3 := r.c3
      have c4 := r.c4
      have c5 := r.c5
      have c6 := r.c6
      have c7 := r.c7
      have c9 := r.c9
      have c10 := r.c10
      have c11 := r.c11
      clear r r0 hI
      have hWq := hbq.size
      go_wp2_with fail
      refine (tOnTape_any X ua _ uc _).mono ?_
      rintro e w2 ⟨rfl, hb2⟩
      have z5 := box1 hb2 5 rfl
      have z9 := box1 hb2 9 rfl
      have hbw := bl_trans (bl1 wr _) hb2
      have hw2 := bl_trans hbq hbw
      have hR2 := t_blk (unhide HR) hbw
      have hl2 : wr.heap.size < w2.heap.size := World.block_lt_of_cell? w2 _ z9
      have hl3 : w1.heap.size < w2.heap.size := (Array.getElem?_eq_some_iff.1 hR2).1
      clear hb2 c0 c1 c2 c3 c4 c5 c6 c7 c9 c10 c11 hu HR
      cases ho : onB X
      · have HZ : Hid (livL l (k + 1) = livL l k) := unhide HNO ho
        have HR2 := hide hR2
        clear ho hR2 hbw
        go_wp2
        go_roundw
        case rel => exact ⟨k + 1, by omega, by go_num, hw2, by rw [unhide HZ]; exact unhide HR2⟩
        case measure => (simp [intOf] <;> omega)
      · obtain ⟨s0, s1, v0, v1⟩ := unhide HVK ho
        obtain ⟨vn, hvn⟩ := Int.eq_ofNat_of_zero_le v0
        have hv8 : vn < 8 := by omega
        have HZ : Hid (livL l (k + 1) = (livL l k).set vn (livK l k vn + (6 + X.size))) := unhide HYES vn ho hvn hv8
        have hat := tcell_of hR2 vn (i64_at (livL l k) (by rw [livL_len]; exact hv8))
        rw [livL_at l k hv8] at hat
        obtain ⟨bd0, bd1⟩ := unhide HBK vn
        obtain ⟨Q, hQ⟩ : ∃ Q, livK l k vn = Q := ⟨_, rfl⟩
        rw [hQ] at hat HZ bd0 bd1
        have zf := fun j => tfz_of hR2 j
        have HR3 := hide ((heap_setCell_same w2 w1.heap.size vn _ 3 (.int .i64 (Q + (6 + X.size))) hR2))
        rw [i64_set] at HR3
        rw [hvn] at z9 v0 v1
        clear ho hR2 hbw hQ hvn
        go_upto_region 9 with fail
        go_region_with (go_at_call 113; refine (pSize_any X.size _ (by omega) (by omega)).mono ?_; rintro e w' ⟨rfl, rfl⟩)
        all_goals (
          go_wp2
          go_roundw
          case rel => exact ⟨k + 1, by omega, by go_num, by first | exact bl_set (Below.drew hw2) (Nat.le_refl _) _ | exact (bl_set hw2 (Nat.le_refl _) _).drew | exact bl_set hw2 (Nat.le_refl _) _, by rw [unhide HZ]; exact unhide HR3⟩
          case measure => (simp [intOf] <;> omega))
    · obtain rfl : k = N := by omega
      have HO := hide (row_i64 (B := w.heap.size) (unhide HR) hw1.size (by rw [livL_len]; decide))
      rw [livL_len] at HO
      go_wp2
      go_ret2
      exact ⟨_, rfl, by rw [unhide HL']; exact unhide HO, bl_trans hw1 hbq⟩
end Go.Proofs.YtdgmdapijhbocaaGreat
