/- icehousekeep.ChillOver: the walk. -/
import Derived.Test.YtbfhkbmcleglaaaGreatTllq
import Derived.Test.YtbfhkbmcleglaaaGreatTidq
import Derived.BigQuiet
import Derived.Deep.QuietTactic
import Derived.Test.YtbfhkbmcleglaaaGreatKkpq
namespace Go.Proofs.YtbfhkbmcleglaaaGreat
open Go.RowKit Go.Maps
set_option maxRecDepth 100000
set_option linter.unusedVariables false
set_option linter.unusedSimpArgs false
def rPa (n : Int) : Rc := { rcN 13 with n := n }
theorem pass_ok {S : St} (hc : stC S = true) {n : Int} (h0 : 0 ≤ n) (h1 : S.clock + n ≤ 1073741824) : appE S (rPa n) = 0 ∧ appS S (rPa n) = pasS S n := by
  have hce : chgE S (rPa n) = 0 := by
    rw [(chg_13 (r := rPa n) rfl).1]
    show pasE S n = 0
    unfold pasE
    rw [if_pos ⟨h0, by omega⟩]
  have hcs : chgS S (rPa n) = pasS S n := (chg_13 (r := rPa n) rfl).2
  obtain ⟨a1, a2⟩ := app_0 hc hce (by rw [hcs]; exact (stOk_iff _).2 (((stOk_iff _).1 hc).pass h0 h1))
  exact ⟨a1, by rw [a2, hcs]⟩
/-- What the first k give is where it stands in the whole. -/
theorem idsK_pre (l : List Ve) (p : Ve → Bool) : ∀ n k, ∃ r, idsK l p (k + n) = idsK l p k ++ r
  | 0, k => ⟨[], by simp⟩
  | n + 1, k => by
    obtain ⟨r, hr⟩ := idsK_pre l p n k
    by_cases hk : k + n < l.length
    · cases h : p (l.getD (k + n) ve0)
      · exact ⟨r, by rw [show k + (n + 1) = k + n + 1 by omega, idsK_no hk h, hr]⟩
      · exact ⟨r ++ [(l.getD (k + n) ve0).id], by rw [show k + (n + 1) = k + n + 1 by omega, idsK_yes hk h, hr, List.append_assoc]⟩
    · refine ⟨r, ?_⟩
      rw [← hr]
      unfold idsK
      rw [List.take_of_length_le (by omega), List.take_of_length_le (by omega)]
theorem idsK_at {l : List Ve} {p : Ve → Bool} {k : Nat} (hk : k < l.length) (h : p (l.getD k ve0) = true) : (idsK l p k).length < (idsK l p l.length).length ∧ (idsK l p l.length).getD (idsK l p k).length 0 = (l.getD k ve0).id := by
  obtain ⟨r, hr⟩ := idsK_pre l p (l.length - (k + 1)) (k + 1)
  rw [show k + 1 + (l.length - (k + 1)) = l.length by omega, idsK_yes hk h] at hr
  rw [hr]
  constructor
  · simp only [List.length_append, List.length_singleton]; omega
  · rw [List.append_assoc]
    simp [List.getD]
theorem idsK_more {l : List Ve} {p q : Ve → Bool} (k : Nat) (h : ∀ x, p x = true → q x = true) : (idsK l p k).length ≤ (idsK l q k).length := by
  unfold idsK
  rw [List.length_map, List.length_map, ← List.countP_eq_length_filter, ← List.countP_eq_length_filter]
  exact List.countP_mono_left fun x _ hx => h x hx
set_option maxHeartbeats 4000000 in
theorem chillOver_walk (lv : Value) (l : List Rw) (m : Int) (w : World) (hl : Raws w lv l) (hm : (Lit.int .i64 m).wf = true) :
    Calls Tryz.prog 17 #[lv, .int .i64 m] w fun e w' => e = .returned (.bool true) ∧ Below w.heap.size w w' := by
  obtain ⟨la, lc, rfl, hl1, hl2⟩ := hl.form
  unfold maxLen at hl2
  have HL := hide hl
  clear hl
  obtain ⟨m0, m1⟩ := wf_lo hm
  clear hm
  obtain ⟨S, hSS⟩ : ∃ S, staL l 40 = S := ⟨_, rfl⟩
  obtain ⟨n, hnn⟩ : ∃ n, cntN l (rnd l 40) = n := ⟨_, rfl⟩
  have hn2 : 2 ≤ n := by rw [← hnn]; exact cntN_two l _ (by unfold rnd; omega)
  have hok : stC S = true := by rw [← hSS]; exact staL_ok l 40
  have hck := staL_clock l (most := 40) (by decide)
  rw [hSS] at hck
  have hck0 := (few_of hok).c0
  have hp0 := pickI_lo m (m := 12) (by decide)
  have hp1 := pickI_hi m (m := 12) (by decide)
  obtain ⟨V, hV⟩ : ∃ V, pickI m 12 = V := ⟨_, rfl⟩
  rw [hV] at hp0 hp1
  have HV := hide hV
  obtain ⟨a1, a2⟩ := pass_ok hok hp0 (by omega)
  have HA1 := hide a1
  have HA2 := hide a2
  have hTok : stC (pasS S V) = true := by
    obtain ⟨_, _, b1, b2⟩ := app_ok a1
    rw [← a2, b2]; exact b1
  have HCT := hide (stE_t hTok)
  have HCS := hide (stE_t hok)
  have HIT : Hid (idsL (pasS S V) (chlP (pasS S V)) = idsK S.ves (chlP (pasS S V)) S.ves.length) := idsL_t hTok
  have HIS : Hid (idsL S (chlP S) = idsK S.ves (chlP S) S.ves.length) := idsL_t hok
  have HMO : Hid ((idsK S.ves (chlP S) S.ves.length).length ≤ (idsK S.ves (chlP (pasS S V)) S.ves.length).length) := idsK_more _ fun x hx => by
    unfold chlP at hx ⊢
    simp only [Bool.and_eq_true, decide_eq_true_eq] at hx ⊢
    exact ⟨hx.1, by show x.til ≤ S.clock + V; omega⟩
  have HWT := hide (idsL_wf (pasS S V) (chlP (pasS S V)))
  have HWS := hide (idsL_wf S (chlP S))
  have HAT : Hid (∀ k, k < S.ves.length → chlP (pasS S V) (S.ves.getD k ve0) = true → (idsK S.ves (chlP (pasS S V)) k).length < (idsK S.ves (chlP (pasS S V)) S.ves.length).length ∧ (idsK S.ves (chlP (pasS S V)) S.ves.length).getD (idsK S.ves (chlP (pasS S V)) k).length 0 = (S.ves.getD k ve0).id ∧ idsK S.ves (chlP (pasS S V)) (k + 1) = idsK S.ves (chlP (pasS S V)) k ++ [(S.ves.getD k ve0).id]) := fun k hk h => by
    obtain ⟨h1, h2⟩ := idsK_at hk h
    exact ⟨h1, h2, idsK_yes hk h⟩
  have HNO : Hid (∀ k, k < S.ves.length → chlP (pasS S V) (S.ves.getD k ve0) = false → idsK S.ves (chlP (pasS S V)) (k + 1) = idsK S.ves (chlP (pasS S V)) k) := fun k hk h => idsK_no hk h
  have HLE : Hid (∀ k, (idsK S.ves (chlP (pasS S V)) k).length ≤ k) := fun k => idsK_len _ _ k
  have hlen := tstC_len hok
  clear hV a1 a2 hTok
  go_enter Tryz.func17, Tryz.ntmps17
  go_wp2_with fail
  refine (tierTells_any _).mono ?_
  rintro e w0 ⟨rfl, hb0⟩
  have HL0 := hide (Raws.up (unhide HL) hb0)
  go_wp2_with fail
  refine (kSt _ l 40 _ _ (unhide HL0) rfl (by decide)).mono ?_
  rintro e w1 ⟨ba, bc, va, vc, ua, uc, qa, qc, ga, gc, oa, oc, rfl, hS, hb1⟩
  rw [hSS] at hS ⊢
  rw [hnn]
  have HSS := hide hSS
  have HNN := hide hnn
  clear hSS hnn
  go_upto_region 4 with fail
  generalize hWW : w1.alloc _ = W2
  have h2 : BoxS W2 w1.heap.size S (.slice ba S.bus.length bc) (.slice va S.ves.length vc) (.slice ua S.ups.length uc) (.slice qa S.que.length qc) (.slice ga S.gone.length gc) ∧ Below w1.heap.size w1 W2 := by
    rw [← hWW]
    exact ⟨BoxS.new _ _ _ _ _ _ _ _, bl1 _ _⟩
  clear hWW
  obtain ⟨hX, hb2⟩ := h2
  have hw2 := bl_trans hb0 (bl_trans hb1 hb2)
  have HS := hide (hS.up hb2)
  have HX := hide hX
  clear hS hb0 hb1 hb2 hX
  go_wp2_with fail
  refine (picked_any m 12 _ (by decide) (by decide) m0 m1).mono ?_
  rintro e w3 ⟨rfl, rfl⟩
  rw [unhide HV]
  have x0 := (unhide HX).c0
  have x1 := (unhide HX).c1
  have x2 := (unhide HX).c2
  have x3 := (unhide HX).c3
  have x4 := (unhide HX).c4
  have x5 := (unhide HX).c5
  have x6 := (unhide HX).c6
  have hl2 := (unhide HX).lt
  go_wp2_with fail
  refine (kAp S _ _ _ _ _ (rPa V) nl nl nl _ (unhide HS) { rcN_fit 13 with } { rcN_wf 13 with } (RcI.none _ _ rfl rfl rfl)).mono ?_
  rintro e w5 ⟨ba', bc', va', vc', ua', uc', qa', qc', ga', gc', rfl, hT, hb5⟩
  rw [unhide HA1]
  rw [unhide HA2] at hT ⊢
  obtain ⟨T, hTT⟩ : ∃ T, pasS S V = T := ⟨_, rfl⟩
  have HTV : Hid (T.ves = S.ves) := by show _ = _; rw [← hTT]; rfl
  have HTC : Hid (T.clock = S.clock + V) := by show _ = _; rw [← hTT]; rfl
  rw [hTT] at hT HCT HIT HMO HWT HAT HNO HLE ⊢
  have HX5 := hide ((unhide HX).up hb5)
  have HS5 := hide ((unhide HS).up hb5)
  have hw5 := bl_trans hw2 hb5
  have hl5 := (unhide HX5).lt
  clear x0 x1 x2 x3 x4 x5 x6 hb5 hTT hl2
  go_upto_region 6 with fail
  generalize hWW : w5.alloc _ = W6
  have h6 : BoxS W6 w5.heap.size T (.slice ba' T.bus.length bc') (.slice va' T.ves.length vc') (.slice ua' T.ups.length uc') (.slice qa' T.que.length qc') (.slice ga' T.gone.length gc') ∧ Below w5.heap.size w5 W6 := by
    rw [← hWW]
    exact ⟨BoxS.new _ _ _ _ _ _ _ _, bl1 _ _⟩
  clear hWW
  obtain ⟨hX6, hb6⟩ := h6
  have HY6 := hide hX6
  have HX6 := hide ((unhide HX5).up hb6)
  have HS6 := hide ((unhide HS5).up hb6)
  have HT6 := hide (hT.up hb6)
  have hw6 := bl_trans hw5 hb6
  clear hT hX6 hb6 hl5
  have x0 := (unhide HY6).c0
  have x1 := (unhide HY6).c1
  have x2 := (unhide HY6).c2
  have x3 := (unhide HY6).c3
  have x4 := (unhide HY6).c4
  have x5 := (unhide HY6).c5
  have x6 := (unhide HY6).c6
  have hl7 := (unhide HY6).lt
  go_wp2_with fail
  refine (tchl_any T _ _ _ _ _ _ (unhide HT6)).mono ?_
  rintro e w7 ⟨o1, rfl, hO1, hb7⟩
  rw [unhide HCT]
  have HI1 := hide (hO1.ints (unhide HWT))
  rw [unhide HIT] at HI1
  obtain ⟨o1a, o1c, rfl, ho1, ho2⟩ := (unhide HI1).form
  have HX7 := hide ((unhide HX6).up hb7)
  have HY7 := hide ((unhide HY6).up hb7)
  have HS7 := hide ((unhide HS6).up hb7)
  have HT7 := hide ((unhide HT6).up hb7)
  have hw7 := bl_trans hw6 hb7
  have hl8 := (unhide HX7).lt
  clear x0 x1 x2 x3 x4 x5 x6 hb7 hO1 hl7
  have x0 := (unhide HX7).c0
  have x1 := (unhide HX7).c1
  have x2 := (unhide HX7).c2
  have x3 := (unhide HX7).c3
  have x4 := (unhide HX7).c4
  have x5 := (unhide HX7).c5
  have x6 := (unhide HX7).c6
  go_wp2_with fail
  refine (tchl_any S _ _ _ _ _ _ (unhide HS7)).mono ?_
  rintro e w9 ⟨o2, rfl, hO2, hb9⟩
  rw [unhide HCS]
  have hI2 := hO2.ints (unhide HWS)
  rw [unhide HIS] at hI2
  obtain ⟨o2a, o2c, rfl, ho3, ho4⟩ := hI2.form
  have HX9 := hide ((unhide HX7).up hb9)
  have HY9 := hide ((unhide HY7).up hb9)
  have HT9 := hide ((unhide HT7).up hb9)
  have HI9 := hide ((unhide HI1).up hb9)
  have hw9 := bl_trans hw7 hb9
  have hl9 := (unhide HX9).lt
  have hl10 := (unhide HY9).lt
  clear x0 x1 x2 x3 x4 x5 x6 hb9 hO2 hI2 hl8
  obtain ⟨P, hP⟩ : ∃ P, chlP T = P := ⟨_, rfl⟩
  have HP : Hid (∀ x, P x = (x.tier == 3 && decide (x.til ≤ S.clock + V))) := fun x => by rw [← hP]; unfold chlP; rw [unhide HTC]
  rw [hP] at HMO HAT HNO HLE HI9 ho1
  rw [hP]
  have y3 := (unhide HY9).c3
  rw [unhide HTV] at y3
  have HVS : Hid (Lst RVe 12 ve0 w9 (.slice va' S.ves.length vc') S.ves) := by
    have := (unhide HT9).ves
    rw [unhide HTV] at this
    exact this
  obtain ⟨lv, hlv⟩ : ∃ x, S.ves = x := ⟨_, rfl⟩
  rw [hlv] at y3 HVS HMO HAT HNO HLE HI9 hlen ho1 ho3
  rw [hlv]
  obtain ⟨N, hN⟩ : ∃ x, lv.length = x := ⟨_, rfl⟩
  rw [hN] at y3 HVS HMO HAT HNO HI9 hlen ho1 ho3
  rw [hN]
  have hmo := unhide HMO
  have hle := unhide HLE N
  obtain ⟨I, hI⟩ : ∃ x, idsK lv P N = x := ⟨_, rfl⟩
  have HI := hide hI
  rw [hI] at hmo HAT HI9 ho1 hle
  rw [hI]
  obtain ⟨LI, hLI⟩ : ∃ x, I.length = x := ⟨_, rfl⟩
  have HLI := hide hLI
  rw [hLI] at hmo HAT HI9 ho1 hle
  rw [hLI]
  obtain ⟨LW, hLW⟩ : ∃ x, (idsK lv (chlP S) N).length = x := ⟨_, rfl⟩
  rw [hLW] at hmo ho3 ⊢
  unfold maxLen at ho2 ho4
  have HN := hide hN
  have hmo2 : ¬ (LI : Int) < (LW : Int) := by omega
  have z1 := (unhide HX9).c1
  clear hP hlv hN hI hLI hLW
  go_wp2
  go_loopw [14, 16, 63] (fun s _ i wr => ∃ k : Nat, k ≤ N ∧ i = .int .i64 k ∧ s = .int .i64 ((idsK lv P k).length : Nat) ∧ Below w9.heap.size w9 wr) (fun _ _ i _ => N - (intOf i).toNat)
  case atStart => exact ⟨0, Nat.zero_le _, rfl, rfl, Below.refl _ _⟩
  case round =>
    clear y3 z1
    obtain ⟨k, hk, rfl, rfl, hbr⟩ := hrel
    have hkl := unhide HLE k
    by_cases hlt : k < N
    · obtain ⟨b8, o8, e8, r0⟩ := Lst.at (unhide HVS) (i := k) (by rw [unhide HN]; exact hlt)
      have hAT := unhide HAT k hlt
      have hNO := unhide HNO k hlt
      have hPX := unhide HP (lv.getD k ve0)
      obtain ⟨X, hX⟩ : ∃ X, lv.getD k ve0 = X := ⟨_, rfl⟩
      rw [hX] at r0 hAT hNO hPX
      have HPX := hide hPX
      have HAT2 := hide hAT
      have HNO2 := hide hNO
      subst e8
      have r := RVe.up hbr r0
      obtain ⟨Y, hu, hI8⟩ := r.c8
      obtain ⟨ua8, uc8, rfl, _⟩ := hI8.form
      have c0 := r.c0
      have c1 := r.c1
      have c2 := r.c2
      have c3 := r.c3
      have c4 := r.c4
      have c5 := r.c5
      have c6 := r.c6
      have c7 := r.c7
      have c9 := r.c9
      have c10 := r.c10
      have c11 := r.c11
      have z1 := ((unhide HX9).up hbr).c1
      have hlz := ((unhide HX9).up hbr).lt
      obtain ⟨J, hJ⟩ : ∃ x, (idsK lv P k).length = x := ⟨_, rfl⟩
      rw [hJ] at hkl HAT2 ⊢
      have HJ := hide hJ
      clear r r0 hI8 hX hPX hAT hNO hJ
      by_cases ht : X.tier = 3
      · have hq : (X.tier == 3) = true := by simpa using ht
        by_cases htl : X.til ≤ S.clock + V
        · have hPt : P X = true := by rw [unhide HPX, hq, decide_eq_true htl]; rfl
          obtain ⟨g1, g2, g3⟩ := unhide HAT2 hPt
          obtain ⟨bi, oi, ei, ri⟩ := Lst.at ((unhide HI9).up hbr) (i := J) (by rw [unhide HLI]; exact g1)
          rw [g2, Nat.mul_one] at ri
          have ri1 := ri.1
          have hlen2 : Hid ((idsK lv P (k + 1)).length = J + 1) := by show _ = _; rw [g3, List.length_append, unhide HJ]; rfl
          have hjn : ((J : Int) == (LI : Int)) = false := by simp; omega
          subst ei
          clear hPt g2 g3 ri ht
          go_upto_region 15 with fail
          generalize hWW : wr.alloc _ = W2
          have hv2 : W2.cell? ⟨wr.heap.size, 0, none⟩ = some (.int .i64 X.id) ∧ Below wr.heap.size wr W2 := by
            rw [← hWW]
            exact ⟨cell_of (heap_alloc_new _ _) 0 rfl, bl1 _ _⟩
          clear hWW c0 c1 c2 c3 c4 c5 c6 c7 c9 c10 c11 hu z1
          obtain ⟨v0, hbv⟩ := hv2
          have ri2 := scell_up hbv ri1
          have hne := Later.one W2
          have l0 := fun d : Later W2 => d.cell v0
          have l1 := fun d : Later W2 => d.cell ri2
          refine wp_region_later (by kernel_rfl) (by kernel_rfl) ?_
          repeat (go_big_quiet_step (fail))
          refine wpQuiet_nil ?_
          intro w11 hw'
          obtain ⟨⟨w12, hb12⟩, hw''⟩ := hw'
          subst hw''
          have hbe := bl_trans hbr (bl_trans hbv hb12)
          clear hne l0 l1 ri1 ri2 v0
          go_wp2
          go_roundw
          case rel => exact ⟨k + 1, by omega, by go_num, by rw [unhide hlen2]; go_num, hbe⟩
          case measure => (simp [intOf] <;> omega)
        · have hPf : P X = false := by rw [unhide HPX, hq, decide_eq_false htl]; rfl
          have hN2 : Hid ((idsK lv P (k + 1)).length = J) := by show _ = _; rw [unhide HNO2 hPf]; exact unhide HJ
          clear hPf ht
          go_wp2
          go_roundw
          case rel => exact ⟨k + 1, by omega, by go_num, by rw [unhide hN2], bl_trans hbr (bl1 _ _)⟩
          case measure => (simp [intOf] <;> omega)
      · have hq : (X.tier == 3) = false := by simpa using ht
        have hPf : P X = false := by rw [unhide HPX, hq]; rfl
        have hN2 : Hid ((idsK lv P (k + 1)).length = J) := by show _ = _; rw [unhide HNO2 hPf]; exact unhide HJ
        clear hPf ht
        go_wp2
        go_roundw
        case rel => exact ⟨k + 1, by omega, by go_num, by rw [unhide hN2], bl_trans hbr (bl1 _ _)⟩
        case measure => (simp [intOf] <;> omega)
    · obtain rfl : k = N := by omega
      rw [unhide HI, unhide HLI]
      go_wp2
      go_ret
      exact ⟨rfl, bl_trans hw9 hbr⟩
end Go.Proofs.YtbfhkbmcleglaaaGreat
