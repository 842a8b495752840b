/- icehousekeep.DropForgets: the walk. -/
import Derived.Test.YtbfhkbmcleglaaaGreatSopq
import Derived.Test.YtbfhkbmcleglaaaGreatKkpq
namespace Go.Proofs.YtbfhkbmcleglaaaGreat
open Go.RowKit Go.Maps
set_option maxRecDepth 100000
set_option linter.unusedVariables false
set_option linter.unusedSimpArgs false
theorem idN_in {S : St} (h : S.ves.length ≠ 0) (n : Int) : ∃ p, p < S.ves.length ∧ idN S n = (S.ves.getD p ve0).id := by
  obtain ⟨p, hp, e⟩ := pick_nat n (L := S.ves.length) (by omega)
  exact ⟨p, hp, by unfold idN; rw [if_neg h, e, Int.toNat_natCast]⟩
theorem drop_none {S : St} (h : S.ves.length = 0) (hc : stC S = true) (k : Int) : appE S { rcN 5 with id := k } = 6 ∧ appS S { rcN 5 with id := k } = st00 := by
  have e : chgE S { rcN 5 with id := k } = 6 := by
    rw [(chg_5 (r := { rcN 5 with id := k }) rfl).1]
    unfold dr1E
    rcases idxV_cases S k with ⟨h1, _⟩ | ⟨j, hj, _⟩
    · rw [if_pos (show idxV S k < 0 by omega)]
    · omega
  obtain ⟨h1, h2⟩ := app_c hc (r := { rcN 5 with id := k }) (by rw [e]; decide)
  exact ⟨by rw [h1, e], h2⟩
theorem drop_one {S : St} (hc : stC S = true) {p : Nat} (hp : p < S.ves.length) : appE S { rcN 5 with id := (S.ves.getD p ve0).id } = 0 ∧ appS S { rcN 5 with id := (S.ves.getD p ve0).id } = drpS S p := by
  have hO := (stOk_iff S).1 hc
  have hi := idxV_at hO.vrise hp
  have e : chgE S { rcN 5 with id := (S.ves.getD p ve0).id } = 0 := by
    rw [(chg_5 (r := { rcN 5 with id := (S.ves.getD p ve0).id }) rfl).1]
    show dr1E S (S.ves.getD p ve0).id = 0
    unfold dr1E
    rw [hi, if_neg (by omega)]
  have e2 : chgS S { rcN 5 with id := (S.ves.getD p ve0).id } = drpS S p := by
    rw [(chg_5 (r := { rcN 5 with id := (S.ves.getD p ve0).id }) rfl).2]
    show drpS S (idxV S (S.ves.getD p ve0).id).toNat = _
    rw [hi, Int.toNat_natCast]
  obtain ⟨h1, h2⟩ := app_0 hc e (by rw [e2]; exact (stOk_iff _).2 (hO.drop hp))
  exact ⟨h1, by rw [h2, e2]⟩
theorem drop_gone {S : St} (hc : stC S = true) {p : Nat} (hp : p < S.ves.length) : (∀ x ∈ (drpS S p).ves, x.id ≠ (S.ves.getD p ve0).id) ∧ (∀ a ∈ (drpS S p).que, a.ver ≠ (S.ves.getD p ve0).id) ∧ (drpS S p).ves.length + 1 = S.ves.length := by
  have hO := (stOk_iff S).1 hc
  refine ⟨fun x hx => ?_, fun a ha => ?_, ?_⟩
  · have hr := hO.vrise
    rw [List.pairwise_iff_getElem] at hr
    rw [getD_eq hp]
    rcases List.mem_append.1 (show x ∈ S.ves.take p ++ S.ves.drop (p + 1) from hx) with h | h
    · obtain ⟨j, hj, rfl⟩ := List.mem_take_iff_getElem.1 h
      have := hr j p (by omega) hp (by omega)
      omega
    · obtain ⟨j, hj, rfl⟩ := List.mem_drop_iff_getElem.1 h
      have := hr p (p + 1 + j) hp (by omega) (by omega)
      omega
  · have := (List.mem_filter.1 ha).2
    simpa using this
  · show (S.ves.take p ++ S.ves.drop (p + 1)).length + 1 = _
    rw [List.length_append, List.length_take, List.length_drop]
    omega
set_option maxHeartbeats 4000000 in
theorem dropForgets_walk (lv : Value) (l : List Rw) (m : Int) (w : World) (hl : Raws w lv l) (hm : (Lit.int .i64 m).wf = true) :
    Calls Tryz.prog 6 #[lv, .int .i64 m] w fun e w' => e = .returned (.bool true) ∧ Below w.heap.size w w' := by
  obtain ⟨la, lc, rfl, hl1, hl2⟩ := hl.form
  unfold maxLen at hl2
  have HL := hide hl
  clear hl
  obtain ⟨m0, m1⟩ := wf_lo hm
  clear hm
  obtain ⟨S, hSS⟩ : ∃ S, staL l 40 = S := ⟨_, rfl⟩
  obtain ⟨n, hnn⟩ : ∃ n, cntN l (rnd l 40) = n := ⟨_, rfl⟩
  have hn2 : 2 ≤ n := by rw [← hnn]; exact cntN_two l _ (by unfold rnd; omega)
  have hok : stC S = true := by rw [← hSS]; exact staL_ok l 40
  have hc0 := stE_t hok
  have HC := hide hc0
  clear hc0
  go_enter Tryz.func6, Tryz.ntmps6
  go_wp2_with fail
  refine (kSt _ l 40 _ _ (unhide HL) rfl (by decide)).mono ?_
  rintro e w1 ⟨ba, bc, va, vc, ua, uc, qa, qc, ga, gc, oa, oc, rfl, hS, hb1⟩
  rw [hSS] at hS ⊢
  rw [hnn]
  have HSS := hide hSS
  have HNN := hide hnn
  clear hSS hnn
  go_upto_region 2 with fail
  generalize hWW : w1.alloc _ = W2
  have h2 : BoxS W2 w1.heap.size S (.slice ba S.bus.length bc) (.slice va S.ves.length vc) (.slice ua S.ups.length uc) (.slice qa S.que.length qc) (.slice ga S.gone.length gc) ∧ Below w1.heap.size w1 W2 := by
    rw [← hWW]
    exact ⟨BoxS.new _ _ _ _ _ _ _ _, bl1 _ _⟩
  clear hWW
  obtain ⟨hX, hb2⟩ := h2
  have hw2 := bl_trans hb1 hb2
  have HS := hide (hS.up hb2)
  have HX := hide hX
  clear hS hb1 hb2 hX
  have x0 := (unhide HX).c0
  have x1 := (unhide HX).c1
  have x2 := (unhide HX).c2
  have x3 := (unhide HX).c3
  have x4 := (unhide HX).c4
  have x5 := (unhide HX).c5
  have x6 := (unhide HX).c6
  go_wp2_with fail
  refine (k_id_any S _ _ _ _ _ m _ (unhide HS) m0 m1).mono ?_
  rintro e w3 ⟨rfl, hb3⟩
  have HX3 := hide ((unhide HX).up hb3)
  have HS3 := hide ((unhide HS).up hb3)
  have hw3 := bl_trans hw2 hb3
  have hl3 := (unhide HX3).lt
  have hid := idN_b hok m
  have HZ : Hid (S.ves.length = 0 → appE S { rcN 5 with id := idN S m } = 6 ∧ appS S { rcN 5 with id := idN S m } = st00) := fun h => drop_none h hok _
  have HY : Hid (S.ves.length ≠ 0 → ∃ p, p < S.ves.length ∧ idN S m = (S.ves.getD p ve0).id ∧ appE S { rcN 5 with id := idN S m } = 0 ∧ appS S { rcN 5 with id := idN S m } = drpS S p) := fun h => by
    obtain ⟨p, hp, e⟩ := idN_in h m
    rw [e]
    obtain ⟨h1, h2⟩ := drop_one hok hp
    exact ⟨p, hp, rfl, h1, h2⟩
  obtain ⟨K, hK⟩ : ∃ K, idN S m = K := ⟨_, rfl⟩
  rw [hK] at HZ HY hid ⊢
  have hlen := tstC_len hok
  clear x0 x1 x2 x3 x4 x5 x6 hb3 hK
  have x0 := (unhide HX3).c0
  have x1 := (unhide HX3).c1
  have x2 := (unhide HX3).c2
  have x3 := (unhide HX3).c3
  have x4 := (unhide HX3).c4
  have x5 := (unhide HX3).c5
  have x6 := (unhide HX3).c6
  go_wp2_with fail
  refine (kAp S _ _ _ _ _ { rcN 5 with id := K } nl nl nl _ (unhide HS3) { rcN_fit 5 with } { rcN_wf 5 with } (RcI.none _ _ rfl rfl rfl)).mono ?_
  rintro e w5 ⟨ba', bc', va', vc', ua', uc', qa', qc', ga', gc', rfl, hT, hb5⟩
  obtain ⟨T, hTT⟩ : ∃ T, appS S { rcN 5 with id := K } = T := ⟨_, rfl⟩
  obtain ⟨E, hE⟩ : ∃ E, appE S { rcN 5 with id := K } = E := ⟨_, rfl⟩
  rw [hTT] at HZ HY hT ⊢
  rw [hE] at HZ HY ⊢
  have HX5 := hide ((unhide HX3).up hb5)
  have HS5 := hide ((unhide HS3).up hb5)
  have hw5 := bl_trans hw3 hb5
  have hl5 := (unhide HX5).lt
  clear x0 x1 x2 x3 x4 x5 x6 hb5 hTT hE
  go_upto_region 4 with fail
  generalize hWW : w5.alloc _ = W6
  have h6 : BoxS W6 w5.heap.size T (.slice ba' T.bus.length bc') (.slice va' T.ves.length vc') (.slice ua' T.ups.length uc') (.slice qa' T.que.length qc') (.slice ga' T.gone.length gc') ∧ Below w5.heap.size w5 W6 := by
    rw [← hWW]
    exact ⟨BoxS.new _ _ _ _ _ _ _ _, bl1 _ _⟩
  clear hWW
  obtain ⟨hX6, hb6⟩ := h6
  have HY6 := hide hX6
  have HX6 := hide ((unhide HX5).up hb6)
  have HS6 := hide ((unhide HS5).up hb6)
  have HT6 := hide (hT.up hb6)
  have hw6 := bl_trans hw5 hb6
  have hl6 := (unhide HX6).lt
  have hl7 := hX6.lt
  clear hT hX6 hb6 hl5 hl3
  have x3 := (unhide HX6).c3
  cases hN : S.ves.length with
  | zero =>
    obtain ⟨rfl, -⟩ := unhide HZ hN
    rw [hN] at x3
    have x0 := (unhide HX6).c0
    have x1 := (unhide HX6).c1
    have x2 := (unhide HX6).c2
    have x4 := (unhide HX6).c4
    have x5 := (unhide HX6).c5
    have x6 := (unhide HX6).c6
    have HSQ := hide (unhide HS6)
    rw [hN] at HSQ
    clear hN
    go_wp2_with fail
    refine (check_any S _ _ _ _ _ _ (unhide HSQ)).mono ?_
    rintro e w7 ⟨rfl, hb7⟩
    rw [unhide HC]
    have hw7 := bl_trans hw6 hb7
    clear x0 x1 x2 x3 x4 x5 x6 hb7
    go_wp2
    go_ret
    exact ⟨rfl, hw7⟩
  | succ M =>
    obtain ⟨p, hp, e1, rfl, e3⟩ := unhide HY (by omega)
    have hdg := drop_gone hok hp
    rw [← e1, ← e3] at hdg
    obtain ⟨g1, g2, g3⟩ := hdg
    have hTM : T.ves.length = M := by omega
    have HG1 := hide g1
    have HG2 := hide g2
    have hTok : stC T = true := by rw [e3]; exact (stOk_iff _).2 (((stOk_iff _).1 hok).drop hp)
    have HF : Hid (appE T { rcN 5 with id := K } = 6) := by
      have e : chgE T { rcN 5 with id := K } = 6 := by
        rw [(chg_5 (r := { rcN 5 with id := K }) rfl).1]
        unfold dr1E
        rcases idxV_cases T K with ⟨h1, _⟩ | ⟨j, hj, _, e⟩
        · rw [if_pos (show idxV T K < 0 by omega)]
        · exact absurd e (g1 _ (mem_getD hj))
      exact (app_c hTok (r := { rcN 5 with id := K }) (by rw [e]; decide)).1.trans e
    have hqT := (few_of hTok).que
    rw [hN] at x3 hlen
    have y3 := (unhide HY6).c3
    have y5 := (unhide HY6).c5
    have HV6 := hide (unhide HT6).ves
    have HQ6 := hide (unhide HT6).que
    have HTM := hide hTM
    rw [hTM] at y3 HV6
    have HN := hide hN
    have hMb : M ≤ 40 := by omega
    clear g1 g2 g3 e1 e3 hN hTM hp hid
    go_wp2
    go_loopw [11, 45] (fun _ i wr => ∃ k : Nat, k ≤ M ∧ i = .int .i64 k ∧ Below W6.heap.size W6 wr) (fun _ i _ => M - (intOf i).toNat)
    case atStart => exact ⟨0, Nat.zero_le _, rfl, Below.refl _ _⟩
    case round =>
      clear x3 y3 y5
      obtain ⟨k, hk, rfl, hbr⟩ := hrel
      by_cases hlt : k < M
      · obtain ⟨b8, o8, e8, r0⟩ := Lst.at (unhide HV6) (i := k) (by rw [unhide HTM]; exact hlt)
        have hne := unhide HG1 _ (mem_getD (l := T.ves) (k := k) (by rw [unhide HTM]; exact hlt))
        obtain ⟨X, hX⟩ : ∃ X, T.ves.getD k ve0 = X := ⟨_, rfl⟩
        rw [hX] at r0 hne
        subst e8
        have r := RVe.up hbr r0
        obtain ⟨Y, hu, hI8⟩ := r.c8
        obtain ⟨ua8, uc8, rfl, _⟩ := hI8.form
        have c0 := r.c0
        have c1 := r.c1
        have c2 := r.c2
        have c3 := r.c3
        have c4 := r.c4
        have c5 := r.c5
        have c6 := r.c6
        have c7 := r.c7
        have c9 := r.c9
        have c10 := r.c10
        have c11 := r.c11
        have hq : (X.id == K) = false := by simpa using hne
        clear r r0 hI8 hX hne
        go_wp2
        go_roundw
        case rel => exact ⟨k + 1, by omega, by go_num, bl_trans hbr (bl1 _ _)⟩
        case measure => (simp [intOf] <;> omega)
      · obtain rfl : k = M := by omega
        obtain ⟨wo, rfl⟩ : ∃ wo : World, wo = wr := ⟨_, rfl⟩
        have HYo := hide ((unhide HY6).up hbr)
        have HXo := hide ((unhide HX6).up hbr)
        have HTo := hide ((unhide HT6).up hbr)
        have HQo := hide (unhide HTo).que
        have hwo := bl_trans hw6 hbr
        have y5 := (unhide HYo).c5
        have hlo := (unhide HYo).lt
        have hlo2 := (unhide HXo).lt
        obtain ⟨lq, hlq⟩ : ∃ x, T.que = x := ⟨_, rfl⟩
        rw [hlq] at HQo hqT HG2 y5
        obtain ⟨NQ, hNQ⟩ : ∃ x, lq.length = x := ⟨_, rfl⟩
        rw [hNQ] at HQo hqT y5
        have HNQ := hide hNQ
        clear hlq hNQ hlt hbr
        go_wp2
        go_loopw [13, 57] (fun _ i wr => ∃ j : Nat, j ≤ NQ ∧ i = .int .i64 j ∧ Below wo.heap.size wo wr) (fun _ i _ => NQ - (intOf i).toNat)
        case atStart => exact ⟨0, Nat.zero_le _, rfl, Below.refl _ _⟩
        case round =>
          clear y5
          obtain ⟨j, hj, rfl, hbr⟩ := hrel
          by_cases hlt : j < NQ
          · obtain ⟨b8, o8, e8, r0⟩ := Lst.at (unhide HQo) (i := j) (by rw [unhide HNQ]; exact hlt)
            have hne := unhide HG2 _ (mem_get (l := lq) (d := ak0) (k := j) (by rw [unhide HNQ]; exact hlt))
            obtain ⟨X, hX⟩ : ∃ X, lq.getD j ak0 = X := ⟨_, rfl⟩
            rw [hX] at r0 hne
            subst e8
            have r := RAk.up hbr r0
            have c0 := r.c0
            have c1 := r.c1
            have c2 := r.c2
            have hq : (X.ver == K) = false := by simpa using hne
            clear r r0 hX hne
            go_wp2
            go_roundw
            case rel => exact ⟨j + 1, by omega, by go_num, bl_trans hbr (bl1 _ _)⟩
            case measure => (simp [intOf] <;> omega)
          · obtain rfl : j = NQ := by omega
            have HYp := hide ((unhide HYo).up hbr)
            have HXp := hide ((unhide HXo).up hbr)
            have HTp := hide ((unhide HTo).up hbr)
            have hwp := bl_trans hwo hbr
            have y0 := (unhide HYp).c0
            have y1 := (unhide HYp).c1
            have y2 := (unhide HYp).c2
            have y3 := (unhide HYp).c3
            have y4 := (unhide HYp).c4
            have y5 := (unhide HYp).c5
            have y6 := (unhide HYp).c6
            clear hlt hbr
            go_wp2_with fail
            refine (kAp T _ _ _ _ _ { rcN 5 with id := K } nl nl nl _ (unhide HTp) { rcN_fit 5 with } { rcN_wf 5 with } (RcI.none _ _ rfl rfl rfl)).mono ?_
            rintro e w8 ⟨ba3, bc3, va3, vc3, ua3, uc3, qa3, qc3, ga3, gc3, rfl, _, hb8⟩
            rw [unhide HF]
            have HYq := hide ((unhide HYp).up hb8)
            have HXq := hide ((unhide HXp).up hb8)
            have hwq := bl_trans hwp hb8
            have z3 := (unhide HYq).c3
            have q3 := (unhide HXq).c3
            rw [unhide HTM] at z3
            rw [unhide HN] at q3
            have hlq := (unhide HYq).lt
            have hlq2 := (unhide HXq).lt
            clear y0 y1 y2 y3 y4 y5 y6 hb8
            go_wp2
            go_ret
            exact ⟨rfl, bl_trans hwq (bl1 _ _)⟩
end Go.Proofs.YtbfhkbmcleglaaaGreat
