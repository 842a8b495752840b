/- icehousekeep.AskCold: the walk. -/
import Derived.Test.YtbfhkbmcleglaaaGreatW77q
import Derived.Test.YtbfhkbmcleglaaaGreatKkpq
namespace Go.Proofs.YtbfhkbmcleglaaaGreat
open Go.RowKit Go.Maps
set_option maxRecDepth 100000
set_option linter.unusedVariables false
set_option linter.unusedSimpArgs false
theorem BoxS.at {w : World} {B : Nat} {S : St} {b v u q g : Value} (h : BoxS w B S b v u q g) (j : Nat) (x : Value) (hx : (#[.int .i64 S.next, .int .i64 S.clock, b, v, u, q, g] : Array Value)[j]? = some x) : w.cell? ⟨B, j, none⟩ = some x := by
  match j, hx with
  | 0, hx => simp at hx; subst hx; exact h.c0
  | 1, hx => simp at hx; subst hx; exact h.c1
  | 2, hx => simp at hx; subst hx; exact h.c2
  | 3, hx => simp at hx; subst hx; exact h.c3
  | 4, hx => simp at hx; subst hx; exact h.c4
  | 5, hx => simp at hx; subst hx; exact h.c5
  | 6, hx => simp at hx; subst hx; exact h.c6
  | _ + 7, hx => simp at hx
theorem idxA_cases (S : St) (n : Int) : (idxA S n = -1 ∧ ∀ x ∈ S.que, x.ver ≠ n) ∨ ∃ k, k < S.que.length ∧ idxA S n = (k : Int) ∧ (S.que.getD k ak0).ver = n := by
  rcases firstI_cases S.que.length (akP S.que n) with ⟨h1, h2⟩ | ⟨k, h1, h2, h3, _⟩
  · refine .inl ⟨h1, fun x hx e => ?_⟩
    obtain ⟨k, hk, e2⟩ := mem_at (d := ak0) hx
    have := h2 k hk
    unfold akP at this
    rw [e2, e] at this
    simp at this
  · exact .inr ⟨k, h1, h2, by unfold akP at h3; simpa using h3⟩
theorem ask_none {S : St} (h : S.ves.length = 0) (hc : stC S = true) (k : Int) : appE S { rcN 7 with ask := ⟨k, 3, 1⟩ } = 6 := by
  have e : chgE S { rcN 7 with ask := ⟨k, 3, 1⟩ } = 6 := by
    rw [(chg_7 (r := { rcN 7 with ask := ⟨k, 3, 1⟩ }) rfl).1]
    show adaE S ⟨k, 3, 1⟩ = 6
    unfold adaE wbE
    rcases idxV_cases S k with ⟨h1, _⟩ | ⟨j, hj, _⟩
    · rw [if_pos (show idxV S k < 0 by omega)]; rfl
    · omega
  exact (app_c hc (r := { rcN 7 with ask := ⟨k, 3, 1⟩ }) (by rw [e]; decide)).1.trans e
theorem wb_at {S : St} (hc : stC S = true) {p : Nat} (hp : p < S.ves.length) : wbE S (S.ves.getD p ve0).id = if (S.ves.getD p ve0).mar then 3 else 0 := by
  have hO := (stOk_iff S).1 hc
  have hi := idxV_at hO.vrise hp
  unfold wbE
  rw [hi, if_neg (by omega), Int.toNat_natCast]
theorem ask_at {S : St} (hc : stC S = true) {p : Nat} (hp : p < S.ves.length) :
    ((S.ves.getD p ve0).mar = true → appE S { rcN 7 with ask := ⟨(S.ves.getD p ve0).id, 3, 1⟩ } = 3) ∧
    ((S.ves.getD p ve0).mar = false → (S.ves.getD p ve0).tier ≠ 2 → appE S { rcN 7 with ask := ⟨(S.ves.getD p ve0).id, 3, 1⟩ } = 12) ∧
    ((S.ves.getD p ve0).mar = false → (S.ves.getD p ve0).tier = 2 → appE S { rcN 7 with ask := ⟨(S.ves.getD p ve0).id, 3, 1⟩ } = 13 ∨ appE S { rcN 7 with ask := ⟨(S.ves.getD p ve0).id, 3, 1⟩ } = 8 ∨
      (appE S { rcN 7 with ask := ⟨(S.ves.getD p ve0).id, 3, 1⟩ } = 0 ∧ (appS S { rcN 7 with ask := ⟨(S.ves.getD p ve0).id, 3, 1⟩ }).que.length = S.que.length + 1 ∧
        appE (appS S { rcN 7 with ask := ⟨(S.ves.getD p ve0).id, 3, 1⟩ }) { rcN 7 with ask := ⟨(S.ves.getD p ve0).id, 3, 1⟩ } = 13)) := by
  have hO := (stOk_iff S).1 hc
  have hi := idxV_at hO.vrise hp
  have hw := wb_at hc hp
  have hce : ∀ T : St, chgE T { rcN 7 with ask := ⟨(S.ves.getD p ve0).id, 3, 1⟩ } = adaE T ⟨(S.ves.getD p ve0).id, 3, 1⟩ := fun T => (chg_7 (r := { rcN 7 with ask := ⟨(S.ves.getD p ve0).id, 3, 1⟩ }) rfl).1
  have hcs : chgS S { rcN 7 with ask := ⟨(S.ves.getD p ve0).id, 3, 1⟩ } = adaS S ⟨(S.ves.getD p ve0).id, 3, 1⟩ := (chg_7 (r := { rcN 7 with ask := ⟨(S.ves.getD p ve0).id, 3, 1⟩ }) rfl).2
  refine ⟨fun hm => ?_, fun hm ht => ?_, fun hm ht => ?_⟩
  · rw [hm, if_pos rfl] at hw
    have e : adaE S ⟨(S.ves.getD p ve0).id, 3, 1⟩ = 3 := by
      unfold adaE
      show (if wbE S (S.ves.getD p ve0).id = 0 then _ else wbE S (S.ves.getD p ve0).id) = 3
      rw [hw]; rfl
    exact (app_c hc (by rw [hce, e]; decide)).1.trans ((hce S).trans e)
  · rw [hm, if_neg (by decide)] at hw
    have e : adaE S ⟨(S.ves.getD p ve0).id, 3, 1⟩ = 12 := by
      unfold adaE
      show (if wbE S (S.ves.getD p ve0).id = 0 then (if (S.ves.getD (idxV S (S.ves.getD p ve0).id).toNat ve0).tier = 2 then _ else 12) else wbE S (S.ves.getD p ve0).id) = 12
      rw [hw, if_pos rfl, hi, Int.toNat_natCast, if_neg ht]
    exact (app_c hc (by rw [hce, e]; decide)).1.trans ((hce S).trans e)
  · rw [hm, if_neg (by decide)] at hw
    have e : ∀ T : St, T.ves = S.ves → adaE T ⟨(S.ves.getD p ve0).id, 3, 1⟩ = if 0 ≤ idxA T (S.ves.getD p ve0).id then 13 else (if T.que.length = 10 then 8 else 0) := fun T hT => by
      have h1 : wbE T (S.ves.getD p ve0).id = 0 := by unfold wbE idxV at *; rw [hT]; exact hw
      have h2 : idxV T (S.ves.getD p ve0).id = (p : Int) := by unfold idxV at *; rw [hT]; exact hi
      unfold adaE
      show (if wbE T (S.ves.getD p ve0).id = 0 then (if (T.ves.getD (idxV T (S.ves.getD p ve0).id).toNat ve0).tier = 2 then (if 0 ≤ idxA T (S.ves.getD p ve0).id then 13 else if inB 3 1 1000 && inB 1 0 2 then (if T.que.length = 10 then 8 else 0) else 2) else 12) else wbE T (S.ves.getD p ve0).id) = _
      rw [h1, if_pos rfl, h2, Int.toNat_natCast, hT, if_pos ht]
      rfl
    rcases idxA_cases S (S.ves.getD p ve0).id with ⟨h1, h2⟩ | ⟨j, hj, h1, _⟩
    · by_cases hq : S.que.length = 10
      · refine .inr (.inl ?_)
        have e2 : adaE S ⟨(S.ves.getD p ve0).id, 3, 1⟩ = 8 := by rw [e S rfl, if_neg (by omega), if_pos hq]
        exact (app_c hc (by rw [hce, e2]; decide)).1.trans ((hce S).trans e2)
      · refine .inr (.inr ?_)
        have e2 : chgE S { rcN 7 with ask := ⟨(S.ves.getD p ve0).id, 3, 1⟩ } = 0 := by rw [hce, e S rfl, if_neg (by omega), if_neg hq]
        have hT : StOk (adaS S ⟨(S.ves.getD p ve0).id, 3, 1⟩) := hO.ask (by have := hO.qlen; omega) ((cold_iff hO.vrise _).2 ⟨_, mem_getD hp, rfl, ht⟩) (by show (inB 3 1 1000 && inB 1 0 2) = true; rfl) h2
        have hTc := (stOk_iff _).2 hT
        obtain ⟨a1, a2⟩ := app_0 hc e2 (by rw [hcs]; exact hTc)
        rw [hcs] at a2
        rw [a2]
        refine ⟨a1, by show (S.que ++ [_]).length = _; simp, ?_⟩
        have e3 : adaE (adaS S ⟨(S.ves.getD p ve0).id, 3, 1⟩) ⟨(S.ves.getD p ve0).id, 3, 1⟩ = 13 := by
          rw [e (adaS S ⟨(S.ves.getD p ve0).id, 3, 1⟩) rfl, if_pos]
          rcases idxA_cases (adaS S ⟨(S.ves.getD p ve0).id, 3, 1⟩) (S.ves.getD p ve0).id with ⟨_, h4⟩ | ⟨j, _, h3, _⟩
          · exact absurd rfl (h4 ⟨(S.ves.getD p ve0).id, 3, 1⟩ (List.mem_append_right _ (List.mem_singleton.2 rfl)))
          · omega
        exact (app_c hTc (by rw [hce, e3]; decide)).1.trans ((hce _).trans e3)
    · refine .inl ?_
      have e2 : adaE S ⟨(S.ves.getD p ve0).id, 3, 1⟩ = 13 := by rw [e S rfl, if_pos (by omega)]
      exact (app_c hc (by rw [hce, e2]; decide)).1.trans ((hce S).trans e2)
theorem ask_wf {S : St} (h : stC S = true) (n : Int) : WfR { rcN 7 with ask := ⟨idN S n, 3, 1⟩ } := { rcN_wf 7 with ask := id_wf h n }
set_option maxHeartbeats 4000000 in
theorem askCold_walk (lv : Value) (l : List Rw) (m : Int) (w : World) (hl : Raws w lv l) (hm : (Lit.int .i64 m).wf = true) :
    Calls Tryz.prog 8 #[lv, .int .i64 m] w fun e w' => e = .returned (.bool true) ∧ Below w.heap.size w w' := by
  obtain ⟨la, lc, rfl, hl1, hl2⟩ := hl.form
  unfold maxLen at hl2
  have HL := hide hl
  clear hl
  obtain ⟨m0, m1⟩ := wf_lo hm
  clear hm
  obtain ⟨S, hSS⟩ : ∃ S, staL l 40 = S := ⟨_, rfl⟩
  obtain ⟨n, hnn⟩ : ∃ n, cntN l (rnd l 40) = n := ⟨_, rfl⟩
  have hn2 : 2 ≤ n := by rw [← hnn]; exact cntN_two l _ (by unfold rnd; omega)
  have hok : stC S = true := by rw [← hSS]; exact staL_ok l 40
  have hc0 := stE_t hok
  have HC := hide hc0
  clear hc0
  go_enter Tryz.func8, Tryz.ntmps8
  go_wp2_with fail
  refine (kSt _ l 40 _ _ (unhide HL) rfl (by decide)).mono ?_
  rintro e w1 ⟨ba, bc, va, vc, ua, uc, qa, qc, ga, gc, oa, oc, rfl, hS, hb1⟩
  rw [hSS] at hS ⊢
  rw [hnn]
  have HSS := hide hSS
  have HNN := hide hnn
  clear hSS hnn
  go_upto_region 2 with fail
  generalize hWW : w1.alloc _ = W2
  have h2 : BoxS W2 w1.heap.size S (.slice ba S.bus.length bc) (.slice va S.ves.length vc) (.slice ua S.ups.length uc) (.slice qa S.que.length qc) (.slice ga S.gone.length gc) ∧ Below w1.heap.size w1 W2 := by
    rw [← hWW]
    exact ⟨BoxS.new _ _ _ _ _ _ _ _, bl1 _ _⟩
  clear hWW
  obtain ⟨hX, hb2⟩ := h2
  have hw2 := bl_trans hb1 hb2
  have HS := hide (hS.up hb2)
  have HX := hide hX
  clear hS hb1 hb2 hX
  have x0 := (unhide HX).c0
  have x1 := (unhide HX).c1
  have x2 := (unhide HX).c2
  have x3 := (unhide HX).c3
  have x4 := (unhide HX).c4
  have x5 := (unhide HX).c5
  have x6 := (unhide HX).c6
  go_wp2_with fail
  refine (k_id_any S _ _ _ _ _ m _ (unhide HS) m0 m1).mono ?_
  rintro e w3 ⟨rfl, hb3⟩
  have HX3 := hide ((unhide HX).up hb3)
  have HS3 := hide ((unhide HS).up hb3)
  have hw3 := bl_trans hw2 hb3
  have hl3 := (unhide HX3).lt
  have hlen := tstC_len hok
  have HWR := hide (ask_wf hok m)
  have HZ : Hid (S.ves.length = 0 → appE S { rcN 7 with ask := ⟨idN S m, 3, 1⟩ } = 6) := fun h => ask_none h hok _
  have HY : Hid (S.ves.length ≠ 0 → ∃ p, p < S.ves.length ∧ idN S m = (S.ves.getD p ve0).id ∧ ((S.ves.getD p ve0).mar = true → appE S { rcN 7 with ask := ⟨idN S m, 3, 1⟩ } = 3) ∧
      ((S.ves.getD p ve0).mar = false → (S.ves.getD p ve0).tier ≠ 2 → appE S { rcN 7 with ask := ⟨idN S m, 3, 1⟩ } = 12) ∧
      ((S.ves.getD p ve0).mar = false → (S.ves.getD p ve0).tier = 2 → appE S { rcN 7 with ask := ⟨idN S m, 3, 1⟩ } = 13 ∨ appE S { rcN 7 with ask := ⟨idN S m, 3, 1⟩ } = 8 ∨
      (appE S { rcN 7 with ask := ⟨idN S m, 3, 1⟩ } = 0 ∧ (appS S { rcN 7 with ask := ⟨idN S m, 3, 1⟩ }).que.length = S.que.length + 1 ∧ appE (appS S { rcN 7 with ask := ⟨idN S m, 3, 1⟩ }) { rcN 7 with ask := ⟨idN S m, 3, 1⟩ } = 13)) ∧
      (∀ k, k < S.ves.length → k ≠ p → (S.ves.getD k ve0).id ≠ idN S m)) := fun h => by
    obtain ⟨p, hp, e⟩ := idN_in h m
    obtain ⟨h1, h2, h3⟩ := ask_at hok hp
    refine ⟨p, hp, e, ?_⟩
    rw [e]
    refine ⟨h1, h2, h3, fun k hk hne e2 => ?_⟩
    have h5 := idxV_at ((stOk_iff S).1 hok).vrise hk
    have h6 := idxV_at ((stOk_iff S).1 hok).vrise hp
    rw [e2] at h5
    omega
  obtain ⟨K, hK⟩ : ∃ K, idN S m = K := ⟨_, rfl⟩
  rw [hK] at HZ HY HWR ⊢
  clear x0 x1 x2 x3 x4 x5 x6 hb3 hK
  go_upto_region 3 with fail
  refine wp_region_lit ?_
  refine wpList_plain rfl (fun KQ hKQ => ?_)
  go_simp
  refine hKQ _ _ ?_
  clear hKQ
  refine wpList_plain rfl (fun KQ hKQ => ?_)
  go_simp
  refine hKQ _ _ ?_
  clear hKQ
  refine wpList_plain rfl (fun KQ hKQ => ?_)
  go_simp
  refine hKQ _ _ ?_
  clear hKQ
  refine wpList_plain rfl (fun KQ hKQ => ?_)
  go_simp
  refine hKQ _ _ ?_
  clear hKQ
  refine wpList_store_mid rfl 45 (.tmp 8) (.tmp 25) rfl w3.heap.size 0 (rcA { rcN 7 with ask := ⟨K, 3, 1⟩ } nl nl nl) rfl rfl (there_of (c := rcA (rcN 0) nl nl nl) (t := 45) (heap_alloc_new _ _)) (by kernel_rfl) (by simp [Value.oneCell']) ?_
  generalize hWW : World.setCells _ w3.heap.size 0 _ = W4
  have hre2 : W4.heap[w3.heap.size]? = some (.cells (rcA { rcN 7 with ask := ⟨K, 3, 1⟩ } nl nl nl) 45 (0, 0)) ∧ Below w3.heap.size w3 W4 := by
    rw [← hWW]
    exact rec_fill w3 (rcA (rcN 0) nl nl nl) _ rfl
  clear hWW
  obtain ⟨hre, hbe⟩ := hre2
  have HX4 := hide ((unhide HX3).up hbe)
  have HS4 := hide ((unhide HS3).up hbe)
  have hw4 := bl_trans hw3 hbe
  have hlr : w3.heap.size < W4.heap.size := (Array.getElem?_eq_some_iff.1 hre).1
  have hs4 : ∀ j v, (#[.int .i64 S.next, .int .i64 S.clock, (.slice ba S.bus.length bc), (.slice va S.ves.length vc), (.slice ua S.ups.length uc), (.slice qa S.que.length qc), (.slice ga S.gone.length gc)] : Array Value)[j]? = some v → W4.cell? ⟨w1.heap.size, j, none⟩ = some v := fun j v hj => (unhide HX4).at j v hj
  clear hbe
  go_upto_region 4 with fail
  refine wp_region_lit ?_
  refine wpList_load_mid rfl 29 (.tmp 5) rfl w1.heap.size 0 rfl (#[.int .i64 S.next, .int .i64 S.clock, (.slice ba S.bus.length bc), (.slice va S.ves.length vc), (.slice ua S.ups.length uc), (.slice qa S.que.length qc), (.slice ga S.gone.length gc)] : Array Value).toList _ (fun j v hv => by rw [Nat.zero_add]; exact hs4 j v (by simpa using hv)) Tryz.underlying29 rfl (by kernel_rfl) ?_
  refine wpList_load_mid rfl 45 (.tmp 8) rfl w3.heap.size 0 rfl (rcA { rcN 7 with ask := ⟨K, 3, 1⟩ } nl nl nl).toList _ (fun j v hv => by rw [Nat.zero_add]; exact cell_of hre j (by simpa using hv)) Tryz.underlying45 rfl (by kernel_rfl) ?_
  have HRE := hide hre
  clear hre hs4
  go_wp2_with fail
  refine (kAp S _ _ _ _ _ { rcN 7 with ask := ⟨K, 3, 1⟩ } nl nl nl _ (unhide HS4) { rcN_fit 7 with } (unhide HWR) (RcI.none _ _ rfl rfl rfl)).mono ?_
  rintro e w5 ⟨ba', bc', va', vc', ua', uc', qa', qc', ga', gc', rfl, hT, hb5⟩
  obtain ⟨T, hTT⟩ : ∃ T, appS S { rcN 7 with ask := ⟨K, 3, 1⟩ } = T := ⟨_, rfl⟩
  obtain ⟨E, hE⟩ : ∃ E, appE S { rcN 7 with ask := ⟨K, 3, 1⟩ } = E := ⟨_, rfl⟩
  rw [hTT] at HY hT ⊢
  rw [hE] at HZ HY ⊢
  have HX5 := hide ((unhide HX4).up hb5)
  have HS5 := hide ((unhide HS4).up hb5)
  have hre5 := (hb5.block _ hlr).trans (unhide HRE)
  have hw5 := bl_trans hw4 hb5
  have hl5 := (unhide HX5).lt
  clear hb5 hTT hE HRE
  go_upto_region 5 with fail
  generalize hWW : w5.alloc _ = W6
  have h6 : W6.heap[w5.heap.size]? = some (.cells #[.int .i64 T.next, .int .i64 T.clock, (.slice ba' T.bus.length bc'), (.slice va' T.ves.length vc'), (.slice ua' T.ups.length uc'), (.slice qa' T.que.length qc'), (.slice ga' T.gone.length gc')] 29 (0, 0)) ∧ Below w5.heap.size w5 W6 := by
    rw [← hWW]
    exact ⟨heap_alloc_new _ _, bl1 _ _⟩
  clear hWW
  obtain ⟨hrT6, hb6⟩ := h6
  have HRT6 := hide hrT6
  have HX6 := hide ((unhide HX5).up hb6)
  have HS6 := hide ((unhide HS5).up hb6)
  have HT6 := hide (hT.up hb6)
  have HRE6 := hide ((hb6.block _ (Array.getElem?_eq_some_iff.1 hre5).1).trans hre5)
  have hw6 := bl_trans hw5 hb6
  have hl6 := (unhide HX6).lt
  clear hT hrT6 hb6 hl5 hl3 hre5
  have x3 := (unhide HX6).c3
  cases hN : S.ves.length with
  | zero =>
    obtain rfl := unhide HZ hN
    rw [hN] at x3
    have x0 := (unhide HX6).c0
    have x1 := (unhide HX6).c1
    have x2 := (unhide HX6).c2
    have x4 := (unhide HX6).c4
    have x5 := (unhide HX6).c5
    have x6 := (unhide HX6).c6
    have HSQ := hide (unhide HS6)
    rw [hN] at HSQ
    clear hN
    go_wp2_with fail
    refine (check_any S _ _ _ _ _ _ (unhide HSQ)).mono ?_
    rintro e w7 ⟨rfl, hb7⟩
    rw [unhide HC]
    have hw7 := bl_trans hw6 hb7
    clear x0 x1 x2 x3 x4 x5 x6 hb7
    go_wp2
    go_ret
    exact ⟨rfl, hw7⟩
  | succ M =>
    obtain ⟨p, hp, e1, h3, h12, h0, hne⟩ := unhide HY (by omega)
    rw [hN] at x3 hlen hp hne
    have HV6 := hide (unhide HS6).ves
    rw [hN] at HV6
    obtain ⟨A, hA⟩ : ∃ A, S.ves.getD p ve0 = A := ⟨_, rfl⟩
    rw [hA] at e1 h3 h12 h0
    have HE1 := hide e1
    have HA := hide hA
    have HN := hide hN
    have H3 := hide h3
    have H12 := hide h12
    have H0 := hide h0
    have HNE := hide hne
    have hqT := (few_of hok).que
    clear h3 h12 h0 hne hA hN e1
    go_wp2
    go_loopw [12, 46, 54, 59] (fun _ i _ _ wr => ∃ k : Nat, k ≤ M + 1 ∧ i = .int .i64 k ∧ Below W6.heap.size W6 wr ∧ (p < k → A.mar = false ∧ A.tier = 2)) (fun _ i _ _ _ => M + 1 - (intOf i).toNat)
    case atStart => exact ⟨0, Nat.zero_le _, rfl, Below.refl _ _, fun h => absurd h (Nat.not_lt_zero _)⟩
    case round =>
      clear x3
      obtain ⟨k, hk, rfl, hbr, hpk⟩ := hrel
      have HPK := hide hpk
      clear hpk
      by_cases hlt : k < M + 1
      · obtain ⟨b8, o8, e8, r0⟩ := Lst.at (unhide HV6) (i := k) (by rw [unhide HN]; exact hlt)
        subst e8
        have r := RVe.up hbr r0
        by_cases hkp : k = p
        · rw [hkp, unhide HA, ← hkp] at r
          obtain ⟨Y, hu, hI8⟩ := r.c8
          obtain ⟨ua8, uc8, rfl, _⟩ := hI8.form
          have c0 := r.c0
          have c1 := r.c1
          have c2 := r.c2
          have c3 := r.c3
          have c5 := r.c5
          have c6 := r.c6
          have c7 := r.c7
          have c9 := r.c9
          have c10 := r.c10
          have c11 := r.c11
          have hq : (A.id != K) = false := by simpa using (unhide HE1).symm
          cases hm : A.mar
          · have c4 : wr.cell? ⟨b8, o8 + k * 12 + 4, none⟩ = some (.bool false) := by rw [← hm]; exact r.c4
            by_cases ht : A.tier = 2
            · have hq2 : (A.tier != 2) = false := by simpa using ht
              have HPN : Hid (p < k + 1 → A.mar = false ∧ A.tier = 2) := fun _ => ⟨hm, ht⟩
              clear r r0 hI8 hm ht hkp
              go_wp2
              go_roundw
              case rel => exact ⟨k + 1, by omega, by go_num, bl_trans hbr (bl1 _ _), fun h => ⟨trivial, (unhide HPN h).2⟩⟩
              case measure => (simp [intOf] <;> omega)
            · have hq2 : (A.tier != 2) = true := by simpa using ht
              obtain rfl := unhide H12 hm ht
              clear r r0 hI8 hm ht hkp
              go_wp2
              go_ret
              exact ⟨rfl, bl_trans hw6 (bl_trans hbr (bl1 _ _))⟩
          · have c4 : wr.cell? ⟨b8, o8 + k * 12 + 4, none⟩ = some (.bool true) := by rw [← hm]; exact r.c4
            obtain rfl := unhide H3 hm
            clear r r0 hI8 hm hkp
            go_wp2
            go_ret
            exact ⟨rfl, bl_trans hw6 (bl_trans hbr (bl1 _ _))⟩
        · have hne := unhide HNE k hlt hkp
          obtain ⟨X, hX⟩ : ∃ X, S.ves.getD k ve0 = X := ⟨_, rfl⟩
          rw [hX] at r hne
          obtain ⟨Y, hu, hI8⟩ := r.c8
          obtain ⟨ua8, uc8, rfl, _⟩ := hI8.form
          have c0 := r.c0
          have c1 := r.c1
          have c2 := r.c2
          have c3 := r.c3
          have c5 := r.c5
          have c6 := r.c6
          have c7 := r.c7
          have c9 := r.c9
          have c10 := r.c10
          have c11 := r.c11
          have c4 := r.c4
          have hq : (X.id != K) = true := by simpa using hne
          have HPN : Hid (p < k + 1 → A.mar = false ∧ A.tier = 2) := fun h => unhide HPK (by omega)
          clear r r0 hI8 hX hne hkp
          go_wp2
          go_roundw
          case rel => exact ⟨k + 1, by omega, by go_num, bl_trans hbr (bl1 _ _), unhide HPN⟩
          case measure => (simp [intOf] <;> omega)
      · obtain rfl : k = M + 1 := by omega
        obtain ⟨f1, f2⟩ := unhide HPK (by omega)
        have hw7 := bl_trans hw6 hbr
        rcases unhide H0 f1 f2 with rfl | rfl | ⟨rfl, f3, f4⟩
        · clear f1 f2 hlt
          go_wp2
          go_ret
          exact ⟨rfl, hw7⟩
        · clear f1 f2 hlt
          go_wp2
          go_ret
          exact ⟨rfl, hw7⟩
        · have hrT := (hbr.block _ (Array.getElem?_eq_some_iff.1 (unhide HRT6)).1).trans (unhide HRT6)
          have hre := (hbr.block _ (Array.getElem?_eq_some_iff.1 (unhide HRE6)).1).trans (unhide HRE6)
          have HT7 := hide ((unhide HT6).up hbr)
          have HX7 := hide ((unhide HX6).up hbr)
          have HF := hide f4
          have HF3 := hide f3
          clear f1 f2 f3 f4 hlt hbr
          go_upto_region 18 with fail
          refine wp_region_lit ?_
          refine wpList_load_mid rfl 29 (.tmp 9) rfl w5.heap.size 0 rfl (#[.int .i64 T.next, .int .i64 T.clock, (.slice ba' T.bus.length bc'), (.slice va' T.ves.length vc'), (.slice ua' T.ups.length uc'), (.slice qa' T.que.length qc'), (.slice ga' T.gone.length gc')] : Array Value).toList _ (fun j v hv => by rw [Nat.zero_add]; exact cell_of hrT j (by simpa using hv)) Tryz.underlying29 rfl (by kernel_rfl) ?_
          refine wpList_load_mid rfl 45 (.tmp 8) rfl w3.heap.size 0 rfl (rcA { rcN 7 with ask := ⟨K, 3, 1⟩ } nl nl nl).toList _ (fun j v hv => by rw [Nat.zero_add]; exact cell_of hre j (by simpa using hv)) Tryz.underlying45 rfl (by kernel_rfl) ?_
          have HRT := hide hrT
          clear hrT hre
          go_wp2_with fail
          refine (kAp T _ _ _ _ _ { rcN 7 with ask := ⟨K, 3, 1⟩ } nl nl nl _ (unhide HT7) { rcN_fit 7 with } (unhide HWR) (RcI.none _ _ rfl rfl rfl)).mono ?_
          rintro e w8 ⟨ba3, bc3, va3, vc3, ua3, uc3, qa3, qc3, ga3, gc3, rfl, _, hb8⟩
          rw [unhide HF]
          have hrq := (hb8.block _ (Array.getElem?_eq_some_iff.1 (unhide HRT)).1).trans (unhide HRT)
          have HX8 := hide ((unhide HX7).up hb8)
          have z5 := cell_of hrq 5 rfl
          have q5 := (unhide HX8).c5
          have hzl : w5.heap.size < w8.heap.size := (Array.getElem?_eq_some_iff.1 hrq).1
          have hzl2 := (unhide HX8).lt
          have hw8 := bl_trans hw7 hb8
          have ht5 : (T.que.length == S.que.length + 1) = true := by simpa using unhide HF3
          have hf3 := unhide HF3
          clear hrq hb8
          go_wp2
          go_ret
          exact ⟨by first | rfl | (simp; omega), bl_trans hw8 (bl1 _ _)⟩
end Go.Proofs.YtbfhkbmcleglaaaGreat
