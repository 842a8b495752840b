/- icehousekeep.NextRises: the walk. -/
import Derived.Test.YtbfhkbmcleglaaaGreatKkpq
namespace Go.Proofs.YtbfhkbmcleglaaaGreat
open Go.RowKit Go.Maps
set_option maxRecDepth 100000
set_option linter.unusedVariables false
set_option linter.unusedSimpArgs false
theorem drpS_next (S : St) (k : Nat) : (drpS S k).next = S.next ∧ (drpS S k).clock = S.clock := ⟨rfl, rfl⟩
theorem advD_next (S : St) (Y : Ve) : (advD S Y).next = S.next + 1 ∧ (advD S Y).clock = S.clock := by
  unfold advD
  split <;> exact ⟨rfl, rfl⟩
/-- What a record does to the next number and the clock. -/
theorem chg_next {S : St} {r : Rc} (h0 : chgE S r = 0) : (chgS S r).next = S.next + (if r.kind = 4 ∨ r.kind = 10 then 1 else 0) ∧ S.clock ≤ (chgS S r).clock := by
  by_cases k1 : r.kind = 1
  · rw [(chg_1 k1).2, if_neg (by omega)]; exact ⟨(Int.add_zero _).symm, Int.le_refl _⟩
  by_cases k2 : r.kind = 2
  · rw [(chg_2 k2).2, if_neg (by omega)]; exact ⟨(Int.add_zero _).symm, Int.le_refl _⟩
  by_cases k3 : r.kind = 3
  · rw [(chg_3 k3).2, if_neg (by omega)]; exact ⟨(Int.add_zero _).symm, Int.le_refl _⟩
  by_cases k4 : r.kind = 4
  · rw [(chg_4 k4).2, if_pos (by omega)]
    obtain ⟨e1, e2⟩ := advD_next S r.ver
    exact ⟨e1, by show S.clock ≤ (advD S r.ver).clock; omega⟩
  by_cases k5 : r.kind = 5
  · rw [(chg_5 k5).2, if_neg (by omega)]; exact ⟨(Int.add_zero _).symm, Int.le_refl _⟩
  by_cases k6 : r.kind = 6
  · rw [(chg_6 k6).2, if_neg (by omega)]; exact ⟨(Int.add_zero _).symm, Int.le_refl _⟩
  by_cases k7 : r.kind = 7
  · rw [(chg_7 k7).2, if_neg (by omega)]; exact ⟨(Int.add_zero _).symm, Int.le_refl _⟩
  by_cases k8 : r.kind = 8
  · rw [(chg_8 k8).2, if_neg (by omega)]; exact ⟨(Int.add_zero _).symm, Int.le_refl _⟩
  by_cases k9 : r.kind = 9
  · rw [(chg_9 k9).2, if_neg (by omega)]; exact ⟨(Int.add_zero _).symm, Int.le_refl _⟩
  by_cases k10 : r.kind = 10
  · rw [(chg_10 k10).2, if_pos (by omega)]; exact ⟨rfl, Int.le_refl _⟩
  by_cases k11 : r.kind = 11
  · rw [(chg_11 k11).2, if_neg (by omega)]; exact ⟨(Int.add_zero _).symm, Int.le_refl _⟩
  by_cases k12 : r.kind = 12
  · rw [(chg_12 k12).2, if_neg (by omega)]; exact ⟨(Int.add_zero _).symm, Int.le_refl _⟩
  by_cases k13 : r.kind = 13
  · rw [(chg_13 k13).1] at h0
    rw [(chg_13 k13).2, if_neg (by omega)]
    have hn : 0 ≤ r.n := by
      unfold pasE at h0
      split at h0
      · rename_i h; exact h.1
      · cases h0
    exact ⟨(Int.add_zero _).symm, by show S.clock ≤ S.clock + r.n; omega⟩
  by_cases k14 : r.kind = 14
  · rw [(chg_14 k14).2, if_neg (by omega)]; exact ⟨(Int.add_zero _).symm, Int.le_refl _⟩
  rw [chg_x k1 k2 k3 k4 k5 k6 k7 k8 k9 k10 k11 k12 k13 k14] at h0
  cases h0
set_option maxHeartbeats 4000000 in
theorem nextRises_walk (lv : Value) (l : List Rw) (x : Rw) (w : World) (hl : Raws w lv l) (hx : WfW x) :
    Calls Tryz.prog 4 #[lv, rwV x] w fun e w' => e = .returned (.bool true) ∧ Below w.heap.size w w' := by
  obtain ⟨la, lc, rfl, hl1, hl2⟩ := hl.form
  unfold maxLen at hl2
  have HL := hide hl
  clear hl
  obtain ⟨S, hSS⟩ : ∃ S, staL l 30 = S := ⟨_, rfl⟩
  obtain ⟨n, hnn⟩ : ∃ n, cntN l (rnd l 30) = n := ⟨_, rfl⟩
  have hn2 : 2 ≤ n := by rw [← hnn]; exact cntN_two l _ (by unfold rnd; omega)
  have hok : stC S = true := by rw [← hSS]; exact staL_ok l 30
  have hc0 := stE_t hok
  have HC := hide hc0
  clear hc0
  go_enter Tryz.func4, Tryz.ntmps4
  have hbx := bl1 w (.cells (xsA x) 49)
  have hrx := heap_alloc_new w (.cells (xsA x) 49)
  have HLx := hide (Raws.up (unhide HL) hbx)
  go_wp2_with fail
  refine (kSt _ l 30 _ _ (unhide HLx) rfl (by decide)).mono ?_
  rintro e w1 ⟨ba, bc, va, vc, ua, uc, qa, qc, ga, gc, oa, oc, rfl, hS, hb1⟩
  rw [hSS] at hS ⊢
  rw [hnn]
  have HSS := hide hSS
  have HNN := hide hnn
  clear hSS hnn
  go_upto_region 2 with fail
  generalize hWW : w1.alloc _ = W2
  have h2 : W2.heap[w1.heap.size]? = some (.cells #[.int .i64 S.next, .int .i64 S.clock, (.slice ba S.bus.length bc), (.slice va S.ves.length vc), (.slice ua S.ups.length uc), (.slice qa S.que.length qc), (.slice ga S.gone.length gc)] 29 (0, 0)) ∧ Below w1.heap.size w1 W2 := by
    rw [← hWW]
    exact ⟨heap_alloc_new _ _, bl1 _ _⟩
  clear hWW
  obtain ⟨hr2, hb2⟩ := h2
  have hrx2 := (hb2.block _ (by have := hb1.size; simp at this; omega)).trans ((hb1.block _ (by simp)).trans hrx)
  have hw2 := bl_trans (bl_trans hbx hb1) hb2
  have HS := hide (hS.up hb2)
  have d0 := cell_of hr2 0 rfl
  have d1 := cell_of hr2 1 rfl
  have d2 := cell_of hr2 2 rfl
  have d3 := cell_of hr2 3 rfl
  have d4 := cell_of hr2 4 rfl
  have d5 := cell_of hr2 5 rfl
  have d6 := cell_of hr2 6 rfl
  have a0 := cell_of hrx2 0 rfl
  have a1 := cell_of hrx2 1 rfl
  have a2 := cell_of hrx2 2 rfl
  have a3 := cell_of hrx2 3 rfl
  have a4 := cell_of hrx2 4 rfl
  have a5 := cell_of hrx2 5 rfl
  have HR2 := hide hr2
  have hl2 : w1.heap.size < W2.heap.size := (Array.getElem?_eq_some_iff.1 hr2).1
  have hl2b : w.heap.size < W2.heap.size := (Array.getElem?_eq_some_iff.1 hrx2).1
  clear hS hb1 hb2 hr2 hrx2 hrx hbx
  go_wp2_with fail
  refine (record_any S _ _ _ _ _ x _ (unhide HS) hok hx).mono ?_
  rintro e w3 ⟨vv, pv, sv, rfl, hRI, hb3⟩
  simp only []
  rename_i hK0
  refine hK0 _ _ ?_
  clear hK0
  have hWR := recR_wf hok x
  have hFR := recR_fit S x
  obtain ⟨ra, rc, rfl, _, _⟩ := hRI.ver.form
  obtain ⟨pa, pc, rfl, _, _⟩ := hRI.part.form
  obtain ⟨sa, sc, rfl, _, _⟩ := hRI.sec.form
  obtain ⟨RX, hRX⟩ : ∃ R, recR S x = R := ⟨_, rfl⟩
  rw [hRX] at hWR hFR hRI ⊢
  clear hRX d0 d1 d2 d3 d4 d5 d6 a0 a1 a2 a3 a4 a5
  refine wpList_plain rfl (fun K hK => ?_)
  go_simp
  refine hK _ _ ?_
  clear hK
  refine wpList_store_mid rfl 45 (.tmp 7) (.tmp 18) rfl w3.heap.size 0 (rcA RX (.slice ra RX.ver.sec.length rc) (.slice pa RX.part.sec.length pc) (.slice sa RX.sec.length sc)) rfl rfl (there_of (c := rcA (rcN 0) nl nl nl) (t := 45) (heap_alloc_new _ _)) (by kernel_rfl) (rc_one _ _ _ _ _ _ _ _ _ _) ?_
  generalize hWW : World.setCells _ w3.heap.size 0 _ = W4
  have hre2 : W4.heap[w3.heap.size]? = some (.cells (rcA RX (.slice ra RX.ver.sec.length rc) (.slice pa RX.part.sec.length pc) (.slice sa RX.sec.length sc)) 45 (0, 0)) ∧ Below w3.heap.size w3 W4 := by
    rw [← hWW]
    exact rec_fill w3 (rcA (rcN 0) nl nl nl) _ rfl
  clear hWW
  obtain ⟨hre, hbe⟩ := hre2
  have hb4 := bl_trans hb3 hbe
  have hr4 := (hb4.block _ hl2).trans (unhide HR2)
  have HS4 := hide ((unhide HS).up hb4)
  have HRI4 := hide (hRI.up hbe)
  have hw4 := bl_trans hw2 hb4
  have hlr : w3.heap.size < W4.heap.size := (Array.getElem?_eq_some_iff.1 hre).1
  clear hRI hbe hb3
  go_upto_region 3 with fail
  refine wp_region_lit ?_
  refine wpList_load_mid rfl 29 (.tmp 5) rfl w1.heap.size 0 rfl (#[.int .i64 S.next, .int .i64 S.clock, (.slice ba S.bus.length bc), (.slice va S.ves.length vc), (.slice ua S.ups.length uc), (.slice qa S.que.length qc), (.slice ga S.gone.length gc)] : Array Value).toList _ (fun j v hv => by rw [Nat.zero_add]; exact cell_of hr4 j (by simpa using hv)) Tryz.underlying29 rfl (by kernel_rfl) ?_
  refine wpList_load_mid rfl 45 (.tmp 7) rfl w3.heap.size 0 rfl (rcA RX (.slice ra RX.ver.sec.length rc) (.slice pa RX.part.sec.length pc) (.slice sa RX.sec.length sc)).toList _ (fun j v hv => by rw [Nat.zero_add]; exact cell_of hre j (by simpa using hv)) Tryz.underlying45 rfl (by kernel_rfl) ?_
  have HRE := hide hre
  have HR4 := hide hr4
  clear hre hr4 hb4
  go_wp2_with fail
  refine (kAp S _ _ _ _ _ RX _ _ _ _ (unhide HS4) hFR hWR (unhide HRI4)).mono ?_
  rintro e w5 ⟨ba', bc', va', vc', ua', uc', qa', qc', ga', gc', rfl, _, hb5⟩
  have HNX : Hid (appE S RX = 0 → (appS S RX).next = S.next + (if RX.kind = 4 ∨ RX.kind = 10 then 1 else 0) ∧ S.clock ≤ (appS S RX).clock) := fun h => by
    obtain ⟨_, h1, _, h2⟩ := app_ok h
    rw [h2]; exact chg_next h1
  have HN0 : Hid (¬ appE S RX = 0 → (appS S RX).next = 0) := fun h => by
    unfold appS; rw [if_neg h]; rfl
  have HTOK : Hid (appE S RX = 0 → stC (appS S RX) = true) := fun h => by
    obtain ⟨_, _, h1, h2⟩ := app_ok h
    rw [h2]; exact h1
  obtain ⟨T, hT⟩ : ∃ T, appS S RX = T := ⟨_, rfl⟩
  obtain ⟨E, hE⟩ : ∃ E, appE S RX = E := ⟨_, rfl⟩
  rw [hT] at HNX HN0 HTOK ⊢
  rw [hE] at HNX HN0 HTOK ⊢
  clear hT hE
  have hr5 := (hb5.block _ (by have := (unhide HR4); exact (Array.getElem?_eq_some_iff.1 this).1)).trans (unhide HR4)
  have hre5 := (hb5.block _ hlr).trans (unhide HRE)
  have HS5 := hide ((unhide HS4).up hb5)
  have hw5 := bl_trans hw4 hb5
  go_upto_region 4 with fail
  generalize hWW : w5.alloc _ = W6
  have h6 : BoxS W6 w5.heap.size T (.slice ba' T.bus.length bc') (.slice va' T.ves.length vc') (.slice ua' T.ups.length uc') (.slice qa' T.que.length qc') (.slice ga' T.gone.length gc') ∧ Below w5.heap.size w5 W6 := by
    rw [← hWW]
    exact ⟨BoxS.new _ _ _ _ _ _ _ _, bl1 _ _⟩
  clear hWW
  obtain ⟨hX6, hb6⟩ := h6
  have hr6 := (hb6.block _ (Array.getElem?_eq_some_iff.1 hr5).1).trans hr5
  have hre6 := (hb6.block _ (Array.getElem?_eq_some_iff.1 hre5).1).trans hre5
  have HS6 := hide ((unhide HS5).up hb6)
  have hw6 := bl_trans hw5 hb6
  have HR6 := hide hr6
  have HRE6 := hide hre6
  have HX6 := hide hX6
  clear hr5 hre5 hb5 hb6 HR4 HRE hX6
  have d0 := cell_of hr6 0 rfl
  have d1 := cell_of hr6 1 rfl
  have d2 := cell_of hr6 2 rfl
  have d3 := cell_of hr6 3 rfl
  have d4 := cell_of hr6 4 rfl
  have d5 := cell_of hr6 5 rfl
  have d6 := cell_of hr6 6 rfl
  clear hr6 hre6
  go_wp2_with fail
  refine (check_any S _ _ _ _ _ _ (unhide HS6)).mono ?_
  rintro e w7 ⟨rfl, hb7⟩
  rw [unhide HC]
  have hr7 := (hb7.block _ (Array.getElem?_eq_some_iff.1 (unhide HR6)).1).trans (unhide HR6)
  have hre7 := (hb7.block _ (Array.getElem?_eq_some_iff.1 (unhide HRE6)).1).trans (unhide HRE6)
  have HX7 := hide ((unhide HX6).up hb7)
  have hw7 := bl_trans hw6 hb7
  have s0 := cell_of hr7 0 rfl
  have s1 := cell_of hr7 1 rfl
  have k0 := cell_of hre7 0 rfl
  have x0 := (unhide HX7).c0
  have x1 := (unhide HX7).c1
  have hm0 := (few_of hok).n0
  have hm1 := (few_of hok).n1
  clear hr7 hre7 d0 d1 d2 d3 d4 d5 d6 hb7
  by_cases hE0 : E = 0
  · have te : (E != 0) = false := by simpa using hE0
    obtain ⟨n1, n2⟩ := unhide HNX hE0
    subst hE0
    by_cases k4 : RX.kind = 4
    · have q4 : (RX.kind == 4) = true := by simpa using k4
      have n3 : (T.next == S.next + 1) = true := by rw [n1, if_pos (.inl k4)]; simp
      clear n1 k4
      go_wp2
      go_ret
      exact ⟨rfl, hw7⟩
    · have q4 : (RX.kind == 4) = false := by simpa using k4
      by_cases k10 : RX.kind = 10
      · have q10 : (RX.kind == 10) = true := by simpa using k10
        have n3 : (T.next == S.next + 1) = true := by rw [n1, if_pos (.inr k10)]; simp
        clear n1 k4 k10
        go_wp2
        go_ret
        exact ⟨rfl, hw7⟩
      · have q10 : (RX.kind == 10) = false := by simpa using k10
        have n3 : (T.next == S.next) = true := by rw [n1, if_neg (fun h => by rcases h with h | h <;> contradiction)]; simp
        clear n1 k4 k10
        go_wp2
        go_ret
        exact ⟨rfl, hw7⟩
  · have te : (E != 0) = true := by simpa using hE0
    have n1 := unhide HN0 hE0
    have n3 : (T.next == 0) = true := by simpa using n1
    clear n1 hE0
    go_wp2
    go_ret
    exact ⟨rfl, hw7⟩
end Go.Proofs.YtbfhkbmcleglaaaGreat
