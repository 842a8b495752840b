/- icehousekeep.StateGood: the walk. -/
import Derived.Test.YtbfhkbmcleglaaaGreatKkpq
namespace Go.Proofs.YtbfhkbmcleglaaaGreat
open Go.RowKit Go.Maps
set_option maxRecDepth 100000
set_option linter.unusedVariables false
set_option linter.unusedSimpArgs false
set_option maxHeartbeats 4000000 in
theorem stateGood_walk (lv : Value) (l : List Rw) (w : World) (hl : Raws w lv l) :
    Calls Tryz.prog 3 #[lv] w fun e w' => e = .returned (.bool true) ∧ Below w.heap.size w w' := by
  obtain ⟨la, lc, rfl, hl1, hl2⟩ := hl.form
  unfold maxLen at hl2
  have HL := hide hl
  clear hl
  obtain ⟨S, hSS⟩ : ∃ S, staL l 40 = S := ⟨_, rfl⟩
  obtain ⟨n, hnn⟩ : ∃ n, cntN l (rnd l 40) = n := ⟨_, rfl⟩
  have hn2 : 2 ≤ n := by rw [← hnn]; exact cntN_two l _ (by unfold rnd; omega)
  have hok : stC S = true := by rw [← hSS]; exact staL_ok l 40
  obtain ⟨e15, s15⟩ := app_x S hok 15 (.inr (by decide))
  have HE := hide e15
  have HT := hide s15
  have hc0 := stE_t hok
  have HC := hide hc0
  clear e15 s15 hc0
  have HE9 : Hid (stE st00 = 9) := by show _ = _; kernel_rfl
  go_enter Tryz.func3, Tryz.ntmps3
  go_wp2_with fail
  refine (kSt _ l 40 _ _ (unhide HL) rfl (by decide)).mono ?_
  rintro e w1 ⟨ba, bc, va, vc, ua, uc, qa, qc, ga, gc, oa, oc, rfl, hS, hb1⟩
  rw [hSS] at hS ⊢
  rw [hnn]
  have HSS := hide hSS
  have HNN := hide hnn
  clear hSS hnn
  go_upto_region 2 with fail
  generalize hWW : w1.alloc _ = W2
  have h2 : BoxS W2 w1.heap.size S (.slice ba S.bus.length bc) (.slice va S.ves.length vc) (.slice ua S.ups.length uc) (.slice qa S.que.length qc) (.slice ga S.gone.length gc) ∧ Below w1.heap.size w1 W2 := by
    rw [← hWW]
    exact ⟨BoxS.new _ _ _ _ _ _ _ _, bl1 _ _⟩
  clear hWW
  obtain ⟨hX, hb2⟩ := h2
  have hw2 := bl_trans hb1 hb2
  have HS := hide (hS.up hb2)
  have HX := hide hX
  clear hS hb1 hb2 hX
  have x0 := (unhide HX).c0
  have x1 := (unhide HX).c1
  have x2 := (unhide HX).c2
  have x3 := (unhide HX).c3
  have x4 := (unhide HX).c4
  have x5 := (unhide HX).c5
  have x6 := (unhide HX).c6
  go_wp2_with fail
  refine (kAp S _ _ _ _ _ (rcN 15) nl nl nl _ (unhide HS) (rcN_fit 15) (rcN_wf 15) (RcI.none _ _ rfl rfl rfl)).mono ?_
  rintro e w3 ⟨ba', bc', va', vc', ua', uc', qa', qc', ga', gc', rfl, hS3, hb3⟩
  rw [unhide HE]
  have HX3 := hide ((unhide HX).up hb3)
  have HS3 := hide ((unhide HS).up hb3)
  have hw3 := bl_trans hw2 hb3
  have hl3 := (unhide HX3).lt
  clear x0 x1 x2 x3 x4 x5 x6 hS3 hb3
  have x0 := (unhide HX3).c0
  have x1 := (unhide HX3).c1
  have x2 := (unhide HX3).c2
  have x3 := (unhide HX3).c3
  have x4 := (unhide HX3).c4
  have x5 := (unhide HX3).c5
  have x6 := (unhide HX3).c6
  go_upto_region 3 with fail
  go_wp2_with fail
  refine (check_any S _ _ _ _ _ _ (Sta.up (bl1 _ _) (unhide HS3))).mono ?_
  rintro e w5 ⟨rfl, hb5⟩
  rw [unhide HC]
  go_wp2_with fail
  refine (check_any st00 nl nl nl nl nl _ (sta00 _)).mono ?_
  rintro e w6 ⟨rfl, hb6⟩
  rw [unhide HE9]
  have hw6 := bl_trans (bl_trans (bl_trans hw3 (bl1 _ _)) hb5) hb6
  clear x0 x1 x2 x3 x4 x5 x6
  go_wp2
  go_ret
  exact ⟨rfl, hw6⟩
end Go.Proofs.YtbfhkbmcleglaaaGreat
