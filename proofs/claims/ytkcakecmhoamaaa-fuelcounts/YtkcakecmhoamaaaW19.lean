/- icehousekeep.DevGood: the walk. -/
import Derived.Test.YtkcakecmhoamaaaDvc
import Derived.Test.YtkcakecmhoamaaaCrC
import Derived.Test.YtkcakecmhoamaaaArmC
namespace Go.Proofs.Ytkcakecmhoamaaa
open Go.RowKit
set_option maxRecDepth 100000
set_option linter.unusedVariables false
set_option linter.unusedSimpArgs false
attribute [local go_sem ↓] Go.wp_at_zero Go.wp_at_succ
theorem devices_at (lv : Value) (rs : List Rw) (most : Nat) (m : Int) (hmm : (most : Int) = m) (w : World) (hR : Raws w lv rs) (hm : most ≤ 100) :
    Calls Try.prog 50 #[.agg #[.int .i64 6, .int .i64 2, .int .i64 6, .int .i64 300, .int .i64 3], lv, .int .i64 m] w fun e w' =>
      ∃ s c v D, e = .returned (.tuple #[.agg #[s, c, v, .int .i64 D.fuel], .bool true]) ∧ Dev w' s c v D ∧ DvI D most ∧ Below w.heap.size w w' := by
  subst hmm
  exact devices_any lv rs most w hR hm
theorem DvI.craE {D : Dv} {m : Nat} (h : DvI D m) {t : Int} (ht : ¬ t < 0) : craE t (chkE 6 2 6 300 3 D) = 0 := by rw [h.chk]; exact craE_ok ht
theorem nilD_bad : chkE 6 2 6 300 3 nilD = 9 := DOk.nil_bad geoS
theorem nil_dev (w : World) : Dev w (.slice none 0 0) (.slice none 0 0) (.slice none 0 0) nilD :=
  ⟨⟨none, 0, rfl, Nat.le_refl _, Nat.zero_le _, fun i hi => absurd hi (Nat.not_lt_zero _)⟩, ⟨none, 0, rfl, Nat.le_refl _, Nat.zero_le _, fun i hi => absurd hi (Nat.not_lt_zero _)⟩, ⟨none, 0, rfl, Nat.le_refl _, Nat.zero_le _, fun i hi => absurd hi (Nat.not_lt_zero _)⟩⟩
set_option maxHeartbeats 1000000 in
theorem devGood_walk (lv : Value) (rs : List Rw) (w : World) (hR : Raws w lv rs) :
    Calls Try.prog 15 #[lv] w fun e w' => e = .returned (.bool true) ∧ Below w.heap.size w w' := by
  have HR := hide hR
  clear hR
  go_enter Try.func15, Try.ntmps15
  go_wp2_with fail
  refine (small_any _).mono ?_
  rintro e w1 ⟨rfl, hb1⟩
  go_upto_region 2 with fail
  go_cut [4, 5] (fun p e wd => ∃ dB s c v D, p = .pointer (some ⟨dB, 0, none⟩) ∧ e = .bool true ∧ Kd w wd w1.heap.size dB s c v D ∧ DvI D 40)
  case first =>
    go_wp2_with fail
    refine (devices_at lv rs 40 40 rfl _ ((unhide HR).up (bl_trans hb1 (bl1 _ _))) (by decide)).mono ?_
    rintro e wn ⟨s', c', v', D, rfl, hD, hI, hb⟩
    have hD0 := hD
    obtain ⟨⟨b1, dap1, rfl, _⟩, ⟨b2, dap2, rfl, _⟩, ⟨b3, dap3, rfl, _⟩⟩ := hD0
    go_wp2
    go_meet
    case rel => exact ⟨wn.heap.size, _, _, _, D, rfl, rfl, ⟨((Row.new w1 _ _).up hb).up (bl1 _ _), Row.new _ _ _, hD.up (bl1 _ _), bl_trans hb1 (bl_trans (bl1 _ _) (bl_trans hb (bl1 _ _))), Nat.le_trans hb1.size (Nat.le_trans (by simp) hb.size)⟩, hI⟩
  case rest =>
  clear hb1
  obtain ⟨dB, s1, c1, v1, D, rfl, rfl, hK, hI⟩ := hcut
  have HE := hide (hI.craE (t := 5) (by decide))
  have HI := hide hI
  have HC : Hid (DOk 6 2 6 300 3 (craD [true, false, true] 5 D 0)) := hI.ok.cra (by decide)
  obtain ⟨DC, hDC⟩ : ∃ DC, craD [true, false, true] 5 D 0 = DC := ⟨_, rfl⟩
  rw [hDC] at HC
  have HDC := hide hDC
  clear hDC hI
  go_upto_region 3 with fail
  go_cut [6, 7] (fun p e wd => ∃ cB s c v, p = .pointer (some ⟨cB, 0, none⟩) ∧ e = .int .i64 0 ∧ Kd w wd w1.heap.size dB s1 c1 v1 D ∧ Kd w wd w1.heap.size cB s c v DC)
  case first =>
    have g0 := hK.geo.cell 0 _ rfl
    have g1 := hK.geo.cell 1 _ rfl
    have g2 := hK.geo.cell 2 _ rfl
    have g3 := hK.geo.cell 3 _ rfl
    have g4 := hK.geo.cell 4 _ rfl
    have hd := hK.dev
    obtain ⟨⟨b1, dap1, rfl, _⟩, ⟨b2, dap2, rfl, _⟩, ⟨b3, dap3, rfl, _⟩⟩ := hd
    have q0 := hK.box.cell 0 _ rfl
    have q1 := hK.box.cell 1 _ rfl
    have q2 := hK.box.cell 2 _ rfl
    have q3 := hK.box.cell 3 _ rfl
    go_wp2_with fail
    refine (crash_any 6 2 6 300 3 _ _ _ D _ [true, false, true] 5 _ (hK.dev.up (bl1 _ _)) ?_).mono ?_
    · exact ⟨some ⟨wc.heap.size, 0, none⟩, 3, rfl, by decide, by decide, fun i hi => by
        refine ⟨_, _, rfl, ?_⟩
        have hr := Row.new wc 4 [.bool true, .bool false, .bool true]
        match i, hi with
        | 0, _ => exact hr.cell 0 _ rfl
        | 1, _ => exact hr.cell 1 _ rfl
        | 2, _ => exact hr.cell 2 _ rfl⟩
    rintro e wn ⟨s', c', v', rfl, hO, hb0⟩
    have hb := bl_trans (bl1 wc _) hb0
    rw [unhide HE, unhide HDC] at hO ⊢
    obtain ⟨sa, cs, ca, cc, va, cv, rfl, rfl, rfl, _⟩ := hO.form
    go_wp2
    go_meet
    case rel => exact ⟨wn.heap.size, _, _, _, rfl, rfl, (hK.up hb).up (bl1 _ _), ⟨(hK.geo.up hb).up (bl1 _ _), Row.new _ _ _, hO.dev.up (bl1 _ _), bl_trans hK.bel (bl_trans hb (bl1 _ _)), Nat.le_trans hK.bel.size hb.size⟩⟩
  case rest =>
  clear hK
  obtain ⟨cB, s2, c2, v2, rfl, rfl, hK, hK2⟩ := hcut
  have g0 := hK.geo.cell 0 _ rfl
  have g1 := hK.geo.cell 1 _ rfl
  have g2 := hK.geo.cell 2 _ rfl
  have g3 := hK.geo.cell 3 _ rfl
  have g4 := hK.geo.cell 4 _ rfl
  have hd := hK.dev
  obtain ⟨⟨b1, dap1, rfl, _⟩, ⟨b2, dap2, rfl, _⟩, ⟨b3, dap3, rfl, _⟩⟩ := hd
  have q0 := hK.box.cell 0 _ rfl
  have q1 := hK.box.cell 1 _ rfl
  have q2 := hK.box.cell 2 _ rfl
  have q3 := hK.box.cell 3 _ rfl
  have hd2 := hK2.dev
  obtain ⟨⟨x1, eap1, rfl, _⟩, ⟨x2, eap2, rfl, _⟩, ⟨x3, eap3, rfl, _⟩⟩ := hd2
  have y0 := hK2.box.cell 0 _ rfl
  have y1 := hK2.box.cell 1 _ rfl
  have y2 := hK2.box.cell 2 _ rfl
  have y3 := hK2.box.cell 3 _ rfl
  have HK := hide hK
  have HK2 := hide hK2
  clear hK hK2
  go_wp2_with fail
  refine (check_any 6 2 6 300 3 _ _ _ D _ (unhide HK).dev).mono ?_
  rintro e w2 ⟨rfl, h2⟩
  rw [(unhide HI).chk]
  replace g0 := cell_up h2 g0
  replace g1 := cell_up h2 g1
  replace g2 := cell_up h2 g2
  replace g3 := cell_up h2 g3
  replace g4 := cell_up h2 g4
  replace y0 := cell_up h2 y0
  replace y1 := cell_up h2 y1
  replace y2 := cell_up h2 y2
  replace y3 := cell_up h2 y3
  clear q0 q1 q2 q3
  go_wp2_with fail
  refine (check_any 6 2 6 300 3 _ _ _ DC _ ((unhide HK2).dev.up h2)).mono ?_
  rintro e w3 ⟨rfl, h3⟩
  rw [chk_ok geoS (unhide HC)]
  replace g0 := cell_up h3 g0
  replace g1 := cell_up h3 g1
  replace g2 := cell_up h3 g2
  replace g3 := cell_up h3 g3
  replace g4 := cell_up h3 g4
  clear y0 y1 y2 y3
  go_wp2_with fail
  refine (check_any 6 2 6 300 3 _ _ _ nilD _ (nil_dev _)).mono ?_
  rintro e w4 ⟨rfl, h4⟩
  rw [nilD_bad]
  clear g0 g1 g2 g3 g4
  go_wp2_with fail
  refine (checkGeometry_any 0 0 0 0 0 _).mono ?_
  rintro e w5 ⟨rfl, h5⟩
  rw [show geoE 0 0 0 0 0 = 2 by decide]
  go_wp2
  go_ret
  exact ⟨ret_bool (by simp), bl_trans (unhide HK).bel (bl_trans h2 (bl_trans h3 (bl_trans h4 h5)))⟩
end Go.Proofs.Ytkcakecmhoamaaa
