/- icehousekeep.PutGet: the walk. -/
import Derived.Test.YtkcakecmhoamaaaDva
import Derived.Test.YtkcakecmhoamaaaGtd
import Derived.Test.YtkcakecmhoamaaaStr
import Derived.Deep.RegionHeldLaw
namespace Go.Proofs.Ytkcakecmhoamaaa
open Go.RowKit
set_option maxRecDepth 100000
set_option linter.unusedVariables false
set_option linter.unusedSimpArgs false
attribute [local go_sem ↓] Go.wp_at_zero Go.wp_at_succ
set_option maxHeartbeats 2000000 in
theorem putGet_walk (lv : Value) (rs : List Rw) (at_ other : Int) (s : ByteArray) (w : World) (hR : Raws w lv rs) (w1_ : (Lit.int .i64 at_).wf = true) (w2_ : (Lit.int .i64 other).wf = true) (hs : s.size ≤ maxLen) :
    Calls Try.prog 16 #[lv, .int .i64 at_, .int .i64 other, .string s] w fun e w' => e = .returned (.bool true) ∧ Below w.heap.size w w' := by
  have HR := hide hR
  clear hR
  obtain ⟨n0, n1⟩ := wf_lo w1_
  obtain ⟨m0, m1⟩ := wf_lo w2_
  clear w1_ w2_
  obtain ⟨N, M, T, hN, hN0, hM, hM1, hM2, hT, hTs⟩ := cut_sixty s hs
  have hcv := conv_run T M hTs
  have HTS := hide hTs
  have k0 : (0 : Int) ≤ (M : Int) := Int.natCast_nonneg _
  have k1 : (M : Int) ≤ (N : Int) := by omega
  obtain ⟨xs, hxs⟩ : ∃ xs, bytesI T = xs := ⟨_, rfl⟩
  have hxl : xs.length = M := by rw [← hxs, bytesI_length, hTs]
  have HXL := hide hxl
  have HXS := hide hxs
  clear hTs hxs hxl
  obtain ⟨A, hPA⟩ : ∃ K : Nat, pickI at_ 18 = (K : Int) := ⟨(pickI at_ 18).toNat, by have := pickI_lo at_ (m := 18) (by omega); omega⟩
  have hA18 : A < 18 := by have := pickI_hi at_ (m := 18) (by omega); omega
  have HPA := hide hPA
  clear hPA
  obtain ⟨B, hPB⟩ : ∃ K : Nat, pickI other 18 = (K : Int) := ⟨(pickI other 18).toNat, by have := pickI_lo other (m := 18) (by omega); omega⟩
  have hB18 : B < 18 := by have := pickI_hi other (m := 18) (by omega); omega
  have HPB := hide hPB
  clear hPB
  go_enter Try.func16, Try.ntmps16
  go_wp2_with fail
  refine (small_any _).mono ?_
  rintro e w1 ⟨rfl, hb1⟩
  go_upto_region 2 with fail
  go_cut [10, 11] (fun p e wd => ∃ dB s c v D, p = .pointer (some ⟨dB, 0, none⟩) ∧ e = .bool true ∧ Kd w wd w1.heap.size dB s c v D ∧ DvI D 25)
  case first =>
    go_wp2_with fail
    refine (devices_at lv rs 25 25 rfl _ ((unhide HR).up (bl_trans hb1 (bl1 _ _))) (by decide)).mono ?_
    rintro e wn ⟨s', c', v', D, rfl, hD, hI, hb⟩
    have hD0 := hD
    obtain ⟨⟨b1, dap1, rfl, _⟩, ⟨b2, dap2, rfl, _⟩, ⟨b3, dap3, rfl, _⟩⟩ := hD0
    go_wp2
    go_meet
    case rel => exact ⟨wn.heap.size, _, _, _, D, rfl, rfl, ⟨((Row.new w1 _ _).up hb).up (bl1 _ _), Row.new _ _ _, hD.up (bl1 _ _), bl_trans hb1 (bl_trans (bl1 _ _) (bl_trans hb (bl1 _ _))), Nat.le_trans hb1.size (Nat.le_trans (by simp) hb.size)⟩, hI⟩
  case rest =>
  clear hb1
  obtain ⟨dB, s1, c1, v1, D, rfl, rfl, hK, hI⟩ := hcut
  have h18 := hI.ns
  have HI := hide hI
  obtain ⟨b1, dap1, hs1⟩ : ∃ b1 dap1, s1 = .slice b1 18 dap1 := by
    obtain ⟨⟨b1, d1, h1, _⟩, _⟩ := hK.dev
    exact ⟨b1, d1, by rw [h1, h18]⟩
  subst hs1
  clear hI h18
  have q0 := hK.box.cell 0 _ rfl
  go_wp2_with fail
  refine (picked_any at_ 18 _ (by omega) (by omega) n0 n1).mono ?_
  rintro e w' ⟨rfl, rfl⟩
  rw [unhide HPA]
  go_wp2_with fail
  refine (picked_any other 18 _ (by omega) (by omega) m0 m1).mono ?_
  rintro e w' ⟨rfl, rfl⟩
  rw [unhide HPB]
  go_upto_region 7 with fail
  go_cut [14] (fun bv wd => Txs wd bv T ∧ Kd w wd w1.heap.size dB (.slice b1 18 dap1) c1 v1 D)
  case first =>
    go_wp2
    go_meet
    case rel =>
      refine ⟨?_, hK.up ?_⟩
      · exact Txs.up (Txs.newAt _ T _ _ (by rw [unhide HTS]; exact (conv_cap _ M (by unfold maxLen; omega)).1) (conv_cap _ M (by unfold maxLen; omega)).2 (by first | rfl | simp) (unhide HTS)) ((Below.refl _ _).drew)
      · (repeat (first | exact Below.refl _ _ | apply Below.drew | apply bl_alloc))
  case rest =>
  clear hK q0 hcv hN hN0 hM hM2 hT k0 k1
  obtain ⟨hA, hK⟩ := hcut
  obtain ⟨L, hL⟩ : ∃ L, getL D (B : Int) = L := ⟨_, rfl⟩
  obtain ⟨DP, hDP⟩ : ∃ DP, putD D (A : Int) xs 0 = DP := ⟨_, rfl⟩
  obtain ⟨GA, hGA⟩ : ∃ GA, pad 64 xs = GA := ⟨_, rfl⟩
  have HGL : Hid (GA.length = 64) := by rw [← hGA]; exact pad_length _ _
  have HGF : Hid (GA.take M = xs) := by rw [← hGA]; exact pad_first (unhide HXL) hM1
  have HGET : Hid (atE D (B : Int) (chkE 6 2 6 300 3 D) = 0) := by show _ = _; rw [(unhide HI).chk]; exact atE_t ((unhide HI).at (by omega) (by omega))
  have HPE : Hid (putE D (A : Int) xs.length (chkE 6 2 6 300 3 D) = 0) := (unhide HI).putE (by decide) (by omega) (by omega) (by rw [unhide HXL]; exact hM1)
  have HIP : Hid (DvI DP 26) := by rw [← hDP]; exact (unhide HI).put (by decide) (by omega) (by omega)
  have HG1 : Hid (atE DP (A : Int) (chkE 6 2 6 300 3 DP) = 0) := by show _ = _; rw [(unhide HIP).chk]; exact atE_t ((unhide HIP).at (by omega) (by omega))
  have HG2 : Hid (atE DP (B : Int) (chkE 6 2 6 300 3 DP) = 0) := by show _ = _; rw [(unhide HIP).chk]; exact atE_t ((unhide HIP).at (by omega) (by omega))
  have HL1 : Hid (getL DP (A : Int) = GA) := by show _ = _; rw [← hDP, getL_put_same]; exact hGA
  have HL2 : Hid (B ≠ A → getL DP (B : Int) = L) := fun h => by rw [← hDP, getL_put_other _ _ _ _ (by omega)]; exact hL
  have HL := hide hL
  have HDP := hide hDP
  clear hL hDP hGA hM1
  go_upto_region 8 with fail
  go_cut [15, 16] (fun u e wd => e = .int .i64 0 ∧ Bts wd u L ∧ Txs wd u14 T ∧ Kd w wd w1.heap.size dB (.slice b1 18 dap1) c1 v1 D)
  case first =>
    have g0 := hK.geo.cell 0 _ rfl
    have g1 := hK.geo.cell 1 _ rfl
    have g2 := hK.geo.cell 2 _ rfl
    have g3 := hK.geo.cell 3 _ rfl
    have g4 := hK.geo.cell 4 _ rfl
    have hd := hK.dev
    obtain ⟨_, ⟨b2, dap2, rfl, _⟩, ⟨b3, dap3, rfl, _⟩⟩ := hd
    have q0 := hK.box.cell 0 _ rfl
    have q1 := hK.box.cell 1 _ rfl
    have q2 := hK.box.cell 2 _ rfl
    have q3 := hK.box.cell 3 _ rfl
    go_wp2_with fail
    refine (get_any 6 2 6 300 3 _ _ _ D B _ hK.dev).mono ?_
    rintro e wn ⟨u, rfl, hO, hb⟩
    rw [unhide HGET] at hO ⊢
    rw [okL0, unhide HL] at hO
    go_wp2
    go_meet
    case rel => exact ⟨rfl, hO, hA.up hb, hK.up hb⟩
  case rest =>
  clear hK hA
  obtain ⟨rfl, hW, hA, hK⟩ := hcut
  go_upto_region 9 with fail
  go_cut [17, 18] (fun p e wd => ∃ cB s c v, p = .pointer (some ⟨cB, 0, none⟩) ∧ e = .int .i64 0 ∧ Bts wd u15 L ∧ Txs wd u14 T ∧ Kd w wd w1.heap.size cB s c v DP)
  case first =>
    have g0 := hK.geo.cell 0 _ rfl
    have g1 := hK.geo.cell 1 _ rfl
    have g2 := hK.geo.cell 2 _ rfl
    have g3 := hK.geo.cell 3 _ rfl
    have g4 := hK.geo.cell 4 _ rfl
    have hd := hK.dev
    obtain ⟨_, ⟨b2, dap2, rfl, _⟩, ⟨b3, dap3, rfl, _⟩⟩ := hd
    have q0 := hK.box.cell 0 _ rfl
    have q1 := hK.box.cell 1 _ rfl
    have q2 := hK.box.cell 2 _ rfl
    have q3 := hK.box.cell 3 _ rfl
    go_wp2_with fail
    refine (put_any 6 2 6 300 3 _ _ _ D A _ xs _ hK.dev (by rw [← unhide HXS]; exact hA.bts)).mono ?_
    rintro e wn ⟨s', c', v', rfl, hO, hb⟩
    rw [unhide HPE, unhide HDP] at hO ⊢
    obtain ⟨sa, cs, ca, cc, va, cv, rfl, rfl, rfl, _⟩ := hO.form
    go_wp2
    go_meet
    case rel => exact ⟨wn.heap.size, _, _, _, rfl, rfl, (hW.up hb).up (bl1 _ _), (hA.up hb).up (bl1 _ _), ⟨(hK.geo.up hb).up (bl1 _ _), Row.new _ _ _, hO.dev.up (bl1 _ _), bl_trans hK.bel (bl_trans hb (bl1 _ _)), Nat.le_trans hK.bel.size hb.size⟩⟩
  case rest =>
  clear hK hA hW
  obtain ⟨cB, s2, c2, v2, rfl, rfl, hW, hA, hK⟩ := hcut
  go_upto_region 10 with fail
  go_cut [19, 20] (fun u e wd => e = .int .i64 0 ∧ Bts wd u GA ∧ Bts wd u15 L ∧ Txs wd u14 T ∧ Kd w wd w1.heap.size cB s2 c2 v2 DP)
  case first =>
    have g0 := hK.geo.cell 0 _ rfl
    have g1 := hK.geo.cell 1 _ rfl
    have g2 := hK.geo.cell 2 _ rfl
    have g3 := hK.geo.cell 3 _ rfl
    have g4 := hK.geo.cell 4 _ rfl
    have hd := hK.dev
    obtain ⟨⟨b1, dap1, rfl, _⟩, ⟨b2, dap2, rfl, _⟩, ⟨b3, dap3, rfl, _⟩⟩ := hd
    have q0 := hK.box.cell 0 _ rfl
    have q1 := hK.box.cell 1 _ rfl
    have q2 := hK.box.cell 2 _ rfl
    have q3 := hK.box.cell 3 _ rfl
    go_wp2_with fail
    refine (get_any 6 2 6 300 3 _ _ _ DP A _ hK.dev).mono ?_
    rintro e wn ⟨u, rfl, hO, hb⟩
    rw [unhide HG1] at hO ⊢
    rw [okL0, unhide HL1] at hO
    go_wp2
    go_meet
    case rel => exact ⟨rfl, hO, hW.up hb, hA.up hb, hK.up hb⟩
  case rest =>
  clear hK hA hW
  obtain ⟨rfl, hG, hW, hA, hK⟩ := hcut
  go_upto_region 11 with fail
  go_cut [21, 22] (fun u e wd => e = .int .i64 0 ∧ (B ≠ A → Bts wd u L) ∧ Bts wd u19 GA ∧ Bts wd u15 L ∧ Txs wd u14 T ∧ Below w.heap.size w wd)
  case first =>
    have g0 := hK.geo.cell 0 _ rfl
    have g1 := hK.geo.cell 1 _ rfl
    have g2 := hK.geo.cell 2 _ rfl
    have g3 := hK.geo.cell 3 _ rfl
    have g4 := hK.geo.cell 4 _ rfl
    have hd := hK.dev
    obtain ⟨⟨b1, dap1, rfl, _⟩, ⟨b2, dap2, rfl, _⟩, ⟨b3, dap3, rfl, _⟩⟩ := hd
    have q0 := hK.box.cell 0 _ rfl
    have q1 := hK.box.cell 1 _ rfl
    have q2 := hK.box.cell 2 _ rfl
    have q3 := hK.box.cell 3 _ rfl
    go_wp2_with fail
    refine (get_any 6 2 6 300 3 _ _ _ DP B _ hK.dev).mono ?_
    rintro e wn ⟨u, rfl, hO, hb⟩
    rw [unhide HG2] at hO ⊢
    rw [okL0] at hO
    go_wp2
    go_meet
    case rel => exact ⟨rfl, fun h => by rw [← unhide HL2 h]; exact hO, hG.up hb, hW.up hb, hA.up hb, bl_trans hK.bel hb⟩
  case rest =>
  clear hK hA hW hG
  obtain ⟨rfl, hX, hG, hW, hA, hbw⟩ := hcut
  have hG0 := hG
  obtain ⟨ga, gc, hgv, hgl, hgm, _⟩ := hG
  rw [unhide HGL] at hgv hgl
  subst hgv
  obtain ⟨gb, cb, rfl, hcb, hcm⟩ := hA.form (unhide HTS)
  have hMx : M ≤ 64 := by have h1 := unhide HGF; have h2 := unhide HXL; rw [← h1, List.length_take, unhide HGL] at h2; omega
  have hx14 := fun d : Later wc => (hA.bts.up d.below).str
  have hx15 := fun d : Later wc => (hW.up d.below).str
  have hx19 := fun d : Later wc => ((hG0.first hMx).up d.below).str
  have hx21 : B ≠ A → ∀ d : Later wc, (convert 37 9 u21).run Try.prog d.to = .ok (.string (strOfNums L)) d.to := fun h d => ((hX h).up d.below).str
  rw [unhide HXS] at hx14
  rw [unhide HGF] at hx19
  obtain ⟨SX, hSX⟩ : ∃ SX, strOfNums xs = SX := ⟨_, rfl⟩
  obtain ⟨SL, hSL⟩ : ∃ SL, strOfNums L = SL := ⟨_, rfl⟩
  rw [hSX] at hx14 hx19
  rw [hSL] at hx15 hx21
  have hM0 : (0 : Int) ≤ (M : Int) := Int.natCast_nonneg _
  have hMg : (M : Int) ≤ (gc : Int) := by omega
  have hne := Later.one wc
  clear hSX hSL hX hG0 hW hA
  go_upto_region 12 with fail
  by_cases hBA : B = A
  · clear hx21
    subst hBA
    refine wp_region_later (by kernel_rfl) (by kernel_rfl) ?_
    repeat (go_big_quiet_step (fail))
    refine wpQuiet_nil ?_
    intro w9 hw'
    obtain ⟨⟨w8, hb2⟩, hw''⟩ := hw'
    subst hw''
    go_wp2
    go_ret
    exact ⟨by simp, bl_trans hbw hb2⟩
  · replace hx21 := hx21 hBA
    have hBA' : ((B : Int) == (A : Int)) = false := by simp; omega
    clear hBA
    refine wp_region_later (by kernel_rfl) (by kernel_rfl) ?_
    repeat (go_big_quiet_step (fail))
    refine wpQuiet_nil ?_
    intro w9 hw'
    obtain ⟨⟨w8, hb2⟩, hw''⟩ := hw'
    subst hw''
    go_wp2
    go_ret
    exact ⟨by simp, bl_trans hbw hb2⟩
end Go.Proofs.Ytkcakecmhoamaaa
