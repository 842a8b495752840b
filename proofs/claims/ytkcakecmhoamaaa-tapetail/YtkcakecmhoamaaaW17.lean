/- icehousekeep.TapeTail: the walk. -/
import Derived.Test.YtkcakecmhoamaaaKd
import Derived.Test.YtkcakecmhoamaaaMkC
import Derived.Test.YtkcakecmhoamaaaCrC
namespace Go.Proofs.Ytkcakecmhoamaaa
open Go.RowKit
set_option maxRecDepth 100000
set_option linter.unusedVariables false
set_option linter.unusedSimpArgs false
theorem cut_text (s : ByteArray) (hs : s.size ≤ 9223372036854775807) : ∃ (N M : Nat) (T : ByteArray), s.size = N ∧ N ≤ 9223372036854775807 ∧ (if (100 : Int) < (N : Int) then (100 : Int) else (N : Int)) = (M : Int) ∧ M ≤ 100 ∧ M ≤ N ∧ s.extract 0 M = T ∧ T.size = M := by
  refine ⟨s.size, min s.size 100, _, rfl, hs, by split <;> omega, by omega, by omega, rfl, by simp⟩
set_option maxHeartbeats 4000000 in
theorem tapeTail_walk (s t : ByteArray) (n : Int) (w : World) (hs : s.size ≤ maxLen) (ht : t.size ≤ maxLen) (wn : (Lit.int .i64 n).wf = true) :
    Calls Try.prog 19 #[.string s, .string t, .int .i64 n] w fun e w' => e = .returned (.bool true) ∧ Below w.heap.size w w' := by
  unfold maxLen at hs ht
  obtain ⟨n0, n1⟩ := wf_lo wn
  clear wn
  obtain ⟨N, M, T, hN, hN0, hM, hM1, hM2, hT, hTs⟩ := cut_text s hs
  obtain ⟨N', M', T', hN', hN0', hM', hM1', hM2', hT', hTs'⟩ := cut_text t ht
  have hcv := conv_run T M hTs
  have hcv' := conv_run T' M' hTs'
  have HTS := hide hTs
  have HTS' := hide hTs'
  have k0 : (0 : Int) ≤ (M : Int) := Int.natCast_nonneg _
  have k1 : (M : Int) ≤ (N : Int) := by omega
  have k0' : (0 : Int) ≤ (M' : Int) := Int.natCast_nonneg _
  have k1' : (M' : Int) ≤ (N' : Int) := by omega
  clear hTs hTs'
  go_enter Try.func19, Try.ntmps19
  go_wp2_with fail
  refine (small_any _).mono ?_
  rintro e w1 ⟨rfl, hb1⟩
  go_upto_region 2 with fail
  go_cut [8] (fun a wc => Row wc w1.heap.size 23 geoL ∧ Txs wc a T ∧ Below w.heap.size w wc)
  case first =>
    go_wp2
    go_meet
    case rel =>
      refine ⟨(Row.new w1 _ _).up ?_, ?_, ?_⟩
      · repeat (first | exact Below.refl _ _ | apply Below.drew | apply bl_alloc)
      · exact Txs.up (Txs.newAt _ T _ _ (by rw [unhide HTS]; exact (conv_cap _ M (by unfold maxLen; omega)).1) (conv_cap _ M (by unfold maxLen; omega)).2 (by simp) (unhide HTS)) ((Below.refl _ _).drew)
      · exact bl_trans hb1 (by repeat (first | exact Below.refl _ _ | apply Below.drew | apply bl_alloc))
  case rest =>
  obtain ⟨hG, hA, hbw⟩ := hcut
  clear hb1
  go_upto_region 3 with fail
  go_cut [9] (fun b wc => Row wc w1.heap.size 23 geoL ∧ Txs wc u8 T ∧ Txs wc b T' ∧ Below w.heap.size w wc)
  case first =>
    go_wp2
    go_meet
    case rel =>
      refine ⟨hG.up ?_, hA.up ?_, ?_, ?_⟩
      · repeat (first | exact Below.refl _ _ | apply Below.drew | apply bl_alloc)
      · repeat (first | exact Below.refl _ _ | apply Below.drew | apply bl_alloc)
      · exact Txs.up (Txs.newAt _ T' _ _ (by rw [unhide HTS']; exact (conv_cap _ M' (by unfold maxLen; omega)).1) (conv_cap _ M' (by unfold maxLen; omega)).2 (by simp) (unhide HTS')) ((Below.refl _ _).drew)
      · exact bl_trans hbw (by repeat (first | exact Below.refl _ _ | apply Below.drew | apply bl_alloc))
  case rest =>
  clear hG hA hbw hcv hcv'
  obtain ⟨hG, hA, hA', hbw⟩ := hcut
  obtain ⟨xs, hxs⟩ : ∃ xs, bytesI T = xs := ⟨_, rfl⟩
  obtain ⟨ys, hys⟩ : ∃ ys, bytesI T' = ys := ⟨_, rfl⟩
  have hxl : xs.length = M := by rw [← hxs, bytesI_length]; exact unhide HTS
  have hyl : ys.length = M' := by rw [← hys, bytesI_length]; exact unhide HTS'
  have hx : xs.length ≤ 100 := by omega
  have hy : ys.length ≤ 100 := by omega
  have HXS := hide hxs
  have HYS := hide hys
  have HXL := hide hxl
  have HYL := hide hyl
  have HX := hide hx
  have HY := hide hy
  clear hN hN0 hM hM2 hT hN' hN0' hM' hM2' hT' k0 k1 k0' k1' hxs hys hxl hyl hx hy hs ht
  obtain ⟨P, hP⟩ : ∃ P : Nat, pickI n 120 = (P : Int) := ⟨(pickI n 120).toNat, by have := pickI_lo n (m := 120) (by omega); omega⟩
  have hP1 : P < 120 := by have := pickI_hi n (m := 120) (by omega); omega
  have HP := hide hP
  clear hP
  have g0 := hG.cell 0 _ rfl
  have g1 := hG.cell 1 _ rfl
  have g2 := hG.cell 2 _ rfl
  have g3 := hG.cell 3 _ rfl
  have g4 := hG.cell 4 _ rfl
  go_wp2_with fail
  refine (picked_any n 120 _ (by omega) (by omega) n0 n1).mono ?_
  rintro e w' ⟨rfl, rfl⟩
  rw [unhide HP]
  go_upto_region 5 with fail
  go_cut [11, 12] (fun p e wd => ∃ dB s c v, p = .pointer (some ⟨dB, 0, none⟩) ∧ e = .int .i64 0 ∧ Kd w wd w1.heap.size dB s c v tD0 ∧ Txs wd u8 T ∧ Txs wd u9 T')
  case first =>
    go_wp2_with fail
    refine (new_any 6 2 6 300 3 _).mono ?_
    rintro e wn ⟨s', c', v', rfl, hO, hb⟩
    rw [tE0]
    rw [tD0_eq] at hO ⊢
    obtain ⟨sa, cs, ca, cc, va, cv, rfl, rfl, rfl, _⟩ := hO.form
    go_wp2
    go_meet
    case rel => exact ⟨wn.heap.size, _, _, _, rfl, rfl, ⟨(hG.up hb).up (bl1 _ _), Row.new _ _ _, hO.dev.up (bl1 _ _), bl_trans hbw (bl_trans hb (bl1 _ _)), Nat.le_trans hbw.size hb.size⟩, (hA.up hb).up (bl1 _ _), (hA'.up hb).up (bl1 _ _)⟩
  case rest =>
  clear hG hA hA' hbw g0 g1 g2 g3 g4
  obtain ⟨dB, s1, c1, v1, rfl, rfl, hK, hA, hA'⟩ := hcut
  go_upto_region 6 with fail
  go_cut [13] (fun e wd => ∃ s c v, e = .int .i64 0 ∧ Kd w wd w1.heap.size dB s c v (tD1 xs) ∧ Txs wd u8 T ∧ Txs wd u9 T')
  case first =>
    have g0 := hK.geo.cell 0 _ rfl
    have g1 := hK.geo.cell 1 _ rfl
    have g2 := hK.geo.cell 2 _ rfl
    have g3 := hK.geo.cell 3 _ rfl
    have g4 := hK.geo.cell 4 _ rfl
    have hd := hK.dev
    obtain ⟨⟨b1, dap1, rfl, _⟩, ⟨b2, dap2, rfl, _⟩, ⟨b3, dap3, rfl, _⟩⟩ := hd
    have k0 := hK.box.cell 0 _ rfl
    have k1 := hK.box.cell 1 _ rfl
    have k2 := hK.box.cell 2 _ rfl
    have k3 := hK.box.cell 3 _ rfl
    go_wp2_with fail
    refine (append_any 6 2 6 300 3 _ _ _ tD0 0 _ xs _ hK.dev (by rw [← unhide HXS]; exact hA.bts)).mono ?_
    rintro e wn ⟨s', c', v', rfl, hO, hb⟩
    rw [tE1 (unhide HX)] at hO ⊢
    rw [tD1_eq] at hO ⊢
    obtain ⟨sa, cs, ca, cc, va, cv, rfl, rfl, rfl, _⟩ := hO.form
    have hr := hK.box.up hb
    have z0 := hr.cell 0 _ rfl
    have z1 := hr.cell 1 _ rfl
    have z2 := hr.cell 2 _ rfl
    have z3 := hr.cell 3 _ rfl
    have zf := hr.unfrozen
    go_wp2
    go_meet
    case rel => exact ⟨_, _, _, rfl, hK.store hb hO, hA.store hK hb _ _ _ _, hA'.store hK hb _ _ _ _⟩
  case rest =>
  clear hK hA hA'
  obtain ⟨s1, c1, v1, rfl, hK, hA, hA'⟩ := hcut
  go_upto_region 7 with fail
  go_cut [14] (fun e wd => ∃ s c v, e = .int .i64 0 ∧ Kd w wd w1.heap.size dB s c v (tD2 xs) ∧ Txs wd u8 T ∧ Txs wd u9 T')
  case first =>
    have g0 := hK.geo.cell 0 _ rfl
    have g1 := hK.geo.cell 1 _ rfl
    have g2 := hK.geo.cell 2 _ rfl
    have g3 := hK.geo.cell 3 _ rfl
    have g4 := hK.geo.cell 4 _ rfl
    have hd := hK.dev
    obtain ⟨⟨b1, dap1, rfl, _⟩, ⟨b2, dap2, rfl, _⟩, ⟨b3, dap3, rfl, _⟩⟩ := hd
    have k0 := hK.box.cell 0 _ rfl
    have k1 := hK.box.cell 1 _ rfl
    have k2 := hK.box.cell 2 _ rfl
    have k3 := hK.box.cell 3 _ rfl
    go_wp2_with fail
    refine (mark_any 6 2 6 300 3 _ _ _ (tD1 xs) _ hK.dev).mono ?_
    rintro e wn ⟨s', c', v', rfl, hO, hb⟩
    rw [tE2 (unhide HX)] at hO ⊢
    rw [tD2_eq] at hO ⊢
    obtain ⟨sa, cs, ca, cc, va, cv, rfl, rfl, rfl, _⟩ := hO.form
    have hr := hK.box.up hb
    have z0 := hr.cell 0 _ rfl
    have z1 := hr.cell 1 _ rfl
    have z2 := hr.cell 2 _ rfl
    have z3 := hr.cell 3 _ rfl
    have zf := hr.unfrozen
    go_wp2
    go_meet
    case rel => exact ⟨_, _, _, rfl, hK.store hb hO, hA.store hK hb _ _ _ _, hA'.store hK hb _ _ _ _⟩
  case rest =>
  clear hK hA hA'
  obtain ⟨s1, c1, v1, rfl, hK, hA, hA'⟩ := hcut
  go_upto_region 8 with fail
  go_cut [15] (fun e wd => ∃ s c v, e = .int .i64 0 ∧ Kd w wd w1.heap.size dB s c v (tD3 xs ys) ∧ Txs wd u8 T ∧ Txs wd u9 T')
  case first =>
    have g0 := hK.geo.cell 0 _ rfl
    have g1 := hK.geo.cell 1 _ rfl
    have g2 := hK.geo.cell 2 _ rfl
    have g3 := hK.geo.cell 3 _ rfl
    have g4 := hK.geo.cell 4 _ rfl
    have hd := hK.dev
    obtain ⟨⟨b1, dap1, rfl, _⟩, ⟨b2, dap2, rfl, _⟩, ⟨b3, dap3, rfl, _⟩⟩ := hd
    have k0 := hK.box.cell 0 _ rfl
    have k1 := hK.box.cell 1 _ rfl
    have k2 := hK.box.cell 2 _ rfl
    have k3 := hK.box.cell 3 _ rfl
    go_wp2_with fail
    refine (append_any 6 2 6 300 3 _ _ _ (tD2 xs) 0 _ ys _ hK.dev (by rw [← unhide HYS]; exact hA'.bts)).mono ?_
    rintro e wn ⟨s', c', v', rfl, hO, hb⟩
    rw [tE3 (unhide HX) (unhide HY)] at hO ⊢
    rw [tD3_eq] at hO ⊢
    obtain ⟨sa, cs, ca, cc, va, cv, rfl, rfl, rfl, _⟩ := hO.form
    have hr := hK.box.up hb
    have z0 := hr.cell 0 _ rfl
    have z1 := hr.cell 1 _ rfl
    have z2 := hr.cell 2 _ rfl
    have z3 := hr.cell 3 _ rfl
    have zf := hr.unfrozen
    go_wp2
    go_meet
    case rel => exact ⟨_, _, _, rfl, hK.store hb hO, hA.store hK hb _ _ _ _, hA'.store hK hb _ _ _ _⟩
  case rest =>
  clear hK hA hA'
  obtain ⟨s1, c1, v1, rfl, hK, hA, hA'⟩ := hcut
  obtain ⟨zs, hzs⟩ : ∃ zs, ys.take P = zs := ⟨_, rfl⟩
  have hok4 : DOk 6 2 6 300 3 (tD4 xs zs) := by rw [← hzs]; exact tOk4 (unhide HX) (unhide HY)
  have HOK := hide hok4
  have HZS := hide hzs
  clear hok4 hzs
  go_upto_region 9 with fail
  go_cut [16, 17] (fun p e wd => ∃ cB s c v, p = .pointer (some ⟨cB, 0, none⟩) ∧ e = .int .i64 0 ∧ Kd w wd w1.heap.size cB s c v (tD4 xs zs) ∧ Txs wd u8 T ∧ Txs wd u9 T')
  case first =>
    have g0 := hK.geo.cell 0 _ rfl
    have g1 := hK.geo.cell 1 _ rfl
    have g2 := hK.geo.cell 2 _ rfl
    have g3 := hK.geo.cell 3 _ rfl
    have g4 := hK.geo.cell 4 _ rfl
    have hd := hK.dev
    obtain ⟨⟨b1, dap1, rfl, _⟩, ⟨b2, dap2, rfl, _⟩, ⟨b3, dap3, rfl, _⟩⟩ := hd
    have k0 := hK.box.cell 0 _ rfl
    have k1 := hK.box.cell 1 _ rfl
    have k2 := hK.box.cell 2 _ rfl
    have k3 := hK.box.cell 3 _ rfl
    go_wp2_with fail
    refine (crash_any 6 2 6 300 3 _ _ _ (tD3 xs ys) _ [] P _ hK.dev (bls_none _)).mono ?_
    rintro e wn ⟨s', c', v', rfl, hO, hb⟩
    rw [tE4 (unhide HX) (unhide HY) (Int.natCast_nonneg _)] at hO ⊢
    rw [tD4_eq, unhide HZS] at hO ⊢
    obtain ⟨sa, cs, ca, cc, va, cv, rfl, rfl, rfl, _⟩ := hO.form
    go_wp2
    go_meet
    case rel => exact ⟨wn.heap.size, _, _, _, rfl, rfl, ⟨(hK.geo.up hb).up (bl1 _ _), Row.new _ _ _, hO.dev.up (bl1 _ _), bl_trans hK.bel (bl_trans hb (bl1 _ _)), Nat.le_trans hK.bel.size hb.size⟩, (hA.up hb).up (bl1 _ _), (hA'.up hb).up (bl1 _ _)⟩
  case rest =>
  clear hK hA hA'
  obtain ⟨cB, s1, c1, v1, rfl, rfl, hK, hA, hA'⟩ := hcut
  have hzl : (zs.length : Int) ≤ 100 ∧ zs.length ≤ M' := by
    rw [← unhide HZS, List.length_take, unhide HYL]
    omega
  obtain ⟨Q, hQ⟩ : ∃ Q : Nat, (if M' < P then (M' : Int) else (P : Int)) = (Q : Int) := ⟨min M' P, by split <;> omega⟩
  have hQ1 : Q ≤ M' := by split at hQ <;> omega
  have hQz : ys.take Q = zs := by
    rw [← unhide HZS, List.take_eq_take_iff, unhide HYL]
    split at hQ <;> omega
  have a1 := fun d : Later wc => (hA.bts.up d.below).str
  obtain ⟨ga, ca, rfl, _, _⟩ := hA.form (unhide HTS)
  obtain ⟨gb, cb, rfl, hcb, hcm⟩ := hA'.form (unhide HTS')
  have b1 := fun d : Later wc => ((hA'.bts.first hQ1).up d.below).str
  rw [unhide HYS, hQz] at b1
  rw [unhide HXS] at a1
  obtain ⟨SA, hSA⟩ : ∃ SA, strOfNums xs = SA := ⟨_, rfl⟩
  obtain ⟨SB, hSB⟩ : ∃ SB, strOfNums zs = SB := ⟨_, rfl⟩
  obtain ⟨SW, hSW⟩ : ∃ SW, strOfNums (xs ++ zs) = SW := ⟨_, rfl⟩
  have hab : SA ++ SB = SW := by rw [← hSA, ← hSB, ← hSW]; exact strOfNums_append _ _
  obtain ⟨L, hL⟩ : ∃ L : Nat, xs.length + zs.length = L := ⟨_, rfl⟩
  have hLs : SW.size = L := by rw [← hSW, strOfNums_size, ← hL]; simp
  have hL2 : L ≤ 200 := by have := unhide HX; omega
  rw [hSA] at a1
  rw [hSB] at b1
  have HSW := hide hSW
  have HL := hide hL
  have hQ0 : (0 : Int) ≤ (Q : Int) := Int.natCast_nonneg _
  have hQ2 : (Q : Int) ≤ (cb : Int) := by omega
  have hne := Later.one wc
  have hsum : ¬ 9223372036854775807 < SA.size + SB.size := by have := unhide HX; rw [← hSA, ← hSB, strOfNums_size, strOfNums_size]; omega
  clear hSA hSB hSW hL hzl hQz
  go_upto_region 10 with fail
  go_cut [18] (fun v wd => v = .string SW ∧ Kd w wd w1.heap.size cB s1 c1 v1 (tD4 xs zs) ∧ Txs wd (.slice (some ⟨ga, 0, none⟩) M ca) T)
  case first =>
    have hq : M' < P ∧ Q = M' ∨ ¬ M' < P ∧ Q = P := by split at hQ <;> omega
    clear hQ
    rcases hq with ⟨hq, rfl⟩ | ⟨hq, rfl⟩
    all_goals
      refine wp_region_later (by kernel_rfl) (by kernel_rfl) ?_
      repeat (go_big_quiet_step (fail))
      refine wpQuiet_nil ?_
      intro w9 hw'
      obtain ⟨⟨w8, hb2⟩, hw''⟩ := hw'
      subst hw''
      clear hne a1 b1 hab hsum
      go_wp2
      go_meet
      case rel => exact ⟨rfl, hK.up hb2, hA.up hb2⟩
  case rest =>
  clear hK hA hA' a1 b1 hne hab hsum
  obtain ⟨rfl, hK, hA⟩ := hcut
  go_upto_region 11 with fail
  go_cut [19, 20] (fun u e wd => e = .int .i64 0 ∧ Bts wd u (xs ++ zs) ∧ Kd w wd w1.heap.size cB s1 c1 v1 (tD4 xs zs) ∧ Txs wd (.slice (some ⟨ga, 0, none⟩) M ca) T)
  case first =>
    have g0 := hK.geo.cell 0 _ rfl
    have g1 := hK.geo.cell 1 _ rfl
    have g2 := hK.geo.cell 2 _ rfl
    have g3 := hK.geo.cell 3 _ rfl
    have g4 := hK.geo.cell 4 _ rfl
    have hd := hK.dev
    obtain ⟨⟨b1, dap1, rfl, _⟩, ⟨b2, dap2, rfl, _⟩, ⟨b3, dap3, rfl, _⟩⟩ := hd
    have k0 := hK.box.cell 0 _ rfl
    have k1 := hK.box.cell 1 _ rfl
    have k2 := hK.box.cell 2 _ rfl
    have k3 := hK.box.cell 3 _ rfl
    go_wp2_with fail
    refine (fetch_any 6 2 6 300 3 _ _ _ (tD4 xs zs) 0 0 (L : Int) _ hK.dev).mono ?_
    rintro e wn ⟨u, rfl, hO, hb⟩
    rw [← unhide HL] at hO ⊢
    rw [tE5 (unhide HOK)] at hO ⊢
    rw [okL0, tL5] at hO
    rw [unhide HL]
    go_wp2
    go_meet
    case rel => exact ⟨rfl, hO, hK.up hb, hA.up hb⟩
  case rest =>
  clear hK hA
  obtain ⟨rfl, hB, hK, hA⟩ := hcut
  go_upto_region 12 with fail
  go_cut [21, 22] (fun _ e wd => e = .int .i64 2 ∧ Bts wd u19 (xs ++ zs) ∧ Kd w wd w1.heap.size cB s1 c1 v1 (tD4 xs zs) ∧ Txs wd (.slice (some ⟨ga, 0, none⟩) M ca) T)
  case first =>
    have g0 := hK.geo.cell 0 _ rfl
    have g1 := hK.geo.cell 1 _ rfl
    have g2 := hK.geo.cell 2 _ rfl
    have g3 := hK.geo.cell 3 _ rfl
    have g4 := hK.geo.cell 4 _ rfl
    have hd := hK.dev
    obtain ⟨⟨b1, dap1, rfl, _⟩, ⟨b2, dap2, rfl, _⟩, ⟨b3, dap3, rfl, _⟩⟩ := hd
    have k0 := hK.box.cell 0 _ rfl
    have k1 := hK.box.cell 1 _ rfl
    have k2 := hK.box.cell 2 _ rfl
    have k3 := hK.box.cell 3 _ rfl
    go_wp2_with fail
    refine (fetch_any 6 2 6 300 3 _ _ _ (tD4 xs zs) 0 0 ((L : Int) + 1) _ hK.dev).mono ?_
    rintro e wn ⟨u, rfl, hO, hb⟩
    rw [← unhide HL] at hO ⊢
    rw [tE6 (unhide HOK)] at hO ⊢
    rw [unhide HL]
    go_wp2
    go_meet
    case rel => exact ⟨rfl, hB.up hb, hK.up hb, hA.up hb⟩
  case rest =>
  clear hK hA hB
  obtain ⟨rfl, hB, hK, hA⟩ := hcut
  go_upto_region 13 with fail
  go_cut [24] (fun e wd => e = .int .i64 6 ∧ Bts wd u19 (xs ++ zs) ∧ Below w.heap.size w wd)
  case first =>
    have g0 := hK.geo.cell 0 _ rfl
    have g1 := hK.geo.cell 1 _ rfl
    have g2 := hK.geo.cell 2 _ rfl
    have g3 := hK.geo.cell 3 _ rfl
    have g4 := hK.geo.cell 4 _ rfl
    have hd := hK.dev
    obtain ⟨⟨b1, dap1, rfl, _⟩, ⟨b2, dap2, rfl, _⟩, ⟨b3, dap3, rfl, _⟩⟩ := hd
    have k0 := hK.box.cell 0 _ rfl
    have k1 := hK.box.cell 1 _ rfl
    have k2 := hK.box.cell 2 _ rfl
    have k3 := hK.box.cell 3 _ rfl
    go_wp2_with fail
    refine (append_any 6 2 6 300 3 _ _ _ (tD4 xs zs) 2 _ xs _ hK.dev (by rw [← unhide HXS]; exact hA.bts)).mono ?_
    rintro e wn ⟨s', c', v', rfl, hO, hb⟩
    rw [tE7 (unhide HOK)] at hO ⊢
    rw [appD_bad (by decide)] at hO ⊢
    obtain ⟨sa, cs, ca', cc, va, cv, rfl, rfl, rfl, _⟩ := hO.form
    go_wp2
    go_meet
    case rel => exact ⟨rfl, (hB.up hb).up (bl1 _ _), bl_trans hK.bel (bl_trans hb (bl1 _ _))⟩
  case rest =>
  clear hK hA hB
  obtain ⟨rfl, hB, hbw⟩ := hcut
  have hstr := hB.str
  rw [unhide HSW] at hstr
  go_wp2
  go_ret
  exact ⟨by simp, hbw⟩
end Go.Proofs.Ytkcakecmhoamaaa
