/- icehousekeep.FlushSafe: the walk. -/
import Derived.Test.YtkcakecmhoamaaaDva
import Derived.Test.YtkcakecmhoamaaaGtd
import Derived.Test.YtkcakecmhoamaaaStr
import Derived.Deep.RegionHeldLaw
import Derived.Lib.SlBytesConst
namespace Go.Proofs.Ytkcakecmhoamaaa
open Go.RowKit
set_option maxRecDepth 100000
set_option linter.unusedVariables false
set_option linter.unusedSimpArgs false
attribute [local go_sem ↓] Go.wp_at_zero Go.wp_at_succ
theorem Bts.zz (u : World) {g : Nat} (hg : u.heap.size = g) (fr : Nat × Nat) : Bts (u.alloc (.cells #[Value.int .u8 122, Value.int .u8 122] 5 fr)) (.slice (some ⟨g, 0, none⟩) 2 2) [122, 122] := by
  subst hg
  have hh : (u.alloc (.cells #[Value.int .u8 122, Value.int .u8 122] 5 fr)).heap[u.heap.size]? = some (.cells #[Value.int .u8 122, Value.int .u8 122] 5 fr) := heap_alloc_new _ _
  refine ⟨_, _, rfl, by decide, by decide, fun i hi => ⟨_, _, rfl, ?_⟩⟩
  rw [Nat.zero_add, cell_of_row _ u.heap.size i _ _ _ hh]
  match i, hi with
  | 0, _ => rfl
  | 1, _ => rfl
theorem put_safe (D : Dv) (x : Int) (xs : List Int) : (putD D x xs 0).safe = D.safe := by rw [putD_ok]
theorem DvI.cra {D : Dv} {m : Nat} (h : DvI D m) (ks : List Bool) : DvI (craD ks 0 D 0) 0 := ⟨h.ok.cra (by decide), by rw [craD_ok], by rw [craD_ok]; exact Nat.zero_le _⟩
set_option maxHeartbeats 2000000 in
theorem flushSafe_walk (lv : Value) (rs : List Rw) (at_ : Int) (s : ByteArray) (mv : Value) (ms : List Rw) (w : World) (hR : Raws w lv rs) (w1_ : (Lit.int .i64 at_).wf = true) (hs : s.size ≤ maxLen) (hM_ : Raws w mv ms) :
    Calls Try.prog 17 #[lv, .int .i64 at_, .string s, mv] w fun e w' => e = .returned (.bool true) ∧ Below w.heap.size w w' := by
  have HR := hide hR
  clear hR
  have HM := hide hM_
  obtain ⟨ma, mc, rfl, ml, mm, _⟩ := hM_
  unfold maxLen at mm
  obtain ⟨n0, n1⟩ := wf_lo w1_
  clear w1_
  obtain ⟨N, M, T, hN, hN0, hM, hM1, hM2, hT, hTs⟩ := cut_sixty s hs
  have hcv := conv_run T M hTs
  have HTS := hide hTs
  have k0 : (0 : Int) ≤ (M : Int) := Int.natCast_nonneg _
  have k1 : (M : Int) ≤ (N : Int) := by omega
  obtain ⟨xs, hxs⟩ : ∃ xs, bytesI T = xs := ⟨_, rfl⟩
  have hxl : xs.length = M := by rw [← hxs, bytesI_length, hTs]
  have HXL := hide hxl
  have HXS := hide hxs
  clear hTs hxs hxl
  obtain ⟨A, hPA⟩ : ∃ K : Nat, pickI at_ 18 = (K : Int) := ⟨(pickI at_ 18).toNat, by have := pickI_lo at_ (m := 18) (by omega); omega⟩
  have hA18 : A < 18 := by have := pickI_hi at_ (m := 18) (by omega); omega
  have HPA := hide hPA
  clear hPA
  go_enter Try.func17, Try.ntmps17
  go_wp2_with fail
  refine (small_any _).mono ?_
  rintro e w1 ⟨rfl, hb1⟩
  go_upto_region 2 with fail
  go_cut [10, 11] (fun p e wd => ∃ dB s c v D, p = .pointer (some ⟨dB, 0, none⟩) ∧ e = .bool true ∧ Kd w wd w1.heap.size dB s c v D ∧ DvI D 20)
  case first =>
    go_wp2_with fail
    refine (devices_at lv rs 20 20 rfl _ ((unhide HR).up (bl_trans hb1 (bl1 _ _))) (by decide)).mono ?_
    rintro e wn ⟨s', c', v', D, rfl, hD, hI, hb⟩
    have hD0 := hD
    obtain ⟨⟨b1, dap1, rfl, _⟩, ⟨b2, dap2, rfl, _⟩, ⟨b3, dap3, rfl, _⟩⟩ := hD0
    go_wp2
    go_meet
    case rel => exact ⟨wn.heap.size, _, _, _, D, rfl, rfl, ⟨((Row.new w1 _ _).up hb).up (bl1 _ _), Row.new _ _ _, hD.up (bl1 _ _), bl_trans hb1 (bl_trans (bl1 _ _) (bl_trans hb (bl1 _ _))), Nat.le_trans hb1.size (Nat.le_trans (by simp) hb.size)⟩, hI⟩
  case rest =>
  clear hb1
  obtain ⟨dB, s1, c1, v1, D, rfl, rfl, hK, hI⟩ := hcut
  have h18 := hI.ns
  have HI := hide hI
  obtain ⟨b1, dap1, hs1⟩ : ∃ b1 dap1, s1 = .slice b1 18 dap1 := by
    obtain ⟨⟨b1, d1, h1, _⟩, _⟩ := hK.dev
    exact ⟨b1, d1, by rw [h1, h18]⟩
  subst hs1
  clear hI h18
  have q0 := hK.box.cell 0 _ rfl
  go_wp2_with fail
  refine (picked_any at_ 18 _ (by omega) (by omega) n0 n1).mono ?_
  rintro e w' ⟨rfl, rfl⟩
  rw [unhide HPA]
  go_upto_region 6 with fail
  go_cut [13] (fun bv wd => Txs wd bv T ∧ Kd w wd w1.heap.size dB (.slice b1 18 dap1) c1 v1 D)
  case first =>
    go_wp2
    go_meet
    case rel =>
      refine ⟨?_, hK.up ?_⟩
      · exact Txs.up (Txs.newAt _ T _ _ (by rw [unhide HTS]; exact (conv_cap _ M (by unfold maxLen; omega)).1) (conv_cap _ M (by unfold maxLen; omega)).2 (by first | rfl | simp) (unhide HTS)) ((Below.refl _ _).drew)
      · (repeat (first | exact Below.refl _ _ | apply Below.drew | apply bl_alloc))
  case rest =>
  clear hK q0 hcv hN hN0 hM hM2 hT k0 k1
  obtain ⟨hA, hK⟩ := hcut
  obtain ⟨DP, hDP⟩ : ∃ DP, putD D (A : Int) xs 0 = DP := ⟨_, rfl⟩
  obtain ⟨DF, hDF⟩ : ∃ DF, fluD DP 0 = DF := ⟨_, rfl⟩
  obtain ⟨GA, hGA⟩ : ∃ GA, pad 64 xs = GA := ⟨_, rfl⟩
  have HGL : Hid (GA.length = 64) := by rw [← hGA]; exact pad_length _ _
  have HGF : Hid (GA.take M = xs) := by rw [← hGA]; exact pad_first (unhide HXL) hM1
  have HPE : Hid (putE D (A : Int) xs.length (chkE 6 2 6 300 3 D) = 0) := (unhide HI).putE (by decide) (by omega) (by omega) (by rw [unhide HXL]; exact hM1)
  have HIP : Hid (DvI DP 21) := by rw [← hDP]; exact (unhide HI).put (by decide) (by omega) (by omega)
  have HFE := hide (unhide HIP).fluE
  have HIF : Hid (DvI DF 22) := by rw [← hDF]; exact (unhide HIP).flu
  have HSA : Hid (DF.safe.getD A [] = GA) := by rw [← hDF, ← hDP, ← hGA]; exact flu_put (unhide HI).ok A xs (by rw [(unhide HI).ns]; omega)
  have HDP := hide hDP
  have HDF := hide hDF
  clear hDP hDF hGA
  go_upto_region 7 with fail
  go_cut [14] (fun e wd => ∃ s c v, e = .int .i64 0 ∧ Txs wd u13 T ∧ Kd w wd w1.heap.size dB s c v DP)
  case first =>
    have g0 := hK.geo.cell 0 _ rfl
    have g1 := hK.geo.cell 1 _ rfl
    have g2 := hK.geo.cell 2 _ rfl
    have g3 := hK.geo.cell 3 _ rfl
    have g4 := hK.geo.cell 4 _ rfl
    have hd := hK.dev
    obtain ⟨_, ⟨b2, dap2, rfl, _⟩, ⟨b3, dap3, rfl, _⟩⟩ := hd
    have q0 := hK.box.cell 0 _ rfl
    have q1 := hK.box.cell 1 _ rfl
    have q2 := hK.box.cell 2 _ rfl
    have q3 := hK.box.cell 3 _ rfl
    go_wp2_with fail
    refine (put_any 6 2 6 300 3 _ _ _ D A _ xs _ hK.dev (by rw [← unhide HXS]; exact hA.bts)).mono ?_
    rintro e wn ⟨s', c', v', rfl, hO, hb⟩
    rw [unhide HPE, unhide HDP] at hO ⊢
    obtain ⟨sa, cs, ca, cc, va, cv, rfl, rfl, rfl, _⟩ := hO.form
    have hr := hK.box.up hb
    have z0 := hr.cell 0 _ rfl
    have z1 := hr.cell 1 _ rfl
    have z2 := hr.cell 2 _ rfl
    have z3 := hr.cell 3 _ rfl
    have zf := hr.unfrozen
    go_wp2
    go_meet
    case rel => exact ⟨_, _, _, rfl, hA.store hK hb _ _ _ _, hK.store hb hO⟩
  case rest =>
  clear hK hA
  obtain ⟨s2, c2, v2, rfl, hA, hK⟩ := hcut
  go_upto_region 8 with fail
  go_cut [15] (fun e wd => ∃ s c v, e = .int .i64 0 ∧ Txs wd u13 T ∧ Kd w wd w1.heap.size dB s c v DF)
  case first =>
    have g0 := hK.geo.cell 0 _ rfl
    have g1 := hK.geo.cell 1 _ rfl
    have g2 := hK.geo.cell 2 _ rfl
    have g3 := hK.geo.cell 3 _ rfl
    have g4 := hK.geo.cell 4 _ rfl
    have hd := hK.dev
    obtain ⟨⟨b1, dap1, rfl, _⟩, ⟨b2, dap2, rfl, _⟩, ⟨b3, dap3, rfl, _⟩⟩ := hd
    have q0 := hK.box.cell 0 _ rfl
    have q1 := hK.box.cell 1 _ rfl
    have q2 := hK.box.cell 2 _ rfl
    have q3 := hK.box.cell 3 _ rfl
    go_wp2_with fail
    refine (flush_any 6 2 6 300 3 _ _ _ DP _ hK.dev).mono ?_
    rintro e wn ⟨s', c', v', rfl, hO, hb⟩
    rw [unhide HFE, unhide HDF] at hO ⊢
    obtain ⟨sa, cs, ca, cc, va, cv, rfl, rfl, rfl, _⟩ := hO.form
    have hr := hK.box.up hb
    have z0 := hr.cell 0 _ rfl
    have z1 := hr.cell 1 _ rfl
    have z2 := hr.cell 2 _ rfl
    have z3 := hr.cell 3 _ rfl
    have zf := hr.unfrozen
    go_wp2
    go_meet
    case rel => exact ⟨_, _, _, rfl, hA.store hK hb _ _ _ _, hK.store hb hO⟩
  case rest =>
  clear hK hA
  obtain ⟨s3, c3, v3, rfl, hA, hK⟩ := hcut
  go_wp2
  go_loopw [16, 17, 18, 19] (fun i _ _ _ wr => ∃ (j : Nat) (D : Dv) (s c v : Value), j ≤ ms.length ∧ j ≤ 10 ∧ i = .int .i64 j ∧ Txs wr u13 T ∧ Kd w wr w1.heap.size dB s c v D ∧ DvI D (22 + j) ∧ D.safe.getD A [] = GA) (fun i _ _ _ _ => 10 - (intOf i).toNat)
  case atStart => exact ⟨0, DF, _, _, _, Nat.zero_le _, Nat.zero_le _, rfl, hA, hK, unhide HIF, unhide HSA⟩
  case round =>
    clear hK hA HI HIP HFE HIF HSA HPE HDP HDF
    obtain ⟨j, D2, s4, c4, v4, hj1, hj2, rfl, hA, hK, hI, hSA⟩ := hrel
    have HI := hide hI
    have HSA := hide hSA
    have h18 := hI.ns
    obtain ⟨b4, dap4, hs4⟩ : ∃ b1 dap1, s4 = .slice b1 18 dap1 := by
      obtain ⟨⟨b1, d1, h1, _⟩, _⟩ := hK.dev
      exact ⟨b1, d1, by rw [h1, h18]⟩
    subst hs4
    clear hI hSA h18
    by_cases hlt : j < ms.length ∧ j < 10
    · obtain ⟨hlt1, hlt2⟩ := hlt
      obtain ⟨lb, lo, hla, hRk⟩ := ((unhide HM).up hK.bel).at j hlt1
      subst hla
      obtain ⟨R, hRR⟩ : ∃ R, ms.getD j rw0 = R := ⟨_, rfl⟩
      rw [hRR] at hRk
      clear hRR
      have e1 := hRk.c1
      obtain ⟨as0, as1⟩ := hRk.a0
      clear hRk
      obtain ⟨X, hX⟩ : ∃ K : Nat, pickI R.a 18 = (K : Int) := ⟨(pickI R.a 18).toNat, by have := pickI_lo R.a (m := 18) (by omega); omega⟩
      have hX18 : X < 18 := by have := pickI_hi R.a (m := 18) (by omega); omega
      have HX := hide hX
      clear hX
      have q0 := hK.box.cell 0 _ rfl
      go_upto_region 12 with fail
      have hne := Later.one wr
      have q0' := fun d : Later wr => d.cell q0
      have e1' := fun d : Later wr => d.cell e1
      refine wp_region_later (by kernel_rfl) (by kernel_rfl) ?_
      repeat (go_big_quiet_step ((go_at_call 51; exact Calls.later_same (picked_any R.a 18 _ (by omega) (by omega) as0 as1))))
      refine wpQuiet_nil ?_
      intro w9 hw'
      obtain ⟨⟨w8, hb2⟩, hw''⟩ := hw'
      subst hw''
      clear hne q0' e1' q0 e1
      rw [unhide HX]
      replace hK := hK.up hb2
      replace hA := hA.up hb2
      clear hb2
      by_cases hXA : X = A
      · subst hXA
        go_wp2
        go_roundw
        case rel => exact ⟨j + 1, D2, _, _, _, by omega, by omega, by go_num, hA, hK, (unhide HI).more (by omega), unhide HSA⟩
        case measure => simp [intOf]; omega
      · have hbn : ((X : Int) != (A : Int)) = true := by rw [bne_iff_ne]; omega
        obtain ⟨D3, hD3⟩ : ∃ D3, putD D2 (X : Int) [122, 122] 0 = D3 := ⟨_, rfl⟩
        have HPE : Hid (putE D2 (X : Int) ([122, 122] : List Int).length (chkE 6 2 6 300 3 D2) = 0) := (unhide HI).putE (by omega) (by omega) (by omega) (by decide)
        have HI3 : Hid (DvI D3 (22 + j + 1)) := by rw [← hD3]; exact (unhide HI).put (by omega) (by omega) (by omega)
        have HS3 : Hid (D3.safe.getD A [] = GA) := by rw [← hD3, put_safe]; exact unhide HSA
        have HD3 := hide hD3
        clear hD3 hXA HX
        have kc := fun (w : World) (C : Array Value) (n c : Nat) => Lib.run_convert_bytes_const (P := Try.prog) w 37 5 C n c Try.underlying37 Try.underlying5
        go_upto_region 14 with fail
        go_cut [18, 19] (fun p e wd => ∃ Ba s' c' v', p = .pointer (some ⟨Ba, 0, none⟩) ∧ e = .int .i64 0 ∧ Row wd Ba 31 [s', c', v', .int .i64 D3.fuel] ∧ ODev wd w9.heap.size s' c' v' D3 ∧ Below w9.heap.size w9 wd)
        case first =>
          have g0 := hK.geo.cell 0 _ rfl
          have g1 := hK.geo.cell 1 _ rfl
          have g2 := hK.geo.cell 2 _ rfl
          have g3 := hK.geo.cell 3 _ rfl
          have g4 := hK.geo.cell 4 _ rfl
          have hd := hK.dev
          obtain ⟨_, ⟨b2, dap2, rfl, _⟩, ⟨b3, dap3, rfl, _⟩⟩ := hd
          have q0 := hK.box.cell 0 _ rfl
          have q1 := hK.box.cell 1 _ rfl
          have q2 := hK.box.cell 2 _ rfl
          have q3 := hK.box.cell 3 _ rfl
          go_wp2_with fail
          refine (put_any 6 2 6 300 3 _ _ _ D2 X _ [122, 122] _ (hK.dev.up (bl1 _ _)) (Bts.zz w9 rfl _)).mono ?_
          rintro e wn ⟨s', c', v', rfl, hO, hb⟩
          rw [unhide HPE, unhide HD3] at hO ⊢
          obtain ⟨sa, cs, ca, cc, va, cv, rfl, rfl, rfl, _⟩ := hO.form
          go_wp2
          go_meet
          case rel => exact ⟨wn.heap.size, _, _, _, rfl, rfl, Row.new _ _ _, (hO.up (bl1 _ _)).base (by simp), bl_trans (bl1 _ _) (bl_trans hb (bl1 _ _))⟩
        case rest =>
        obtain ⟨Ba, s', c', v', rfl, rfl, hrow, hO, hbc⟩ := hcut
        obtain ⟨sa, cs, ca, cc, va, cv, rfl, rfl, rfl, _⟩ := hO.form
        have r0 := hrow.cell 0 _ rfl
        have r1 := hrow.cell 1 _ rfl
        have r2 := hrow.cell 2 _ rfl
        have r3 := hrow.cell 3 _ rfl
        have hr := hK.box.up hbc
        have z0 := hr.cell 0 _ rfl
        have z1 := hr.cell 1 _ rfl
        have z2 := hr.cell 2 _ rfl
        have z3 := hr.cell 3 _ rfl
        have zf := hr.unfrozen
        clear hrow
        go_wp2
        go_roundw
        case rel => exact ⟨j + 1, D3, _, _, _, by omega, by omega, by go_num, hA.store hK hbc _ _ _ _, hK.store hbc hO, unhide HI3, unhide HS3⟩
        case measure => simp [intOf]; omega
    · obtain ⟨DC, hDC⟩ : ∃ DC, craD [] 0 D2 0 = DC := ⟨_, rfl⟩
      have HCE := hide ((unhide HI).craE (t := 0) (by decide))
      have HIC : Hid (DvI DC 0) := by rw [← hDC]; exact (unhide HI).cra []
      have HW : Hid (getL DC (A : Int) = GA) := by show _ = _; rw [← hDC, cra_none]; exact unhide HSA
      have HG1 : Hid (atE DC (A : Int) (chkE 6 2 6 300 3 DC) = 0) := by show _ = _; rw [(unhide HIC).chk]; exact atE_t ((unhide HIC).at (by omega) (by omega))
      have HC0 : Hid (DC.cache.length = 0) := Nat.le_zero.1 (unhide HIC).nc
      have HDC := hide hDC
      clear hDC
      by_cases hlt1 : j < ms.length
      case pos =>
        have hlt2 : ¬ j < 10 := fun h => hlt ⟨hlt1, h⟩
        clear hlt
        go_upto_region 18 with fail
        go_cut [20, 21] (fun p e wd => ∃ cB s c v, p = .pointer (some ⟨cB, 0, none⟩) ∧ e = .int .i64 0 ∧ Txs wd u13 T ∧ Kd w wd w1.heap.size cB s c v DC)
        case first =>
          have g0 := hK.geo.cell 0 _ rfl
          have g1 := hK.geo.cell 1 _ rfl
          have g2 := hK.geo.cell 2 _ rfl
          have g3 := hK.geo.cell 3 _ rfl
          have g4 := hK.geo.cell 4 _ rfl
          have hd := hK.dev
          obtain ⟨_, ⟨b2, dap2, rfl, _⟩, ⟨b3, dap3, rfl, _⟩⟩ := hd
          have q0 := hK.box.cell 0 _ rfl
          have q1 := hK.box.cell 1 _ rfl
          have q2 := hK.box.cell 2 _ rfl
          have q3 := hK.box.cell 3 _ rfl
          go_wp2_with fail
          refine (crash_any 6 2 6 300 3 _ _ _ D2 _ [] 0 _ hK.dev (bls_none _)).mono ?_
          rintro e wn ⟨s', c', v', rfl, hO, hb⟩
          rw [unhide HCE, unhide HDC] at hO ⊢
          obtain ⟨sa, cs, ca, cc, va, cv, rfl, rfl, rfl, _⟩ := hO.form
          go_wp2
          go_meet
          case rel => exact ⟨wn.heap.size, _, _, _, rfl, rfl, (hA.up hb).up (bl1 _ _), ⟨(hK.geo.up hb).up (bl1 _ _), Row.new _ _ _, hO.dev.up (bl1 _ _), bl_trans hK.bel (bl_trans hb (bl1 _ _)), Nat.le_trans hK.bel.size hb.size⟩⟩
        case rest =>
        clear hK hA
        obtain ⟨cB, s5, c5, v5, rfl, rfl, hA, hK⟩ := hcut
        go_upto_region 19 with fail
        go_cut [22, 23] (fun u e wd => e = .int .i64 0 ∧ Bts wd u GA ∧ Txs wd u13 T ∧ Kd w wd w1.heap.size cB s5 c5 v5 DC)
        case first =>
          have g0 := hK.geo.cell 0 _ rfl
          have g1 := hK.geo.cell 1 _ rfl
          have g2 := hK.geo.cell 2 _ rfl
          have g3 := hK.geo.cell 3 _ rfl
          have g4 := hK.geo.cell 4 _ rfl
          have hd := hK.dev
          obtain ⟨⟨b1, dap1, rfl, _⟩, ⟨b2, dap2, rfl, _⟩, ⟨b3, dap3, rfl, _⟩⟩ := hd
          have q0 := hK.box.cell 0 _ rfl
          have q1 := hK.box.cell 1 _ rfl
          have q2 := hK.box.cell 2 _ rfl
          have q3 := hK.box.cell 3 _ rfl
          go_wp2_with fail
          refine (get_any 6 2 6 300 3 _ _ _ DC A _ hK.dev).mono ?_
          rintro e wn ⟨u, rfl, hO, hb⟩
          rw [unhide HG1] at hO ⊢
          rw [okL0, unhide HW] at hO
          go_wp2
          go_meet
          case rel => exact ⟨rfl, hO, hA.up hb, hK.up hb⟩
        case rest =>
        clear hK hA
        obtain ⟨rfl, hG, hA, hK⟩ := hcut
        obtain ⟨b5, dap5, hs5⟩ : ∃ b1 dap1, c5 = .slice b1 0 dap1 := by
          obtain ⟨_, ⟨b1, d1, h1, _⟩, _⟩ := hK.dev
          exact ⟨b1, d1, by rw [h1, unhide HC0]⟩
        subst hs5
        have q1 := hK.box.cell 1 _ rfl
        have hG0 := hG
        obtain ⟨ga, gc, hgv, hgl, hgm, _⟩ := hG
        rw [unhide HGL] at hgv hgl
        subst hgv
        obtain ⟨gb, cb, rfl, hcb, hcm⟩ := hA.form (unhide HTS)
        have hMx : M ≤ 64 := by have h1 := unhide HGF; have h2 := unhide HXL; rw [← h1, List.length_take, unhide HGL] at h2; omega
        have hx13 := fun d : Later wc => (hA.bts.up d.below).str
        have hx22 := fun d : Later wc => ((hG0.first hMx).up d.below).str
        have q1' := fun d : Later wc => d.cell q1
        rw [unhide HXS] at hx13
        rw [unhide HGF] at hx22
        obtain ⟨SX, hSX⟩ : ∃ SX, strOfNums xs = SX := ⟨_, rfl⟩
        rw [hSX] at hx13 hx22
        have hM0 : (0 : Int) ≤ (M : Int) := Int.natCast_nonneg _
        have hMg : (M : Int) ≤ (gc : Int) := by omega
        have hne := Later.one wc
        have hbw := hK.bel
        clear hSX hG0 hA hK q1
        go_upto_region 20 with fail
        refine wp_region_later (by kernel_rfl) (by kernel_rfl) ?_
        repeat (go_big_quiet_step (fail))
        refine wpQuiet_nil ?_
        intro w9 hw'
        obtain ⟨⟨w8, hb2⟩, hw''⟩ := hw'
        subst hw''
        go_wp2
        go_ret
        exact ⟨by simp, bl_trans hbw hb2⟩
      case neg =>
        clear hlt
        go_upto_region 18 with fail
        go_cut [20, 21] (fun p e wd => ∃ cB s c v, p = .pointer (some ⟨cB, 0, none⟩) ∧ e = .int .i64 0 ∧ Txs wd u13 T ∧ Kd w wd w1.heap.size cB s c v DC)
        case first =>
          have g0 := hK.geo.cell 0 _ rfl
          have g1 := hK.geo.cell 1 _ rfl
          have g2 := hK.geo.cell 2 _ rfl
          have g3 := hK.geo.cell 3 _ rfl
          have g4 := hK.geo.cell 4 _ rfl
          have hd := hK.dev
          obtain ⟨_, ⟨b2, dap2, rfl, _⟩, ⟨b3, dap3, rfl, _⟩⟩ := hd
          have q0 := hK.box.cell 0 _ rfl
          have q1 := hK.box.cell 1 _ rfl
          have q2 := hK.box.cell 2 _ rfl
          have q3 := hK.box.cell 3 _ rfl
          go_wp2_with fail
          refine (crash_any 6 2 6 300 3 _ _ _ D2 _ [] 0 _ hK.dev (bls_none _)).mono ?_
          rintro e wn ⟨s', c', v', rfl, hO, hb⟩
          rw [unhide HCE, unhide HDC] at hO ⊢
          obtain ⟨sa, cs, ca, cc, va, cv, rfl, rfl, rfl, _⟩ := hO.form
          go_wp2
          go_meet
          case rel => exact ⟨wn.heap.size, _, _, _, rfl, rfl, (hA.up hb).up (bl1 _ _), ⟨(hK.geo.up hb).up (bl1 _ _), Row.new _ _ _, hO.dev.up (bl1 _ _), bl_trans hK.bel (bl_trans hb (bl1 _ _)), Nat.le_trans hK.bel.size hb.size⟩⟩
        case rest =>
        clear hK hA
        obtain ⟨cB, s5, c5, v5, rfl, rfl, hA, hK⟩ := hcut
        go_upto_region 19 with fail
        go_cut [22, 23] (fun u e wd => e = .int .i64 0 ∧ Bts wd u GA ∧ Txs wd u13 T ∧ Kd w wd w1.heap.size cB s5 c5 v5 DC)
        case first =>
          have g0 := hK.geo.cell 0 _ rfl
          have g1 := hK.geo.cell 1 _ rfl
          have g2 := hK.geo.cell 2 _ rfl
          have g3 := hK.geo.cell 3 _ rfl
          have g4 := hK.geo.cell 4 _ rfl
          have hd := hK.dev
          obtain ⟨⟨b1, dap1, rfl, _⟩, ⟨b2, dap2, rfl, _⟩, ⟨b3, dap3, rfl, _⟩⟩ := hd
          have q0 := hK.box.cell 0 _ rfl
          have q1 := hK.box.cell 1 _ rfl
          have q2 := hK.box.cell 2 _ rfl
          have q3 := hK.box.cell 3 _ rfl
          go_wp2_with fail
          refine (get_any 6 2 6 300 3 _ _ _ DC A _ hK.dev).mono ?_
          rintro e wn ⟨u, rfl, hO, hb⟩
          rw [unhide HG1] at hO ⊢
          rw [okL0, unhide HW] at hO
          go_wp2
          go_meet
          case rel => exact ⟨rfl, hO, hA.up hb, hK.up hb⟩
        case rest =>
        clear hK hA
        obtain ⟨rfl, hG, hA, hK⟩ := hcut
        obtain ⟨b5, dap5, hs5⟩ : ∃ b1 dap1, c5 = .slice b1 0 dap1 := by
          obtain ⟨_, ⟨b1, d1, h1, _⟩, _⟩ := hK.dev
          exact ⟨b1, d1, by rw [h1, unhide HC0]⟩
        subst hs5
        have q1 := hK.box.cell 1 _ rfl
        have hG0 := hG
        obtain ⟨ga, gc, hgv, hgl, hgm, _⟩ := hG
        rw [unhide HGL] at hgv hgl
        subst hgv
        obtain ⟨gb, cb, rfl, hcb, hcm⟩ := hA.form (unhide HTS)
        have hMx : M ≤ 64 := by have h1 := unhide HGF; have h2 := unhide HXL; rw [← h1, List.length_take, unhide HGL] at h2; omega
        have hx13 := fun d : Later wc => (hA.bts.up d.below).str
        have hx22 := fun d : Later wc => ((hG0.first hMx).up d.below).str
        have q1' := fun d : Later wc => d.cell q1
        rw [unhide HXS] at hx13
        rw [unhide HGF] at hx22
        obtain ⟨SX, hSX⟩ : ∃ SX, strOfNums xs = SX := ⟨_, rfl⟩
        rw [hSX] at hx13 hx22
        have hM0 : (0 : Int) ≤ (M : Int) := Int.natCast_nonneg _
        have hMg : (M : Int) ≤ (gc : Int) := by omega
        have hne := Later.one wc
        have hbw := hK.bel
        clear hSX hG0 hA hK q1
        go_upto_region 20 with fail
        refine wp_region_later (by kernel_rfl) (by kernel_rfl) ?_
        repeat (go_big_quiet_step (fail))
        refine wpQuiet_nil ?_
        intro w9 hw'
        obtain ⟨⟨w8, hb2⟩, hw''⟩ := hw'
        subst hw''
        go_wp2
        go_ret
        exact ⟨by simp, bl_trans hbw hb2⟩
end Go.Proofs.Ytkcakecmhoamaaa
