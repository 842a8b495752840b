/- icehouselaw.RingFormats: the walk. -/
import Derived.Test.YtjahaccplchmnaaFmo
import Derived.Test.YtjahaccplchmnaaSame2
import Derived.Test.YtjahaccplchmnaaDCp
namespace Go.Proofs.Ytjahaccplchmnaa
open Go.RowKit
set_option maxRecDepth 100000
set_option linter.unusedVariables false
set_option linter.unusedSimpArgs false
attribute [local go_sem ↓] Go.wp_at_zero Go.wp_at_succ
set_option maxHeartbeats 4000000 in
theorem ringFormats_walk (r a h vm nv : Int) (s c v : Value) (D : Dv) (w : World) (hD : Dev w s c v D) (hfit : Fits D) :
    Calls Try.prog 3 #[.agg #[.int .i64 r, .int .i64 a, .int .i64 h, .int .i64 vm, .int .i64 nv], .agg #[s, c, v, .int .i64 D.fuel]] w fun e w' => e = .returned (.bool true) ∧ Below w.heap.size w w' := by
  have HD := hide hD
  have HFIT := hide hfit
  obtain ⟨⟨a1, cap1, rfl, _⟩, ⟨a2, cap2, rfl, _⟩, ⟨a3, cap3, rfl, _⟩⟩ := hD
  clear hfit
  obtain ⟨FE, hFE⟩ : ∃ FE, fmE r a h vm nv D = FE := ⟨_, rfl⟩
  obtain ⟨FD, hFD⟩ : ∃ FD, fmD r a h vm nv D = FD := ⟨_, rfl⟩
  obtain ⟨FU, hFU⟩ : ∃ FU, FD.fuel = FU := ⟨_, rfl⟩
  obtain ⟨q0, q1, q2, q3, q4, q5, q6, q7, q8, hJV⟩ := jIf_form FE 1 1 0 0 0 1 0 1 0
  change jIf FE jF = _ at hJV
  have HFE := hide hFE
  have HFD := hide hFD
  have HFU := hide hFU
  have HJV := hide hJV
  clear hFE hFD hFU hJV
  go_enter Try.func3, Try.ntmps3
  go_upto_region 1 with fail
  go_cut [5] (fun p wd => ∃ kB s' c' v', p = .pointer (some ⟨kB, 0, none⟩) ∧ Row wd kB 28 [s', c', v', .int .i64 D.fuel] ∧ Dev wd s' c' v' D ∧ Row wd w.heap.size 23 [.int .i64 r, .int .i64 a, .int .i64 h, .int .i64 vm, .int .i64 nv] ∧ Row wd (w.heap.size + 1) 28 [.slice a1 D.safe.length cap1, .slice a2 D.cache.length cap2, .slice a3 D.vols.length cap3, .int .i64 D.fuel] ∧ Below w.heap.size w wd)
  case first =>
    go_wp2_with fail
    refine (devCopy_any _ _ _ D D.fuel _ ((unhide HD).up (bl2 _ _ _)) (unhide HFIT)).mono ?_
    rintro e w1 ⟨s', c', v', rfl, hO1, hb1⟩
    have hgeo := (Row.new w 23 [.int .i64 r, .int .i64 a, .int .i64 h, .int .i64 vm, .int .i64 nv]).up (bl_trans (bl1 _ _) hb1)
    have hdev := box2r (cs := [.slice a1 D.safe.length cap1, .slice a2 D.cache.length cap2, .slice a3 D.vols.length cap3, .int .i64 D.fuel]) hb1
    have hd := hO1.dev
    have hd0 := hd
    obtain ⟨⟨b1, dap1, rfl, _⟩, ⟨b2, dap2, rfl, _⟩, ⟨b3, dap3, rfl, _⟩⟩ := hd
    have HH := hide hd0
    clear hO1 hd0
    go_wp2
    go_meet
    case rel => exact ⟨w1.heap.size, _, _, _, rfl, Row.new _ _ _, (unhide HH).up (bl1 _ _), hgeo.up (bl1 _ _), hdev.up (bl1 _ _), bl_trans (bl2 _ _ _) (bl_trans hb1 (bl1 _ _))⟩
  case rest =>
  obtain ⟨kB, s1, c1, v1, rfl, hkr, hkd, hgr, hdr, hb0⟩ := hcut
  go_upto_region 2 with fail
  go_cut [6, 7, 8] (fun p q e wd => ∃ A B s' c' v', p = .pointer (some ⟨A, 0, none⟩) ∧ q = .pointer (some ⟨B, 0, none⟩) ∧ e = .int .i64 FE ∧ Row wd A 28 [s', c', v', .int .i64 FU] ∧ Dev wd s' c' v' FD ∧ Row wd B 31 [.int .i64 q0, .int .i64 q1, .int .i64 q2, .int .i64 q3, .int .i64 q4, .int .i64 q5, .int .i64 q6, .int .i64 q7, .int .i64 q8] ∧ Below wc.heap.size wc wd)
  case first =>
    have g0 := hgr.cell 0 _ rfl
    have g1 := hgr.cell 1 _ rfl
    have g2 := hgr.cell 2 _ rfl
    have g3 := hgr.cell 3 _ rfl
    have g4 := hgr.cell 4 _ rfl
    have hd := hkd
    obtain ⟨⟨b1, dap1, rfl, _⟩, ⟨b2, dap2, rfl, _⟩, ⟨b3, dap3, rfl, _⟩⟩ := hd
    have k0 := hkr.cell 0 _ rfl
    have k1 := hkr.cell 1 _ rfl
    have k2 := hkr.cell 2 _ rfl
    have k3 := hkr.cell 3 _ rfl
    go_wp2_with fail
    refine (format_any r a h vm nv _ _ _ D _ hkd).mono ?_
    rintro e wn ⟨s', c', v', rfl, hO, hb⟩
    rw [unhide HFD] at hO ⊢
    rw [unhide HFE, unhide HJV, unhide HFU]
    have hd9 := hO.dev
    obtain ⟨⟨e1, f1, rfl, _⟩, ⟨e2, f2, rfl, _⟩, ⟨e3, f3, rfl, _⟩⟩ := id hd9
    have HH := hide hd9
    clear hO hd9
    go_wp2
    go_meet
    case rel =>
      have x2 := Row.new (wn.alloc (.cells [.slice e1 FD.safe.length f1, .slice e2 FD.cache.length f2, .slice e3 FD.vols.length f3, .int .i64 FU].toArray 28)) 31 [.int .i64 q0, .int .i64 q1, .int .i64 q2, .int .i64 q3, .int .i64 q4, .int .i64 q5, .int .i64 q6, .int .i64 q7, .int .i64 q8]
      have x1 := (Row.new wn 28 [.slice e1 FD.safe.length f1, .slice e2 FD.cache.length f2, .slice e3 FD.vols.length f3, .int .i64 FU]).up (bl1 _ (.cells [.int .i64 q0, .int .i64 q1, .int .i64 q2, .int .i64 q3, .int .i64 q4, .int .i64 q5, .int .i64 q6, .int .i64 q7, .int .i64 q8].toArray 31))
      rw [World.size_alloc] at x2
      exact ⟨wn.heap.size, wn.heap.size + 1, _, _, _, rfl, rfl, rfl, x1, (unhide HH).up (bl2 _ _ _), x2, bl_trans hb (bl2 _ _ _)⟩
  case rest =>
  obtain ⟨A1, B1, s2, c2, v2, rfl, rfl, rfl, ha1, hA1, hj1, hb1⟩ := hcut
  replace hkr := hkr.up hb1
  replace hkd := hkd.up hb1
  replace hgr := hgr.up hb1
  replace hdr := hdr.up hb1
  replace hb0 := bl_trans hb0 hb1
  clear hb1
  go_upto_region 3 with fail
  go_cut [9, 10, 11] (fun p q e wd => ∃ A B s' c' v', p = .pointer (some ⟨A, 0, none⟩) ∧ q = .pointer (some ⟨B, 0, none⟩) ∧ e = .int .i64 FE ∧ Row wd A 28 [s', c', v', .int .i64 FU] ∧ Dev wd s' c' v' FD ∧ Row wd B 31 [.int .i64 q0, .int .i64 q1, .int .i64 q2, .int .i64 q3, .int .i64 q4, .int .i64 q5, .int .i64 q6, .int .i64 q7, .int .i64 q8] ∧ Below wc.heap.size wc wd)
  case first =>
    have g0 := hgr.cell 0 _ rfl
    have g1 := hgr.cell 1 _ rfl
    have g2 := hgr.cell 2 _ rfl
    have g3 := hgr.cell 3 _ rfl
    have g4 := hgr.cell 4 _ rfl
    have k0 := hdr.cell 0 _ rfl
    have k1 := hdr.cell 1 _ rfl
    have k2 := hdr.cell 2 _ rfl
    have k3 := hdr.cell 3 _ rfl
    go_wp2_with fail
    refine (formatOf_any r a h vm nv _ _ _ D _ ((unhide HD).up hb0)).mono ?_
    rintro e wn ⟨s', c', v', rfl, hO, hb⟩
    rw [unhide HFD] at hO ⊢
    rw [unhide HFE, unhide HJV, unhide HFU]
    have hd9 := hO
    obtain ⟨⟨e1, f1, rfl, _⟩, ⟨e2, f2, rfl, _⟩, ⟨e3, f3, rfl, _⟩⟩ := id hd9
    have HH := hide hd9
    clear hO hd9
    go_wp2
    go_meet
    case rel =>
      have x2 := Row.new (wn.alloc (.cells [.slice e1 FD.safe.length f1, .slice e2 FD.cache.length f2, .slice e3 FD.vols.length f3, .int .i64 FU].toArray 28)) 31 [.int .i64 q0, .int .i64 q1, .int .i64 q2, .int .i64 q3, .int .i64 q4, .int .i64 q5, .int .i64 q6, .int .i64 q7, .int .i64 q8]
      have x1 := (Row.new wn 28 [.slice e1 FD.safe.length f1, .slice e2 FD.cache.length f2, .slice e3 FD.vols.length f3, .int .i64 FU]).up (bl1 _ (.cells [.int .i64 q0, .int .i64 q1, .int .i64 q2, .int .i64 q3, .int .i64 q4, .int .i64 q5, .int .i64 q6, .int .i64 q7, .int .i64 q8].toArray 31))
      rw [World.size_alloc] at x2
      exact ⟨wn.heap.size, wn.heap.size + 1, _, _, _, rfl, rfl, rfl, x1, (unhide HH).up (bl2 _ _ _), x2, bl_trans hb (bl2 _ _ _)⟩
  case rest =>
  obtain ⟨A2, B2, s3, c3, v3, rfl, rfl, rfl, ha2, hA2, hj2, hb1⟩ := hcut
  replace hkr := hkr.up hb1
  replace hkd := hkd.up hb1
  replace hgr := hgr.up hb1
  replace hdr := hdr.up hb1
  replace ha1 := ha1.up hb1
  replace hA1 := hA1.up hb1
  replace hj1 := hj1.up hb1
  replace hb0 := bl_trans hb0 hb1
  clear hb1 hgr
  have HA1 := hide hA1
  have HA2 := hide hA2
  have HKD := hide hkd
  obtain ⟨⟨m1, n1, rfl, _⟩, ⟨m2, n2, rfl, _⟩, ⟨m3, n3, rfl, _⟩⟩ := hA1
  obtain ⟨⟨o1, p1, rfl, _⟩, ⟨o2, p2, rfl, _⟩, ⟨o3, p3, rfl, _⟩⟩ := hA2
  obtain ⟨⟨x1, y1, rfl, _⟩, ⟨x2, y2, rfl, _⟩, ⟨x3, y3, rfl, _⟩⟩ := hkd
  have t0 := ha1.cell 0 _ rfl
  have t1 := ha1.cell 1 _ rfl
  have t2 := ha1.cell 2 _ rfl
  have t3 := ha1.cell 3 _ rfl
  have u0 := ha2.cell 0 _ rfl
  have u1 := ha2.cell 1 _ rfl
  have u2 := ha2.cell 2 _ rfl
  have u3 := ha2.cell 3 _ rfl
  have i0 := hj1.cell 0 _ rfl
  have i1 := hj1.cell 1 _ rfl
  have i2 := hj1.cell 2 _ rfl
  have i3 := hj1.cell 3 _ rfl
  have i4 := hj1.cell 4 _ rfl
  have i5 := hj1.cell 5 _ rfl
  have i6 := hj1.cell 6 _ rfl
  have i7 := hj1.cell 7 _ rfl
  have i8 := hj1.cell 8 _ rfl
  have j0 := hj2.cell 0 _ rfl
  have j1 := hj2.cell 1 _ rfl
  have j2 := hj2.cell 2 _ rfl
  have j3 := hj2.cell 3 _ rfl
  have j4 := hj2.cell 4 _ rfl
  have j5 := hj2.cell 5 _ rfl
  have j6 := hj2.cell 6 _ rfl
  have j7 := hj2.cell 7 _ rfl
  have j8 := hj2.cell 8 _ rfl
  have HKR := hide hkr
  have HDR := hide hdr
  have HB0 := hide hb0
  have k0 := hkr.cell 0 _ rfl
  have k1 := hkr.cell 1 _ rfl
  have k2 := hkr.cell 2 _ rfl
  have k3 := hkr.cell 3 _ rfl
  have d0 := hdr.cell 0 _ rfl
  have d1 := hdr.cell 1 _ rfl
  have d2 := hdr.cell 2 _ rfl
  have d3 := hdr.cell 3 _ rfl
  clear ha1 ha2 hj1 hj2 hkr hdr hb0
  go_wp2_with fail
  refine (sameDevices_f _ _ _ _ _ _ FD FU _ (unhide HA1) (unhide HA2)).mono ?_
  rintro e w4 ⟨rfl, hb4⟩
  replace k0 := cell_up hb4 k0
  replace k1 := cell_up hb4 k1
  replace k2 := cell_up hb4 k2
  replace k3 := cell_up hb4 k3
  replace d0 := cell_up hb4 d0
  replace d1 := cell_up hb4 d1
  replace d2 := cell_up hb4 d2
  replace d3 := cell_up hb4 d3
  clear t0 t1 t2 t3 u0 u1 u2 u3 i0 i1 i2 i3 i4 i5 i6 i7 i8 j0 j1 j2 j3 j4 j5 j6 j7 j8
  go_wp2_with fail
  refine (sameDevices_f _ _ _ _ _ _ D D.fuel _ ((unhide HKD).up hb4) ((unhide HD).up (bl_trans (unhide HB0) hb4))).mono ?_
  rintro e w5 ⟨rfl, hb5⟩
  go_wp2
  go_ret
  exact ⟨rfl, bl_trans (unhide HB0) (bl_trans hb4 hb5)⟩
end Go.Proofs.Ytjahaccplchmnaa
