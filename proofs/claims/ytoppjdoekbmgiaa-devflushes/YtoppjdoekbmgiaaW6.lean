/- The laws of the document's answers where the devices are copied first: the walk. -/
import Derived.Test.YtoppjdoekbmgiaaFlC
import Derived.Test.YtoppjdoekbmgiaaFlO
import Derived.Test.YtoppjdoekbmgiaaSame2
namespace Go.Proofs.Ytoppjdoekbmgiaa
open Go.RowKit
set_option linter.unusedVariables false
set_option linter.unusedSimpArgs false
set_option maxHeartbeats 2000000 in
theorem devFlushes_walk (r a h vm nv : Int) (s c v : Value) (D : Dv)  (w : World) (hD : Dev w s c v D) (hfit : Fits D)  :
    Calls Try.prog 8 #[.agg #[.int .i64 r, .int .i64 a, .int .i64 h, .int .i64 vm, .int .i64 nv], .agg #[s, c, v, .int .i64 D.fuel]] w fun e w' => e = .returned (.bool true) ∧ Below w.heap.size w w' := by
  have HD := hide hD
  have HFIT := hide hfit
  obtain ⟨⟨a1, cap1, rfl, _⟩, ⟨a2, cap2, rfl, _⟩, ⟨a3, cap3, rfl, _⟩⟩ := hD
  clear hfit
  obtain ⟨G, hG⟩ : ∃ G, D.fuel = G := ⟨_, rfl⟩
  have HG := hide hG
  rw [hG]
  clear hG
  obtain ⟨E, hE⟩ : ∃ E, marE D (chkE r a h vm nv D) = E := ⟨_, rfl⟩
  have HE := hide hE
  clear hE
  obtain ⟨F, hF⟩ : ∃ F, (fluD D E).fuel = F := ⟨_, rfl⟩
  have HF := hide hF
  clear hF
  go_enter Try.func8, Try.ntmps8
  go_wp2_with fail
  refine (devCopy_any _ _ _ D G _ ((unhide HD).up (bl2 _ _ _)) (unhide HFIT)).mono ?_
  rintro e w1 ⟨s', c', v', rfl, hO1, hb1⟩
  have HB1 := hide (bl_trans (bl2 _ _ _) hb1)
  have g0 := box2a hb1 0 rfl
  have g1 := box2a hb1 1 rfl
  have g2 := box2a hb1 2 rfl
  have g3 := box2a hb1 3 rfl
  have g4 := box2a hb1 4 rfl
  have f0 := box2b hb1 0 rfl
  have f1 := box2b hb1 1 rfl
  have f2 := box2b hb1 2 rfl
  have f3 := box2b hb1 3 rfl
  have hd := hO1.dev
  have HK := hide hO1.dev
  obtain ⟨⟨b1, dap1, rfl, _⟩, ⟨b2, dap2, rfl, _⟩, ⟨b3, dap3, rfl, _⟩⟩ := hd
  have l1 : w.heap.size + 1 < w1.heap.size := World.block_lt_of_cell? w1 _ f0
  have l0 : w.heap.size < w1.heap.size := by omega
  clear hO1 hb1
  go_wp2_with fail
  rw [← unhide HG]
  refine (flush_any r a h vm nv _ _ _ D _ ((unhide HK).up (bl1 _ _))).mono ?_
  rintro e w2 ⟨s', c', v', rfl, hO2, hb2⟩
  rw [unhide HE] at hO2 ⊢
  rw [unhide HF]
  have hb12 := bl_trans (bl1 _ _) hb2
  have HB2 := hide (bl_trans (unhide HB1) hb12)
  replace g0 := cell_up hb12 g0
  replace g1 := cell_up hb12 g1
  replace g2 := cell_up hb12 g2
  replace g3 := cell_up hb12 g3
  replace g4 := cell_up hb12 g4
  replace f0 := cell_up hb12 f0
  replace f1 := cell_up hb12 f1
  replace f2 := cell_up hb12 f2
  replace f3 := cell_up hb12 f3
  have k0 := box1 hb2 0 rfl
  have k1 := box1 hb2 1 rfl
  have k2 := box1 hb2 2 rfl
  have k3 := box1 hb2 3 rfl
  have HK2 := hide ((unhide HK).up hb12)
  have hd := hO2.dev
  have HA := hide hO2.dev
  obtain ⟨⟨c1, eap1, rfl, _⟩, ⟨c2, eap2, rfl, _⟩, ⟨c3, eap3, rfl, _⟩⟩ := hd
  have l2 : w1.heap.size < w2.heap.size := World.block_lt_of_cell? w2 _ k0
  have m0 : w.heap.size < w2.heap.size := by omega
  have m1 : w.heap.size + 1 < w2.heap.size := by omega
  rw [unhide HG] at k3
  clear hO2 hb2 hb12 HK
  go_wp2_with fail
  rw [← unhide HG]
  refine (flushedOf_any r a h vm nv _ _ _ D _ (((unhide HD).up (unhide HB2)).up (bl1 _ _))).mono ?_
  rintro e w3 ⟨s', c', v', rfl, hO3, hb3⟩
  rw [unhide HE] at hO3 ⊢
  rw [unhide HF]
  have hb23 := bl_trans (bl1 _ _) hb3
  have HB3 := hide (bl_trans (unhide HB2) hb23)
  clear g0 g1 g2 g3 g4
  replace f0 := cell_up hb23 f0
  replace f1 := cell_up hb23 f1
  replace f2 := cell_up hb23 f2
  replace f3 := cell_up hb23 f3
  replace k0 := cell_up hb23 k0
  replace k1 := cell_up hb23 k1
  replace k2 := cell_up hb23 k2
  replace k3 := cell_up hb23 k3
  have p0 := box1 hb3 0 rfl
  have p1 := box1 hb3 1 rfl
  have p2 := box1 hb3 2 rfl
  have p3 := box1 hb3 3 rfl
  have HK3 := hide ((unhide HK2).up hb23)
  have HA3 := hide ((unhide HA).up hb23)
  have hd := hO3.dev
  have HBB := hide hO3.dev
  obtain ⟨⟨i1, lap1, rfl, _⟩, ⟨i2, lap2, rfl, _⟩, ⟨i3, lap3, rfl, _⟩⟩ := hd
  have l3 : w2.heap.size < w3.heap.size := World.block_lt_of_cell? w3 _ p0
  have n1 : w.heap.size + 1 < w3.heap.size := by omega
  have n2 : w1.heap.size < w3.heap.size := by omega
  clear hO3 hb3 hb23 HK2 HA
  go_wp2_with fail
  refine (sameDevices_f _ _ _ _ _ _ (fluD D E) F _ ((unhide HA3).up (bl1 _ _)) ((unhide HBB).up (bl1 _ _))).mono ?_
  rintro e w4 ⟨rfl, hb4⟩
  have hb34 := bl_trans (bl1 _ _) hb4
  have HB4 := hide (bl_trans (unhide HB3) hb34)
  replace f0 := cell_up hb34 f0
  replace f1 := cell_up hb34 f1
  replace f2 := cell_up hb34 f2
  replace f3 := cell_up hb34 f3
  replace k0 := cell_up hb34 k0
  replace k1 := cell_up hb34 k1
  replace k2 := cell_up hb34 k2
  replace k3 := cell_up hb34 k3
  have HK4 := hide ((unhide HK3).up hb34)
  clear hb4 hb34 p0 p1 p2 p3
  go_wp2_with fail
  refine (sameDevices_f _ _ _ _ _ _ D G _ (unhide HK4) ((unhide HD).up (unhide HB4))).mono ?_
  rintro e w5 ⟨rfl, hb5⟩
  go_wp2
  go_ret
  exact ⟨rfl, bl_trans (unhide HB4) hb5⟩
end Go.Proofs.Ytoppjdoekbmgiaa
