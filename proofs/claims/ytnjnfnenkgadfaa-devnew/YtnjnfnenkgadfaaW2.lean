import Derived.Test.YtnjnfnenkgadfaaNewOf
import Derived.Test.YtnjnfnenkgadfaaSame2
namespace Go.Proofs.Ytnjnfnenkgadfaa
open Go.RowKit
set_option linter.unusedVariables false
set_option linter.unusedSimpArgs false
set_option maxHeartbeats 1000000 in
theorem devNew_walk (r a h vm nv : Int) (w : World) :
    Calls Try.prog 4 #[.agg #[.int .i64 r, .int .i64 a, .int .i64 h, .int .i64 vm, .int .i64 nv]] w fun e w' => e = .returned (.bool true) ∧ Below w.heap.size w w' := by
  go_enter Try.func4, Try.ntmps4
  go_wp2_with fail
  refine (new_any r a h vm nv _).mono ?_
  rintro e w1 ⟨s, c, v, rfl, hO1, hb1⟩
  have hb0 : Below w.heap.size w w1 := bl_trans (bl1 _ _) hb1
  have g0 := box1 hb1 0 rfl
  have g1 := box1 hb1 1 rfl
  have g2 := box1 hb1 2 rfl
  have g3 := box1 hb1 3 rfl
  have g4 := box1 hb1 4 rfl
  have hd := hO1.dev
  have HO1 := hide hO1.dev
  obtain ⟨⟨a1, cap1, rfl, _⟩, ⟨a2, cap2, rfl, _⟩, ⟨a3, cap3, rfl, _⟩⟩ := hd
  clear hO1
  obtain ⟨F, hF⟩ : ∃ F, (newD r a h vm nv).fuel = F := ⟨_, rfl⟩
  have HF := hide hF
  rw [hF]
  clear hF
  clear hb1
  have hw1 := hb0.size
  have hgl : w.heap.size < w1.heap.size := World.block_lt_of_cell? w1 _ g0
  go_wp2_with fail
  refine (newOf_any r a h vm nv _).mono ?_
  rintro e w2 ⟨s', c', v', rfl, hO2, hb2⟩
  have hd := hO2.dev
  have HO2 := hide hO2.dev
  have k0 := box1 hb2 0 rfl
  have k1 := box1 hb2 1 rfl
  have k2 := box1 hb2 2 rfl
  have k3 := box1 hb2 3 rfl
  have hb3 : Below w1.heap.size w1 w2 := bl_trans (bl1 _ _) hb2
  have HO1' := hide ((unhide HO1).up hb3)
  obtain ⟨⟨b1, dap1, rfl, _⟩, ⟨b2, dap2, rfl, _⟩, ⟨b3, dap3, rfl, _⟩⟩ := hd
  clear hO2 hb2
  rw [unhide HF]
  have hgl2 : w1.heap.size < w2.heap.size := World.block_lt_of_cell? w2 _ k0
  go_wp2_with fail
  refine (sameDevices_f _ _ _ _ _ _ (newD r a h vm nv) F _ ((unhide HO1').up (bl1 _ _)) ((unhide HO2).up (bl1 _ _))).mono ?_
  rintro e w4 ⟨rfl, hb4⟩
  go_wp2
  go_ret
  exact ⟨rfl, bl_trans (bl_trans hb0 hb3) (bl_trans (bl1 _ _) hb4)⟩
end Go.Proofs.Ytnjnfnenkgadfaa
