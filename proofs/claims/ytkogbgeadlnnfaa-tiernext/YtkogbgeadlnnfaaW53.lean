/- icehouselaw.TierNext: the walk. -/
import Derived.Test.YtkogbgeadlnnfaaTii
namespace Go.Proofs.Ytkogbgeadlnnfaa
open Go.RowKit Go.Maps
set_option maxRecDepth 100000
set_option linter.unusedVariables false
set_option linter.unusedSimpArgs false
set_option maxHeartbeats 1000000 in
theorem tierNext_walk (b v u q g : Value) (S : St) (w : World) (hS : Sta w b v u q g S) :
    Calls Try.prog 6 #[stV S b v u q g] w fun e w' => e = .returned (.bool true) ∧ Below w.heap.size w w' := by
  have HS := hide hS
  clear hS
  go_enter Try.func6, Try.ntmps6
  go_wp2_with fail
  refine (tNext_any S b v u q g _ ((unhide HS).up (bl1 _ _))).mono ?_
  rintro e w1 ⟨rfl, hb⟩
  have hX := (BoxS.new w S b v u q g 28).up hb
  have x0 := hX.c0
  have x1 := hX.c1
  have x2 := hX.c2
  have x3 := hX.c3
  have x4 := hX.c4
  have x5 := hX.c5
  have x6 := hX.c6
  have hl := hX.lt
  have hw1 := bl_trans (bl1 w _) hb
  clear hX hb
  obtain ⟨E, hE⟩ : ∃ E, nexE S = E := ⟨_, rfl⟩
  obtain ⟨A, hA⟩ : ∃ A, nexA S = A := ⟨_, rfl⟩
  rw [hE, hA]
  have HE := hide hE
  have HA := hide hA
  clear hE hA
  go_wp2_with fail
  refine (nextOf_any S b v u q g _ ((unhide HS).up (bl_alloc hw1 _))).mono ?_
  rintro e w2 ⟨rfl, hb2⟩
  rw [unhide HE, unhide HA]
  have hr := t_blk (t_new1 _ _) hb2
  have z0 := tcell_of hr 0 rfl
  have z1 := tcell_of hr 1 rfl
  have z2 := tcell_of hr 2 rfl
  have hl2 : w1.heap.size < w2.heap.size := World.block_lt_of_cell? w2 _ z0
  have hw2 := bl_trans (bl_alloc hw1 _) hb2
  clear x0 x1 x2 x3 x4 x5 x6 hr hb2
  go_wp2
  go_ret
  exact ⟨rfl, bl_alloc hw2 _⟩
end Go.Proofs.Ytkogbgeadlnnfaa
