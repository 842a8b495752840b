/- icehouselaw.StateFree: the walk. -/
import Derived.Test.YtmdaecdkkibomaaFrf
namespace Go.Proofs.Ytmdaecdkkibomaa
open Go.RowKit Go.Maps
set_option maxRecDepth 100000
set_option linter.unusedVariables false
set_option linter.unusedSimpArgs false
theorem freL_wf (S : St) (m : Int) : ∀ x ∈ freL S m, (Lit.int .i64 x).wf = true := by
  intro x hx
  unfold freL at hx
  split at hx
  · rename_i h
    unfold freE at h
    split at h
    · split at h
      · rename_i h2
        have := inB_t h2
        exact freK_wf (k := m.toNat) (by omega) x hx
      · cases h
    · cases h
  · cases hx
set_option maxHeartbeats 1000000 in
theorem stateFree_walk (b v u q g : Value) (S : St) (m : Int) (w : World) (hS : Sta w b v u q g S) (hm : (Lit.int .i64 m).wf = true) :
    Calls Try.prog 8 #[stV S b v u q g, .int .i64 m] w fun e w' => e = .returned (.bool true) ∧ Below w.heap.size w w' := by
  have HS := hide hS
  clear hS hm
  go_enter Try.func8, Try.ntmps8
  go_wp2_with fail
  refine (free_any S b v u q g m _ ((unhide HS).up (bl1 _ _))).mono ?_
  rintro e w1 ⟨o1, rfl, hO1, hb⟩
  have hX := (BoxS.new w S b v u q g 35).up hb
  have x0 := hX.c0
  have x1 := hX.c1
  have x2 := hX.c2
  have x3 := hX.c3
  have x4 := hX.c4
  have x5 := hX.c5
  have x6 := hX.c6
  have hw1 := bl_trans (bl1 w _) hb
  have HI1 := hide (hO1.ints (freL_wf S m))
  clear hX hb hO1
  obtain ⟨E, hE⟩ : ∃ E, freE S m = E := ⟨_, rfl⟩
  rw [hE]
  have HE := hide hE
  clear hE
  go_wp2_with fail
  refine (freeOf_any S b v u q g m _ ((unhide HS).up hw1)).mono ?_
  rintro e w2 ⟨o2, rfl, hO2, hb2⟩
  have HI2 := hide (hO2.ints (freL_wf S m))
  rw [unhide HE]
  clear x0 x1 x2 x3 x4 x5 x6 hO2
  go_wp2_with fail
  refine (sameInts_any o1 o2 (freL S m) _ (Ints.up hb2 (unhide HI1)) (unhide HI2)).mono ?_
  rintro e w3 ⟨rfl, hb3⟩
  go_wp2
  go_ret
  exact ⟨rfl, bl_trans (bl_trans hw1 hb2) hb3⟩
end Go.Proofs.Ytmdaecdkkibomaa
