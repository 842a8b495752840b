/- icehouselaw.StateChecks: the walk. -/
import Derived.Test.YtmdaecdkkibomaaRfc
namespace Go.Proofs.Ytmdaecdkkibomaa
open Go.RowKit Go.Maps
set_option maxRecDepth 100000
set_option linter.unusedVariables false
set_option linter.unusedSimpArgs false
set_option maxHeartbeats 1000000 in
theorem stateChecks_walk (b v u q g : Value) (S : St) (w : World) (hS : Sta w b v u q g S) :
    Calls Try.prog 6 #[stV S b v u q g] w fun e w' => e = .returned (.bool true) ∧ Below w.heap.size w w' := by
  have HS := hide hS
  clear hS
  go_enter Try.func6, Try.ntmps6
  go_wp2_with fail
  refine (check_any S b v u q g _ ((unhide HS).up (bl1 _ _))).mono ?_
  rintro e w1 ⟨rfl, hb⟩
  have hX := (BoxS.new w S b v u q g 35).up hb
  have x0 := hX.c0
  have x1 := hX.c1
  have x2 := hX.c2
  have x3 := hX.c3
  have x4 := hX.c4
  have x5 := hX.c5
  have x6 := hX.c6
  have hw1 := bl_trans (bl1 w _) hb
  clear hX hb
  obtain ⟨E, hE⟩ : ∃ E, stE S = E := ⟨_, rfl⟩
  rw [hE]
  have HE := hide hE
  clear hE
  go_wp2_with fail
  refine (stateMay_any S b v u q g _ ((unhide HS).up hw1)).mono ?_
  rintro e w2 ⟨rfl, hb2⟩
  clear x0 x1 x2 x3 x4 x5 x6
  rw [st_eq]
  cases hc : stC S
  · have he : E = 9 := by rw [← unhide HE]; exact stE_f hc
    subst he
    go_wp2
    go_ret
    exact ⟨rfl, bl_trans hw1 hb2⟩
  · have he : E = 0 := by rw [← unhide HE]; exact stE_t hc
    subst he
    go_wp2
    go_ret
    exact ⟨rfl, bl_trans hw1 hb2⟩
end Go.Proofs.Ytmdaecdkkibomaa
