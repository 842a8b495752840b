/- icehouselaw.StateCopies: the walk. -/
import Derived.Test.YtclnabbojhbmhaaSms
import Derived.Test.YtclnabbojhbmhaaCpo
namespace Go.Proofs.Ytclnabbojhbmhaa
open Go.RowKit Go.Maps
set_option maxRecDepth 100000
set_option linter.unusedVariables false
set_option linter.unusedSimpArgs false
set_option maxHeartbeats 2000000 in
theorem stateCopies_walk (b v u q g : Value) (S : St) (w : World) (hS : Sta w b v u q g S) (hF : FitS S) :
    Calls Try.prog 7 #[stV S b v u q g] w fun e w' => e = .returned (.bool true) ∧ Below w.heap.size w w' := by
  have HS := hide hS
  have HF := hide hF
  clear hS hF
  go_enter Try.func7, Try.ntmps7
  go_wp2_with fail
  refine (copy_any S b v u q g _ ((unhide HS).up (bl1 _ _)) (unhide HF)).mono ?_
  rintro e w1 ⟨b', v', u', q', g', rfl, hO, hb⟩
  have hX := (BoxS.new w S b v u q g 35).up hb
  have x0 := hX.c0
  have x1 := hX.c1
  have x2 := hX.c2
  have x3 := hX.c3
  have x4 := hX.c4
  have x5 := hX.c5
  have x6 := hX.c6
  have hlt := hX.lt
  have hw1 := bl_trans (bl1 w _) hb
  have HN := hide (hO.sta (unhide HS).wfs)
  obtain ⟨ba, bc, rfl, _⟩ := own_form hO.bus
  obtain ⟨va, vc, rfl, _⟩ := hO.ves.form
  obtain ⟨ua, uc, rfl, _⟩ := hO.ups.form
  obtain ⟨qa, qc, rfl, _⟩ := own_form hO.que
  obtain ⟨ga, gc, rfl, _⟩ := own_form hO.gone
  clear hX hb hO
  go_wp2_with fail
  refine (sameState_any S _ _ _ _ _ b v u q g _ ((unhide HN).up (bl1 _ _)) ((unhide HS).up (bl_alloc hw1 _))).mono ?_
  rintro e w2 ⟨rfl, hb2⟩
  go_wp2
  go_ret
  exact ⟨rfl, bl_trans (bl_alloc hw1 _) hb2⟩
end Go.Proofs.Ytclnabbojhbmhaa
