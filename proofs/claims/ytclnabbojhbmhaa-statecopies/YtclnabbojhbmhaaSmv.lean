/- Versions that are held against each other. -/
import Derived.Test.YtclnabbojhbmhaaCpe
namespace Go.Proofs.Ytclnabbojhbmhaa
open Go.RowKit Go.Maps
set_option maxRecDepth 100000
set_option linter.unusedVariables false
set_option linter.unusedSimpArgs false
set_option maxHeartbeats 1000000 in
theorem sameVersion_any (X : Ve) (x y : Value) (w : World) (hx : Ints w x X.sec) (hy : Ints w y X.sec) : Calls Try.prog 25 #[veV X x, veV X y] w fun e w' => e = .returned (.bool true) ∧ Below w.heap.size w w' := by
  obtain ⟨a, ac, rfl, a1, a2⟩ := hx.form
  obtain ⟨b, bc, rfl, b1, b2⟩ := hy.form
  have HX := hide hx
  have HY := hide hy
  clear hx hy
  go_enter Try.func25, Try.ntmps25
  go_wp2_with fail
  refine (sameInts_any _ _ X.sec _ (Ints.up (bl_alloc (bl1 _ _) _) (unhide HX)) (Ints.up (bl_alloc (bl1 _ _) _) (unhide HY))).mono ?_
  rintro e w1 ⟨rfl, hb1⟩
  go_wp2
  go_ret
  exact ⟨rfl, bl_trans (bl_alloc (bl1 _ _) _) hb1⟩
end Go.Proofs.Ytclnabbojhbmhaa
