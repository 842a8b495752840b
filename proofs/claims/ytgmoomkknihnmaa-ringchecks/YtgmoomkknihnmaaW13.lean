/- The law of ring.Check: the walk. -/
import Derived.Test.YtgmoomkknihnmaaRngC
namespace Go.Proofs.Ytgmoomkknihnmaa
open Go.RowKit
set_option maxRecDepth 100000
set_option linter.unusedVariables false
set_option linter.unusedSimpArgs false
set_option maxHeartbeats 1000000 in
theorem ringChecks_walk (r a h v n ge ep ar le st fi pl ne us : Int) (w : World) :
    Calls Try.prog 3 #[.agg #[.int .i64 r, .int .i64 a, .int .i64 h, .int .i64 v, .int .i64 n], .agg #[.int .i64 ge, .int .i64 ep, .int .i64 ar, .int .i64 le, .int .i64 st, .int .i64 fi, .int .i64 pl, .int .i64 ne, .int .i64 us]] w fun e w' => e = .returned (.bool true) ∧ Below w.heap.size w w' := by
  obtain ⟨E, hE⟩ : ∃ E, jouE r a h v n ge ep ar le st fi pl ne us = E := ⟨_, rfl⟩
  have HE := hide hE
  clear hE
  go_enter Try.func3, Try.ntmps3
  go_wp2_with fail
  refine (ringCheck_any r a h v n ge ep ar le st fi pl ne us _).mono ?_
  rintro e w1 ⟨rfl, hb1⟩
  rw [unhide HE]
  have f0 := box2b hb1 0 rfl
  have f1 := box2b hb1 1 rfl
  have f2 := box2b hb1 2 rfl
  have f3 := box2b hb1 3 rfl
  have f4 := box2b hb1 4 rfl
  have f5 := box2b hb1 5 rfl
  have f6 := box2b hb1 6 rfl
  have f7 := box2b hb1 7 rfl
  have f8 := box2b hb1 8 rfl
  have g0 := box2a hb1 0 rfl
  have g1 := box2a hb1 1 rfl
  have g2 := box2a hb1 2 rfl
  have g3 := box2a hb1 3 rfl
  have g4 := box2a hb1 4 rfl
  go_wp2_with fail
  refine (journalFault_any r a h v n ge ep ar le st fi pl ne us _).mono ?_
  rintro e w2 ⟨rfl, hb2⟩
  rw [unhide HE]
  go_wp2
  go_ret
  exact ⟨ret_bool (by simp), bl_trans (bl_trans (bl2 _ _ _) hb1) hb2⟩
end Go.Proofs.Ytgmoomkknihnmaa
