/- piece.Size: a piece takes six bytes more than its body. -/
import Derived.Test.YtdgmdapijhbocaaGreatG1
namespace Go.Proofs.YtdgmdapijhbocaaGreat
open Go.RowKit
set_option linter.unusedVariables false
set_option linter.unusedSimpArgs false
theorem pSize_any (n : Int) (w : World) (h0 : -1000000 ≤ n) (h1 : n ≤ 1000000) :
    Calls Tryz.prog 113 #[.int .i64 n] w fun e w' => e = .returned (.int .i64 (6 + n)) ∧ w = w' := by
  have HW : Hid (IntKind.i64.wrap (6 + n) = 6 + n) := Go.IntWalk.i64_in _ (by omega)
  go_enter Tryz.func113, Tryz.ntmps113
  go_wp2
  go_ret
  exact ⟨by first | rfl | rw [unhide HW], rfl⟩
end Go.Proofs.YtdgmdapijhbocaaGreat
