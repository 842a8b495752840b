/- tier.Freeze, Drop, Chill, Next. -/
import Derived.Test.YtdalkkjojflakaaTic
namespace Go.Proofs.Ytdalkkjojflakaa
open Go.RowKit Go.Maps
set_option maxRecDepth 100000
set_option linter.unusedVariables false
set_option linter.unusedSimpArgs false
def idsL (S : St) (p : Ve → Bool) : List Int := if stC S then idsK S.ves p S.ves.length else []
theorem idsL_f {S : St} {p : Ve → Bool} (h : stC S = false) : idsL S p = [] := by simp [idsL, h]
theorem idsL_t {S : St} {p : Ve → Bool} (h : stC S = true) : idsL S p = idsK S.ves p S.ves.length := by simp [idsL, h]
theorem idsL_wf (S : St) (p : Ve → Bool) : ∀ x ∈ idsL S p, (Lit.int .i64 x).wf = true := by
  cases h : stC S
  · rw [idsL_f h]; intro x hx; cases hx
  · rw [idsL_t h]; exact ids_wf h p _
end Go.Proofs.Ytdalkkjojflakaa
