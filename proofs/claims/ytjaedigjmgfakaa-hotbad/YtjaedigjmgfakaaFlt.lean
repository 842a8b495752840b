import Derived.Test.YtjaedigjmgfakaaChk3
namespace Go.Proofs.Ytjaedigjmgfakaa
open Go.RowKit
set_option linter.unusedVariables false
set_option linter.unusedSimpArgs false

theorem volB_ref (vm L sy : Int) (go : Bool) (hvm : 0 ≤ vm) (hL : 0 ≤ L) : volB vm L sy go = !(decide (vm < L) || !inB sy 0 L || (go && decide (0 < L))) := by
  cases go <;> simp [volB, inB] <;> by_cases h1 : L ≤ vm <;> by_cases h2 : 0 ≤ sy <;> by_cases h3 : sy ≤ L <;> by_cases h4 : L ≤ 0 <;> simp [*] <;> omega

end Go.Proofs.Ytjaedigjmgfakaa
