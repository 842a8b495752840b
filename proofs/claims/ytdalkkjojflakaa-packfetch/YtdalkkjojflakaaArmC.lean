/- dev.Arm. -/
import Derived.Test.YtdalkkjojflakaaArmR
import Derived.Test.YtdalkkjojflakaaCpy
namespace Go.Proofs.Ytdalkkjojflakaa
open Go.RowKit
set_option linter.unusedVariables false
set_option linter.unusedSimpArgs false

end Go.Proofs.Ytdalkkjojflakaa
