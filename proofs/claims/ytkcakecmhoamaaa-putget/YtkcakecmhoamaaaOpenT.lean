/- How texts that came in are read: the kit's own lemma. -/
import Derived.Test.YtkcakecmhoamaaaOpen0
import Derived.ChangeMaps5
namespace Go.Proofs.Ytkcakecmhoamaaa
theorem opened_text : True := trivial
end Go.Proofs.Ytkcakecmhoamaaa
