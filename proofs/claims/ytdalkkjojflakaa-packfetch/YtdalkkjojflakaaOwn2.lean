/- One write more in the cache of devices of one's own. -/
import Derived.Test.YtdalkkjojflakaaOwn
namespace Go.Proofs.Ytdalkkjojflakaa
open Go.RowKit
set_option linter.unusedVariables false
set_option linter.unusedSimpArgs false

/-- One write more at the end of the cache of devices of one's own, as an append leaves it. -/
theorem ODev.wrote {w w3 : World} {B : Nat} {s c v : Value} {D : Dv} {us : List Value} (h : ODev w B s c v D) (hc : w.ownsRow B 94 2 c D.cache.length us) (hin : WrsIn w B us D.cache) (hg : w.grownBy w3 c.ownBlock) {c' u : Value} {y : Wr}
    (hown : w3.ownsRow B 94 2 c' (D.cache.length + 1) (us ++ [.int .i64 y.pos, u])) (hu : Own w B u y.data) : ODev w3 B s c' v ⟨D.safe, D.cache ++ [y], D.vols, D.fuel⟩ := by
  obtain ⟨⟨us1, s1, s2⟩, _, ⟨uv, v1, v2⟩⟩ := h
  have f : ∀ u ys, Own w B u ys → Own w3 B u ys := fun u ys q => own_two q hc (by decide) hg
  exact ⟨⟨us1, own_two s1 hc (by decide) hg, s2.imp f⟩, ⟨_, by simpa using hown, hin.push f (f _ _ hu)⟩, ⟨uv, own_two v1 hc (by decide) hg, v2.imp f⟩⟩
end Go.Proofs.Ytdalkkjojflakaa
