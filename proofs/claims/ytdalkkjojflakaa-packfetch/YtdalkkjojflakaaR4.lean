/- Four stores into a devices' box. -/
import Derived.Test.YtdalkkjojflakaaDvs
namespace Go.Proofs.Ytdalkkjojflakaa
open Go.RowKit
set_option linter.unusedVariables false
set_option linter.unusedSimpArgs false

theorem have_of {p q : Prop} (hp : p) (h : p → q) : q := h hp
theorem R4 {w : World} {g : Nat} {t : TypeId} {a0 b0 c0 d0 : Value} (h : Row w g t [a0, b0, c0, d0]) (a b c d : Value) : Row ((((w.setCell ⟨g, 0, none⟩ a).setCell ⟨g, 1, none⟩ b).setCell ⟨g, 2, none⟩ c).setCell ⟨g, 3, none⟩ d) g t [a, b, c, d] := (((h.set 0 a).set 1 b).set 2 c).set 3 d
theorem O4 {w : World} {B g : Nat} {s c v : Value} {D : Dv} (h : ODev w B s c v D) {cs : List Value} (hr : Row w g 37 cs) (a b x d : Value) : ODev ((((w.setCell ⟨g, 0, none⟩ a).setCell ⟨g, 1, none⟩ b).setCell ⟨g, 2, none⟩ x).setCell ⟨g, 3, none⟩ d) B s c v D :=
  h.kept hr (by decide) (by decide) (by decide) (by decide) (gb_set (gb_set (gb_set (gb_set (gb_refl _ _) _ _) _ _) _ _) _ _)
end Go.Proofs.Ytdalkkjojflakaa
