/- dev.Mark. -/
import Derived.Test.YtdalkkjojflakaaCut
import Derived.Test.YtdalkkjojflakaaPut
namespace Go.Proofs.Ytdalkkjojflakaa
open Go.RowKit
set_option maxRecDepth 100000
set_option linter.unusedVariables false
set_option linter.unusedSimpArgs false

theorem cutV_mark (vs : List Vo) : vs.map (cutV fun y => y.data.length) = vs.map markV := by
  apply List.map_congr_left
  intro y _
  simp [cutV, markV, pad_same]
theorem Fits.volD {D : Dv} (h : Fits D) {i : Nat} (hi : i < D.vols.length) : (D.vols.getD i vo0).data.length ≤ 140737488355328 := h.vol i hi
theorem own_far {w : World} {B : Nat} {s c v : Value} {D : Dv} (h : ODev w B s c v D) {g : Nat} {t : TypeId} {cs : List Value} (hr : Row w g t cs) (ht : 79 ≠ t) : some g ≠ v.ownBlock := by
  obtain ⟨us, h1, _⟩ := h.vols
  exact Ne.symm (own_apart h1 hr ht)
theorem own_from {w : World} {B : Nat} {s c v : Value} {D : Dv} (h : ODev w B s c v D) : ∀ j, v.ownBlock = some j → B ≤ j := by
  obtain ⟨us, h1, _⟩ := h.vols
  exact fun j hj => (World.ownsRow.lt h1 j hj).1

end Go.Proofs.Ytdalkkjojflakaa
