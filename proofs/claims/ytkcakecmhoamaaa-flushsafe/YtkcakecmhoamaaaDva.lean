/- icehousekeep.devices, at a number that is written out. -/
import Derived.Test.YtkcakecmhoamaaaDvc
namespace Go.Proofs.Ytkcakecmhoamaaa
open Go.RowKit
set_option maxRecDepth 100000
set_option linter.unusedVariables false
theorem devices_at (lv : Value) (rs : List Rw) (most : Nat) (m : Int) (hmm : (most : Int) = m) (w : World) (hR : Raws w lv rs) (hm : most ≤ 100) :
    Calls Try.prog 50 #[.agg #[.int .i64 6, .int .i64 2, .int .i64 6, .int .i64 300, .int .i64 3], lv, .int .i64 m] w fun e w' =>
      ∃ s c v D, e = .returned (.tuple #[.agg #[s, c, v, .int .i64 D.fuel], .bool true]) ∧ Dev w' s c v D ∧ DvI D most ∧ Below w.heap.size w w' := by
  subst hmm
  exact devices_any lv rs most w hR hm
theorem DvI.craE {D : Dv} {m : Nat} (h : DvI D m) {t : Int} (ht : ¬ t < 0) : craE t (chkE 6 2 6 300 3 D) = 0 := by rw [h.chk]; exact craE_ok ht
end Go.Proofs.Ytkcakecmhoamaaa
