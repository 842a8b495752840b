/- dev.Crash. -/
import Derived.Test.YtdalkkjojflakaaBol
namespace Go.Proofs.Ytdalkkjojflakaa
open Go.RowKit
set_option maxRecDepth 100000
set_option linter.unusedVariables false
set_option linter.unusedSimpArgs false
section
variable {w w1 : World} {c0 c1 c2 c3 c4 : List Value} {t0 t1 t2 t3 t4 : TypeId}
theorem b5b (hb : Below (((((w.alloc (.cells c0.toArray t0)).alloc (.cells c1.toArray t1)).alloc (.cells c2.toArray t2)).alloc (.cells c3.toArray t3)).alloc (.cells c4.toArray t4)).heap.size (((((w.alloc (.cells c0.toArray t0)).alloc (.cells c1.toArray t1)).alloc (.cells c2.toArray t2)).alloc (.cells c3.toArray t3)).alloc (.cells c4.toArray t4)) w1) : Row w1 (w.heap.size + 1) t1 c1 :=
  ((Row.newAt (w := w.alloc (.cells c0.toArray t0)) rfl (by simp)).up (bl3 _ _ _ _)).up hb
theorem b5c (hb : Below (((((w.alloc (.cells c0.toArray t0)).alloc (.cells c1.toArray t1)).alloc (.cells c2.toArray t2)).alloc (.cells c3.toArray t3)).alloc (.cells c4.toArray t4)).heap.size (((((w.alloc (.cells c0.toArray t0)).alloc (.cells c1.toArray t1)).alloc (.cells c2.toArray t2)).alloc (.cells c3.toArray t3)).alloc (.cells c4.toArray t4)) w1) : Row w1 (w.heap.size + 1 + 1) t2 c2 :=
  ((Row.newAt (w := (w.alloc (.cells c0.toArray t0)).alloc (.cells c1.toArray t1)) rfl (by simp)).up (bl2 _ _ _)).up hb
theorem b5d (hb : Below (((((w.alloc (.cells c0.toArray t0)).alloc (.cells c1.toArray t1)).alloc (.cells c2.toArray t2)).alloc (.cells c3.toArray t3)).alloc (.cells c4.toArray t4)).heap.size (((((w.alloc (.cells c0.toArray t0)).alloc (.cells c1.toArray t1)).alloc (.cells c2.toArray t2)).alloc (.cells c3.toArray t3)).alloc (.cells c4.toArray t4)) w1) : Row w1 (w.heap.size + 1 + 1 + 1) t3 c3 :=
  ((Row.newAt (w := ((w.alloc (.cells c0.toArray t0)).alloc (.cells c1.toArray t1)).alloc (.cells c2.toArray t2)) rfl (by simp)).up (bl1 _ _)).up hb
theorem b5e (hb : Below (((((w.alloc (.cells c0.toArray t0)).alloc (.cells c1.toArray t1)).alloc (.cells c2.toArray t2)).alloc (.cells c3.toArray t3)).alloc (.cells c4.toArray t4)).heap.size (((((w.alloc (.cells c0.toArray t0)).alloc (.cells c1.toArray t1)).alloc (.cells c2.toArray t2)).alloc (.cells c3.toArray t3)).alloc (.cells c4.toArray t4)) w1) : Row w1 (w.heap.size + 1 + 1 + 1 + 1) t4 c4 :=
  (Row.newAt (w := (((w.alloc (.cells c0.toArray t0)).alloc (.cells c1.toArray t1)).alloc (.cells c2.toArray t2)).alloc (.cells c3.toArray t3)) rfl (by simp)).up hb
theorem b5 (hb : Below (((((w.alloc (.cells c0.toArray t0)).alloc (.cells c1.toArray t1)).alloc (.cells c2.toArray t2)).alloc (.cells c3.toArray t3)).alloc (.cells c4.toArray t4)).heap.size (((((w.alloc (.cells c0.toArray t0)).alloc (.cells c1.toArray t1)).alloc (.cells c2.toArray t2)).alloc (.cells c3.toArray t3)).alloc (.cells c4.toArray t4)) w1) : Below w.heap.size w w1 :=
  bl_trans (bl_trans (bl3 _ _ _ _) (bl2 _ _ _)) hb
end

end Go.Proofs.Ytdalkkjojflakaa
