/- tier.Next. -/
import Derived.Test.YtdgmdapijhbocaaGreatTidq
namespace Go.Proofs.YtdgmdapijhbocaaGreat
open Go.RowKit Go.Maps
set_option maxRecDepth 100000
set_option linter.unusedVariables false
set_option linter.unusedSimpArgs false
/-- The first of the least class of the first k + 1 that are asked for. -/
def nexK (l : List Ak) : Nat → Ak
  | 0 => l.getD 0 ak0
  | k + 1 => if (l.getD (k + 1) ak0).cls < (nexK l k).cls then l.getD (k + 1) ak0 else nexK l k
def nexE (S : St) : Int := if stC S then (if S.que.length = 0 then 14 else 0) else 9
def nexA (S : St) : Ak := if stC S then (if S.que.length = 0 then ak0 else nexK S.que (S.que.length - 1)) else ak0
theorem nex_9 {S : St} (h : stC S = false) : nexE S = 9 ∧ nexA S = ak0 := by simp [nexE, nexA, h]
theorem nex_14 {S : St} (h : stC S = true) (h2 : S.que.length = 0) : nexE S = 14 ∧ nexA S = ak0 := by simp [nexE, nexA, h, h2]
theorem nex_0 {S : St} (h : stC S = true) (h2 : ¬ S.que.length = 0) : nexE S = 0 ∧ nexA S = nexK S.que (S.que.length - 1) := by simp [nexE, nexA, h, h2]
abbrev akB (x : Ak) : Array Value := #[.int .i64 x.ver, .int .i64 x.days, .int .i64 x.cls]
theorem ret_ask {X Y : Ak} {a b : Int} (h : X = Y) (h2 : a = b) : Ending.returned (.tuple #[.agg #[.int .i64 X.ver, .int .i64 X.days, .int .i64 X.cls], .int .i64 a]) = .returned (.tuple #[.agg #[.int .i64 Y.ver, .int .i64 Y.days, .int .i64 Y.cls], .int .i64 b]) := by rw [h, h2]
theorem tcell_of {w : World} {g : Nat} {c : Array Value} {t : TypeId} {fz : Nat × Nat} (h : w.heap[g]? = some (.cells c t fz)) (j : Nat) {v : Value} (hv : c[j]? = some v) : w.cell? ⟨g, j, none⟩ = some v := by simp [World.cell?, h, hv]
theorem tfz_of {w : World} {g : Nat} {c : Array Value} {t : TypeId} (h : w.heap[g]? = some (.cells c t (0, 0))) (i : Nat) : w.frozen? ⟨g, i, none⟩ = false := by simp [World.frozen?, h]
theorem t_blk {w w1 : World} {g : Nat} {o : Obj} (h : w.heap[g]? = some o) (hb : Below w.heap.size w w1) : w1.heap[g]? = some o := (hb.block _ (Array.getElem?_eq_some_iff.1 h).1).trans h
theorem t_new1 (w : World) (o : Obj) : (w.alloc o).heap[w.heap.size]? = some o := heap_alloc_new w o
theorem t_new2 (w : World) (o o2 : Obj) : ((w.alloc o).alloc o2).heap[w.heap.size + 1]? = some o2 := by simpa using heap_alloc_new (w.alloc o) o2
theorem row3 {w : World} {g : Nat} {t : TypeId} {a0 a1 a2 : Value} (h : w.heap[g]? = some (.cells #[a0, a1, a2] t (0, 0))) (v0 v1 v2 : Value) :
    (((w.setCell ⟨g, 0, none⟩ v0).setCell ⟨g, 1, none⟩ v1).setCell ⟨g, 2, none⟩ v2).heap[g]? = some (.cells #[v0, v1, v2] t (0, 0)) := by
  replace h := heap_setCell_same w g 0 _ t v0 h
  replace h := heap_setCell_same _ g 1 _ t v1 h
  replace h := heap_setCell_same _ g 2 _ t v2 h
  exact h
end Go.Proofs.YtdgmdapijhbocaaGreat
