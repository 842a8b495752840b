import Derived.Test.YtdalkkjojflakaaData
namespace Go.Proofs.Ytdalkkjojflakaa
open Go.RowKit
set_option linter.unusedVariables false
set_option linter.unusedSimpArgs false
/-- Three boxes. -/
def w3 (w : World) (c0 c1 c2 : Array Value) (t0 t1 t2 : TypeId) : World := ((w.alloc (.cells c0 t0)).alloc (.cells c1 t1)).alloc (.cells c2 t2)
section
variable {w w1 : World} {c0 c1 c2 : Array Value} {t0 t1 t2 : TypeId}
theorem box3a (hb : Below (((w.alloc (.cells c0 t0)).alloc (.cells c1 t1)).alloc (.cells c2 t2)).heap.size (((w.alloc (.cells c0 t0)).alloc (.cells c1 t1)).alloc (.cells c2 t2)) w1) (j : Nat) {v : Value} (h : c0[j]? = some v) : w1.cell? ⟨w.heap.size, j, none⟩ = some v := by
  rw [hb.cell (p := ⟨w.heap.size, j, none⟩) (by simp; omega), World.cell?_alloc_past _ _ _ (by simp; omega), World.cell?_alloc_past _ _ _ (by simp), World.cell?_alloc_at _ _ _ _ rfl]; exact h
theorem box3b (hb : Below (((w.alloc (.cells c0 t0)).alloc (.cells c1 t1)).alloc (.cells c2 t2)).heap.size (((w.alloc (.cells c0 t0)).alloc (.cells c1 t1)).alloc (.cells c2 t2)) w1) (j : Nat) {v : Value} (h : c1[j]? = some v) : w1.cell? ⟨w.heap.size + 1, j, none⟩ = some v := by
  rw [hb.cell (p := ⟨w.heap.size + 1, j, none⟩) (by simp), World.cell?_alloc_past _ _ _ (by simp), World.cell?_alloc_at _ _ _ _ (by simp)]; exact h
theorem box3c (hb : Below (((w.alloc (.cells c0 t0)).alloc (.cells c1 t1)).alloc (.cells c2 t2)).heap.size (((w.alloc (.cells c0 t0)).alloc (.cells c1 t1)).alloc (.cells c2 t2)) w1) (j : Nat) {v : Value} (h : c2[j]? = some v) : w1.cell? ⟨w.heap.size + 1 + 1, j, none⟩ = some v := by
  rw [hb.cell (p := ⟨w.heap.size + 1 + 1, j, none⟩) (by simp), World.cell?_alloc_at _ _ _ _ (by simp)]; exact h
end
theorem bl3 (w : World) (o1 o2 o3 : Obj) : Below w.heap.size w (((w.alloc o1).alloc o2).alloc o3) := bl_alloc (bl_alloc (bl_alloc (Below.refl _ _) _) _) _
theorem bl2 (w : World) (o1 o2 : Obj) : Below w.heap.size w ((w.alloc o1).alloc o2) := bl_alloc (bl_alloc (Below.refl _ _) _) _
theorem bl1 (w : World) (o1 : Obj) : Below w.heap.size w (w.alloc o1) := bl_alloc (Below.refl _ _) _
theorem Bts.nil (w : World) : Bts w (.slice none 0 0) [] := ⟨none, 0, rfl, Nat.le_refl _, Nat.zero_le _, fun i hi => absurd hi (Nat.not_lt_zero _)⟩
theorem RowsAt.one {w : World} {u : Value} {xs : List Int} {t : TypeId} (h : Bts w u xs) : RowsAt (w.alloc (.cells #[u] t)) (.slice (some ⟨w.heap.size, 0, none⟩) 1 1) [xs] := by
  refine ⟨_, 1, rfl, Nat.le_refl _, by decide, fun i hi => ⟨w.heap.size, 0, rfl, u, ?_, ?_⟩⟩
  · obtain rfl : i = 0 := by simp at hi; omega
    rw [World.cell?_alloc_at _ _ _ _ rfl]; rfl
  · obtain rfl : i = 0 := by simp at hi; omega
    exact h.up (bl1 _ _)
end Go.Proofs.Ytdalkkjojflakaa
