/- Small facts that all texts use: worlds that only grow. -/
import Derived.Test.YtdgmdapijhbocaaGreatRows
import Derived.WalkKit
import Derived.WalkSpells
import Derived.WalkLawsBesides
import Derived.Below
import Derived.BigQuiet
namespace Go.Proofs.YtdgmdapijhbocaaGreat
open Go.RowKit
set_option linter.unusedVariables false
set_option linter.unusedSimpArgs false

theorem bl_alloc {a w : World} (h : Below a.heap.size a w) (o : Obj) : Below a.heap.size a (w.alloc o) := h.alloc h.size o
theorem bl_set {a w : World} (h : Below a.heap.size a w) {p : Addr} (hp : a.heap.size ≤ p.block) (u : Value) : Below a.heap.size a (w.setCell p u) := h.setCell hp u
theorem bl_trans {a b c : World} (h : Below a.heap.size a b) (k : Below b.heap.size b c) : Below a.heap.size a c := h.trans (k.mono h.size)
theorem hide {p : Prop} (h : p) : Hid p := h
theorem unhide {p : Prop} (h : Hid p) : p := h
theorem ret_int {k : IntKind} {a b : Int} (h : a = b) : Ending.returned (.int k a) = .returned (.int k b) := by rw [h]
theorem ret_bool {a b : Bool} (h : a = b) : Ending.returned (.bool a) = .returned (.bool b) := by rw [h]

/-- The cells of the boxes in which a call lays its parameters, in every later world. -/
theorem box1 {w w1 : World} {c0 : Array Value} {t0 : TypeId} (hb : Below (w.alloc (.cells c0 t0)).heap.size (w.alloc (.cells c0 t0)) w1) (j : Nat) {v : Value} (h : c0[j]? = some v) : w1.cell? ⟨w.heap.size, j, none⟩ = some v := by
  rw [hb.cell (p := ⟨w.heap.size, j, none⟩) (by simp), World.cell?_alloc_at _ _ _ _ rfl]; exact h
theorem box2a {w w1 : World} {c0 c1 : Array Value} {t0 t1 : TypeId} (hb : Below ((w.alloc (.cells c0 t0)).alloc (.cells c1 t1)).heap.size ((w.alloc (.cells c0 t0)).alloc (.cells c1 t1)) w1) (j : Nat) {v : Value} (h : c0[j]? = some v) : w1.cell? ⟨w.heap.size, j, none⟩ = some v := by
  rw [hb.cell (p := ⟨w.heap.size, j, none⟩) (by simp; omega), World.cell?_alloc_past _ _ _ (by simp), World.cell?_alloc_at _ _ _ _ rfl]; exact h
theorem box2b {w w1 : World} {c0 c1 : Array Value} {t0 t1 : TypeId} (hb : Below ((w.alloc (.cells c0 t0)).alloc (.cells c1 t1)).heap.size ((w.alloc (.cells c0 t0)).alloc (.cells c1 t1)) w1) (j : Nat) {v : Value} (h : c1[j]? = some v) : w1.cell? ⟨w.heap.size + 1, j, none⟩ = some v := by
  rw [hb.cell (p := ⟨w.heap.size + 1, j, none⟩) (by simp), World.cell?_alloc_at _ _ _ _ (by simp)]; exact h

/-- A world that has grown out of w: what was there is as it was. -/
structure Later (w : World) where
  to : World
  below : Below w.heap.size w to
theorem Later.one (w : World) : Nonempty (Later w) := ⟨⟨w, Below.refl _ _⟩⟩
theorem Later.cell {w : World} (d : Later w) {p : Addr} {v : Value} (h : w.cell? p = some v) : d.to.cell? p = some v :=
  (d.below.cell (World.block_lt_of_cell? w p h)).trans h
/-- A region that draws its order, whose operations read what was there and whose callees make new memory at the most: one walk in the order of the text serves every order. -/
theorem wp_region_later {P : Program} {id : Nat} {Q : Exit → Act → World → Prop} {a : Act} {w : World} {l : List Oper} (hm : P.follows .mixedOrders = true) (hB : Region.lexB .any l.toArray = true)
    (h : wpQuiet P l.toArray (fun w' => ∃ d : Later w, w' = d.to) (fun a' => ∀ w', (∃ d : Later w, w' = d.to) → Q .normal a' w') l a) : (Code.region id l.toArray true).wp P Q a w :=
  wp_region_quiet (C := fun w' => ∃ d : Later w, w' = d.to) hm hB ⟨⟨w.drew, (Below.refl _ _).drew⟩, rfl⟩ (by simpa using h)
theorem Calls.later {P : Program} {f : FuncId} {args : Array Value} {w : World} {d : Later w} {v : Value}
    (h : Calls P f args d.to fun e w' => e = .returned v ∧ Below d.to.heap.size d.to w') : Calls P f args d.to fun e w'' => e = .returned v ∧ ∃ d' : Later w, w'' = d'.to :=
  h.mono fun _ w' ⟨he, hb⟩ => ⟨he, ⟨w', bl_trans d.below hb⟩, rfl⟩
theorem Calls.later_same {P : Program} {f : FuncId} {args : Array Value} {w : World} {d : Later w} {v : Value}
    (h : Calls P f args d.to fun e w' => e = .returned v ∧ d.to = w') : Calls P f args d.to fun e w'' => e = .returned v ∧ ∃ d' : Later w, w'' = d'.to :=
  h.mono fun _ w' ⟨he, hb⟩ => ⟨he, d, hb.symm⟩
end Go.Proofs.YtdgmdapijhbocaaGreat
