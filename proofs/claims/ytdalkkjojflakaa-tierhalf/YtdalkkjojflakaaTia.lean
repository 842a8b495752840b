/- tier's closures: what a rule is for; versions on tape. -/
import Derived.Test.YtdalkkjojflakaaFre
namespace Go.Proofs.Ytdalkkjojflakaa
open Go.RowKit Go.Maps
set_option maxRecDepth 100000
set_option linter.unusedVariables false
set_option linter.unusedSimpArgs false
/-- Does a text begin with another? -/
def pfB (s t : ByteArray) : Bool := if t.size ≤ s.size then (s.extract 0 t.size).toList == t.toList else false
def ageN (dr : Bool) (Y : Bu) : Int := if dr then Y.dro else Y.fre
/-- Is a rule's number for a version? -/
def ageP (S : St) (X : Ve) (dr : Bool) (Y : Bu) : Bool := ((eqS Y.nam X.bu && decide (0 ≤ ageN dr Y)) && pfB X.ke Y.pre) && decide (ageN dr Y ≤ S.clock - X.time)
structure BoxV (w : World) (B : Nat) (X : Ve) (u : Value) : Prop where
  c0 : w.cell? ⟨B, 0, none⟩ = some (.int .i64 X.id)
  c1 : w.cell? ⟨B, 1, none⟩ = some (.string X.bu)
  c2 : w.cell? ⟨B, 2, none⟩ = some (.string X.ke)
  c3 : w.cell? ⟨B, 3, none⟩ = some (.bool X.nul)
  c4 : w.cell? ⟨B, 4, none⟩ = some (.bool X.mar)
  c5 : w.cell? ⟨B, 5, none⟩ = some (.int .i64 X.size)
  c6 : w.cell? ⟨B, 6, none⟩ = some (.int .i64 X.time)
  c7 : w.cell? ⟨B, 7, none⟩ = some (.int .i64 X.tier)
  c8 : w.cell? ⟨B, 8, none⟩ = some u
  c9 : w.cell? ⟨B, 9, none⟩ = some (.int .i64 X.vol)
  c10 : w.cell? ⟨B, 10, none⟩ = some (.int .i64 X.pos)
  c11 : w.cell? ⟨B, 11, none⟩ = some (.int .i64 X.til)
theorem BoxV.up {w w' : World} {B : Nat} {X : Ve} {u : Value} (h : BoxV w B X u) (hb : Below w.heap.size w w') : BoxV w' B X u := ⟨scell_up hb h.c0, scell_up hb h.c1, scell_up hb h.c2, scell_up hb h.c3, scell_up hb h.c4, scell_up hb h.c5, scell_up hb h.c6, scell_up hb h.c7, scell_up hb h.c8, scell_up hb h.c9, scell_up hb h.c10, scell_up hb h.c11⟩
theorem BoxV.lt {w : World} {B : Nat} {X : Ve} {u : Value} (h : BoxV w B X u) : B < w.heap.size := World.block_lt_of_cell? w _ h.c0
abbrev veB (X : Ve) (o : Value) : Array Value := #[.int .i64 X.id, .string X.bu, .string X.ke, .bool X.nul, .bool X.mar, .int .i64 X.size, .int .i64 X.time, .int .i64 X.tier, o, .int .i64 X.vol, .int .i64 X.pos, .int .i64 X.til]
theorem BoxV.new (w : World) (X : Ve) (u : Value) (t : TypeId) : BoxV (w.alloc (.cells (veB X u) t)) w.heap.size X u := by
  constructor <;> (rw [World.cell?_alloc_at _ _ _ _ rfl]; rfl)
theorem BoxV.at (w : World) (X : Ve) (u : Value) (t : TypeId) {B : Nat} (hB : B = w.heap.size) : BoxV (w.alloc (.cells (veB X u) t)) B X u := by subst hB; exact BoxV.new w X u t
end Go.Proofs.Ytdalkkjojflakaa
