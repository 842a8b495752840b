/- What a state in memory is, as plain lists. -/
import Derived.Test.YtdalkkjojflakaaInB
namespace Go.Proofs.Ytdalkkjojflakaa
open Go.RowKit
set_option linter.unusedVariables false
set_option linter.unusedSimpArgs false

structure Bu where
  nam : ByteArray
  mode : Int
  pre : ByteArray
  fre : Int
  dro : Int
structure Ve where
  id : Int
  bu : ByteArray
  ke : ByteArray
  nul : Bool
  mar : Bool
  size : Int
  time : Int
  tier : Int
  sec : List Int
  vol : Int
  pos : Int
  til : Int
structure Pa where
  n : Int
  size : Int
  sec : List Int
structure Up where
  id : Int
  bu : ByteArray
  ke : ByteArray
  parts : List Pa
structure Ak where
  ver : Int
  days : Int
  cls : Int
structure St where
  next : Int
  clock : Int
  bus : List Bu
  ves : List Ve
  ups : List Up
  que : List Ak
  gone : List Int
def bu0 : Bu := ⟨.empty, 0, .empty, 0, 0⟩
def ve0 : Ve := ⟨0, .empty, .empty, false, false, 0, 0, 0, [], 0, 0, 0⟩
def pa0 : Pa := ⟨0, 0, []⟩
def up0 : Up := ⟨0, .empty, .empty, []⟩
def ak0 : Ak := ⟨0, 0, 0⟩

/-- A slice value whose elements, each so many cells, are told by R. -/
def Lst {α : Type} (R : World → Nat → Nat → α → Prop) (size : Nat) (d : α) (w : World) (v : Value) (xs : List α) : Prop :=
  ∃ a cap, v = .slice a xs.length cap ∧ xs.length ≤ cap ∧ cap ≤ maxLen ∧ ∀ i, i < xs.length → ∃ b o, a = some ⟨b, o, none⟩ ∧ R w b (o + i * size) (xs.getD i d)
def RInt (w : World) (b p : Nat) (x : Int) : Prop := w.cell? ⟨b, p, none⟩ = some (.int .i64 x) ∧ (Lit.int .i64 x).wf = true
abbrev Ints (w : World) (v : Value) (xs : List Int) : Prop := Lst RInt 1 0 w v xs
structure RBu (w : World) (b p : Nat) (x : Bu) : Prop where
  c0 : w.cell? ⟨b, p, none⟩ = some (.string x.nam)
  c1 : w.cell? ⟨b, p + 1, none⟩ = some (.int .i64 x.mode)
  c2 : w.cell? ⟨b, p + 2, none⟩ = some (.string x.pre)
  c3 : w.cell? ⟨b, p + 3, none⟩ = some (.int .i64 x.fre)
  c4 : w.cell? ⟨b, p + 4, none⟩ = some (.int .i64 x.dro)
  s0 : x.nam.size ≤ maxLen
  s2 : x.pre.size ≤ maxLen
structure RVe (w : World) (b p : Nat) (x : Ve) : Prop where
  c0 : w.cell? ⟨b, p, none⟩ = some (.int .i64 x.id)
  c1 : w.cell? ⟨b, p + 1, none⟩ = some (.string x.bu)
  c2 : w.cell? ⟨b, p + 2, none⟩ = some (.string x.ke)
  c3 : w.cell? ⟨b, p + 3, none⟩ = some (.bool x.nul)
  c4 : w.cell? ⟨b, p + 4, none⟩ = some (.bool x.mar)
  c5 : w.cell? ⟨b, p + 5, none⟩ = some (.int .i64 x.size)
  c6 : w.cell? ⟨b, p + 6, none⟩ = some (.int .i64 x.time)
  c7 : w.cell? ⟨b, p + 7, none⟩ = some (.int .i64 x.tier)
  c8 : ∃ u, w.cell? ⟨b, p + 8, none⟩ = some u ∧ Ints w u x.sec
  c9 : w.cell? ⟨b, p + 9, none⟩ = some (.int .i64 x.vol)
  c10 : w.cell? ⟨b, p + 10, none⟩ = some (.int .i64 x.pos)
  c11 : w.cell? ⟨b, p + 11, none⟩ = some (.int .i64 x.til)
  s1 : x.bu.size ≤ maxLen
  s2 : x.ke.size ≤ maxLen
structure RPa (w : World) (b p : Nat) (x : Pa) : Prop where
  c0 : w.cell? ⟨b, p, none⟩ = some (.int .i64 x.n)
  c1 : w.cell? ⟨b, p + 1, none⟩ = some (.int .i64 x.size)
  c2 : ∃ u, w.cell? ⟨b, p + 2, none⟩ = some u ∧ Ints w u x.sec
structure RUp (w : World) (b p : Nat) (x : Up) : Prop where
  c0 : w.cell? ⟨b, p, none⟩ = some (.int .i64 x.id)
  c1 : w.cell? ⟨b, p + 1, none⟩ = some (.string x.bu)
  c2 : w.cell? ⟨b, p + 2, none⟩ = some (.string x.ke)
  c3 : ∃ u, w.cell? ⟨b, p + 3, none⟩ = some u ∧ Lst RPa 3 pa0 w u x.parts
  s1 : x.bu.size ≤ maxLen
  s2 : x.ke.size ≤ maxLen
structure RAk (w : World) (b p : Nat) (x : Ak) : Prop where
  c0 : w.cell? ⟨b, p, none⟩ = some (.int .i64 x.ver)
  c1 : w.cell? ⟨b, p + 1, none⟩ = some (.int .i64 x.days)
  c2 : w.cell? ⟨b, p + 2, none⟩ = some (.int .i64 x.cls)
  wv : (Lit.int .i64 x.ver).wf = true
structure Sta (w : World) (b v u q g : Value) (S : St) : Prop where
  bus : Lst RBu 5 bu0 w b S.bus
  ves : Lst RVe 12 ve0 w v S.ves
  ups : Lst RUp 4 up0 w u S.ups
  que : Lst RAk 3 ak0 w q S.que
  gone : Ints w g S.gone

theorem scell_up {w w' : World} (hb : Below w.heap.size w w') {p : Addr} {v : Value} (h : w.cell? p = some v) : w'.cell? p = some v :=
  (hb.cell (World.block_lt_of_cell? w p h)).trans h
theorem Lst.imp {α : Type} {R R' : World → Nat → Nat → α → Prop} {size : Nat} {d : α} {w w' : World} {v : Value} {xs : List α} (h : Lst R size d w v xs) (f : ∀ b p x, R w b p x → R' w' b p x) : Lst R' size d w' v xs := by
  obtain ⟨a, cap, e, h1, h2, h3⟩ := h
  refine ⟨a, cap, e, h1, h2, fun i hi => ?_⟩
  obtain ⟨b, o, e, hc⟩ := h3 i hi
  exact ⟨b, o, e, f _ _ _ hc⟩
section
variable {w w' : World} (hb : Below w.heap.size w w')
include hb
theorem Ints.up {v : Value} {xs : List Int} (h : Ints w v xs) : Ints w' v xs := h.imp fun _ _ _ r => ⟨scell_up hb r.1, r.2⟩
theorem RBu.up {b p : Nat} {x : Bu} (h : RBu w b p x) : RBu w' b p x := ⟨scell_up hb h.c0, scell_up hb h.c1, scell_up hb h.c2, scell_up hb h.c3, scell_up hb h.c4, h.s0, h.s2⟩
theorem RVe.up {b p : Nat} {x : Ve} (h : RVe w b p x) : RVe w' b p x := by
  obtain ⟨u, k, hu⟩ := h.c8
  exact ⟨scell_up hb h.c0, scell_up hb h.c1, scell_up hb h.c2, scell_up hb h.c3, scell_up hb h.c4, scell_up hb h.c5, scell_up hb h.c6, scell_up hb h.c7, ⟨u, scell_up hb k, Ints.up hb hu⟩, scell_up hb h.c9, scell_up hb h.c10, scell_up hb h.c11, h.s1, h.s2⟩
theorem RPa.up {b p : Nat} {x : Pa} (h : RPa w b p x) : RPa w' b p x := by
  obtain ⟨u, k, hu⟩ := h.c2
  exact ⟨scell_up hb h.c0, scell_up hb h.c1, ⟨u, scell_up hb k, Ints.up hb hu⟩⟩
theorem RUp.up {b p : Nat} {x : Up} (h : RUp w b p x) : RUp w' b p x := by
  obtain ⟨u, k, hu⟩ := h.c3
  exact ⟨scell_up hb h.c0, scell_up hb h.c1, scell_up hb h.c2, ⟨u, scell_up hb k, hu.imp fun _ _ _ r => RPa.up hb r⟩, h.s1, h.s2⟩
theorem RAk.up {b p : Nat} {x : Ak} (h : RAk w b p x) : RAk w' b p x := ⟨scell_up hb h.c0, scell_up hb h.c1, scell_up hb h.c2, h.wv⟩
theorem Sta.up {b v u q g : Value} {S : St} (h : Sta w b v u q g S) : Sta w' b v u q g S :=
  ⟨h.bus.imp fun _ _ _ r => RBu.up hb r, h.ves.imp fun _ _ _ r => RVe.up hb r, h.ups.imp fun _ _ _ r => RUp.up hb r, h.que.imp fun _ _ _ r => RAk.up hb r, Ints.up hb h.gone⟩
end
end Go.Proofs.Ytdalkkjojflakaa
