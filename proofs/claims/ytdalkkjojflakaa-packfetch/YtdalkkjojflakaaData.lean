/- What devices in memory are, as plain lists. -/
import Derived.Test.YtdalkkjojflakaaBase
namespace Go.Proofs.Ytdalkkjojflakaa
open Go.RowKit
set_option linter.unusedVariables false
set_option linter.unusedSimpArgs false

/-- A slice value of bytes. -/
def Bts (w : World) (v : Value) (xs : List Int) : Prop :=
  ∃ a cap, v = .slice a xs.length cap ∧ xs.length ≤ cap ∧ cap ≤ maxLen ∧ ∀ i, i < xs.length → ∃ b o, a = some ⟨b, o, none⟩ ∧ w.cell? ⟨b, o + i, none⟩ = some (.int .u8 (xs.getD i 0))

structure Wr where
  pos : Int
  data : List Int
structure Vo where
  data : List Int
  synced : Int
  gone : Bool
structure Dv where
  safe : List (List Int)
  cache : List Wr
  vols : List Vo
  fuel : Int

def RowsAt (w : World) (v : Value) (xs : List (List Int)) : Prop :=
  ∃ a cap, v = .slice a xs.length cap ∧ xs.length ≤ cap ∧ cap ≤ maxLen ∧ ∀ i, i < xs.length → ∃ b o, a = some ⟨b, o, none⟩ ∧ ∃ u, w.cell? ⟨b, o + i, none⟩ = some u ∧ Bts w u (xs.getD i [])
def WrsAt (w : World) (v : Value) (xs : List Wr) : Prop :=
  ∃ a cap, v = .slice a xs.length cap ∧ xs.length ≤ cap ∧ cap ≤ maxLen ∧ ∀ i, i < xs.length → ∃ b o, a = some ⟨b, o, none⟩ ∧ w.cell? ⟨b, o + i * 2, none⟩ = some (.int .i64 (xs.getD i ⟨0, []⟩).pos) ∧ ∃ u, w.cell? ⟨b, o + i * 2 + 1, none⟩ = some u ∧ Bts w u (xs.getD i ⟨0, []⟩).data
def VosAt (w : World) (v : Value) (xs : List Vo) : Prop :=
  ∃ a cap, v = .slice a xs.length cap ∧ xs.length ≤ cap ∧ cap ≤ maxLen ∧ ∀ i, i < xs.length → ∃ b o, a = some ⟨b, o, none⟩ ∧ (∃ u, w.cell? ⟨b, o + i * 3, none⟩ = some u ∧ Bts w u (xs.getD i ⟨[], 0, false⟩).data) ∧
    w.cell? ⟨b, o + i * 3 + 1, none⟩ = some (.int .i64 (xs.getD i ⟨[], 0, false⟩).synced) ∧ w.cell? ⟨b, o + i * 3 + 2, none⟩ = some (.bool (xs.getD i ⟨[], 0, false⟩).gone)
def Dev (w : World) (s c v : Value) (D : Dv) : Prop := RowsAt w s D.safe ∧ WrsAt w c D.cache ∧ VosAt w v D.vols

theorem cell_up {w w' : World} (hb : Below w.heap.size w w') {p : Addr} {v : Value} (h : w.cell? p = some v) : w'.cell? p = some v :=
  (hb.cell (World.block_lt_of_cell? w p h)).trans h
theorem Bts.up {w w' : World} {v : Value} {xs : List Int} (h : Bts w v xs) (hb : Below w.heap.size w w') : Bts w' v xs := by
  obtain ⟨a, cap, rfl, h1, h2, h3⟩ := h
  refine ⟨a, cap, rfl, h1, h2, fun i hi => ?_⟩
  obtain ⟨b, o, e, hc⟩ := h3 i hi
  exact ⟨b, o, e, cell_up hb hc⟩
theorem RowsAt.up {w w' : World} {v : Value} {xs : List (List Int)} (h : RowsAt w v xs) (hb : Below w.heap.size w w') : RowsAt w' v xs := by
  obtain ⟨a, cap, rfl, h1, h2, h3⟩ := h
  refine ⟨a, cap, rfl, h1, h2, fun i hi => ?_⟩
  obtain ⟨b, o, e, u, hc, hu⟩ := h3 i hi
  exact ⟨b, o, e, u, cell_up hb hc, hu.up hb⟩
theorem WrsAt.up {w w' : World} {v : Value} {xs : List Wr} (h : WrsAt w v xs) (hb : Below w.heap.size w w') : WrsAt w' v xs := by
  obtain ⟨a, cap, rfl, h1, h2, h3⟩ := h
  refine ⟨a, cap, rfl, h1, h2, fun i hi => ?_⟩
  obtain ⟨b, o, e, hp, u, hc, hu⟩ := h3 i hi
  exact ⟨b, o, e, cell_up hb hp, u, cell_up hb hc, hu.up hb⟩
theorem VosAt.up {w w' : World} {v : Value} {xs : List Vo} (h : VosAt w v xs) (hb : Below w.heap.size w w') : VosAt w' v xs := by
  obtain ⟨a, cap, rfl, h1, h2, h3⟩ := h
  refine ⟨a, cap, rfl, h1, h2, fun i hi => ?_⟩
  obtain ⟨b, o, e, ⟨u, hc, hu⟩, hs, hg⟩ := h3 i hi
  exact ⟨b, o, e, ⟨u, cell_up hb hc, hu.up hb⟩, cell_up hb hs, cell_up hb hg⟩
theorem Dev.up {w w' : World} {s c v : Value} {D : Dv} (h : Dev w s c v D) (hb : Below w.heap.size w w') : Dev w' s c v D := ⟨h.1.up hb, h.2.1.up hb, h.2.2.up hb⟩
end Go.Proofs.Ytdalkkjojflakaa
