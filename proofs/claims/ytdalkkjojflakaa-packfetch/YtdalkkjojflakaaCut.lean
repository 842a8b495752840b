/- dev.cut, of the two ways in which it is called. -/
import Derived.Test.YtdalkkjojflakaaMkO
namespace Go.Proofs.Ytdalkkjojflakaa
open Go.RowKit
set_option maxRecDepth 100000
set_option linter.unusedVariables false
set_option linter.unusedSimpArgs false
attribute [local go_sem ↓] Go.wp_at_zero Go.wp_at_succ

theorem gb_fresh {a w : World} {r : Option Nat} (h : a.grownBy w r) {p : Addr} (hp : a.heap.size ≤ p.block) (u : Value) : a.grownBy (w.setCell p u) r :=
  ⟨h.os, h.tape, h.output, by simpa [World.setCell] using h.size, fun k hk hne => (Below.heap_setCell _ _ _ _ (fun e => by omega)).trans (h.block k hk hne)⟩
def cutV (n : Vo → Nat) (y : Vo) : Vo := ⟨pad (n y) y.data, n y, y.gone⟩
/-- A volume's bytes and what is synced of them are written anew. -/
theorem ODev.cutAt {w : World} {B : Nat} {s c : Value} {g nv cv : Nat} {D : Dv} (h : ODev w B s c (.slice (some ⟨g, 0, none⟩) nv cv) D) {x : Nat} (hx : x < D.vols.length) (u : Value) (ys : List Int) (n : Int) (hu : Own w B u ys) :
    ODev ((w.setCell ⟨g, x * 3, none⟩ u).setCell ⟨g, x * 3 + 1, none⟩ (.int .i64 n)) B s c (.slice (some ⟨g, 0, none⟩) nv cv) ⟨D.safe, D.cache, D.vols.set x ⟨ys, n, (D.vols.getD x vo0).gone⟩, D.fuel⟩ := by
  obtain ⟨g1, _, e1, _, _, _, _, _, h1, _⟩ := h.volD hx
  simp at e1
  subst e1
  have h2 := h1 u ys hu
  obtain ⟨g2, _, e2, _, _, _, _, _, _, h3⟩ := h2.volD (x := x) (by simpa using hx)
  simp at e2
  subst e2
  have h4 := h3 n
  have e : (D.vols.set x ⟨ys, (D.vols.getD x vo0).synced, (D.vols.getD x vo0).gone⟩).getD x vo0 = ⟨ys, (D.vols.getD x vo0).synced, (D.vols.getD x vo0).gone⟩ := by
    simp [List.getD, List.getElem?_set_self hx]
  simp only [e, List.set_set] at h4
  exact h4

end Go.Proofs.Ytdalkkjojflakaa
