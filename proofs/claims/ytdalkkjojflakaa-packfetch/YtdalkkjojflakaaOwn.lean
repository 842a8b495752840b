/- One element of a list of one's own is written anew. -/
import Derived.Test.YtdalkkjojflakaaOne
namespace Go.Proofs.Ytdalkkjojflakaa
open Go.RowKit
set_option linter.unusedVariables false
set_option linter.unusedSimpArgs false

theorem own_open {w : World} {B : Nat} {e : TypeId} {size : Nat} {v : Value} {n : Nat} {xs : List Value} (h : w.ownsRow B e size v n xs) (hn : 0 < n) :
    ∃ g cap cur, v = .slice (some ⟨g, 0, none⟩) n cap ∧ B ≤ g ∧ Row w g e cur ∧ n ≤ cap ∧ cap ≤ maxLen := by
  rcases h.2 with ⟨_, h0⟩ | ⟨g, cap, cur, rfl, hB, hg, h1, h2, _⟩
  · omega
  · exact ⟨g, cap, cur.toList, rfl, hB, by unfold Row; simpa using hg, h1, h2⟩
theorem own_set {w : World} {B : Nat} {e : TypeId} {size : Nat} {g n cap : Nat} {xs : List Value} (h : w.ownsRow B e size (.slice (some ⟨g, 0, none⟩) n cap) n xs) (j : Nat) (u : Value) :
    (w.setCell ⟨g, j, none⟩ u).ownsRow B e size (.slice (some ⟨g, 0, none⟩) n cap) n (xs.set j u) := by
  refine ⟨by rw [List.length_set]; exact h.1, ?_⟩
  rcases h.2 with ⟨hv, _⟩ | ⟨g', cap', cur, hv, hB, hg, h1, h2, h3, h4⟩
  · simp at hv
  · simp at hv
    obtain ⟨rfl, rfl⟩ := hv
    have hr : Row w g e cur.toList := by unfold Row; simpa using hg
    have hs := hr.set j u
    refine .inr ⟨g, cap, (cur.toList.set j u).toArray, rfl, hB, hs, h1, h2, by simpa using h3, ?_⟩
    rw [← h4]
    simp [List.take_set]
theorem Own.nil (w : World) (B : Nat) : Own w B (.slice none 0 0) [] := ⟨by simp [u8s], .inl ⟨rfl, rfl⟩⟩
theorem VosIn.put {w w' : World} {B : Nat} {us : List Value} {xs : List Vo} (h : VosIn w B us xs) (f : ∀ u ys, Own w B u ys → Own w' B u ys) {x : Nat} (hx : x < xs.length) {u : Value} {y : Vo} (hu : Own w' B u y.data) :
    VosIn w' B (((us.set (x * 3) u).set (x * 3 + 1) (.int .i64 y.synced)).set (x * 3 + 2) (.bool y.gone)) (xs.set x y) := by
  obtain ⟨hl, hv⟩ := h
  refine ⟨by simp [hl], fun i hi => ?_⟩
  have hi' : i < xs.length := by simpa using hi
  by_cases e : i = x
  · subst e
    have e1 : (xs.set i y).getD i ⟨[], 0, false⟩ = y := by simp [List.getD, hi']
    rw [e1]
    refine ⟨⟨u, ?_, hu⟩, ?_, ?_⟩
    · rw [List.getElem?_set_ne (by omega), List.getElem?_set_ne (by omega), List.getElem?_set_self (by omega)]
    · rw [List.getElem?_set_ne (by omega), List.getElem?_set_self (by simp; omega)]
    · rw [List.getElem?_set_self (by simp; omega)]
  · have e1 : (xs.set x y).getD i ⟨[], 0, false⟩ = xs.getD i ⟨[], 0, false⟩ := by simp [List.getD, List.getElem?_set_ne (Ne.symm e)]
    rw [e1]
    obtain ⟨⟨q, q1, q2⟩, q3, q4⟩ := hv i hi'
    refine ⟨⟨q, ?_, f _ _ q2⟩, ?_, ?_⟩
    · rw [List.getElem?_set_ne (by omega), List.getElem?_set_ne (by omega), List.getElem?_set_ne (by omega)]; exact q1
    · rw [List.getElem?_set_ne (by omega), List.getElem?_set_ne (by omega), List.getElem?_set_ne (by omega)]; exact q3
    · rw [List.getElem?_set_ne (by omega), List.getElem?_set_ne (by omega), List.getElem?_set_ne (by omega)]; exact q4
/-- One volume of devices of one's own is written anew. -/
theorem ODev.vol {w : World} {B : Nat} {s c v : Value} {D : Dv} (h : ODev w B s c v D) {x : Nat} (hx : x < D.vols.length) :
    ∃ g cap cur, v = .slice (some ⟨g, 0, none⟩) D.vols.length cap ∧ B ≤ g ∧ Row w g 79 cur ∧ D.vols.length ≤ cap ∧ cap ≤ maxLen ∧ (∃ u, w.cell? ⟨g, x * 3, none⟩ = some u ∧ Own w B u (D.vols.getD x ⟨[], 0, false⟩).data) ∧ w.cell? ⟨g, x * 3 + 1, none⟩ = some (.int .i64 (D.vols.getD x ⟨[], 0, false⟩).synced) ∧ w.cell? ⟨g, x * 3 + 2, none⟩ = some (.bool (D.vols.getD x ⟨[], 0, false⟩).gone) ∧
      ∀ (u : Value) (y : Vo), Own w B u y.data → ODev (((w.setCell ⟨g, x * 3, none⟩ u).setCell ⟨g, x * 3 + 1, none⟩ (.int .i64 y.synced)).setCell ⟨g, x * 3 + 2, none⟩ (.bool y.gone)) B s c v ⟨D.safe, D.cache, D.vols.set x y, D.fuel⟩ := by
  obtain ⟨⟨us, s1, s2⟩, ⟨uc, c1, c2⟩, ⟨uv, v1, v2⟩⟩ := h
  obtain ⟨g, cap, cur, rfl, hB, hr, h1, h2⟩ := own_open v1 (by omega)
  obtain ⟨⟨q, q1, q2⟩, q3, q4⟩ := v2.2 x hx
  have hc : ∀ j u, uv[j]? = some u → w.cell? ⟨g, j, none⟩ = some u := fun j u hj => by
    obtain ⟨g', cap', e, hh⟩ := own_cell v1 hj
    simp at e
    rw [e.1]; exact hh
  refine ⟨g, cap, cur, rfl, hB, hr, h1, h2, ⟨q, hc _ _ q1, q2⟩, hc _ _ q3, hc _ _ q4, fun u y hu => ?_⟩
  have hg : w.grownBy (((w.setCell ⟨g, x * 3, none⟩ u).setCell ⟨g, x * 3 + 1, none⟩ (.int .i64 y.synced)).setCell ⟨g, x * 3 + 2, none⟩ (.bool y.gone)) (some g) := gb_set (gb_set (gb_set (gb_refl _ _) _ _) _ _) _ _
  have f : ∀ u ys, Own w B u ys → Own _ B u ys := fun u ys q => q.kept hr (by decide) hg
  refine ⟨⟨us, World.ownsRow.kept s1 hg (.inr (own_apart s1 hr (by decide))), s2.imp f⟩, ⟨uc, World.ownsRow.kept c1 hg (.inr (own_apart c1 hr (by decide))), c2.imp f⟩, ⟨_, ?_, v2.put f hx (f _ _ hu)⟩⟩
  have := own_set (own_set (own_set v1 (x * 3) u) (x * 3 + 1) (.int .i64 y.synced)) (x * 3 + 2) (.bool y.gone)
  simpa using this
end Go.Proofs.Ytdalkkjojflakaa
