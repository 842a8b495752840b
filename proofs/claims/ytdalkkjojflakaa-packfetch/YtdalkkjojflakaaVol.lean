/- One field of a volume of devices of one's own is written anew; what cutting and marking leave. -/
import Derived.Test.YtdalkkjojflakaaTak
namespace Go.Proofs.Ytdalkkjojflakaa
open Go.RowKit
set_option linter.unusedVariables false
set_option linter.unusedSimpArgs false

abbrev vo0 : Vo := ⟨[], 0, false⟩
theorem list_set_same {α : Type} (l : List α) (i : Nat) (u : α) (h : l[i]? = some u) : l.set i u = l := by
  apply List.ext_getElem?
  intro j
  by_cases e : i = j
  · subst e
    rw [List.getElem?_set_self (List.getElem?_eq_some_iff.1 h).1, h]
  · rw [List.getElem?_set_ne e]
theorem VosIn.dat {w w' : World} {B : Nat} {us : List Value} {xs : List Vo} (h : VosIn w B us xs) (f : ∀ u ys, Own w B u ys → Own w' B u ys) {x : Nat} (hx : x < xs.length) {u : Value} {ys : List Int} (hu : Own w' B u ys) :
    VosIn w' B (us.set (x * 3) u) (xs.set x ⟨ys, (xs.getD x vo0).synced, (xs.getD x vo0).gone⟩) := by
  have h2 := h.put f hx (y := ⟨ys, (xs.getD x vo0).synced, (xs.getD x vo0).gone⟩) hu
  obtain ⟨_, q3, q4⟩ := h.2 x hx
  rw [list_set_same (us.set (x * 3) u) (x * 3 + 1) _ (by rw [List.getElem?_set_ne (by omega)]; exact q3), list_set_same (us.set (x * 3) u) (x * 3 + 2) _ (by rw [List.getElem?_set_ne (by omega)]; exact q4)] at h2
  exact h2
theorem VosIn.syn {w w' : World} {B : Nat} {us : List Value} {xs : List Vo} (h : VosIn w B us xs) (f : ∀ u ys, Own w B u ys → Own w' B u ys) {x : Nat} (hx : x < xs.length) (n : Int) :
    VosIn w' B (us.set (x * 3 + 1) (.int .i64 n)) (xs.set x ⟨(xs.getD x vo0).data, n, (xs.getD x vo0).gone⟩) := by
  obtain ⟨⟨q, q1, q2⟩, q3, q4⟩ := h.2 x hx
  have h2 := h.put f hx (y := ⟨(xs.getD x vo0).data, n, (xs.getD x vo0).gone⟩) (f _ _ q2)
  rw [list_set_same us (x * 3) _ q1, list_set_same (us.set (x * 3 + 1) _) (x * 3 + 2) _ (by rw [List.getElem?_set_ne (by omega)]; exact q4)] at h2
  exact h2
/-- A volume's fields, and what a store into one of them leaves. -/
theorem ODev.volD {w : World} {B : Nat} {s c : Value} {av : Option Addr} {nv cv : Nat} {D : Dv} (h : ODev w B s c (.slice av nv cv) D) {x : Nat} (hx : x < D.vols.length) :
    ∃ g cur, av = some ⟨g, 0, none⟩ ∧ B ≤ g ∧ Row w g 79 cur ∧ (∃ u, w.cell? ⟨g, x * 3, none⟩ = some u ∧ Own w B u (D.vols.getD x vo0).data) ∧ w.cell? ⟨g, x * 3 + 1, none⟩ = some (.int .i64 (D.vols.getD x vo0).synced) ∧ w.cell? ⟨g, x * 3 + 2, none⟩ = some (.bool (D.vols.getD x vo0).gone) ∧
      (∀ (u : Value) (ys : List Int), Own w B u ys → ODev (w.setCell ⟨g, x * 3, none⟩ u) B s c (.slice av nv cv) ⟨D.safe, D.cache, D.vols.set x ⟨ys, (D.vols.getD x vo0).synced, (D.vols.getD x vo0).gone⟩, D.fuel⟩) ∧
      (∀ n : Int, ODev (w.setCell ⟨g, x * 3 + 1, none⟩ (.int .i64 n)) B s c (.slice av nv cv) ⟨D.safe, D.cache, D.vols.set x ⟨(D.vols.getD x vo0).data, n, (D.vols.getD x vo0).gone⟩, D.fuel⟩) := by
  obtain ⟨⟨us, s1, s2⟩, ⟨uc, c1, c2⟩, ⟨uv, v1, v2⟩⟩ := h
  obtain ⟨g, cap, cur, e, hB, hr, h1, h2⟩ := own_open v1 (by omega)
  injection e with e1 e2 e3
  subst e1
  subst e2
  subst e3
  obtain ⟨⟨q, q1, q2⟩, q3, q4⟩ := v2.2 x hx
  have hc : ∀ j u, uv[j]? = some u → w.cell? ⟨g, j, none⟩ = some u := fun j u hj => by
    obtain ⟨g', cap', e, hh⟩ := own_cell v1 hj
    simp at e
    rw [e.1]; exact hh
  refine ⟨g, cur, rfl, hB, hr, ⟨q, hc _ _ q1, q2⟩, hc _ _ q3, hc _ _ q4, fun u ys hu => ?_, fun n => ?_⟩
  · have hg : w.grownBy (w.setCell ⟨g, x * 3, none⟩ u) (some g) := gb_set (gb_refl _ _) _ _
    have f : ∀ u ys, Own w B u ys → Own _ B u ys := fun u ys q => q.kept hr (by decide) hg
    refine ⟨⟨us, World.ownsRow.kept s1 hg (.inr (own_apart s1 hr (by decide))), s2.imp f⟩, ⟨uc, World.ownsRow.kept c1 hg (.inr (own_apart c1 hr (by decide))), c2.imp f⟩, ⟨_, ?_, v2.dat f hx (f _ _ hu)⟩⟩
    have := own_set v1 (x * 3) u
    simpa using this
  · have hg : w.grownBy (w.setCell ⟨g, x * 3 + 1, none⟩ (.int .i64 n)) (some g) := gb_set (gb_refl _ _) _ _
    have f : ∀ u ys, Own w B u ys → Own _ B u ys := fun u ys q => q.kept hr (by decide) hg
    refine ⟨⟨us, World.ownsRow.kept s1 hg (.inr (own_apart s1 hr (by decide))), s2.imp f⟩, ⟨uc, World.ownsRow.kept c1 hg (.inr (own_apart c1 hr (by decide))), c2.imp f⟩, ⟨_, ?_, v2.syn f hx n⟩⟩
    have := own_set v1 (x * 3 + 1) (.int .i64 n)
    simpa using this
/-- Devices of one's own, where a block of one's own base was left alone. -/
theorem ODev.form {w : World} {B : Nat} {s c v : Value} {D : Dv} (h : ODev w B s c v D) : ∃ sa cs ac cc av cv, s = .slice sa D.safe.length cs ∧ c = .slice ac D.cache.length cc ∧ v = .slice av D.vols.length cv ∧ D.safe.length ≤ cs ∧ cs ≤ maxLen ∧ D.cache.length ≤ cc ∧ cc ≤ maxLen ∧ D.vols.length ≤ cv ∧ cv ≤ maxLen := by
  obtain ⟨⟨us, s1, s2⟩, ⟨uc, c1, c2⟩, ⟨uv, v1, v2⟩⟩ := h
  obtain ⟨sa, cs, rfl, h1, h2⟩ := own_form s1
  obtain ⟨ac, cc, rfl, h3, h4⟩ := own_form c1
  obtain ⟨av, cv, rfl, h5, h6⟩ := own_form v1
  exact ⟨sa, cs, ac, cc, av, cv, rfl, rfl, rfl, h1, h2, h3, h4, h5, h6⟩

/-- The first k volumes are as f makes them. -/
def firstK (f : Vo → Vo) (k : Nat) (vs : List Vo) : List Vo := (vs.take k).map f ++ vs.drop k
theorem firstK_zero (f : Vo → Vo) (vs : List Vo) : firstK f 0 vs = vs := by simp [firstK]
theorem firstK_all (f : Vo → Vo) (vs : List Vo) : firstK f vs.length vs = vs.map f := by simp [firstK]
theorem firstK_length (f : Vo → Vo) (k : Nat) (vs : List Vo) : (firstK f k vs).length = vs.length := by simp [firstK]; omega
theorem firstK_at (f : Vo → Vo) (k : Nat) (vs : List Vo) (h : k < vs.length) : (firstK f k vs).getD k vo0 = vs.getD k vo0 := by
  simp only [List.getD, firstK]
  rw [List.getElem?_append_right (by simp; omega)]
  simp
  congr 2
  omega
theorem firstK_set (f : Vo → Vo) (k : Nat) (vs : List Vo) (h : k < vs.length) : (firstK f k vs).set k (f (vs.getD k vo0)) = firstK f (k + 1) vs := by
  apply List.ext_getElem?
  intro i
  by_cases e : i = k
  · subst e
    rw [List.getElem?_set_self (by rw [firstK_length]; exact h)]
    unfold firstK
    rw [List.getElem?_append_left (by simp; omega)]
    simp [List.getD, h]
  · rw [List.getElem?_set_ne (by omega)]
    unfold firstK
    by_cases h1 : i < k
    · rw [List.getElem?_append_left (by simp; omega), List.getElem?_append_left (by simp; omega), List.getElem?_map, List.getElem?_map, List.getElem?_take, List.getElem?_take, if_pos h1, if_pos (by omega)]
    · rw [List.getElem?_append_right (by simp; omega), List.getElem?_append_right (by simp; omega), List.getElem?_drop, List.getElem?_drop]
      congr 1
      simp
      omega

/-- What marking answers. -/
def markV (y : Vo) : Vo := ⟨y.data, y.data.length, y.gone⟩
def marE (D : Dv) (e : Int) : Int := if e = 0 then (if D.fuel = 0 then 10 else 0) else e
def marD (D : Dv) (e : Int) : Dv := if e = 0 then ⟨D.safe, D.cache, D.vols.map markV, lessF D.fuel⟩ else nilD
theorem marE_bad {D : Dv} {e : Int} (h : e ≠ 0) : marE D e = e := by simp [marE, h]
theorem marE_down {D : Dv} (hf : D.fuel = 0) : marE D 0 = 10 := by simp [marE, hf]
theorem marE_ok {D : Dv} (hf : D.fuel ≠ 0) : marE D 0 = 0 := by simp [marE, hf]
theorem marD_bad {D : Dv} {e : Int} (h : e ≠ 0) : marD D e = nilD := by simp [marD, h]
theorem marD_ok (D : Dv) : marD D 0 = ⟨D.safe, D.cache, D.vols.map markV, lessF D.fuel⟩ := by simp [marD]
end Go.Proofs.Ytdalkkjojflakaa
