/- Rows that are filled place by place. -/
import Derived.Test.YtdalkkjojflakaaDvs
namespace Go.Proofs.Ytdalkkjojflakaa
open Go.RowKit
set_option linter.unusedVariables false
set_option linter.unusedSimpArgs false

def RowsK (w : World) (B : Nat) (us : List Value) (xs : List (List Int)) (k : Nat) : Prop := us.length = xs.length ∧ ∀ i, i < k → ∃ u, us[i]? = some u ∧ Own w B u (xs.getD i [])
def WrsK (w : World) (B : Nat) (us : List Value) (xs : List Wr) (k : Nat) : Prop := us.length = xs.length * 2 ∧ ∀ i, i < k → us[i * 2]? = some (.int .i64 (xs.getD i ⟨0, []⟩).pos) ∧ ∃ u, us[i * 2 + 1]? = some u ∧ Own w B u (xs.getD i ⟨0, []⟩).data
def VosK (w : World) (B : Nat) (us : List Value) (xs : List Vo) (k : Nat) : Prop := us.length = xs.length * 3 ∧ ∀ i, i < k → (∃ u, us[i * 3]? = some u ∧ Own w B u (xs.getD i ⟨[], 0, false⟩).data) ∧ us[i * 3 + 1]? = some (.int .i64 (xs.getD i ⟨[], 0, false⟩).synced) ∧ us[i * 3 + 2]? = some (.bool (xs.getD i ⟨[], 0, false⟩).gone)
section
variable {w w' : World} {B k : Nat} {us : List Value}
theorem RowsK.imp {xs : List (List Int)} (h : RowsK w B us xs k) (f : ∀ u ys, Own w B u ys → Own w' B u ys) : RowsK w' B us xs k :=
  ⟨h.1, fun i hi => let ⟨u, h1, h2⟩ := h.2 i hi; ⟨u, h1, f _ _ h2⟩⟩
theorem WrsK.imp {xs : List Wr} (h : WrsK w B us xs k) (f : ∀ u ys, Own w B u ys → Own w' B u ys) : WrsK w' B us xs k :=
  ⟨h.1, fun i hi => let ⟨h0, u, h1, h2⟩ := h.2 i hi; ⟨h0, u, h1, f _ _ h2⟩⟩
theorem VosK.imp {xs : List Vo} (h : VosK w B us xs k) (f : ∀ u ys, Own w B u ys → Own w' B u ys) : VosK w' B us xs k :=
  ⟨h.1, fun i hi => let ⟨⟨u, h1, h2⟩, h3⟩ := h.2 i hi; ⟨⟨u, h1, f _ _ h2⟩, h3⟩⟩
theorem RowsK.done {xs : List (List Int)} (h : RowsK w B us xs xs.length) : RowsIn w B us xs := h
theorem WrsK.done {xs : List Wr} (h : WrsK w B us xs xs.length) : WrsIn w B us xs := h
theorem VosK.done {xs : List Vo} (h : VosK w B us xs xs.length) : VosIn w B us xs := h

/-- One more sector is stored. -/
theorem RowsK.next {xs : List (List Int)} (h : RowsK w B us xs k) (hk : k < xs.length) {g : Nat} (hr : Row w g 24 us) {u : Value} (hu : Own w B u (xs.getD k [])) :
    RowsK (w.setCell ⟨g, k, none⟩ u) B (us.set k u) xs (k + 1) := by
  have hg := gb_set (gb_refl w (some g)) k u
  refine ⟨by simpa using h.1, fun i hi => ?_⟩
  by_cases e : i = k
  · subst e
    exact ⟨u, by rw [List.getElem?_set_self (by rw [h.1]; exact hk)], hu.kept hr (by decide) hg⟩
  · obtain ⟨v, h1, h2⟩ := h.2 i (by omega)
    exact ⟨v, by rw [List.getElem?_set_ne (by omega)]; exact h1, h2.kept hr (by decide) hg⟩
theorem WrsK.next {xs : List Wr} (h : WrsK w B us xs k) (hk : k < xs.length) {g : Nat} (hr : Row w g 94 us) {u : Value} (hu : Own w B u (xs.getD k ⟨0, []⟩).data) :
    WrsK ((w.setCell ⟨g, k * 2, none⟩ (.int .i64 (xs.getD k ⟨0, []⟩).pos)).setCell ⟨g, k * 2 + 1, none⟩ u) B ((us.set (k * 2) (.int .i64 (xs.getD k ⟨0, []⟩).pos)).set (k * 2 + 1) u) xs (k + 1) := by
  have hg := gb_set (gb_set (gb_refl w (some g)) (k * 2) (.int .i64 (xs.getD k ⟨0, []⟩).pos)) (k * 2 + 1) u
  have hl := h.1
  refine ⟨by simpa using h.1, fun i hi => ?_⟩
  by_cases e : i = k
  · subst e
    exact ⟨by rw [List.getElem?_set_ne (by omega), List.getElem?_set_self (by omega)], u, by rw [List.getElem?_set_self (by simp; omega)], hu.kept hr (by decide) hg⟩
  · obtain ⟨h0, v, h1, h2⟩ := h.2 i (by omega)
    exact ⟨by rw [List.getElem?_set_ne (by omega), List.getElem?_set_ne (by omega)]; exact h0, v, by rw [List.getElem?_set_ne (by omega), List.getElem?_set_ne (by omega)]; exact h1, h2.kept hr (by decide) hg⟩
theorem VosK.next {xs : List Vo} (h : VosK w B us xs k) (hk : k < xs.length) {g : Nat} (hr : Row w g 79 us) {u : Value} (hu : Own w B u (xs.getD k ⟨[], 0, false⟩).data) :
    VosK (((w.setCell ⟨g, k * 3, none⟩ u).setCell ⟨g, k * 3 + 1, none⟩ (.int .i64 (xs.getD k ⟨[], 0, false⟩).synced)).setCell ⟨g, k * 3 + 2, none⟩ (.bool (xs.getD k ⟨[], 0, false⟩).gone)) B
      (((us.set (k * 3) u).set (k * 3 + 1) (.int .i64 (xs.getD k ⟨[], 0, false⟩).synced)).set (k * 3 + 2) (.bool (xs.getD k ⟨[], 0, false⟩).gone)) xs (k + 1) := by
  have hg := gb_set (gb_set (gb_set (gb_refl w (some g)) (k * 3) u) (k * 3 + 1) (.int .i64 (xs.getD k ⟨[], 0, false⟩).synced)) (k * 3 + 2) (.bool (xs.getD k ⟨[], 0, false⟩).gone)
  have hl := h.1
  refine ⟨by simpa using h.1, fun i hi => ?_⟩
  by_cases e : i = k
  · subst e
    refine ⟨⟨u, ?_, hu.kept hr (by decide) hg⟩, ?_, ?_⟩
    · rw [List.getElem?_set_ne (by omega), List.getElem?_set_ne (by omega), List.getElem?_set_self (by omega)]
    · rw [List.getElem?_set_ne (by omega), List.getElem?_set_self (by simp; omega)]
    · rw [List.getElem?_set_self (by simp; omega)]
  · obtain ⟨⟨v, h1, h2⟩, h3, h4⟩ := h.2 i (by omega)
    refine ⟨⟨v, ?_, h2.kept hr (by decide) hg⟩, ?_, ?_⟩
    · rw [List.getElem?_set_ne (by omega), List.getElem?_set_ne (by omega), List.getElem?_set_ne (by omega)]; exact h1
    · rw [List.getElem?_set_ne (by omega), List.getElem?_set_ne (by omega), List.getElem?_set_ne (by omega)]; exact h3
    · rw [List.getElem?_set_ne (by omega), List.getElem?_set_ne (by omega), List.getElem?_set_ne (by omega)]; exact h4
end
end Go.Proofs.Ytdalkkjojflakaa
