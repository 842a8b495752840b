/- A list of bytes that came in, appended to nothing. -/
import Derived.Test.YtdalkkjojflakaaSpc
import Derived.Test.YtdalkkjojflakaaApp
import Derived.Test.YtdalkkjojflakaaNew
namespace Go.Proofs.Ytdalkkjojflakaa
open Go.RowKit
set_option linter.unusedVariables false
set_option linter.unusedSimpArgs false

theorem addr_r (b o j : Nat) : (⟨b, o, none⟩ : Addr).add j = ⟨b, o + j, none⟩ := by unfold Addr.add; split <;> simp_all
theorem run_app_rows (w : World) (ty : TypeId) (bv : Value) (bs : List (List Int)) (hb : RowsAt w bv bs) (hl : bs.length * 24 ≤ 140737488355328) :
    ∃ a cap w', (Builtin.append_ #[23, 23] ty #[.slice none 0 0, bv]).run Try.prog w = .ok (.slice a bs.length cap) w' ∧ RowsAt w' (.slice a bs.length cap) bs ∧ Below w.heap.size w w' := by
  obtain ⟨i0, hi, hz0, hz1, hz2⟩ := info_parts infoBts
  obtain ⟨ab, capb, rfl, l1, m1, hc⟩ := hb
  cases hbs : bs with
  | nil =>
    refine ⟨none, 0, w, ?_, ⟨none, 0, rfl, Nat.le_refl _, Nat.zero_le _, fun i hi => absurd hi (Nat.not_lt_zero _)⟩, Below.refl _ _⟩
    have hs : Src Try.prog i0.size 23 (.slice ab 0 capb) 0 [] w := by
      cases ab with
      | none => exact Src.ofNil w Try.underlying23 capb
      | some ad => exact Src.ofSlice w Try.underlying23 ad 0 capb [] (by simp) (fun j u hj => by simp at hj) (fun u hu => by simp at hu)
    simpa using run_append_nothing w 23 23 ty 24 i0 Try.underlying23 hi none 0 0 (Nat.le_refl _) _ hs
  | cons y ys =>
    rw [← hbs]
    have hpos : 0 < bs.length := by rw [hbs]; simp
    obtain ⟨b, o, rfl, _⟩ := hc 0 hpos
    have hcc : ∀ i, i < bs.length → ∃ u, w.cell? ⟨b, o + i, none⟩ = some u ∧ Bts w u (bs.getD i []) := fun i hi => by
      obtain ⟨b', o', e, u, h1, h2⟩ := hc i hi
      simp at e
      obtain ⟨rfl, rfl⟩ := e
      exact ⟨u, h1, h2⟩
    obtain ⟨us, hus⟩ : ∃ us, us = (List.range bs.length).map (fun i => (w.cell? ⟨b, o + i, none⟩).getD undef) := ⟨_, rfl⟩
    have hlen : us.length = bs.length := by rw [hus]; simp
    have hat : ∀ i, i < bs.length → ∃ u, us[i]? = some u ∧ w.cell? ⟨b, o + i, none⟩ = some u ∧ Bts w u (bs.getD i []) := fun i hi => by
      obtain ⟨u, h1, h2⟩ := hcc i hi
      exact ⟨u, by rw [hus]; simp [hi, h1], h1, h2⟩
    obtain ⟨g, cap, w', hr, h2, h3, _⟩ := run_append_lies (P := Try.prog) w 23 ty w.heap.size 24 i0 (.slice none 0 0) 1 24 Try.underlying23 hi hz0 hz1 hz2 rfl (by decide) (.slice none 0 0) 0 [] (World.ownsRow_nil _ _ _ _) ⟨b, o, none⟩ bs.length capb us (by rw [hlen]; simp) (fun j u hj => by
        have hj' : j < bs.length := by have := (List.getElem?_eq_some_iff.1 hj).1; omega
        obtain ⟨u', e1, e2, _⟩ := hat j hj'
        rw [hj] at e1
        simp at e1
        subst e1
        rw [addr_r]
        exact e2) (fun u hu => by
        obtain ⟨j, hj, rfl⟩ := List.mem_iff_getElem.1 hu
        obtain ⟨u', e1, _, a', c', e3, _⟩ := hat j (by omega)
        rw [List.getElem?_eq_getElem hj] at e1
        simp at e1
        rw [e1, e3]
        rfl) (by omega) (by unfold maxLen; omega) (by omega) (Nat.le_refl _) _ rfl
    have hb' : Below w.heap.size w w' := ⟨h3.os, h3.tape, h3.output, h3.size, fun i hi => h3.block i hi (by simp [Value.ownBlock])⟩
    rw [Nat.zero_add, List.nil_append] at h2
    rw [Nat.zero_add] at hr
    refine ⟨_, cap, w', hr, ?_, hb'⟩
    obtain ⟨a', cap', e, q1, q2⟩ := own_form h2
    simp at e
    obtain ⟨rfl, rfl⟩ := e
    refine ⟨_, cap, rfl, q1, q2, fun i hi => ?_⟩
    obtain ⟨u, e1, e2, e3⟩ := hat i hi
    obtain ⟨g', c', e4, e5⟩ := own_cell h2 e1
    simp at e4
    obtain ⟨rfl, rfl⟩ := e4
    exact ⟨g, 0, rfl, u, by rw [Nat.zero_add]; exact e5, e3.up hb'⟩
theorem wp_app_rows (w : World) {o : Oper} {a : Act} {K : Act → World → Prop} {Q : Exit → Act → World → Prop} (s x : Operand)
    (ho : o.op = .call { callee := .builtin .append, args := #[s, x], argTypes := #[23, 23] })
    (bv : Value) (bs : List (List Int)) (hs : a.eval s = .slice none 0 0) (hx : a.eval x = bv) (hb : RowsAt w bv bs) (hl : bs.length * 24 ≤ 140737488355328)
    (h : ∀ a' cap w', RowsAt w' (.slice a' bs.length cap) bs → Below w.heap.size w w' → K (a.put o.dst (.slice a' bs.length cap)) w') : o.wp Try.prog a w K Q := by
  obtain ⟨a', cap, w', hr, h2, h3⟩ := run_app_rows w o.type bv bs hb hl
  unfold Oper.wp execOp
  simp only [ho, resolve, invoke, builtin, Sem.run_bind, Sem.run_pure, Result.andThen_ok, List.map_toArray, List.map_cons, List.map_nil, hs, hx, hr]
  exact h a' cap w' h2 h3
theorem wpList_app_rows (w : World) {ops : Array Oper} {rest : List Oper} {o : Oper} {a : Act} {Q : Exit → Act → World → Prop} (hgd : o.guard = none) (s x : Operand)
    (ho : o.op = .call { callee := .builtin .append, args := #[s, x], argTypes := #[23, 23] })
    (bv : Value) (bs : List (List Int)) (hs : a.eval s = .slice none 0 0) (hx : a.eval x = bv) (hb : RowsAt w bv bs) (hl : bs.length * 24 ≤ 140737488355328)
    (h : ∀ a' cap w', RowsAt w' (.slice a' bs.length cap) bs → Below w.heap.size w w' → wpList Try.prog ops Q rest (a.put o.dst (.slice a' bs.length cap)) w') : wpList Try.prog ops Q (o :: rest) a w :=
  wpList_plain hgd fun _ hK => wp_app_rows w s x ho bv bs hs hx hb hl fun a' cap w' h2 h3 => hK _ _ (h a' cap w' h2 h3)
end Go.Proofs.Ytdalkkjojflakaa
