/- Bytes that came in, appended to bytes of one's own; icehouselaw.octets. -/
import Derived.Test.YtdalkkjojflakaaOwn2
import Derived.Deep.AppendLies
import Derived.Deep.Upon
import Derived.ArgAppend
namespace Go.Proofs.Ytdalkkjojflakaa
open Go.RowKit
set_option linter.unusedVariables false
set_option linter.unusedSimpArgs false

theorem u8s_append (xs ys : List Int) : u8s (xs ++ ys) = u8s xs ++ u8s ys := by simp [u8s]
theorem Bts.news {w : World} {b o n cap : Nat} {ys : List Int} (h : Bts w (.slice (some ⟨b, o, none⟩) n cap) ys) : ∀ j u, (u8s ys)[j]? = some u → w.cell? ((⟨b, o, none⟩ : Addr).add j) = some u := fun j u hj => by
  obtain ⟨a, cap', e, _, _, hc⟩ := h
  have hj' : j < ys.length := by
    have := (List.getElem?_eq_some_iff.1 hj).1
    simpa [u8s] using this
  obtain ⟨b', o', e', hcell⟩ := hc j hj'
  simp at e
  rw [e'] at e
  simp at e
  obtain ⟨⟨rfl, rfl⟩, _⟩ := e
  rw [show (⟨b, o, none⟩ : Addr).add j = ⟨b, o + j, none⟩ by unfold Addr.add; split <;> simp_all, hcell]
  simp [u8s, hj'] at hj
  rw [← hj]
  simp [List.getD, hj']
theorem run_app_bytes (w : World) (ty : TypeId) (B : Nat) (v bv : Value) (xs ys : List Int) (hown : Own w B v xs) (hb : Bts w bv ys) (hB : B ≤ w.heap.size) (hl : xs.length + ys.length ≤ 140737488355328) :
    ∃ a cap w', (Builtin.append_ #[24, 24] ty #[v, bv]).run Try.prog w = .ok (.slice a (xs.length + ys.length) cap) w' ∧ Own w' B (.slice a (xs.length + ys.length) cap) (xs ++ ys) ∧ w.grownBy w' v.ownBlock := by
  obtain ⟨i0, hi, hz0, hz1, hz2⟩ := info_parts infoU8
  obtain ⟨ab, capb, rfl, l1, m1, hc⟩ := hb
  cases ys with
  | nil =>
    obtain ⟨a, cap, rfl, h1, h2⟩ := own_form hown
    refine ⟨a, cap, w, ?_, by simpa using hown, gb_refl _ _⟩
    have hs : Src Try.prog i0.size 24 (.slice ab 0 capb) 0 [] w := by
      cases ab with
      | none => exact Src.ofNil w Try.underlying24 capb
      | some ad => exact Src.ofSlice w Try.underlying24 ad 0 capb [] (by simp) (fun j u hj => by simp at hj) (fun u hu => by simp at hu)
    simpa using run_append_nothing w 24 24 ty 5 i0 Try.underlying24 hi a xs.length cap h1 _ hs
  | cons y ys =>
    obtain ⟨b, o, rfl, _⟩ := hc 0 (by simp)
    obtain ⟨g, cap, w', hr, h2, h3, _⟩ := run_append_lies (P := Try.prog) w 24 ty B 5 i0 (.int .u8 0) 1 1 Try.underlying24 hi hz0 hz1 hz2 rfl (by decide) v xs.length (u8s xs) hown ⟨b, o, none⟩ (y :: ys).length capb (u8s (y :: ys)) (by simp [u8s]) (Bts.news ⟨_, capb, rfl, l1, m1, hc⟩) (fun u hu => by unfold u8s at hu; obtain ⟨q, _, rfl⟩ := List.mem_map.1 hu; rfl) (by simp) (by unfold maxLen; omega) (by omega) hB _ rfl
    refine ⟨_, cap, w', hr, ?_, h3⟩
    unfold Own
    rw [u8s_append, List.length_append]
    exact h2
theorem wp_app_bytes (w : World) {o : Oper} {a : Act} {K : Act → World → Prop} {Q : Exit → Act → World → Prop} (s x : Operand)
    (ho : o.op = .call { callee := .builtin .append, args := #[s, x], argTypes := #[24, 24] })
    (B : Nat) (v bv : Value) (xs ys : List Int) (hs : a.eval s = v) (hx : a.eval x = bv) (hown : Own w B v xs) (hb : Bts w bv ys) (hB : B ≤ w.heap.size) (hl : xs.length + ys.length ≤ 140737488355328)
    (h : ∀ a' cap w', Own w' B (.slice a' (xs.length + ys.length) cap) (xs ++ ys) → w.grownBy w' v.ownBlock → K (a.put o.dst (.slice a' (xs.length + ys.length) cap)) w') : o.wp Try.prog a w K Q := by
  obtain ⟨a', cap, w', hr, h2, h3⟩ := run_app_bytes w o.type B v bv xs ys hown hb hB hl
  unfold Oper.wp execOp
  simp only [ho, resolve, invoke, builtin, Sem.run_bind, Sem.run_pure, Result.andThen_ok, List.map_toArray, List.map_cons, List.map_nil, hs, hx, hr]
  exact h a' cap w' h2 h3
theorem wpList_app_bytes (w : World) {ops : Array Oper} {rest : List Oper} {o : Oper} {a : Act} {Q : Exit → Act → World → Prop} (hgd : o.guard = none) (s x : Operand)
    (ho : o.op = .call { callee := .builtin .append, args := #[s, x], argTypes := #[24, 24] })
    (B : Nat) (v bv : Value) (xs ys : List Int) (hs : a.eval s = v) (hx : a.eval x = bv) (hown : Own w B v xs) (hb : Bts w bv ys) (hB : B ≤ w.heap.size) (hl : xs.length + ys.length ≤ 140737488355328)
    (h : ∀ a' cap w', Own w' B (.slice a' (xs.length + ys.length) cap) (xs ++ ys) → w.grownBy w' v.ownBlock → wpList Try.prog ops Q rest (a.put o.dst (.slice a' (xs.length + ys.length) cap)) w') : wpList Try.prog ops Q (o :: rest) a w :=
  wpList_plain hgd fun _ hK => wp_app_bytes w s x ho B v bv xs ys hs hx hown hb hB hl fun a' cap w' h2 h3 => hK _ _ (h a' cap w' h2 h3)
theorem step_app_bytes (w : World) {ops : Array Oper} {o : Oper} {a : Act} {K : Act → World → Prop} {Q : Exit → Act → World → Prop} {E : Prop} (hgd : o.guard = none) (s x : Operand)
    (ho : o.op = .call { callee := .builtin .append, args := #[s, x], argTypes := #[24, 24] })
    (B : Nat) (v bv : Value) (xs ys : List Int) (hs : a.eval s = v) (hx : a.eval x = bv) (hown : Own w B v xs) (hb : Bts w bv ys) (hB : B ≤ w.heap.size) (hl : xs.length + ys.length ≤ 140737488355328)
    (h : ∀ a' cap w', Own w' B (.slice a' (xs.length + ys.length) cap) (xs ++ ys) → w.grownBy w' v.ownBlock → K (a.put o.dst (.slice a' (xs.length + ys.length) cap)) w') :
    if Region.wanted o (yielded ops a.tmps) = true then Oper.wp Try.prog o a w K Q else E := by
  have hw : Region.wanted o (yielded ops a.tmps) = true := by simp [Region.wanted, hgd]
  rw [if_pos hw]
  exact wp_app_bytes w s x ho B v bv xs ys hs hx hown hb hB hl h

theorem gb_none {a b : World} (h : a.grownBy b none) : Below a.heap.size a b := ⟨h.os, h.tape, h.output, h.size, fun i hi => h.block i hi (by simp)⟩
/-- Bytes without spare room, appended to: all that was there is as it was. -/
theorem run_app_exact (w : World) (ty : TypeId) (B : Nat) (a : Option Addr) (bv : Value) (xs ys : List Int) (hown : Own w B (.slice a xs.length xs.length) xs) (hb : Bts w bv ys) (hB : B ≤ w.heap.size) (hl : xs.length + ys.length ≤ 140737488355328) :
    ∃ a' cap w', (Builtin.append_ #[24, 24] ty #[.slice a xs.length xs.length, bv]).run Try.prog w = .ok (.slice a' (xs.length + ys.length) cap) w' ∧ Own w' B (.slice a' (xs.length + ys.length) cap) (xs ++ ys) ∧ Below w.heap.size w w' := by
  have hb' := hb
  obtain ⟨i0, hi, hz0, hz1, hz2⟩ := info_parts infoU8
  obtain ⟨ab, capb, rfl, l1, m1, hc⟩ := hb
  cases a with
  | none =>
    obtain ⟨a', cap, w', h1, h2, h3⟩ := run_app_bytes w ty B (.slice none xs.length xs.length) _ xs ys hown hb' hB hl
    exact ⟨a', cap, w', h1, h2, gb_none h3⟩
  | some ad =>
    cases ys with
    | nil =>
      refine ⟨some ad, xs.length, w, ?_, by simpa using hown, Below.refl _ _⟩
      have hs : Src Try.prog i0.size 24 (.slice ab 0 capb) 0 [] w := by
        cases ab with
        | none => exact Src.ofNil w Try.underlying24 capb
        | some ad => exact Src.ofSlice w Try.underlying24 ad 0 capb [] (by simp) (fun j u hj => by simp at hj) (fun u hu => by simp at hu)
      simpa using run_append_nothing w 24 24 ty 5 i0 Try.underlying24 hi (some ad) xs.length xs.length (Nat.le_refl _) _ hs
    | cons y ys =>
      obtain ⟨b, o, rfl, _⟩ := hc 0 (by simp)
      obtain ⟨g, cap, e⟩ : ∃ g cap, Value.slice (some ad) xs.length xs.length = .slice (some ⟨g, 0, none⟩) xs.length cap := by
        rcases hown.2 with ⟨h, _⟩ | ⟨g, cap, cur, h, _⟩
        · simp at h
        · exact ⟨g, cap, h⟩
      simp at e
      obtain ⟨rfl, rfl⟩ := e
      obtain ⟨v', w', hr, h2, h3⟩ := run_append_arg_grows (P := Try.prog) w 24 ty 5 i0 (.int .u8 0) 1 1 Try.underlying24 hi hz0 hz1 hz2 rfl (by decide) ⟨g, 0, none⟩ xs.length xs.length (u8s xs) (by simp [u8s]) (fun j u hj => World.ownsRow.cells hown (g := g) rfl j u hj) ⟨b, o, none⟩ (y :: ys).length capb (u8s (y :: ys)) (by simp [u8s]) (Bts.news ⟨_, capb, rfl, l1, m1, hc⟩) (by simp) (by unfold maxLen; omega) (by omega)
      obtain ⟨a', cap, rfl, _, _⟩ := own_form h2
      refine ⟨a', cap, w', hr, ?_, gb_none h3⟩
      unfold Own
      rw [u8s_append, List.length_append]
      exact own_base h2 hB
theorem step_app_exact (w : World) {ops : Array Oper} {o : Oper} {a : Act} {K : Act → World → Prop} {Q : Exit → Act → World → Prop} {E : Prop} (hgd : o.guard = none) (s x : Operand)
    (ho : o.op = .call { callee := .builtin .append, args := #[s, x], argTypes := #[24, 24] })
    (B : Nat) (av : Option Addr) (n : Nat) (bv : Value) (xs ys : List Int) (hs : a.eval s = .slice av n n) (hx : a.eval x = bv) (hn : xs.length = n) (hown : Own w B (.slice av n n) xs) (hb : Bts w bv ys) (hB : B ≤ w.heap.size) (hl : n + ys.length ≤ 140737488355328)
    (h : ∀ a' cap w', Own w' B (.slice a' (n + ys.length) cap) (xs ++ ys) → Below w.heap.size w w' → K (a.put o.dst (.slice a' (n + ys.length) cap)) w') :
    if Region.wanted o (yielded ops a.tmps) = true then Oper.wp Try.prog o a w K Q else E := by
  have hw : Region.wanted o (yielded ops a.tmps) = true := by simp [Region.wanted, hgd]
  rw [if_pos hw]
  subst hn
  obtain ⟨a', cap, w', hr, h2, h3⟩ := run_app_exact w o.type B av bv xs ys hown hb hB hl
  unfold Oper.wp execOp
  simp only [ho, resolve, invoke, builtin, Sem.run_bind, Sem.run_pure, Result.andThen_ok, List.map_toArray, List.map_cons, List.map_nil, hs, hx, hr]
  exact h a' cap w' h2 h3

end Go.Proofs.Ytdalkkjojflakaa
