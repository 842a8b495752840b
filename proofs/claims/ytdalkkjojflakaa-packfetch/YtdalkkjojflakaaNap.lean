/- Numbers of one's own; icehouselaw.ints. -/
import Derived.Test.YtdalkkjojflakaaRom
import Derived.Test.YtdalkkjojflakaaApp
namespace Go.Proofs.Ytdalkkjojflakaa
open Go.RowKit
set_option linter.unusedVariables false
set_option linter.unusedSimpArgs false

theorem infoN : (Try.prog.info? 3).map (fun i => (i.zero, i.size, i.bytes)) = some (some (.int .i64 0), 1, 8) := by kernel_rfl
def n64s (xs : List Int) : List Value := xs.map (Value.int .i64)
theorem n64s_length (xs : List Int) : (n64s xs).length = xs.length := by simp [n64s]
/-- The slice value v owns the numbers xs, in a block from B on (or it is nil, and there are none). -/
def OwN (w : World) (B : Nat) (v : Value) (xs : List Int) : Prop := w.ownsRow B 3 1 v xs.length (n64s xs)
theorem OwN.nil (w : World) (B : Nat) : OwN w B (.slice none 0 0) [] := ⟨by simp [n64s], .inl ⟨rfl, rfl⟩⟩
theorem OwN.nts {w : World} {B : Nat} {v : Value} {xs : List Int} (h : OwN w B v xs) : Nts w v xs := by
  obtain ⟨_, ⟨rfl, h0⟩ | ⟨g, cap, cur, rfl, hB, hg, hn, hm, hs, ht⟩⟩ := h
  · have : xs = [] := List.eq_nil_of_length_eq_zero h0
    subst this
    exact ⟨none, 0, rfl, Nat.le_refl _, Nat.zero_le _, fun i hi => absurd hi (Nat.not_lt_zero _)⟩
  · refine ⟨_, cap, rfl, hn, hm, fun i hi => ⟨g, 0, rfl, ?_⟩⟩
    rw [Nat.zero_add, cell_of_row w g i _ _ _ hg]
    have : (cur.toList.take (xs.length * 1))[i]? = (n64s xs)[i]? := by rw [ht]
    rw [List.getElem?_take, if_pos (by omega)] at this
    simpa [n64s, hi] using this
theorem n64s_append (xs ys : List Int) : n64s (xs ++ ys) = n64s xs ++ n64s ys := by simp [n64s]
theorem Nts.news {w : World} {b o n cap : Nat} {ys : List Int} (h : Nts w (.slice (some ⟨b, o, none⟩) n cap) ys) : ∀ j u, (n64s ys)[j]? = some u → w.cell? ((⟨b, o, none⟩ : Addr).add j) = some u := fun j u hj => by
  obtain ⟨a, cap', e, _, _, hc⟩ := h
  have hj' : j < ys.length := by
    have := (List.getElem?_eq_some_iff.1 hj).1
    simpa [n64s] using this
  obtain ⟨b', o', e', hcell⟩ := hc j hj'
  simp at e
  rw [e'] at e
  simp at e
  obtain ⟨⟨rfl, rfl⟩, _⟩ := e
  rw [show (⟨b, o, none⟩ : Addr).add j = ⟨b, o + j, none⟩ by unfold Addr.add; split <;> simp_all, hcell]
  simp [n64s, hj'] at hj
  rw [← hj]
  simp [List.getD, hj']
theorem run_app_ints (w : World) (ty : TypeId) (B : Nat) (v bv : Value) (xs ys : List Int) (hown : OwN w B v xs) (hb : Nts w bv ys) (hB : B ≤ w.heap.size) (hl : (xs.length + ys.length) * 8 ≤ 140737488355328) :
    ∃ a cap w', (Builtin.append_ #[22, 22] ty #[v, bv]).run Try.prog w = .ok (.slice a (xs.length + ys.length) cap) w' ∧ OwN w' B (.slice a (xs.length + ys.length) cap) (xs ++ ys) ∧ w.grownBy w' v.ownBlock := by
  obtain ⟨i0, hi, hz0, hz1, hz2⟩ := info_parts infoN
  obtain ⟨ab, capb, rfl, l1, m1, hc⟩ := hb
  cases ys with
  | nil =>
    obtain ⟨a, cap, rfl, h1, h2⟩ := own_form hown
    refine ⟨a, cap, w, ?_, by simpa using hown, gb_refl _ _⟩
    have hs : Src Try.prog i0.size 22 (.slice ab 0 capb) 0 [] w := by
      cases ab with
      | none => exact Src.ofNil w Try.underlying22 capb
      | some ad => exact Src.ofSlice w Try.underlying22 ad 0 capb [] (by simp) (fun j u hj => by simp at hj) (fun u hu => by simp at hu)
    simpa using run_append_nothing w 22 22 ty 3 i0 Try.underlying22 hi a xs.length cap h1 _ hs
  | cons y ys =>
    obtain ⟨b, o, rfl, _⟩ := hc 0 (by simp)
    obtain ⟨g, cap, w', hr, h2, h3, _⟩ := run_append_lies (P := Try.prog) w 22 ty B 3 i0 (.int .i64 0) 1 8 Try.underlying22 hi hz0 hz1 hz2 rfl (by decide) v xs.length (n64s xs) hown ⟨b, o, none⟩ (y :: ys).length capb (n64s (y :: ys)) (by simp [n64s]) (Nts.news ⟨_, capb, rfl, l1, m1, hc⟩) (fun u hu => by unfold n64s at hu; obtain ⟨q, _, rfl⟩ := List.mem_map.1 hu; rfl) (by simp) (by unfold maxLen; omega) (by omega) hB _ rfl
    refine ⟨_, cap, w', hr, ?_, h3⟩
    unfold OwN
    rw [n64s_append, List.length_append]
    exact h2
theorem wp_app_ints (w : World) {o : Oper} {a : Act} {K : Act → World → Prop} {Q : Exit → Act → World → Prop} (s x : Operand)
    (ho : o.op = .call { callee := .builtin .append, args := #[s, x], argTypes := #[22, 22] })
    (B : Nat) (v bv : Value) (xs ys : List Int) (hs : a.eval s = v) (hx : a.eval x = bv) (hown : OwN w B v xs) (hb : Nts w bv ys) (hB : B ≤ w.heap.size) (hl : (xs.length + ys.length) * 8 ≤ 140737488355328)
    (h : ∀ a' cap w', OwN w' B (.slice a' (xs.length + ys.length) cap) (xs ++ ys) → w.grownBy w' v.ownBlock → K (a.put o.dst (.slice a' (xs.length + ys.length) cap)) w') : o.wp Try.prog a w K Q := by
  obtain ⟨a', cap, w', hr, h2, h3⟩ := run_app_ints w o.type B v bv xs ys hown hb hB hl
  unfold Oper.wp execOp
  simp only [ho, resolve, invoke, builtin, Sem.run_bind, Sem.run_pure, Result.andThen_ok, List.map_toArray, List.map_cons, List.map_nil, hs, hx, hr]
  exact h a' cap w' h2 h3
theorem wpList_app_ints (w : World) {ops : Array Oper} {rest : List Oper} {o : Oper} {a : Act} {Q : Exit → Act → World → Prop} (hgd : o.guard = none) (s x : Operand)
    (ho : o.op = .call { callee := .builtin .append, args := #[s, x], argTypes := #[22, 22] })
    (B : Nat) (v bv : Value) (xs ys : List Int) (hs : a.eval s = v) (hx : a.eval x = bv) (hown : OwN w B v xs) (hb : Nts w bv ys) (hB : B ≤ w.heap.size) (hl : (xs.length + ys.length) * 8 ≤ 140737488355328)
    (h : ∀ a' cap w', OwN w' B (.slice a' (xs.length + ys.length) cap) (xs ++ ys) → w.grownBy w' v.ownBlock → wpList Try.prog ops Q rest (a.put o.dst (.slice a' (xs.length + ys.length) cap)) w') : wpList Try.prog ops Q (o :: rest) a w :=
  wpList_plain hgd fun _ hK => wp_app_ints w s x ho B v bv xs ys hs hx hown hb hB hl fun a' cap w' h2 h3 => hK _ _ (h a' cap w' h2 h3)
theorem step_app_ints (w : World) {ops : Array Oper} {o : Oper} {a : Act} {K : Act → World → Prop} {Q : Exit → Act → World → Prop} {E : Prop} (hgd : o.guard = none) (s x : Operand)
    (ho : o.op = .call { callee := .builtin .append, args := #[s, x], argTypes := #[22, 22] })
    (B : Nat) (v bv : Value) (xs ys : List Int) (hs : a.eval s = v) (hx : a.eval x = bv) (hown : OwN w B v xs) (hb : Nts w bv ys) (hB : B ≤ w.heap.size) (hl : (xs.length + ys.length) * 8 ≤ 140737488355328)
    (h : ∀ a' cap w', OwN w' B (.slice a' (xs.length + ys.length) cap) (xs ++ ys) → w.grownBy w' v.ownBlock → K (a.put o.dst (.slice a' (xs.length + ys.length) cap)) w') :
    if Region.wanted o (yielded ops a.tmps) = true then Oper.wp Try.prog o a w K Q else E := by
  have hw : Region.wanted o (yielded ops a.tmps) = true := by simp [Region.wanted, hgd]
  rw [if_pos hw]
  exact wp_app_ints w s x ho B v bv xs ys hs hx hown hb hB hl h


theorem intsLaw_any (bv : Value) (ys : List Int) (w : World) (hb : Nts w bv ys) (hl : ys.length * 8 ≤ 140737488355328) :
    Calls Try.prog 10 #[bv] w fun e w' => ∃ u, e = .returned u ∧ OwN w' w.heap.size u ys ∧ Below w.heap.size w w' := by
  go_enter Try.func10, Try.ntmps10
  go_wp2_with (at_builtin; refine wpList_app_ints w rfl (.const (.slice none 0 0)) (.tmp 3) rfl w.heap.size (.slice none 0 0) bv [] ys rfl rfl (OwN.nil _ _) hb (Nat.le_refl _) (by simpa using hl) ?_)
  intro a' cap w' hown hg
  go_wp2
  go_ret
  exact ⟨_, rfl, hown, ⟨hg.os, hg.tape, hg.output, hg.size, fun i hi => hg.block i hi (by simp [Value.ownBlock])⟩⟩
end Go.Proofs.Ytdalkkjojflakaa
