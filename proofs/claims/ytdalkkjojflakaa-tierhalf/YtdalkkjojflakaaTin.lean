/- Numbers that came in: read with their sizes, copied by append. -/
import Derived.Test.YtdalkkjojflakaaTib
import Derived.Test.YtdalkkjojflakaaOpenF
import Derived.Deep.AppendLies
import Derived.Deep.Upon
import Derived.ArgAppend
namespace Go.Proofs.Ytdalkkjojflakaa
open Go.RowKit Go.Maps
open Go.ChangeShapes Go.WideShapes Go.ChangeAt Go.Deep
set_option maxRecDepth 100000
set_option linter.unusedVariables false
set_option linter.unusedSimpArgs false
theorem i64s_append (xs ys : List Int) : i64s (xs ++ ys) = i64s xs ++ i64s ys := by simp [i64s]
theorem Ints.news {w : World} {b o n cap : Nat} {ys : List Int} (h : Ints w (.slice (some ⟨b, o, none⟩) n cap) ys) : ∀ j u, (i64s ys)[j]? = some u → w.cell? ((⟨b, o, none⟩ : Addr).add j) = some u := fun j u hj => by
  have hj' : j < ys.length := by
    have := (List.getElem?_eq_some_iff.1 hj).1
    simpa [i64s] using this
  obtain ⟨b', o', e, r⟩ := Lst.at h hj'
  simp at e
  obtain ⟨rfl, rfl⟩ := e
  have hcell := r.1
  rw [Nat.mul_one] at hcell
  rw [show (⟨b, o, none⟩ : Addr).add j = ⟨b, o + j, none⟩ by unfold Addr.add; split <;> simp_all, hcell]
  simp [i64s, hj'] at hj
  rw [← hj]
  simp [List.getD, hj']
theorem run_app_ints (w : World) (ty : TypeId) (B : Nat) (v bv : Value) (xs ys : List Int) (hown : OwI w B v xs) (hb : Ints w bv ys) (hB : B ≤ w.heap.size) (hl : (xs.length + ys.length) * 8 ≤ 140737488355328) :
    ∃ a cap w', (Builtin.append_ #[22, 22] ty #[v, bv]).run Try.prog w = .ok (.slice a (xs.length + ys.length) cap) w' ∧ OwI w' B (.slice a (xs.length + ys.length) cap) (xs ++ ys) ∧ w.grownBy w' v.ownBlock := by
  obtain ⟨i0, hi, hz0, hz1, hz2⟩ := info_parts infoI
  obtain ⟨ab, capb, rfl, l1, m1, hc⟩ := hb
  cases ys with
  | nil =>
    obtain ⟨a, cap, rfl, h1, h2⟩ := hown.form
    refine ⟨a, cap, w, ?_, by simpa using hown, gb_refl _ _⟩
    have hs : Src Try.prog i0.size 22 (.slice ab 0 capb) 0 [] w := by
      cases ab with
      | none => exact Src.ofNil w Try.underlying22 capb
      | some ad => exact Src.ofSlice w Try.underlying22 ad 0 capb [] (by simp) (fun j u hj => by simp at hj) (fun u hu => by simp at hu)
    simpa using run_append_nothing w 22 22 ty 3 i0 Try.underlying22 hi a xs.length cap h1 _ hs
  | cons y ys =>
    obtain ⟨b, o, rfl, _⟩ := hc 0 (by simp)
    obtain ⟨g, cap, w', hr, h2, h3, _⟩ := run_append_lies (P := Try.prog) w 22 ty B 3 i0 (.int .i64 0) 1 8 Try.underlying22 hi hz0 hz1 hz2 rfl (by decide) v xs.length (i64s xs) hown ⟨b, o, none⟩ (y :: ys).length capb (i64s (y :: ys)) (by simp [i64s]) (Ints.news ⟨_, capb, rfl, l1, m1, hc⟩) (fun u hu => by unfold i64s at hu; obtain ⟨q, _, rfl⟩ := List.mem_map.1 hu; rfl) (by simp) (by unfold maxLen; omega) (by omega) hB _ rfl
    refine ⟨_, cap, w', hr, ?_, h3⟩
    unfold OwI
    rw [i64s_append, List.length_append]
    exact h2
theorem wp_app_ints (w : World) {o : Oper} {a : Act} {K : Act → World → Prop} {Q : Exit → Act → World → Prop} (s x : Operand)
    (ho : o.op = .call { callee := .builtin .append, args := #[s, x], argTypes := #[22, 22] })
    (B : Nat) (v bv : Value) (xs ys : List Int) (hs : a.eval s = v) (hx : a.eval x = bv) (hown : OwI w B v xs) (hb : Ints w bv ys) (hB : B ≤ w.heap.size) (hl : (xs.length + ys.length) * 8 ≤ 140737488355328)
    (h : ∀ a' cap w', OwI w' B (.slice a' (xs.length + ys.length) cap) (xs ++ ys) → w.grownBy w' v.ownBlock → K (a.put o.dst (.slice a' (xs.length + ys.length) cap)) w') : o.wp Try.prog a w K Q := by
  obtain ⟨a', cap, w', hr, h2, h3⟩ := run_app_ints w o.type B v bv xs ys hown hb hB hl
  unfold Oper.wp execOp
  simp only [ho, resolve, invoke, builtin, Sem.run_bind, Sem.run_pure, Result.andThen_ok, List.map_toArray, List.map_cons, List.map_nil, hs, hx, hr]
  exact h a' cap w' h2 h3
theorem wpList_app_ints (w : World) {ops : Array Oper} {rest : List Oper} {o : Oper} {a : Act} {Q : Exit → Act → World → Prop} (hgd : o.guard = none) (s x : Operand)
    (ho : o.op = .call { callee := .builtin .append, args := #[s, x], argTypes := #[22, 22] })
    (B : Nat) (v bv : Value) (xs ys : List Int) (hs : a.eval s = v) (hx : a.eval x = bv) (hown : OwI w B v xs) (hb : Ints w bv ys) (hB : B ≤ w.heap.size) (hl : (xs.length + ys.length) * 8 ≤ 140737488355328)
    (h : ∀ a' cap w', OwI w' B (.slice a' (xs.length + ys.length) cap) (xs ++ ys) → w.grownBy w' v.ownBlock → wpList Try.prog ops Q rest (a.put o.dst (.slice a' (xs.length + ys.length) cap)) w') : wpList Try.prog ops Q (o :: rest) a w :=
  wpList_plain hgd fun _ hK => wp_app_ints w s x ho B v bv xs ys hs hx hown hb hB hl fun a' cap w' h2 h3 => hK _ _ (h a' cap w' h2 h3)
theorem tInts_any (bv : Value) (ys : List Int) (w : World) (hb : Ints w bv ys) (hl : ys.length * 8 ≤ 140737488355328) :
    Calls Try.prog 10 #[bv] w fun e w' => ∃ u, e = .returned u ∧ OwI w' w.heap.size u ys ∧ Below w.heap.size w w' := by
  go_enter Try.func10, Try.ntmps10
  go_wp2_with (at_builtin; refine wpList_app_ints w rfl (.const (.slice none 0 0)) (.tmp 3) rfl w.heap.size (.slice none 0 0) bv [] ys rfl rfl (OwI.nil _ _) hb (Nat.le_refl _) (by simpa using hl) ?_)
  intro a' cap w' hown hg
  go_wp2
  go_ret
  exact ⟨_, rfl, hown, ⟨hg.os, hg.tape, hg.output, hg.size, fun i hi => hg.block i hi (by simp [Value.ownBlock])⟩⟩
theorem open_numsF {H : Type} {enc : TypeId × Value → H} {w : World} {base : Nat} {spare : Nat → Bool} {held : Bool} {v : Value} {d : DataW H} {p : List MemPlace} {r : Reach} {b0 : Nat}
    (hv : Value.okWide Try.prog w r b0 22 v) (h : DataW.Trod enc Try.prog w base spare held 22 v d p) (hw : ∀ n ∈ d.weights Try.prog 22, n ≤ reachBytes) :
    ∃ xs, Ints w v xs ∧ xs.length * 8 ≤ 140737488355328 := by
  obtain ⟨a, l, c, rfl⟩ := okWide_slice Try.underlying22 hv
  obtain ⟨fuel, h0⟩ := h
  have h1 : DataW.trod enc Try.prog w base spare held fuel 22 [.slice a l c] = some (d, p) := h0
  obtain ⟨xs, h1, h2⟩ := open_intsF h1 hw
  exact ⟨xs, h1, h2⟩
end Go.Proofs.Ytdalkkjojflakaa
