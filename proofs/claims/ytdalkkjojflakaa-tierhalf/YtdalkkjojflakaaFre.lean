/- state.Free, the document's FreeOf, and lists of numbers that are held against each other. -/
import Derived.Test.YtdalkkjojflakaaRfq
import Derived.BigQuiet
import Derived.Deep.QuietTactic
namespace Go.Proofs.Ytdalkkjojflakaa
open Go.RowKit Go.Maps
set_option maxRecDepth 100000
set_option linter.unusedVariables false
set_option linter.unusedSimpArgs false
theorem sameInts_any (x y : Value) (l : List Int) (w : World) (hx : Ints w x l) (hy : Ints w y l) : Calls Try.prog 22 #[x, y] w fun e w' => e = .returned (.bool true) ∧ Below w.heap.size w w' := by
  obtain ⟨a, ac, rfl, a1, a2⟩ := hx.form
  obtain ⟨b, bc, rfl, b1, b2⟩ := hy.form
  unfold maxLen at a2 b2
  have HX := hide hx
  have HY := hide hy
  clear hx hy
  go_enter Try.func22, Try.ntmps22
  go_wp2
  go_loopw [5] (fun i wr => ∃ k : Nat, k ≤ l.length ∧ i = .int .i64 k ∧ Below w.heap.size w wr) (fun i _ => l.length - (intOf i).toNat)
  case atStart => exact ⟨0, Nat.zero_le _, rfl, Below.refl _ _⟩
  case round =>
    obtain ⟨k, hk, rfl, hb⟩ := hrel
    by_cases hlt : k < l.length
    · obtain ⟨b1', o1, e1, r1⟩ := Lst.at (Ints.up hb (unhide HX)) hlt
      obtain ⟨b2', o2, e2, r2⟩ := Lst.at (Ints.up hb (unhide HY)) hlt
      subst e1 e2
      obtain ⟨Z, hZ⟩ : ∃ Z, l.getD k 0 = Z := ⟨_, rfl⟩
      have c1 := r1.1
      have c2 := r2.1
      rw [Nat.mul_one, hZ] at c1 c2
      clear r1 r2 hZ
      go_wp2
      have hne := Later.one wr
      have l1 := fun d : Later wr => d.cell c1
      have l2 := fun d : Later wr => d.cell c2
      refine wp_region_later (by kernel_rfl) (by kernel_rfl) ?_
      repeat (go_big_quiet_step (fail))
      refine wpQuiet_nil ?_
      intro w9 hw'
      obtain ⟨⟨w8, hb9⟩, hw''⟩ := hw'
      subst hw''
      clear hne l1 l2
      go_wp2
      go_roundw
      case rel => exact ⟨k + 1, by omega, by go_num, bl_trans hb hb9⟩
      case measure => (simp [intOf] <;> omega)
    · go_wp2
      go_ret
      exact ⟨rfl, hb⟩
theorem ret_tup {o : Value} {a b : Int} (h : a = b) : Ending.returned (.tuple #[o, .int .i64 a]) = .returned (.tuple #[o, .int .i64 b]) := by rw [h]
def freK (S : St) (k : Nat) : List Int := ((List.range k).map (fun n : Nat => (n : Int))).filter (fun x => decide ((secs S).count x = 0))
theorem freK_yes {S : St} {k : Nat} (h : (secs S).count (k : Int) = 0) : freK S (k + 1) = freK S k ++ [(k : Int)] := by
  unfold freK
  rw [List.range_succ, List.map_append, List.filter_append]
  simp [h]
theorem freK_no {S : St} {k : Nat} (h : (secs S).count (k : Int) ≠ 0) : freK S (k + 1) = freK S k := by
  unfold freK
  rw [List.range_succ, List.map_append, List.filter_append]
  simp [h]
theorem freK_len (S : St) (k : Nat) : (freK S k).length ≤ k := by
  unfold freK
  have := List.length_filter_le (fun x => decide ((secs S).count x = 0)) ((List.range k).map (fun n : Nat => (n : Int)))
  simpa using this
theorem freK_wf {S : St} {k : Nat} (hk : k ≤ 1000) : ∀ x ∈ freK S k, (Lit.int .i64 x).wf = true := by
  intro x hx
  unfold freK at hx
  obtain ⟨n, hn, rfl⟩ := List.mem_map.1 (List.mem_filter.1 hx).1
  have := List.mem_range.1 hn
  exact wfNat (by omega)
def freE (S : St) (m : Int) : Int := if stC S then (if inB m 0 200 then 0 else 2) else 9
def freL (S : St) (m : Int) : List Int := if freE S m = 0 then freK S m.toNat else []
theorem freE_9 {S : St} {m : Int} (h : stC S = false) : freE S m = 9 ∧ freL S m = [] := by simp [freE, freL, h]
theorem freE_2 {S : St} {m : Int} (h : stC S = true) (h2 : inB m 0 200 = false) : freE S m = 2 ∧ freL S m = [] := by simp [freE, freL, h, h2]
theorem freE_0 {S : St} {m : Nat} (h : stC S = true) (h2 : inB (m : Int) 0 200 = true) : freE S m = 0 ∧ freL S m = freK S m := by simp [freE, freL, h, h2]
theorem stC_secs {S : St} (h : stC S = true) : (secs S).length ≤ 1000 := by
  unfold stC at h
  simp only [Bool.and_eq_true] at h
  exact secs_le h.1.1.1.2 h.1.1.2
end Go.Proofs.Ytdalkkjojflakaa
