/- state.copyList of numbers, copyVersion. -/
import Derived.Test.YtclnabbojhbmhaaFnl
import Derived.Laws.CopyRow
import Derived.Laws.MakeOwn
namespace Go.Proofs.Ytclnabbojhbmhaa
open Go.RowKit Go.Maps
set_option maxRecDepth 100000
set_option linter.unusedVariables false
set_option linter.unusedSimpArgs false
theorem addI (b o i : Nat) : (⟨b, o, none⟩ : Addr).add i = ⟨b, o + i, none⟩ := by unfold Addr.add; split <;> simp_all
theorem sizeI : (Try.prog.info? 3).map (·.size) = some 1 := by kernel_rfl
theorem setRow_bl {a w : World} (h : Below a.heap.size a w) {g : Nat} (hg : a.heap.size ≤ g) (R : Array Value) : Below a.heap.size a (w.setRow g R) :=
  h.trans ⟨rfl, rfl, rfl, by simp [World.setRow], fun k hk => setRow_other w g k _ (by omega)⟩
set_option maxHeartbeats 1000000 in
theorem copyInts_any (x : Value) (l : List Int) (w : World) (hx : Ints w x l) (hn : l.length * 8 ≤ 281474976710656) : Calls Try.prog 48 #[x] w fun e w' => ∃ o, e = .returned o ∧ OwI w' w.heap.size o l ∧ Below w.heap.size w w' := by
  obtain ⟨i0, hi, hz0, hz1, hz2⟩ := info_parts infoI
  obtain ⟨a, ac, rfl, a1, a2⟩ := hx.form
  unfold maxLen at a2
  obtain ⟨n, hl⟩ : ∃ n, l.length = n := ⟨_, rfl⟩
  obtain ⟨R, hR⟩ : ∃ R, madeCells #[Value.int .i64 0] n = R := ⟨_, rfl⟩
  have hRs : R.size = n := by rw [← hR]; exact size_madeCells _ _
  have hmk : (Instr.makeSlice 33 (.int .i64 (n : Int)) (.int .i64 (n : Int))).run Try.prog w = .ok (.slice (some ⟨w.heap.size, 0, none⟩) n n) (w.alloc (.cells R 3)) := by
    have h := run_make (P := Try.prog) (w := w) 33 3 i0 (.int .i64 0) Try.underlying33 hi hz0 .i64 .i64 (n : Int) (n : Int) (by omega) (Int.le_refl _) (by rw [hz2]; omega) (by omega)
    simpa [hz1, Value.cells, hR] using h
  obtain ⟨W1, hW1⟩ : ∃ W1, w.alloc (.cells R 3) = W1 := ⟨_, rfl⟩
  rw [hW1] at hmk
  have hb1 : Below w.heap.size w W1 := by rw [← hW1]; exact bl1 _ _
  have hrow : W1.heap[w.heap.size]? = some (.cells R 3 (0, 0)) := by rw [← hW1]; exact heap_alloc_new _ _
  have hlen : (i64s l).length = n := by rw [i64s_length, hl]
  have hdrop : (R.toList.take 0 ++ i64s l ++ R.toList.drop (0 + (i64s l).length)).toArray = (i64s l).toArray := by
    rw [List.drop_of_length_le (by rw [hlen, Array.length_toList]; omega)]; simp
  have hcp : ∀ ty, ∃ W2, (Builtin.copy_ #[33, 33] ty #[.slice (some ⟨w.heap.size, 0, none⟩) n n, .slice a l.length ac]).run Try.prog W1 = .ok (goInt n) W2 ∧ OwI W2 w.heap.size (.slice (some ⟨w.heap.size, 0, none⟩) n n) l ∧ Below w.heap.size w W2 := by
    intro ty
    cases a with
    | none =>
      have h0 : l = [] := by
        cases l with
        | nil => rfl
        | cons y l =>
          obtain ⟨_, _, e, _⟩ := Lst.at hx (i := 0) (by simp)
          cases e
      subst h0
      obtain rfl : n = 0 := by simpa using hl.symm
      refine ⟨W1, by simp [Builtin.copy_, run_underlying Try.underlying33, Builtin.lenOf, Builtin.firstCells, storeCells, Result.andThen], ?_, hb1⟩
      exact ⟨by simp [i64s], .inr ⟨w.heap.size, 0, R, rfl, Nat.le_refl _, hrow, Nat.le_refl _, by simp, by simpa using hRs, by simp [i64s]⟩⟩
    | some a =>
      have hh := run_copy_row (P := Try.prog) W1 33 33 ty 3 w.heap.size 0 n n a l.length ac R 3 (i64s l) Try.underlying33 sizeI hrow (by rw [hlen, hl]; exact (Nat.min_self n).symm) (fun j v hj => by
        have hjl : j < l.length := by have := (List.getElem?_eq_some_iff.1 hj).1; rwa [i64s_length] at this
        obtain ⟨b', o', e', r⟩ := Lst.at hx hjl
        injection e' with e'
        subst e'
        rw [addI, scell_up hb1 (by have := r.1; rwa [Nat.mul_one] at this)]
        simp [i64s, hjl] at hj
        rw [← hj]
        simp [List.getD, hjl]) (by rw [hlen]; omega) (fun u hu => by unfold i64s at hu; obtain ⟨q, _, rfl⟩ := List.mem_map.1 hu; rfl)
      rw [hdrop, hlen] at hh
      refine ⟨_, hh, ?_, setRow_bl hb1 (Nat.le_refl _) _⟩
      refine ⟨by rw [hlen, hl, Nat.mul_one], .inr ⟨w.heap.size, n, (i64s l).toArray, by rw [hl], Nat.le_refl _, ?_, by omega, by unfold maxLen; omega, by simpa using hlen, by rw [hl, Nat.mul_one, ← hlen]; simp⟩⟩
      exact setRow_heap W1 w.heap.size _ _ 3 _ hrow
  obtain ⟨W2, hcp', hO, hb2⟩ := hcp 3
  rw [hl] at hcp' ⊢
  have HO := hide hO
  clear hcp hO hdrop hlen hrow hx hW1 hR hRs hb1
  go_enter Try.func48, Try.ntmps48
  go_wp2
  go_ret
  exact ⟨_, rfl, unhide HO, hb2⟩
end Go.Proofs.Ytclnabbojhbmhaa
