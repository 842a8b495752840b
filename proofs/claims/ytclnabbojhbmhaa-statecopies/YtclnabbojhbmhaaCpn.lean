/- Rows whose elements have several cells; state.copyList of buckets and of asks. -/
import Derived.Test.YtclnabbojhbmhaaCpv
namespace Go.Proofs.Ytclnabbojhbmhaa
open Go.RowKit Go.Maps
set_option maxRecDepth 100000
set_option linter.unusedVariables false
set_option linter.unusedSimpArgs false
abbrev buL (x : Bu) : List Value := [.string x.nam, .int .i64 x.mode, .string x.pre, .int .i64 x.fre, .int .i64 x.dro]
abbrev akL (x : Ak) : List Value := [.int .i64 x.ver, .int .i64 x.days, .int .i64 x.cls]
abbrev veL (x : Ve) (u : Value) : List Value := [.int .i64 x.id, .string x.bu, .string x.ke, .bool x.nul, .bool x.mar, .int .i64 x.size, .int .i64 x.time, .int .i64 x.tier, u, .int .i64 x.vol, .int .i64 x.pos, .int .i64 x.til]
abbrev paL (x : Pa) (u : Value) : List Value := [.int .i64 x.n, .int .i64 x.size, u]
abbrev upL (x : Up) (u : Value) : List Value := [.int .i64 x.id, .string x.bu, .string x.ke, u]
theorem flat_len2 {α : Type} (C : α → List Value) (k : Nat) (hk : ∀ x, (C x).length = k) : ∀ xs : List α, (xs.flatMap C).length = xs.length * k
  | [] => by simp
  | x :: xs => by simp [List.flatMap_cons, hk, flat_len2 C k hk xs, Nat.add_mul]; omega
theorem flat_at {α : Type} (C : α → List Value) (k : Nat) (hk : ∀ x, (C x).length = k) (d : α) : ∀ (xs : List α) (i j : Nat), i < xs.length → j < k → (xs.flatMap C)[i * k + j]? = (C (xs.getD i d))[j]?
  | [], i, j, hi, hj => by simp at hi
  | x :: xs, 0, j, hi, hj => by
    rw [List.flatMap_cons, Nat.zero_mul, Nat.zero_add, List.getElem?_append_left (by rw [hk]; exact hj)]
    rfl
  | x :: xs, i + 1, j, hi, hj => by
    have h := flat_at C k hk d xs i j (by simpa using hi) hj
    have e : (i + 1) * k + j = k + (i * k + j) := by rw [Nat.add_mul]; omega
    rw [List.flatMap_cons, e, List.getElem?_append_right (by rw [hk]; omega), hk, Nat.add_sub_cancel_left, h]
    rfl
/-- A row of one's own is a list that can be read. -/
theorem own_lst {α : Type} {R : World → Nat → Nat → α → Prop} {C : α → List Value} {k : Nat} {d : α} {T : TypeId} {w : World} {B : Nat} {v : Value} {xs : List α} (hk : ∀ x, (C x).length = k) (h : w.ownsRow B T k v xs.length (xs.flatMap C))
    (f : ∀ g p x, x ∈ xs → (∀ j, j < k → w.cell? ⟨g, p + j, none⟩ = (C x)[j]?) → R w g p x) : Lst R k d w v xs := by
  obtain ⟨h1, h2⟩ := h
  rcases h2 with ⟨rfl, h0⟩ | ⟨g, cap, cur, rfl, hB, hg, hc1, hc2, hcs, ht⟩
  · obtain rfl := List.length_eq_zero_iff.1 h0
    exact ⟨none, 0, rfl, Nat.le_refl _, Nat.zero_le _, fun i hi => absurd hi (Nat.not_lt_zero _)⟩
  · refine ⟨some ⟨g, 0, none⟩, cap, rfl, hc1, hc2, fun i hi => ⟨g, 0, rfl, f _ _ _ (by rw [List.getD_eq_getElem?_getD, List.getElem?_eq_getElem hi]; exact List.getElem_mem hi) fun j hj => ?_⟩⟩
    rw [← flat_at C k hk d xs i j hi hj, ← ht]
    have hlt : i * k + j < xs.length * k := Nat.lt_of_lt_of_le (Nat.add_lt_add_left hj _) (by rw [← Nat.succ_mul]; exact Nat.mul_le_mul_right _ hi)
    rw [List.getElem?_take_of_lt hlt]
    simp [World.cell?, hg]
theorem run_copy_rowN {P : Program} (w : World) (dT sT ty elem : TypeId) (g dLen dCap : Nat) (a : Addr) (sLen sCap k : Nat) (cur : Array Value) (t : TypeId) (cs : List Value)
    (hu : P.underlying dT = some (.slice elem)) (hs : (P.info? elem).map (·.size) = some k)
    (hg : w.heap[g]? = some (.cells cur t (0, 0))) (hn : cs.length = Nat.min sLen dLen * k)
    (hsrc : ∀ j v, cs[j]? = some v → w.cell? (a.add j) = some v) (hfit : cs.length ≤ cur.size) (h1 : ∀ v ∈ cs, v.oneCell' = true) :
    (Builtin.copy_ #[dT, sT] ty #[.slice (some ⟨g, 0, none⟩) dLen dCap, .slice (some a) sLen sCap]).run P w =
      .ok (goInt (Nat.min sLen dLen)) (w.setRow g (cs ++ cur.toList.drop cs.length).toArray) := by
  have hl := run_loadCells_list (P := P) w a cs hsrc
  have hst := run_storeCells_at P g 0 t cs 0 cur w hg (by simpa using hfit) h1
  cases hq : P.info? elem with
  | none => simp [hq] at hs
  | some i =>
    have hi : i.size = k := by simpa [hq] using hs
    simp [Builtin.copy_, run_underlying hu, Builtin.lenOf, Builtin.firstCells, sizeOf, typeInfo, hq, hi, ← hn, hl, hst]
theorem infoBu : (Try.prog.info? 55).map (fun i => (i.zero, i.size, i.bytes)) = some (some (.agg #[.string ⟨#[]⟩, .int .i64 0, .string ⟨#[]⟩, .int .i64 0, .int .i64 0]), 5, 56) := by kernel_rfl
theorem infoAk : (Try.prog.info? 65).map (fun i => (i.zero, i.size, i.bytes)) = some (some (.agg #[.int .i64 0, .int .i64 0, .int .i64 0]), 3, 24) := by kernel_rfl
theorem sizeBu : (Try.prog.info? 55).map (·.size) = some 5 := by kernel_rfl
theorem sizeAk : (Try.prog.info? 65).map (·.size) = some 3 := by kernel_rfl
theorem RBu.cells {w : World} {b p : Nat} {x : Bu} (h : RBu w b p x) : ∀ j, j < 5 → w.cell? ⟨b, p + j, none⟩ = (buL x)[j]? := by
  intro j hj
  match j, hj with
  | 0, _ => exact h.c0
  | 1, _ => exact h.c1
  | 2, _ => exact h.c2
  | 3, _ => exact h.c3
  | 4, _ => exact h.c4
theorem RAk.cells {w : World} {b p : Nat} {x : Ak} (h : RAk w b p x) : ∀ j, j < 3 → w.cell? ⟨b, p + j, none⟩ = (akL x)[j]? := by
  intro j hj
  match j, hj with
  | 0, _ => exact h.c0
  | 1, _ => exact h.c1
  | 2, _ => exact h.c2
abbrev OwB (w : World) (B : Nat) (v : Value) (xs : List Bu) : Prop := w.ownsRow B 55 5 v xs.length (xs.flatMap buL)
abbrev OwA (w : World) (B : Nat) (v : Value) (xs : List Ak) : Prop := w.ownsRow B 65 3 v xs.length (xs.flatMap akL)
theorem OwB.lst {w : World} {B : Nat} {v : Value} {xs : List Bu} (h : OwB w B v xs) (hs : ∀ x ∈ xs, x.nam.size ≤ maxLen ∧ x.pre.size ≤ maxLen) : Lst RBu 5 bu0 w v xs :=
  own_lst (fun _ => rfl) h fun g p x hx k => ⟨k 0 (by decide), k 1 (by decide), k 2 (by decide), k 3 (by decide), k 4 (by decide), (hs x hx).1, (hs x hx).2⟩
theorem OwA.lst {w : World} {B : Nat} {v : Value} {xs : List Ak} (h : OwA w B v xs) (hs : ∀ x ∈ xs, (Lit.int .i64 x.ver).wf = true) : Lst RAk 3 ak0 w v xs :=
  own_lst (fun _ => rfl) h fun g p x hx k => ⟨k 0 (by decide), k 1 (by decide), k 2 (by decide), hs x hx⟩
set_option maxHeartbeats 1000000 in
theorem copyListBu_any (x : Value) (l : List Bu) (w : World) (hx : Lst RBu 5 bu0 w x l) (hn : l.length * 56 ≤ 281474976710656) : Calls Try.prog 42 #[x] w fun e w' => ∃ o, e = .returned o ∧ OwB w' w.heap.size o l ∧ Below w.heap.size w w' := by
  obtain ⟨i0, hi, hz0, hz1, hz2⟩ := info_parts infoBu
  obtain ⟨a, ac, rfl, a1, a2⟩ := hx.form
  unfold maxLen at a2
  obtain ⟨n, hl⟩ : ∃ n, l.length = n := ⟨_, rfl⟩
  obtain ⟨R, hR⟩ : ∃ R, madeCells #[.string ⟨#[]⟩, .int .i64 0, .string ⟨#[]⟩, .int .i64 0, .int .i64 0] (n * 5) = R := ⟨_, rfl⟩
  have hRs : R.size = n * 5 := by rw [← hR]; exact size_madeCells _ _
  have hmk : (Instr.makeSlice 29 (.int .i64 (n : Int)) (.int .i64 (n : Int))).run Try.prog w = .ok (.slice (some ⟨w.heap.size, 0, none⟩) n n) (w.alloc (.cells R 55)) := by
    have h := run_make (P := Try.prog) (w := w) 29 55 i0 (.agg #[.string ⟨#[]⟩, .int .i64 0, .string ⟨#[]⟩, .int .i64 0, .int .i64 0]) Try.underlying29 hi hz0 .i64 .i64 (n : Int) (n : Int) (by omega) (Int.le_refl _) (by rw [hz2]; omega) (by omega)
    simpa [hz1, Value.cells, hR] using h
  obtain ⟨W1, hW1⟩ : ∃ W1, w.alloc (.cells R 55) = W1 := ⟨_, rfl⟩
  rw [hW1] at hmk
  have hb1 : Below w.heap.size w W1 := by rw [← hW1]; exact bl1 _ _
  have hrow : W1.heap[w.heap.size]? = some (.cells R 55 (0, 0)) := by rw [← hW1]; exact heap_alloc_new _ _
  have hlen : (l.flatMap buL).length = n * 5 := by rw [flat_len2 buL 5 (fun _ => rfl), hl]
  have hdrop : ((l.flatMap buL) ++ R.toList.drop (l.flatMap buL).length).toArray = (l.flatMap buL).toArray := by
    rw [List.drop_of_length_le (by rw [hlen, Array.length_toList]; omega)]; simp
  have hcp : ∀ ty, ∃ W2, (Builtin.copy_ #[29, 29] ty #[.slice (some ⟨w.heap.size, 0, none⟩) n n, .slice a l.length ac]).run Try.prog W1 = .ok (goInt n) W2 ∧ OwB W2 w.heap.size (.slice (some ⟨w.heap.size, 0, none⟩) n n) l ∧ Below w.heap.size w W2 := by
    intro ty
    cases a with
    | none =>
      have h0 : l = [] := by
        cases l with
        | nil => rfl
        | cons y l =>
          obtain ⟨_, _, e, _⟩ := Lst.at hx (i := 0) (by simp)
          cases e
      subst h0
      obtain rfl : n = 0 := by simpa using hl.symm
      refine ⟨W1, by simp [Builtin.copy_, run_underlying Try.underlying29, Builtin.lenOf, Builtin.firstCells, storeCells, Result.andThen], ?_, hb1⟩
      exact ⟨by simp, .inr ⟨w.heap.size, 0, R, rfl, Nat.le_refl _, hrow, Nat.le_refl _, by simp, by simpa using hRs, by simp⟩⟩
    | some a =>
      have hh := run_copy_rowN (P := Try.prog) W1 29 29 ty 55 w.heap.size n n a l.length ac 5 R 55 (l.flatMap buL) Try.underlying29 sizeBu hrow (by rw [hlen, hl]; simp [Nat.min_self]) (fun j v hj => by
        have hjl : j < n * 5 := by have := (List.getElem?_eq_some_iff.1 hj).1; omega
        have hq : j / 5 < l.length := by omega
        obtain ⟨b', o', e', r⟩ := Lst.at hx hq
        injection e' with e'
        subst e'
        have hc := r.cells (j % 5) (Nat.mod_lt _ (by decide))
        rw [← flat_at buL 5 (fun _ => rfl) bu0 l (j / 5) (j % 5) hq (Nat.mod_lt _ (by decide))] at hc
        have e3 : j / 5 * 5 + j % 5 = j := by omega
        rw [Nat.add_assoc, e3, hj] at hc
        rw [addI]
        exact scell_up hb1 hc) (by rw [hlen]; omega) (fun u hu => by obtain ⟨y, _, hu⟩ := List.mem_flatMap.1 hu; simp at hu; rcases hu with rfl | rfl | rfl | rfl | rfl <;> rfl)
      rw [hdrop, hl] at hh
      rw [hl]
      refine ⟨_, by simpa [Nat.min_self] using hh, ?_, setRow_bl hb1 (Nat.le_refl _) _⟩
      refine ⟨by rw [hlen, hl], .inr ⟨w.heap.size, n, (l.flatMap buL).toArray, by rw [hl], Nat.le_refl _, ?_, by omega, by unfold maxLen; omega, by simpa using hlen, by show List.take _ (l.flatMap buL) = _; rw [hl, ← hlen]; exact List.take_length⟩⟩
      exact setRow_heap W1 w.heap.size _ _ 55 _ hrow
  obtain ⟨W2, hcp', hO, hb2⟩ := hcp 3
  rw [hl] at hcp' ⊢
  have HO := hide hO
  clear hcp hO hdrop hlen hrow hx hW1 hR hRs hb1
  go_enter Try.func42, Try.ntmps42
  go_wp2
  go_ret
  exact ⟨_, rfl, unhide HO, hb2⟩
set_option maxHeartbeats 1000000 in
theorem copyListAk_any (x : Value) (l : List Ak) (w : World) (hx : Lst RAk 3 ak0 w x l) (hn : l.length * 24 ≤ 281474976710656) : Calls Try.prog 47 #[x] w fun e w' => ∃ o, e = .returned o ∧ OwA w' w.heap.size o l ∧ Below w.heap.size w w' := by
  obtain ⟨i0, hi, hz0, hz1, hz2⟩ := info_parts infoAk
  obtain ⟨a, ac, rfl, a1, a2⟩ := hx.form
  unfold maxLen at a2
  obtain ⟨n, hl⟩ : ∃ n, l.length = n := ⟨_, rfl⟩
  obtain ⟨R, hR⟩ : ∃ R, madeCells #[.int .i64 0, .int .i64 0, .int .i64 0] (n * 3) = R := ⟨_, rfl⟩
  have hRs : R.size = n * 3 := by rw [← hR]; exact size_madeCells _ _
  have hmk : (Instr.makeSlice 32 (.int .i64 (n : Int)) (.int .i64 (n : Int))).run Try.prog w = .ok (.slice (some ⟨w.heap.size, 0, none⟩) n n) (w.alloc (.cells R 65)) := by
    have h := run_make (P := Try.prog) (w := w) 32 65 i0 (.agg #[.int .i64 0, .int .i64 0, .int .i64 0]) Try.underlying32 hi hz0 .i64 .i64 (n : Int) (n : Int) (by omega) (Int.le_refl _) (by rw [hz2]; omega) (by omega)
    simpa [hz1, Value.cells, hR] using h
  obtain ⟨W1, hW1⟩ : ∃ W1, w.alloc (.cells R 65) = W1 := ⟨_, rfl⟩
  rw [hW1] at hmk
  have hb1 : Below w.heap.size w W1 := by rw [← hW1]; exact bl1 _ _
  have hrow : W1.heap[w.heap.size]? = some (.cells R 65 (0, 0)) := by rw [← hW1]; exact heap_alloc_new _ _
  have hlen : (l.flatMap akL).length = n * 3 := by rw [flat_len2 akL 3 (fun _ => rfl), hl]
  have hdrop : ((l.flatMap akL) ++ R.toList.drop (l.flatMap akL).length).toArray = (l.flatMap akL).toArray := by
    rw [List.drop_of_length_le (by rw [hlen, Array.length_toList]; omega)]; simp
  have hcp : ∀ ty, ∃ W2, (Builtin.copy_ #[32, 32] ty #[.slice (some ⟨w.heap.size, 0, none⟩) n n, .slice a l.length ac]).run Try.prog W1 = .ok (goInt n) W2 ∧ OwA W2 w.heap.size (.slice (some ⟨w.heap.size, 0, none⟩) n n) l ∧ Below w.heap.size w W2 := by
    intro ty
    cases a with
    | none =>
      have h0 : l = [] := by
        cases l with
        | nil => rfl
        | cons y l =>
          obtain ⟨_, _, e, _⟩ := Lst.at hx (i := 0) (by simp)
          cases e
      subst h0
      obtain rfl : n = 0 := by simpa using hl.symm
      refine ⟨W1, by simp [Builtin.copy_, run_underlying Try.underlying32, Builtin.lenOf, Builtin.firstCells, storeCells, Result.andThen], ?_, hb1⟩
      exact ⟨by simp, .inr ⟨w.heap.size, 0, R, rfl, Nat.le_refl _, hrow, Nat.le_refl _, by simp, by simpa using hRs, by simp⟩⟩
    | some a =>
      have hh := run_copy_rowN (P := Try.prog) W1 32 32 ty 65 w.heap.size n n a l.length ac 3 R 65 (l.flatMap akL) Try.underlying32 sizeAk hrow (by rw [hlen, hl]; simp [Nat.min_self]) (fun j v hj => by
        have hjl : j < n * 3 := by have := (List.getElem?_eq_some_iff.1 hj).1; omega
        have hq : j / 3 < l.length := by omega
        obtain ⟨b', o', e', r⟩ := Lst.at hx hq
        injection e' with e'
        subst e'
        have hc := r.cells (j % 3) (Nat.mod_lt _ (by decide))
        rw [← flat_at akL 3 (fun _ => rfl) ak0 l (j / 3) (j % 3) hq (Nat.mod_lt _ (by decide))] at hc
        have e3 : j / 3 * 3 + j % 3 = j := by omega
        rw [Nat.add_assoc, e3, hj] at hc
        rw [addI]
        exact scell_up hb1 hc) (by rw [hlen]; omega) (fun u hu => by obtain ⟨y, _, hu⟩ := List.mem_flatMap.1 hu; simp at hu; rcases hu with rfl | rfl | rfl <;> rfl)
      rw [hdrop, hl] at hh
      rw [hl]
      refine ⟨_, by simpa [Nat.min_self] using hh, ?_, setRow_bl hb1 (Nat.le_refl _) _⟩
      refine ⟨by rw [hlen, hl], .inr ⟨w.heap.size, n, (l.flatMap akL).toArray, by rw [hl], Nat.le_refl _, ?_, by omega, by unfold maxLen; omega, by simpa using hlen, by show List.take _ (l.flatMap akL) = _; rw [hl, ← hlen]; exact List.take_length⟩⟩
      exact setRow_heap W1 w.heap.size _ _ 65 _ hrow
  obtain ⟨W2, hcp', hO, hb2⟩ := hcp 3
  rw [hl] at hcp' ⊢
  have HO := hide hO
  clear hcp hO hdrop hlen hrow hx hW1 hR hRs hb1
  go_enter Try.func47, Try.ntmps47
  go_wp2
  go_ret
  exact ⟨_, rfl, unhide HO, hb2⟩
end Go.Proofs.Ytclnabbojhbmhaa
