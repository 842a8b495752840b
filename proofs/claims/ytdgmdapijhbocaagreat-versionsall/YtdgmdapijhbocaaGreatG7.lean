/- Rows whose elements have several cells; state.copyList of buckets and of asks. -/
import Derived.Test.YtdgmdapijhbocaaGreatG6
namespace Go.Proofs.YtdgmdapijhbocaaGreat
open Go.RowKit Go.Maps
set_option maxRecDepth 100000
set_option linter.unusedVariables false
set_option linter.unusedSimpArgs false
abbrev buL (x : Bu) : List Value := [.string x.nam, .int .i64 x.mode, .string x.pre, .int .i64 x.fre, .int .i64 x.dro]
abbrev akL (x : Ak) : List Value := [.int .i64 x.ver, .int .i64 x.days, .int .i64 x.cls]
abbrev veL (x : Ve) (u : Value) : List Value := [.int .i64 x.id, .string x.bu, .string x.ke, .bool x.nul, .bool x.mar, .int .i64 x.size, .int .i64 x.time, .int .i64 x.tier, u, .int .i64 x.vol, .int .i64 x.pos, .int .i64 x.til]
abbrev paL (x : Pa) (u : Value) : List Value := [.int .i64 x.n, .int .i64 x.size, u]
abbrev upL (x : Up) (u : Value) : List Value := [.int .i64 x.id, .string x.bu, .string x.ke, u]
theorem flat_len2 {α : Type} (C : α → List Value) (k : Nat) (hk : ∀ x, (C x).length = k) : ∀ xs : List α, (xs.flatMap C).length = xs.length * k
  | [] => by simp
  | x :: xs => by simp [List.flatMap_cons, hk, flat_len2 C k hk xs, Nat.add_mul]; omega
theorem flat_at {α : Type} (C : α → List Value) (k : Nat) (hk : ∀ x, (C x).length = k) (d : α) : ∀ (xs : List α) (i j : Nat), i < xs.length → j < k → (xs.flatMap C)[i * k + j]? = (C (xs.getD i d))[j]?
  | [], i, j, hi, hj => by simp at hi
  | x :: xs, 0, j, hi, hj => by
    rw [List.flatMap_cons, Nat.zero_mul, Nat.zero_add, List.getElem?_append_left (by rw [hk]; exact hj)]
    rfl
  | x :: xs, i + 1, j, hi, hj => by
    have h := flat_at C k hk d xs i j (by simpa using hi) hj
    have e : (i + 1) * k + j = k + (i * k + j) := by rw [Nat.add_mul]; omega
    rw [List.flatMap_cons, e, List.getElem?_append_right (by rw [hk]; omega), hk, Nat.add_sub_cancel_left, h]
    rfl
/-- A row of one's own is a list that can be read. -/
theorem own_lst {α : Type} {R : World → Nat → Nat → α → Prop} {C : α → List Value} {k : Nat} {d : α} {T : TypeId} {w : World} {B : Nat} {v : Value} {xs : List α} (hk : ∀ x, (C x).length = k) (h : w.ownsRow B T k v xs.length (xs.flatMap C))
    (f : ∀ g p x, x ∈ xs → (∀ j, j < k → w.cell? ⟨g, p + j, none⟩ = (C x)[j]?) → R w g p x) : Lst R k d w v xs := by
  obtain ⟨h1, h2⟩ := h
  rcases h2 with ⟨rfl, h0⟩ | ⟨g, cap, cur, rfl, hB, hg, hc1, hc2, hcs, ht⟩
  · obtain rfl := List.length_eq_zero_iff.1 h0
    exact ⟨none, 0, rfl, Nat.le_refl _, Nat.zero_le _, fun i hi => absurd hi (Nat.not_lt_zero _)⟩
  · refine ⟨some ⟨g, 0, none⟩, cap, rfl, hc1, hc2, fun i hi => ⟨g, 0, rfl, f _ _ _ (by rw [List.getD_eq_getElem?_getD, List.getElem?_eq_getElem hi]; exact List.getElem_mem hi) fun j hj => ?_⟩⟩
    rw [← flat_at C k hk d xs i j hi hj, ← ht]
    have hlt : i * k + j < xs.length * k := Nat.lt_of_lt_of_le (Nat.add_lt_add_left hj _) (by rw [← Nat.succ_mul]; exact Nat.mul_le_mul_right _ hi)
    rw [List.getElem?_take_of_lt hlt]
    simp [World.cell?, hg]
theorem run_copy_rowN {P : Program} (w : World) (dT sT ty elem : TypeId) (g dLen dCap : Nat) (a : Addr) (sLen sCap k : Nat) (cur : Array Value) (t : TypeId) (cs : List Value)
    (hu : P.underlying dT = some (.slice elem)) (hs : (P.info? elem).map (·.size) = some k)
    (hg : w.heap[g]? = some (.cells cur t (0, 0))) (hn : cs.length = Nat.min sLen dLen * k)
    (hsrc : ∀ j v, cs[j]? = some v → w.cell? (a.add j) = some v) (hfit : cs.length ≤ cur.size) (h1 : ∀ v ∈ cs, v.oneCell' = true) :
    (Builtin.copy_ #[dT, sT] ty #[.slice (some ⟨g, 0, none⟩) dLen dCap, .slice (some a) sLen sCap]).run P w =
      .ok (goInt (Nat.min sLen dLen)) (w.setRow g (cs ++ cur.toList.drop cs.length).toArray) := by
  have hl := run_loadCells_list (P := P) w a cs hsrc
  have hst := run_storeCells_at P g 0 t cs 0 cur w hg (by simpa using hfit) h1
  cases hq : P.info? elem with
  | none => simp [hq] at hs
  | some i =>
    have hi : i.size = k := by simpa [hq] using hs
    simp [Builtin.copy_, run_underlying hu, Builtin.lenOf, Builtin.firstCells, sizeOf, typeInfo, hq, hi, ← hn, hl, hst]
theorem infoBu : (Tryz.prog.info? 69).map (fun i => (i.zero, i.size, i.bytes)) = some (some (.agg #[.string ⟨#[]⟩, .int .i64 0, .string ⟨#[]⟩, .int .i64 0, .int .i64 0]), 5, 56) := by kernel_rfl
theorem infoAk : (Tryz.prog.info? 43).map (fun i => (i.zero, i.size, i.bytes)) = some (some (.agg #[.int .i64 0, .int .i64 0, .int .i64 0]), 3, 24) := by kernel_rfl
theorem sizeBu : (Tryz.prog.info? 69).map (·.size) = some 5 := by kernel_rfl
theorem sizeAk : (Tryz.prog.info? 43).map (·.size) = some 3 := by kernel_rfl
theorem RBu.cells {w : World} {b p : Nat} {x : Bu} (h : RBu w b p x) : ∀ j, j < 5 → w.cell? ⟨b, p + j, none⟩ = (buL x)[j]? := by
  intro j hj
  match j, hj with
  | 0, _ => exact h.c0
  | 1, _ => exact h.c1
  | 2, _ => exact h.c2
  | 3, _ => exact h.c3
  | 4, _ => exact h.c4
theorem RAk.cells {w : World} {b p : Nat} {x : Ak} (h : RAk w b p x) : ∀ j, j < 3 → w.cell? ⟨b, p + j, none⟩ = (akL x)[j]? := by
  intro j hj
  match j, hj with
  | 0, _ => exact h.c0
  | 1, _ => exact h.c1
  | 2, _ => exact h.c2
abbrev OwB (w : World) (B : Nat) (v : Value) (xs : List Bu) : Prop := w.ownsRow B 69 5 v xs.length (xs.flatMap buL)
abbrev OwA (w : World) (B : Nat) (v : Value) (xs : List Ak) : Prop := w.ownsRow B 43 3 v xs.length (xs.flatMap akL)
theorem OwB.lst {w : World} {B : Nat} {v : Value} {xs : List Bu} (h : OwB w B v xs) (hs : ∀ x ∈ xs, x.nam.size ≤ maxLen ∧ x.pre.size ≤ maxLen) : Lst RBu 5 bu0 w v xs :=
  own_lst (fun _ => rfl) h fun g p x hx k => ⟨k 0 (by decide), k 1 (by decide), k 2 (by decide), k 3 (by decide), k 4 (by decide), (hs x hx).1, (hs x hx).2⟩
theorem OwA.lst {w : World} {B : Nat} {v : Value} {xs : List Ak} (h : OwA w B v xs) (hs : ∀ x ∈ xs, (Lit.int .i64 x.ver).wf = true) : Lst RAk 3 ak0 w v xs :=
  own_lst (fun _ => rfl) h fun g p x hx k => ⟨k 0 (by decide), k 1 (by decide), k 2 (by decide), hs x hx⟩
set_option maxHeartbeats 1000000 in
theorem copyListBu_any (x : Value) (l : List Bu) (w : World) (hx : Lst RBu 5 bu0 w x l) (hn : l.length * 56 ≤ 281474976710656) : Calls Tryz.prog 54 #[x] w fun e w' => ∃ o, e = .returned o ∧ OwB w' w.heap.size o l ∧ Below w.heap.size w w' := by
  obtain ⟨i0, hi, hz0, hz1, hz2⟩ := info_parts infoBu
  obtain ⟨a, ac, rfl, a1, a2⟩ := hx.form
  unfold maxLen at a2
  obtain ⟨n, hl⟩ : ∃ n, l.length = n := ⟨_, rfl⟩
  obtain ⟨R, hR⟩ : ∃ R, madeCells #[.string ⟨#[]⟩, .int .i64 0, .string ⟨#[]⟩, .int .i64 0, .int .i64 0] (n * 5) = R := ⟨_, rfl⟩
  have hRs : R.size = n * 5 := by rw [← hR]; exact size_madeCells _ _
  have hmk : (Instr.makeSlice 23 (.int .i64 (n : Int)) (.int .i64 (n : Int))).run Tryz.prog w = .ok (.slice (some ⟨w.heap.size, 0, none⟩) n n) (w.alloc (.cells R 69)) := by
    have h := run_make (P := Tryz.prog) (w := w) 23 69 i0 (.agg #[.string ⟨#[]⟩, .int .i64 0, .string ⟨#[]⟩, .int .i64 0, .int .i64 0]) Tryz.underlying23 hi hz0 .i64 .i64 (n : Int) (n : Int) (by omega) (Int.le_refl _) (by rw [hz2]; omega) (by omega)
    simpa [hz1, Value.cells, hR] using h
  obtain ⟨W1, hW1⟩ : ∃ W1, w.alloc (.cells R 69) = W1 := ⟨_, rfl⟩
  rw [hW1] at hmk
  have hb1 : Below w.heap.size w W1 := by rw [← hW1]; exact bl1 _ _
  have hrow : W1.heap[w.heap.size]? = some (.cells R 69 (0, 0)) := by rw [← hW1]; exact heap_alloc_new _ _
  have hlen : (l.flatMap buL).length = n * 5 := by rw [flat_len2 buL 5 (fun _ => rfl), hl]
  have hdrop : ((l.flatMap buL) ++ R.toList.drop (l.flatMap buL).length).toArray = (l.flatMap buL).toArray := by
    rw [List.drop_of_length_le (by rw [hlen, Array.length_toList]; omega)]; simp
  have hcp : ∀ ty, ∃ W2, (Builtin.copy_ #[23, 23] ty #[.slice (some ⟨w.heap.size, 0, none⟩) n n, .slice a l.length ac]).run Tryz.prog W1 = .ok (goInt n) W2 ∧ OwB W2 w.heap.size (.slice (some ⟨w.heap.size, 0, none⟩) n n) l ∧ Below w.heap.size w W2 := by
    intro ty
    cases a with
    | none =>
      have h0 : l = [] := by
        cases l with
        | nil => rfl
        | cons y l =>
          obtain ⟨_, _, e, _⟩ := Lst.at hx (i := 0) (by simp)
          cases e
      subst h0
      obtain rfl : n = 0 := by simpa using hl.symm
      refine ⟨W1, by simp [Builtin.copy_, run_underlying Tryz.underlying23, Builtin.lenOf, Builtin.firstCells, storeCells, Result.andThen], ?_, hb1⟩
      exact ⟨by simp, .inr ⟨w.heap.size, 0, R, rfl, Nat.le_refl _, hrow, Nat.le_refl _, by simp, by simpa using hRs, by simp⟩⟩
    | some a =>
      have hh := run_copy_rowN (P := Tryz.prog) W1 23 23 ty 69 w.heap.size n n a l.length ac 5 R 69 (l.flatMap buL) Tryz.underlying23 sizeBu hrow (by rw [hlen, hl]; simp [Nat.min_self]) (fun j v hj => by
        have hjl : j < n * 5 := by have := (List.getElem?_eq_some_iff.1 hj).1; omega
        have hq : j / 5 < l.length := by omega
        obtain ⟨b', o', e', r⟩ := Lst.at hx hq
        injection e' with e'
        subst e'
        have hc := r.cells (j % 5) (Nat.mod_lt _ (by decide))
        rw [← flat_at buL 5 (fun _ => rfl) bu0 l (j / 5) (j % 5) hq (Nat.mod_lt _ (by decide))] at hc
        have e3 : j / 5 * 5 + j % 5 = j := by omega
        rw [Nat.add_assoc, e3, hj] at hc
        rw [addI]
        exact scell_up hb1 hc) (by rw [hlen]; omega) (fun u hu => by obtain ⟨y, _, hu⟩ := List.mem_flatMap.1 hu; simp at hu; rcases hu with rfl | rfl | rfl | rfl | rfl <;> rfl)
      rw [hdrop, hl] at hh
      rw [hl]
      refine ⟨_, by simpa [Nat.min_self] using hh, ?_, setRow_bl hb1 (Nat.le_refl _) _⟩
      refine ⟨by rw [hlen, hl], .inr ⟨w.heap.size, n, (l.flatMap buL).toArray, by rw [hl], Nat.le_refl _, ?_, by omega, by unfold maxLen; omega, by simpa using hlen, by show List.take _ (l.flatMap buL) = _; rw [hl, ← hlen]; exact List.take_length⟩⟩
      exact setRow_heap W1 w.heap.size _ _ 69 _ hrow
  obtain ⟨W2, hcp', hO, hb2⟩ := hcp 3
  rw [hl] at hcp' ⊢
  have HO := hide hO
  clear hcp hO hdrop hlen hrow hx hW1 hR hRs hb1
  go_enter Tryz.func54, Tryz.ntmps54
  go_wp2
  go_ret
  exact ⟨_, rfl, unhide HO, hb2⟩
set_option maxHeartbeats 1000000 in
theorem copyListAk_any (x : Value) (l : List Ak) (w : World) (hx : Lst RAk 3 ak0 w x l) (hn : l.length * 24 ≤ 281474976710656) : Calls Tryz.prog 58 #[x] w fun e w' => ∃ o, e = .returned o ∧ OwA w' w.heap.size o l ∧ Below w.heap.size w w' := by
  obtain ⟨i0, hi, hz0, hz1, hz2⟩ := info_parts infoAk
  obtain ⟨a, ac, rfl, a1, a2⟩ := hx.form
  unfold maxLen at a2
  obtain ⟨n, hl⟩ : ∃ n, l.length = n := ⟨_, rfl⟩
  obtain ⟨R, hR⟩ : ∃ R, madeCells #[.int .i64 0, .int .i64 0, .int .i64 0] (n * 3) = R := ⟨_, rfl⟩
  have hRs : R.size = n * 3 := by rw [← hR]; exact size_madeCells _ _
  have hmk : (Instr.makeSlice 26 (.int .i64 (n : Int)) (.int .i64 (n : Int))).run Tryz.prog w = .ok (.slice (some ⟨w.heap.size, 0, none⟩) n n) (w.alloc (.cells R 43)) := by
    have h := run_make (P := Tryz.prog) (w := w) 26 43 i0 (.agg #[.int .i64 0, .int .i64 0, .int .i64 0]) Tryz.underlying26 hi hz0 .i64 .i64 (n : Int) (n : Int) (by omega) (Int.le_refl _) (by rw [hz2]; omega) (by omega)
    simpa [hz1, Value.cells, hR] using h
  obtain ⟨W1, hW1⟩ : ∃ W1, w.alloc (.cells R 43) = W1 := ⟨_, rfl⟩
  rw [hW1] at hmk
  have hb1 : Below w.heap.size w W1 := by rw [← hW1]; exact bl1 _ _
  have hrow : W1.heap[w.heap.size]? = some (.cells R 43 (0, 0)) := by rw [← hW1]; exact heap_alloc_new _ _
  have hlen : (l.flatMap akL).length = n * 3 := by rw [flat_len2 akL 3 (fun _ => rfl), hl]
  have hdrop : ((l.flatMap akL) ++ R.toList.drop (l.flatMap akL).length).toArray = (l.flatMap akL).toArray := by
    rw [List.drop_of_length_le (by rw [hlen, Array.length_toList]; omega)]; simp
  have hcp : ∀ ty, ∃ W2, (Builtin.copy_ #[26, 26] ty #[.slice (some ⟨w.heap.size, 0, none⟩) n n, .slice a l.length ac]).run Tryz.prog W1 = .ok (goInt n) W2 ∧ OwA W2 w.heap.size (.slice (some ⟨w.heap.size, 0, none⟩) n n) l ∧ Below w.heap.size w W2 := by
    intro ty
    cases a with
    | none =>
      have h0 : l = [] := by
        cases l with
        | nil => rfl
        | cons y l =>
          obtain ⟨_, _, e, _⟩ := Lst.at hx (i := 0) (by simp)
          cases e
      subst h0
      obtain rfl : n = 0 := by simpa using hl.symm
      refine ⟨W1, by simp [Builtin.copy_, run_underlying Tryz.underlying26, Builtin.lenOf, Builtin.firstCells, storeCells, Result.andThen], ?_, hb1⟩
      exact ⟨by simp, .inr ⟨w.heap.size, 0, R, rfl, Nat.le_refl _, hrow, Nat.le_refl _, by simp, by simpa using hRs, by simp⟩⟩
    | some a =>
      have hh := run_copy_rowN (P := Tryz.prog) W1 26 26 ty 43 w.heap.size n n a l.length ac 3 R 43 (l.flatMap akL) Tryz.underlying26 sizeAk hrow (by rw [hlen, hl]; simp [Nat.min_self]) (fun j v hj => by
        have hjl : j < n * 3 := by have := (List.getElem?_eq_some_iff.1 hj).1; omega
        have hq : j / 3 < l.length := by omega
        obtain ⟨b', o', e', r⟩ := Lst.at hx hq
        injection e' with e'
        subst e'
        have hc := r.cells (j % 3) (Nat.mod_lt _ (by decide))
        rw [← flat_at akL 3 (fun _ => rfl) ak0 l (j / 3) (j % 3) hq (Nat.mod_lt _ (by decide))] at hc
        have e3 : j / 3 * 3 + j % 3 = j := by omega
        rw [Nat.add_assoc, e3, hj] at hc
        rw [addI]
        exact scell_up hb1 hc) (by rw [hlen]; omega) (fun u hu => by obtain ⟨y, _, hu⟩ := List.mem_flatMap.1 hu; simp at hu; rcases hu with rfl | rfl | rfl <;> rfl)
      rw [hdrop, hl] at hh
      rw [hl]
      refine ⟨_, by simpa [Nat.min_self] using hh, ?_, setRow_bl hb1 (Nat.le_refl _) _⟩
      refine ⟨by rw [hlen, hl], .inr ⟨w.heap.size, n, (l.flatMap akL).toArray, by rw [hl], Nat.le_refl _, ?_, by omega, by unfold maxLen; omega, by simpa using hlen, by show List.take _ (l.flatMap akL) = _; rw [hl, ← hlen]; exact List.take_length⟩⟩
      exact setRow_heap W1 w.heap.size _ _ 43 _ hrow
  obtain ⟨W2, hcp', hO, hb2⟩ := hcp 3
  rw [hl] at hcp' ⊢
  have HO := hide hO
  clear hcp hO hdrop hlen hrow hx hW1 hR hRs hb1
  go_enter Tryz.func58, Tryz.ntmps58
  go_wp2
  go_ret
  exact ⟨_, rfl, unhide HO, hb2⟩
end Go.Proofs.YtdgmdapijhbocaaGreat

/- state.copyEach at versions, parts and uploads; copyPart, copyUpload: lists in memory of one's own. -/
namespace Go.Proofs.YtdgmdapijhbocaaGreat
open Go.RowKit Go.Maps
set_option maxRecDepth 100000
set_option linter.unusedVariables false
set_option linter.unusedSimpArgs false
theorem cell_of {w : World} {g : Nat} {c : Array Value} {t : TypeId} {fz : Nat × Nat} (h : w.heap[g]? = some (.cells c t fz)) (j : Nat) {v : Value} (hv : c[j]? = some v) : w.cell? ⟨g, j, none⟩ = some v := by simp [World.cell?, h, hv]
theorem own_up {w w' : World} (hb : Below w.heap.size w w') {B : Nat} {e : TypeId} {size : Nat} {v : Value} {n : Nat} {xs : List Value} (h : w.ownsRow B e size v n xs) : w'.ownsRow B e size v n xs := h.kept (gb_below (r := none) hb) (Classical.em _)
theorem own_low {w : World} {B : Nat} {e : TypeId} {size : Nat} {v : Value} {n : Nat} {xs : List Value} (h : w.ownsRow B e size v n xs) {g i : Nat} (hg : g < B) (u : Value) : (w.setCell ⟨g, i, none⟩ u).ownsRow B e size v n xs :=
  World.ownsRow.kept (row := some g) h ⟨rfl, rfl, rfl, by simp [World.setCell], fun k hk hne => Below.heap_setCell _ _ _ _ (fun e => hne (by rw [e]))⟩ (.inr (fun e => by have := (h.lt g e).1; omega))
theorem own_base {w : World} {B B' : Nat} {e : TypeId} {size : Nat} {v : Value} {n : Nat} {xs : List Value} (h : w.ownsRow B e size v n xs) (hB : B' ≤ B) : w.ownsRow B' e size v n xs := by
  obtain ⟨h1, h2⟩ := h
  refine ⟨h1, ?_⟩
  rcases h2 with h2 | ⟨g, cap, cur, e1, e2, r⟩
  · exact .inl h2
  · exact .inr ⟨g, cap, cur, e1, Nat.le_trans hB e2, r⟩
theorem own_form {w : World} {B : Nat} {e : TypeId} {size : Nat} {v : Value} {n : Nat} {xs : List Value} (h : w.ownsRow B e size v n xs) : ∃ a cap, v = .slice a n cap ∧ n ≤ cap ∧ cap ≤ maxLen := by
  rcases h.2 with ⟨rfl, rfl⟩ | ⟨g, cap, cur, rfl, _, _, h1, h2, _⟩
  · exact ⟨none, 0, rfl, Nat.le_refl _, Nat.zero_le _⟩
  · exact ⟨_, cap, rfl, h1, h2⟩
def OwV (w : World) (B : Nat) (v : Value) (xs : List Ve) : Prop := ∃ ps : List (Ve × Value), ps.map (·.1) = xs ∧ w.ownsRow B 36 12 v ps.length (ps.flatMap fun p => veL p.1 p.2) ∧ ∀ p ∈ ps, OwI w B p.2 p.1.sec
def OwP (w : World) (B : Nat) (v : Value) (xs : List Pa) : Prop := ∃ ps : List (Pa × Value), ps.map (·.1) = xs ∧ w.ownsRow B 45 3 v ps.length (ps.flatMap fun p => paL p.1 p.2) ∧ ∀ p ∈ ps, OwI w B p.2 p.1.sec
abbrev Aprt (a b : Value) : Prop := a.ownBlock = none ∨ a.ownBlock ≠ b.ownBlock
def OwU (w : World) (B : Nat) (v : Value) (xs : List Up) : Prop := ∃ ps : List (Up × Value), ps.map (·.1) = xs ∧ w.ownsRow B 102 4 v ps.length (ps.flatMap fun p => upL p.1 p.2) ∧ (∀ p ∈ ps, OwP w B p.2 p.1.parts) ∧ ps.Pairwise (fun a b => Aprt a.2 b.2)
section
variable {w w' : World} {B : Nat} {v : Value}
theorem OwP.up {xs : List Pa} (hb : Below w.heap.size w w') (h : OwP w B v xs) : OwP w' B v xs := by
  obtain ⟨ps, h1, h2, h3⟩ := h
  exact ⟨ps, h1, own_up hb h2, fun p hp => own_up hb (h3 p hp)⟩
theorem OwP.low {xs : List Pa} (h : OwP w B v xs) {g i : Nat} (hg : g < B) (u : Value) : OwP (w.setCell ⟨g, i, none⟩ u) B v xs := by
  obtain ⟨ps, h1, h2, h3⟩ := h
  exact ⟨ps, h1, own_low h2 hg u, fun p hp => own_low (h3 p hp) hg u⟩
theorem OwP.base {xs : List Pa} {B' : Nat} (h : OwP w B v xs) (hB : B' ≤ B) : OwP w B' v xs := by
  obtain ⟨ps, h1, h2, h3⟩ := h
  exact ⟨ps, h1, own_base h2 hB, fun p hp => own_base (h3 p hp) hB⟩
theorem OwP.form {xs : List Pa} (h : OwP w B v xs) : ∃ a cap, v = .slice a xs.length cap ∧ xs.length ≤ cap ∧ cap ≤ maxLen := by
  obtain ⟨ps, h1, h2, h3⟩ := h
  subst h1
  simpa using own_form h2
theorem OwP.lt {xs : List Pa} (h : OwP w B v xs) : ∀ k, v.ownBlock = some k → B ≤ k ∧ k < w.heap.size := by
  obtain ⟨ps, h1, h2, h3⟩ := h
  exact h2.lt
theorem OwP.lst {xs : List Pa} (h : OwP w B v xs) (hs : ∀ x ∈ xs, ∀ n ∈ x.sec, (Lit.int .i64 n).wf = true) : Lst RPa 3 pa0 w v xs := by
  obtain ⟨ps, h1, h2, h3⟩ := h
  subst h1
  have hl : Lst (fun w g p (x : Pa × Value) => RPa w g p x.1) 3 (pa0, v) w v ps := own_lst (fun _ => rfl) h2 fun g p x hx k => ⟨k 0 (by decide), k 1 (by decide), _, k 2 (by decide), (h3 x hx).ints (hs x.1 (List.mem_map_of_mem hx))⟩
  obtain ⟨a, cap, e, e1, e2, e3⟩ := hl
  refine ⟨a, cap, by simpa using e, by simpa using e1, e2, fun i hi => ?_⟩
  obtain ⟨b, o, e4, e5⟩ := e3 i (by simpa using hi)
  refine ⟨b, o, e4, ?_⟩
  have hi' : i < ps.length := by simpa using hi
  simpa [List.getD, hi'] using e5
theorem OwV.up {xs : List Ve} (hb : Below w.heap.size w w') (h : OwV w B v xs) : OwV w' B v xs := by
  obtain ⟨ps, h1, h2, h3⟩ := h
  exact ⟨ps, h1, own_up hb h2, fun p hp => own_up hb (h3 p hp)⟩
theorem OwV.low {xs : List Ve} (h : OwV w B v xs) {g i : Nat} (hg : g < B) (u : Value) : OwV (w.setCell ⟨g, i, none⟩ u) B v xs := by
  obtain ⟨ps, h1, h2, h3⟩ := h
  exact ⟨ps, h1, own_low h2 hg u, fun p hp => own_low (h3 p hp) hg u⟩
theorem OwV.base {xs : List Ve} {B' : Nat} (h : OwV w B v xs) (hB : B' ≤ B) : OwV w B' v xs := by
  obtain ⟨ps, h1, h2, h3⟩ := h
  exact ⟨ps, h1, own_base h2 hB, fun p hp => own_base (h3 p hp) hB⟩
theorem OwV.form {xs : List Ve} (h : OwV w B v xs) : ∃ a cap, v = .slice a xs.length cap ∧ xs.length ≤ cap ∧ cap ≤ maxLen := by
  obtain ⟨ps, h1, h2, h3⟩ := h
  subst h1
  simpa using own_form h2
theorem OwV.lst {xs : List Ve} (h : OwV w B v xs) (hs : ∀ x ∈ xs, (x.bu.size ≤ maxLen ∧ x.ke.size ≤ maxLen) ∧ ∀ n ∈ x.sec, (Lit.int .i64 n).wf = true) : Lst RVe 12 ve0 w v xs := by
  obtain ⟨ps, h1, h2, h3⟩ := h
  subst h1
  have hl : Lst (fun w g p (x : Ve × Value) => RVe w g p x.1) 12 (ve0, v) w v ps := own_lst (fun _ => rfl) h2 fun g p x hx k =>
    ⟨k 0 (by decide), k 1 (by decide), k 2 (by decide), k 3 (by decide), k 4 (by decide), k 5 (by decide), k 6 (by decide), k 7 (by decide), ⟨_, k 8 (by decide), (h3 x hx).ints (hs x.1 (List.mem_map_of_mem hx)).2⟩, k 9 (by decide), k 10 (by decide), k 11 (by decide), (hs x.1 (List.mem_map_of_mem hx)).1.1, (hs x.1 (List.mem_map_of_mem hx)).1.2⟩
  obtain ⟨a, cap, e, e1, e2, e3⟩ := hl
  refine ⟨a, cap, by simpa using e, by simpa using e1, e2, fun i hi => ?_⟩
  obtain ⟨b, o, e4, e5⟩ := e3 i (by simpa using hi)
  refine ⟨b, o, e4, ?_⟩
  have hi' : i < ps.length := by simpa using hi
  simpa [List.getD, hi'] using e5
theorem OwU.up {xs : List Up} (hb : Below w.heap.size w w') (h : OwU w B v xs) : OwU w' B v xs := by
  obtain ⟨ps, h1, h2, h3, h4⟩ := h
  exact ⟨ps, h1, own_up hb h2, fun p hp => (h3 p hp).up hb, h4⟩
theorem OwU.low {xs : List Up} (h : OwU w B v xs) {g i : Nat} (hg : g < B) (u : Value) : OwU (w.setCell ⟨g, i, none⟩ u) B v xs := by
  obtain ⟨ps, h1, h2, h3, h4⟩ := h
  exact ⟨ps, h1, own_low h2 hg u, fun p hp => (h3 p hp).low hg u, h4⟩
theorem OwU.base {xs : List Up} {B' : Nat} (h : OwU w B v xs) (hB : B' ≤ B) : OwU w B' v xs := by
  obtain ⟨ps, h1, h2, h3, h4⟩ := h
  exact ⟨ps, h1, own_base h2 hB, fun p hp => (h3 p hp).base hB, h4⟩
theorem OwU.form {xs : List Up} (h : OwU w B v xs) : ∃ a cap, v = .slice a xs.length cap ∧ xs.length ≤ cap ∧ cap ≤ maxLen := by
  obtain ⟨ps, h1, h2, h3, h4⟩ := h
  subst h1
  simpa using own_form h2
theorem OwU.lst {xs : List Up} (h : OwU w B v xs) (hs : ∀ x ∈ xs, (x.bu.size ≤ maxLen ∧ x.ke.size ≤ maxLen) ∧ ∀ p ∈ x.parts, ∀ n ∈ p.sec, (Lit.int .i64 n).wf = true) : Lst RUp 4 up0 w v xs := by
  obtain ⟨ps, h1, h2, h3, h4⟩ := h
  subst h1
  have hl : Lst (fun w g p (x : Up × Value) => RUp w g p x.1) 4 (up0, v) w v ps := own_lst (fun _ => rfl) h2 fun g p x hx k =>
    ⟨k 0 (by decide), k 1 (by decide), k 2 (by decide), ⟨_, k 3 (by decide), (h3 x hx).lst (hs x.1 (List.mem_map_of_mem hx)).2⟩, (hs x.1 (List.mem_map_of_mem hx)).1.1, (hs x.1 (List.mem_map_of_mem hx)).1.2⟩
  obtain ⟨a, cap, e, e1, e2, e3⟩ := hl
  refine ⟨a, cap, by simpa using e, by simpa using e1, e2, fun i hi => ?_⟩
  obtain ⟨b, o, e4, e5⟩ := e3 i (by simpa using hi)
  refine ⟨b, o, e4, ?_⟩
  have hi' : i < ps.length := by simpa using hi
  simpa [List.getD, hi'] using e5
end
theorem cell_app {w : World} {g p : Nat} {t : TypeId} {fz : Nat × Nat} {P Q : List Value} (h : w.heap[g]? = some (.cells (P ++ Q).toArray t fz)) (hp : P.length = p) (j : Nat) {v : Value} (hv : Q[j]? = some v) : w.cell? ⟨g, p + j, none⟩ = some v := by
  subst hp
  refine cell_of h _ ?_
  rw [List.getElem?_toArray, List.getElem?_append_right (by omega), Nat.add_sub_cancel_left]
  exact hv
theorem putOne {w : World} {g p : Nat} {t : TypeId} {P Q : List Value} {a : Value} (h : w.heap[g]? = some (.cells (P ++ (a :: Q)).toArray t (0, 0))) (hp : P.length = p) (v : Value) : (w.setCell ⟨g, p, none⟩ v).heap[g]? = some (.cells ((P ++ [v]) ++ Q).toArray t (0, 0)) := by
  have k := heap_setCell_same w g p _ t v h
  rw [k]
  subst hp
  simp [List.set_append_right]
theorem put3 {w : World} {g p : Nat} {t : TypeId} {P R : List Value} {a0 a1 a2 : Value} (h : w.heap[g]? = some (.cells (P ++ (a0 :: a1 :: a2 :: R)).toArray t (0, 0))) (hp : P.length = p) (v0 v1 v2 : Value) :
    (((w.setCell ⟨g, p, none⟩ v0).setCell ⟨g, p + 1, none⟩ v1).setCell ⟨g, p + 2, none⟩ v2).heap[g]? = some (.cells (P ++ [v0, v1, v2] ++ R).toArray t (0, 0)) := by
  replace h := putOne h (p := p) (by simp [hp]) v0
  replace h := putOne h (p := p + 1) (by simp [hp]) v1
  replace h := putOne h (p := p + 2) (by simp [hp]) v2
  simpa [List.append_assoc] using h
theorem split3 {R : List Value} {n : Nat} (h : R.length = n + 3) : ∃ a0 a1 a2 Q, R = a0 :: a1 :: a2 :: Q ∧ Q.length = n := by
  match R, h with
  | a0 :: a1 :: a2 :: Q, h => exact ⟨a0, a1, a2, Q, rfl, by simpa using h⟩
theorem put4 {w : World} {g p : Nat} {t : TypeId} {P R : List Value} {a0 a1 a2 a3 : Value} (h : w.heap[g]? = some (.cells (P ++ (a0 :: a1 :: a2 :: a3 :: R)).toArray t (0, 0))) (hp : P.length = p) (v0 v1 v2 v3 : Value) :
    ((((w.setCell ⟨g, p, none⟩ v0).setCell ⟨g, p + 1, none⟩ v1).setCell ⟨g, p + 2, none⟩ v2).setCell ⟨g, p + 3, none⟩ v3).heap[g]? = some (.cells (P ++ [v0, v1, v2, v3] ++ R).toArray t (0, 0)) := by
  replace h := putOne h (p := p) (by simp [hp]) v0
  replace h := putOne h (p := p + 1) (by simp [hp]) v1
  replace h := putOne h (p := p + 2) (by simp [hp]) v2
  replace h := putOne h (p := p + 3) (by simp [hp]) v3
  simpa [List.append_assoc] using h
theorem split4 {R : List Value} {n : Nat} (h : R.length = n + 4) : ∃ a0 a1 a2 a3 Q, R = a0 :: a1 :: a2 :: a3 :: Q ∧ Q.length = n := by
  match R, h with
  | a0 :: a1 :: a2 :: a3 :: Q, h => exact ⟨a0, a1, a2, a3, Q, rfl, by simpa using h⟩
theorem put12 {w : World} {g p : Nat} {t : TypeId} {P R : List Value} {a0 a1 a2 a3 a4 a5 a6 a7 a8 a9 a10 a11 : Value} (h : w.heap[g]? = some (.cells (P ++ (a0 :: a1 :: a2 :: a3 :: a4 :: a5 :: a6 :: a7 :: a8 :: a9 :: a10 :: a11 :: R)).toArray t (0, 0))) (hp : P.length = p) (v0 v1 v2 v3 v4 v5 v6 v7 v8 v9 v10 v11 : Value) :
    ((((((((((((w.setCell ⟨g, p, none⟩ v0).setCell ⟨g, p + 1, none⟩ v1).setCell ⟨g, p + 2, none⟩ v2).setCell ⟨g, p + 3, none⟩ v3).setCell ⟨g, p + 4, none⟩ v4).setCell ⟨g, p + 5, none⟩ v5).setCell ⟨g, p + 6, none⟩ v6).setCell ⟨g, p + 7, none⟩ v7).setCell ⟨g, p + 8, none⟩ v8).setCell ⟨g, p + 9, none⟩ v9).setCell ⟨g, p + 10, none⟩ v10).setCell ⟨g, p + 11, none⟩ v11).heap[g]? = some (.cells (P ++ [v0, v1, v2, v3, v4, v5, v6, v7, v8, v9, v10, v11] ++ R).toArray t (0, 0)) := by
  replace h := putOne h (p := p) (by simp [hp]) v0
  replace h := putOne h (p := p + 1) (by simp [hp]) v1
  replace h := putOne h (p := p + 2) (by simp [hp]) v2
  replace h := putOne h (p := p + 3) (by simp [hp]) v3
  replace h := putOne h (p := p + 4) (by simp [hp]) v4
  replace h := putOne h (p := p + 5) (by simp [hp]) v5
  replace h := putOne h (p := p + 6) (by simp [hp]) v6
  replace h := putOne h (p := p + 7) (by simp [hp]) v7
  replace h := putOne h (p := p + 8) (by simp [hp]) v8
  replace h := putOne h (p := p + 9) (by simp [hp]) v9
  replace h := putOne h (p := p + 10) (by simp [hp]) v10
  replace h := putOne h (p := p + 11) (by simp [hp]) v11
  simpa [List.append_assoc] using h
theorem split12 {R : List Value} {n : Nat} (h : R.length = n + 12) : ∃ a0 a1 a2 a3 a4 a5 a6 a7 a8 a9 a10 a11 Q, R = a0 :: a1 :: a2 :: a3 :: a4 :: a5 :: a6 :: a7 :: a8 :: a9 :: a10 :: a11 :: Q ∧ Q.length = n := by
  match R, h with
  | a0 :: a1 :: a2 :: a3 :: a4 :: a5 :: a6 :: a7 :: a8 :: a9 :: a10 :: a11 :: Q, h => exact ⟨a0, a1, a2, a3, a4, a5, a6, a7, a8, a9, a10, a11, Q, rfl, by simpa using h⟩
theorem infoVe : (Tryz.prog.info? 36).map (fun i => (i.zero, i.size, i.bytes)) = some (some (.agg zeroVe), 12, 120) := by kernel_rfl
theorem infoPa : (Tryz.prog.info? 45).map (fun i => (i.zero, i.size, i.bytes)) = some (some (.agg #[.int .i64 0, .int .i64 0, .slice none 0 0]), 3, 40) := by kernel_rfl
theorem infoUp : (Tryz.prog.info? 102).map (fun i => (i.zero, i.size, i.bytes)) = some (some (.agg #[.int .i64 0, .string ⟨#[]⟩, .string ⟨#[]⟩, .slice none 0 0]), 4, 64) := by kernel_rfl
theorem getD_mem {α : Type} {l : List α} {i : Nat} {d : α} (h : i < l.length) : l.getD i d ∈ l := by
  rw [List.getD_eq_getElem?_getD, List.getElem?_eq_getElem h]; exact List.getElem_mem h
set_option maxHeartbeats 2000000 in
theorem copyEachV_any (x : Value) (l : List Ve) (w : World) (hx : Lst RVe 12 ve0 w x l) (hn : l.length * 120 ≤ 281474976710656) (hs : ∀ z ∈ l, z.sec.length * 8 ≤ 281474976710656) :
    Calls Tryz.prog 55 #[x, .func (.func 39) #[] #[]] w fun e w' => ∃ o, e = .returned o ∧ OwV w' w.heap.size o l ∧ Below w.heap.size w w' := by
  obtain ⟨i0, hi, hz0, hz1, hz2⟩ := info_parts infoVe
  obtain ⟨a, ac, rfl, a1, a2⟩ := hx.form
  unfold maxLen at a2
  have HX := hide hx
  have HS := hide hs
  clear hx hs
  obtain ⟨n, hl⟩ : ∃ n, l.length = n := ⟨_, rfl⟩
  obtain ⟨R, hR⟩ : ∃ R, madeCells zeroVe (n * 12) = R := ⟨_, rfl⟩
  have hRs : R.size = n * 12 := by rw [← hR]; exact size_madeCells _ _
  have hmk : (Instr.makeSlice 24 (.int .i64 (n : Int)) (.int .i64 (n : Int))).run Tryz.prog w = .ok (.slice (some ⟨w.heap.size, 0, none⟩) n n) (w.alloc (.cells R 36)) := by
    have h := run_make (P := Tryz.prog) (w := w) 24 36 i0 (.agg zeroVe) Tryz.underlying24 hi hz0 .i64 .i64 (n : Int) (n : Int) (by omega) (Int.le_refl _) (by rw [hz2]; omega) (by omega)
    simpa [hz1, Value.cells, hR] using h
  obtain ⟨W1, hW1⟩ : ∃ W1, w.alloc (.cells R 36) = W1 := ⟨_, rfl⟩
  rw [hW1] at hmk
  have hb1 : Below w.heap.size w W1 := by rw [← hW1]; exact bl1 _ _
  have hrow : W1.heap[w.heap.size]? = some (.cells ([] ++ R.toList).toArray 36 (0, 0)) := by rw [← hW1]; simpa using heap_alloc_new w (.cells R 36)
  have HL := hide hl
  rw [hl] at a1 hn ⊢
  clear hW1 hR hl
  go_enter Tryz.func55, Tryz.ntmps55
  go_wp2
  go_loopw [13, 6, 7] (fun i _ _ wr => ∃ (k : Nat) (ps : List (Ve × Value)) (Q : List Value), k ≤ n ∧ i = .int .i64 k ∧ Below w.heap.size w wr ∧ ps.map (·.1) = l.take k ∧ Q.length = (n - k) * 12 ∧ wr.heap[w.heap.size]? = some (.cells ((ps.flatMap fun p => veL p.1 p.2) ++ Q).toArray 36 (0, 0)) ∧ (∀ p ∈ ps, OwI wr (w.heap.size + 1) p.2 p.1.sec)) (fun i _ _ _ => n - (intOf i).toNat)
  case atStart => exact ⟨0, [], R.toList, Nat.zero_le _, rfl, hb1, rfl, by simp [hRs], hrow, (fun p hp => by cases hp)⟩
  case round =>
    clear hrow hmk hb1 hRs
    obtain ⟨k, ps, Q, hk, rfl, hbq, hps, hQ, hrow, hO⟩ := hrel
    have hpl : ps.length = k := by have := congrArg List.length hps; rw [List.length_map, List.length_take, unhide HL] at this; omega
    have hfl : (ps.flatMap fun p => veL p.1 p.2).length = k * 12 := by rw [flat_len2 (fun p : Ve × Value => veL p.1 p.2) 12 (fun _ => rfl), hpl]
    have hgt : w.heap.size < wr.heap.size := (Array.getElem?_eq_some_iff.1 hrow).1
    by_cases hlt0 : k < n
    · have hlt : k < l.length := by rw [unhide HL]; exact hlt0
      obtain ⟨b8, o8, e8, r⟩ := Lst.at ((unhide HX).imp fun _ _ _ r => RVe.up hbq r) hlt
      obtain ⟨X, hX⟩ : ∃ X, l.getD k ve0 = X := ⟨_, rfl⟩
      have hs := unhide HS
      have hsec : X.sec.length * 8 ≤ 281474976710656 := by rw [← hX]; exact hs _ (getD_mem hlt)
      rw [hX] at r
      subst e8
      obtain ⟨U, hu0, _⟩ := r.c8
      obtain ⟨b9, o9, e9, r0⟩ := Lst.at (unhide HX) hlt
      cases e9
      rw [hX] at r0
      obtain ⟨U, hu1, hi1⟩ := r0.c8
      have hu := scell_up hbq hu1
      obtain ⟨ua, uc, rfl, _⟩ := hi1.form
      have HII := hide hi1
      have c0 := r.c0
      have c1 := r.c1
      have c2 := r.c2
      have c3 := r.c3
      have c4 := r.c4
      have c5 := r.c5
      have c6 := r.c6
      have c7 := r.c7
      have c9 := r.c9
      have c10 := r.c10
      have c11 := r.c11
      obtain ⟨a0, a1, a2, a3, a4, a5, a6, a7, a8, a9, a10, a11, Q', rfl, hQ'⟩ := split12 (n := (n - (k + 1)) * 12) (R := Q) (by rw [hQ]; rw [← Nat.succ_mul]; congr 1; omega)
      have HT : Hid (l.take (k + 1) = l.take k ++ [X]) := by show _ = _; rw [take_next l ve0 hlt, hX]
      have HR := hide hrow
      have HO := hide hO
      have HPS := hide hps
      have HFL := hide hfl
      clear r r0 hi1 hX hu0 hu1 hrow hO hps hfl hs
      go_wp2_with fail
      refine (copyVersion_any X ua _ uc _ (Ints.up (bl_alloc hbq _) (unhide HII)) (by omega)).mono ?_
      rintro e w2 ⟨o, rfl, hO2, hb2⟩
      obtain ⟨oa, oc, rfl, o1, o2⟩ := hO2.form
      have hb3 : Below wr.heap.size wr w2 := bl_trans (bl1 _ _) hb2
      have hrow2 := (hb3.block w.heap.size hgt).trans (unhide HR)
      have d0 := cell_app hrow2 (unhide HFL) 0 rfl
      have d1 := cell_app hrow2 (unhide HFL) 1 rfl
      have d2 := cell_app hrow2 (unhide HFL) 2 rfl
      have d3 := cell_app hrow2 (unhide HFL) 3 rfl
      have d4 := cell_app hrow2 (unhide HFL) 4 rfl
      have d5 := cell_app hrow2 (unhide HFL) 5 rfl
      have d6 := cell_app hrow2 (unhide HFL) 6 rfl
      have d7 := cell_app hrow2 (unhide HFL) 7 rfl
      have d8 := cell_app hrow2 (unhide HFL) 8 rfl
      have d9 := cell_app hrow2 (unhide HFL) 9 rfl
      have d10 := cell_app hrow2 (unhide HFL) 10 rfl
      have d11 := cell_app hrow2 (unhide HFL) 11 rfl
      have df := fun j => fz_of hrow2 j
      have HR2 := hide hrow2
      have HO2 : Hid (OwI w2 (w.heap.size + 1) (.slice oa X.sec.length oc) X.sec) := own_base hO2 (by simp; omega)
      have hw2 := bl_trans hbq hb3
      have HB3 := hide hb3
      clear hrow2 hO2 hb2 hb3 c0 c1 c2 c3 c4 c5 c6 c7 c9 c10 c11 hu
      rw [Nat.add_zero] at d0
      go_wp2
      refine ⟨⟨k + 1, ps ++ [(X, .slice oa X.sec.length oc)], Q', by omega, by go_num, ?_, ?_, hQ', ?_, ?_⟩, by simp [intOf]; omega⟩
      · (iterate 12 (refine bl_set ?_ (Nat.le_refl _) _))
        exact hw2
      · rw [List.map_append, unhide HPS, unhide HT]; rfl
      · rw [List.flatMap_append, List.flatMap_singleton]
        exact put12 (unhide HR2) (unhide HFL) (.int .i64 X.id) (.string X.bu) (.string X.ke) (.bool X.nul) (.bool X.mar) (.int .i64 X.size) (.int .i64 X.time) (.int .i64 X.tier) (.slice oa X.sec.length oc) (.int .i64 X.vol) (.int .i64 X.pos) (.int .i64 X.til)
      · intro p hp
        (iterate 12 (refine own_low ?_ (by omega) _))
        rcases List.mem_append.1 hp with hp | hp
        · exact own_up (unhide HB3) (unhide HO p hp)
        · obtain rfl := List.mem_singleton.1 hp
          exact unhide HO2
    · obtain rfl : k = n := by omega
      obtain rfl : Q = [] := List.length_eq_zero_iff.1 (by rw [hQ]; simp)
      have hA : l.take k = l := List.take_of_length_le (by rw [unhide HL]; exact Nat.le_refl _)
      rw [hA] at hps
      have HF : Hid (OwV wr w.heap.size (.slice (some ⟨w.heap.size, 0, none⟩) k k) l) := ⟨ps, hps, ⟨by rw [hfl, hpl], .inr ⟨w.heap.size, k, _, by rw [hpl], Nat.le_refl _, hrow, by omega, by unfold maxLen; omega, by simpa using hfl, by rw [hpl, ← hfl]; simp only [List.append_nil]; exact List.take_length⟩⟩, fun p hp => own_base (hO p hp) (by omega)⟩
      clear hrow hO hps hfl hA hQ
      go_wp2
      go_ret
      exact ⟨_, rfl, unhide HF, hbq⟩
set_option maxHeartbeats 1000000 in
theorem copyPart_any (X : Pa) (ua : Option Addr) (un uc : Nat) (w : World) (hI : Ints w (.slice ua un uc) X.sec) (hn : X.sec.length * 8 ≤ 281474976710656) :
    Calls Tryz.prog 117 #[paV X (.slice ua un uc)] w fun e w' => ∃ o, e = .returned (paV X o) ∧ OwI w' w.heap.size o X.sec ∧ Below w.heap.size w w' := by
  have HI := hide hI
  clear hI
  go_enter Tryz.func117, Tryz.ntmps117
  go_wp2_with fail
  refine (copyInts_any _ X.sec _ (Ints.up (bl_alloc (bl1 _ _) _) (unhide HI)) hn).mono ?_
  rintro e w1 ⟨o, rfl, hO, hb⟩
  obtain ⟨oa, oc, rfl, o1, o2⟩ := hO.form
  have g1 := (hb.block w.heap.size (by simp; omega)).trans (((bl1 (w.alloc _) _).block w.heap.size (by simp)).trans (heap_alloc_new _ _))
  have g2 := (hb.block (w.heap.size + 1) (by simp)).trans (show _ = some (Obj.cells #[.int .i64 0, .int .i64 0, .slice none 0 0] 45 (0, 0)) by simpa using heap_alloc_new (w.alloc _) (.cells #[.int .i64 0, .int .i64 0, .slice none 0 0] 45))
  have f1 := fz_of g1 2
  have f2 := fun j => fz_of g2 j
  have hsz : w.heap.size + 2 ≤ w1.heap.size := by have := hb.size; simp at this; omega
  have x0 := cell_of g1 0 rfl
  have z0 := cell_of g2 0 rfl
  have x1 := cell_of g1 1 rfl
  have z1 := cell_of g2 1 rfl
  have x2 := cell_of g1 2 rfl
  have z2 := cell_of g2 2 rfl
  have hO2 : OwI w1 (w.heap.size + 2) (.slice oa X.sec.length oc) X.sec := by simpa using hO
  have HO := hide hO2
  have HB : Hid (Below w.heap.size w w1) := bl_trans (bl_alloc (bl1 _ _) _) hb
  clear g1 g2 hO hO2 hb
  go_wp2
  refine bodyPost_ret (v := paV X (.slice oa X.sec.length oc)) (by simp [results, Tryz.results117, go_sem, *]) rfl ⟨.slice oa X.sec.length oc, rfl, ?_, ?_⟩
  · refine own_base (B := w.heap.size + 2) ?_ (by omega)
    (iterate 4 (refine own_low ?_ (by omega) _))
    exact unhide HO
  · (iterate 4 (refine bl_set ?_ (by simp <;> omega) _))
    exact unhide HB
set_option maxHeartbeats 2000000 in
theorem copyEachP_any (x : Value) (l : List Pa) (w : World) (hx : Lst RPa 3 pa0 w x l) (hn : l.length * 40 ≤ 281474976710656) (hs : ∀ z ∈ l, z.sec.length * 8 ≤ 281474976710656) :
    Calls Tryz.prog 116 #[x, .func (.func 117) #[] #[]] w fun e w' => ∃ o, e = .returned o ∧ OwP w' w.heap.size o l ∧ Below w.heap.size w w' := by
  obtain ⟨i0, hi, hz0, hz1, hz2⟩ := info_parts infoPa
  obtain ⟨a, ac, rfl, a1, a2⟩ := hx.form
  unfold maxLen at a2
  have HX := hide hx
  have HS := hide hs
  clear hx hs
  obtain ⟨n, hl⟩ : ∃ n, l.length = n := ⟨_, rfl⟩
  obtain ⟨R, hR⟩ : ∃ R, madeCells #[.int .i64 0, .int .i64 0, .slice none 0 0] (n * 3) = R := ⟨_, rfl⟩
  have hRs : R.size = n * 3 := by rw [← hR]; exact size_madeCells _ _
  have hmk : (Instr.makeSlice 100 (.int .i64 (n : Int)) (.int .i64 (n : Int))).run Tryz.prog w = .ok (.slice (some ⟨w.heap.size, 0, none⟩) n n) (w.alloc (.cells R 45)) := by
    have h := run_make (P := Tryz.prog) (w := w) 100 45 i0 (.agg #[.int .i64 0, .int .i64 0, .slice none 0 0]) Tryz.underlying100 hi hz0 .i64 .i64 (n : Int) (n : Int) (by omega) (Int.le_refl _) (by rw [hz2]; omega) (by omega)
    simpa [hz1, Value.cells, hR] using h
  obtain ⟨W1, hW1⟩ : ∃ W1, w.alloc (.cells R 45) = W1 := ⟨_, rfl⟩
  rw [hW1] at hmk
  have hb1 : Below w.heap.size w W1 := by rw [← hW1]; exact bl1 _ _
  have hrow : W1.heap[w.heap.size]? = some (.cells ([] ++ R.toList).toArray 45 (0, 0)) := by rw [← hW1]; simpa using heap_alloc_new w (.cells R 45)
  have HL := hide hl
  rw [hl] at a1 hn ⊢
  clear hW1 hR hl
  go_enter Tryz.func116, Tryz.ntmps116
  go_wp2
  go_loopw [13, 6, 7] (fun i _ _ wr => ∃ (k : Nat) (ps : List (Pa × Value)) (Q : List Value), k ≤ n ∧ i = .int .i64 k ∧ Below w.heap.size w wr ∧ ps.map (·.1) = l.take k ∧ Q.length = (n - k) * 3 ∧ wr.heap[w.heap.size]? = some (.cells ((ps.flatMap fun p => paL p.1 p.2) ++ Q).toArray 45 (0, 0)) ∧ (∀ p ∈ ps, OwI wr (w.heap.size + 1) p.2 p.1.sec)) (fun i _ _ _ => n - (intOf i).toNat)
  case atStart => exact ⟨0, [], R.toList, Nat.zero_le _, rfl, hb1, rfl, by simp [hRs], hrow, (fun p hp => by cases hp)⟩
  case round =>
    clear hrow hmk hb1 hRs
    obtain ⟨k, ps, Q, hk, rfl, hbq, hps, hQ, hrow, hO⟩ := hrel
    have hpl : ps.length = k := by have := congrArg List.length hps; rw [List.length_map, List.length_take, unhide HL] at this; omega
    have hfl : (ps.flatMap fun p => paL p.1 p.2).length = k * 3 := by rw [flat_len2 (fun p : Pa × Value => paL p.1 p.2) 3 (fun _ => rfl), hpl]
    have hgt : w.heap.size < wr.heap.size := (Array.getElem?_eq_some_iff.1 hrow).1
    by_cases hlt0 : k < n
    · have hlt : k < l.length := by rw [unhide HL]; exact hlt0
      obtain ⟨b8, o8, e8, r⟩ := Lst.at ((unhide HX).imp fun _ _ _ r => RPa.up hbq r) hlt
      obtain ⟨X, hX⟩ : ∃ X, l.getD k pa0 = X := ⟨_, rfl⟩
      have hs := unhide HS
      have hsec : X.sec.length * 8 ≤ 281474976710656 := by rw [← hX]; exact hs _ (getD_mem hlt)
      rw [hX] at r
      subst e8
      obtain ⟨U, hu0, _⟩ := r.c2
      obtain ⟨b9, o9, e9, r0⟩ := Lst.at (unhide HX) hlt
      cases e9
      rw [hX] at r0
      obtain ⟨U, hu1, hi1⟩ := r0.c2
      have hu := scell_up hbq hu1
      obtain ⟨ua, uc, rfl, _⟩ := hi1.form
      have HII := hide hi1
      have c0 := r.c0
      have c1 := r.c1
      obtain ⟨a0, a1, a2, Q', rfl, hQ'⟩ := split3 (n := (n - (k + 1)) * 3) (R := Q) (by rw [hQ]; rw [← Nat.succ_mul]; congr 1; omega)
      have HT : Hid (l.take (k + 1) = l.take k ++ [X]) := by show _ = _; rw [take_next l pa0 hlt, hX]
      have HR := hide hrow
      have HO := hide hO
      have HPS := hide hps
      have HFL := hide hfl
      clear r r0 hi1 hX hu0 hu1 hrow hO hps hfl hs
      go_wp2_with fail
      refine (copyPart_any X ua _ uc _ (Ints.up (bl_alloc hbq _) (unhide HII)) (by omega)).mono ?_
      rintro e w2 ⟨o, rfl, hO2, hb2⟩
      obtain ⟨oa, oc, rfl, o1, o2⟩ := hO2.form
      have hb3 : Below wr.heap.size wr w2 := bl_trans (bl1 _ _) hb2
      have hrow2 := (hb3.block w.heap.size hgt).trans (unhide HR)
      have d0 := cell_app hrow2 (unhide HFL) 0 rfl
      have d1 := cell_app hrow2 (unhide HFL) 1 rfl
      have d2 := cell_app hrow2 (unhide HFL) 2 rfl
      have df := fun j => fz_of hrow2 j
      have HR2 := hide hrow2
      have HO2 : Hid (OwI w2 (w.heap.size + 1) (.slice oa X.sec.length oc) X.sec) := own_base hO2 (by simp; omega)
      have hw2 := bl_trans hbq hb3
      have HB3 := hide hb3
      clear hrow2 hO2 hb2 hb3 c0 c1 hu
      rw [Nat.add_zero] at d0
      go_wp2
      refine ⟨⟨k + 1, ps ++ [(X, .slice oa X.sec.length oc)], Q', by omega, by go_num, ?_, ?_, hQ', ?_, ?_⟩, by simp [intOf]; omega⟩
      · (iterate 3 (refine bl_set ?_ (Nat.le_refl _) _))
        exact hw2
      · rw [List.map_append, unhide HPS, unhide HT]; rfl
      · rw [List.flatMap_append, List.flatMap_singleton]
        exact put3 (unhide HR2) (unhide HFL) (.int .i64 X.n) (.int .i64 X.size) (.slice oa X.sec.length oc)
      · intro p hp
        (iterate 3 (refine own_low ?_ (by omega) _))
        rcases List.mem_append.1 hp with hp | hp
        · exact own_up (unhide HB3) (unhide HO p hp)
        · obtain rfl := List.mem_singleton.1 hp
          exact unhide HO2
    · obtain rfl : k = n := by omega
      obtain rfl : Q = [] := List.length_eq_zero_iff.1 (by rw [hQ]; simp)
      have hA : l.take k = l := List.take_of_length_le (by rw [unhide HL]; exact Nat.le_refl _)
      rw [hA] at hps
      have HF : Hid (OwP wr w.heap.size (.slice (some ⟨w.heap.size, 0, none⟩) k k) l) := ⟨ps, hps, ⟨by rw [hfl, hpl], .inr ⟨w.heap.size, k, _, by rw [hpl], Nat.le_refl _, hrow, by omega, by unfold maxLen; omega, by simpa using hfl, by rw [hpl, ← hfl]; simp only [List.append_nil]; exact List.take_length⟩⟩, fun p hp => own_base (hO p hp) (by omega)⟩
      clear hrow hO hps hfl hA hQ
      go_wp2
      go_ret
      exact ⟨_, rfl, unhide HF, hbq⟩
set_option maxHeartbeats 1000000 in
theorem copyUpload_any (X : Up) (ua : Option Addr) (un uc : Nat) (w : World) (hI : Lst RPa 3 pa0 w (.slice ua un uc) X.parts) (hn : X.parts.length * 40 ≤ 281474976710656) (hn2 : ∀ y ∈ X.parts, y.sec.length * 8 ≤ 281474976710656) :
    Calls Tryz.prog 57 #[upV X (.slice ua un uc)] w fun e w' => ∃ o, e = .returned (upV X o) ∧ OwP w' w.heap.size o X.parts ∧ Below w.heap.size w w' := by
  have HI := hide hI
  have HN2 := hide hn2
  clear hn2
  clear hI
  go_enter Tryz.func57, Tryz.ntmps57
  go_wp2_with fail
  refine (copyEachP_any _ X.parts _ ((unhide HI).imp fun _ _ _ r => RPa.up (bl_alloc (bl1 _ _) _) r) hn (unhide HN2)).mono ?_
  rintro e w1 ⟨o, rfl, hO, hb⟩
  obtain ⟨oa, oc, rfl, o1, o2⟩ := hO.form
  have g1 := (hb.block w.heap.size (by simp; omega)).trans (((bl1 (w.alloc _) _).block w.heap.size (by simp)).trans (heap_alloc_new _ _))
  have g2 := (hb.block (w.heap.size + 1) (by simp)).trans (show _ = some (Obj.cells #[.int .i64 0, .string ⟨#[]⟩, .string ⟨#[]⟩, .slice none 0 0] 102 (0, 0)) by simpa using heap_alloc_new (w.alloc _) (.cells #[.int .i64 0, .string ⟨#[]⟩, .string ⟨#[]⟩, .slice none 0 0] 102))
  have f1 := fz_of g1 3
  have f2 := fun j => fz_of g2 j
  have hsz : w.heap.size + 2 ≤ w1.heap.size := by have := hb.size; simp at this; omega
  have x0 := cell_of g1 0 rfl
  have z0 := cell_of g2 0 rfl
  have x1 := cell_of g1 1 rfl
  have z1 := cell_of g2 1 rfl
  have x2 := cell_of g1 2 rfl
  have z2 := cell_of g2 2 rfl
  have x3 := cell_of g1 3 rfl
  have z3 := cell_of g2 3 rfl
  have hO2 : OwP w1 (w.heap.size + 2) (.slice oa X.parts.length oc) X.parts := by simpa using hO
  have HO := hide hO2
  have HB : Hid (Below w.heap.size w w1) := bl_trans (bl_alloc (bl1 _ _) _) hb
  clear g1 g2 hO hO2 hb
  go_wp2
  refine bodyPost_ret (v := upV X (.slice oa X.parts.length oc)) (by simp [results, Tryz.results57, go_sem, *]) rfl ⟨.slice oa X.parts.length oc, rfl, ?_, ?_⟩
  · refine OwP.base (B := w.heap.size + 2) ?_ (by omega)
    (iterate 5 (refine OwP.low ?_ (by omega) _))
    exact unhide HO
  · (iterate 5 (refine bl_set ?_ (by simp <;> omega) _))
    exact unhide HB
set_option maxHeartbeats 2000000 in
theorem copyEachU_any (x : Value) (l : List Up) (w : World) (hx : Lst RUp 4 up0 w x l) (hn : l.length * 64 ≤ 281474976710656) (hs : ∀ z ∈ l, z.parts.length * 40 ≤ 281474976710656 ∧ ∀ y ∈ z.parts, y.sec.length * 8 ≤ 281474976710656) :
    Calls Tryz.prog 56 #[x, .func (.func 57) #[] #[]] w fun e w' => ∃ o, e = .returned o ∧ OwU w' w.heap.size o l ∧ Below w.heap.size w w' := by
  obtain ⟨i0, hi, hz0, hz1, hz2⟩ := info_parts infoUp
  obtain ⟨a, ac, rfl, a1, a2⟩ := hx.form
  unfold maxLen at a2
  have HX := hide hx
  have HS := hide hs
  clear hx hs
  obtain ⟨n, hl⟩ : ∃ n, l.length = n := ⟨_, rfl⟩
  obtain ⟨R, hR⟩ : ∃ R, madeCells #[.int .i64 0, .string ⟨#[]⟩, .string ⟨#[]⟩, .slice none 0 0] (n * 4) = R := ⟨_, rfl⟩
  have hRs : R.size = n * 4 := by rw [← hR]; exact size_madeCells _ _
  have hmk : (Instr.makeSlice 25 (.int .i64 (n : Int)) (.int .i64 (n : Int))).run Tryz.prog w = .ok (.slice (some ⟨w.heap.size, 0, none⟩) n n) (w.alloc (.cells R 102)) := by
    have h := run_make (P := Tryz.prog) (w := w) 25 102 i0 (.agg #[.int .i64 0, .string ⟨#[]⟩, .string ⟨#[]⟩, .slice none 0 0]) Tryz.underlying25 hi hz0 .i64 .i64 (n : Int) (n : Int) (by omega) (Int.le_refl _) (by rw [hz2]; omega) (by omega)
    simpa [hz1, Value.cells, hR] using h
  obtain ⟨W1, hW1⟩ : ∃ W1, w.alloc (.cells R 102) = W1 := ⟨_, rfl⟩
  rw [hW1] at hmk
  have hb1 : Below w.heap.size w W1 := by rw [← hW1]; exact bl1 _ _
  have hrow : W1.heap[w.heap.size]? = some (.cells ([] ++ R.toList).toArray 102 (0, 0)) := by rw [← hW1]; simpa using heap_alloc_new w (.cells R 102)
  have HL := hide hl
  rw [hl] at a1 hn ⊢
  clear hW1 hR hl
  go_enter Tryz.func56, Tryz.ntmps56
  go_wp2
  go_loopw [13, 6, 7] (fun i _ _ wr => ∃ (k : Nat) (ps : List (Up × Value)) (Q : List Value), k ≤ n ∧ i = .int .i64 k ∧ Below w.heap.size w wr ∧ ps.map (·.1) = l.take k ∧ Q.length = (n - k) * 4 ∧ wr.heap[w.heap.size]? = some (.cells ((ps.flatMap fun p => upL p.1 p.2) ++ Q).toArray 102 (0, 0)) ∧ (∀ p ∈ ps, OwP wr (w.heap.size + 1) p.2 p.1.parts) ∧ ps.Pairwise (fun a b => Aprt a.2 b.2)) (fun i _ _ _ => n - (intOf i).toNat)
  case atStart => exact ⟨0, [], R.toList, Nat.zero_le _, rfl, hb1, rfl, by simp [hRs], hrow, (fun p hp => by cases hp), List.Pairwise.nil⟩
  case round =>
    clear hrow hmk hb1 hRs
    obtain ⟨k, ps, Q, hk, rfl, hbq, hps, hQ, hrow, hO, hpw⟩ := hrel
    have hpl : ps.length = k := by have := congrArg List.length hps; rw [List.length_map, List.length_take, unhide HL] at this; omega
    have hfl : (ps.flatMap fun p => upL p.1 p.2).length = k * 4 := by rw [flat_len2 (fun p : Up × Value => upL p.1 p.2) 4 (fun _ => rfl), hpl]
    have hgt : w.heap.size < wr.heap.size := (Array.getElem?_eq_some_iff.1 hrow).1
    by_cases hlt0 : k < n
    · have hlt : k < l.length := by rw [unhide HL]; exact hlt0
      obtain ⟨b8, o8, e8, r⟩ := Lst.at ((unhide HX).imp fun _ _ _ r => RUp.up hbq r) hlt
      obtain ⟨X, hX⟩ : ∃ X, l.getD k up0 = X := ⟨_, rfl⟩
      have hs := unhide HS
      have hsec : X.parts.length * 40 ≤ 281474976710656 ∧ ∀ y ∈ X.parts, y.sec.length * 8 ≤ 281474976710656 := by rw [← hX]; exact hs _ (getD_mem hlt)
      rw [hX] at r
      subst e8
      obtain ⟨U, hu0, _⟩ := r.c3
      obtain ⟨b9, o9, e9, r0⟩ := Lst.at (unhide HX) hlt
      cases e9
      rw [hX] at r0
      obtain ⟨U, hu1, hi1⟩ := r0.c3
      have hu := scell_up hbq hu1
      obtain ⟨ua, uc, rfl, _⟩ := hi1.form
      have HII := hide hi1
      have c0 := r.c0
      have c1 := r.c1
      have c2 := r.c2
      obtain ⟨a0, a1, a2, a3, Q', rfl, hQ'⟩ := split4 (n := (n - (k + 1)) * 4) (R := Q) (by rw [hQ]; rw [← Nat.succ_mul]; congr 1; omega)
      have HT : Hid (l.take (k + 1) = l.take k ++ [X]) := by show _ = _; rw [take_next l up0 hlt, hX]
      have HR := hide hrow
      have HO := hide hO
      have HPS := hide hps
      have HFL := hide hfl
      clear r r0 hi1 hX hu0 hu1 hrow hO hps hfl hs
      go_wp2_with fail
      refine (copyUpload_any X ua _ uc _ ((unhide HII).imp fun _ _ _ r => RPa.up (bl_alloc hbq _) r) hsec.1 hsec.2).mono ?_
      rintro e w2 ⟨o, rfl, hO2, hb2⟩
      obtain ⟨oa, oc, rfl, o1, o2⟩ := hO2.form
      have hb3 : Below wr.heap.size wr w2 := bl_trans (bl1 _ _) hb2
      have hrow2 := (hb3.block w.heap.size hgt).trans (unhide HR)
      have d0 := cell_app hrow2 (unhide HFL) 0 rfl
      have d1 := cell_app hrow2 (unhide HFL) 1 rfl
      have d2 := cell_app hrow2 (unhide HFL) 2 rfl
      have d3 := cell_app hrow2 (unhide HFL) 3 rfl
      have df := fun j => fz_of hrow2 j
      have HR2 := hide hrow2
      have HO2 : Hid (OwP w2 (w.heap.size + 1) (.slice oa X.parts.length oc) X.parts) := OwP.base hO2 (by simp; omega)
      have hw2 := bl_trans hbq hb3
      have HB3 := hide hb3
      have HN : Hid (∀ j, (Value.slice oa X.parts.length oc).ownBlock = some j → wr.heap.size + 1 ≤ j) := fun j hj => by have := (hO2.lt j hj).1; simpa using this
      clear hrow2 hO2 hb2 hb3 c0 c1 c2 hu
      rw [Nat.add_zero] at d0
      go_wp2
      refine ⟨⟨k + 1, ps ++ [(X, .slice oa X.parts.length oc)], Q', by omega, by go_num, ?_, ?_, hQ', ?_, ?_, ?_⟩, by simp [intOf]; omega⟩
      · (iterate 4 (refine bl_set ?_ (Nat.le_refl _) _))
        exact hw2
      · rw [List.map_append, unhide HPS, unhide HT]; rfl
      · rw [List.flatMap_append, List.flatMap_singleton]
        exact put4 (unhide HR2) (unhide HFL) (.int .i64 X.id) (.string X.bu) (.string X.ke) (.slice oa X.parts.length oc)
      · intro p hp
        (iterate 4 (refine OwP.low ?_ (by omega) _))
        rcases List.mem_append.1 hp with hp | hp
        · exact OwP.up (unhide HB3) (unhide HO p hp)
        · obtain rfl := List.mem_singleton.1 hp
          exact unhide HO2
      · refine List.pairwise_append.2 ⟨hpw, List.pairwise_singleton _ _, fun x hx y hy => ?_⟩
        obtain rfl := List.mem_singleton.1 hy
        have h1 := (unhide HO x hx).lt
        show x.2.ownBlock = none ∨ _
        cases hxo : x.2.ownBlock with
        | none => exact .inl rfl
        | some j => exact .inr fun e => by have := (h1 j hxo).2; have := unhide HN j e.symm; omega
    · obtain rfl : k = n := by omega
      obtain rfl : Q = [] := List.length_eq_zero_iff.1 (by rw [hQ]; simp)
      have hA : l.take k = l := List.take_of_length_le (by rw [unhide HL]; exact Nat.le_refl _)
      rw [hA] at hps
      have HF : Hid (OwU wr w.heap.size (.slice (some ⟨w.heap.size, 0, none⟩) k k) l) := ⟨ps, hps, ⟨by rw [hfl, hpl], .inr ⟨w.heap.size, k, _, by rw [hpl], Nat.le_refl _, hrow, by omega, by unfold maxLen; omega, by simpa using hfl, by rw [hpl, ← hfl]; simp only [List.append_nil]; exact List.take_length⟩⟩, fun p hp => OwP.base (hO p hp) (by omega), hpw⟩
      clear hrow hO hps hfl hA hQ
      go_wp2
      go_ret
      exact ⟨_, rfl, unhide HF, hbq⟩
end Go.Proofs.YtdgmdapijhbocaaGreat
