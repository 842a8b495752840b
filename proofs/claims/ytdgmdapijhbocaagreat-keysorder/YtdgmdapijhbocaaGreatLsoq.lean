/- The order of rows: list.rowsOf's closure, and the library's sort over it. -/
import Derived.Test.YtdgmdapijhbocaaGreatLcmq
import Derived.Test.YtdgmdapijhbocaaGreatLrsq
namespace Go.Proofs.YtdgmdapijhbocaaGreat
open Go.RowKit Go.Maps Go.Sort
set_option maxRecDepth 100000
set_option linter.unusedVariables false
set_option linter.unusedSimpArgs false
theorem isNaNs_any (s : ByteArray) (w : World) : Calls Tryz.prog 156 #[.string s] w fun e w' => e = .returned (.bool false) ∧ w = w' := by
  go_enter Tryz.func156, Tryz.ntmps156
  go_wp2
  go_ret
  exact ⟨by simp, rfl⟩
theorem isNaNi_any (s : Int) (w : World) : Calls Tryz.prog 157 #[.int .i64 s] w fun e w' => e = .returned (.bool false) ∧ w = w' := by
  go_enter Tryz.func157, Tryz.ntmps157
  go_wp2
  go_ret
  exact ⟨by simp, rfl⟩
def cmpS (a b : ByteArray) : Int := if ltS a b then -1 else if eqS a b then 0 else 1
def cmpN (a b : Int) : Int := if a < b then -1 else if b < a then 1 else 0
set_option maxHeartbeats 1000000 in
theorem cmpS_any (a b : ByteArray) (w : World) : Calls Tryz.prog 109 #[.string a, .string b] w fun e w' => e = .returned (.int .i64 (cmpS a b)) ∧ w = w' := by
  have HE : Hid (cmpS a b = if Op.bytesLess a.toList b.toList then -1 else if a.toList == b.toList then 0 else 1) := rfl
  obtain ⟨R, hR⟩ : ∃ R, cmpS a b = R := ⟨_, rfl⟩
  rw [hR] at HE ⊢
  clear hR
  cases t : Op.bytesLess a.toList b.toList
  · rw [t] at HE
    cases t2 : (a.toList == b.toList)
    · rw [t2] at HE
      go_enter Tryz.func109, Tryz.ntmps109
      go_wp2_with (go_at_call 156; refine (isNaNs_any _ _).mono ?_; rintro e w' ⟨rfl, rfl⟩)
      go_ret
      exact ⟨ret_int (unhide HE).symm, rfl⟩
    · rw [t2] at HE
      go_enter Tryz.func109, Tryz.ntmps109
      go_wp2_with (go_at_call 156; refine (isNaNs_any _ _).mono ?_; rintro e w' ⟨rfl, rfl⟩)
      go_ret
      exact ⟨ret_int (unhide HE).symm, rfl⟩
  · rw [t] at HE
    go_enter Tryz.func109, Tryz.ntmps109
    go_wp2_with (go_at_call 156; refine (isNaNs_any _ _).mono ?_; rintro e w' ⟨rfl, rfl⟩)
    go_ret
    exact ⟨ret_int (unhide HE).symm, rfl⟩
set_option maxHeartbeats 1000000 in
theorem cmpN_any (a b : Int) (w : World) : Calls Tryz.prog 110 #[.int .i64 a, .int .i64 b] w fun e w' => e = .returned (.int .i64 (cmpN a b)) ∧ w = w' := by
  have HE : Hid (cmpN a b = if a < b then -1 else if b < a then 1 else 0) := rfl
  obtain ⟨R, hR⟩ : ∃ R, cmpN a b = R := ⟨_, rfl⟩
  rw [hR] at HE ⊢
  clear hR
  by_cases t : a < b
  · rw [if_pos t] at HE
    go_enter Tryz.func110, Tryz.ntmps110
    go_wp2_with (go_at_call 157; refine (isNaNi_any _ _).mono ?_; rintro e w' ⟨rfl, rfl⟩)
    go_ret
    exact ⟨ret_int (unhide HE).symm, rfl⟩
  · rw [if_neg t] at HE
    by_cases t2 : b < a
    · rw [if_pos t2] at HE
      go_enter Tryz.func110, Tryz.ntmps110
      go_wp2_with (go_at_call 157; refine (isNaNi_any _ _).mono ?_; rintro e w' ⟨rfl, rfl⟩)
      go_ret
      exact ⟨ret_int (unhide HE).symm, rfl⟩
    · rw [if_neg t2] at HE
      go_enter Tryz.func110, Tryz.ntmps110
      go_wp2_with (go_at_call 157; refine (isNaNi_any _ _).mono ?_; rintro e w' ⟨rfl, rfl⟩)
      go_ret
      exact ⟨ret_int (unhide HE).symm, rfl⟩
/-- Which of two rows comes first. -/
def rowC (X Y : Ro) : Int := if eqS X.key Y.key then cmpN Y.id X.id else cmpS X.key Y.key
set_option maxHeartbeats 1000000 in
theorem rowC_any (X Y : Ro) (w : World) : Calls Tryz.prog 108 #[roV X, roV Y] w fun e w' => e = .returned (.int .i64 (rowC X Y)) ∧ ∃ q os', w' = grow (w.drewN q) os' := by
  have HE : Hid (rowC X Y = if X.key.toList == Y.key.toList then cmpN Y.id X.id else cmpS X.key Y.key) := rfl
  obtain ⟨R, hR⟩ : ∃ R, rowC X Y = R := ⟨_, rfl⟩
  rw [hR] at HE ⊢
  clear hR
  cases t : (X.key.toList == Y.key.toList)
  · rw [t] at HE
    obtain ⟨C, hC⟩ : ∃ C, cmpS X.key Y.key = C := ⟨_, rfl⟩
    have HC := hide (cmpS_any X.key Y.key)
    rw [hC] at HE HC
    clear hC
    go_enter Tryz.func108, Tryz.ntmps108
    go_wp2_with fail
    refine (unhide HC _).mono ?_
    rintro e w1 ⟨rfl, rfl⟩
    go_wp2
    go_ret
    exact ⟨ret_int (unhide HE).symm, 0, _, by rw [alloc_eq_grow, alloc_eq_grow, grow_grow]; rfl⟩
  · rw [t] at HE
    obtain ⟨C, hC⟩ : ∃ C, cmpN Y.id X.id = C := ⟨_, rfl⟩
    have HC := hide (cmpN_any Y.id X.id)
    rw [hC] at HE HC
    clear hC
    go_enter Tryz.func108, Tryz.ntmps108
    go_wp2_with fail
    refine (unhide HC _).mono ?_
    rintro e w1 ⟨rfl, rfl⟩
    go_wp2
    go_ret
    exact ⟨ret_int (unhide HE).symm, 0, _, by rw [alloc_eq_grow, alloc_eq_grow, grow_grow]; rfl⟩
/-- A row is ahead of another. -/
def rowLt (X Y : Ro) : Bool := ltS X.key Y.key || (eqS X.key Y.key && decide (Y.id < X.id))
theorem rowC_lt (X Y : Ro) : ltOf rowC X Y = rowLt X Y := by
  unfold ltOf rowC rowLt cmpS cmpN
  cases e : eqS X.key Y.key
  · cases l : ltS X.key Y.key <;> simp
  · have e2 := eqS_to e
    rw [e2, ltS_irr]
    by_cases h : Y.id < X.id
    · simp [h]
    · by_cases h2 : X.id < Y.id <;> simp [h, h2]
theorem rowLt_iff (X Y : Ro) : rowLt X Y = true ↔ (ltS X.key Y.key = true ∨ (X.key = Y.key ∧ Y.id < X.id)) := by
  unfold rowLt
  simp only [Bool.or_eq_true, Bool.and_eq_true, decide_eq_true_eq, eqS_iff]
theorem ltS_no {a b c : ByteArray} (h : ltS a b = false) (k : ltS b c = false) : ltS a c = false := by
  cases l : ltS a c
  · rfl
  · cases e : eqS b c
    · have h1 := ltS_tot k e
      have := ltS_tr l h1
      rw [h] at this; cases this
    · rw [← eqS_to e, h] at l; cases l
theorem rowSwo : SWO (ltOf rowC) where
  irrefl x := by rw [rowC_lt]; unfold rowLt; rw [ltS_irr]; simp
  trans x y z h1 h2 := by
    rw [rowC_lt, rowLt_iff] at *
    rcases h1 with h1 | ⟨h1, h3⟩ <;> rcases h2 with h2 | ⟨h2, h4⟩
    · exact .inl (ltS_tr h1 h2)
    · rw [← h2]; exact .inl h1
    · rw [h1]; exact .inl h2
    · exact .inr ⟨h1.trans h2, by omega⟩
  ntrans x y z h1 h2 := by
    rw [rowC_lt] at *
    cases h : rowLt x z
    · rfl
    · exfalso
      have n1 : ¬ rowLt x y = true := by rw [h1]; decide
      have n2 : ¬ rowLt y z = true := by rw [h2]; decide
      rw [rowLt_iff] at h n1 n2
      have a1 : ltS x.key y.key = false := by simpa using fun k => n1 (.inl k)
      have a2 : ltS y.key z.key = false := by simpa using fun k => n2 (.inl k)
      have a3 := ltS_no a1 a2
      rcases h with h | ⟨h, h'⟩
      · rw [a3] at h; cases h
      · have b1 : ¬ (x.key = y.key) ∨ ¬ (y.id < x.id) := by
          by_cases k : x.key = y.key
          · exact .inr fun q => n1 (.inr ⟨k, q⟩)
          · exact .inl k
        have e1 : x.key = y.key := by
          cases k : eqS x.key y.key
          · have l1 := ltS_tot a1 k
            rw [← h] at a2
            rw [a2] at l1; cases l1
          · exact eqS_to k
        have e2 : y.key = z.key := by rw [← e1]; exact h
        rcases b1 with b1 | b1
        · exact b1 e1
        · exact n2 (.inr ⟨e2, by omega⟩)
theorem roL_one : ∀ x : Ro, ∀ v ∈ roL x, v.oneCell' = true := fun x v hv => by
  simp at hv
  rcases hv with rfl | rfl | rfl | rfl | rfl | rfl | rfl <;> rfl
theorem flatK_list {α : Type} [Inhabited α] (C : α → List Value) (k : Nat) (hk : ∀ x, (C x).length = k) (E : List α) : (flatK C k E.toArray).toList = E.flatMap C := by
  have hl : (flatK C k E.toArray).toList.length = (E.flatMap C).length := by rw [Array.length_toList, size_flatK, flat_len2 C k hk]; simp
  refine List.ext_getElem? fun t => ?_
  by_cases ht : t < E.length * k
  · have k0 : 0 < k := by
      rcases Nat.eq_zero_or_pos k with h | h
      · subst h; simp at ht
      · exact h
    have hd : t / k < E.length := Nat.div_lt_of_lt_mul (by rw [Nat.mul_comm]; exact ht)
    have hm := Nat.mod_lt t k0
    have h1 := flat_at C k hk default E (t / k) (t % k) hd hm
    rw [Nat.mul_comm, Nat.div_add_mod] at h1
    have h2 := get_flatK C k E.toArray t (by simpa using ht)
    have h3 : t < (flatK C k E.toArray).size := by simpa using ht
    rw [h1, Array.getElem?_toList, Array.getElem?_eq_getElem h3, ← getElem!_pos (flatK C k E.toArray) t h3, h2]
    have e1 : E.toArray[t / k]! = E.getD (t / k) default := by
      rw [getElem!_pos _ _ (by simpa using hd)]
      simp [List.getD, List.getElem?_eq_getElem hd]
    rw [e1]
    have h4 : t % k < (C (E.getD (t / k) default)).length := by rw [hk]; exact hm
    rw [getElem!_pos (C (E.getD (t / k) default)) (t % k) h4, List.getElem?_eq_getElem h4]
  · rw [List.getElem?_eq_none (by rw [hl, flat_len2 C k hk]; omega), List.getElem?_eq_none (by rw [flat_len2 C k hk]; omega)]
theorem put_heap {w : World} {g : Nat} {cur sp : List Value} {T : TypeId} {d : Array Value} (hr : w.heap[g]? = some (.cells (cur ++ sp).toArray T (0, 0))) (hd : d.size = cur.length) :
    (putRow id w g 0 d).heap[g]? = some (.cells (d.toList ++ sp).toArray T (0, 0)) := by
  unfold putRow mapBlock
  simp only [Array.getElem?_modify, if_true, hr, Option.map_some, onCells]
  congr 2
  unfold putCells
  refine Array.ext_getElem? fun t => ?_
  simp only [Array.getElem?_mapIdx, List.getElem?_toArray, Nat.zero_le, true_and, Nat.zero_add, Nat.sub_zero]
  by_cases ht : t < cur.length
  · have h1 : t < d.toList.length := by rw [Array.length_toList, hd]; exact ht
    rw [List.getElem?_append_left ht, List.getElem?_append_left h1, List.getElem?_eq_getElem ht, Option.map_some, if_pos (by omega), List.getElem?_eq_getElem h1]
    have h2 : t < d.size := by omega
    rw [getElem!_pos d t h2]
    simp
  · have hdl : d.toList.length = cur.length := by rw [Array.length_toList, hd]
    rw [List.getElem?_append_right (by omega), List.getElem?_append_right (by omega), hdl]
    cases sp[t - cur.length]? with
    | none => rfl
    | some v => rw [Option.map_some, if_neg (by omega)]
theorem put_grown (w : World) (g : Nat) (d : Array Value) : w.grownBy (putRow id w g 0 d) (some g) :=
  ⟨rfl, rfl, rfl, by simp, fun k hk hne => by
    unfold putRow mapBlock
    simp only [Array.getElem?_modify]
    rw [if_neg (fun e => hne (by rw [e]))]⟩
theorem grow_grown (w : World) (os : Array Obj) (r : Option Nat) : w.grownBy (grow w os) r :=
  ⟨rfl, rfl, rfl, by simp, fun k hk _ => by unfold grow; simp [Array.getElem?_append_left hk]⟩
theorem ahead_grown (w : World) (n : Nat) (r : Option Nat) : w.grownBy (Sort.ahead w n) r := ⟨rfl, rfl, rfl, Nat.le_refl _, fun _ _ _ => rfl⟩
set_option maxHeartbeats 1000000 in
theorem sort_any (g cap : Nat) (E : List Ro) (w : World) (hw : RowRo w g cap E) (hcap : E.length ≤ 100000) :
    Calls Tryz.prog 107 #[.slice (some ⟨g, 0, none⟩) E.length cap, .func (.func 108) #[] #[]] w fun e w' => e = .returned (.tuple #[]) ∧ ∃ F : List Ro, F.Perm E ∧ F.Pairwise (fun x y => rowLt y x = false) ∧ RowRo w' g cap F ∧ w.grownBy w' (some g) := by
  obtain ⟨sp, hr, hl⟩ := hw
  have hg := (Array.getElem?_eq_some_iff.1 hr).1
  have eg : ∀ args w, (callFunc 108 args).run Tryz.prog w = .ok (.enter 108 args) w := enters_of Tryz.func108 (by kernel_rfl) rfl
  have hfl := flatK_list roL 7 (fun _ => rfl) E
  have hH : HoldsK roL 7 w g 0 E.toArray := fun j hj => by
    have hj' : j < (flatK roL 7 E.toArray).toList.length := by rw [Array.length_toList]; exact hj
    refine ⟨?_, fz_of hr _⟩
    rw [Nat.zero_add]
    refine cell_of hr j ?_
    rw [← hfl]
    have : (flatK roL 7 E.toArray)[j]! = (flatK roL 7 E.toArray).toList[j] := by rw [getElem!_pos _ j hj]; simp
    rw [List.getElem?_toArray, List.getElem?_append_left hj', List.getElem?_eq_getElem hj', this]
    rfl
  have hcon := AnyQ.slices_SortFunc sortRow 7 Tryz.isAgg61 Tryz.sizeOf61 roL (fun _ => rfl) roL_one rowC rowSwo 108 #[] g 0 cap E.toArray w eg (fun _ _ _ _ x y => rowC_any x y _) hH hg (by simp; omega)
  change Calls Tryz.prog 107 #[.slice (some ⟨g, 0, none⟩) E.length cap, .func (.func 108) #[] #[]] _ _ at hcon
  refine hcon.mono ?_
  rintro e w' ⟨rfl, d', n, os, hp, hs, rfl⟩
  have hsz : d'.size = E.length := by simpa using hp.1
  refine ⟨rfl, d'.toList, ?_, ?_, ⟨sp, ?_, ?_⟩, ?_⟩
  · have := hp.2.2
    have e1 : d'.extract 0 E.toArray.size = d' := by rw [show E.toArray.size = d'.size by simp [hsz]]; simp
    have e2 : E.toArray.extract 0 E.toArray.size = E.toArray := by simp
    rw [e1, e2] at this
    simpa using this
  · rw [List.pairwise_iff_getElem]
    intro i j hi hj hij
    have := hs i j (Nat.zero_le _) hij (by simpa [hsz] using hj)
    rw [rowC_lt, getElem!_pos d' j (by simpa using hj), getElem!_pos d' i (by simpa using hi)] at this
    simpa using this
  · unfold sortWorldK grow
    have hr' : (Sort.ahead w n).heap[g]? = some (.cells (E.flatMap roL ++ sp).toArray 61 (0, 0)) := hr
    have h1 := put_heap (d := flatK roL 7 d') hr' (by rw [size_flatK, hsz, flat_len2 roL 7 (fun _ => rfl)])
    have h2 := flatK_list roL 7 (fun _ => rfl) d'.toList
    rw [Array.toArray_toList] at h2
    rw [h2] at h1
    rw [Array.getElem?_append_left (by show g < (putRow id _ g 0 _).heap.size; simp; exact hg)]
    exact h1
  · rw [← hl, List.length_append, List.length_append, flat_len2 roL 7 (fun _ => rfl), flat_len2 roL 7 (fun _ => rfl), Array.length_toList, hsz]
  · exact gb_trans (gb_trans (ahead_grown w n _) (put_grown _ g _)) (grow_grown _ _ _)
end Go.Proofs.YtdgmdapijhbocaaGreat
