/- slices.Delete of one element of a row of one's own. -/
import Derived.Test.YtdgmdapijhbocaaGreatG7
import Derived.Deep.RegionLaw
import Derived.Lib.SliceRun
import Derived.Test.YtdgmdapijhbocaaGreatG3
namespace Go.Proofs.YtdgmdapijhbocaaGreat
open Go.RowKit Go.Maps
set_option maxRecDepth 100000
set_option linter.unusedVariables false
set_option linter.unusedSimpArgs false
theorem drop_len {P Q : List Value} {n m : Nat} (h : P.length = n) : (P ++ Q).drop (n + m) = Q.drop m := by
  subst h
  rw [List.drop_append, List.drop_of_length_le (by omega)]
  simp
theorem row_setCells {g : Nat} {t : TypeId} : ∀ (vs : List Value) (o : Nat) (w : World) (cs : List Value), w.heap[g]? = some (.cells cs.toArray t (0, 0)) → o + vs.length ≤ cs.length → (w.setCells g o vs).heap[g]? = some (.cells (cs.take o ++ vs ++ cs.drop (o + vs.length)).toArray t (0, 0))
  | [], o, w, cs, h, hl => by simpa [World.setCells] using h
  | v :: vs, o, w, cs, h, hl => by
    have hlt : o < cs.length := by simp at hl; omega
    obtain ⟨P, a, Q, e, hp⟩ : ∃ P a Q, cs = P ++ a :: Q ∧ P.length = o := ⟨cs.take o, cs[o], cs.drop (o + 1), by rw [List.getElem_cons_drop]; simp, by simp; omega⟩
    subst e
    have h1 := putOne h hp v
    have h2 := row_setCells vs (o + 1) _ _ h1 (by simp at hl ⊢; omega)
    have e1 : ((P ++ [v]) ++ Q).take (o + 1) = P ++ [v] := by rw [List.take_left' (by simp [hp])]
    have e2 : (P ++ a :: Q).take o = P := by rw [List.take_left' hp]
    have e3 : ((P ++ [v]) ++ Q).drop (o + 1 + vs.length) = (P ++ a :: Q).drop (o + (v :: vs).length) := by
      rw [drop_len (n := o + 1) (by simp [hp]), drop_len hp]
      rfl
    show ((w.setCell ⟨g, o, none⟩ v).setCells g (o + 1) vs).heap[g]? = _
    rw [h2, e1, e2, e3]
    simp
theorem gb_setCell (w : World) (g i : Nat) (v : Value) : w.grownBy (w.setCell ⟨g, i, none⟩ v) (some g) := ⟨rfl, rfl, rfl, by simp [World.setCell], fun k hk hne => Below.heap_setCell _ _ _ _ (fun e => hne (by rw [e]))⟩
theorem gb_setCells (g : Nat) : ∀ (vs : List Value) (o : Nat) (w : World), w.grownBy (w.setCells g o vs) (some g)
  | [], o, w => gb_refl _ _
  | v :: vs, o, w => gb_trans (gb_setCell w g o v) (gb_setCells g vs (o + 1) _)
theorem gb_drew (w : World) (r : Option Nat) : w.grownBy w.drew r := gb_below (Below.drew (Below.refl _ _))
theorem run_clearN {P : Program} (w : World) (t e ty : TypeId) (z : Value) (k : Nat) (ht : P.underlying t = some (.slice e)) (hv : ∀ w, (zeroValue e).run P w = .ok z w) (hz : z.cells.size = k) (h1 : ∀ u ∈ z.cells, u.oneCell' = true) (b o n c : Nat) (hn : 0 < n)
    (hc : ∀ j, j < n * k → (w.cell? ⟨b, o + j, none⟩).isSome = true) (hf : ∀ j, j < n * k → w.frozen? ⟨b, o + j, none⟩ = false) :
    (Builtin.clear_ #[t] ty #[.slice (some ⟨b, o, none⟩) n c]).run P w = .ok (.tuple #[]) (w.setCells b o (Builtin.zeroCells z.cells n).toList) := by
  have hl : (Builtin.zeroCells z.cells n).toList.length = n * k := by rw [Array.length_toList, size_zeroCells, hz]
  have hst := run_storeCells_cells (P := P) b o (Builtin.zeroCells z.cells n).toList 0 w (by simpa [hl] using hc) (by simpa [hl] using hf) (by
    intro v hv'
    have hv2 : v ∈ Builtin.zeroCells z.cells n := by simpa using hv'
    unfold Builtin.zeroCells at hv2
    obtain ⟨i, hi, rfl⟩ := Array.mem_map.1 hv2
    have hlt : i < n * z.cells.size := by simpa using hi
    have hpos : 0 < z.cells.size := by
      rcases Nat.eq_zero_or_pos z.cells.size with h0 | h0
      · rw [h0] at hlt; omega
      · exact h0
    have hm := Nat.mod_lt i hpos
    rw [getElem!_pos z.cells (i % z.cells.size) hm]
    exact h1 _ (Array.getElem_mem hm))
  simp only [Nat.add_zero] at hst
  obtain ⟨m, rfl⟩ : ∃ m, n = m + 1 := ⟨n - 1, by omega⟩
  simp [Builtin.clear_, run_underlying ht, hv, hst]
abbrev zeroUp : Array Value := #[.int .i64 0, .string ⟨#[]⟩, .string ⟨#[]⟩, .slice none 0 0]
theorem zerozeroVe_run (w : World) : (zeroValue 36).run Tryz.prog w = .ok (.agg zeroVe) w := by kernel_rfl
theorem zerozeroUp_run (w : World) : (zeroValue 102).run Tryz.prog w = .ok (.agg zeroUp) w := by kernel_rfl
set_option maxHeartbeats 2000000 in
theorem deleteV_any (g m cap i : Nat) (cur : List Value) (w : World) (hrow : w.heap[g]? = some (.cells cur.toArray 36 (0, 0))) (hc : cur.length = cap * 12) (hn : m + 1 ≤ cap) (hcap : cap ≤ 9223372036854775807) (hi : i ≤ m) (h1 : ∀ u ∈ cur.take ((m + 1) * 12), u.oneCell' = true) :
    Calls Tryz.prog 162 #[.slice (some ⟨g, 0, none⟩) (m + 1) cap, .int .i64 i, .int .i64 ((i : Int) + 1)] w fun e w' => e = .returned (.slice (some ⟨g, 0, none⟩) m cap) ∧
      (∃ cur' : List Value, w'.heap[g]? = some (.cells cur'.toArray 36 (0, 0)) ∧ cur'.length = cap * 12 ∧ cur'.take (m * 12) = cur.take (i * 12) ++ (cur.take ((m + 1) * 12)).drop ((i + 1) * 12)) ∧ w.grownBy w' (some g) := by
  obtain ⟨i0, hi0, hz0, hz1, hz2⟩ := info_parts infoVe
  obtain ⟨M, hM⟩ : ∃ M, (cur.take ((m + 1) * 12)).drop ((i + 1) * 12) = M := ⟨_, rfl⟩
  have hMl : M.length = (m - i) * 12 := by rw [← hM, List.length_drop, List.length_take, hc]; omega
  have hcell : ∀ j v, cur[j]? = some v → w.cell? ⟨g, j, none⟩ = some v := fun j v hv => cell_of hrow j (by simpa using hv)
  obtain ⟨A, hA, hnews⟩ : ∃ A : Addr, (if cap = i + 1 then some (⟨g, 0, none⟩ : Addr) else some ⟨g, (i + 1) * 12, none⟩) = some A ∧ Hid (∀ j u, M[j]? = some u → w.drew.cell? (A.add j) = some u) := by
    by_cases h : cap = i + 1
    · refine ⟨⟨g, 0, none⟩, by simp [h], fun j u hu => ?_⟩
      have h0 : M.length = 0 := by rw [hMl]; omega
      rw [List.length_eq_zero_iff.1 h0] at hu
      simp at hu
    · refine ⟨⟨g, (i + 1) * 12, none⟩, by simp [h], fun j u hu => ?_⟩
      rw [addI]
      refine hcell _ _ ?_
      have hj : j < M.length := (List.getElem?_eq_some_iff.1 hu).1
      rw [← hM, List.getElem?_drop, List.getElem?_take_of_lt (by omega)] at hu
      exact hu
  have s1 : Hid (M.length = (m - i) * 12) := hMl
  have s2 : Hid (∀ u ∈ M, u.oneCell' = true) := fun u hu => h1 u (List.mem_of_mem_drop (by rw [hM]; exact hu))
  have s3 : Hid (∀ j, j < M.length → (w.drew.cell? ⟨g, 0 + i * 12 + j, none⟩).isSome = true ∧ w.drew.frozen? ⟨g, 0 + i * 12 + j, none⟩ = false) := by
    intro j hj
    rw [hMl] at hj
    have hlt : 0 + i * 12 + j < cur.length := by rw [hc]; omega
    exact ⟨by show (w.cell? _).isSome = true; rw [hcell _ _ (List.getElem?_eq_getElem hlt)]; rfl, fz_of hrow _⟩
  -- behind the append, and behind the clear
  obtain ⟨W1, hW1⟩ : ∃ W1, w.drew.setCells g (0 + i * 12) M = W1 := ⟨_, rfl⟩
  have hr1 : W1.heap[g]? = some (.cells (cur.take (i * 12) ++ M ++ cur.drop (i * 12 + M.length)).toArray 36 (0, 0)) := by
    rw [← hW1, Nat.zero_add]
    exact row_setCells M (i * 12) w.drew cur hrow (by rw [hMl, hc]; omega)
  have hg1 : w.grownBy W1 (some g) := by rw [← hW1]; exact gb_trans (gb_drew w _) (gb_setCells g M _ _)
  obtain ⟨cur1, hcur1⟩ : ∃ c1, cur.take (i * 12) ++ M ++ cur.drop (i * 12 + M.length) = c1 := ⟨_, rfl⟩
  have hl1 : cur1.length = cap * 12 := by rw [← hcur1, List.length_append, List.length_append, List.length_take, List.length_drop, hMl, hc]; omega
  have ht1 : cur1.take (m * 12) = cur.take (i * 12) ++ M := by
    rw [← hcur1]
    exact List.take_left' (by rw [List.length_append, List.length_take, hMl, hc]; omega)
  rw [hcur1] at hr1
  obtain ⟨Z, hZ⟩ : ∃ Z, (Builtin.zeroCells (Value.agg zeroVe).cells 1).toList = Z := ⟨_, rfl⟩
  have hZl : Z.length = 12 := by rw [← hZ, Array.length_toList, size_zeroCells]; rfl
  have hcl : ∀ ty, (Builtin.clear_ #[24] ty #[.slice (some ⟨g, m * 12, none⟩) 1 (cap - m)]).run Tryz.prog W1 = .ok (.tuple #[]) (W1.setCells g (m * 12) Z) := fun ty => by
    rw [← hZ]
    refine run_clearN W1 24 36 ty (.agg zeroVe) 12 Tryz.underlying24 zerozeroVe_run rfl (by simp [Value.cells, Value.oneCell']) g (m * 12) 1 _ (by decide) (fun j hj => ?_) (fun j hj => fz_of hr1 _)
    have hlt : m * 12 + j < cur1.length := by rw [hl1]; omega
    rw [cell_of hr1 _ (v := cur1[m * 12 + j]) (by simp [hlt])]
    rfl
  have hr2 : (W1.setCells g (m * 12) Z).heap[g]? = some (.cells (cur1.take (m * 12) ++ Z ++ cur1.drop (m * 12 + Z.length)).toArray 36 (0, 0)) := row_setCells Z (m * 12) W1 cur1 hr1 (by rw [hZl, hl1]; omega)
  have HG : Hid ((∃ cur' : List Value, (W1.setCells g (m * 12) Z).heap[g]? = some (.cells cur'.toArray 36 (0, 0)) ∧ cur'.length = cap * 12 ∧ cur'.take (m * 12) = cur.take (i * 12) ++ (cur.take ((m + 1) * 12)).drop ((i + 1) * 12)) ∧ w.grownBy (W1.setCells g (m * 12) Z) (some g)) := by
    refine ⟨⟨_, hr2, ?_, ?_⟩, gb_trans hg1 (gb_setCells g Z _ _)⟩
    · rw [List.length_append, List.length_append, List.length_take, List.length_drop, hZl, hl1]; omega
    · rw [hM, ← ht1, List.append_assoc]
      exact List.take_left' (by rw [List.length_take, hl1]; omega)
  rw [Nat.zero_add] at hW1
  have HW1 := hide hW1
  have hic : i ≤ cap := by omega
  have him : i ≤ m + 1 := by omega
  have hne : ((i : Int) == (i : Int) + 1) = false := by simp; omega
  have hp0 : (0 : Int) ≤ (i : Int) + 1 := by omega
  have hp1 : (i : Int) + 1 ≤ (m : Int) + 1 := by omega
  have hp2 : ((i : Int) + 1).toNat = i + 1 := by omega
  have hlen : i + (m - i) = m := by omega
  have hcm : ¬ cap = m := by omega
  clear hcell hM hMl hr1 hg1 hcur1 hl1 ht1 hr2 hZ hZl hW1 hrow h1
  go_enter Tryz.func162, Tryz.ntmps162
  go_wp2_with fail
  go_region_law (refine step_append_room rfl (.tmp 22) (.tmp 25) 24 rfl 36 i0 12 Tryz.underlying24 hi0 hz1 g 0 i cap (by simp [Act.eval, Act.put]) A (m - i) (cap - (i + 1)) M (by simp [Act.eval, Act.put]) s1.out hnews.out s2.out (by omega) s3.out ?_)
  all_goals
    rw [unhide HW1]
    go_wp2
    go_ret
    exact ⟨rfl, unhide HG⟩
set_option maxHeartbeats 2000000 in
theorem deleteU_any (g m cap i : Nat) (cur : List Value) (w : World) (hrow : w.heap[g]? = some (.cells cur.toArray 102 (0, 0))) (hc : cur.length = cap * 4) (hn : m + 1 ≤ cap) (hcap : cap ≤ 9223372036854775807) (hi : i ≤ m) (h1 : ∀ u ∈ cur.take ((m + 1) * 4), u.oneCell' = true) :
    Calls Tryz.prog 132 #[.slice (some ⟨g, 0, none⟩) (m + 1) cap, .int .i64 i, .int .i64 ((i : Int) + 1)] w fun e w' => e = .returned (.slice (some ⟨g, 0, none⟩) m cap) ∧
      (∃ cur' : List Value, w'.heap[g]? = some (.cells cur'.toArray 102 (0, 0)) ∧ cur'.length = cap * 4 ∧ cur'.take (m * 4) = cur.take (i * 4) ++ (cur.take ((m + 1) * 4)).drop ((i + 1) * 4)) ∧ w.grownBy w' (some g) := by
  obtain ⟨i0, hi0, hz0, hz1, hz2⟩ := info_parts infoUp
  obtain ⟨M, hM⟩ : ∃ M, (cur.take ((m + 1) * 4)).drop ((i + 1) * 4) = M := ⟨_, rfl⟩
  have hMl : M.length = (m - i) * 4 := by rw [← hM, List.length_drop, List.length_take, hc]; omega
  have hcell : ∀ j v, cur[j]? = some v → w.cell? ⟨g, j, none⟩ = some v := fun j v hv => cell_of hrow j (by simpa using hv)
  obtain ⟨A, hA, hnews⟩ : ∃ A : Addr, (if cap = i + 1 then some (⟨g, 0, none⟩ : Addr) else some ⟨g, (i + 1) * 4, none⟩) = some A ∧ Hid (∀ j u, M[j]? = some u → w.drew.cell? (A.add j) = some u) := by
    by_cases h : cap = i + 1
    · refine ⟨⟨g, 0, none⟩, by simp [h], fun j u hu => ?_⟩
      have h0 : M.length = 0 := by rw [hMl]; omega
      rw [List.length_eq_zero_iff.1 h0] at hu
      simp at hu
    · refine ⟨⟨g, (i + 1) * 4, none⟩, by simp [h], fun j u hu => ?_⟩
      rw [addI]
      refine hcell _ _ ?_
      have hj : j < M.length := (List.getElem?_eq_some_iff.1 hu).1
      rw [← hM, List.getElem?_drop, List.getElem?_take_of_lt (by omega)] at hu
      exact hu
  have s1 : Hid (M.length = (m - i) * 4) := hMl
  have s2 : Hid (∀ u ∈ M, u.oneCell' = true) := fun u hu => h1 u (List.mem_of_mem_drop (by rw [hM]; exact hu))
  have s3 : Hid (∀ j, j < M.length → (w.drew.cell? ⟨g, 0 + i * 4 + j, none⟩).isSome = true ∧ w.drew.frozen? ⟨g, 0 + i * 4 + j, none⟩ = false) := by
    intro j hj
    rw [hMl] at hj
    have hlt : 0 + i * 4 + j < cur.length := by rw [hc]; omega
    exact ⟨by show (w.cell? _).isSome = true; rw [hcell _ _ (List.getElem?_eq_getElem hlt)]; rfl, fz_of hrow _⟩
  -- behind the append, and behind the clear
  obtain ⟨W1, hW1⟩ : ∃ W1, w.drew.setCells g (0 + i * 4) M = W1 := ⟨_, rfl⟩
  have hr1 : W1.heap[g]? = some (.cells (cur.take (i * 4) ++ M ++ cur.drop (i * 4 + M.length)).toArray 102 (0, 0)) := by
    rw [← hW1, Nat.zero_add]
    exact row_setCells M (i * 4) w.drew cur hrow (by rw [hMl, hc]; omega)
  have hg1 : w.grownBy W1 (some g) := by rw [← hW1]; exact gb_trans (gb_drew w _) (gb_setCells g M _ _)
  obtain ⟨cur1, hcur1⟩ : ∃ c1, cur.take (i * 4) ++ M ++ cur.drop (i * 4 + M.length) = c1 := ⟨_, rfl⟩
  have hl1 : cur1.length = cap * 4 := by rw [← hcur1, List.length_append, List.length_append, List.length_take, List.length_drop, hMl, hc]; omega
  have ht1 : cur1.take (m * 4) = cur.take (i * 4) ++ M := by
    rw [← hcur1]
    exact List.take_left' (by rw [List.length_append, List.length_take, hMl, hc]; omega)
  rw [hcur1] at hr1
  obtain ⟨Z, hZ⟩ : ∃ Z, (Builtin.zeroCells (Value.agg zeroUp).cells 1).toList = Z := ⟨_, rfl⟩
  have hZl : Z.length = 4 := by rw [← hZ, Array.length_toList, size_zeroCells]; rfl
  have hcl : ∀ ty, (Builtin.clear_ #[25] ty #[.slice (some ⟨g, m * 4, none⟩) 1 (cap - m)]).run Tryz.prog W1 = .ok (.tuple #[]) (W1.setCells g (m * 4) Z) := fun ty => by
    rw [← hZ]
    refine run_clearN W1 25 102 ty (.agg zeroUp) 4 Tryz.underlying25 zerozeroUp_run rfl (by simp [Value.cells, Value.oneCell']) g (m * 4) 1 _ (by decide) (fun j hj => ?_) (fun j hj => fz_of hr1 _)
    have hlt : m * 4 + j < cur1.length := by rw [hl1]; omega
    rw [cell_of hr1 _ (v := cur1[m * 4 + j]) (by simp [hlt])]
    rfl
  have hr2 : (W1.setCells g (m * 4) Z).heap[g]? = some (.cells (cur1.take (m * 4) ++ Z ++ cur1.drop (m * 4 + Z.length)).toArray 102 (0, 0)) := row_setCells Z (m * 4) W1 cur1 hr1 (by rw [hZl, hl1]; omega)
  have HG : Hid ((∃ cur' : List Value, (W1.setCells g (m * 4) Z).heap[g]? = some (.cells cur'.toArray 102 (0, 0)) ∧ cur'.length = cap * 4 ∧ cur'.take (m * 4) = cur.take (i * 4) ++ (cur.take ((m + 1) * 4)).drop ((i + 1) * 4)) ∧ w.grownBy (W1.setCells g (m * 4) Z) (some g)) := by
    refine ⟨⟨_, hr2, ?_, ?_⟩, gb_trans hg1 (gb_setCells g Z _ _)⟩
    · rw [List.length_append, List.length_append, List.length_take, List.length_drop, hZl, hl1]; omega
    · rw [hM, ← ht1, List.append_assoc]
      exact List.take_left' (by rw [List.length_take, hl1]; omega)
  rw [Nat.zero_add] at hW1
  have HW1 := hide hW1
  have hic : i ≤ cap := by omega
  have him : i ≤ m + 1 := by omega
  have hne : ((i : Int) == (i : Int) + 1) = false := by simp; omega
  have hp0 : (0 : Int) ≤ (i : Int) + 1 := by omega
  have hp1 : (i : Int) + 1 ≤ (m : Int) + 1 := by omega
  have hp2 : ((i : Int) + 1).toNat = i + 1 := by omega
  have hlen : i + (m - i) = m := by omega
  have hcm : ¬ cap = m := by omega
  clear hcell hM hMl hr1 hg1 hcur1 hl1 ht1 hr2 hZ hZl hW1 hrow h1
  go_enter Tryz.func132, Tryz.ntmps132
  go_wp2_with fail
  go_region_law (refine step_append_room rfl (.tmp 22) (.tmp 25) 25 rfl 102 i0 4 Tryz.underlying25 hi0 hz1 g 0 i cap (by simp [Act.eval, Act.put]) A (m - i) (cap - (i + 1)) M (by simp [Act.eval, Act.put]) s1.out hnews.out s2.out (by omega) s3.out ?_)
  all_goals
    rw [unhide HW1]
    go_wp2
    go_ret
    exact ⟨rfl, unhide HG⟩
end Go.Proofs.YtdgmdapijhbocaaGreat

/- slices.IndexFunc with the closures of state.Apply; findNull, findUpload, findAsk. -/
namespace Go.Proofs.YtdgmdapijhbocaaGreat
open Go.RowKit
set_option maxRecDepth 100000
set_option linter.unusedVariables false
set_option linter.unusedSimpArgs false
set_option maxHeartbeats 1000000 in
theorem index_findNull_1 (C1 C2 : Value) (a : Option Addr) (cap : Nat) (xs : List Ve) (p : Nat → Bool) (w : World) (hL : Lst RVe 12 ve0 w (.slice a xs.length cap) xs) (hn : xs.length ≤ 9223372036854775807)
    (hst : ∀ (k : Nat) (wr : World) (X : Ve) (ua : Option Addr) (un uc : Nat), k < xs.length → xs.getD k ve0 = X → Below w.heap.size w wr → Ints wr (.slice ua un uc) X.sec → Calls Tryz.prog 161 #[veV X (.slice ua un uc), C1, C2] wr fun e w' => e = .returned (.bool (p k)) ∧ Below wr.heap.size wr w') :
    Calls Tryz.prog 147 #[.slice a xs.length cap, .func (.func 161) #[] #[C1, C2]] w fun e w' => e = .returned (.int .i64 (firstI xs.length p)) ∧ Below w.heap.size w w' := by
  have HL := hide hL
  have HST := hide hst
  clear hL hst
  obtain ⟨N, hN⟩ : ∃ N, xs.length = N := ⟨_, rfl⟩
  have HN := hide hN
  rw [hN] at hn HL HST ⊢
  clear hN
  go_enter Tryz.func147, Tryz.ntmps147
  go_wp2
  go_loopw [5, 8] (fun _ i wr => ∃ k : Nat, k ≤ N ∧ i = .int .i64 k ∧ Below w.heap.size w wr ∧ ∀ j, j < k → p j = false) (fun _ i _ => N - (intOf i).toNat)
  case atStart => exact ⟨0, Nat.zero_le _, rfl, Below.refl _ _, fun j hj => absurd hj (Nat.not_lt_zero _)⟩
  case round =>
    obtain ⟨k, hk, rfl, hb, hall⟩ := hrel
    have HA := hide hall
    clear hall
    by_cases hlt : k < N
    · obtain ⟨b, o, rfl, r0⟩ := Lst.at (unhide HL) (i := k) (by rw [unhide HN]; exact hlt)
      obtain ⟨X, hX⟩ : ∃ X, xs.getD k ve0 = X := ⟨_, rfl⟩
      rw [hX] at r0
      have r := RVe.up hb r0
      have HX := hide hX
      clear hX r0
      have hI := hb
      obtain ⟨U, hu, hi⟩ := r.c8
      obtain ⟨ua, uc, rfl, _⟩ := hi.form
      have HII := hide hi
      have c0 := r.c0
      have c1 := r.c1
      have c2 := r.c2
      have c3 := r.c3
      have c4 := r.c4
      have c5 := r.c5
      have c6 := r.c6
      have c7 := r.c7
      have c8 := r.c9
      have c9 := r.c10
      have c10 := r.c11
      have HI := hide hI
      clear r hI hi
      go_wp2_with fail
      refine (unhide HST k _ X _ _ _ hlt (unhide HX) (unhide HI) (unhide HII)).mono ?_
      rintro e w1 ⟨rfl, hb1⟩
      cases hpk : p k
      · go_wp2
        go_roundw
        case rel => exact ⟨k + 1, by omega, by go_num, bl_trans hb hb1, fun j hj => if e : j < k then unhide HA j e else (show j = k by omega) ▸ hpk⟩
        case measure => simp [intOf]; omega
      · go_wp2
        go_ret
        exact ⟨ret_int (firstI_t hlt hpk (unhide HA)).symm, bl_trans hb hb1⟩
    · obtain rfl : k = N := by omega
      go_wp2
      go_ret
      exact ⟨ret_int (firstI_f (unhide HA)).symm, hb⟩
set_option maxHeartbeats 1000000 in
theorem index_findUpload_1 (C1 : Value) (a : Option Addr) (cap : Nat) (xs : List Up) (p : Nat → Bool) (w : World) (hL : Lst RUp 4 up0 w (.slice a xs.length cap) xs) (hn : xs.length ≤ 9223372036854775807)
    (hst : ∀ (k : Nat) (wr : World) (X : Up) (ua : Option Addr) (un uc : Nat), k < xs.length → xs.getD k up0 = X → Below w.heap.size w wr → Lst RPa 3 pa0 wr (.slice ua un uc) X.parts → Calls Tryz.prog 168 #[upV X (.slice ua un uc), C1] wr fun e w' => e = .returned (.bool (p k)) ∧ Below wr.heap.size wr w') :
    Calls Tryz.prog 167 #[.slice a xs.length cap, .func (.func 168) #[] #[C1]] w fun e w' => e = .returned (.int .i64 (firstI xs.length p)) ∧ Below w.heap.size w w' := by
  have HL := hide hL
  have HST := hide hst
  clear hL hst
  obtain ⟨N, hN⟩ : ∃ N, xs.length = N := ⟨_, rfl⟩
  have HN := hide hN
  rw [hN] at hn HL HST ⊢
  clear hN
  go_enter Tryz.func167, Tryz.ntmps167
  go_wp2
  go_loopw [5, 8] (fun _ i wr => ∃ k : Nat, k ≤ N ∧ i = .int .i64 k ∧ Below w.heap.size w wr ∧ ∀ j, j < k → p j = false) (fun _ i _ => N - (intOf i).toNat)
  case atStart => exact ⟨0, Nat.zero_le _, rfl, Below.refl _ _, fun j hj => absurd hj (Nat.not_lt_zero _)⟩
  case round =>
    obtain ⟨k, hk, rfl, hb, hall⟩ := hrel
    have HA := hide hall
    clear hall
    by_cases hlt : k < N
    · obtain ⟨b, o, rfl, r0⟩ := Lst.at (unhide HL) (i := k) (by rw [unhide HN]; exact hlt)
      obtain ⟨X, hX⟩ : ∃ X, xs.getD k up0 = X := ⟨_, rfl⟩
      rw [hX] at r0
      have r := RUp.up hb r0
      have HX := hide hX
      clear hX r0
      have hI := hb
      obtain ⟨U, hu, hi⟩ := r.c3
      obtain ⟨ua, uc, rfl, _⟩ := hi.form
      have HII := hide hi
      have c0 := r.c0
      have c1 := r.c1
      have c2 := r.c2
      have HI := hide hI
      clear r hI hi
      go_wp2_with fail
      refine (unhide HST k _ X _ _ _ hlt (unhide HX) (unhide HI) (unhide HII)).mono ?_
      rintro e w1 ⟨rfl, hb1⟩
      cases hpk : p k
      · go_wp2
        go_roundw
        case rel => exact ⟨k + 1, by omega, by go_num, bl_trans hb hb1, fun j hj => if e : j < k then unhide HA j e else (show j = k by omega) ▸ hpk⟩
        case measure => simp [intOf]; omega
      · go_wp2
        go_ret
        exact ⟨ret_int (firstI_t hlt hpk (unhide HA)).symm, bl_trans hb hb1⟩
    · obtain rfl : k = N := by omega
      go_wp2
      go_ret
      exact ⟨ret_int (firstI_f (unhide HA)).symm, hb⟩
set_option maxHeartbeats 1000000 in
theorem index_findAsk_1 (C1 : Value) (a : Option Addr) (cap : Nat) (xs : List Ak) (p : Nat → Bool) (w : World) (hL : Lst RAk 3 ak0 w (.slice a xs.length cap) xs) (hn : xs.length ≤ 9223372036854775807)
    (hst : ∀ (k : Nat) (wr : World) (X : Ak), k < xs.length → xs.getD k ak0 = X → Below w.heap.size w wr → Calls Tryz.prog 164 #[akV X, C1] wr fun e w' => e = .returned (.bool (p k)) ∧ Below wr.heap.size wr w') :
    Calls Tryz.prog 163 #[.slice a xs.length cap, .func (.func 164) #[] #[C1]] w fun e w' => e = .returned (.int .i64 (firstI xs.length p)) ∧ Below w.heap.size w w' := by
  have HL := hide hL
  have HST := hide hst
  clear hL hst
  obtain ⟨N, hN⟩ : ∃ N, xs.length = N := ⟨_, rfl⟩
  have HN := hide hN
  rw [hN] at hn HL HST ⊢
  clear hN
  go_enter Tryz.func163, Tryz.ntmps163
  go_wp2
  go_loopw [5, 8] (fun _ i wr => ∃ k : Nat, k ≤ N ∧ i = .int .i64 k ∧ Below w.heap.size w wr ∧ ∀ j, j < k → p j = false) (fun _ i _ => N - (intOf i).toNat)
  case atStart => exact ⟨0, Nat.zero_le _, rfl, Below.refl _ _, fun j hj => absurd hj (Nat.not_lt_zero _)⟩
  case round =>
    obtain ⟨k, hk, rfl, hb, hall⟩ := hrel
    have HA := hide hall
    clear hall
    by_cases hlt : k < N
    · obtain ⟨b, o, rfl, r0⟩ := Lst.at (unhide HL) (i := k) (by rw [unhide HN]; exact hlt)
      obtain ⟨X, hX⟩ : ∃ X, xs.getD k ak0 = X := ⟨_, rfl⟩
      rw [hX] at r0
      have r := RAk.up hb r0
      have HX := hide hX
      clear hX r0
      have hI := hb
      have c0 := r.c0
      have c1 := r.c1
      have c2 := r.c2
      have HI := hide hI
      clear r hI
      go_wp2_with fail
      refine (unhide HST k _ X hlt (unhide HX) (unhide HI)).mono ?_
      rintro e w1 ⟨rfl, hb1⟩
      cases hpk : p k
      · go_wp2
        go_roundw
        case rel => exact ⟨k + 1, by omega, by go_num, bl_trans hb hb1, fun j hj => if e : j < k then unhide HA j e else (show j = k by omega) ▸ hpk⟩
        case measure => simp [intOf]; omega
      · go_wp2
        go_ret
        exact ⟨ret_int (firstI_t hlt hpk (unhide HA)).symm, bl_trans hb hb1⟩
    · obtain rfl : k = N := by omega
      go_wp2
      go_ret
      exact ⟨ret_int (firstI_f (unhide HA)).symm, hb⟩
set_option maxHeartbeats 1000000 in
theorem index_addBucket_1 (C1 : Value) (a : Option Addr) (cap : Nat) (xs : List Bu) (p : Nat → Bool) (w : World) (hL : Lst RBu 5 bu0 w (.slice a xs.length cap) xs) (hn : xs.length ≤ 9223372036854775807)
    (hst : ∀ (k : Nat) (wr : World) (X : Bu), k < xs.length → xs.getD k bu0 = X → Below w.heap.size w wr → Calls Tryz.prog 120 #[buV X, C1] wr fun e w' => e = .returned (.bool (p k)) ∧ Below wr.heap.size wr w') :
    Calls Tryz.prog 152 #[.slice a xs.length cap, .func (.func 120) #[] #[C1]] w fun e w' => e = .returned (.int .i64 (firstI xs.length p)) ∧ Below w.heap.size w w' := by
  have HL := hide hL
  have HST := hide hst
  clear hL hst
  obtain ⟨N, hN⟩ : ∃ N, xs.length = N := ⟨_, rfl⟩
  have HN := hide hN
  rw [hN] at hn HL HST ⊢
  clear hN
  go_enter Tryz.func152, Tryz.ntmps152
  go_wp2
  go_loopw [5, 8] (fun _ i wr => ∃ k : Nat, k ≤ N ∧ i = .int .i64 k ∧ Below w.heap.size w wr ∧ ∀ j, j < k → p j = false) (fun _ i _ => N - (intOf i).toNat)
  case atStart => exact ⟨0, Nat.zero_le _, rfl, Below.refl _ _, fun j hj => absurd hj (Nat.not_lt_zero _)⟩
  case round =>
    obtain ⟨k, hk, rfl, hb, hall⟩ := hrel
    have HA := hide hall
    clear hall
    by_cases hlt : k < N
    · obtain ⟨b, o, rfl, r0⟩ := Lst.at (unhide HL) (i := k) (by rw [unhide HN]; exact hlt)
      obtain ⟨X, hX⟩ : ∃ X, xs.getD k bu0 = X := ⟨_, rfl⟩
      rw [hX] at r0
      have r := RBu.up hb r0
      have HX := hide hX
      clear hX r0
      have hI := hb
      have c0 := r.c0
      have c1 := r.c1
      have c2 := r.c2
      have c3 := r.c3
      have c4 := r.c4
      have HI := hide hI
      clear r hI
      go_wp2_with fail
      refine (unhide HST k _ X hlt (unhide HX) (unhide HI)).mono ?_
      rintro e w1 ⟨rfl, hb1⟩
      cases hpk : p k
      · go_wp2
        go_roundw
        case rel => exact ⟨k + 1, by omega, by go_num, bl_trans hb hb1, fun j hj => if e : j < k then unhide HA j e else (show j = k by omega) ▸ hpk⟩
        case measure => simp [intOf]; omega
      · go_wp2
        go_ret
        exact ⟨ret_int (firstI_t hlt hpk (unhide HA)).symm, bl_trans hb hb1⟩
    · obtain rfl : k = N := by omega
      go_wp2
      go_ret
      exact ⟨ret_int (firstI_f (unhide HA)).symm, hb⟩
set_option maxHeartbeats 1000000 in
theorem index_addPart_1 (C1 : Value) (a : Option Addr) (cap : Nat) (xs : List Pa) (p : Nat → Bool) (w : World) (hL : Lst RPa 3 pa0 w (.slice a xs.length cap) xs) (hn : xs.length ≤ 9223372036854775807)
    (hst : ∀ (k : Nat) (wr : World) (X : Pa) (ua : Option Addr) (un uc : Nat), k < xs.length → xs.getD k pa0 = X → Below w.heap.size w wr → Ints wr (.slice ua un uc) X.sec → Calls Tryz.prog 129 #[paV X (.slice ua un uc), C1] wr fun e w' => e = .returned (.bool (p k)) ∧ Below wr.heap.size wr w') :
    Calls Tryz.prog 169 #[.slice a xs.length cap, .func (.func 129) #[] #[C1]] w fun e w' => e = .returned (.int .i64 (firstI xs.length p)) ∧ Below w.heap.size w w' := by
  have HL := hide hL
  have HST := hide hst
  clear hL hst
  obtain ⟨N, hN⟩ : ∃ N, xs.length = N := ⟨_, rfl⟩
  have HN := hide hN
  rw [hN] at hn HL HST ⊢
  clear hN
  go_enter Tryz.func169, Tryz.ntmps169
  go_wp2
  go_loopw [5, 8] (fun _ i wr => ∃ k : Nat, k ≤ N ∧ i = .int .i64 k ∧ Below w.heap.size w wr ∧ ∀ j, j < k → p j = false) (fun _ i _ => N - (intOf i).toNat)
  case atStart => exact ⟨0, Nat.zero_le _, rfl, Below.refl _ _, fun j hj => absurd hj (Nat.not_lt_zero _)⟩
  case round =>
    obtain ⟨k, hk, rfl, hb, hall⟩ := hrel
    have HA := hide hall
    clear hall
    by_cases hlt : k < N
    · obtain ⟨b, o, rfl, r0⟩ := Lst.at (unhide HL) (i := k) (by rw [unhide HN]; exact hlt)
      obtain ⟨X, hX⟩ : ∃ X, xs.getD k pa0 = X := ⟨_, rfl⟩
      rw [hX] at r0
      have r := RPa.up hb r0
      have HX := hide hX
      clear hX r0
      have hI := hb
      obtain ⟨U, hu, hi⟩ := r.c2
      obtain ⟨ua, uc, rfl, _⟩ := hi.form
      have HII := hide hi
      have c0 := r.c0
      have c1 := r.c1
      have HI := hide hI
      clear r hI hi
      go_wp2_with fail
      refine (unhide HST k _ X _ _ _ hlt (unhide HX) (unhide HI) (unhide HII)).mono ?_
      rintro e w1 ⟨rfl, hb1⟩
      cases hpk : p k
      · go_wp2
        go_roundw
        case rel => exact ⟨k + 1, by omega, by go_num, bl_trans hb hb1, fun j hj => if e : j < k then unhide HA j e else (show j = k by omega) ▸ hpk⟩
        case measure => simp [intOf]; omega
      · go_wp2
        go_ret
        exact ⟨ret_int (firstI_t hlt hpk (unhide HA)).symm, bl_trans hb hb1⟩
    · obtain rfl : k = N := by omega
      go_wp2
      go_ret
      exact ⟨ret_int (firstI_f (unhide HA)).symm, hb⟩
set_option maxHeartbeats 1000000 in
theorem index_addPart_2 (C1 : Value) (a : Option Addr) (cap : Nat) (xs : List Pa) (p : Nat → Bool) (w : World) (hL : Lst RPa 3 pa0 w (.slice a xs.length cap) xs) (hn : xs.length ≤ 9223372036854775807)
    (hst : ∀ (k : Nat) (wr : World) (X : Pa) (ua : Option Addr) (un uc : Nat), k < xs.length → xs.getD k pa0 = X → Below w.heap.size w wr → Ints wr (.slice ua un uc) X.sec → Calls Tryz.prog 131 #[paV X (.slice ua un uc), C1] wr fun e w' => e = .returned (.bool (p k)) ∧ Below wr.heap.size wr w') :
    Calls Tryz.prog 169 #[.slice a xs.length cap, .func (.func 131) #[] #[C1]] w fun e w' => e = .returned (.int .i64 (firstI xs.length p)) ∧ Below w.heap.size w w' := by
  have HL := hide hL
  have HST := hide hst
  clear hL hst
  obtain ⟨N, hN⟩ : ∃ N, xs.length = N := ⟨_, rfl⟩
  have HN := hide hN
  rw [hN] at hn HL HST ⊢
  clear hN
  go_enter Tryz.func169, Tryz.ntmps169
  go_wp2
  go_loopw [5, 8] (fun _ i wr => ∃ k : Nat, k ≤ N ∧ i = .int .i64 k ∧ Below w.heap.size w wr ∧ ∀ j, j < k → p j = false) (fun _ i _ => N - (intOf i).toNat)
  case atStart => exact ⟨0, Nat.zero_le _, rfl, Below.refl _ _, fun j hj => absurd hj (Nat.not_lt_zero _)⟩
  case round =>
    obtain ⟨k, hk, rfl, hb, hall⟩ := hrel
    have HA := hide hall
    clear hall
    by_cases hlt : k < N
    · obtain ⟨b, o, rfl, r0⟩ := Lst.at (unhide HL) (i := k) (by rw [unhide HN]; exact hlt)
      obtain ⟨X, hX⟩ : ∃ X, xs.getD k pa0 = X := ⟨_, rfl⟩
      rw [hX] at r0
      have r := RPa.up hb r0
      have HX := hide hX
      clear hX r0
      have hI := hb
      obtain ⟨U, hu, hi⟩ := r.c2
      obtain ⟨ua, uc, rfl, _⟩ := hi.form
      have HII := hide hi
      have c0 := r.c0
      have c1 := r.c1
      have HI := hide hI
      clear r hI hi
      go_wp2_with fail
      refine (unhide HST k _ X _ _ _ hlt (unhide HX) (unhide HI) (unhide HII)).mono ?_
      rintro e w1 ⟨rfl, hb1⟩
      cases hpk : p k
      · go_wp2
        go_roundw
        case rel => exact ⟨k + 1, by omega, by go_num, bl_trans hb hb1, fun j hj => if e : j < k then unhide HA j e else (show j = k by omega) ▸ hpk⟩
        case measure => simp [intOf]; omega
      · go_wp2
        go_ret
        exact ⟨ret_int (firstI_t hlt hpk (unhide HA)).symm, bl_trans hb hb1⟩
    · obtain rfl : k = N := by omega
      go_wp2
      go_ret
      exact ⟨ret_int (firstI_f (unhide HA)).symm, hb⟩
set_option maxHeartbeats 1000000 in
theorem index_giveUp_1 (C1 : Value) (a : Option Addr) (cap : Nat) (xs : List Int) (p : Nat → Bool) (w : World) (hL : Lst RInt 1 0 w (.slice a xs.length cap) xs) (hn : xs.length ≤ 9223372036854775807)
    (hst : ∀ (k : Nat) (wr : World) (X : Int), k < xs.length → xs.getD k 0 = X → Below w.heap.size w wr → (Lit.int .i64 X).wf = true → Calls Tryz.prog 135 #[.int .i64 X, C1] wr fun e w' => e = .returned (.bool (p k)) ∧ Below wr.heap.size wr w') :
    Calls Tryz.prog 171 #[.slice a xs.length cap, .func (.func 135) #[] #[C1]] w fun e w' => e = .returned (.int .i64 (firstI xs.length p)) ∧ Below w.heap.size w w' := by
  have HL := hide hL
  have HST := hide hst
  clear hL hst
  obtain ⟨N, hN⟩ : ∃ N, xs.length = N := ⟨_, rfl⟩
  have HN := hide hN
  rw [hN] at hn HL HST ⊢
  clear hN
  go_enter Tryz.func171, Tryz.ntmps171
  go_wp2
  go_loopw [5, 8] (fun _ i wr => ∃ k : Nat, k ≤ N ∧ i = .int .i64 k ∧ Below w.heap.size w wr ∧ ∀ j, j < k → p j = false) (fun _ i _ => N - (intOf i).toNat)
  case atStart => exact ⟨0, Nat.zero_le _, rfl, Below.refl _ _, fun j hj => absurd hj (Nat.not_lt_zero _)⟩
  case round =>
    obtain ⟨k, hk, rfl, hb, hall⟩ := hrel
    have HA := hide hall
    clear hall
    by_cases hlt : k < N
    · obtain ⟨b, o, rfl, r0⟩ := Lst.at (unhide HL) (i := k) (by rw [unhide HN]; exact hlt)
      obtain ⟨X, hX⟩ : ∃ X, xs.getD k 0 = X := ⟨_, rfl⟩
      rw [hX] at r0
      have r := RInt.up hb r0
      have HX := hide hX
      clear hX r0
      have hI := hb
      have c0 := r.1
      rw [Nat.mul_one] at c0
      have HW := hide r.2
      have HI := hide hI
      clear r hI
      go_wp2_with fail
      refine (unhide HST k _ X hlt (unhide HX) (unhide HI) (unhide HW)).mono ?_
      rintro e w1 ⟨rfl, hb1⟩
      cases hpk : p k
      · go_wp2
        go_roundw
        case rel => exact ⟨k + 1, by omega, by go_num, bl_trans hb hb1, fun j hj => if e : j < k then unhide HA j e else (show j = k by omega) ▸ hpk⟩
        case measure => simp [intOf]; omega
      · go_wp2
        go_ret
        exact ⟨ret_int (firstI_t hlt hpk (unhide HA)).symm, bl_trans hb hb1⟩
    · obtain rfl : k = N := by omega
      go_wp2
      go_ret
      exact ⟨ret_int (firstI_f (unhide HA)).symm, hb⟩
set_option maxHeartbeats 1000000 in
theorem index_unask_1 (C1 : Value) (a : Option Addr) (cap : Nat) (xs : List Ak) (p : Nat → Bool) (w : World) (hL : Lst RAk 3 ak0 w (.slice a xs.length cap) xs) (hn : xs.length ≤ 9223372036854775807)
    (hst : ∀ (k : Nat) (wr : World) (X : Ak), k < xs.length → xs.getD k ak0 = X → Below w.heap.size w wr → Calls Tryz.prog 166 #[akV X, C1] wr fun e w' => e = .returned (.bool (p k)) ∧ Below wr.heap.size wr w') :
    Calls Tryz.prog 163 #[.slice a xs.length cap, .func (.func 166) #[] #[C1]] w fun e w' => e = .returned (.int .i64 (firstI xs.length p)) ∧ Below w.heap.size w w' := by
  have HL := hide hL
  have HST := hide hst
  clear hL hst
  obtain ⟨N, hN⟩ : ∃ N, xs.length = N := ⟨_, rfl⟩
  have HN := hide hN
  rw [hN] at hn HL HST ⊢
  clear hN
  go_enter Tryz.func163, Tryz.ntmps163
  go_wp2
  go_loopw [5, 8] (fun _ i wr => ∃ k : Nat, k ≤ N ∧ i = .int .i64 k ∧ Below w.heap.size w wr ∧ ∀ j, j < k → p j = false) (fun _ i _ => N - (intOf i).toNat)
  case atStart => exact ⟨0, Nat.zero_le _, rfl, Below.refl _ _, fun j hj => absurd hj (Nat.not_lt_zero _)⟩
  case round =>
    obtain ⟨k, hk, rfl, hb, hall⟩ := hrel
    have HA := hide hall
    clear hall
    by_cases hlt : k < N
    · obtain ⟨b, o, rfl, r0⟩ := Lst.at (unhide HL) (i := k) (by rw [unhide HN]; exact hlt)
      obtain ⟨X, hX⟩ : ∃ X, xs.getD k ak0 = X := ⟨_, rfl⟩
      rw [hX] at r0
      have r := RAk.up hb r0
      have HX := hide hX
      clear hX r0
      have hI := hb
      have c0 := r.c0
      have c1 := r.c1
      have c2 := r.c2
      have HI := hide hI
      clear r hI
      go_wp2_with fail
      refine (unhide HST k _ X hlt (unhide HX) (unhide HI)).mono ?_
      rintro e w1 ⟨rfl, hb1⟩
      cases hpk : p k
      · go_wp2
        go_roundw
        case rel => exact ⟨k + 1, by omega, by go_num, bl_trans hb hb1, fun j hj => if e : j < k then unhide HA j e else (show j = k by omega) ▸ hpk⟩
        case measure => simp [intOf]; omega
      · go_wp2
        go_ret
        exact ⟨ret_int (firstI_t hlt hpk (unhide HA)).symm, bl_trans hb hb1⟩
    · obtain rfl : k = N := by omega
      go_wp2
      go_ret
      exact ⟨ret_int (firstI_f (unhide HA)).symm, hb⟩
def gtS (a b : ByteArray) : Bool := !Op.bytesLess a.toList b.toList && !a.toList == b.toList
theorem findUpload_1 (X : Up) (ua : Option Addr) (un uc : Nat) (n : Int) (B : Nat) (w : World) (h : w.cell? ⟨B, 0, none⟩ = some (.int .i64 n)) : Calls Tryz.prog 168 #[upV X (.slice ua un uc), .pointer (some ⟨B, 0, none⟩)] w fun e w' => e = .returned (.bool (X.id == n)) ∧ Below w.heap.size w w' := by
  have hB0 := World.block_lt_of_cell? w _ h
  simp at hB0
  go_enter Tryz.func168, Tryz.ntmps168
  go_wp2
  go_ret
  exact ⟨rfl, bl1 _ _⟩
theorem findAsk_1 (X : Ak) (n : Int) (B : Nat) (w : World) (h : w.cell? ⟨B, 0, none⟩ = some (.int .i64 n)) : Calls Tryz.prog 164 #[akV X, .pointer (some ⟨B, 0, none⟩)] w fun e w' => e = .returned (.bool (X.ver == n)) ∧ Below w.heap.size w w' := by
  have hB0 := World.block_lt_of_cell? w _ h
  simp at hB0
  go_enter Tryz.func164, Tryz.ntmps164
  go_wp2
  go_ret
  exact ⟨rfl, bl1 _ _⟩
theorem unask_1 (X : Ak) (n : Int) (B : Nat) (w : World) (h : w.cell? ⟨B, 0, none⟩ = some (.int .i64 n)) : Calls Tryz.prog 166 #[akV X, .pointer (some ⟨B, 0, none⟩)] w fun e w' => e = .returned (.bool (X.ver == n)) ∧ Below w.heap.size w w' := by
  have hB0 := World.block_lt_of_cell? w _ h
  simp at hB0
  go_enter Tryz.func166, Tryz.ntmps166
  go_wp2
  go_ret
  exact ⟨rfl, bl1 _ _⟩
theorem addBucket_1 (X : Bu) (nm : ByteArray) (B : Nat) (w : World) (h : w.cell? ⟨B, 0, none⟩ = some (.string nm)) : Calls Tryz.prog 120 #[buV X, .pointer (some ⟨B, 0, none⟩)] w fun e w' => e = .returned (.bool (gtS X.nam nm)) ∧ Below w.heap.size w w' := by
  have hB0 := World.block_lt_of_cell? w _ h
  simp at hB0
  go_enter Tryz.func120, Tryz.ntmps120
  go_wp2
  go_ret
  exact ⟨rfl, bl1 _ _⟩
theorem addPart_1 (X : Pa) (ua : Option Addr) (un uc : Nat) (n : Int) (B : Nat) (w : World) (h : w.cell? ⟨B, 0, none⟩ = some (.int .i64 n)) : Calls Tryz.prog 129 #[paV X (.slice ua un uc), .pointer (some ⟨B, 0, none⟩)] w fun e w' => e = .returned (.bool (X.n == n)) ∧ Below w.heap.size w w' := by
  have hB0 := World.block_lt_of_cell? w _ h
  simp at hB0
  go_enter Tryz.func129, Tryz.ntmps129
  go_wp2
  go_ret
  exact ⟨rfl, bl1 _ _⟩
theorem addPart_2 (X : Pa) (ua : Option Addr) (un uc : Nat) (n : Int) (B : Nat) (w : World) (h : w.cell? ⟨B, 0, none⟩ = some (.int .i64 n)) : Calls Tryz.prog 131 #[paV X (.slice ua un uc), .pointer (some ⟨B, 0, none⟩)] w fun e w' => e = .returned (.bool (decide (n < X.n))) ∧ Below w.heap.size w w' := by
  have hB0 := World.block_lt_of_cell? w _ h
  simp at hB0
  go_enter Tryz.func131, Tryz.ntmps131
  go_wp2
  go_ret
  exact ⟨rfl, bl1 _ _⟩
theorem giveUp_1 (X n : Int) (B : Nat) (w : World) (h : w.cell? ⟨B, 0, none⟩ = some (.int .i64 n)) : Calls Tryz.prog 135 #[.int .i64 X, .pointer (some ⟨B, 0, none⟩)] w fun e w' => e = .returned (.bool (decide (n < X))) ∧ Below w.heap.size w w' := by
  have hB0 := World.block_lt_of_cell? w _ h
  simp at hB0
  go_enter Tryz.func135, Tryz.ntmps135
  go_wp2
  go_ret
  exact ⟨rfl, Below.refl _ _⟩
def nulP (l : List Ve) (bu ke : ByteArray) (i : Nat) : Bool := (l.getD i ve0).nul && eqS (l.getD i ve0).bu bu && eqS (l.getD i ve0).ke ke
theorem findNull_1 (X : Ve) (ua : Option Addr) (un uc : Nat) (bu ke : ByteArray) (B C : Nat) (w : World) (h : w.cell? ⟨B, 0, none⟩ = some (.string bu)) (h2 : w.cell? ⟨C, 0, none⟩ = some (.string ke)) :
    Calls Tryz.prog 161 #[veV X (.slice ua un uc), .pointer (some ⟨B, 0, none⟩), .pointer (some ⟨C, 0, none⟩)] w fun e w' => e = .returned (.bool (X.nul && eqS X.bu bu && eqS X.ke ke)) ∧ Below w.heap.size w w' := by
  have hB := World.block_lt_of_cell? w _ h
  have hC := World.block_lt_of_cell? w _ h2
  simp at hB hC
  obtain ⟨N, hN⟩ : ∃ N, X.nul = N := ⟨_, rfl⟩
  rw [hN]
  have HE : Hid ((N && eqS X.bu bu && eqS X.ke ke) = (N && (X.bu.toList == bu.toList) && (X.ke.toList == ke.toList))) := rfl
  have c3 : veV X (.slice ua un uc) = .agg #[.int .i64 X.id, .string X.bu, .string X.ke, .bool N, .bool X.mar, .int .i64 X.size, .int .i64 X.time, .int .i64 X.tier, .slice ua un uc, .int .i64 X.vol, .int .i64 X.pos, .int .i64 X.til] := by rw [← hN]
  rw [c3]
  clear c3 hN
  cases N
  · go_enter Tryz.func161, Tryz.ntmps161
    go_wp2
    go_ret
    exact ⟨rfl, bl1 _ _⟩
  · cases t : (X.bu.toList == bu.toList)
    · rw [t] at HE
      go_enter Tryz.func161, Tryz.ntmps161
      go_wp2
      go_ret
      exact ⟨ret_bool (by rw [unhide HE]; rfl), bl1 _ _⟩
    · rw [t] at HE
      go_enter Tryz.func161, Tryz.ntmps161
      go_wp2
      go_ret
      exact ⟨ret_bool (by rw [unhide HE]; rfl), bl1 _ _⟩
theorem findNull_any (S : St) (b v u q g : Value) (bu ke : ByteArray) (w : World) (hB : Lst RVe 12 ve0 w v S.ves) :
    Calls Tryz.prog 122 #[stV S b v u q g, .string bu, .string ke] w fun e w' => e = .returned (.int .i64 (firstI S.ves.length (nulP S.ves bu ke))) ∧ Below w.heap.size w w' := by
  obtain ⟨a, cap, rfl, h1, h2⟩ := hB.form
  unfold maxLen at h2
  have HB := hide hB
  clear hB
  go_enter Tryz.func122, Tryz.ntmps122
  go_wp2_with fail
  refine (index_findNull_1 _ _ a cap S.ves (nulP S.ves bu ke) _ ((unhide HB).imp fun _ _ _ r => RVe.up (bl_alloc (bl_alloc (bl1 _ _) _) _) r) (by omega) (fun k wr X ua un uc hk e hI hi => by subst e; exact findNull_1 _ ua un uc bu ke _ _ _ (by rw [hI.cell (by simp)]; simp [World.cell?_alloc_at, World.cell?_alloc_past]) (by rw [hI.cell (by simp)]; simp [World.cell?_alloc_at]))).mono ?_
  rintro e w1 ⟨rfl, hb⟩
  go_wp2
  go_ret
  exact ⟨rfl, bl_trans (bl_alloc (bl_alloc (bl1 _ _) _) _) hb⟩
def upP (l : List Up) (n : Int) (i : Nat) : Bool := (l.getD i up0).id == n
def akP (l : List Ak) (n : Int) (i : Nat) : Bool := (l.getD i ak0).ver == n
theorem findUpload_any (S : St) (b v u q g : Value) (n : Int) (w : World) (hB : Lst RUp 4 up0 w u S.ups) :
    Calls Tryz.prog 127 #[stV S b v u q g, .int .i64 n] w fun e w' => e = .returned (.int .i64 (firstI S.ups.length (upP S.ups n))) ∧ Below w.heap.size w w' := by
  obtain ⟨a, cap, rfl, h1, h2⟩ := hB.form
  unfold maxLen at h2
  have HB := hide hB
  clear hB
  go_enter Tryz.func127, Tryz.ntmps127
  go_wp2_with fail
  refine (index_findUpload_1 _ a cap S.ups (upP S.ups n) _ ((unhide HB).imp fun _ _ _ r => RUp.up (bl_alloc (bl1 _ _) _) r) (by omega) (fun k wr X ua un uc hk e hI hi => by subst e; exact findUpload_1 _ ua un uc n _ _ (by rw [hI.cell (by simp)]; simp [World.cell?_alloc_at]))).mono ?_
  rintro e w1 ⟨rfl, hb⟩
  go_wp2
  go_ret
  exact ⟨rfl, bl_trans (bl_alloc (bl1 _ _) _) hb⟩
theorem findAsk_any (S : St) (b v u q g : Value) (n : Int) (w : World) (hB : Lst RAk 3 ak0 w q S.que) :
    Calls Tryz.prog 125 #[stV S b v u q g, .int .i64 n] w fun e w' => e = .returned (.int .i64 (firstI S.que.length (akP S.que n))) ∧ Below w.heap.size w w' := by
  obtain ⟨a, cap, rfl, h1, h2⟩ := hB.form
  unfold maxLen at h2
  have HB := hide hB
  clear hB
  go_enter Tryz.func125, Tryz.ntmps125
  go_wp2_with fail
  refine (index_findAsk_1 _ a cap S.que (akP S.que n) _ ((unhide HB).imp fun _ _ _ r => RAk.up (bl_alloc (bl1 _ _) _) r) (by omega) (fun k wr X hk e hI => by subst e; exact findAsk_1 _ n _ _ (by rw [hI.cell (by simp)]; simp [World.cell?_alloc_at]))).mono ?_
  rintro e w1 ⟨rfl, hb⟩
  go_wp2
  go_ret
  exact ⟨rfl, bl_trans (bl_alloc (bl1 _ _) _) hb⟩
end Go.Proofs.YtdgmdapijhbocaaGreat
