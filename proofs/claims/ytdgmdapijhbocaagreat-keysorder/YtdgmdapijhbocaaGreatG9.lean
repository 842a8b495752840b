/- slices.Insert of one element into a row of one's own. -/
import Derived.Deep.AppendLies
import Derived.Test.YtdgmdapijhbocaaGreatG8
import Derived.Lib.Overlaps
import Derived.Lib.AppendZeros
import Derived.Lib.AppendZerosOnto
import Derived.Laws.Externs
namespace Go.Proofs.YtdgmdapijhbocaaGreat
open Go.RowKit Go.Maps
set_option maxRecDepth 100000
set_option linter.unusedVariables false
set_option linter.unusedSimpArgs false
/-- copy, where its run is known, as one step of a region that draws. -/
theorem copy_step {P : Program} {ops : Array Oper} {o : Oper} {a : Act} {w : World} {K : Act → World → Prop} {Q : Exit → Act → World → Prop} {E : Prop}
    (hg : o.guard = none) (d x : Operand) (t t' : TypeId) (hop : o.op = Op.call { callee := Callee.builtin Builtin.copy, args := #[d, x], argTypes := #[t, t'] })
    (v u : Value) (hd : a.eval d = v) (hx : a.eval x = u) {v' : Value} {w' : World} (hr : ∀ ty, (Builtin.copy_ #[t, t'] ty #[v, u]).run P w = .ok v' w') (hK : K (a.put o.dst v') w') :
    if Region.wanted o (yielded ops a.tmps) = true then Oper.wp P o a w K Q else E := by
  rw [if_pos (by simp [Region.wanted, hg])]
  unfold Oper.wp
  simp [execOp, hop, resolve, invoke, builtin, hd, hx, hr, Result.andThen]
  exact hK
theorem run_copy_cellsN {P : Program} (w : World) (dT sT ty elem : TypeId) (b o dLen dCap : Nat) (a : Addr) (sLen sCap k : Nat) (cs : List Value) (hu : P.underlying dT = some (.slice elem)) (hs : (P.info? elem).map (·.size) = some k)
    (hn : cs.length = Nat.min sLen dLen * k) (hsrc : ∀ j v, cs[j]? = some v → w.cell? (a.add j) = some v) (hc : ∀ j, j < cs.length → (w.cell? ⟨b, o + j, none⟩).isSome = true) (hf : ∀ j, j < cs.length → w.frozen? ⟨b, o + j, none⟩ = false) (h1 : ∀ v ∈ cs, v.oneCell' = true) :
    (Builtin.copy_ #[dT, sT] ty #[.slice (some ⟨b, o, none⟩) dLen dCap, .slice (some a) sLen sCap]).run P w = .ok (goInt (Nat.min sLen dLen)) (w.setCells b o cs) := by
  have hl := run_loadCells_list (P := P) w a cs hsrc
  have hst := run_storeCells_cells (P := P) b o cs 0 w (by simpa using hc) (by simpa using hf) h1
  simp only [Nat.add_zero] at hst
  cases hq : P.info? elem with
  | none => simp [hq] at hs
  | some i =>
    have hi : i.size = k := by simpa [hq] using hs
    simp [Builtin.copy_, run_underlying hu, Builtin.lenOf, Builtin.firstCells, sizeOf, typeInfo, hq, hi, ← hn, hl, hst]
theorem sizePa : (Tryz.prog.info? 45).map (·.size) = some 3 := by kernel_rfl
theorem szrunPa : ∀ w, (Go.sizeOf 45).run Tryz.prog w = .ok 3 w := fun w => by kernel_rfl
theorem szrunBu : ∀ w, (Go.sizeOf 69).run Tryz.prog w = .ok 5 w := fun w => by kernel_rfl
theorem szrunInt : ∀ w, (Go.sizeOf 3).run Tryz.prog w = .ok 1 w := fun w => by kernel_rfl
theorem sizeInt : (Tryz.prog.info? 3).map (·.size) = some 1 := by kernel_rfl
theorem infoInt : (Tryz.prog.info? 3).map (fun i => (i.zero, i.size, i.bytes)) = some (some (.int .i64 0), 1, 8) := by kernel_rfl
theorem shape_of {w : World} {g : Nat} {c : Array Value} {t : TypeId} {fz : Nat × Nat} (h : w.heap[g]? = some (.cells c t fz)) : w.shape? g = some (t, c.size) := by simp [World.shape?, h]
theorem take_ins {xs vs sp : List Value} {p k : Nat} (hp : p ≤ xs.length) (hv : vs.length = k) (hs : k ≤ sp.length) :
    ((((xs ++ sp).take (p + k) ++ xs.drop p ++ (xs ++ sp).drop (p + k + (xs.drop p).length)).take p ++ vs ++ ((xs ++ sp).take (p + k) ++ xs.drop p ++ (xs ++ sp).drop (p + k + (xs.drop p).length)).drop (p + vs.length))) = xs.take p ++ vs ++ xs.drop p ++ sp.drop k := by
  subst hv
  have e0 : ((xs ++ sp).take (p + vs.length)).length = p + vs.length := by simp; omega
  have e1 : ((xs ++ sp).take (p + vs.length) ++ xs.drop p ++ (xs ++ sp).drop (p + vs.length + (xs.drop p).length)).take p = xs.take p := by
    rw [List.append_assoc, List.take_append_of_le_length (by omega), List.take_take, Nat.min_eq_left (by omega), List.take_append_of_le_length hp]
  have e2 : ((xs ++ sp).take (p + vs.length) ++ xs.drop p ++ (xs ++ sp).drop (p + vs.length + (xs.drop p).length)).drop (p + vs.length) = xs.drop p ++ (xs ++ sp).drop (p + vs.length + (xs.drop p).length) := by
    rw [List.append_assoc]
    have := drop_len (P := (xs ++ sp).take (p + vs.length)) (Q := xs.drop p ++ (xs ++ sp).drop (p + vs.length + (xs.drop p).length)) (m := 0) e0
    simpa using this
  have e3 : (xs ++ sp).drop (p + vs.length + (xs.drop p).length) = sp.drop vs.length := by
    rw [show p + vs.length + (xs.drop p).length = xs.length + vs.length by simp; omega, drop_len rfl]
  rw [e1, e2, e3]
  simp [List.append_assoc]
theorem nmin_r {a b : Nat} (h : b ≤ a) : Nat.min a b = b := Nat.min_eq_right h
theorem nmin_l {a b : Nat} (h : a ≤ b) : Nat.min a b = a := Nat.min_eq_left h
theorem bl_setCells {a : World} {g : Nat} (hg : a.heap.size ≤ g) : ∀ (vs : List Value) (o : Nat) (w : World), Below a.heap.size a w → Below a.heap.size a (w.setCells g o vs)
  | [], o, w, h => h
  | v :: vs, o, w, h => bl_setCells hg vs (o + 1) _ (bl_set h hg v)
theorem row_drew {w : World} {g : Nat} {o : Obj} (h : w.heap[g]? = some o) : w.drew.heap[g]? = some o := h
/-- What was made of a row lies where it lay, or in new memory. -/
def Lies (w : World) (s o : Value) : Prop := ∀ j, o.ownBlock = some j → s.ownBlock = some j ∨ w.heap.size ≤ j
theorem two_puts {R vs dr : List Value} {p k : Nat} (hv : vs.length = k) (hR : p + k + dr.length ≤ R.length) :
    ((R.take p ++ vs ++ R.drop (p + vs.length)).take (p + k) ++ dr ++ (R.take p ++ vs ++ R.drop (p + vs.length)).drop (p + k + dr.length)) = R.take p ++ vs ++ dr ++ R.drop (p + k + dr.length) := by
  subst hv
  have e0 : (R.take p ++ vs).length = p + vs.length := by simp; omega
  rw [List.take_left' e0, drop_len e0, List.drop_drop]
set_option maxHeartbeats 4000000 in
theorem insertEndBu_any (B : Nat) (s : Value) (n : Nat) (xs vs : List Value) (h : Nat) (w : World) (hO : w.ownsRow B 69 5 s n xs) (hn : n ≤ 1000) (hv : w.heap[h]? = some (.cells vs.toArray 69 (0, 0))) (hvl : vs.length = 5) (h1v : ∀ u ∈ vs, u.oneCell' = true) (hB : B ≤ w.heap.size) :
    Calls Tryz.prog 160 #[s, .int .i64 n, .slice (some ⟨h, 0, none⟩) 1 1] w fun e w' => ∃ o, e = .returned o ∧ w'.ownsRow B 69 5 o (n + 1) (xs ++ vs) ∧ w.grownBy w' s.ownBlock ∧ Lies w s o := by
  obtain ⟨i0, hi, hz0, hz1, hz2⟩ := info_parts infoBu
  obtain ⟨ob, hob⟩ : ∃ ob, s.ownBlock = ob := ⟨_, rfl⟩
  rw [hob]
  obtain ⟨a, cap, rfl, hnc, hcap⟩ := own_form hO
  have HOB := hide hob
  have hcap2 : cap ≤ 9223372036854775807 := by unfold maxLen at hcap; omega
  have HO := hide hO
  have HV : Hid (∀ j u, vs[j]? = some u → w.cell? ((⟨h, 0, none⟩ : Addr).add j) = some u) := fun j u hu => by rw [addI, Nat.zero_add]; exact cell_of hv j (by simpa using hu)
  have H1 := hide h1v
  clear hO hv h1v hcap hob
  go_enter Tryz.func160, Tryz.ntmps160
  go_wp2_with (first
    | (at_builtin; refine wpList_append_lies _ rfl _ _ 23 rfl B 69 i0 (.agg #[.string ⟨#[]⟩, .int .i64 0, .string ⟨#[]⟩, .int .i64 0, .int .i64 0]) 5 56 Tryz.underlying23 hi hz0 hz1 hz2 rfl (by decide) _ _ _ rfl (unhide HO) ⟨h, 0, none⟩ 1 1 vs rfl (by rw [hvl]) (unhide HV) (unhide H1) (by decide) (by unfold maxLen; omega) (by omega) hB w.heap.size rfl ?_; intro gg gcap w1' hown' hgrow hat hlt; have HLI : Hid ((Value.slice a n cap).ownBlock = some gg ∨ gg = w.heap.size) := hat; clear hat)
    | go_in)
  all_goals
    go_ret
    exact ⟨_, rfl, hown', by rw [← unhide HOB]; exact hgrow, fun j e => by
      have h1 := unhide HLI
      have e2 : gg = j := by simpa [Value.ownBlock] using e
      rw [e2] at h1
      rcases h1 with h1 | h1
      · exact .inl (by cases a <;> exact h1)
      · exact .inr (by rw [h1]; exact Nat.le_refl _)⟩
set_option maxHeartbeats 4000000 in
theorem insertShiftBu_any (g n cap i : Nat) (xs sp vs : List Value) (h : Nat) (w : World) (hrow : w.heap[g]? = some (.cells (xs ++ sp).toArray 69 (0, 0))) (hx : xs.length = n * 5) (hs : xs.length + sp.length = cap * 5) (hi : i < n) (hroom : n + 1 ≤ cap) (hcap : cap ≤ 9223372036854775807) (hv : w.heap[h]? = some (.cells vs.toArray 69 (0, 0))) (hvl : vs.length = 5) (hne : h ≠ g) (h1x : ∀ u ∈ xs, u.oneCell' = true) (h1v : ∀ u ∈ vs, u.oneCell' = true) :
    Calls Tryz.prog 160 #[.slice (some ⟨g, 0, none⟩) n cap, .int .i64 i, .slice (some ⟨h, 0, none⟩) 1 1] w fun e w' => e = .returned (.slice (some ⟨g, 0, none⟩) (n + 1) cap) ∧ w'.heap[g]? = some (.cells (xs.take (i * 5) ++ vs ++ xs.drop (i * 5) ++ sp.drop 5).toArray 69 (0, 0)) ∧ w.grownBy w' (some g) := by
  have hcx : ∀ j v, (xs ++ sp)[j]? = some v → w.cell? ⟨g, j, none⟩ = some v := fun j v hj => cell_of hrow j (by simpa using hj)
  have hsome : ∀ j, j < cap * 5 → (w.cell? ⟨g, j, none⟩).isSome = true := fun j hj => by
    have hl : j < (xs ++ sp).length := by rw [List.length_append]; omega
    rw [hcx j _ (List.getElem?_eq_getElem hl)]; rfl
  obtain ⟨D, hD⟩ : ∃ D, xs.drop (i * 5) = D := ⟨_, rfl⟩
  have hDl : D.length = (n - i) * 5 := by have := congrArg List.length hD; rw [List.length_drop, hx] at this; omega
  have h1D : ∀ u ∈ D, u.oneCell' = true := fun u hu => h1x u (List.mem_of_mem_drop (by rw [hD]; exact hu))
  have hov : ∀ lb cb, (callFunc 188 #[.slice (some ⟨h, 0, none⟩) 1 1, .slice (some ⟨g, (i + 1) * 5, none⟩) lb cb]).run Tryz.prog w = .ok (.value (.bool false)) w := fun lb cb => by
    rw [run_callFunc_extern Tryz.func188 (by kernel_rfl) (by kernel_rfl) (by kernel_rfl) (e := Extern.SlicesOverlaps.overlaps #[23, 23] #[4]) (by kernel_rfl),
      Lib.run_overlaps_apart w 23 4 69 Tryz.underlying23 5 szrunBu ⟨h, 0, none⟩ ⟨g, (i + 1) * 5, none⟩ 1 1 lb cb hne 69 69 _ _ (shape_of hv) (shape_of hrow) (by rw [List.size_toArray, List.length_append]; omega) (fz_of hv _) (fz_of hv _)]
    rfl
  obtain ⟨W1, hW1⟩ : ∃ W1, w.drew.setCells g ((i + 1) * 5) D = W1 := ⟨_, rfl⟩
  have hcp1 : ∀ ty, (Builtin.copy_ #[23, 23] ty #[.slice (some ⟨g, (i + 1) * 5, none⟩) (n - i) (cap - (i + 1)), .slice (some ⟨g, i * 5, none⟩) (n + 1 - i) (cap - i)]).run Tryz.prog w.drew = .ok (goInt (n - i : Nat)) W1 := fun ty => by
    have hh := run_copy_cellsN (P := Tryz.prog) w.drew 23 23 ty 69 g ((i + 1) * 5) (n - i) (cap - (i + 1)) ⟨g, i * 5, none⟩ (n + 1 - i) (cap - i) 5 D Tryz.underlying23 sizeBu (by rw [hDl, nmin_r (by omega)] <;> omega)
      (fun j v hj => by
        rw [addI]
        refine hcx _ v ?_
        rw [← hD, List.getElem?_drop] at hj
        rw [List.getElem?_append_left (List.getElem?_eq_some_iff.1 hj).1]
        exact hj)
      (fun j hj => hsome _ (by omega)) (fun j hj => fz_of hrow _) h1D
    rw [hW1, nmin_r (by omega)] at hh
    exact hh
  have hr1 : W1.heap[g]? = some (.cells ((xs ++ sp).take ((i + 1) * 5) ++ D ++ (xs ++ sp).drop ((i + 1) * 5 + D.length)).toArray 69 (0, 0)) := by
    rw [← hW1]
    exact row_setCells D _ w.drew _ hrow (by rw [hDl, List.length_append]; omega)
  have hl1 : ((xs ++ sp).take ((i + 1) * 5) ++ D ++ (xs ++ sp).drop ((i + 1) * 5 + D.length)).length = cap * 5 := by
    rw [List.length_append, List.length_append, List.length_take, List.length_drop, List.length_append, hDl]; omega
  have hg1 : w.grownBy W1 (some g) := by rw [← hW1]; exact gb_trans (gb_drew w _) (gb_setCells g D _ _)
  have hv1 := (hg1.block h (Array.getElem?_eq_some_iff.1 hv).1 (by simpa using hne)).trans hv
  have hcp2 : (Builtin.copy_ #[23, 23] 3 #[.slice (some ⟨g, i * 5, none⟩) (n + 1 - i) (cap - i), .slice (some ⟨h, 0, none⟩) 1 1]).run Tryz.prog W1 = .ok (goInt 1) (W1.setCells g (i * 5) vs) := by
    have hh := run_copy_cellsN (P := Tryz.prog) W1 23 23 3 69 g (i * 5) (n + 1 - i) (cap - i) ⟨h, 0, none⟩ 1 1 5 vs Tryz.underlying23 sizeBu (by rw [hvl, nmin_l (by omega)] <;> omega)
      (fun j v hj => by rw [addI, Nat.zero_add]; exact cell_of hv1 j (by simpa using hj))
      (fun j hj => by
        rw [hvl] at hj
        have hl2 : i * 5 + j < ((xs ++ sp).take ((i + 1) * 5) ++ D ++ (xs ++ sp).drop ((i + 1) * 5 + D.length)).length := by rw [hl1]; omega
        rw [cell_of hr1 _ (v := ((xs ++ sp).take ((i + 1) * 5) ++ D ++ (xs ++ sp).drop ((i + 1) * 5 + D.length))[i * 5 + j]) (by simp only [List.getElem?_toArray]; exact List.getElem?_eq_getElem hl2)]
        rfl) (fun j hj => fz_of hr1 _) h1v
    rw [nmin_l (by omega)] at hh
    exact hh
  have hr2 := row_setCells vs (i * 5) W1 _ hr1 (by rw [hvl, hl1]; omega)
  rw [← hD, show (i + 1) * 5 = i * 5 + 5 by omega, take_ins (by omega) hvl (by omega)] at hr2
  have HE : Hid ((W1.setCells g (i * 5) vs).heap[g]? = some (.cells (xs.take (i * 5) ++ vs ++ xs.drop (i * 5) ++ sp.drop 5).toArray 69 (0, 0)) ∧ w.grownBy (W1.setCells g (i * 5) vs) (some g)) := ⟨hr2, gb_trans hg1 (gb_setCells g vs _ _)⟩
  have hz2 : ¬ ((i : Int) = (n : Int)) := by omega
  have hb2 : ¬ (cap = i + 1) := by omega
  have hb4 : ¬ (cap = i) := by omega
  have hin : i ≤ n := by omega
  have hb3 : (i : Int) ≤ (n : Int) + 1 := by omega
  have hb1 : (0 : Int) ≤ (i : Int) + 1 := by omega
  have htn : ((i : Int) + 1).toNat = i + 1 := by omega
  have hw1 : IntKind.i64.wrap ((i : Int) + 1) = (i : Int) + 1 := by rw [IntKind.wrap_i64]; omega
  clear hcx hsome hD hDl h1D hr1 hl1 hg1 hv1 hr2 hW1 hrow hv h1x h1v hx hs hvl
  go_enter Tryz.func160, Tryz.ntmps160
  go_wp2_with (simp only [hov])
  go_region_law (refine copy_step rfl _ _ 23 23 rfl _ _ (by simp [Act.eval, Act.put]) (by simp [Act.eval, Act.put]) hcp1 ?_)
  go_wp2
  go_ret
  exact ⟨rfl, unhide HE⟩
set_option maxHeartbeats 4000000 in
theorem insertGrowBu_any (g n cap i : Nat) (xs sp vs : List Value) (h : Nat) (w : World) (hrow : w.heap[g]? = some (.cells (xs ++ sp).toArray 69 (0, 0))) (hx : xs.length = n * 5) (hi : i < n) (hnc : n ≤ cap) (hroom : cap < n + 1) (hn : n ≤ 1000) (hv : w.heap[h]? = some (.cells vs.toArray 69 (0, 0))) (hvl : vs.length = 5) (h1x : ∀ u ∈ xs, u.oneCell' = true) (h1v : ∀ u ∈ vs, u.oneCell' = true) :
    Calls Tryz.prog 160 #[.slice (some ⟨g, 0, none⟩) n cap, .int .i64 i, .slice (some ⟨h, 0, none⟩) 1 1] w fun e w' => ∃ o, e = .returned o ∧ w'.ownsRow w.heap.size 69 5 o (n + 1) (xs.take (i * 5) ++ vs ++ xs.drop (i * 5)) ∧ Below w.heap.size w w' := by
  obtain ⟨i0, hi0, hz0, hz1, hz2⟩ := info_parts infoBu
  have hgw : g < w.heap.size := (Array.getElem?_eq_some_iff.1 hrow).1
  have hhw : h < w.heap.size := (Array.getElem?_eq_some_iff.1 hv).1
  have hcx : ∀ j v, xs[j]? = some v → w.cell? ⟨g, j, none⟩ = some v := fun j v hj => cell_of hrow j (by rw [List.getElem?_toArray, List.getElem?_append_left (List.getElem?_eq_some_iff.1 hj).1]; exact hj)
  have hold : (Builtin.firstCells i0.size i (.slice (some ⟨g, 0, none⟩) i cap)).run Tryz.prog w.drew = .ok (xs.take (i * 5)).toArray w.drew := by
    rw [hz1]
    exact run_firstCells_some w.drew 5 i ⟨g, 0, none⟩ i cap (xs.take (i * 5)) (by rw [List.length_take]; omega) (fun j v hj => by
      rw [addI, Nat.zero_add]
      rw [List.getElem?_take] at hj
      split at hj
      · exact hcx j v hj
      · cases hj)
  have hkk : (n : Int) + 1 - (i : Int) = ((n + 1 - i : Nat) : Int) := by omega
  have hik : i + (n + 1 - i) = n + 1 := by omega
  obtain ⟨G, hG⟩ : ∃ G, grownCap w (n + 1) cap 69 = G := ⟨_, rfl⟩
  obtain ⟨ROW, hROW⟩ : ∃ ROW : Array Value, (xs.take (i * 5)).toArray ++ Builtin.zeroCells (Value.cells (.agg #[.string ⟨#[]⟩, .int .i64 0, .string ⟨#[]⟩, .int .i64 0, .int .i64 0])) (n + 1 - i) ++ Builtin.zeroCells (Value.cells (.agg #[.string ⟨#[]⟩, .int .i64 0, .string ⟨#[]⟩, .int .i64 0, .int .i64 0])) (G - (n + 1)) = ROW := ⟨_, rfl⟩
  have hGn : n + 1 ≤ G := by rw [← hG]; exact grownCap_ge w _ _ _
  have hG63 : G ≤ 9223372036854775807 := by
    have := grownCap_le_maxLen w (n + 1) cap 69 (by unfold maxLen; omega)
    rw [hG] at this
    unfold maxLen at this
    omega
  have hzc : (Value.cells (.agg #[.string ⟨#[]⟩, .int .i64 0, .string ⟨#[]⟩, .int .i64 0, .int .i64 0])).size = 5 := rfl
  have hRs : ROW.size = G * 5 := by
    rw [← hROW, Array.size_append, Array.size_append, size_zeroCells, size_zeroCells, List.size_toArray, List.length_take, hzc]
    omega
  have hRt : ROW.toList.take (i * 5) = xs.take (i * 5) := by
    rw [← hROW, Array.toList_append, Array.toList_append, List.append_assoc]
    exact List.take_left' (by simp only [List.length_take]; omega)
  have hrz : ∀ ty, (Builtin.append_ #[23, 3] ty #[.slice (some ⟨g, 0, none⟩) i cap, .int .i64 ((n : Int) + 1 - (i : Int))]).run Tryz.prog w = .ok (.slice (some ⟨w.heap.size, 0, none⟩) (n + 1) G) (w.drew.alloc (.cells ROW 69)) := fun ty => by
    have hh := Lib.run_append_grow_zeros w 23 3 ty 69 i0 _ .i64 .i64 Tryz.underlying23 Tryz.underlying3 hi0 hz0 (some ⟨g, 0, none⟩) i cap (xs.take (i * 5)) hold (n + 1 - i) (by omega) (by rw [hz1]; decide) (by omega) (by omega) (by rw [hz2]; omega) (by rw [hz2, hik]; exact growslice_fits hroom (by omega))
    rw [hik, hG] at hh
    rw [hkk, hh, ← hROW]
  obtain ⟨W1, hW1⟩ : ∃ W1, w.drew.alloc (.cells ROW 69) = W1 := ⟨_, rfl⟩
  rw [hW1] at hrz
  have hr1 : W1.heap[w.heap.size]? = some (.cells ROW.toList.toArray 69 (0, 0)) := by rw [← hW1]; exact heap_alloc_new w.drew (.cells ROW 69)
  have hb1 : Below w.heap.size w W1 := by rw [← hW1]; exact bl_alloc (Below.drew (Below.refl _ _)) _
  have hv1 := (hb1.block h hhw).trans hv
  have hrowg := (hb1.block g hgw).trans hrow
  have hRl : ROW.toList.length = G * 5 := by rw [Array.length_toList]; exact hRs
  obtain ⟨W2, hW2⟩ : ∃ W2, W1.setCells w.heap.size (i * 5) vs = W2 := ⟨_, rfl⟩
  have hcpA : (Builtin.copy_ #[23, 23] 3 #[.slice (some ⟨w.heap.size, i * 5, none⟩) (n + 1 - i) (G - i), .slice (some ⟨h, 0, none⟩) 1 1]).run Tryz.prog W1 = .ok (goInt 1) W2 := by
    have hh := run_copy_cellsN (P := Tryz.prog) W1 23 23 3 69 w.heap.size (i * 5) (n + 1 - i) (G - i) ⟨h, 0, none⟩ 1 1 5 vs Tryz.underlying23 sizeBu (by rw [hvl, nmin_l (by omega)] <;> omega)
      (fun j v hj => by rw [addI, Nat.zero_add]; exact cell_of hv1 j (by simpa using hj))
      (fun j hj => by
        rw [hvl] at hj
        have hl2 : i * 5 + j < ROW.toList.length := by rw [hRl]; have := Nat.mul_le_mul_right 5 hGn; omega
        rw [cell_of hr1 _ (v := ROW.toList[i * 5 + j]) (by simp only [List.getElem?_toArray]; exact List.getElem?_eq_getElem hl2)]
        rfl) (fun j hj => fz_of hr1 _) h1v
    rw [nmin_l (by omega), hW2] at hh
    exact hh
  have hr2 : W2.heap[w.heap.size]? = some (.cells (ROW.toList.take (i * 5) ++ vs ++ ROW.toList.drop (i * 5 + vs.length)).toArray 69 (0, 0)) := by
    rw [← hW2]
    exact row_setCells vs _ W1 _ hr1 (by rw [hvl, hRl]; have := Nat.mul_le_mul_right 5 hGn; omega)
  have hb2 : Below w.heap.size w W2 := by rw [← hW2]; exact bl_setCells (Nat.le_refl _) vs _ W1 hb1
  have hrg2 := (hb2.block g hgw).trans hrow
  have hl2 : (ROW.toList.take (i * 5) ++ vs ++ ROW.toList.drop (i * 5 + vs.length)).length = G * 5 := by
    rw [List.length_append, List.length_append, List.length_take, List.length_drop, hvl, hRl]; have := Nat.mul_le_mul_right 5 hGn; omega
  obtain ⟨D, hD⟩ : ∃ D, xs.drop (i * 5) = D := ⟨_, rfl⟩
  have hDl : D.length = (n - i) * 5 := by have := congrArg List.length hD; rw [List.length_drop, hx] at this; omega
  have h1D : ∀ u ∈ D, u.oneCell' = true := fun u hu => h1x u (List.mem_of_mem_drop (by rw [hD]; exact hu))
  obtain ⟨W3, hW3⟩ : ∃ W3, W2.drew.setCells w.heap.size ((i + 1) * 5) D = W3 := ⟨_, rfl⟩
  have hcpB : ∀ ty, (Builtin.copy_ #[23, 23] ty #[.slice (some ⟨w.heap.size, (i + 1) * 5, none⟩) (n - i) (G - (i + 1)), .slice (some ⟨g, i * 5, none⟩) (n - i) (cap - i)]).run Tryz.prog W2.drew = .ok (goInt (n - i : Nat)) W3 := fun ty => by
    have hh := run_copy_cellsN (P := Tryz.prog) W2.drew 23 23 ty 69 w.heap.size ((i + 1) * 5) (n - i) (G - (i + 1)) ⟨g, i * 5, none⟩ (n - i) (cap - i) 5 D Tryz.underlying23 sizeBu (by rw [hDl, nmin_r (by omega)] <;> omega)
      (fun j v hj => by
        rw [addI]
        rw [← hD, List.getElem?_drop] at hj
        exact cell_of (w := W2) hrg2 _ (by rw [List.getElem?_toArray, List.getElem?_append_left (List.getElem?_eq_some_iff.1 hj).1]; exact hj))
      (fun j hj => by
        rw [hDl] at hj
        have hl3 : (i + 1) * 5 + j < (ROW.toList.take (i * 5) ++ vs ++ ROW.toList.drop (i * 5 + vs.length)).length := by rw [hl2]; have := Nat.mul_le_mul_right 5 hGn; omega
        show (W2.cell? _).isSome = true
        rw [cell_of hr2 _ (v := (ROW.toList.take (i * 5) ++ vs ++ ROW.toList.drop (i * 5 + vs.length))[(i + 1) * 5 + j]) (by simp only [List.getElem?_toArray]; exact List.getElem?_eq_getElem hl3)]
        rfl) (fun j hj => fz_of (w := W2) hr2 _) h1D
    rw [nmin_r (by omega), hW3] at hh
    exact hh
  have hr3 : W3.heap[w.heap.size]? = some (.cells (xs.take (i * 5) ++ vs ++ D ++ ROW.toList.drop (i * 5 + 5 + D.length)).toArray 69 (0, 0)) := by
    have hh := row_setCells D ((i + 1) * 5) W2.drew _ (row_drew hr2) (by rw [hDl, hl2]; have := Nat.mul_le_mul_right 5 hGn; omega)
    rw [hW3, show (i + 1) * 5 = i * 5 + 5 by omega, two_puts hvl (by rw [hDl, hRl]; have := Nat.mul_le_mul_right 5 hGn; omega), hRt] at hh
    exact hh
  have hb3 : Below w.heap.size w W3 := by rw [← hW3]; exact bl_setCells (Nat.le_refl _) D _ W2.drew (Below.drew hb2)
  have hl3 : (xs.take (i * 5) ++ vs ++ D).length = (n + 1) * 5 := by rw [List.length_append, List.length_append, List.length_take, hvl, hDl]; omega
  have HE : Hid (W3.ownsRow w.heap.size 69 5 (.slice (some ⟨w.heap.size, 0, none⟩) (n + 1) G) (n + 1) (xs.take (i * 5) ++ vs ++ xs.drop (i * 5)) ∧ Below w.heap.size w W3) := by
    rw [hD]
    refine ⟨⟨by omega, .inr ⟨w.heap.size, G, _, rfl, Nat.le_refl _, hr3, hGn, by unfold maxLen; omega, ?_, ?_⟩⟩, hb3⟩
    · rw [List.size_toArray, List.length_append, hl3, List.length_drop, hRl, hDl]; have := Nat.mul_le_mul_right 5 hGn; omega
    · show List.take _ (_ ++ _) = _
      exact List.take_left' (by omega)
  have hz4 : ¬ ((i : Int) = (n : Int)) := by omega
  have hz3 : (cap : Int) < (n : Int) + 1 := by omega
  have hGi : ¬ (G = i) := by omega
  have hGim : ¬ (G = i + 1) := by omega
  have hci : ¬ (cap = i) := by omega
  have hw1 : IntKind.i64.wrap ((i : Int) + 1) = (i : Int) + 1 := by rw [IntKind.wrap_i64]; omega
  have hb11 : (0 : Int) ≤ (i : Int) + 1 := by omega
  have hin : i ≤ n := by omega
  have htn : ((i : Int) + 1).toNat = i + 1 := by omega
  have hb13 : (i : Int) ≤ (n : Int) := by omega
  have hb14 : (i : Int) ≤ (n : Int) + 1 := by omega
  clear hcx hold hkk hik hG hROW hRs hRt hr1 hb1 hv1 hrowg hRl hr2 hb2 hrg2 hl2 hD hDl h1D hr3 hb3 hl3 hrow hv h1x h1v hx hvl hW1 hW2 hW3 hzc
  go_enter Tryz.func160, Tryz.ntmps160
  go_wp2_with (at_builtin; refine Lib.wpList_append_run _ rfl _ _ _ _ rfl _ _ rfl rfl _ _ (hrz _) ?_)
  go_region_law (refine copy_step rfl _ _ 23 23 rfl _ _ (by simp [Act.eval, Act.put]) (by simp [Act.eval, Act.put]) hcpB ?_)
  go_wp2
  go_ret
  exact ⟨_, rfl, unhide HE⟩
theorem insertLBu_any (B : Nat) (s : Value) (n i : Nat) (xs vs : List Value) (h : Nat) (w : World) (hO : w.ownsRow B 69 5 s n xs) (hi : i ≤ n) (hn : n ≤ 1000) (hv : w.heap[h]? = some (.cells vs.toArray 69 (0, 0))) (hvl : vs.length = 5) (hne : s.ownBlock ≠ some h) (h1x : ∀ u ∈ xs, u.oneCell' = true) (h1v : ∀ u ∈ vs, u.oneCell' = true) (hB : B ≤ w.heap.size) :
    Calls Tryz.prog 160 #[s, .int .i64 i, .slice (some ⟨h, 0, none⟩) 1 1] w fun e w' => ∃ o, e = .returned o ∧ w'.ownsRow B 69 5 o (n + 1) (xs.take (i * 5) ++ vs ++ xs.drop (i * 5)) ∧ w.grownBy w' s.ownBlock ∧ Lies w s o := by
  have hxl := hO.1
  by_cases hin : i = n
  · subst hin
    refine (insertEndBu_any B s i xs vs h w hO hn hv hvl h1v hB).mono ?_
    rintro e w' ⟨o, rfl, h1, h2, h3⟩
    refine ⟨o, rfl, ?_, h2, h3⟩
    rw [List.take_of_length_le (by omega), List.drop_of_length_le (by omega), List.append_nil]
    exact h1
  · obtain ⟨_, h2⟩ := hO
    rcases h2 with ⟨rfl, h0⟩ | ⟨g, cap, cur, rfl, hBg, hg, hnc, hcap, hcs, ht⟩
    · omega
    · have hsplit : cur.toList = xs ++ cur.toList.drop (n * 5) := by
        rw [← ht]
        (try (rw [Nat.mul_one]))
        exact (List.take_append_drop _ _).symm
      have hrow : w.heap[g]? = some (.cells (xs ++ cur.toList.drop (n * 5)).toArray 69 (0, 0)) := by rw [← hsplit]; exact hg
      have hlen : xs.length + (cur.toList.drop (n * 5)).length = cap * 5 := by
        have := congrArg List.length hsplit
        rw [Array.length_toList, List.length_append] at this
        omega
      have hcap2 : cap ≤ 9223372036854775807 := by unfold maxLen at hcap; omega
      by_cases hroom : n + 1 ≤ cap
      · have hne2 : h ≠ g := fun e => hne (by rw [e]; rfl)
        refine (insertShiftBu_any g n cap i xs (cur.toList.drop (n * 5)) vs h w hrow (by omega) hlen (by omega) hroom hcap2 hv hvl hne2 h1x h1v).mono ?_
        rintro e w' ⟨rfl, hr, hgr⟩
        refine ⟨_, rfl, ⟨?_, .inr ⟨g, cap, _, rfl, hBg, hr, hroom, hcap, ?_, ?_⟩⟩, hgr, fun j e => .inl e⟩
        · rw [List.length_append, List.length_append, List.length_take, List.length_drop, hvl]; omega
        · rw [List.size_toArray, List.length_append, List.length_append, List.length_append, List.length_take, List.length_drop, List.length_drop, hvl]; omega
        · show List.take _ (_ ++ _) = _
          exact List.take_left' (by rw [List.length_append, List.length_append, List.length_take, List.length_drop, hvl]; omega)
      · refine (insertGrowBu_any g n cap i xs (cur.toList.drop (n * 5)) vs h w hrow (by omega) (by omega) hnc (by omega) hn hv hvl h1x h1v).mono ?_
        rintro e w' ⟨o, rfl, h1, h2⟩
        exact ⟨o, rfl, own_base h1 hB, gb_below h2, fun j e => .inr (h1.lt j e).1⟩
theorem insertBu_any (B : Nat) (s : Value) (n i : Nat) (xs vs : List Value) (h : Nat) (w : World) (hO : w.ownsRow B 69 5 s n xs) (hi : i ≤ n) (hn : n ≤ 1000) (hv : w.heap[h]? = some (.cells vs.toArray 69 (0, 0))) (hvl : vs.length = 5) (hne : s.ownBlock ≠ some h) (h1x : ∀ u ∈ xs, u.oneCell' = true) (h1v : ∀ u ∈ vs, u.oneCell' = true) (hB : B ≤ w.heap.size) :
    Calls Tryz.prog 160 #[s, .int .i64 i, .slice (some ⟨h, 0, none⟩) 1 1] w fun e w' => ∃ o, e = .returned o ∧ w'.ownsRow B 69 5 o (n + 1) (xs.take (i * 5) ++ vs ++ xs.drop (i * 5)) ∧ w.grownBy w' s.ownBlock := by
  refine (insertLBu_any B s n i xs vs h w hO hi hn hv hvl hne h1x h1v hB).mono ?_
  rintro e w' ⟨o, h1, h2, h3, _⟩
  exact ⟨o, h1, h2, h3⟩
set_option maxHeartbeats 4000000 in
theorem insertEndPa_any (B : Nat) (s : Value) (n : Nat) (xs vs : List Value) (h : Nat) (w : World) (hO : w.ownsRow B 45 3 s n xs) (hn : n ≤ 1000) (hv : w.heap[h]? = some (.cells vs.toArray 45 (0, 0))) (hvl : vs.length = 3) (h1v : ∀ u ∈ vs, u.oneCell' = true) (hB : B ≤ w.heap.size) :
    Calls Tryz.prog 170 #[s, .int .i64 n, .slice (some ⟨h, 0, none⟩) 1 1] w fun e w' => ∃ o, e = .returned o ∧ w'.ownsRow B 45 3 o (n + 1) (xs ++ vs) ∧ w.grownBy w' s.ownBlock ∧ Lies w s o := by
  obtain ⟨i0, hi, hz0, hz1, hz2⟩ := info_parts infoPa
  obtain ⟨ob, hob⟩ : ∃ ob, s.ownBlock = ob := ⟨_, rfl⟩
  rw [hob]
  obtain ⟨a, cap, rfl, hnc, hcap⟩ := own_form hO
  have HOB := hide hob
  have hcap2 : cap ≤ 9223372036854775807 := by unfold maxLen at hcap; omega
  have HO := hide hO
  have HV : Hid (∀ j u, vs[j]? = some u → w.cell? ((⟨h, 0, none⟩ : Addr).add j) = some u) := fun j u hu => by rw [addI, Nat.zero_add]; exact cell_of hv j (by simpa using hu)
  have H1 := hide h1v
  clear hO hv h1v hcap hob
  go_enter Tryz.func170, Tryz.ntmps170
  go_wp2_with (first
    | (at_builtin; refine wpList_append_lies _ rfl _ _ 100 rfl B 45 i0 (.agg #[.int .i64 0, .int .i64 0, .slice none 0 0]) 3 40 Tryz.underlying100 hi hz0 hz1 hz2 rfl (by decide) _ _ _ rfl (unhide HO) ⟨h, 0, none⟩ 1 1 vs rfl (by rw [hvl]) (unhide HV) (unhide H1) (by decide) (by unfold maxLen; omega) (by omega) hB w.heap.size rfl ?_; intro gg gcap w1' hown' hgrow hat hlt; have HLI : Hid ((Value.slice a n cap).ownBlock = some gg ∨ gg = w.heap.size) := hat; clear hat)
    | go_in)
  all_goals
    go_ret
    exact ⟨_, rfl, hown', by rw [← unhide HOB]; exact hgrow, fun j e => by
      have h1 := unhide HLI
      have e2 : gg = j := by simpa [Value.ownBlock] using e
      rw [e2] at h1
      rcases h1 with h1 | h1
      · exact .inl (by cases a <;> exact h1)
      · exact .inr (by rw [h1]; exact Nat.le_refl _)⟩
set_option maxHeartbeats 4000000 in
theorem insertShiftPa_any (g n cap i : Nat) (xs sp vs : List Value) (h : Nat) (w : World) (hrow : w.heap[g]? = some (.cells (xs ++ sp).toArray 45 (0, 0))) (hx : xs.length = n * 3) (hs : xs.length + sp.length = cap * 3) (hi : i < n) (hroom : n + 1 ≤ cap) (hcap : cap ≤ 9223372036854775807) (hv : w.heap[h]? = some (.cells vs.toArray 45 (0, 0))) (hvl : vs.length = 3) (hne : h ≠ g) (h1x : ∀ u ∈ xs, u.oneCell' = true) (h1v : ∀ u ∈ vs, u.oneCell' = true) :
    Calls Tryz.prog 170 #[.slice (some ⟨g, 0, none⟩) n cap, .int .i64 i, .slice (some ⟨h, 0, none⟩) 1 1] w fun e w' => e = .returned (.slice (some ⟨g, 0, none⟩) (n + 1) cap) ∧ w'.heap[g]? = some (.cells (xs.take (i * 3) ++ vs ++ xs.drop (i * 3) ++ sp.drop 3).toArray 45 (0, 0)) ∧ w.grownBy w' (some g) := by
  have hcx : ∀ j v, (xs ++ sp)[j]? = some v → w.cell? ⟨g, j, none⟩ = some v := fun j v hj => cell_of hrow j (by simpa using hj)
  have hsome : ∀ j, j < cap * 3 → (w.cell? ⟨g, j, none⟩).isSome = true := fun j hj => by
    have hl : j < (xs ++ sp).length := by rw [List.length_append]; omega
    rw [hcx j _ (List.getElem?_eq_getElem hl)]; rfl
  obtain ⟨D, hD⟩ : ∃ D, xs.drop (i * 3) = D := ⟨_, rfl⟩
  have hDl : D.length = (n - i) * 3 := by have := congrArg List.length hD; rw [List.length_drop, hx] at this; omega
  have h1D : ∀ u ∈ D, u.oneCell' = true := fun u hu => h1x u (List.mem_of_mem_drop (by rw [hD]; exact hu))
  have hov : ∀ lb cb, (callFunc 190 #[.slice (some ⟨h, 0, none⟩) 1 1, .slice (some ⟨g, (i + 1) * 3, none⟩) lb cb]).run Tryz.prog w = .ok (.value (.bool false)) w := fun lb cb => by
    rw [run_callFunc_extern Tryz.func190 (by kernel_rfl) (by kernel_rfl) (by kernel_rfl) (e := Extern.SlicesOverlaps.overlaps #[100, 100] #[4]) (by kernel_rfl),
      Lib.run_overlaps_apart w 100 4 45 Tryz.underlying100 3 szrunPa ⟨h, 0, none⟩ ⟨g, (i + 1) * 3, none⟩ 1 1 lb cb hne 45 45 _ _ (shape_of hv) (shape_of hrow) (by rw [List.size_toArray, List.length_append]; omega) (fz_of hv _) (fz_of hv _)]
    rfl
  obtain ⟨W1, hW1⟩ : ∃ W1, w.drew.setCells g ((i + 1) * 3) D = W1 := ⟨_, rfl⟩
  have hcp1 : ∀ ty, (Builtin.copy_ #[100, 100] ty #[.slice (some ⟨g, (i + 1) * 3, none⟩) (n - i) (cap - (i + 1)), .slice (some ⟨g, i * 3, none⟩) (n + 1 - i) (cap - i)]).run Tryz.prog w.drew = .ok (goInt (n - i : Nat)) W1 := fun ty => by
    have hh := run_copy_cellsN (P := Tryz.prog) w.drew 100 100 ty 45 g ((i + 1) * 3) (n - i) (cap - (i + 1)) ⟨g, i * 3, none⟩ (n + 1 - i) (cap - i) 3 D Tryz.underlying100 sizePa (by rw [hDl, nmin_r (by omega)] <;> omega)
      (fun j v hj => by
        rw [addI]
        refine hcx _ v ?_
        rw [← hD, List.getElem?_drop] at hj
        rw [List.getElem?_append_left (List.getElem?_eq_some_iff.1 hj).1]
        exact hj)
      (fun j hj => hsome _ (by omega)) (fun j hj => fz_of hrow _) h1D
    rw [hW1, nmin_r (by omega)] at hh
    exact hh
  have hr1 : W1.heap[g]? = some (.cells ((xs ++ sp).take ((i + 1) * 3) ++ D ++ (xs ++ sp).drop ((i + 1) * 3 + D.length)).toArray 45 (0, 0)) := by
    rw [← hW1]
    exact row_setCells D _ w.drew _ hrow (by rw [hDl, List.length_append]; omega)
  have hl1 : ((xs ++ sp).take ((i + 1) * 3) ++ D ++ (xs ++ sp).drop ((i + 1) * 3 + D.length)).length = cap * 3 := by
    rw [List.length_append, List.length_append, List.length_take, List.length_drop, List.length_append, hDl]; omega
  have hg1 : w.grownBy W1 (some g) := by rw [← hW1]; exact gb_trans (gb_drew w _) (gb_setCells g D _ _)
  have hv1 := (hg1.block h (Array.getElem?_eq_some_iff.1 hv).1 (by simpa using hne)).trans hv
  have hcp2 : (Builtin.copy_ #[100, 100] 3 #[.slice (some ⟨g, i * 3, none⟩) (n + 1 - i) (cap - i), .slice (some ⟨h, 0, none⟩) 1 1]).run Tryz.prog W1 = .ok (goInt 1) (W1.setCells g (i * 3) vs) := by
    have hh := run_copy_cellsN (P := Tryz.prog) W1 100 100 3 45 g (i * 3) (n + 1 - i) (cap - i) ⟨h, 0, none⟩ 1 1 3 vs Tryz.underlying100 sizePa (by rw [hvl, nmin_l (by omega)] <;> omega)
      (fun j v hj => by rw [addI, Nat.zero_add]; exact cell_of hv1 j (by simpa using hj))
      (fun j hj => by
        rw [hvl] at hj
        have hl2 : i * 3 + j < ((xs ++ sp).take ((i + 1) * 3) ++ D ++ (xs ++ sp).drop ((i + 1) * 3 + D.length)).length := by rw [hl1]; omega
        rw [cell_of hr1 _ (v := ((xs ++ sp).take ((i + 1) * 3) ++ D ++ (xs ++ sp).drop ((i + 1) * 3 + D.length))[i * 3 + j]) (by simp only [List.getElem?_toArray]; exact List.getElem?_eq_getElem hl2)]
        rfl) (fun j hj => fz_of hr1 _) h1v
    rw [nmin_l (by omega)] at hh
    exact hh
  have hr2 := row_setCells vs (i * 3) W1 _ hr1 (by rw [hvl, hl1]; omega)
  rw [← hD, show (i + 1) * 3 = i * 3 + 3 by omega, take_ins (by omega) hvl (by omega)] at hr2
  have HE : Hid ((W1.setCells g (i * 3) vs).heap[g]? = some (.cells (xs.take (i * 3) ++ vs ++ xs.drop (i * 3) ++ sp.drop 3).toArray 45 (0, 0)) ∧ w.grownBy (W1.setCells g (i * 3) vs) (some g)) := ⟨hr2, gb_trans hg1 (gb_setCells g vs _ _)⟩
  have hz2 : ¬ ((i : Int) = (n : Int)) := by omega
  have hb2 : ¬ (cap = i + 1) := by omega
  have hb4 : ¬ (cap = i) := by omega
  have hin : i ≤ n := by omega
  have hb3 : (i : Int) ≤ (n : Int) + 1 := by omega
  have hb1 : (0 : Int) ≤ (i : Int) + 1 := by omega
  have htn : ((i : Int) + 1).toNat = i + 1 := by omega
  have hw1 : IntKind.i64.wrap ((i : Int) + 1) = (i : Int) + 1 := by rw [IntKind.wrap_i64]; omega
  clear hcx hsome hD hDl h1D hr1 hl1 hg1 hv1 hr2 hW1 hrow hv h1x h1v hx hs hvl
  go_enter Tryz.func170, Tryz.ntmps170
  go_wp2_with (simp only [hov])
  go_region_law (refine copy_step rfl _ _ 100 100 rfl _ _ (by simp [Act.eval, Act.put]) (by simp [Act.eval, Act.put]) hcp1 ?_)
  go_wp2
  go_ret
  exact ⟨rfl, unhide HE⟩
set_option maxHeartbeats 4000000 in
theorem insertGrowPa_any (g n cap i : Nat) (xs sp vs : List Value) (h : Nat) (w : World) (hrow : w.heap[g]? = some (.cells (xs ++ sp).toArray 45 (0, 0))) (hx : xs.length = n * 3) (hi : i < n) (hnc : n ≤ cap) (hroom : cap < n + 1) (hn : n ≤ 1000) (hv : w.heap[h]? = some (.cells vs.toArray 45 (0, 0))) (hvl : vs.length = 3) (h1x : ∀ u ∈ xs, u.oneCell' = true) (h1v : ∀ u ∈ vs, u.oneCell' = true) :
    Calls Tryz.prog 170 #[.slice (some ⟨g, 0, none⟩) n cap, .int .i64 i, .slice (some ⟨h, 0, none⟩) 1 1] w fun e w' => ∃ o, e = .returned o ∧ w'.ownsRow w.heap.size 45 3 o (n + 1) (xs.take (i * 3) ++ vs ++ xs.drop (i * 3)) ∧ Below w.heap.size w w' := by
  obtain ⟨i0, hi0, hz0, hz1, hz2⟩ := info_parts infoPa
  have hgw : g < w.heap.size := (Array.getElem?_eq_some_iff.1 hrow).1
  have hhw : h < w.heap.size := (Array.getElem?_eq_some_iff.1 hv).1
  have hcx : ∀ j v, xs[j]? = some v → w.cell? ⟨g, j, none⟩ = some v := fun j v hj => cell_of hrow j (by rw [List.getElem?_toArray, List.getElem?_append_left (List.getElem?_eq_some_iff.1 hj).1]; exact hj)
  have hold : (Builtin.firstCells i0.size i (.slice (some ⟨g, 0, none⟩) i cap)).run Tryz.prog w.drew = .ok (xs.take (i * 3)).toArray w.drew := by
    rw [hz1]
    exact run_firstCells_some w.drew 3 i ⟨g, 0, none⟩ i cap (xs.take (i * 3)) (by rw [List.length_take]; omega) (fun j v hj => by
      rw [addI, Nat.zero_add]
      rw [List.getElem?_take] at hj
      split at hj
      · exact hcx j v hj
      · cases hj)
  have hkk : (n : Int) + 1 - (i : Int) = ((n + 1 - i : Nat) : Int) := by omega
  have hik : i + (n + 1 - i) = n + 1 := by omega
  obtain ⟨G, hG⟩ : ∃ G, grownCap w (n + 1) cap 45 = G := ⟨_, rfl⟩
  obtain ⟨ROW, hROW⟩ : ∃ ROW : Array Value, (xs.take (i * 3)).toArray ++ Builtin.zeroCells (Value.cells (.agg #[.int .i64 0, .int .i64 0, .slice none 0 0])) (n + 1 - i) ++ Builtin.zeroCells (Value.cells (.agg #[.int .i64 0, .int .i64 0, .slice none 0 0])) (G - (n + 1)) = ROW := ⟨_, rfl⟩
  have hGn : n + 1 ≤ G := by rw [← hG]; exact grownCap_ge w _ _ _
  have hG63 : G ≤ 9223372036854775807 := by
    have := grownCap_le_maxLen w (n + 1) cap 45 (by unfold maxLen; omega)
    rw [hG] at this
    unfold maxLen at this
    omega
  have hzc : (Value.cells (.agg #[.int .i64 0, .int .i64 0, .slice none 0 0])).size = 3 := rfl
  have hRs : ROW.size = G * 3 := by
    rw [← hROW, Array.size_append, Array.size_append, size_zeroCells, size_zeroCells, List.size_toArray, List.length_take, hzc]
    omega
  have hRt : ROW.toList.take (i * 3) = xs.take (i * 3) := by
    rw [← hROW, Array.toList_append, Array.toList_append, List.append_assoc]
    exact List.take_left' (by simp only [List.length_take]; omega)
  have hrz : ∀ ty, (Builtin.append_ #[100, 3] ty #[.slice (some ⟨g, 0, none⟩) i cap, .int .i64 ((n : Int) + 1 - (i : Int))]).run Tryz.prog w = .ok (.slice (some ⟨w.heap.size, 0, none⟩) (n + 1) G) (w.drew.alloc (.cells ROW 45)) := fun ty => by
    have hh := Lib.run_append_grow_zeros w 100 3 ty 45 i0 _ .i64 .i64 Tryz.underlying100 Tryz.underlying3 hi0 hz0 (some ⟨g, 0, none⟩) i cap (xs.take (i * 3)) hold (n + 1 - i) (by omega) (by rw [hz1]; decide) (by omega) (by omega) (by rw [hz2]; omega) (by rw [hz2, hik]; exact growslice_fits hroom (by omega))
    rw [hik, hG] at hh
    rw [hkk, hh, ← hROW]
  obtain ⟨W1, hW1⟩ : ∃ W1, w.drew.alloc (.cells ROW 45) = W1 := ⟨_, rfl⟩
  rw [hW1] at hrz
  have hr1 : W1.heap[w.heap.size]? = some (.cells ROW.toList.toArray 45 (0, 0)) := by rw [← hW1]; exact heap_alloc_new w.drew (.cells ROW 45)
  have hb1 : Below w.heap.size w W1 := by rw [← hW1]; exact bl_alloc (Below.drew (Below.refl _ _)) _
  have hv1 := (hb1.block h hhw).trans hv
  have hrowg := (hb1.block g hgw).trans hrow
  have hRl : ROW.toList.length = G * 3 := by rw [Array.length_toList]; exact hRs
  obtain ⟨W2, hW2⟩ : ∃ W2, W1.setCells w.heap.size (i * 3) vs = W2 := ⟨_, rfl⟩
  have hcpA : (Builtin.copy_ #[100, 100] 3 #[.slice (some ⟨w.heap.size, i * 3, none⟩) (n + 1 - i) (G - i), .slice (some ⟨h, 0, none⟩) 1 1]).run Tryz.prog W1 = .ok (goInt 1) W2 := by
    have hh := run_copy_cellsN (P := Tryz.prog) W1 100 100 3 45 w.heap.size (i * 3) (n + 1 - i) (G - i) ⟨h, 0, none⟩ 1 1 3 vs Tryz.underlying100 sizePa (by rw [hvl, nmin_l (by omega)] <;> omega)
      (fun j v hj => by rw [addI, Nat.zero_add]; exact cell_of hv1 j (by simpa using hj))
      (fun j hj => by
        rw [hvl] at hj
        have hl2 : i * 3 + j < ROW.toList.length := by rw [hRl]; have := Nat.mul_le_mul_right 3 hGn; omega
        rw [cell_of hr1 _ (v := ROW.toList[i * 3 + j]) (by simp only [List.getElem?_toArray]; exact List.getElem?_eq_getElem hl2)]
        rfl) (fun j hj => fz_of hr1 _) h1v
    rw [nmin_l (by omega), hW2] at hh
    exact hh
  have hr2 : W2.heap[w.heap.size]? = some (.cells (ROW.toList.take (i * 3) ++ vs ++ ROW.toList.drop (i * 3 + vs.length)).toArray 45 (0, 0)) := by
    rw [← hW2]
    exact row_setCells vs _ W1 _ hr1 (by rw [hvl, hRl]; have := Nat.mul_le_mul_right 3 hGn; omega)
  have hb2 : Below w.heap.size w W2 := by rw [← hW2]; exact bl_setCells (Nat.le_refl _) vs _ W1 hb1
  have hrg2 := (hb2.block g hgw).trans hrow
  have hl2 : (ROW.toList.take (i * 3) ++ vs ++ ROW.toList.drop (i * 3 + vs.length)).length = G * 3 := by
    rw [List.length_append, List.length_append, List.length_take, List.length_drop, hvl, hRl]; have := Nat.mul_le_mul_right 3 hGn; omega
  obtain ⟨D, hD⟩ : ∃ D, xs.drop (i * 3) = D := ⟨_, rfl⟩
  have hDl : D.length = (n - i) * 3 := by have := congrArg List.length hD; rw [List.length_drop, hx] at this; omega
  have h1D : ∀ u ∈ D, u.oneCell' = true := fun u hu => h1x u (List.mem_of_mem_drop (by rw [hD]; exact hu))
  obtain ⟨W3, hW3⟩ : ∃ W3, W2.drew.setCells w.heap.size ((i + 1) * 3) D = W3 := ⟨_, rfl⟩
  have hcpB : ∀ ty, (Builtin.copy_ #[100, 100] ty #[.slice (some ⟨w.heap.size, (i + 1) * 3, none⟩) (n - i) (G - (i + 1)), .slice (some ⟨g, i * 3, none⟩) (n - i) (cap - i)]).run Tryz.prog W2.drew = .ok (goInt (n - i : Nat)) W3 := fun ty => by
    have hh := run_copy_cellsN (P := Tryz.prog) W2.drew 100 100 ty 45 w.heap.size ((i + 1) * 3) (n - i) (G - (i + 1)) ⟨g, i * 3, none⟩ (n - i) (cap - i) 3 D Tryz.underlying100 sizePa (by rw [hDl, nmin_r (by omega)] <;> omega)
      (fun j v hj => by
        rw [addI]
        rw [← hD, List.getElem?_drop] at hj
        exact cell_of (w := W2) hrg2 _ (by rw [List.getElem?_toArray, List.getElem?_append_left (List.getElem?_eq_some_iff.1 hj).1]; exact hj))
      (fun j hj => by
        rw [hDl] at hj
        have hl3 : (i + 1) * 3 + j < (ROW.toList.take (i * 3) ++ vs ++ ROW.toList.drop (i * 3 + vs.length)).length := by rw [hl2]; have := Nat.mul_le_mul_right 3 hGn; omega
        show (W2.cell? _).isSome = true
        rw [cell_of hr2 _ (v := (ROW.toList.take (i * 3) ++ vs ++ ROW.toList.drop (i * 3 + vs.length))[(i + 1) * 3 + j]) (by simp only [List.getElem?_toArray]; exact List.getElem?_eq_getElem hl3)]
        rfl) (fun j hj => fz_of (w := W2) hr2 _) h1D
    rw [nmin_r (by omega), hW3] at hh
    exact hh
  have hr3 : W3.heap[w.heap.size]? = some (.cells (xs.take (i * 3) ++ vs ++ D ++ ROW.toList.drop (i * 3 + 3 + D.length)).toArray 45 (0, 0)) := by
    have hh := row_setCells D ((i + 1) * 3) W2.drew _ (row_drew hr2) (by rw [hDl, hl2]; have := Nat.mul_le_mul_right 3 hGn; omega)
    rw [hW3, show (i + 1) * 3 = i * 3 + 3 by omega, two_puts hvl (by rw [hDl, hRl]; have := Nat.mul_le_mul_right 3 hGn; omega), hRt] at hh
    exact hh
  have hb3 : Below w.heap.size w W3 := by rw [← hW3]; exact bl_setCells (Nat.le_refl _) D _ W2.drew (Below.drew hb2)
  have hl3 : (xs.take (i * 3) ++ vs ++ D).length = (n + 1) * 3 := by rw [List.length_append, List.length_append, List.length_take, hvl, hDl]; omega
  have HE : Hid (W3.ownsRow w.heap.size 45 3 (.slice (some ⟨w.heap.size, 0, none⟩) (n + 1) G) (n + 1) (xs.take (i * 3) ++ vs ++ xs.drop (i * 3)) ∧ Below w.heap.size w W3) := by
    rw [hD]
    refine ⟨⟨by omega, .inr ⟨w.heap.size, G, _, rfl, Nat.le_refl _, hr3, hGn, by unfold maxLen; omega, ?_, ?_⟩⟩, hb3⟩
    · rw [List.size_toArray, List.length_append, hl3, List.length_drop, hRl, hDl]; have := Nat.mul_le_mul_right 3 hGn; omega
    · show List.take _ (_ ++ _) = _
      exact List.take_left' (by omega)
  have hz4 : ¬ ((i : Int) = (n : Int)) := by omega
  have hz3 : (cap : Int) < (n : Int) + 1 := by omega
  have hGi : ¬ (G = i) := by omega
  have hGim : ¬ (G = i + 1) := by omega
  have hci : ¬ (cap = i) := by omega
  have hw1 : IntKind.i64.wrap ((i : Int) + 1) = (i : Int) + 1 := by rw [IntKind.wrap_i64]; omega
  have hb11 : (0 : Int) ≤ (i : Int) + 1 := by omega
  have hin : i ≤ n := by omega
  have htn : ((i : Int) + 1).toNat = i + 1 := by omega
  have hb13 : (i : Int) ≤ (n : Int) := by omega
  have hb14 : (i : Int) ≤ (n : Int) + 1 := by omega
  clear hcx hold hkk hik hG hROW hRs hRt hr1 hb1 hv1 hrowg hRl hr2 hb2 hrg2 hl2 hD hDl h1D hr3 hb3 hl3 hrow hv h1x h1v hx hvl hW1 hW2 hW3 hzc
  go_enter Tryz.func170, Tryz.ntmps170
  go_wp2_with (at_builtin; refine Lib.wpList_append_run _ rfl _ _ _ _ rfl _ _ rfl rfl _ _ (hrz _) ?_)
  go_region_law (refine copy_step rfl _ _ 100 100 rfl _ _ (by simp [Act.eval, Act.put]) (by simp [Act.eval, Act.put]) hcpB ?_)
  go_wp2
  go_ret
  exact ⟨_, rfl, unhide HE⟩
theorem insertLPa_any (B : Nat) (s : Value) (n i : Nat) (xs vs : List Value) (h : Nat) (w : World) (hO : w.ownsRow B 45 3 s n xs) (hi : i ≤ n) (hn : n ≤ 1000) (hv : w.heap[h]? = some (.cells vs.toArray 45 (0, 0))) (hvl : vs.length = 3) (hne : s.ownBlock ≠ some h) (h1x : ∀ u ∈ xs, u.oneCell' = true) (h1v : ∀ u ∈ vs, u.oneCell' = true) (hB : B ≤ w.heap.size) :
    Calls Tryz.prog 170 #[s, .int .i64 i, .slice (some ⟨h, 0, none⟩) 1 1] w fun e w' => ∃ o, e = .returned o ∧ w'.ownsRow B 45 3 o (n + 1) (xs.take (i * 3) ++ vs ++ xs.drop (i * 3)) ∧ w.grownBy w' s.ownBlock ∧ Lies w s o := by
  have hxl := hO.1
  by_cases hin : i = n
  · subst hin
    refine (insertEndPa_any B s i xs vs h w hO hn hv hvl h1v hB).mono ?_
    rintro e w' ⟨o, rfl, h1, h2, h3⟩
    refine ⟨o, rfl, ?_, h2, h3⟩
    rw [List.take_of_length_le (by omega), List.drop_of_length_le (by omega), List.append_nil]
    exact h1
  · obtain ⟨_, h2⟩ := hO
    rcases h2 with ⟨rfl, h0⟩ | ⟨g, cap, cur, rfl, hBg, hg, hnc, hcap, hcs, ht⟩
    · omega
    · have hsplit : cur.toList = xs ++ cur.toList.drop (n * 3) := by
        rw [← ht]
        (try (rw [Nat.mul_one]))
        exact (List.take_append_drop _ _).symm
      have hrow : w.heap[g]? = some (.cells (xs ++ cur.toList.drop (n * 3)).toArray 45 (0, 0)) := by rw [← hsplit]; exact hg
      have hlen : xs.length + (cur.toList.drop (n * 3)).length = cap * 3 := by
        have := congrArg List.length hsplit
        rw [Array.length_toList, List.length_append] at this
        omega
      have hcap2 : cap ≤ 9223372036854775807 := by unfold maxLen at hcap; omega
      by_cases hroom : n + 1 ≤ cap
      · have hne2 : h ≠ g := fun e => hne (by rw [e]; rfl)
        refine (insertShiftPa_any g n cap i xs (cur.toList.drop (n * 3)) vs h w hrow (by omega) hlen (by omega) hroom hcap2 hv hvl hne2 h1x h1v).mono ?_
        rintro e w' ⟨rfl, hr, hgr⟩
        refine ⟨_, rfl, ⟨?_, .inr ⟨g, cap, _, rfl, hBg, hr, hroom, hcap, ?_, ?_⟩⟩, hgr, fun j e => .inl e⟩
        · rw [List.length_append, List.length_append, List.length_take, List.length_drop, hvl]; omega
        · rw [List.size_toArray, List.length_append, List.length_append, List.length_append, List.length_take, List.length_drop, List.length_drop, hvl]; omega
        · show List.take _ (_ ++ _) = _
          exact List.take_left' (by rw [List.length_append, List.length_append, List.length_take, List.length_drop, hvl]; omega)
      · refine (insertGrowPa_any g n cap i xs (cur.toList.drop (n * 3)) vs h w hrow (by omega) (by omega) hnc (by omega) hn hv hvl h1x h1v).mono ?_
        rintro e w' ⟨o, rfl, h1, h2⟩
        exact ⟨o, rfl, own_base h1 hB, gb_below h2, fun j e => .inr (h1.lt j e).1⟩
theorem insertPa_any (B : Nat) (s : Value) (n i : Nat) (xs vs : List Value) (h : Nat) (w : World) (hO : w.ownsRow B 45 3 s n xs) (hi : i ≤ n) (hn : n ≤ 1000) (hv : w.heap[h]? = some (.cells vs.toArray 45 (0, 0))) (hvl : vs.length = 3) (hne : s.ownBlock ≠ some h) (h1x : ∀ u ∈ xs, u.oneCell' = true) (h1v : ∀ u ∈ vs, u.oneCell' = true) (hB : B ≤ w.heap.size) :
    Calls Tryz.prog 170 #[s, .int .i64 i, .slice (some ⟨h, 0, none⟩) 1 1] w fun e w' => ∃ o, e = .returned o ∧ w'.ownsRow B 45 3 o (n + 1) (xs.take (i * 3) ++ vs ++ xs.drop (i * 3)) ∧ w.grownBy w' s.ownBlock := by
  refine (insertLPa_any B s n i xs vs h w hO hi hn hv hvl hne h1x h1v hB).mono ?_
  rintro e w' ⟨o, h1, h2, h3, _⟩
  exact ⟨o, h1, h2, h3⟩
set_option maxHeartbeats 4000000 in
theorem insertEndInt_any (B : Nat) (s : Value) (n : Nat) (xs vs : List Value) (h : Nat) (w : World) (hO : w.ownsRow B 3 1 s n xs) (hn : n ≤ 1000) (hv : w.heap[h]? = some (.cells vs.toArray 3 (0, 0))) (hvl : vs.length = 1) (h1v : ∀ u ∈ vs, u.oneCell' = true) (hB : B ≤ w.heap.size) :
    Calls Tryz.prog 173 #[s, .int .i64 n, .slice (some ⟨h, 0, none⟩) 1 1] w fun e w' => ∃ o, e = .returned o ∧ w'.ownsRow B 3 1 o (n + 1) (xs ++ vs) ∧ w.grownBy w' s.ownBlock ∧ Lies w s o := by
  obtain ⟨i0, hi, hz0, hz1, hz2⟩ := info_parts infoInt
  obtain ⟨ob, hob⟩ : ∃ ob, s.ownBlock = ob := ⟨_, rfl⟩
  rw [hob]
  obtain ⟨a, cap, rfl, hnc, hcap⟩ := own_form hO
  have HOB := hide hob
  have hcap2 : cap ≤ 9223372036854775807 := by unfold maxLen at hcap; omega
  have HO := hide hO
  have HV : Hid (∀ j u, vs[j]? = some u → w.cell? ((⟨h, 0, none⟩ : Addr).add j) = some u) := fun j u hu => by rw [addI, Nat.zero_add]; exact cell_of hv j (by simpa using hu)
  have H1 := hide h1v
  clear hO hv h1v hcap hob
  go_enter Tryz.func173, Tryz.ntmps173
  go_wp2_with (first
    | (at_builtin; refine wpList_append_lies _ rfl _ _ 27 rfl B 3 i0 (.int .i64 0) 1 8 Tryz.underlying27 hi hz0 hz1 hz2 rfl (by decide) _ _ _ rfl (unhide HO) ⟨h, 0, none⟩ 1 1 vs rfl (by rw [hvl]) (unhide HV) (unhide H1) (by decide) (by unfold maxLen; omega) (by omega) hB w.heap.size rfl ?_; intro gg gcap w1' hown' hgrow hat hlt; have HLI : Hid ((Value.slice a n cap).ownBlock = some gg ∨ gg = w.heap.size) := hat; clear hat)
    | go_in)
  all_goals
    go_ret
    exact ⟨_, rfl, hown', by rw [← unhide HOB]; exact hgrow, fun j e => by
      have h1 := unhide HLI
      have e2 : gg = j := by simpa [Value.ownBlock] using e
      rw [e2] at h1
      rcases h1 with h1 | h1
      · exact .inl (by cases a <;> exact h1)
      · exact .inr (by rw [h1]; exact Nat.le_refl _)⟩
set_option maxHeartbeats 4000000 in
theorem insertShiftInt_any (g n cap i : Nat) (xs sp vs : List Value) (h : Nat) (w : World) (hrow : w.heap[g]? = some (.cells (xs ++ sp).toArray 3 (0, 0))) (hx : xs.length = n) (hs : xs.length + sp.length = cap) (hi : i < n) (hroom : n + 1 ≤ cap) (hcap : cap ≤ 9223372036854775807) (hv : w.heap[h]? = some (.cells vs.toArray 3 (0, 0))) (hvl : vs.length = 1) (hne : h ≠ g) (h1x : ∀ u ∈ xs, u.oneCell' = true) (h1v : ∀ u ∈ vs, u.oneCell' = true) :
    Calls Tryz.prog 173 #[.slice (some ⟨g, 0, none⟩) n cap, .int .i64 i, .slice (some ⟨h, 0, none⟩) 1 1] w fun e w' => e = .returned (.slice (some ⟨g, 0, none⟩) (n + 1) cap) ∧ w'.heap[g]? = some (.cells (xs.take (i) ++ vs ++ xs.drop (i) ++ sp.drop 1).toArray 3 (0, 0)) ∧ w.grownBy w' (some g) := by
  have hcx : ∀ j v, (xs ++ sp)[j]? = some v → w.cell? ⟨g, j, none⟩ = some v := fun j v hj => cell_of hrow j (by simpa using hj)
  have hsome : ∀ j, j < cap → (w.cell? ⟨g, j, none⟩).isSome = true := fun j hj => by
    have hl : j < (xs ++ sp).length := by rw [List.length_append]; omega
    rw [hcx j _ (List.getElem?_eq_getElem hl)]; rfl
  obtain ⟨D, hD⟩ : ∃ D, xs.drop (i) = D := ⟨_, rfl⟩
  have hDl : D.length = (n - i) := by have := congrArg List.length hD; rw [List.length_drop, hx] at this; omega
  have h1D : ∀ u ∈ D, u.oneCell' = true := fun u hu => h1x u (List.mem_of_mem_drop (by rw [hD]; exact hu))
  have hov : ∀ lb cb, (callFunc 192 #[.slice (some ⟨h, 0, none⟩) 1 1, .slice (some ⟨g, (i + 1), none⟩) lb cb]).run Tryz.prog w = .ok (.value (.bool false)) w := fun lb cb => by
    rw [run_callFunc_extern Tryz.func192 (by kernel_rfl) (by kernel_rfl) (by kernel_rfl) (e := Extern.SlicesOverlaps.overlaps #[27, 27] #[4]) (by kernel_rfl),
      Lib.run_overlaps_apart w 27 4 3 Tryz.underlying27 1 szrunInt ⟨h, 0, none⟩ ⟨g, (i + 1), none⟩ 1 1 lb cb hne 3 3 _ _ (shape_of hv) (shape_of hrow) (by rw [List.size_toArray, List.length_append]; omega) (fz_of hv _) (fz_of hv _)]
    rfl
  obtain ⟨W1, hW1⟩ : ∃ W1, w.drew.setCells g ((i + 1)) D = W1 := ⟨_, rfl⟩
  have hcp1 : ∀ ty, (Builtin.copy_ #[27, 27] ty #[.slice (some ⟨g, (i + 1), none⟩) (n - i) (cap - (i + 1)), .slice (some ⟨g, i, none⟩) (n + 1 - i) (cap - i)]).run Tryz.prog w.drew = .ok (goInt (n - i : Nat)) W1 := fun ty => by
    have hh := run_copy_cellsN (P := Tryz.prog) w.drew 27 27 ty 3 g ((i + 1)) (n - i) (cap - (i + 1)) ⟨g, i, none⟩ (n + 1 - i) (cap - i) 1 D Tryz.underlying27 sizeInt (by rw [hDl, nmin_r (by omega)] <;> omega)
      (fun j v hj => by
        rw [addI]
        refine hcx _ v ?_
        rw [← hD, List.getElem?_drop] at hj
        rw [List.getElem?_append_left (List.getElem?_eq_some_iff.1 hj).1]
        exact hj)
      (fun j hj => hsome _ (by omega)) (fun j hj => fz_of hrow _) h1D
    rw [hW1, nmin_r (by omega)] at hh
    exact hh
  have hr1 : W1.heap[g]? = some (.cells ((xs ++ sp).take ((i + 1)) ++ D ++ (xs ++ sp).drop ((i + 1) + D.length)).toArray 3 (0, 0)) := by
    rw [← hW1]
    exact row_setCells D _ w.drew _ hrow (by rw [hDl, List.length_append]; omega)
  have hl1 : ((xs ++ sp).take ((i + 1)) ++ D ++ (xs ++ sp).drop ((i + 1) + D.length)).length = cap := by
    rw [List.length_append, List.length_append, List.length_take, List.length_drop, List.length_append, hDl]; omega
  have hg1 : w.grownBy W1 (some g) := by rw [← hW1]; exact gb_trans (gb_drew w _) (gb_setCells g D _ _)
  have hv1 := (hg1.block h (Array.getElem?_eq_some_iff.1 hv).1 (by simpa using hne)).trans hv
  have hcp2 : (Builtin.copy_ #[27, 27] 3 #[.slice (some ⟨g, i, none⟩) (n + 1 - i) (cap - i), .slice (some ⟨h, 0, none⟩) 1 1]).run Tryz.prog W1 = .ok (goInt 1) (W1.setCells g (i) vs) := by
    have hh := run_copy_cellsN (P := Tryz.prog) W1 27 27 3 3 g (i) (n + 1 - i) (cap - i) ⟨h, 0, none⟩ 1 1 1 vs Tryz.underlying27 sizeInt (by rw [hvl, nmin_l (by omega)] <;> omega)
      (fun j v hj => by rw [addI, Nat.zero_add]; exact cell_of hv1 j (by simpa using hj))
      (fun j hj => by
        rw [hvl] at hj
        have hl2 : i + j < ((xs ++ sp).take ((i + 1)) ++ D ++ (xs ++ sp).drop ((i + 1) + D.length)).length := by rw [hl1]; omega
        rw [cell_of hr1 _ (v := ((xs ++ sp).take ((i + 1)) ++ D ++ (xs ++ sp).drop ((i + 1) + D.length))[i + j]) (by simp only [List.getElem?_toArray]; exact List.getElem?_eq_getElem hl2)]
        rfl) (fun j hj => fz_of hr1 _) h1v
    rw [nmin_l (by omega)] at hh
    exact hh
  have hr2 := row_setCells vs (i) W1 _ hr1 (by rw [hvl, hl1]; omega)
  rw [← hD, take_ins (by omega) hvl (by omega)] at hr2
  have HE : Hid ((W1.setCells g (i) vs).heap[g]? = some (.cells (xs.take (i) ++ vs ++ xs.drop (i) ++ sp.drop 1).toArray 3 (0, 0)) ∧ w.grownBy (W1.setCells g (i) vs) (some g)) := ⟨hr2, gb_trans hg1 (gb_setCells g vs _ _)⟩
  have hz2 : ¬ ((i : Int) = (n : Int)) := by omega
  have hb2 : ¬ (cap = i + 1) := by omega
  have hb4 : ¬ (cap = i) := by omega
  have hin : i ≤ n := by omega
  have hb3 : (i : Int) ≤ (n : Int) + 1 := by omega
  have hb1 : (0 : Int) ≤ (i : Int) + 1 := by omega
  have htn : ((i : Int) + 1).toNat = i + 1 := by omega
  have hw1 : IntKind.i64.wrap ((i : Int) + 1) = (i : Int) + 1 := by rw [IntKind.wrap_i64]; omega
  clear hcx hsome hD hDl h1D hr1 hl1 hg1 hv1 hr2 hW1 hrow hv h1x h1v hx hs hvl
  go_enter Tryz.func173, Tryz.ntmps173
  go_wp2_with (simp only [hov])
  go_region_law (refine copy_step rfl _ _ 27 27 rfl _ _ (by simp [Act.eval, Act.put]) (by simp [Act.eval, Act.put]) hcp1 ?_)
  go_wp2
  go_ret
  exact ⟨rfl, unhide HE⟩
set_option maxHeartbeats 4000000 in
theorem insertGrowInt_any (g n cap i : Nat) (xs sp vs : List Value) (h : Nat) (w : World) (hrow : w.heap[g]? = some (.cells (xs ++ sp).toArray 3 (0, 0))) (hx : xs.length = n) (hi : i < n) (hnc : n ≤ cap) (hroom : cap < n + 1) (hn : n ≤ 1000) (hv : w.heap[h]? = some (.cells vs.toArray 3 (0, 0))) (hvl : vs.length = 1) (h1x : ∀ u ∈ xs, u.oneCell' = true) (h1v : ∀ u ∈ vs, u.oneCell' = true) :
    Calls Tryz.prog 173 #[.slice (some ⟨g, 0, none⟩) n cap, .int .i64 i, .slice (some ⟨h, 0, none⟩) 1 1] w fun e w' => ∃ o, e = .returned o ∧ w'.ownsRow w.heap.size 3 1 o (n + 1) (xs.take (i) ++ vs ++ xs.drop (i)) ∧ Below w.heap.size w w' := by
  obtain ⟨i0, hi0, hz0, hz1, hz2⟩ := info_parts infoInt
  have hgw : g < w.heap.size := (Array.getElem?_eq_some_iff.1 hrow).1
  have hhw : h < w.heap.size := (Array.getElem?_eq_some_iff.1 hv).1
  have hcx : ∀ j v, xs[j]? = some v → w.cell? ⟨g, j, none⟩ = some v := fun j v hj => cell_of hrow j (by rw [List.getElem?_toArray, List.getElem?_append_left (List.getElem?_eq_some_iff.1 hj).1]; exact hj)
  have hold : (Builtin.firstCells i0.size i (.slice (some ⟨g, 0, none⟩) i cap)).run Tryz.prog w.drew = .ok (xs.take (i)).toArray w.drew := by
    rw [hz1]
    exact run_firstCells_some w.drew 1 i ⟨g, 0, none⟩ i cap (xs.take (i)) (by rw [List.length_take]; omega) (fun j v hj => by
      rw [addI, Nat.zero_add]
      rw [List.getElem?_take] at hj
      split at hj
      · exact hcx j v hj
      · cases hj)
  have hkk : (n : Int) + 1 - (i : Int) = ((n + 1 - i : Nat) : Int) := by omega
  have hik : i + (n + 1 - i) = n + 1 := by omega
  obtain ⟨G, hG⟩ : ∃ G, grownCap w (n + 1) cap 3 = G := ⟨_, rfl⟩
  obtain ⟨ROW, hROW⟩ : ∃ ROW : Array Value, (xs.take (i)).toArray ++ Builtin.zeroCells (Value.cells (.int .i64 0)) (n + 1 - i) ++ Builtin.zeroCells (Value.cells (.int .i64 0)) (G - (n + 1)) = ROW := ⟨_, rfl⟩
  have hGn : n + 1 ≤ G := by rw [← hG]; exact grownCap_ge w _ _ _
  have hG63 : G ≤ 9223372036854775807 := by
    have := grownCap_le_maxLen w (n + 1) cap 3 (by unfold maxLen; omega)
    rw [hG] at this
    unfold maxLen at this
    omega
  have hzc : (Value.cells (.int .i64 0)).size = 1 := rfl
  have hRs : ROW.size = G * 1 := by
    rw [← hROW, Array.size_append, Array.size_append, size_zeroCells, size_zeroCells, List.size_toArray, List.length_take, hzc]
    omega
  have hRt : ROW.toList.take (i) = xs.take (i) := by
    rw [← hROW, Array.toList_append, Array.toList_append, List.append_assoc]
    exact List.take_left' (by simp only [List.length_take]; omega)
  have hrz : ∀ ty, (Builtin.append_ #[27, 3] ty #[.slice (some ⟨g, 0, none⟩) i cap, .int .i64 ((n : Int) + 1 - (i : Int))]).run Tryz.prog w = .ok (.slice (some ⟨w.heap.size, 0, none⟩) (n + 1) G) (w.drew.alloc (.cells ROW 3)) := fun ty => by
    have hh := Lib.run_append_grow_zeros w 27 3 ty 3 i0 _ .i64 .i64 Tryz.underlying27 Tryz.underlying3 hi0 hz0 (some ⟨g, 0, none⟩) i cap (xs.take (i)) hold (n + 1 - i) (by omega) (by rw [hz1]; decide) (by omega) (by omega) (by rw [hz2]; omega) (by rw [hz2, hik]; exact growslice_fits hroom (by omega))
    rw [hik, hG] at hh
    rw [hkk, hh, ← hROW]
  obtain ⟨W1, hW1⟩ : ∃ W1, w.drew.alloc (.cells ROW 3) = W1 := ⟨_, rfl⟩
  rw [hW1] at hrz
  have hr1 : W1.heap[w.heap.size]? = some (.cells ROW.toList.toArray 3 (0, 0)) := by rw [← hW1]; exact heap_alloc_new w.drew (.cells ROW 3)
  have hb1 : Below w.heap.size w W1 := by rw [← hW1]; exact bl_alloc (Below.drew (Below.refl _ _)) _
  have hv1 := (hb1.block h hhw).trans hv
  have hrowg := (hb1.block g hgw).trans hrow
  have hRl : ROW.toList.length = G * 1 := by rw [Array.length_toList]; exact hRs
  obtain ⟨W2, hW2⟩ : ∃ W2, W1.setCells w.heap.size (i) vs = W2 := ⟨_, rfl⟩
  have hcpA : (Builtin.copy_ #[27, 27] 3 #[.slice (some ⟨w.heap.size, i, none⟩) (n + 1 - i) (G - i), .slice (some ⟨h, 0, none⟩) 1 1]).run Tryz.prog W1 = .ok (goInt 1) W2 := by
    have hh := run_copy_cellsN (P := Tryz.prog) W1 27 27 3 3 w.heap.size (i) (n + 1 - i) (G - i) ⟨h, 0, none⟩ 1 1 1 vs Tryz.underlying27 sizeInt (by rw [hvl, nmin_l (by omega)] <;> omega)
      (fun j v hj => by rw [addI, Nat.zero_add]; exact cell_of hv1 j (by simpa using hj))
      (fun j hj => by
        rw [hvl] at hj
        have hl2 : i + j < ROW.toList.length := by rw [hRl]; have := Nat.mul_le_mul_right 1 hGn; omega
        rw [cell_of hr1 _ (v := ROW.toList[i + j]) (by simp only [List.getElem?_toArray]; exact List.getElem?_eq_getElem hl2)]
        rfl) (fun j hj => fz_of hr1 _) h1v
    rw [nmin_l (by omega), hW2] at hh
    exact hh
  have hr2 : W2.heap[w.heap.size]? = some (.cells (ROW.toList.take (i) ++ vs ++ ROW.toList.drop (i + vs.length)).toArray 3 (0, 0)) := by
    rw [← hW2]
    exact row_setCells vs _ W1 _ hr1 (by rw [hvl, hRl]; have := Nat.mul_le_mul_right 1 hGn; omega)
  have hb2 : Below w.heap.size w W2 := by rw [← hW2]; exact bl_setCells (Nat.le_refl _) vs _ W1 hb1
  have hrg2 := (hb2.block g hgw).trans hrow
  have hl2 : (ROW.toList.take (i) ++ vs ++ ROW.toList.drop (i + vs.length)).length = G * 1 := by
    rw [List.length_append, List.length_append, List.length_take, List.length_drop, hvl, hRl]; have := Nat.mul_le_mul_right 1 hGn; omega
  obtain ⟨D, hD⟩ : ∃ D, xs.drop (i) = D := ⟨_, rfl⟩
  have hDl : D.length = (n - i) := by have := congrArg List.length hD; rw [List.length_drop, hx] at this; omega
  have h1D : ∀ u ∈ D, u.oneCell' = true := fun u hu => h1x u (List.mem_of_mem_drop (by rw [hD]; exact hu))
  obtain ⟨W3, hW3⟩ : ∃ W3, W2.drew.setCells w.heap.size ((i + 1)) D = W3 := ⟨_, rfl⟩
  have hcpB : ∀ ty, (Builtin.copy_ #[27, 27] ty #[.slice (some ⟨w.heap.size, (i + 1), none⟩) (n - i) (G - (i + 1)), .slice (some ⟨g, i, none⟩) (n - i) (cap - i)]).run Tryz.prog W2.drew = .ok (goInt (n - i : Nat)) W3 := fun ty => by
    have hh := run_copy_cellsN (P := Tryz.prog) W2.drew 27 27 ty 3 w.heap.size ((i + 1)) (n - i) (G - (i + 1)) ⟨g, i, none⟩ (n - i) (cap - i) 1 D Tryz.underlying27 sizeInt (by rw [hDl, nmin_r (by omega)] <;> omega)
      (fun j v hj => by
        rw [addI]
        rw [← hD, List.getElem?_drop] at hj
        exact cell_of (w := W2) hrg2 _ (by rw [List.getElem?_toArray, List.getElem?_append_left (List.getElem?_eq_some_iff.1 hj).1]; exact hj))
      (fun j hj => by
        rw [hDl] at hj
        have hl3 : (i + 1) + j < (ROW.toList.take (i) ++ vs ++ ROW.toList.drop (i + vs.length)).length := by rw [hl2]; have := Nat.mul_le_mul_right 1 hGn; omega
        show (W2.cell? _).isSome = true
        rw [cell_of hr2 _ (v := (ROW.toList.take (i) ++ vs ++ ROW.toList.drop (i + vs.length))[(i + 1) + j]) (by simp only [List.getElem?_toArray]; exact List.getElem?_eq_getElem hl3)]
        rfl) (fun j hj => fz_of (w := W2) hr2 _) h1D
    rw [nmin_r (by omega), hW3] at hh
    exact hh
  have hr3 : W3.heap[w.heap.size]? = some (.cells (xs.take (i) ++ vs ++ D ++ ROW.toList.drop (i + 1 + D.length)).toArray 3 (0, 0)) := by
    have hh := row_setCells D ((i + 1)) W2.drew _ (row_drew hr2) (by rw [hDl, hl2]; have := Nat.mul_le_mul_right 1 hGn; omega)
    rw [hW3, two_puts hvl (by rw [hDl, hRl]; have := Nat.mul_le_mul_right 1 hGn; omega), hRt] at hh
    exact hh
  have hb3 : Below w.heap.size w W3 := by rw [← hW3]; exact bl_setCells (Nat.le_refl _) D _ W2.drew (Below.drew hb2)
  have hl3 : (xs.take (i) ++ vs ++ D).length = (n + 1) := by rw [List.length_append, List.length_append, List.length_take, hvl, hDl]; omega
  have HE : Hid (W3.ownsRow w.heap.size 3 1 (.slice (some ⟨w.heap.size, 0, none⟩) (n + 1) G) (n + 1) (xs.take (i) ++ vs ++ xs.drop (i)) ∧ Below w.heap.size w W3) := by
    rw [hD]
    refine ⟨⟨by omega, .inr ⟨w.heap.size, G, _, rfl, Nat.le_refl _, hr3, hGn, by unfold maxLen; omega, ?_, ?_⟩⟩, hb3⟩
    · rw [List.size_toArray, List.length_append, hl3, List.length_drop, hRl, hDl]; have := Nat.mul_le_mul_right 1 hGn; omega
    · show List.take _ (_ ++ _) = _
      exact List.take_left' (by omega)
  have hz4 : ¬ ((i : Int) = (n : Int)) := by omega
  have hz3 : (cap : Int) < (n : Int) + 1 := by omega
  have hGi : ¬ (G = i) := by omega
  have hGim : ¬ (G = i + 1) := by omega
  have hci : ¬ (cap = i) := by omega
  have hw1 : IntKind.i64.wrap ((i : Int) + 1) = (i : Int) + 1 := by rw [IntKind.wrap_i64]; omega
  have hb11 : (0 : Int) ≤ (i : Int) + 1 := by omega
  have hin : i ≤ n := by omega
  have htn : ((i : Int) + 1).toNat = i + 1 := by omega
  have hb13 : (i : Int) ≤ (n : Int) := by omega
  have hb14 : (i : Int) ≤ (n : Int) + 1 := by omega
  clear hcx hold hkk hik hG hROW hRs hRt hr1 hb1 hv1 hrowg hRl hr2 hb2 hrg2 hl2 hD hDl h1D hr3 hb3 hl3 hrow hv h1x h1v hx hvl hW1 hW2 hW3 hzc
  go_enter Tryz.func173, Tryz.ntmps173
  go_wp2_with (at_builtin; refine Lib.wpList_append_run _ rfl _ _ _ _ rfl _ _ rfl rfl _ _ (hrz _) ?_)
  go_region_law (refine copy_step rfl _ _ 27 27 rfl _ _ (by simp [Act.eval, Act.put]) (by simp [Act.eval, Act.put]) hcpB ?_)
  go_wp2
  go_ret
  exact ⟨_, rfl, unhide HE⟩
theorem insertLInt_any (B : Nat) (s : Value) (n i : Nat) (xs vs : List Value) (h : Nat) (w : World) (hO : w.ownsRow B 3 1 s n xs) (hi : i ≤ n) (hn : n ≤ 1000) (hv : w.heap[h]? = some (.cells vs.toArray 3 (0, 0))) (hvl : vs.length = 1) (hne : s.ownBlock ≠ some h) (h1x : ∀ u ∈ xs, u.oneCell' = true) (h1v : ∀ u ∈ vs, u.oneCell' = true) (hB : B ≤ w.heap.size) :
    Calls Tryz.prog 173 #[s, .int .i64 i, .slice (some ⟨h, 0, none⟩) 1 1] w fun e w' => ∃ o, e = .returned o ∧ w'.ownsRow B 3 1 o (n + 1) (xs.take (i) ++ vs ++ xs.drop (i)) ∧ w.grownBy w' s.ownBlock ∧ Lies w s o := by
  have hxl := hO.1
  by_cases hin : i = n
  · subst hin
    refine (insertEndInt_any B s i xs vs h w hO hn hv hvl h1v hB).mono ?_
    rintro e w' ⟨o, rfl, h1, h2, h3⟩
    refine ⟨o, rfl, ?_, h2, h3⟩
    rw [List.take_of_length_le (by omega), List.drop_of_length_le (by omega), List.append_nil]
    exact h1
  · obtain ⟨_, h2⟩ := hO
    rcases h2 with ⟨rfl, h0⟩ | ⟨g, cap, cur, rfl, hBg, hg, hnc, hcap, hcs, ht⟩
    · omega
    · have hsplit : cur.toList = xs ++ cur.toList.drop (n) := by
        rw [← ht]
        (try (rw [Nat.mul_one]))
        exact (List.take_append_drop _ _).symm
      have hrow : w.heap[g]? = some (.cells (xs ++ cur.toList.drop (n)).toArray 3 (0, 0)) := by rw [← hsplit]; exact hg
      have hlen : xs.length + (cur.toList.drop (n)).length = cap := by
        have := congrArg List.length hsplit
        rw [Array.length_toList, List.length_append] at this
        omega
      have hcap2 : cap ≤ 9223372036854775807 := by unfold maxLen at hcap; omega
      by_cases hroom : n + 1 ≤ cap
      · have hne2 : h ≠ g := fun e => hne (by rw [e]; rfl)
        refine (insertShiftInt_any g n cap i xs (cur.toList.drop (n)) vs h w hrow (by omega) hlen (by omega) hroom hcap2 hv hvl hne2 h1x h1v).mono ?_
        rintro e w' ⟨rfl, hr, hgr⟩
        refine ⟨_, rfl, ⟨?_, .inr ⟨g, cap, _, rfl, hBg, hr, hroom, hcap, ?_, ?_⟩⟩, hgr, fun j e => .inl e⟩
        · rw [List.length_append, List.length_append, List.length_take, List.length_drop, hvl]; omega
        · rw [List.size_toArray, List.length_append, List.length_append, List.length_append, List.length_take, List.length_drop, List.length_drop, hvl]; omega
        · show List.take _ (_ ++ _) = _
          exact List.take_left' (by rw [List.length_append, List.length_append, List.length_take, List.length_drop, hvl]; omega)
      · refine (insertGrowInt_any g n cap i xs (cur.toList.drop (n)) vs h w hrow (by omega) (by omega) hnc (by omega) hn hv hvl h1x h1v).mono ?_
        rintro e w' ⟨o, rfl, h1, h2⟩
        exact ⟨o, rfl, own_base h1 hB, gb_below h2, fun j e => .inr (h1.lt j e).1⟩
theorem insertInt_any (B : Nat) (s : Value) (n i : Nat) (xs vs : List Value) (h : Nat) (w : World) (hO : w.ownsRow B 3 1 s n xs) (hi : i ≤ n) (hn : n ≤ 1000) (hv : w.heap[h]? = some (.cells vs.toArray 3 (0, 0))) (hvl : vs.length = 1) (hne : s.ownBlock ≠ some h) (h1x : ∀ u ∈ xs, u.oneCell' = true) (h1v : ∀ u ∈ vs, u.oneCell' = true) (hB : B ≤ w.heap.size) :
    Calls Tryz.prog 173 #[s, .int .i64 i, .slice (some ⟨h, 0, none⟩) 1 1] w fun e w' => ∃ o, e = .returned o ∧ w'.ownsRow B 3 1 o (n + 1) (xs.take (i) ++ vs ++ xs.drop (i)) ∧ w.grownBy w' s.ownBlock := by
  refine (insertLInt_any B s n i xs vs h w hO hi hn hv hvl hne h1x h1v hB).mono ?_
  rintro e w' ⟨o, h1, h2, h3, _⟩
  exact ⟨o, h1, h2, h3⟩
end Go.Proofs.YtdgmdapijhbocaaGreat
