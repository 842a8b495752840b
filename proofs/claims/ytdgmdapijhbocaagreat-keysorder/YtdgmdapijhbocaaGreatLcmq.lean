/- slices.Compact at rows of one's own. -/
import Derived.Test.YtdgmdapijhbocaaGreatLspq
import Derived.Test.YtdgmdapijhbocaaGreatG11
import Derived.BigQuiet
import Derived.Deep.QuietTactic
namespace Go.Proofs.YtdgmdapijhbocaaGreat
open Go.RowKit Go.Maps
set_option maxRecDepth 100000
set_option linter.unusedVariables false
set_option linter.unusedSimpArgs false
abbrev OwRo (w : World) (B : Nat) (v : Value) (xs : List Ro) : Prop := w.ownsRow B 61 7 v xs.length (xs.flatMap roL)
abbrev zeroRo : Array Value := #[.string ⟨#[]⟩, .bool false, .int .i64 0, .bool false, .bool false, .int .i64 0, .int .i64 0]
theorem infoRo : (Tryz.prog.info? 61).map (fun i => (i.zero, i.size, i.bytes)) = some (some (.agg zeroRo), 7, 56) := by kernel_rfl
theorem zeroRo_run (w : World) : (zeroValue 61).run Tryz.prog w = .ok (.agg zeroRo) w := by kernel_rfl
/-- One element of a row is set. -/
theorem rw_put {α : Type} (C : α → List Value) (k : Nat) (hk : ∀ x, (C x).length = k) {w : World} {g i : Nat} {T : TypeId} {E : List α} {sp : List Value} (x : α) (hr : w.heap[g]? = some (.cells (E.flatMap C ++ sp).toArray T (0, 0))) (hi : i < E.length) :
    (w.setCells g (i * k) (C x)).heap[g]? = some (.cells ((E.set i x).flatMap C ++ sp).toArray T (0, 0)) := by
  have hf := flat_len2 C k hk E
  have h2 : (i + 1) * k ≤ E.length * k := Nat.mul_le_mul_right _ hi
  have h3 : (i + 1) * k = i * k + k := Nat.succ_mul i k
  have hl : i * k + (C x).length ≤ (E.flatMap C ++ sp).length := by rw [hk, List.length_append, hf]; omega
  rw [row_setCells (C x) (i * k) w _ hr hl]
  have e1 : (E.flatMap C ++ sp).take (i * k) = (E.take i).flatMap C := by
    rw [List.take_append_of_le_length (by rw [hf]; omega), flat_take C k hk E i (by omega)]
  have e2 : (E.flatMap C ++ sp).drop (i * k + (C x).length) = (E.drop (i + 1)).flatMap C ++ sp := by
    rw [hk, ← h3, List.drop_append_of_le_length (by rw [hf]; omega), flat_drop C k hk E (i + 1) (by omega)]
  rw [e1, e2, List.set_eq_take_append_cons_drop, if_pos hi, List.flatMap_append, List.flatMap_cons]
  simp
theorem rw_at {α : Type} (C : α → List Value) (k : Nat) (hk : ∀ x, (C x).length = k) (d : α) {w : World} {g i j : Nat} {T : TypeId} {E : List α} {sp : List Value} (hr : w.heap[g]? = some (.cells (E.flatMap C ++ sp).toArray T (0, 0))) (hi : i < E.length) (hj : j < k) :
    w.cell? ⟨g, i * k + j, none⟩ = (C (E.getD i d))[j]? := by
  have hf := flat_len2 C k hk E
  have h2 : (i + 1) * k ≤ E.length * k := Nat.mul_le_mul_right _ hi
  have h3 : (i + 1) * k = i * k + k := Nat.succ_mul i k
  rw [← flat_at C k hk d E i j hi hj]
  have : (E.flatMap C)[i * k + j]? = (E.flatMap C ++ sp)[i * k + j]? := by rw [List.getElem?_append_left (by rw [hf]; omega)]
  rw [this]
  simp [World.cell?, hr]
theorem addR_last (o : List Ro) (r : Ro) : addR o r ≠ [] ∧ (addR o r).getD ((addR o r).length - 1) ro0 = r := by
  unfold addR
  split
  · next h => exact ⟨h.1, eqR_iff.1 h.2⟩
  · exact ⟨by simp, by simp [List.getD]⟩
theorem cmp_take (E : List Ro) {k : Nat} (hk : k < E.length) : cmpL (E.take (k + 1)) = addR (cmpL (E.take k)) (E.getD k ro0) := by
  rw [take_next E ro0 hk, cmpL_snoc]
theorem cmp_last (E : List Ro) {k : Nat} (hk : k < E.length) : cmpL (E.take (k + 1)) ≠ [] ∧ (cmpL (E.take (k + 1))).getD ((cmpL (E.take (k + 1))).length - 1) ro0 = E.getD k ro0 := by
  rw [cmp_take E hk]
  exact addR_last _ _
theorem cmp_next (E : List Ro) {k : Nat} (hk : k + 1 < E.length) : cmpL (E.take (k + 2)) = if eqR (E.getD k ro0) (E.getD (k + 1) ro0) = true then cmpL (E.take (k + 1)) else cmpL (E.take (k + 1)) ++ [E.getD (k + 1) ro0] := by
  obtain ⟨h1, h2⟩ := cmp_last E (k := k) (by omega)
  rw [cmp_take E hk]
  unfold addR
  rw [h2]
  by_cases h : eqR (E.getD k ro0) (E.getD (k + 1) ro0) = true
  · rw [if_pos ⟨h1, h⟩, if_pos h]
  · rw [if_neg (fun q => h q.2), if_neg h]
theorem cmp_len (E : List Ro) (k : Nat) (hk : k ≤ E.length) : (cmpL (E.take k)).length ≤ k := by
  induction k with
  | zero => simp [cmpL]
  | succ k ih =>
    rw [cmp_take E hk]
    have := ih (by omega)
    unfold addR
    split
    · omega
    · simp; omega
/-- What the row is while the second loop stands at j. -/
structure CmpI (E F : List Ro) (j m : Nat) : Prop where
  len : F.length = E.length
  pre : F.take m = cmpL (E.take j)
  many : m = (cmpL (E.take j)).length
  low : m < j
  high : ∀ i, j ≤ i + 1 → i < E.length → F.getD i ro0 = E.getD i ro0
theorem CmpI.start {E : List Ro} {k : Nat} (hk : k + 1 < E.length) (hs : cmpL (E.take (k + 1)) = E.take (k + 1)) (he : eqR (E.getD k ro0) (E.getD (k + 1) ro0) = true) : CmpI E E (k + 2) (k + 1) := by
  have h := cmp_next E hk
  rw [if_pos he, hs] at h
  exact ⟨rfl, h.symm, by rw [h]; simp; omega, by omega, fun _ _ _ => rfl⟩
theorem CmpI.same {E F : List Ro} {k m : Nat} (h : CmpI E F (k + 1) m) (hk : k + 1 < E.length) (he : eqR (E.getD k ro0) (E.getD (k + 1) ro0) = true) : CmpI E F (k + 2) m := by
  have h2 := cmp_next E hk
  rw [if_pos he] at h2
  exact ⟨h.len, by rw [h2]; exact h.pre, by rw [h2]; exact h.many, by have := h.low; omega, fun i hi hl => h.high i (by omega) hl⟩
theorem CmpI.put {E F : List Ro} {k m : Nat} (h : CmpI E F (k + 1) m) (hk : k + 1 < E.length) (he : eqR (E.getD k ro0) (E.getD (k + 1) ro0) = false) : CmpI E (F.set m (E.getD (k + 1) ro0)) (k + 2) (m + 1) := by
  have h2 := cmp_next E hk
  rw [if_neg (by rw [he]; decide)] at h2
  have hl := h.low
  have hF := h.len
  refine ⟨by rw [List.length_set, hF], ?_, by rw [h2, List.length_append, ← h.many]; rfl, by omega, fun i hi hl2 => ?_⟩
  · rw [h2, ← h.pre, List.set_eq_take_append_cons_drop, if_pos (by omega)]
    have e1 : (F.take m).length = m := by rw [List.length_take]; omega
    rw [List.take_append, e1, List.take_of_length_le (by omega)]
    simp
  · have hne : m ≠ i := by omega
    rw [← h.high i (by omega) hl2]
    simp [List.getD, List.getElem?_set_ne hne]
theorem cmp_all {E : List Ro} (h : cmpL (E.take E.length) = E.take E.length) : cmpL E = E := by rwa [List.take_of_length_le (Nat.le_refl _)] at h
structure RRo (w : World) (b p : Nat) (x : Ro) : Prop where
  c0 : w.cell? ⟨b, p, none⟩ = some (.string x.key)
  c1 : w.cell? ⟨b, p + 1, none⟩ = some (.bool x.com)
  c2 : w.cell? ⟨b, p + 2, none⟩ = some (.int .i64 x.id)
  c3 : w.cell? ⟨b, p + 3, none⟩ = some (.bool x.mar)
  c4 : w.cell? ⟨b, p + 4, none⟩ = some (.bool x.lat)
  c5 : w.cell? ⟨b, p + 5, none⟩ = some (.int .i64 x.size)
  c6 : w.cell? ⟨b, p + 6, none⟩ = some (.int .i64 x.tier)
theorem RRo.up {w w' : World} (hb : Below w.heap.size w w') {b p : Nat} {x : Ro} (h : RRo w b p x) : RRo w' b p x := ⟨scell_up hb h.c0, scell_up hb h.c1, scell_up hb h.c2, scell_up hb h.c3, scell_up hb h.c4, scell_up hb h.c5, scell_up hb h.c6⟩
theorem row_ro {w : World} {g i : Nat} {E : List Ro} {T : TypeId} {sp : List Value} (hr : w.heap[g]? = some (.cells (E.flatMap roL ++ sp).toArray T (0, 0))) (hi : i < E.length) : RRo w g (i * 7) (E.getD i ro0) := by
  have h := fun j (hj : j < 7) => rw_at roL 7 (fun _ => rfl) ro0 hr hi hj
  exact ⟨h 0 (by decide), h 1 (by decide), h 2 (by decide), h 3 (by decide), h 4 (by decide), h 5 (by decide), h 6 (by decide)⟩
theorem cmp_small {E : List Ro} (h : E.length < 2) : cmpL E = E := by
  match E, h with
  | [], _ => rfl
  | [x], _ => rfl
/-- A block that holds rows, and spare room behind them. -/
def RowRo (w : World) (g cap : Nat) (E : List Ro) : Prop := ∃ sp, w.heap[g]? = some (.cells (E.flatMap roL ++ sp).toArray 61 (0, 0)) ∧ (E.flatMap roL ++ sp).length = cap * 7
theorem ifR {α : Type} (Y X : Ro) (a b : α) : (if Y.key.toList = X.key.toList then if Y.com = X.com then if Y.id = X.id then if Y.mar = X.mar then if Y.lat = X.lat then if Y.size = X.size then if Y.tier = X.tier then a else b else b else b else b else b else b else b) = if eqR Y X = true then a else b := by
  unfold eqR eqS
  simp only [Bool.and_eq_true, beq_iff_eq]
  by_cases h1 : Y.key.toList = X.key.toList
  · by_cases h2 : Y.com = X.com
    · by_cases h3 : Y.id = X.id
      · by_cases h4 : Y.mar = X.mar
        · by_cases h5 : Y.lat = X.lat
          · by_cases h6 : Y.size = X.size
            · by_cases h7 : Y.tier = X.tier <;> simp [h1, h2, h3, h4, h5, h6, h7]
            · simp [h6]
          · simp [h5]
        · simp [h4]
      · simp [h3]
    · simp [h2]
  · simp [h1]
theorem eqR_sym {X Y : Ro} {b : Bool} (h : eqR X Y = b) : eqR Y X = b := by
  cases b
  · cases k : eqR Y X
    · rfl
    · rw [eqR_iff] at k
      subst k
      rw [eqR_iff.2 rfl] at h
      cases h
  · rw [eqR_iff] at h ⊢
    exact h.symm
set_option maxHeartbeats 4000000 in
theorem compact_any (g cap : Nat) (E : List Ro) (w : World) (hw : RowRo w g cap E) (hn : E.length ≤ cap) (hcap : cap ≤ 9223372036854775807) :
    Calls Tryz.prog 44 #[.slice (some ⟨g, 0, none⟩) E.length cap] w fun e w' => e = .returned (.slice (some ⟨g, 0, none⟩) (cmpL E).length cap) ∧ RowRo w' g cap (cmpL E) ∧ w.grownBy w' (some g) := by
  obtain ⟨sp, hr, hl⟩ := hw
  have HR := hide hr
  have HL := hide hl
  clear hr hl
  by_cases h2 : E.length < 2
  · rw [cmp_small h2]
    obtain ⟨N, hN⟩ : ∃ N, E.length = N := ⟨_, rfl⟩
    rw [hN] at h2 hn ⊢
    clear hN
    go_enter Tryz.func44, Tryz.ntmps44
    go_wp2
    go_ret
    exact ⟨rfl, ⟨sp, unhide HR, unhide HL⟩, gb_refl _ _⟩
  · have h00 : Hid (cmpL (E.take 1) = E.take 1) := cmp_small (by rw [List.length_take]; omega)
    obtain ⟨N, hN⟩ : ∃ N, E.length = N := ⟨_, rfl⟩
    have HN := hide hN
    have HCP : Hid ((cmpL E).length ≤ N) := by
      have h := cmp_len E E.length (Nat.le_refl _)
      rw [List.take_of_length_le (Nat.le_refl _), hN] at h
      exact h
    rw [hN] at h2 hn ⊢
    clear hN
    obtain ⟨M, hM⟩ : ∃ M, (cmpL E).length = M := ⟨_, rfl⟩
    rw [hM] at HCP ⊢
    have HM := hide hM
    clear hM
    go_enter Tryz.func44, Tryz.ntmps44
    go_wp2
    go_loopw [3] (fun i wr => ∃ k : Nat, k + 1 ≤ N ∧ i = .int .i64 ((k : Int) + 1) ∧ cmpL (E.take (k + 1)) = E.take (k + 1) ∧ wr.heap[g]? = some (.cells (E.flatMap roL ++ sp).toArray 61 (0, 0)) ∧ w.grownBy wr (some g)) (fun i _ => N - (intOf i).toNat)
    case atStart => exact ⟨0, by omega, rfl, unhide h00, unhide HR, gb_refl _ _⟩
    case round =>
      obtain ⟨k, hk, rfl, hcm, hrr, hgb⟩ := hrel
      have HC := hide hcm
      have HRR := hide hrr
      clear hcm
      by_cases hlt : k + 1 < N
      · have hlt' : (k : Int) + 1 < (N : Int) := by omega
        have hl0 : (k : Int) < (N : Int) := by omega
        have r := row_ro hrr (i := k) (by rw [unhide HN]; omega)
        have s := row_ro hrr (i := k + 1) (by rw [unhide HN]; omega)
        obtain ⟨X, hX⟩ : ∃ X, E.getD k ro0 = X := ⟨_, rfl⟩
        obtain ⟨Y, hY⟩ : ∃ Y, E.getD (k + 1) ro0 = Y := ⟨_, rfl⟩
        rw [hX] at r
        rw [hY] at s
        have HX := hide hX
        have HYY := hide hY
        clear hX hY hrr
        have l0 := fun d : Later wr => d.cell r.c0
        have l1 := fun d : Later wr => d.cell r.c1
        have l2 := fun d : Later wr => d.cell r.c2
        have l3 := fun d : Later wr => d.cell r.c3
        have l4 := fun d : Later wr => d.cell r.c4
        have l5 := fun d : Later wr => d.cell r.c5
        have l6 := fun d : Later wr => d.cell r.c6
        have m0 := fun d : Later wr => d.cell s.c0
        have m1 := fun d : Later wr => d.cell s.c1
        have m2 := fun d : Later wr => d.cell s.c2
        have m3 := fun d : Later wr => d.cell s.c3
        have m4 := fun d : Later wr => d.cell s.c4
        have m5 := fun d : Later wr => d.cell s.c5
        have m6 := fun d : Later wr => d.cell s.c6
        have hnel := Later.one wr
        clear r s
        go_wp2
        cases hq : eqR Y X
        · skip
          refine wp_region_later (by kernel_rfl) (by kernel_rfl) ?_
          repeat (go_big_quiet_step (fail))
          refine wpQuiet_step (fun K hK => ?_)
          clear l0 l1 l2 l3 l4 l5 l6 m0 m1 m2 m3 m4 m5 m6
          go_simp
          refine ⟨.bool false, fun d9 => ?_, hK _ ?_⟩
          · simp only [ifR]
            rw [hq]
            exact ⟨rfl, rfl⟩
          clear hK K
          refine wpQuiet_nil ?_
          intro w11 hw'
          obtain ⟨⟨w13, hb13⟩, hw''⟩ := hw'
          subst hw''
          clear hnel
          go_wp2
          go_roundw
          case rel =>
            refine ⟨k + 1, by omega, by go_num, ?_, (hb13.block g (Array.getElem?_eq_some_iff.1 (unhide HRR)).1).trans (unhide HRR), gb_trans hgb (gb_below hb13)⟩
            have h := cmp_next E (k := k) (by rw [unhide HN]; exact hlt)
            rw [unhide HX, unhide HYY, if_neg (by rw [eqR_sym hq]; decide), unhide HC] at h
            show cmpL (List.take (k + 2) E) = List.take (k + 2) E
            rw [h, take_next E ro0 (show k + 1 < E.length by rw [unhide HN]; exact hlt), unhide HYY]
          case measure => (simp [intOf] <;> omega)
        · skip
          refine wp_region_later (by kernel_rfl) (by kernel_rfl) ?_
          repeat (go_big_quiet_step (fail))
          refine wpQuiet_step (fun K hK => ?_)
          clear l0 l1 l2 l3 l4 l5 l6 m0 m1 m2 m3 m4 m5 m6
          go_simp
          refine ⟨.bool true, fun d9 => ?_, hK _ ?_⟩
          · simp only [ifR]
            rw [hq]
            exact ⟨rfl, rfl⟩
          clear hK K
          refine wpQuiet_nil ?_
          intro w11 hw'
          obtain ⟨⟨w13, hb13⟩, hw''⟩ := hw'
          subst hw''
          clear hnel
          have HR13 := hide ((hb13.block g (Array.getElem?_eq_some_iff.1 (unhide HRR)).1).trans (unhide HRR))
          have HG13 := hide (gb_trans hgb (gb_below (r := some g) hb13))
          have HI0 : Hid (CmpI E E (k + 2) (k + 1)) := CmpI.start (by rw [unhide HN]; exact hlt) (unhide HC) (by rw [unhide HX, unhide HYY]; exact eqR_sym hq)
          have hck : ¬ cap = k + 1 := by omega
          clear hq hgb hb13 HX HYY HC HRR
          go_wp2
          go_loopw [3, 5] (fun i3 i5 wq => ∃ (q m : Nat) (F : List Ro), i5 = .int .i64 ((q : Int) + 1) ∧ i3 = .int .i64 m ∧ k + 1 + (q + 1) ≤ N ∧ CmpI E F (k + 1 + q + 1) m ∧ wq.heap[g]? = some (.cells (F.flatMap roL ++ sp).toArray 61 (0, 0)) ∧ w.grownBy wq (some g)) (fun _ i5 _ => N - (intOf i5).toNat)
          case atStart => exact ⟨0, k + 1, E, rfl, by go_num, by omega, unhide HI0, unhide HR13, unhide HG13⟩
          case round =>
            obtain ⟨q, m, F, rfl, rfl, hq1, hI, hrr, hgb⟩ := hrel
            have hmlow := hI.low
            have hFl := hI.len
            rw [unhide HN] at hFl
            have HI := hide hI
            have HRR := hide hrr
            clear hI
            by_cases hlt2 : k + 1 + (q + 1) < N
            · have hmb : m < N := by omega
              have r := row_ro hrr (i := k + 1 + q) (by rw [hFl]; omega)
              have s := row_ro hrr (i := k + 1 + (q + 1)) (by rw [hFl]; omega)
              have z := row_ro hrr (i := m) (by rw [hFl]; omega)
              rw [(unhide HI).high (k + 1 + q) (by omega) (by rw [unhide HN]; omega), show (k + 1 + q) * 7 = (k + 1) * 7 + q * 7 by omega] at r
              rw [(unhide HI).high (k + 1 + (q + 1)) (by omega) (by rw [unhide HN]; omega), show (k + 1 + (q + 1)) * 7 = (k + 1) * 7 + (q + 1) * 7 by omega] at s
              obtain ⟨X, hX⟩ : ∃ X, E.getD (k + 1 + q) ro0 = X := ⟨_, rfl⟩
              obtain ⟨Y, hY⟩ : ∃ Y, E.getD (k + 1 + (q + 1)) ro0 = Y := ⟨_, rfl⟩
              obtain ⟨Z, hZ⟩ : ∃ Z, F.getD m ro0 = Z := ⟨_, rfl⟩
              rw [hX] at r
              rw [hY] at s
              rw [hZ] at z
              have HX := hide hX
              have HYY := hide hY
              have HS := hide s
              have HZ := hide z
              have hfz := fun i => fz_of hrr i
              have HFZ := hide hfz
              have HFL := hide hFl
              clear hX hY hZ hrr hFl hfz
              have hi1 : (q : Int) + 1 < ((N - (k + 1) : Nat) : Int) := by omega
              have hi2 : (q : Int) < ((N - (k + 1) : Nat) : Int) := by omega
              have l0 := fun d : Later wr => d.cell r.c0
              have l1 := fun d : Later wr => d.cell r.c1
              have l2 := fun d : Later wr => d.cell r.c2
              have l3 := fun d : Later wr => d.cell r.c3
              have l4 := fun d : Later wr => d.cell r.c4
              have l5 := fun d : Later wr => d.cell r.c5
              have l6 := fun d : Later wr => d.cell r.c6
              have m0 := fun d : Later wr => d.cell s.c0
              have m1 := fun d : Later wr => d.cell s.c1
              have m2 := fun d : Later wr => d.cell s.c2
              have m3 := fun d : Later wr => d.cell s.c3
              have m4 := fun d : Later wr => d.cell s.c4
              have m5 := fun d : Later wr => d.cell s.c5
              have m6 := fun d : Later wr => d.cell s.c6
              have hnel := Later.one wr
              clear r s z
              go_wp2
              cases hq : eqR Y X
              · skip
                refine wp_region_later (by kernel_rfl) (by kernel_rfl) ?_
                repeat (go_big_quiet_step (fail))
                refine wpQuiet_step (fun K hK => ?_)
                clear l0 l1 l2 l3 l4 l5 l6 m0 m1 m2 m3 m4 m5 m6
                go_simp
                refine ⟨.bool true, fun d9 => ?_, hK _ ?_⟩
                · simp only [ifR]
                  rw [hq]
                  exact ⟨rfl, rfl⟩
                clear hK K
                refine wpQuiet_nil ?_
                intro w11 hw'
                obtain ⟨⟨w13, hb13⟩, hw''⟩ := hw'
                subst hw''
                clear hnel
                have hr13 := (hb13.block g (Array.getElem?_eq_some_iff.1 (unhide HRR)).1).trans (unhide HRR)
                have hg13 := gb_trans hgb (gb_below (r := some g) hb13)
                have s13 := (unhide HS).up hb13
                have z13 := (unhide HZ).up hb13
                have c0 := s13.c0
                have d0 := z13.c0
                have c1 := s13.c1
                have d1 := z13.c1
                have c2 := s13.c2
                have d2 := z13.c2
                have c3 := s13.c3
                have d3 := z13.c3
                have c4 := s13.c4
                have d4 := z13.c4
                have c5 := s13.c5
                have d5 := z13.c5
                have c6 := s13.c6
                have d6 := z13.c6
                have hfz := fun i => fz_of hr13 i
                have HR13 := hide hr13
                have HI2 : Hid (CmpI E (F.set m Y) (k + 1 + q + 1 + 1) (m + 1)) := by
                  have h := CmpI.put (unhide HI) (by rw [unhide HN]; omega) (by rw [unhide HX]; exact (show eqR X (E.getD (k + 1 + (q + 1)) ro0) = false by rw [unhide HYY]; exact eqR_sym hq))
                  have e : E.getD (k + 1 + q + 1) ro0 = Y := unhide HYY
                  rw [e] at h
                  exact h
                have hmc : m < cap := by omega
                clear s13 z13 hr13 hb13 hgb
                go_upto_region 13 with fail
                generalize hWW : World.setCell _ _ _ = W9
                have h9 : W9.heap[g]? = some (.cells ((F.set m Y).flatMap roL ++ sp).toArray 61 (0, 0)) ∧ w.grownBy W9 (some g) := by
                  rw [← hWW]
                  exact ⟨rw_put roL 7 (fun _ => rfl) Y (unhide HR13) (by rw [unhide HFL]; exact hmb), gb_trans hg13 (gb_setCells g (roL Y) (m * 7) _)⟩
                clear hWW c0 c1 c2 c3 c4 c5 c6 d0 d1 d2 d3 d4 d5 d6 hfz hg13
                go_wp2
                go_roundw
                case rel => exact ⟨q + 1, m + 1, F.set m Y, by go_num, by go_num, by omega, unhide HI2, h9.1, h9.2⟩
                case measure => (simp [intOf] <;> omega)
              · skip
                refine wp_region_later (by kernel_rfl) (by kernel_rfl) ?_
                repeat (go_big_quiet_step (fail))
                refine wpQuiet_step (fun K hK => ?_)
                clear l0 l1 l2 l3 l4 l5 l6 m0 m1 m2 m3 m4 m5 m6
                go_simp
                refine ⟨.bool false, fun d9 => ?_, hK _ ?_⟩
                · simp only [ifR]
                  rw [hq]
                  exact ⟨rfl, rfl⟩
                clear hK K
                refine wpQuiet_nil ?_
                intro w11 hw'
                obtain ⟨⟨w13, hb13⟩, hw''⟩ := hw'
                subst hw''
                clear hnel
                have HI2 : Hid (CmpI E F (k + 1 + q + 1 + 1) m) := CmpI.same (unhide HI) (by rw [unhide HN]; omega) (by rw [unhide HX]; exact (show eqR X (E.getD (k + 1 + (q + 1)) ro0) = true by rw [unhide HYY]; exact eqR_sym hq))
                go_wp2
                go_roundw
                case rel => exact ⟨q + 1, m, F, by go_num, by go_num, by omega, unhide HI2, (hb13.block g (Array.getElem?_eq_some_iff.1 (unhide HRR)).1).trans (unhide HRR), gb_trans hgb (gb_below hb13)⟩
                case measure => (simp [intOf] <;> omega)
            · have hend : k + 1 + q + 1 = N := by omega
              have hmM : Hid (m = M) := by
                show _ = _
                have h := (unhide HI).many
                rw [hend, ← unhide HN, List.take_of_length_le (Nat.le_refl _), unhide HM] at h
                exact h
              have hpre : Hid (F.take m = cmpL E) := by
                show _ = _
                have h := (unhide HI).pre
                rw [hend, ← unhide HN, List.take_of_length_le (Nat.le_refl _)] at h
                exact h
              have hmc : ¬ cap = m := by omega
              have hmn : m < N := by omega
              have hlq : ¬ ((q : Int) + 1 < ((N - (k + 1) : Nat) : Int)) := by omega
              obtain ⟨Z, hZ⟩ : ∃ Z, (Builtin.zeroCells (Value.agg zeroRo).cells (N - m)).toList = Z := ⟨_, rfl⟩
              have hZl : Z.length = (N - m) * 7 := by rw [← hZ, Array.length_toList, size_zeroCells]; rfl
              have hfl : (F.flatMap roL ++ sp).length = cap * 7 := by
                have h1 := unhide HL
                rw [List.length_append, flat_len2 roL 7 (fun _ => rfl), unhide HN] at h1
                rw [List.length_append, flat_len2 roL 7 (fun _ => rfl), hFl]
                exact h1
              have hcl : ∀ ty, (Builtin.clear_ #[56] ty #[.slice (some ⟨g, m * 7, none⟩) (N - m) (cap - m)]).run Tryz.prog wr = .ok (.tuple #[]) (wr.setCells g (m * 7) Z) := fun ty => by
                rw [← hZ]
                refine run_clearN wr 56 61 ty (.agg zeroRo) 7 Tryz.underlying56 zeroRo_run rfl (by simp [Value.cells, Value.oneCell']) g (m * 7) (N - m) _ (by omega) (fun j hj => ?_) (fun j hj => fz_of hrr _)
                have hlt : m * 7 + j < (F.flatMap roL ++ sp).length := by rw [hfl]; omega
                rw [cell_of hrr _ (v := (F.flatMap roL ++ sp)[m * 7 + j]) (by simp [hlt])]
                rfl
              obtain ⟨W9, hW9⟩ : ∃ W9, wr.setCells g (m * 7) Z = W9 := ⟨_, rfl⟩
              have HEND : Hid (RowRo W9 g cap (cmpL E) ∧ w.grownBy W9 (some g)) := by
                have h1 := row_setCells Z (m * 7) wr _ hrr (by rw [hZl, hfl]; omega)
                have e1 : (F.flatMap roL ++ sp).take (m * 7) = (cmpL E).flatMap roL := by
                  rw [List.take_append_of_le_length (by rw [flat_len2 roL 7 (fun _ => rfl), hFl]; omega), flat_take roL 7 (fun _ => rfl) F m (by omega), unhide hpre]
                rw [e1, List.append_assoc] at h1
                rw [← hW9]
                refine ⟨⟨_, h1, ?_⟩, gb_trans hgb (gb_setCells g Z _ _)⟩
                have h2 := flat_len2 roL 7 (fun _ => rfl) (cmpL E)
                rw [unhide HM, ← unhide hmM] at h2
                rw [List.length_append, List.length_append, h2, hZl, List.length_drop, hfl]
                omega
              rw [hW9] at hcl
              clear hgb hrr hZ hZl hfl hW9 hFl hend
              go_wp2
              rw [unhide hmM]
              go_ret
              exact ⟨rfl, unhide HEND⟩
      · obtain rfl : k + 1 = N := by omega
        have hE : Hid (cmpL E = E) := by
          show _ = _
          have h := unhide HC
          rw [← unhide HN] at h
          exact cmp_all h
        have hMN : Hid (M = k + 1) := by show _ = _; rw [← unhide HM, unhide hE, unhide HN]
        go_wp2
        go_ret
        rw [unhide hE, unhide hMN]
        exact ⟨rfl, ⟨sp, hrr, unhide HL⟩, hgb⟩
end Go.Proofs.YtdgmdapijhbocaaGreat
