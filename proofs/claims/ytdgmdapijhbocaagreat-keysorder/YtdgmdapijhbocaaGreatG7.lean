/- state.copyEach at versions, parts and uploads; copyPart, copyUpload: lists in memory of one's own. -/
import Derived.Test.YtdgmdapijhbocaaGreatG6
import Derived.Deep.RegionLaw
import Derived.Lib.SliceRun
namespace Go.Proofs.YtdgmdapijhbocaaGreat
open Go.RowKit Go.Maps
set_option maxRecDepth 100000
set_option linter.unusedVariables false
set_option linter.unusedSimpArgs false
theorem cell_of {w : World} {g : Nat} {c : Array Value} {t : TypeId} {fz : Nat × Nat} (h : w.heap[g]? = some (.cells c t fz)) (j : Nat) {v : Value} (hv : c[j]? = some v) : w.cell? ⟨g, j, none⟩ = some v := by simp [World.cell?, h, hv]
theorem own_up {w w' : World} (hb : Below w.heap.size w w') {B : Nat} {e : TypeId} {size : Nat} {v : Value} {n : Nat} {xs : List Value} (h : w.ownsRow B e size v n xs) : w'.ownsRow B e size v n xs := h.kept (gb_below (r := none) hb) (Classical.em _)
theorem own_low {w : World} {B : Nat} {e : TypeId} {size : Nat} {v : Value} {n : Nat} {xs : List Value} (h : w.ownsRow B e size v n xs) {g i : Nat} (hg : g < B) (u : Value) : (w.setCell ⟨g, i, none⟩ u).ownsRow B e size v n xs :=
  World.ownsRow.kept (row := some g) h ⟨rfl, rfl, rfl, by simp [World.setCell], fun k hk hne => Below.heap_setCell _ _ _ _ (fun e => hne (by rw [e]))⟩ (.inr (fun e => by have := (h.lt g e).1; omega))
theorem own_base {w : World} {B B' : Nat} {e : TypeId} {size : Nat} {v : Value} {n : Nat} {xs : List Value} (h : w.ownsRow B e size v n xs) (hB : B' ≤ B) : w.ownsRow B' e size v n xs := by
  obtain ⟨h1, h2⟩ := h
  refine ⟨h1, ?_⟩
  rcases h2 with h2 | ⟨g, cap, cur, e1, e2, r⟩
  · exact .inl h2
  · exact .inr ⟨g, cap, cur, e1, Nat.le_trans hB e2, r⟩
theorem own_form {w : World} {B : Nat} {e : TypeId} {size : Nat} {v : Value} {n : Nat} {xs : List Value} (h : w.ownsRow B e size v n xs) : ∃ a cap, v = .slice a n cap ∧ n ≤ cap ∧ cap ≤ maxLen := by
  rcases h.2 with ⟨rfl, rfl⟩ | ⟨g, cap, cur, rfl, _, _, h1, h2, _⟩
  · exact ⟨none, 0, rfl, Nat.le_refl _, Nat.zero_le _⟩
  · exact ⟨_, cap, rfl, h1, h2⟩
def OwV (w : World) (B : Nat) (v : Value) (xs : List Ve) : Prop := ∃ ps : List (Ve × Value), ps.map (·.1) = xs ∧ w.ownsRow B 36 12 v ps.length (ps.flatMap fun p => veL p.1 p.2) ∧ ∀ p ∈ ps, OwI w B p.2 p.1.sec
def OwP (w : World) (B : Nat) (v : Value) (xs : List Pa) : Prop := ∃ ps : List (Pa × Value), ps.map (·.1) = xs ∧ w.ownsRow B 45 3 v ps.length (ps.flatMap fun p => paL p.1 p.2) ∧ ∀ p ∈ ps, OwI w B p.2 p.1.sec
abbrev Aprt (a b : Value) : Prop := a.ownBlock = none ∨ a.ownBlock ≠ b.ownBlock
def OwU (w : World) (B : Nat) (v : Value) (xs : List Up) : Prop := ∃ ps : List (Up × Value), ps.map (·.1) = xs ∧ w.ownsRow B 102 4 v ps.length (ps.flatMap fun p => upL p.1 p.2) ∧ (∀ p ∈ ps, OwP w B p.2 p.1.parts) ∧ ps.Pairwise (fun a b => Aprt a.2 b.2)
section
variable {w w' : World} {B : Nat} {v : Value}
theorem OwP.up {xs : List Pa} (hb : Below w.heap.size w w') (h : OwP w B v xs) : OwP w' B v xs := by
  obtain ⟨ps, h1, h2, h3⟩ := h
  exact ⟨ps, h1, own_up hb h2, fun p hp => own_up hb (h3 p hp)⟩
theorem OwP.low {xs : List Pa} (h : OwP w B v xs) {g i : Nat} (hg : g < B) (u : Value) : OwP (w.setCell ⟨g, i, none⟩ u) B v xs := by
  obtain ⟨ps, h1, h2, h3⟩ := h
  exact ⟨ps, h1, own_low h2 hg u, fun p hp => own_low (h3 p hp) hg u⟩
theorem OwP.base {xs : List Pa} {B' : Nat} (h : OwP w B v xs) (hB : B' ≤ B) : OwP w B' v xs := by
  obtain ⟨ps, h1, h2, h3⟩ := h
  exact ⟨ps, h1, own_base h2 hB, fun p hp => own_base (h3 p hp) hB⟩
theorem OwP.form {xs : List Pa} (h : OwP w B v xs) : ∃ a cap, v = .slice a xs.length cap ∧ xs.length ≤ cap ∧ cap ≤ maxLen := by
  obtain ⟨ps, h1, h2, h3⟩ := h
  subst h1
  simpa using own_form h2
theorem OwP.lt {xs : List Pa} (h : OwP w B v xs) : ∀ k, v.ownBlock = some k → B ≤ k ∧ k < w.heap.size := by
  obtain ⟨ps, h1, h2, h3⟩ := h
  exact h2.lt
theorem OwP.lst {xs : List Pa} (h : OwP w B v xs) (hs : ∀ x ∈ xs, ∀ n ∈ x.sec, (Lit.int .i64 n).wf = true) : Lst RPa 3 pa0 w v xs := by
  obtain ⟨ps, h1, h2, h3⟩ := h
  subst h1
  have hl : Lst (fun w g p (x : Pa × Value) => RPa w g p x.1) 3 (pa0, v) w v ps := own_lst (fun _ => rfl) h2 fun g p x hx k => ⟨k 0 (by decide), k 1 (by decide), _, k 2 (by decide), (h3 x hx).ints (hs x.1 (List.mem_map_of_mem hx))⟩
  obtain ⟨a, cap, e, e1, e2, e3⟩ := hl
  refine ⟨a, cap, by simpa using e, by simpa using e1, e2, fun i hi => ?_⟩
  obtain ⟨b, o, e4, e5⟩ := e3 i (by simpa using hi)
  refine ⟨b, o, e4, ?_⟩
  have hi' : i < ps.length := by simpa using hi
  simpa [List.getD, hi'] using e5
theorem OwV.up {xs : List Ve} (hb : Below w.heap.size w w') (h : OwV w B v xs) : OwV w' B v xs := by
  obtain ⟨ps, h1, h2, h3⟩ := h
  exact ⟨ps, h1, own_up hb h2, fun p hp => own_up hb (h3 p hp)⟩
theorem OwV.low {xs : List Ve} (h : OwV w B v xs) {g i : Nat} (hg : g < B) (u : Value) : OwV (w.setCell ⟨g, i, none⟩ u) B v xs := by
  obtain ⟨ps, h1, h2, h3⟩ := h
  exact ⟨ps, h1, own_low h2 hg u, fun p hp => own_low (h3 p hp) hg u⟩
theorem OwV.base {xs : List Ve} {B' : Nat} (h : OwV w B v xs) (hB : B' ≤ B) : OwV w B' v xs := by
  obtain ⟨ps, h1, h2, h3⟩ := h
  exact ⟨ps, h1, own_base h2 hB, fun p hp => own_base (h3 p hp) hB⟩
theorem OwV.form {xs : List Ve} (h : OwV w B v xs) : ∃ a cap, v = .slice a xs.length cap ∧ xs.length ≤ cap ∧ cap ≤ maxLen := by
  obtain ⟨ps, h1, h2, h3⟩ := h
  subst h1
  simpa using own_form h2
theorem OwV.lst {xs : List Ve} (h : OwV w B v xs) (hs : ∀ x ∈ xs, (x.bu.size ≤ maxLen ∧ x.ke.size ≤ maxLen) ∧ ∀ n ∈ x.sec, (Lit.int .i64 n).wf = true) : Lst RVe 12 ve0 w v xs := by
  obtain ⟨ps, h1, h2, h3⟩ := h
  subst h1
  have hl : Lst (fun w g p (x : Ve × Value) => RVe w g p x.1) 12 (ve0, v) w v ps := own_lst (fun _ => rfl) h2 fun g p x hx k =>
    ⟨k 0 (by decide), k 1 (by decide), k 2 (by decide), k 3 (by decide), k 4 (by decide), k 5 (by decide), k 6 (by decide), k 7 (by decide), ⟨_, k 8 (by decide), (h3 x hx).ints (hs x.1 (List.mem_map_of_mem hx)).2⟩, k 9 (by decide), k 10 (by decide), k 11 (by decide), (hs x.1 (List.mem_map_of_mem hx)).1.1, (hs x.1 (List.mem_map_of_mem hx)).1.2⟩
  obtain ⟨a, cap, e, e1, e2, e3⟩ := hl
  refine ⟨a, cap, by simpa using e, by simpa using e1, e2, fun i hi => ?_⟩
  obtain ⟨b, o, e4, e5⟩ := e3 i (by simpa using hi)
  refine ⟨b, o, e4, ?_⟩
  have hi' : i < ps.length := by simpa using hi
  simpa [List.getD, hi'] using e5
theorem OwU.up {xs : List Up} (hb : Below w.heap.size w w') (h : OwU w B v xs) : OwU w' B v xs := by
  obtain ⟨ps, h1, h2, h3, h4⟩ := h
  exact ⟨ps, h1, own_up hb h2, fun p hp => (h3 p hp).up hb, h4⟩
theorem OwU.low {xs : List Up} (h : OwU w B v xs) {g i : Nat} (hg : g < B) (u : Value) : OwU (w.setCell ⟨g, i, none⟩ u) B v xs := by
  obtain ⟨ps, h1, h2, h3, h4⟩ := h
  exact ⟨ps, h1, own_low h2 hg u, fun p hp => (h3 p hp).low hg u, h4⟩
theorem OwU.base {xs : List Up} {B' : Nat} (h : OwU w B v xs) (hB : B' ≤ B) : OwU w B' v xs := by
  obtain ⟨ps, h1, h2, h3, h4⟩ := h
  exact ⟨ps, h1, own_base h2 hB, fun p hp => (h3 p hp).base hB, h4⟩
theorem OwU.form {xs : List Up} (h : OwU w B v xs) : ∃ a cap, v = .slice a xs.length cap ∧ xs.length ≤ cap ∧ cap ≤ maxLen := by
  obtain ⟨ps, h1, h2, h3, h4⟩ := h
  subst h1
  simpa using own_form h2
theorem OwU.lst {xs : List Up} (h : OwU w B v xs) (hs : ∀ x ∈ xs, (x.bu.size ≤ maxLen ∧ x.ke.size ≤ maxLen) ∧ ∀ p ∈ x.parts, ∀ n ∈ p.sec, (Lit.int .i64 n).wf = true) : Lst RUp 4 up0 w v xs := by
  obtain ⟨ps, h1, h2, h3, h4⟩ := h
  subst h1
  have hl : Lst (fun w g p (x : Up × Value) => RUp w g p x.1) 4 (up0, v) w v ps := own_lst (fun _ => rfl) h2 fun g p x hx k =>
    ⟨k 0 (by decide), k 1 (by decide), k 2 (by decide), ⟨_, k 3 (by decide), (h3 x hx).lst (hs x.1 (List.mem_map_of_mem hx)).2⟩, (hs x.1 (List.mem_map_of_mem hx)).1.1, (hs x.1 (List.mem_map_of_mem hx)).1.2⟩
  obtain ⟨a, cap, e, e1, e2, e3⟩ := hl
  refine ⟨a, cap, by simpa using e, by simpa using e1, e2, fun i hi => ?_⟩
  obtain ⟨b, o, e4, e5⟩ := e3 i (by simpa using hi)
  refine ⟨b, o, e4, ?_⟩
  have hi' : i < ps.length := by simpa using hi
  simpa [List.getD, hi'] using e5
end
theorem cell_app {w : World} {g p : Nat} {t : TypeId} {fz : Nat × Nat} {P Q : List Value} (h : w.heap[g]? = some (.cells (P ++ Q).toArray t fz)) (hp : P.length = p) (j : Nat) {v : Value} (hv : Q[j]? = some v) : w.cell? ⟨g, p + j, none⟩ = some v := by
  subst hp
  refine cell_of h _ ?_
  rw [List.getElem?_toArray, List.getElem?_append_right (by omega), Nat.add_sub_cancel_left]
  exact hv
theorem putOne {w : World} {g p : Nat} {t : TypeId} {P Q : List Value} {a : Value} (h : w.heap[g]? = some (.cells (P ++ (a :: Q)).toArray t (0, 0))) (hp : P.length = p) (v : Value) : (w.setCell ⟨g, p, none⟩ v).heap[g]? = some (.cells ((P ++ [v]) ++ Q).toArray t (0, 0)) := by
  have k := heap_setCell_same w g p _ t v h
  rw [k]
  subst hp
  simp [List.set_append_right]
theorem put3 {w : World} {g p : Nat} {t : TypeId} {P R : List Value} {a0 a1 a2 : Value} (h : w.heap[g]? = some (.cells (P ++ (a0 :: a1 :: a2 :: R)).toArray t (0, 0))) (hp : P.length = p) (v0 v1 v2 : Value) :
    (((w.setCell ⟨g, p, none⟩ v0).setCell ⟨g, p + 1, none⟩ v1).setCell ⟨g, p + 2, none⟩ v2).heap[g]? = some (.cells (P ++ [v0, v1, v2] ++ R).toArray t (0, 0)) := by
  replace h := putOne h (p := p) (by simp [hp]) v0
  replace h := putOne h (p := p + 1) (by simp [hp]) v1
  replace h := putOne h (p := p + 2) (by simp [hp]) v2
  simpa [List.append_assoc] using h
theorem split3 {R : List Value} {n : Nat} (h : R.length = n + 3) : ∃ a0 a1 a2 Q, R = a0 :: a1 :: a2 :: Q ∧ Q.length = n := by
  match R, h with
  | a0 :: a1 :: a2 :: Q, h => exact ⟨a0, a1, a2, Q, rfl, by simpa using h⟩
theorem put4 {w : World} {g p : Nat} {t : TypeId} {P R : List Value} {a0 a1 a2 a3 : Value} (h : w.heap[g]? = some (.cells (P ++ (a0 :: a1 :: a2 :: a3 :: R)).toArray t (0, 0))) (hp : P.length = p) (v0 v1 v2 v3 : Value) :
    ((((w.setCell ⟨g, p, none⟩ v0).setCell ⟨g, p + 1, none⟩ v1).setCell ⟨g, p + 2, none⟩ v2).setCell ⟨g, p + 3, none⟩ v3).heap[g]? = some (.cells (P ++ [v0, v1, v2, v3] ++ R).toArray t (0, 0)) := by
  replace h := putOne h (p := p) (by simp [hp]) v0
  replace h := putOne h (p := p + 1) (by simp [hp]) v1
  replace h := putOne h (p := p + 2) (by simp [hp]) v2
  replace h := putOne h (p := p + 3) (by simp [hp]) v3
  simpa [List.append_assoc] using h
theorem split4 {R : List Value} {n : Nat} (h : R.length = n + 4) : ∃ a0 a1 a2 a3 Q, R = a0 :: a1 :: a2 :: a3 :: Q ∧ Q.length = n := by
  match R, h with
  | a0 :: a1 :: a2 :: a3 :: Q, h => exact ⟨a0, a1, a2, a3, Q, rfl, by simpa using h⟩
theorem put12 {w : World} {g p : Nat} {t : TypeId} {P R : List Value} {a0 a1 a2 a3 a4 a5 a6 a7 a8 a9 a10 a11 : Value} (h : w.heap[g]? = some (.cells (P ++ (a0 :: a1 :: a2 :: a3 :: a4 :: a5 :: a6 :: a7 :: a8 :: a9 :: a10 :: a11 :: R)).toArray t (0, 0))) (hp : P.length = p) (v0 v1 v2 v3 v4 v5 v6 v7 v8 v9 v10 v11 : Value) :
    ((((((((((((w.setCell ⟨g, p, none⟩ v0).setCell ⟨g, p + 1, none⟩ v1).setCell ⟨g, p + 2, none⟩ v2).setCell ⟨g, p + 3, none⟩ v3).setCell ⟨g, p + 4, none⟩ v4).setCell ⟨g, p + 5, none⟩ v5).setCell ⟨g, p + 6, none⟩ v6).setCell ⟨g, p + 7, none⟩ v7).setCell ⟨g, p + 8, none⟩ v8).setCell ⟨g, p + 9, none⟩ v9).setCell ⟨g, p + 10, none⟩ v10).setCell ⟨g, p + 11, none⟩ v11).heap[g]? = some (.cells (P ++ [v0, v1, v2, v3, v4, v5, v6, v7, v8, v9, v10, v11] ++ R).toArray t (0, 0)) := by
  replace h := putOne h (p := p) (by simp [hp]) v0
  replace h := putOne h (p := p + 1) (by simp [hp]) v1
  replace h := putOne h (p := p + 2) (by simp [hp]) v2
  replace h := putOne h (p := p + 3) (by simp [hp]) v3
  replace h := putOne h (p := p + 4) (by simp [hp]) v4
  replace h := putOne h (p := p + 5) (by simp [hp]) v5
  replace h := putOne h (p := p + 6) (by simp [hp]) v6
  replace h := putOne h (p := p + 7) (by simp [hp]) v7
  replace h := putOne h (p := p + 8) (by simp [hp]) v8
  replace h := putOne h (p := p + 9) (by simp [hp]) v9
  replace h := putOne h (p := p + 10) (by simp [hp]) v10
  replace h := putOne h (p := p + 11) (by simp [hp]) v11
  simpa [List.append_assoc] using h
theorem split12 {R : List Value} {n : Nat} (h : R.length = n + 12) : ∃ a0 a1 a2 a3 a4 a5 a6 a7 a8 a9 a10 a11 Q, R = a0 :: a1 :: a2 :: a3 :: a4 :: a5 :: a6 :: a7 :: a8 :: a9 :: a10 :: a11 :: Q ∧ Q.length = n := by
  match R, h with
  | a0 :: a1 :: a2 :: a3 :: a4 :: a5 :: a6 :: a7 :: a8 :: a9 :: a10 :: a11 :: Q, h => exact ⟨a0, a1, a2, a3, a4, a5, a6, a7, a8, a9, a10, a11, Q, rfl, by simpa using h⟩
theorem infoVe : (Tryz.prog.info? 36).map (fun i => (i.zero, i.size, i.bytes)) = some (some (.agg zeroVe), 12, 120) := by kernel_rfl
theorem infoPa : (Tryz.prog.info? 45).map (fun i => (i.zero, i.size, i.bytes)) = some (some (.agg #[.int .i64 0, .int .i64 0, .slice none 0 0]), 3, 40) := by kernel_rfl
theorem infoUp : (Tryz.prog.info? 102).map (fun i => (i.zero, i.size, i.bytes)) = some (some (.agg #[.int .i64 0, .string ⟨#[]⟩, .string ⟨#[]⟩, .slice none 0 0]), 4, 64) := by kernel_rfl
theorem getD_mem {α : Type} {l : List α} {i : Nat} {d : α} (h : i < l.length) : l.getD i d ∈ l := by
  rw [List.getD_eq_getElem?_getD, List.getElem?_eq_getElem h]; exact List.getElem_mem h
set_option maxHeartbeats 2000000 in
theorem copyEachV_any (x : Value) (l : List Ve) (w : World) (hx : Lst RVe 12 ve0 w x l) (hn : l.length * 120 ≤ 281474976710656) (hs : ∀ z ∈ l, z.sec.length * 8 ≤ 281474976710656) :
    Calls Tryz.prog 55 #[x, .func (.func 39) #[] #[]] w fun e w' => ∃ o, e = .returned o ∧ OwV w' w.heap.size o l ∧ Below w.heap.size w w' := by
  obtain ⟨i0, hi, hz0, hz1, hz2⟩ := info_parts infoVe
  obtain ⟨a, ac, rfl, a1, a2⟩ := hx.form
  unfold maxLen at a2
  have HX := hide hx
  have HS := hide hs
  clear hx hs
  obtain ⟨n, hl⟩ : ∃ n, l.length = n := ⟨_, rfl⟩
  obtain ⟨R, hR⟩ : ∃ R, madeCells zeroVe (n * 12) = R := ⟨_, rfl⟩
  have hRs : R.size = n * 12 := by rw [← hR]; exact size_madeCells _ _
  have hmk : (Instr.makeSlice 24 (.int .i64 (n : Int)) (.int .i64 (n : Int))).run Tryz.prog w = .ok (.slice (some ⟨w.heap.size, 0, none⟩) n n) (w.alloc (.cells R 36)) := by
    have h := run_make (P := Tryz.prog) (w := w) 24 36 i0 (.agg zeroVe) Tryz.underlying24 hi hz0 .i64 .i64 (n : Int) (n : Int) (by omega) (Int.le_refl _) (by rw [hz2]; omega) (by omega)
    simpa [hz1, Value.cells, hR] using h
  obtain ⟨W1, hW1⟩ : ∃ W1, w.alloc (.cells R 36) = W1 := ⟨_, rfl⟩
  rw [hW1] at hmk
  have hb1 : Below w.heap.size w W1 := by rw [← hW1]; exact bl1 _ _
  have hrow : W1.heap[w.heap.size]? = some (.cells ([] ++ R.toList).toArray 36 (0, 0)) := by rw [← hW1]; simpa using heap_alloc_new w (.cells R 36)
  have HL := hide hl
  rw [hl] at a1 hn ⊢
  clear hW1 hR hl
  go_enter Tryz.func55, Tryz.ntmps55
  go_wp2
  go_loopw [13, 6, 7] (fun i _ _ wr => ∃ (k : Nat) (ps : List (Ve × Value)) (Q : List Value), k ≤ n ∧ i = .int .i64 k ∧ Below w.heap.size w wr ∧ ps.map (·.1) = l.take k ∧ Q.length = (n - k) * 12 ∧ wr.heap[w.heap.size]? = some (.cells ((ps.flatMap fun p => veL p.1 p.2) ++ Q).toArray 36 (0, 0)) ∧ (∀ p ∈ ps, OwI wr (w.heap.size + 1) p.2 p.1.sec)) (fun i _ _ _ => n - (intOf i).toNat)
  case atStart => exact ⟨0, [], R.toList, Nat.zero_le _, rfl, hb1, rfl, by simp [hRs], hrow, (fun p hp => by cases hp)⟩
  case round =>
    clear hrow hmk hb1 hRs
    obtain ⟨k, ps, Q, hk, rfl, hbq, hps, hQ, hrow, hO⟩ := hrel
    have hpl : ps.length = k := by have := congrArg List.length hps; rw [List.length_map, List.length_take, unhide HL] at this; omega
    have hfl : (ps.flatMap fun p => veL p.1 p.2).length = k * 12 := by rw [flat_len2 (fun p : Ve × Value => veL p.1 p.2) 12 (fun _ => rfl), hpl]
    have hgt : w.heap.size < wr.heap.size := (Array.getElem?_eq_some_iff.1 hrow).1
    by_cases hlt0 : k < n
    · have hlt : k < l.length := by rw [unhide HL]; exact hlt0
      obtain ⟨b8, o8, e8, r⟩ := Lst.at ((unhide HX).imp fun _ _ _ r => RVe.up hbq r) hlt
      obtain ⟨X, hX⟩ : ∃ X, l.getD k ve0 = X := ⟨_, rfl⟩
      have hs := unhide HS
      have hsec : X.sec.length * 8 ≤ 281474976710656 := by rw [← hX]; exact hs _ (getD_mem hlt)
      rw [hX] at r
      subst e8
      obtain ⟨U, hu0, _⟩ := r.c8
      obtain ⟨b9, o9, e9, r0⟩ := Lst.at (unhide HX) hlt
      cases e9
      rw [hX] at r0
      obtain ⟨U, hu1, hi1⟩ := r0.c8
      have hu := scell_up hbq hu1
      obtain ⟨ua, uc, rfl, _⟩ := hi1.form
      have HII := hide hi1
      have c0 := r.c0
      have c1 := r.c1
      have c2 := r.c2
      have c3 := r.c3
      have c4 := r.c4
      have c5 := r.c5
      have c6 := r.c6
      have c7 := r.c7
      have c9 := r.c9
      have c10 := r.c10
      have c11 := r.c11
      obtain ⟨a0, a1, a2, a3, a4, a5, a6, a7, a8, a9, a10, a11, Q', rfl, hQ'⟩ := split12 (n := (n - (k + 1)) * 12) (R := Q) (by rw [hQ]; rw [← Nat.succ_mul]; congr 1; omega)
      have HT : Hid (l.take (k + 1) = l.take k ++ [X]) := by show _ = _; rw [take_next l ve0 hlt, hX]
      have HR := hide hrow
      have HO := hide hO
      have HPS := hide hps
      have HFL := hide hfl
      clear r r0 hi1 hX hu0 hu1 hrow hO hps hfl hs
      go_wp2_with fail
      refine (copyVersion_any X ua _ uc _ (Ints.up (bl_alloc hbq _) (unhide HII)) (by omega)).mono ?_
      rintro e w2 ⟨o, rfl, hO2, hb2⟩
      obtain ⟨oa, oc, rfl, o1, o2⟩ := hO2.form
      have hb3 : Below wr.heap.size wr w2 := bl_trans (bl1 _ _) hb2
      have hrow2 := (hb3.block w.heap.size hgt).trans (unhide HR)
      have d0 := cell_app hrow2 (unhide HFL) 0 rfl
      have d1 := cell_app hrow2 (unhide HFL) 1 rfl
      have d2 := cell_app hrow2 (unhide HFL) 2 rfl
      have d3 := cell_app hrow2 (unhide HFL) 3 rfl
      have d4 := cell_app hrow2 (unhide HFL) 4 rfl
      have d5 := cell_app hrow2 (unhide HFL) 5 rfl
      have d6 := cell_app hrow2 (unhide HFL) 6 rfl
      have d7 := cell_app hrow2 (unhide HFL) 7 rfl
      have d8 := cell_app hrow2 (unhide HFL) 8 rfl
      have d9 := cell_app hrow2 (unhide HFL) 9 rfl
      have d10 := cell_app hrow2 (unhide HFL) 10 rfl
      have d11 := cell_app hrow2 (unhide HFL) 11 rfl
      have df := fun j => fz_of hrow2 j
      have HR2 := hide hrow2
      have HO2 : Hid (OwI w2 (w.heap.size + 1) (.slice oa X.sec.length oc) X.sec) := own_base hO2 (by simp; omega)
      have hw2 := bl_trans hbq hb3
      have HB3 := hide hb3
      clear hrow2 hO2 hb2 hb3 c0 c1 c2 c3 c4 c5 c6 c7 c9 c10 c11 hu
      rw [Nat.add_zero] at d0
      go_wp2
      refine ⟨⟨k + 1, ps ++ [(X, .slice oa X.sec.length oc)], Q', by omega, by go_num, ?_, ?_, hQ', ?_, ?_⟩, by simp [intOf]; omega⟩
      · (iterate 12 (refine bl_set ?_ (Nat.le_refl _) _))
        exact hw2
      · rw [List.map_append, unhide HPS, unhide HT]; rfl
      · rw [List.flatMap_append, List.flatMap_singleton]
        exact put12 (unhide HR2) (unhide HFL) (.int .i64 X.id) (.string X.bu) (.string X.ke) (.bool X.nul) (.bool X.mar) (.int .i64 X.size) (.int .i64 X.time) (.int .i64 X.tier) (.slice oa X.sec.length oc) (.int .i64 X.vol) (.int .i64 X.pos) (.int .i64 X.til)
      · intro p hp
        (iterate 12 (refine own_low ?_ (by omega) _))
        rcases List.mem_append.1 hp with hp | hp
        · exact own_up (unhide HB3) (unhide HO p hp)
        · obtain rfl := List.mem_singleton.1 hp
          exact unhide HO2
    · obtain rfl : k = n := by omega
      obtain rfl : Q = [] := List.length_eq_zero_iff.1 (by rw [hQ]; simp)
      have hA : l.take k = l := List.take_of_length_le (by rw [unhide HL]; exact Nat.le_refl _)
      rw [hA] at hps
      have HF : Hid (OwV wr w.heap.size (.slice (some ⟨w.heap.size, 0, none⟩) k k) l) := ⟨ps, hps, ⟨by rw [hfl, hpl], .inr ⟨w.heap.size, k, _, by rw [hpl], Nat.le_refl _, hrow, by omega, by unfold maxLen; omega, by simpa using hfl, by rw [hpl, ← hfl]; simp only [List.append_nil]; exact List.take_length⟩⟩, fun p hp => own_base (hO p hp) (by omega)⟩
      clear hrow hO hps hfl hA hQ
      go_wp2
      go_ret
      exact ⟨_, rfl, unhide HF, hbq⟩
set_option maxHeartbeats 1000000 in
theorem copyPart_any (X : Pa) (ua : Option Addr) (un uc : Nat) (w : World) (hI : Ints w (.slice ua un uc) X.sec) (hn : X.sec.length * 8 ≤ 281474976710656) :
    Calls Tryz.prog 117 #[paV X (.slice ua un uc)] w fun e w' => ∃ o, e = .returned (paV X o) ∧ OwI w' w.heap.size o X.sec ∧ Below w.heap.size w w' := by
  have HI := hide hI
  clear hI
  go_enter Tryz.func117, Tryz.ntmps117
  go_wp2_with fail
  refine (copyInts_any _ X.sec _ (Ints.up (bl_alloc (bl1 _ _) _) (unhide HI)) hn).mono ?_
  rintro e w1 ⟨o, rfl, hO, hb⟩
  obtain ⟨oa, oc, rfl, o1, o2⟩ := hO.form
  have g1 := (hb.block w.heap.size (by simp; omega)).trans (((bl1 (w.alloc _) _).block w.heap.size (by simp)).trans (heap_alloc_new _ _))
  have g2 := (hb.block (w.heap.size + 1) (by simp)).trans (show _ = some (Obj.cells #[.int .i64 0, .int .i64 0, .slice none 0 0] 45 (0, 0)) by simpa using heap_alloc_new (w.alloc _) (.cells #[.int .i64 0, .int .i64 0, .slice none 0 0] 45))
  have f1 := fz_of g1 2
  have f2 := fun j => fz_of g2 j
  have hsz : w.heap.size + 2 ≤ w1.heap.size := by have := hb.size; simp at this; omega
  have x0 := cell_of g1 0 rfl
  have z0 := cell_of g2 0 rfl
  have x1 := cell_of g1 1 rfl
  have z1 := cell_of g2 1 rfl
  have x2 := cell_of g1 2 rfl
  have z2 := cell_of g2 2 rfl
  have hO2 : OwI w1 (w.heap.size + 2) (.slice oa X.sec.length oc) X.sec := by simpa using hO
  have HO := hide hO2
  have HB : Hid (Below w.heap.size w w1) := bl_trans (bl_alloc (bl1 _ _) _) hb
  clear g1 g2 hO hO2 hb
  go_wp2
  refine bodyPost_ret (v := paV X (.slice oa X.sec.length oc)) (by simp [results, Tryz.results117, go_sem, *]) rfl ⟨.slice oa X.sec.length oc, rfl, ?_, ?_⟩
  · refine own_base (B := w.heap.size + 2) ?_ (by omega)
    (iterate 4 (refine own_low ?_ (by omega) _))
    exact unhide HO
  · (iterate 4 (refine bl_set ?_ (by simp <;> omega) _))
    exact unhide HB
set_option maxHeartbeats 2000000 in
theorem copyEachP_any (x : Value) (l : List Pa) (w : World) (hx : Lst RPa 3 pa0 w x l) (hn : l.length * 40 ≤ 281474976710656) (hs : ∀ z ∈ l, z.sec.length * 8 ≤ 281474976710656) :
    Calls Tryz.prog 116 #[x, .func (.func 117) #[] #[]] w fun e w' => ∃ o, e = .returned o ∧ OwP w' w.heap.size o l ∧ Below w.heap.size w w' := by
  obtain ⟨i0, hi, hz0, hz1, hz2⟩ := info_parts infoPa
  obtain ⟨a, ac, rfl, a1, a2⟩ := hx.form
  unfold maxLen at a2
  have HX := hide hx
  have HS := hide hs
  clear hx hs
  obtain ⟨n, hl⟩ : ∃ n, l.length = n := ⟨_, rfl⟩
  obtain ⟨R, hR⟩ : ∃ R, madeCells #[.int .i64 0, .int .i64 0, .slice none 0 0] (n * 3) = R := ⟨_, rfl⟩
  have hRs : R.size = n * 3 := by rw [← hR]; exact size_madeCells _ _
  have hmk : (Instr.makeSlice 100 (.int .i64 (n : Int)) (.int .i64 (n : Int))).run Tryz.prog w = .ok (.slice (some ⟨w.heap.size, 0, none⟩) n n) (w.alloc (.cells R 45)) := by
    have h := run_make (P := Tryz.prog) (w := w) 100 45 i0 (.agg #[.int .i64 0, .int .i64 0, .slice none 0 0]) Tryz.underlying100 hi hz0 .i64 .i64 (n : Int) (n : Int) (by omega) (Int.le_refl _) (by rw [hz2]; omega) (by omega)
    simpa [hz1, Value.cells, hR] using h
  obtain ⟨W1, hW1⟩ : ∃ W1, w.alloc (.cells R 45) = W1 := ⟨_, rfl⟩
  rw [hW1] at hmk
  have hb1 : Below w.heap.size w W1 := by rw [← hW1]; exact bl1 _ _
  have hrow : W1.heap[w.heap.size]? = some (.cells ([] ++ R.toList).toArray 45 (0, 0)) := by rw [← hW1]; simpa using heap_alloc_new w (.cells R 45)
  have HL := hide hl
  rw [hl] at a1 hn ⊢
  clear hW1 hR hl
  go_enter Tryz.func116, Tryz.ntmps116
  go_wp2
  go_loopw [13, 6, 7] (fun i _ _ wr => ∃ (k : Nat) (ps : List (Pa × Value)) (Q : List Value), k ≤ n ∧ i = .int .i64 k ∧ Below w.heap.size w wr ∧ ps.map (·.1) = l.take k ∧ Q.length = (n - k) * 3 ∧ wr.heap[w.heap.size]? = some (.cells ((ps.flatMap fun p => paL p.1 p.2) ++ Q).toArray 45 (0, 0)) ∧ (∀ p ∈ ps, OwI wr (w.heap.size + 1) p.2 p.1.sec)) (fun i _ _ _ => n - (intOf i).toNat)
  case atStart => exact ⟨0, [], R.toList, Nat.zero_le _, rfl, hb1, rfl, by simp [hRs], hrow, (fun p hp => by cases hp)⟩
  case round =>
    clear hrow hmk hb1 hRs
    obtain ⟨k, ps, Q, hk, rfl, hbq, hps, hQ, hrow, hO⟩ := hrel
    have hpl : ps.length = k := by have := congrArg List.length hps; rw [List.length_map, List.length_take, unhide HL] at this; omega
    have hfl : (ps.flatMap fun p => paL p.1 p.2).length = k * 3 := by rw [flat_len2 (fun p : Pa × Value => paL p.1 p.2) 3 (fun _ => rfl), hpl]
    have hgt : w.heap.size < wr.heap.size := (Array.getElem?_eq_some_iff.1 hrow).1
    by_cases hlt0 : k < n
    · have hlt : k < l.length := by rw [unhide HL]; exact hlt0
      obtain ⟨b8, o8, e8, r⟩ := Lst.at ((unhide HX).imp fun _ _ _ r => RPa.up hbq r) hlt
      obtain ⟨X, hX⟩ : ∃ X, l.getD k pa0 = X := ⟨_, rfl⟩
      have hs := unhide HS
      have hsec : X.sec.length * 8 ≤ 281474976710656 := by rw [← hX]; exact hs _ (getD_mem hlt)
      rw [hX] at r
      subst e8
      obtain ⟨U, hu0, _⟩ := r.c2
      obtain ⟨b9, o9, e9, r0⟩ := Lst.at (unhide HX) hlt
      cases e9
      rw [hX] at r0
      obtain ⟨U, hu1, hi1⟩ := r0.c2
      have hu := scell_up hbq hu1
      obtain ⟨ua, uc, rfl, _⟩ := hi1.form
      have HII := hide hi1
      have c0 := r.c0
      have c1 := r.c1
      obtain ⟨a0, a1, a2, Q', rfl, hQ'⟩ := split3 (n := (n - (k + 1)) * 3) (R := Q) (by rw [hQ]; rw [← Nat.succ_mul]; congr 1; omega)
      have HT : Hid (l.take (k + 1) = l.take k ++ [X]) := by show _ = _; rw [take_next l pa0 hlt, hX]
      have HR := hide hrow
      have HO := hide hO
      have HPS := hide hps
      have HFL := hide hfl
      clear r r0 hi1 hX hu0 hu1 hrow hO hps hfl hs
      go_wp2_with fail
      refine (copyPart_any X ua _ uc _ (Ints.up (bl_alloc hbq _) (unhide HII)) (by omega)).mono ?_
      rintro e w2 ⟨o, rfl, hO2, hb2⟩
      obtain ⟨oa, oc, rfl, o1, o2⟩ := hO2.form
      have hb3 : Below wr.heap.size wr w2 := bl_trans (bl1 _ _) hb2
      have hrow2 := (hb3.block w.heap.size hgt).trans (unhide HR)
      have d0 := cell_app hrow2 (unhide HFL) 0 rfl
      have d1 := cell_app hrow2 (unhide HFL) 1 rfl
      have d2 := cell_app hrow2 (unhide HFL) 2 rfl
      have df := fun j => fz_of hrow2 j
      have HR2 := hide hrow2
      have HO2 : Hid (OwI w2 (w.heap.size + 1) (.slice oa X.sec.length oc) X.sec) := own_base hO2 (by simp; omega)
      have hw2 := bl_trans hbq hb3
      have HB3 := hide hb3
      clear hrow2 hO2 hb2 hb3 c0 c1 hu
      rw [Nat.add_zero] at d0
      go_wp2
      refine ⟨⟨k + 1, ps ++ [(X, .slice oa X.sec.length oc)], Q', by omega, by go_num, ?_, ?_, hQ', ?_, ?_⟩, by simp [intOf]; omega⟩
      · (iterate 3 (refine bl_set ?_ (Nat.le_refl _) _))
        exact hw2
      · rw [List.map_append, unhide HPS, unhide HT]; rfl
      · rw [List.flatMap_append, List.flatMap_singleton]
        exact put3 (unhide HR2) (unhide HFL) (.int .i64 X.n) (.int .i64 X.size) (.slice oa X.sec.length oc)
      · intro p hp
        (iterate 3 (refine own_low ?_ (by omega) _))
        rcases List.mem_append.1 hp with hp | hp
        · exact own_up (unhide HB3) (unhide HO p hp)
        · obtain rfl := List.mem_singleton.1 hp
          exact unhide HO2
    · obtain rfl : k = n := by omega
      obtain rfl : Q = [] := List.length_eq_zero_iff.1 (by rw [hQ]; simp)
      have hA : l.take k = l := List.take_of_length_le (by rw [unhide HL]; exact Nat.le_refl _)
      rw [hA] at hps
      have HF : Hid (OwP wr w.heap.size (.slice (some ⟨w.heap.size, 0, none⟩) k k) l) := ⟨ps, hps, ⟨by rw [hfl, hpl], .inr ⟨w.heap.size, k, _, by rw [hpl], Nat.le_refl _, hrow, by omega, by unfold maxLen; omega, by simpa using hfl, by rw [hpl, ← hfl]; simp only [List.append_nil]; exact List.take_length⟩⟩, fun p hp => own_base (hO p hp) (by omega)⟩
      clear hrow hO hps hfl hA hQ
      go_wp2
      go_ret
      exact ⟨_, rfl, unhide HF, hbq⟩
set_option maxHeartbeats 1000000 in
theorem copyUpload_any (X : Up) (ua : Option Addr) (un uc : Nat) (w : World) (hI : Lst RPa 3 pa0 w (.slice ua un uc) X.parts) (hn : X.parts.length * 40 ≤ 281474976710656) (hn2 : ∀ y ∈ X.parts, y.sec.length * 8 ≤ 281474976710656) :
    Calls Tryz.prog 57 #[upV X (.slice ua un uc)] w fun e w' => ∃ o, e = .returned (upV X o) ∧ OwP w' w.heap.size o X.parts ∧ Below w.heap.size w w' := by
  have HI := hide hI
  have HN2 := hide hn2
  clear hn2
  clear hI
  go_enter Tryz.func57, Tryz.ntmps57
  go_wp2_with fail
  refine (copyEachP_any _ X.parts _ ((unhide HI).imp fun _ _ _ r => RPa.up (bl_alloc (bl1 _ _) _) r) hn (unhide HN2)).mono ?_
  rintro e w1 ⟨o, rfl, hO, hb⟩
  obtain ⟨oa, oc, rfl, o1, o2⟩ := hO.form
  have g1 := (hb.block w.heap.size (by simp; omega)).trans (((bl1 (w.alloc _) _).block w.heap.size (by simp)).trans (heap_alloc_new _ _))
  have g2 := (hb.block (w.heap.size + 1) (by simp)).trans (show _ = some (Obj.cells #[.int .i64 0, .string ⟨#[]⟩, .string ⟨#[]⟩, .slice none 0 0] 102 (0, 0)) by simpa using heap_alloc_new (w.alloc _) (.cells #[.int .i64 0, .string ⟨#[]⟩, .string ⟨#[]⟩, .slice none 0 0] 102))
  have f1 := fz_of g1 3
  have f2 := fun j => fz_of g2 j
  have hsz : w.heap.size + 2 ≤ w1.heap.size := by have := hb.size; simp at this; omega
  have x0 := cell_of g1 0 rfl
  have z0 := cell_of g2 0 rfl
  have x1 := cell_of g1 1 rfl
  have z1 := cell_of g2 1 rfl
  have x2 := cell_of g1 2 rfl
  have z2 := cell_of g2 2 rfl
  have x3 := cell_of g1 3 rfl
  have z3 := cell_of g2 3 rfl
  have hO2 : OwP w1 (w.heap.size + 2) (.slice oa X.parts.length oc) X.parts := by simpa using hO
  have HO := hide hO2
  have HB : Hid (Below w.heap.size w w1) := bl_trans (bl_alloc (bl1 _ _) _) hb
  clear g1 g2 hO hO2 hb
  go_wp2
  refine bodyPost_ret (v := upV X (.slice oa X.parts.length oc)) (by simp [results, Tryz.results57, go_sem, *]) rfl ⟨.slice oa X.parts.length oc, rfl, ?_, ?_⟩
  · refine OwP.base (B := w.heap.size + 2) ?_ (by omega)
    (iterate 5 (refine OwP.low ?_ (by omega) _))
    exact unhide HO
  · (iterate 5 (refine bl_set ?_ (by simp <;> omega) _))
    exact unhide HB
set_option maxHeartbeats 2000000 in
theorem copyEachU_any (x : Value) (l : List Up) (w : World) (hx : Lst RUp 4 up0 w x l) (hn : l.length * 64 ≤ 281474976710656) (hs : ∀ z ∈ l, z.parts.length * 40 ≤ 281474976710656 ∧ ∀ y ∈ z.parts, y.sec.length * 8 ≤ 281474976710656) :
    Calls Tryz.prog 56 #[x, .func (.func 57) #[] #[]] w fun e w' => ∃ o, e = .returned o ∧ OwU w' w.heap.size o l ∧ Below w.heap.size w w' := by
  obtain ⟨i0, hi, hz0, hz1, hz2⟩ := info_parts infoUp
  obtain ⟨a, ac, rfl, a1, a2⟩ := hx.form
  unfold maxLen at a2
  have HX := hide hx
  have HS := hide hs
  clear hx hs
  obtain ⟨n, hl⟩ : ∃ n, l.length = n := ⟨_, rfl⟩
  obtain ⟨R, hR⟩ : ∃ R, madeCells #[.int .i64 0, .string ⟨#[]⟩, .string ⟨#[]⟩, .slice none 0 0] (n * 4) = R := ⟨_, rfl⟩
  have hRs : R.size = n * 4 := by rw [← hR]; exact size_madeCells _ _
  have hmk : (Instr.makeSlice 25 (.int .i64 (n : Int)) (.int .i64 (n : Int))).run Tryz.prog w = .ok (.slice (some ⟨w.heap.size, 0, none⟩) n n) (w.alloc (.cells R 102)) := by
    have h := run_make (P := Tryz.prog) (w := w) 25 102 i0 (.agg #[.int .i64 0, .string ⟨#[]⟩, .string ⟨#[]⟩, .slice none 0 0]) Tryz.underlying25 hi hz0 .i64 .i64 (n : Int) (n : Int) (by omega) (Int.le_refl _) (by rw [hz2]; omega) (by omega)
    simpa [hz1, Value.cells, hR] using h
  obtain ⟨W1, hW1⟩ : ∃ W1, w.alloc (.cells R 102) = W1 := ⟨_, rfl⟩
  rw [hW1] at hmk
  have hb1 : Below w.heap.size w W1 := by rw [← hW1]; exact bl1 _ _
  have hrow : W1.heap[w.heap.size]? = some (.cells ([] ++ R.toList).toArray 102 (0, 0)) := by rw [← hW1]; simpa using heap_alloc_new w (.cells R 102)
  have HL := hide hl
  rw [hl] at a1 hn ⊢
  clear hW1 hR hl
  go_enter Tryz.func56, Tryz.ntmps56
  go_wp2
  go_loopw [13, 6, 7] (fun i _ _ wr => ∃ (k : Nat) (ps : List (Up × Value)) (Q : List Value), k ≤ n ∧ i = .int .i64 k ∧ Below w.heap.size w wr ∧ ps.map (·.1) = l.take k ∧ Q.length = (n - k) * 4 ∧ wr.heap[w.heap.size]? = some (.cells ((ps.flatMap fun p => upL p.1 p.2) ++ Q).toArray 102 (0, 0)) ∧ (∀ p ∈ ps, OwP wr (w.heap.size + 1) p.2 p.1.parts) ∧ ps.Pairwise (fun a b => Aprt a.2 b.2)) (fun i _ _ _ => n - (intOf i).toNat)
  case atStart => exact ⟨0, [], R.toList, Nat.zero_le _, rfl, hb1, rfl, by simp [hRs], hrow, (fun p hp => by cases hp), List.Pairwise.nil⟩
  case round =>
    clear hrow hmk hb1 hRs
    obtain ⟨k, ps, Q, hk, rfl, hbq, hps, hQ, hrow, hO, hpw⟩ := hrel
    have hpl : ps.length = k := by have := congrArg List.length hps; rw [List.length_map, List.length_take, unhide HL] at this; omega
    have hfl : (ps.flatMap fun p => upL p.1 p.2).length = k * 4 := by rw [flat_len2 (fun p : Up × Value => upL p.1 p.2) 4 (fun _ => rfl), hpl]
    have hgt : w.heap.size < wr.heap.size := (Array.getElem?_eq_some_iff.1 hrow).1
    by_cases hlt0 : k < n
    · have hlt : k < l.length := by rw [unhide HL]; exact hlt0
      obtain ⟨b8, o8, e8, r⟩ := Lst.at ((unhide HX).imp fun _ _ _ r => RUp.up hbq r) hlt
      obtain ⟨X, hX⟩ : ∃ X, l.getD k up0 = X := ⟨_, rfl⟩
      have hs := unhide HS
      have hsec : X.parts.length * 40 ≤ 281474976710656 ∧ ∀ y ∈ X.parts, y.sec.length * 8 ≤ 281474976710656 := by rw [← hX]; exact hs _ (getD_mem hlt)
      rw [hX] at r
      subst e8
      obtain ⟨U, hu0, _⟩ := r.c3
      obtain ⟨b9, o9, e9, r0⟩ := Lst.at (unhide HX) hlt
      cases e9
      rw [hX] at r0
      obtain ⟨U, hu1, hi1⟩ := r0.c3
      have hu := scell_up hbq hu1
      obtain ⟨ua, uc, rfl, _⟩ := hi1.form
      have HII := hide hi1
      have c0 := r.c0
      have c1 := r.c1
      have c2 := r.c2
      obtain ⟨a0, a1, a2, a3, Q', rfl, hQ'⟩ := split4 (n := (n - (k + 1)) * 4) (R := Q) (by rw [hQ]; rw [← Nat.succ_mul]; congr 1; omega)
      have HT : Hid (l.take (k + 1) = l.take k ++ [X]) := by show _ = _; rw [take_next l up0 hlt, hX]
      have HR := hide hrow
      have HO := hide hO
      have HPS := hide hps
      have HFL := hide hfl
      clear r r0 hi1 hX hu0 hu1 hrow hO hps hfl hs
      go_wp2_with fail
      refine (copyUpload_any X ua _ uc _ ((unhide HII).imp fun _ _ _ r => RPa.up (bl_alloc hbq _) r) hsec.1 hsec.2).mono ?_
      rintro e w2 ⟨o, rfl, hO2, hb2⟩
      obtain ⟨oa, oc, rfl, o1, o2⟩ := hO2.form
      have hb3 : Below wr.heap.size wr w2 := bl_trans (bl1 _ _) hb2
      have hrow2 := (hb3.block w.heap.size hgt).trans (unhide HR)
      have d0 := cell_app hrow2 (unhide HFL) 0 rfl
      have d1 := cell_app hrow2 (unhide HFL) 1 rfl
      have d2 := cell_app hrow2 (unhide HFL) 2 rfl
      have d3 := cell_app hrow2 (unhide HFL) 3 rfl
      have df := fun j => fz_of hrow2 j
      have HR2 := hide hrow2
      have HO2 : Hid (OwP w2 (w.heap.size + 1) (.slice oa X.parts.length oc) X.parts) := OwP.base hO2 (by simp; omega)
      have hw2 := bl_trans hbq hb3
      have HB3 := hide hb3
      have HN : Hid (∀ j, (Value.slice oa X.parts.length oc).ownBlock = some j → wr.heap.size + 1 ≤ j) := fun j hj => by have := (hO2.lt j hj).1; simpa using this
      clear hrow2 hO2 hb2 hb3 c0 c1 c2 hu
      rw [Nat.add_zero] at d0
      go_wp2
      refine ⟨⟨k + 1, ps ++ [(X, .slice oa X.parts.length oc)], Q', by omega, by go_num, ?_, ?_, hQ', ?_, ?_, ?_⟩, by simp [intOf]; omega⟩
      · (iterate 4 (refine bl_set ?_ (Nat.le_refl _) _))
        exact hw2
      · rw [List.map_append, unhide HPS, unhide HT]; rfl
      · rw [List.flatMap_append, List.flatMap_singleton]
        exact put4 (unhide HR2) (unhide HFL) (.int .i64 X.id) (.string X.bu) (.string X.ke) (.slice oa X.parts.length oc)
      · intro p hp
        (iterate 4 (refine OwP.low ?_ (by omega) _))
        rcases List.mem_append.1 hp with hp | hp
        · exact OwP.up (unhide HB3) (unhide HO p hp)
        · obtain rfl := List.mem_singleton.1 hp
          exact unhide HO2
      · refine List.pairwise_append.2 ⟨hpw, List.pairwise_singleton _ _, fun x hx y hy => ?_⟩
        obtain rfl := List.mem_singleton.1 hy
        have h1 := (unhide HO x hx).lt
        show x.2.ownBlock = none ∨ _
        cases hxo : x.2.ownBlock with
        | none => exact .inl rfl
        | some j => exact .inr fun e => by have := (h1 j hxo).2; have := unhide HN j e.symm; omega
    · obtain rfl : k = n := by omega
      obtain rfl : Q = [] := List.length_eq_zero_iff.1 (by rw [hQ]; simp)
      have hA : l.take k = l := List.take_of_length_le (by rw [unhide HL]; exact Nat.le_refl _)
      rw [hA] at hps
      have HF : Hid (OwU wr w.heap.size (.slice (some ⟨w.heap.size, 0, none⟩) k k) l) := ⟨ps, hps, ⟨by rw [hfl, hpl], .inr ⟨w.heap.size, k, _, by rw [hpl], Nat.le_refl _, hrow, by omega, by unfold maxLen; omega, by simpa using hfl, by rw [hpl, ← hfl]; simp only [List.append_nil]; exact List.take_length⟩⟩, fun p hp => OwP.base (hO p hp) (by omega), hpw⟩
      clear hrow hO hps hfl hA hQ
      go_wp2
      go_ret
      exact ⟨_, rfl, unhide HF, hbq⟩
end Go.Proofs.YtdgmdapijhbocaaGreat

/- slices.Delete of one element of a row of one's own. -/
namespace Go.Proofs.YtdgmdapijhbocaaGreat
open Go.RowKit Go.Maps
set_option maxRecDepth 100000
set_option linter.unusedVariables false
set_option linter.unusedSimpArgs false
theorem drop_len {P Q : List Value} {n m : Nat} (h : P.length = n) : (P ++ Q).drop (n + m) = Q.drop m := by
  subst h
  rw [List.drop_append, List.drop_of_length_le (by omega)]
  simp
theorem row_setCells {g : Nat} {t : TypeId} : ∀ (vs : List Value) (o : Nat) (w : World) (cs : List Value), w.heap[g]? = some (.cells cs.toArray t (0, 0)) → o + vs.length ≤ cs.length → (w.setCells g o vs).heap[g]? = some (.cells (cs.take o ++ vs ++ cs.drop (o + vs.length)).toArray t (0, 0))
  | [], o, w, cs, h, hl => by simpa [World.setCells] using h
  | v :: vs, o, w, cs, h, hl => by
    have hlt : o < cs.length := by simp at hl; omega
    obtain ⟨P, a, Q, e, hp⟩ : ∃ P a Q, cs = P ++ a :: Q ∧ P.length = o := ⟨cs.take o, cs[o], cs.drop (o + 1), by rw [List.getElem_cons_drop]; simp, by simp; omega⟩
    subst e
    have h1 := putOne h hp v
    have h2 := row_setCells vs (o + 1) _ _ h1 (by simp at hl ⊢; omega)
    have e1 : ((P ++ [v]) ++ Q).take (o + 1) = P ++ [v] := by rw [List.take_left' (by simp [hp])]
    have e2 : (P ++ a :: Q).take o = P := by rw [List.take_left' hp]
    have e3 : ((P ++ [v]) ++ Q).drop (o + 1 + vs.length) = (P ++ a :: Q).drop (o + (v :: vs).length) := by
      rw [drop_len (n := o + 1) (by simp [hp]), drop_len hp]
      rfl
    show ((w.setCell ⟨g, o, none⟩ v).setCells g (o + 1) vs).heap[g]? = _
    rw [h2, e1, e2, e3]
    simp
theorem gb_setCell (w : World) (g i : Nat) (v : Value) : w.grownBy (w.setCell ⟨g, i, none⟩ v) (some g) := ⟨rfl, rfl, rfl, by simp [World.setCell], fun k hk hne => Below.heap_setCell _ _ _ _ (fun e => hne (by rw [e]))⟩
theorem gb_setCells (g : Nat) : ∀ (vs : List Value) (o : Nat) (w : World), w.grownBy (w.setCells g o vs) (some g)
  | [], o, w => gb_refl _ _
  | v :: vs, o, w => gb_trans (gb_setCell w g o v) (gb_setCells g vs (o + 1) _)
theorem gb_drew (w : World) (r : Option Nat) : w.grownBy w.drew r := gb_below (Below.drew (Below.refl _ _))
theorem run_clearN {P : Program} (w : World) (t e ty : TypeId) (z : Value) (k : Nat) (ht : P.underlying t = some (.slice e)) (hv : ∀ w, (zeroValue e).run P w = .ok z w) (hz : z.cells.size = k) (h1 : ∀ u ∈ z.cells, u.oneCell' = true) (b o n c : Nat) (hn : 0 < n)
    (hc : ∀ j, j < n * k → (w.cell? ⟨b, o + j, none⟩).isSome = true) (hf : ∀ j, j < n * k → w.frozen? ⟨b, o + j, none⟩ = false) :
    (Builtin.clear_ #[t] ty #[.slice (some ⟨b, o, none⟩) n c]).run P w = .ok (.tuple #[]) (w.setCells b o (Builtin.zeroCells z.cells n).toList) := by
  have hl : (Builtin.zeroCells z.cells n).toList.length = n * k := by rw [Array.length_toList, size_zeroCells, hz]
  have hst := run_storeCells_cells (P := P) b o (Builtin.zeroCells z.cells n).toList 0 w (by simpa [hl] using hc) (by simpa [hl] using hf) (by
    intro v hv'
    have hv2 : v ∈ Builtin.zeroCells z.cells n := by simpa using hv'
    unfold Builtin.zeroCells at hv2
    obtain ⟨i, hi, rfl⟩ := Array.mem_map.1 hv2
    have hlt : i < n * z.cells.size := by simpa using hi
    have hpos : 0 < z.cells.size := by
      rcases Nat.eq_zero_or_pos z.cells.size with h0 | h0
      · rw [h0] at hlt; omega
      · exact h0
    have hm := Nat.mod_lt i hpos
    rw [getElem!_pos z.cells (i % z.cells.size) hm]
    exact h1 _ (Array.getElem_mem hm))
  simp only [Nat.add_zero] at hst
  obtain ⟨m, rfl⟩ : ∃ m, n = m + 1 := ⟨n - 1, by omega⟩
  simp [Builtin.clear_, run_underlying ht, hv, hst]
abbrev zeroUp : Array Value := #[.int .i64 0, .string ⟨#[]⟩, .string ⟨#[]⟩, .slice none 0 0]
theorem zerozeroVe_run (w : World) : (zeroValue 36).run Tryz.prog w = .ok (.agg zeroVe) w := by kernel_rfl
theorem zerozeroUp_run (w : World) : (zeroValue 102).run Tryz.prog w = .ok (.agg zeroUp) w := by kernel_rfl
set_option maxHeartbeats 2000000 in
theorem deleteV_any (g m cap i : Nat) (cur : List Value) (w : World) (hrow : w.heap[g]? = some (.cells cur.toArray 36 (0, 0))) (hc : cur.length = cap * 12) (hn : m + 1 ≤ cap) (hcap : cap ≤ 9223372036854775807) (hi : i ≤ m) (h1 : ∀ u ∈ cur.take ((m + 1) * 12), u.oneCell' = true) :
    Calls Tryz.prog 162 #[.slice (some ⟨g, 0, none⟩) (m + 1) cap, .int .i64 i, .int .i64 ((i : Int) + 1)] w fun e w' => e = .returned (.slice (some ⟨g, 0, none⟩) m cap) ∧
      (∃ cur' : List Value, w'.heap[g]? = some (.cells cur'.toArray 36 (0, 0)) ∧ cur'.length = cap * 12 ∧ cur'.take (m * 12) = cur.take (i * 12) ++ (cur.take ((m + 1) * 12)).drop ((i + 1) * 12)) ∧ w.grownBy w' (some g) := by
  obtain ⟨i0, hi0, hz0, hz1, hz2⟩ := info_parts infoVe
  obtain ⟨M, hM⟩ : ∃ M, (cur.take ((m + 1) * 12)).drop ((i + 1) * 12) = M := ⟨_, rfl⟩
  have hMl : M.length = (m - i) * 12 := by rw [← hM, List.length_drop, List.length_take, hc]; omega
  have hcell : ∀ j v, cur[j]? = some v → w.cell? ⟨g, j, none⟩ = some v := fun j v hv => cell_of hrow j (by simpa using hv)
  obtain ⟨A, hA, hnews⟩ : ∃ A : Addr, (if cap = i + 1 then some (⟨g, 0, none⟩ : Addr) else some ⟨g, (i + 1) * 12, none⟩) = some A ∧ Hid (∀ j u, M[j]? = some u → w.drew.cell? (A.add j) = some u) := by
    by_cases h : cap = i + 1
    · refine ⟨⟨g, 0, none⟩, by simp [h], fun j u hu => ?_⟩
      have h0 : M.length = 0 := by rw [hMl]; omega
      rw [List.length_eq_zero_iff.1 h0] at hu
      simp at hu
    · refine ⟨⟨g, (i + 1) * 12, none⟩, by simp [h], fun j u hu => ?_⟩
      rw [addI]
      refine hcell _ _ ?_
      have hj : j < M.length := (List.getElem?_eq_some_iff.1 hu).1
      rw [← hM, List.getElem?_drop, List.getElem?_take_of_lt (by omega)] at hu
      exact hu
  have s1 : Hid (M.length = (m - i) * 12) := hMl
  have s2 : Hid (∀ u ∈ M, u.oneCell' = true) := fun u hu => h1 u (List.mem_of_mem_drop (by rw [hM]; exact hu))
  have s3 : Hid (∀ j, j < M.length → (w.drew.cell? ⟨g, 0 + i * 12 + j, none⟩).isSome = true ∧ w.drew.frozen? ⟨g, 0 + i * 12 + j, none⟩ = false) := by
    intro j hj
    rw [hMl] at hj
    have hlt : 0 + i * 12 + j < cur.length := by rw [hc]; omega
    exact ⟨by show (w.cell? _).isSome = true; rw [hcell _ _ (List.getElem?_eq_getElem hlt)]; rfl, fz_of hrow _⟩
  -- behind the append, and behind the clear
  obtain ⟨W1, hW1⟩ : ∃ W1, w.drew.setCells g (0 + i * 12) M = W1 := ⟨_, rfl⟩
  have hr1 : W1.heap[g]? = some (.cells (cur.take (i * 12) ++ M ++ cur.drop (i * 12 + M.length)).toArray 36 (0, 0)) := by
    rw [← hW1, Nat.zero_add]
    exact row_setCells M (i * 12) w.drew cur hrow (by rw [hMl, hc]; omega)
  have hg1 : w.grownBy W1 (some g) := by rw [← hW1]; exact gb_trans (gb_drew w _) (gb_setCells g M _ _)
  obtain ⟨cur1, hcur1⟩ : ∃ c1, cur.take (i * 12) ++ M ++ cur.drop (i * 12 + M.length) = c1 := ⟨_, rfl⟩
  have hl1 : cur1.length = cap * 12 := by rw [← hcur1, List.length_append, List.length_append, List.length_take, List.length_drop, hMl, hc]; omega
  have ht1 : cur1.take (m * 12) = cur.take (i * 12) ++ M := by
    rw [← hcur1]
    exact List.take_left' (by rw [List.length_append, List.length_take, hMl, hc]; omega)
  rw [hcur1] at hr1
  obtain ⟨Z, hZ⟩ : ∃ Z, (Builtin.zeroCells (Value.agg zeroVe).cells 1).toList = Z := ⟨_, rfl⟩
  have hZl : Z.length = 12 := by rw [← hZ, Array.length_toList, size_zeroCells]; rfl
  have hcl : ∀ ty, (Builtin.clear_ #[24] ty #[.slice (some ⟨g, m * 12, none⟩) 1 (cap - m)]).run Tryz.prog W1 = .ok (.tuple #[]) (W1.setCells g (m * 12) Z) := fun ty => by
    rw [← hZ]
    refine run_clearN W1 24 36 ty (.agg zeroVe) 12 Tryz.underlying24 zerozeroVe_run rfl (by simp [Value.cells, Value.oneCell']) g (m * 12) 1 _ (by decide) (fun j hj => ?_) (fun j hj => fz_of hr1 _)
    have hlt : m * 12 + j < cur1.length := by rw [hl1]; omega
    rw [cell_of hr1 _ (v := cur1[m * 12 + j]) (by simp [hlt])]
    rfl
  have hr2 : (W1.setCells g (m * 12) Z).heap[g]? = some (.cells (cur1.take (m * 12) ++ Z ++ cur1.drop (m * 12 + Z.length)).toArray 36 (0, 0)) := row_setCells Z (m * 12) W1 cur1 hr1 (by rw [hZl, hl1]; omega)
  have HG : Hid ((∃ cur' : List Value, (W1.setCells g (m * 12) Z).heap[g]? = some (.cells cur'.toArray 36 (0, 0)) ∧ cur'.length = cap * 12 ∧ cur'.take (m * 12) = cur.take (i * 12) ++ (cur.take ((m + 1) * 12)).drop ((i + 1) * 12)) ∧ w.grownBy (W1.setCells g (m * 12) Z) (some g)) := by
    refine ⟨⟨_, hr2, ?_, ?_⟩, gb_trans hg1 (gb_setCells g Z _ _)⟩
    · rw [List.length_append, List.length_append, List.length_take, List.length_drop, hZl, hl1]; omega
    · rw [hM, ← ht1, List.append_assoc]
      exact List.take_left' (by rw [List.length_take, hl1]; omega)
  rw [Nat.zero_add] at hW1
  have HW1 := hide hW1
  have hic : i ≤ cap := by omega
  have him : i ≤ m + 1 := by omega
  have hne : ((i : Int) == (i : Int) + 1) = false := by simp; omega
  have hp0 : (0 : Int) ≤ (i : Int) + 1 := by omega
  have hp1 : (i : Int) + 1 ≤ (m : Int) + 1 := by omega
  have hp2 : ((i : Int) + 1).toNat = i + 1 := by omega
  have hlen : i + (m - i) = m := by omega
  have hcm : ¬ cap = m := by omega
  clear hcell hM hMl hr1 hg1 hcur1 hl1 ht1 hr2 hZ hZl hW1 hrow h1
  go_enter Tryz.func162, Tryz.ntmps162
  go_wp2_with fail
  go_region_law (refine step_append_room rfl (.tmp 22) (.tmp 25) 24 rfl 36 i0 12 Tryz.underlying24 hi0 hz1 g 0 i cap (by simp [Act.eval, Act.put]) A (m - i) (cap - (i + 1)) M (by simp [Act.eval, Act.put]) s1.out hnews.out s2.out (by omega) s3.out ?_)
  all_goals
    rw [unhide HW1]
    go_wp2
    go_ret
    exact ⟨rfl, unhide HG⟩
set_option maxHeartbeats 2000000 in
theorem deleteU_any (g m cap i : Nat) (cur : List Value) (w : World) (hrow : w.heap[g]? = some (.cells cur.toArray 102 (0, 0))) (hc : cur.length = cap * 4) (hn : m + 1 ≤ cap) (hcap : cap ≤ 9223372036854775807) (hi : i ≤ m) (h1 : ∀ u ∈ cur.take ((m + 1) * 4), u.oneCell' = true) :
    Calls Tryz.prog 132 #[.slice (some ⟨g, 0, none⟩) (m + 1) cap, .int .i64 i, .int .i64 ((i : Int) + 1)] w fun e w' => e = .returned (.slice (some ⟨g, 0, none⟩) m cap) ∧
      (∃ cur' : List Value, w'.heap[g]? = some (.cells cur'.toArray 102 (0, 0)) ∧ cur'.length = cap * 4 ∧ cur'.take (m * 4) = cur.take (i * 4) ++ (cur.take ((m + 1) * 4)).drop ((i + 1) * 4)) ∧ w.grownBy w' (some g) := by
  obtain ⟨i0, hi0, hz0, hz1, hz2⟩ := info_parts infoUp
  obtain ⟨M, hM⟩ : ∃ M, (cur.take ((m + 1) * 4)).drop ((i + 1) * 4) = M := ⟨_, rfl⟩
  have hMl : M.length = (m - i) * 4 := by rw [← hM, List.length_drop, List.length_take, hc]; omega
  have hcell : ∀ j v, cur[j]? = some v → w.cell? ⟨g, j, none⟩ = some v := fun j v hv => cell_of hrow j (by simpa using hv)
  obtain ⟨A, hA, hnews⟩ : ∃ A : Addr, (if cap = i + 1 then some (⟨g, 0, none⟩ : Addr) else some ⟨g, (i + 1) * 4, none⟩) = some A ∧ Hid (∀ j u, M[j]? = some u → w.drew.cell? (A.add j) = some u) := by
    by_cases h : cap = i + 1
    · refine ⟨⟨g, 0, none⟩, by simp [h], fun j u hu => ?_⟩
      have h0 : M.length = 0 := by rw [hMl]; omega
      rw [List.length_eq_zero_iff.1 h0] at hu
      simp at hu
    · refine ⟨⟨g, (i + 1) * 4, none⟩, by simp [h], fun j u hu => ?_⟩
      rw [addI]
      refine hcell _ _ ?_
      have hj : j < M.length := (List.getElem?_eq_some_iff.1 hu).1
      rw [← hM, List.getElem?_drop, List.getElem?_take_of_lt (by omega)] at hu
      exact hu
  have s1 : Hid (M.length = (m - i) * 4) := hMl
  have s2 : Hid (∀ u ∈ M, u.oneCell' = true) := fun u hu => h1 u (List.mem_of_mem_drop (by rw [hM]; exact hu))
  have s3 : Hid (∀ j, j < M.length → (w.drew.cell? ⟨g, 0 + i * 4 + j, none⟩).isSome = true ∧ w.drew.frozen? ⟨g, 0 + i * 4 + j, none⟩ = false) := by
    intro j hj
    rw [hMl] at hj
    have hlt : 0 + i * 4 + j < cur.length := by rw [hc]; omega
    exact ⟨by show (w.cell? _).isSome = true; rw [hcell _ _ (List.getElem?_eq_getElem hlt)]; rfl, fz_of hrow _⟩
  -- behind the append, and behind the clear
  obtain ⟨W1, hW1⟩ : ∃ W1, w.drew.setCells g (0 + i * 4) M = W1 := ⟨_, rfl⟩
  have hr1 : W1.heap[g]? = some (.cells (cur.take (i * 4) ++ M ++ cur.drop (i * 4 + M.length)).toArray 102 (0, 0)) := by
    rw [← hW1, Nat.zero_add]
    exact row_setCells M (i * 4) w.drew cur hrow (by rw [hMl, hc]; omega)
  have hg1 : w.grownBy W1 (some g) := by rw [← hW1]; exact gb_trans (gb_drew w _) (gb_setCells g M _ _)
  obtain ⟨cur1, hcur1⟩ : ∃ c1, cur.take (i * 4) ++ M ++ cur.drop (i * 4 + M.length) = c1 := ⟨_, rfl⟩
  have hl1 : cur1.length = cap * 4 := by rw [← hcur1, List.length_append, List.length_append, List.length_take, List.length_drop, hMl, hc]; omega
  have ht1 : cur1.take (m * 4) = cur.take (i * 4) ++ M := by
    rw [← hcur1]
    exact List.take_left' (by rw [List.length_append, List.length_take, hMl, hc]; omega)
  rw [hcur1] at hr1
  obtain ⟨Z, hZ⟩ : ∃ Z, (Builtin.zeroCells (Value.agg zeroUp).cells 1).toList = Z := ⟨_, rfl⟩
  have hZl : Z.length = 4 := by rw [← hZ, Array.length_toList, size_zeroCells]; rfl
  have hcl : ∀ ty, (Builtin.clear_ #[25] ty #[.slice (some ⟨g, m * 4, none⟩) 1 (cap - m)]).run Tryz.prog W1 = .ok (.tuple #[]) (W1.setCells g (m * 4) Z) := fun ty => by
    rw [← hZ]
    refine run_clearN W1 25 102 ty (.agg zeroUp) 4 Tryz.underlying25 zerozeroUp_run rfl (by simp [Value.cells, Value.oneCell']) g (m * 4) 1 _ (by decide) (fun j hj => ?_) (fun j hj => fz_of hr1 _)
    have hlt : m * 4 + j < cur1.length := by rw [hl1]; omega
    rw [cell_of hr1 _ (v := cur1[m * 4 + j]) (by simp [hlt])]
    rfl
  have hr2 : (W1.setCells g (m * 4) Z).heap[g]? = some (.cells (cur1.take (m * 4) ++ Z ++ cur1.drop (m * 4 + Z.length)).toArray 102 (0, 0)) := row_setCells Z (m * 4) W1 cur1 hr1 (by rw [hZl, hl1]; omega)
  have HG : Hid ((∃ cur' : List Value, (W1.setCells g (m * 4) Z).heap[g]? = some (.cells cur'.toArray 102 (0, 0)) ∧ cur'.length = cap * 4 ∧ cur'.take (m * 4) = cur.take (i * 4) ++ (cur.take ((m + 1) * 4)).drop ((i + 1) * 4)) ∧ w.grownBy (W1.setCells g (m * 4) Z) (some g)) := by
    refine ⟨⟨_, hr2, ?_, ?_⟩, gb_trans hg1 (gb_setCells g Z _ _)⟩
    · rw [List.length_append, List.length_append, List.length_take, List.length_drop, hZl, hl1]; omega
    · rw [hM, ← ht1, List.append_assoc]
      exact List.take_left' (by rw [List.length_take, hl1]; omega)
  rw [Nat.zero_add] at hW1
  have HW1 := hide hW1
  have hic : i ≤ cap := by omega
  have him : i ≤ m + 1 := by omega
  have hne : ((i : Int) == (i : Int) + 1) = false := by simp; omega
  have hp0 : (0 : Int) ≤ (i : Int) + 1 := by omega
  have hp1 : (i : Int) + 1 ≤ (m : Int) + 1 := by omega
  have hp2 : ((i : Int) + 1).toNat = i + 1 := by omega
  have hlen : i + (m - i) = m := by omega
  have hcm : ¬ cap = m := by omega
  clear hcell hM hMl hr1 hg1 hcur1 hl1 ht1 hr2 hZ hZl hW1 hrow h1
  go_enter Tryz.func132, Tryz.ntmps132
  go_wp2_with fail
  go_region_law (refine step_append_room rfl (.tmp 22) (.tmp 25) 25 rfl 102 i0 4 Tryz.underlying25 hi0 hz1 g 0 i cap (by simp [Act.eval, Act.put]) A (m - i) (cap - (i + 1)) M (by simp [Act.eval, Act.put]) s1.out hnews.out s2.out (by omega) s3.out ?_)
  all_goals
    rw [unhide HW1]
    go_wp2
    go_ret
    exact ⟨rfl, unhide HG⟩
end Go.Proofs.YtdgmdapijhbocaaGreat
