/- hot.Fetch and icehouseref.PieceOf: one answer. -/
import Derived.Test.YtdalkkjojflakaaFet
import Derived.Test.YtdalkkjojflakaaHdo
import Derived.Test.YtdalkkjojflakaaPie
import Derived.Deep.RegionHeld3
import Derived.Deep.DeepCutAuto
import Derived.Test.YtdalkkjojflakaaStr
namespace Go.Proofs.Ytdalkkjojflakaa
open Go.RowKit
set_option linter.unusedVariables false
set_option linter.unusedSimpArgs false

theorem isId_any (n : Int) (w : World) : Calls Try.prog 25 #[.int .i64 n] w fun e w' => e = .returned (.bool (inB n 1 1048576)) ∧ w = w' := by
  by_cases h1 : 1 ≤ n
  · go_enter Try.func25, Try.ntmps25
    go_wp2
    go_ret
    exact ⟨ret_bool (by simp [inB, h1]), rfl⟩
  · go_enter Try.func25, Try.ntmps25
    go_wp2
    go_ret
    exact ⟨ret_bool (by simp [inB]; omega), rfl⟩
theorem isSize_any (n : Int) (w : World) : Calls Try.prog 26 #[.int .i64 n] w fun e w' => e = .returned (.bool (inB n 0 600)) ∧ w = w' := by
  by_cases h1 : 0 ≤ n
  · go_enter Try.func26, Try.ntmps26
    go_wp2
    go_ret
    exact ⟨ret_bool (by simp [inB, h1]), rfl⟩
  · go_enter Try.func26, Try.ntmps26
    go_wp2
    go_ret
    exact ⟨ret_bool (by simp [inB]; omega), rfl⟩

theorem Bts.pre {w : World} {a : Option Addr} {L cap : Nat} {xs : List Int} (h : Bts w (.slice a L cap) xs) {k : Nat} (hk : k ≤ L) : Bts w (.slice a k cap) (xs.take k) := by
  obtain ⟨a', cap', e, l1, m1, hc⟩ := h
  simp at e
  obtain ⟨rfl, rfl, rfl⟩ := e
  have hl : (xs.take k).length = k := by simp; omega
  refine ⟨a, cap, by rw [hl], by rw [hl]; omega, m1, fun i hi => ?_⟩
  rw [hl] at hi
  obtain ⟨b, o, rfl, hcell⟩ := hc i (by omega)
  exact ⟨b, o, rfl, by rw [hcell]; congr 2; simp [List.getD, List.getElem?_take, hi]⟩

/-- Are two texts the same? As Go's own comparison says it. -/
def eqT (xs ys : List Int) : Bool := (strOfNums xs).toList == (strOfNums ys).toList
theorem equal_any (u v : Value) (xs ys : List Int) (w : World) (h : Bts w u xs) (h' : Bts w v ys) :
    Calls Try.prog 33 #[u, v] w fun e w' => e = .returned (.bool (eqT xs ys)) ∧ w = w' := by
  have s1 := h.str
  have s2 := h'.str
  clear h h'
  go_enter Try.func33, Try.ntmps33
  go_wp2
  go_ret
  exact ⟨rfl, rfl⟩

/-- What the fetch of a piece answers. -/
def hftE (D : Dv) (x i p n e : Int) : Int :=
  if inB i 1 1048576 && inB n 0 600 then (if fetE D x p (6 + n) e = 0 then (if eqT ((fetL D x p (6 + n)).take 6) (hdL i n) then 0 else 4) else fetE D x p (6 + n) e) else 2
def hftL (D : Dv) (x p n : Int) : List Int := (fetL D x p (6 + n)).drop 6
theorem hftE_bad {D : Dv} {x i p n e : Int} (h : (inB i 1 1048576 && inB n 0 600) = false) : hftE D x i p n e = 2 := by simp only [hftE, h]; rfl
theorem hftE_no {D : Dv} {x i p n e : Int} (h : (inB i 1 1048576 && inB n 0 600) = true) (h1 : fetE D x p (6 + n) e ≠ 0) : hftE D x i p n e = fetE D x p (6 + n) e := by simp only [hftE, h, if_true, if_neg h1]
theorem hftE_eq {D : Dv} {x i p n e : Int} (h : (inB i 1 1048576 && inB n 0 600) = true) (h1 : fetE D x p (6 + n) e = 0) : hftE D x i p n e = if eqT ((fetL D x p (6 + n)).take 6) (hdL i n) then 0 else 4 := by simp only [hftE, h, if_true, if_pos h1]
theorem fetL_len {D : Dv} {x p n e : Int} (h : fetE D x p n e = 0) : ((fetL D x p n).length : Int) = n := by
  unfold fetE at h
  split at h
  · split at h
    · split at h
      · rename_i hh
        rw [Bool.and_eq_true] at hh
        have h1 := inB_t hh.1
        have h2 := inB_t hh.2
        unfold fetL
        rw [List.length_take, List.length_drop]
        omega
      · omega
    · omega
  · omega

set_option maxHeartbeats 1000000 in
set_option maxRecDepth 100000 in
theorem hotFetch_any (r a h vm nv : Int) (s c v : Value) (D : Dv) (x i p n : Int) (w : World) (hD : Dev w s c v D) :
    Calls Try.prog 13 #[.agg #[.int .i64 r, .int .i64 a, .int .i64 h, .int .i64 vm, .int .i64 nv], .agg #[s, c, v, .int .i64 D.fuel], .int .i64 x, .agg #[.int .i64 i, .int .i64 p, .int .i64 n]] w fun e w' =>
      ∃ u, e = .returned (.tuple #[u, .int .i64 (hftE D x i p n (chkE r a h vm nv D))]) ∧ Bts w' u (okL (hftE D x i p n (chkE r a h vm nv D)) (hftL D x p n)) ∧ Below w.heap.size w w' := by
  have HD := hide hD
  clear hD
  cases hin : (inB i 1 1048576 && inB n 0 600)
  case false =>
    have HE := hide (hftE_bad (D := D) (x := x) (p := p) (e := chkE r a h vm nv D) hin).symm
    cases hi : inB i 1 1048576
    · go_enter Try.func13, Try.ntmps13
      go_wp2_with (first | (go_at_call 25; refine (isId_any _ _).mono ?_; rintro e w' ⟨rfl, rfl⟩) | (go_at_call 26; refine (isSize_any _ _).mono ?_; rintro e w' ⟨rfl, rfl⟩))
      go_ret2
      exact ⟨_, ret_pair (unhide HE), by rw [← unhide HE]; exact Bts.nil _, bl3 _ _ _ _⟩
    · have hn : inB n 0 600 = false := by simpa [hi] using hin
      go_enter Try.func13, Try.ntmps13
      go_wp2_with (first | (go_at_call 25; refine (isId_any _ _).mono ?_; rintro e w' ⟨rfl, rfl⟩) | (go_at_call 26; refine (isSize_any _ _).mono ?_; rintro e w' ⟨rfl, rfl⟩))
      go_ret2
      exact ⟨_, ret_pair (unhide HE), by rw [← unhide HE]; exact Bts.nil _, bl3 _ _ _ _⟩
  have hi : inB i 1 1048576 = true := by rw [Bool.and_eq_true] at hin; exact hin.1
  have hn : inB n 0 600 = true := by rw [Bool.and_eq_true] at hin; exact hin.2
  obtain ⟨hn0, hn1⟩ := inB_t hn
  have HIN := hide hin
  clear hin
  go_enter Try.func13, Try.ntmps13
  go_upto_region 3 with (first | (go_at_call 25; refine (isId_any _ _).mono ?_; rintro e w' ⟨rfl, rfl⟩) | (go_at_call 26; refine (isSize_any _ _).mono ?_; rintro e w' ⟨rfl, rfl⟩) | fail)
  generalize hWW : World.alloc (World.alloc (World.alloc w _) _) _ = W3
  have h3 : (W3.cell? ⟨w.heap.size, 0, none⟩ = some (.int .i64 r) ∧ W3.cell? ⟨w.heap.size, 1, none⟩ = some (.int .i64 a) ∧ W3.cell? ⟨w.heap.size, 2, none⟩ = some (.int .i64 h) ∧ W3.cell? ⟨w.heap.size, 3, none⟩ = some (.int .i64 vm) ∧ W3.cell? ⟨w.heap.size, 4, none⟩ = some (.int .i64 nv) ∧ W3.cell? ⟨w.heap.size + 1, 0, none⟩ = some s ∧ W3.cell? ⟨w.heap.size + 1, 1, none⟩ = some c ∧ W3.cell? ⟨w.heap.size + 1, 2, none⟩ = some v ∧ W3.cell? ⟨w.heap.size + 1, 3, none⟩ = some (.int .i64 D.fuel) ∧ W3.cell? ⟨w.heap.size + 1 + 1, 0, none⟩ = some (.int .i64 i) ∧ W3.cell? ⟨w.heap.size + 1 + 1, 1, none⟩ = some (.int .i64 p) ∧ W3.cell? ⟨w.heap.size + 1 + 1, 2, none⟩ = some (.int .i64 n)) ∧ Below w.heap.size w W3 := by
    rw [← hWW]
    exact ⟨⟨box3a (Below.refl _ _) 0 rfl, box3a (Below.refl _ _) 1 rfl, box3a (Below.refl _ _) 2 rfl, box3a (Below.refl _ _) 3 rfl, box3a (Below.refl _ _) 4 rfl, box3b (Below.refl _ _) 0 rfl, box3b (Below.refl _ _) 1 rfl, box3b (Below.refl _ _) 2 rfl, box3b (Below.refl _ _) 3 rfl, box3c (Below.refl _ _) 0 rfl, box3c (Below.refl _ _) 1 rfl, box3c (Below.refl _ _) 2 rfl⟩, bl3 _ _ _ _⟩
  clear hWW
  obtain ⟨⟨k0, k1, k2, k3, k4, k5, k6, k7, k8, k9, k10, k11⟩, hb3⟩ := h3
  have KS : Hid (∀ w', Below W3.heap.size W3 w' → (w'.cell? ⟨w.heap.size, 0, none⟩ = some (.int .i64 r) ∧ w'.cell? ⟨w.heap.size, 1, none⟩ = some (.int .i64 a) ∧ w'.cell? ⟨w.heap.size, 2, none⟩ = some (.int .i64 h) ∧ w'.cell? ⟨w.heap.size, 3, none⟩ = some (.int .i64 vm) ∧ w'.cell? ⟨w.heap.size, 4, none⟩ = some (.int .i64 nv) ∧ w'.cell? ⟨w.heap.size + 1, 0, none⟩ = some s ∧ w'.cell? ⟨w.heap.size + 1, 1, none⟩ = some c ∧ w'.cell? ⟨w.heap.size + 1, 2, none⟩ = some v ∧ w'.cell? ⟨w.heap.size + 1, 3, none⟩ = some (.int .i64 D.fuel) ∧ w'.cell? ⟨w.heap.size + 1 + 1, 0, none⟩ = some (.int .i64 i) ∧ w'.cell? ⟨w.heap.size + 1 + 1, 1, none⟩ = some (.int .i64 p) ∧ w'.cell? ⟨w.heap.size + 1 + 1, 2, none⟩ = some (.int .i64 n))) := fun w' hb => ⟨cell_up hb k0, cell_up hb k1, cell_up hb k2, cell_up hb k3, cell_up hb k4, cell_up hb k5, cell_up hb k6, cell_up hb k7, cell_up hb k8, cell_up hb k9, cell_up hb k10, cell_up hb k11⟩
  have hB0 : Below w.heap.size w W3.drew := hb3.drew
  have hS0 := unhide KS _ (Below.drew (Below.refl W3.heap.size W3))
  have HB3 := hide hb3
  clear k0 k1 k2 k3 k4 k5 k6 k7 k8 k9 k10 k11 hb3
  go_region_held3 (fun w' => w'.cell? ⟨w.heap.size, 0, none⟩ = some (.int .i64 r) ∧ w'.cell? ⟨w.heap.size, 1, none⟩ = some (.int .i64 a) ∧ w'.cell? ⟨w.heap.size, 2, none⟩ = some (.int .i64 h) ∧ w'.cell? ⟨w.heap.size, 3, none⟩ = some (.int .i64 vm) ∧ w'.cell? ⟨w.heap.size, 4, none⟩ = some (.int .i64 nv) ∧ w'.cell? ⟨w.heap.size + 1, 0, none⟩ = some s ∧ w'.cell? ⟨w.heap.size + 1, 1, none⟩ = some c ∧ w'.cell? ⟨w.heap.size + 1, 2, none⟩ = some v ∧ w'.cell? ⟨w.heap.size + 1, 3, none⟩ = some (.int .i64 D.fuel) ∧ w'.cell? ⟨w.heap.size + 1 + 1, 0, none⟩ = some (.int .i64 i) ∧ w'.cell? ⟨w.heap.size + 1 + 1, 1, none⟩ = some (.int .i64 p) ∧ w'.cell? ⟨w.heap.size + 1 + 1, 2, none⟩ = some (.int .i64 n))
    (first | exact hS0 | exact hS1 | fail)
    (first
      | (go_at_call 32; refine (pSize_any n _ (by omega) (by omega)).mono ?_; rintro e w' ⟨rfl, rfl⟩)
      | (go_at_call 31; refine (fetch_any r a h vm nv s c v D x p (6 + n) _ ((unhide HD).up hB0)).mono ?_; rintro e w1 ⟨u, rfl, hB1, hb1⟩; have hS1 := unhide KS _ (bl_trans (Below.drew (Below.refl W3.heap.size W3)) hb1))
      | fail)
  all_goals (
    have hb0 : Below w.heap.size w w1 := bl_trans hB0 hb1
    obtain ⟨_, _, _, _, _, _, _, _, _, c0, c1, c2⟩ := hS1
    clear hb1 hi hn hS0 hB0
    obtain ⟨E, hE⟩ : ∃ E, fetE D x p (6 + n) (chkE r a h vm nv D) = E := ⟨_, rfl⟩
    rw [hE] at hB1 ⊢
    by_cases hE0 : E = 0
    case neg =>
      have t1 : (E != 0) = true := by simpa using hE0
      have HE : Hid (E = hftE D x i p n (chkE r a h vm nv D)) := by rw [hftE_no (unhide HIN) (by rw [hE]; exact hE0)]; exact hE.symm
      have HE0 := hide hE0
      clear hE hE0 hB1
      go_wp2
      go_ret2
      exact ⟨_, ret_pair (unhide HE), by rw [← unhide HE, okLn (unhide HE0)]; exact Bts.nil _, hb0⟩
    subst hE0
    rw [okL0] at hB1
    have hl := fetL_len hE
    have HQ := hide (hftE_eq (unhide HIN) hE)
    obtain ⟨L, hL⟩ : ∃ L : Nat, (fetL D x p (6 + n)).length = L := ⟨_, rfl⟩
    rw [hL] at hl
    have HB := hide hB1
    obtain ⟨ya, cp, rfl, ly, my, _⟩ := hB1
    rw [hL] at ly HB ⊢
    unfold maxLen at my
    have hL6 : 6 ≤ L := by omega
    have HP := hide ((unhide HB).pre hL6)
    have HC := hide ((unhide HB).cut (x := 6) (y := L) hL6 (Nat.le_refl _))
    have hlb : w.heap.size + 2 < w1.heap.size := World.block_lt_of_cell? w1 _ c0
    have hLL : L ≤ 606 := by omega
    clear hE hL hl
    go_wp2
    obtain ⟨Bq, hBq⟩ : ∃ Bq, eqT ((fetL D x p (6 + n)).take 6) (hdL i n) = Bq := ⟨_, rfl⟩
    have HBQ := hide hBq
    clear hBq
    go_region_with (first
      | (go_at_call 27; refine (head_any _ _ _ _).mono ?_; rintro e w2 ⟨u2, rfl, h2, b2⟩; replace b2 := (Below.drew (Below.refl w1.heap.size w1)).trans b2)
      | (go_at_call 33; refine (equal_any _ _ _ _ _ ((unhide HP).up b2) h2.bts).mono ?_; rintro e w3 ⟨rfl, rfl⟩; rw [unhide HBQ]))
    all_goals
      cases Bq
      case false =>
        have HE : Hid (4 = hftE D x i p n (chkE r a h vm nv D)) := by show _ = _; rw [unhide HQ, unhide HBQ]; rfl
        go_wp2
        go_ret2
        exact ⟨_, ret_pair (unhide HE), by rw [← unhide HE]; exact Bts.nil _, bl_trans hb0 b2⟩
      case true =>
        have HE : Hid (0 = hftE D x i p n (chkE r a h vm nv D)) := by show _ = _; rw [unhide HQ, unhide HBQ]; rfl
        have HF : Hid (hftL D x p n = ((fetL D x p (6 + n)).take L).drop 6) := by
          show _ = _
          obtain ⟨_, _, e, _⟩ := unhide HB
          simp at e
          unfold hftL
          rw [List.take_of_length_le (by omega)]
        have HB1 : Hid (cp = 6 → Bts w2 (.slice ya (L - 6) 0) (hftL D x p n)) := fun e => by
          have := (unhide HC).up b2
          rw [if_pos e, show cp - 6 = 0 by omega, ← unhide HF] at this
          exact this
        have HB2 : Hid (¬ cp = 6 → Bts w2 (.slice (ya.map (fun p => p.add 6)) (L - 6) (cp - 6)) (hftL D x p n)) := fun e => by
          have := (unhide HC).up b2
          rw [if_neg e, ← unhide HF] at this
          exact this
        go_wp2
        · go_ret2
          exact ⟨_, ret_pair (unhide HE), by rw [← unhide HE, okL0]; exact unhide HB1 (by assumption), bl_trans hb0 b2⟩
        · go_ret2
          exact ⟨_, ret_pair (unhide HE), by rw [← unhide HE, okL0]; exact unhide HB2 (by assumption), bl_trans hb0 b2⟩)
end Go.Proofs.Ytdalkkjojflakaa
