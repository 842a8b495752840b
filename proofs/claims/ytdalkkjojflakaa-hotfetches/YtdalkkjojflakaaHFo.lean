/- icehouseref.PieceOf: what hot.Fetch answers. -/
import Derived.Test.YtdalkkjojflakaaHFt
import Derived.Deep.DeepCutAuto
namespace Go.Proofs.Ytdalkkjojflakaa
open Go.RowKit
set_option linter.unusedVariables false
set_option linter.unusedSimpArgs false

set_option maxHeartbeats 1000000 in
set_option maxRecDepth 100000 in
theorem pieceOf_any (r a h vm nv : Int) (s c v : Value) (D : Dv) (x i p n : Int) (w : World) (hD : Dev w s c v D) :
    Calls Try.prog 14 #[.agg #[.int .i64 r, .int .i64 a, .int .i64 h, .int .i64 vm, .int .i64 nv], .agg #[s, c, v, .int .i64 D.fuel], .int .i64 x, .agg #[.int .i64 i, .int .i64 p, .int .i64 n]] w fun e w' =>
      ∃ u, e = .returned (.tuple #[u, .int .i64 (hftE D x i p n (chkE r a h vm nv D))]) ∧ Bts w' u (okL (hftE D x i p n (chkE r a h vm nv D)) (hftL D x p n)) ∧ Below w.heap.size w w' := by
  have HD := hide hD
  clear hD
  cases hin : (inB i 1 1048576 && inB n 0 600)
  case false =>
    have HE := hide (hftE_bad (D := D) (x := x) (p := p) (e := chkE r a h vm nv D) hin).symm
    cases hi : inB i 1 1048576
    · go_enter Try.func14, Try.ntmps14
      go_wp2_with (go_at_call 28; refine (in_any _ _ _ _).mono ?_; rintro e w' ⟨rfl, rfl⟩)
      go_ret2
      exact ⟨_, ret_pair (unhide HE), by rw [← unhide HE]; exact Bts.nil _, bl3 _ _ _ _⟩
    · have hn : inB n 0 600 = false := by simpa [hi] using hin
      go_enter Try.func14, Try.ntmps14
      go_wp2_with (go_at_call 28; refine (in_any _ _ _ _).mono ?_; rintro e w' ⟨rfl, rfl⟩)
      go_ret2
      exact ⟨_, ret_pair (unhide HE), by rw [← unhide HE]; exact Bts.nil _, bl3 _ _ _ _⟩
  have hi : inB i 1 1048576 = true := by rw [Bool.and_eq_true] at hin; exact hin.1
  have hn : inB n 0 600 = true := by rw [Bool.and_eq_true] at hin; exact hin.2
  obtain ⟨hn0, hn1⟩ := inB_t hn
  obtain ⟨hi0, hi1⟩ := inB_t hi
  replace hi0 : 0 ≤ i := by omega
  have HIN := hide hin
  clear hin
  go_enter Try.func14, Try.ntmps14
  go_wp2_with (go_at_call 28; refine (in_any _ _ _ _).mono ?_; rintro e w' ⟨rfl, rfl⟩)
  refine (fetchedOf_any r a h vm nv s c v D x p (6 + n) _ ((unhide HD).up (bl3 _ _ _ _))).mono ?_
  rintro e w1 ⟨u, rfl, hB1, hb1⟩
  have hb0 : Below w.heap.size w w1 := bl_trans (bl3 _ _ _ _) hb1
  have c0 := box3c hb1 0 rfl
  have c1 := box3c hb1 1 rfl
  have c2 := box3c hb1 2 rfl
  clear hb1 hi hn
  obtain ⟨E, hE⟩ : ∃ E, fetE D x p (6 + n) (chkE r a h vm nv D) = E := ⟨_, rfl⟩
  rw [hE] at hB1 ⊢
  by_cases hE0 : E = 0
  case neg =>
    have t1 : (E != 0) = true := by simpa using hE0
    have HE : Hid (E = hftE D x i p n (chkE r a h vm nv D)) := by rw [hftE_no (unhide HIN) (by rw [hE]; exact hE0)]; exact hE.symm
    have HE0 := hide hE0
    clear hE hE0 hB1
    go_wp2
    go_ret2
    exact ⟨_, ret_pair (unhide HE), by rw [← unhide HE, okLn (unhide HE0)]; exact Bts.nil _, hb0⟩
  subst hE0
  rw [okL0] at hB1
  have hl := fetL_len hE
  have HQ := hide (hftE_eq (unhide HIN) hE)
  obtain ⟨L, hL⟩ : ∃ L : Nat, (fetL D x p (6 + n)).length = L := ⟨_, rfl⟩
  rw [hL] at hl
  have HB := hide hB1
  obtain ⟨ya, cp, rfl, ly, my, _⟩ := hB1
  rw [hL] at ly HB ⊢
  unfold maxLen at my
  have hL6 : 6 ≤ L := by omega
  have HP := hide ((unhide HB).pre hL6)
  have HC := hide ((unhide HB).cut (x := 6) (y := L) hL6 (Nat.le_refl _))
  have hlb : w.heap.size + 2 < w1.heap.size := World.block_lt_of_cell? w1 _ c0
  have hLL : L ≤ 606 := by omega
  clear hE hL hl
  go_wp2
  obtain ⟨Bq, hBq⟩ : ∃ Bq, eqT ((fetL D x p (6 + n)).take 6) (hdL i n) = Bq := ⟨_, rfl⟩
  have HBQ := hide hBq
  clear hBq
  obtain ⟨iN, rfl⟩ := Int.eq_ofNat_of_zero_le hi0
  obtain ⟨nN, rfl⟩ := Int.eq_ofNat_of_zero_le hn0
  have s1 := ((unhide HP).up (Below.drew (Below.refl w1.heap.size w1))).str
  obtain ⟨S1, hS1⟩ : ∃ S1, strOfNums ((fetL D x p (6 + nN)).take 6) = S1 := ⟨_, rfl⟩
  obtain ⟨S2, hS2⟩ : ∃ S2, strOfNums (hdL (iN : Int) (nN : Int)) = S2 := ⟨_, rfl⟩
  have HS2 := hide hS2
  have HSS : Hid ((S1.toList == S2.toList) = Bq) := by show _ = _; rw [← unhide HBQ, ← hS1, ← hS2]; rfl
  rw [hS1] at s1
  have HS1 := hide hS1
  clear hS1 hS2
  go_cut [46] (fun q wc => q = .bool (!Bq) ∧ Below w1.heap.size w1 wc)
  case first =>
    go_region_with (go_at_call 30; refine (refHead_any _ _ _ (by omega) (by omega)).mono ?_; rintro e w2 ⟨u2, rfl, h2, b2⟩; replace b2 := (Below.drew (Below.refl w1.heap.size w1)).trans b2; have s2 := h2.bts.str; rw [unhide HS2] at s2; have s3 := ((unhide HP).up b2).str; rw [unhide HS1] at s3)
    all_goals
      go_wp2
      go_meet
      case rel => exact ⟨by rw [← unhide HSS], b2⟩
  case rest =>
    obtain ⟨rfl, b2⟩ := hcut
    cases Bq
    case false =>
      have HE : Hid (4 = hftE D x iN p nN (chkE r a h vm nv D)) := by show _ = _; rw [unhide HQ, unhide HBQ]; rfl
      go_wp2
      go_ret2
      exact ⟨_, ret_pair (unhide HE), by rw [← unhide HE]; exact Bts.nil _, bl_trans hb0 b2⟩
    case true =>
      have HE : Hid (0 = hftE D x iN p nN (chkE r a h vm nv D)) := by show _ = _; rw [unhide HQ, unhide HBQ]; rfl
      have HF : Hid (hftL D x p nN = ((fetL D x p (6 + nN)).take L).drop 6) := by
        show _ = _
        obtain ⟨_, _, e, _⟩ := unhide HB
        simp at e
        unfold hftL
        rw [List.take_of_length_le (by omega)]
      have HB1 : Hid (cp = 6 → Bts wc (.slice ya (L - 6) 0) (hftL D x p nN)) := fun e => by
        have := (unhide HC).up b2
        rw [if_pos e, show cp - 6 = 0 by omega, ← unhide HF] at this
        exact this
      have HB2 : Hid (¬ cp = 6 → Bts wc (.slice (ya.map (fun p => p.add 6)) (L - 6) (cp - 6)) (hftL D x p nN)) := fun e => by
        have := (unhide HC).up b2
        rw [if_neg e, ← unhide HF] at this
        exact this
      go_wp2
      · go_ret2
        exact ⟨_, ret_pair (unhide HE), by rw [← unhide HE, okL0]; exact unhide HB1 (by assumption), bl_trans hb0 b2⟩
      · go_ret2
        exact ⟨_, ret_pair (unhide HE), by rw [← unhide HE, okL0]; exact unhide HB2 (by assumption), bl_trans hb0 b2⟩
end Go.Proofs.Ytdalkkjojflakaa
