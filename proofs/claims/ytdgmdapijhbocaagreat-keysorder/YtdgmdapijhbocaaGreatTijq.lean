/- tier.Live. -/
import Derived.Test.YtdgmdapijhbocaaGreatTieq
import Derived.Test.YtdgmdapijhbocaaGreatPieq
namespace Go.Proofs.YtdgmdapijhbocaaGreat
open Go.RowKit Go.Maps
set_option maxRecDepth 100000
set_option linter.unusedVariables false
set_option linter.unusedSimpArgs false
/-- How many bytes of the first k versions live on volume n. -/
def livK (l : List Ve) (k : Nat) (n : Nat) : Int := (((l.take k).filter (fun x => onB x && x.vol == (n : Int))).map (fun x => x.size + 6)).sum
def livL (l : List Ve) (k : Nat) : List Int := (List.range 8).map (livK l k)
def livS (S : St) : List Int := if stC S then livL S.ves S.ves.length else []
theorem livS_f {S : St} (h : stC S = false) : livS S = [] := by simp [livS, h]
theorem livS_t {S : St} (h : stC S = true) : livS S = livL S.ves S.ves.length := by simp [livS, h]
theorem livL_len (l : List Ve) (k : Nat) : (livL l k).length = 8 := by simp [livL]
theorem livL_0 (l : List Ve) : livL l 0 = [0, 0, 0, 0, 0, 0, 0, 0] := by rfl
theorem livK_next {l : List Ve} {k : Nat} (hk : k < l.length) (n : Nat) : livK l (k + 1) n = livK l k n + (if onB (l.getD k ve0) && (l.getD k ve0).vol == (n : Int) then (l.getD k ve0).size + 6 else 0) := by
  unfold livK
  rw [take_next l ve0 hk, List.filter_append, List.map_append, List.sum_append]
  congr 1
  rw [List.filter_cons]
  split <;> simp
theorem livL_no {l : List Ve} {k : Nat} (hk : k < l.length) (h : onB (l.getD k ve0) = false) : livL l (k + 1) = livL l k := by
  unfold livL
  refine List.map_congr_left fun n _ => ?_
  rw [livK_next hk, h]; simp
theorem livL_at (l : List Ve) (k : Nat) {n : Nat} (hn : n < 8) : (livL l k).getD n 0 = livK l k n := by
  simp [livL, List.getD, hn]
theorem livL_yes {l : List Ve} {k v : Nat} (hk : k < l.length) (h : onB (l.getD k ve0) = true) (hv : (l.getD k ve0).vol = (v : Int)) (hv8 : v < 8) : livL l (k + 1) = (livL l k).set v (livK l k v + ((l.getD k ve0).size + 6)) := by
  apply List.ext_getElem
  · simp [livL]
  · intro i h1 h2
    have hi : i < 8 := by simpa [livL] using h1
    rw [List.getElem_set]
    by_cases e : v = i
    · subst e
      rw [if_pos rfl]
      simp only [livL, List.getElem_map, List.getElem_range]
      rw [livK_next hk, h, hv]; simp
    · rw [if_neg e]
      simp only [livL, List.getElem_map, List.getElem_range]
      rw [livK_next hk, h, hv]
      have : ((v : Int) == (i : Int)) = false := by simp; omega
      rw [this]; simp
theorem veC_on {S : St} {x : Ve} (h : veC S x = true) (ho : onB x = true) : 0 ≤ x.size ∧ x.size ≤ 600 ∧ 0 ≤ x.vol ∧ x.vol ≤ 7 := by
  unfold onB at ho
  unfold veC onC at h
  simp only [Bool.and_eq_true] at h
  obtain ⟨_, h⟩ := h
  have ht : x.tier = 2 ∨ x.tier = 3 := by
    simp only [Bool.or_eq_true, beq_iff_eq] at ho
    exact ho
  by_cases hm : x.mar = true
  · rw [if_pos hm] at h
    simp only [Bool.and_eq_true, beq_iff_eq] at h
    omega
  · rw [if_neg hm] at h
    simp only [Bool.and_eq_true] at h
    obtain ⟨hs, h⟩ := h
    have hs2 := inB_t hs
    refine ⟨hs2.1, hs2.2, ?_⟩
    rcases ht with ht | ht
    · rw [if_neg (by omega), if_pos ht] at h
      simp only [Bool.and_eq_true] at h
      have := inB_t h.1.2.1.1
      exact this
    · rw [if_neg (by omega), if_neg (by omega), if_pos ht] at h
      simp only [Bool.and_eq_true] at h
      have := inB_t h.1.2.1.1
      exact this
theorem livK_bd {S : St} (h : stC S = true) : ∀ k, k ≤ S.ves.length → ∀ n, 0 ≤ livK S.ves k n ∧ livK S.ves k n ≤ 606 * (k : Int)
  | 0, _, n => by simp [livK]
  | k + 1, hk, n => by
    have ih := livK_bd h k (by omega) n
    rw [livK_next (by omega)]
    split
    · rename_i hq
      simp only [Bool.and_eq_true] at hq
      have := veC_on (tstC_at h (mem_getD (k := k) (by omega))) hq.1
      constructor
      · omega
      · push_cast; omega
    · constructor
      · omega
      · push_cast; omega
theorem i64_at (l : List Int) {n : Nat} (hn : n < l.length) : (i64s l).toArray[n]? = some (.int .i64 (l.getD n 0)) := by
  simp [i64s, List.getD, hn]
theorem i64_set (l : List Int) (n : Nat) (x : Int) : (i64s l).toArray.setIfInBounds n (.int .i64 x) = (i64s (l.set n x)).toArray := by
  simp [i64s, List.map_set]
theorem row_i64 {w : World} {g B : Nat} {l : List Int} (h : w.heap[g]? = some (.cells (i64s l).toArray 3 (0, 0))) (hB : B ≤ g) (hl : l.length ≤ 1000) : OwI w B (.slice (some ⟨g, 0, none⟩) l.length l.length) l := by
  refine ⟨by rw [Nat.mul_one]; exact i64s_length l, .inr ⟨g, l.length, (i64s l).toArray, rfl, hB, h, Nat.le_refl _, by unfold maxLen; omega, by rw [List.size_toArray, i64s_length, Nat.mul_one], ?_⟩⟩
  rw [List.take_of_length_le (by simp [i64s_length])]
set_option maxHeartbeats 2000000 in
theorem tLive_any (S : St) (b v u q g : Value) (w : World) (hS : Sta w b v u q g S) :
    Calls Tryz.prog 45 #[stV S b v u q g] w fun e w' => ∃ o, e = .returned (.tuple #[o, .int .i64 (stE S)]) ∧ OwI w' w.heap.size o (livS S) ∧ Below w.heap.size w w' := by
  obtain ⟨va, vc, rfl, hv1, hv2⟩ := hS.ves.form
  unfold maxLen at hv2
  have HS := hide hS
  clear hS
  obtain ⟨E, hE⟩ : ∃ E, stE S = E := ⟨_, rfl⟩
  obtain ⟨L, hL⟩ : ∃ L, livS S = L := ⟨_, rfl⟩
  rw [hE, hL]
  have HE := hide hE
  have HL := hide hL
  clear hE hL
  go_enter Tryz.func45, Tryz.ntmps45
  go_wp2_with fail
  refine (check_any S b _ u q g _ ((unhide HS).up (bl1 _ _))).mono ?_
  rintro e w1 ⟨rfl, hb⟩
  have hX := (BoxS.new w S b (.slice va S.ves.length vc) u q g 29).up hb
  have hw1 := bl_trans (bl1 w _) hb
  have x3 := hX.c3
  have hl1 := hX.lt
  clear hX hb
  rw [unhide HE]
  cases hc : stC S
  · have hf : E = 9 := by rw [← unhide HE]; exact stE_f hc
    have HL' : Hid (L = []) := by show _ = _; rw [← unhide HL]; exact livS_f hc
    clear hc
    subst hf
    go_wp2
    go_ret2
    exact ⟨_, rfl, by rw [unhide HL']; exact OwI.nil _ _, hw1⟩
  have hf : E = 0 := by rw [← unhide HE]; exact stE_t hc
  have hlen := tstC_len hc
  have HBD : Hid (∀ k, k ≤ S.ves.length → ∀ n, 0 ≤ livK S.ves k n ∧ livK S.ves k n ≤ 606 * (k : Int)) := livK_bd hc
  have HVE : Hid (∀ k, k < S.ves.length → onB (S.ves.getD k ve0) = true → 0 ≤ (S.ves.getD k ve0).size ∧ (S.ves.getD k ve0).size ≤ 600 ∧ 0 ≤ (S.ves.getD k ve0).vol ∧ (S.ves.getD k ve0).vol ≤ 7) := fun k hk ho => veC_on (tstC_at hc (mem_getD hk)) ho
  have HL' : Hid (L = livL S.ves S.ves.length) := by show _ = _; rw [← unhide HL]; exact livS_t hc
  have HV := hide ((unhide HS).up hw1).ves
  clear hc HE HL
  subst hf
  obtain ⟨l, hl⟩ : ∃ l, S.ves = l := ⟨_, rfl⟩
  rw [hl] at hlen hv1 HV HL' x3 HBD HVE HS ⊢
  clear hl
  obtain ⟨N, hN⟩ : ∃ N, l.length = N := ⟨_, rfl⟩
  rw [hN] at hlen hv1 HV HL' x3 HBD HVE HS ⊢
  have HN := hide hN
  clear hN
  have hmk : (Instr.makeSlice 27 (.int .i64 8) (.int .i64 8)).run Tryz.prog w1 = .ok (.slice (some ⟨w1.heap.size, 0, none⟩) 8 8) (w1.alloc (.cells (i64s [0, 0, 0, 0, 0, 0, 0, 0]).toArray 3)) := by
    obtain ⟨i0, hi, hz0, hz1, hz2⟩ := info_parts infoI
    have h := run_make (P := Tryz.prog) (w := w1) 27 3 i0 (.int .i64 0) Tryz.underlying27 hi hz0 .i64 .i64 8 8 (by omega) (Int.le_refl _) (by rw [hz2]; omega) (by omega)
    rw [show (i64s [0, 0, 0, 0, 0, 0, 0, 0]).toArray = madeCells (Value.int .i64 0).cells 8 from by kernel_rfl]
    simpa [hz1] using h
  go_wp2
  go_loopw [7, 17] (fun _ i wr => ∃ k : Nat, k ≤ N ∧ i = .int .i64 k ∧ Below w1.heap.size w1 wr ∧ wr.heap[w1.heap.size]? = some (.cells (i64s (livL l k)).toArray 3 (0, 0))) (fun _ i _ => N - (intOf i).toNat)
  case atStart => exact ⟨0, Nat.zero_le _, rfl, bl1 _ _, t_new1 _ _⟩
  case round =>
    obtain ⟨k, hk, rfl, hbq, hR⟩ := hrel
    have HR := hide hR
    have hlg : w1.heap.size < wr.heap.size := (Array.getElem?_eq_some_iff.1 hR).1
    clear hR
    by_cases hlt : k < N
    · have hlt' : k < l.length := by rw [unhide HN]; exact hlt
      obtain ⟨b8, o8, e8, r0⟩ := Lst.at (unhide HV) hlt'
      have HBK : Hid (∀ n, 0 ≤ livK l k n ∧ livK l k n ≤ 606 * (k : Int)) := unhide HBD k hk
      have HVK := hide (unhide HVE k hlt)
      have HNO : Hid (onB (l.getD k ve0) = false → livL l (k + 1) = livL l k) := livL_no hlt'
      have HYES : Hid (∀ v : Nat, onB (l.getD k ve0) = true → (l.getD k ve0).vol = (v : Int) → v < 8 → livL l (k + 1) = (livL l k).set v (livK l k v + (6 + (l.getD k ve0).size))) := fun v h1 h2 h3 => by rw [Int.add_comm 6]; exact livL_yes hlt' h1 h2 h3
      obtain ⟨X, hX⟩ : ∃ X, l.getD k ve0 = X := ⟨_, rfl⟩
      rw [hX] at r0 HVK HNO HYES
      clear hX
      subst e8
      have r := RVe.up hbq r0
      obtain ⟨U, hu, hI⟩ := r.c8
      obtain ⟨ua, uc, rfl, _⟩ := hI.form
      have c0 := r.c0
      have c1 := r.c1
      have c2 := r.c2
      have c3 := r.c3
      have c4 := r.c4
      have c5 := r.c5
      have c6 := r.c6
      have c7 := r.c7
      have c9 := r.c9
      have c10 := r.c10
      have c11 := r.c11
      clear r r0 hI
      have hWq := hbq.size
      go_wp2_with fail
      refine (tOnTape_any X ua _ uc _).mono ?_
      rintro e w2 ⟨rfl, hb2⟩
      have z5 := box1 hb2 5 rfl
      have z9 := box1 hb2 9 rfl
      have hbw := bl_trans (bl1 wr _) hb2
      have hw2 := bl_trans hbq hbw
      have hR2 := t_blk (unhide HR) hbw
      have hl2 : wr.heap.size < w2.heap.size := World.block_lt_of_cell? w2 _ z9
      have hl3 : w1.heap.size < w2.heap.size := (Array.getElem?_eq_some_iff.1 hR2).1
      clear hb2 c0 c1 c2 c3 c4 c5 c6 c7 c9 c10 c11 hu HR
      cases ho : onB X
      · have HZ : Hid (livL l (k + 1) = livL l k) := unhide HNO ho
        have HR2 := hide hR2
        clear ho hR2 hbw
        go_wp2
        go_roundw
        case rel => exact ⟨k + 1, by omega, by go_num, hw2, by rw [unhide HZ]; exact unhide HR2⟩
        case measure => (simp [intOf] <;> omega)
      · obtain ⟨s0, s1, v0, v1⟩ := unhide HVK ho
        obtain ⟨vn, hvn⟩ := Int.eq_ofNat_of_zero_le v0
        have hv8 : vn < 8 := by omega
        have HZ : Hid (livL l (k + 1) = (livL l k).set vn (livK l k vn + (6 + X.size))) := unhide HYES vn ho hvn hv8
        have hat := tcell_of hR2 vn (i64_at (livL l k) (by rw [livL_len]; exact hv8))
        rw [livL_at l k hv8] at hat
        obtain ⟨bd0, bd1⟩ := unhide HBK vn
        obtain ⟨Q, hQ⟩ : ∃ Q, livK l k vn = Q := ⟨_, rfl⟩
        rw [hQ] at hat HZ bd0 bd1
        have zf := fun j => tfz_of hR2 j
        have HR3 := hide ((heap_setCell_same w2 w1.heap.size vn _ 3 (.int .i64 (Q + (6 + X.size))) hR2))
        rw [i64_set] at HR3
        rw [hvn] at z9 v0 v1
        clear ho hR2 hbw hQ hvn
        go_upto_region 9 with fail
        go_region_with (go_at_call 113; refine (pSize_any X.size _ (by omega) (by omega)).mono ?_; rintro e w' ⟨rfl, rfl⟩)
        all_goals (
          go_wp2
          go_roundw
          case rel => exact ⟨k + 1, by omega, by go_num, by first | exact bl_set (Below.drew hw2) (Nat.le_refl _) _ | exact (bl_set hw2 (Nat.le_refl _) _).drew | exact bl_set hw2 (Nat.le_refl _) _, by rw [unhide HZ]; exact unhide HR3⟩
          case measure => (simp [intOf] <;> omega))
    · obtain rfl : k = N := by omega
      have HO := hide (row_i64 (B := w.heap.size) (unhide HR) hw1.size (by rw [livL_len]; decide))
      rw [livL_len] at HO
      go_wp2
      go_ret2
      exact ⟨_, rfl, by rw [unhide HL']; exact unhide HO, bl_trans hw1 hbq⟩
end Go.Proofs.YtdgmdapijhbocaaGreat
