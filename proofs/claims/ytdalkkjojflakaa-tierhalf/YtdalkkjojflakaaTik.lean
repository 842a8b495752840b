/- The document's LiveOf. -/
import Derived.Test.YtdalkkjojflakaaTij
import Derived.Test.YtdalkkjojflakaaRfc
namespace Go.Proofs.Ytdalkkjojflakaa
open Go.RowKit Go.Maps
set_option maxRecDepth 100000
set_option linter.unusedVariables false
set_option linter.unusedSimpArgs false
set_option maxHeartbeats 2000000 in
theorem liveOf_any (S : St) (b v u q g : Value) (w : World) (hS : Sta w b v u q g S) :
    Calls Try.prog 21 #[stV S b v u q g] w fun e w' => ∃ o, e = .returned (.tuple #[o, .int .i64 (stE S)]) ∧ OwI w' w.heap.size o (livS S) ∧ Below w.heap.size w w' := by
  obtain ⟨va, vc, rfl, hv1, hv2⟩ := hS.ves.form
  unfold maxLen at hv2
  have HS := hide hS
  clear hS
  obtain ⟨E, hE⟩ : ∃ E, stE S = E := ⟨_, rfl⟩
  obtain ⟨L, hL⟩ : ∃ L, livS S = L := ⟨_, rfl⟩
  rw [hE, hL]
  have HE := hide hE
  have HL := hide hL
  clear hE hL
  go_enter Try.func21, Try.ntmps21
  go_wp2_with fail
  refine (stateMay_any S b _ u q g _ ((unhide HS).up (bl1 _ _))).mono ?_
  rintro e w1 ⟨rfl, hb⟩
  have hX := (BoxS.new w S b (.slice va S.ves.length vc) u q g 59).up hb
  have hw1 := bl_trans (bl1 w _) hb
  have x3 := hX.c3
  have hl1 := hX.lt
  clear hX hb
  rw [st_eq]
  cases hc : stC S
  · have hf : E = 9 := by rw [← unhide HE]; exact stE_f hc
    have HL' : Hid (L = []) := by show _ = _; rw [← unhide HL]; exact livS_f hc
    clear hc
    subst hf
    go_wp2
    go_ret2
    exact ⟨_, rfl, by rw [unhide HL']; exact OwI.nil _ _, hw1⟩
  have hf : E = 0 := by rw [← unhide HE]; exact stE_t hc
  have hlen := tstC_len hc
  have HBD : Hid (∀ k, k ≤ S.ves.length → ∀ n, 0 ≤ livK S.ves k n ∧ livK S.ves k n ≤ 606 * (k : Int)) := livK_bd hc
  have HVE : Hid (∀ k, k < S.ves.length → onB (S.ves.getD k ve0) = true → 0 ≤ (S.ves.getD k ve0).size ∧ (S.ves.getD k ve0).size ≤ 600 ∧ 0 ≤ (S.ves.getD k ve0).vol ∧ (S.ves.getD k ve0).vol ≤ 7) := fun k hk ho => veC_on (tstC_at hc (mem_getD hk)) ho
  have HL' : Hid (L = livL S.ves S.ves.length) := by show _ = _; rw [← unhide HL]; exact livS_t hc
  have HV := hide ((unhide HS).up hw1).ves
  clear hc HE HL
  subst hf
  obtain ⟨l, hl⟩ : ∃ l, S.ves = l := ⟨_, rfl⟩
  rw [hl] at hlen hv1 HV HL' x3 HBD HVE HS ⊢
  clear hl
  obtain ⟨N, hN⟩ : ∃ N, l.length = N := ⟨_, rfl⟩
  rw [hN] at hlen hv1 HV HL' x3 HBD HVE HS ⊢
  have HN := hide hN
  clear hN
  have hmk : (Instr.makeSlice 22 (.int .i64 8) (.int .i64 8)).run Try.prog w1 = .ok (.slice (some ⟨w1.heap.size, 0, none⟩) 8 8) (w1.alloc (.cells (i64s [0, 0, 0, 0, 0, 0, 0, 0]).toArray 3)) := by
    obtain ⟨i0, hi, hz0, hz1, hz2⟩ := info_parts infoI
    have h := run_make (P := Try.prog) (w := w1) 22 3 i0 (.int .i64 0) Try.underlying22 hi hz0 .i64 .i64 8 8 (by omega) (Int.le_refl _) (by rw [hz2]; omega) (by omega)
    rw [show (i64s [0, 0, 0, 0, 0, 0, 0, 0]).toArray = madeCells (Value.int .i64 0).cells 8 from by kernel_rfl]
    simpa [hz1] using h
  go_wp2
  go_loopw [5, 6] (fun i _ wr => ∃ k : Nat, k ≤ N ∧ i = .int .i64 k ∧ Below w1.heap.size w1 wr ∧ wr.heap[w1.heap.size]? = some (.cells (i64s (livL l k)).toArray 3 (0, 0))) (fun i _ _ => N - (intOf i).toNat)
  case atStart => exact ⟨0, Nat.zero_le _, rfl, bl1 _ _, t_new1 _ _⟩
  case round =>
    obtain ⟨k, hk, rfl, hbq, hR⟩ := hrel
    have HR := hide hR
    have hlg : w1.heap.size < wr.heap.size := (Array.getElem?_eq_some_iff.1 hR).1
    clear hR
    by_cases hlt : k < N
    · have hlt' : k < l.length := by rw [unhide HN]; exact hlt
      obtain ⟨b8, o8, e8, r0⟩ := Lst.at (unhide HV) hlt'
      have HBK : Hid (∀ n, 0 ≤ livK l k n ∧ livK l k n ≤ 606 * (k : Int)) := unhide HBD k hk
      have HVK := hide (unhide HVE k hlt)
      have HNO : Hid (onB (l.getD k ve0) = false → livL l (k + 1) = livL l k) := livL_no hlt'
      have HYES : Hid (∀ v : Nat, onB (l.getD k ve0) = true → (l.getD k ve0).vol = (v : Int) → v < 8 → livL l (k + 1) = (livL l k).set v (livK l k v + ((l.getD k ve0).size + 6))) := fun v h1 h2 h3 => livL_yes hlt' h1 h2 h3
      obtain ⟨X, hX⟩ : ∃ X, l.getD k ve0 = X := ⟨_, rfl⟩
      rw [hX] at r0 HVK HNO HYES
      clear hX
      subst e8
      have r := RVe.up hbq r0
      obtain ⟨U, hu, hI⟩ := r.c8
      obtain ⟨ua, uc, rfl, _⟩ := hI.form
      have c0 := r.c0
      have c1 := r.c1
      have c2 := r.c2
      have c3 := r.c3
      have c4 := r.c4
      have c5 := r.c5
      have c6 := r.c6
      have c7 := r.c7
      have c9 := r.c9
      have c10 := r.c10
      have c11 := r.c11
      clear r r0 hI
      have hWq := hbq.size
      have hR2 := t_blk (unhide HR) (bl1 wr (.cells (veB X (.slice ua X.sec.length uc)) 83))
      have hBV := BoxV.new wr X (.slice ua X.sec.length uc) 83
      have hw2 := bl_alloc hbq (.cells (veB X (.slice ua X.sec.length uc)) 83)
      have hbw := bl1 wr (.cells (veB X (.slice ua X.sec.length uc)) 83)
      have hx3 := scell_up hbq x3
      have hlr : w.heap.size < wr.heap.size := by omega
      go_upto_region 8 with fail
      obtain ⟨w2, hw⟩ : ∃ w2, wr.alloc (.cells (veB X (.slice ua X.sec.length uc)) 83) = w2 := ⟨_, rfl⟩
      rw [hw] at hR2 hBV hw2 hbw ⊢
      have z5 := hBV.c5
      have z7 := hBV.c7
      have z9 := hBV.c9
      have hl2 := hBV.lt
      have hl3 : w1.heap.size < w2.heap.size := (Array.getElem?_eq_some_iff.1 hR2).1
      clear c0 c1 c2 c3 c4 c5 c6 c7 c9 c10 c11 hu HR hw hBV
      have HON : Hid (onB X = ((X.tier == 2) || (X.tier == 3))) := rfl
      cases ho : onB X
      · have HZ : Hid (livL l (k + 1) = livL l k) := unhide HNO ho
        have HR2 := hide hR2
        have ho' : ((X.tier == 2) || (X.tier == 3)) = false := (unhide HON).symm.trans ho
        obtain ⟨t1, t2⟩ := Bool.or_eq_false_iff.1 ho'
        clear ho hR2 hbw ho'
        go_wp2
        go_roundw
        case rel => exact ⟨k + 1, by omega, by go_num, hw2, by rw [unhide HZ]; exact unhide HR2⟩
        case measure => (simp [intOf] <;> omega)
      · obtain ⟨s0, s1, v0, v1⟩ := unhide HVK ho
        obtain ⟨vn, hvn⟩ := Int.eq_ofNat_of_zero_le v0
        have hv8 : vn < 8 := by omega
        have HZ : Hid (livL l (k + 1) = (livL l k).set vn (livK l k vn + (X.size + 6))) := unhide HYES vn ho hvn hv8
        have hat := tcell_of hR2 vn (i64_at (livL l k) (by rw [livL_len]; exact hv8))
        rw [livL_at l k hv8] at hat
        obtain ⟨bd0, bd1⟩ := unhide HBK vn
        obtain ⟨Q, hQ⟩ : ∃ Q, livK l k vn = Q := ⟨_, rfl⟩
        rw [hQ] at hat HZ bd0 bd1
        have zf := fun j => tfz_of hR2 j
        have HR3 := hide ((heap_setCell_same w2 w1.heap.size vn _ 3 (.int .i64 (Q + (X.size + 6))) hR2))
        rw [i64_set] at HR3
        rw [hvn] at z9 v0 v1
        have ho' : ((X.tier == 2) || (X.tier == 3)) = true := (unhide HON).symm.trans ho
        clear ho hR2 hbw hQ hvn
        rw [show Q + (X.size + 6) = Q + 6 + X.size by omega] at HR3 HZ
        cases t1 : (X.tier == 2)
        all_goals (
          rw [t1] at ho'
          simp only [Bool.false_or, Bool.true_or] at ho'
          go_upto_region 9 with fail)
        all_goals go_region
        all_goals (
          go_wp2
          go_roundw
          case rel => exact ⟨k + 1, by omega, by go_num, by first | exact bl_set (Below.drew hw2) (Nat.le_refl _) _ | exact (bl_set hw2 (Nat.le_refl _) _).drew | exact bl_set hw2 (Nat.le_refl _) _, by rw [unhide HZ]; exact unhide HR3⟩
          case measure => (simp [intOf] <;> omega))
    · obtain rfl : k = N := by omega
      have hx3 := scell_up hbq x3
      have hlr : w.heap.size < wr.heap.size := World.block_lt_of_cell? _ _ hx3
      have HO := hide (row_i64 (B := w.heap.size) (unhide HR) hw1.size (by rw [livL_len]; decide))
      rw [livL_len] at HO
      go_wp2
      go_ret2
      exact ⟨_, rfl, by rw [unhide HL']; exact unhide HO, bl_trans hw1 hbq⟩
end Go.Proofs.Ytdalkkjojflakaa
