/- The document's NextOf. -/
import Derived.Test.YtkogbgeadlnnfaaTie
import Derived.Test.YtkogbgeadlnnfaaRfc
namespace Go.Proofs.Ytkogbgeadlnnfaa
open Go.RowKit Go.Maps
set_option maxRecDepth 100000
set_option linter.unusedVariables false
set_option linter.unusedSimpArgs false
set_option maxHeartbeats 1000000 in
theorem nextOf_any (S : St) (b v u q g : Value) (w : World) (hS : Sta w b v u q g S) :
    Calls Try.prog 18 #[stV S b v u q g] w fun e w' => e = .returned (.tuple #[.agg #[.int .i64 (nexA S).ver, .int .i64 (nexA S).days, .int .i64 (nexA S).cls], .int .i64 (nexE S)]) ∧ Below w.heap.size w w' := by
  obtain ⟨qa, qc, rfl, hq1, hq2⟩ := hS.que.form
  unfold maxLen at hq2
  have HS := hide hS
  clear hS
  obtain ⟨A, hA⟩ : ∃ A, nexA S = A := ⟨_, rfl⟩
  obtain ⟨F, hF⟩ : ∃ F, nexE S = F := ⟨_, rfl⟩
  rw [hA, hF]
  have HA := hide hA
  have HF := hide hF
  clear hA hF
  go_enter Try.func18, Try.ntmps18
  go_wp2_with fail
  refine (stateMay_any S b v u _ g _ ((unhide HS).up (bl_alloc (bl1 _ _) _))).mono ?_
  rintro e w1 ⟨rfl, hb⟩
  have hw1 := bl_trans (bl_alloc (bl1 w _) _) hb
  have hX := ((BoxS.new w S b v u (.slice qa S.que.length qc) g 28).up (bl1 _ _)).up hb
  have r1 := t_blk (t_new2 _ _ _) hb
  have x5 := hX.c5
  have hl1 := hX.lt
  have z0 := tcell_of r1 0 rfl
  have z1 := tcell_of r1 1 rfl
  have z2 := tcell_of r1 2 rfl
  have zf := fun j => tfz_of r1 j
  have hl2 : w.heap.size + 1 < w1.heap.size := World.block_lt_of_cell? w1 _ z0
  clear hX hb
  rw [st_eq]
  cases hc : stC S
  · obtain ⟨k1, k2⟩ := nex_9 hc
    have HA' : Hid (A = ak0) := by show _ = _; rw [← unhide HA]; exact k2
    have HF' : Hid (F = 9) := by show _ = _; rw [← unhide HF]; exact k1
    clear k1 k2 hc r1
    go_wp2
    refine bodyPost_ret (v := .tuple #[.agg #[.int .i64 0, .int .i64 0, .int .i64 0], .int .i64 9]) (by simp [results, Try.results18, go_sem, *]) rfl ⟨?_, ?_⟩
    · rw [unhide HA', unhide HF']; rfl
    · (iterate 3 (refine bl_set ?_ (by simp <;> omega) _))
      exact hw1
  by_cases h0 : S.que.length = 0
  · obtain ⟨k1, k2⟩ := nex_14 hc h0
    have HA' : Hid (A = ak0) := by show _ = _; rw [← unhide HA]; exact k2
    have HF' : Hid (F = 14) := by show _ = _; rw [← unhide HF]; exact k1
    clear k1 k2 hc r1
    go_wp2
    refine bodyPost_ret (v := .tuple #[.agg #[.int .i64 0, .int .i64 0, .int .i64 0], .int .i64 14]) (by simp [results, Try.results18, go_sem, *]) rfl ⟨?_, ?_⟩
    · rw [unhide HA', unhide HF']; rfl
    · (iterate 3 (refine bl_set ?_ (by simp <;> omega) _))
      exact hw1
  obtain ⟨k1, k2⟩ := nex_0 hc h0
  have HF' : Hid (F = 0) := by show _ = _; rw [← unhide HF]; exact k1
  have HQ := hide ((unhide HS).up hw1).que
  obtain ⟨l, hl⟩ : ∃ l, S.que = l := ⟨_, rfl⟩
  rw [hl] at x5 HQ h0 hq1 k2 ⊢
  have HA' : Hid (A = nexK l (l.length - 1)) := by show _ = _; rw [← unhide HA]; exact k2
  clear hc k1 k2 hl
  obtain ⟨N, hN⟩ : ∃ N, l.length = N + 1 := ⟨l.length - 1, by omega⟩
  obtain ⟨b8, o8, e8, r⟩ := Lst.at (unhide HQ) (i := 0) (by omega)
  subst e8
  have c0 := r.c0
  have c1 := r.c1
  have c2 := r.c2
  rw [Nat.zero_mul, Nat.add_zero] at c0 c1 c2
  have HA2 : Hid (A = nexK l N) := by show _ = _; rw [unhide HA', hN]; rfl
  rw [hN] at x5 hq1 HQ
  have HN := hide hN
  obtain ⟨Z, hZ⟩ : ∃ Z, l.getD 0 ak0 = Z := ⟨_, rfl⟩
  have HZ : Hid (nexK l 0 = Z) := hZ
  rw [hZ] at c0 c1 c2
  have R1 := hide r1
  clear hZ hN HA' r z0 z1 z2 zf r1 h0
  rw [unhide HN]
  go_wp2
  go_loopw [5] (fun i wr => ∃ k : Nat, k ≤ N ∧ i = .int .i64 ((k : Int) + 1) ∧ Below w1.heap.size w1 wr ∧ wr.heap[w1.heap.size]? = some (.cells (akB (nexK l k)) 35 (0, 0))) (fun i _ => N + 1 - (intOf i).toNat)
  case atStart => exact ⟨0, Nat.zero_le _, rfl, bl1 _ _, by rw [unhide HZ]; exact t_new1 _ _⟩
  case round =>
    obtain ⟨k, hk, rfl, hbq, hR⟩ := hrel
    have HR := hide hR
    obtain ⟨Y, hY⟩ : ∃ Y, nexK l k = Y := ⟨_, rfl⟩
    rw [hY] at hR
    have y0 := tcell_of hR 0 rfl
    have y1 := tcell_of hR 1 rfl
    have y2 := tcell_of hR 2 rfl
    have yf := fun j => tfz_of hR j
    have hl3 : w1.heap.size < wr.heap.size := World.block_lt_of_cell? wr _ y0
    have x5' := scell_up hbq x5
    clear hR c0 c1 c2
    by_cases hlt : k < N
    · obtain ⟨b7, o7, e7, r0⟩ := Lst.at (unhide HQ) (i := k + 1) (by rw [unhide HN]; omega)
      injection e7 with e7
      injection e7 with e7 e7' _
      subst e7 e7'
      have r := RAk.up hbq r0
      obtain ⟨X, hX⟩ : ∃ X, l.getD (k + 1) ak0 = X := ⟨_, rfl⟩
      rw [hX] at r
      have q0 := r.c0
      have q1 := r.c1
      have q2 := r.c2
      have HK : Hid (nexK l (k + 1) = if X.cls < Y.cls then X else Y) := by show _ = _; rw [← hX, ← hY]; rfl
      have hY0 := hY
      clear r r0 hX hY x5
      go_upto_region 9 with fail
      have hne := Later.one wr
      have l0 := fun d : Later wr => d.cell x5'
      have l1 := fun d : Later wr => d.cell q2
      have l2 := fun d : Later wr => d.cell y2
      refine wp_region_later (by kernel_rfl) (by kernel_rfl) ?_
      repeat (go_big_quiet_step (fail))
      refine wpQuiet_nil ?_
      intro w9 hw'
      obtain ⟨⟨w2, hb2⟩, hw''⟩ := hw'
      subst hw''
      clear hne l0 l1 l2 yf
      have hR9 := t_blk (unhide HR) hb2
      rw [hY0] at hR9
      have p5 := scell_up hb2 x5'
      have p0 := scell_up hb2 q0
      have p1 := scell_up hb2 q1
      have p2 := scell_up hb2 q2
      have pf := fun j => tfz_of hR9 j
      have yy0 := scell_up hb2 y0
      have yy1 := scell_up hb2 y1
      have yy2 := scell_up hb2 y2
      have hs9 := hb2.size
      have hlw := World.block_lt_of_cell? _ _ p5
      have hlw2 := World.block_lt_of_cell? _ _ p0
      simp at hlw hlw2
      have hbn := bl_trans hbq hb2
      have HR9 := hide hR9
      have hl4 : w1.heap.size < w9.heap.size := World.block_lt_of_cell? w9 _ yy0
      clear x5' q0 q1 q2 y0 y1 y2 hR9 hb2
      by_cases hcl : X.cls < Y.cls
      · have HK' : Hid (nexK l (k + 1) = X) := by show _ = _; rw [unhide HK, if_pos hcl]
        have HR3 := hide (row3 (unhide HR9) (.int .i64 X.ver) (.int .i64 X.days) (.int .i64 X.cls))
        have HBN := hide hbn
        clear hbn
        go_wp2
        go_roundw
        case rel => exact ⟨k + 1, by omega, by go_num, by (iterate 3 (refine bl_set ?_ (Nat.le_refl _) _)); exact unhide HBN, by rw [unhide HK']; exact unhide HR3⟩
        case measure => (simp [intOf] <;> omega)
      · have HK' : Hid (nexK l (k + 1) = Y) := by show _ = _; rw [unhide HK, if_neg hcl]
        have HBN := hide hbn
        clear hbn
        go_wp2
        go_roundw
        case rel => exact ⟨k + 1, by omega, by go_num, unhide HBN, by rw [unhide HK']; exact unhide HR9⟩
        case measure => (simp [intOf] <;> omega)
    · obtain rfl : k = N := by omega
      have hr1 := t_blk (unhide R1) hbq
      have z0 := tcell_of hr1 0 rfl
      have z1 := tcell_of hr1 1 rfl
      have z2 := tcell_of hr1 2 rfl
      have zf := fun j => tfz_of hr1 j
      have HA3 : Hid (A = Y) := by show _ = _; rw [unhide HA2]; exact hY
      clear x5 hr1 hY
      go_wp2
      refine bodyPost_ret (v := .tuple #[.agg #[.int .i64 Y.ver, .int .i64 Y.days, .int .i64 Y.cls], .int .i64 0]) (by simp [results, Try.results18, go_sem, *]) rfl ⟨?_, ?_⟩
      · rw [unhide HA3, unhide HF']
      · (iterate 3 (refine bl_set ?_ (by simp <;> omega) _))
        exact bl_trans hw1 hbq
end Go.Proofs.Ytkogbgeadlnnfaa
