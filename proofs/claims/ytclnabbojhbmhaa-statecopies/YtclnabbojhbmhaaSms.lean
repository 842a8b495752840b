/- States that are held against each other. -/
import Derived.Test.YtclnabbojhbmhaaSmv
namespace Go.Proofs.Ytclnabbojhbmhaa
open Go.RowKit Go.Maps
set_option maxRecDepth 100000
set_option linter.unusedVariables false
set_option linter.unusedSimpArgs false
set_option maxHeartbeats 1000000 in
theorem samePart_any (X : Pa) (x y : Value) (w : World) (hx : Ints w x X.sec) (hy : Ints w y X.sec) : Calls Try.prog 49 #[paV X x, paV X y] w fun e w' => e = .returned (.bool true) ∧ Below w.heap.size w w' := by
  obtain ⟨a, ac, rfl, a1, a2⟩ := hx.form
  obtain ⟨b, bc, rfl, b1, b2⟩ := hy.form
  have HX := hide hx
  have HY := hide hy
  clear hx hy
  go_enter Try.func49, Try.ntmps49
  go_wp2_with fail
  refine (sameInts_any _ _ X.sec _ (Ints.up (bl_alloc (bl1 _ _) _) (unhide HX)) (Ints.up (bl_alloc (bl1 _ _) _) (unhide HY))).mono ?_
  rintro e w1 ⟨rfl, hb1⟩
  go_wp2
  go_ret
  exact ⟨rfl, bl_trans (bl_alloc (bl1 _ _) _) hb1⟩
set_option maxHeartbeats 4000000 in
theorem sameState_any (S : St) (b v u q g b' v' u' q' g' : Value) (w : World) (h1 : Sta w b v u q g S) (h2 : Sta w b' v' u' q' g' S) :
    Calls Try.prog 19 #[stV S b v u q g, stV S b' v' u' q' g'] w fun e w' => e = .returned (.bool true) ∧ Below w.heap.size w w' := by
  obtain ⟨ba, bc, rfl, b1, b2⟩ := h1.bus.form
  obtain ⟨bA, bC, rfl, b3, b4⟩ := h2.bus.form
  obtain ⟨va, vc, rfl, v1, v2⟩ := h1.ves.form
  obtain ⟨vA, vC, rfl, v3, v4⟩ := h2.ves.form
  obtain ⟨ua, uc, rfl, u1, u2⟩ := h1.ups.form
  obtain ⟨uA, uC, rfl, u3, u4⟩ := h2.ups.form
  obtain ⟨qa, qc, rfl, q1, q2⟩ := h1.que.form
  obtain ⟨qA, qC, rfl, q3, q4⟩ := h2.que.form
  obtain ⟨ga, gc, rfl, g1, g2⟩ := h1.gone.form
  obtain ⟨gA, gC, rfl, g3, g4⟩ := h2.gone.form
  unfold maxLen at b2 b4 v2 v4 u2 u4 q2 q4 g2 g4
  have H1 := hide h1
  have H2 := hide h2
  clear h1 h2
  go_enter Try.func19, Try.ntmps19
  go_wp2_with fail
  refine (sameInts_any _ _ S.gone _ ((unhide H1).up (bl_alloc (bl1 _ _) _)).gone ((unhide H2).up (bl_alloc (bl1 _ _) _)).gone).mono ?_
  rintro e w1 ⟨rfl, hb⟩
  have hw1 : Below w.heap.size w w1 := bl_trans (bl_alloc (bl1 _ _) _) hb
  have r0 := (hb.block w.heap.size (by simp; omega)).trans (((bl1 (w.alloc _) _).block w.heap.size (by simp)).trans (heap_alloc_new _ _))
  have r1 := (hb.block (w.heap.size + 1) (by simp)).trans (show _ = some (Obj.cells #[.int .i64 S.next, .int .i64 S.clock, .slice bA S.bus.length bC, .slice vA S.ves.length vC, .slice uA S.ups.length uC, .slice qA S.que.length qC, .slice gA S.gone.length gC] 35 (0, 0)) by simpa using heap_alloc_new (w.alloc _) (.cells #[.int .i64 S.next, .int .i64 S.clock, .slice bA S.bus.length bC, .slice vA S.ves.length vC, .slice uA S.ups.length uC, .slice qA S.que.length qC, .slice gA S.gone.length gC] 35))
  have x2 := cell_of r0 2 rfl
  have y2 := cell_of r1 2 rfl
  have x3 := cell_of r0 3 rfl
  have y3 := cell_of r1 3 rfl
  have x4 := cell_of r0 4 rfl
  have y4 := cell_of r1 4 rfl
  have x5 := cell_of r0 5 rfl
  have y5 := cell_of r1 5 rfl
  have L1 := hide ((unhide H1).up hw1)
  have L2 := hide ((unhide H2).up hw1)
  clear r0 r1 hb H1 H2
  go_wp2
  go_loopw [5] (fun i wr => ∃ k : Nat, k ≤ S.bus.length ∧ i = .int .i64 k ∧ Below w1.heap.size w1 wr) (fun i _ => S.bus.length - (intOf i).toNat)
  case atStart => exact ⟨0, Nat.zero_le _, rfl, Below.refl _ _⟩
  case round =>
    obtain ⟨k, hk, rfl, hb⟩ := hrel
    have X2 := scell_up hb x2
    have Y2 := scell_up hb y2
    by_cases hlt : k < S.bus.length
    · obtain ⟨bp, op, e1, rp⟩ := Lst.at (unhide L1).bus hlt
      obtain ⟨bq, oq, e2, rq⟩ := Lst.at (unhide L2).bus hlt
      subst e1 e2
      obtain ⟨Z, hZ⟩ : ∃ Z, S.bus.getD k bu0 = Z := ⟨_, rfl⟩
      rw [hZ] at rp rq
      replace rp := RBu.up hb rp
      replace rq := RBu.up hb rq
      have p0 := rp.c0
      have q0 := rq.c0
      have p1 := rp.c1
      have q1 := rq.c1
      have p2 := rp.c2
      have q2 := rq.c2
      have p3 := rp.c3
      have q3 := rq.c3
      have p4 := rp.c4
      have q4 := rq.c4
      clear hZ rp rq
      go_wp2
      have hne := Later.one wr
      have lx := fun d : Later wr => d.cell X2
      have ly := fun d : Later wr => d.cell Y2
      have lp0 := fun d : Later wr => d.cell p0
      have lq0 := fun d : Later wr => d.cell q0
      have lp1 := fun d : Later wr => d.cell p1
      have lq1 := fun d : Later wr => d.cell q1
      have lp2 := fun d : Later wr => d.cell p2
      have lq2 := fun d : Later wr => d.cell q2
      have lp3 := fun d : Later wr => d.cell p3
      have lq3 := fun d : Later wr => d.cell q3
      have lp4 := fun d : Later wr => d.cell p4
      have lq4 := fun d : Later wr => d.cell q4
      refine wp_region_later (by kernel_rfl) (by kernel_rfl) ?_
      repeat (go_big_quiet_step (fail))
      refine wpQuiet_nil ?_
      intro w9 hw'
      obtain ⟨⟨w8, hb9⟩, hw''⟩ := hw'
      subst hw''
      clear hne lx ly lp0 lq0 lp1 lq1 lp2 lq2 lp3 lq3 lp4 lq4
      go_wp2
      go_roundw
      case rel => exact ⟨k + 1, by omega, by go_num, bl_trans hb hb9⟩
      case measure => (simp [intOf] <;> omega)
    · have hbp := hb
      go_wp2
      clear hb hlt hk X2 Y2
      go_loopw [6] (fun i wr => ∃ k : Nat, k ≤ S.ves.length ∧ i = .int .i64 k ∧ Below w1.heap.size w1 wr) (fun i _ => S.ves.length - (intOf i).toNat)
      case atStart => exact ⟨0, Nat.zero_le _, rfl, hbp⟩
      case round =>
        clear hbp
        obtain ⟨k, hk, rfl, hb⟩ := hrel
        have X3 := scell_up hb x3
        have Y3 := scell_up hb y3
        by_cases hlt : k < S.ves.length
        · obtain ⟨bp, op, e1, rp⟩ := Lst.at (unhide L1).ves hlt
          obtain ⟨bq, oq, e2, rq⟩ := Lst.at (unhide L2).ves hlt
          subst e1 e2
          obtain ⟨Z, hZ⟩ : ∃ Z, S.ves.getD k ve0 = Z := ⟨_, rfl⟩
          rw [hZ] at rp rq
          replace rp := RVe.up hb rp
          replace rq := RVe.up hb rq
          have p0 := rp.c0
          have q0 := rq.c0
          have p1 := rp.c1
          have q1 := rq.c1
          have p2 := rp.c2
          have q2 := rq.c2
          have p3 := rp.c3
          have q3 := rq.c3
          have p4 := rp.c4
          have q4 := rq.c4
          have p5 := rp.c5
          have q5 := rq.c5
          have p6 := rp.c6
          have q6 := rq.c6
          have p7 := rp.c7
          have q7 := rq.c7
          obtain ⟨U1, p8, i1⟩ := rp.c8
          obtain ⟨U2, q8, i2⟩ := rq.c8
          obtain ⟨ia, ic, rfl, _⟩ := i1.form
          obtain ⟨iA, iC, rfl, _⟩ := i2.form
          have HI1 := hide i1
          have HI2 := hide i2
          clear i1 i2
          have p9 := rp.c9
          have q9 := rq.c9
          have p10 := rp.c10
          have q10 := rq.c10
          have p11 := rp.c11
          have q11 := rq.c11
          clear hZ rp rq
          go_wp2
          have hne := Later.one wr
          have lx := fun d : Later wr => d.cell X3
          have ly := fun d : Later wr => d.cell Y3
          have lp0 := fun d : Later wr => d.cell p0
          have lq0 := fun d : Later wr => d.cell q0
          have lp1 := fun d : Later wr => d.cell p1
          have lq1 := fun d : Later wr => d.cell q1
          have lp2 := fun d : Later wr => d.cell p2
          have lq2 := fun d : Later wr => d.cell q2
          have lp3 := fun d : Later wr => d.cell p3
          have lq3 := fun d : Later wr => d.cell q3
          have lp4 := fun d : Later wr => d.cell p4
          have lq4 := fun d : Later wr => d.cell q4
          have lp5 := fun d : Later wr => d.cell p5
          have lq5 := fun d : Later wr => d.cell q5
          have lp6 := fun d : Later wr => d.cell p6
          have lq6 := fun d : Later wr => d.cell q6
          have lp7 := fun d : Later wr => d.cell p7
          have lq7 := fun d : Later wr => d.cell q7
          have lp8 := fun d : Later wr => d.cell p8
          have lq8 := fun d : Later wr => d.cell q8
          have lp9 := fun d : Later wr => d.cell p9
          have lq9 := fun d : Later wr => d.cell q9
          have lp10 := fun d : Later wr => d.cell p10
          have lq10 := fun d : Later wr => d.cell q10
          have lp11 := fun d : Later wr => d.cell p11
          have lq11 := fun d : Later wr => d.cell q11
          refine wp_region_later (by kernel_rfl) (by kernel_rfl) ?_
          repeat (go_big_quiet_step ((go_at_call 25; exact Calls.later (sameVersion_any Z _ _ _ (Ints.up (Later.below _) (unhide HI1)) (Ints.up (Later.below _) (unhide HI2))))))
          refine wpQuiet_nil ?_
          intro w9 hw'
          obtain ⟨⟨w8, hb9⟩, hw''⟩ := hw'
          subst hw''
          clear hne lx ly lp0 lq0 lp1 lq1 lp2 lq2 lp3 lq3 lp4 lq4 lp5 lq5 lp6 lq6 lp7 lq7 lp8 lq8 lp9 lq9 lp10 lq10 lp11 lq11
          go_wp2
          go_roundw
          case rel => exact ⟨k + 1, by omega, by go_num, bl_trans hb hb9⟩
          case measure => (simp [intOf] <;> omega)
        · have hbp := hb
          go_wp2
          clear hb hlt hk X3 Y3
          go_loopw [7, 8, 9, 10] (fun i _ _ _ wr => ∃ k : Nat, k ≤ S.ups.length ∧ i = .int .i64 k ∧ Below w1.heap.size w1 wr) (fun i _ _ _ _ => S.ups.length - (intOf i).toNat)
          case atStart => exact ⟨0, Nat.zero_le _, rfl, hbp⟩
          case round =>
            clear hbp
            obtain ⟨k, hk, rfl, hb⟩ := hrel
            have X4 := scell_up hb x4
            have Y4 := scell_up hb y4
            by_cases hlt : k < S.ups.length
            · obtain ⟨bp, op, e1, rp⟩ := Lst.at (unhide L1).ups hlt
              obtain ⟨bq, oq, e2, rq⟩ := Lst.at (unhide L2).ups hlt
              subst e1 e2
              obtain ⟨Z, hZ⟩ : ∃ Z, S.ups.getD k up0 = Z := ⟨_, rfl⟩
              rw [hZ] at rp rq
              have rp' := RUp.up hb rp
              have rq' := RUp.up hb rq
              obtain ⟨U1, p3, i1⟩ := rp.c3
              obtain ⟨U2, q3, i2⟩ := rq.c3
              replace p3 := scell_up hb p3
              replace q3 := scell_up hb q3
              obtain ⟨ia, ic, rfl, ih, ij⟩ := i1.form
              obtain ⟨iA, iC, rfl, iH, iJ⟩ := i2.form
              unfold maxLen at ij iJ
              have HI1 := hide i1
              have HI2 := hide i2
              have p0 := rp'.c0
              have p1 := rp'.c1
              have p2 := rp'.c2
              have q0 := rq'.c0
              have q1 := rq'.c1
              have q2 := rq'.c2
              have hq5 : bq < wr.heap.size := World.block_lt_of_cell? wr _ q0
              have hq6 : w.heap.size + 1 < wr.heap.size := World.block_lt_of_cell? wr _ Y4
              clear i1 i2 hZ rp rq rp' rq'
              go_wp2
              go_loopw [10] (fun i wq => ∃ m : Nat, m ≤ Z.parts.length ∧ i = .int .i64 m ∧ Below w1.heap.size w1 wq ∧ wq.cell? ⟨wr.heap.size, 3, none⟩ = some (.slice ia Z.parts.length ic) ∧ wq.cell? ⟨wr.heap.size + 1, 3, none⟩ = some (.slice iA Z.parts.length iC)) (fun i _ => Z.parts.length - (intOf i).toNat)
              case atStart => exact ⟨0, Nat.zero_le _, rfl, bl_alloc (bl_alloc hb _) _, by simp, by simp⟩
              case round =>
                clear p0 p1 p2 p3 q0 q1 q2 q3 X4 Y4
                have hbo := hb
                clear hb
                obtain ⟨m, hm, rfl, hb, e3, e4⟩ := hrel
                by_cases hml : m < Z.parts.length
                · obtain ⟨bx, ox, f1, rp⟩ := Lst.at (unhide HI1) hml
                  obtain ⟨bz, oz, f2, rq⟩ := Lst.at (unhide HI2) hml
                  subst f1 f2
                  obtain ⟨Y, hY⟩ : ∃ Y, Z.parts.getD m pa0 = Y := ⟨_, rfl⟩
                  rw [hY] at rp rq
                  have rp' := RPa.up hb rp
                  have rq' := RPa.up hb rq
                  obtain ⟨U1, p2, i1⟩ := rp.c2
                  obtain ⟨U2, q2, i2⟩ := rq.c2
                  replace p2 := scell_up hb p2
                  replace q2 := scell_up hb q2
                  obtain ⟨ka, kc, rfl, _⟩ := i1.form
                  obtain ⟨kA, kC, rfl, _⟩ := i2.form
                  have HK1 := hide (Ints.up hb i1)
                  have HK2 := hide (Ints.up hb i2)
                  have p0 := rp'.c0
                  have p1 := rp'.c1
                  have q0 := rq'.c0
                  have q1 := rq'.c1
                  clear i1 i2 hY rp rq rp' rq'
                  go_wp2
                  have hne := Later.one wr
                  have lx := fun d : Later wr => d.cell e3
                  have ly := fun d : Later wr => d.cell e4
                  have lp0 := fun d : Later wr => d.cell p0
                  have lp1 := fun d : Later wr => d.cell p1
                  have lp2 := fun d : Later wr => d.cell p2
                  have lq0 := fun d : Later wr => d.cell q0
                  have lq1 := fun d : Later wr => d.cell q1
                  have lq2 := fun d : Later wr => d.cell q2
                  refine wp_region_later (by kernel_rfl) (by kernel_rfl) ?_
                  repeat (go_big_quiet_step ((go_at_call 49; exact Calls.later (samePart_any Y _ _ _ (Ints.up (Later.below _) (unhide HK1)) (Ints.up (Later.below _) (unhide HK2))))))
                  refine wpQuiet_nil ?_
                  intro w9 hw'
                  obtain ⟨⟨w8, hb9⟩, hw''⟩ := hw'
                  subst hw''
                  clear hne lx ly lp0 lp1 lp2 lq0 lq1 lq2
                  go_wp2
                  go_roundw
                  case rel => exact ⟨m + 1, by omega, by go_num, bl_trans hb hb9, scell_up hb9 e3, scell_up hb9 e4⟩
                  case measure => (simp [intOf] <;> omega)
                · go_wp2
                  go_roundw
                  case rel => exact ⟨k + 1, by omega, by go_num, hb⟩
                  case measure => (simp [intOf] <;> omega)
            · have hbp := hb
              go_wp2
              clear hb hlt hk X4 Y4
              go_loopw [11] (fun i wr => ∃ k : Nat, k ≤ S.que.length ∧ i = .int .i64 k ∧ Below w1.heap.size w1 wr) (fun i _ => S.que.length - (intOf i).toNat)
              case atStart => exact ⟨0, Nat.zero_le _, rfl, hbp⟩
              case round =>
                clear hbp
                obtain ⟨k, hk, rfl, hb⟩ := hrel
                have X5 := scell_up hb x5
                have Y5 := scell_up hb y5
                by_cases hlt : k < S.que.length
                · obtain ⟨bp, op, e1, rp⟩ := Lst.at (unhide L1).que hlt
                  obtain ⟨bq, oq, e2, rq⟩ := Lst.at (unhide L2).que hlt
                  subst e1 e2
                  obtain ⟨Z, hZ⟩ : ∃ Z, S.que.getD k ak0 = Z := ⟨_, rfl⟩
                  rw [hZ] at rp rq
                  replace rp := RAk.up hb rp
                  replace rq := RAk.up hb rq
                  have p0 := rp.c0
                  have q0 := rq.c0
                  have p1 := rp.c1
                  have q1 := rq.c1
                  have p2 := rp.c2
                  have q2 := rq.c2
                  clear hZ rp rq
                  go_wp2
                  have hne := Later.one wr
                  have lx := fun d : Later wr => d.cell X5
                  have ly := fun d : Later wr => d.cell Y5
                  have lp0 := fun d : Later wr => d.cell p0
                  have lq0 := fun d : Later wr => d.cell q0
                  have lp1 := fun d : Later wr => d.cell p1
                  have lq1 := fun d : Later wr => d.cell q1
                  have lp2 := fun d : Later wr => d.cell p2
                  have lq2 := fun d : Later wr => d.cell q2
                  refine wp_region_later (by kernel_rfl) (by kernel_rfl) ?_
                  repeat (go_big_quiet_step (fail))
                  refine wpQuiet_nil ?_
                  intro w9 hw'
                  obtain ⟨⟨w8, hb9⟩, hw''⟩ := hw'
                  subst hw''
                  clear hne lx ly lp0 lq0 lp1 lq1 lp2 lq2
                  go_wp2
                  go_roundw
                  case rel => exact ⟨k + 1, by omega, by go_num, bl_trans hb hb9⟩
                  case measure => (simp [intOf] <;> omega)
                · go_wp2
                  go_ret
                  exact ⟨rfl, bl_trans hw1 hb⟩
end Go.Proofs.Ytclnabbojhbmhaa
