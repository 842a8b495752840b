/- ring.Check and icehouseref.JournalFault: each answers jouE of the numbers, and touches nothing that was there. -/
import Derived.Test.YtgmoomkknihnmaaGeo
import Derived.Test.YtgmoomkknihnmaaBase2
import Derived.Deep.QuietTactic
import Derived.BigQuiet
namespace Go.Proofs.Ytgmoomkknihnmaa
open Go.RowKit
set_option maxRecDepth 100000
set_option linter.unusedVariables false
set_option linter.unusedSimpArgs false

/-- A journal that may be, of a geometry that may be. -/
def jouB (r a ge ep ar le st fi pl ne us : Int) : Bool :=
  inB ge 1 1048576 && inB ep 1 1048576 && inB fi 1 1048576 && inB ne fi 1048576 && inB ar 0 1 && inB le 0 (64 * a) && inB st 0 (r - 1) && inB us 0 r && decide (pl = (st + us) % r)
/-- What the check answers. -/
def jouE (r a h v n ge ep ar le st fi pl ne us : Int) : Int := if geoB r a h v n = true then (if jouB r a ge ep ar le st fi pl ne us = true then 0 else 9) else 2
theorem jou2 {r a h v n ge ep ar le st fi pl ne us : Int} (h1 : geoB r a h v n = false) : geoE r a h v n = jouE r a h v n ge ep ar le st fi pl ne us := by simp [jouE, geoE, h1]
theorem jou9 {r a h v n ge ep ar le st fi pl ne us : Int} (h1 : geoB r a h v n = true) (h2 : jouB r a ge ep ar le st fi pl ne us = false) : 9 = jouE r a h v n ge ep ar le st fi pl ne us := by simp [jouE, h1, h2]
theorem jou0 {r a h v n ge ep ar le st fi pl ne us : Int} (h1 : geoB r a h v n = true) (h2 : jouB r a ge ep ar le st fi pl ne us = true) : 0 = jouE r a h v n ge ep ar le st fi pl ne us := by simp [jouE, h1, h2]
theorem geoB_t {r a h v n : Int} (x : geoB r a h v n = true) : 4 ≤ r ∧ r ≤ 60 ∧ 2 ≤ a ∧ a ≤ 80 ∧ 2 ≤ h ∧ h ≤ 200 ∧ 100 ≤ v ∧ v ≤ 4000 ∧ 1 ≤ n ∧ n ≤ 8 := by simpa [geoB] using x
theorem jouB_f {r a ge ep ar le st fi pl ne us : Int} (x : ¬ (1 ≤ ge ∧ ge ≤ 1048576 ∧ 1 ≤ ep ∧ ep ≤ 1048576 ∧ 1 ≤ fi ∧ fi ≤ 1048576 ∧ fi ≤ ne ∧ ne ≤ 1048576 ∧ 0 ≤ ar ∧ ar ≤ 1 ∧ 0 ≤ le ∧ le ≤ 64 * a ∧ 0 ≤ st ∧ st ≤ r - 1 ∧ 0 ≤ us ∧ us ≤ r)) : jouB r a ge ep ar le st fi pl ne us = false := by
  simp only [jouB, inB]
  rw [Bool.eq_false_iff]
  simp
  intros
  exfalso
  apply x
  refine ⟨?_, ?_, ?_, ?_, ?_, ?_, ?_, ?_, ?_, ?_, ?_, ?_, ?_, ?_, ?_, ?_⟩ <;> omega
theorem jouB_p {r a ge ep ar le st fi pl ne us : Int} (x : pl ≠ (st + us) % r) : jouB r a ge ep ar le st fi pl ne us = false := by simp [jouB, x]
theorem jouB_t {r a ge ep ar le st fi pl ne us : Int} (x : 1 ≤ ge ∧ ge ≤ 1048576 ∧ 1 ≤ ep ∧ ep ≤ 1048576 ∧ 1 ≤ fi ∧ fi ≤ 1048576 ∧ fi ≤ ne ∧ ne ≤ 1048576 ∧ 0 ≤ ar ∧ ar ≤ 1 ∧ 0 ≤ le ∧ le ≤ 64 * a ∧ 0 ≤ st ∧ st ≤ r - 1 ∧ 0 ≤ us ∧ us ≤ r) (y : pl = (st + us) % r) : jouB r a ge ep ar le st fi pl ne us = true := by
  obtain ⟨h1, h2, h3, h4, h5, h6, h7, h8, h9, h10, h11, h12, h13, h14, h15, h16⟩ := x
  simp only [jouB, inB]
  simp
  refine ⟨⟨⟨⟨⟨⟨⟨⟨⟨?_, ?_⟩, ?_, ?_⟩, ?_, ?_⟩, ?_, ?_⟩, ?_, ?_⟩, ?_, ?_⟩, ?_, ?_⟩, ?_, ?_⟩, y⟩ <;> omega

theorem areaBytes_any (r a h v n : Int) (w : World) (ha : 0 ≤ a ∧ a ≤ 80) :
    Calls Try.prog 7 #[.agg #[.int .i64 r, .int .i64 a, .int .i64 h, .int .i64 v, .int .i64 n]] w fun e w' => e = .returned (.int .i64 (a * 64)) ∧ Below w.heap.size w w' := by
  obtain ⟨_, _⟩ := ha
  go_enter Try.func7, Try.ntmps7
  go_wp2
  go_ret
  exact ⟨rfl, bl_alloc (Below.refl _ _) _⟩

set_option maxHeartbeats 2000000 in
theorem ringCheck_any (r a h v n ge ep ar le st fi pl ne us : Int) (w : World) :
    Calls Try.prog 4 #[.agg #[.int .i64 r, .int .i64 a, .int .i64 h, .int .i64 v, .int .i64 n], .agg #[.int .i64 ge, .int .i64 ep, .int .i64 ar, .int .i64 le, .int .i64 st, .int .i64 fi, .int .i64 pl, .int .i64 ne, .int .i64 us]] w fun e w' =>
      e = .returned (.int .i64 (jouE r a h v n ge ep ar le st fi pl ne us)) ∧ Below w.heap.size w w' := by
  have i0 : ∀ w, (Instr.index 30 (.agg #[.int .i64 ge, .int .i64 ep, .int .i64 fi, .int .i64 ne]) (.int .i64 0)).run Try.prog w = .ok (.int .i64 ge) w := fun _ => by kernel_rfl
  have i1 : ∀ w, (Instr.index 30 (.agg #[.int .i64 ge, .int .i64 ep, .int .i64 fi, .int .i64 ne]) (.int .i64 1)).run Try.prog w = .ok (.int .i64 ep) w := fun _ => by kernel_rfl
  have i2 : ∀ w, (Instr.index 30 (.agg #[.int .i64 ge, .int .i64 ep, .int .i64 fi, .int .i64 ne]) (.int .i64 2)).run Try.prog w = .ok (.int .i64 fi) w := fun _ => by kernel_rfl
  have i3 : ∀ w, (Instr.index 30 (.agg #[.int .i64 ge, .int .i64 ep, .int .i64 fi, .int .i64 ne]) (.int .i64 3)).run Try.prog w = .ok (.int .i64 ne) w := fun _ => by kernel_rfl
  go_enter Try.func4, Try.ntmps4
  go_wp2_with fail
  refine (checkGeometry_any r a h v n _).mono ?_
  rintro e w1 ⟨rfl, hb1⟩
  have hb0 : Below w.heap.size w w1 := bl_trans (bl2 _ _ _) hb1
  have f0 := box2b hb1 0 rfl
  have f1 := box2b hb1 1 rfl
  have f2 := box2b hb1 2 rfl
  have f3 := box2b hb1 3 rfl
  have f4 := box2b hb1 4 rfl
  have f5 := box2b hb1 5 rfl
  have f6 := box2b hb1 6 rfl
  have f7 := box2b hb1 7 rfl
  have f8 := box2b hb1 8 rfl
  have g0 := box2a hb1 0 rfl
  have g1 := box2a hb1 1 rfl
  have g2 := box2a hb1 2 rfl
  have g3 := box2a hb1 3 rfl
  have g4 := box2a hb1 4 rfl
  clear hb1
  cases hg : geoB r a h v n
  case false =>
    have HE := hide (jou2 (ge := ge) (ep := ep) (ar := ar) (le := le) (st := st) (fi := fi) (pl := pl) (ne := ne) (us := us) hg)
    have hE : geoE r a h v n = 2 := by simp [geoE, hg]
    rw [hE] at HE ⊢
    clear hE hg
    go_wp2
    go_ret
    exact ⟨ret_int (unhide HE), hb0⟩
  have hE : geoE r a h v n = 0 := by simp [geoE, hg]
  rw [hE]
  obtain ⟨b1, b2, b3, b4, _⟩ := geoB_t hg
  have HG := hide hg
  clear hg hE
  go_wp2
  refine wp_loop_rounds 5 ?_
  rw [rounds_succ]
  go_wp2
  all_goals first | (go_ret; exact ⟨ret_int (jou9 (unhide HG) (jouB_f (by omega))), hb0⟩) | skip
  rw [rounds_succ]
  go_wp2
  all_goals first | (go_ret; exact ⟨ret_int (jou9 (unhide HG) (jouB_f (by omega))), hb0⟩) | skip
  rw [rounds_succ]
  go_wp2
  all_goals first | (go_ret; exact ⟨ret_int (jou9 (unhide HG) (jouB_f (by omega))), hb0⟩) | skip
  rw [rounds_succ]
  go_wp2
  all_goals first | (go_ret; exact ⟨ret_int (jou9 (unhide HG) (jouB_f (by omega))), hb0⟩) | skip
  rw [rounds_succ]
  go_wp2
  clear i0 i1 i2 i3
  have hne := Later.one w1
  have f0' := fun d : Later w1 => d.cell f0
  have f1' := fun d : Later w1 => d.cell f1
  have f2' := fun d : Later w1 => d.cell f2
  have f3' := fun d : Later w1 => d.cell f3
  have f4' := fun d : Later w1 => d.cell f4
  have f5' := fun d : Later w1 => d.cell f5
  have f6' := fun d : Later w1 => d.cell f6
  have f7' := fun d : Later w1 => d.cell f7
  have f8' := fun d : Later w1 => d.cell f8
  have g0' := fun d : Later w1 => d.cell g0
  have g1' := fun d : Later w1 => d.cell g1
  have g2' := fun d : Later w1 => d.cell g2
  have g3' := fun d : Later w1 => d.cell g3
  have g4' := fun d : Later w1 => d.cell g4
  refine wp_region_later (by kernel_rfl) (by kernel_rfl) ?_
  by_cases d1 : ne < fi
  case pos =>
    have e1 : decide (ne < fi) = true := by simpa using d1
    repeat (go_big_quiet_step ((go_at_call 7; exact Calls.later (areaBytes_any r a h v n _ (by omega)))))
    refine wpQuiet_nil ?_
    intro _ hw'
    obtain ⟨⟨w2, hb2⟩, hw''⟩ := hw'
    subst hw''
    go_wp2
    go_ret
    exact ⟨ret_int (jou9 (unhide HG) (jouB_f (by omega))), bl_trans hb0 hb2⟩
  have e1 : decide (ne < fi) = false := by simpa using d1
  by_cases d2 : ar = 0 ∨ ar = 1
  case neg =>
    have e2 : (ar != 0) = true := by simp; omega
    have e3 : (ar != 1) = true := by simp; omega
    repeat (go_big_quiet_step ((go_at_call 7; exact Calls.later (areaBytes_any r a h v n _ (by omega)))))
    refine wpQuiet_nil ?_
    intro _ hw'
    obtain ⟨⟨w2, hb2⟩, hw''⟩ := hw'
    subst hw''
    go_wp2
    go_ret
    exact ⟨ret_int (jou9 (unhide HG) (jouB_f (by omega))), bl_trans hb0 hb2⟩
  have HD2 := hide d2
  by_cases d4 : le < 0
  case pos =>
    have e4 : decide (le < 0) = true := by simpa using d4
    rcases d2 with rfl | rfl
    all_goals
      repeat (go_big_quiet_step ((go_at_call 7; exact Calls.later (areaBytes_any r a h v n _ (by omega)))))
      refine wpQuiet_nil ?_
      intro _ hw'
      obtain ⟨⟨w2, hb2⟩, hw''⟩ := hw'
      subst hw''
      go_wp2
      go_ret
      exact ⟨ret_int (jou9 (unhide HG) (jouB_f (by omega))), bl_trans hb0 hb2⟩
  have e4 : decide (le < 0) = false := by simpa using d4
  by_cases d5 : le > a * 64
  case pos =>
    have e5 : decide (le > a * 64) = true := by simpa using d5
    rcases d2 with rfl | rfl
    all_goals
      repeat (go_big_quiet_step ((go_at_call 7; exact Calls.later (areaBytes_any r a h v n _ (by omega)))))
      refine wpQuiet_nil ?_
      intro _ hw'
      obtain ⟨⟨w2, hb2⟩, hw''⟩ := hw'
      subst hw''
      go_wp2
      go_ret
      exact ⟨ret_int (jou9 (unhide HG) (jouB_f (by omega))), bl_trans hb0 hb2⟩
  have e5 : decide (le > a * 64) = false := by simpa using d5
  have e2 : ∀ b : Int, b = 0 ∨ b = 1 → ((b != 0) = true → (b != 1) = false) := by intro b hb; rcases hb with rfl | rfl <;> simp
  rcases d2 with rfl | rfl
  all_goals
    repeat (go_big_quiet_step ((go_at_call 7; exact Calls.later (areaBytes_any r a h v n _ (by omega)))))
    refine wpQuiet_nil ?_
    intro _ hw'
    obtain ⟨⟨w2, hb2⟩, hw''⟩ := hw'
    subst hw''
    rename_i w2
    have hb02 := bl_trans hb0 hb2
    go_wp2
    clear f0' f1' f2' f3' f4' f5' f6' f7' f8' g0' g1' g2' g3' g4' hne e1 e4 e5 e2
    have hne := Later.one w2
    have f4' := fun d : Later w2 => d.cell (cell_up hb2 f4)
    have f6' := fun d : Later w2 => d.cell (cell_up hb2 f6)
    have f8' := fun d : Later w2 => d.cell (cell_up hb2 f8)
    have g0' := fun d : Later w2 => d.cell (cell_up hb2 g0)
    clear f0 f1 f2 f3 f4 f5 f6 f7 f8 g0 g1 g2 g3 g4
    refine wp_region_later (by kernel_rfl) (by kernel_rfl) ?_
    by_cases d1 : st < 0
    case pos =>
      have e1 : decide (st < 0) = true := by simpa using d1
      repeat (go_big_quiet_step ((fail)))
      refine wpQuiet_nil ?_
      intro _ hw'
      obtain ⟨⟨w3, hb3⟩, hw''⟩ := hw'
      subst hw''
      go_wp2
      go_ret
      exact ⟨ret_int (jou9 (unhide HG) (jouB_f (by omega))), bl_trans hb02 hb3⟩
    have e1 : decide (st < 0) = false := by simpa using d1
    by_cases d6 : st ≥ r
    case pos =>
      have e6 : decide (st ≥ r) = true := by simpa using d6
      repeat (go_big_quiet_step ((fail)))
      refine wpQuiet_nil ?_
      intro _ hw'
      obtain ⟨⟨w3, hb3⟩, hw''⟩ := hw'
      subst hw''
      go_wp2
      go_ret
      exact ⟨ret_int (jou9 (unhide HG) (jouB_f (by omega))), bl_trans hb02 hb3⟩
    have e6 : decide (st ≥ r) = false := by simpa using d6
    by_cases d7 : us < 0
    case pos =>
      have e7 : decide (us < 0) = true := by simpa using d7
      repeat (go_big_quiet_step ((fail)))
      refine wpQuiet_nil ?_
      intro _ hw'
      obtain ⟨⟨w3, hb3⟩, hw''⟩ := hw'
      subst hw''
      go_wp2
      go_ret
      exact ⟨ret_int (jou9 (unhide HG) (jouB_f (by omega))), bl_trans hb02 hb3⟩
    have e7 : decide (us < 0) = false := by simpa using d7
    by_cases d8 : us > r
    case pos =>
      have e8 : decide (us > r) = true := by simpa using d8
      repeat (go_big_quiet_step ((fail)))
      refine wpQuiet_nil ?_
      intro _ hw'
      obtain ⟨⟨w3, hb3⟩, hw''⟩ := hw'
      subst hw''
      go_wp2
      go_ret
      exact ⟨ret_int (jou9 (unhide HG) (jouB_f (by omega))), bl_trans hb02 hb3⟩
    have e8 : decide (us > r) = false := by simpa using d8
    by_cases d9 : pl = (st + us) % r
    case neg =>
      have e9 : (pl != (st + us) % r) = true := by simpa using d9
      repeat (go_big_quiet_step ((fail)))
      refine wpQuiet_nil ?_
      intro _ hw'
      obtain ⟨⟨w3, hb3⟩, hw''⟩ := hw'
      subst hw''
      go_wp2
      go_ret
      exact ⟨ret_int (jou9 (unhide HG) (jouB_p d9)), bl_trans hb02 hb3⟩
    case pos =>
      have HP := hide d9
      have e9 : (pl != (st + us) % r) = false := by simpa using d9
      clear d9
      repeat (go_big_quiet_step ((fail)))
      refine wpQuiet_nil ?_
      intro _ hw'
      obtain ⟨⟨w3, hb3⟩, hw''⟩ := hw'
      subst hw''
      go_wp2
      go_ret
      exact ⟨ret_int (jou0 (unhide HG) (jouB_t (by omega) (unhide HP))), bl_trans hb02 hb3⟩

set_option maxHeartbeats 2000000 in
theorem journalFault_any (r a h v n ge ep ar le st fi pl ne us : Int) (w : World) :
    Calls Try.prog 5 #[.agg #[.int .i64 r, .int .i64 a, .int .i64 h, .int .i64 v, .int .i64 n], .agg #[.int .i64 ge, .int .i64 ep, .int .i64 ar, .int .i64 le, .int .i64 st, .int .i64 fi, .int .i64 pl, .int .i64 ne, .int .i64 us]] w fun e w' =>
      e = .returned (.int .i64 (jouE r a h v n ge ep ar le st fi pl ne us)) ∧ Below w.heap.size w w' := by
  go_enter Try.func5, Try.ntmps5
  go_wp2_with fail
  refine (geometryFault_any r a h v n _).mono ?_
  rintro e w1 ⟨rfl, hb1⟩
  have hb0 : Below w.heap.size w w1 := bl_trans (bl2 _ _ _) hb1
  have f0 := box2b hb1 0 rfl
  have f1 := box2b hb1 1 rfl
  have f2 := box2b hb1 2 rfl
  have f3 := box2b hb1 3 rfl
  have f4 := box2b hb1 4 rfl
  have f5 := box2b hb1 5 rfl
  have f6 := box2b hb1 6 rfl
  have f7 := box2b hb1 7 rfl
  have f8 := box2b hb1 8 rfl
  have g0 := box2a hb1 0 rfl
  have g1 := box2a hb1 1 rfl
  clear hb1
  cases hg : geoB r a h v n
  case false =>
    have HE := hide (jou2 (ge := ge) (ep := ep) (ar := ar) (le := le) (st := st) (fi := fi) (pl := pl) (ne := ne) (us := us) hg)
    have hE : geoE r a h v n = 2 := by simp [geoE, hg]
    rw [hE] at HE ⊢
    clear hE hg
    go_wp2
    go_ret
    exact ⟨ret_int (unhide HE), hb0⟩
  have hE : geoE r a h v n = 0 := by simp [geoE, hg]
  rw [hE]
  obtain ⟨b1, b2, b3, b4, _⟩ := geoB_t hg
  have HG := hide hg
  clear hg hE
  cases h1 : inB ge 1 1048576
  case false =>
    have HP := hide (jou9 (pl := pl) (us := us) (unhide HG) (by simp [jouB, h1] : jouB r a ge ep ar le st fi pl ne us = false))
    go_wp2_with (go_at_call 9; refine (in_any _ _ _ _).mono ?_; rintro e w' ⟨rfl, rfl⟩)
    go_ret
    exact ⟨ret_int (unhide HP), hb0⟩
  cases h2 : inB ep 1 1048576
  case false =>
    have HP := hide (jou9 (pl := pl) (us := us) (unhide HG) (by simp [jouB, h2] : jouB r a ge ep ar le st fi pl ne us = false))
    go_wp2_with (go_at_call 9; refine (in_any _ _ _ _).mono ?_; rintro e w' ⟨rfl, rfl⟩)
    go_ret
    exact ⟨ret_int (unhide HP), hb0⟩
  cases h3 : inB fi 1 1048576
  case false =>
    have HP := hide (jou9 (pl := pl) (us := us) (unhide HG) (by simp [jouB, h3] : jouB r a ge ep ar le st fi pl ne us = false))
    go_wp2_with (go_at_call 9; refine (in_any _ _ _ _).mono ?_; rintro e w' ⟨rfl, rfl⟩)
    go_ret
    exact ⟨ret_int (unhide HP), hb0⟩
  cases h4 : inB ne fi 1048576
  case false =>
    have HP := hide (jou9 (pl := pl) (us := us) (unhide HG) (by simp [jouB, h4] : jouB r a ge ep ar le st fi pl ne us = false))
    go_wp2_with (go_at_call 9; refine (in_any _ _ _ _).mono ?_; rintro e w' ⟨rfl, rfl⟩)
    go_ret
    exact ⟨ret_int (unhide HP), hb0⟩
  go_wp2_with (go_at_call 9; refine (in_any _ _ _ _).mono ?_; rintro e w' ⟨rfl, rfl⟩)
  have hne := Later.one w1
  have f2' := fun d : Later w1 => d.cell f2
  have f3' := fun d : Later w1 => d.cell f3
  have f4' := fun d : Later w1 => d.cell f4
  have f6' := fun d : Later w1 => d.cell f6
  have f8' := fun d : Later w1 => d.cell f8
  have g0' := fun d : Later w1 => d.cell g0
  have g1' := fun d : Later w1 => d.cell g1
  refine wp_region_later (by kernel_rfl) (by kernel_rfl) ?_
  cases h5 : inB ar 0 1
  case false =>
    have HP := hide (jou9 (pl := pl) (unhide HG) (by simp [jouB, h5] : jouB r a ge ep ar le st fi pl ne us = false))
    repeat (go_big_quiet_step ((go_at_call 9; exact Calls.later_same (in_any _ _ _ _))))
    refine wpQuiet_nil ?_
    intro _ hw'
    obtain ⟨⟨w3, hb3⟩, hw''⟩ := hw'
    subst hw''
    go_wp2
    go_ret
    exact ⟨ret_int (unhide HP), bl_trans hb0 hb3⟩
  cases h6 : inB le 0 (64 * a)
  case false =>
    have HP := hide (jou9 (pl := pl) (unhide HG) (by simp [jouB, h6] : jouB r a ge ep ar le st fi pl ne us = false))
    repeat (go_big_quiet_step ((go_at_call 9; exact Calls.later_same (in_any _ _ _ _))))
    refine wpQuiet_nil ?_
    intro _ hw'
    obtain ⟨⟨w3, hb3⟩, hw''⟩ := hw'
    subst hw''
    go_wp2
    go_ret
    exact ⟨ret_int (unhide HP), bl_trans hb0 hb3⟩
  cases h7 : inB st 0 (r - 1)
  case false =>
    have HP := hide (jou9 (pl := pl) (unhide HG) (by simp [jouB, h7] : jouB r a ge ep ar le st fi pl ne us = false))
    repeat (go_big_quiet_step ((go_at_call 9; exact Calls.later_same (in_any _ _ _ _))))
    refine wpQuiet_nil ?_
    intro _ hw'
    obtain ⟨⟨w3, hb3⟩, hw''⟩ := hw'
    subst hw''
    go_wp2
    go_ret
    exact ⟨ret_int (unhide HP), bl_trans hb0 hb3⟩
  cases h8 : inB us 0 r
  case false =>
    have HP := hide (jou9 (pl := pl) (unhide HG) (by simp [jouB, h8] : jouB r a ge ep ar le st fi pl ne us = false))
    repeat (go_big_quiet_step ((go_at_call 9; exact Calls.later_same (in_any _ _ _ _))))
    refine wpQuiet_nil ?_
    intro _ hw'
    obtain ⟨⟨w3, hb3⟩, hw''⟩ := hw'
    subst hw''
    go_wp2
    go_ret
    exact ⟨ret_int (unhide HP), bl_trans hb0 hb3⟩
  have hs := inB_t h7
  have hu := inB_t h8
  by_cases d9 : pl = (st + us) % r
  case neg =>
    have HP := hide (jou9 (unhide HG) (jouB_p (ge := ge) (ep := ep) (ar := ar) (le := le) (fi := fi) (ne := ne) (a := a) d9))
    have e9 : (pl != (st + us) % r) = true := by simpa using d9
    repeat (go_big_quiet_step ((go_at_call 9; exact Calls.later_same (in_any _ _ _ _))))
    refine wpQuiet_nil ?_
    intro _ hw'
    obtain ⟨⟨w3, hb3⟩, hw''⟩ := hw'
    subst hw''
    go_wp2
    go_ret
    exact ⟨ret_int (unhide HP), bl_trans hb0 hb3⟩
  case pos =>
    have HP := hide (jou0 (unhide HG) (by simp [jouB, h1, h2, h3, h4, h5, h6, h7, h8, d9] : jouB r a ge ep ar le st fi pl ne us = true))
    have e9 : (pl != (st + us) % r) = false := by simpa using d9
    clear d9
    repeat (go_big_quiet_step ((go_at_call 9; exact Calls.later_same (in_any _ _ _ _))))
    refine wpQuiet_nil ?_
    intro _ hw'
    obtain ⟨⟨w3, hb3⟩, hw''⟩ := hw'
    subst hw''
    go_wp2
    go_ret
    exact ⟨ret_int (unhide HP), bl_trans hb0 hb3⟩
end Go.Proofs.Ytgmoomkknihnmaa
