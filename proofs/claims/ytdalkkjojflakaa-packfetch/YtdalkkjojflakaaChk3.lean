import Derived.Test.YtdalkkjojflakaaChk2
import Derived.Deep.RegionWith
import Derived.Deep.DrawnRows
namespace Go.Proofs.Ytdalkkjojflakaa
open Go.RowKit
set_option linter.unusedVariables false
set_option linter.unusedSimpArgs false

/-- Devices that may be, of a geometry that may be. -/
def devB (r a h vm nv : Int) (D : Dv) : Bool :=
  decide ((D.safe.length : Int) = 2 + r + 2 * a + h) && decide ((D.cache.length : Int) ≤ 2000) && decide ((D.vols.length : Int) ≤ nv) && inB D.fuel (-1) 1048576 &&
  allB D.safe.length (fun i => ((D.safe.getD i []).length : Int) == 64) &&
  allB D.cache.length (fun i => inB (D.cache.getD i ⟨0, []⟩).pos 0 ((D.safe.length : Int) - 1) && (((D.cache.getD i ⟨0, []⟩).data.length : Int) == 64)) &&
  allB D.vols.length (fun i => volB vm (D.vols.getD i ⟨[], 0, false⟩).data.length (D.vols.getD i ⟨[], 0, false⟩).synced (D.vols.getD i ⟨[], 0, false⟩).gone)
def chkE (r a h vm nv : Int) (D : Dv) : Int := if geoB r a h vm nv then (if devB r a h vm nv D then 0 else 9) else 2

theorem chk9 {r a h vm nv : Int} {D : Dv} (hg : geoB r a h vm nv = true) (hd : devB r a h vm nv D = false) : 9 = chkE r a h vm nv D := by simp [chkE, hg, hd]
theorem chk0 {r a h vm nv : Int} {D : Dv} (hg : geoB r a h vm nv = true) (hd : devB r a h vm nv D = true) : 0 = chkE r a h vm nv D := by simp [chkE, hg, hd]
theorem chk2 {r a h vm nv : Int} {D : Dv} (hg : geoB r a h vm nv = false) : 2 = chkE r a h vm nv D := by simp [chkE, hg]
section
variable {r a h vm nv : Int} {D : Dv}
theorem devB1 (x : ¬ (D.safe.length : Int) = 2 + r + 2 * a + h) : devB r a h vm nv D = false := by unfold devB; rw [decide_eq_false x]; rfl
theorem devB2 (x : ¬ (D.cache.length : Int) ≤ 2000) : devB r a h vm nv D = false := by unfold devB; rw [decide_eq_false x, Bool.and_false]; rfl
theorem devB3 (x : ¬ (D.vols.length : Int) ≤ nv) : devB r a h vm nv D = false := by unfold devB; rw [decide_eq_false x, Bool.and_false]; rfl
theorem devB4 (x : inB D.fuel (-1) 1048576 = false) : devB r a h vm nv D = false := by unfold devB; rw [x, Bool.and_false]; rfl
theorem devB5 (x : allB D.safe.length (fun i => ((D.safe.getD i []).length : Int) == 64) = false) : devB r a h vm nv D = false := by unfold devB; rw [x, Bool.and_false]; rfl
theorem devB6 (x : allB D.cache.length (fun i => inB (D.cache.getD i ⟨0, []⟩).pos 0 ((D.safe.length : Int) - 1) && (((D.cache.getD i ⟨0, []⟩).data.length : Int) == 64)) = false) : devB r a h vm nv D = false := by unfold devB; rw [x, Bool.and_false]; rfl
theorem devB7 (x : allB D.vols.length (fun i => volB vm (D.vols.getD i ⟨[], 0, false⟩).data.length (D.vols.getD i ⟨[], 0, false⟩).synced (D.vols.getD i ⟨[], 0, false⟩).gone) = false) : devB r a h vm nv D = false := by unfold devB; rw [x, Bool.and_false]
theorem devB0 (x1 : (D.safe.length : Int) = 2 + r + 2 * a + h) (x2 : (D.cache.length : Int) ≤ 2000) (x3 : (D.vols.length : Int) ≤ nv) (x4 : inB D.fuel (-1) 1048576 = true) (x5 : allB D.safe.length (fun i => ((D.safe.getD i []).length : Int) == 64) = true)
    (x6 : allB D.cache.length (fun i => inB (D.cache.getD i ⟨0, []⟩).pos 0 ((D.safe.length : Int) - 1) && (((D.cache.getD i ⟨0, []⟩).data.length : Int) == 64)) = true)
    (x7 : allB D.vols.length (fun i => volB vm (D.vols.getD i ⟨[], 0, false⟩).data.length (D.vols.getD i ⟨[], 0, false⟩).synced (D.vols.getD i ⟨[], 0, false⟩).gone) = true) : devB r a h vm nv D = true := by
  unfold devB; rw [decide_eq_true x1, decide_eq_true x2, decide_eq_true x3, x4, x5, x6, x7]; rfl
end

theorem geoB_bd {r a h v n : Int} (x : geoB r a h v n = true) : (4 ≤ r ∧ r ≤ 60) ∧ (2 ≤ a ∧ a ≤ 80) ∧ (2 ≤ h ∧ h ≤ 200) ∧ (100 ≤ v ∧ v ≤ 4000) ∧ (1 ≤ n ∧ n ≤ 8) := by
  simp [geoB] at x; omega
theorem geoE_t {r a h v n : Int} (x : geoB r a h v n = true) : geoE r a h v n = 0 := by simp [geoE, x]
theorem geoE_f {r a h v n : Int} (x : geoB r a h v n = false) : geoE r a h v n = 2 := by simp [geoE, x]

attribute [local go_sem ↓] Go.wp_at_zero Go.wp_at_succ
set_option maxHeartbeats 2000000 in
theorem check_any (r a h vm nv : Int) (s c v : Value) (D : Dv) (w : World) (hD : Dev w s c v D) :
    Calls Try.prog 37 #[.agg #[.int .i64 r, .int .i64 a, .int .i64 h, .int .i64 vm, .int .i64 nv], .agg #[s, c, v, .int .i64 D.fuel]] w fun e w' => e = .returned (.int .i64 (chkE r a h vm nv D)) ∧ Below w.heap.size w w' := by
  obtain ⟨⟨a1, cap1, rfl, l1, m1, hs⟩, ⟨a2, cap2, rfl, l2, m2, hc⟩, ⟨a3, cap3, rfl, l3, m3, hv⟩⟩ := hD
  unfold maxLen at m1 m2 m3
  have HS : Hid (∀ i, i < D.safe.length → ∃ b o, a1 = some ⟨b, o, none⟩ ∧ ∃ u, w.cell? ⟨b, o + i, none⟩ = some u ∧ Bts w u (D.safe.getD i [])) := hs
  have HC : Hid (∀ i, i < D.cache.length → ∃ b o, a2 = some ⟨b, o, none⟩ ∧ w.cell? ⟨b, o + i * 2, none⟩ = some (.int .i64 (D.cache.getD i ⟨0, []⟩).pos) ∧ ∃ u, w.cell? ⟨b, o + i * 2 + 1, none⟩ = some u ∧ Bts w u (D.cache.getD i ⟨0, []⟩).data) := hc
  have HV : Hid (∀ i, i < D.vols.length → ∃ b o, a3 = some ⟨b, o, none⟩ ∧ (∃ u, w.cell? ⟨b, o + i * 3, none⟩ = some u ∧ Bts w u (D.vols.getD i ⟨[], 0, false⟩).data) ∧ w.cell? ⟨b, o + i * 3 + 1, none⟩ = some (.int .i64 (D.vols.getD i ⟨[], 0, false⟩).synced) ∧ w.cell? ⟨b, o + i * 3 + 2, none⟩ = some (.bool (D.vols.getD i ⟨[], 0, false⟩).gone)) := hv
  clear hs hc hv
  go_enter Try.func37, Try.ntmps37
  go_wp2_with fail
  refine (checkGeometry_any r a h vm nv _).mono ?_
  rintro e w1 ⟨rfl, hb1⟩
  cases hg : geoB r a h vm nv
  · rw [geoE_f hg]
    go_wp2
    go_ret
    exact ⟨ret_int (chk2 hg), bl_trans (bl_alloc (bl_alloc (Below.refl _ _) _) _) hb1⟩
  rw [geoE_t hg]
  obtain ⟨⟨_, _⟩, ⟨_, _⟩, ⟨_, _⟩, ⟨_, _⟩, ⟨_, _⟩⟩ := geoB_bd hg
  have hb0 : Below w.heap.size w w1 := bl_trans (bl_alloc (bl_alloc (Below.refl _ _) _) _) hb1
  have g0 := box2a hb1 0 rfl
  have g1 := box2a hb1 1 rfl
  have g2 := box2a hb1 2 rfl
  have g3 := box2a hb1 3 rfl
  have g4 := box2a hb1 4 rfl
  have f0 := box2b hb1 0 rfl
  have f1 := box2b hb1 1 rfl
  have f2 := box2b hb1 2 rfl
  have f3 := box2b hb1 3 rfl
  clear hb1
  go_wp2_with fail
  have hne := Later.one w1
  have g0' := fun d : Later w1 => d.cell g0
  have g1' := fun d : Later w1 => d.cell g1
  have g2' := fun d : Later w1 => d.cell g2
  have g3' := fun d : Later w1 => d.cell g3
  have g4' := fun d : Later w1 => d.cell g4
  have f0' := fun d : Later w1 => d.cell f0
  have f1' := fun d : Later w1 => d.cell f1
  have f2' := fun d : Later w1 => d.cell f2
  refine wp_region_later (by kernel_rfl) (by kernel_rfl) ?_
  by_cases d1 : (D.safe.length : Int) = 2 + r + 2 * a + h
  case neg =>
    have e1 : ((D.safe.length : Int) != 2 + r + 2 * a + h) = true := by simpa using d1
    repeat (go_big_quiet_step ((go_at_call 36; exact Calls.later (sectors_any r a h vm nv _ (by omega) (by omega) (by omega)))))
    refine wpQuiet_nil ?_
    intro _ hw'
    obtain ⟨⟨w2, hb2⟩, hw''⟩ := hw'
    subst hw''
    go_wp2
    go_ret
    exact ⟨ret_int (chk9 hg (devB1 d1)), bl_trans hb0 hb2⟩
  have e1 : ((D.safe.length : Int) != 2 + r + 2 * a + h) = false := by simpa using d1
  have HD1 := hide d1
  clear d1
  by_cases d2 : (D.cache.length : Int) ≤ 2000
  case neg =>
    have e2 : decide ((2000 : Int) < (D.cache.length : Int)) = true := by simp; omega
    repeat (go_big_quiet_step ((go_at_call 36; exact Calls.later (sectors_any r a h vm nv _ (by omega) (by omega) (by omega)))))
    refine wpQuiet_nil ?_
    intro _ hw'
    obtain ⟨⟨w2, hb2⟩, hw''⟩ := hw'
    subst hw''
    go_wp2
    go_ret
    exact ⟨ret_int (chk9 hg (devB2 (by omega))), bl_trans hb0 hb2⟩
  have e2 : decide ((2000 : Int) < (D.cache.length : Int)) = false := by simp; omega
  by_cases d3 : (D.vols.length : Int) ≤ nv
  case neg =>
    have e3 : decide (nv < (D.vols.length : Int)) = true := by simp; omega
    repeat (go_big_quiet_step ((go_at_call 36; exact Calls.later (sectors_any r a h vm nv _ (by omega) (by omega) (by omega)))))
    refine wpQuiet_nil ?_
    intro _ hw'
    obtain ⟨⟨w2, hb2⟩, hw''⟩ := hw'
    subst hw''
    go_wp2
    go_ret
    exact ⟨ret_int (chk9 hg (devB3 (by omega))), bl_trans hb0 hb2⟩
  have e3 : decide (nv < (D.vols.length : Int)) = false := by simp; omega
  repeat (go_big_quiet_step ((go_at_call 36; exact Calls.later (sectors_any r a h vm nv _ (by omega) (by omega) (by omega)))))
  refine wpQuiet_nil ?_
  intro _ hw'
  obtain ⟨⟨w2, hb2⟩, hw''⟩ := hw'
  subst hw''
  clear hne g0' g1' g2' g3' g4' f0' f1' f2'
  replace hb0 := bl_trans hb0 hb2
  replace g0 := cell_up hb2 g0
  replace g1 := cell_up hb2 g1
  replace g2 := cell_up hb2 g2
  replace g3 := cell_up hb2 g3
  replace g4 := cell_up hb2 g4
  replace f0 := cell_up hb2 f0
  replace f1 := cell_up hb2 f1
  replace f2 := cell_up hb2 f2
  replace f3 := cell_up hb2 f3
  clear hb2
  by_cases d4 : -1 ≤ D.fuel
  case neg =>
    go_wp2
    go_ret
    exact ⟨ret_int (chk9 hg (devB4 (by simp [inB]; omega))), hb0⟩
  by_cases d5 : D.fuel ≤ 1048576
  case neg =>
    go_wp2
    go_ret
    exact ⟨ret_int (chk9 hg (devB4 (by simp [inB]; omega))), hb0⟩
  have hmf : ∀ (fn : Fn) (first cap : Array Value) (w : World), (Instr.makeFunc fn first cap).run Try.prog w = .ok (.func fn first cap) w := fun _ _ _ _ => rfl
  have i4 : inB D.fuel (-1) 1048576 = true := by simp [inB, d4, d5]
  go_wp2_with fail
  refine (every1_any D.safe.length _ (fun i => ((D.safe.getD i []).length : Int) == 64) _ (by omega) ?_).mono ?_
  · intro k hk wr hbr
    obtain ⟨b, o, rfl, u, hu, x, cp, rfl, lx, mx, _⟩ := HS.out k hk
    unfold maxLen at mx
    refine (check1_any _ b o _ _ k _ cp x wr hk (by omega) (by omega) (cell_up hbr f0) (cell_up (bl_trans hb0 hbr) hu)).mono ?_
    rintro e w' ⟨rfl, rfl⟩
    exact ⟨rfl, Below.refl _ _⟩
  rintro e w3 ⟨rfl, hb3⟩
  replace hb0 := bl_trans hb0 hb3
  replace g0 := cell_up hb3 g0
  replace g1 := cell_up hb3 g1
  replace g2 := cell_up hb3 g2
  replace g3 := cell_up hb3 g3
  replace g4 := cell_up hb3 g4
  replace f0 := cell_up hb3 f0
  replace f1 := cell_up hb3 f1
  replace f2 := cell_up hb3 f2
  replace f3 := cell_up hb3 f3
  clear hb3
  cases hA1 : allB D.safe.length (fun i => ((D.safe.getD i []).length : Int) == 64)
  case false =>
    go_wp2
    go_ret
    exact ⟨ret_int (chk9 hg (devB5 hA1)), hb0⟩
  have HA1 := hide hA1
  clear hA1
  go_wp2_with fail
  refine (every2_any D.cache.length _ (fun i => inB (D.cache.getD i ⟨0, []⟩).pos 0 ((D.safe.length : Int) - 1) && (((D.cache.getD i ⟨0, []⟩).data.length : Int) == 64)) _ (by omega) ?_).mono ?_
  · intro k hk wr hbr
    obtain ⟨b, o, rfl, hp, u, hu, x, cp, rfl, lx, mx, _⟩ := HC.out k hk
    unfold maxLen at mx
    have hq := bl_trans hb0 hbr
    exact check2_any _ b o _ _ k _ cp x _ D.safe.length _ _ _ _ wr hk (by omega) (by omega) (by omega) (cell_up hbr f0) (cell_up hbr f1) (cell_up hbr f2) (cell_up hbr f3) (cell_up hq hp) (cell_up hq hu)
  rintro e w4 ⟨rfl, hb3⟩
  replace hb0 := bl_trans hb0 hb3
  replace g0 := cell_up hb3 g0
  replace g1 := cell_up hb3 g1
  replace g2 := cell_up hb3 g2
  replace g3 := cell_up hb3 g3
  replace g4 := cell_up hb3 g4
  replace f0 := cell_up hb3 f0
  replace f1 := cell_up hb3 f1
  replace f2 := cell_up hb3 f2
  replace f3 := cell_up hb3 f3
  clear hb3
  cases hA2 : allB D.cache.length (fun i => inB (D.cache.getD i ⟨0, []⟩).pos 0 ((D.safe.length : Int) - 1) && (((D.cache.getD i ⟨0, []⟩).data.length : Int) == 64))
  case false =>
    go_wp2
    go_ret
    exact ⟨ret_int (chk9 hg (devB6 hA2)), hb0⟩
  have HA2 := hide hA2
  clear hA2
  go_wp2_with fail
  refine (every3_any D.vols.length _ _ (fun i => volB vm (D.vols.getD i ⟨[], 0, false⟩).data.length (D.vols.getD i ⟨[], 0, false⟩).synced (D.vols.getD i ⟨[], 0, false⟩).gone) _ (by omega) ?_).mono ?_
  · intro k hk wr hbr
    obtain ⟨b, o, rfl, ⟨u, hu, x, cp, rfl, lx, mx, _⟩, hp, hgo⟩ := HV.out k hk
    unfold maxLen at mx
    have hq := bl_trans hb0 hbr
    exact check3_any _ _ b o _ _ k _ cp x r a h vm nv _ _ wr hk (by omega) (by omega) (cell_up hbr g0) (cell_up hbr g1) (cell_up hbr g2) (cell_up hbr g3) (cell_up hbr g4) (cell_up hbr f2) (cell_up hq hu) (cell_up hq hp) (cell_up hq hgo)
  rintro e w5 ⟨rfl, hb3⟩
  replace hb0 := bl_trans hb0 hb3
  clear hb3
  cases hA3 : allB D.vols.length (fun i => volB vm (D.vols.getD i ⟨[], 0, false⟩).data.length (D.vols.getD i ⟨[], 0, false⟩).synced (D.vols.getD i ⟨[], 0, false⟩).gone)
  case false =>
    go_wp2
    go_ret
    exact ⟨ret_int (chk9 hg (devB7 hA3)), hb0⟩
  have HA3 := hide hA3
  clear hA3
  go_wp2
  go_ret
  exact ⟨ret_int (chk0 hg (devB0 (unhide HD1) d2 d3 i4 (unhide HA1) (unhide HA2) (unhide HA3))), hb0⟩
end Go.Proofs.Ytdalkkjojflakaa
