/- The two checks of a geometry, dev.CheckGeometry and icehouseref.GeometryFault: each answers geoE of the five numbers, and touches nothing that was there. -/
import Derived.Test.YtdalkkjojflakaaInB
namespace Go.Proofs.Ytdalkkjojflakaa
open Go.RowKit
set_option linter.unusedVariables false
set_option linter.unusedSimpArgs false

/-- A geometry that may be. -/
def geoB (r a h v n : Int) : Bool := decide (4 ≤ r ∧ r ≤ 60 ∧ 2 ≤ a ∧ a ≤ 80 ∧ 2 ≤ h ∧ h ≤ 200 ∧ 100 ≤ v ∧ v ≤ 4000 ∧ 1 ≤ n ∧ n ≤ 8)
/-- What the check answers: 0, or 2. -/
def geoE (r a h v n : Int) : Int := if geoB r a h v n = true then 0 else 2

theorem geoE_lo {r a h v n : Int} (x : ¬ (4 ≤ r ∧ r ≤ 60 ∧ 2 ≤ a ∧ a ≤ 80 ∧ 2 ≤ h ∧ h ≤ 200 ∧ 100 ≤ v ∧ v ≤ 4000 ∧ 1 ≤ n ∧ n ≤ 8)) : geoE r a h v n = 2 := by
  simp [geoE, geoB]; omega
theorem geoE_ok {r a h v n : Int} (x : 4 ≤ r ∧ r ≤ 60 ∧ 2 ≤ a ∧ a ≤ 80 ∧ 2 ≤ h ∧ h ≤ 200 ∧ 100 ≤ v ∧ v ≤ 4000 ∧ 1 ≤ n ∧ n ≤ 8) : geoE r a h v n = 0 := by
  simp [geoE, geoB]; omega

set_option maxHeartbeats 1000000 in
set_option maxRecDepth 100000 in
theorem checkGeometry_any (r a h v n : Int) (w : World) :
    Calls Try.prog 35 #[.agg #[.int .i64 r, .int .i64 a, .int .i64 h, .int .i64 v, .int .i64 n]] w fun e w' => e = .returned (.int .i64 (geoE r a h v n)) ∧ Below w.heap.size w w' := by
  have i0 : ∀ w, (Instr.index 91 (.agg #[.int .i64 r, .int .i64 a, .int .i64 h, .int .i64 v, .int .i64 n]) (.int .i64 0)).run Try.prog w = .ok (.int .i64 r) w := fun _ => by kernel_rfl
  have i1 : ∀ w, (Instr.index 91 (.agg #[.int .i64 r, .int .i64 a, .int .i64 h, .int .i64 v, .int .i64 n]) (.int .i64 1)).run Try.prog w = .ok (.int .i64 a) w := fun _ => by kernel_rfl
  have i2 : ∀ w, (Instr.index 91 (.agg #[.int .i64 r, .int .i64 a, .int .i64 h, .int .i64 v, .int .i64 n]) (.int .i64 2)).run Try.prog w = .ok (.int .i64 h) w := fun _ => by kernel_rfl
  have i3 : ∀ w, (Instr.index 91 (.agg #[.int .i64 r, .int .i64 a, .int .i64 h, .int .i64 v, .int .i64 n]) (.int .i64 3)).run Try.prog w = .ok (.int .i64 v) w := fun _ => by kernel_rfl
  have i4 : ∀ w, (Instr.index 91 (.agg #[.int .i64 r, .int .i64 a, .int .i64 h, .int .i64 v, .int .i64 n]) (.int .i64 4)).run Try.prog w = .ok (.int .i64 n) w := fun _ => by kernel_rfl
  go_enter Try.func35, Try.ntmps35
  go_wp2
  refine wp_loop_rounds 6 ?_
  rw [rounds_succ]
  go_wp2
  all_goals first | (go_ret; exact ⟨ret_int ((geoE_lo (by omega)).symm), by repeat (first | exact Below.refl _ _ | apply bl_alloc)⟩) | skip
  rw [rounds_succ]
  go_wp2
  all_goals first | (go_ret; exact ⟨ret_int ((geoE_lo (by omega)).symm), by repeat (first | exact Below.refl _ _ | apply bl_alloc)⟩) | skip
  rw [rounds_succ]
  go_wp2
  all_goals first | (go_ret; exact ⟨ret_int ((geoE_lo (by omega)).symm), by repeat (first | exact Below.refl _ _ | apply bl_alloc)⟩) | skip
  rw [rounds_succ]
  go_wp2
  all_goals first | (go_ret; exact ⟨ret_int ((geoE_lo (by omega)).symm), by repeat (first | exact Below.refl _ _ | apply bl_alloc)⟩) | skip
  rw [rounds_succ]
  go_wp2
  all_goals first | (go_ret; exact ⟨ret_int ((geoE_lo (by omega)).symm), by repeat (first | exact Below.refl _ _ | apply bl_alloc)⟩) | skip
  rw [rounds_succ]
  go_wp2
  all_goals go_ret
  all_goals exact ⟨ret_int ((geoE_ok (by omega)).symm), by repeat (first | exact Below.refl _ _ | apply bl_alloc)⟩

theorem geoE_in (r a h v n : Int) : geoE r a h v n = if inB r 4 60 && inB a 2 80 && inB h 2 200 && inB v 100 4000 && inB n 1 8 then 0 else 2 := by
  simp [geoE, geoB, inB, and_assoc]

set_option maxHeartbeats 1000000 in
theorem geometryFault_any (r a h v n : Int) (w : World) :
    Calls Try.prog 80 #[.agg #[.int .i64 r, .int .i64 a, .int .i64 h, .int .i64 v, .int .i64 n]] w fun e w' => e = .returned (.int .i64 (geoE r a h v n)) ∧ Below w.heap.size w w' := by
  rw [geoE_in]
  cases h1 : inB r 4 60
  · go_enter Try.func80, Try.ntmps80
    go_wp2_with (go_at_call 28; refine (in_any _ _ _ _).mono ?_; rintro e w' ⟨rfl, rfl⟩)
    go_ret
    exact ⟨by simp, bl_alloc (Below.refl _ _) _⟩
  cases h2 : inB a 2 80
  · go_enter Try.func80, Try.ntmps80
    go_wp2_with (go_at_call 28; refine (in_any _ _ _ _).mono ?_; rintro e w' ⟨rfl, rfl⟩)
    go_ret
    exact ⟨by simp, bl_alloc (Below.refl _ _) _⟩
  cases h3 : inB h 2 200
  · go_enter Try.func80, Try.ntmps80
    go_wp2_with (go_at_call 28; refine (in_any _ _ _ _).mono ?_; rintro e w' ⟨rfl, rfl⟩)
    go_ret
    exact ⟨by simp, bl_alloc (Below.refl _ _) _⟩
  cases h4 : inB v 100 4000
  · go_enter Try.func80, Try.ntmps80
    go_wp2_with (go_at_call 28; refine (in_any _ _ _ _).mono ?_; rintro e w' ⟨rfl, rfl⟩)
    go_ret
    exact ⟨by simp, bl_alloc (Below.refl _ _) _⟩
  cases h5 : inB n 1 8
  · go_enter Try.func80, Try.ntmps80
    go_wp2_with (go_at_call 28; refine (in_any _ _ _ _).mono ?_; rintro e w' ⟨rfl, rfl⟩)
    go_ret
    exact ⟨by simp, bl_alloc (Below.refl _ _) _⟩
  · go_enter Try.func80, Try.ntmps80
    go_wp2_with (go_at_call 28; refine (in_any _ _ _ _).mono ?_; rintro e w' ⟨rfl, rfl⟩)
    go_ret
    exact ⟨by simp, bl_alloc (Below.refl _ _) _⟩
end Go.Proofs.Ytdalkkjojflakaa
