import Derived.Test.YtdalkkjojflakaaChk
import Derived.Deep.RegionHeld3
namespace Go.Proofs.Ytdalkkjojflakaa
open Go.RowKit
set_option linter.unusedVariables false
set_option linter.unusedSimpArgs false

theorem sectors_any (r a h v n : Int) (w : World) (hr : 0 ≤ r ∧ r ≤ 60) (ha : 0 ≤ a ∧ a ≤ 80) (hh : 0 ≤ h ∧ h ≤ 200) :
    Calls Try.prog 36 #[.agg #[.int .i64 r, .int .i64 a, .int .i64 h, .int .i64 v, .int .i64 n]] w fun e w' => e = .returned (.int .i64 (2 + r + 2 * a + h)) ∧ Below w.heap.size w w' := by
  obtain ⟨_, _⟩ := hr; obtain ⟨_, _⟩ := ha; obtain ⟨_, _⟩ := hh
  go_enter Try.func36, Try.ntmps36
  go_wp2
  go_ret
  exact ⟨rfl, bl_alloc (Below.refl _ _) _⟩
theorem sectorsOf_any (r a h v n : Int) (w : World) (hr : 0 ≤ r ∧ r ≤ 60) (ha : 0 ≤ a ∧ a ≤ 80) (hh : 0 ≤ h ∧ h ≤ 200) :
    Calls Try.prog 81 #[.agg #[.int .i64 r, .int .i64 a, .int .i64 h, .int .i64 v, .int .i64 n]] w fun e w' => e = .returned (.int .i64 (2 + r + a + a + h)) ∧ Below w.heap.size w w' := by
  obtain ⟨_, _⟩ := hr; obtain ⟨_, _⟩ := ha; obtain ⟨_, _⟩ := hh
  go_enter Try.func81, Try.ntmps81
  go_wp2
  go_ret
  exact ⟨rfl, bl_alloc (Below.refl _ _) _⟩

/-- A volume that may be. -/
def volB (most L : Int) (synced : Int) (gone : Bool) : Bool := decide (L ≤ if gone then 0 else most) && inB synced 0 L

theorem volumeMayBe_any (r a h v n : Int) (x : Option Addr) (L cap : Nat) (sy : Int) (go : Bool) (w : World) (hL : L ≤ 9223372036854775807) :
    Calls Try.prog 59 #[.agg #[.int .i64 r, .int .i64 a, .int .i64 h, .int .i64 v, .int .i64 n], .agg #[.slice x L cap, .int .i64 sy, .bool go]] w fun e w' =>
      e = .returned (.bool (volB v L sy go)) ∧ Below w.heap.size w w' := by
  cases go
  · by_cases h1 : (L : Int) ≤ v
    · by_cases h2 : 0 ≤ sy
      · by_cases h3 : sy ≤ (L : Int)
        · go_enter Try.func59, Try.ntmps59
          go_wp2
          go_ret
          exact ⟨ret_bool (by simp [volB, inB, *]), bl_alloc (bl_alloc (Below.refl _ _) _) _⟩
        · go_enter Try.func59, Try.ntmps59
          go_wp2
          go_ret
          exact ⟨ret_bool (by first | (simp [volB, inB, *]; done) | (simp [volB, inB, *]; omega)), bl_alloc (bl_alloc (Below.refl _ _) _) _⟩
      · go_enter Try.func59, Try.ntmps59
        go_wp2
        go_ret
        exact ⟨ret_bool (by first | (simp [volB, inB, *]; done) | (simp [volB, inB, *]; omega)), bl_alloc (bl_alloc (Below.refl _ _) _) _⟩
    · go_enter Try.func59, Try.ntmps59
      go_wp2
      go_ret
      exact ⟨ret_bool (by first | (simp [volB, inB, *]; done) | (simp [volB, inB, *]; omega)), bl_alloc (bl_alloc (Below.refl _ _) _) _⟩
  · by_cases h1 : (L : Int) ≤ 0
    · by_cases h2 : 0 ≤ sy
      · by_cases h3 : sy ≤ (L : Int)
        · go_enter Try.func59, Try.ntmps59
          go_wp2
          go_ret
          exact ⟨ret_bool (by first | (simp [volB, inB, *]; done) | (simp [volB, inB, *]; omega)), bl_alloc (bl_alloc (Below.refl _ _) _) _⟩
        · go_enter Try.func59, Try.ntmps59
          go_wp2
          go_ret
          exact ⟨ret_bool (by first | (simp [volB, inB, *]; done) | (simp [volB, inB, *]; omega)), bl_alloc (bl_alloc (Below.refl _ _) _) _⟩
      · go_enter Try.func59, Try.ntmps59
        go_wp2
        go_ret
        exact ⟨ret_bool (by first | (simp [volB, inB, *]; done) | (simp [volB, inB, *]; omega)), bl_alloc (bl_alloc (Below.refl _ _) _) _⟩
    · go_enter Try.func59, Try.ntmps59
      go_wp2
      go_ret
      exact ⟨ret_bool (by first | (simp [volB, inB, *]; done) | (simp [volB, inB, *]; omega)), bl_alloc (bl_alloc (Below.refl _ _) _) _⟩

theorem check2_any (B b o n cap k L cap' : Nat) (a' a0 : Option Addr) (n0 cap0 : Nat) (v : Value) (fuel x : Int) (w : World) (hk : k < n) (hn : n ≤ 9223372036854775807) (hL : L ≤ 9223372036854775807) (hn0 : n0 ≤ 9223372036854775807)
   (h0 : w.cell? ⟨B, 0, none⟩ = some (.slice a0 n0 cap0)) (h1 : w.cell? ⟨B, 1, none⟩ = some (.slice (some ⟨b, o, none⟩) n cap)) (h2 : w.cell? ⟨B, 2, none⟩ = some v) (h3 : w.cell? ⟨B, 3, none⟩ = some (.int .i64 fuel))
   (e0 : w.cell? ⟨b, o + k * 2, none⟩ = some (.int .i64 x)) (e1 : w.cell? ⟨b, o + k * 2 + 1, none⟩ = some (.slice a' L cap')) :
   Calls Try.prog 56 #[.int .i64 k, .pointer (some ⟨B, 0, none⟩)] w fun e w' => e = .returned (.bool (inB x 0 ((n0 : Int) - 1) && ((L : Int) == 64))) ∧ Below w.heap.size w w' := by
  have hB : B < w.heap.size := World.block_lt_of_cell? w _ h0
  cases hi : inB x 0 ((n0 : Int) - 1)
  · go_enter Try.func56, Try.ntmps56
    go_wp2_with fail
    refine (isSector_any _ _ _ _ _ _ n0 _ _ rfl hn0).mono ?_
    rintro e w1 ⟨rfl, hb1⟩
    rw [hi]
    go_wp2
    go_ret
    exact ⟨rfl, bl_trans (bl_alloc (Below.refl _ _) _) hb1⟩
  · go_enter Try.func56, Try.ntmps56
    go_wp2_with fail
    refine (isSector_any _ _ _ _ _ _ n0 _ _ rfl hn0).mono ?_
    rintro e w1 ⟨rfl, hb1⟩
    rw [hi]
    have c0 := fun j => hb1.cell (p := ⟨w.heap.size, j, none⟩) (by simp)
    go_wp2
    go_ret
    exact ⟨rfl, bl_trans (bl_alloc (Below.refl _ _) _) hb1⟩

theorem check3_any (B B' b o n cap k L cap' : Nat) (a' : Option Addr) (r a h vm nv sy : Int) (go : Bool) (w : World) (hk : k < n) (hn : n ≤ 9223372036854775807) (hL : L ≤ 9223372036854775807)
   (g0 : w.cell? ⟨B, 0, none⟩ = some (.int .i64 r)) (g1 : w.cell? ⟨B, 1, none⟩ = some (.int .i64 a)) (g2 : w.cell? ⟨B, 2, none⟩ = some (.int .i64 h)) (g3 : w.cell? ⟨B, 3, none⟩ = some (.int .i64 vm)) (g4 : w.cell? ⟨B, 4, none⟩ = some (.int .i64 nv))
   (h2 : w.cell? ⟨B', 2, none⟩ = some (.slice (some ⟨b, o, none⟩) n cap))
   (e0 : w.cell? ⟨b, o + k * 3, none⟩ = some (.slice a' L cap')) (e1 : w.cell? ⟨b, o + k * 3 + 1, none⟩ = some (.int .i64 sy)) (e2 : w.cell? ⟨b, o + k * 3 + 2, none⟩ = some (.bool go)) :
   Calls Try.prog 58 #[.int .i64 k, .pointer (some ⟨B, 0, none⟩), .pointer (some ⟨B', 0, none⟩)] w fun e w' => e = .returned (.bool (volB vm L sy go)) ∧ Below w.heap.size w w' := by
  go_enter Try.func58, Try.ntmps58
  go_wp2
  have g0' := fun d : Later w => d.cell g0
  have g1' := fun d : Later w => d.cell g1
  have g2' := fun d : Later w => d.cell g2
  have g3' := fun d : Later w => d.cell g3
  have g4' := fun d : Later w => d.cell g4
  have h2' := fun d : Later w => d.cell h2
  have e0' := fun d : Later w => d.cell e0
  have e1' := fun d : Later w => d.cell e1
  have e2' := fun d : Later w => d.cell e2
  have hne := Later.one w
  refine wp_region_later (by kernel_rfl) (by kernel_rfl) ?_
  repeat (go_big_quiet_step ((go_at_call 59; exact Calls.later (volumeMayBe_any r a h vm nv _ L _ sy go _ hL))))
  refine wpQuiet_nil ?_
  intro _ hw'
  obtain ⟨⟨w1, hb1⟩, hw''⟩ := hw'
  subst hw''
  clear hne g0' g1' g2' g3' g4' h2' e0' e1' e2'
  go_wp2
  go_ret
  exact ⟨rfl, hb1⟩
end Go.Proofs.Ytdalkkjojflakaa
