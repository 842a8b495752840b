/- icehousekeep.Geometry (over a state's seat). -/
import Derived.Test.YtbfhkbmcleglaaaGreatG14
namespace Go.Proofs.YtbfhkbmcleglaaaGreat
open Go.RowKit
set_option maxRecDepth 100000
set_option linter.unusedVariables false
set_option linter.unusedSimpArgs false
theorem pick_b (n m : Int) (h : 0 < m) : 0 ≤ pickI n m ∧ pickI n m < m := ⟨pickI_lo n h, pickI_hi n h⟩
set_option maxHeartbeats 1000000 in
theorem geometry_any (a b c : Int) (w : World) (ha : -9223372036854775808 ≤ a ∧ a ≤ 9223372036854775807) (hb : -9223372036854775808 ≤ b ∧ b ≤ 9223372036854775807) (hc : -9223372036854775808 ≤ c ∧ c ≤ 9223372036854775807) :
    Calls Tryz.prog 44 #[.int .i64 a, .int .i64 b, .int .i64 c] w fun e w' => e = .returned (.agg #[.int .i64 (8 + pickI a 30), .int .i64 (30 + pickI a 40), .int .i64 (10 + pickI b 60), .int .i64 (700 + pickI c 2000), .int .i64 (2 + pickI c 7)]) ∧ Below w.heap.size w w' := by
  obtain ⟨P1, h1⟩ : ∃ P, pickI a 30 = P := ⟨_, rfl⟩
  obtain ⟨P2, h2⟩ : ∃ P, pickI a 40 = P := ⟨_, rfl⟩
  obtain ⟨P3, h3⟩ : ∃ P, pickI b 60 = P := ⟨_, rfl⟩
  obtain ⟨P4, h4⟩ : ∃ P, pickI c 2000 = P := ⟨_, rfl⟩
  obtain ⟨P5, h5⟩ : ∃ P, pickI c 7 = P := ⟨_, rfl⟩
  have b1 := pick_b a 30 (by decide)
  have b2 := pick_b a 40 (by decide)
  have b3 := pick_b b 60 (by decide)
  have b4 := pick_b c 2000 (by decide)
  have b5 := pick_b c 7 (by decide)
  rw [h1] at b1 ⊢
  rw [h2] at b2 ⊢
  rw [h3] at b3 ⊢
  rw [h4] at b4 ⊢
  rw [h5] at b5 ⊢
  have H1 := hide h1
  have H2 := hide h2
  have H3 := hide h3
  have H4 := hide h4
  have H5 := hide h5
  clear h1 h2 h3 h4 h5
  go_enter Tryz.func44, Tryz.ntmps44
  go_wp2_with fail
  refine (picked_any a 30 _ (by decide) (by decide) (by omega) (by omega)).mono ?_
  rintro e w' ⟨rfl, rfl⟩
  rw [unhide H1]
  go_wp2_with fail
  refine (picked_any a 40 _ (by decide) (by decide) (by omega) (by omega)).mono ?_
  rintro e w' ⟨rfl, rfl⟩
  rw [unhide H2]
  go_wp2_with fail
  refine (picked_any b 60 _ (by decide) (by decide) (by omega) (by omega)).mono ?_
  rintro e w' ⟨rfl, rfl⟩
  rw [unhide H3]
  go_wp2_with fail
  refine (picked_any c 2000 _ (by decide) (by decide) (by omega) (by omega)).mono ?_
  rintro e w' ⟨rfl, rfl⟩
  rw [unhide H4]
  go_wp2_with fail
  refine (picked_any c 7 _ (by decide) (by decide) (by omega) (by omega)).mono ?_
  rintro e w' ⟨rfl, rfl⟩
  rw [unhide H5]
  go_wp2
  refine bodyPost_ret (v := .agg #[.int .i64 (8 + P1), .int .i64 (30 + P2), .int .i64 (10 + P3), .int .i64 (700 + P4), .int .i64 (2 + P5)]) (by simp [results, Tryz.results44, go_sem, *]) rfl ⟨rfl, ?_⟩
  repeat (first | exact bl1 _ _ | refine bl_set ?_ (by simp <;> omega) _)
end Go.Proofs.YtbfhkbmcleglaaaGreat
