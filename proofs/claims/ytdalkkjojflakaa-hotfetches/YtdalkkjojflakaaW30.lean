/- The law of fetches of pieces: the walk. -/
import Derived.Test.YtdalkkjojflakaaHFo
namespace Go.Proofs.Ytdalkkjojflakaa
open Go.RowKit
set_option linter.unusedVariables false
set_option linter.unusedSimpArgs false
set_option maxHeartbeats 1000000 in
set_option maxRecDepth 100000 in
theorem hotFetches_walk (r a h vm nv : Int) (s c v : Value) (D : Dv) (x i p n : Int) (w : World) (hD : Dev w s c v D) (_ : (Lit.int .i64 x).wf = true) :
    Calls Try.prog 4 #[.agg #[.int .i64 r, .int .i64 a, .int .i64 h, .int .i64 vm, .int .i64 nv], .agg #[s, c, v, .int .i64 D.fuel], .int .i64 x, .agg #[.int .i64 i, .int .i64 p, .int .i64 n]] w fun e w' => e = .returned (.bool true) ∧ Below w.heap.size w w' := by
  have HD := hide hD
  clear hD
  go_enter Try.func4, Try.ntmps4
  go_wp2_with fail
  refine (hotFetch_any r a h vm nv s c v D x i p n _ ((unhide HD).up (bl3 _ _ _ _))).mono ?_
  rintro e w1 ⟨u, rfl, hB1, hb1⟩
  have hb0 : Below w.heap.size w w1 := bl_trans (bl3 _ _ _ _) hb1
  have g0 := box3a hb1 0 rfl
  have g1 := box3a hb1 1 rfl
  have g2 := box3a hb1 2 rfl
  have g3 := box3a hb1 3 rfl
  have g4 := box3a hb1 4 rfl
  have f0 := box3b hb1 0 rfl
  have f1 := box3b hb1 1 rfl
  have f2 := box3b hb1 2 rfl
  have f3 := box3b hb1 3 rfl
  have d0 := box3c hb1 0 rfl
  have d1 := box3c hb1 1 rfl
  have d2 := box3c hb1 2 rfl
  have HB1 := hide hB1
  clear hb1 hB1
  go_wp2_with fail
  refine (pieceOf_any r a h vm nv s c v D x i p n _ ((unhide HD).up hb0)).mono ?_
  rintro e w2 ⟨u', rfl, hB2, hb2⟩
  obtain ⟨E, hE⟩ : ∃ E, hftE D x i p n (chkE r a h vm nv D) = E := ⟨_, rfl⟩
  rw [hE] at hB2 HB1 ⊢
  have s1 := ((unhide HB1).up hb2).str
  have s2 := hB2.str
  obtain ⟨S, hS⟩ : ∃ S, strOfNums (okL E (hftL D x p n)) = S := ⟨_, rfl⟩
  rw [hS] at s1 s2
  clear hB2 HB1 HD hE hS
  go_wp2
  go_ret
  exact ⟨ret_bool (by simp), bl_trans hb0 hb2⟩
end Go.Proofs.Ytdalkkjojflakaa
