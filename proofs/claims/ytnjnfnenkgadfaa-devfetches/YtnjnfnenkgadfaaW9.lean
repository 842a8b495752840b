import Derived.Test.YtnjnfnenkgadfaaFet
import Derived.Test.YtnjnfnenkgadfaaStr
namespace Go.Proofs.Ytnjnfnenkgadfaa
open Go.RowKit
set_option linter.unusedVariables false
set_option linter.unusedSimpArgs false
theorem devFetches_walk (r a h vm nv : Int) (s c v : Value) (D : Dv) (x p n : Int) (w : World) (hD : Dev w s c v D) (_ : (Lit.int .i64 x).wf = true) (_ : (Lit.int .i64 p).wf = true) (_ : (Lit.int .i64 n).wf = true) :
    Calls Try.prog 11 #[.agg #[.int .i64 r, .int .i64 a, .int .i64 h, .int .i64 vm, .int .i64 nv], .agg #[s, c, v, .int .i64 D.fuel], .int .i64 x, .int .i64 p, .int .i64 n] w fun e w' => e = .returned (.bool true) ∧ Below w.heap.size w w' := by
  have HD := hide hD
  clear hD
  go_enter Try.func11, Try.ntmps11
  go_wp2_with fail
  refine (fetch_any r a h vm nv s c v D x p n _ ((unhide HD).up (bl2 _ _ _))).mono ?_
  rintro e w1 ⟨u, rfl, hB1, hb1⟩
  have hb0 : Below w.heap.size w w1 := bl_trans (bl2 _ _ _) hb1
  have g0 := box2a hb1 0 rfl
  have g1 := box2a hb1 1 rfl
  have g2 := box2a hb1 2 rfl
  have g3 := box2a hb1 3 rfl
  have g4 := box2a hb1 4 rfl
  have f0 := box2b hb1 0 rfl
  have f1 := box2b hb1 1 rfl
  have f2 := box2b hb1 2 rfl
  have f3 := box2b hb1 3 rfl
  have HB1 := hide hB1
  clear hb1 hB1
  go_wp2_with fail
  refine (fetchedOf_any r a h vm nv s c v D x p n _ ((unhide HD).up hb0)).mono ?_
  rintro e w2 ⟨u', rfl, hB2, hb2⟩
  obtain ⟨E, hE⟩ : ∃ E, fetE D x p n (chkE r a h vm nv D) = E := ⟨_, rfl⟩
  rw [hE] at hB2 HB1 ⊢
  have s1 := ((unhide HB1).up hb2).str
  have s2 := hB2.str
  obtain ⟨S, hS⟩ : ∃ S, strOfNums (okL E (fetL D x p n)) = S := ⟨_, rfl⟩
  rw [hS] at s1 s2
  clear hB2 HB1 HD hE hS
  go_wp2
  go_ret
  exact ⟨ret_bool (by simp), bl_trans hb0 hb2⟩
end Go.Proofs.Ytnjnfnenkgadfaa
