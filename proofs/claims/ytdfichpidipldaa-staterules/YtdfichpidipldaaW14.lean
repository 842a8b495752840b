/- The laws of state.CheckName, CheckKey and CheckRule: the walks. -/
import Derived.Test.YtdfichpidipldaaRul
import Derived.Test.YtdfichpidipldaaOpen0
namespace Go.Proofs.Ytdfichpidipldaa
open Go.RowKit Go.PlainAid
set_option linter.unusedVariables false
set_option linter.unusedSimpArgs false
theorem stateNames_walk (s : ByteArray) (w : World) (hs : s.size ≤ maxLen) :
    Calls Try.prog 3 #[.string s] w fun e w' => e = .returned (.bool true) ∧ Below w.heap.size w w' := by
  obtain ⟨E, hE⟩ : ∃ E, worE s 8 = E := ⟨_, rfl⟩
  have HE := hide hE
  clear hE
  go_enter Try.func3, Try.ntmps3
  go_wp2_with fail
  refine (checkName_any s _ hs).mono ?_
  rintro e w1 ⟨rfl, hb1⟩
  rw [unhide HE]
  go_wp2_with fail
  refine (nameFault_any s _ hs).mono ?_
  rintro e w2 ⟨rfl, hb2⟩
  rw [unhide HE]
  go_wp2
  go_ret
  exact ⟨ret_bool (by simp), bl_trans hb1 hb2⟩
theorem stateKeys_walk (s : ByteArray) (w : World) (hs : s.size ≤ maxLen) :
    Calls Try.prog 4 #[.string s] w fun e w' => e = .returned (.bool true) ∧ Below w.heap.size w w' := by
  obtain ⟨E, hE⟩ : ∃ E, worE s 16 = E := ⟨_, rfl⟩
  have HE := hide hE
  clear hE
  go_enter Try.func4, Try.ntmps4
  go_wp2_with fail
  refine (checkKey_any s _ hs).mono ?_
  rintro e w1 ⟨rfl, hb1⟩
  rw [unhide HE]
  go_wp2_with fail
  refine (keyFault_any s _ hs).mono ?_
  rintro e w2 ⟨rfl, hb2⟩
  rw [unhide HE]
  go_wp2
  go_ret
  exact ⟨ret_bool (by simp), bl_trans hb1 hb2⟩
theorem stateRules_walk (s : ByteArray) (f d : Int) (w : World) (hs : s.size ≤ maxLen) :
    Calls Try.prog 5 #[.agg #[.string s, .int .i64 f, .int .i64 d]] w fun e w' => e = .returned (.bool true) ∧ Below w.heap.size w w' := by
  obtain ⟨E, hE⟩ : ∃ E, rulE s f d = E := ⟨_, rfl⟩
  have HE := hide hE
  clear hE
  go_enter Try.func5, Try.ntmps5
  go_wp2_with fail
  refine (checkRule_any s f d _ hs).mono ?_
  rintro e w1 ⟨rfl, hb1⟩
  rw [unhide HE]
  have g0 := box1 hb1 0 rfl
  have g1 := box1 hb1 1 rfl
  have g2 := box1 hb1 2 rfl
  go_wp2_with fail
  refine (ruleFault_any s f d _ hs).mono ?_
  rintro e w2 ⟨rfl, hb2⟩
  rw [unhide HE]
  go_wp2
  go_ret
  exact ⟨ret_bool (by simp), bl_trans (bl_trans (bl_alloc (Below.refl _ _) _) hb1) hb2⟩
end Go.Proofs.Ytdfichpidipldaa
