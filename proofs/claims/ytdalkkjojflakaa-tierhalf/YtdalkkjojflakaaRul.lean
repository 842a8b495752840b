/- state.CheckRule and the document's RuleFault: each answers rulE of the rule. -/
import Derived.Test.YtdalkkjojflakaaTxt
namespace Go.Proofs.Ytdalkkjojflakaa
open Go.RowKit Go.PlainAid
set_option linter.unusedVariables false
set_option linter.unusedSimpArgs false
theorem rul1 {s : ByteArray} {f d : Int} (h : 16 < s.size) : 1 = rulE s f d := by rw [rulE, if_neg (by omega)]
theorem rul2 {s : ByteArray} {f d : Int} (h : ¬ 16 < s.size) (h2 : txtE s ≠ 0) : txtE s = rulE s f d := by rw [rulE, if_pos (by omega), if_neg h2]
theorem rul3 {s : ByteArray} {f d : Int} (h : ¬ 16 < s.size) (h2 : txtE s = 0) (b c : Bool) (hb : inB f (-1) 1073741824 = b) (hc : inB d (-1) 1073741824 = c) : (if b && c then 0 else 2) = rulE s f d := by
  subst hb hc
  have e : (s.size : Int) ≤ 16 := by omega
  rw [rulE, if_pos e, if_pos h2]
theorem rul4 {s : ByteArray} {f d : Int} (h : ¬ 16 < s.size) (h2 : txtE s = 0) (hb : inB f (-1) 1073741824 = false) : 2 = rulE s f d := rul3 h h2 false _ hb rfl
theorem txtE_any (s : ByteArray) : txtE s = 0 ∧ txtB s = true ∨ txtE s = 4 ∧ txtB s = false := by unfold txtE; cases txtB s <;> simp

set_option maxHeartbeats 1000000 in
theorem checkRule_any (s : ByteArray) (f d : Int) (w : World) (hs : s.size ≤ maxLen) :
    Calls Try.prog 91 #[.agg #[.string s, .int .i64 f, .int .i64 d]] w fun e w' => e = .returned (.int .i64 (rulE s f d)) ∧ Below w.heap.size w w' := by
  have hm : maxLen = 9223372036854775807 := rfl
  have hs' := hs
  rw [hm] at hs'
  by_cases h1 : 16 < s.size
  · go_enter Try.func91, Try.ntmps91
    go_wp2
    go_ret
    exact ⟨ret_int (rul1 h1), bl_alloc (Below.refl _ _) _⟩
  go_enter Try.func91, Try.ntmps91
  go_wp2_with fail
  refine (checkBytes_any _ _ hs).mono ?_
  rintro e w1 ⟨rfl, hb⟩
  have g0 := box1 hb 0 rfl
  have g1 := box1 hb 1 rfl
  have g2 := box1 hb 2 rfl
  have hb1 := bl_trans (bl_alloc (Below.refl _ _) _) hb
  obtain ⟨hE, hB⟩ | ⟨hE, hB⟩ := txtE_any s
  · have HR := hide hE
    rw [hE]
    clear hE
    cases hf : inB f (-1) 1073741824
    · go_wp2_with (go_at_call 61; refine (within_any _ _ _ _).mono ?_; rintro e w' ⟨rfl, rfl⟩)
      go_ret
      exact ⟨ret_int (rul4 h1 (unhide HR) hf), hb1⟩
    · cases hd : inB d (-1) 1073741824
      · go_wp2_with (go_at_call 61; refine (within_any _ _ _ _).mono ?_; rintro e w' ⟨rfl, rfl⟩)
        go_ret
        exact ⟨ret_int (rul3 h1 (unhide HR) true false hf hd), hb1⟩
      · go_wp2_with (go_at_call 61; refine (within_any _ _ _ _).mono ?_; rintro e w' ⟨rfl, rfl⟩)
        go_ret
        exact ⟨ret_int (rul3 h1 (unhide HR) true true hf hd), hb1⟩
  · have HR := hide (rul2 (f := f) (d := d) h1 (by omega))
    rw [hE] at HR ⊢
    clear hE
    go_wp2
    go_ret
    exact ⟨ret_int (unhide HR), hb1⟩

set_option maxHeartbeats 1000000 in
theorem ruleFault_any (s : ByteArray) (f d : Int) (w : World) (hs : s.size ≤ maxLen) :
    Calls Try.prog 69 #[.agg #[.string s, .int .i64 f, .int .i64 d]] w fun e w' => e = .returned (.int .i64 (rulE s f d)) ∧ Below w.heap.size w w' := by
  have hm : maxLen = 9223372036854775807 := rfl
  have hs' := hs
  rw [hm] at hs'
  by_cases h1 : 16 < s.size
  · go_enter Try.func69, Try.ntmps69
    go_wp2
    go_ret
    exact ⟨ret_int (rul1 h1), bl_alloc (Below.refl _ _) _⟩
  go_enter Try.func69, Try.ntmps69
  go_wp2_with fail
  refine (plainText_any _ _ hs).mono ?_
  rintro e w1 ⟨rfl, hb⟩
  have g0 := box1 hb 0 rfl
  have g1 := box1 hb 1 rfl
  have g2 := box1 hb 2 rfl
  have hb1 := bl_trans (bl_alloc (Below.refl _ _) _) hb
  obtain ⟨hE, hB⟩ | ⟨hE, hB⟩ := txtE_any s
  · have HR := hide hE
    rw [hB]
    clear hE
    cases hf : inB f (-1) 1073741824
    · go_wp2_with (go_at_call 28; refine (in_any _ _ _ _).mono ?_; rintro e w' ⟨rfl, rfl⟩)
      go_ret
      exact ⟨ret_int (rul4 h1 (unhide HR) hf), hb1⟩
    · cases hd : inB d (-1) 1073741824
      · go_wp2_with (go_at_call 28; refine (in_any _ _ _ _).mono ?_; rintro e w' ⟨rfl, rfl⟩)
        go_ret
        exact ⟨ret_int (rul3 h1 (unhide HR) true false hf hd), hb1⟩
      · go_wp2_with (go_at_call 28; refine (in_any _ _ _ _).mono ?_; rintro e w' ⟨rfl, rfl⟩)
        go_ret
        exact ⟨ret_int (rul3 h1 (unhide HR) true true hf hd), hb1⟩
  · have HR := hide (rul2 (f := f) (d := d) h1 (by omega))
    rw [hE] at HR
    rw [hB]
    clear hE
    go_wp2
    go_ret
    exact ⟨ret_int (unhide HR), hb1⟩
end Go.Proofs.Ytdalkkjojflakaa
