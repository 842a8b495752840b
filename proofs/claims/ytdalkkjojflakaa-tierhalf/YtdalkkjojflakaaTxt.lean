/- state.CheckName, CheckKey, CheckRule and the document's NameFault, KeyFault, RuleFault: each answers worE or rulE of the text, and touches nothing that was there. -/
import Derived.Test.YtdalkkjojflakaaInB
import Derived.PlainAid
namespace Go.Proofs.Ytdalkkjojflakaa
open Go.RowKit Go.PlainAid
set_option linter.unusedVariables false
set_option linter.unusedSimpArgs false

/-- All bytes of a text are signs that can be seen. -/
def txtB (s : ByteArray) : Bool := (List.range s.size).all fun i => inB (bt s i) 33 126
theorem txtB_t {s : ByteArray} (h : ∀ j, j < s.size → inB (bt s j) 33 126 = true) : txtB s = true := by simp [txtB]; exact h
theorem txtB_f {s : ByteArray} {k : Nat} (hk : k < s.size) (h : inB (bt s k) 33 126 = false) : txtB s = false := by simp [txtB]; exact ⟨k, hk, h⟩
/-- What a check of bytes answers. -/
def txtE (s : ByteArray) : Int := if txtB s then 0 else 4
theorem txtE_t {s : ByteArray} (h : ∀ j, j < s.size → inB (bt s j) 33 126 = true) : 0 = txtE s := by simp [txtE, txtB_t h]
theorem txtE_f {s : ByteArray} {k : Nat} (hk : k < s.size) (h : ¬ (33 ≤ bt s k ∧ bt s k ≤ 126)) : 4 = txtE s := by
  simp [txtE, txtB_f hk (by simp only [inB, decide_eq_false_iff_not]; exact h)]
/-- What a check of a word answers. -/
def worE (s : ByteArray) (most : Int) : Int := if inB s.size 1 most then txtE s else 1
/-- What a check of a rule answers. -/
def rulE (s : ByteArray) (f d : Int) : Int := if (s.size : Int) ≤ 16 then (if txtE s = 0 then (if inB f (-1) 1073741824 && inB d (-1) 1073741824 then 0 else 2) else txtE s) else 1

theorem within_any (n lo hi : Int) (w : World) :
    Calls Try.prog 61 #[.int .i64 n, .int .i64 lo, .int .i64 hi] w fun e w' => e = .returned (.bool (inB n lo hi)) ∧ w = w' := by
  by_cases h1 : lo ≤ n
  · by_cases h2 : n ≤ hi
    · go_enter Try.func61, Try.ntmps61
      go_wp2
      go_ret
      exact ⟨ret_bool (by simp [inB, h1, h2]), rfl⟩
    · go_enter Try.func61, Try.ntmps61
      go_wp2
      go_ret
      exact ⟨ret_bool (by simp [inB, h1, h2]), rfl⟩
  · go_enter Try.func61, Try.ntmps61
    go_wp2
    go_ret
    exact ⟨ret_bool (by simp [inB]; omega), rfl⟩

theorem checkBytes_any (s : ByteArray) (w : World) (hs : s.size ≤ maxLen) :
    Calls Try.prog 116 #[.string s] w fun e w' => e = .returned (.int .i64 (txtE s)) ∧ Below w.heap.size w w' := by
  have hm : maxLen = 9223372036854775807 := rfl
  rw [hm] at hs
  have hg := get_bt s
  go_enter Try.func116, Try.ntmps116
  go_wp2
  go_loopw [3, 6] (fun _ i wr => ∃ k : Nat, k ≤ s.size ∧ i = .int .i64 k ∧ Below w.heap.size w wr ∧ ∀ j, j < k → inB (bt s j) 33 126 = true) (fun _ i _ => s.size - (intOf i).toNat)
  case atStart => exact ⟨0, Nat.zero_le _, rfl, Below.refl _ _, fun j hj => absurd hj (Nat.not_lt_zero _)⟩
  case round =>
    obtain ⟨k, hk, rfl, hb, hall⟩ := hrel
    have HA : Hid (∀ j, j < k → inB (bt s j) 33 126 = true) := hall
    clear hall
    by_cases hlt : k < s.size
    · have hgk := hg k hlt
      obtain ⟨B, hB⟩ : ∃ B, bt s k = B := ⟨_, rfl⟩
      have b0 := bt_nonneg s k
      have b1 := bt_le s k
      rw [hB] at hgk b0 b1
      clear hg
      by_cases c1 : B < 33
      · go_wp2
        go_ret
        exact ⟨ret_int (txtE_f hlt (by omega)), hb⟩
      by_cases c2 : 126 < B
      · go_wp2
        go_ret
        exact ⟨ret_int (txtE_f hlt (by omega)), hb⟩
      go_wp2
      go_roundw
      case rel => exact ⟨k + 1, by omega, by go_num, hb, fun j hj => if e : j < k then HA.out j e else (show j = k by omega) ▸ (by rw [hB]; simp [inB]; omega)⟩
      case measure => simp [intOf]; omega
    · go_wp2
      go_ret
      exact ⟨ret_int (txtE_t fun j hj => HA.out j (by omega)), hb⟩

theorem plainText_any (s : ByteArray) (w : World) (hs : s.size ≤ maxLen) :
    Calls Try.prog 113 #[.string s] w fun e w' => e = .returned (.bool (txtB s)) ∧ Below w.heap.size w w' := by
  have hm : maxLen = 9223372036854775807 := rfl
  rw [hm] at hs
  have hg := get_bt s
  go_enter Try.func113, Try.ntmps113
  go_wp2
  go_loopw [3] (fun i wr => ∃ k : Nat, k ≤ s.size ∧ i = .int .i64 k ∧ Below w.heap.size w wr ∧ ∀ j, j < k → inB (bt s j) 33 126 = true) (fun i _ => s.size - (intOf i).toNat)
  case atStart => exact ⟨0, Nat.zero_le _, rfl, Below.refl _ _, fun j hj => absurd hj (Nat.not_lt_zero _)⟩
  case round =>
    obtain ⟨k, hk, rfl, hb, hall⟩ := hrel
    have HA : Hid (∀ j, j < k → inB (bt s j) 33 126 = true) := hall
    clear hall
    by_cases hlt : k < s.size
    · have hgk := hg k hlt
      obtain ⟨B, hB⟩ : ∃ B, bt s k = B := ⟨_, rfl⟩
      have b0 := bt_nonneg s k
      have b1 := bt_le s k
      rw [hB] at hgk b0 b1
      clear hg
      go_wp2_with fail
      refine (in_any _ _ _ _).mono ?_
      rintro e w1 ⟨rfl, rfl⟩
      cases hin : inB B 33 126
      · go_wp2
        go_ret
        exact ⟨ret_bool (txtB_f hlt (by rw [hB]; exact hin)).symm, hb⟩
      · go_wp2
        go_roundw
        case rel => exact ⟨k + 1, by omega, by go_num, hb, fun j hj => if e : j < k then HA.out j e else (show j = k by omega) ▸ (by rw [hB]; exact hin)⟩
        case measure => simp [intOf]; omega
    · go_wp2
      go_ret
      exact ⟨ret_bool (txtB_t fun j hj => HA.out j (by omega)).symm, hb⟩

theorem wordFault_any (s : ByteArray) (most : Int) (w : World) (hs : s.size ≤ maxLen) :
    Calls Try.prog 112 #[.string s, .int .i64 most] w fun e w' => e = .returned (.int .i64 (worE s most)) ∧ Below w.heap.size w w' := by
  have hm : maxLen = 9223372036854775807 := rfl
  rw [hm] at hs
  go_enter Try.func112, Try.ntmps112
  go_wp2_with fail
  refine (in_any _ _ _ _).mono ?_
  rintro e w1 ⟨rfl, rfl⟩
  cases hin : inB s.size 1 most
  · go_wp2
    go_ret
    exact ⟨ret_int (by simp [worE, hin]), Below.refl _ _⟩
  · go_wp2_with fail
    refine (plainText_any _ _ hs).mono ?_
    rintro e w1 ⟨rfl, hb⟩
    cases ht : txtB s
    · go_wp2
      go_ret
      exact ⟨ret_int (by simp [worE, hin, txtE, ht]), hb⟩
    · go_wp2
      go_ret
      exact ⟨ret_int (by simp [worE, hin, txtE, ht]), hb⟩

theorem nameFault_any (s : ByteArray) (w : World) (hs : s.size ≤ maxLen) :
    Calls Try.prog 68 #[.string s] w fun e w' => e = .returned (.int .i64 (worE s 8)) ∧ Below w.heap.size w w' := by
  go_enter Try.func68, Try.ntmps68
  go_wp2_with fail
  refine (wordFault_any _ _ _ hs).mono ?_
  rintro e w1 ⟨rfl, hb⟩
  go_wp2
  go_ret
  exact ⟨rfl, hb⟩
theorem keyFault_any (s : ByteArray) (w : World) (hs : s.size ≤ maxLen) :
    Calls Try.prog 72 #[.string s] w fun e w' => e = .returned (.int .i64 (worE s 16)) ∧ Below w.heap.size w w' := by
  go_enter Try.func72, Try.ntmps72
  go_wp2_with fail
  refine (wordFault_any _ _ _ hs).mono ?_
  rintro e w1 ⟨rfl, hb⟩
  go_wp2
  go_ret
  exact ⟨rfl, hb⟩

theorem checkName_any (s : ByteArray) (w : World) (hs : s.size ≤ maxLen) :
    Calls Try.prog 90 #[.string s] w fun e w' => e = .returned (.int .i64 (worE s 8)) ∧ Below w.heap.size w w' := by
  have hm : maxLen = 9223372036854775807 := rfl
  have hs' := hs
  rw [hm] at hs'
  by_cases h1 : s.size < 1
  · go_enter Try.func90, Try.ntmps90
    go_wp2
    go_ret
    exact ⟨ret_int (by simp [worE, inB]; omega), Below.refl _ _⟩
  by_cases h2 : 8 < s.size
  · go_enter Try.func90, Try.ntmps90
    go_wp2
    go_ret
    exact ⟨ret_int (by simp [worE, inB]; omega), Below.refl _ _⟩
  go_enter Try.func90, Try.ntmps90
  go_wp2_with fail
  refine (checkBytes_any _ _ hs).mono ?_
  rintro e w1 ⟨rfl, hb⟩
  go_wp2
  go_ret
  exact ⟨ret_int (by rw [worE, if_pos (by simp [inB]; omega)]), hb⟩
theorem checkKey_any (s : ByteArray) (w : World) (hs : s.size ≤ maxLen) :
    Calls Try.prog 123 #[.string s] w fun e w' => e = .returned (.int .i64 (worE s 16)) ∧ Below w.heap.size w w' := by
  have hm : maxLen = 9223372036854775807 := rfl
  have hs' := hs
  rw [hm] at hs'
  by_cases h1 : s.size < 1
  · go_enter Try.func123, Try.ntmps123
    go_wp2
    go_ret
    exact ⟨ret_int (by simp [worE, inB]; omega), Below.refl _ _⟩
  by_cases h2 : 16 < s.size
  · go_enter Try.func123, Try.ntmps123
    go_wp2
    go_ret
    exact ⟨ret_int (by simp [worE, inB]; omega), Below.refl _ _⟩
  go_enter Try.func123, Try.ntmps123
  go_wp2_with fail
  refine (checkBytes_any _ _ hs).mono ?_
  rintro e w1 ⟨rfl, hb⟩
  go_wp2
  go_ret
  exact ⟨ret_int (by rw [worE, if_pos (by simp [inB]; omega)]), hb⟩
end Go.Proofs.Ytdalkkjojflakaa
