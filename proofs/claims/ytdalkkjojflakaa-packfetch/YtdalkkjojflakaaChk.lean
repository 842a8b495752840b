import Derived.Test.YtdalkkjojflakaaData
import Derived.Test.YtdalkkjojflakaaGeo
import Derived.BigQuiet
import Derived.Deep.QuietTactic
namespace Go.Proofs.Ytdalkkjojflakaa
open Go.RowKit
set_option linter.unusedVariables false
set_option linter.unusedSimpArgs false

/-- dev.every, of whatever is asked at each place. -/
def allB (n : Nat) (p : Nat → Bool) : Bool := (List.range n).all p

theorem allB_t {n : Nat} {p : Nat → Bool} (h : ∀ j, j < n → p j = true) : allB n p = true := by simp [allB]; exact h
theorem allB_f {n k : Nat} {p : Nat → Bool} (hk : k < n) (h : p k = false) : allB n p = false := by simp [allB]; exact ⟨k, hk, h⟩

theorem every1_any (n : Nat) (B : Nat) (p : Nat → Bool) (w : World) (hn : n ≤ 9223372036854775807)
    (hp : ∀ k : Nat, k < n → ∀ wr, Below w.heap.size w wr → Calls Try.prog 55 #[.int .i64 k, .pointer (some ⟨B, 0, none⟩)] wr fun e w' => e = .returned (.bool (p k)) ∧ Below wr.heap.size wr w') :
    Calls Try.prog 54 #[.int .i64 n, .func (.func 55) #[] #[.pointer (some ⟨B, 0, none⟩)]] w fun e w' => e = .returned (.bool (allB n p)) ∧ Below w.heap.size w w' := by
  have HP : Hid (∀ k : Nat, k < n → ∀ wr, Below w.heap.size w wr → Calls Try.prog 55 #[.int .i64 k, .pointer (some ⟨B, 0, none⟩)] wr fun e w' => e = .returned (.bool (p k)) ∧ Below wr.heap.size wr w') := hp
  clear hp
  go_enter Try.func54, Try.ntmps54
  go_wp2
  go_loopw [5, 7] (fun _ i wr => ∃ k : Nat, k ≤ n ∧ i = .int .i64 k ∧ Below w.heap.size w wr ∧ ∀ j, j < k → p j = true) (fun _ i _ => n - (intOf i).toNat)
  case atStart => exact ⟨0, Nat.zero_le _, rfl, Below.refl _ _, fun j hj => absurd hj (Nat.not_lt_zero _)⟩
  case round =>
    obtain ⟨k, hk, rfl, hb, hall⟩ := hrel
    have HA : Hid (∀ j, j < k → p j = true) := hall
    clear hall
    by_cases hlt : k < n
    · go_wp2_with fail
      refine (HP.out k hlt _ hb).mono ?_
      rintro e w1 ⟨rfl, hb1⟩
      cases hpk : p k
      · go_wp2
        go_ret
        exact ⟨ret_bool (allB_f hlt hpk).symm, bl_trans hb hb1⟩
      · go_wp2
        go_roundw
        case rel => exact ⟨k + 1, by omega, by go_num, bl_trans hb hb1, fun j hj => if e : j < k then HA.out j e else (show j = k by omega) ▸ hpk⟩
        case measure => simp [intOf]; omega
    · go_wp2
      go_ret
      exact ⟨ret_bool (allB_t fun j hj => HA.out j (by omega)).symm, hb⟩
theorem every2_any (n : Nat) (B : Nat) (p : Nat → Bool) (w : World) (hn : n ≤ 9223372036854775807)
    (hp : ∀ k : Nat, k < n → ∀ wr, Below w.heap.size w wr → Calls Try.prog 56 #[.int .i64 k, .pointer (some ⟨B, 0, none⟩)] wr fun e w' => e = .returned (.bool (p k)) ∧ Below wr.heap.size wr w') :
    Calls Try.prog 54 #[.int .i64 n, .func (.func 56) #[] #[.pointer (some ⟨B, 0, none⟩)]] w fun e w' => e = .returned (.bool (allB n p)) ∧ Below w.heap.size w w' := by
  have HP : Hid (∀ k : Nat, k < n → ∀ wr, Below w.heap.size w wr → Calls Try.prog 56 #[.int .i64 k, .pointer (some ⟨B, 0, none⟩)] wr fun e w' => e = .returned (.bool (p k)) ∧ Below wr.heap.size wr w') := hp
  clear hp
  go_enter Try.func54, Try.ntmps54
  go_wp2
  go_loopw [5, 7] (fun _ i wr => ∃ k : Nat, k ≤ n ∧ i = .int .i64 k ∧ Below w.heap.size w wr ∧ ∀ j, j < k → p j = true) (fun _ i _ => n - (intOf i).toNat)
  case atStart => exact ⟨0, Nat.zero_le _, rfl, Below.refl _ _, fun j hj => absurd hj (Nat.not_lt_zero _)⟩
  case round =>
    obtain ⟨k, hk, rfl, hb, hall⟩ := hrel
    have HA : Hid (∀ j, j < k → p j = true) := hall
    clear hall
    by_cases hlt : k < n
    · go_wp2_with fail
      refine (HP.out k hlt _ hb).mono ?_
      rintro e w1 ⟨rfl, hb1⟩
      cases hpk : p k
      · go_wp2
        go_ret
        exact ⟨ret_bool (allB_f hlt hpk).symm, bl_trans hb hb1⟩
      · go_wp2
        go_roundw
        case rel => exact ⟨k + 1, by omega, by go_num, bl_trans hb hb1, fun j hj => if e : j < k then HA.out j e else (show j = k by omega) ▸ hpk⟩
        case measure => simp [intOf]; omega
    · go_wp2
      go_ret
      exact ⟨ret_bool (allB_t fun j hj => HA.out j (by omega)).symm, hb⟩
theorem every3_any (n : Nat) (B B' : Nat) (p : Nat → Bool) (w : World) (hn : n ≤ 9223372036854775807)
    (hp : ∀ k : Nat, k < n → ∀ wr, Below w.heap.size w wr → Calls Try.prog 58 #[.int .i64 k, .pointer (some ⟨B, 0, none⟩), .pointer (some ⟨B', 0, none⟩)] wr fun e w' => e = .returned (.bool (p k)) ∧ Below wr.heap.size wr w') :
    Calls Try.prog 54 #[.int .i64 n, .func (.func 58) #[] #[.pointer (some ⟨B, 0, none⟩), .pointer (some ⟨B', 0, none⟩)]] w fun e w' => e = .returned (.bool (allB n p)) ∧ Below w.heap.size w w' := by
  have HP : Hid (∀ k : Nat, k < n → ∀ wr, Below w.heap.size w wr → Calls Try.prog 58 #[.int .i64 k, .pointer (some ⟨B, 0, none⟩), .pointer (some ⟨B', 0, none⟩)] wr fun e w' => e = .returned (.bool (p k)) ∧ Below wr.heap.size wr w') := hp
  clear hp
  go_enter Try.func54, Try.ntmps54
  go_wp2
  go_loopw [5, 7] (fun _ i wr => ∃ k : Nat, k ≤ n ∧ i = .int .i64 k ∧ Below w.heap.size w wr ∧ ∀ j, j < k → p j = true) (fun _ i _ => n - (intOf i).toNat)
  case atStart => exact ⟨0, Nat.zero_le _, rfl, Below.refl _ _, fun j hj => absurd hj (Nat.not_lt_zero _)⟩
  case round =>
    obtain ⟨k, hk, rfl, hb, hall⟩ := hrel
    have HA : Hid (∀ j, j < k → p j = true) := hall
    clear hall
    by_cases hlt : k < n
    · go_wp2_with fail
      refine (HP.out k hlt _ hb).mono ?_
      rintro e w1 ⟨rfl, hb1⟩
      cases hpk : p k
      · go_wp2
        go_ret
        exact ⟨ret_bool (allB_f hlt hpk).symm, bl_trans hb hb1⟩
      · go_wp2
        go_roundw
        case rel => exact ⟨k + 1, by omega, by go_num, bl_trans hb hb1, fun j hj => if e : j < k then HA.out j e else (show j = k by omega) ▸ hpk⟩
        case measure => simp [intOf]; omega
    · go_wp2
      go_ret
      exact ⟨ret_bool (allB_t fun j hj => HA.out j (by omega)).symm, hb⟩

theorem check1_any (B : Nat) (b o n cap k L cap' : Nat) (a' : Option Addr) (w : World) (hk : k < n) (hn : n ≤ 9223372036854775807) (hL : L ≤ 9223372036854775807)
   (h0 : w.cell? ⟨B, 0, none⟩ = some (.slice (some ⟨b, o, none⟩) n cap)) (h1 : w.cell? ⟨b, o + k, none⟩ = some (.slice a' L cap')) :
   Calls Try.prog 55 #[.int .i64 k, .pointer (some ⟨B, 0, none⟩)] w fun e w' => e = .returned (.bool ((L : Int) == 64)) ∧ w = w' := by
  go_enter Try.func55, Try.ntmps55
  go_wp2
  go_ret
  exact ⟨rfl, rfl⟩
theorem isSector_any (s c v : Value) (fuel x : Int) (a : Option Addr) (n cap : Nat) (w : World) (hs : s = .slice a n cap) (hn : n ≤ 9223372036854775807) :
   Calls Try.prog 57 #[.agg #[s, c, v, .int .i64 fuel], .int .i64 x] w fun e w' => e = .returned (.bool (inB x 0 ((n : Int) - 1))) ∧ Below w.heap.size w w' := by
  subst hs
  by_cases h1 : 0 ≤ x
  · by_cases h2 : x < (n : Int)
    · go_enter Try.func57, Try.ntmps57
      go_wp2
      go_ret
      exact ⟨ret_bool (by simp [inB]; omega), bl_alloc (Below.refl _ _) _⟩
    · go_enter Try.func57, Try.ntmps57
      go_wp2
      go_ret
      exact ⟨ret_bool (by simp [inB]; omega), bl_alloc (Below.refl _ _) _⟩
  · go_enter Try.func57, Try.ntmps57
    go_wp2
    go_ret
    exact ⟨ret_bool (by simp [inB]; omega), bl_alloc (Below.refl _ _) _⟩
end Go.Proofs.Ytdalkkjojflakaa
