/- icehousekeep.small and picked. -/
import Derived.Test.YtdalkkjojflakaaOkd
namespace Go.Proofs.Ytdalkkjojflakaa
open Go.RowKit
set_option maxRecDepth 100000
set_option linter.unusedVariables false
set_option linter.unusedSimpArgs false

/-- A number from 0 to many - 1. -/
def pickI (n m : Int) : Int := (if n < 0 then -(n + 1) else n) % m
theorem pickI_lo (n : Int) {m : Int} (hm : 0 < m) : 0 ≤ pickI n m := Int.emod_nonneg _ (by omega)
theorem pickI_hi (n : Int) {m : Int} (hm : 0 < m) : pickI n m < m := Int.emod_lt_of_pos _ hm
theorem picked_any (n m : Int) (w : World) (hm : 0 < m) (hmm : m ≤ 9223372036854775807) (h0 : -9223372036854775808 ≤ n) (h1 : n ≤ 9223372036854775807) :
    Calls Try.prog 19 #[.int .i64 n, .int .i64 m] w fun e w' => e = .returned (.int .i64 (pickI n m)) ∧ w = w' := by
  have hz : ¬ m = 0 := by omega
  by_cases hn : n < 0
  · have HP : Hid ((-(n + 1)) % m = pickI n m) := by show _ = _; unfold pickI; rw [if_pos hn]
    go_enter Try.func19, Try.ntmps19
    go_wp2
    go_ret
    exact ⟨ret_int (by rw [← unhide HP, ← Int.tmod_eq_emod_of_nonneg (by omega), Int.neg_tmod]), rfl⟩
  · have HP : Hid (n % m = pickI n m) := by show _ = _; unfold pickI; rw [if_neg hn]
    go_enter Try.func19, Try.ntmps19
    go_wp2
    go_ret
    exact ⟨ret_int (unhide HP), rfl⟩
end Go.Proofs.Ytdalkkjojflakaa
