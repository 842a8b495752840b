/- The document's small looks at a state. -/
import Derived.Test.YtdalkkjojflakaaChs
namespace Go.Proofs.Ytdalkkjojflakaa
open Go.RowKit Go.Maps
set_option maxRecDepth 100000
set_option linter.unusedVariables false
set_option linter.unusedSimpArgs false
theorem chunks_any (n : Int) (w : World) (h0 : 0 ≤ n) (h1 : n ≤ 1000000) : Calls Try.prog 73 #[.int .i64 n, .int .i64 64] w fun e w' => e = .returned (.int .i64 (secN n)) ∧ w = w' := by
  have HC : Hid (secN n = (n + 64 - 1) / 64) := by
    show _ = _
    unfold secN
    split <;> omega
  go_enter Try.func73, Try.ntmps73
  go_wp2
  go_ret
  exact ⟨ret_int (by rw [unhide HC]), rfl⟩
set_option maxHeartbeats 1000000 in
theorem bucketAt_any (S : St) (b v u q g : Value) (nm : ByteArray) (w : World) (hB : Lst RBu 5 bu0 w b S.bus) :
    Calls Try.prog 71 #[stV S b v u q g, .string nm] w fun e w' => e = .returned (.int .i64 (firstI S.bus.length (buP S.bus nm))) ∧ Below w.heap.size w w' := by
  obtain ⟨a, cap, rfl, h1, h2⟩ := hB.form
  unfold maxLen at h2
  obtain ⟨N, hN⟩ : ∃ N, S.bus.length = N := ⟨_, rfl⟩
  rw [hN] at h1 ⊢
  have HB := hide (hB.imp fun _ _ _ r => RBu.up (bl1 w (.cells #[.int .i64 S.next, .int .i64 S.clock, .slice a N cap, v, u, q, g] 59)) r)
  rw [hN] at HB
  have HN := hide hN
  clear hN hB
  go_enter Try.func71, Try.ntmps71
  go_wp2
  go_loopw [5] (fun i wr => ∃ k : Nat, k ≤ N ∧ i = .int .i64 k ∧ wr = w.alloc (.cells #[.int .i64 S.next, .int .i64 S.clock, .slice a N cap, v, u, q, g] 59) ∧ ∀ j, j < k → (buP S.bus nm) j = false) (fun i _ => N - (intOf i).toNat)
  case atStart => exact ⟨0, Nat.zero_le _, rfl, rfl, fun j hj => absurd hj (Nat.not_lt_zero _)⟩
  case round =>
    obtain ⟨k, hk, rfl, rfl, hall⟩ := hrel
    have HA := hide hall
    clear hall
    by_cases hlt : k < N
    · obtain ⟨b', o', rfl, r⟩ := Lst.at (unhide HB) (i := k) (by rw [unhide HN]; exact hlt)
      have c0 := r.c0
      have HP : Hid ((buP S.bus nm) k = eqS (S.bus.getD k bu0).nam nm) := rfl
      clear r
      obtain ⟨X, hX⟩ : ∃ X, S.bus.getD k bu0 = X := ⟨_, rfl⟩
      rw [hX] at c0 HP
      clear hX
      cases hp : eqS X.nam nm
      · have HF : Hid ((buP S.bus nm) k = false) := (unhide HP).trans hp
        (try (simp only [eqS] at hp))
        go_wp2
        go_roundw
        case rel => exact ⟨k + 1, by omega, by go_num, by first | trivial | rfl, fun j hj => if e : j < k then unhide HA j e else (show j = k by omega) ▸ unhide HF⟩
        case measure => simp [intOf]; omega
      · have HF : Hid ((buP S.bus nm) k = true) := (unhide HP).trans hp
        (try (simp only [eqS] at hp))
        go_wp2
        go_ret
        exact ⟨ret_int (firstI_t hlt (unhide HF) (unhide HA)).symm, bl1 _ _⟩
    · obtain rfl : k = N := by omega
      go_wp2
      go_ret
      exact ⟨ret_int (firstI_f (unhide HA)).symm, bl1 _ _⟩
set_option maxHeartbeats 1000000 in
theorem versionAt_any (S : St) (b v u q g : Value) (nm : Int) (w : World) (hB : Lst RVe 12 ve0 w v S.ves) :
    Calls Try.prog 74 #[stV S b v u q g, .int .i64 nm] w fun e w' => e = .returned (.int .i64 (firstI S.ves.length (veP S.ves nm))) ∧ Below w.heap.size w w' := by
  obtain ⟨a, cap, rfl, h1, h2⟩ := hB.form
  unfold maxLen at h2
  obtain ⟨N, hN⟩ : ∃ N, S.ves.length = N := ⟨_, rfl⟩
  rw [hN] at h1 ⊢
  have HB := hide (hB.imp fun _ _ _ r => RVe.up (bl1 w (.cells #[.int .i64 S.next, .int .i64 S.clock, b, .slice a N cap, u, q, g] 59)) r)
  rw [hN] at HB
  have HN := hide hN
  clear hN hB
  go_enter Try.func74, Try.ntmps74
  go_wp2
  go_loopw [5] (fun i wr => ∃ k : Nat, k ≤ N ∧ i = .int .i64 k ∧ wr = w.alloc (.cells #[.int .i64 S.next, .int .i64 S.clock, b, .slice a N cap, u, q, g] 59) ∧ ∀ j, j < k → (veP S.ves nm) j = false) (fun i _ => N - (intOf i).toNat)
  case atStart => exact ⟨0, Nat.zero_le _, rfl, rfl, fun j hj => absurd hj (Nat.not_lt_zero _)⟩
  case round =>
    obtain ⟨k, hk, rfl, rfl, hall⟩ := hrel
    have HA := hide hall
    clear hall
    by_cases hlt : k < N
    · obtain ⟨b', o', rfl, r⟩ := Lst.at (unhide HB) (i := k) (by rw [unhide HN]; exact hlt)
      have c0 := r.c0
      have HP : Hid ((veP S.ves nm) k = ((S.ves.getD k ve0).id == nm)) := rfl
      clear r
      obtain ⟨X, hX⟩ : ∃ X, S.ves.getD k ve0 = X := ⟨_, rfl⟩
      rw [hX] at c0 HP
      clear hX
      cases hp : (X.id == nm)
      · have HF : Hid ((veP S.ves nm) k = false) := (unhide HP).trans hp
        (try (simp only [eqS] at hp))
        go_wp2
        go_roundw
        case rel => exact ⟨k + 1, by omega, by go_num, by first | trivial | rfl, fun j hj => if e : j < k then unhide HA j e else (show j = k by omega) ▸ unhide HF⟩
        case measure => simp [intOf]; omega
      · have HF : Hid ((veP S.ves nm) k = true) := (unhide HP).trans hp
        (try (simp only [eqS] at hp))
        go_wp2
        go_ret
        exact ⟨ret_int (firstI_t hlt (unhide HF) (unhide HA)).symm, bl1 _ _⟩
    · obtain rfl : k = N := by omega
      go_wp2
      go_ret
      exact ⟨ret_int (firstI_f (unhide HA)).symm, bl1 _ _⟩
set_option maxHeartbeats 1000000 in
theorem goneIs_any (S : St) (b v u q g : Value) (nm : Int) (w : World) (hB : Ints w g S.gone) :
    Calls Try.prog 48 #[stV S b v u q g, .int .i64 nm] w fun e w' => e = .returned (.bool (isGone S nm)) ∧ Below w.heap.size w w' := by
  obtain ⟨a, cap, rfl, h1, h2⟩ := hB.form
  unfold maxLen at h2
  obtain ⟨N, hN⟩ : ∃ N, S.gone.length = N := ⟨_, rfl⟩
  rw [hN] at h1 ⊢
  have HB := hide (Ints.up (bl1 w (.cells #[.int .i64 S.next, .int .i64 S.clock, b, v, u, q, .slice a N cap] 59)) hB)
  rw [hN] at HB
  have HN := hide hN
  clear hN hB
  go_enter Try.func48, Try.ntmps48
  go_wp2
  go_loopw [5] (fun i wr => ∃ k : Nat, k ≤ N ∧ i = .int .i64 k ∧ wr = w.alloc (.cells #[.int .i64 S.next, .int .i64 S.clock, b, v, u, q, .slice a N cap] 59) ∧ ∀ j, j < k → goP S.gone nm j = false) (fun i _ => N - (intOf i).toNat)
  case atStart => exact ⟨0, Nat.zero_le _, rfl, rfl, fun j hj => absurd hj (Nat.not_lt_zero _)⟩
  case round =>
    obtain ⟨k, hk, rfl, rfl, hall⟩ := hrel
    have HA := hide hall
    clear hall
    by_cases hlt : k < N
    · obtain ⟨b', o', rfl, r⟩ := Lst.at (unhide HB) (i := k) (by rw [unhide HN]; exact hlt)
      have c0 := r.1
      rw [Nat.mul_one] at c0
      have HP : Hid (goP S.gone nm k = (S.gone.getD k 0 == nm)) := rfl
      clear r
      obtain ⟨X, hX⟩ : ∃ X, S.gone.getD k 0 = X := ⟨_, rfl⟩
      rw [hX] at c0 HP
      clear hX
      cases hp : (X == nm)
      · have HF : Hid (goP S.gone nm k = false) := (unhide HP).trans hp
        go_wp2
        go_roundw
        case rel => exact ⟨k + 1, by omega, by go_num, by first | trivial | rfl, fun j hj => if e : j < k then unhide HA j e else (show j = k by omega) ▸ unhide HF⟩
        case measure => simp [intOf]; omega
      · have HF : Hid (goP S.gone nm k = true) := (unhide HP).trans hp
        have HT : Hid (isGone S nm = true) := by
          show _ = _
          unfold isGone
          rw [unhide HN, firstI_t hlt (unhide HF) (unhide HA)]
          simp
        go_wp2
        go_ret
        exact ⟨ret_bool (unhide HT).symm, bl1 _ _⟩
    · obtain rfl : k = N := by omega
      have HT : Hid (isGone S nm = false) := by
        show _ = _
        unfold isGone
        rw [unhide HN, firstI_f (unhide HA)]
        rfl
      go_wp2
      go_ret
      exact ⟨ret_bool (unhide HT).symm, bl1 _ _⟩
end Go.Proofs.Ytdalkkjojflakaa
