/- The latest version of a key, as plain lists. -/
import Derived.Test.YtclnabbojhbmhaaCpv
namespace Go.Proofs.Ytclnabbojhbmhaa
open Go.RowKit Go.Maps
set_option maxRecDepth 100000
set_option linter.unusedVariables false
set_option linter.unusedSimpArgs false
def veZ : Ve := ⟨0, ⟨#[]⟩, ⟨#[]⟩, false, false, 0, 0, 0, [], 0, 0, 0⟩
/-- The latest of the first k versions. -/
def latK (S : St) (nm ky : ByteArray) (k : Nat) : Ve := if lastB k (latP S.ves nm ky) < 0 then veZ else S.ves.getD (lastB k (latP S.ves nm ky)).toNat ve0
def latB (S : St) (nm ky : ByteArray) : Bool := stC S && decide (0 ≤ lastB S.ves.length (latP S.ves nm ky))
def latV (S : St) (nm ky : ByteArray) : Ve := if stC S then latK S nm ky S.ves.length else veZ
theorem lastB_bd (p : Nat → Bool) : ∀ n : Nat, -1 ≤ lastB n p ∧ lastB n p < n
  | 0 => by simp [lastB]
  | n + 1 => by
    have := lastB_bd p n
    unfold lastB
    split <;> omega
theorem latK_0 (S : St) (nm ky : ByteArray) : latK S nm ky 0 = veZ := rfl
theorem latK_no {S : St} {nm ky : ByteArray} {k : Nat} (h : latP S.ves nm ky k = false) : latK S nm ky (k + 1) = latK S nm ky k := by
  have e : lastB (k + 1) (latP S.ves nm ky) = lastB k (latP S.ves nm ky) := by show (if latP S.ves nm ky k then (k : Int) else _) = _; rw [h]; rfl
  unfold latK
  rw [e]
theorem latK_yes {S : St} {nm ky : ByteArray} {k : Nat} (h : latP S.ves nm ky k = true) : latK S nm ky (k + 1) = S.ves.getD k ve0 := by
  have e : lastB (k + 1) (latP S.ves nm ky) = (k : Int) := by unfold lastB; rw [h]; rfl
  unfold latK
  rw [e, if_neg (by omega)]
  rfl
theorem stC_ves {S : St} (h : stC S = true) : vesC S = true := by
  unfold stC at h
  simp only [Bool.and_eq_true] at h
  exact h.1.1.1.2
theorem veC_id {S : St} {x : Ve} (h : veC S x = true) : 1 ≤ x.id ∧ x.id ≤ S.next - 1 := by
  unfold veC namC at h
  simp only [Bool.and_eq_true] at h
  exact inB_t h.1.1.1.1
theorem vesC_rise {S : St} (h : vesC S = true) : ∀ j k, j < k → k < S.ves.length → (S.ves.getD j ve0).id < (S.ves.getD k ve0).id := by
  unfold vesC at h
  simp only [Bool.and_eq_true] at h
  have hr := allB_iff.1 h.1.1.2
  intro j k
  induction k with
  | zero => intro h; omega
  | succ k ih =>
    intro hj hk
    have h1 : (S.ves.getD k ve0).id < (S.ves.getD (k + 1) ve0).id := of_decide_eq_true (hr k (by omega))
    rcases Nat.lt_or_ge j k with h2 | h2
    · have := ih h2 (by omega); omega
    · obtain rfl : j = k := by omega
      exact h1
theorem vesC_at {S : St} (h : vesC S = true) {k : Nat} (hk : k < S.ves.length) : veC S (S.ves.getD k ve0) = true := by
  unfold vesC at h
  simp only [Bool.and_eq_true] at h
  exact allB_iff.1 h.1.2 k hk
theorem latK_lt {S : St} (nm ky : ByteArray) {k : Nat} (h : vesC S = true) (hk : k < S.ves.length) : (latK S nm ky k).id < (S.ves.getD k ve0).id := by
  have hb := lastB_bd (latP S.ves nm ky) k
  unfold latK
  split
  · have := veC_id (vesC_at h hk)
    show (0 : Int) < _
    omega
  · exact vesC_rise h _ _ (by omega) hk
theorem latK_bd {S : St} (nm ky : ByteArray) {k : Nat} (h : vesC S = true) (hk : k ≤ S.ves.length) : 0 ≤ (latK S nm ky k).id ∧ (latK S nm ky k).sec.length ≤ 10 ∧ (decide (0 < (latK S nm ky k).id) = decide (0 ≤ lastB k (latP S.ves nm ky))) := by
  have hb := lastB_bd (latP S.ves nm ky) k
  unfold latK
  split
  · rename_i h1
    refine ⟨Int.le_refl _, by simp [veZ], ?_⟩
    rw [decide_eq_false (by simp [veZ]), decide_eq_false (by omega)]
  · rename_i h1
    have h2 := vesC_at h (k := (lastB k (latP S.ves nm ky)).toNat) (by omega)
    have h3 := veC_id h2
    refine ⟨by omega, veC_sec h2, ?_⟩
    rw [decide_eq_true (by omega), decide_eq_true (by omega)]
end Go.Proofs.Ytclnabbojhbmhaa
