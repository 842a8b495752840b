/- What a rule is for: the document's way to ask it is the code's. -/
import Derived.Test.YtkogbgeadlnnfaaTib
namespace Go.Proofs.Ytkogbgeadlnnfaa
open Go.RowKit Go.Maps
set_option maxRecDepth 100000
set_option linter.unusedVariables false
set_option linter.unusedSimpArgs false
theorem bless_irr : ∀ x : List UInt8, Op.bytesLess x x = false
  | [] => by simp [Op.bytesLess]
  | a :: x => by
    have ih := bless_irr x
    have h2 : ¬ a < a := fun k => by have := UInt8.lt_iff_toNat_lt.1 k; omega
    simp [Op.bytesLess, h2, ih]
theorem bless_tr : ∀ x y z : List UInt8, Op.bytesLess x y = true → Op.bytesLess y z = true → Op.bytesLess x z = true
  | [], [], _, h, _ => by simp [Op.bytesLess] at h
  | [], _ :: _, [], _, h => by simp [Op.bytesLess] at h
  | [], _ :: _, _ :: _, _, _ => by simp [Op.bytesLess]
  | _ :: _, [], _, h, _ => by simp [Op.bytesLess] at h
  | _ :: _, _ :: _, [], _, h => by simp [Op.bytesLess] at h
  | a :: x, b :: y, c :: z, h, k => by
    have ih := bless_tr x y z
    simp only [Op.bytesLess] at h k ⊢
    rcases Nat.lt_trichotomy a.toNat b.toNat with h1 | h1 | h1
    · rcases Nat.lt_trichotomy b.toNat c.toNat with h2 | h2 | h2
      · have h3 : a < c := UInt8.lt_iff_toNat_lt.2 (by omega)
        simp [h3]
      · obtain rfl := UInt8.toNat_inj.1 h2
        have h3 : a < b := UInt8.lt_iff_toNat_lt.2 h1
        simp [h3]
      · have h3 : ¬ b < c := fun q => by have := UInt8.lt_iff_toNat_lt.1 q; omega
        have h4 : b ≠ c := fun e => by subst e; omega
        have h5 : c < b := UInt8.lt_iff_toNat_lt.2 h2
        simp [h3, h4, h5] at k
    · obtain rfl := UInt8.toNat_inj.1 h1
      have h6 : ¬ a < a := fun k => by have := UInt8.lt_iff_toNat_lt.1 k; omega
      rcases Nat.lt_trichotomy a.toNat c.toNat with h2 | h2 | h2
      · have h3 : a < c := UInt8.lt_iff_toNat_lt.2 h2
        simp [h3]
      · obtain rfl := UInt8.toNat_inj.1 h2
        simp [h6] at h k ⊢
        exact ih h k
      · have h3 : ¬ a < c := fun q => by have := UInt8.lt_iff_toNat_lt.1 q; omega
        have h4 : a ≠ c := fun e => by subst e; omega
        have h5 : c < a := UInt8.lt_iff_toNat_lt.2 h2
        simp [h3, h4, h5] at k
    · have h3 : ¬ a < b := fun q => by have := UInt8.lt_iff_toNat_lt.1 q; omega
      have h4 : a ≠ b := fun e => by subst e; omega
      have h5 : b < a := UInt8.lt_iff_toNat_lt.2 h1
      simp [h3, h4, h5] at h
theorem eqS_eq {a b : ByteArray} (h : eqS a b = true) : a.toList = b.toList := by unfold eqS at h; exact beq_iff_eq.1 h
theorem bus_rise {l : List Bu} (h : busC l = true) : ∀ j k, j < k → k < l.length → ltS (l.getD j bu0).nam (l.getD k bu0).nam = true := by
  unfold busC at h
  simp only [Bool.and_eq_true] at h
  have hr := allB_iff.1 h.1.2
  intro j k
  induction k with
  | zero => intro h; omega
  | succ k ih =>
    intro hj hk
    have h1 : ltS (l.getD k bu0).nam (l.getD (k + 1) bu0).nam = true := hr k (by omega)
    rcases Nat.lt_or_ge j k with h2 | h2
    · exact bless_tr _ _ _ (ih h2 (by omega)) h1
    · obtain rfl : j = k := by omega
      exact h1
/-- No two buckets have one name. -/
theorem bus_uniq {l : List Bu} (h : busC l = true) {j k : Nat} (hj : j < l.length) (hk : k < l.length) (e : (l.getD j bu0).nam.toList = (l.getD k bu0).nam.toList) : j = k := by
  rcases Nat.lt_trichotomy j k with h1 | h1 | h1
  · have h2 := bus_rise h j k h1 hk
    unfold ltS at h2
    rw [e, bless_irr] at h2
    cases h2
  · exact h1
  · have h2 := bus_rise h k j h1 hj
    unfold ltS at h2
    rw [e, bless_irr] at h2
    cases h2
theorem tstC_bus {S : St} (h : stC S = true) : busC S.bus = true := by
  unfold stC at h
  simp only [Bool.and_eq_true] at h
  exact h.1.1.1.1.2
/-- A version's bucket is there. -/
theorem veC_bus {S : St} {x : Ve} (h : veC S x = true) : ∃ k : Nat, k < S.bus.length ∧ firstI S.bus.length (buP S.bus x.bu) = (k : Int) ∧ buP S.bus x.bu k = true := by
  unfold veC namC hasB at h
  simp only [Bool.and_eq_true] at h
  have h1 := h.1.1.1.2
  rcases firstI_cases S.bus.length (buP S.bus x.bu) with ⟨e, _⟩ | ⟨k, hk, e, hp, _⟩
  · rw [e] at h1; simp at h1
  · exact ⟨k, hk, e, hp⟩
def ageB (S : St) (X : Ve) : Bu := S.bus.getD (firstI S.bus.length (buP S.bus X.bu)).toNat bu0
def ageR (S : St) (X : Ve) (dr : Bool) : Bool := (decide (0 ≤ ageN dr (ageB S X)) && pfB X.ke (ageB S X).pre) && decide (ageN dr (ageB S X) ≤ S.clock - X.time)
theorem age_eq {S : St} {X : Ve} (h : stC S = true) (hx : X ∈ S.ves) (dr : Bool) : ageE S X dr = ageR S X dr := by
  obtain ⟨k, hk, e, hp⟩ := veC_bus (tstC_at h hx)
  have hb := tstC_bus h
  have eB : ageB S X = S.bus.getD k bu0 := by unfold ageB; rw [e]; rfl
  have hpe : eqS (S.bus.getD k bu0).nam X.bu = true := hp
  have eP : ageP S X dr (S.bus.getD k bu0) = ageR S X dr := by
    unfold ageP ageR
    rw [eB, hpe, Bool.true_and]
  unfold ageE
  rcases firstI_cases S.bus.length (fun i => ageP S X dr (S.bus.getD i bu0)) with ⟨e1, hall⟩ | ⟨j, hj, e1, hq, _⟩
  · rw [e1, ← eP, hall k hk]; rfl
  · have hq' : ageP S X dr (S.bus.getD j bu0) = true := hq
    have hn : eqS (S.bus.getD j bu0).nam X.bu = true := by
      unfold ageP at hq'
      simp only [Bool.and_eq_true] at hq'
      exact hq'.1.1.1
    obtain rfl : j = k := bus_uniq hb hj hk ((eqS_eq hn).trans (eqS_eq hpe).symm)
    rw [e1, ← eP, hq']
    exact decide_eq_true (by omega)
end Go.Proofs.Ytkogbgeadlnnfaa
