/- tier.isGone, sizesMayBe. -/
import Derived.Test.YtbfhkbmcleglaaaGreatTijq
namespace Go.Proofs.YtbfhkbmcleglaaaGreat
open Go.RowKit Go.Maps
set_option maxRecDepth 100000
set_option linter.unusedVariables false
set_option linter.unusedSimpArgs false
theorem tIndex_any (v : Value) (xs : List Int) (x : Int) (w : World) (h : Ints w v xs) :
    Calls Tryz.prog 186 #[v, .int .i64 x] w fun e w' => e = .returned (.int .i64 (firstI xs.length (fun i => xs.getD i 0 == x))) ∧ w = w' := by
  obtain ⟨a, cap, rfl, h1, h2⟩ := h.form
  unfold maxLen at h2
  have HL := hide h
  clear h
  obtain ⟨N, hN⟩ : ∃ N, xs.length = N := ⟨_, rfl⟩
  rw [hN] at h1 HL ⊢
  have HN := hide hN
  clear hN
  go_enter Tryz.func186, Tryz.ntmps186
  go_wp2
  go_loopw [5, 8] (fun _ i wr => ∃ k : Nat, k ≤ N ∧ i = .int .i64 k ∧ w = wr ∧ ∀ j, j < k → (xs.getD j 0 == x) = false) (fun _ i _ => N - (intOf i).toNat)
  case atStart => exact ⟨0, Nat.zero_le _, rfl, rfl, fun j hj => absurd hj (Nat.not_lt_zero _)⟩
  case round =>
    obtain ⟨k, hk, rfl, rfl, hall⟩ := hrel
    have HA := hide hall
    clear hall
    by_cases hlt : k < N
    · obtain ⟨b, o, rfl, r0⟩ := Lst.at (unhide HL) (i := k) (by rw [unhide HN]; exact hlt)
      obtain ⟨X, hX⟩ : ∃ X, xs.getD k 0 = X := ⟨_, rfl⟩
      rw [hX] at r0
      have c0 := r0.1
      rw [Nat.mul_one] at c0
      have HX := hide hX
      clear hX r0
      cases hp : (X == x)
      · have hpk : Hid ((xs.getD k 0 == x) = false) := by show _ = _; rw [unhide HX]; exact hp
        go_wp2
        go_roundw
        case rel => exact ⟨k + 1, by omega, by go_num, by first | trivial | rfl, fun j hj => if e : j < k then unhide HA j e else (show j = k by omega) ▸ unhide hpk⟩
        case measure => simp [intOf]; omega
      · have hpk : Hid ((xs.getD k 0 == x) = true) := by show _ = _; rw [unhide HX]; exact hp
        go_wp2
        go_ret
        exact ⟨ret_int (firstI_t hlt (unhide hpk) (unhide HA)).symm, rfl⟩
    · obtain rfl : k = N := by omega
      go_wp2
      go_ret
      exact ⟨ret_int (firstI_f (unhide HA)).symm, rfl⟩
theorem tContains_any (v : Value) (xs : List Int) (x : Int) (w : World) (h : Ints w v xs) :
    Calls Tryz.prog 141 #[v, .int .i64 x] w fun e w' => e = .returned (.bool (decide (0 ≤ firstI xs.length (fun i => xs.getD i 0 == x)))) ∧ w = w' := by
  have H := hide h
  clear h
  go_enter Tryz.func141, Tryz.ntmps141
  go_wp2_with fail
  refine (tIndex_any v xs x _ (unhide H)).mono ?_
  rintro e w1 ⟨rfl, rfl⟩
  go_wp2
  go_ret
  exact ⟨rfl, rfl⟩
theorem tIsGone_any (S : St) (b v u q g : Value) (n : Int) (w : World) (hG : Ints w g S.gone) :
    Calls Tryz.prog 76 #[stV S b v u q g, .int .i64 n] w fun e w' => e = .returned (.bool (isGone S n)) ∧ Below w.heap.size w w' := by
  have HG := hide hG
  have HE : Hid (decide (0 ≤ firstI S.gone.length (fun i => S.gone.getD i 0 == n)) = isGone S n) := rfl
  clear hG
  go_enter Tryz.func76, Tryz.ntmps76
  go_wp2_with fail
  refine (tContains_any g S.gone n _ (Ints.up (bl1 _ _) (unhide HG))).mono ?_
  rintro e w1 ⟨rfl, rfl⟩
  go_wp2
  go_ret
  exact ⟨ret_bool (unhide HE), bl1 _ _⟩
theorem sizeMayBe_any (n : Int) (w : World) : Calls Tryz.prog 79 #[.int .i64 n] w fun e w' => e = .returned (.bool (inB n 0 4000)) ∧ w = w' := by
  have HE : Hid (inB n 0 4000 = decide (0 ≤ n ∧ n ≤ 4000)) := rfl
  by_cases h0 : 0 ≤ n
  · have HR : Hid (inB n 0 4000 = decide (n ≤ 4000)) := by show _ = _; rw [unhide HE]; by_cases h1 : n ≤ 4000 <;> simp [h0, h1]
    go_enter Tryz.func79, Tryz.ntmps79
    go_wp2
    go_ret
    exact ⟨ret_bool (unhide HR).symm, rfl⟩
  · have HR : Hid (inB n 0 4000 = false) := by show _ = _; rw [unhide HE]; simp [h0]
    go_enter Tryz.func79, Tryz.ntmps79
    go_wp2
    go_ret
    exact ⟨ret_bool (unhide HR).symm, rfl⟩
theorem sizesMayBe_1 (n : Int) (w : World) : Calls Tryz.prog 140 #[.int .i64 n] w fun e w' => e = .returned (.bool (!inB n 0 4000)) ∧ w = w' := by
  go_enter Tryz.func140, Tryz.ntmps140
  go_wp2_with fail
  refine (sizeMayBe_any n _).mono ?_
  rintro e w1 ⟨rfl, rfl⟩
  go_wp2
  go_ret
  exact ⟨rfl, rfl⟩
def sizN (l : List Int) (i : Nat) : Bool := !inB (l.getD i 0) 0 4000
def sizC (most : Int) (l : List Int) : Bool := decide ((l.length : Int) ≤ most) && allB l.length (fun i => inB (l.getD i 0) 0 4000)
theorem siz_all (l : List Int) : (!decide (0 ≤ firstI l.length (sizN l))) = allB l.length (fun i => inB (l.getD i 0) 0 4000) := by
  rcases firstI_cases l.length (sizN l) with ⟨e, hall⟩ | ⟨k, hk, e, hp, _⟩
  · rw [e, allB_t fun j hj => by have := hall j hj; unfold sizN at this; simpa using this]; rfl
  · rw [e, allB_f hk (by unfold sizN at hp; simpa using hp), decide_eq_true (by omega)]; rfl
theorem tIndexSizes_any (v : Value) (xs : List Int) (w : World) (h : Ints w v xs) :
    Calls Tryz.prog 185 #[v, .func (.func 140) #[] #[]] w fun e w' => e = .returned (.int .i64 (firstI xs.length (sizN xs))) ∧ w = w' := by
  obtain ⟨a, cap, rfl, h1, h2⟩ := h.form
  unfold maxLen at h2
  have HL := hide h
  clear h
  have HP : Hid (∀ i, sizN xs i = !inB (xs.getD i 0) 0 4000) := fun i => rfl
  obtain ⟨p, hp⟩ : ∃ p, sizN xs = p := ⟨_, rfl⟩
  rw [hp] at HP ⊢
  clear hp
  obtain ⟨N, hN⟩ : ∃ N, xs.length = N := ⟨_, rfl⟩
  rw [hN] at h1 HL ⊢
  have HN := hide hN
  clear hN
  go_enter Tryz.func185, Tryz.ntmps185
  go_wp2
  go_loopw [5, 8] (fun _ i wr => ∃ k : Nat, k ≤ N ∧ i = .int .i64 k ∧ w = wr ∧ ∀ j, j < k → p j = false) (fun _ i _ => N - (intOf i).toNat)
  case atStart => exact ⟨0, Nat.zero_le _, rfl, rfl, fun j hj => absurd hj (Nat.not_lt_zero _)⟩
  case round =>
    obtain ⟨k, hk, rfl, rfl, hall⟩ := hrel
    have HA := hide hall
    clear hall
    by_cases hlt : k < N
    · obtain ⟨b, o, rfl, r0⟩ := Lst.at (unhide HL) (i := k) (by rw [unhide HN]; exact hlt)
      have HPK : Hid (p k = !inB (xs.getD k 0) 0 4000) := unhide HP k
      obtain ⟨X, hX⟩ : ∃ X, xs.getD k 0 = X := ⟨_, rfl⟩
      rw [hX] at r0 HPK
      have c0 := r0.1
      rw [Nat.mul_one] at c0
      clear hX r0
      go_wp2_with fail
      refine (sizesMayBe_1 X _).mono ?_
      rintro e w1 ⟨rfl, rfl⟩
      rw [← unhide HPK]
      cases hpk : p k
      · go_wp2
        go_roundw
        case rel => exact ⟨k + 1, by omega, by go_num, by first | trivial | rfl, fun j hj => if e : j < k then unhide HA j e else (show j = k by omega) ▸ hpk⟩
        case measure => simp [intOf]; omega
      · go_wp2
        go_ret
        exact ⟨ret_int (firstI_t hlt hpk (unhide HA)).symm, rfl⟩
    · obtain rfl : k = N := by omega
      go_wp2
      go_ret
      exact ⟨ret_int (firstI_f (unhide HA)).symm, rfl⟩
theorem tContainsSizes_any (v : Value) (xs : List Int) (w : World) (h : Ints w v xs) :
    Calls Tryz.prog 139 #[v, .func (.func 140) #[] #[]] w fun e w' => e = .returned (.bool (decide (0 ≤ firstI xs.length (sizN xs)))) ∧ w = w' := by
  have H := hide h
  clear h
  go_enter Tryz.func139, Tryz.ntmps139
  go_wp2_with fail
  refine (tIndexSizes_any v xs _ (unhide H)).mono ?_
  rintro e w1 ⟨rfl, rfl⟩
  go_wp2
  go_ret
  exact ⟨rfl, rfl⟩
theorem sizesMayBe_any (v : Value) (l : List Int) (most : Int) (w : World) (h : Ints w v l) :
    Calls Tryz.prog 75 #[v, .int .i64 most] w fun e w' => e = .returned (.bool (sizC most l)) ∧ w = w' := by
  obtain ⟨a, cap, rfl, h1, h2⟩ := h.form
  unfold maxLen at h2
  have H := hide h
  have HA := hide (siz_all l)
  have HE : Hid (sizC most l = (decide ((l.length : Int) ≤ most) && allB l.length (fun i => inB (l.getD i 0) 0 4000))) := rfl
  clear h
  by_cases hm : (l.length : Int) ≤ most
  · have HR : Hid (sizC most l = !decide (0 ≤ firstI l.length (sizN l))) := by show _ = _; rw [unhide HE, unhide HA, decide_eq_true hm, Bool.true_and]
    go_enter Tryz.func75, Tryz.ntmps75
    go_wp2_with fail
    refine (tContainsSizes_any _ l _ (unhide H)).mono ?_
    rintro e w1 ⟨rfl, rfl⟩
    go_wp2
    go_ret
    exact ⟨ret_bool (unhide HR).symm, rfl⟩
  · have HR : Hid (sizC most l = false) := by show _ = _; rw [unhide HE, decide_eq_false hm]; rfl
    go_enter Tryz.func75, Tryz.ntmps75
    go_wp2
    go_ret
    exact ⟨ret_bool (unhide HR).symm, rfl⟩
end Go.Proofs.YtbfhkbmcleglaaaGreat
