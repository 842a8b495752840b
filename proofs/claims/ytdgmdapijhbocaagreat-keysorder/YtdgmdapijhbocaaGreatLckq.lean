/- list.check, list.page, list.shared. -/
import Derived.Test.YtdgmdapijhbocaaGreatLspq
import Derived.Test.YtdgmdapijhbocaaGreatG3
import Derived.Test.YtdgmdapijhbocaaGreatG5
namespace Go.Proofs.YtdgmdapijhbocaaGreat
open Go.RowKit Go.Maps
set_option maxRecDepth 100000
set_option linter.unusedVariables false
set_option linter.unusedSimpArgs false
set_option maxHeartbeats 1000000 in
theorem index_lcheck_1 (C1 : Value) (a : Option Addr) (cap : Nat) (xs : List Bu) (p : Nat → Bool) (w : World) (hL : Lst RBu 5 bu0 w (.slice a xs.length cap) xs) (hn : xs.length ≤ 9223372036854775807)
    (hst : ∀ (k : Nat) (wr : World) (X : Bu), k < xs.length → xs.getD k bu0 = X → Below w.heap.size w wr → Calls Tryz.prog 105 #[buV X, C1] wr fun e w' => e = .returned (.bool (p k)) ∧ Below wr.heap.size wr w') :
    Calls Tryz.prog 152 #[.slice a xs.length cap, .func (.func 105) #[] #[C1]] w fun e w' => e = .returned (.int .i64 (firstI xs.length p)) ∧ Below w.heap.size w w' := by
  have HL := hide hL
  have HST := hide hst
  clear hL hst
  obtain ⟨N, hN⟩ : ∃ N, xs.length = N := ⟨_, rfl⟩
  have HN := hide hN
  rw [hN] at hn HL HST ⊢
  clear hN
  go_enter Tryz.func152, Tryz.ntmps152
  go_wp2
  go_loopw [5, 8] (fun _ i wr => ∃ k : Nat, k ≤ N ∧ i = .int .i64 k ∧ Below w.heap.size w wr ∧ ∀ j, j < k → p j = false) (fun _ i _ => N - (intOf i).toNat)
  case atStart => exact ⟨0, Nat.zero_le _, rfl, Below.refl _ _, fun j hj => absurd hj (Nat.not_lt_zero _)⟩
  case round =>
    obtain ⟨k, hk, rfl, hb, hall⟩ := hrel
    have HA := hide hall
    clear hall
    by_cases hlt : k < N
    · obtain ⟨b, o, rfl, r0⟩ := Lst.at (unhide HL) (i := k) (by rw [unhide HN]; exact hlt)
      obtain ⟨X, hX⟩ : ∃ X, xs.getD k bu0 = X := ⟨_, rfl⟩
      rw [hX] at r0
      have r := RBu.up hb r0
      have HX := hide hX
      clear hX r0
      have hI := hb
      have c0 := r.c0
      have c1 := r.c1
      have c2 := r.c2
      have c3 := r.c3
      have c4 := r.c4
      have HI := hide hI
      clear r hI
      go_wp2_with fail
      refine (unhide HST k _ X hlt (unhide HX) (unhide HI)).mono ?_
      rintro e w1 ⟨rfl, hb1⟩
      cases hpk : p k
      · go_wp2
        go_roundw
        case rel => exact ⟨k + 1, by omega, by go_num, bl_trans hb hb1, fun j hj => if e : j < k then unhide HA j e else (show j = k by omega) ▸ hpk⟩
        case measure => simp [intOf]; omega
      · go_wp2
        go_ret
        exact ⟨ret_int (firstI_t hlt hpk (unhide HA)).symm, bl_trans hb hb1⟩
    · obtain rfl : k = N := by omega
      go_wp2
      go_ret
      exact ⟨ret_int (firstI_f (unhide HA)).symm, hb⟩
theorem contains_lcheck_1 (C1 : Value) (a : Option Addr) (cap : Nat) (xs : List Bu) (p : Nat → Bool) (w : World) (hL : Lst RBu 5 bu0 w (.slice a xs.length cap) xs) (hn : xs.length ≤ 9223372036854775807)
    (hst : ∀ (k : Nat) (wr : World) (X : Bu), k < xs.length → xs.getD k bu0 = X → Below w.heap.size w wr → Calls Tryz.prog 105 #[buV X, C1] wr fun e w' => e = .returned (.bool (p k)) ∧ Below wr.heap.size wr w') :
    Calls Tryz.prog 104 #[.slice a xs.length cap, .func (.func 105) #[] #[C1]] w fun e w' => e = .returned (.bool (decide (0 ≤ firstI xs.length p))) ∧ Below w.heap.size w w' := by
  have HL := hide hL
  have HST := hide hst
  have HN := hide hn
  clear hL hst hn
  go_enter Tryz.func104, Tryz.ntmps104
  go_wp2_with fail
  refine (index_lcheck_1 C1 a cap xs p w (unhide HL) (unhide HN) (unhide HST)).mono ?_
  rintro e w1 ⟨rfl, hb⟩
  go_wp2
  go_ret
  exact ⟨rfl, hb⟩
theorem lcheck_1 (X : Bu) (nm : ByteArray) (B : Nat) (w : World) (h : w.cell? ⟨B, 0, none⟩ = some (.string nm)) : Calls Tryz.prog 105 #[buV X, .pointer (some ⟨B, 0, none⟩)] w fun e w' => e = .returned (.bool (eqS X.nam nm)) ∧ Below w.heap.size w w' := by
  have hB := World.block_lt_of_cell? w _ h
  simp at hB
  go_enter Tryz.func105, Tryz.ntmps105
  go_wp2
  go_ret
  exact ⟨rfl, bl1 _ _⟩
/-- What is refused of both. -/
def lchE (S : St) (nm pre : ByteArray) (m : Int) : Int := if stE S = 0 then (if hasB S nm then (if rulE pre 0 0 = 0 then (if inB m 1 50 then 0 else 2) else rulE pre 0 0) else 6) else stE S
set_option maxHeartbeats 1000000 in
theorem lcheck_any (S : St) (b v u q g : Value) (nm pre : ByteArray) (m : Int) (w : World) (hS : Sta w b v u q g S) (hp : pre.size ≤ maxLen) :
    Calls Tryz.prog 40 #[stV S b v u q g, .string nm, .string pre, .int .i64 m] w fun e w' => e = .returned (.int .i64 (lchE S nm pre m)) ∧ Below w.heap.size w w' := by
  obtain ⟨ba, bc, rfl, hb1, hb2⟩ := hS.bus.form
  unfold maxLen at hb2
  have HS := hide hS
  have HP := hide hp
  have HE : Hid (lchE S nm pre m = if stE S = 0 then (if hasB S nm then (if rulE pre 0 0 = 0 then (if inB m 1 50 then 0 else 2) else rulE pre 0 0) else 6) else stE S) := rfl
  obtain ⟨E, hE⟩ : ∃ E, lchE S nm pre m = E := ⟨_, rfl⟩
  obtain ⟨F, hF⟩ : ∃ F, stE S = F := ⟨_, rfl⟩
  obtain ⟨R, hR⟩ : ∃ R, rulE pre 0 0 = R := ⟨_, rfl⟩
  obtain ⟨H, hH⟩ : ∃ H, hasB S nm = H := ⟨_, rfl⟩
  have HF := hide hF
  have HR := hide hR
  have HH : Hid (decide (0 ≤ firstI S.bus.length (buP S.bus nm)) = H) := hH
  rw [hE, hF, hR, hH] at HE
  rw [hE]
  clear hS hp hE hF hR hH
  go_enter Tryz.func40, Tryz.ntmps40
  go_wp2_with fail
  have hw0 : Below w.heap.size w ((w.alloc (.cells #[.int .i64 S.next, .int .i64 S.clock, .slice ba S.bus.length bc, v, u, q, g] 29)).alloc (.cells #[.string nm] 9)) := bl_alloc (bl1 _ _) _
  refine (check_any S _ v u q g _ ((unhide HS).up hw0)).mono ?_
  rintro e w1 ⟨rfl, hb⟩
  have hw1 := bl_trans hw0 hb
  have x2 := box2a hb 2 rfl
  have n0 := box2b hb 0 rfl
  rw [unhide HF]
  clear hb hw0
  have hs1 := hw1.size
  by_cases h0 : F = 0
  case neg =>
    have HEE : Hid (E = F) := by show _ = _; rw [unhide HE, if_neg h0]
    go_wp2
    go_ret
    exact ⟨ret_int (unhide HEE).symm, hw1⟩
  subst h0
  rw [if_pos rfl] at HE
  go_wp2_with fail
  refine (contains_lcheck_1 _ ba bc S.bus (buP S.bus nm) _ ((unhide HS).up hw1).bus (by omega) fun k wr X hk hX hbr => ?_).mono ?_
  · subst hX
    exact lcheck_1 _ nm _ wr (scell_up hbr n0)
  rintro e w2 ⟨rfl, hb⟩
  rw [unhide HH]
  have hw2 := bl_trans hw1 hb
  clear hb x2 n0
  cases H
  · have HEE : Hid (E = 6) := by show _ = _; rw [unhide HE]; rfl
    go_wp2
    go_ret
    exact ⟨ret_int (unhide HEE).symm, hw2⟩
  rw [if_pos rfl] at HE
  go_wp2_with fail
  refine (checkRule_any pre 0 0 _ (unhide HP)).mono ?_
  rintro e w3 ⟨rfl, hb⟩
  rw [unhide HR]
  have hw3 := bl_trans hw2 hb
  clear hb
  by_cases h0 : R = 0
  case neg =>
    have HEE : Hid (E = R) := by show _ = _; rw [unhide HE, if_neg h0]
    go_wp2
    go_ret
    exact ⟨ret_int (unhide HEE).symm, hw3⟩
  rw [if_pos h0] at HE
  subst h0
  cases hm : inB m 1 50
  · have HEE : Hid (E = 2) := by show _ = _; rw [unhide HE, hm]; rfl
    by_cases h1 : m < 1
    · go_wp2
      go_ret
      exact ⟨ret_int (unhide HEE).symm, hw3⟩
    · have h2 : 50 < m := by have := inB_f hm; omega
      go_wp2
      go_ret
      exact ⟨ret_int (unhide HEE).symm, hw3⟩
  · have HEE : Hid (E = 0) := by show _ = _; rw [unhide HE, hm]; rfl
    have hmb := inB_t hm
    clear hm
    go_wp2
    go_ret
    exact ⟨ret_int (unhide HEE).symm, hw3⟩
end Go.Proofs.YtdgmdapijhbocaaGreat
