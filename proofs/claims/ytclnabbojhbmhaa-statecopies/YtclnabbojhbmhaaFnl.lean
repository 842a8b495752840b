/- state.findLast; the document's intsCopy; versions that are held against each other. -/
import Derived.Test.YtclnabbojhbmhaaFre
namespace Go.Proofs.Ytclnabbojhbmhaa
open Go.RowKit Go.Maps
set_option maxRecDepth 100000
set_option linter.unusedVariables false
set_option linter.unusedSimpArgs false
/-- The last of the first n places where it holds; -1: there is none. -/
def lastB : Nat → (Nat → Bool) → Int
  | 0, _ => -1
  | n + 1, p => if p n then (n : Int) else lastB n p
def latP (l : List Ve) (bu ke : ByteArray) (i : Nat) : Bool := eqS (l.getD i ve0).bu bu && eqS (l.getD i ve0).ke ke
theorem latest_1 (X : Ve) (ua : Option Addr) (un uc : Nat) (bu ke : ByteArray) (B C : Nat) (w : World) (h : w.cell? ⟨B, 0, none⟩ = some (.string bu)) (h2 : w.cell? ⟨C, 0, none⟩ = some (.string ke)) :
    Calls Try.prog 52 #[veV X (.slice ua un uc), .pointer (some ⟨B, 0, none⟩), .pointer (some ⟨C, 0, none⟩)] w fun e w' => e = .returned (.bool (eqS X.bu bu && eqS X.ke ke)) ∧ Below w.heap.size w w' := by
  have hB := World.block_lt_of_cell? w _ h
  have hC := World.block_lt_of_cell? w _ h2
  simp at hB hC
  have HE : Hid ((eqS X.bu bu && eqS X.ke ke) = ((X.bu.toList == bu.toList) && (X.ke.toList == ke.toList))) := rfl
  cases t : (X.bu.toList == bu.toList)
  · rw [t] at HE
    go_enter Try.func52, Try.ntmps52
    go_wp2
    go_ret
    exact ⟨ret_bool (by rw [unhide HE]; rfl), bl1 _ _⟩
  · rw [t] at HE
    go_enter Try.func52, Try.ntmps52
    go_wp2
    go_ret
    exact ⟨ret_bool (by rw [unhide HE]; rfl), bl1 _ _⟩
set_option maxHeartbeats 1000000 in
theorem findLast_any (C1 C2 : Value) (a : Option Addr) (cap : Nat) (xs : List Ve) (p : Nat → Bool) (w : World) (hL : Lst RVe 12 ve0 w (.slice a xs.length cap) xs) (hn : xs.length ≤ 9223372036854775807)
    (hst : ∀ (k : Nat) (wr : World) (X : Ve) (ua : Option Addr) (un uc : Nat), k < xs.length → xs.getD k ve0 = X → Below w.heap.size w wr → Ints wr (.slice ua un uc) X.sec → Calls Try.prog 52 #[veV X (.slice ua un uc), C1, C2] wr fun e w' => e = .returned (.bool (p k)) ∧ Below wr.heap.size wr w') :
    Calls Try.prog 51 #[.slice a xs.length cap, .func (.func 52) #[] #[C1, C2]] w fun e w' => e = .returned (.int .i64 (lastB xs.length p)) ∧ Below w.heap.size w w' := by
  have HL := hide hL
  have HST := hide hst
  clear hL hst
  obtain ⟨N, hN⟩ : ∃ N, xs.length = N := ⟨_, rfl⟩
  have HN := hide hN
  rw [hN] at hn HL HST ⊢
  clear hN
  go_enter Try.func51, Try.ntmps51
  go_wp2
  go_loopw [5] (fun i wr => ∃ k : Nat, k ≤ N ∧ i = .int .i64 ((k : Int) - 1) ∧ Below w.heap.size w wr ∧ lastB N p = lastB k p) (fun i _ => (intOf i + 1).toNat)
  case atStart => exact ⟨N, Nat.le_refl _, rfl, Below.refl _ _, rfl⟩
  case round =>
    obtain ⟨k, hk, rfl, hb, hall⟩ := hrel
    have HA := hide hall
    clear hall
    cases k with
    | zero =>
      go_wp2
      go_ret
      exact ⟨ret_int (by rw [unhide HA]; rfl), hb⟩
    | succ m =>
      have hm : ((m + 1 : Nat) : Int) - 1 = (m : Int) := by omega
      rw [hm]
      clear hm
      obtain ⟨b, o, rfl, r0⟩ := Lst.at (unhide HL) (i := m) (by rw [unhide HN]; omega)
      obtain ⟨X, hX⟩ : ∃ X, xs.getD m ve0 = X := ⟨_, rfl⟩
      rw [hX] at r0
      have r := RVe.up hb r0
      have HX := hide hX
      clear hX r0
      obtain ⟨U, hu, hi⟩ := r.c8
      obtain ⟨ua, uc, rfl, _⟩ := hi.form
      have HII := hide hi
      have c0 := r.c0
      have c1 := r.c1
      have c2 := r.c2
      have c3 := r.c3
      have c4 := r.c4
      have c5 := r.c5
      have c6 := r.c6
      have c7 := r.c7
      have c9 := r.c9
      have c10 := r.c10
      have c11 := r.c11
      clear r hi
      have hm0 : (0 : Int) ≤ (m : Int) := Int.natCast_nonneg _
      have hm1 : (m : Int) < (N : Int) := by omega
      go_wp2_with fail
      refine (unhide HST m _ X _ _ _ (by omega) (unhide HX) hb (unhide HII)).mono ?_
      rintro e w1 ⟨rfl, hb1⟩
      cases hpk : p m
      · have HZ : Hid (lastB (m + 1) p = lastB m p) := by show (if p m then (m : Int) else lastB m p) = _; rw [hpk]; rfl
        go_wp2
        go_roundw
        case rel => exact ⟨m, by omega, rfl, bl_trans hb hb1, by rw [unhide HA, unhide HZ]⟩
        case measure => (simp [intOf] <;> omega)
      · have HZ : Hid (lastB (m + 1) p = (m : Int)) := by show (if p m then (m : Int) else lastB m p) = _; rw [hpk]; rfl
        go_wp2
        go_ret
        exact ⟨ret_int (by rw [unhide HA, unhide HZ]), bl_trans hb hb1⟩
set_option maxHeartbeats 1000000 in
theorem intsCopy_any (x : Value) (l : List Int) (w : World) (hx : Ints w x l) (hn : l.length ≤ 100000) : Calls Try.prog 53 #[x] w fun e w' => ∃ o, e = .returned o ∧ OwI w' w.heap.size o l ∧ Below w.heap.size w w' := by
  obtain ⟨a, ac, rfl, a1, a2⟩ := hx.form
  unfold maxLen at a2
  obtain ⟨i0, hi, hz0, hz1, hz2⟩ := info_parts infoI
  have HX := hide hx
  clear hx
  go_enter Try.func53, Try.ntmps53
  go_wp2
  go_loopw [3, 4] (fun o i wr => ∃ k : Nat, k ≤ l.length ∧ i = .int .i64 k ∧ Below w.heap.size w wr ∧ OwI wr w.heap.size o (l.take k)) (fun _ i _ => l.length - (intOf i).toNat)
  case atStart => exact ⟨0, Nat.zero_le _, rfl, Below.refl _ _, OwI.nil _ _⟩
  case round =>
    obtain ⟨k, hk, rfl, hbq, hO⟩ := hrel
    have HOQ := hide hO
    clear hO
    by_cases hlt : k < l.length
    · obtain ⟨b', o', e', r⟩ := Lst.at (Ints.up hbq (unhide HX)) hlt
      subst e'
      have c0 := r.1
      rw [Nat.mul_one] at c0
      obtain ⟨Z, hZ⟩ : ∃ Z, l.getD k 0 = Z := ⟨_, rfl⟩
      have HZ : Hid (l.take (k + 1) = l.take k ++ [Z]) := by show _ = _; rw [take_next l 0 hlt, hZ]
      rw [hZ] at c0
      have hln : (l.take k).length ≤ 100000 := by rw [List.length_take]; omega
      obtain ⟨Q, hQ⟩ : ∃ Q, l.take k = Q := ⟨_, rfl⟩
      rw [hQ] at HOQ HZ hln
      have hWq := hbq.size
      clear r hZ hQ
      go_wp2_with (first
        | (at_builtin; refine wpList_append_own _ rfl _ _ 33 rfl w.heap.size 3 i0 (.int .i64 0) 1 8 Try.underlying33 hi hz0 hz1 hz2 rfl (by decide) _ _ _ rfl ((unhide HOQ).alloc _) ⟨wr.heap.size, 0, none⟩ 1 1 [.int .i64 Z] rfl rfl (cell_one_new _ _ _) (oneI _) (by unfold maxLen; omega) (by omega) (by simp; omega) ?_; intro v' w1' hown' hgrow hnil)
        | go_in)
      have hb1 := (bl_alloc hbq _).grown hgrow (bl_alloc hbq _).size (fun j hj => own_blk (unhide HOQ) j hj)
      rw [i64s_snoc] at hown'
      clear hgrow hnil
      exact ⟨⟨k + 1, by omega, by go_num, hb1, by rw [unhide HZ]; unfold OwI; rw [List.length_append]; exact hown'⟩, by simp [intOf]; omega⟩
    · have hA : l.take k = l := List.take_of_length_le (by omega)
      have HO2 : Hid (OwI wr w.heap.size u3 l) := by have := unhide HOQ; rwa [hA] at this
      clear hA HOQ
      go_wp2
      go_ret
      exact ⟨_, rfl, unhide HO2, hbq⟩
end Go.Proofs.Ytclnabbojhbmhaa
