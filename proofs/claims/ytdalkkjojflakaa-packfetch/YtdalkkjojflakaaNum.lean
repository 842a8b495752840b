/- Numbers as bytes, the highest first: number.Append, icehouseref.big. -/
import Derived.Test.YtdalkkjojflakaaDvs
import Derived.Test.YtdalkkjojflakaaInB
namespace Go.Proofs.Ytdalkkjojflakaa
open Go.RowKit
set_option linter.unusedVariables false
set_option linter.unusedSimpArgs false

/-- A number as m bytes, the highest first. -/
def be (m : Nat) (n : Int) : List Int := (List.range m).map fun i => n / 2 ^ (8 * (m - 1 - i)) % 256
theorem be_len (m : Nat) (n : Int) : (be m n).length = m := by simp [be]
theorem be_at {m i : Nat} (n : Int) (h : i < m) : (be m n)[i]? = some (n / 2 ^ (8 * (m - 1 - i)) % 256) := by simp [be, h]
theorem be_step {m j : Nat} (n : Int) (h : j < m) : (be m n).take (m - j) = (be m n).take (m - 1 - j) ++ [n / 2 ^ (8 * j) % 256] := by
  have e : m - j = (m - 1 - j) + 1 := by omega
  rw [e, List.take_add_one, be_at n (by omega), show m - 1 - (m - 1 - j) = j by omega]
  rfl

theorem bl_allocB {B : Nat} {a w : World} (hB : B ≤ a.heap.size) (h : Below B a w) (o : Obj) : Below B a (w.alloc o) := h.alloc (Nat.le_trans hB h.size) o

set_option maxHeartbeats 1000000 in
theorem numAppend_any (m : Nat) (n : Int) (B : Nat) (v : Value) (xs : List Int) (w : World) (hv : Own w B v xs) (hB : B ≤ w.heap.size) (hm : m ≤ 8) (hx : xs.length ≤ 100000) :
    Calls Try.prog 49 #[v, .int .i64 n, .int .i64 m] w fun e w' => ∃ u, e = .returned u ∧ Own w' B u (xs ++ be m n) ∧ Below B w w' := by
  obtain ⟨i0, hi, hz0, hz1, hz2⟩ := info_parts infoU8
  obtain ⟨va, vc, rfl, _, _⟩ := own_form hv
  have HV := hide hv
  clear hv
  go_enter Try.func49, Try.ntmps49
  go_wp2
  go_loopw [0, 7] (fun u i wr => ∃ k : Int, -1 ≤ k ∧ k < m ∧ i = .int .i64 k ∧ Own wr B u (xs ++ (be m n).take (m - 1 - k).toNat) ∧ Below B w wr) (fun _ i _ => (intOf i + 1).toNat)
  case atStart => exact ⟨(m : Int) - 1, by omega, by omega, rfl, by simpa using unhide HV, Below.refl _ _⟩
  case round =>
    obtain ⟨k, hk0, hk1, rfl, hown, hb⟩ := hrel
    by_cases hk : 0 ≤ k
    · obtain ⟨j, rfl⟩ := Int.eq_ofNat_of_zero_le hk
      have e1 : ((m : Int) - 1 - j).toNat = m - 1 - j := by omega
      rw [e1] at hown
      obtain ⟨Z, hZ⟩ : ∃ Z, n / 2 ^ (8 * j) % 256 = Z := ⟨_, rfl⟩
      have hst := be_step n (show j < m by omega)
      rw [hZ] at hst
      obtain ⟨N, hN⟩ : ∃ N, (xs ++ (be m n).take (m - 1 - j)).length = N := ⟨_, rfl⟩
      have hNb : N ≤ 100008 := by rw [← hN]; simp [be_len]; omega
      unfold Own at hown
      rw [hN] at hown
      have HN := hide hN
      have HST := hide hst
      have HZ := hide hZ
      clear hN hst hZ e1
      have hsz := hb.size
      go_wp2_with (at_builtin; refine wpList_append_own _ rfl (.tmp 14) (.tmp 20) 24 rfl B 5 i0 (.int .u8 0) 1 1 Try.underlying24 hi hz0 hz1 hz2 rfl (by decide) _ N (u8s (xs ++ (be m n).take (m - 1 - j))) rfl (hown.alloc _) ⟨wr.heap.size, 0, none⟩ 1 1 [.int .u8 (n / 2 ^ (8 * j) % 256)] rfl rfl ?c1 ?c2 ?c3 ?c4 ?c5 ?_)
      case c1 =>
        intro i u hj
        match i, hj with
        | 0, hj => simp at hj; subst hj; simp [Addr.add]
      case c2 => intro u hu; simp at hu; subst hu; rfl
      case c3 => unfold maxLen; omega
      case c4 => omega
      case c5 => simp; omega
      intro u' w1 hown' hgrow _
      have hne : ∀ i, u0.ownBlock = some i → B ≤ i := fun i hi => (hown.lt i hi).1
      have hb1 : Below B w w1 := (bl_allocB hB hb _).grown hgrow (by simp; omega) hne
      have HO' : Hid (Own w1 B u' (xs ++ (be m n).take (m - 1 - ((j : Int) - 1)).toNat)) := by
        have e1 : ((m : Int) - 1 - ((j : Int) - 1)).toNat = m - j := by omega
        show Own _ _ _ _
        unfold Own
        rw [e1, unhide HST, ← List.append_assoc, List.length_append, unhide HN]
        rw [unhide HZ] at hown'
        simpa [u8s] using hown'
      clear hown' hown HST
      go_wp2
      go_roundw
      case rel => exact ⟨(j : Int) - 1, by omega, by omega, by go_num, unhide HO', hb1⟩
      case measure => simp [intOf] <;> omega
    · obtain rfl : k = -1 := by omega
      have e1 : ((m : Int) - 1 - -1).toNat = m := by omega
      rw [e1, List.take_of_length_le (by rw [be_len]; exact Nat.le_refl _)] at hown
      go_wp2
      go_ret
      exact ⟨_, rfl, hown, hb⟩

theorem wrap64_in64 {n : Int} (h0 : 0 ≤ n) (h1 : n < 9223372036854775808) : wrap64 n = n := by unfold wrap64; omega
theorem pow256 (j : Nat) : (2 : Int) ^ (8 * j) = ((256 ^ j : Nat) : Int) := by
  rw [Int.pow_mul]; simp
theorem small256 : ∀ m, m < 5 → ∀ k, k < 5 → 256 ^ (m - 1 - k) ≤ 16777216 := by decide
theorem pow_down {m k : Nat} (h : k + 1 < m) : 256 ^ (m - 1 - k) / 256 = 256 ^ (m - 1 - (k + 1)) := by
  rw [show m - 1 - k = (m - 1 - (k + 1)) + 1 by omega, Nat.pow_succ]
  exact Nat.mul_div_cancel _ (by decide)
theorem pow_up (k : Nat) : 256 ^ k * 256 = 256 ^ (k + 1) := (Nat.pow_succ ..).symm
theorem be_next {m k : Nat} (n : Int) (h : k < m) : (be m n).take (k + 1) = (be m n).take k ++ [n / ((256 ^ (m - 1 - k) : Nat) : Int) % 256] := by
  rw [List.take_add_one, be_at n h, pow256]; rfl

set_option maxHeartbeats 1000000 in
set_option maxRecDepth 100000 in
theorem big_any (m : Nat) (n : Nat) (w : World) (hm : m ≤ 4) (hm0 : 0 < m) (hn : n ≤ 4294967295) :
    Calls Try.prog 50 #[.int .i64 n, .int .i64 m] w fun e w' => ∃ u, e = .returned u ∧ Own w' w.heap.size u (be m n) ∧ Below w.heap.size w w' := by
  obtain ⟨i0, hi, hz0, hz1, hz2⟩ := info_parts infoU8
  go_enter Try.func50, Try.ntmps50
  go_wp2
  go_loopw [6, 7] (fun f i wr => ∃ k : Nat, k < m ∧ i = .int .i64 ((k : Int) + 1) ∧ f = .int .i64 ((256 ^ k : Nat) : Int) ∧ w = wr) (fun _ i _ => m - (intOf i).toNat)
  case atStart => exact ⟨0, hm0, rfl, rfl, rfl⟩
  case round =>
    obtain ⟨k, hk, rfl, rfl, rfl⟩ := hrel
    obtain ⟨F, hF⟩ : ∃ F : Nat, 256 ^ k = F := ⟨_, rfl⟩
    have hFb : F ≤ 16777216 := by
      have := small256 4 (by decide) (3 - k) (by omega)
      rw [show 4 - 1 - (3 - k) = k by omega, hF] at this
      exact this
    rw [hF]
    by_cases hlt : k + 1 < m
    · have HU : Hid (256 ^ (k + 1) = F * 256) := by show _ = _; rw [← hF, pow_up]
      clear hF
      go_wp2
      go_roundw
      case rel => exact ⟨k + 1, hlt, by go_num, by rw [unhide HU]; go_num, trivial⟩
      case measure => simp [intOf] <;> omega
    · have hF0 : 256 ^ (m - 1 - 0) = F := by rw [show m - 1 - 0 = k by omega]; exact hF
      have HF0 := hide hF0
      clear hF hF0
      go_wp2
      go_loopw [5, 6, 8] (fun u f i wx => ∃ j F' : Nat, j ≤ m ∧ i = .int .i64 j ∧ f = .int .i64 F' ∧ F' ≤ 16777216 ∧ (j < m → F' = 256 ^ (m - 1 - j)) ∧ Own wx w.heap.size u ((be m n).take j) ∧ Below w.heap.size w wx) (fun _ _ i _ => m - (intOf i).toNat)
      case atStart => exact ⟨0, F, Nat.zero_le _, rfl, rfl, hFb, fun _ => (unhide HF0).symm, World.ownsRow_nil _ _ _ _, Below.refl _ _⟩
      case round =>
        obtain ⟨j, F', hj, rfl, rfl, hFb', hFj, hown, hb⟩ := hrel
        by_cases hjl : j < m
        · have hF1 := hFj hjl
          have hFp : 0 < F' := by rw [hF1]; exact Nat.pow_pos (by decide)
          have hFz : ¬ F' = 0 := by omega
          have hFz' : ¬ (F' : Int) = 0 := by omega
          have hdn : j + 1 < m → F' / 256 = 256 ^ (m - 1 - (j + 1)) := fun q => by rw [hF1]; exact pow_down q
          have hst := be_next (n := (n : Int)) hjl
          rw [← hF1] at hst
          have HST := hide hst
          have HDN := hide hdn
          obtain ⟨N, hN⟩ : ∃ N, ((be m n).take j).length = N := ⟨_, rfl⟩
          have hNb : N ≤ 4 := by rw [← hN]; simp [be_len]; omega
          unfold Own at hown
          rw [hN] at hown
          have HN := hide hN
          clear hFj hF1 hst hdn hN
          have hsz := hb.size
          go_wp2_with (at_builtin; refine wpList_append_own _ rfl (.tmp 21) (.tmp 27) 24 rfl w.heap.size 5 i0 (.int .u8 0) 1 1 Try.underlying24 hi hz0 hz1 hz2 rfl (by decide) _ N (u8s ((be m n).take j)) rfl (hown.alloc _) ⟨wr.heap.size, 0, none⟩ 1 1 [.int .u8 ((wrap64 ((n : Int) / (F' : Int))).tmod 256 % 256)] rfl rfl ?c1 ?c2 ?c3 ?c4 ?c5 ?_)
          case c1 =>
            intro i u hj
            match i, hj with
            | 0, hj => simp at hj; subst hj; simp [Addr.add]
          case c2 => intro u hu; simp at hu; subst hu; rfl
          case c3 => unfold maxLen; omega
          case c4 => omega
          case c5 => simp; omega
          intro u' w1 hown' hgrow _
          have hne : ∀ i, u5.ownBlock = some i → w.heap.size ≤ i := fun i hi => (hown.lt i hi).1
          have hb1 : Below w.heap.size w w1 := (bl_alloc hb _).grown hgrow (by simp; omega) hne
          have HO' : Hid (Own w1 w.heap.size u' ((be m n).take (j + 1))) := by
            show Own _ _ _ _
            unfold Own
            have hq : (wrap64 ((n : Int) / (F' : Int))).tmod 256 % 256 = (n : Int) / (F' : Int) % 256 := by
              have h1 : (n : Int) / (F' : Int) = ((n / F' : Nat) : Int) := by simp
              have h2 : n / F' ≤ n := Nat.div_le_self _ _
              obtain ⟨q, hq⟩ : ∃ q, n / F' = q := ⟨_, rfl⟩
              rw [hq] at h1 h2
              rw [h1, wrap64_in64 (by omega) (by omega), Int.tmod_eq_emod_of_nonneg (by omega)]
              omega
            rw [unhide HST, List.length_append, unhide HN]
            rw [hq] at hown'
            simpa [u8s] using hown'
          clear hown' hown HST
          go_wp2
          go_roundw
          case rel => exact ⟨j + 1, F' / 256, by omega, by go_num, by go_num, by omega, unhide HDN, unhide HO', hb1⟩
          case measure => simp [intOf] <;> omega
        · obtain rfl : j = m := by omega
          rw [List.take_of_length_le (by rw [be_len]; exact Nat.le_refl _)] at hown
          go_wp2
          go_ret
          exact ⟨_, rfl, hown, hb⟩
end Go.Proofs.Ytdalkkjojflakaa
