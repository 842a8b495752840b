/- New bytes: icehouseref.joined. -/
import Derived.Test.YtdalkkjojflakaaByt
namespace Go.Proofs.Ytdalkkjojflakaa
open Go.RowKit
set_option linter.unusedVariables false
set_option linter.unusedSimpArgs false

/-- The slice value v owns the bytes xs, in a block from B on (or it is nil, and there are none). -/
def Own (w : World) (B : Nat) (v : Value) (xs : List Int) : Prop := w.ownsRow B 5 1 v xs.length (u8s xs)
theorem Own.bts {w : World} {B : Nat} {v : Value} {xs : List Int} (h : Own w B v xs) : Bts w v xs := by
  obtain ⟨_, ⟨rfl, h0⟩ | ⟨g, cap, cur, rfl, hB, hg, hn, hm, hs, ht⟩⟩ := h
  · have : xs = [] := List.eq_nil_of_length_eq_zero h0
    subst this
    exact ⟨none, 0, rfl, Nat.le_refl _, Nat.zero_le _, fun i hi => absurd hi (Nat.not_lt_zero _)⟩
  · refine ⟨_, cap, rfl, hn, hm, fun i hi => ⟨g, 0, rfl, ?_⟩⟩
    rw [Nat.zero_add, cell_of_row w g i _ _ _ hg]
    have : (cur.toList.take (xs.length * 1))[i]? = (u8s xs)[i]? := by rw [ht]
    rw [List.getElem?_take, if_pos (by omega)] at this
    simpa [u8s, hi] using this

/-- What has been put together when i lists are through, and k bytes of the next. -/
def upTo (xss : List (List Int)) (i k : Nat) : List Int := (xss.take i).flatten ++ (xss.getD i []).take k
theorem upTo_next {xss : List (List Int)} {i : Nat} (hi : i < xss.length) : upTo xss (i + 1) 0 = upTo xss i (xss.getD i []).length := by
  unfold upTo
  rw [List.take_add_one, List.flatten_append, List.take_length, List.take_zero, List.append_nil, List.getElem?_eq_getElem hi]
  simp [List.getD, List.getElem?_eq_getElem hi]
theorem getD_of_lt (l : List Int) (k : Nat) (h : k < l.length) : l[k] = l.getD k 0 := by simp [List.getD, h]
theorem upTo_step {xss : List (List Int)} {i k : Nat} (hk : k < (xss.getD i []).length) : upTo xss i (k + 1) = upTo xss i k ++ [(xss.getD i []).getD k 0] := by
  unfold upTo
  rw [List.append_assoc, List.take_succ_eq_append_getElem hk]
  congr 2
  exact congrArg (fun z => [z]) (getD_of_lt _ _ hk)
theorem upTo_all (xss : List (List Int)) : upTo xss xss.length 0 = xss.flatten := by simp [upTo]
theorem flat_le {xss : List (List Int)} {i : Nat} (hi : i ≤ xss.length) : (xss.take i).flatten.length ≤ xss.flatten.length := by
  conv => rhs; rw [← List.take_append_drop i xss, List.flatten_append, List.length_append]
  omega
theorem upTo_le {xss : List (List Int)} {i k : Nat} (hi : i < xss.length) (hk : k ≤ (xss.getD i []).length) : (upTo xss i k).length ≤ xss.flatten.length := by
  have h1 : upTo xss (i + 1) 0 = upTo xss i k ++ (xss.getD i []).drop k := by
    rw [upTo_next hi]; unfold upTo; rw [List.append_assoc, List.take_append_drop, List.take_length]
  have h2 : (upTo xss (i + 1) 0).length ≤ xss.flatten.length := by simpa [upTo] using flat_le (xss := xss) (i := i + 1) hi
  rw [h1, List.length_append] at h2
  omega

set_option maxHeartbeats 1000000 in
set_option maxRecDepth 100000 in
theorem joined_any (v : Value) (xss : List (List Int)) (w : World) (h : RowsAt w v xss) (hfl : xss.flatten.length ≤ 140737488355328) :
    Calls Try.prog 29 #[v] w fun e w' => ∃ u, e = .returned u ∧ Own w' w.heap.size u xss.flatten ∧ Below w.heap.size w w' := by
  obtain ⟨a, cap, rfl, l1, m1, hc⟩ := h
  unfold maxLen at m1
  obtain ⟨i0, hi, hz0, hz1, hz2⟩ := info_parts infoU8
  have HC := hide hc
  clear hc
  go_enter Try.func29, Try.ntmps29
  go_wp2
  go_loopw [3, 4, 5] (fun u i _ wr => ∃ k : Nat, k ≤ xss.length ∧ i = .int .i64 k ∧ Own wr w.heap.size u (upTo xss k 0) ∧ Below w.heap.size w wr) (fun _ i _ _ => xss.length - (intOf i).toNat)
  case atStart => exact ⟨0, Nat.zero_le _, rfl, World.ownsRow_nil _ _ _ _, Below.refl _ _⟩
  case round =>
    obtain ⟨i, hi', rfl, hown, hb⟩ := hrel
    by_cases hlt : i < xss.length
    · obtain ⟨b, o, rfl, x, hx, y, cp, rfl, lx, mx, hy⟩ := unhide HC i hlt
      unfold maxLen at mx
      have HY := hide hy
      have HO := hide hown
      have HXX := hide hx
      obtain ⟨L, hL⟩ : ∃ L : Nat, (xss.getD i []).length = L := ⟨_, rfl⟩
      rw [hL] at hx lx
      have HL := hide hL
      clear hy hown hL HXX
      have HX0 := hide hx
      clear hx
      go_wp2
      go_loopw [3, 5] (fun u j wx => ∃ k : Nat, k ≤ L ∧ j = .int .i64 k ∧ Own wx w.heap.size u (upTo xss i k) ∧ Below w.heap.size w wx) (fun _ j _ => L - (intOf j).toNat)
      case atStart => exact ⟨0, Nat.zero_le _, rfl, unhide HO, hb⟩
      case round =>
        obtain ⟨k, hk, rfl, hown, hb'⟩ := hrel
        have hx' := cell_up hb' (unhide HX0)
        by_cases hkl : k < L
        · have hll : k < (xss.getD i []).length := by rw [unhide HL]; exact hkl
          obtain ⟨b', o', rfl, hcell⟩ := unhide HY k hll
          obtain ⟨z, hz⟩ : ∃ z : Int, (xss.getD i []).getD k 0 = z := ⟨_, rfl⟩
          rw [hz] at hcell
          replace hcell := cell_up hb' hcell
          have hle := upTo_le hlt (Nat.le_of_lt hll)
          have hle' := upTo_le (k := k + 1) hlt (Nat.succ_le_of_lt hll)
          have hst := upTo_step hll
          rw [hz] at hst
          have HST := hide hst
          have HN : Hid ((upTo xss i k).length + 1 ≤ 140737488355328) := by
            have : (upTo xss i (k + 1)).length = (upTo xss i k).length + 1 := by rw [hst]; simp
            show _ ≤ _
            omega
          have hsz := hb'.size
          clear hle hle' hst hz
          obtain ⟨n, hn⟩ : ∃ n, (upTo xss i k).length = n := ⟨_, rfl⟩
          unfold Own at hown
          rw [hn] at hown HN
          have HN' := hide hn
          clear hn
          go_wp2_with (at_builtin; refine wpList_append_own _ rfl (.tmp 21) (.tmp 29) 24 rfl w.heap.size 5 i0 (.int .u8 0) 1 1 Try.underlying24 hi hz0 hz1 hz2 rfl (by decide) _ n (u8s (upTo xss i k)) rfl (hown.alloc _) ⟨wr.heap.size, 0, none⟩ 1 1 [.int .u8 z] rfl rfl ?c1 ?c2 ?c3 ?c4 ?c5 ?_)
          case c1 =>
            intro j u hj
            match j, hj with
            | 0, hj => simp at hj; subst hj; simp [Addr.add]
          case c2 => intro u hu; simp at hu; subst hu; rfl
          case c3 => have := unhide HN; unfold maxLen; omega
          case c4 => have := unhide HN; omega
          case c5 => simp; omega
          intro u' w1 hown' hgrow _
          have hne : ∀ j, u3.ownBlock = some j → w.heap.size ≤ j := fun j hj => (hown.lt j hj).1
          have hb1 : Below w.heap.size w w1 := (bl_alloc hb' _).grown hgrow (by simp; omega) hne
          have HO' : Hid (Own w1 w.heap.size u' (upTo xss i (k + 1))) := by
            have e1 : upTo xss i (k + 1) = upTo xss i k ++ [z] := unhide HST
            show Own _ _ _ _
            unfold Own
            rw [e1, List.length_append, unhide HN']
            simpa [u8s] using hown'
          clear hown' hown HST
          go_wp2
          go_roundw
          case rel => exact ⟨k + 1, by omega, by go_num, unhide HO', hb1⟩
          case measure => simp [intOf]; omega
        · have HO' : Hid (Own wr w.heap.size u3 (upTo xss (i + 1) 0)) := by
            have e : k = (xss.getD i []).length := by rw [unhide HL]; omega
            show Own _ _ _ _
            rw [upTo_next hlt, ← e]; exact hown
          clear hown
          go_wp2
          go_roundw
          case rel => exact ⟨i + 1, by omega, by go_num, unhide HO', hb'⟩
          case measure => simp [intOf]; omega
    · go_wp2
      go_ret
      obtain rfl : i = xss.length := by omega
      rw [upTo_all] at hown
      exact ⟨_, rfl, hown, hb⟩
end Go.Proofs.Ytdalkkjojflakaa
