/- icehousekeep.sectors: the list is of memory of one's own. -/
import Derived.Test.YtbfhkbmcleglaaaGreatG14
import Derived.Test.YtbfhkbmcleglaaaGreatG18
import Derived.Test.YtbfhkbmcleglaaaGreatG11
namespace Go.Proofs.YtbfhkbmcleglaaaGreat
open Go.RowKit Go.Maps
set_option maxRecDepth 100000
set_option linter.unusedVariables false
set_option linter.unusedSimpArgs false
theorem OwI.cut {w : World} {B : Nat} {a : Option Addr} {L cap : Nat} {xs : List Int} (h : OwI w B (.slice a L cap) xs) {k : Nat} (hk : k ≤ L) : OwI w B (.slice a k cap) (xs.take k) := by
  have hl : xs.length = L := by
    rcases h.2 with ⟨e, h0⟩ | ⟨g, c, cur, e, _⟩
    · simp at e; omega
    · simp at e; omega
  subst hl
  have hk2 : (xs.take k).length = k := by simp; omega
  refine ⟨by rw [Nat.mul_one]; exact i64s_length _, ?_⟩
  rcases h.2 with ⟨e, h0⟩ | ⟨g, c, cur, e, hB, hg, hn, hc, hs, ht⟩
  · simp at e
    obtain ⟨rfl, h1, rfl⟩ := e
    refine .inl ⟨?_, by rw [hk2]; omega⟩
    rw [show k = 0 by omega]
  · simp at e
    obtain ⟨rfl, rfl⟩ := e
    refine .inr ⟨g, cap, cur, by rw [hk2], hB, hg, by rw [hk2]; omega, hc, hs, ?_⟩
    rw [hk2, Nat.mul_one]
    rw [Nat.mul_one] at ht
    have : (cur.toList.take xs.length).take k = (i64s xs).take k := by rw [ht]
    rw [List.take_take, Nat.min_eq_left hk] at this
    rw [this]
    unfold i64s
    rw [List.map_take]
theorem sectorsO_any (S : St) (b v u q g : Value) (n : Int) (w : World) (hS : Sta w b v u q g S) (h0 : 0 ≤ n) (h1 : n ≤ 1000000) :
    Calls Tryz.prog 29 #[stV S b v u q g, .int .i64 n] w fun e w' => ∃ a c, e = .returned (.slice a (secF S n).length c) ∧ OwI w' w.heap.size (.slice a (secF S n).length c) (secF S n) ∧ Below w.heap.size w w' := by
  have HS := hide hS
  clear hS
  have hlen : (freL S 200).length ≤ 200 := by
    unfold freL
    split
    · exact freK_len S _
    · simp
  have hsn : 0 ≤ secN n := by unfold secN; split <;> omega
  go_enter Tryz.func29, Tryz.ntmps29
  go_wp2_with fail
  refine (free_any S b v u q g 200 _ ((unhide HS).up (bl1 _ _))).mono ?_
  rintro e w1 ⟨o, rfl, hO, hb⟩
  have hw1 := bl_trans (bl1 w _) hb
  obtain ⟨oa, oc, rfl, ol, om⟩ := (hO.ints (fre_wf S 200)).form
  unfold maxLen at om
  have HI := hide (own_base (B' := w.heap.size) hO (by simp))
  clear hO hb
  obtain ⟨F, hF⟩ : ∃ F, freL S 200 = F := ⟨_, rfl⟩
  have HF : Hid (secF S n = F.take (min (secN n).toNat F.length)) := by show _ = _; unfold secF; rw [hF]
  rw [hF] at HI hlen ol ⊢
  clear hF
  obtain ⟨L, hL⟩ : ∃ L, F.length = L := ⟨_, rfl⟩
  have HI : Hid (OwI w1 w.heap.size (.slice oa F.length oc) F) := unhide HI
  rw [hL] at hlen ol HF ⊢
  have HL := hide hL
  clear hL
  go_wp2_with fail
  refine (sectorsN_any n _ (by omega) (by omega)).mono ?_
  rintro e w2 ⟨rfl, rfl⟩
  obtain ⟨k, hk⟩ := Int.eq_ofNat_of_zero_le hsn
  rw [hk] at HF ⊢
  clear hk hsn
  rw [Int.toNat_natCast] at HF
  by_cases hkl : k ≤ L
  · rw [Nat.min_eq_left (by omega)] at HF
    have hI := hide (OwI.cut (unhide HI) (k := k) (by rw [unhide HL]; omega))
    have hl2 : Hid ((secF S n).length = k) := by show _ = _; rw [unhide HF, List.length_take, unhide HL]; omega
    go_wp2
    go_ret
    exact ⟨oa, oc, by rw [unhide hl2]; rfl, by rw [unhide hl2, unhide HF]; exact unhide hI, hw1⟩
  · rw [Nat.min_eq_right (by omega)] at HF
    have hI := hide (OwI.cut (unhide HI) (k := L) (by rw [unhide HL]; omega))
    have hl2 : Hid ((secF S n).length = L) := by show _ = _; rw [unhide HF, List.length_take, unhide HL]; omega
    go_wp2
    go_ret
    exact ⟨oa, oc, by rw [unhide hl2]; rfl, by rw [unhide hl2, unhide HF]; exact unhide hI, hw1⟩
end Go.Proofs.YtbfhkbmcleglaaaGreat
