/- New bytes: icehouseref.joined. -/
import Derived.Test.YtjaedigjmgfakaaByt
namespace Go.Proofs.Ytjaedigjmgfakaa
open Go.RowKit
set_option linter.unusedVariables false
set_option linter.unusedSimpArgs false

/-- The slice value v owns the bytes xs, in a block from B on (or it is nil, and there are none). -/
def Own (w : World) (B : Nat) (v : Value) (xs : List Int) : Prop := w.ownsRow B 5 1 v xs.length (u8s xs)
theorem Own.bts {w : World} {B : Nat} {v : Value} {xs : List Int} (h : Own w B v xs) : Bts w v xs := by
  obtain ⟨_, ⟨rfl, h0⟩ | ⟨g, cap, cur, rfl, hB, hg, hn, hm, hs, ht⟩⟩ := h
  · have : xs = [] := List.eq_nil_of_length_eq_zero h0
    subst this
    exact ⟨none, 0, rfl, Nat.le_refl _, Nat.zero_le _, fun i hi => absurd hi (Nat.not_lt_zero _)⟩
  · refine ⟨_, cap, rfl, hn, hm, fun i hi => ⟨g, 0, rfl, ?_⟩⟩
    rw [Nat.zero_add, cell_of_row w g i _ _ _ hg]
    have : (cur.toList.take (xs.length * 1))[i]? = (u8s xs)[i]? := by rw [ht]
    rw [List.getElem?_take, if_pos (by omega)] at this
    simpa [u8s, hi] using this

/-- What has been put together when i lists are through, and k bytes of the next. -/
def upTo (xss : List (List Int)) (i k : Nat) : List Int := (xss.take i).flatten ++ (xss.getD i []).take k
theorem upTo_next {xss : List (List Int)} {i : Nat} (hi : i < xss.length) : upTo xss (i + 1) 0 = upTo xss i (xss.getD i []).length := by
  unfold upTo
  rw [List.take_add_one, List.flatten_append, List.take_length, List.take_zero, List.append_nil, List.getElem?_eq_getElem hi]
  simp [List.getD, List.getElem?_eq_getElem hi]
theorem getD_of_lt (l : List Int) (k : Nat) (h : k < l.length) : l[k] = l.getD k 0 := by simp [List.getD, h]
theorem upTo_step {xss : List (List Int)} {i k : Nat} (hk : k < (xss.getD i []).length) : upTo xss i (k + 1) = upTo xss i k ++ [(xss.getD i []).getD k 0] := by
  unfold upTo
  rw [List.append_assoc, List.take_succ_eq_append_getElem hk]
  congr 2
  exact congrArg (fun z => [z]) (getD_of_lt _ _ hk)
theorem upTo_all (xss : List (List Int)) : upTo xss xss.length 0 = xss.flatten := by simp [upTo]
theorem flat_le {xss : List (List Int)} {i : Nat} (hi : i ≤ xss.length) : (xss.take i).flatten.length ≤ xss.flatten.length := by
  conv => rhs; rw [← List.take_append_drop i xss, List.flatten_append, List.length_append]
  omega
theorem upTo_le {xss : List (List Int)} {i k : Nat} (hi : i < xss.length) (hk : k ≤ (xss.getD i []).length) : (upTo xss i k).length ≤ xss.flatten.length := by
  have h1 : upTo xss (i + 1) 0 = upTo xss i k ++ (xss.getD i []).drop k := by
    rw [upTo_next hi]; unfold upTo; rw [List.append_assoc, List.take_append_drop, List.take_length]
  have h2 : (upTo xss (i + 1) 0).length ≤ xss.flatten.length := by simpa [upTo] using flat_le (xss := xss) (i := i + 1) hi
  rw [h1, List.length_append] at h2
  omega

end Go.Proofs.Ytjaedigjmgfakaa
