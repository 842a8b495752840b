/- A state may be, as the document asks it: plain. -/
import Derived.Test.YtdalkkjojflakaaRfb
import Derived.Test.YtdalkkjojflakaaAlls
namespace Go.Proofs.Ytdalkkjojflakaa
open Go.RowKit Go.Maps
set_option maxRecDepth 100000
set_option linter.unusedVariables false
set_option linter.unusedSimpArgs false
def leS (a b : ByteArray) : Bool := ltS a b || eqS a b
def goneR (l : List Int) (i : Nat) : Bool := inB (l.getD i 0) 0 7 && !(decide (0 < i) && decide (l.getD i 0 ≤ l.getD (i - 1) 0))
def busR (l : List Bu) (i : Nat) : Bool := (worE (l.getD i bu0).nam 8 == 0 && inB (l.getD i bu0).mode 0 2 && rulE (l.getD i bu0).pre (l.getD i bu0).fre (l.getD i bu0).dro == 0) && !(decide (0 < i) && leS (l.getD i bu0).nam (l.getD (i - 1) bu0).nam)
def twoN (x y : Ve) : Bool := x.nul && y.nul && eqS x.bu y.bu && eqS x.ke y.ke
def vesR (S : St) (i : Nat) : Bool := veC S (S.ves.getD i ve0) && !(decide (0 < i) && decide ((S.ves.getD i ve0).id ≤ (S.ves.getD (i - 1) ve0).id)) && allB i (fun k => !twoN (S.ves.getD i ve0) (S.ves.getD k ve0))
def pasR (l : List Pa) (k : Nat) : Bool := paC (l.getD k pa0) && !(decide (0 < k) && decide ((l.getD k pa0).n ≤ (l.getD (k - 1) pa0).n))
def upsR (S : St) (i : Nat) : Bool := namC S (S.ups.getD i up0).id (S.ups.getD i up0).bu (S.ups.getD i up0).ke && !(decide (0 < i) && decide ((S.ups.getD i up0).id ≤ (S.ups.getD (i - 1) up0).id)) && allB (S.ups.getD i up0).parts.length (pasR (S.ups.getD i up0).parts)
def queR (S : St) (i : Nat) : Bool := coldB S (S.que.getD i ak0).ver && askB (S.que.getD i ak0) && allB i (fun j => !((S.que.getD j ak0).ver == (S.que.getD i ak0).ver))
def secR (l : List Int) (i : Nat) : Bool := inB (l.getD i 0) 0 199 && allB i (fun k => !(l.getD i 0 == l.getD k 0))
def stR (S : St) : Bool := (inB S.next 1 1048576 && inB S.clock 0 1073741824 && decide ((S.bus.length : Int) ≤ 4) && decide ((S.ves.length : Int) ≤ 40) && decide ((S.ups.length : Int) ≤ 4) && decide ((S.que.length : Int) ≤ 10)) &&
  (allB S.gone.length (goneR S.gone) && allB S.bus.length (busR S.bus) && allB S.ves.length (vesR S) && allB S.ups.length (upsR S) && allB S.que.length (queR S) && allB (secs S).length (secR (secs S)))
theorem stR_f {S : St} (h : allB S.gone.length (goneR S.gone) = false ∨ allB S.bus.length (busR S.bus) = false ∨ allB S.ves.length (vesR S) = false ∨ allB S.ups.length (upsR S) = false ∨ allB S.que.length (queR S) = false ∨ allB (secs S).length (secR (secs S)) = false) : false = stR S := by
  unfold stR
  rcases h with h | h | h | h | h | h <;> simp [h]
theorem at_gone {S : St} {k : Nat} (hk : k < S.gone.length) (h : goneR S.gone k = false) : false = stR S := stR_f (.inl (allB_f hk h))
theorem at_bus {S : St} {k : Nat} (hk : k < S.bus.length) (h : busR S.bus k = false) : false = stR S := stR_f (.inr (.inl (allB_f hk h)))
theorem at_ves {S : St} {k : Nat} (hk : k < S.ves.length) (h : vesR S k = false) : false = stR S := stR_f (.inr (.inr (.inl (allB_f hk h))))
theorem at_ups {S : St} {k : Nat} (hk : k < S.ups.length) (h : upsR S k = false) : false = stR S := stR_f (.inr (.inr (.inr (.inl (allB_f hk h)))))
theorem at_que {S : St} {k : Nat} (hk : k < S.que.length) (h : queR S k = false) : false = stR S := stR_f (.inr (.inr (.inr (.inr (.inl (allB_f hk h))))))
theorem at_sec {S : St} {k : Nat} (hk : k < (secs S).length) (h : secR (secs S) k = false) : false = stR S := stR_f (.inr (.inr (.inr (.inr (.inr (allB_f hk h))))))
/-- As the code asks of the parts of uploads and of versions. -/
theorem rise_all {n : Nat} {p : Nat → Bool} {lt : Nat → Bool} {le : Nat → Bool} (h : ∀ i, i + 1 < n → lt i = !le (i + 1)) :
    allB n (fun i => p i && !(decide (0 < i) && le i)) = (allB (n - 1) lt && allB n p) := by
  cases e : (allB (n - 1) lt && allB n p)
  · rw [Bool.and_eq_false_iff] at e
    rcases e with e | e
    · obtain ⟨k, hk, hq⟩ : ∃ k, k < n - 1 ∧ lt k = false := by simpa [allB] using e
      have := h k (by omega)
      rw [hq] at this
      exact allB_f (k := k + 1) (by omega) (by have hl : le (k + 1) = true := by simpa using this.symm
                                               simp [hl])
    · obtain ⟨k, hk, hq⟩ : ∃ k, k < n ∧ p k = false := by simpa [allB] using e
      exact allB_f hk (by simp [hq])
  · simp only [Bool.and_eq_true] at e
    refine allB_t fun j hj => ?_
    rw [allB_iff.1 e.2 j hj]
    cases j with
    | zero => simp
    | succ j =>
      have h1 := h j hj
      have h2 := allB_iff.1 e.1 j (by omega)
      rw [h2] at h1
      simp at h1
      simp [h1]
end Go.Proofs.Ytdalkkjojflakaa
