/- A state may be, as the document asks it: plain. -/
import Derived.Test.YtdgmdapijhbocaaGreatG5
import Derived.BigQuiet
import Derived.Deep.QuietTactic
import Derived.PlainAid
import Derived.Sort.Walk0
import Derived.Laws.CopyRow
import Derived.Laws.MakeOwn
namespace Go.Proofs.YtdgmdapijhbocaaGreat
open Go.RowKit Go.Maps
set_option maxRecDepth 100000
set_option linter.unusedVariables false
set_option linter.unusedSimpArgs false
def leS (a b : ByteArray) : Bool := ltS a b || eqS a b
def goneR (l : List Int) (i : Nat) : Bool := inB (l.getD i 0) 0 7 && !(decide (0 < i) && decide (l.getD i 0 ≤ l.getD (i - 1) 0))
def busR (l : List Bu) (i : Nat) : Bool := (worE (l.getD i bu0).nam 8 == 0 && inB (l.getD i bu0).mode 0 2 && rulE (l.getD i bu0).pre (l.getD i bu0).fre (l.getD i bu0).dro == 0) && !(decide (0 < i) && leS (l.getD i bu0).nam (l.getD (i - 1) bu0).nam)
def twoN (x y : Ve) : Bool := x.nul && y.nul && eqS x.bu y.bu && eqS x.ke y.ke
def vesR (S : St) (i : Nat) : Bool := veC S (S.ves.getD i ve0) && !(decide (0 < i) && decide ((S.ves.getD i ve0).id ≤ (S.ves.getD (i - 1) ve0).id)) && allB i (fun k => !twoN (S.ves.getD i ve0) (S.ves.getD k ve0))
def pasR (l : List Pa) (k : Nat) : Bool := paC (l.getD k pa0) && !(decide (0 < k) && decide ((l.getD k pa0).n ≤ (l.getD (k - 1) pa0).n))
def upsR (S : St) (i : Nat) : Bool := namC S (S.ups.getD i up0).id (S.ups.getD i up0).bu (S.ups.getD i up0).ke && !(decide (0 < i) && decide ((S.ups.getD i up0).id ≤ (S.ups.getD (i - 1) up0).id)) && allB (S.ups.getD i up0).parts.length (pasR (S.ups.getD i up0).parts)
def queR (S : St) (i : Nat) : Bool := coldB S (S.que.getD i ak0).ver && askB (S.que.getD i ak0) && allB i (fun j => !((S.que.getD j ak0).ver == (S.que.getD i ak0).ver))
def secR (l : List Int) (i : Nat) : Bool := inB (l.getD i 0) 0 199 && allB i (fun k => !(l.getD i 0 == l.getD k 0))
def stR (S : St) : Bool := (inB S.next 1 1048576 && inB S.clock 0 1073741824 && decide ((S.bus.length : Int) ≤ 4) && decide ((S.ves.length : Int) ≤ 40) && decide ((S.ups.length : Int) ≤ 4) && decide ((S.que.length : Int) ≤ 10)) &&
  (allB S.gone.length (goneR S.gone) && allB S.bus.length (busR S.bus) && allB S.ves.length (vesR S) && allB S.ups.length (upsR S) && allB S.que.length (queR S) && allB (secs S).length (secR (secs S)))
theorem stR_f {S : St} (h : allB S.gone.length (goneR S.gone) = false ∨ allB S.bus.length (busR S.bus) = false ∨ allB S.ves.length (vesR S) = false ∨ allB S.ups.length (upsR S) = false ∨ allB S.que.length (queR S) = false ∨ allB (secs S).length (secR (secs S)) = false) : false = stR S := by
  unfold stR
  rcases h with h | h | h | h | h | h <;> simp [h]
theorem at_gone {S : St} {k : Nat} (hk : k < S.gone.length) (h : goneR S.gone k = false) : false = stR S := stR_f (.inl (allB_f hk h))
theorem at_bus {S : St} {k : Nat} (hk : k < S.bus.length) (h : busR S.bus k = false) : false = stR S := stR_f (.inr (.inl (allB_f hk h)))
theorem at_ves {S : St} {k : Nat} (hk : k < S.ves.length) (h : vesR S k = false) : false = stR S := stR_f (.inr (.inr (.inl (allB_f hk h))))
theorem at_ups {S : St} {k : Nat} (hk : k < S.ups.length) (h : upsR S k = false) : false = stR S := stR_f (.inr (.inr (.inr (.inl (allB_f hk h)))))
theorem at_que {S : St} {k : Nat} (hk : k < S.que.length) (h : queR S k = false) : false = stR S := stR_f (.inr (.inr (.inr (.inr (.inl (allB_f hk h))))))
theorem at_sec {S : St} {k : Nat} (hk : k < (secs S).length) (h : secR (secs S) k = false) : false = stR S := stR_f (.inr (.inr (.inr (.inr (.inr (allB_f hk h))))))
/-- As the code asks of the parts of uploads and of versions. -/
theorem rise_all {n : Nat} {p : Nat → Bool} {lt : Nat → Bool} {le : Nat → Bool} (h : ∀ i, i + 1 < n → lt i = !le (i + 1)) :
    allB n (fun i => p i && !(decide (0 < i) && le i)) = (allB (n - 1) lt && allB n p) := by
  cases e : (allB (n - 1) lt && allB n p)
  · rw [Bool.and_eq_false_iff] at e
    rcases e with e | e
    · obtain ⟨k, hk, hq⟩ : ∃ k, k < n - 1 ∧ lt k = false := by simpa [allB] using e
      have := h k (by omega)
      rw [hq] at this
      exact allB_f (k := k + 1) (by omega) (by have hl : le (k + 1) = true := by simpa using this.symm
                                               simp [hl])
    · obtain ⟨k, hk, hq⟩ : ∃ k, k < n ∧ p k = false := by simpa [allB] using e
      exact allB_f hk (by simp [hq])
  · simp only [Bool.and_eq_true] at e
    refine allB_t fun j hj => ?_
    rw [allB_iff.1 e.2 j hj]
    cases j with
    | zero => simp
    | succ j =>
      have h1 := h j hj
      have h2 := allB_iff.1 e.1 j (by omega)
      rw [h2] at h1
      simp at h1
      simp [h1]
end Go.Proofs.YtdgmdapijhbocaaGreat

/- A state may be as the document asks it just if it may be as the code asks it. -/
namespace Go.Proofs.YtdgmdapijhbocaaGreat
open Go.RowKit Go.Maps
set_option maxRecDepth 100000
set_option linter.unusedVariables false
set_option linter.unusedSimpArgs false
theorem less_or : ∀ x y : List UInt8, Op.bytesLess x y = !(Op.bytesLess y x || y == x)
  | [], [] => by simp [Op.bytesLess]
  | [], _ :: _ => by simp [Op.bytesLess]
  | _ :: _, [] => by simp [Op.bytesLess]
  | a :: x, b :: y => by
    have ih := less_or x y
    simp only [Op.bytesLess]
    rcases Nat.lt_trichotomy a.toNat b.toNat with h | h | h
    · have h1 : a < b := UInt8.lt_iff_toNat_lt.2 h
      have h2 : ¬ b < a := fun k => by have := UInt8.lt_iff_toNat_lt.1 k; omega
      have h3 : b ≠ a := fun e => by subst e; omega
      simp [h1, h2, h3]
    · have e : a = b := UInt8.toNat_inj.1 h
      subst e
      have h2 : ¬ a < a := fun k => by have := UInt8.lt_iff_toNat_lt.1 k; omega
      simp [h2, ih]
    · have h1 : b < a := UInt8.lt_iff_toNat_lt.2 h
      have h2 : ¬ a < b := fun k => by have := UInt8.lt_iff_toNat_lt.1 k; omega
      have h3 : a ≠ b := fun e => by subst e; omega
      simp [h1, h2, h3]
theorem ltS_leS (a b : ByteArray) : ltS a b = !leS b a := less_or _ _
theorem toList_data (a : ByteArray) : a.toList = a.data.toList := ByteArray.toList_eq a
theorem eqS_iff (a b : ByteArray) : eqS a b = true ↔ a = b := by
  unfold eqS
  rw [beq_iff_eq, toList_data, toList_data]
  constructor
  · intro h
    cases a
    cases b
    simp only [Array.toList_inj] at h
    rw [h]
  · intro h
    rw [h]
theorem rise_lo {f : Nat → Int} {n : Nat} {lo : Int} (h1 : ∀ i, i + 1 < n → f i < f (i + 1)) (h0 : 0 < n → lo ≤ f 0) : ∀ i, i < n → lo + i ≤ f i
  | 0, hi => by have := h0 (by omega); simpa using this
  | i + 1, hi => by
    have := rise_lo h1 h0 i (by omega)
    have := h1 i hi
    omega
theorem rise_len {f : Nat → Int} {n : Nat} {lo hi : Int} (h1 : ∀ i, i + 1 < n → f i < f (i + 1)) (h2 : ∀ i, i < n → lo ≤ f i ∧ f i ≤ hi) (h3 : lo ≤ hi + 1) : (n : Int) ≤ hi - lo + 1 := by
  cases n with
  | zero => simp; omega
  | succ n =>
    have := rise_lo h1 (fun _ => (h2 0 (by omega)).1) n (by omega)
    have := (h2 n (by omega)).2
    omega
theorem dec_lt (a b : Int) : decide (a < b) = !decide (b ≤ a) := by
  by_cases h : a < b
  · rw [decide_eq_true h, decide_eq_false (by omega)]; rfl
  · rw [decide_eq_false h, decide_eq_true (by omega)]; rfl
theorem gone_eq (l : List Int) : allB l.length (goneR l) = goneC l := by
  have h := rise_all (n := l.length) (p := goneQ l) (lt := goneP l) (le := fun i => decide (l.getD i 0 ≤ l.getD (i - 1) 0)) (fun i _ => dec_lt _ _)
  rw [show allB l.length (goneR l) = allB l.length (fun i => goneQ l i && !(decide (0 < i) && decide (l.getD i 0 ≤ l.getD (i - 1) 0))) from rfl, h]
  unfold goneC
  cases e : (allB (l.length - 1) (goneP l) && allB l.length (goneQ l))
  · rw [Bool.and_assoc, e]; simp
  · rw [Bool.and_assoc, e]
    simp only [Bool.and_eq_true] at e
    have := rise_len (f := fun i => l.getD i 0) (n := l.length) (lo := 0) (hi := 7) (fun i hi => by simpa [goneP] using allB_iff.1 e.1 i (by omega)) (fun i hi => inB_t (allB_iff.1 e.2 i hi)) (by omega)
    simp
    omega
theorem bus_eq (l : List Bu) : (decide ((l.length : Int) ≤ 4) && allB l.length (busR l)) = busC l := by
  have h := rise_all (n := l.length) (p := busQ l) (lt := busP l) (le := fun i => leS (l.getD i bu0).nam (l.getD (i - 1) bu0).nam) (fun i _ => ltS_leS _ _)
  have e : allB l.length (busR l) = allB l.length (fun i => busQ l i && !(decide (0 < i) && leS (l.getD i bu0).nam (l.getD (i - 1) bu0).nam)) := allB_congr fun i _ => by
    unfold busR busQ buC
    rw [Bool.and_assoc (worE _ 8 == 0), Bool.and_comm (inB _ 0 2), ← Bool.and_assoc]
  rw [e, h]
  unfold busC
  rw [Bool.and_assoc]
theorem allB_and (n : Nat) (p q : Nat → Bool) : allB n (fun i => p i && q i) = (allB n p && allB n q) := by
  rw [Bool.eq_iff_iff, Bool.and_eq_true, allB_iff, allB_iff, allB_iff]
  simp only [Bool.and_eq_true]
  exact ⟨fun h => ⟨fun j hj => (h j hj).1, fun j hj => (h j hj).2⟩, fun h j hj => ⟨h.1 j hj, h.2 j hj⟩⟩
theorem pas_eq (l : List Pa) : allB l.length (pasR l) = pasC l := by
  have h := rise_all (n := l.length) (p := pasQ l) (lt := pasP l) (le := fun i => decide ((l.getD i pa0).n ≤ (l.getD (i - 1) pa0).n)) (fun i _ => dec_lt _ _)
  rw [show allB l.length (pasR l) = allB l.length (fun i => pasQ l i && !(decide (0 < i) && decide ((l.getD i pa0).n ≤ (l.getD (i - 1) pa0).n))) from rfl, h]
  unfold pasC
  cases e : (allB (l.length - 1) (pasP l) && allB l.length (pasQ l))
  · rw [Bool.and_assoc, e]; simp
  · rw [Bool.and_assoc, e]
    simp only [Bool.and_eq_true] at e
    have := rise_len (f := fun i => (l.getD i pa0).n) (n := l.length) (lo := 1) (hi := 5) (fun i hi => by simpa [pasP] using allB_iff.1 e.1 i (by omega)) (fun i hi => by
      have := allB_iff.1 e.2 i hi
      unfold pasQ paC at this
      simp only [Bool.and_eq_true] at this
      exact inB_t this.1.1) (by omega)
    simp
    omega
theorem ups_eq (S : St) : (decide ((S.ups.length : Int) ≤ 4) && allB S.ups.length (upsR S)) = upsC S := by
  have h := rise_all (n := S.ups.length) (p := upsQ S) (lt := upsP S.ups) (le := fun i => decide ((S.ups.getD i up0).id ≤ (S.ups.getD (i - 1) up0).id)) (fun i _ => dec_lt _ _)
  have e : allB S.ups.length (upsR S) = allB S.ups.length (fun i => upsQ S i && !(decide (0 < i) && decide ((S.ups.getD i up0).id ≤ (S.ups.getD (i - 1) up0).id))) := allB_congr fun i _ => by
    unfold upsR upsQ upC
    rw [pas_eq, Bool.and_assoc, Bool.and_assoc, Bool.and_comm (pasC _)]
  rw [e, h]
  unfold upsC
  rw [Bool.and_assoc]
theorem nul_eq (l : List Ve) {k : Nat} (hk : k < l.length) : allB k (fun j => !twoN (l.getD k ve0) (l.getD j ve0)) = nulQ l k := by
  obtain ⟨X, hX⟩ : ∃ X, l.getD k ve0 = X := ⟨_, rfl⟩
  unfold nulQ
  rw [hX]
  cases hn : X.nul
  · rw [Bool.not_false, Bool.true_or]
    exact allB_t fun j _ => by simp [twoN, hn]
  · rw [Bool.not_true, Bool.false_or, Bool.eq_iff_iff, allB_iff, beq_iff_eq]
    have e : (∀ j, j < k → (!twoN X (l.getD j ve0)) = true) ↔ nulF l k X.bu X.ke = 0 := by
      unfold nulF
      rw [List.countP_eq_zero]
      constructor
      · intro h v hv
        obtain ⟨j, hj, e⟩ := mem_at (d := ve0) hv
        rw [List.length_take] at hj
        have hg : (l.take k).getD j ve0 = l.getD j ve0 := by simp [List.getD, List.getElem?_take, show j < k by omega]
        rw [hg] at e
        have := h j (by omega)
        rw [e] at this
        intro hc
        simp only [Bool.and_eq_true, decide_eq_true_eq] at hc
        have h1 : twoN X v = true := by
          unfold twoN
          rw [hn, hc.1.1, (eqS_iff X.bu v.bu).2 hc.1.2.symm, (eqS_iff X.ke v.ke).2 hc.2.symm]
          rfl
        rw [h1] at this
        cases this
      · intro h j hj
        have hm : l.getD j ve0 ∈ l.take k := by
          rw [List.getD, List.getElem?_eq_getElem (by omega)]
          exact List.mem_take_iff_getElem.2 ⟨j, by omega, rfl⟩
        have := h _ hm
        cases ht : twoN X (l.getD j ve0)
        · rfl
        · unfold twoN at ht
          simp only [Bool.and_eq_true] at ht
          refine absurd ?_ this
          simp only [Bool.and_eq_true, decide_eq_true_eq]
          exact ⟨⟨ht.1.1.2, ((eqS_iff _ _).1 ht.1.2).symm⟩, ((eqS_iff _ _).1 ht.2).symm⟩
    rw [e]
    omega
theorem ves_eq (S : St) : (decide ((S.ves.length : Int) ≤ 40) && allB S.ves.length (vesR S)) = vesC S := by
  have h := rise_all (n := S.ves.length) (p := vesQ S) (lt := vesP S.ves) (le := fun i => decide ((S.ves.getD i ve0).id ≤ (S.ves.getD (i - 1) ve0).id)) (fun i _ => dec_lt _ _)
  have e : allB S.ves.length (vesR S) = allB S.ves.length (fun i => (vesQ S i && !(decide (0 < i) && decide ((S.ves.getD i ve0).id ≤ (S.ves.getD (i - 1) ve0).id))) && nulQ S.ves i) := allB_congr fun i hi => by
    unfold vesR vesQ
    rw [nul_eq S.ves hi]
  rw [e, allB_and, h]
  unfold vesC nulC
  rw [Bool.and_assoc, Bool.and_assoc, Bool.and_assoc]
theorem que_eq (S : St) : (decide ((S.que.length : Int) ≤ 10) && allB S.que.length (queR S)) = queC S := by
  have e : allB S.que.length (queR S) = allB S.que.length (queQ S) := allB_congr fun i hi => by
    unfold queR queQ queB
    obtain ⟨X, hX⟩ : ∃ X, S.que.getD i ak0 = X := ⟨_, rfl⟩
    rw [hX]
    have hc : allB i (fun j => !((S.que.getD j ak0).ver == X.ver)) = (((vers S i ++ [X.ver]).count X.ver : Int) == 1) := by
      rw [Bool.eq_iff_iff, allB_iff, beq_iff_eq, List.count_append, List.count_singleton_self]
      have e : (∀ j, j < i → (!((S.que.getD j ak0).ver == X.ver)) = true) ↔ (vers S i).count X.ver = 0 := by
        rw [List.count_eq_zero]
        unfold vers
        constructor
        · intro h hm
          obtain ⟨v, hv, e⟩ := List.mem_map.1 hm
          obtain ⟨j, hj, e2⟩ := mem_at (d := ak0) hv
          rw [List.length_take] at hj
          have hg : (S.que.take i).getD j ak0 = S.que.getD j ak0 := by simp [List.getD, List.getElem?_take, show j < i by omega]
          rw [hg] at e2
          have := h j (by omega)
          rw [e2, e] at this
          simp at this
        · intro h j hj
          cases ht : ((S.que.getD j ak0).ver == X.ver)
          · rfl
          · refine absurd (List.mem_map.2 ⟨S.que.getD j ak0, ?_, by simpa using ht⟩) h
            rw [List.getD, List.getElem?_eq_getElem (by omega)]
            exact List.mem_take_iff_getElem.2 ⟨j, by omega, rfl⟩
      rw [e]
      omega
    rw [hc, Bool.and_assoc, Bool.and_comm (askB X), ← Bool.and_assoc]
  rw [e]
  rfl
theorem sec_eq (S : St) : allB (secs S).length (secR (secs S)) = secC S := by
  unfold secC
  obtain ⟨l, hl⟩ : ∃ l, secs S = l := ⟨_, rfl⟩
  rw [hl]
  have h1 : l.all (fun x => inB x 0 199 && (l.count x : Int) == 1) = (allB l.length (fun i => inB (l.getD i 0) 0 199) && allB l.length (fun i => (l.count (l.getD i 0) : Int) == 1)) := by
    rw [← allB_and, ← allB_all (fun x => inB x 0 199 && (l.count x : Int) == 1) 0]
  have h2 : allB l.length (secR l) = (allB l.length (fun i => inB (l.getD i 0) 0 199) && allB l.length (fun i => allB i (fun k => !(l.getD i 0 == l.getD k 0)))) := by
    rw [← allB_and]; rfl
  rw [h1, h2]
  congr 1
  rw [Bool.eq_iff_iff, allB_iff, allB_iff]
  have hnd : l.Nodup ↔ ∀ i, i < l.length → allB i (fun k => !(l.getD i 0 == l.getD k 0)) = true := by
    show l.Pairwise (· ≠ ·) ↔ _
    rw [List.pairwise_iff_getElem]
    constructor
    · intro h i hi
      refine allB_t fun k hk => ?_
      have := h k i (by omega) hi hk
      simp [List.getD, hi, show k < l.length by omega]
      exact fun e => this e.symm
    · intro h i j hi hj hij
      have := allB_iff.1 (h j hj) i hij
      simp [List.getD, hj, hi] at this
      exact fun e => this e.symm
  constructor
  · intro h i hi
    have hn := hnd.2 h
    have hm : l.getD i 0 ∈ l := by simp [List.getD, hi]
    have h1 := List.nodup_iff_count.1 hn (l.getD i 0)
    have h2 := List.count_pos_iff.2 hm
    rw [beq_iff_eq]
    omega
  · intro h
    refine hnd.1 (List.nodup_iff_count.2 fun x => ?_)
    by_cases hm : x ∈ l
    · obtain ⟨k, hk, e⟩ := mem_at (d := 0) hm
      have := h k hk
      rw [e, beq_iff_eq] at this
      omega
    · rw [List.count_eq_zero.2 hm]; omega
theorem st_eq (S : St) : stR S = stC S := by
  unfold stR stC
  rw [← gone_eq, ← bus_eq, ← ves_eq, ← ups_eq, ← que_eq, ← sec_eq]
  simp only [Bool.and_assoc, Bool.and_left_comm, Bool.and_comm]
end Go.Proofs.YtdgmdapijhbocaaGreat

/- state.Free, the document's FreeOf, and lists of numbers that are held against each other. -/
namespace Go.Proofs.YtdgmdapijhbocaaGreat
open Go.RowKit Go.Maps
set_option maxRecDepth 100000
set_option linter.unusedVariables false
set_option linter.unusedSimpArgs false
theorem ret_tup {o : Value} {a b : Int} (h : a = b) : Ending.returned (.tuple #[o, .int .i64 a]) = .returned (.tuple #[o, .int .i64 b]) := by rw [h]
def freK (S : St) (k : Nat) : List Int := ((List.range k).map (fun n : Nat => (n : Int))).filter (fun x => decide ((secs S).count x = 0))
theorem freK_yes {S : St} {k : Nat} (h : (secs S).count (k : Int) = 0) : freK S (k + 1) = freK S k ++ [(k : Int)] := by
  unfold freK
  rw [List.range_succ, List.map_append, List.filter_append]
  simp [h]
theorem freK_no {S : St} {k : Nat} (h : (secs S).count (k : Int) ≠ 0) : freK S (k + 1) = freK S k := by
  unfold freK
  rw [List.range_succ, List.map_append, List.filter_append]
  simp [h]
theorem freK_len (S : St) (k : Nat) : (freK S k).length ≤ k := by
  unfold freK
  have := List.length_filter_le (fun x => decide ((secs S).count x = 0)) ((List.range k).map (fun n : Nat => (n : Int)))
  simpa using this
theorem freK_wf {S : St} {k : Nat} (hk : k ≤ 1000) : ∀ x ∈ freK S k, (Lit.int .i64 x).wf = true := by
  intro x hx
  unfold freK at hx
  obtain ⟨n, hn, rfl⟩ := List.mem_map.1 (List.mem_filter.1 hx).1
  have := List.mem_range.1 hn
  exact wfNat (by omega)
def freE (S : St) (m : Int) : Int := if stC S then (if inB m 0 200 then 0 else 2) else 9
def freL (S : St) (m : Int) : List Int := if freE S m = 0 then freK S m.toNat else []
theorem freE_9 {S : St} {m : Int} (h : stC S = false) : freE S m = 9 ∧ freL S m = [] := by simp [freE, freL, h]
theorem freE_2 {S : St} {m : Int} (h : stC S = true) (h2 : inB m 0 200 = false) : freE S m = 2 ∧ freL S m = [] := by simp [freE, freL, h, h2]
theorem freE_0 {S : St} {m : Nat} (h : stC S = true) (h2 : inB (m : Int) 0 200 = true) : freE S m = 0 ∧ freL S m = freK S m := by simp [freE, freL, h, h2]
theorem stC_secs {S : St} (h : stC S = true) : (secs S).length ≤ 1000 := by
  unfold stC at h
  simp only [Bool.and_eq_true] at h
  exact secs_le h.1.1.1.2 h.1.1.2
set_option maxHeartbeats 2000000 in
theorem free_any (S : St) (b v u q g : Value) (m : Int) (w : World) (hS : Sta w b v u q g S) :
    Calls Tryz.prog 14 #[stV S b v u q g, .int .i64 m] w fun e w' => ∃ o, e = .returned (.tuple #[o, .int .i64 (freE S m)]) ∧ OwI w' w.heap.size o (freL S m) ∧ Below w.heap.size w w' := by
  have HS := hide hS
  clear hS
  obtain ⟨i0, hi, hz0, hz1, hz2⟩ := info_parts infoI
  obtain ⟨E, hE⟩ : ∃ E, freE S m = E := ⟨_, rfl⟩
  obtain ⟨L, hL⟩ : ∃ L, freL S m = L := ⟨_, rfl⟩
  rw [hE, hL]
  have HE := hide hE
  have HL := hide hL
  clear hE hL
  go_enter Tryz.func14, Tryz.ntmps14
  go_wp2_with fail
  refine (check_any S b v u q g _ ((unhide HS).up (bl1 _ _))).mono ?_
  rintro e w1 ⟨rfl, hb⟩
  have hX := (BoxS.new w S b v u q g 29).up hb
  have hw1 := bl_trans (bl1 w _) hb
  have x0 := hX.c0
  have x1 := hX.c1
  have x2 := hX.c2
  have x3 := hX.c3
  have x4 := hX.c4
  have x5 := hX.c5
  have x6 := hX.c6
  clear hX hb
  obtain ⟨F, hF⟩ : ∃ F, stE S = F := ⟨_, rfl⟩
  rw [hF]
  have HF := hide hF
  clear hF
  cases hc : stC S
  · obtain ⟨k1, k2⟩ := freE_9 (m := m) hc
    have hf : F = 9 := by rw [← unhide HF]; exact stE_f hc
    have HE' : Hid (E = 9) := by rw [← unhide HE]; exact k1
    have HL' : Hid (L = []) := by rw [← unhide HL]; exact k2
    clear k1 k2 hc
    subst hf
    go_wp2
    go_ret2
    exact ⟨_, ret_tup (unhide HE').symm, by rw [unhide HL']; exact OwI.nil _ _, hw1⟩
  have hf : F = 0 := by rw [← unhide HF]; exact stE_t hc
  have hsl := stC_secs hc
  have HC := hide hc
  clear hc
  subst hf
  go_wp2_with fail
  refine (within_any _ _ _ _).mono ?_
  rintro e w2 ⟨rfl, rfl⟩
  cases h2 : inB m 0 200
  · obtain ⟨k1, k2⟩ := freE_2 (unhide HC) h2
    have HE' : Hid (E = 2) := by rw [← unhide HE]; exact k1
    have HL' : Hid (L = []) := by rw [← unhide HL]; exact k2
    clear k1 k2 h2
    go_wp2
    go_ret2
    exact ⟨_, ret_tup (unhide HE').symm, by rw [unhide HL']; exact OwI.nil _ _, hw1⟩
  obtain ⟨m0, m1⟩ := inB_t h2
  obtain ⟨n, rfl⟩ := Int.eq_ofNat_of_zero_le m0
  obtain ⟨k1, k2⟩ := freE_0 (unhide HC) h2
  have HE' : Hid (E = 0) := by rw [← unhide HE]; exact k1
  have HL' : Hid (L = freK S n) := by rw [← unhide HL]; exact k2
  clear k1 k2 h2
  go_wp2_with fail
  refine (takersOf_any S b v u q g _ ((unhide HS).up hw1) (by omega)).mono ?_
  rintro e W ⟨M, rfl, hle, hC, hbt⟩
  have HCN := hide hC
  have hwW := bl_trans hw1 hbt
  clear hC hbt x0 x1 x2 x3 x4 x5 x6
  go_wp2
  go_loopw [7, 9, 21] (fun o _ i wr => ∃ k : Nat, k ≤ n ∧ i = .int .i64 k ∧ Below W.heap.size W wr ∧ OwI wr W.heap.size o (freK S k)) (fun _ _ i _ => n - (intOf i).toNat)
  case atStart => exact ⟨0, Nat.zero_le _, rfl, Below.refl _ _, OwI.nil _ _⟩
  case round =>
    obtain ⟨k, hk, rfl, hbq, hO⟩ := hrel
    have HOQ := hide hO
    clear hO
    by_cases hlt : k < n
    · have hlk := ((unhide HCN).up hbq).look (x := (k : Int)) (wfNat (by omega))
      obtain ⟨c, hcc⟩ : ∃ c : Nat, (secs S).count (k : Int) = c := ⟨_, rfl⟩
      rw [hcc] at hlk
      have hln := freK_len S k
      have hWq := hbq.size
      by_cases h0 : c = 0
      · have HZ : Hid (freK S (k + 1) = freK S k ++ [(k : Int)]) := freK_yes (hcc.trans h0)
        clear hcc
        subst h0
        obtain ⟨Q, hQ⟩ : ∃ Q, freK S k = Q := ⟨_, rfl⟩
        rw [hQ] at HOQ HZ hln
        clear hQ
        go_wp2_with (first
          | (at_builtin; refine wpList_append_own _ rfl _ _ 27 rfl W.heap.size 3 i0 (.int .i64 0) 1 8 Tryz.underlying27 hi hz0 hz1 hz2 rfl (by decide) _ _ _ rfl ((unhide HOQ).alloc _) ⟨wr.heap.size, 0, none⟩ 1 1 [.int .i64 (k : Int)] rfl rfl (cell_one_new _ _ _) (oneI _) (by unfold maxLen; omega) (by omega) (by simp; omega) ?_; intro v' w1' hown' hgrow hnil)
          | go_in)
        have hb1 := (bl_alloc hbq _).grown hgrow (bl_alloc hbq _).size (fun j hj => own_blk (unhide HOQ) j hj)
        rw [i64s_snoc] at hown'
        clear hgrow hnil
        exact ⟨⟨k + 1, by omega, by go_num, hb1, by rw [unhide HZ]; unfold OwI; rw [List.length_append]; exact hown'⟩, by simp [intOf]; omega⟩
      · have HZ : Hid (freK S (k + 1) = freK S k) := freK_no (by rw [hcc]; exact h0)
        have hc0 : ((c : Int) == 0) = false := by simp; omega
        clear hcc
        go_wp2
        go_roundw
        case rel => exact ⟨k + 1, by omega, by go_num, hbq, by rw [unhide HZ]; exact unhide HOQ⟩
        case measure => (simp [intOf] <;> omega)
    · obtain rfl : k = n := by omega
      go_wp2
      go_ret2
      exact ⟨_, ret_tup (unhide HE').symm, by rw [unhide HL']; exact own_lo (unhide HOQ) hwW.size, bl_trans hwW hbq⟩
end Go.Proofs.YtdgmdapijhbocaaGreat

/- tier's closures: what a rule is for; versions on tape. -/
namespace Go.Proofs.YtdgmdapijhbocaaGreat
open Go.RowKit Go.Maps
set_option maxRecDepth 100000
set_option linter.unusedVariables false
set_option linter.unusedSimpArgs false
/-- Does a text begin with another? -/
def pfB (s t : ByteArray) : Bool := if t.size ≤ s.size then (s.extract 0 t.size).toList == t.toList else false
theorem pfxL_any (s t : ByteArray) (w : World) (hs : s.size ≤ maxLen) (ht : t.size ≤ maxLen) :
    Calls Tryz.prog 153 #[.string s, .string t] w fun e w' => e = .returned (.bool (pfB s t)) ∧ w = w' := by
  unfold maxLen at hs ht
  have HP : Hid (pfB s t = if t.size ≤ s.size then (s.extract 0 t.size).toList == t.toList else false) := rfl
  obtain ⟨N, hN⟩ : ∃ N, s.size = N := ⟨_, rfl⟩
  obtain ⟨M, hM⟩ : ∃ M, t.size = M := ⟨_, rfl⟩
  rw [hN] at hs
  rw [hM] at ht
  by_cases h : M ≤ N
  · have HP' : Hid (pfB s t = ((s.extract 0 M).toList == t.toList)) := by show _ = _; rw [unhide HP, hN, hM, if_pos h]
    go_enter Tryz.func153, Tryz.ntmps153
    go_wp2
    go_ret
    exact ⟨ret_bool (unhide HP').symm, rfl⟩
  · have HP' : Hid (pfB s t = false) := by show _ = _; rw [unhide HP, hN, hM, if_neg h]
    go_enter Tryz.func153, Tryz.ntmps153
    go_wp2
    go_ret
    exact ⟨ret_bool (unhide HP').symm, rfl⟩
theorem prefix_any (s t : ByteArray) (w : World) (hs : s.size ≤ maxLen) (ht : t.size ≤ maxLen) :
    Calls Tryz.prog 106 #[.string s, .string t] w fun e w' => e = .returned (.bool (pfB s t)) ∧ w = w' := by
  have HS := hide hs
  have HT := hide ht
  clear hs ht
  go_enter Tryz.func106, Tryz.ntmps106
  go_wp2_with fail
  refine (pfxL_any s t _ (unhide HS) (unhide HT)).mono ?_
  rintro e w1 ⟨rfl, rfl⟩
  go_wp2
  go_ret
  exact ⟨rfl, rfl⟩
def ageN (dr : Bool) (Y : Bu) : Int := if dr then Y.dro else Y.fre
/-- Is a rule's number for a version? -/
def ageP (S : St) (X : Ve) (dr : Bool) (Y : Bu) : Bool := ((eqS Y.nam X.bu && decide (0 ≤ ageN dr Y)) && pfB X.ke Y.pre) && decide (ageN dr Y ≤ S.clock - X.time)
structure BoxV (w : World) (B : Nat) (X : Ve) (u : Value) : Prop where
  c0 : w.cell? ⟨B, 0, none⟩ = some (.int .i64 X.id)
  c1 : w.cell? ⟨B, 1, none⟩ = some (.string X.bu)
  c2 : w.cell? ⟨B, 2, none⟩ = some (.string X.ke)
  c3 : w.cell? ⟨B, 3, none⟩ = some (.bool X.nul)
  c4 : w.cell? ⟨B, 4, none⟩ = some (.bool X.mar)
  c5 : w.cell? ⟨B, 5, none⟩ = some (.int .i64 X.size)
  c6 : w.cell? ⟨B, 6, none⟩ = some (.int .i64 X.time)
  c7 : w.cell? ⟨B, 7, none⟩ = some (.int .i64 X.tier)
  c8 : w.cell? ⟨B, 8, none⟩ = some u
  c9 : w.cell? ⟨B, 9, none⟩ = some (.int .i64 X.vol)
  c10 : w.cell? ⟨B, 10, none⟩ = some (.int .i64 X.pos)
  c11 : w.cell? ⟨B, 11, none⟩ = some (.int .i64 X.til)
theorem BoxV.up {w w' : World} {B : Nat} {X : Ve} {u : Value} (h : BoxV w B X u) (hb : Below w.heap.size w w') : BoxV w' B X u := ⟨scell_up hb h.c0, scell_up hb h.c1, scell_up hb h.c2, scell_up hb h.c3, scell_up hb h.c4, scell_up hb h.c5, scell_up hb h.c6, scell_up hb h.c7, scell_up hb h.c8, scell_up hb h.c9, scell_up hb h.c10, scell_up hb h.c11⟩
theorem BoxV.lt {w : World} {B : Nat} {X : Ve} {u : Value} (h : BoxV w B X u) : B < w.heap.size := World.block_lt_of_cell? w _ h.c0
abbrev veB (X : Ve) (o : Value) : Array Value := #[.int .i64 X.id, .string X.bu, .string X.ke, .bool X.nul, .bool X.mar, .int .i64 X.size, .int .i64 X.time, .int .i64 X.tier, o, .int .i64 X.vol, .int .i64 X.pos, .int .i64 X.til]
theorem BoxV.new (w : World) (X : Ve) (u : Value) (t : TypeId) : BoxV (w.alloc (.cells (veB X u) t)) w.heap.size X u := by
  constructor <;> (rw [World.cell?_alloc_at _ _ _ _ rfl]; rfl)
theorem BoxV.at (w : World) (X : Ve) (u : Value) (t : TypeId) {B : Nat} (hB : B = w.heap.size) : BoxV (w.alloc (.cells (veB X u) t)) B X u := by subst hB; exact BoxV.new w X u t
theorem tnum_fre (Y : Bu) (w : World) : Calls Tryz.prog 49 #[.agg #[.string Y.pre, .int .i64 Y.fre, .int .i64 Y.dro]] w fun e w' => e = .returned (.int .i64 (ageN false Y)) ∧ Below w.heap.size w w' := by
  go_enter Tryz.func49, Tryz.ntmps49
  go_wp2
  go_ret
  exact ⟨rfl, bl1 _ _⟩
set_option maxHeartbeats 1000000 in
theorem isFor_1_fre (S : St) (X : Ve) (b v u q g uv : Value) (Y : Bu) (F V B : Nat) (w : World) (hF : w.cell? ⟨F, 0, none⟩ = some (.func (.func 49) #[] #[])) (hV : BoxV w V X uv) (hB : BoxS w B S b v u q g)
    (hc0 : 0 ≤ S.clock) (hc1 : S.clock ≤ 1073741824) (ht0 : 0 ≤ X.time) (ht1 : X.time ≤ 1073741824) (hk : X.ke.size ≤ maxLen) (hp : Y.pre.size ≤ maxLen) :
    Calls Tryz.prog 115 #[buV Y, .pointer (some ⟨F, 0, none⟩), .pointer (some ⟨V, 0, none⟩), .pointer (some ⟨B, 0, none⟩)] w fun e w' => e = .returned (.bool (ageP S X false Y)) ∧ Below w.heap.size w w' := by
  have HE : Hid (ageP S X false Y = (((((Y.nam.toList == X.bu.toList) && decide (0 ≤ ageN false Y)) && pfB X.ke Y.pre) && decide (ageN false Y ≤ S.clock - X.time)))) := rfl
  obtain ⟨R, hR⟩ : ∃ R, ageP S X false Y = R := ⟨_, rfl⟩
  rw [hR] at HE ⊢
  clear hR
  have HV := hide hV
  have HB := hide hB
  have HK := hide hk
  have HP := hide hp
  have hVl := hV.lt
  have hBl := hB.lt
  have hFl : F < w.heap.size := World.block_lt_of_cell? w _ hF
  clear hV hB hk hp
  go_enter Tryz.func115, Tryz.ntmps115
  go_wp2_with fail
  refine (tnum_fre Y _).mono ?_
  rintro e w1 ⟨rfl, hb⟩
  have hw1 := bl_trans (bl1 w _) hb
  have y0 := box1 hb 0 rfl
  have y2 := box1 hb 2 rfl
  have hV1 := (unhide HV).up hw1
  have hB1 := (unhide HB).up hw1
  have v1 := hV1.c1
  have v2 := hV1.c2
  have v6 := hV1.c6
  have s1 := hB1.c1
  clear hV1 hB1 hb hF
  obtain ⟨n, hn⟩ : ∃ n, ageN false Y = n := ⟨_, rfl⟩
  rw [hn] at HE ⊢
  clear hn
  cases t : (Y.nam.toList == X.bu.toList)
  · rw [t] at HE
    have HR : Hid (R = false) := unhide HE
    clear HE
    go_wp2
    go_ret
    exact ⟨ret_bool (unhide HR).symm, hw1⟩
  rw [t] at HE
  cases hd : decide (0 ≤ n)
  · have h0 := of_decide_eq_false hd
    rw [hd] at HE
    clear hd
    have HR : Hid (R = false) := unhide HE
    clear HE
    go_wp2
    go_ret
    exact ⟨ret_bool (unhide HR).symm, hw1⟩
  have h0 := of_decide_eq_true hd
  rw [hd] at HE
  clear hd
  cases hpf : pfB X.ke Y.pre
  · rw [hpf] at HE
    have HR : Hid (R = false) := unhide HE
    clear HE
    go_wp2_with (fail)
    refine (prefix_any X.ke Y.pre _ (unhide HK) (unhide HP)).mono ?_
    rintro e w2 ⟨rfl, rfl⟩
    rw [hpf]
    clear hpf
    go_wp2
    go_ret
    exact ⟨ret_bool (unhide HR).symm, hw1⟩
  · rw [hpf] at HE
    have HR : Hid (R = decide (n ≤ S.clock - X.time)) := unhide HE
    clear HE
    go_wp2_with (fail)
    refine (prefix_any X.ke Y.pre _ (unhide HK) (unhide HP)).mono ?_
    rintro e w2 ⟨rfl, rfl⟩
    rw [hpf]
    clear hpf
    go_wp2
    go_ret
    exact ⟨ret_bool (unhide HR).symm, hw1⟩
theorem tnum_dro (Y : Bu) (w : World) : Calls Tryz.prog 51 #[.agg #[.string Y.pre, .int .i64 Y.fre, .int .i64 Y.dro]] w fun e w' => e = .returned (.int .i64 (ageN true Y)) ∧ Below w.heap.size w w' := by
  go_enter Tryz.func51, Tryz.ntmps51
  go_wp2
  go_ret
  exact ⟨rfl, bl1 _ _⟩
set_option maxHeartbeats 1000000 in
theorem isFor_1_dro (S : St) (X : Ve) (b v u q g uv : Value) (Y : Bu) (F V B : Nat) (w : World) (hF : w.cell? ⟨F, 0, none⟩ = some (.func (.func 51) #[] #[])) (hV : BoxV w V X uv) (hB : BoxS w B S b v u q g)
    (hc0 : 0 ≤ S.clock) (hc1 : S.clock ≤ 1073741824) (ht0 : 0 ≤ X.time) (ht1 : X.time ≤ 1073741824) (hk : X.ke.size ≤ maxLen) (hp : Y.pre.size ≤ maxLen) :
    Calls Tryz.prog 115 #[buV Y, .pointer (some ⟨F, 0, none⟩), .pointer (some ⟨V, 0, none⟩), .pointer (some ⟨B, 0, none⟩)] w fun e w' => e = .returned (.bool (ageP S X true Y)) ∧ Below w.heap.size w w' := by
  have HE : Hid (ageP S X true Y = (((((Y.nam.toList == X.bu.toList) && decide (0 ≤ ageN true Y)) && pfB X.ke Y.pre) && decide (ageN true Y ≤ S.clock - X.time)))) := rfl
  obtain ⟨R, hR⟩ : ∃ R, ageP S X true Y = R := ⟨_, rfl⟩
  rw [hR] at HE ⊢
  clear hR
  have HV := hide hV
  have HB := hide hB
  have HK := hide hk
  have HP := hide hp
  have hVl := hV.lt
  have hBl := hB.lt
  have hFl : F < w.heap.size := World.block_lt_of_cell? w _ hF
  clear hV hB hk hp
  go_enter Tryz.func115, Tryz.ntmps115
  go_wp2_with fail
  refine (tnum_dro Y _).mono ?_
  rintro e w1 ⟨rfl, hb⟩
  have hw1 := bl_trans (bl1 w _) hb
  have y0 := box1 hb 0 rfl
  have y2 := box1 hb 2 rfl
  have hV1 := (unhide HV).up hw1
  have hB1 := (unhide HB).up hw1
  have v1 := hV1.c1
  have v2 := hV1.c2
  have v6 := hV1.c6
  have s1 := hB1.c1
  clear hV1 hB1 hb hF
  obtain ⟨n, hn⟩ : ∃ n, ageN true Y = n := ⟨_, rfl⟩
  rw [hn] at HE ⊢
  clear hn
  cases t : (Y.nam.toList == X.bu.toList)
  · rw [t] at HE
    have HR : Hid (R = false) := unhide HE
    clear HE
    go_wp2
    go_ret
    exact ⟨ret_bool (unhide HR).symm, hw1⟩
  rw [t] at HE
  cases hd : decide (0 ≤ n)
  · have h0 := of_decide_eq_false hd
    rw [hd] at HE
    clear hd
    have HR : Hid (R = false) := unhide HE
    clear HE
    go_wp2
    go_ret
    exact ⟨ret_bool (unhide HR).symm, hw1⟩
  have h0 := of_decide_eq_true hd
  rw [hd] at HE
  clear hd
  cases hpf : pfB X.ke Y.pre
  · rw [hpf] at HE
    have HR : Hid (R = false) := unhide HE
    clear HE
    go_wp2_with (fail)
    refine (prefix_any X.ke Y.pre _ (unhide HK) (unhide HP)).mono ?_
    rintro e w2 ⟨rfl, rfl⟩
    rw [hpf]
    clear hpf
    go_wp2
    go_ret
    exact ⟨ret_bool (unhide HR).symm, hw1⟩
  · rw [hpf] at HE
    have HR : Hid (R = decide (n ≤ S.clock - X.time)) := unhide HE
    clear HE
    go_wp2_with (fail)
    refine (prefix_any X.ke Y.pre _ (unhide HK) (unhide HP)).mono ?_
    rintro e w2 ⟨rfl, rfl⟩
    rw [hpf]
    clear hpf
    go_wp2
    go_ret
    exact ⟨ret_bool (unhide HR).symm, hw1⟩
end Go.Proofs.YtdgmdapijhbocaaGreat

/- state.findLast; the document's intsCopy; versions that are held against each other. -/
namespace Go.Proofs.YtdgmdapijhbocaaGreat
open Go.RowKit Go.Maps
set_option maxRecDepth 100000
set_option linter.unusedVariables false
set_option linter.unusedSimpArgs false
/-- The last of the first n places where it holds; -1: there is none. -/
def lastB : Nat → (Nat → Bool) → Int
  | 0, _ => -1
  | n + 1, p => if p n then (n : Int) else lastB n p
def latP (l : List Ve) (bu ke : ByteArray) (i : Nat) : Bool := eqS (l.getD i ve0).bu bu && eqS (l.getD i ve0).ke ke
theorem latest_1 (X : Ve) (ua : Option Addr) (un uc : Nat) (bu ke : ByteArray) (B C : Nat) (w : World) (h : w.cell? ⟨B, 0, none⟩ = some (.string bu)) (h2 : w.cell? ⟨C, 0, none⟩ = some (.string ke)) :
    Calls Tryz.prog 38 #[veV X (.slice ua un uc), .pointer (some ⟨B, 0, none⟩), .pointer (some ⟨C, 0, none⟩)] w fun e w' => e = .returned (.bool (eqS X.bu bu && eqS X.ke ke)) ∧ Below w.heap.size w w' := by
  have hB := World.block_lt_of_cell? w _ h
  have hC := World.block_lt_of_cell? w _ h2
  simp at hB hC
  have HE : Hid ((eqS X.bu bu && eqS X.ke ke) = ((X.bu.toList == bu.toList) && (X.ke.toList == ke.toList))) := rfl
  cases t : (X.bu.toList == bu.toList)
  · rw [t] at HE
    go_enter Tryz.func38, Tryz.ntmps38
    go_wp2
    go_ret
    exact ⟨ret_bool (by rw [unhide HE]; rfl), bl1 _ _⟩
  · rw [t] at HE
    go_enter Tryz.func38, Tryz.ntmps38
    go_wp2
    go_ret
    exact ⟨ret_bool (by rw [unhide HE]; rfl), bl1 _ _⟩
set_option maxHeartbeats 1000000 in
theorem findLast_any (C1 C2 : Value) (a : Option Addr) (cap : Nat) (xs : List Ve) (p : Nat → Bool) (w : World) (hL : Lst RVe 12 ve0 w (.slice a xs.length cap) xs) (hn : xs.length ≤ 9223372036854775807)
    (hst : ∀ (k : Nat) (wr : World) (X : Ve) (ua : Option Addr) (un uc : Nat), k < xs.length → xs.getD k ve0 = X → Below w.heap.size w wr → Ints wr (.slice ua un uc) X.sec → Calls Tryz.prog 38 #[veV X (.slice ua un uc), C1, C2] wr fun e w' => e = .returned (.bool (p k)) ∧ Below wr.heap.size wr w') :
    Calls Tryz.prog 37 #[.slice a xs.length cap, .func (.func 38) #[] #[C1, C2]] w fun e w' => e = .returned (.int .i64 (lastB xs.length p)) ∧ Below w.heap.size w w' := by
  have HL := hide hL
  have HST := hide hst
  clear hL hst
  obtain ⟨N, hN⟩ : ∃ N, xs.length = N := ⟨_, rfl⟩
  have HN := hide hN
  rw [hN] at hn HL HST ⊢
  clear hN
  go_enter Tryz.func37, Tryz.ntmps37
  go_wp2
  go_loopw [5] (fun i wr => ∃ k : Nat, k ≤ N ∧ i = .int .i64 ((k : Int) - 1) ∧ Below w.heap.size w wr ∧ lastB N p = lastB k p) (fun i _ => (intOf i + 1).toNat)
  case atStart => exact ⟨N, Nat.le_refl _, rfl, Below.refl _ _, rfl⟩
  case round =>
    obtain ⟨k, hk, rfl, hb, hall⟩ := hrel
    have HA := hide hall
    clear hall
    cases k with
    | zero =>
      go_wp2
      go_ret
      exact ⟨ret_int (by rw [unhide HA]; rfl), hb⟩
    | succ m =>
      have hm : ((m + 1 : Nat) : Int) - 1 = (m : Int) := by omega
      rw [hm]
      clear hm
      obtain ⟨b, o, rfl, r0⟩ := Lst.at (unhide HL) (i := m) (by rw [unhide HN]; omega)
      obtain ⟨X, hX⟩ : ∃ X, xs.getD m ve0 = X := ⟨_, rfl⟩
      rw [hX] at r0
      have r := RVe.up hb r0
      have HX := hide hX
      clear hX r0
      obtain ⟨U, hu, hi⟩ := r.c8
      obtain ⟨ua, uc, rfl, _⟩ := hi.form
      have HII := hide hi
      have c0 := r.c0
      have c1 := r.c1
      have c2 := r.c2
      have c3 := r.c3
      have c4 := r.c4
      have c5 := r.c5
      have c6 := r.c6
      have c7 := r.c7
      have c9 := r.c9
      have c10 := r.c10
      have c11 := r.c11
      clear r hi
      have hm0 : (0 : Int) ≤ (m : Int) := Int.natCast_nonneg _
      have hm1 : (m : Int) < (N : Int) := by omega
      go_wp2_with fail
      refine (unhide HST m _ X _ _ _ (by omega) (unhide HX) hb (unhide HII)).mono ?_
      rintro e w1 ⟨rfl, hb1⟩
      cases hpk : p m
      · have HZ : Hid (lastB (m + 1) p = lastB m p) := by show (if p m then (m : Int) else lastB m p) = _; rw [hpk]; rfl
        go_wp2
        go_roundw
        case rel => exact ⟨m, by omega, rfl, bl_trans hb hb1, by rw [unhide HA, unhide HZ]⟩
        case measure => (simp [intOf] <;> omega)
      · have HZ : Hid (lastB (m + 1) p = (m : Int)) := by show (if p m then (m : Int) else lastB m p) = _; rw [hpk]; rfl
        go_wp2
        go_ret
        exact ⟨ret_int (by rw [unhide HA, unhide HZ]), bl_trans hb hb1⟩
end Go.Proofs.YtdgmdapijhbocaaGreat

/- list: rows, their order, what is told of them, in plain words. -/
namespace Go.Proofs.YtdgmdapijhbocaaGreat
open Go.RowKit Go.Maps Go.PlainAid
set_option linter.unusedVariables false
set_option linter.unusedSimpArgs false
/-- A row of what is listed. -/
structure Ro where
  key : ByteArray
  com : Bool
  id : Int
  mar : Bool
  lat : Bool
  size : Int
  tier : Int
def ro0 : Ro := ⟨⟨#[]⟩, false, 0, false, false, 0, 0⟩
abbrev roL (x : Ro) : List Value := [.string x.key, .bool x.com, .int .i64 x.id, .bool x.mar, .bool x.lat, .int .i64 x.size, .int .i64 x.tier]
abbrev roA (x : Ro) : Array Value := #[.string x.key, .bool x.com, .int .i64 x.id, .bool x.mar, .bool x.lat, .int .i64 x.size, .int .i64 x.tier]
abbrev roV (x : Ro) : Value := .agg (roA x)
instance : Inhabited Ro := ⟨ro0⟩
theorem eqS_to {a b : ByteArray} (h : eqS a b = true) : a = b := (eqS_iff a b).1 h
theorem ltS_dec (a b : ByteArray) : ltS a b = decide (a.toList < b.toList) := bytesLess_eq _ _
theorem ltS_irr (a : ByteArray) : ltS a a = false := by rw [ltS_dec]; simp
theorem ltS_tr {a b c : ByteArray} (h : ltS a b = true) (k : ltS b c = true) : ltS a c = true := by
  rw [ltS_dec] at *
  simp only [decide_eq_true_eq] at *
  exact List.lt_trans h k
theorem ltS_asy {a b : ByteArray} (h : ltS a b = true) : ltS b a = false := by
  cases k : ltS b a
  · rfl
  · have := ltS_tr h k
    rw [ltS_irr] at this
    cases this
theorem ltS_tot {a b : ByteArray} (h : ltS a b = false) (k : eqS a b = false) : ltS b a = true := by
  rw [ltS_dec] at *
  simp only [decide_eq_true_eq, decide_eq_false_iff_not] at *
  have k' : ¬ a.toList = b.toList := by
    unfold eqS at k
    simpa using k
  by_cases h1 : b.toList < a.toList
  · exact h1
  · exact absurd (List.le_antisymm (List.not_lt.1 h1) (List.not_lt.1 h)) k'
/-- Which of two versions is told first: by their keys, then the one that came later. -/
def keyLt (x y : Ve) : Bool := ltS x.ke y.ke || (eqS x.ke y.ke && decide (y.id < x.id))
def insV (v : Ve) : List Ve → List Ve
  | [] => [v]
  | x :: xs => if ltS x.ke v.ke then x :: insV v xs else v :: x :: xs
def srtV (l : List Ve) : List Ve := l.foldl (fun o v => insV v o) []
def selP (nm pre : ByteArray) (v : Ve) : Bool := eqS v.bu nm && pfB v.ke pre
def selV (S : St) (nm pre : ByteArray) : List Ve := S.ves.filter (selP nm pre)
/-- The versions of a bucket with a prefix, as they are told. -/
def sv (S : St) (nm pre : ByteArray) : List Ve := srtV (selV S nm pre)
theorem insV_perm (v : Ve) : ∀ l : List Ve, (insV v l).Perm (v :: l)
  | [] => List.Perm.refl _
  | x :: xs => by
    unfold insV
    split
    · exact (List.Perm.cons x (insV_perm v xs)).trans (List.Perm.swap v x xs)
    · exact List.Perm.refl _
theorem srt_perm' (l : List Ve) : ∀ o : List Ve, (l.foldl (fun o v => insV v o) o).Perm (o ++ l) := by
  induction l with
  | nil => intro o; simp
  | cons v l ih =>
    intro o
    rw [List.foldl_cons]
    refine (ih _).trans ?_
    refine ((insV_perm v o).append_right l).trans ?_
    show (v :: (o ++ l)).Perm (o ++ v :: l)
    exact List.perm_middle.symm
theorem srt_perm (l : List Ve) : (srtV l).Perm l := by unfold srtV; simpa using srt_perm' l []
theorem keyLt_tr {x y z : Ve} (h : keyLt x y = true) (k : keyLt y z = true) : keyLt x z = true := by
  unfold keyLt at *
  simp only [Bool.or_eq_true, Bool.and_eq_true, decide_eq_true_eq] at *
  rcases h with h | ⟨h1, h2⟩ <;> rcases k with k | ⟨k1, k2⟩
  · exact .inl (ltS_tr h k)
  · rw [← eqS_to k1]; exact .inl h
  · rw [eqS_to h1]; exact .inl k
  · exact .inr ⟨by rw [eqS_to h1]; exact k1, by omega⟩
theorem keyLt_irr (x : Ve) : keyLt x x = false := by
  unfold keyLt
  rw [ltS_irr]
  simp
theorem keyLt_tot {x y : Ve} (h : keyLt x y = false) (hne : x.id ≠ y.id) : keyLt y x = true := by
  unfold keyLt at *
  rw [Bool.or_eq_false_iff, Bool.and_eq_false_iff] at h
  obtain ⟨h1, h2⟩ := h
  cases e : eqS x.ke y.ke
  · rw [ltS_tot h1 e]; rfl
  · rcases h2 with h2 | h2
    · rw [e] at h2; cases h2
    · rw [decide_eq_false_iff_not] at h2
      have e2 := eqS_to e
      rw [e2, ltS_irr]
      simp
      refine ⟨?_, by omega⟩
      rw [← e2, ← e]
      rw [e2]
theorem insV_mem {v x : Ve} {l : List Ve} (h : x ∈ insV v l) : x = v ∨ x ∈ l := by
  have := (insV_perm v l).mem_iff.1 h
  simpa using this
theorem insV_sorted {v : Ve} : ∀ {l : List Ve}, l.Pairwise (fun x y => keyLt x y = true) → (∀ x ∈ l, x.id < v.id) → (insV v l).Pairwise (fun x y => keyLt x y = true)
  | [], _, _ => by simp [insV]
  | x :: xs, h, hid => by
    rw [List.pairwise_cons] at h
    unfold insV
    split
    · next hlt =>
      rw [List.pairwise_cons]
      refine ⟨fun y hy => ?_, insV_sorted h.2 fun y hy => hid y (List.mem_cons_of_mem _ hy)⟩
      rcases insV_mem hy with rfl | hy
      · unfold keyLt; rw [hlt]; rfl
      · exact h.1 y hy
    · next hlt =>
      have hlt : ltS x.ke v.ke = false := by simpa using hlt
      have hvx : keyLt v x = true := by
        unfold keyLt
        cases e : eqS x.ke v.ke
        · rw [ltS_tot hlt e]; rfl
        · have e2 := eqS_to e
          have := hid x (List.mem_cons_self ..)
          rw [e2]
          rw [e2] at e
          rw [e]
          simp
          exact .inr this
      rw [List.pairwise_cons]
      refine ⟨fun y hy => ?_, List.pairwise_cons.2 h⟩
      rcases List.mem_cons.1 hy with rfl | hy
      · exact hvx
      · exact keyLt_tr hvx (h.1 y hy)
theorem srt_sorted' : ∀ (l o : List Ve), o.Pairwise (fun x y => keyLt x y = true) → l.Pairwise (fun x y => x.id < y.id) → (∀ x ∈ o, ∀ y ∈ l, x.id < y.id) → (l.foldl (fun o v => insV v o) o).Pairwise (fun x y => keyLt x y = true)
  | [], o, h, _, _ => h
  | v :: l, o, h, hl, hx => by
    rw [List.pairwise_cons] at hl
    refine srt_sorted' l _ (insV_sorted h fun x hx' => hx x hx' v (List.mem_cons_self ..)) hl.2 fun x hx' y hy => ?_
    rcases insV_mem hx' with rfl | hx'
    · exact hl.1 y hy
    · exact hx x hx' y (List.mem_cons_of_mem _ hy)
theorem srt_sorted {l : List Ve} (h : l.Pairwise (fun x y => x.id < y.id)) : (srtV l).Pairwise (fun x y => keyLt x y = true) :=
  srt_sorted' l [] List.Pairwise.nil h (fun x hx => by cases hx)
/-- Two lists of the same elements, each in a strict order, are one. -/
theorem perm_one {α : Type} {r : α → α → Prop} (hr : ∀ x y, r x y → r y x → False) : ∀ {l m : List α}, l.Perm m → l.Pairwise r → m.Pairwise r → l = m
  | [], m, h, _, _ => (List.nil_perm.1 h).symm
  | x :: xs, [], h, _, _ => absurd h.length_eq (by simp)
  | x :: xs, y :: ys, h, h1, h2 => by
    rw [List.pairwise_cons] at h1 h2
    have hx : x ∈ y :: ys := h.mem_iff.1 (List.mem_cons_self ..)
    have hy : y ∈ x :: xs := h.mem_iff.2 (List.mem_cons_self ..)
    have e : x = y := by
      rcases List.mem_cons.1 hx with e | hx
      · exact e
      · rcases List.mem_cons.1 hy with e | hy
        · exact e.symm
        · exact absurd (h2.1 x hx) fun k => hr _ _ k (h1.1 y hy)
    subst e
    rw [perm_one hr (List.Perm.cons_inv h) h1.2 h2.2]
def roOf (v : Ve) (lat : Bool) : Ro := ⟨v.ke, false, v.id, v.mar, lat, v.size, v.tier⟩
/-- Is the i-th of the sorted ones the first of its key? -/
def latAt (l : List Ve) (i : Nat) : Bool := i == 0 || !eqS (l.getD (i - 1) ve0).ke (l.getD i ve0).ke
def rowsK (l : List Ve) (k : Nat) : List Ro := (List.range k).map fun i => roOf (l.getD i ve0) (latAt l i)
def rowsL (l : List Ve) : List Ro := rowsK l l.length
theorem rowsK_next (l : List Ve) (k : Nat) : rowsK l (k + 1) = rowsK l k ++ [roOf (l.getD k ve0) (latAt l k)] := by
  unfold rowsK
  rw [List.range_succ, List.map_append]
  rfl
theorem rowsK_len (l : List Ve) (k : Nat) : (rowsK l k).length = k := by simp [rowsK]
theorem rowsK_at (l : List Ve) {i k : Nat} (h : i < k) : (rowsK l k).getD i ro0 = roOf (l.getD i ve0) (latAt l i) := by
  unfold rowsK
  simp [List.getD, h]
theorem rowsK_take (l : List Ve) {i k : Nat} (h : i ≤ k) : (rowsK l k).take i = rowsK l i := by
  unfold rowsK
  rw [← List.map_take, List.take_range, Nat.min_eq_left h]
/-- Where a text has a letter first, from a place on (from there). -/
def posI (s : ByteArray) (c : Int) (k : Nat) : Int := firstI (s.size - k) (fun i => bt s (k + i) == c)
/-- The row of what a key shares with others, or its own. -/
def shR (r : Ro) (pre dl : ByteArray) : Ro :=
  if dl.size = 0 then r else if posI r.key (bt dl 0) pre.size < 0 then r else ⟨r.key.extract 0 (pre.size + (posI r.key (bt dl 0) pre.size).toNat + 1), true, 0, false, false, 0, 0⟩
def gtB (a b : ByteArray) : Bool := !(Op.bytesLess a.toList b.toList || a.toList == b.toList)
def stepR (pre dl af : ByteArray) (r : Ro) : Option Ro := if r.mar || !r.lat then none else if gtB (shR r pre dl).key af then some (shR r pre dl) else none
def eqR (a b : Ro) : Bool := eqS a.key b.key && (a.com == b.com) && (a.id == b.id) && (a.mar == b.mar) && (a.lat == b.lat) && (a.size == b.size) && (a.tier == b.tier)
theorem eqR_iff {a b : Ro} : eqR a b = true ↔ a = b := by
  obtain ⟨a1, a2, a3, a4, a5, a6, a7⟩ := a
  obtain ⟨b1, b2, b3, b4, b5, b6, b7⟩ := b
  unfold eqR
  simp only [Bool.and_eq_true, beq_iff_eq, Ro.mk.injEq]
  constructor
  · rintro ⟨⟨⟨⟨⟨⟨h1, h2⟩, h3⟩, h4⟩, h5⟩, h6⟩, h7⟩
    exact ⟨eqS_to h1, h2, h3, h4, h5, h6, h7⟩
  · rintro ⟨rfl, rfl, rfl, rfl, rfl, rfl, rfl⟩
    exact ⟨⟨⟨⟨⟨⟨(eqS_iff _ _).2 rfl, rfl⟩, rfl⟩, rfl⟩, rfl⟩, rfl⟩, rfl⟩
/-- A row that is as the one told ahead of it is told once. -/
def addR (o : List Ro) (r : Ro) : List Ro := if o ≠ [] ∧ eqR (o.getD (o.length - 1) ro0) r = true then o else o ++ [r]
def cmpL (l : List Ro) : List Ro := l.foldl addR []
theorem cmpL_snoc (l : List Ro) (r : Ro) : cmpL (l ++ [r]) = addR (cmpL l) r := by unfold cmpL; rw [List.foldl_append]; rfl
def apL (pre dl af : ByteArray) (l : List Ro) : List Ro := l.filterMap (stepR pre dl af)
def keysL (S : St) (nm pre dl af : ByteArray) : List Ro := cmpL (apL pre dl af (rowsL (sv S nm pre)))
def versL (S : St) (nm pre : ByteArray) : List Ro := rowsL (sv S nm pre)
end Go.Proofs.YtdgmdapijhbocaaGreat

/- state.copyList of numbers, copyVersion. -/
namespace Go.Proofs.YtdgmdapijhbocaaGreat
open Go.RowKit Go.Maps
set_option maxRecDepth 100000
set_option linter.unusedVariables false
set_option linter.unusedSimpArgs false
theorem addI (b o i : Nat) : (⟨b, o, none⟩ : Addr).add i = ⟨b, o + i, none⟩ := by unfold Addr.add; split <;> simp_all
theorem sizeI : (Tryz.prog.info? 3).map (·.size) = some 1 := by kernel_rfl
theorem setRow_bl {a w : World} (h : Below a.heap.size a w) {g : Nat} (hg : a.heap.size ≤ g) (R : Array Value) : Below a.heap.size a (w.setRow g R) :=
  h.trans ⟨rfl, rfl, rfl, by simp [World.setRow], fun k hk => setRow_other w g k _ (by omega)⟩
set_option maxHeartbeats 1000000 in
theorem copyInts_any (x : Value) (l : List Int) (w : World) (hx : Ints w x l) (hn : l.length * 8 ≤ 281474976710656) : Calls Tryz.prog 59 #[x] w fun e w' => ∃ o, e = .returned o ∧ OwI w' w.heap.size o l ∧ Below w.heap.size w w' := by
  obtain ⟨i0, hi, hz0, hz1, hz2⟩ := info_parts infoI
  obtain ⟨a, ac, rfl, a1, a2⟩ := hx.form
  unfold maxLen at a2
  obtain ⟨n, hl⟩ : ∃ n, l.length = n := ⟨_, rfl⟩
  obtain ⟨R, hR⟩ : ∃ R, madeCells #[Value.int .i64 0] n = R := ⟨_, rfl⟩
  have hRs : R.size = n := by rw [← hR]; exact size_madeCells _ _
  have hmk : (Instr.makeSlice 27 (.int .i64 (n : Int)) (.int .i64 (n : Int))).run Tryz.prog w = .ok (.slice (some ⟨w.heap.size, 0, none⟩) n n) (w.alloc (.cells R 3)) := by
    have h := run_make (P := Tryz.prog) (w := w) 27 3 i0 (.int .i64 0) Tryz.underlying27 hi hz0 .i64 .i64 (n : Int) (n : Int) (by omega) (Int.le_refl _) (by rw [hz2]; omega) (by omega)
    simpa [hz1, Value.cells, hR] using h
  obtain ⟨W1, hW1⟩ : ∃ W1, w.alloc (.cells R 3) = W1 := ⟨_, rfl⟩
  rw [hW1] at hmk
  have hb1 : Below w.heap.size w W1 := by rw [← hW1]; exact bl1 _ _
  have hrow : W1.heap[w.heap.size]? = some (.cells R 3 (0, 0)) := by rw [← hW1]; exact heap_alloc_new _ _
  have hlen : (i64s l).length = n := by rw [i64s_length, hl]
  have hdrop : (R.toList.take 0 ++ i64s l ++ R.toList.drop (0 + (i64s l).length)).toArray = (i64s l).toArray := by
    rw [List.drop_of_length_le (by rw [hlen, Array.length_toList]; omega)]; simp
  have hcp : ∀ ty, ∃ W2, (Builtin.copy_ #[27, 27] ty #[.slice (some ⟨w.heap.size, 0, none⟩) n n, .slice a l.length ac]).run Tryz.prog W1 = .ok (goInt n) W2 ∧ OwI W2 w.heap.size (.slice (some ⟨w.heap.size, 0, none⟩) n n) l ∧ Below w.heap.size w W2 := by
    intro ty
    cases a with
    | none =>
      have h0 : l = [] := by
        cases l with
        | nil => rfl
        | cons y l =>
          obtain ⟨_, _, e, _⟩ := Lst.at hx (i := 0) (by simp)
          cases e
      subst h0
      obtain rfl : n = 0 := by simpa using hl.symm
      refine ⟨W1, by simp [Builtin.copy_, run_underlying Tryz.underlying27, Builtin.lenOf, Builtin.firstCells, storeCells, Result.andThen], ?_, hb1⟩
      exact ⟨by simp [i64s], .inr ⟨w.heap.size, 0, R, rfl, Nat.le_refl _, hrow, Nat.le_refl _, by simp, by simpa using hRs, by simp [i64s]⟩⟩
    | some a =>
      have hh := run_copy_row (P := Tryz.prog) W1 27 27 ty 3 w.heap.size 0 n n a l.length ac R 3 (i64s l) Tryz.underlying27 sizeI hrow (by rw [hlen, hl]; exact (Nat.min_self n).symm) (fun j v hj => by
        have hjl : j < l.length := by have := (List.getElem?_eq_some_iff.1 hj).1; rwa [i64s_length] at this
        obtain ⟨b', o', e', r⟩ := Lst.at hx hjl
        injection e' with e'
        subst e'
        rw [addI, scell_up hb1 (by have := r.1; rwa [Nat.mul_one] at this)]
        simp [i64s, hjl] at hj
        rw [← hj]
        simp [List.getD, hjl]) (by rw [hlen]; omega) (fun u hu => by unfold i64s at hu; obtain ⟨q, _, rfl⟩ := List.mem_map.1 hu; rfl)
      rw [hdrop, hlen] at hh
      refine ⟨_, hh, ?_, setRow_bl hb1 (Nat.le_refl _) _⟩
      refine ⟨by rw [hlen, hl, Nat.mul_one], .inr ⟨w.heap.size, n, (i64s l).toArray, by rw [hl], Nat.le_refl _, ?_, by omega, by unfold maxLen; omega, by simpa using hlen, by rw [hl, Nat.mul_one, ← hlen]; simp⟩⟩
      exact setRow_heap W1 w.heap.size _ _ 3 _ hrow
  obtain ⟨W2, hcp', hO, hb2⟩ := hcp 3
  rw [hl] at hcp' ⊢
  have HO := hide hO
  clear hcp hO hdrop hlen hrow hx hW1 hR hRs hb1
  go_enter Tryz.func59, Tryz.ntmps59
  go_wp2
  go_ret
  exact ⟨_, rfl, unhide HO, hb2⟩
end Go.Proofs.YtdgmdapijhbocaaGreat

/- state.copyVersion. -/
namespace Go.Proofs.YtdgmdapijhbocaaGreat
open Go.RowKit Go.Maps
set_option maxRecDepth 100000
set_option linter.unusedVariables false
set_option linter.unusedSimpArgs false
theorem fz_of {w : World} {g : Nat} {c : Array Value} {t : TypeId} (h : w.heap[g]? = some (.cells c t (0, 0))) (i : Nat) : w.frozen? ⟨g, i, none⟩ = false := by simp [World.frozen?, h]
abbrev zeroVe : Array Value := #[.int .i64 0, .string ⟨#[]⟩, .string ⟨#[]⟩, .bool false, .bool false, .int .i64 0, .int .i64 0, .int .i64 0, .slice none 0 0, .int .i64 0, .int .i64 0, .int .i64 0]
theorem OwI.low {w : World} {B : Nat} {v : Value} {xs : List Int} (h : OwI w B v xs) {g i : Nat} (hg : g < B) (u : Value) : OwI (w.setCell ⟨g, i, none⟩ u) B v xs :=
  World.ownsRow.kept (row := some g) h ⟨rfl, rfl, rfl, by simp [World.setCell], fun k hk hne => Below.heap_setCell _ _ _ _ (fun e => hne (by rw [e]))⟩ (.inr (fun e => by have := own_blk h g e; omega))
set_option maxHeartbeats 1000000 in
theorem copyVersion_any (X : Ve) (ua : Option Addr) (un uc : Nat) (w : World) (hI : Ints w (.slice ua un uc) X.sec) (hn : X.sec.length * 8 ≤ 281474976710656) :
    Calls Tryz.prog 39 #[veV X (.slice ua un uc)] w fun e w' => ∃ o, e = .returned (veV X o) ∧ OwI w' w.heap.size o X.sec ∧ Below w.heap.size w w' := by
  have HI := hide hI
  clear hI
  go_enter Tryz.func39, Tryz.ntmps39
  go_wp2_with fail
  refine (copyInts_any _ X.sec _ (Ints.up (bl_alloc (bl1 _ _) _) (unhide HI)) hn).mono ?_
  rintro e w1 ⟨o, rfl, hO, hb⟩
  obtain ⟨oa, oc, rfl, o1, o2⟩ := hO.form
  obtain ⟨cX, cR⟩ := boxes hb
  have g1 : w1.heap[w.heap.size]? = some (.cells #[.int .i64 X.id, .string X.bu, .string X.ke, .bool X.nul, .bool X.mar, .int .i64 X.size, .int .i64 X.time, .int .i64 X.tier, .slice ua un uc, .int .i64 X.vol, .int .i64 X.pos, .int .i64 X.til] 36 (0, 0)) := by
    rw [hb.block w.heap.size (by simp; omega), (bl1 (w.alloc _) _).block w.heap.size (by simp)]
    exact heap_alloc_new _ _
  have f1 := fz_of g1 8
  have hsz : w.heap.size + 2 ≤ w1.heap.size := by have := hb.size; simp at this; omega
  have f2 : ∀ j, w1.frozen? ⟨w.heap.size + 1, j, none⟩ = false := fun j => by
    rw [hb.frozen (p := ⟨w.heap.size + 1, j, none⟩) (by simp)]
    exact fz_of (c := zeroVe) (t := 36) (by simpa using heap_alloc_new (w.alloc _) (.cells zeroVe 36)) j
  have x0 := cX 0 _ rfl
  have x1 := cX 1 _ rfl
  have x2 := cX 2 _ rfl
  have x3 := cX 3 _ rfl
  have x4 := cX 4 _ rfl
  have x5 := cX 5 _ rfl
  have x6 := cX 6 _ rfl
  have x7 := cX 7 _ rfl
  have x8 := cX 8 _ rfl
  have x9 := cX 9 _ rfl
  have x10 := cX 10 _ rfl
  have x11 := cX 11 _ rfl
  have z0 := cR 0 _ rfl
  have z1 := cR 1 _ rfl
  have z2 := cR 2 _ rfl
  have z3 := cR 3 _ rfl
  have z4 := cR 4 _ rfl
  have z5 := cR 5 _ rfl
  have z6 := cR 6 _ rfl
  have z7 := cR 7 _ rfl
  have z8 := cR 8 _ rfl
  have z9 := cR 9 _ rfl
  have z10 := cR 10 _ rfl
  have z11 := cR 11 _ rfl
  have hO2 : OwI w1 (w.heap.size + 2) (.slice oa X.sec.length oc) X.sec := by simpa using hO
  have HO := hide hO2
  have HB : Hid (Below w.heap.size w w1) := bl_trans (bl_alloc (bl1 _ _) _) hb
  clear cX cR g1 hO hO2 hb
  go_wp2
  refine bodyPost_ret (v := veV X (.slice oa X.sec.length oc)) (by simp [results, Tryz.results39, go_sem, *]) rfl ⟨.slice oa X.sec.length oc, rfl, ?_, ?_⟩
  · refine own_lo (B := w.heap.size + 2) ?_ (by omega)
    (iterate 13 (refine OwI.low ?_ (by omega) _))
    exact unhide HO
  · (iterate 13 (refine bl_set ?_ (by simp <;> omega) _))
    exact unhide HB
end Go.Proofs.YtdgmdapijhbocaaGreat
