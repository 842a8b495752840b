/- A state may be, as the document asks it: plain. -/
import Derived.Test.YtdgmdapijhbocaaGreatG5
import Derived.BigQuiet
import Derived.Deep.QuietTactic
import Derived.Laws.CopyRow
import Derived.Laws.MakeOwn
namespace Go.Proofs.YtdgmdapijhbocaaGreat
open Go.RowKit Go.Maps
set_option maxRecDepth 100000
set_option linter.unusedVariables false
set_option linter.unusedSimpArgs false
def leS (a b : ByteArray) : Bool := ltS a b || eqS a b
def goneR (l : List Int) (i : Nat) : Bool := inB (l.getD i 0) 0 7 && !(decide (0 < i) && decide (l.getD i 0 ≤ l.getD (i - 1) 0))
def busR (l : List Bu) (i : Nat) : Bool := (worE (l.getD i bu0).nam 8 == 0 && inB (l.getD i bu0).mode 0 2 && rulE (l.getD i bu0).pre (l.getD i bu0).fre (l.getD i bu0).dro == 0) && !(decide (0 < i) && leS (l.getD i bu0).nam (l.getD (i - 1) bu0).nam)
def twoN (x y : Ve) : Bool := x.nul && y.nul && eqS x.bu y.bu && eqS x.ke y.ke
def vesR (S : St) (i : Nat) : Bool := veC S (S.ves.getD i ve0) && !(decide (0 < i) && decide ((S.ves.getD i ve0).id ≤ (S.ves.getD (i - 1) ve0).id)) && allB i (fun k => !twoN (S.ves.getD i ve0) (S.ves.getD k ve0))
def pasR (l : List Pa) (k : Nat) : Bool := paC (l.getD k pa0) && !(decide (0 < k) && decide ((l.getD k pa0).n ≤ (l.getD (k - 1) pa0).n))
def upsR (S : St) (i : Nat) : Bool := namC S (S.ups.getD i up0).id (S.ups.getD i up0).bu (S.ups.getD i up0).ke && !(decide (0 < i) && decide ((S.ups.getD i up0).id ≤ (S.ups.getD (i - 1) up0).id)) && allB (S.ups.getD i up0).parts.length (pasR (S.ups.getD i up0).parts)
def queR (S : St) (i : Nat) : Bool := coldB S (S.que.getD i ak0).ver && askB (S.que.getD i ak0) && allB i (fun j => !((S.que.getD j ak0).ver == (S.que.getD i ak0).ver))
def secR (l : List Int) (i : Nat) : Bool := inB (l.getD i 0) 0 199 && allB i (fun k => !(l.getD i 0 == l.getD k 0))
def stR (S : St) : Bool := (inB S.next 1 1048576 && inB S.clock 0 1073741824 && decide ((S.bus.length : Int) ≤ 4) && decide ((S.ves.length : Int) ≤ 40) && decide ((S.ups.length : Int) ≤ 4) && decide ((S.que.length : Int) ≤ 10)) &&
  (allB S.gone.length (goneR S.gone) && allB S.bus.length (busR S.bus) && allB S.ves.length (vesR S) && allB S.ups.length (upsR S) && allB S.que.length (queR S) && allB (secs S).length (secR (secs S)))
theorem stR_f {S : St} (h : allB S.gone.length (goneR S.gone) = false ∨ allB S.bus.length (busR S.bus) = false ∨ allB S.ves.length (vesR S) = false ∨ allB S.ups.length (upsR S) = false ∨ allB S.que.length (queR S) = false ∨ allB (secs S).length (secR (secs S)) = false) : false = stR S := by
  unfold stR
  rcases h with h | h | h | h | h | h <;> simp [h]
theorem at_gone {S : St} {k : Nat} (hk : k < S.gone.length) (h : goneR S.gone k = false) : false = stR S := stR_f (.inl (allB_f hk h))
theorem at_bus {S : St} {k : Nat} (hk : k < S.bus.length) (h : busR S.bus k = false) : false = stR S := stR_f (.inr (.inl (allB_f hk h)))
theorem at_ves {S : St} {k : Nat} (hk : k < S.ves.length) (h : vesR S k = false) : false = stR S := stR_f (.inr (.inr (.inl (allB_f hk h))))
theorem at_ups {S : St} {k : Nat} (hk : k < S.ups.length) (h : upsR S k = false) : false = stR S := stR_f (.inr (.inr (.inr (.inl (allB_f hk h)))))
theorem at_que {S : St} {k : Nat} (hk : k < S.que.length) (h : queR S k = false) : false = stR S := stR_f (.inr (.inr (.inr (.inr (.inl (allB_f hk h))))))
theorem at_sec {S : St} {k : Nat} (hk : k < (secs S).length) (h : secR (secs S) k = false) : false = stR S := stR_f (.inr (.inr (.inr (.inr (.inr (allB_f hk h))))))
/-- As the code asks of the parts of uploads and of versions. -/
theorem rise_all {n : Nat} {p : Nat → Bool} {lt : Nat → Bool} {le : Nat → Bool} (h : ∀ i, i + 1 < n → lt i = !le (i + 1)) :
    allB n (fun i => p i && !(decide (0 < i) && le i)) = (allB (n - 1) lt && allB n p) := by
  cases e : (allB (n - 1) lt && allB n p)
  · rw [Bool.and_eq_false_iff] at e
    rcases e with e | e
    · obtain ⟨k, hk, hq⟩ : ∃ k, k < n - 1 ∧ lt k = false := by simpa [allB] using e
      have := h k (by omega)
      rw [hq] at this
      exact allB_f (k := k + 1) (by omega) (by have hl : le (k + 1) = true := by simpa using this.symm
                                               simp [hl])
    · obtain ⟨k, hk, hq⟩ : ∃ k, k < n ∧ p k = false := by simpa [allB] using e
      exact allB_f hk (by simp [hq])
  · simp only [Bool.and_eq_true] at e
    refine allB_t fun j hj => ?_
    rw [allB_iff.1 e.2 j hj]
    cases j with
    | zero => simp
    | succ j =>
      have h1 := h j hj
      have h2 := allB_iff.1 e.1 j (by omega)
      rw [h2] at h1
      simp at h1
      simp [h1]
end Go.Proofs.YtdgmdapijhbocaaGreat

/- A state may be as the document asks it just if it may be as the code asks it. -/
namespace Go.Proofs.YtdgmdapijhbocaaGreat
open Go.RowKit Go.Maps
set_option maxRecDepth 100000
set_option linter.unusedVariables false
set_option linter.unusedSimpArgs false
theorem less_or : ∀ x y : List UInt8, Op.bytesLess x y = !(Op.bytesLess y x || y == x)
  | [], [] => by simp [Op.bytesLess]
  | [], _ :: _ => by simp [Op.bytesLess]
  | _ :: _, [] => by simp [Op.bytesLess]
  | a :: x, b :: y => by
    have ih := less_or x y
    simp only [Op.bytesLess]
    rcases Nat.lt_trichotomy a.toNat b.toNat with h | h | h
    · have h1 : a < b := UInt8.lt_iff_toNat_lt.2 h
      have h2 : ¬ b < a := fun k => by have := UInt8.lt_iff_toNat_lt.1 k; omega
      have h3 : b ≠ a := fun e => by subst e; omega
      simp [h1, h2, h3]
    · have e : a = b := UInt8.toNat_inj.1 h
      subst e
      have h2 : ¬ a < a := fun k => by have := UInt8.lt_iff_toNat_lt.1 k; omega
      simp [h2, ih]
    · have h1 : b < a := UInt8.lt_iff_toNat_lt.2 h
      have h2 : ¬ a < b := fun k => by have := UInt8.lt_iff_toNat_lt.1 k; omega
      have h3 : a ≠ b := fun e => by subst e; omega
      simp [h1, h2, h3]
theorem ltS_leS (a b : ByteArray) : ltS a b = !leS b a := less_or _ _
theorem toList_data (a : ByteArray) : a.toList = a.data.toList := ByteArray.toList_eq a
theorem eqS_iff (a b : ByteArray) : eqS a b = true ↔ a = b := by
  unfold eqS
  rw [beq_iff_eq, toList_data, toList_data]
  constructor
  · intro h
    cases a
    cases b
    simp only [Array.toList_inj] at h
    rw [h]
  · intro h
    rw [h]
theorem rise_lo {f : Nat → Int} {n : Nat} {lo : Int} (h1 : ∀ i, i + 1 < n → f i < f (i + 1)) (h0 : 0 < n → lo ≤ f 0) : ∀ i, i < n → lo + i ≤ f i
  | 0, hi => by have := h0 (by omega); simpa using this
  | i + 1, hi => by
    have := rise_lo h1 h0 i (by omega)
    have := h1 i hi
    omega
theorem rise_len {f : Nat → Int} {n : Nat} {lo hi : Int} (h1 : ∀ i, i + 1 < n → f i < f (i + 1)) (h2 : ∀ i, i < n → lo ≤ f i ∧ f i ≤ hi) (h3 : lo ≤ hi + 1) : (n : Int) ≤ hi - lo + 1 := by
  cases n with
  | zero => simp; omega
  | succ n =>
    have := rise_lo h1 (fun _ => (h2 0 (by omega)).1) n (by omega)
    have := (h2 n (by omega)).2
    omega
theorem dec_lt (a b : Int) : decide (a < b) = !decide (b ≤ a) := by
  by_cases h : a < b
  · rw [decide_eq_true h, decide_eq_false (by omega)]; rfl
  · rw [decide_eq_false h, decide_eq_true (by omega)]; rfl
theorem gone_eq (l : List Int) : allB l.length (goneR l) = goneC l := by
  have h := rise_all (n := l.length) (p := goneQ l) (lt := goneP l) (le := fun i => decide (l.getD i 0 ≤ l.getD (i - 1) 0)) (fun i _ => dec_lt _ _)
  rw [show allB l.length (goneR l) = allB l.length (fun i => goneQ l i && !(decide (0 < i) && decide (l.getD i 0 ≤ l.getD (i - 1) 0))) from rfl, h]
  unfold goneC
  cases e : (allB (l.length - 1) (goneP l) && allB l.length (goneQ l))
  · rw [Bool.and_assoc, e]; simp
  · rw [Bool.and_assoc, e]
    simp only [Bool.and_eq_true] at e
    have := rise_len (f := fun i => l.getD i 0) (n := l.length) (lo := 0) (hi := 7) (fun i hi => by simpa [goneP] using allB_iff.1 e.1 i (by omega)) (fun i hi => inB_t (allB_iff.1 e.2 i hi)) (by omega)
    simp
    omega
theorem bus_eq (l : List Bu) : (decide ((l.length : Int) ≤ 4) && allB l.length (busR l)) = busC l := by
  have h := rise_all (n := l.length) (p := busQ l) (lt := busP l) (le := fun i => leS (l.getD i bu0).nam (l.getD (i - 1) bu0).nam) (fun i _ => ltS_leS _ _)
  have e : allB l.length (busR l) = allB l.length (fun i => busQ l i && !(decide (0 < i) && leS (l.getD i bu0).nam (l.getD (i - 1) bu0).nam)) := allB_congr fun i _ => by
    unfold busR busQ buC
    rw [Bool.and_assoc (worE _ 8 == 0), Bool.and_comm (inB _ 0 2), ← Bool.and_assoc]
  rw [e, h]
  unfold busC
  rw [Bool.and_assoc]
theorem allB_and (n : Nat) (p q : Nat → Bool) : allB n (fun i => p i && q i) = (allB n p && allB n q) := by
  rw [Bool.eq_iff_iff, Bool.and_eq_true, allB_iff, allB_iff, allB_iff]
  simp only [Bool.and_eq_true]
  exact ⟨fun h => ⟨fun j hj => (h j hj).1, fun j hj => (h j hj).2⟩, fun h j hj => ⟨h.1 j hj, h.2 j hj⟩⟩
theorem pas_eq (l : List Pa) : allB l.length (pasR l) = pasC l := by
  have h := rise_all (n := l.length) (p := pasQ l) (lt := pasP l) (le := fun i => decide ((l.getD i pa0).n ≤ (l.getD (i - 1) pa0).n)) (fun i _ => dec_lt _ _)
  rw [show allB l.length (pasR l) = allB l.length (fun i => pasQ l i && !(decide (0 < i) && decide ((l.getD i pa0).n ≤ (l.getD (i - 1) pa0).n))) from rfl, h]
  unfold pasC
  cases e : (allB (l.length - 1) (pasP l) && allB l.length (pasQ l))
  · rw [Bool.and_assoc, e]; simp
  · rw [Bool.and_assoc, e]
    simp only [Bool.and_eq_true] at e
    have := rise_len (f := fun i => (l.getD i pa0).n) (n := l.length) (lo := 1) (hi := 5) (fun i hi => by simpa [pasP] using allB_iff.1 e.1 i (by omega)) (fun i hi => by
      have := allB_iff.1 e.2 i hi
      unfold pasQ paC at this
      simp only [Bool.and_eq_true] at this
      exact inB_t this.1.1) (by omega)
    simp
    omega
theorem ups_eq (S : St) : (decide ((S.ups.length : Int) ≤ 4) && allB S.ups.length (upsR S)) = upsC S := by
  have h := rise_all (n := S.ups.length) (p := upsQ S) (lt := upsP S.ups) (le := fun i => decide ((S.ups.getD i up0).id ≤ (S.ups.getD (i - 1) up0).id)) (fun i _ => dec_lt _ _)
  have e : allB S.ups.length (upsR S) = allB S.ups.length (fun i => upsQ S i && !(decide (0 < i) && decide ((S.ups.getD i up0).id ≤ (S.ups.getD (i - 1) up0).id))) := allB_congr fun i _ => by
    unfold upsR upsQ upC
    rw [pas_eq, Bool.and_assoc, Bool.and_assoc, Bool.and_comm (pasC _)]
  rw [e, h]
  unfold upsC
  rw [Bool.and_assoc]
theorem nul_eq (l : List Ve) {k : Nat} (hk : k < l.length) : allB k (fun j => !twoN (l.getD k ve0) (l.getD j ve0)) = nulQ l k := by
  obtain ⟨X, hX⟩ : ∃ X, l.getD k ve0 = X := ⟨_, rfl⟩
  unfold nulQ
  rw [hX]
  cases hn : X.nul
  · rw [Bool.not_false, Bool.true_or]
    exact allB_t fun j _ => by simp [twoN, hn]
  · rw [Bool.not_true, Bool.false_or, Bool.eq_iff_iff, allB_iff, beq_iff_eq]
    have e : (∀ j, j < k → (!twoN X (l.getD j ve0)) = true) ↔ nulF l k X.bu X.ke = 0 := by
      unfold nulF
      rw [List.countP_eq_zero]
      constructor
      · intro h v hv
        obtain ⟨j, hj, e⟩ := mem_at (d := ve0) hv
        rw [List.length_take] at hj
        have hg : (l.take k).getD j ve0 = l.getD j ve0 := by simp [List.getD, List.getElem?_take, show j < k by omega]
        rw [hg] at e
        have := h j (by omega)
        rw [e] at this
        intro hc
        simp only [Bool.and_eq_true, decide_eq_true_eq] at hc
        have h1 : twoN X v = true := by
          unfold twoN
          rw [hn, hc.1.1, (eqS_iff X.bu v.bu).2 hc.1.2.symm, (eqS_iff X.ke v.ke).2 hc.2.symm]
          rfl
        rw [h1] at this
        cases this
      · intro h j hj
        have hm : l.getD j ve0 ∈ l.take k := by
          rw [List.getD, List.getElem?_eq_getElem (by omega)]
          exact List.mem_take_iff_getElem.2 ⟨j, by omega, rfl⟩
        have := h _ hm
        cases ht : twoN X (l.getD j ve0)
        · rfl
        · unfold twoN at ht
          simp only [Bool.and_eq_true] at ht
          refine absurd ?_ this
          simp only [Bool.and_eq_true, decide_eq_true_eq]
          exact ⟨⟨ht.1.1.2, ((eqS_iff _ _).1 ht.1.2).symm⟩, ((eqS_iff _ _).1 ht.2).symm⟩
    rw [e]
    omega
theorem ves_eq (S : St) : (decide ((S.ves.length : Int) ≤ 40) && allB S.ves.length (vesR S)) = vesC S := by
  have h := rise_all (n := S.ves.length) (p := vesQ S) (lt := vesP S.ves) (le := fun i => decide ((S.ves.getD i ve0).id ≤ (S.ves.getD (i - 1) ve0).id)) (fun i _ => dec_lt _ _)
  have e : allB S.ves.length (vesR S) = allB S.ves.length (fun i => (vesQ S i && !(decide (0 < i) && decide ((S.ves.getD i ve0).id ≤ (S.ves.getD (i - 1) ve0).id))) && nulQ S.ves i) := allB_congr fun i hi => by
    unfold vesR vesQ
    rw [nul_eq S.ves hi]
  rw [e, allB_and, h]
  unfold vesC nulC
  rw [Bool.and_assoc, Bool.and_assoc, Bool.and_assoc]
theorem que_eq (S : St) : (decide ((S.que.length : Int) ≤ 10) && allB S.que.length (queR S)) = queC S := by
  have e : allB S.que.length (queR S) = allB S.que.length (queQ S) := allB_congr fun i hi => by
    unfold queR queQ queB
    obtain ⟨X, hX⟩ : ∃ X, S.que.getD i ak0 = X := ⟨_, rfl⟩
    rw [hX]
    have hc : allB i (fun j => !((S.que.getD j ak0).ver == X.ver)) = (((vers S i ++ [X.ver]).count X.ver : Int) == 1) := by
      rw [Bool.eq_iff_iff, allB_iff, beq_iff_eq, List.count_append, List.count_singleton_self]
      have e : (∀ j, j < i → (!((S.que.getD j ak0).ver == X.ver)) = true) ↔ (vers S i).count X.ver = 0 := by
        rw [List.count_eq_zero]
        unfold vers
        constructor
        · intro h hm
          obtain ⟨v, hv, e⟩ := List.mem_map.1 hm
          obtain ⟨j, hj, e2⟩ := mem_at (d := ak0) hv
          rw [List.length_take] at hj
          have hg : (S.que.take i).getD j ak0 = S.que.getD j ak0 := by simp [List.getD, List.getElem?_take, show j < i by omega]
          rw [hg] at e2
          have := h j (by omega)
          rw [e2, e] at this
          simp at this
        · intro h j hj
          cases ht : ((S.que.getD j ak0).ver == X.ver)
          · rfl
          · refine absurd (List.mem_map.2 ⟨S.que.getD j ak0, ?_, by simpa using ht⟩) h
            rw [List.getD, List.getElem?_eq_getElem (by omega)]
            exact List.mem_take_iff_getElem.2 ⟨j, by omega, rfl⟩
      rw [e]
      omega
    rw [hc, Bool.and_assoc, Bool.and_comm (askB X), ← Bool.and_assoc]
  rw [e]
  rfl
theorem sec_eq (S : St) : allB (secs S).length (secR (secs S)) = secC S := by
  unfold secC
  obtain ⟨l, hl⟩ : ∃ l, secs S = l := ⟨_, rfl⟩
  rw [hl]
  have h1 : l.all (fun x => inB x 0 199 && (l.count x : Int) == 1) = (allB l.length (fun i => inB (l.getD i 0) 0 199) && allB l.length (fun i => (l.count (l.getD i 0) : Int) == 1)) := by
    rw [← allB_and, ← allB_all (fun x => inB x 0 199 && (l.count x : Int) == 1) 0]
  have h2 : allB l.length (secR l) = (allB l.length (fun i => inB (l.getD i 0) 0 199) && allB l.length (fun i => allB i (fun k => !(l.getD i 0 == l.getD k 0)))) := by
    rw [← allB_and]; rfl
  rw [h1, h2]
  congr 1
  rw [Bool.eq_iff_iff, allB_iff, allB_iff]
  have hnd : l.Nodup ↔ ∀ i, i < l.length → allB i (fun k => !(l.getD i 0 == l.getD k 0)) = true := by
    show l.Pairwise (· ≠ ·) ↔ _
    rw [List.pairwise_iff_getElem]
    constructor
    · intro h i hi
      refine allB_t fun k hk => ?_
      have := h k i (by omega) hi hk
      simp [List.getD, hi, show k < l.length by omega]
      exact fun e => this e.symm
    · intro h i j hi hj hij
      have := allB_iff.1 (h j hj) i hij
      simp [List.getD, hj, hi] at this
      exact fun e => this e.symm
  constructor
  · intro h i hi
    have hn := hnd.2 h
    have hm : l.getD i 0 ∈ l := by simp [List.getD, hi]
    have h1 := List.nodup_iff_count.1 hn (l.getD i 0)
    have h2 := List.count_pos_iff.2 hm
    rw [beq_iff_eq]
    omega
  · intro h
    refine hnd.1 (List.nodup_iff_count.2 fun x => ?_)
    by_cases hm : x ∈ l
    · obtain ⟨k, hk, e⟩ := mem_at (d := 0) hm
      have := h k hk
      rw [e, beq_iff_eq] at this
      omega
    · rw [List.count_eq_zero.2 hm]; omega
theorem st_eq (S : St) : stR S = stC S := by
  unfold stR stC
  rw [← gone_eq, ← bus_eq, ← ves_eq, ← ups_eq, ← que_eq, ← sec_eq]
  simp only [Bool.and_assoc, Bool.and_left_comm, Bool.and_comm]
end Go.Proofs.YtdgmdapijhbocaaGreat

/- state.Free, the document's FreeOf, and lists of numbers that are held against each other. -/
namespace Go.Proofs.YtdgmdapijhbocaaGreat
open Go.RowKit Go.Maps
set_option maxRecDepth 100000
set_option linter.unusedVariables false
set_option linter.unusedSimpArgs false
theorem ret_tup {o : Value} {a b : Int} (h : a = b) : Ending.returned (.tuple #[o, .int .i64 a]) = .returned (.tuple #[o, .int .i64 b]) := by rw [h]
def freK (S : St) (k : Nat) : List Int := ((List.range k).map (fun n : Nat => (n : Int))).filter (fun x => decide ((secs S).count x = 0))
theorem freK_yes {S : St} {k : Nat} (h : (secs S).count (k : Int) = 0) : freK S (k + 1) = freK S k ++ [(k : Int)] := by
  unfold freK
  rw [List.range_succ, List.map_append, List.filter_append]
  simp [h]
theorem freK_no {S : St} {k : Nat} (h : (secs S).count (k : Int) ≠ 0) : freK S (k + 1) = freK S k := by
  unfold freK
  rw [List.range_succ, List.map_append, List.filter_append]
  simp [h]
theorem freK_len (S : St) (k : Nat) : (freK S k).length ≤ k := by
  unfold freK
  have := List.length_filter_le (fun x => decide ((secs S).count x = 0)) ((List.range k).map (fun n : Nat => (n : Int)))
  simpa using this
theorem freK_wf {S : St} {k : Nat} (hk : k ≤ 1000) : ∀ x ∈ freK S k, (Lit.int .i64 x).wf = true := by
  intro x hx
  unfold freK at hx
  obtain ⟨n, hn, rfl⟩ := List.mem_map.1 (List.mem_filter.1 hx).1
  have := List.mem_range.1 hn
  exact wfNat (by omega)
def freE (S : St) (m : Int) : Int := if stC S then (if inB m 0 200 then 0 else 2) else 9
def freL (S : St) (m : Int) : List Int := if freE S m = 0 then freK S m.toNat else []
theorem freE_9 {S : St} {m : Int} (h : stC S = false) : freE S m = 9 ∧ freL S m = [] := by simp [freE, freL, h]
theorem freE_2 {S : St} {m : Int} (h : stC S = true) (h2 : inB m 0 200 = false) : freE S m = 2 ∧ freL S m = [] := by simp [freE, freL, h, h2]
theorem freE_0 {S : St} {m : Nat} (h : stC S = true) (h2 : inB (m : Int) 0 200 = true) : freE S m = 0 ∧ freL S m = freK S m := by simp [freE, freL, h, h2]
theorem stC_secs {S : St} (h : stC S = true) : (secs S).length ≤ 1000 := by
  unfold stC at h
  simp only [Bool.and_eq_true] at h
  exact secs_le h.1.1.1.2 h.1.1.2
set_option maxHeartbeats 2000000 in
theorem free_any (S : St) (b v u q g : Value) (m : Int) (w : World) (hS : Sta w b v u q g S) :
    Calls Tryz.prog 14 #[stV S b v u q g, .int .i64 m] w fun e w' => ∃ o, e = .returned (.tuple #[o, .int .i64 (freE S m)]) ∧ OwI w' w.heap.size o (freL S m) ∧ Below w.heap.size w w' := by
  have HS := hide hS
  clear hS
  obtain ⟨i0, hi, hz0, hz1, hz2⟩ := info_parts infoI
  obtain ⟨E, hE⟩ : ∃ E, freE S m = E := ⟨_, rfl⟩
  obtain ⟨L, hL⟩ : ∃ L, freL S m = L := ⟨_, rfl⟩
  rw [hE, hL]
  have HE := hide hE
  have HL := hide hL
  clear hE hL
  go_enter Tryz.func14, Tryz.ntmps14
  go_wp2_with fail
  refine (check_any S b v u q g _ ((unhide HS).up (bl1 _ _))).mono ?_
  rintro e w1 ⟨rfl, hb⟩
  have hX := (BoxS.new w S b v u q g 29).up hb
  have hw1 := bl_trans (bl1 w _) hb
  have x0 := hX.c0
  have x1 := hX.c1
  have x2 := hX.c2
  have x3 := hX.c3
  have x4 := hX.c4
  have x5 := hX.c5
  have x6 := hX.c6
  clear hX hb
  obtain ⟨F, hF⟩ : ∃ F, stE S = F := ⟨_, rfl⟩
  rw [hF]
  have HF := hide hF
  clear hF
  cases hc : stC S
  · obtain ⟨k1, k2⟩ := freE_9 (m := m) hc
    have hf : F = 9 := by rw [← unhide HF]; exact stE_f hc
    have HE' : Hid (E = 9) := by rw [← unhide HE]; exact k1
    have HL' : Hid (L = []) := by rw [← unhide HL]; exact k2
    clear k1 k2 hc
    subst hf
    go_wp2
    go_ret2
    exact ⟨_, ret_tup (unhide HE').symm, by rw [unhide HL']; exact OwI.nil _ _, hw1⟩
  have hf : F = 0 := by rw [← unhide HF]; exact stE_t hc
  have hsl := stC_secs hc
  have HC := hide hc
  clear hc
  subst hf
  go_wp2_with fail
  refine (within_any _ _ _ _).mono ?_
  rintro e w2 ⟨rfl, rfl⟩
  cases h2 : inB m 0 200
  · obtain ⟨k1, k2⟩ := freE_2 (unhide HC) h2
    have HE' : Hid (E = 2) := by rw [← unhide HE]; exact k1
    have HL' : Hid (L = []) := by rw [← unhide HL]; exact k2
    clear k1 k2 h2
    go_wp2
    go_ret2
    exact ⟨_, ret_tup (unhide HE').symm, by rw [unhide HL']; exact OwI.nil _ _, hw1⟩
  obtain ⟨m0, m1⟩ := inB_t h2
  obtain ⟨n, rfl⟩ := Int.eq_ofNat_of_zero_le m0
  obtain ⟨k1, k2⟩ := freE_0 (unhide HC) h2
  have HE' : Hid (E = 0) := by rw [← unhide HE]; exact k1
  have HL' : Hid (L = freK S n) := by rw [← unhide HL]; exact k2
  clear k1 k2 h2
  go_wp2_with fail
  refine (takersOf_any S b v u q g _ ((unhide HS).up hw1) (by omega)).mono ?_
  rintro e W ⟨M, rfl, hle, hC, hbt⟩
  have HCN := hide hC
  have hwW := bl_trans hw1 hbt
  clear hC hbt x0 x1 x2 x3 x4 x5 x6
  go_wp2
  go_loopw [7, 9, 21] (fun o _ i wr => ∃ k : Nat, k ≤ n ∧ i = .int .i64 k ∧ Below W.heap.size W wr ∧ OwI wr W.heap.size o (freK S k)) (fun _ _ i _ => n - (intOf i).toNat)
  case atStart => exact ⟨0, Nat.zero_le _, rfl, Below.refl _ _, OwI.nil _ _⟩
  case round =>
    obtain ⟨k, hk, rfl, hbq, hO⟩ := hrel
    have HOQ := hide hO
    clear hO
    by_cases hlt : k < n
    · have hlk := ((unhide HCN).up hbq).look (x := (k : Int)) (wfNat (by omega))
      obtain ⟨c, hcc⟩ : ∃ c : Nat, (secs S).count (k : Int) = c := ⟨_, rfl⟩
      rw [hcc] at hlk
      have hln := freK_len S k
      have hWq := hbq.size
      by_cases h0 : c = 0
      · have HZ : Hid (freK S (k + 1) = freK S k ++ [(k : Int)]) := freK_yes (hcc.trans h0)
        clear hcc
        subst h0
        obtain ⟨Q, hQ⟩ : ∃ Q, freK S k = Q := ⟨_, rfl⟩
        rw [hQ] at HOQ HZ hln
        clear hQ
        go_wp2_with (first
          | (at_builtin; refine wpList_append_own _ rfl _ _ 27 rfl W.heap.size 3 i0 (.int .i64 0) 1 8 Tryz.underlying27 hi hz0 hz1 hz2 rfl (by decide) _ _ _ rfl ((unhide HOQ).alloc _) ⟨wr.heap.size, 0, none⟩ 1 1 [.int .i64 (k : Int)] rfl rfl (cell_one_new _ _ _) (oneI _) (by unfold maxLen; omega) (by omega) (by simp; omega) ?_; intro v' w1' hown' hgrow hnil)
          | go_in)
        have hb1 := (bl_alloc hbq _).grown hgrow (bl_alloc hbq _).size (fun j hj => own_blk (unhide HOQ) j hj)
        rw [i64s_snoc] at hown'
        clear hgrow hnil
        exact ⟨⟨k + 1, by omega, by go_num, hb1, by rw [unhide HZ]; unfold OwI; rw [List.length_append]; exact hown'⟩, by simp [intOf]; omega⟩
      · have HZ : Hid (freK S (k + 1) = freK S k) := freK_no (by rw [hcc]; exact h0)
        have hc0 : ((c : Int) == 0) = false := by simp; omega
        clear hcc
        go_wp2
        go_roundw
        case rel => exact ⟨k + 1, by omega, by go_num, hbq, by rw [unhide HZ]; exact unhide HOQ⟩
        case measure => (simp [intOf] <;> omega)
    · obtain rfl : k = n := by omega
      go_wp2
      go_ret2
      exact ⟨_, ret_tup (unhide HE').symm, by rw [unhide HL']; exact own_lo (unhide HOQ) hwW.size, bl_trans hwW hbq⟩
end Go.Proofs.YtdgmdapijhbocaaGreat

/- state.findLast; the document's intsCopy; versions that are held against each other. -/
namespace Go.Proofs.YtdgmdapijhbocaaGreat
open Go.RowKit Go.Maps
set_option maxRecDepth 100000
set_option linter.unusedVariables false
set_option linter.unusedSimpArgs false
/-- The last of the first n places where it holds; -1: there is none. -/
def lastB : Nat → (Nat → Bool) → Int
  | 0, _ => -1
  | n + 1, p => if p n then (n : Int) else lastB n p
def latP (l : List Ve) (bu ke : ByteArray) (i : Nat) : Bool := eqS (l.getD i ve0).bu bu && eqS (l.getD i ve0).ke ke
theorem latest_1 (X : Ve) (ua : Option Addr) (un uc : Nat) (bu ke : ByteArray) (B C : Nat) (w : World) (h : w.cell? ⟨B, 0, none⟩ = some (.string bu)) (h2 : w.cell? ⟨C, 0, none⟩ = some (.string ke)) :
    Calls Tryz.prog 38 #[veV X (.slice ua un uc), .pointer (some ⟨B, 0, none⟩), .pointer (some ⟨C, 0, none⟩)] w fun e w' => e = .returned (.bool (eqS X.bu bu && eqS X.ke ke)) ∧ Below w.heap.size w w' := by
  have hB := World.block_lt_of_cell? w _ h
  have hC := World.block_lt_of_cell? w _ h2
  simp at hB hC
  have HE : Hid ((eqS X.bu bu && eqS X.ke ke) = ((X.bu.toList == bu.toList) && (X.ke.toList == ke.toList))) := rfl
  cases t : (X.bu.toList == bu.toList)
  · rw [t] at HE
    go_enter Tryz.func38, Tryz.ntmps38
    go_wp2
    go_ret
    exact ⟨ret_bool (by rw [unhide HE]; rfl), bl1 _ _⟩
  · rw [t] at HE
    go_enter Tryz.func38, Tryz.ntmps38
    go_wp2
    go_ret
    exact ⟨ret_bool (by rw [unhide HE]; rfl), bl1 _ _⟩
set_option maxHeartbeats 1000000 in
theorem findLast_any (C1 C2 : Value) (a : Option Addr) (cap : Nat) (xs : List Ve) (p : Nat → Bool) (w : World) (hL : Lst RVe 12 ve0 w (.slice a xs.length cap) xs) (hn : xs.length ≤ 9223372036854775807)
    (hst : ∀ (k : Nat) (wr : World) (X : Ve) (ua : Option Addr) (un uc : Nat), k < xs.length → xs.getD k ve0 = X → Below w.heap.size w wr → Ints wr (.slice ua un uc) X.sec → Calls Tryz.prog 38 #[veV X (.slice ua un uc), C1, C2] wr fun e w' => e = .returned (.bool (p k)) ∧ Below wr.heap.size wr w') :
    Calls Tryz.prog 37 #[.slice a xs.length cap, .func (.func 38) #[] #[C1, C2]] w fun e w' => e = .returned (.int .i64 (lastB xs.length p)) ∧ Below w.heap.size w w' := by
  have HL := hide hL
  have HST := hide hst
  clear hL hst
  obtain ⟨N, hN⟩ : ∃ N, xs.length = N := ⟨_, rfl⟩
  have HN := hide hN
  rw [hN] at hn HL HST ⊢
  clear hN
  go_enter Tryz.func37, Tryz.ntmps37
  go_wp2
  go_loopw [5] (fun i wr => ∃ k : Nat, k ≤ N ∧ i = .int .i64 ((k : Int) - 1) ∧ Below w.heap.size w wr ∧ lastB N p = lastB k p) (fun i _ => (intOf i + 1).toNat)
  case atStart => exact ⟨N, Nat.le_refl _, rfl, Below.refl _ _, rfl⟩
  case round =>
    obtain ⟨k, hk, rfl, hb, hall⟩ := hrel
    have HA := hide hall
    clear hall
    cases k with
    | zero =>
      go_wp2
      go_ret
      exact ⟨ret_int (by rw [unhide HA]; rfl), hb⟩
    | succ m =>
      have hm : ((m + 1 : Nat) : Int) - 1 = (m : Int) := by omega
      rw [hm]
      clear hm
      obtain ⟨b, o, rfl, r0⟩ := Lst.at (unhide HL) (i := m) (by rw [unhide HN]; omega)
      obtain ⟨X, hX⟩ : ∃ X, xs.getD m ve0 = X := ⟨_, rfl⟩
      rw [hX] at r0
      have r := RVe.up hb r0
      have HX := hide hX
      clear hX r0
      obtain ⟨U, hu, hi⟩ := r.c8
      obtain ⟨ua, uc, rfl, _⟩ := hi.form
      have HII := hide hi
      have c0 := r.c0
      have c1 := r.c1
      have c2 := r.c2
      have c3 := r.c3
      have c4 := r.c4
      have c5 := r.c5
      have c6 := r.c6
      have c7 := r.c7
      have c9 := r.c9
      have c10 := r.c10
      have c11 := r.c11
      clear r hi
      have hm0 : (0 : Int) ≤ (m : Int) := Int.natCast_nonneg _
      have hm1 : (m : Int) < (N : Int) := by omega
      go_wp2_with fail
      refine (unhide HST m _ X _ _ _ (by omega) (unhide HX) hb (unhide HII)).mono ?_
      rintro e w1 ⟨rfl, hb1⟩
      cases hpk : p m
      · have HZ : Hid (lastB (m + 1) p = lastB m p) := by show (if p m then (m : Int) else lastB m p) = _; rw [hpk]; rfl
        go_wp2
        go_roundw
        case rel => exact ⟨m, by omega, rfl, bl_trans hb hb1, by rw [unhide HA, unhide HZ]⟩
        case measure => (simp [intOf] <;> omega)
      · have HZ : Hid (lastB (m + 1) p = (m : Int)) := by show (if p m then (m : Int) else lastB m p) = _; rw [hpk]; rfl
        go_wp2
        go_ret
        exact ⟨ret_int (by rw [unhide HA, unhide HZ]), bl_trans hb hb1⟩
end Go.Proofs.YtdgmdapijhbocaaGreat

/- state.copyList of numbers, copyVersion. -/
namespace Go.Proofs.YtdgmdapijhbocaaGreat
open Go.RowKit Go.Maps
set_option maxRecDepth 100000
set_option linter.unusedVariables false
set_option linter.unusedSimpArgs false
theorem addI (b o i : Nat) : (⟨b, o, none⟩ : Addr).add i = ⟨b, o + i, none⟩ := by unfold Addr.add; split <;> simp_all
theorem sizeI : (Tryz.prog.info? 3).map (·.size) = some 1 := by kernel_rfl
theorem setRow_bl {a w : World} (h : Below a.heap.size a w) {g : Nat} (hg : a.heap.size ≤ g) (R : Array Value) : Below a.heap.size a (w.setRow g R) :=
  h.trans ⟨rfl, rfl, rfl, by simp [World.setRow], fun k hk => setRow_other w g k _ (by omega)⟩
set_option maxHeartbeats 1000000 in
theorem copyInts_any (x : Value) (l : List Int) (w : World) (hx : Ints w x l) (hn : l.length * 8 ≤ 281474976710656) : Calls Tryz.prog 59 #[x] w fun e w' => ∃ o, e = .returned o ∧ OwI w' w.heap.size o l ∧ Below w.heap.size w w' := by
  obtain ⟨i0, hi, hz0, hz1, hz2⟩ := info_parts infoI
  obtain ⟨a, ac, rfl, a1, a2⟩ := hx.form
  unfold maxLen at a2
  obtain ⟨n, hl⟩ : ∃ n, l.length = n := ⟨_, rfl⟩
  obtain ⟨R, hR⟩ : ∃ R, madeCells #[Value.int .i64 0] n = R := ⟨_, rfl⟩
  have hRs : R.size = n := by rw [← hR]; exact size_madeCells _ _
  have hmk : (Instr.makeSlice 27 (.int .i64 (n : Int)) (.int .i64 (n : Int))).run Tryz.prog w = .ok (.slice (some ⟨w.heap.size, 0, none⟩) n n) (w.alloc (.cells R 3)) := by
    have h := run_make (P := Tryz.prog) (w := w) 27 3 i0 (.int .i64 0) Tryz.underlying27 hi hz0 .i64 .i64 (n : Int) (n : Int) (by omega) (Int.le_refl _) (by rw [hz2]; omega) (by omega)
    simpa [hz1, Value.cells, hR] using h
  obtain ⟨W1, hW1⟩ : ∃ W1, w.alloc (.cells R 3) = W1 := ⟨_, rfl⟩
  rw [hW1] at hmk
  have hb1 : Below w.heap.size w W1 := by rw [← hW1]; exact bl1 _ _
  have hrow : W1.heap[w.heap.size]? = some (.cells R 3 (0, 0)) := by rw [← hW1]; exact heap_alloc_new _ _
  have hlen : (i64s l).length = n := by rw [i64s_length, hl]
  have hdrop : (R.toList.take 0 ++ i64s l ++ R.toList.drop (0 + (i64s l).length)).toArray = (i64s l).toArray := by
    rw [List.drop_of_length_le (by rw [hlen, Array.length_toList]; omega)]; simp
  have hcp : ∀ ty, ∃ W2, (Builtin.copy_ #[27, 27] ty #[.slice (some ⟨w.heap.size, 0, none⟩) n n, .slice a l.length ac]).run Tryz.prog W1 = .ok (goInt n) W2 ∧ OwI W2 w.heap.size (.slice (some ⟨w.heap.size, 0, none⟩) n n) l ∧ Below w.heap.size w W2 := by
    intro ty
    cases a with
    | none =>
      have h0 : l = [] := by
        cases l with
        | nil => rfl
        | cons y l =>
          obtain ⟨_, _, e, _⟩ := Lst.at hx (i := 0) (by simp)
          cases e
      subst h0
      obtain rfl : n = 0 := by simpa using hl.symm
      refine ⟨W1, by simp [Builtin.copy_, run_underlying Tryz.underlying27, Builtin.lenOf, Builtin.firstCells, storeCells, Result.andThen], ?_, hb1⟩
      exact ⟨by simp [i64s], .inr ⟨w.heap.size, 0, R, rfl, Nat.le_refl _, hrow, Nat.le_refl _, by simp, by simpa using hRs, by simp [i64s]⟩⟩
    | some a =>
      have hh := run_copy_row (P := Tryz.prog) W1 27 27 ty 3 w.heap.size 0 n n a l.length ac R 3 (i64s l) Tryz.underlying27 sizeI hrow (by rw [hlen, hl]; exact (Nat.min_self n).symm) (fun j v hj => by
        have hjl : j < l.length := by have := (List.getElem?_eq_some_iff.1 hj).1; rwa [i64s_length] at this
        obtain ⟨b', o', e', r⟩ := Lst.at hx hjl
        injection e' with e'
        subst e'
        rw [addI, scell_up hb1 (by have := r.1; rwa [Nat.mul_one] at this)]
        simp [i64s, hjl] at hj
        rw [← hj]
        simp [List.getD, hjl]) (by rw [hlen]; omega) (fun u hu => by unfold i64s at hu; obtain ⟨q, _, rfl⟩ := List.mem_map.1 hu; rfl)
      rw [hdrop, hlen] at hh
      refine ⟨_, hh, ?_, setRow_bl hb1 (Nat.le_refl _) _⟩
      refine ⟨by rw [hlen, hl, Nat.mul_one], .inr ⟨w.heap.size, n, (i64s l).toArray, by rw [hl], Nat.le_refl _, ?_, by omega, by unfold maxLen; omega, by simpa using hlen, by rw [hl, Nat.mul_one, ← hlen]; simp⟩⟩
      exact setRow_heap W1 w.heap.size _ _ 3 _ hrow
  obtain ⟨W2, hcp', hO, hb2⟩ := hcp 3
  rw [hl] at hcp' ⊢
  have HO := hide hO
  clear hcp hO hdrop hlen hrow hx hW1 hR hRs hb1
  go_enter Tryz.func59, Tryz.ntmps59
  go_wp2
  go_ret
  exact ⟨_, rfl, unhide HO, hb2⟩
end Go.Proofs.YtdgmdapijhbocaaGreat

/- state.copyVersion. -/
namespace Go.Proofs.YtdgmdapijhbocaaGreat
open Go.RowKit Go.Maps
set_option maxRecDepth 100000
set_option linter.unusedVariables false
set_option linter.unusedSimpArgs false
theorem fz_of {w : World} {g : Nat} {c : Array Value} {t : TypeId} (h : w.heap[g]? = some (.cells c t (0, 0))) (i : Nat) : w.frozen? ⟨g, i, none⟩ = false := by simp [World.frozen?, h]
abbrev zeroVe : Array Value := #[.int .i64 0, .string ⟨#[]⟩, .string ⟨#[]⟩, .bool false, .bool false, .int .i64 0, .int .i64 0, .int .i64 0, .slice none 0 0, .int .i64 0, .int .i64 0, .int .i64 0]
theorem OwI.low {w : World} {B : Nat} {v : Value} {xs : List Int} (h : OwI w B v xs) {g i : Nat} (hg : g < B) (u : Value) : OwI (w.setCell ⟨g, i, none⟩ u) B v xs :=
  World.ownsRow.kept (row := some g) h ⟨rfl, rfl, rfl, by simp [World.setCell], fun k hk hne => Below.heap_setCell _ _ _ _ (fun e => hne (by rw [e]))⟩ (.inr (fun e => by have := own_blk h g e; omega))
set_option maxHeartbeats 1000000 in
theorem copyVersion_any (X : Ve) (ua : Option Addr) (un uc : Nat) (w : World) (hI : Ints w (.slice ua un uc) X.sec) (hn : X.sec.length * 8 ≤ 281474976710656) :
    Calls Tryz.prog 39 #[veV X (.slice ua un uc)] w fun e w' => ∃ o, e = .returned (veV X o) ∧ OwI w' w.heap.size o X.sec ∧ Below w.heap.size w w' := by
  have HI := hide hI
  clear hI
  go_enter Tryz.func39, Tryz.ntmps39
  go_wp2_with fail
  refine (copyInts_any _ X.sec _ (Ints.up (bl_alloc (bl1 _ _) _) (unhide HI)) hn).mono ?_
  rintro e w1 ⟨o, rfl, hO, hb⟩
  obtain ⟨oa, oc, rfl, o1, o2⟩ := hO.form
  obtain ⟨cX, cR⟩ := boxes hb
  have g1 : w1.heap[w.heap.size]? = some (.cells #[.int .i64 X.id, .string X.bu, .string X.ke, .bool X.nul, .bool X.mar, .int .i64 X.size, .int .i64 X.time, .int .i64 X.tier, .slice ua un uc, .int .i64 X.vol, .int .i64 X.pos, .int .i64 X.til] 36 (0, 0)) := by
    rw [hb.block w.heap.size (by simp; omega), (bl1 (w.alloc _) _).block w.heap.size (by simp)]
    exact heap_alloc_new _ _
  have f1 := fz_of g1 8
  have hsz : w.heap.size + 2 ≤ w1.heap.size := by have := hb.size; simp at this; omega
  have f2 : ∀ j, w1.frozen? ⟨w.heap.size + 1, j, none⟩ = false := fun j => by
    rw [hb.frozen (p := ⟨w.heap.size + 1, j, none⟩) (by simp)]
    exact fz_of (c := zeroVe) (t := 36) (by simpa using heap_alloc_new (w.alloc _) (.cells zeroVe 36)) j
  have x0 := cX 0 _ rfl
  have x1 := cX 1 _ rfl
  have x2 := cX 2 _ rfl
  have x3 := cX 3 _ rfl
  have x4 := cX 4 _ rfl
  have x5 := cX 5 _ rfl
  have x6 := cX 6 _ rfl
  have x7 := cX 7 _ rfl
  have x8 := cX 8 _ rfl
  have x9 := cX 9 _ rfl
  have x10 := cX 10 _ rfl
  have x11 := cX 11 _ rfl
  have z0 := cR 0 _ rfl
  have z1 := cR 1 _ rfl
  have z2 := cR 2 _ rfl
  have z3 := cR 3 _ rfl
  have z4 := cR 4 _ rfl
  have z5 := cR 5 _ rfl
  have z6 := cR 6 _ rfl
  have z7 := cR 7 _ rfl
  have z8 := cR 8 _ rfl
  have z9 := cR 9 _ rfl
  have z10 := cR 10 _ rfl
  have z11 := cR 11 _ rfl
  have hO2 : OwI w1 (w.heap.size + 2) (.slice oa X.sec.length oc) X.sec := by simpa using hO
  have HO := hide hO2
  have HB : Hid (Below w.heap.size w w1) := bl_trans (bl_alloc (bl1 _ _) _) hb
  clear cX cR g1 hO hO2 hb
  go_wp2
  refine bodyPost_ret (v := veV X (.slice oa X.sec.length oc)) (by simp [results, Tryz.results39, go_sem, *]) rfl ⟨.slice oa X.sec.length oc, rfl, ?_, ?_⟩
  · refine own_lo (B := w.heap.size + 2) ?_ (by omega)
    (iterate 13 (refine OwI.low ?_ (by omega) _))
    exact unhide HO
  · (iterate 13 (refine bl_set ?_ (by simp <;> omega) _))
    exact unhide HB
end Go.Proofs.YtdgmdapijhbocaaGreat

/- Rows whose elements have several cells; state.copyList of buckets and of asks. -/
namespace Go.Proofs.YtdgmdapijhbocaaGreat
open Go.RowKit Go.Maps
set_option maxRecDepth 100000
set_option linter.unusedVariables false
set_option linter.unusedSimpArgs false
abbrev buL (x : Bu) : List Value := [.string x.nam, .int .i64 x.mode, .string x.pre, .int .i64 x.fre, .int .i64 x.dro]
abbrev akL (x : Ak) : List Value := [.int .i64 x.ver, .int .i64 x.days, .int .i64 x.cls]
abbrev veL (x : Ve) (u : Value) : List Value := [.int .i64 x.id, .string x.bu, .string x.ke, .bool x.nul, .bool x.mar, .int .i64 x.size, .int .i64 x.time, .int .i64 x.tier, u, .int .i64 x.vol, .int .i64 x.pos, .int .i64 x.til]
abbrev paL (x : Pa) (u : Value) : List Value := [.int .i64 x.n, .int .i64 x.size, u]
abbrev upL (x : Up) (u : Value) : List Value := [.int .i64 x.id, .string x.bu, .string x.ke, u]
theorem flat_len2 {α : Type} (C : α → List Value) (k : Nat) (hk : ∀ x, (C x).length = k) : ∀ xs : List α, (xs.flatMap C).length = xs.length * k
  | [] => by simp
  | x :: xs => by simp [List.flatMap_cons, hk, flat_len2 C k hk xs, Nat.add_mul]; omega
theorem flat_at {α : Type} (C : α → List Value) (k : Nat) (hk : ∀ x, (C x).length = k) (d : α) : ∀ (xs : List α) (i j : Nat), i < xs.length → j < k → (xs.flatMap C)[i * k + j]? = (C (xs.getD i d))[j]?
  | [], i, j, hi, hj => by simp at hi
  | x :: xs, 0, j, hi, hj => by
    rw [List.flatMap_cons, Nat.zero_mul, Nat.zero_add, List.getElem?_append_left (by rw [hk]; exact hj)]
    rfl
  | x :: xs, i + 1, j, hi, hj => by
    have h := flat_at C k hk d xs i j (by simpa using hi) hj
    have e : (i + 1) * k + j = k + (i * k + j) := by rw [Nat.add_mul]; omega
    rw [List.flatMap_cons, e, List.getElem?_append_right (by rw [hk]; omega), hk, Nat.add_sub_cancel_left, h]
    rfl
/-- A row of one's own is a list that can be read. -/
theorem own_lst {α : Type} {R : World → Nat → Nat → α → Prop} {C : α → List Value} {k : Nat} {d : α} {T : TypeId} {w : World} {B : Nat} {v : Value} {xs : List α} (hk : ∀ x, (C x).length = k) (h : w.ownsRow B T k v xs.length (xs.flatMap C))
    (f : ∀ g p x, x ∈ xs → (∀ j, j < k → w.cell? ⟨g, p + j, none⟩ = (C x)[j]?) → R w g p x) : Lst R k d w v xs := by
  obtain ⟨h1, h2⟩ := h
  rcases h2 with ⟨rfl, h0⟩ | ⟨g, cap, cur, rfl, hB, hg, hc1, hc2, hcs, ht⟩
  · obtain rfl := List.length_eq_zero_iff.1 h0
    exact ⟨none, 0, rfl, Nat.le_refl _, Nat.zero_le _, fun i hi => absurd hi (Nat.not_lt_zero _)⟩
  · refine ⟨some ⟨g, 0, none⟩, cap, rfl, hc1, hc2, fun i hi => ⟨g, 0, rfl, f _ _ _ (by rw [List.getD_eq_getElem?_getD, List.getElem?_eq_getElem hi]; exact List.getElem_mem hi) fun j hj => ?_⟩⟩
    rw [← flat_at C k hk d xs i j hi hj, ← ht]
    have hlt : i * k + j < xs.length * k := Nat.lt_of_lt_of_le (Nat.add_lt_add_left hj _) (by rw [← Nat.succ_mul]; exact Nat.mul_le_mul_right _ hi)
    rw [List.getElem?_take_of_lt hlt]
    simp [World.cell?, hg]
theorem run_copy_rowN {P : Program} (w : World) (dT sT ty elem : TypeId) (g dLen dCap : Nat) (a : Addr) (sLen sCap k : Nat) (cur : Array Value) (t : TypeId) (cs : List Value)
    (hu : P.underlying dT = some (.slice elem)) (hs : (P.info? elem).map (·.size) = some k)
    (hg : w.heap[g]? = some (.cells cur t (0, 0))) (hn : cs.length = Nat.min sLen dLen * k)
    (hsrc : ∀ j v, cs[j]? = some v → w.cell? (a.add j) = some v) (hfit : cs.length ≤ cur.size) (h1 : ∀ v ∈ cs, v.oneCell' = true) :
    (Builtin.copy_ #[dT, sT] ty #[.slice (some ⟨g, 0, none⟩) dLen dCap, .slice (some a) sLen sCap]).run P w =
      .ok (goInt (Nat.min sLen dLen)) (w.setRow g (cs ++ cur.toList.drop cs.length).toArray) := by
  have hl := run_loadCells_list (P := P) w a cs hsrc
  have hst := run_storeCells_at P g 0 t cs 0 cur w hg (by simpa using hfit) h1
  cases hq : P.info? elem with
  | none => simp [hq] at hs
  | some i =>
    have hi : i.size = k := by simpa [hq] using hs
    simp [Builtin.copy_, run_underlying hu, Builtin.lenOf, Builtin.firstCells, sizeOf, typeInfo, hq, hi, ← hn, hl, hst]
theorem infoBu : (Tryz.prog.info? 69).map (fun i => (i.zero, i.size, i.bytes)) = some (some (.agg #[.string ⟨#[]⟩, .int .i64 0, .string ⟨#[]⟩, .int .i64 0, .int .i64 0]), 5, 56) := by kernel_rfl
theorem infoAk : (Tryz.prog.info? 43).map (fun i => (i.zero, i.size, i.bytes)) = some (some (.agg #[.int .i64 0, .int .i64 0, .int .i64 0]), 3, 24) := by kernel_rfl
theorem sizeBu : (Tryz.prog.info? 69).map (·.size) = some 5 := by kernel_rfl
theorem sizeAk : (Tryz.prog.info? 43).map (·.size) = some 3 := by kernel_rfl
theorem RBu.cells {w : World} {b p : Nat} {x : Bu} (h : RBu w b p x) : ∀ j, j < 5 → w.cell? ⟨b, p + j, none⟩ = (buL x)[j]? := by
  intro j hj
  match j, hj with
  | 0, _ => exact h.c0
  | 1, _ => exact h.c1
  | 2, _ => exact h.c2
  | 3, _ => exact h.c3
  | 4, _ => exact h.c4
theorem RAk.cells {w : World} {b p : Nat} {x : Ak} (h : RAk w b p x) : ∀ j, j < 3 → w.cell? ⟨b, p + j, none⟩ = (akL x)[j]? := by
  intro j hj
  match j, hj with
  | 0, _ => exact h.c0
  | 1, _ => exact h.c1
  | 2, _ => exact h.c2
abbrev OwB (w : World) (B : Nat) (v : Value) (xs : List Bu) : Prop := w.ownsRow B 69 5 v xs.length (xs.flatMap buL)
abbrev OwA (w : World) (B : Nat) (v : Value) (xs : List Ak) : Prop := w.ownsRow B 43 3 v xs.length (xs.flatMap akL)
theorem OwB.lst {w : World} {B : Nat} {v : Value} {xs : List Bu} (h : OwB w B v xs) (hs : ∀ x ∈ xs, x.nam.size ≤ maxLen ∧ x.pre.size ≤ maxLen) : Lst RBu 5 bu0 w v xs :=
  own_lst (fun _ => rfl) h fun g p x hx k => ⟨k 0 (by decide), k 1 (by decide), k 2 (by decide), k 3 (by decide), k 4 (by decide), (hs x hx).1, (hs x hx).2⟩
theorem OwA.lst {w : World} {B : Nat} {v : Value} {xs : List Ak} (h : OwA w B v xs) (hs : ∀ x ∈ xs, (Lit.int .i64 x.ver).wf = true) : Lst RAk 3 ak0 w v xs :=
  own_lst (fun _ => rfl) h fun g p x hx k => ⟨k 0 (by decide), k 1 (by decide), k 2 (by decide), hs x hx⟩
set_option maxHeartbeats 1000000 in
theorem copyListBu_any (x : Value) (l : List Bu) (w : World) (hx : Lst RBu 5 bu0 w x l) (hn : l.length * 56 ≤ 281474976710656) : Calls Tryz.prog 54 #[x] w fun e w' => ∃ o, e = .returned o ∧ OwB w' w.heap.size o l ∧ Below w.heap.size w w' := by
  obtain ⟨i0, hi, hz0, hz1, hz2⟩ := info_parts infoBu
  obtain ⟨a, ac, rfl, a1, a2⟩ := hx.form
  unfold maxLen at a2
  obtain ⟨n, hl⟩ : ∃ n, l.length = n := ⟨_, rfl⟩
  obtain ⟨R, hR⟩ : ∃ R, madeCells #[.string ⟨#[]⟩, .int .i64 0, .string ⟨#[]⟩, .int .i64 0, .int .i64 0] (n * 5) = R := ⟨_, rfl⟩
  have hRs : R.size = n * 5 := by rw [← hR]; exact size_madeCells _ _
  have hmk : (Instr.makeSlice 23 (.int .i64 (n : Int)) (.int .i64 (n : Int))).run Tryz.prog w = .ok (.slice (some ⟨w.heap.size, 0, none⟩) n n) (w.alloc (.cells R 69)) := by
    have h := run_make (P := Tryz.prog) (w := w) 23 69 i0 (.agg #[.string ⟨#[]⟩, .int .i64 0, .string ⟨#[]⟩, .int .i64 0, .int .i64 0]) Tryz.underlying23 hi hz0 .i64 .i64 (n : Int) (n : Int) (by omega) (Int.le_refl _) (by rw [hz2]; omega) (by omega)
    simpa [hz1, Value.cells, hR] using h
  obtain ⟨W1, hW1⟩ : ∃ W1, w.alloc (.cells R 69) = W1 := ⟨_, rfl⟩
  rw [hW1] at hmk
  have hb1 : Below w.heap.size w W1 := by rw [← hW1]; exact bl1 _ _
  have hrow : W1.heap[w.heap.size]? = some (.cells R 69 (0, 0)) := by rw [← hW1]; exact heap_alloc_new _ _
  have hlen : (l.flatMap buL).length = n * 5 := by rw [flat_len2 buL 5 (fun _ => rfl), hl]
  have hdrop : ((l.flatMap buL) ++ R.toList.drop (l.flatMap buL).length).toArray = (l.flatMap buL).toArray := by
    rw [List.drop_of_length_le (by rw [hlen, Array.length_toList]; omega)]; simp
  have hcp : ∀ ty, ∃ W2, (Builtin.copy_ #[23, 23] ty #[.slice (some ⟨w.heap.size, 0, none⟩) n n, .slice a l.length ac]).run Tryz.prog W1 = .ok (goInt n) W2 ∧ OwB W2 w.heap.size (.slice (some ⟨w.heap.size, 0, none⟩) n n) l ∧ Below w.heap.size w W2 := by
    intro ty
    cases a with
    | none =>
      have h0 : l = [] := by
        cases l with
        | nil => rfl
        | cons y l =>
          obtain ⟨_, _, e, _⟩ := Lst.at hx (i := 0) (by simp)
          cases e
      subst h0
      obtain rfl : n = 0 := by simpa using hl.symm
      refine ⟨W1, by simp [Builtin.copy_, run_underlying Tryz.underlying23, Builtin.lenOf, Builtin.firstCells, storeCells, Result.andThen], ?_, hb1⟩
      exact ⟨by simp, .inr ⟨w.heap.size, 0, R, rfl, Nat.le_refl _, hrow, Nat.le_refl _, by simp, by simpa using hRs, by simp⟩⟩
    | some a =>
      have hh := run_copy_rowN (P := Tryz.prog) W1 23 23 ty 69 w.heap.size n n a l.length ac 5 R 69 (l.flatMap buL) Tryz.underlying23 sizeBu hrow (by rw [hlen, hl]; simp [Nat.min_self]) (fun j v hj => by
        have hjl : j < n * 5 := by have := (List.getElem?_eq_some_iff.1 hj).1; omega
        have hq : j / 5 < l.length := by omega
        obtain ⟨b', o', e', r⟩ := Lst.at hx hq
        injection e' with e'
        subst e'
        have hc := r.cells (j % 5) (Nat.mod_lt _ (by decide))
        rw [← flat_at buL 5 (fun _ => rfl) bu0 l (j / 5) (j % 5) hq (Nat.mod_lt _ (by decide))] at hc
        have e3 : j / 5 * 5 + j % 5 = j := by omega
        rw [Nat.add_assoc, e3, hj] at hc
        rw [addI]
        exact scell_up hb1 hc) (by rw [hlen]; omega) (fun u hu => by obtain ⟨y, _, hu⟩ := List.mem_flatMap.1 hu; simp at hu; rcases hu with rfl | rfl | rfl | rfl | rfl <;> rfl)
      rw [hdrop, hl] at hh
      rw [hl]
      refine ⟨_, by simpa [Nat.min_self] using hh, ?_, setRow_bl hb1 (Nat.le_refl _) _⟩
      refine ⟨by rw [hlen, hl], .inr ⟨w.heap.size, n, (l.flatMap buL).toArray, by rw [hl], Nat.le_refl _, ?_, by omega, by unfold maxLen; omega, by simpa using hlen, by show List.take _ (l.flatMap buL) = _; rw [hl, ← hlen]; exact List.take_length⟩⟩
      exact setRow_heap W1 w.heap.size _ _ 69 _ hrow
  obtain ⟨W2, hcp', hO, hb2⟩ := hcp 3
  rw [hl] at hcp' ⊢
  have HO := hide hO
  clear hcp hO hdrop hlen hrow hx hW1 hR hRs hb1
  go_enter Tryz.func54, Tryz.ntmps54
  go_wp2
  go_ret
  exact ⟨_, rfl, unhide HO, hb2⟩
set_option maxHeartbeats 1000000 in
theorem copyListAk_any (x : Value) (l : List Ak) (w : World) (hx : Lst RAk 3 ak0 w x l) (hn : l.length * 24 ≤ 281474976710656) : Calls Tryz.prog 58 #[x] w fun e w' => ∃ o, e = .returned o ∧ OwA w' w.heap.size o l ∧ Below w.heap.size w w' := by
  obtain ⟨i0, hi, hz0, hz1, hz2⟩ := info_parts infoAk
  obtain ⟨a, ac, rfl, a1, a2⟩ := hx.form
  unfold maxLen at a2
  obtain ⟨n, hl⟩ : ∃ n, l.length = n := ⟨_, rfl⟩
  obtain ⟨R, hR⟩ : ∃ R, madeCells #[.int .i64 0, .int .i64 0, .int .i64 0] (n * 3) = R := ⟨_, rfl⟩
  have hRs : R.size = n * 3 := by rw [← hR]; exact size_madeCells _ _
  have hmk : (Instr.makeSlice 26 (.int .i64 (n : Int)) (.int .i64 (n : Int))).run Tryz.prog w = .ok (.slice (some ⟨w.heap.size, 0, none⟩) n n) (w.alloc (.cells R 43)) := by
    have h := run_make (P := Tryz.prog) (w := w) 26 43 i0 (.agg #[.int .i64 0, .int .i64 0, .int .i64 0]) Tryz.underlying26 hi hz0 .i64 .i64 (n : Int) (n : Int) (by omega) (Int.le_refl _) (by rw [hz2]; omega) (by omega)
    simpa [hz1, Value.cells, hR] using h
  obtain ⟨W1, hW1⟩ : ∃ W1, w.alloc (.cells R 43) = W1 := ⟨_, rfl⟩
  rw [hW1] at hmk
  have hb1 : Below w.heap.size w W1 := by rw [← hW1]; exact bl1 _ _
  have hrow : W1.heap[w.heap.size]? = some (.cells R 43 (0, 0)) := by rw [← hW1]; exact heap_alloc_new _ _
  have hlen : (l.flatMap akL).length = n * 3 := by rw [flat_len2 akL 3 (fun _ => rfl), hl]
  have hdrop : ((l.flatMap akL) ++ R.toList.drop (l.flatMap akL).length).toArray = (l.flatMap akL).toArray := by
    rw [List.drop_of_length_le (by rw [hlen, Array.length_toList]; omega)]; simp
  have hcp : ∀ ty, ∃ W2, (Builtin.copy_ #[26, 26] ty #[.slice (some ⟨w.heap.size, 0, none⟩) n n, .slice a l.length ac]).run Tryz.prog W1 = .ok (goInt n) W2 ∧ OwA W2 w.heap.size (.slice (some ⟨w.heap.size, 0, none⟩) n n) l ∧ Below w.heap.size w W2 := by
    intro ty
    cases a with
    | none =>
      have h0 : l = [] := by
        cases l with
        | nil => rfl
        | cons y l =>
          obtain ⟨_, _, e, _⟩ := Lst.at hx (i := 0) (by simp)
          cases e
      subst h0
      obtain rfl : n = 0 := by simpa using hl.symm
      refine ⟨W1, by simp [Builtin.copy_, run_underlying Tryz.underlying26, Builtin.lenOf, Builtin.firstCells, storeCells, Result.andThen], ?_, hb1⟩
      exact ⟨by simp, .inr ⟨w.heap.size, 0, R, rfl, Nat.le_refl _, hrow, Nat.le_refl _, by simp, by simpa using hRs, by simp⟩⟩
    | some a =>
      have hh := run_copy_rowN (P := Tryz.prog) W1 26 26 ty 43 w.heap.size n n a l.length ac 3 R 43 (l.flatMap akL) Tryz.underlying26 sizeAk hrow (by rw [hlen, hl]; simp [Nat.min_self]) (fun j v hj => by
        have hjl : j < n * 3 := by have := (List.getElem?_eq_some_iff.1 hj).1; omega
        have hq : j / 3 < l.length := by omega
        obtain ⟨b', o', e', r⟩ := Lst.at hx hq
        injection e' with e'
        subst e'
        have hc := r.cells (j % 3) (Nat.mod_lt _ (by decide))
        rw [← flat_at akL 3 (fun _ => rfl) ak0 l (j / 3) (j % 3) hq (Nat.mod_lt _ (by decide))] at hc
        have e3 : j / 3 * 3 + j % 3 = j := by omega
        rw [Nat.add_assoc, e3, hj] at hc
        rw [addI]
        exact scell_up hb1 hc) (by rw [hlen]; omega) (fun u hu => by obtain ⟨y, _, hu⟩ := List.mem_flatMap.1 hu; simp at hu; rcases hu with rfl | rfl | rfl <;> rfl)
      rw [hdrop, hl] at hh
      rw [hl]
      refine ⟨_, by simpa [Nat.min_self] using hh, ?_, setRow_bl hb1 (Nat.le_refl _) _⟩
      refine ⟨by rw [hlen, hl], .inr ⟨w.heap.size, n, (l.flatMap akL).toArray, by rw [hl], Nat.le_refl _, ?_, by omega, by unfold maxLen; omega, by simpa using hlen, by show List.take _ (l.flatMap akL) = _; rw [hl, ← hlen]; exact List.take_length⟩⟩
      exact setRow_heap W1 w.heap.size _ _ 43 _ hrow
  obtain ⟨W2, hcp', hO, hb2⟩ := hcp 3
  rw [hl] at hcp' ⊢
  have HO := hide hO
  clear hcp hO hdrop hlen hrow hx hW1 hR hRs hb1
  go_enter Tryz.func58, Tryz.ntmps58
  go_wp2
  go_ret
  exact ⟨_, rfl, unhide HO, hb2⟩
end Go.Proofs.YtdgmdapijhbocaaGreat
