/- A state may be as the document asks it just if it may be as the code asks it. -/
import Derived.Test.YtdalkkjojflakaaRfp
namespace Go.Proofs.Ytdalkkjojflakaa
open Go.RowKit Go.Maps
set_option maxRecDepth 100000
set_option linter.unusedVariables false
set_option linter.unusedSimpArgs false
theorem less_or : ∀ x y : List UInt8, Op.bytesLess x y = !(Op.bytesLess y x || y == x)
  | [], [] => by simp [Op.bytesLess]
  | [], _ :: _ => by simp [Op.bytesLess]
  | _ :: _, [] => by simp [Op.bytesLess]
  | a :: x, b :: y => by
    have ih := less_or x y
    simp only [Op.bytesLess]
    rcases Nat.lt_trichotomy a.toNat b.toNat with h | h | h
    · have h1 : a < b := UInt8.lt_iff_toNat_lt.2 h
      have h2 : ¬ b < a := fun k => by have := UInt8.lt_iff_toNat_lt.1 k; omega
      have h3 : b ≠ a := fun e => by subst e; omega
      simp [h1, h2, h3]
    · have e : a = b := UInt8.toNat_inj.1 h
      subst e
      have h2 : ¬ a < a := fun k => by have := UInt8.lt_iff_toNat_lt.1 k; omega
      simp [h2, ih]
    · have h1 : b < a := UInt8.lt_iff_toNat_lt.2 h
      have h2 : ¬ a < b := fun k => by have := UInt8.lt_iff_toNat_lt.1 k; omega
      have h3 : a ≠ b := fun e => by subst e; omega
      simp [h1, h2, h3]
theorem ltS_leS (a b : ByteArray) : ltS a b = !leS b a := less_or _ _
theorem toList_data (a : ByteArray) : a.toList = a.data.toList := ByteArray.toList_eq a
theorem eqS_iff (a b : ByteArray) : eqS a b = true ↔ a = b := by
  unfold eqS
  rw [beq_iff_eq, toList_data, toList_data]
  constructor
  · intro h
    cases a
    cases b
    simp only [Array.toList_inj] at h
    rw [h]
  · intro h
    rw [h]
theorem rise_lo {f : Nat → Int} {n : Nat} {lo : Int} (h1 : ∀ i, i + 1 < n → f i < f (i + 1)) (h0 : 0 < n → lo ≤ f 0) : ∀ i, i < n → lo + i ≤ f i
  | 0, hi => by have := h0 (by omega); simpa using this
  | i + 1, hi => by
    have := rise_lo h1 h0 i (by omega)
    have := h1 i hi
    omega
theorem rise_len {f : Nat → Int} {n : Nat} {lo hi : Int} (h1 : ∀ i, i + 1 < n → f i < f (i + 1)) (h2 : ∀ i, i < n → lo ≤ f i ∧ f i ≤ hi) (h3 : lo ≤ hi + 1) : (n : Int) ≤ hi - lo + 1 := by
  cases n with
  | zero => simp; omega
  | succ n =>
    have := rise_lo h1 (fun _ => (h2 0 (by omega)).1) n (by omega)
    have := (h2 n (by omega)).2
    omega
theorem dec_lt (a b : Int) : decide (a < b) = !decide (b ≤ a) := by
  by_cases h : a < b
  · rw [decide_eq_true h, decide_eq_false (by omega)]; rfl
  · rw [decide_eq_false h, decide_eq_true (by omega)]; rfl
theorem gone_eq (l : List Int) : allB l.length (goneR l) = goneC l := by
  have h := rise_all (n := l.length) (p := goneQ l) (lt := goneP l) (le := fun i => decide (l.getD i 0 ≤ l.getD (i - 1) 0)) (fun i _ => dec_lt _ _)
  rw [show allB l.length (goneR l) = allB l.length (fun i => goneQ l i && !(decide (0 < i) && decide (l.getD i 0 ≤ l.getD (i - 1) 0))) from rfl, h]
  unfold goneC
  cases e : (allB (l.length - 1) (goneP l) && allB l.length (goneQ l))
  · rw [Bool.and_assoc, e]; simp
  · rw [Bool.and_assoc, e]
    simp only [Bool.and_eq_true] at e
    have := rise_len (f := fun i => l.getD i 0) (n := l.length) (lo := 0) (hi := 7) (fun i hi => by simpa [goneP] using allB_iff.1 e.1 i (by omega)) (fun i hi => inB_t (allB_iff.1 e.2 i hi)) (by omega)
    simp
    omega
theorem bus_eq (l : List Bu) : (decide ((l.length : Int) ≤ 4) && allB l.length (busR l)) = busC l := by
  have h := rise_all (n := l.length) (p := busQ l) (lt := busP l) (le := fun i => leS (l.getD i bu0).nam (l.getD (i - 1) bu0).nam) (fun i _ => ltS_leS _ _)
  have e : allB l.length (busR l) = allB l.length (fun i => busQ l i && !(decide (0 < i) && leS (l.getD i bu0).nam (l.getD (i - 1) bu0).nam)) := allB_congr fun i _ => by
    unfold busR busQ buC
    rw [Bool.and_assoc (worE _ 8 == 0), Bool.and_comm (inB _ 0 2), ← Bool.and_assoc]
  rw [e, h]
  unfold busC
  rw [Bool.and_assoc]
theorem allB_and (n : Nat) (p q : Nat → Bool) : allB n (fun i => p i && q i) = (allB n p && allB n q) := by
  rw [Bool.eq_iff_iff, Bool.and_eq_true, allB_iff, allB_iff, allB_iff]
  simp only [Bool.and_eq_true]
  exact ⟨fun h => ⟨fun j hj => (h j hj).1, fun j hj => (h j hj).2⟩, fun h j hj => ⟨h.1 j hj, h.2 j hj⟩⟩
theorem pas_eq (l : List Pa) : allB l.length (pasR l) = pasC l := by
  have h := rise_all (n := l.length) (p := pasQ l) (lt := pasP l) (le := fun i => decide ((l.getD i pa0).n ≤ (l.getD (i - 1) pa0).n)) (fun i _ => dec_lt _ _)
  rw [show allB l.length (pasR l) = allB l.length (fun i => pasQ l i && !(decide (0 < i) && decide ((l.getD i pa0).n ≤ (l.getD (i - 1) pa0).n))) from rfl, h]
  unfold pasC
  cases e : (allB (l.length - 1) (pasP l) && allB l.length (pasQ l))
  · rw [Bool.and_assoc, e]; simp
  · rw [Bool.and_assoc, e]
    simp only [Bool.and_eq_true] at e
    have := rise_len (f := fun i => (l.getD i pa0).n) (n := l.length) (lo := 1) (hi := 5) (fun i hi => by simpa [pasP] using allB_iff.1 e.1 i (by omega)) (fun i hi => by
      have := allB_iff.1 e.2 i hi
      unfold pasQ paC at this
      simp only [Bool.and_eq_true] at this
      exact inB_t this.1.1) (by omega)
    simp
    omega
theorem ups_eq (S : St) : (decide ((S.ups.length : Int) ≤ 4) && allB S.ups.length (upsR S)) = upsC S := by
  have h := rise_all (n := S.ups.length) (p := upsQ S) (lt := upsP S.ups) (le := fun i => decide ((S.ups.getD i up0).id ≤ (S.ups.getD (i - 1) up0).id)) (fun i _ => dec_lt _ _)
  have e : allB S.ups.length (upsR S) = allB S.ups.length (fun i => upsQ S i && !(decide (0 < i) && decide ((S.ups.getD i up0).id ≤ (S.ups.getD (i - 1) up0).id))) := allB_congr fun i _ => by
    unfold upsR upsQ upC
    rw [pas_eq, Bool.and_assoc, Bool.and_assoc, Bool.and_comm (pasC _)]
  rw [e, h]
  unfold upsC
  rw [Bool.and_assoc]
theorem nul_eq (l : List Ve) {k : Nat} (hk : k < l.length) : allB k (fun j => !twoN (l.getD k ve0) (l.getD j ve0)) = nulQ l k := by
  obtain ⟨X, hX⟩ : ∃ X, l.getD k ve0 = X := ⟨_, rfl⟩
  unfold nulQ
  rw [hX]
  cases hn : X.nul
  · rw [Bool.not_false, Bool.true_or]
    exact allB_t fun j _ => by simp [twoN, hn]
  · rw [Bool.not_true, Bool.false_or, Bool.eq_iff_iff, allB_iff, beq_iff_eq]
    have e : (∀ j, j < k → (!twoN X (l.getD j ve0)) = true) ↔ nulF l k X.bu X.ke = 0 := by
      unfold nulF
      rw [List.countP_eq_zero]
      constructor
      · intro h v hv
        obtain ⟨j, hj, e⟩ := mem_at (d := ve0) hv
        rw [List.length_take] at hj
        have hg : (l.take k).getD j ve0 = l.getD j ve0 := by simp [List.getD, List.getElem?_take, show j < k by omega]
        rw [hg] at e
        have := h j (by omega)
        rw [e] at this
        intro hc
        simp only [Bool.and_eq_true, decide_eq_true_eq] at hc
        have h1 : twoN X v = true := by
          unfold twoN
          rw [hn, hc.1.1, (eqS_iff X.bu v.bu).2 hc.1.2.symm, (eqS_iff X.ke v.ke).2 hc.2.symm]
          rfl
        rw [h1] at this
        cases this
      · intro h j hj
        have hm : l.getD j ve0 ∈ l.take k := by
          rw [List.getD, List.getElem?_eq_getElem (by omega)]
          exact List.mem_take_iff_getElem.2 ⟨j, by omega, rfl⟩
        have := h _ hm
        cases ht : twoN X (l.getD j ve0)
        · rfl
        · unfold twoN at ht
          simp only [Bool.and_eq_true] at ht
          refine absurd ?_ this
          simp only [Bool.and_eq_true, decide_eq_true_eq]
          exact ⟨⟨ht.1.1.2, ((eqS_iff _ _).1 ht.1.2).symm⟩, ((eqS_iff _ _).1 ht.2).symm⟩
    rw [e]
    omega
theorem ves_eq (S : St) : (decide ((S.ves.length : Int) ≤ 40) && allB S.ves.length (vesR S)) = vesC S := by
  have h := rise_all (n := S.ves.length) (p := vesQ S) (lt := vesP S.ves) (le := fun i => decide ((S.ves.getD i ve0).id ≤ (S.ves.getD (i - 1) ve0).id)) (fun i _ => dec_lt _ _)
  have e : allB S.ves.length (vesR S) = allB S.ves.length (fun i => (vesQ S i && !(decide (0 < i) && decide ((S.ves.getD i ve0).id ≤ (S.ves.getD (i - 1) ve0).id))) && nulQ S.ves i) := allB_congr fun i hi => by
    unfold vesR vesQ
    rw [nul_eq S.ves hi]
  rw [e, allB_and, h]
  unfold vesC nulC
  rw [Bool.and_assoc, Bool.and_assoc, Bool.and_assoc]
theorem que_eq (S : St) : (decide ((S.que.length : Int) ≤ 10) && allB S.que.length (queR S)) = queC S := by
  have e : allB S.que.length (queR S) = allB S.que.length (queQ S) := allB_congr fun i hi => by
    unfold queR queQ queB
    obtain ⟨X, hX⟩ : ∃ X, S.que.getD i ak0 = X := ⟨_, rfl⟩
    rw [hX]
    have hc : allB i (fun j => !((S.que.getD j ak0).ver == X.ver)) = (((vers S i ++ [X.ver]).count X.ver : Int) == 1) := by
      rw [Bool.eq_iff_iff, allB_iff, beq_iff_eq, List.count_append, List.count_singleton_self]
      have e : (∀ j, j < i → (!((S.que.getD j ak0).ver == X.ver)) = true) ↔ (vers S i).count X.ver = 0 := by
        rw [List.count_eq_zero]
        unfold vers
        constructor
        · intro h hm
          obtain ⟨v, hv, e⟩ := List.mem_map.1 hm
          obtain ⟨j, hj, e2⟩ := mem_at (d := ak0) hv
          rw [List.length_take] at hj
          have hg : (S.que.take i).getD j ak0 = S.que.getD j ak0 := by simp [List.getD, List.getElem?_take, show j < i by omega]
          rw [hg] at e2
          have := h j (by omega)
          rw [e2, e] at this
          simp at this
        · intro h j hj
          cases ht : ((S.que.getD j ak0).ver == X.ver)
          · rfl
          · refine absurd (List.mem_map.2 ⟨S.que.getD j ak0, ?_, by simpa using ht⟩) h
            rw [List.getD, List.getElem?_eq_getElem (by omega)]
            exact List.mem_take_iff_getElem.2 ⟨j, by omega, rfl⟩
      rw [e]
      omega
    rw [hc, Bool.and_assoc, Bool.and_comm (askB X), ← Bool.and_assoc]
  rw [e]
  rfl
theorem sec_eq (S : St) : allB (secs S).length (secR (secs S)) = secC S := by
  unfold secC
  obtain ⟨l, hl⟩ : ∃ l, secs S = l := ⟨_, rfl⟩
  rw [hl]
  have h1 : l.all (fun x => inB x 0 199 && (l.count x : Int) == 1) = (allB l.length (fun i => inB (l.getD i 0) 0 199) && allB l.length (fun i => (l.count (l.getD i 0) : Int) == 1)) := by
    rw [← allB_and, ← allB_all (fun x => inB x 0 199 && (l.count x : Int) == 1) 0]
  have h2 : allB l.length (secR l) = (allB l.length (fun i => inB (l.getD i 0) 0 199) && allB l.length (fun i => allB i (fun k => !(l.getD i 0 == l.getD k 0)))) := by
    rw [← allB_and]; rfl
  rw [h1, h2]
  congr 1
  rw [Bool.eq_iff_iff, allB_iff, allB_iff]
  have hnd : l.Nodup ↔ ∀ i, i < l.length → allB i (fun k => !(l.getD i 0 == l.getD k 0)) = true := by
    show l.Pairwise (· ≠ ·) ↔ _
    rw [List.pairwise_iff_getElem]
    constructor
    · intro h i hi
      refine allB_t fun k hk => ?_
      have := h k i (by omega) hi hk
      simp [List.getD, hi, show k < l.length by omega]
      exact fun e => this e.symm
    · intro h i j hi hj hij
      have := allB_iff.1 (h j hj) i hij
      simp [List.getD, hj, hi] at this
      exact fun e => this e.symm
  constructor
  · intro h i hi
    have hn := hnd.2 h
    have hm : l.getD i 0 ∈ l := by simp [List.getD, hi]
    have h1 := List.nodup_iff_count.1 hn (l.getD i 0)
    have h2 := List.count_pos_iff.2 hm
    rw [beq_iff_eq]
    omega
  · intro h
    refine hnd.1 (List.nodup_iff_count.2 fun x => ?_)
    by_cases hm : x ∈ l
    · obtain ⟨k, hk, e⟩ := mem_at (d := 0) hm
      have := h k hk
      rw [e, beq_iff_eq] at this
      omega
    · rw [List.count_eq_zero.2 hm]; omega
theorem st_eq (S : St) : stR S = stC S := by
  unfold stR stC
  rw [← gone_eq, ← bus_eq, ← ves_eq, ← ups_eq, ← que_eq, ← sec_eq]
  simp only [Bool.and_assoc, Bool.and_left_comm, Bool.and_comm]
end Go.Proofs.Ytdalkkjojflakaa
