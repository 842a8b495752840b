/- What a state that may be is, in plain words. -/
import Derived.Test.YtdgmdapijhbocaaGreatG19
namespace Go.Proofs.YtdgmdapijhbocaaGreat
open Go.RowKit Go.Maps
set_option maxRecDepth 100000
set_option linter.unusedVariables false
set_option linter.unusedSimpArgs false
theorem getD_eq {α : Type} {l : List α} {d : α} {k : Nat} (hk : k < l.length) : l.getD k d = l[k] := by simp [List.getD, hk]
theorem mem_get {α : Type} {l : List α} {d : α} {k : Nat} (hk : k < l.length) : l.getD k d ∈ l := by rw [getD_eq hk]; exact List.getElem_mem hk
theorem adj_all {α : Type} (f : α → Int) (d : α) (l : List α) (h : ∀ i, i < l.length - 1 → f (l.getD i d) < f (l.getD (i + 1) d)) : ∀ n i, i + n + 1 < l.length → f (l.getD i d) < f (l.getD (i + n + 1) d)
  | 0, i, hi => h i (by omega)
  | n + 1, i, hi => Int.lt_trans (adj_all f d l h n i (by omega)) (h (i + n + 1) (by omega))
theorem rise_iff {α : Type} (f : α → Int) (d : α) (l : List α) : allB (l.length - 1) (fun i => decide (f (l.getD i d) < f (l.getD (i + 1) d))) = true ↔ l.Pairwise (fun x y => f x < f y) := by
  rw [allB_iff, List.pairwise_iff_getElem]
  simp only [decide_eq_true_eq]
  constructor
  · intro h i j hi hj hij
    have := adj_all f d l h (j - i - 1) i (by omega)
    rw [show i + (j - i - 1) + 1 = j by omega, getD_eq hi, getD_eq hj] at this
    exact this
  · intro h i hi
    rw [getD_eq (show i < l.length by omega), getD_eq (show i + 1 < l.length by omega)]
    exact h i (i + 1) (by omega) (by omega) (by omega)
theorem all_getD {α : Type} (p : α → Bool) (d : α) (l : List α) : allB l.length (fun i => p (l.getD i d)) = true ↔ ∀ x ∈ l, p x = true := by
  rw [allB_iff]
  constructor
  · intro h x hx
    obtain ⟨k, hk, e⟩ := mem_at (d := d) hx
    rw [← e]; exact h k hk
  · intro h k hk
    exact h _ (mem_get hk)
def NulPair (x y : Ve) : Prop := ¬ (x.nul = true ∧ y.nul = true ∧ x.bu = y.bu ∧ x.ke = y.ke)
theorem nul_iff (l : List Ve) : nulC l = true ↔ l.Pairwise NulPair := by
  unfold nulC
  rw [allB_iff, List.pairwise_iff_getElem]
  constructor
  · intro h i j hi hj hij
    have := h j hj
    unfold nulQ at this
    rw [getD_eq hj] at this
    intro ⟨h1, h2, h3, h4⟩
    rw [h2] at this
    simp only [Bool.not_true, Bool.false_or, beq_iff_eq] at this
    have hc : nulF l j l[j].bu l[j].ke = 0 := by omega
    unfold nulF at hc
    rw [List.countP_eq_zero] at hc
    have hm : l[i] ∈ l.take j := by
      rw [List.mem_take_iff_getElem]
      exact ⟨i, by omega, rfl⟩
    have := hc _ hm
    simp [h1, h3, h4] at this
  · intro h j hj
    unfold nulQ
    rw [getD_eq hj]
    cases hn : l[j].nul
    · rfl
    · simp only [Bool.not_true, Bool.false_or, beq_iff_eq]
      have : nulF l j l[j].bu l[j].ke = 0 := by
        unfold nulF
        rw [List.countP_eq_zero]
        intro x hx
        rw [List.mem_take_iff_getElem] at hx
        obtain ⟨i, hi, rfl⟩ := hx
        have h1 := h i j (by omega) hj (by omega)
        intro h2
        simp only [Bool.and_eq_true, decide_eq_true_eq] at h2
        exact h1 ⟨h2.1.1, hn, h2.1.2, h2.2⟩
      omega
theorem count_nodup (l : List Int) : (∀ x ∈ l, (l.count x : Int) = 1) ↔ l.Nodup := by
  rw [List.nodup_iff_count]
  constructor
  · intro h a
    by_cases ha : a ∈ l
    · have := h a ha; omega
    · rw [List.count_eq_zero_of_not_mem ha]; omega
  · intro h x hx
    have := h x
    have := List.count_pos_iff.2 hx
    omega
theorem pre_nodup (l : List Int) : (∀ k, k < l.length → (((l.take k ++ [l.getD k 0]).count (l.getD k 0) : Nat) : Int) = 1) ↔ l.Nodup := by
  unfold List.Nodup
  rw [List.pairwise_iff_getElem]
  constructor
  · intro h i j hi hj hij e
    have := h j hj
    rw [List.count_append, getD_eq hj] at this
    have hm : l[i] ∈ l.take j := by
      rw [List.mem_take_iff_getElem]
      exact ⟨i, by omega, rfl⟩
    rw [e] at hm
    have h7 := List.count_pos_iff.2 hm
    have h8 : [l[j]].count l[j] = 1 := by simp
    rw [h8] at this
    omega
  · intro h k hk
    rw [List.count_append, getD_eq hk]
    have : (l.take k).count l[k] = 0 := by
      rw [List.count_eq_zero]
      intro hm
      rw [List.mem_take_iff_getElem] at hm
      obtain ⟨i, hi, e⟩ := hm
      exact h i k (by omega) hk (by omega) e
    rw [this]
    simp
structure StOk (S : St) : Prop where
  n0 : 1 ≤ S.next
  n1 : S.next ≤ 1048576
  c0 : 0 ≤ S.clock
  c1 : S.clock ≤ 1073741824
  g : goneC S.gone = true
  b : busC S.bus = true
  vlen : S.ves.length ≤ 40
  vrise : S.ves.Pairwise (fun x y => x.id < y.id)
  vok : ∀ x ∈ S.ves, veC S x = true
  vnul : S.ves.Pairwise NulPair
  ulen : S.ups.length ≤ 4
  urise : S.ups.Pairwise (fun x y => x.id < y.id)
  uok : ∀ x ∈ S.ups, upC S x = true
  qlen : S.que.length ≤ 10
  qok : ∀ a ∈ S.que, coldB S a.ver = true ∧ askB a = true
  qdis : (S.que.map (·.ver)).Nodup
  sok : ∀ x ∈ secs S, 0 ≤ x ∧ x ≤ 199
  sdis : (secs S).Nodup
theorem ves_iff (S : St) : vesC S = true ↔ S.ves.length ≤ 40 ∧ S.ves.Pairwise (fun x y => x.id < y.id) ∧ (∀ x ∈ S.ves, veC S x = true) ∧ S.ves.Pairwise NulPair := by
  unfold vesC
  simp only [Bool.and_eq_true, decide_eq_true_eq]
  rw [show allB (S.ves.length - 1) (vesP S.ves) = allB (S.ves.length - 1) (fun i => decide ((fun x : Ve => x.id) (S.ves.getD i ve0) < (fun x : Ve => x.id) (S.ves.getD (i + 1) ve0))) from rfl, rise_iff,
    show allB S.ves.length (vesQ S) = allB S.ves.length (fun i => veC S (S.ves.getD i ve0)) from rfl, all_getD (veC S) ve0, nul_iff]
  constructor
  · rintro ⟨⟨⟨h1, h2⟩, h3⟩, h4⟩
    exact ⟨by omega, h2, h3, h4⟩
  · rintro ⟨h1, h2, h3, h4⟩
    exact ⟨⟨⟨by omega, h2⟩, h3⟩, h4⟩
theorem ups_iff (S : St) : upsC S = true ↔ S.ups.length ≤ 4 ∧ S.ups.Pairwise (fun x y => x.id < y.id) ∧ (∀ x ∈ S.ups, upC S x = true) := by
  unfold upsC
  simp only [Bool.and_eq_true, decide_eq_true_eq]
  rw [show allB (S.ups.length - 1) (upsP S.ups) = allB (S.ups.length - 1) (fun i => decide ((fun x : Up => x.id) (S.ups.getD i up0) < (fun x : Up => x.id) (S.ups.getD (i + 1) up0))) from rfl, rise_iff,
    show allB S.ups.length (upsQ S) = allB S.ups.length (fun i => upC S (S.ups.getD i up0)) from rfl, all_getD (upC S) up0]
  constructor
  · rintro ⟨⟨h1, h2⟩, h3⟩
    exact ⟨by omega, h2, h3⟩
  · rintro ⟨h1, h2, h3⟩
    exact ⟨⟨by omega, h2⟩, h3⟩
theorem que_iff (S : St) : queC S = true ↔ S.que.length ≤ 10 ∧ (∀ a ∈ S.que, coldB S a.ver = true ∧ askB a = true) ∧ (S.que.map (·.ver)).Nodup := by
  unfold queC
  simp only [Bool.and_eq_true, decide_eq_true_eq]
  rw [allB_iff]
  have hq : ∀ k, k < S.que.length → ((S.que.map (·.ver)).take k ++ [(S.que.map (·.ver)).getD k 0]) = (vers S k ++ [(S.que.getD k ak0).ver]) := fun k hk => by
    unfold vers
    rw [List.map_take, getD_eq (l := S.que.map (·.ver)) (by simpa using hk), getD_eq hk, List.getElem_map]
  have hv : ∀ k, k < S.que.length → (S.que.map (·.ver)).getD k 0 = (S.que.getD k ak0).ver := fun k hk => by
    rw [getD_eq (l := S.que.map (·.ver)) (by simpa using hk), getD_eq hk, List.getElem_map]
  rw [← pre_nodup]
  constructor
  · rintro ⟨h1, h2⟩
    refine ⟨by omega, fun a ha => ?_, fun k hk => ?_⟩
    · obtain ⟨k, hk, e⟩ := mem_at (d := ak0) ha
      have := h2 k hk
      unfold queQ queB at this
      simp only [Bool.and_eq_true] at this
      rw [e] at this
      exact ⟨this.1.1, this.2⟩
    · have hk' : k < S.que.length := by simpa using hk
      rw [hq k hk', hv k hk']
      have := h2 k hk'
      unfold queQ queB at this
      simp only [Bool.and_eq_true, beq_iff_eq] at this
      exact this.1.2
  · rintro ⟨h1, h2, h3⟩
    refine ⟨by omega, fun k hk => ?_⟩
    unfold queQ queB
    simp only [Bool.and_eq_true, beq_iff_eq]
    have h4 := h2 _ (mem_get (d := ak0) hk)
    have h5 := h3 k (by simpa using hk)
    rw [hq k hk, hv k hk] at h5
    exact ⟨⟨h4.1, h5⟩, h4.2⟩
theorem sec_iff (S : St) : secC S = true ↔ (∀ x ∈ secs S, 0 ≤ x ∧ x ≤ 199) ∧ (secs S).Nodup := by
  unfold secC
  rw [List.all_eq_true, ← count_nodup]
  constructor
  · intro h
    refine ⟨fun x hx => ?_, fun x hx => ?_⟩
    · have := h x hx
      simp only [Bool.and_eq_true] at this
      exact inB_t this.1
    · have := h x hx
      simp only [Bool.and_eq_true, beq_iff_eq] at this
      exact this.2
  · rintro ⟨h1, h2⟩ x hx
    simp only [Bool.and_eq_true, beq_iff_eq]
    exact ⟨by unfold inB; exact decide_eq_true (h1 x hx), h2 x hx⟩
theorem stOk_iff (S : St) : stC S = true ↔ StOk S := by
  unfold stC
  simp only [Bool.and_eq_true]
  rw [ves_iff, ups_iff, que_iff, sec_iff]
  constructor
  · rintro ⟨⟨⟨⟨⟨⟨⟨h1, h2⟩, h3⟩, h4⟩, v1, v2, v3, v4⟩, u1, u2, u3⟩, q1, q2, q3⟩, s1, s2⟩
    exact ⟨(inB_t h1).1, (inB_t h1).2, (inB_t h2).1, (inB_t h2).2, h3, h4, v1, v2, v3, v4, u1, u2, u3, q1, q2, q3, s1, s2⟩
  · intro h
    exact ⟨⟨⟨⟨⟨⟨⟨by unfold inB; exact decide_eq_true ⟨h.n0, h.n1⟩, by unfold inB; exact decide_eq_true ⟨h.c0, h.c1⟩⟩, h.g⟩, h.b⟩, h.vlen, h.vrise, h.vok, h.vnul⟩, h.ulen, h.urise, h.uok⟩, h.qlen, h.qok, h.qdis⟩, h.sok, h.sdis⟩
/-- What a version's, an upload's own test asks of the state: the next number, the clock, the buckets' names, the volumes that were given up. -/
structure Like (S T : St) : Prop where
  next : T.next = S.next
  clock : T.clock = S.clock
  has : ∀ b, hasB T b = hasB S b
  gone : ∀ n, isGone T n = isGone S n
theorem Like.ve {S T : St} (h : Like S T) (x : Ve) : veC T x = veC S x := by
  unfold veC namC onC
  rw [h.next, h.clock, h.has, h.gone]
theorem Like.up {S T : St} (h : Like S T) (x : Up) : upC T x = upC S x := by
  unfold upC namC
  rw [h.next, h.has]
/-- The first of a number, where numbers rise, is the one. -/
theorem idxV_at {S : St} (h : S.ves.Pairwise (fun x y => x.id < y.id)) {k : Nat} (hk : k < S.ves.length) : idxV S (S.ves.getD k ve0).id = (k : Int) := by
  unfold idxV
  refine firstI_t hk (by unfold veP; simp) fun j hj => ?_
  rw [List.pairwise_iff_getElem] at h
  have := h j k (by omega) hk hj
  unfold veP
  rw [getD_eq (show j < S.ves.length by omega), getD_eq hk]
  simp; omega
theorem idxV_cases (S : St) (n : Int) : (idxV S n = -1 ∧ ∀ x ∈ S.ves, x.id ≠ n) ∨ ∃ k, k < S.ves.length ∧ idxV S n = (k : Int) ∧ (S.ves.getD k ve0).id = n := by
  rcases firstI_cases S.ves.length (veP S.ves n) with ⟨h1, h2⟩ | ⟨k, h1, h2, h3, _⟩
  · refine .inl ⟨h1, fun x hx e => ?_⟩
    obtain ⟨k, hk, e2⟩ := mem_at (d := ve0) hx
    have := h2 k hk
    unfold veP at this
    rw [e2, e] at this
    simp at this
  · exact .inr ⟨k, h1, h2, by unfold veP at h3; simpa using h3⟩
theorem cold_iff {S : St} (h : S.ves.Pairwise (fun x y => x.id < y.id)) (n : Int) : coldB S n = true ↔ ∃ x ∈ S.ves, x.id = n ∧ x.tier = 2 := by
  unfold coldB
  rw [Bool.and_eq_true, decide_eq_true_eq, beq_iff_eq]
  constructor
  · rintro ⟨h1, h2⟩
    rcases idxV_cases S n with ⟨e, _⟩ | ⟨k, hk, e, e2⟩
    · unfold idxV at e; omega
    · unfold idxV at e
      rw [e, Int.toNat_natCast] at h2
      exact ⟨_, mem_getD hk, e2, h2⟩
  · rintro ⟨x, hx, rfl, h2⟩
    obtain ⟨k, hk, e⟩ := mem_at (d := ve0) hx
    have h3 := idxV_at h hk
    unfold idxV at h3
    rw [e] at h3
    rw [h3, Int.toNat_natCast, e]
    exact ⟨by omega, h2⟩
end Go.Proofs.YtdgmdapijhbocaaGreat
