/- Keys of a bucket: all, parted by a delimiter, behind a key. -/
import Derived.Test.YtdgmdapijhbocaaGreatLk5q
namespace Go.Proofs.YtdgmdapijhbocaaGreat
open Go.RowKit Go.Maps Go.PlainAid
set_option maxRecDepth 100000
set_option linter.unusedVariables false
set_option linter.unusedSimpArgs false
abbrev SK (l : List Ro) : Prop := l.Pairwise (fun x y => ltS x.key y.key = true)
/-- Weakly sorted: what has one key is one row. -/
abbrev WS (l : List Ro) : Prop := l.Pairwise (fun x y => ltS x.key y.key = true ∨ x = y)
theorem addR_ne {o : List Ro} {r : Ro} (h : ∀ x ∈ o, x ≠ r) : addR o r = o ++ [r] := by
  unfold addR
  rw [if_neg]
  rintro ⟨h1, h2⟩
  have hl : o.length - 1 < o.length := by have := List.length_pos_iff.2 h1; omega
  exact h _ (mem_get hl) (eqR_iff.1 h2)
theorem cmp_fold {l : List Ro} : ∀ o : List Ro, SK (o ++ l) → l.foldl addR o = o ++ l := by
  induction l with
  | nil => intro o _; simp
  | cons r l ih =>
    intro o h
    rw [List.foldl_cons, addR_ne, ih _ (by simpa using h)]
    · simp
    · intro x hx e
      subst e
      have := (List.pairwise_append.1 h).2.2 x hx x (List.mem_cons_self ..)
      rw [ltS_irr] at this
      cases this
theorem cmp_sorted {l : List Ro} (h : SK l) : cmpL l = l := cmp_fold [] (by simpa using h)
theorem addR_mem {o : List Ro} {r x : Ro} : x ∈ addR o r ↔ x ∈ o ∨ x = r := by
  unfold addR
  split
  · next h =>
    constructor
    · exact .inl
    · rintro (h1 | rfl)
      · exact h1
      · have hl : o.length - 1 < o.length := by have := List.length_pos_iff.2 h.1; omega
        have e := eqR_iff.1 h.2
        rw [← e]
        exact mem_get hl
  · simp
theorem cmp_mem' {x : Ro} : ∀ (l o : List Ro), x ∈ l.foldl addR o ↔ x ∈ o ∨ x ∈ l
  | [], o => by simp
  | r :: l, o => by rw [List.foldl_cons, cmp_mem' l, addR_mem, List.mem_cons, or_assoc]
theorem cmp_mem {l : List Ro} {x : Ro} : x ∈ cmpL l ↔ x ∈ l := by unfold cmpL; rw [cmp_mem']; simp
theorem cmp_ws' : ∀ (l o : List Ro), SK o → WS l → (∀ x ∈ o, ∀ y ∈ l, ltS x.key y.key = true ∨ x = y) → (∀ x ∈ o, ∀ y ∈ l, x = y → o.getD (o.length - 1) ro0 = x) → SK (l.foldl addR o)
  | [], o, h, _, _, _ => h
  | r :: l, o, h, hw0, hx, hlast => by
    have hw := List.pairwise_cons.1 hw0
    rw [List.foldl_cons]
    refine cmp_ws' l _ ?_ hw.2 ?_ ?_
    · unfold addR
      split
      · exact h
      · next hn =>
        refine List.pairwise_append.2 ⟨h, List.pairwise_singleton _ _, fun x hxo y hy => ?_⟩
        obtain rfl := List.mem_singleton.1 hy
        rcases hx x hxo y (List.mem_cons_self ..) with q | q
        · exact q
        · exfalso
          have hl := hlast x hxo y (List.mem_cons_self ..) q
          refine hn ⟨fun e => by (rw [e] at hxo; cases hxo), ?_⟩
          rw [hl, q]
          exact eqR_iff.2 rfl
    · intro x hxa y hy
      rcases addR_mem.1 hxa with q | rfl
      · exact hx x q y (List.mem_cons_of_mem _ hy)
      · exact hw.1 y hy
    · intro x hxa y hy e
      subst e
      have hl2 := (addR_last o r).2
      rcases addR_mem.1 hxa with q | rfl
      · -- x stands in o and behind r: it is r
        rcases hx x q r (List.mem_cons_self ..) with z | z
        · rcases hw.1 x hy with z2 | z2
          · rw [ltS_asy z] at z2; cases z2
          · rw [hl2, z2]
        · rw [hl2, z]
      · exact hl2
theorem cmp_ws {l : List Ro} (h : WS l) : SK (cmpL l) := cmp_ws' l [] List.Pairwise.nil h (fun x hx => by cases hx) (fun x hx => by cases hx)
theorem SK_ext {l m : List Ro} (h1 : SK l) (h2 : SK m) (h : ∀ x, x ∈ l ↔ x ∈ m) : l = m :=
  sorted_ext (r := fun x y => ltS x.key y.key = true) (fun x y a b => by rw [ltS_asy a] at b; cases b) h1 h2 h
theorem cmp_filter {l : List Ro} (h : WS l) (p : Ro → Bool) : cmpL (l.filter p) = (cmpL l).filter p :=
  SK_ext (cmp_ws (h.filter _)) ((cmp_ws h).filter _) fun x => by rw [cmp_mem, List.mem_filter, List.mem_filter, cmp_mem]
def partT (S : St) (nm pre dl : ByteArray) : List Ro := (plain S nm pre).map (fun r => shR r pre dl)
theorem ap_part (S : St) (nm pre dl af : ByteArray) : apL pre dl af (rowsL (sv S nm pre)) = (partT S nm pre dl).filter (fun r => gtB r.key af) := by
  unfold partT plain apL
  rw [List.filter_map, ← List.filterMap_eq_filter, ← List.filterMap_eq_filter, ← List.filterMap_eq_map, List.filterMap_filterMap, List.filterMap_filterMap]
  congr 1
  funext r
  unfold stepR livR Option.guard
  obtain ⟨y, hy⟩ : ∃ y, shR r pre dl = y := ⟨_, rfl⟩
  cases hm : r.mar <;> cases hl : r.lat <;> simp [hm, hl, hy] <;> (try (cases hg : gtB y.key af <;> simp [hg, hy]))
theorem keys_part (S : St) (nm pre dl af : ByteArray) : keysL S nm pre dl af = cmpL ((partT S nm pre dl).filter (fun r => gtB r.key af)) := by unfold keysL; rw [ap_part]
theorem sh_em (r : Ro) (pre : ByteArray) : shR r pre ⟨#[]⟩ = r := by unfold shR; rw [if_pos (show ByteArray.size ⟨#[]⟩ = 0 from rfl)]
theorem part_em (S : St) (nm pre : ByteArray) : partT S nm pre ⟨#[]⟩ = plain S nm pre := by
  unfold partT
  rw [show (fun r => shR r pre ⟨#[]⟩) = id from funext fun r => sh_em r pre, List.map_id]
theorem plain_key {S : St} (hok : stC S = true) (hk : ∀ v ∈ S.ves, v.ke ∈ K5) {nm pre : ByteArray} {r : Ro} (h : r ∈ plain S nm pre) : r.key ∈ K5 ∧ r.com = false ∧ r.lat = true ∧ r.mar = false := by
  rw [plain_is hok hk] at h
  obtain ⟨ky, h1, h2⟩ := List.mem_filterMap.1 h
  obtain ⟨g1, g2, e, g4⟩ := oneR_key hok h2
  exact ⟨by rw [g4]; exact (List.mem_filter.1 h1).1, by rw [e]; rfl, by rw [e]; rfl, by rw [e]; exact g2⟩
theorem gtB_em {k : ByteArray} (h : k ∈ K5) : gtB k ⟨#[]⟩ = true := by
  unfold K5 at h
  simp only [List.mem_cons, List.not_mem_nil, or_false] at h
  rcases h with rfl | rfl | rfl | rfl | rfl <;> kernel_rfl
theorem keys_plain {S : St} (hok : stC S = true) (hk : ∀ v ∈ S.ves, v.ke ∈ K5) (nm pre : ByteArray) : keysL S nm pre ⟨#[]⟩ ⟨#[]⟩ = plain S nm pre := by
  rw [keys_part, part_em]
  have : (plain S nm pre).filter (fun r => gtB r.key ⟨#[]⟩) = plain S nm pre := List.filter_eq_self.2 fun r hr => gtB_em (plain_key hok hk hr).1
  rw [this]
  exact cmp_sorted (plain_sorted hok nm pre)
theorem plain_len {S : St} (hok : stC S = true) (hk : ∀ v ∈ S.ves, v.ke ∈ K5) (nm pre : ByteArray) : (plain S nm pre).length ≤ 5 := by
  rw [plain_is hok hk]
  have h1 := List.length_filterMap_le (oneR S nm) (K5.filter (fun k => pfB k pre))
  have h2 := List.length_filter_le (fun k => pfB k pre) K5
  have h3 : K5.length = 5 := rfl
  omega
def sl : ByteArray := ⟨#[47]⟩
def cY : Ro := ⟨⟨#[121, 47]⟩, true, 0, false, false, 0, 0⟩
def cz : Ro := ⟨⟨#[122, 47]⟩, true, 0, false, false, 0, 0⟩
theorem sh_is {r : Ro} (h : r.key ∈ K5) : ((r.key = kx ∨ r.key = kY) ∧ shR r ⟨#[]⟩ sl = r) ∨ ((r.key = kY1 ∨ r.key = kY2) ∧ shR r ⟨#[]⟩ sl = cY) ∨ (r.key = kz ∧ shR r ⟨#[]⟩ sl = cz) := by
  unfold K5 at h
  simp only [List.mem_cons, List.not_mem_nil, or_false] at h
  obtain ⟨k, c, i, m, t, s, g⟩ := r
  rcases h with h | h | h | h | h
  · have h : k = kx := h
    subst h
    refine .inl ⟨.inl rfl, ?_⟩
    unfold shR
    rw [if_neg (by decide), if_pos]
    show posI kx (bt sl 0) 0 < 0
    rw [show posI kx (bt sl 0) 0 = -1 by kernel_rfl]
    decide
  · have h : k = kY := h
    subst h
    refine .inl ⟨.inr rfl, ?_⟩
    unfold shR
    rw [if_neg (by decide), if_pos]
    show posI kY (bt sl 0) 0 < 0
    rw [show posI kY (bt sl 0) 0 = -1 by kernel_rfl]
    decide
  · have h : k = kY1 := h
    subst h
    refine .inr (.inl ⟨.inl rfl, ?_⟩)
    have e : posI kY1 (bt sl 0) (ByteArray.size ⟨#[]⟩) = 1 := by kernel_rfl
    unfold shR
    rw [if_neg (by decide)]
    show (if posI kY1 (bt sl 0) (ByteArray.size ⟨#[]⟩) < 0 then _ else _) = _
    rw [e]
    rfl
  · have h : k = kY2 := h
    subst h
    refine .inr (.inl ⟨.inr rfl, ?_⟩)
    have e : posI kY2 (bt sl 0) (ByteArray.size ⟨#[]⟩) = 1 := by kernel_rfl
    unfold shR
    rw [if_neg (by decide)]
    show (if posI kY2 (bt sl 0) (ByteArray.size ⟨#[]⟩) < 0 then _ else _) = _
    rw [e]
    rfl
  · have h : k = kz := h
    subst h
    refine .inr (.inr ⟨rfl, ?_⟩)
    have e : posI kz (bt sl 0) (ByteArray.size ⟨#[]⟩) = 1 := by kernel_rfl
    unfold shR
    rw [if_neg (by decide)]
    show (if posI kz (bt sl 0) (ByteArray.size ⟨#[]⟩) < 0 then _ else _) = _
    rw [e]
    rfl
theorem sl_ws {S : St} (hok : stC S = true) (hk : ∀ v ∈ S.ves, v.ke ∈ K5) (nm : ByteArray) : WS (partT S nm ⟨#[]⟩ sl) := by
  unfold partT
  refine List.pairwise_map.2 ((plain_sorted hok nm ⟨#[]⟩).imp_of_mem fun {a b} ha hb hab => ?_)
  rcases sh_is (plain_key hok hk ha).1 with ⟨h1, e1⟩ | ⟨h1, e1⟩ | ⟨h1, e1⟩ <;> rcases sh_is (plain_key hok hk hb).1 with ⟨h2, e2⟩ | ⟨h2, e2⟩ | ⟨h2, e2⟩ <;> rw [e1, e2]
  · exact .inl hab
  · rcases h1 with h1 | h1 <;> rw [h1] <;> exact .inl (by kernel_rfl)
  · rcases h1 with h1 | h1 <;> rw [h1] <;> exact .inl (by kernel_rfl)
  · exfalso
    rcases h1 with h1 | h1 <;> rcases h2 with h2 | h2 <;> rw [h1, h2] at hab <;> (first | (rw [show ltS kY1 kx = false by kernel_rfl] at hab; cases hab) | (rw [show ltS kY1 kY = false by kernel_rfl] at hab; cases hab) | (rw [show ltS kY2 kx = false by kernel_rfl] at hab; cases hab) | (rw [show ltS kY2 kY = false by kernel_rfl] at hab; cases hab) | (rw [show ltS kz kx = false by kernel_rfl] at hab; cases hab) | (rw [show ltS kz kY = false by kernel_rfl] at hab; cases hab) | (rw [show ltS kz kY1 = false by kernel_rfl] at hab; cases hab) | (rw [show ltS kz kY2 = false by kernel_rfl] at hab; cases hab))
  · exact .inr rfl
  · exact .inl (by kernel_rfl)
  · exfalso
    rcases h2 with h2 | h2 <;> rw [h1, h2] at hab <;> (first | (rw [show ltS kY1 kx = false by kernel_rfl] at hab; cases hab) | (rw [show ltS kY1 kY = false by kernel_rfl] at hab; cases hab) | (rw [show ltS kY2 kx = false by kernel_rfl] at hab; cases hab) | (rw [show ltS kY2 kY = false by kernel_rfl] at hab; cases hab) | (rw [show ltS kz kx = false by kernel_rfl] at hab; cases hab) | (rw [show ltS kz kY = false by kernel_rfl] at hab; cases hab) | (rw [show ltS kz kY1 = false by kernel_rfl] at hab; cases hab) | (rw [show ltS kz kY2 = false by kernel_rfl] at hab; cases hab))
  · exfalso
    rcases h2 with h2 | h2 <;> rw [h1, h2] at hab <;> (first | (rw [show ltS kY1 kx = false by kernel_rfl] at hab; cases hab) | (rw [show ltS kY1 kY = false by kernel_rfl] at hab; cases hab) | (rw [show ltS kY2 kx = false by kernel_rfl] at hab; cases hab) | (rw [show ltS kY2 kY = false by kernel_rfl] at hab; cases hab) | (rw [show ltS kz kx = false by kernel_rfl] at hab; cases hab) | (rw [show ltS kz kY = false by kernel_rfl] at hab; cases hab) | (rw [show ltS kz kY1 = false by kernel_rfl] at hab; cases hab) | (rw [show ltS kz kY2 = false by kernel_rfl] at hab; cases hab))
  · exact .inr rfl
theorem em_ws {S : St} (hok : stC S = true) (nm : ByteArray) : WS (partT S nm ⟨#[]⟩ ⟨#[]⟩) := by
  rw [part_em]
  exact (plain_sorted hok nm _).imp fun q => .inl q
/-- The delimiter of the keeps: none, or a stroke. -/
def dlB (b : Bool) : ByteArray := if b then sl else ⟨#[]⟩
theorem part_ws {S : St} (hok : stC S = true) (hk : ∀ v ∈ S.ves, v.ke ∈ K5) (nm : ByteArray) (b : Bool) : WS (partT S nm ⟨#[]⟩ (dlB b)) := by
  cases b
  · exact em_ws hok nm
  · exact sl_ws hok hk nm
theorem part_gt {S : St} (hok : stC S = true) (hk : ∀ v ∈ S.ves, v.ke ∈ K5) (nm : ByteArray) (b : Bool) : ∀ r ∈ partT S nm ⟨#[]⟩ (dlB b), gtB r.key ⟨#[]⟩ = true := fun r hr => by
  unfold partT at hr
  obtain ⟨x, hx, rfl⟩ := List.mem_map.1 hr
  cases b
  · show gtB (shR x ⟨#[]⟩ ⟨#[]⟩).key _ = true
    rw [sh_em]
    exact gtB_em (plain_key hok hk hx).1
  · show gtB (shR x ⟨#[]⟩ sl).key _ = true
    rcases sh_is (plain_key hok hk hx).1 with ⟨_, e⟩ | ⟨_, e⟩ | ⟨_, e⟩ <;> rw [e]
    · exact gtB_em (plain_key hok hk hx).1
    · kernel_rfl
    · kernel_rfl
/-- All that Keys tells, parted or not. -/
def allK (S : St) (nm : ByteArray) (b : Bool) : List Ro := cmpL (partT S nm ⟨#[]⟩ (dlB b))
theorem allK_is {S : St} (hok : stC S = true) (hk : ∀ v ∈ S.ves, v.ke ∈ K5) (nm : ByteArray) (b : Bool) : keysL S nm ⟨#[]⟩ (dlB b) ⟨#[]⟩ = allK S nm b := by
  rw [keys_part, List.filter_eq_self.2 (part_gt hok hk nm b)]
  rfl
theorem allK_SK {S : St} (hok : stC S = true) (hk : ∀ v ∈ S.ves, v.ke ∈ K5) (nm : ByteArray) (b : Bool) : SK (allK S nm b) := cmp_ws (part_ws hok hk nm b)
theorem allK_af {S : St} (hok : stC S = true) (hk : ∀ v ∈ S.ves, v.ke ∈ K5) (nm : ByteArray) (b : Bool) (af : ByteArray) : keysL S nm ⟨#[]⟩ (dlB b) af = (allK S nm b).filter (fun r => gtB r.key af) := by
  rw [keys_part, cmp_filter (part_ws hok hk nm b)]
  rfl
theorem cmp_le (l : List Ro) : (cmpL l).length ≤ l.length := by
  have h := cmp_len l l.length (Nat.le_refl _)
  rwa [List.take_of_length_le (Nat.le_refl _)] at h
theorem allK_len {S : St} (hok : stC S = true) (hk : ∀ v ∈ S.ves, v.ke ∈ K5) (nm : ByteArray) (b : Bool) : (allK S nm b).length ≤ 5 := by
  have h1 := cmp_le (partT S nm ⟨#[]⟩ (dlB b))
  have h2 := plain_len hok hk nm ⟨#[]⟩
  unfold partT at h1
  rw [List.length_map] at h1
  unfold allK partT
  omega
theorem gt_of_lt {a b : ByteArray} (h : ltS a b = true) : gtB b a = true := by
  unfold gtB
  rw [Bool.not_eq_true', Bool.or_eq_false_iff]
  refine ⟨ltS_asy h, ?_⟩
  cases k : (b.toList == a.toList)
  · rfl
  · have e : b = a := eqS_to k
    rw [e, ltS_irr] at h
    cases h
theorem gt_no {a b : ByteArray} (h : ltS a b = true ∨ a = b) : gtB a b = false := by
  unfold gtB
  rw [Bool.not_eq_false', Bool.or_eq_true]
  rcases h with h | h
  · exact .inl h
  · exact .inr ((eqS_iff a b).2 h)
/-- Behind the j-th key stands what is behind it. -/
theorem SK_behind {A : List Ro} (h : SK A) {j : Nat} (hj : j < A.length) : A.filter (fun r => gtB r.key (A.getD j ro0).key) = A.drop (j + 1) := by
  have e : A = A.take (j + 1) ++ A.drop (j + 1) := (List.take_append_drop _ _).symm
  obtain ⟨K, hK⟩ : ∃ K, (A.getD j ro0).key = K := ⟨_, rfl⟩
  rw [hK]
  have hpw := List.pairwise_iff_getElem.1 h
  have h1 : (A.take (j + 1)).filter (fun r => gtB r.key K) = [] := List.filter_eq_nil_iff.2 fun r hr => by
    obtain ⟨i, hi, rfl⟩ := mem_at (d := ro0) hr
    rw [List.length_take] at hi
    have e2 : (A.take (j + 1)).getD i ro0 = A.getD i ro0 := by simp [List.getD, List.getElem?_take_of_lt (show i < j + 1 by omega)]
    rw [e2]
    rw [gt_no]
    · decide
    · rw [← hK]
      by_cases q : i = j
      · rw [q]; exact .inr rfl
      · have := hpw i j (by omega) hj (by omega)
        rw [getD_eq (by omega), getD_eq hj]
        exact .inl this
  have h2 : (A.drop (j + 1)).filter (fun r => gtB r.key K) = A.drop (j + 1) := List.filter_eq_self.2 fun r hr => by
    obtain ⟨i, hi, rfl⟩ := mem_at (d := ro0) hr
    rw [List.length_drop] at hi
    have e2 : (A.drop (j + 1)).getD i ro0 = A.getD (j + 1 + i) ro0 := by simp [List.getD, List.getElem?_drop]
    rw [e2]
    refine gt_of_lt ?_
    have := hpw j (j + 1 + i) hj (by omega) (by omega)
    rw [← hK, getD_eq hj, getD_eq (by omega)]
    exact this
  conv => lhs; rw [e]
  rw [List.filter_append, h1, h2]
  rfl
end Go.Proofs.YtdgmdapijhbocaaGreat
