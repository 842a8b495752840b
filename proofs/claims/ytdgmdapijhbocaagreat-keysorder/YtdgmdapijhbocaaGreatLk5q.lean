/- The keys that records of raw numbers make are five; what is told of a bucket, key by key. -/
import Derived.Test.YtdgmdapijhbocaaGreatLkpq
import Derived.Test.YtdgmdapijhbocaaGreatG14
namespace Go.Proofs.YtdgmdapijhbocaaGreat
open Go.RowKit Go.Maps Go.PlainAid
set_option maxRecDepth 100000
set_option linter.unusedVariables false
set_option linter.unusedSimpArgs false
def kx : ByteArray := ⟨#[120]⟩
def kY : ByteArray := ⟨#[121]⟩
def kY1 : ByteArray := ⟨#[121, 47, 49]⟩
def kY2 : ByteArray := ⟨#[121, 47, 50]⟩
def kz : ByteArray := ⟨#[122, 47, 97, 47, 98]⟩
/-- The five, in their order. -/
def K5 : List ByteArray := [kx, kY, kY1, kY2, kz]
theorem kyB_in (n : Int) : kyB n ∈ K5 := by
  unfold kyB
  split
  · simp [K5, kx]
  · split
    · simp [K5, kY1]
    · split
      · simp [K5, kY2]
      · split
        · simp [K5, kz]
        · simp [K5, kY]
theorem mem_set9 {α : Type} {l : List α} {i : Nat} {y x : α} (h : x ∈ l.set i y) : x ∈ l ∨ x = y := by
  rcases List.mem_or_eq_of_mem_set h with h | h
  · exact .inl h
  · exact .inr h
theorem mem_getD9 {l : List Ve} {i : Nat} (P : ByteArray → Prop) (h0 : ∀ v ∈ l, P v.ke) (y : Ve) (hy : i < l.length → y.ke = (l.getD i ve0).ke) : ∀ v ∈ l.set i y, P v.ke := fun v hv => by
  by_cases hi : i < l.length
  · rcases mem_set9 hv with h | rfl
    · exact h0 v h
    · rw [hy hi]; exact h0 _ (mem_get hi)
  · rw [List.set_eq_of_length_le (by omega)] at hv
    exact h0 v hv
theorem cut_mem {l : List Ve} {k : Nat} {v : Ve} (h : v ∈ l.take k ++ l.drop (k + 1)) : v ∈ l := (cut_sub l k).subset h
theorem advD_mem {S : St} {Y v : Ve} (h : v ∈ (advD S Y).ves) : v ∈ S.ves := by
  unfold advD at h
  split at h
  · exact cut_mem h
  · exact h
theorem chg_keys {S : St} {r : Rc} (P : ByteArray → Prop) (h0 : chgE S r = 0) (hS : ∀ v ∈ S.ves, P v.ke) (hr : r.kind = 4 → P r.ver.ke) : ∀ v ∈ (chgS S r).ves, P v.ke := by
  by_cases k1 : r.kind = 1
  · rw [(chg_1 k1).2]; exact hS
  by_cases k2 : r.kind = 2
  · rw [(chg_2 k2).2]; exact hS
  by_cases k3 : r.kind = 3
  · rw [(chg_3 k3).2]; exact hS
  by_cases k4 : r.kind = 4
  · rw [(chg_4 k4).2]
    intro v hv
    rcases List.mem_append.1 (show v ∈ (advD S r.ver).ves ++ [r.ver] from hv) with h | h
    · exact hS v (advD_mem h)
    · rw [List.mem_singleton.1 h]; exact hr k4
  by_cases k5 : r.kind = 5
  · rw [(chg_5 k5).2]; exact fun v hv => hS v (cut_mem hv)
  by_cases k6 : r.kind = 6
  · rw [(chg_6 k6).2]
    exact mem_getD9 P hS _ (fun _ => by unfold frzV; split <;> rfl)
  by_cases k7 : r.kind = 7
  · rw [(chg_7 k7).2]; exact hS
  by_cases k8 : r.kind = 8
  · rw [(chg_8 k8).2]
    exact mem_getD9 P hS _ (fun _ => rfl)
  by_cases k9 : r.kind = 9
  · rw [(chg_9 k9).2]
    exact mem_getD9 P hS _ (fun _ => rfl)
  by_cases k10 : r.kind = 10
  · rw [(chg_10 k10).2]; exact hS
  by_cases k11 : r.kind = 11
  · rw [(chg_11 k11).2]; exact hS
  by_cases k12 : r.kind = 12
  · rw [(chg_12 k12).2]; exact hS
  by_cases k13 : r.kind = 13
  · rw [(chg_13 k13).2]; exact hS
  by_cases k14 : r.kind = 14
  · rw [(chg_14 k14).2]; exact hS
  rw [chg_x k1 k2 k3 k4 k5 k6 k7 k8 k9 k10 k11 k12 k13 k14] at h0
  cases h0
theorem recR_key {S : St} {x : Rw} (h : (recR S x).kind = 4) : (recR S x).ver.ke = kyB x.b := by
  rw [recR_kind] at h
  unfold recR
  rw [if_neg (by omega), if_neg (by omega), if_neg (by omega), if_pos (by omega)]
  show (verR S x).ke = _
  unfold verR
  split <;> rfl
theorem stN_keys (l : List Rw) : ∀ k, ∀ v ∈ (stN l k).ves, v.ke ∈ K5
  | 0 => fun v hv => by cases hv
  | k + 1 => by
    have ih := stN_keys l k
    rw [stN]
    by_cases h0 : appE (stN l k) (recR (stN l k) (rwAt l k)) = 0
    · rw [stp_yes h0]
      obtain ⟨_, h1, _, h2⟩ := app_ok h0
      rw [h2]
      exact chg_keys (· ∈ K5) h1 ih (fun hk => by rw [recR_key hk]; exact kyB_in _)
    · rw [stp_no h0]; exact ih
theorem staL_keys (l : List Rw) (most : Nat) : ∀ v ∈ (staL l most).ves, v.ke ∈ K5 := stN_keys l _
/-- Two lists with the same elements, each in a strict order, are one. -/
theorem sorted_ext {α : Type} {r : α → α → Prop} (hr : ∀ x y, r x y → r y x → False) : ∀ {l m : List α}, l.Pairwise r → m.Pairwise r → (∀ x, x ∈ l ↔ x ∈ m) → l = m
  | [], [], _, _, _ => rfl
  | [], y :: ys, _, _, h => absurd ((h y).2 (List.mem_cons_self ..)) (by simp)
  | x :: xs, [], _, _, h => absurd ((h x).1 (List.mem_cons_self ..)) (by simp)
  | x :: xs, y :: ys, h1, h2, h => by
    rw [List.pairwise_cons] at h1 h2
    have e : x = y := by
      rcases List.mem_cons.1 ((h x).1 (List.mem_cons_self ..)) with e | hx
      · exact e
      · rcases List.mem_cons.1 ((h y).2 (List.mem_cons_self ..)) with e | hy
        · exact e.symm
        · exact absurd (h2.1 x hx) fun k => hr _ _ k (h1.1 y hy)
    subst e
    refine congrArg _ (sorted_ext hr h1.2 h2.2 fun z => ?_)
    constructor
    · intro hz
      rcases List.mem_cons.1 ((h z).1 (List.mem_cons_of_mem _ hz)) with rfl | hz'
      · exact absurd (h1.1 _ hz) fun k => hr _ _ k k
      · exact hz'
    · intro hz
      rcases List.mem_cons.1 ((h z).2 (List.mem_cons_of_mem _ hz)) with rfl | hz'
      · exact absurd (h2.1 _ hz) fun k => hr _ _ k k
      · exact hz'
/-- What a row must be to be told by Keys. -/
def livR (r : Ro) : Bool := r.lat && !r.mar
def plain (S : St) (nm pre : ByteArray) : List Ro := (rowsL (sv S nm pre)).filter livR
/-- What is told of one key. -/
def oneR (S : St) (nm ky : ByteArray) : Option Ro := if latB S nm ky && !(latV S nm ky).mar then some (roOf (latV S nm ky) true) else none
theorem rowsL_mem {l : List Ve} {r : Ro} (h : r ∈ rowsL l) : ∃ i, i < l.length ∧ r = roOf (l.getD i ve0) (latAt l i) := by
  unfold rowsL rowsK at h
  obtain ⟨i, hi, rfl⟩ := List.mem_map.1 h
  exact ⟨i, List.mem_range.1 hi, rfl⟩
theorem rowsL_in {l : List Ve} {i : Nat} (h : i < l.length) : roOf (l.getD i ve0) (latAt l i) ∈ rowsL l := by
  unfold rowsL rowsK
  exact List.mem_map.2 ⟨i, List.mem_range.2 h, rfl⟩
theorem key_mono {l : List Ve} (hs : l.Pairwise (fun x y => keyLt x y = true)) {i j : Nat} (hij : i < j) (hj : j < l.length) : ltS (l.getD i ve0).ke (l.getD j ve0).ke = true ∨ ((l.getD i ve0).ke = (l.getD j ve0).ke ∧ (l.getD j ve0).id < (l.getD i ve0).id) := by
  have := List.pairwise_iff_getElem.1 hs i j (by omega) hj hij
  rw [getD_eq (by omega), getD_eq hj]
  unfold keyLt at this
  rw [Bool.or_eq_true, Bool.and_eq_true, decide_eq_true_eq, eqS_iff] at this
  exact this
theorem lat_first {l : List Ve} (hs : l.Pairwise (fun x y => keyLt x y = true)) {i j : Nat} (hij : i < j) (hj : j < l.length) (hl : latAt l j = true) : ltS (l.getD i ve0).ke (l.getD j ve0).ke = true := by
  obtain ⟨m, rfl⟩ : ∃ m, j = m + 1 := ⟨j - 1, by omega⟩
  rw [latAt_s, Bool.not_eq_true'] at hl
  have h1 : ltS (l.getD m ve0).ke (l.getD (m + 1) ve0).ke = true := by
    rcases key_mono hs (show m < m + 1 by omega) hj with h | ⟨h, _⟩
    · exact h
    · rw [(eqS_iff _ _).2 h] at hl; cases hl
  by_cases e : i = m
  · rw [e]; exact h1
  · rcases key_mono hs (show i < m by omega) (by omega) with h | ⟨h, _⟩
    · exact ltS_tr h h1
    · rw [h]; exact h1
theorem plain_sorted {S : St} (hok : stC S = true) (nm pre : ByteArray) : (plain S nm pre).Pairwise (fun x y => ltS x.key y.key = true) := by
  have hs : (sv S nm pre).Pairwise (fun x y => keyLt x y = true) := srt_sorted (sel_rise hok nm pre)
  unfold plain rowsL rowsK
  rw [List.filter_map, List.pairwise_map]
  refine (List.Pairwise.filter _ (List.pairwise_lt_range (n := (sv S nm pre).length))).imp_of_mem ?_
  intro i j hi hj hij
  have h2 := (List.mem_filter.1 hj)
  have h3 : livR (roOf ((sv S nm pre).getD j ve0) (latAt (sv S nm pre) j)) = true := h2.2
  unfold livR at h3
  rw [Bool.and_eq_true] at h3
  exact lat_first hs hij (List.mem_range.1 h2.1) h3.1
/-- Of the versions of a key one is first: the one with the greatest number. -/
theorem lat_iff {S : St} (hok : stC S = true) (nm pre : ByteArray) {i : Nat} (hi : i < (sv S nm pre).length) : latAt (sv S nm pre) i = true ↔ ∀ x ∈ S.ves, x.bu = nm → x.ke = ((sv S nm pre).getD i ve0).ke → x.id ≤ ((sv S nm pre).getD i ve0).id := by
  have hs : (sv S nm pre).Pairwise (fun x y => keyLt x y = true) := srt_sorted (sel_rise hok nm pre)
  have hm : (sv S nm pre).getD i ve0 ∈ sv S nm pre := mem_get hi
  obtain ⟨m1, m2⟩ := sv_mem hm
  constructor
  · intro hl x hx hb hk
    have hxs : x ∈ sv S nm pre := by
      refine (srt_perm _).mem_iff.2 (List.mem_filter.2 ⟨hx, ?_⟩)
      unfold selP at m2 ⊢
      rw [Bool.and_eq_true] at m2 ⊢
      exact ⟨by rw [hb]; exact (eqS_iff _ _).2 rfl, by rw [hk]; exact m2.2⟩
    obtain ⟨j, hj, e⟩ := mem_at (d := ve0) hxs
    rcases Nat.lt_trichotomy i j with h | h | h
    · rcases key_mono hs h hj with q | ⟨_, q⟩
      · rw [e, hk, ltS_irr] at q; cases q
      · rw [e] at q; omega
    · rw [← e, ← h]; exact Int.le_refl _
    · have q := lat_first hs h hi hl
      rw [e, hk, ltS_irr] at q; cases q
  · intro h
    cases i with
    | zero => exact latAt_0 _
    | succ m =>
      rw [latAt_s, Bool.not_eq_true']
      cases e : eqS ((sv S nm pre).getD m ve0).ke ((sv S nm pre).getD (m + 1) ve0).ke
      · rfl
      · exfalso
        have e2 := eqS_to e
        have hm0 : (sv S nm pre).getD m ve0 ∈ sv S nm pre := mem_get (by omega)
        obtain ⟨n1, n2⟩ := sv_mem hm0
        unfold selP at n2
        rw [Bool.and_eq_true] at n2
        have h1 := h _ n1 (eqS_to n2.1) e2
        rcases key_mono hs (show m < m + 1 by omega) hi with q | ⟨_, q⟩
        · rw [e2, ltS_irr] at q; cases q
        · omega
theorem lastB_cases (p : Nat → Bool) : ∀ n : Nat, (lastB n p = -1 ∧ ∀ j, j < n → p j = false) ∨ ∃ k, k < n ∧ lastB n p = (k : Int) ∧ p k = true ∧ ∀ j, k < j → j < n → p j = false
  | 0 => .inl ⟨rfl, fun j hj => absurd hj (Nat.not_lt_zero _)⟩
  | n + 1 => by
    cases h : p n
    · have e : lastB (n + 1) p = lastB n p := by rw [lastB, h]; rfl
      rcases lastB_cases p n with ⟨h1, h2⟩ | ⟨k, hk, h1, h2, h3⟩
      · exact .inl ⟨by rw [e, h1], fun j hj => by
          by_cases q : j = n
          · rw [q]; exact h
          · exact h2 j (by omega)⟩
      · exact .inr ⟨k, by omega, by rw [e, h1], h2, fun j hj hjn => by
          by_cases q : j = n
          · rw [q]; exact h
          · exact h3 j hj (by omega)⟩
    · exact .inr ⟨n, by omega, by rw [lastB, if_pos h], h, fun j hj hjn => by omega⟩
theorem lat_none {S : St} {nm ky : ByteArray} (h : latB S nm ky = false) (hok : stC S = true) : ∀ x ∈ S.ves, x.bu = nm → x.ke = ky → False := fun x hx hb hk => by
  obtain ⟨i, hi, e⟩ := mem_at (d := ve0) hx
  have hp : latP S.ves nm ky i = true := by
    unfold latP
    rw [e, hb, hk, (eqS_iff _ _).2 rfl, (eqS_iff _ _).2 rfl]
    rfl
  unfold latB at h
  rw [hok, Bool.true_and, decide_eq_false_iff_not] at h
  rcases lastB_cases (latP S.ves nm ky) S.ves.length with ⟨_, h2⟩ | ⟨k, _, h1, _, _⟩
  · rw [h2 i hi] at hp; cases hp
  · omega
theorem lat_some {S : St} {nm ky : ByteArray} (hok : stC S = true) (h : latB S nm ky = true) : latV S nm ky ∈ S.ves ∧ (latV S nm ky).bu = nm ∧ (latV S nm ky).ke = ky ∧ ∀ x ∈ S.ves, x.bu = nm → x.ke = ky → x.id ≤ (latV S nm ky).id := by
  unfold latB at h
  rw [hok, Bool.true_and, decide_eq_true_eq] at h
  rcases lastB_cases (latP S.ves nm ky) S.ves.length with ⟨h1, _⟩ | ⟨k, hk, h1, h2, h3⟩
  · omega
  · have e : latV S nm ky = S.ves.getD k ve0 := by
      unfold latV latK
      rw [if_pos hok, h1, if_neg (by omega), Int.toNat_natCast]
    have h2' := h2
    unfold latP at h2'
    rw [Bool.and_eq_true] at h2'
    rw [e]
    refine ⟨mem_get hk, eqS_to h2'.1, eqS_to h2'.2, fun x hx hb hke => ?_⟩
    obtain ⟨j, hj, ej⟩ := mem_at (d := ve0) hx
    have hp : latP S.ves nm ky j = true := by
      unfold latP
      rw [ej, hb, hke, (eqS_iff _ _).2 rfl, (eqS_iff _ _).2 rfl]
      rfl
    have hjk : j ≤ k := by
      by_cases q : k < j
      · rw [h3 j q hj] at hp; cases hp
      · omega
    rw [← ej]
    by_cases q : j = k
    · rw [q]; exact Int.le_refl _
    · have hr := List.pairwise_iff_getElem.1 ((stOk_iff S).1 hok).vrise j k hj hk (by omega)
      rw [getD_eq hj, getD_eq hk]
      omega
theorem id_one {S : St} (hok : stC S = true) {x y : Ve} (hx : x ∈ S.ves) (hy : y ∈ S.ves) (h : x.id = y.id) : x = y := by
  obtain ⟨i, hi, rfl⟩ := mem_at (d := ve0) hx
  obtain ⟨j, hj, rfl⟩ := mem_at (d := ve0) hy
  have hr := List.pairwise_iff_getElem.1 ((stOk_iff S).1 hok).vrise
  rcases Nat.lt_trichotomy i j with q | q | q
  · have := hr i j hi hj q
    rw [getD_eq hi, getD_eq hj] at h
    omega
  · rw [q]
  · have := hr j i hj hi q
    rw [getD_eq hi, getD_eq hj] at h
    omega
theorem oneR_key {S : St} {nm ky : ByteArray} (hok : stC S = true) {r : Ro} (h : oneR S nm ky = some r) : latB S nm ky = true ∧ (latV S nm ky).mar = false ∧ r = roOf (latV S nm ky) true ∧ r.key = ky := by
  unfold oneR at h
  split at h
  · next q =>
    rw [Bool.and_eq_true, Bool.not_eq_true'] at q
    have e : roOf (latV S nm ky) true = r := by simpa using h
    exact ⟨q.1, q.2, e.symm, by rw [← e]; exact (lat_some hok q.1).2.2.1⟩
  · cases h
theorem K5_sorted : K5.Pairwise (fun x y => ltS x y = true) := by
  unfold K5
  simp only [List.pairwise_cons, List.mem_cons, List.not_mem_nil, or_false, forall_eq_or_imp, forall_eq]
  exact ⟨⟨by kernel_rfl, by kernel_rfl, by kernel_rfl, by kernel_rfl⟩, ⟨by kernel_rfl, by kernel_rfl, by kernel_rfl⟩, ⟨by kernel_rfl, by kernel_rfl⟩, by kernel_rfl, fun _ h => h.elim, List.Pairwise.nil⟩
theorem plain_is {S : St} (hok : stC S = true) (hk : ∀ v ∈ S.ves, v.ke ∈ K5) (nm pre : ByteArray) : plain S nm pre = (K5.filter (fun k => pfB k pre)).filterMap (oneR S nm) := by
  refine sorted_ext (r := fun x y => ltS x.key y.key = true) (fun x y a b => by rw [ltS_asy a] at b; cases b) (plain_sorted hok nm pre) ?_ fun r => ?_
  · refine List.pairwise_filterMap.2 ((K5_sorted.filter _).imp fun {a b} hab x hx y hy => ?_)
    rw [(oneR_key hok hx).2.2.2, (oneR_key hok hy).2.2.2]
    exact hab
  · constructor
    · intro h
      obtain ⟨h1, h2⟩ := List.mem_filter.1 h
      obtain ⟨i, hi, rfl⟩ := rowsL_mem h1
      have hm : (sv S nm pre).getD i ve0 ∈ sv S nm pre := mem_get hi
      obtain ⟨m1, m2⟩ := sv_mem hm
      unfold livR at h2
      rw [Bool.and_eq_true, Bool.not_eq_true'] at h2
      obtain ⟨h2, h3⟩ := h2
      have h2 : latAt (sv S nm pre) i = true := h2
      have h3 : ((sv S nm pre).getD i ve0).mar = false := h3
      have hl := (lat_iff hok nm pre hi).1 h2
      unfold selP at m2
      rw [Bool.and_eq_true] at m2
      refine List.mem_filterMap.2 ⟨((sv S nm pre).getD i ve0).ke, List.mem_filter.2 ⟨hk _ m1, m2.2⟩, ?_⟩
      have hb : latB S nm ((sv S nm pre).getD i ve0).ke = true := by
        cases q : latB S nm ((sv S nm pre).getD i ve0).ke
        · exact absurd rfl (fun z => lat_none q hok _ m1 (eqS_to m2.1) z)
        · rfl
      obtain ⟨g1, g2, g3, g4⟩ := lat_some hok hb
      have e : latV S nm ((sv S nm pre).getD i ve0).ke = (sv S nm pre).getD i ve0 := by
        refine id_one hok g1 m1 ?_
        have a := hl _ g1 g2 g3
        have b := g4 _ m1 (eqS_to m2.1) rfl
        omega
      unfold oneR
      rw [hb, e, h3, h2]
      rfl
    · intro h
      obtain ⟨ky, h1, h2⟩ := List.mem_filterMap.1 h
      obtain ⟨h3, h4⟩ := List.mem_filter.1 h1
      obtain ⟨g1, g2, rfl, _⟩ := oneR_key hok h2
      obtain ⟨a1, a2, a3, a4⟩ := lat_some hok g1
      have hxs : latV S nm ky ∈ sv S nm pre := by
        refine (srt_perm _).mem_iff.2 (List.mem_filter.2 ⟨a1, ?_⟩)
        unfold selP
        rw [Bool.and_eq_true]
        exact ⟨by rw [a2]; exact (eqS_iff _ _).2 rfl, by rw [a3]; exact h4⟩
      obtain ⟨i, hi, e⟩ := mem_at (d := ve0) hxs
      have hl : latAt (sv S nm pre) i = true := by
        rw [lat_iff hok nm pre hi, e]
        intro x hx hb hke
        exact a4 x hx hb (by rw [hke]; exact a3)
      refine List.mem_filter.2 ⟨?_, by unfold livR; show (true && !(latV S nm ky).mar) = true; rw [g2]; rfl⟩
      have := rowsL_in hi
      rw [e, hl] at this
      exact this
end Go.Proofs.YtdgmdapijhbocaaGreat
