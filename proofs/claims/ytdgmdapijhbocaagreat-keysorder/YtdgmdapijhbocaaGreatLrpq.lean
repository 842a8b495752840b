/- list.rowsOf: what its loops do, in plain words. -/
import Derived.Test.YtdgmdapijhbocaaGreatLsoq
import Derived.Test.YtdgmdapijhbocaaGreatSokq
namespace Go.Proofs.YtdgmdapijhbocaaGreat
open Go.RowKit Go.Maps Go.Sort
set_option maxRecDepth 100000
set_option linter.unusedVariables false
set_option linter.unusedSimpArgs false
def roF (v : Ve) : Ro := roOf v false
/-- The rows of those of the first k versions that are asked for. -/
def l0K (S : St) (nm pre : ByteArray) (k : Nat) : List Ro := ((S.ves.take k).filter (selP nm pre)).map roF
theorem l0_yes {S : St} {nm pre : ByteArray} {k : Nat} (hk : k < S.ves.length) (h : selP nm pre (S.ves.getD k ve0) = true) : l0K S nm pre (k + 1) = l0K S nm pre k ++ [roF (S.ves.getD k ve0)] := by
  unfold l0K
  rw [take_next S.ves ve0 hk, List.filter_append, List.map_append, show List.filter (selP nm pre) [S.ves.getD k ve0] = [S.ves.getD k ve0] by rw [List.filter_cons, if_pos h]; rfl]
  rfl
theorem l0_no {S : St} {nm pre : ByteArray} {k : Nat} (hk : k < S.ves.length) (h : selP nm pre (S.ves.getD k ve0) = false) : l0K S nm pre (k + 1) = l0K S nm pre k := by
  unfold l0K
  rw [take_next S.ves ve0 hk, List.filter_append, List.map_append, show List.filter (selP nm pre) [S.ves.getD k ve0] = [] by rw [List.filter_cons, if_neg (by rw [h]; decide)]; rfl]
  exact List.append_nil _
theorem l0_len (S : St) (nm pre : ByteArray) (k : Nat) : (l0K S nm pre k).length ≤ k := by
  unfold l0K
  have := List.length_filter_le (selP nm pre) (S.ves.take k)
  rw [List.length_map]
  have h2 := List.length_take_le k S.ves
  omega
theorem l0_all (S : St) (nm pre : ByteArray) : l0K S nm pre S.ves.length = (selV S nm pre).map roF := by unfold l0K selV; rw [List.take_of_length_le (Nat.le_refl _)]
theorem rowLt_key (x y : Ve) : rowLt (roF x) (roF y) = keyLt x y := rfl
theorem sel_rise {S : St} (h : stC S = true) (nm pre : ByteArray) : (selV S nm pre).Pairwise (fun x y => x.id < y.id) := ((stOk_iff S).1 h).vrise.filter _
theorem sv_len (S : St) (nm pre : ByteArray) : (sv S nm pre).length = (selV S nm pre).length := (srt_perm _).length_eq
theorem sort_is {S : St} (h : stC S = true) (nm pre : ByteArray) {F : List Ro} (hp : F.Perm ((selV S nm pre).map roF)) (hs : F.Pairwise (fun x y => rowLt y x = false)) : F = (sv S nm pre).map roF := by
  have hr := sel_rise h nm pre
  have h1 : ((sv S nm pre).map roF).Perm ((selV S nm pre).map roF) := (srt_perm _).map _
  have h2 : ((sv S nm pre).map roF).Pairwise (fun x y => rowLt x y = true) := List.pairwise_map.2 ((srt_sorted hr).imp fun {x y} q => by rw [rowLt_key]; exact q)
  have h3 : F.Pairwise (fun x y => x.id ≠ y.id) := by
    have e : ((selV S nm pre).map roF).Pairwise (fun x y => x.id ≠ y.id) := List.pairwise_map.2 (hr.imp fun {x y} q => by show x.id ≠ y.id; omega)
    exact (hp.pairwise_iff (fun {x y} q => Ne.symm q)).2 e
  have h4 : F.Pairwise (fun x y => rowLt x y = true) := (hs.and h3).imp fun {x y} q => by
    obtain ⟨q1, q2⟩ := q
    cases k : rowLt x y
    · exfalso
      have n1 : ¬ rowLt x y = true := by rw [k]; decide
      have n2 : ¬ rowLt y x = true := by rw [q1]; decide
      rw [rowLt_iff] at n1 n2
      have a1 : ltS x.key y.key = false := by simpa using fun z => n1 (.inl z)
      have a2 : ltS y.key x.key = false := by simpa using fun z => n2 (.inl z)
      have e : x.key = y.key := by
        cases z : eqS x.key y.key
        · rw [ltS_tot a1 z] at a2; cases a2
        · exact eqS_to z
      have b1 : ¬ y.id < x.id := fun z => n1 (.inr ⟨e, z⟩)
      have b2 : ¬ x.id < y.id := fun z => n2 (.inr ⟨e.symm, z⟩)
      exact q2 (by omega)
    · rfl
  refine perm_one (fun x y a b => ?_) (hp.trans h1.symm) h4 h2
  have t := rowSwo.trans x y x (by rw [rowC_lt]; exact a) (by rw [rowC_lt]; exact b)
  rw [rowSwo.irrefl] at t
  cases t
/-- The rows while it is told, one by one, which are the latest. -/
def mixL (l : List Ve) (k : Nat) : List Ro := rowsK l k ++ (l.drop k).map roF
theorem mixL_len {l : List Ve} {k : Nat} (h : k ≤ l.length) : (mixL l k).length = l.length := by unfold mixL; rw [List.length_append, rowsK_len, List.length_map, List.length_drop]; omega
theorem mixL_0 (l : List Ve) : mixL l 0 = l.map roF := rfl
theorem mixL_n (l : List Ve) : mixL l l.length = rowsL l := by unfold mixL rowsL; rw [List.drop_of_length_le (Nat.le_refl _)]; simp
theorem mixL_lo {l : List Ve} {k i : Nat} (h : i < k) : (mixL l k).getD i ro0 = roOf (l.getD i ve0) (latAt l i) := by
  rw [← rowsK_at l h]
  unfold mixL
  simp [List.getD, List.getElem?_append_left (show i < (rowsK l k).length by rw [rowsK_len]; exact h)]
theorem mixL_hi {l : List Ve} {k i : Nat} (h : k ≤ i) (hi : i < l.length) : (mixL l k).getD i ro0 = roF (l.getD i ve0) := by
  unfold mixL
  have hl : (rowsK l k).length ≤ i := by rw [rowsK_len]; exact h
  simp only [List.getD, List.getElem?_append_right hl, rowsK_len, List.getElem?_map, List.getElem?_drop]
  rw [show k + (i - k) = i by omega, List.getElem?_eq_getElem hi]
  rfl
theorem mixL_key {l : List Ve} {k i : Nat} (hi : i < l.length) : ((mixL l k).getD i ro0).key = (l.getD i ve0).ke := by
  by_cases h : i < k
  · rw [mixL_lo h]; rfl
  · rw [mixL_hi (by omega) hi]; rfl
theorem mixL_set {l : List Ve} {k : Nat} (hk : k < l.length) : mixL l (k + 1) = (mixL l k).set k (roOf (l.getD k ve0) (latAt l k)) := by
  unfold mixL
  have hl : (rowsK l k).length = k := rowsK_len l k
  rw [rowsK_next, List.set_append_right _ _ (by omega), hl, Nat.sub_self]
  rw [List.drop_eq_getElem_cons hk, List.map_cons, List.set_cons_zero]
  simp
theorem latAt_0 (l : List Ve) : latAt l 0 = true := rfl
theorem latAt_s (l : List Ve) (m : Nat) : latAt l (m + 1) = !eqS (l.getD m ve0).ke (l.getD (m + 1) ve0).ke := by
  unfold latAt
  simp
/-- One cell of a row is set. -/
theorem rw_put1 {α : Type} (C : α → List Value) (k : Nat) (hk : ∀ x, (C x).length = k) (d : α) {w : World} {g i j : Nat} {T : TypeId} {E : List α} {sp : List Value} (x : α) (v : Value) (hr : w.heap[g]? = some (.cells (E.flatMap C ++ sp).toArray T (0, 0))) (hi : i < E.length) (hj : j < k) (hx : C x = (C (E.getD i d)).set j v) :
    (w.setCell ⟨g, i * k + j, none⟩ v).heap[g]? = some (.cells ((E.set i x).flatMap C ++ sp).toArray T (0, 0)) := by
  have hf := flat_len2 C k hk E
  have h2 : (i + 1) * k ≤ E.length * k := Nat.mul_le_mul_right _ hi
  have h3 : (i + 1) * k = i * k + k := Nat.succ_mul i k
  have hlt : i * k + j < (E.flatMap C ++ sp).length := by rw [List.length_append, hf]; omega
  obtain ⟨P, a, Q, e, hp⟩ : ∃ P a Q, E.flatMap C ++ sp = P ++ a :: Q ∧ P.length = i * k + j := ⟨(E.flatMap C ++ sp).take (i * k + j), (E.flatMap C ++ sp)[i * k + j], (E.flatMap C ++ sp).drop (i * k + j + 1), by rw [List.getElem_cons_drop]; simp, by rw [List.length_take]; omega⟩
  rw [e] at hr
  rw [putOne hr hp v]
  congr 2
  have e2 : (P ++ [v]) ++ Q = (E.flatMap C ++ sp).set (i * k + j) v := by
    rw [e, List.set_append_right _ _ (by omega), hp, Nat.sub_self]
    simp
  rw [e2, List.set_append_left _ _ (by rw [hf]; omega)]
  congr 1
  have hf' := flat_len2 C k hk (E.set i x)
  rw [List.length_set] at hf'
  refine congrArg (· ++ sp) (List.ext_getElem? fun t => ?_)
  by_cases ht : t < E.length * k
  · have k0 : 0 < k := by omega
    have hd : t / k < E.length := Nat.div_lt_of_lt_mul (by rw [Nat.mul_comm]; exact ht)
    have hm := Nat.mod_lt t k0
    have h1 := flat_at C k hk d (E.set i x) (t / k) (t % k) (by rw [List.length_set]; exact hd) hm
    rw [Nat.mul_comm, Nat.div_add_mod] at h1
    have h4 := flat_at C k hk d E (t / k) (t % k) hd hm
    rw [Nat.mul_comm, Nat.div_add_mod] at h4
    rw [h1, List.getElem?_set]
    by_cases q : i = t / k
    · subst q
      have e3 : (E.set (t / k) x).getD (t / k) d = x := by simp [List.getD, hd]
      rw [e3, hx, List.getElem?_set]
      have e4 : t / k * k + t % k = t := by rw [Nat.mul_comm]; exact Nat.div_add_mod t k
      by_cases z : j = t % k
      · subst z
        rw [if_pos e4, if_pos rfl, if_pos (by rw [hf]; omega), if_pos (by rw [hk]; exact hm)]
      · rw [if_neg (by omega), if_neg z, h4]
    · have e3 : (E.set i x).getD (t / k) d = E.getD (t / k) d := by simp [List.getD, List.getElem?_set_ne q]
      rw [e3, if_neg ?_, h4]
      intro z
      have : (i * k + j) / k = i := by rw [Nat.mul_comm, Nat.mul_add_div k0, Nat.div_eq_of_lt hj]; omega
      rw [z] at this
      exact q this.symm
  · rw [List.getElem?_eq_none (by rw [List.length_set, hf]; omega), List.getElem?_eq_none (by rw [hf']; omega)]
end Go.Proofs.YtdgmdapijhbocaaGreat
