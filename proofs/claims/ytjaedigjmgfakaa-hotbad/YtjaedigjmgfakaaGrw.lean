/- A region that draws its order and only makes new memory: one fact for each operation, in every world that has grown, serves every order. -/
import Derived.Test.YtjaedigjmgfakaaBase
import Derived.Orders
namespace Go.Proofs.Ytjaedigjmgfakaa
open Go.RowKit
set_option linter.unusedVariables false
set_option linter.unusedSimpArgs false
/-- How many have not come up yet. -/
def openN (listed : Array Bool) : Nat := listed.toList.count false
theorem count_set (l : List Bool) {i : Nat} (hi : l[i]? = some false) : (l.set i true).count false + 1 = l.count false := by
  induction l generalizing i with
  | nil => simp at hi
  | cons b l ih =>
    cases i with
    | zero => simp at hi; subst hi; simp
    | succ i =>
      simp at hi
      simp only [List.set_cons_succ, List.count_cons]
      have := ih hi
      omega
theorem openN_set {listed : Array Bool} {i : Nat} (hi : listed.getD i true = false) : openN (listed.setIfInBounds i true) + 1 = openN listed := by
  have hlt : i < listed.size := by
    rcases Nat.lt_or_ge i listed.size with h | h
    · exact h
    · simp [Array.getD, Nat.not_lt.2 h] at hi
  unfold openN
  rw [Array.toList_setIfInBounds]
  refine count_set _ ?_
  rw [Array.getElem?_toList, Array.getElem?_eq_getElem hlt]
  simpa [Array.getD, hlt] using hi
theorem openN_zero {listed : Array Bool} (h : openN listed = 0) (i : Nat) : listed.getD i true = true := by
  rcases Nat.lt_or_ge i listed.size with hlt | hge
  · unfold openN at h
    rw [List.count_eq_zero] at h
    cases hb : listed.getD i true
    · exfalso
      apply h
      have : listed[i] = false := by simpa [Array.getD, hlt] using hb
      rw [← this]
      simp
    · rfl
  · simp [Array.getD, Nat.not_lt.2 hge]
section
variable {P : Program} {ops : Array Oper} {Q : Exit → Act → World → Prop} {md : Region.Mode}
/-- An invariant of the operations that have come up, the frame and the world serves every order. -/
theorem wpAny_inv (I : Array Bool → Act → World → Prop) (hs : ∀ listed a w, I listed a w → ∀ i ∈ Region.ready md ops listed, wpOp P ops Q i (I (listed.setIfInBounds i true)) a w)
    (he : ∀ listed a w, I listed a w → Region.ready md ops listed = [] → Q .normal a w) : ∀ (fuel : Nat) (listed : Array Bool) (a : Act) (w : World), openN listed ≤ fuel → I listed a w → wpAny P md ops Q fuel listed a w
  | 0, listed, a, w, hn, hI => by
    have hr : Region.ready md ops listed = [] := by
      rw [List.eq_nil_iff_forall_not_mem]
      intro i hi
      have := (mem_ready.1 hi).1
      rw [openN_zero (by omega)] at this
      cases this
    exact ⟨hr, he _ _ _ hI hr⟩
  | fuel + 1, listed, a, w, hn, hI => by
    refine ⟨he _ _ _ hI, fun i hi => wpOp_mono (fun a' w' h => wpAny_inv I hs he fuel _ a' w' ?_ h) (hs _ _ _ hI i hi)⟩
    have := openN_set (mem_ready.1 hi).1
    omega
/-- What the frame has in the slot of an operation. -/
def slotV (a : Act) (o : Oper) : Value := a.tmps.getD (o.dst.getD 0) undef
/-- Slots that no operation of the region writes. -/
def Else (ops : Array Oper) (a0 a : Act) : Prop := a.tmps.size = a0.tmps.size ∧ a.defers = a0.defers ∧ ∀ t, (∀ o ∈ ops, o.dst ≠ some t) → a.tmps.getD t undef = a0.tmps.getD t undef
structure GrowI (ops : Array Oper) (F : Nat → Value → World → Prop) (w0 : World) (a0 : Act) (listed : Array Bool) (a : Act) (w : World) : Prop where
  size : listed.size = ops.size
  els : Else ops a0 a
  bel : Below w0.heap.size w0 w
  got : ∀ i o, ops[i]? = some o → listed.getD i true = true → F i (slotV a o) w
theorem ready_nil_all (hops : ∀ (i : Nat) (o : Oper), ops[i]? = some o → ∀ e ∈ o.after, e.on < i) {listed : Array Bool} (hsz : listed.size = ops.size) (hr : Region.ready md ops listed = []) : ∀ i, i < ops.size → listed.getD i true = true := by
  intro i
  induction i using Nat.strongRecOn with
  | ind i ih =>
    intro hi
    cases hb : listed.getD i true
    · exfalso
      have : i ∈ Region.ready md ops listed := mem_ready.2 ⟨hb, ops[i], Array.getElem?_eq_getElem hi, fun e he _ => by
        have hlt := hops i ops[i] (Array.getElem?_eq_getElem hi) e he
        have := ih e.on hlt (by omega)
        simpa [Array.getD, show e.on < listed.size by omega] using this⟩
      rw [hr] at this
      cases this
    · rfl
/-- **One fact for each operation.** F i v w: the value v that operation number i has left is good in the world w. -/
theorem wp_region_grow {id : Nat} {a0 : Act} {w0 : World} (F : Nat → Value → World → Prop) (hm : P.follows .mixedOrders = true)
    (hup : ∀ i v w w', Below w.heap.size w w' → F i v w → F i v w')
    (hdst : ∀ (i : Nat) (o : Oper), ops[i]? = some o → ∃ t, o.dst = some t ∧ t < a0.tmps.size ∧ o.guard = none ∧ ∀ (j : Nat) (o' : Oper), ops[j]? = some o' → o'.dst = some t → j = i)
    (hops : ∀ (i : Nat) (o : Oper), ops[i]? = some o → ∀ e ∈ o.after, e.on < i)
    (hstep : ∀ (i : Nat) (o : Oper) (a : Act) (w : World), ops[i]? = some o → Else ops a0 a → Below w0.heap.size w0 w → (∀ e ∈ o.after, Region.binds .any e = true → ∀ o', ops[e.on]? = some o' → F e.on (slotV a o') w) → Region.wanted o (yielded ops a.tmps) = true ∧ Oper.wp P o a w (fun a' w' => ∃ v, a' = a.put o.dst v ∧ Below w.heap.size w w' ∧ F i v w') Q)
    (hend : ∀ a w, Else ops a0 a → Below w0.heap.size w0 w → (∀ i o, ops[i]? = some o → F i (slotV a o) w) → Q .normal a w) : (Code.region id ops true).wp P Q a0 w0 := by
  refine wp_region_any hm (wpAny_inv (GrowI ops F w0 a0) ?_ ?_ _ _ _ _ ?_ ⟨by simp, ⟨rfl, rfl, fun t _ => rfl⟩, (Below.refl _ _).drew, fun i o ho hl => ?_⟩)
  · intro listed a w hI i hi
    obtain ⟨hun, o, ho, hall⟩ := mem_ready.1 hi
    obtain ⟨t, ht, hts, hg, huniq⟩ := hdst i o ho
    obtain ⟨hwant, hwp⟩ := hstep i o a w ho hI.els hI.bel fun e he hb o' ho' => by
      refine hI.got _ _ ho' ?_
      have := hall e he hb
      have hlt := hops i o ho e he
      have hes : e.on < ops.size := (Array.getElem?_eq_some_iff.1 ho').1
      have hls := hI.size
      simpa [Array.getD, show e.on < listed.size by omega] using this
    unfold wpOp
    rw [ho]
    simp only [hwant, if_true]
    refine .inl (Oper.wp_mono (fun a' w' hh => ?_) hwp)
    obtain ⟨v, rfl, hb, hf⟩ := hh
    have hself : slotV (a.put o.dst v) o = v := by
      unfold slotV
      rw [ht]
      simp only [Act.put, Option.getD_some]
      have : t < a.tmps.size := by rw [hI.els.1]; exact hts
      simp [Array.getD, this]
    have hother : ∀ (j : Nat) (o' : Oper), ops[j]? = some o' → j ≠ i → slotV (a.put o.dst v) o' = slotV a o' := fun j o' ho' hj => by
      obtain ⟨t', ht', _, _, _⟩ := hdst j o' ho'
      have hne : t ≠ t' := fun e => hj (huniq j o' ho' (by rw [ht', e]))
      unfold slotV
      rw [ht, ht']
      simp only [Act.put, Option.getD_some]
      simp [Array.getD_eq_getD_getElem?, Array.getElem?_setIfInBounds_ne hne]
    refine ⟨by simp [hI.size], ⟨?_, ?_, fun s hsn => ?_⟩, hI.bel.trans (hb.mono hI.bel.size), fun j o' ho' hl => ?_⟩
    · rw [ht]; simp [Act.put, hI.els.1]
    · rw [ht]; exact hI.els.2.1
    · have hne : t ≠ s := fun e => hsn o (Array.mem_of_getElem? ho) (by rw [ht, e])
      rw [ht, ← hI.els.2.2 s hsn]
      simp [Act.put, Array.getD_eq_getD_getElem?, Array.getElem?_setIfInBounds_ne hne]
    · by_cases hj : j = i
      · subst hj
        rw [ho] at ho'
        simp at ho'
        subst ho'
        rw [hself]; exact hf
      · rw [hother j o' ho' hj]
        refine hup _ _ _ _ hb (hI.got j o' ho' ?_)
        simpa [Array.getD_eq_getD_getElem?, Array.getElem?_setIfInBounds_ne (Ne.symm hj)] using hl
  · intro listed a w hI hr
    refine hend a w hI.els hI.bel fun i o ho => hI.got i o ho ?_
    exact ready_nil_all hops hI.size hr i (Array.getElem?_eq_some_iff.1 ho).1
  · unfold openN
    rw [show (Array.replicate ops.size false).toList = List.replicate ops.size false by simp, List.count_replicate]
    simp
  · exfalso
    have hlt : i < ops.size := (Array.getElem?_eq_some_iff.1 ho).1
    simp [Array.getD, hlt] at hl
/-- A property of each operation, one by one. -/
def AllOps (R : Nat → Oper → Prop) : Nat → List Oper → Prop
  | _, [] => True
  | k, o :: l => R k o ∧ AllOps R (k + 1) l
theorem AllOps.cons {R : Nat → Oper → Prop} {k : Nat} {o : Oper} {l : List Oper} (h : R k o) (t : AllOps R (k + 1) l) : AllOps R k (o :: l) := ⟨h, t⟩
theorem AllOps.nil {R : Nat → Oper → Prop} {k : Nat} : AllOps R k [] := trivial
theorem AllOps.at {R : Nat → Oper → Prop} : ∀ {l : List Oper} {k : Nat}, AllOps R k l → ∀ (i : Nat) (o : Oper), l[i]? = some o → R (k + i) o
  | [], _, _, i, o, h => by simp at h
  | _ :: _, k, h, 0, o, e => by simp at e; subst e; exact h.1
  | _ :: _, k, h, i + 1, o, e => by
    have := AllOps.at h.2 i o (by simpa using e)
    rwa [show k + 1 + i = k + (i + 1) by omega] at this
/-- Each operation has a slot of its own, and no guard; it waits for earlier ones alone. -/
def dstB (l : List Oper) (n : Nat) : Bool := (List.range l.length).all fun i => (l[i]?).any fun o => (o.dst.any fun t => decide (t < n) && (List.range l.length).all fun j => j == i || (l[j]?).all fun o' => o'.dst != some t) && o.guard.isNone && o.after.all fun e => decide (e.on < i)
theorem dstB_all {l : List Oper} {n : Nat} (h : dstB l n = true) {i : Nat} {o : Oper} (ho : l[i]? = some o) : (∃ t, o.dst = some t ∧ t < n ∧ o.guard = none ∧ ∀ (j : Nat) (o' : Oper), l[j]? = some o' → o'.dst = some t → j = i) ∧ ∀ e ∈ o.after, e.on < i := by
  unfold dstB at h
  rw [List.all_eq_true] at h
  have h1 := h i (List.mem_range.2 (List.getElem?_eq_some_iff.1 ho).1)
  rw [ho] at h1
  simp only [Option.any_some, Bool.and_eq_true] at h1
  obtain ⟨⟨h1, h2⟩, h3⟩ := h1
  rw [Array.all_eq_true_iff_forall_mem] at h3
  refine ⟨?_, fun e he => by simpa using h3 e he⟩
  cases hd : o.dst with
  | none => rw [hd] at h1; simp at h1
  | some t =>
    rw [hd] at h1
    simp only [Option.any_some, Bool.and_eq_true, decide_eq_true_eq, List.all_eq_true, List.mem_range, Bool.or_eq_true, beq_iff_eq] at h1
    refine ⟨t, rfl, h1.1, by simpa using h2, fun j o' ho' hd' => ?_⟩
    rcases h1.2 j (List.getElem?_eq_some_iff.1 ho').1 with e | e
    · exact e
    · rw [ho'] at e
      simp [hd'] at e
def StepR (P : Program) (Q : Exit → Act → World → Prop) (l : List Oper) (F : Nat → Value → World → Prop) (w0 : World) (a0 : Act) (i : Nat) (o : Oper) : Prop :=
  ∀ a w, (∀ t, (l.all fun o => o.dst != some t) = true → a.tmps.getD t undef = a0.tmps.getD t undef) → Below w0.heap.size w0 w → (∀ k, (o.after.any fun e => e.on == k && Region.binds .any e) = true → ∀ o', l[k]? = some o' → F k (slotV a o') w) →
    Region.wanted o (yielded l.toArray a.tmps) = true ∧ Oper.wp P o a w (fun a' w' => ∃ v, a' = a.put o.dst v ∧ Below w.heap.size w w' ∧ F i v w') Q
theorem else_of {l : List Oper} {a0 a : Act} (h : Else l.toArray a0 a) {t : Nat} (ht : (l.all fun o => o.dst != some t) = true) : a.tmps.getD t undef = a0.tmps.getD t undef := by
  refine h.2.2 t fun o ho e => ?_
  rw [List.all_eq_true] at ht
  have := ht o (by simpa using ho)
  simp [e] at this
theorem rebuild_at (x : Array Value) : ∀ (ds : List Nat) (y : Array Value), (ds.foldl (fun t d => t.setIfInBounds d (x.getD d undef)) y).size = y.size ∧ ∀ i, (ds.foldl (fun t d => t.setIfInBounds d (x.getD d undef)) y).getD i undef = if i ∈ ds ∧ i < y.size then x.getD i undef else y.getD i undef
  | [], y => ⟨rfl, fun i => by simp⟩
  | d :: ds, y => by
    obtain ⟨h1, h2⟩ := rebuild_at x ds (y.setIfInBounds d (x.getD d undef))
    refine ⟨by simpa using h1, fun i => ?_⟩
    rw [List.foldl_cons, h2]
    by_cases hi : i ∈ ds ∧ i < y.size
    · rw [if_pos (by simpa using hi), if_pos ⟨List.mem_cons_of_mem _ hi.1, hi.2⟩]
    · rw [if_neg (by simpa using hi)]
      by_cases e : d = i
      · subst e
        by_cases hl : d < y.size
        · rw [if_pos ⟨List.mem_cons_self, hl⟩]
          simp only [Array.getD_eq_getD_getElem?]
          rw [Array.getElem?_setIfInBounds_self_of_lt hl]
          rfl
        · rw [if_neg (fun q => hl q.2)]
          simp only [Array.getD_eq_getD_getElem?]
          rw [Array.getElem?_eq_none (by simp; omega), Array.getElem?_eq_none (by omega)]
      · have e2 : ¬ (i ∈ d :: ds ∧ i < y.size) := fun q => by
          rcases List.mem_cons.1 q.1 with h | h
          · exact e h.symm
          · exact hi ⟨h, q.2⟩
        rw [if_neg e2]
        simp only [Array.getD_eq_getD_getElem?]
        rw [Array.getElem?_setIfInBounds_ne e]
/-- A frame that parts from another one in some slots alone, written out. -/
theorem rebuild {x y : Array Value} (hs : x.size = y.size) {ds : List Nat} (h : ∀ t, t ∉ ds → x.getD t undef = y.getD t undef) : x = ds.foldl (fun t d => t.setIfInBounds d (x.getD d undef)) y := by
  obtain ⟨h1, h2⟩ := rebuild_at x ds y
  refine Array.ext (by rw [h1, hs]) fun i hi hi' => ?_
  have hgen : ∀ (z : Array Value) (hz : i < z.size), z.getD i undef = z[i] := fun z hz => by simp [Array.getD, hz]
  have h3 := h2 i
  rw [hgen _ hi'] at h3
  rw [h3, ← hgen x hi]
  by_cases q : i ∈ ds ∧ i < y.size
  · rw [if_pos q]
  · rw [if_neg q]
    exact h i fun m => q ⟨m, by omega⟩
/-- The law, as it is used. -/
theorem wp_grow {l : List Oper} {id : Nat} {a0 : Act} {w0 : World} {Q : Exit → Act → World → Prop} (F : Nat → Value → World → Prop) (hm : P.follows .mixedOrders = true) (hd : dstB l a0.tmps.size = true)
    (hup : ∀ i v w w', Below w.heap.size w w' → F i v w → F i v w')
    (hstep : AllOps (StepR P Q l F w0 a0) 0 l)
    (hend : ∀ a w, a = { tmps := (l.filterMap (·.dst)).foldl (fun t d => t.setIfInBounds d (a.tmps.getD d undef)) a0.tmps, defers := a0.defers } → Below w0.heap.size w0 w → (∀ i o, l[i]? = some o → F i (slotV a o) w) → Q .normal a w) : (Code.region id l.toArray true).wp P Q a0 w0 := by
  refine wp_region_grow F hm hup (fun i o ho => let ⟨t, e1, e2, e3, e4⟩ := (dstB_all hd (by simpa using ho)).1; ⟨t, e1, e2, e3, fun j o' ho' => e4 j o' (by simpa using ho')⟩) (fun i o ho => (dstB_all hd (by simpa using ho)).2) ?_ ?_
  · intro i o a w ho hE hb hdep
    have hs := hstep.at i o (by simpa using ho)
    rw [Nat.zero_add] at hs
    refine hs a w (fun t ht => else_of hE ht) hb fun k hk o' ho' => ?_
    rw [Array.any_eq_true'] at hk
    obtain ⟨e, he, hk⟩ := hk
    rw [Bool.and_eq_true, beq_iff_eq] at hk
    obtain ⟨rfl, hk⟩ := hk
    exact hdep e he hk o' (by simpa using ho')
  · intro a w hE hb hF
    refine hend a w ?_ hb fun i o ho => hF i o (by simpa using ho)
    have := rebuild (x := a.tmps) (y := a0.tmps) hE.1 (ds := l.filterMap (·.dst)) fun t ht => hE.2.2 t fun o ho e => ht (List.mem_filterMap.2 ⟨o, by simpa using ho, e⟩)
    cases a
    simp only [Act.mk.injEq]
    exact ⟨this, hE.2.1⟩
end
end Go.Proofs.Ytjaedigjmgfakaa
