/- As wp_last (Grl), with one operation behind the last one. -/
import Derived.Test.YtbfhkbmcleglaaaGreatG17
namespace Go.Proofs.YtbfhkbmcleglaaaGreat
open Go.RowKit
set_option linter.unusedVariables false
set_option linter.unusedSimpArgs false
section
variable {P : Program} {ops : Array Oper} {Q : Exit → Act → World → Prop}
/-- As StepR; a slot is as it was unless one of the first n writes it. -/
def StepT (P : Program) (Q : Exit → Act → World → Prop) (l : List Oper) (n : Nat) (F : Nat → Value → World → Prop) (w0 : World) (a0 : Act) (i : Nat) (o : Oper) : Prop :=
  ∀ a w, (∀ t, ((l.take n).all fun o => o.dst != some t) = true → a.tmps.getD t undef = a0.tmps.getD t undef) → Below w0.heap.size w0 w → (∀ k, (o.after.any fun e => e.on == k && Region.binds .any e) = true → ∀ o', l[k]? = some o' → F k (slotV a o') w) →
    Region.wanted o (yielded l.toArray a.tmps) = true ∧ Oper.wp P o a w (fun a' w' => ∃ v, a' = a.put o.dst v ∧ Below w.heap.size w w' ∧ F i v w') Q
theorem wp_last2 {l : List Oper} {on ot : Oper} (n : Nat) {id : Nat} {a0 : Act} {w0 : World} (F : Nat → Value → World → Prop) (hm : P.follows .mixedOrders = true) (hd : dstL l n a0.tmps.size = true) (hu : usedL l n = true) (hon : l[n]? = some on) (hot : l[n + 1]? = some ot) (hn : l.length = n + 2) (hto : (ot.after.any fun e => e.on == n && Region.binds .any e) = true) (hta : (ot.after.all fun e => decide (e.on < n + 1)) = true)
    (hup : ∀ i v w w', Below w.heap.size w w' → F i v w → F i v w')
    (hstep : AllOps (fun i o => i < n → StepT P Q l n F w0 a0 i o) 0 l)
    (hend : ∀ a w, a = { tmps := ((l.take n).filterMap (·.dst)).foldl (fun t d => t.setIfInBounds d (a.tmps.getD d undef)) a0.tmps, defers := a0.defers } → Below w0.heap.size w0 w → (∀ i o, i < n → l[i]? = some o → F i (slotV a o) w) → Region.wanted on (yielded l.toArray a.tmps) = true ∧ Oper.wp P on a w (fun a' w' => Region.wanted ot (yielded l.toArray a'.tmps) = true ∧ Oper.wp P ot a' w' (fun a'' w'' => Q .normal a'' w'') Q) Q) : (Code.region id l.toArray true).wp P Q a0 w0 := by
  unfold dstL at hd
  rw [Bool.and_eq_true] at hd
  obtain ⟨hd, hdn⟩ := hd
  rw [hon, Option.all_some, Array.all_eq_true_iff_forall_mem] at hdn
  have htk : ∀ (i : Nat) (o : Oper), i < n → (l[i]? = some o ↔ (l.take n)[i]? = some o) := fun i o hi => by rw [List.getElem?_take_of_lt hi]
  have hdst : ∀ (i : Nat) (o : Oper), i < n → l[i]? = some o → (∃ t, o.dst = some t ∧ t < a0.tmps.size ∧ o.guard = none ∧ ∀ (j : Nat) (o' : Oper), j < n → l[j]? = some o' → o'.dst = some t → j = i) ∧ ∀ e ∈ o.after, e.on < i := fun i o hi ho => by
    obtain ⟨⟨t, e1, e2, e3, e4⟩, e5⟩ := dstB_all hd ((htk i o hi).1 ho)
    exact ⟨⟨t, e1, e2, e3, fun j o' hj ho' => e4 j o' ((htk j o' hj).1 ho')⟩, e5⟩
  refine wp_region_any hm (wpAny_inv (fun listed a w => (LastI l n F w0 a0 listed a w ∧ listed.getD (n + 1) true = false) ∨ ((listed.size = l.length ∧ listed.getD (n + 1) true = false ∧ ∀ i, i < n + 1 → listed.getD i true = true) ∧ Region.wanted ot (yielded l.toArray a.tmps) = true ∧ Oper.wp P ot a w (fun a'' w'' => Q .normal a'' w'') Q) ∨ ((∀ i, i < l.length → listed.getD i true = true) ∧ Q .normal a w)) ?_ ?_ _ _ _ _ ?_ (.inl ⟨⟨by simp, ⟨rfl, rfl, fun t _ => rfl⟩, (Below.refl _ _).drew, fun i o hi ho hl => ?_, ?_, fun j o ho hl => ?_⟩, ?_⟩))
  · intro listed a w hI i hi
    obtain ⟨hun, o, ho, hall⟩ := mem_ready.1 hi
    rw [List.getElem?_toArray] at ho
    have hil := (List.getElem?_eq_some_iff.1 ho).1
    rcases hI with ⟨hI, hI2⟩ | ⟨⟨hz, hI2, hI3⟩, hw1, hw2⟩ | ⟨hI, _⟩
    case inr.inr => exact absurd (hI i hil) (by rw [hun]; decide)
    case inr.inl =>
      have hi1 : i = n + 1 := by
        rcases Nat.lt_or_ge i (n + 1) with h | h
        · have := hI3 i h
          rw [hun] at this
          cases this
        · omega
      subst hi1
      unfold wpOp
      rw [List.getElem?_toArray, hot]
      simp only [hw1, if_true]
      refine .inl (Oper.wp_mono (fun a' w' hh => .inr (.inr ⟨fun j hj => ?_, hh⟩)) hw2)
      by_cases hji : j = n + 1
      · subst hji; simp [Array.getD]
      · have : (listed.setIfInBounds (n + 1) true).getD j true = listed.getD j true := by simp [Array.getD_eq_getD_getElem?, Array.getElem?_setIfInBounds_ne (Ne.symm hji)]
        rw [this]; exact hI3 j (by omega)
    have hls := hI.size
    have hsame : ∀ (j : Nat), j ≠ i → (listed.setIfInBounds i true).getD j true = listed.getD j true := fun j hj => by
      simp [Array.getD_eq_getD_getElem?, Array.getElem?_setIfInBounds_ne (Ne.symm hj)]
    have hself : (listed.setIfInBounds i true).getD i true = true := by simp [Array.getD]
    by_cases hi1 : i = n + 1
    · exfalso
      subst hi1
      rw [hot] at ho
      obtain rfl : ot = o := by simpa using ho
      rw [Array.any_eq_true'] at hto
      obtain ⟨e, he, h5⟩ := hto
      rw [Bool.and_eq_true, beq_iff_eq] at h5
      have := getD_ff (hall e he h5.2)
      rw [h5.1, hI.still] at this
      cases this
    by_cases hin : i = n
    · subst hin
      rw [hon] at ho
      obtain rfl : on = o := by simpa using ho
      have hcl : ∀ d j, j + d = i → listed.getD j true = true ∨ j = i := by
        intro d
        induction d using Nat.strongRecOn with
        | ind d ih =>
          intro j hj
          by_cases hd0 : d = 0
          · exact .inr (by omega)
          · refine .inl ?_
            obtain ⟨k, o, hjk, hkn, hok, e, he, hej, hb⟩ := usedL_at hu (j := j) (by omega)
            have h2 := ih (i - k) (by omega) k (by omega)
            rcases h2 with h2 | h2
            · have := hI.closed k o hok h2 e he hb
              rw [hej] at this
              exact getD_ff this
            · subst h2
              rw [hon] at hok
              obtain rfl : on = o := by simpa using hok
              have := hall e he hb
              rw [hej] at this
              exact getD_ff this
      have hallj : ∀ j, j < i → listed.getD j true = true := fun j hj => (hcl (i - j) j (by omega)).resolve_right (by omega)
      obtain ⟨hwant, hwp⟩ := hend a w (by
        have := rebuild (x := a.tmps) (y := a0.tmps) hI.els.1 (ds := (l.take i).filterMap (·.dst)) fun t ht => hI.els.2.2 t fun o ho e => ht (List.mem_filterMap.2 ⟨o, by simpa using ho, e⟩)
        cases a
        simp only [Act.mk.injEq]
        exact ⟨this, hI.els.2.1⟩) hI.bel fun j o hj ho => hI.got j o hj ho (hallj j hj)
      unfold wpOp
      rw [List.getElem?_toArray, hon]
      simp only [hwant, if_true]
      refine .inl (Oper.wp_mono (fun a' w' hh => .inr (.inl ⟨⟨by simp [hls], by rw [hsame (i + 1) (by omega)]; exact hI2, fun j hj => ?_⟩, hh⟩)) hwp)
      by_cases hji : j = i
      · subst hji; exact hself
      · rw [hsame j hji]; exact hallj j (by omega)
    · have hlt : i < n := by omega
      obtain ⟨⟨t, ht, hts, hg, huniq⟩, hearly⟩ := hdst i o hlt ho
      have hsi := hstep.at i o ho
      rw [Nat.zero_add] at hsi
      obtain ⟨hwant, hwp⟩ := hsi hlt a w (fun t ht => by
        refine hI.els.2.2 t fun o' ho' e => ?_
        rw [List.all_eq_true] at ht
        have := ht o' (by simpa using ho')
        simp [e] at this) hI.bel fun k hk o' ho' => by
          rw [Array.any_eq_true'] at hk
          obtain ⟨e, he, hk⟩ := hk
          rw [Bool.and_eq_true, beq_iff_eq] at hk
          obtain ⟨rfl, hk⟩ := hk
          have h1 := hearly e he
          exact hI.got _ _ (by omega) ho' (getD_ff (hall e he hk))
      unfold wpOp
      rw [List.getElem?_toArray, ho]
      simp only [hwant, if_true]
      refine .inl (Oper.wp_mono (fun a' w' hh => .inl ⟨?_, by rw [hsame (n + 1) (by omega)]; exact hI2⟩) hwp)
      obtain ⟨v, rfl, hb, hf⟩ := hh
      have hself2 : slotV (a.put o.dst v) o = v := by
        unfold slotV
        rw [ht]
        simp only [Act.put, Option.getD_some]
        have : t < a.tmps.size := by rw [hI.els.1]; exact hts
        simp [Array.getD, this]
      have hother : ∀ (j : Nat) (o' : Oper), j < n → l[j]? = some o' → j ≠ i → slotV (a.put o.dst v) o' = slotV a o' := fun j o' hj ho' hji => by
        obtain ⟨⟨t', ht', _, _, _⟩, _⟩ := hdst j o' hj ho'
        have hne : t ≠ t' := fun e => hji (huniq j o' hj ho' (by rw [ht', e]))
        unfold slotV
        rw [ht, ht']
        simp only [Act.put, Option.getD_some]
        simp [Array.getD_eq_getD_getElem?, Array.getElem?_setIfInBounds_ne hne]
      refine ⟨by simp [hls], ⟨?_, ?_, fun s hsn => ?_⟩, hI.bel.trans (hb.mono hI.bel.size), fun j o' hj ho' hl => ?_, ?_, fun j o' ho' hl e he hbi => ?_⟩
      · rw [ht]; simp [Act.put, hI.els.1]
      · rw [ht]; exact hI.els.2.1
      · have hne : t ≠ s := fun e => hsn o (by have := List.mem_of_getElem? ((htk i o hlt).1 ho); simpa using this) (by rw [ht, e])
        rw [ht, ← hI.els.2.2 s hsn]
        simp [Act.put, Array.getD_eq_getD_getElem?, Array.getElem?_setIfInBounds_ne hne]
      · by_cases hji : j = i
        · subst hji
          rw [ho] at ho'
          obtain rfl : o = o' := by simpa using ho'
          rw [hself2]; exact hf
        · rw [hother j o' hj ho' hji]
          exact hup _ _ _ _ hb (hI.got j o' hj ho' (by rw [← hsame j hji]; exact hl))
      · rw [hsame n (by omega)]; exact hI.still
      · have hlast : listed.getD e.on false = true := by
          by_cases hji : j = i
          · subst hji
            rw [ho] at ho'
            obtain rfl : o = o' := by simpa using ho'
            exact hall e he hbi
          · exact hI.closed j o' ho' (by rw [← hsame j hji]; exact hl) e he hbi
        by_cases hei : e.on = i
        · rw [hei]
          refine getD_tf ?_ hself
          simp [hls, hil]
        · have h1 : e.on < listed.size := by
            rcases Nat.lt_or_ge e.on listed.size with h | h
            · exact h
            · simp [Array.getD, Nat.not_lt.2 h] at hlast
          refine getD_tf (by simpa using h1) ?_
          rw [hsame e.on hei]
          exact getD_ff hlast
  · intro listed a w hI hr
    rcases hI with ⟨hI, hI2⟩ | ⟨⟨hz, hI2, hI3⟩, _⟩ | ⟨_, hI⟩
    case inr.inr => exact hI
    all_goals exfalso
    case inr.inl =>
      have hop : ∀ (i : Nat) (o : Oper), l.toArray[i]? = some o → ∀ e ∈ o.after, e.on < i := fun i o ho e he => by
        rw [List.getElem?_toArray] at ho
        have hil := (List.getElem?_eq_some_iff.1 ho).1
        by_cases hi1 : i = n + 1
        · subst hi1
          rw [hot] at ho
          obtain rfl : ot = o := by simpa using ho
          rw [Array.all_eq_true_iff_forall_mem] at hta
          simpa using hta e he
        by_cases hin : i = n
        · subst hin
          rw [hon] at ho
          obtain rfl : on = o := by simpa using ho
          simpa using hdn e he
        · exact (hdst i o (by omega) ho).2 e he
      have := ready_nil_all (md := .any) hop (by simpa using hz) hr (n + 1) (by simp; omega)
      rw [hI2] at this
      cases this
    have hls := hI.size
    have hop : ∀ (i : Nat) (o : Oper), l.toArray[i]? = some o → ∀ e ∈ o.after, e.on < i := fun i o ho e he => by
      rw [List.getElem?_toArray] at ho
      have hil := (List.getElem?_eq_some_iff.1 ho).1
      by_cases hi1 : i = n + 1
      · subst hi1
        rw [hot] at ho
        obtain rfl : ot = o := by simpa using ho
        rw [Array.all_eq_true_iff_forall_mem] at hta
        simpa using hta e he
      by_cases hin : i = n
      · subst hin
        rw [hon] at ho
        obtain rfl : on = o := by simpa using ho
        simpa using hdn e he
      · exact (hdst i o (by omega) ho).2 e he
    have := ready_nil_all (md := .any) hop (by simpa using hls) hr n (by simp; omega)
    rw [hI.still] at this
    cases this
  · unfold openN
    rw [show (Array.replicate l.toArray.size false).toList = List.replicate l.toArray.size false by simp, List.count_replicate]
    simp
  · exfalso
    have hlt : i < l.length := by omega
    simp [Array.getD, hlt] at hl
  · have : n < l.length := by omega
    simp [Array.getD, this]
  · exfalso
    have hlt : j < l.length := (List.getElem?_eq_some_iff.1 ho).1
    simp [Array.getD, hlt] at hl
  · have : n + 1 < l.length := by omega
    simp [Array.getD, this]
end
end Go.Proofs.YtbfhkbmcleglaaaGreat
