/- A region that draws its order, makes new memory, and ends with one operation that all others lead to: that one may do what it likes. -/
import Derived.Test.YtdgmdapijhbocaaGreatG16
import Derived.Test.YtdgmdapijhbocaaGreatG6
namespace Go.Proofs.YtdgmdapijhbocaaGreat
open Go.RowKit
set_option linter.unusedVariables false
set_option linter.unusedSimpArgs false
section
variable {P : Program} {ops : Array Oper} {Q : Exit → Act → World → Prop}
/-- The last one has not come up yet. -/
structure LastI (l : List Oper) (n : Nat) (F : Nat → Value → World → Prop) (w0 : World) (a0 : Act) (listed : Array Bool) (a : Act) (w : World) : Prop where
  size : listed.size = l.length
  els : Else (l.take n).toArray a0 a
  bel : Below w0.heap.size w0 w
  got : ∀ i o, i < n → l[i]? = some o → listed.getD i true = true → F i (slotV a o) w
  still : listed.getD n true = false
  closed : ∀ j o, l[j]? = some o → listed.getD j true = true → ∀ e ∈ o.after, Region.binds .any e = true → listed.getD e.on false = true
/-- Each operation ahead of number n is wanted by a later one. -/
def usedL (l : List Oper) (n : Nat) : Bool := (List.range n).all fun j => (List.range (n + 1)).any fun k => decide (j < k) && (l[k]?).any fun o => o.after.any fun e => e.on == j && Region.binds .any e
theorem usedL_at {l : List Oper} {n j : Nat} (h : usedL l n = true) (hj : j < n) : ∃ k o, j < k ∧ k ≤ n ∧ l[k]? = some o ∧ ∃ e ∈ o.after, e.on = j ∧ Region.binds .any e = true := by
  unfold usedL at h
  rw [List.all_eq_true] at h
  have h1 := h j (List.mem_range.2 hj)
  rw [List.any_eq_true] at h1
  obtain ⟨k, hk, h2⟩ := h1
  rw [List.mem_range] at hk
  rw [Bool.and_eq_true, decide_eq_true_eq] at h2
  obtain ⟨h3, h4⟩ := h2
  cases ho : l[k]? with
  | none => rw [ho] at h4; simp at h4
  | some o =>
    rw [ho, Option.any_some, Array.any_eq_true'] at h4
    obtain ⟨e, he, h5⟩ := h4
    rw [Bool.and_eq_true, beq_iff_eq] at h5
    exact ⟨k, o, h3, by omega, ho, e, he, h5.1, h5.2⟩
/-- Each of the first n has a slot of its own, and no guard; all wait for earlier ones alone. -/
def dstL (l : List Oper) (n m : Nat) : Bool := dstB (l.take n) m && (l[n]?).all fun o => o.after.all fun e => decide (e.on < n)
theorem getD_ff {l : Array Bool} {i : Nat} (h : l.getD i false = true) : l.getD i true = true := by
  simp only [Array.getD] at h ⊢
  split
  · rename_i hi; simpa [hi] using h
  · rfl
theorem getD_tf {l : Array Bool} {i : Nat} (hi : i < l.size) (h : l.getD i true = true) : l.getD i false = true := by
  simpa [Array.getD, hi] using h
theorem wp_last {l : List Oper} {on : Oper} (n : Nat) {id : Nat} {a0 : Act} {w0 : World} (F : Nat → Value → World → Prop) (hm : P.follows .mixedOrders = true) (hd : dstL l n a0.tmps.size = true) (hu : usedL l n = true) (hon : l[n]? = some on) (hn : l.length = n + 1)
    (hup : ∀ i v w w', Below w.heap.size w w' → F i v w → F i v w')
    (hstep : AllOps (fun i o => i < n → StepR P Q l F w0 a0 i o) 0 l)
    (hend : ∀ a w, a = { tmps := ((l.take n).filterMap (·.dst)).foldl (fun t d => t.setIfInBounds d (a.tmps.getD d undef)) a0.tmps, defers := a0.defers } → Below w0.heap.size w0 w → (∀ i o, i < n → l[i]? = some o → F i (slotV a o) w) → Region.wanted on (yielded l.toArray a.tmps) = true ∧ Oper.wp P on a w (fun a' w' => Q .normal a' w') Q) : (Code.region id l.toArray true).wp P Q a0 w0 := by
  unfold dstL at hd
  rw [Bool.and_eq_true] at hd
  obtain ⟨hd, hdn⟩ := hd
  rw [hon, Option.all_some, Array.all_eq_true_iff_forall_mem] at hdn
  have htk : ∀ (i : Nat) (o : Oper), i < n → (l[i]? = some o ↔ (l.take n)[i]? = some o) := fun i o hi => by rw [List.getElem?_take_of_lt hi]
  have hdst : ∀ (i : Nat) (o : Oper), i < n → l[i]? = some o → (∃ t, o.dst = some t ∧ t < a0.tmps.size ∧ o.guard = none ∧ ∀ (j : Nat) (o' : Oper), j < n → l[j]? = some o' → o'.dst = some t → j = i) ∧ ∀ e ∈ o.after, e.on < i := fun i o hi ho => by
    obtain ⟨⟨t, e1, e2, e3, e4⟩, e5⟩ := dstB_all hd ((htk i o hi).1 ho)
    exact ⟨⟨t, e1, e2, e3, fun j o' hj ho' => e4 j o' ((htk j o' hj).1 ho')⟩, e5⟩
  refine wp_region_any hm (wpAny_inv (fun listed a w => LastI l n F w0 a0 listed a w ∨ ((∀ i, i < l.length → listed.getD i true = true) ∧ Q .normal a w)) ?_ ?_ _ _ _ _ ?_ (.inl ⟨by simp, ⟨rfl, rfl, fun t _ => rfl⟩, (Below.refl _ _).drew, fun i o hi ho hl => ?_, ?_, fun j o ho hl => ?_⟩))
  · intro listed a w hI i hi
    obtain ⟨hun, o, ho, hall⟩ := mem_ready.1 hi
    rw [List.getElem?_toArray] at ho
    have hil := (List.getElem?_eq_some_iff.1 ho).1
    rcases hI with hI | ⟨hI, _⟩
    case inr => exact absurd (hI i hil) (by rw [hun]; decide)
    have hls := hI.size
    have hsame : ∀ (j : Nat), j ≠ i → (listed.setIfInBounds i true).getD j true = listed.getD j true := fun j hj => by
      simp [Array.getD_eq_getD_getElem?, Array.getElem?_setIfInBounds_ne (Ne.symm hj)]
    have hself : (listed.setIfInBounds i true).getD i true = true := by simp [Array.getD]
    by_cases hin : i = n
    · subst hin
      rw [hon] at ho
      obtain rfl : on = o := by simpa using ho
      have hcl : ∀ d j, j + d = i → listed.getD j true = true ∨ j = i := by
        intro d
        induction d using Nat.strongRecOn with
        | ind d ih =>
          intro j hj
          by_cases hd0 : d = 0
          · exact .inr (by omega)
          · refine .inl ?_
            obtain ⟨k, o, hjk, hkn, hok, e, he, hej, hb⟩ := usedL_at hu (j := j) (by omega)
            have h2 := ih (i - k) (by omega) k (by omega)
            rcases h2 with h2 | h2
            · have := hI.closed k o hok h2 e he hb
              rw [hej] at this
              exact getD_ff this
            · subst h2
              rw [hon] at hok
              obtain rfl : on = o := by simpa using hok
              have := hall e he hb
              rw [hej] at this
              exact getD_ff this
      have hallj : ∀ j, j < i → listed.getD j true = true := fun j hj => (hcl (i - j) j (by omega)).resolve_right (by omega)
      obtain ⟨hwant, hwp⟩ := hend a w (by
        have := rebuild (x := a.tmps) (y := a0.tmps) hI.els.1 (ds := (l.take i).filterMap (·.dst)) fun t ht => hI.els.2.2 t fun o ho e => ht (List.mem_filterMap.2 ⟨o, by simpa using ho, e⟩)
        cases a
        simp only [Act.mk.injEq]
        exact ⟨this, hI.els.2.1⟩) hI.bel fun j o hj ho => hI.got j o hj ho (hallj j hj)
      unfold wpOp
      rw [List.getElem?_toArray, hon]
      simp only [hwant, if_true]
      refine .inl (Oper.wp_mono (fun a' w' hh => .inr ⟨fun j hj => ?_, hh⟩) hwp)
      by_cases hji : j = i
      · subst hji; exact hself
      · rw [hsame j hji]; exact hallj j (by omega)
    · have hlt : i < n := by omega
      obtain ⟨⟨t, ht, hts, hg, huniq⟩, hearly⟩ := hdst i o hlt ho
      have hsi := hstep.at i o ho
      rw [Nat.zero_add] at hsi
      obtain ⟨hwant, hwp⟩ := hsi hlt a w (fun t ht => by
        refine hI.els.2.2 t fun o' ho' e => ?_
        rw [List.all_eq_true] at ht
        have := ht o' (List.mem_of_mem_take (by simpa using ho'))
        simp [e] at this) hI.bel fun k hk o' ho' => by
          rw [Array.any_eq_true'] at hk
          obtain ⟨e, he, hk⟩ := hk
          rw [Bool.and_eq_true, beq_iff_eq] at hk
          obtain ⟨rfl, hk⟩ := hk
          have h1 := hearly e he
          exact hI.got _ _ (by omega) ho' (getD_ff (hall e he hk))
      unfold wpOp
      rw [List.getElem?_toArray, ho]
      simp only [hwant, if_true]
      refine .inl (Oper.wp_mono (fun a' w' hh => .inl ?_) hwp)
      obtain ⟨v, rfl, hb, hf⟩ := hh
      have hself2 : slotV (a.put o.dst v) o = v := by
        unfold slotV
        rw [ht]
        simp only [Act.put, Option.getD_some]
        have : t < a.tmps.size := by rw [hI.els.1]; exact hts
        simp [Array.getD, this]
      have hother : ∀ (j : Nat) (o' : Oper), j < n → l[j]? = some o' → j ≠ i → slotV (a.put o.dst v) o' = slotV a o' := fun j o' hj ho' hji => by
        obtain ⟨⟨t', ht', _, _, _⟩, _⟩ := hdst j o' hj ho'
        have hne : t ≠ t' := fun e => hji (huniq j o' hj ho' (by rw [ht', e]))
        unfold slotV
        rw [ht, ht']
        simp only [Act.put, Option.getD_some]
        simp [Array.getD_eq_getD_getElem?, Array.getElem?_setIfInBounds_ne hne]
      refine ⟨by simp [hls], ⟨?_, ?_, fun s hsn => ?_⟩, hI.bel.trans (hb.mono hI.bel.size), fun j o' hj ho' hl => ?_, ?_, fun j o' ho' hl e he hbi => ?_⟩
      · rw [ht]; simp [Act.put, hI.els.1]
      · rw [ht]; exact hI.els.2.1
      · have hne : t ≠ s := fun e => hsn o (by have := List.mem_of_getElem? ((htk i o hlt).1 ho); simpa using this) (by rw [ht, e])
        rw [ht, ← hI.els.2.2 s hsn]
        simp [Act.put, Array.getD_eq_getD_getElem?, Array.getElem?_setIfInBounds_ne hne]
      · by_cases hji : j = i
        · subst hji
          rw [ho] at ho'
          obtain rfl : o = o' := by simpa using ho'
          rw [hself2]; exact hf
        · rw [hother j o' hj ho' hji]
          exact hup _ _ _ _ hb (hI.got j o' hj ho' (by rw [← hsame j hji]; exact hl))
      · rw [hsame n (by omega)]; exact hI.still
      · have hlast : listed.getD e.on false = true := by
          by_cases hji : j = i
          · subst hji
            rw [ho] at ho'
            obtain rfl : o = o' := by simpa using ho'
            exact hall e he hbi
          · exact hI.closed j o' ho' (by rw [← hsame j hji]; exact hl) e he hbi
        by_cases hei : e.on = i
        · rw [hei]
          refine getD_tf ?_ hself
          simp [hls, hil]
        · have h1 : e.on < listed.size := by
            rcases Nat.lt_or_ge e.on listed.size with h | h
            · exact h
            · simp [Array.getD, Nat.not_lt.2 h] at hlast
          refine getD_tf (by simpa using h1) ?_
          rw [hsame e.on hei]
          exact getD_ff hlast
  · intro listed a w hI hr
    rcases hI with hI | ⟨_, hI⟩
    case inr => exact hI
    exfalso
    have hls := hI.size
    have hop : ∀ (i : Nat) (o : Oper), l.toArray[i]? = some o → ∀ e ∈ o.after, e.on < i := fun i o ho e he => by
      rw [List.getElem?_toArray] at ho
      have hil := (List.getElem?_eq_some_iff.1 ho).1
      by_cases hin : i = n
      · subst hin
        rw [hon] at ho
        obtain rfl : on = o := by simpa using ho
        simpa using hdn e he
      · exact (hdst i o (by omega) ho).2 e he
    have := ready_nil_all (md := .any) hop (by simpa using hls) hr n (by simp; omega)
    rw [hI.still] at this
    cases this
  · unfold openN
    rw [show (Array.replicate l.toArray.size false).toList = List.replicate l.toArray.size false by simp, List.count_replicate]
    simp
  · exfalso
    have hlt : i < l.length := by omega
    simp [Array.getD, hlt] at hl
  · have : n < l.length := by omega
    simp [Array.getD, this]
  · exfalso
    have hlt : j < l.length := (List.getElem?_eq_some_iff.1 ho).1
    simp [Array.getD, hlt] at hl
end
end Go.Proofs.YtdgmdapijhbocaaGreat

/- icehousekeep.Record, kind by kind. -/
namespace Go.Proofs.YtdgmdapijhbocaaGreat
open Go.RowKit Go.Maps
set_option maxRecDepth 100000
set_option linter.unusedVariables false
set_option linter.unusedSimpArgs false
/-- The texts of prefixes. -/
def preT : List ByteArray := [⟨#[]⟩, ⟨#[121]⟩, ⟨#[122, 47]⟩]
def slF (s : Nat) (x : Rw) (I : Nat) (T : ByteArray) (i : Nat) (v : Value) (w : World) : Prop :=
  match i with
  | 0 => ∃ g, v = .slice (some ⟨g, 0, none⟩) 3 3 ∧ w.cell? ⟨g, I, none⟩ = some (.string T)
  | 4 => ∃ g, v = .pointer (some ⟨g, I, none⟩) ∧ w.cell? ⟨g, I, none⟩ = some (.string T)
  | 1 => v = .pointer (some ⟨s + 1, 2, none⟩)
  | 2 => v = .int .i64 x.b
  | 3 => v = .int .i64 (I : Int)
  | 5 => v = .string T
  | 6 => v = .pointer (some ⟨s + 1, 3, none⟩)
  | 7 => v = .int .i64 x.c
  | 8 => v = .int .i64 (pickI x.c 12)
  | 9 => v = .int .i64 (pickI x.c 12 - 1)
  | 10 => v = .pointer (some ⟨s + 1, 4, none⟩)
  | 11 => v = .int .i64 x.d
  | 12 => v = .int .i64 (pickI x.d 30)
  | 13 => v = .int .i64 (pickI x.d 30 - 1)
  | 14 => v = .agg #[.string T, .int .i64 (pickI x.c 12 - 1), .int .i64 (pickI x.d 30 - 1)]
  | 15 => v = .pointer (some ⟨s + 1 + 1 + 1, 5, none⟩)
  | _ => True
theorem slF_up (s : Nat) (x : Rw) (I : Nat) (T : ByteArray) (i : Nat) (v : Value) (w w' : World) (hb : Below w.heap.size w w') (h : slF s x I T i v w) : slF s x I T i v w' := by
  match i, h with
  | 0, h => exact let ⟨g, e, c⟩ := h; ⟨g, e, scell_up hb c⟩
  | 1, h => exact h
  | 2, h => exact h
  | 3, h => exact h
  | 4, h => exact let ⟨g, e, c⟩ := h; ⟨g, e, scell_up hb c⟩
  | 5, h => exact h
  | 6, h => exact h
  | 7, h => exact h
  | 8, h => exact h
  | 9, h => exact h
  | 10, h => exact h
  | 11, h => exact h
  | 12, h => exact h
  | 13, h => exact h
  | 14, h => exact h
  | 15, h => exact h
  | _ + 16, _ => trivial
set_option maxHeartbeats 2000000 in
theorem record_2 (S : St) (b v u q g : Value) (x : Rw) (w : World) (hS : Sta w b v u q g S) (hc : stC S = true) (hx : WfW x) (hk : pickI x.kind 14 = 2) :
    Calls Tryz.prog 25 #[stV S b v u q g, rwV x] w fun e w' => ∃ vv pv sv, e = .returned (rcV (recR S x) vv pv sv) ∧ RcI w' (recR S x) vv pv sv ∧ Below w.heap.size w w' := by
  have HS := hide hS
  obtain ⟨hk0, ha0, hb0, hc0, hd0⟩ := hx
  have HQ : Hid (recR S x = { rcN 3 with nam := nmB x.a, pre := preB x.b, fre := pickI x.c 12 - 1, dro := pickI x.d 30 - 1 }) := by show _ = _; unfold recR; simp [hk]
  obtain ⟨Q, hQ⟩ : ∃ Q, recR S x = Q := ⟨_, rfl⟩
  rw [hQ] at HQ ⊢
  clear hQ hS
  have HK : Hid (∀ W : World, Calls Tryz.prog 10 #[.int .i64 x.kind, .int .i64 14] W fun e w' => e = .returned (.int .i64 2) ∧ W = w') := fun W => by
    have := picked_any x.kind 14 W (by decide) (by decide) hk0.1 hk0.2
    rw [hk] at this; exact this
  obtain ⟨I, hI⟩ : ∃ K : Nat, pickI x.b 3 = (K : Int) := ⟨(pickI x.b 3).toNat, by have := pickI_lo x.b (m := 3) (by decide); omega⟩
  have hI3 : I < 3 := by have := pickI_hi x.b (m := 3) (by decide); omega
  obtain ⟨T, hT⟩ : ∃ T, preB x.b = T := ⟨_, rfl⟩
  have HAT : Hid ((#[Value.string ⟨#[]⟩, .string ⟨#[121]⟩, .string ⟨#[122, 47]⟩] : Array Value)[I]? = some (.string T)) := by
    show _ = _
    rw [← hT]
    unfold preB
    match I, hI3 with
    | 0, _ => rw [if_pos (by simpa using hI)]; rfl
    | 1, _ => rw [if_neg (by rw [hI]; decide), if_pos (by simpa using hI)]; rfl
    | 2, _ => rw [if_neg (by rw [hI]; decide), if_neg (by rw [hI]; decide)]; rfl
  rw [hT] at HQ
  have HI := hide hI
  clear hI hT
  clear hk
  go_enter Tryz.func25, Tryz.ntmps25
  go_wp2_with fail
  refine (unhide HK _).mono ?_
  rintro e w1 ⟨rfl, rfl⟩
  simp only []
  rename_i hK0
  refine hK0 _ _ ?_
  clear hK0
  refine wpList_plain rfl (fun K hK => ?_)
  go_simp
  refine hK _ _ ?_
  clear hK
  refine wpList_plain rfl (fun K hK => ?_)
  go_simp
  refine hK _ _ ?_
  clear hK
  refine wpList_plain rfl (fun K hK => ?_)
  go_simp
  refine hK _ _ ?_
  clear hK
  rw [show IntKind.wrap .i64 3 = 3 by decide]
  refine wpList_store_mid rfl 47 (.tmp 5) (.tmp 14) rfl (w.heap.size + 1 + 1 + 1) 0 (rcA (rcN 3) nl nl nl) rfl rfl (there_of (c := rcA (rcN 0) nl nl nl) (t := 47) (rec_new _ _ _ _ _)) (by kernel_rfl) (by simp [Value.oneCell']) ?_
  generalize hWW : World.setCells _ (w.heap.size + 1 + 1 + 1) 0 _ = W1
  have hrr : W1.heap[w.heap.size]? = some (.cells #[.int .i64 S.next, .int .i64 S.clock, b, v, u, q, g] 29 (0, 0)) ∧ W1.heap[w.heap.size + 1]? = some (.cells #[.int .i64 x.kind, .int .i64 x.a, .int .i64 x.b, .int .i64 x.c, .int .i64 x.d, .string x.text] 72 (0, 0)) ∧ W1.heap[w.heap.size + 1 + 1]? = some (.cells (rcA (rcN 0) nl nl nl) 47 (0, 0)) ∧ W1.heap[w.heap.size + 1 + 1 + 1]? = some (.cells (rcA (rcN 3) nl nl nl) 47 (0, 0)) ∧ Below w.heap.size w W1 := by
    rw [← hWW]
    exact rec_rows w (.cells #[.int .i64 S.next, .int .i64 S.clock, b, v, u, q, g] 29) (.cells #[.int .i64 x.kind, .int .i64 x.a, .int .i64 x.b, .int .i64 x.c, .int .i64 x.d, .string x.text] 72) (.cells (rcA (rcN 0) nl nl nl) 47) (rcA (rcN 0) nl nl nl) (rcA (rcN 3) nl nl nl) rfl
  clear hWW
  obtain ⟨r0, r1, r2, r3, hw1⟩ := hrr
  have HRR0 : Hid (RR w W1 #[.int .i64 S.next, .int .i64 S.clock, b, v, u, q, g] x (rcA (rcN 3) nl nl nl)) := ⟨r0, r1, r2, r3, hw1⟩
  have k0 : W1.cell? ⟨w.heap.size + 1 + 1 + 1, 0, none⟩ = some (.int .i64 3) := cell_of r3 0 rfl
  clear r0 r1 r2 r3
  have xa0_0 := cell_of (unhide HRR0).r1 0 rfl
  have xa1_0 := cell_of (unhide HRR0).r1 1 rfl
  have xa2_0 := cell_of (unhide HRR0).r1 2 rfl
  have xa3_0 := cell_of (unhide HRR0).r1 3 rfl
  have xa4_0 := cell_of (unhide HRR0).r1 4 rfl
  have sa0_0 := cell_of (unhide HRR0).r0 0 rfl
  have sa1_0 := cell_of (unhide HRR0).r0 1 rfl
  have sa2_0 := cell_of (unhide HRR0).r0 2 rfl
  have sa3_0 := cell_of (unhide HRR0).r0 3 rfl
  have sa4_0 := cell_of (unhide HRR0).r0 4 rfl
  have sa5_0 := cell_of (unhide HRR0).r0 5 rfl
  have sa6_0 := cell_of (unhide HRR0).r0 6 rfl
  have pa1_0 := cell_of (unhide HRR0).r3 1 rfl
  have pa2_0 := cell_of (unhide HRR0).r3 2 rfl
  have pa3_0 := cell_of (unhide HRR0).r3 3 rfl
  have pa4_0 := cell_of (unhide HRR0).r3 4 rfl
  have pa27_0 := cell_of (unhide HRR0).r3 27 rfl
  have pa28_0 := cell_of (unhide HRR0).r3 28 rfl
  have pf0 := fun j => fz_of (unhide HRR0).r3 j
  have pl0 := (unhide HRR0).lt
  have ql0 := (unhide HRR0).lt0
  have qm0 := (unhide HRR0).lt1
  have hlo := pickI_lo x.c (m := 12) (by decide)
  have hhi := pickI_hi x.c (m := 12) (by decide)
  have hlo2 := pickI_lo x.d (m := 30) (by decide)
  have hhi2 := pickI_hi x.d (m := 30) (by decide)
  have HWC : Hid (IntKind.i64.wrap (pickI x.c 12 - 1) = pickI x.c 12 - 1) := Go.IntWalk.i64_in _ (by omega)
  have HWD : Hid (IntKind.i64.wrap (pickI x.d 30 - 1) = pickI x.d 30 - 1) := Go.IntWalk.i64_in _ (by omega)
  go_upto_region 11 with (first
    | (refine (name_any x.a _ ha0.1 ha0.2).mono ?_; rintro e w2 ⟨rfl, b2⟩; have HRR2 := hide ((unhide HRR0).up b2); have xa0_2 := cell_of (unhide HRR2).r1 0 rfl; have xa1_2 := cell_of (unhide HRR2).r1 1 rfl; have xa2_2 := cell_of (unhide HRR2).r1 2 rfl; have xa3_2 := cell_of (unhide HRR2).r1 3 rfl; have xa4_2 := cell_of (unhide HRR2).r1 4 rfl; have sa0_2 := cell_of (unhide HRR2).r0 0 rfl; have sa1_2 := cell_of (unhide HRR2).r0 1 rfl; have sa2_2 := cell_of (unhide HRR2).r0 2 rfl; have sa3_2 := cell_of (unhide HRR2).r0 3 rfl; have sa4_2 := cell_of (unhide HRR2).r0 4 rfl; have sa5_2 := cell_of (unhide HRR2).r0 5 rfl; have sa6_2 := cell_of (unhide HRR2).r0 6 rfl; have pa1_2 := cell_of (unhide HRR2).r3 1 rfl; have pa2_2 := cell_of (unhide HRR2).r3 2 rfl; have pa3_2 := cell_of (unhide HRR2).r3 3 rfl; have pa4_2 := cell_of (unhide HRR2).r3 4 rfl; have pa27_2 := cell_of (unhide HRR2).r3 27 rfl; have pa28_2 := cell_of (unhide HRR2).r3 28 rfl; have pf2 := fun j => fz_of (unhide HRR2).r3 j; have pl2 := (unhide HRR2).lt; have ql2 := (unhide HRR2).lt0; have qm2 := (unhide HRR2).lt1)
    | fail)
  have hrr3 := RR.set (c' := rcA { rcN 3 with nam := nmB x.a } nl nl nl) (unhide HRR2) 3 (.string (nmB x.a)) rfl
  clear xa0_2 xa1_2 xa2_2 xa3_2 xa4_2 sa0_2 sa1_2 sa2_2 sa3_2 sa4_2 sa5_2 sa6_2 pa1_2 pa2_2 pa3_2 pa4_2 pa27_2 pa28_2 pf2 pl2 ql2 qm2
  revert hrr3
  generalize World.setCell w2 _ _ = V
  intro hrr3
  have HRR3 := hide hrr3
  clear hrr3
  refine wp_last 16 (slF w.heap.size x I T) (by kernel_rfl) (by kernel_rfl) (by kernel_rfl) rfl rfl (slF_up _ _ _ _) ?_ ?_
  · refine AllOps.cons ?_ (AllOps.cons ?_ (AllOps.cons ?_ (AllOps.cons ?_ (AllOps.cons ?_ (AllOps.cons ?_ (AllOps.cons ?_ (AllOps.cons ?_ (AllOps.cons ?_ (AllOps.cons ?_ (AllOps.cons ?_ (AllOps.cons ?_ (AllOps.cons ?_ (AllOps.cons ?_ (AllOps.cons ?_ (AllOps.cons ?_ (AllOps.cons ?_ (AllOps.nil)))))))))))))))))
    · intro _ a w9 hA hb hd
      refine ⟨by rfl, ?_⟩
      go_simp
      refine ⟨_, rfl, bl1 _ _, w9.heap.size, rfl, ?_⟩
      rw [World.cell?_alloc_at _ _ _ _ rfl]
      exact unhide HAT
    · intro _ a w9 hA hb hd
      have t3 : a.tmps.getD 3 undef = .pointer (some ⟨w.heap.size + 1, 0, none⟩) := hA 3 rfl
      refine ⟨by rfl, ?_⟩
      go_simp
      exact ⟨_, rfl, Below.refl _ _, rfl⟩
    · intro _ a w9 hA hb hd
      have d1 : a.tmps[45]?.getD undef = .pointer (some ⟨w.heap.size + 1, 2, none⟩) := by rw [← Array.getD_eq_getD_getElem?]; exact hd 1 (by kernel_rfl) _ rfl
      have g2 := cell_of ((unhide HRR3).up hb).r1 2 rfl
      refine ⟨by rfl, ?_⟩
      go_simp
      exact ⟨_, rfl, Below.refl _ _, rfl⟩
    · intro _ a w9 hA hb hd
      have d2 : a.tmps[46]?.getD undef = .int .i64 x.b := by rw [← Array.getD_eq_getD_getElem?]; exact hd 2 (by kernel_rfl) _ rfl
      refine ⟨by rfl, ?_⟩
      go_simp
      go_at_call 10
      refine (picked_any x.b 3 _ (by decide) (by decide) hb0.1 hb0.2).mono ?_
      rintro e w' ⟨rfl, rfl⟩
      rw [unhide HI]
      exact ⟨_, rfl, Below.refl _ _, rfl⟩
    · intro _ a w9 hA hb hd
      obtain ⟨gg, d0, c0⟩ : ∃ g, a.tmps.getD 44 undef = .slice (some ⟨g, 0, none⟩) 3 3 ∧ w9.cell? ⟨g, I, none⟩ = some (.string T) := hd 0 (by kernel_rfl) _ rfl
      rw [Array.getD_eq_getD_getElem?] at d0
      have d3 : a.tmps[47]?.getD undef = .int .i64 (I : Int) := by rw [← Array.getD_eq_getD_getElem?]; exact hd 3 (by kernel_rfl) _ rfl
      have i0 : (0 : Int) ≤ (I : Int) := Int.natCast_nonneg _
      have i1 : (I : Int) < 3 := by omega
      refine ⟨by rfl, ?_⟩
      go_simp
      refine ⟨_, rfl, Below.refl _ _, gg, ?_, c0⟩
      simp [Addr.add]
    · intro _ a w9 hA hb hd
      obtain ⟨gg, d4, c4⟩ : ∃ g, a.tmps.getD 48 undef = .pointer (some ⟨g, I, none⟩) ∧ w9.cell? ⟨g, I, none⟩ = some (.string T) := hd 4 (by kernel_rfl) _ rfl
      rw [Array.getD_eq_getD_getElem?] at d4
      refine ⟨by rfl, ?_⟩
      go_simp
      exact ⟨_, rfl, Below.refl _ _, rfl⟩
    · intro _ a w9 hA hb hd
      have t3 : a.tmps.getD 3 undef = .pointer (some ⟨w.heap.size + 1, 0, none⟩) := hA 3 rfl
      refine ⟨by rfl, ?_⟩
      go_simp
      exact ⟨_, rfl, Below.refl _ _, rfl⟩
    · intro _ a w9 hA hb hd
      have d6 : a.tmps[50]?.getD undef = .pointer (some ⟨w.heap.size + 1, 3, none⟩) := by rw [← Array.getD_eq_getD_getElem?]; exact hd 6 (by kernel_rfl) _ rfl
      have g3 := cell_of ((unhide HRR3).up hb).r1 3 rfl
      refine ⟨by rfl, ?_⟩
      go_simp
      exact ⟨_, rfl, Below.refl _ _, rfl⟩
    · intro _ a w9 hA hb hd
      have d7 : a.tmps[51]?.getD undef = .int .i64 x.c := by rw [← Array.getD_eq_getD_getElem?]; exact hd 7 (by kernel_rfl) _ rfl
      refine ⟨by rfl, ?_⟩
      go_simp
      go_at_call 10
      refine (picked_any x.c 12 _ (by decide) (by decide) hc0.1 hc0.2).mono ?_
      rintro e w' ⟨rfl, rfl⟩
      exact ⟨_, rfl, Below.refl _ _, rfl⟩
    · intro _ a w9 hA hb hd
      have d8 : a.tmps[52]?.getD undef = .int .i64 (pickI x.c 12) := by rw [← Array.getD_eq_getD_getElem?]; exact hd 8 (by kernel_rfl) _ rfl
      refine ⟨by rfl, ?_⟩
      go_simp
      exact ⟨_, rfl, Below.refl _ _, congrArg (Value.int .i64) (unhide HWC)⟩
    · intro _ a w9 hA hb hd
      have t3 : a.tmps.getD 3 undef = .pointer (some ⟨w.heap.size + 1, 0, none⟩) := hA 3 rfl
      refine ⟨by rfl, ?_⟩
      go_simp
      exact ⟨_, rfl, Below.refl _ _, rfl⟩
    · intro _ a w9 hA hb hd
      have d10 : a.tmps[54]?.getD undef = .pointer (some ⟨w.heap.size + 1, 4, none⟩) := by rw [← Array.getD_eq_getD_getElem?]; exact hd 10 (by kernel_rfl) _ rfl
      have g4 := cell_of ((unhide HRR3).up hb).r1 4 rfl
      refine ⟨by rfl, ?_⟩
      go_simp
      exact ⟨_, rfl, Below.refl _ _, rfl⟩
    · intro _ a w9 hA hb hd
      have d11 : a.tmps[55]?.getD undef = .int .i64 x.d := by rw [← Array.getD_eq_getD_getElem?]; exact hd 11 (by kernel_rfl) _ rfl
      refine ⟨by rfl, ?_⟩
      go_simp
      go_at_call 10
      refine (picked_any x.d 30 _ (by decide) (by decide) hd0.1 hd0.2).mono ?_
      rintro e w' ⟨rfl, rfl⟩
      exact ⟨_, rfl, Below.refl _ _, rfl⟩
    · intro _ a w9 hA hb hd
      have d12 : a.tmps[56]?.getD undef = .int .i64 (pickI x.d 30) := by rw [← Array.getD_eq_getD_getElem?]; exact hd 12 (by kernel_rfl) _ rfl
      refine ⟨by rfl, ?_⟩
      go_simp
      exact ⟨_, rfl, Below.refl _ _, congrArg (Value.int .i64) (unhide HWD)⟩
    · intro _ a w9 hA hb hd
      have d5 : a.tmps[49]?.getD undef = .string T := by rw [← Array.getD_eq_getD_getElem?]; exact hd 5 (by kernel_rfl) _ rfl
      have d9 : a.tmps[53]?.getD undef = .int .i64 (pickI x.c 12 - 1) := by rw [← Array.getD_eq_getD_getElem?]; exact hd 9 (by kernel_rfl) _ rfl
      have d13 : a.tmps[57]?.getD undef = .int .i64 (pickI x.d 30 - 1) := by rw [← Array.getD_eq_getD_getElem?]; exact hd 13 (by kernel_rfl) _ rfl
      refine ⟨by rfl, ?_⟩
      go_simp
      exact ⟨_, rfl, Below.refl _ _, rfl⟩
    · intro _ a w9 hA hb hd
      have t5 : a.tmps.getD 5 undef = .pointer (some ⟨w.heap.size + 1 + 1 + 1, 0, none⟩) := hA 5 rfl
      refine ⟨by rfl, ?_⟩
      go_simp
      exact ⟨_, rfl, Below.refl _ _, rfl⟩
    · intro h
      exact absurd h (by decide)
  · intro a w9 ha hb hF
    have f14 : a.tmps.getD 58 undef = .agg #[.string T, .int .i64 (pickI x.c 12 - 1), .int .i64 (pickI x.d 30 - 1)] := hF 14 _ (by decide) rfl
    have f15 : a.tmps.getD 59 undef = .pointer (some ⟨w.heap.size + 1 + 1 + 1, 5, none⟩) := hF 15 _ (by decide) rfl
    have HR9 := hide ((unhide HRR3).up hb)
    refine ⟨by rfl, ?_⟩
    obtain ⟨v44, h44⟩ : ∃ v, a.tmps.getD 44 undef = v := ⟨_, rfl⟩
    obtain ⟨v45, h45⟩ : ∃ v, a.tmps.getD 45 undef = v := ⟨_, rfl⟩
    obtain ⟨v46, h46⟩ : ∃ v, a.tmps.getD 46 undef = v := ⟨_, rfl⟩
    obtain ⟨v47, h47⟩ : ∃ v, a.tmps.getD 47 undef = v := ⟨_, rfl⟩
    obtain ⟨v48, h48⟩ : ∃ v, a.tmps.getD 48 undef = v := ⟨_, rfl⟩
    obtain ⟨v49, h49⟩ : ∃ v, a.tmps.getD 49 undef = v := ⟨_, rfl⟩
    obtain ⟨v50, h50⟩ : ∃ v, a.tmps.getD 50 undef = v := ⟨_, rfl⟩
    obtain ⟨v51, h51⟩ : ∃ v, a.tmps.getD 51 undef = v := ⟨_, rfl⟩
    obtain ⟨v52, h52⟩ : ∃ v, a.tmps.getD 52 undef = v := ⟨_, rfl⟩
    obtain ⟨v53, h53⟩ : ∃ v, a.tmps.getD 53 undef = v := ⟨_, rfl⟩
    obtain ⟨v54, h54⟩ : ∃ v, a.tmps.getD 54 undef = v := ⟨_, rfl⟩
    obtain ⟨v55, h55⟩ : ∃ v, a.tmps.getD 55 undef = v := ⟨_, rfl⟩
    obtain ⟨v56, h56⟩ : ∃ v, a.tmps.getD 56 undef = v := ⟨_, rfl⟩
    obtain ⟨v57, h57⟩ : ∃ v, a.tmps.getD 57 undef = v := ⟨_, rfl⟩
    simp only [List.take_succ_cons, List.take_zero, List.filterMap_cons, List.filterMap_nil, List.foldl_cons, List.foldl_nil, f14, f15, h44, h45, h46, h47, h48, h49, h50, h51, h52, h53, h54, h55, h56, h57, List.setIfInBounds_toArray, List.set_cons_succ, List.set_cons_zero] at ha
    rw [ha]
    clear ha hF f14 f15 h44 h45 h46 h47 h48 h49 h50 h51 h52 h53 h54 h55 h56 h57
    have q5 := cell_of (unhide HR9).r3 5 rfl
    have q6 := cell_of (unhide HR9).r3 6 rfl
    have q7 := cell_of (unhide HR9).r3 7 rfl
    have qf := fun j => fz_of (unhide HR9).r3 j
    have ql := (unhide HR9).lt
    go_simp
    have HF := hide (RR.set (c' := rcA { rcN 3 with nam := nmB x.a, pre := T, fre := pickI x.c 12 - 1, dro := pickI x.d 30 - 1 } nl nl nl) (RR.set (c' := rcA { rcN 3 with nam := nmB x.a, pre := T, fre := pickI x.c 12 - 1 } nl nl nl) (RR.set (c' := rcA { rcN 3 with nam := nmB x.a, pre := T } nl nl nl) (unhide HR9) 5 (.string T) rfl) 6 (.int .i64 (pickI x.c 12 - 1)) rfl) 7 (.int .i64 (pickI x.d 30 - 1)) rfl)
    clear q5 q6 q7 qf ql
    have k9 := cell_of (unhide HF).r3 0 rfl
    go_upto_region 50 with fail
    have hP := (unhide HF).r3
    have hR := (unhide HF).r2
    have hbl := (unhide HF).bl
    refine wp_region_lit ?_
    refine wpList_load_mid rfl 47 (.tmp 5) rfl (w.heap.size + 1 + 1 + 1) 0 rfl (rcA ({ rcN 3 with nam := nmB x.a, pre := T, fre := pickI x.c 12 - 1, dro := pickI x.d 30 - 1 }) nl nl nl).toList _ (fun j v hv => by rw [Nat.zero_add]; exact cell_of hP j (by simpa using hv)) Tryz.underlying47 rfl (by kernel_rfl) ?_
    refine wpList_store_mid rfl 47 (.tmp 4) (.tmp 217) rfl (w.heap.size + 1 + 1) 0 (rcA ({ rcN 3 with nam := nmB x.a, pre := T, fre := pickI x.c 12 - 1, dro := pickI x.d 30 - 1 }) nl nl nl) rfl rfl (there_of (c := rcA (rcN 0) nl nl nl) (t := 47) hR) (by kernel_rfl) (by simp [Value.oneCell']) ?_
    have hrr := rec_end (c' := (rcA ({ rcN 3 with nam := nmB x.a, pre := T, fre := pickI x.c 12 - 1, dro := pickI x.d 30 - 1 }) nl nl nl)) hR rfl
    revert hrr
    generalize World.setCells _ (w.heap.size + 1 + 1) 0 _ = W9
    intro hrr
    obtain ⟨r9, hg9⟩ := hrr
    clear hP hR
    go_wp2
    refine bodyPost_ret (v := rcV ({ rcN 3 with nam := nmB x.a, pre := T, fre := pickI x.c 12 - 1, dro := pickI x.d 30 - 1 }) nl nl nl) (rec_res r9 rfl rfl) rfl ⟨nl, nl, nl, by rw [unhide HQ], ?_, ?_⟩
    · rw [unhide HQ]
      exact ⟨Ints.nil9 _, Ints.nil9 _, Ints.nil9 _⟩
    · exact bl_tr hbl (gb_lo hg9 (by have := hbl.size; omega) (fun j e => by injection e with e; omega))
end Go.Proofs.YtdgmdapijhbocaaGreat

/- icehousekeep.Record, kind by kind. -/
namespace Go.Proofs.YtdgmdapijhbocaaGreat
open Go.RowKit Go.Maps
set_option maxRecDepth 100000
set_option linter.unusedVariables false
set_option linter.unusedSimpArgs false
set_option maxHeartbeats 2000000 in
theorem record_3A (S : St) (b v u q g : Value) (x : Rw) (w : World) (hS : Sta w b v u q g S) (hc : stC S = true) (hx : WfW x) (hk : pickI x.kind 14 = 3) (hm : pickI x.d 5 = 0) :
    Calls Tryz.prog 25 #[stV S b v u q g, rwV x] w fun e w' => ∃ vv pv sv, e = .returned (rcV (recR S x) vv pv sv) ∧ RcI w' (recR S x) vv pv sv ∧ Below w.heap.size w w' := by
  have HS := hide hS
  obtain ⟨hk0, ha0, hb0, hc0, hd0⟩ := hx
  have HQ : Hid (recR S x = { rcN 4 with ver := verR S x }) := by show _ = _; unfold recR; simp [hk]
  obtain ⟨Q, hQ⟩ : ∃ Q, recR S x = Q := ⟨_, rfl⟩
  rw [hQ] at HQ ⊢
  clear hQ hS
  have HK : Hid (∀ W : World, Calls Tryz.prog 10 #[.int .i64 x.kind, .int .i64 14] W fun e w' => e = .returned (.int .i64 3) ∧ W = w') := fun W => by
    have := picked_any x.kind 14 W (by decide) (by decide) hk0.1 hk0.2
    rw [hk] at this; exact this
  clear hk
  go_enter Tryz.func25, Tryz.ntmps25
  go_wp2_with fail
  refine (unhide HK _).mono ?_
  rintro e w1 ⟨rfl, rfl⟩
  simp only []
  rename_i hK0
  refine hK0 _ _ ?_
  clear hK0
  refine wpList_plain rfl (fun K hK => ?_)
  go_simp
  refine hK _ _ ?_
  clear hK
  refine wpList_plain rfl (fun K hK => ?_)
  go_simp
  refine hK _ _ ?_
  clear hK
  refine wpList_plain rfl (fun K hK => ?_)
  go_simp
  refine hK _ _ ?_
  clear hK
  rw [show IntKind.wrap .i64 4 = 4 by decide]
  refine wpList_store_mid rfl 47 (.tmp 5) (.tmp 14) rfl (w.heap.size + 1 + 1 + 1) 0 (rcA (rcN 4) nl nl nl) rfl rfl (there_of (c := rcA (rcN 0) nl nl nl) (t := 47) (rec_new _ _ _ _ _)) (by kernel_rfl) (by simp [Value.oneCell']) ?_
  generalize hWW : World.setCells _ (w.heap.size + 1 + 1 + 1) 0 _ = W1
  have hrr : W1.heap[w.heap.size]? = some (.cells #[.int .i64 S.next, .int .i64 S.clock, b, v, u, q, g] 29 (0, 0)) ∧ W1.heap[w.heap.size + 1]? = some (.cells #[.int .i64 x.kind, .int .i64 x.a, .int .i64 x.b, .int .i64 x.c, .int .i64 x.d, .string x.text] 72 (0, 0)) ∧ W1.heap[w.heap.size + 1 + 1]? = some (.cells (rcA (rcN 0) nl nl nl) 47 (0, 0)) ∧ W1.heap[w.heap.size + 1 + 1 + 1]? = some (.cells (rcA (rcN 4) nl nl nl) 47 (0, 0)) ∧ Below w.heap.size w W1 := by
    rw [← hWW]
    exact rec_rows w (.cells #[.int .i64 S.next, .int .i64 S.clock, b, v, u, q, g] 29) (.cells #[.int .i64 x.kind, .int .i64 x.a, .int .i64 x.b, .int .i64 x.c, .int .i64 x.d, .string x.text] 72) (.cells (rcA (rcN 0) nl nl nl) 47) (rcA (rcN 0) nl nl nl) (rcA (rcN 4) nl nl nl) rfl
  clear hWW
  obtain ⟨r0, r1, r2, r3, hw1⟩ := hrr
  have hVR : verR S x = ⟨S.next, nmB x.a, kyB x.b, pickI x.d 3 == 0, true, 0, pickI x.c (S.clock + 1), 0, [], 0, 0, 0⟩ := by unfold verR; rw [if_pos hm]
  have hfew := few_of hc
  have hf0 := hfew.c0
  have hf1 := hfew.c1
  clear hfew
  have HCP : Hid (∀ W : World, Calls Tryz.prog 10 #[.int .i64 x.c, .int .i64 (S.clock + 1)] W fun e w' => e = .returned (.int .i64 (pickI x.c (S.clock + 1))) ∧ W = w') := fun W => picked_any x.c (S.clock + 1) W (by omega) (by omega) hc0.1 hc0.2
  have HCQ : Hid (∀ W : World, Calls Tryz.prog 10 #[.int .i64 x.c, .int .i64 (IntKind.i64.wrap (S.clock + 1))] W fun e w' => e = .returned (.int .i64 (pickI x.c (S.clock + 1))) ∧ W = w') := fun W => by
    rw [Go.IntWalk.i64_in (S.clock + 1) (by omega)]
    exact unhide HCP W
  obtain ⟨M, hM⟩ : ∃ M, pickI x.d 5 = M := ⟨_, rfl⟩
  have HMP : Hid (∀ W : World, Calls Tryz.prog 10 #[.int .i64 x.d, .int .i64 5] W fun e w' => e = .returned (.int .i64 M) ∧ W = w') := fun W => by
    have := picked_any x.d 5 W (by decide) (by decide) hd0.1 hd0.2
    rw [hM] at this; exact this
  rw [hM] at hm
  clear hM
  have HVR := hide hVR
  clear hVR
  subst hm
  have HRR0 : Hid (RR w W1 #[.int .i64 S.next, .int .i64 S.clock, b, v, u, q, g] x (rcA (rcN 4) nl nl nl)) := ⟨r0, r1, r2, r3, hw1⟩
  have k0 : W1.cell? ⟨w.heap.size + 1 + 1 + 1, 0, none⟩ = some (.int .i64 4) := cell_of r3 0 rfl
  clear r0 r1 r2 r3
  have xa0_0 := cell_of (unhide HRR0).r1 0 rfl
  have xa1_0 := cell_of (unhide HRR0).r1 1 rfl
  have xa2_0 := cell_of (unhide HRR0).r1 2 rfl
  have xa3_0 := cell_of (unhide HRR0).r1 3 rfl
  have xa4_0 := cell_of (unhide HRR0).r1 4 rfl
  have sa0_0 := cell_of (unhide HRR0).r0 0 rfl
  have sa1_0 := cell_of (unhide HRR0).r0 1 rfl
  have sa2_0 := cell_of (unhide HRR0).r0 2 rfl
  have sa3_0 := cell_of (unhide HRR0).r0 3 rfl
  have sa4_0 := cell_of (unhide HRR0).r0 4 rfl
  have sa5_0 := cell_of (unhide HRR0).r0 5 rfl
  have sa6_0 := cell_of (unhide HRR0).r0 6 rfl
  have pa1_0 := cell_of (unhide HRR0).r3 1 rfl
  have pa2_0 := cell_of (unhide HRR0).r3 2 rfl
  have pa3_0 := cell_of (unhide HRR0).r3 3 rfl
  have pa4_0 := cell_of (unhide HRR0).r3 4 rfl
  have pa27_0 := cell_of (unhide HRR0).r3 27 rfl
  have pa28_0 := cell_of (unhide HRR0).r3 28 rfl
  have pf0 := fun j => fz_of (unhide HRR0).r3 j
  have pl0 := (unhide HRR0).lt
  have ql0 := (unhide HRR0).lt0
  have qm0 := (unhide HRR0).lt1
  have KZ : Hid (∀ (W' : World) (c : Array Value), RR w W' #[.int .i64 S.next, .int .i64 S.clock, b, v, u, q, g] x c → (W'.cell? ⟨w.heap.size, 0, none⟩ = some (.int .i64 S.next) ∧ W'.cell? ⟨w.heap.size, 1, none⟩ = some (.int .i64 S.clock) ∧ W'.cell? ⟨w.heap.size, 2, none⟩ = some (b) ∧ W'.cell? ⟨w.heap.size, 3, none⟩ = some (v) ∧ W'.cell? ⟨w.heap.size, 4, none⟩ = some (u) ∧ W'.cell? ⟨w.heap.size, 5, none⟩ = some (q) ∧ W'.cell? ⟨w.heap.size, 6, none⟩ = some (g) ∧ W'.cell? ⟨w.heap.size + 1, 0, none⟩ = some (.int .i64 x.kind) ∧ W'.cell? ⟨w.heap.size + 1, 1, none⟩ = some (.int .i64 x.a) ∧ W'.cell? ⟨w.heap.size + 1, 2, none⟩ = some (.int .i64 x.b) ∧ W'.cell? ⟨w.heap.size + 1, 3, none⟩ = some (.int .i64 x.c) ∧ W'.cell? ⟨w.heap.size + 1, 4, none⟩ = some (.int .i64 x.d))) := fun W' c h => ⟨cell_of h.r0 0 rfl, cell_of h.r0 1 rfl, cell_of h.r0 2 rfl, cell_of h.r0 3 rfl, cell_of h.r0 4 rfl, cell_of h.r0 5 rfl, cell_of h.r0 6 rfl, cell_of h.r1 0 rfl, cell_of h.r1 1 rfl, cell_of h.r1 2 rfl, cell_of h.r1 3 rfl, cell_of h.r1 4 rfl⟩
  have hlo2 := pickI_lo x.c (m := 200) (by decide)
  have hhi2 := pickI_hi x.c (m := 200) (by decide)
  have hS0 := unhide KZ _ _ (RR.drew (unhide HRR0))
  go_upto_region 14 with (first
    | (with_reducible refine (picked_any x.c 200 _ (by decide) (by decide) hc0.1 hc0.2).mono ?_; rintro e w3 ⟨rfl, rfl⟩)
    | fail)
  go_region_held3 (fun W' => W'.cell? ⟨w.heap.size, 0, none⟩ = some (.int .i64 S.next) ∧ W'.cell? ⟨w.heap.size, 1, none⟩ = some (.int .i64 S.clock) ∧ W'.cell? ⟨w.heap.size, 2, none⟩ = some (b) ∧ W'.cell? ⟨w.heap.size, 3, none⟩ = some (v) ∧ W'.cell? ⟨w.heap.size, 4, none⟩ = some (u) ∧ W'.cell? ⟨w.heap.size, 5, none⟩ = some (q) ∧ W'.cell? ⟨w.heap.size, 6, none⟩ = some (g) ∧ W'.cell? ⟨w.heap.size + 1, 0, none⟩ = some (.int .i64 x.kind) ∧ W'.cell? ⟨w.heap.size + 1, 1, none⟩ = some (.int .i64 x.a) ∧ W'.cell? ⟨w.heap.size + 1, 2, none⟩ = some (.int .i64 x.b) ∧ W'.cell? ⟨w.heap.size + 1, 3, none⟩ = some (.int .i64 x.c) ∧ W'.cell? ⟨w.heap.size + 1, 4, none⟩ = some (.int .i64 x.d))
    (first | with_reducible exact hS0 | with_reducible exact hS2 | with_reducible exact hS3 | with_reducible exact hS4 | fail)
    (first
      | (go_at_call 18; refine (name_any x.a _ ha0.1 ha0.2).mono ?_; rintro e w2 ⟨rfl, b2⟩; have HRR2 := hide (RR.up (RR.drew (unhide HRR0)) b2); have hS2 := unhide KZ _ _ (unhide HRR2))
      | (go_at_call 19; refine (key_any x.b _ hb0.1 hb0.2).mono ?_; rintro e w3 ⟨rfl, b3⟩; have HRR3 := hide (RR.up (unhide HRR2) b3); have hS3 := unhide KZ _ _ (unhide HRR3); have y8 := cell_of (unhide HRR3).r3 8 rfl; have y9 := cell_of (unhide HRR3).r3 9 rfl; have y10 := cell_of (unhide HRR3).r3 10 rfl; have y11 := cell_of (unhide HRR3).r3 11 rfl; have y12 := cell_of (unhide HRR3).r3 12 rfl; have y13 := cell_of (unhide HRR3).r3 13 rfl; have y14 := cell_of (unhide HRR3).r3 14 rfl; have y15 := cell_of (unhide HRR3).r3 15 rfl; have y16 := cell_of (unhide HRR3).r3 16 rfl; have y17 := cell_of (unhide HRR3).r3 17 rfl; have y18 := cell_of (unhide HRR3).r3 18 rfl; have y19 := cell_of (unhide HRR3).r3 19 rfl; have yf := fun j => fz_of (unhide HRR3).r3 j; have yl := (unhide HRR3).lt; have yl0 := (unhide HRR3).lt0; have yl1 := (unhide HRR3).lt1; have HRR4 := hide (RR.set (c' := rcA { rcN 4 with ver := ⟨S.next, nmB x.a, kyB x.b, pickI x.d 3 == 0, false, 0, pickI x.c (S.clock + 1), 0, [], 0, 0, 0⟩ } nl nl nl) (RR.set (c' := #[.int .i64 4, .int .i64 0, .int .i64 0, .string em, .string em, .string em, .int .i64 0, .int .i64 0, .int .i64 S.next, .string (nmB x.a), .string (kyB x.b), .bool (pickI x.d 3 == 0), .bool false, .int .i64 0, .int .i64 (pickI x.c (S.clock + 1)), .int .i64 0, .slice none 0 0, .int .i64 0, .int .i64 0, .int .i64 0, .int .i64 0, .int .i64 0, .int .i64 0, .int .i64 0, .int .i64 0, nl, nl, .int .i64 0, .int .i64 0]) (RR.set (c' := #[.int .i64 4, .int .i64 0, .int .i64 0, .string em, .string em, .string em, .int .i64 0, .int .i64 0, .int .i64 S.next, .string (nmB x.a), .string (kyB x.b), .bool (pickI x.d 3 == 0), .bool false, .int .i64 0, .int .i64 (pickI x.c (S.clock + 1)), .int .i64 0, .slice none 0 0, .int .i64 0, .int .i64 0, .int .i64 0, .int .i64 0, .int .i64 0, .int .i64 0, .int .i64 0, .int .i64 0, nl, nl, .int .i64 0, .int .i64 0]) (RR.set (c' := #[.int .i64 4, .int .i64 0, .int .i64 0, .string em, .string em, .string em, .int .i64 0, .int .i64 0, .int .i64 S.next, .string (nmB x.a), .string (kyB x.b), .bool (pickI x.d 3 == 0), .bool false, .int .i64 0, .int .i64 (pickI x.c (S.clock + 1)), .int .i64 0, .slice none 0 0, .int .i64 0, .int .i64 0, .int .i64 0, .int .i64 0, .int .i64 0, .int .i64 0, .int .i64 0, .int .i64 0, nl, nl, .int .i64 0, .int .i64 0]) (RR.set (c' := #[.int .i64 4, .int .i64 0, .int .i64 0, .string em, .string em, .string em, .int .i64 0, .int .i64 0, .int .i64 S.next, .string (nmB x.a), .string (kyB x.b), .bool (pickI x.d 3 == 0), .bool false, .int .i64 0, .int .i64 (pickI x.c (S.clock + 1)), .int .i64 0, nl, .int .i64 0, .int .i64 0, .int .i64 0, .int .i64 0, .int .i64 0, .int .i64 0, .int .i64 0, .int .i64 0, nl, nl, .int .i64 0, .int .i64 0]) (RR.set (c' := #[.int .i64 4, .int .i64 0, .int .i64 0, .string em, .string em, .string em, .int .i64 0, .int .i64 0, .int .i64 S.next, .string (nmB x.a), .string (kyB x.b), .bool (pickI x.d 3 == 0), .bool false, .int .i64 0, .int .i64 (pickI x.c (S.clock + 1)), .int .i64 0, nl, .int .i64 0, .int .i64 0, .int .i64 0, .int .i64 0, .int .i64 0, .int .i64 0, .int .i64 0, .int .i64 0, nl, nl, .int .i64 0, .int .i64 0]) (RR.set (c' := #[.int .i64 4, .int .i64 0, .int .i64 0, .string em, .string em, .string em, .int .i64 0, .int .i64 0, .int .i64 S.next, .string (nmB x.a), .string (kyB x.b), .bool (pickI x.d 3 == 0), .bool false, .int .i64 0, .int .i64 0, .int .i64 0, nl, .int .i64 0, .int .i64 0, .int .i64 0, .int .i64 0, .int .i64 0, .int .i64 0, .int .i64 0, .int .i64 0, nl, nl, .int .i64 0, .int .i64 0]) (RR.set (c' := #[.int .i64 4, .int .i64 0, .int .i64 0, .string em, .string em, .string em, .int .i64 0, .int .i64 0, .int .i64 S.next, .string (nmB x.a), .string (kyB x.b), .bool (pickI x.d 3 == 0), .bool false, .int .i64 0, .int .i64 0, .int .i64 0, nl, .int .i64 0, .int .i64 0, .int .i64 0, .int .i64 0, .int .i64 0, .int .i64 0, .int .i64 0, .int .i64 0, nl, nl, .int .i64 0, .int .i64 0]) (RR.set (c' := #[.int .i64 4, .int .i64 0, .int .i64 0, .string em, .string em, .string em, .int .i64 0, .int .i64 0, .int .i64 S.next, .string (nmB x.a), .string (kyB x.b), .bool (pickI x.d 3 == 0), .bool false, .int .i64 0, .int .i64 0, .int .i64 0, nl, .int .i64 0, .int .i64 0, .int .i64 0, .int .i64 0, .int .i64 0, .int .i64 0, .int .i64 0, .int .i64 0, nl, nl, .int .i64 0, .int .i64 0]) (RR.set (c' := #[.int .i64 4, .int .i64 0, .int .i64 0, .string em, .string em, .string em, .int .i64 0, .int .i64 0, .int .i64 S.next, .string (nmB x.a), .string (kyB x.b), .bool false, .bool false, .int .i64 0, .int .i64 0, .int .i64 0, nl, .int .i64 0, .int .i64 0, .int .i64 0, .int .i64 0, .int .i64 0, .int .i64 0, .int .i64 0, .int .i64 0, nl, nl, .int .i64 0, .int .i64 0]) (RR.set (c' := #[.int .i64 4, .int .i64 0, .int .i64 0, .string em, .string em, .string em, .int .i64 0, .int .i64 0, .int .i64 S.next, .string (nmB x.a), .string em, .bool false, .bool false, .int .i64 0, .int .i64 0, .int .i64 0, nl, .int .i64 0, .int .i64 0, .int .i64 0, .int .i64 0, .int .i64 0, .int .i64 0, .int .i64 0, .int .i64 0, nl, nl, .int .i64 0, .int .i64 0]) (RR.set (c' := #[.int .i64 4, .int .i64 0, .int .i64 0, .string em, .string em, .string em, .int .i64 0, .int .i64 0, .int .i64 S.next, .string em, .string em, .bool false, .bool false, .int .i64 0, .int .i64 0, .int .i64 0, nl, .int .i64 0, .int .i64 0, .int .i64 0, .int .i64 0, .int .i64 0, .int .i64 0, .int .i64 0, .int .i64 0, nl, nl, .int .i64 0, .int .i64 0]) (unhide HRR3) 8 (.int .i64 S.next) rfl) 9 (.string (nmB x.a)) rfl) 10 (.string (kyB x.b)) rfl) 11 (.bool (pickI x.d 3 == 0)) rfl) 12 (.bool false) rfl) 13 (.int .i64 0) rfl) 14 (.int .i64 (pickI x.c (S.clock + 1))) rfl) 15 (.int .i64 0) rfl) 16 (.slice none 0 0) rfl) 17 (.int .i64 0) rfl) 18 (.int .i64 0) rfl) 19 (.int .i64 0) rfl); have hS4 := unhide KZ _ _ (unhide HRR4))
      | (go_at_call 10; with_reducible refine (picked_any x.d 3 _ (by decide) (by decide) hd0.1 hd0.2).mono ?_; rintro e w4 ⟨rfl, rfl⟩)
      | (go_at_call 10; with_reducible refine (unhide HCP _).mono ?_; rintro e w4 ⟨rfl, rfl⟩)
      | (go_at_call 10; with_reducible refine (unhide HCQ _).mono ?_; rintro e w4 ⟨rfl, rfl⟩)
      | fail)
  all_goals (
    clear y8 y9 y10 y11 y12 y13 y14 y15 y16 y17 y18 y19 yf hS4 hS3 hS2 hS0
    have xa0_4 := cell_of (unhide HRR4).r1 0 rfl
    have xa1_4 := cell_of (unhide HRR4).r1 1 rfl
    have xa2_4 := cell_of (unhide HRR4).r1 2 rfl
    have xa3_4 := cell_of (unhide HRR4).r1 3 rfl
    have xa4_4 := cell_of (unhide HRR4).r1 4 rfl
    have sa0_4 := cell_of (unhide HRR4).r0 0 rfl
    have sa1_4 := cell_of (unhide HRR4).r0 1 rfl
    have sa2_4 := cell_of (unhide HRR4).r0 2 rfl
    have sa3_4 := cell_of (unhide HRR4).r0 3 rfl
    have sa4_4 := cell_of (unhide HRR4).r0 4 rfl
    have sa5_4 := cell_of (unhide HRR4).r0 5 rfl
    have sa6_4 := cell_of (unhide HRR4).r0 6 rfl
    have pa1_4 := cell_of (unhide HRR4).r3 1 rfl
    have pa2_4 := cell_of (unhide HRR4).r3 2 rfl
    have pa3_4 := cell_of (unhide HRR4).r3 3 rfl
    have pa4_4 := cell_of (unhide HRR4).r3 4 rfl
    have pa27_4 := cell_of (unhide HRR4).r3 27 rfl
    have pa28_4 := cell_of (unhide HRR4).r3 28 rfl
    have pf4 := fun j => fz_of (unhide HRR4).r3 j
    have pl4 := (unhide HRR4).lt
    have ql4 := (unhide HRR4).lt0
    have qm4 := (unhide HRR4).lt1
    have pv12_4 := cell_of (unhide HRR4).r3 12 rfl
    have pv13_4 := cell_of (unhide HRR4).r3 13 rfl
    have pv15_4 := cell_of (unhide HRR4).r3 15 rfl
    have pv16_4 := cell_of (unhide HRR4).r3 16 rfl
    go_upto_region 50 with (first
      | (with_reducible refine (unhide HMP _).mono ?_; rintro e w5 ⟨rfl, rfl⟩)
      | fail)
    have HF := hide (RR.set (c' := rcA { rcN 4 with ver := verR S x } nl nl nl) (unhide HRR4) 12 (.bool true) (by rw [unhide HVR]; rfl))
    have hP := (unhide HF).r3
    have hR := (unhide HF).r2
    have hbl := (unhide HF).bl
    refine wp_region_lit ?_
    refine wpList_load_mid rfl 47 (.tmp 5) rfl (w.heap.size + 1 + 1 + 1) 0 rfl (rcA ({ rcN 4 with ver := verR S x }) nl nl nl).toList _ (fun j v hv => by rw [Nat.zero_add]; exact cell_of hP j (by simpa using hv)) Tryz.underlying47 rfl (by kernel_rfl) ?_
    refine wpList_store_mid rfl 47 (.tmp 4) (.tmp 217) rfl (w.heap.size + 1 + 1) 0 (rcA ({ rcN 4 with ver := verR S x }) nl nl nl) rfl rfl (there_of (c := rcA (rcN 0) nl nl nl) (t := 47) hR) (by kernel_rfl) (by simp [Value.oneCell']) ?_
    have hrr := rec_end (c' := (rcA ({ rcN 4 with ver := verR S x }) nl nl nl)) hR rfl
    revert hrr
    generalize World.setCells _ (w.heap.size + 1 + 1) 0 _ = W9
    intro hrr
    obtain ⟨r9, hg9⟩ := hrr
    clear hP hR
    go_wp2
    refine bodyPost_ret (v := rcV ({ rcN 4 with ver := verR S x }) nl nl nl) (rec_res r9 rfl rfl) rfl ⟨nl, nl, nl, by rw [unhide HQ], ?_, ?_⟩
    · rw [unhide HQ]
      exact ⟨by rw [unhide HVR]; exact Ints.nil9 _, Ints.nil9 _, Ints.nil9 _⟩
    · exact bl_tr hbl (gb_lo hg9 (by have := hbl.size; omega) (fun j e => by injection e with e; omega)))
end Go.Proofs.YtdgmdapijhbocaaGreat

/- tier's closures: what a rule is for; versions on tape. -/
namespace Go.Proofs.YtdgmdapijhbocaaGreat
open Go.RowKit Go.Maps
set_option maxRecDepth 100000
set_option linter.unusedVariables false
set_option linter.unusedSimpArgs false
/-- Does a text begin with another? -/
def pfB (s t : ByteArray) : Bool := if t.size ≤ s.size then (s.extract 0 t.size).toList == t.toList else false
theorem pfxL_any (s t : ByteArray) (w : World) (hs : s.size ≤ maxLen) (ht : t.size ≤ maxLen) :
    Calls Tryz.prog 153 #[.string s, .string t] w fun e w' => e = .returned (.bool (pfB s t)) ∧ w = w' := by
  unfold maxLen at hs ht
  have HP : Hid (pfB s t = if t.size ≤ s.size then (s.extract 0 t.size).toList == t.toList else false) := rfl
  obtain ⟨N, hN⟩ : ∃ N, s.size = N := ⟨_, rfl⟩
  obtain ⟨M, hM⟩ : ∃ M, t.size = M := ⟨_, rfl⟩
  rw [hN] at hs
  rw [hM] at ht
  by_cases h : M ≤ N
  · have HP' : Hid (pfB s t = ((s.extract 0 M).toList == t.toList)) := by show _ = _; rw [unhide HP, hN, hM, if_pos h]
    go_enter Tryz.func153, Tryz.ntmps153
    go_wp2
    go_ret
    exact ⟨ret_bool (unhide HP').symm, rfl⟩
  · have HP' : Hid (pfB s t = false) := by show _ = _; rw [unhide HP, hN, hM, if_neg h]
    go_enter Tryz.func153, Tryz.ntmps153
    go_wp2
    go_ret
    exact ⟨ret_bool (unhide HP').symm, rfl⟩
theorem prefix_any (s t : ByteArray) (w : World) (hs : s.size ≤ maxLen) (ht : t.size ≤ maxLen) :
    Calls Tryz.prog 106 #[.string s, .string t] w fun e w' => e = .returned (.bool (pfB s t)) ∧ w = w' := by
  have HS := hide hs
  have HT := hide ht
  clear hs ht
  go_enter Tryz.func106, Tryz.ntmps106
  go_wp2_with fail
  refine (pfxL_any s t _ (unhide HS) (unhide HT)).mono ?_
  rintro e w1 ⟨rfl, rfl⟩
  go_wp2
  go_ret
  exact ⟨rfl, rfl⟩
def ageN (dr : Bool) (Y : Bu) : Int := if dr then Y.dro else Y.fre
/-- Is a rule's number for a version? -/
def ageP (S : St) (X : Ve) (dr : Bool) (Y : Bu) : Bool := ((eqS Y.nam X.bu && decide (0 ≤ ageN dr Y)) && pfB X.ke Y.pre) && decide (ageN dr Y ≤ S.clock - X.time)
structure BoxV (w : World) (B : Nat) (X : Ve) (u : Value) : Prop where
  c0 : w.cell? ⟨B, 0, none⟩ = some (.int .i64 X.id)
  c1 : w.cell? ⟨B, 1, none⟩ = some (.string X.bu)
  c2 : w.cell? ⟨B, 2, none⟩ = some (.string X.ke)
  c3 : w.cell? ⟨B, 3, none⟩ = some (.bool X.nul)
  c4 : w.cell? ⟨B, 4, none⟩ = some (.bool X.mar)
  c5 : w.cell? ⟨B, 5, none⟩ = some (.int .i64 X.size)
  c6 : w.cell? ⟨B, 6, none⟩ = some (.int .i64 X.time)
  c7 : w.cell? ⟨B, 7, none⟩ = some (.int .i64 X.tier)
  c8 : w.cell? ⟨B, 8, none⟩ = some u
  c9 : w.cell? ⟨B, 9, none⟩ = some (.int .i64 X.vol)
  c10 : w.cell? ⟨B, 10, none⟩ = some (.int .i64 X.pos)
  c11 : w.cell? ⟨B, 11, none⟩ = some (.int .i64 X.til)
theorem BoxV.up {w w' : World} {B : Nat} {X : Ve} {u : Value} (h : BoxV w B X u) (hb : Below w.heap.size w w') : BoxV w' B X u := ⟨scell_up hb h.c0, scell_up hb h.c1, scell_up hb h.c2, scell_up hb h.c3, scell_up hb h.c4, scell_up hb h.c5, scell_up hb h.c6, scell_up hb h.c7, scell_up hb h.c8, scell_up hb h.c9, scell_up hb h.c10, scell_up hb h.c11⟩
theorem BoxV.lt {w : World} {B : Nat} {X : Ve} {u : Value} (h : BoxV w B X u) : B < w.heap.size := World.block_lt_of_cell? w _ h.c0
abbrev veB (X : Ve) (o : Value) : Array Value := #[.int .i64 X.id, .string X.bu, .string X.ke, .bool X.nul, .bool X.mar, .int .i64 X.size, .int .i64 X.time, .int .i64 X.tier, o, .int .i64 X.vol, .int .i64 X.pos, .int .i64 X.til]
theorem BoxV.new (w : World) (X : Ve) (u : Value) (t : TypeId) : BoxV (w.alloc (.cells (veB X u) t)) w.heap.size X u := by
  constructor <;> (rw [World.cell?_alloc_at _ _ _ _ rfl]; rfl)
theorem BoxV.at (w : World) (X : Ve) (u : Value) (t : TypeId) {B : Nat} (hB : B = w.heap.size) : BoxV (w.alloc (.cells (veB X u) t)) B X u := by subst hB; exact BoxV.new w X u t
theorem tnum_fre (Y : Bu) (w : World) : Calls Tryz.prog 49 #[.agg #[.string Y.pre, .int .i64 Y.fre, .int .i64 Y.dro]] w fun e w' => e = .returned (.int .i64 (ageN false Y)) ∧ Below w.heap.size w w' := by
  go_enter Tryz.func49, Tryz.ntmps49
  go_wp2
  go_ret
  exact ⟨rfl, bl1 _ _⟩
set_option maxHeartbeats 1000000 in
theorem isFor_1_fre (S : St) (X : Ve) (b v u q g uv : Value) (Y : Bu) (F V B : Nat) (w : World) (hF : w.cell? ⟨F, 0, none⟩ = some (.func (.func 49) #[] #[])) (hV : BoxV w V X uv) (hB : BoxS w B S b v u q g)
    (hc0 : 0 ≤ S.clock) (hc1 : S.clock ≤ 1073741824) (ht0 : 0 ≤ X.time) (ht1 : X.time ≤ 1073741824) (hk : X.ke.size ≤ maxLen) (hp : Y.pre.size ≤ maxLen) :
    Calls Tryz.prog 115 #[buV Y, .pointer (some ⟨F, 0, none⟩), .pointer (some ⟨V, 0, none⟩), .pointer (some ⟨B, 0, none⟩)] w fun e w' => e = .returned (.bool (ageP S X false Y)) ∧ Below w.heap.size w w' := by
  have HE : Hid (ageP S X false Y = (((((Y.nam.toList == X.bu.toList) && decide (0 ≤ ageN false Y)) && pfB X.ke Y.pre) && decide (ageN false Y ≤ S.clock - X.time)))) := rfl
  obtain ⟨R, hR⟩ : ∃ R, ageP S X false Y = R := ⟨_, rfl⟩
  rw [hR] at HE ⊢
  clear hR
  have HV := hide hV
  have HB := hide hB
  have HK := hide hk
  have HP := hide hp
  have hVl := hV.lt
  have hBl := hB.lt
  have hFl : F < w.heap.size := World.block_lt_of_cell? w _ hF
  clear hV hB hk hp
  go_enter Tryz.func115, Tryz.ntmps115
  go_wp2_with fail
  refine (tnum_fre Y _).mono ?_
  rintro e w1 ⟨rfl, hb⟩
  have hw1 := bl_trans (bl1 w _) hb
  have y0 := box1 hb 0 rfl
  have y2 := box1 hb 2 rfl
  have hV1 := (unhide HV).up hw1
  have hB1 := (unhide HB).up hw1
  have v1 := hV1.c1
  have v2 := hV1.c2
  have v6 := hV1.c6
  have s1 := hB1.c1
  clear hV1 hB1 hb hF
  obtain ⟨n, hn⟩ : ∃ n, ageN false Y = n := ⟨_, rfl⟩
  rw [hn] at HE ⊢
  clear hn
  cases t : (Y.nam.toList == X.bu.toList)
  · rw [t] at HE
    have HR : Hid (R = false) := unhide HE
    clear HE
    go_wp2
    go_ret
    exact ⟨ret_bool (unhide HR).symm, hw1⟩
  rw [t] at HE
  cases hd : decide (0 ≤ n)
  · have h0 := of_decide_eq_false hd
    rw [hd] at HE
    clear hd
    have HR : Hid (R = false) := unhide HE
    clear HE
    go_wp2
    go_ret
    exact ⟨ret_bool (unhide HR).symm, hw1⟩
  have h0 := of_decide_eq_true hd
  rw [hd] at HE
  clear hd
  cases hpf : pfB X.ke Y.pre
  · rw [hpf] at HE
    have HR : Hid (R = false) := unhide HE
    clear HE
    go_wp2_with (fail)
    refine (prefix_any X.ke Y.pre _ (unhide HK) (unhide HP)).mono ?_
    rintro e w2 ⟨rfl, rfl⟩
    rw [hpf]
    clear hpf
    go_wp2
    go_ret
    exact ⟨ret_bool (unhide HR).symm, hw1⟩
  · rw [hpf] at HE
    have HR : Hid (R = decide (n ≤ S.clock - X.time)) := unhide HE
    clear HE
    go_wp2_with (fail)
    refine (prefix_any X.ke Y.pre _ (unhide HK) (unhide HP)).mono ?_
    rintro e w2 ⟨rfl, rfl⟩
    rw [hpf]
    clear hpf
    go_wp2
    go_ret
    exact ⟨ret_bool (unhide HR).symm, hw1⟩
theorem tnum_dro (Y : Bu) (w : World) : Calls Tryz.prog 51 #[.agg #[.string Y.pre, .int .i64 Y.fre, .int .i64 Y.dro]] w fun e w' => e = .returned (.int .i64 (ageN true Y)) ∧ Below w.heap.size w w' := by
  go_enter Tryz.func51, Tryz.ntmps51
  go_wp2
  go_ret
  exact ⟨rfl, bl1 _ _⟩
set_option maxHeartbeats 1000000 in
theorem isFor_1_dro (S : St) (X : Ve) (b v u q g uv : Value) (Y : Bu) (F V B : Nat) (w : World) (hF : w.cell? ⟨F, 0, none⟩ = some (.func (.func 51) #[] #[])) (hV : BoxV w V X uv) (hB : BoxS w B S b v u q g)
    (hc0 : 0 ≤ S.clock) (hc1 : S.clock ≤ 1073741824) (ht0 : 0 ≤ X.time) (ht1 : X.time ≤ 1073741824) (hk : X.ke.size ≤ maxLen) (hp : Y.pre.size ≤ maxLen) :
    Calls Tryz.prog 115 #[buV Y, .pointer (some ⟨F, 0, none⟩), .pointer (some ⟨V, 0, none⟩), .pointer (some ⟨B, 0, none⟩)] w fun e w' => e = .returned (.bool (ageP S X true Y)) ∧ Below w.heap.size w w' := by
  have HE : Hid (ageP S X true Y = (((((Y.nam.toList == X.bu.toList) && decide (0 ≤ ageN true Y)) && pfB X.ke Y.pre) && decide (ageN true Y ≤ S.clock - X.time)))) := rfl
  obtain ⟨R, hR⟩ : ∃ R, ageP S X true Y = R := ⟨_, rfl⟩
  rw [hR] at HE ⊢
  clear hR
  have HV := hide hV
  have HB := hide hB
  have HK := hide hk
  have HP := hide hp
  have hVl := hV.lt
  have hBl := hB.lt
  have hFl : F < w.heap.size := World.block_lt_of_cell? w _ hF
  clear hV hB hk hp
  go_enter Tryz.func115, Tryz.ntmps115
  go_wp2_with fail
  refine (tnum_dro Y _).mono ?_
  rintro e w1 ⟨rfl, hb⟩
  have hw1 := bl_trans (bl1 w _) hb
  have y0 := box1 hb 0 rfl
  have y2 := box1 hb 2 rfl
  have hV1 := (unhide HV).up hw1
  have hB1 := (unhide HB).up hw1
  have v1 := hV1.c1
  have v2 := hV1.c2
  have v6 := hV1.c6
  have s1 := hB1.c1
  clear hV1 hB1 hb hF
  obtain ⟨n, hn⟩ : ∃ n, ageN true Y = n := ⟨_, rfl⟩
  rw [hn] at HE ⊢
  clear hn
  cases t : (Y.nam.toList == X.bu.toList)
  · rw [t] at HE
    have HR : Hid (R = false) := unhide HE
    clear HE
    go_wp2
    go_ret
    exact ⟨ret_bool (unhide HR).symm, hw1⟩
  rw [t] at HE
  cases hd : decide (0 ≤ n)
  · have h0 := of_decide_eq_false hd
    rw [hd] at HE
    clear hd
    have HR : Hid (R = false) := unhide HE
    clear HE
    go_wp2
    go_ret
    exact ⟨ret_bool (unhide HR).symm, hw1⟩
  have h0 := of_decide_eq_true hd
  rw [hd] at HE
  clear hd
  cases hpf : pfB X.ke Y.pre
  · rw [hpf] at HE
    have HR : Hid (R = false) := unhide HE
    clear HE
    go_wp2_with (fail)
    refine (prefix_any X.ke Y.pre _ (unhide HK) (unhide HP)).mono ?_
    rintro e w2 ⟨rfl, rfl⟩
    rw [hpf]
    clear hpf
    go_wp2
    go_ret
    exact ⟨ret_bool (unhide HR).symm, hw1⟩
  · rw [hpf] at HE
    have HR : Hid (R = decide (n ≤ S.clock - X.time)) := unhide HE
    clear HE
    go_wp2_with (fail)
    refine (prefix_any X.ke Y.pre _ (unhide HK) (unhide HP)).mono ?_
    rintro e w2 ⟨rfl, rfl⟩
    rw [hpf]
    clear hpf
    go_wp2
    go_ret
    exact ⟨ret_bool (unhide HR).symm, hw1⟩
end Go.Proofs.YtdgmdapijhbocaaGreat
