/- tier.isFor, tier.ids, Freeze, Drop, Chill. -/
import Derived.Test.YtkogbgeadlnnfaaTia
namespace Go.Proofs.Ytkogbgeadlnnfaa
open Go.RowKit Go.Maps
set_option maxRecDepth 100000
set_option linter.unusedVariables false
set_option linter.unusedSimpArgs false
theorem oi_up {w w' : World} {B : Nat} {v : Value} {xs : List Int} (h : OwI w B v xs) (hb : Below w.heap.size w w') : OwI w' B v xs := World.ownsRow.kept h (gb_below (r := none) hb) (Classical.em _)
/-- The numbers of those of the first k versions for which it holds. -/
def idsK (l : List Ve) (p : Ve → Bool) (k : Nat) : List Int := ((l.take k).filter p).map (·.id)
theorem idsK_yes {l : List Ve} {p : Ve → Bool} {k : Nat} (hk : k < l.length) (h : p (l.getD k ve0) = true) : idsK l p (k + 1) = idsK l p k ++ [(l.getD k ve0).id] := by
  unfold idsK
  rw [take_next l ve0 hk, List.filter_append, List.map_append, show List.filter p [l.getD k ve0] = [l.getD k ve0] by rw [List.filter_cons, if_pos h]; rfl]
  rfl
theorem idsK_no {l : List Ve} {p : Ve → Bool} {k : Nat} (hk : k < l.length) (h : p (l.getD k ve0) = false) : idsK l p (k + 1) = idsK l p k := by
  unfold idsK
  rw [take_next l ve0 hk, List.filter_append, List.map_append, show List.filter p [l.getD k ve0] = [] by rw [List.filter_cons, if_neg (by rw [h]; decide)]; rfl]
  exact List.append_nil _
theorem idsK_len (l : List Ve) (p : Ve → Bool) (k : Nat) : (idsK l p k).length ≤ k := by
  unfold idsK
  have := List.length_filter_le p (l.take k)
  rw [List.length_map]
  have h2 := List.length_take_le k l
  omega
theorem idsK_congr {l : List Ve} {p q : Ve → Bool} (k : Nat) (h : ∀ x ∈ l, p x = q x) : idsK l p k = idsK l q k := by
  unfold idsK
  congr 1
  exact List.filter_congr fun x hx => h x (List.mem_of_mem_take hx)
theorem mem_ids {l : List Ve} {p : Ve → Bool} {k : Nat} {n : Int} (h : n ∈ idsK l p k) : ∃ x ∈ l, x.id = n := by
  unfold idsK at h
  obtain ⟨x, hx, rfl⟩ := List.mem_map.1 h
  exact ⟨x, List.mem_of_mem_take (List.mem_filter.1 hx).1, rfl⟩
theorem tstC_ves {S : St} (h : stC S = true) : vesC S = true := by
  unfold stC at h
  simp only [Bool.and_eq_true] at h
  exact h.1.1.1.2
theorem tstC_clock {S : St} (h : stC S = true) : 0 ≤ S.clock ∧ S.clock ≤ 1073741824 := by
  unfold stC at h
  simp only [Bool.and_eq_true] at h
  exact inB_t h.1.1.1.1.1.1.2
theorem tstC_next {S : St} (h : stC S = true) : 1 ≤ S.next ∧ S.next ≤ 1048576 := by
  unfold stC at h
  simp only [Bool.and_eq_true] at h
  exact inB_t h.1.1.1.1.1.1.1
theorem tstC_at {S : St} (h : stC S = true) {x : Ve} (hx : x ∈ S.ves) : veC S x = true := by
  have h1 := tstC_ves h
  unfold vesC at h1
  simp only [Bool.and_eq_true] at h1
  obtain ⟨k, hk, e⟩ := mem_at (d := ve0) hx
  have := allB_iff.1 h1.1.2 k hk
  unfold vesQ at this
  rwa [e] at this
theorem tstC_len {S : St} (h : stC S = true) : S.ves.length ≤ 40 := by
  have h1 := tstC_ves h
  unfold vesC at h1
  simp only [Bool.and_eq_true, decide_eq_true_eq] at h1
  have := h1.1.1.1
  omega
theorem tveC_id {S : St} {x : Ve} (h : veC S x = true) : 1 ≤ x.id ∧ x.id ≤ S.next - 1 := by
  unfold veC namC at h
  simp only [Bool.and_eq_true] at h
  exact inB_t h.1.1.1.1
theorem tveC_time {S : St} {x : Ve} (h : veC S x = true) : 0 ≤ x.time ∧ x.time ≤ S.clock := by
  unfold veC namC at h
  simp only [Bool.and_eq_true] at h
  exact inB_t h.1.2
theorem mem_getD {l : List Ve} {k : Nat} (hk : k < l.length) : l.getD k ve0 ∈ l := by
  rw [List.getD_eq_getElem?_getD, List.getElem?_eq_getElem hk]
  exact List.getElem_mem hk
theorem ids_wf {S : St} (h : stC S = true) (p : Ve → Bool) (k : Nat) : ∀ x ∈ idsK S.ves p k, (Lit.int .i64 x).wf = true := by
  intro n hn
  obtain ⟨x, hx, rfl⟩ := mem_ids hn
  have h1 := tveC_id (tstC_at h hx)
  have h2 := tstC_next h
  obtain ⟨m, hm⟩ := Int.eq_ofNat_of_zero_le (show 0 ≤ x.id by omega)
  rw [hm]
  exact wfNat (by omega)
set_option maxHeartbeats 1000000 in
theorem index_isFor (C1 C2 C3 : Value) (a : Option Addr) (cap : Nat) (xs : List Bu) (p : Nat → Bool) (w : World) (hL : Lst RBu 5 bu0 w (.slice a xs.length cap) xs) (hn : xs.length ≤ 9223372036854775807)
    (hst : ∀ (k : Nat) (wr : World) (X : Bu), k < xs.length → xs.getD k bu0 = X → X.pre.size ≤ maxLen → Below w.heap.size w wr → Calls Try.prog 46 #[buV X, C1, C2, C3] wr fun e w' => e = .returned (.bool (p k)) ∧ Below wr.heap.size wr w') :
    Calls Try.prog 67 #[.slice a xs.length cap, .func (.func 46) #[] #[C1, C2, C3]] w fun e w' => e = .returned (.int .i64 (firstI xs.length p)) ∧ Below w.heap.size w w' := by
  have HL := hide hL
  have HST := hide hst
  clear hL hst
  obtain ⟨N, hN⟩ : ∃ N, xs.length = N := ⟨_, rfl⟩
  have HN := hide hN
  rw [hN] at hn HL HST ⊢
  clear hN
  go_enter Try.func67, Try.ntmps67
  go_wp2
  go_loopw [5, 8] (fun _ i wr => ∃ k : Nat, k ≤ N ∧ i = .int .i64 k ∧ Below w.heap.size w wr ∧ ∀ j, j < k → p j = false) (fun _ i _ => N - (intOf i).toNat)
  case atStart => exact ⟨0, Nat.zero_le _, rfl, Below.refl _ _, fun j hj => absurd hj (Nat.not_lt_zero _)⟩
  case round =>
    obtain ⟨k, hk, rfl, hb, hall⟩ := hrel
    have HA := hide hall
    clear hall
    by_cases hlt : k < N
    · obtain ⟨b, o, rfl, r0⟩ := Lst.at (unhide HL) (i := k) (by rw [unhide HN]; exact hlt)
      obtain ⟨X, hX⟩ : ∃ X, xs.getD k bu0 = X := ⟨_, rfl⟩
      rw [hX] at r0
      have r := RBu.up hb r0
      have HX := hide hX
      clear hX r0
      have hI := hb
      have c0 := r.c0
      have c1 := r.c1
      have c2 := r.c2
      have c3 := r.c3
      have c4 := r.c4
      have HZ := hide r.s2
      have HI := hide hI
      clear r hI
      go_wp2_with fail
      refine (unhide HST k _ X hlt (unhide HX) (unhide HZ) (unhide HI)).mono ?_
      rintro e w1 ⟨rfl, hb1⟩
      cases hpk : p k
      · go_wp2
        go_roundw
        case rel => exact ⟨k + 1, by omega, by go_num, bl_trans hb hb1, fun j hj => if e : j < k then unhide HA j e else (show j = k by omega) ▸ hpk⟩
        case measure => simp [intOf]; omega
      · go_wp2
        go_ret
        exact ⟨ret_int (firstI_t hlt hpk (unhide HA)).symm, bl_trans hb hb1⟩
    · obtain rfl : k = N := by omega
      go_wp2
      go_ret
      exact ⟨ret_int (firstI_f (unhide HA)).symm, hb⟩
theorem contains_isFor (C1 C2 C3 : Value) (a : Option Addr) (cap : Nat) (xs : List Bu) (p : Nat → Bool) (w : World) (hL : Lst RBu 5 bu0 w (.slice a xs.length cap) xs) (hn : xs.length ≤ 9223372036854775807)
    (hst : ∀ (k : Nat) (wr : World) (X : Bu), k < xs.length → xs.getD k bu0 = X → X.pre.size ≤ maxLen → Below w.heap.size w wr → Calls Try.prog 46 #[buV X, C1, C2, C3] wr fun e w' => e = .returned (.bool (p k)) ∧ Below wr.heap.size wr w') :
    Calls Try.prog 45 #[.slice a xs.length cap, .func (.func 46) #[] #[C1, C2, C3]] w fun e w' => e = .returned (.bool (decide (0 ≤ firstI xs.length p))) ∧ Below w.heap.size w w' := by
  have HL := hide hL
  have HST := hide hst
  have HN := hide hn
  clear hL hst hn
  go_enter Try.func45, Try.ntmps45
  go_wp2_with fail
  refine (index_isFor C1 C2 C3 a cap xs p w (unhide HL) (unhide HN) (unhide HST)).mono ?_
  rintro e w1 ⟨rfl, hb⟩
  go_wp2
  go_ret
  exact ⟨rfl, hb⟩
def ageE (S : St) (X : Ve) (dr : Bool) : Bool := decide (0 ≤ firstI S.bus.length (fun i => ageP S X dr (S.bus.getD i bu0)))
theorem isFor_fre (S : St) (X : Ve) (b v u q g : Value) (ua : Option Addr) (un uc : Nat) (w : World) (hS : Sta w b v u q g S)
    (hc0 : 0 ≤ S.clock) (hc1 : S.clock ≤ 1073741824) (ht0 : 0 ≤ X.time) (ht1 : X.time ≤ 1073741824) (hk : X.ke.size ≤ maxLen) :
    Calls Try.prog 28 #[stV S b v u q g, veV X (.slice ua un uc), .func (.func 29) #[] #[]] w fun e w' => e = .returned (.bool (ageE S X false)) ∧ Below w.heap.size w w' := by
  obtain ⟨ba, bc, rfl, hb1, hb2⟩ := hS.bus.form
  unfold maxLen at hb2
  have HS := hide hS
  have HK := hide hk
  have H1 := hide (And.intro hc0 (And.intro hc1 (And.intro ht0 ht1)))
  obtain ⟨R, hR⟩ : ∃ R, ageE S X false = R := ⟨_, rfl⟩
  rw [hR]
  have HR := hide hR
  clear hS hk hc0 hc1 ht0 ht1 hR
  go_enter Try.func28, Try.ntmps28
  go_wp2_with fail
  have hw3 := bl_alloc (bl_alloc (bl1 w (.cells #[.int .i64 S.next, .int .i64 S.clock, .slice ba S.bus.length bc, v, u, q, g] 28)) (.cells (veB X (.slice ua un uc)) 49)) (.cells #[.func (.func 29) #[] #[]] 53)
  refine (contains_isFor _ _ _ ba bc S.bus (fun i => ageP S X false (S.bus.getD i bu0)) _ ((unhide HS).up hw3).bus (by omega) ?_).mono ?_
  · intro k wr Y hk hY hp hbr
    subst hY
    obtain ⟨k0, k1, k2, k3⟩ := unhide H1
    exact isFor_1_fre S X _ v u q g _ _ _ _ _ wr (scell_up hbr (by rw [World.cell?_alloc_at _ _ _ _ (by simp)]; rfl)) (((BoxV.at _ X _ _ (by simp)).up (bl1 _ _)).up hbr) (((BoxS.new w S _ v u q g _).up (bl_alloc (bl1 _ _) _)).up hbr) k0 k1 k2 k3 (unhide HK) hp
  rintro e w1 ⟨rfl, hb⟩
  go_wp2
  go_ret
  exact ⟨ret_bool (unhide HR), bl_trans hw3 hb⟩
theorem isFor_dro (S : St) (X : Ve) (b v u q g : Value) (ua : Option Addr) (un uc : Nat) (w : World) (hS : Sta w b v u q g S)
    (hc0 : 0 ≤ S.clock) (hc1 : S.clock ≤ 1073741824) (ht0 : 0 ≤ X.time) (ht1 : X.time ≤ 1073741824) (hk : X.ke.size ≤ maxLen) :
    Calls Try.prog 28 #[stV S b v u q g, veV X (.slice ua un uc), .func (.func 33) #[] #[]] w fun e w' => e = .returned (.bool (ageE S X true)) ∧ Below w.heap.size w w' := by
  obtain ⟨ba, bc, rfl, hb1, hb2⟩ := hS.bus.form
  unfold maxLen at hb2
  have HS := hide hS
  have HK := hide hk
  have H1 := hide (And.intro hc0 (And.intro hc1 (And.intro ht0 ht1)))
  obtain ⟨R, hR⟩ : ∃ R, ageE S X true = R := ⟨_, rfl⟩
  rw [hR]
  have HR := hide hR
  clear hS hk hc0 hc1 ht0 ht1 hR
  go_enter Try.func28, Try.ntmps28
  go_wp2_with fail
  have hw3 := bl_alloc (bl_alloc (bl1 w (.cells #[.int .i64 S.next, .int .i64 S.clock, .slice ba S.bus.length bc, v, u, q, g] 28)) (.cells (veB X (.slice ua un uc)) 49)) (.cells #[.func (.func 33) #[] #[]] 53)
  refine (contains_isFor _ _ _ ba bc S.bus (fun i => ageP S X true (S.bus.getD i bu0)) _ ((unhide HS).up hw3).bus (by omega) ?_).mono ?_
  · intro k wr Y hk hY hp hbr
    subst hY
    obtain ⟨k0, k1, k2, k3⟩ := unhide H1
    exact isFor_1_dro S X _ v u q g _ _ _ _ _ wr (scell_up hbr (by rw [World.cell?_alloc_at _ _ _ _ (by simp)]; rfl)) (((BoxV.at _ X _ _ (by simp)).up (bl1 _ _)).up hbr) (((BoxS.new w S _ v u q g _).up (bl_alloc (bl1 _ _) _)).up hbr) k0 k1 k2 k3 (unhide HK) hp
  rintro e w1 ⟨rfl, hb⟩
  go_wp2
  go_ret
  exact ⟨ret_bool (unhide HR), bl_trans hw3 hb⟩
end Go.Proofs.Ytkogbgeadlnnfaa
