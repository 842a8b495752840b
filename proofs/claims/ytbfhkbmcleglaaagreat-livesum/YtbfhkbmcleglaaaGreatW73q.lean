/- icehousekeep.LiveSum: the walk. -/
import Derived.Test.YtbfhkbmcleglaaaGreatTijq
import Derived.Test.YtbfhkbmcleglaaaGreatKkpq
namespace Go.Proofs.YtbfhkbmcleglaaaGreat
open Go.RowKit Go.Maps
set_option maxRecDepth 100000
set_option linter.unusedVariables false
set_option linter.unusedSimpArgs false
/-- What lives of the first k versions, each with its head. -/
def oS (l : List Ve) (k : Nat) : Int := (((l.take k).filter onB).map (fun x => x.size + 6)).sum
theorem oS_next {l : List Ve} {k : Nat} (hk : k < l.length) : oS l (k + 1) = oS l k + (if onB (l.getD k ve0) then (l.getD k ve0).size + 6 else 0) := by
  unfold oS
  rw [take_next l ve0 hk, List.filter_append, List.map_append, List.sum_append]
  congr 1
  rw [List.filter_cons]
  split <;> simp
theorem sum_setI : ∀ (l : List Int) (v : Nat) (d : Int), v < l.length → (l.set v (l.getD v 0 + d)).sum = l.sum + d
  | [], v, d, h => absurd h (Nat.not_lt_zero _)
  | a :: l, 0, d, _ => by simp only [List.set_cons_zero, List.sum_cons, List.getD_cons_zero]; omega
  | a :: l, v + 1, d, h => by
    have := sum_setI l v d (by simpa using h)
    simp only [List.set_cons_succ, List.sum_cons, List.getD_cons_succ]
    omega
theorem livL_sum {S : St} (h : stC S = true) : ∀ k, k ≤ S.ves.length → (livL S.ves k).sum = oS S.ves k
  | 0, _ => by rw [livL_0]; rfl
  | k + 1, hk => by
    have ih := livL_sum h k (by omega)
    rw [oS_next (by omega)]
    cases ho : onB (S.ves.getD k ve0)
    · rw [livL_no (by omega) ho, ih]; simp
    · have h1 := veC_on (tstC_at h (mem_getD (k := k) (by omega))) ho
      obtain ⟨v, hv⟩ := Int.eq_ofNat_of_zero_le h1.2.2.1
      rw [livL_yes (by omega) ho hv (by omega), ← livL_at S.ves k (by omega : v < 8), sum_setI _ _ _ (by rw [livL_len]; omega), ih]
      simp
theorem oS_bd {S : St} (h : stC S = true) : ∀ k, k ≤ S.ves.length → 0 ≤ oS S.ves k ∧ oS S.ves k ≤ 606 * (k : Int)
  | 0, _ => by simp [oS]
  | k + 1, hk => by
    have ih := oS_bd h k (by omega)
    rw [oS_next (by omega)]
    split
    · rename_i ho
      have h1 := veC_on (tstC_at h (mem_getD (k := k) (by omega))) ho
      push_cast
      omega
    · push_cast; omega
theorem onB_ge {S : St} {x : Ve} (h : veC S x = true) : onB x = decide (2 ≤ x.tier) := by
  unfold onB
  unfold veC at h
  simp only [Bool.and_eq_true] at h
  obtain ⟨_, h⟩ := h
  split at h
  · simp only [Bool.and_eq_true, beq_iff_eq] at h
    have := h.1.1.1.2
    rw [this]; decide
  · simp only [Bool.and_eq_true] at h
    obtain ⟨_, h⟩ := h
    split at h
    · rename_i e; rw [e]; decide
    · split at h
      · rename_i e; rw [e]; decide
      · split at h
        · rename_i e; rw [e]; decide
        · cases h
theorem take_sum (l : List Int) {k : Nat} (hk : k < l.length) : (l.take (k + 1)).sum = (l.take k).sum + l.getD k 0 := by
  rw [take_next l 0 hk, List.sum_append]; simp
theorem sum_bd {l : List Int} {b : Int} (h : ∀ i, i < l.length → 0 ≤ l.getD i 0 ∧ l.getD i 0 ≤ b) : ∀ k, k ≤ l.length → 0 ≤ (l.take k).sum ∧ (l.take k).sum ≤ b * (k : Int)
  | 0, _ => by simp
  | k + 1, hk => by
    have ih := sum_bd h k (by omega)
    have h1 := h k (by omega)
    rw [take_sum l (by omega)]
    push_cast
    rw [Int.mul_add, Int.mul_one]
    omega
set_option maxHeartbeats 4000000 in
theorem liveSum_walk (lv : Value) (l : List Rw) (w : World) (hl : Raws w lv l) :
    Calls Tryz.prog 19 #[lv] w fun e w' => e = .returned (.bool true) ∧ Below w.heap.size w w' := by
  obtain ⟨la, lc, rfl, hl1, hl2⟩ := hl.form
  unfold maxLen at hl2
  have HL := hide hl
  clear hl
  obtain ⟨S, hSS⟩ : ∃ S, staL l 40 = S := ⟨_, rfl⟩
  obtain ⟨n, hnn⟩ : ∃ n, cntN l (rnd l 40) = n := ⟨_, rfl⟩
  have hn2 : 2 ≤ n := by rw [← hnn]; exact cntN_two l _ (by unfold rnd; omega)
  have hok : stC S = true := by rw [← hSS]; exact staL_ok l 40
  have hc0 := stE_t hok
  have HC := hide hc0
  have hlen := tstC_len hok
  have hlv : livS S = livL S.ves S.ves.length := livS_t hok
  have hel : ∀ i, i < (livS S).length → 0 ≤ (livS S).getD i 0 ∧ (livS S).getD i 0 ≤ 606 * 40 := fun i hi => by
    rw [hlv] at hi ⊢
    rw [livL_len] at hi
    rw [livL_at _ _ hi]
    have := livK_bd hok S.ves.length (Nat.le_refl _) i
    omega
  have hl8 : (livS S).length = 8 := by rw [hlv]; exact livL_len _ _
  have hsum : (livS S).sum = oS S.ves S.ves.length := by rw [hlv]; exact livL_sum hok _ (Nat.le_refl _)
  obtain ⟨L, hL⟩ : ∃ L, livS S = L := ⟨_, rfl⟩
  rw [hL] at hel hl8 hsum
  have HEL := hide hel
  have HSB := hide (sum_bd hel)
  have HSUM := hide hsum
  have HL0 := hide hL
  have HOB := hide (oS_bd hok)
  have HGE : Hid (∀ k, k < S.ves.length → onB (S.ves.getD k ve0) = decide (2 ≤ (S.ves.getD k ve0).tier)) := fun k hk => onB_ge (tstC_at hok (mem_getD hk))
  have HVZ : Hid (∀ k, k < S.ves.length → 0 ≤ (S.ves.getD k ve0).size ∧ (S.ves.getD k ve0).size ≤ 600) := fun k hk => veC_size (tstC_at hok (mem_getD hk))
  have HL8 := hide hl8
  clear hc0 hel hl8 hsum hL hlv
  go_enter Tryz.func19, Tryz.ntmps19
  go_wp2_with fail
  refine (kSt _ l 40 _ _ (unhide HL) rfl (by decide)).mono ?_
  rintro e w1 ⟨ba, bc, va, vc, ua, uc, qa, qc, ga, gc, oa, oc, rfl, hS, hb1⟩
  rw [hSS] at hS ⊢
  rw [hnn]
  have HSS := hide hSS
  have HNN := hide hnn
  clear hSS hnn
  go_upto_region 2 with fail
  generalize hWW : w1.alloc _ = W2
  have h2 : BoxS W2 w1.heap.size S (.slice ba S.bus.length bc) (.slice va S.ves.length vc) (.slice ua S.ups.length uc) (.slice qa S.que.length qc) (.slice ga S.gone.length gc) ∧ Below w1.heap.size w1 W2 := by
    rw [← hWW]
    exact ⟨BoxS.new _ _ _ _ _ _ _ _, bl1 _ _⟩
  clear hWW
  obtain ⟨hX, hb2⟩ := h2
  have hw2 := bl_trans hb1 hb2
  have HS := hide (hS.up hb2)
  have HX := hide hX
  clear hS hb1 hb2 hX
  have x0 := (unhide HX).c0
  have x1 := (unhide HX).c1
  have x2 := (unhide HX).c2
  have x3 := (unhide HX).c3
  have x4 := (unhide HX).c4
  have x5 := (unhide HX).c5
  have x6 := (unhide HX).c6
  go_wp2_with fail
  refine (tLive_any S _ _ _ _ _ _ (unhide HS)).mono ?_
  rintro e w3 ⟨o, rfl, hO, hb3⟩
  rw [unhide HL0] at hO
  rw [unhide HC]
  have HX3 := hide ((unhide HX).up hb3)
  have HS3 := hide ((unhide HS).up hb3)
  have hw3 := bl_trans hw2 hb3
  have hl3 := (unhide HX3).lt
  have HI := hide (hO.ints (fun x hx => by
    obtain ⟨k, hk, rfl⟩ := mem_at (d := 0) hx
    have := unhide HEL k hk
    exact i64_wf (by omega) (by omega)))
  obtain ⟨ya, yc, rfl, hy1, hy2⟩ := (unhide HI).form
  rw [unhide HL8] at HI hy1 ⊢
  unfold maxLen at hy2
  have HI : Hid (Ints w3 (.slice ya 8 yc) L) := unhide HI
  clear x0 x1 x2 x3 x4 x5 x6 hb3 hO
  go_wp2
  go_loopw [7, 9, 24] (fun s _ i wr => ∃ k : Nat, k ≤ 8 ∧ i = .int .i64 k ∧ s = .int .i64 (L.take k).sum ∧ w3 = wr) (fun _ _ i _ => 8 - (intOf i).toNat)
  case atStart => exact ⟨0, Nat.zero_le _, rfl, by simp, rfl⟩
  case round =>
    obtain ⟨k, hk, rfl, rfl, rfl⟩ := hrel
    by_cases hlt : k < 8
    · obtain ⟨b8, o8, e8, r0⟩ := Lst.at (unhide HI) (i := k) (by rw [unhide HL8]; exact hlt)
      subst e8
      rw [Nat.mul_one] at r0
      have c0 := r0.1
      have hk1 := unhide HSB k (by rw [unhide HL8]; omega)
      have hk2 := unhide HEL k (by rw [unhide HL8]; omega)
      have HTS := hide (take_sum L (k := k) (by rw [unhide HL8]; exact hlt))
      obtain ⟨A, hA⟩ : ∃ A, (L.take k).sum = A := ⟨_, rfl⟩
      obtain ⟨X, hX⟩ : ∃ X, L.getD k 0 = X := ⟨_, rfl⟩
      rw [hA] at hk1 HTS ⊢
      rw [hX] at c0 hk2 HTS
      clear hA hX r0
      go_wp2
      go_roundw
      case rel => exact ⟨k + 1, by omega, by go_num, by rw [unhide HTS], by first | rfl | trivial⟩
      case measure => (simp [intOf] <;> omega)
    · obtain rfl : k = 8 := by omega
      have e8 : (L.take 8).sum = oS S.ves S.ves.length := by rw [← unhide HSUM, List.take_of_length_le (by rw [unhide HL8]; exact Nat.le_refl _)]
      rw [e8]
      have hob := unhide HOB S.ves.length (Nat.le_refl _)
      obtain ⟨Q, hQ⟩ : ∃ Q, oS S.ves S.ves.length = Q := ⟨_, rfl⟩
      rw [hQ] at hob ⊢
      have HQ := hide hQ
      have x3 := (unhide HX3).c3
      obtain ⟨l9, hl9⟩ : ∃ x, S.ves = x := ⟨_, rfl⟩
      rw [hl9] at x3 HQ hlen hob
      have HV := hide (unhide HS3).ves
      rw [hl9] at HV HOB HGE HVZ
      obtain ⟨N, hN⟩ : ∃ N, l9.length = N := ⟨_, rfl⟩
      rw [hN] at x3 HQ HV hlen HOB HGE HVZ hob
      have HN := hide hN
      clear e8 hQ hl9 hN hlt hk
      go_wp2
      go_loopw [7, 11, 35] (fun s _ i wr => ∃ k : Nat, k ≤ N ∧ i = .int .i64 k ∧ s = .int .i64 (Q - oS l9 k) ∧ Below w3.heap.size w3 wr) (fun _ _ i _ => N - (intOf i).toNat)
      case atStart => exact ⟨0, Nat.zero_le _, rfl, by simp [oS], Below.refl _ _⟩
      case round =>
        clear x3
        obtain ⟨k, hk, rfl, rfl, hbr⟩ := hrel
        by_cases hlt : k < N
        · have hlt' : k < l9.length := by rw [unhide HN]; exact hlt
          obtain ⟨b8, o8, e8, r0⟩ := Lst.at (unhide HV) hlt'
          subst e8
          have hge := unhide HGE k hlt
          have hvz := unhide HVZ k hlt
          have hob1 := unhide HOB k hk
          have HNX := hide (oS_next hlt')
          rw [hge] at HNX
          have r := RVe.up hbr r0
          obtain ⟨X, hX⟩ : ∃ X, l9.getD k ve0 = X := ⟨_, rfl⟩
          rw [hX] at r hge hvz HNX
          obtain ⟨A, hA⟩ : ∃ A, oS l9 k = A := ⟨_, rfl⟩
          rw [hA] at HNX hob1 ⊢
          obtain ⟨U, hu, hI8⟩ := r.c8
          obtain ⟨ua', uc', rfl, _⟩ := hI8.form
          have c0 := r.c0
          have c1 := r.c1
          have c2 := r.c2
          have c3 := r.c3
          have c4 := r.c4
          have c5 := r.c5
          have c6 := r.c6
          have c7 := r.c7
          have c9 := r.c9
          have c10 := r.c10
          have c11 := r.c11
          clear r r0 hI8 hX hA hge
          by_cases ht : 2 ≤ X.tier
          · have hd : decide (2 ≤ X.tier) = true := by simpa using ht
            have HN2 : Hid (oS l9 (k + 1) = A + (X.size + 6)) := by show _ = _; rw [unhide HNX, hd]; rfl
            clear hd
            go_wp2
            go_roundw
            case rel => exact ⟨k + 1, by omega, by go_num, by rw [unhide HN2]; go_num, bl_trans hbr (bl1 _ _)⟩
            case measure => (simp [intOf] <;> omega)
          · have hd : decide (2 ≤ X.tier) = false := by simpa using ht
            have HN2 : Hid (oS l9 (k + 1) = A) := by show _ = _; rw [unhide HNX, hd]; exact Int.add_zero _
            clear hd
            go_wp2
            go_roundw
            case rel => exact ⟨k + 1, by omega, by go_num, by rw [unhide HN2], bl_trans hbr (bl1 _ _)⟩
            case measure => (simp [intOf] <;> omega)
        · obtain rfl : k = N := by omega
          have e9 : Q - oS l9 k = 0 := by rw [unhide HQ]; exact Int.sub_self _
          rw [e9]
          clear e9
          go_wp2
          go_ret
          exact ⟨rfl, bl_trans hw3 hbr⟩
end Go.Proofs.YtbfhkbmcleglaaaGreat
