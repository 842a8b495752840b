/- The document's FreezeOf, DropOf, ChillOf. -/
import Derived.Test.YtkogbgeadlnnfaaTig
import Derived.Test.YtkogbgeadlnnfaaRfc
namespace Go.Proofs.Ytkogbgeadlnnfaa
open Go.RowKit Go.Maps
set_option maxRecDepth 100000
set_option linter.unusedVariables false
set_option linter.unusedSimpArgs false
def frzR (S : St) (X : Ve) : Bool := X.tier == 1 && ageR S X false
def drpR (S : St) (X : Ve) : Bool := ageR S X true
theorem frz_eq {S : St} (h : stC S = true) : idsL S (frzP S) = idsL S (frzR S) := by
  rw [idsL_t h, idsL_t h]
  exact idsK_congr _ fun x hx => by unfold frzP frzR; rw [age_eq h hx]
theorem drp_eq {S : St} (h : stC S = true) : idsL S (drpP S) = idsL S (drpR S) := by
  rw [idsL_t h, idsL_t h]
  exact idsK_congr _ fun x hx => by unfold drpP drpR; rw [age_eq h hx]
set_option maxHeartbeats 2000000 in
theorem freezeOf_any (S : St) (b v u q g : Value) (w : World) (hS : Sta w b v u q g S) :
    Calls Try.prog 11 #[stV S b v u q g] w fun e w' => ∃ o, e = .returned (.tuple #[o, .int .i64 (stE S)]) ∧ OwI w' w.heap.size o (idsL S (frzR S)) ∧ Below w.heap.size w w' := by
  obtain ⟨va, vc, rfl, hv1, hv2⟩ := hS.ves.form
  unfold maxLen at hv2
  obtain ⟨i0, hi, hz0, hz1, hz2⟩ := info_parts infoI
  have HS := hide hS
  clear hS
  obtain ⟨E, hE⟩ : ∃ E, stE S = E := ⟨_, rfl⟩
  obtain ⟨L, hL⟩ : ∃ L, idsL S (frzR S) = L := ⟨_, rfl⟩
  rw [hE, hL]
  have HE := hide hE
  have HL := hide hL
  clear hE hL
  go_enter Try.func11, Try.ntmps11
  go_wp2_with fail
  refine (stateMay_any S b _ u q g _ ((unhide HS).up (bl1 _ _))).mono ?_
  rintro e w1 ⟨rfl, hb⟩
  have hBS := (BoxS.new w S b (.slice va S.ves.length vc) u q g 28).up hb
  have hw1 := bl_trans (bl1 w _) hb
  have x0 := hBS.c0
  have x1 := hBS.c1
  have x2 := hBS.c2
  have x3 := hBS.c3
  have x4 := hBS.c4
  have x5 := hBS.c5
  have x6 := hBS.c6
  have hl1 := hBS.lt
  have HBS := hide hBS
  clear hb hBS
  rw [st_eq]
  cases hc : stC S
  · have hf : E = 9 := by rw [← unhide HE]; exact stE_f hc
    have HL' : Hid (L = []) := by show _ = _; rw [← unhide HL]; exact idsL_f hc
    clear hc
    subst hf
    go_wp2
    go_ret2
    exact ⟨_, rfl, by rw [unhide HL']; exact OwI.nil _ _, hw1⟩
  have hf : E = 0 := by rw [← unhide HE]; exact stE_t hc
  have hlen := tstC_len hc
  have HC := hide hc
  have HL' : Hid (L = idsK S.ves (frzR S) S.ves.length) := by show _ = _; rw [← unhide HL]; exact idsL_t hc
  clear hc HE HL
  subst hf
  obtain ⟨p, hp⟩ : ∃ p, frzR S = p := ⟨_, rfl⟩
  rw [hp] at HL'
  have HP := hide hp
  clear hp
  have HV := hide ((unhide HS).up hw1).ves
  obtain ⟨l, hl⟩ : ∃ l, S.ves = l := ⟨_, rfl⟩
  have HMEM : Hid (∀ k, k < l.length → l.getD k ve0 ∈ S.ves) := by intro k hk; rw [hl]; exact mem_getD hk
  rw [hl] at hlen hv1 HV HL' x3 HBS HS ⊢
  clear hl
  obtain ⟨N, hN⟩ : ∃ N, l.length = N := ⟨_, rfl⟩
  rw [hN] at hlen hv1 HV HL' x3 HBS HMEM HS ⊢
  have HN := hide hN
  clear hN x0 x1 x2 x4 x5 x6
  go_wp2
  go_loopw [4, 5] (fun o i wr => ∃ k : Nat, k ≤ N ∧ i = .int .i64 k ∧ Below w1.heap.size w1 wr ∧ OwI wr w1.heap.size o (idsK l p k)) (fun _ i _ => N - (intOf i).toNat)
  case atStart => exact ⟨0, Nat.zero_le _, rfl, Below.refl _ _, OwI.nil _ _⟩
  case round =>
    obtain ⟨k, hk, rfl, hbq, hO⟩ := hrel
    have HOQ := hide hO
    clear hO
    have hBS := (unhide HBS).up hbq
    have y0 := hBS.c0
    have y1 := hBS.c1
    have y2 := hBS.c2
    have y3 := hBS.c3
    have y4 := hBS.c4
    have y5 := hBS.c5
    have y6 := hBS.c6
    have hlr := hBS.lt
    clear hBS x3
    by_cases hlt : k < N
    · have hlt' : k < l.length := by rw [unhide HN]; exact hlt
      obtain ⟨b8, o8, e8, r0⟩ := Lst.at (unhide HV) hlt'
      obtain ⟨X, hX⟩ : ∃ X, l.getD k ve0 = X := ⟨_, rfl⟩
      have HM : Hid (X ∈ S.ves) := by show _ ∈ _; rw [← hX]; exact unhide HMEM k hlt
      rw [hX] at r0
      have HX := hide hX
      subst e8
      have r := RVe.up hbq r0
      obtain ⟨U, hu, hI⟩ := r.c8
      obtain ⟨ua, uc, rfl, _⟩ := hI.form
      have c0 := r.c0
      have c1 := r.c1
      have c2 := r.c2
      have c3 := r.c3
      have c4 := r.c4
      have c5 := r.c5
      have c6 := r.c6
      have c7 := r.c7
      have c9 := r.c9
      have c10 := r.c10
      have c11 := r.c11
      have HS2 := hide r.s2
      clear r r0 hI hX
      have hWq := hbq.size
      have hln := idsK_len l p k
      have HKN : Hid (idsK l p k = idsK l p k) := rfl
      obtain ⟨T, hT⟩ : ∃ T, frzR S X = T := ⟨_, rfl⟩
      have HZN : Hid (T = false → idsK l p (k + 1) = idsK l p k) := fun e => idsK_no hlt' (by rw [unhide HX, ← unhide HP, hT]; exact e)
      have HZY : Hid (T = true → idsK l p (k + 1) = idsK l p k ++ [X.id]) := fun e => by rw [idsK_yes hlt' (by rw [unhide HX, ← unhide HP, hT]; exact e), unhide HX]
      have HAG0 : Hid (((X.tier == 1) && ageR S X false) = T) := hT
      clear hT
      go_upto_region 7 with fail
      have hne := Later.one wr
      have l0 := fun d : Later wr => d.cell y0
      have l1 := fun d : Later wr => d.cell y1
      have l2 := fun d : Later wr => d.cell y2
      have l3 := fun d : Later wr => d.cell y3
      have l4 := fun d : Later wr => d.cell y4
      have l5 := fun d : Later wr => d.cell y5
      have l6 := fun d : Later wr => d.cell y6
      have m0 := fun d : Later wr => d.cell c0
      have m1 := fun d : Later wr => d.cell c1
      have m2 := fun d : Later wr => d.cell c2
      have m3 := fun d : Later wr => d.cell c3
      have m4 := fun d : Later wr => d.cell c4
      have m5 := fun d : Later wr => d.cell c5
      have m6 := fun d : Later wr => d.cell c6
      have m7 := fun d : Later wr => d.cell c7
      have m8 := fun d : Later wr => d.cell hu
      have m9 := fun d : Later wr => d.cell c9
      have m10 := fun d : Later wr => d.cell c10
      have m11 := fun d : Later wr => d.cell c11
      refine wp_region_later (by kernel_rfl) (by kernel_rfl) ?_
      cases t : (X.tier == 1)
      · rw [t] at HAG0
        have HT : Hid (T = false) := (unhide HAG0).symm
        clear HAG0
        repeat (go_big_quiet_step (fail))
        refine wpQuiet_nil ?_
        intro w9 hw'
        obtain ⟨⟨w2, hb2⟩, hw''⟩ := hw'
        subst hw''
        have HZ : Hid (idsK l p (k + 1) = idsK l p k) := unhide HZN (unhide HT)
        have hbn := bl_trans hbq hb2
        have HON := hide (oi_up (unhide HOQ) hb2)
        clear hne l0 l1 l2 l3 l4 l5 l6 m0 m1 m2 m3 m4 m5 m6 m7 m8 m9 m10 m11 y0 y1 y2 y3 y4 y5 y6 c0 c1 c2 c3 c4 c5 c6 c7 c9 c10 c11 hu HOQ
        go_wp2
        go_roundw
        case rel => exact ⟨k + 1, by omega, by go_num, hbn, by rw [unhide HZ]; exact unhide HON⟩
        case measure => (simp [intOf] <;> omega)
      · rw [t] at HAG0
        have HAG : Hid (ageR S X false = T) := unhide HAG0
        clear HAG0
        repeat (go_big_quiet_step ((go_at_call 31; exact Calls.later (aged_any S X b _ u q g ua _ uc false _ (((unhide HS).up hw1).up (bl_trans hbq (Later.below _))) (unhide HC) (unhide HM) (unhide HS2)))))
        rw [unhide HAG]
        cases T
        · have HT : Hid (false = false) := rfl
          refine wpQuiet_nil ?_
          intro w9 hw'
          obtain ⟨⟨w2, hb2⟩, hw''⟩ := hw'
          subst hw''
          have HZ : Hid (idsK l p (k + 1) = idsK l p k) := unhide HZN (unhide HT)
          have hbn := bl_trans hbq hb2
          have HON := hide (oi_up (unhide HOQ) hb2)
          clear hne l0 l1 l2 l3 l4 l5 l6 m0 m1 m2 m3 m4 m5 m6 m7 m8 m9 m10 m11 y0 y1 y2 y3 y4 y5 y6 c0 c1 c2 c3 c4 c5 c6 c7 c9 c10 c11 hu HOQ
          go_wp2
          go_roundw
          case rel => exact ⟨k + 1, by omega, by go_num, hbn, by rw [unhide HZ]; exact unhide HON⟩
          case measure => (simp [intOf] <;> omega)
        · have HT : Hid (true = true) := rfl
          refine wpQuiet_nil ?_
          intro w9 hw'
          obtain ⟨⟨w2, hb2⟩, hw''⟩ := hw'
          subst hw''
          have HZ : Hid (idsK l p (k + 1) = idsK l p k ++ [X.id]) := unhide HZY (unhide HT)
          have hbn := bl_trans hbq hb2
          have HON := hide (oi_up (unhide HOQ) hb2)
          have z3 := scell_up hb2 y3
          have zc := scell_up hb2 c0
          have hlw := World.block_lt_of_cell? _ _ z3
          have hlw2 := World.block_lt_of_cell? _ _ zc
          simp at hlw hlw2
          have hWn := hbn.size
          clear hne l0 l1 l2 l3 l4 l5 l6 m0 m1 m2 m3 m4 m5 m6 m7 m8 m9 m10 m11 y0 y1 y2 y3 y4 y5 y6 c0 c1 c2 c3 c4 c5 c6 c7 c9 c10 c11 hu HOQ
          obtain ⟨Q, hQ⟩ : ∃ Q, idsK l p k = Q := ⟨_, rfl⟩
          rw [hQ] at HON HZ hln
          clear hQ HZN HZY HKN
          go_wp2_with (first
            | (at_builtin; refine wpList_append_own _ rfl _ _ 26 rfl w1.heap.size 3 i0 (.int .i64 0) 1 8 Try.underlying26 hi hz0 hz1 hz2 rfl (by decide) _ _ _ rfl ((unhide HON).alloc _) ⟨w9.heap.size, 0, none⟩ 1 1 [.int .i64 X.id] rfl rfl (cell_one_new _ _ _) (oneI _) (by unfold maxLen; omega) (by omega) (by simp; omega) ?_; intro v' w1' hown' hgrow hnil)
            | go_in)
          have hb1 := (bl_alloc hbn _).grown hgrow (bl_alloc hbn _).size (fun j hj => own_blk (unhide HON) j hj)
          rw [i64s_snoc] at hown'
          clear hgrow hnil
          first
            | exact ⟨⟨k + 1, by omega, by go_num, hb1, by rw [unhide HZ]; unfold OwI; rw [List.length_append]; exact hown'⟩, by simp [intOf]; omega⟩
            | (go_roundw
               case rel => exact ⟨k + 1, by omega, by go_num, hb1, by rw [unhide HZ]; unfold OwI; rw [List.length_append]; exact hown'⟩
               case measure => (simp [intOf] <;> omega))
    · obtain rfl : k = N := by omega
      go_wp2
      go_ret2
      exact ⟨_, rfl, by rw [unhide HL']; exact own_lo (unhide HOQ) hw1.size, bl_trans hw1 hbq⟩
set_option maxHeartbeats 2000000 in
theorem dropOf_any (S : St) (b v u q g : Value) (w : World) (hS : Sta w b v u q g S) :
    Calls Try.prog 14 #[stV S b v u q g] w fun e w' => ∃ o, e = .returned (.tuple #[o, .int .i64 (stE S)]) ∧ OwI w' w.heap.size o (idsL S (drpR S)) ∧ Below w.heap.size w w' := by
  obtain ⟨va, vc, rfl, hv1, hv2⟩ := hS.ves.form
  unfold maxLen at hv2
  obtain ⟨i0, hi, hz0, hz1, hz2⟩ := info_parts infoI
  have HS := hide hS
  clear hS
  obtain ⟨E, hE⟩ : ∃ E, stE S = E := ⟨_, rfl⟩
  obtain ⟨L, hL⟩ : ∃ L, idsL S (drpR S) = L := ⟨_, rfl⟩
  rw [hE, hL]
  have HE := hide hE
  have HL := hide hL
  clear hE hL
  go_enter Try.func14, Try.ntmps14
  go_wp2_with fail
  refine (stateMay_any S b _ u q g _ ((unhide HS).up (bl1 _ _))).mono ?_
  rintro e w1 ⟨rfl, hb⟩
  have hBS := (BoxS.new w S b (.slice va S.ves.length vc) u q g 28).up hb
  have hw1 := bl_trans (bl1 w _) hb
  have x0 := hBS.c0
  have x1 := hBS.c1
  have x2 := hBS.c2
  have x3 := hBS.c3
  have x4 := hBS.c4
  have x5 := hBS.c5
  have x6 := hBS.c6
  have hl1 := hBS.lt
  have HBS := hide hBS
  clear hb hBS
  rw [st_eq]
  cases hc : stC S
  · have hf : E = 9 := by rw [← unhide HE]; exact stE_f hc
    have HL' : Hid (L = []) := by show _ = _; rw [← unhide HL]; exact idsL_f hc
    clear hc
    subst hf
    go_wp2
    go_ret2
    exact ⟨_, rfl, by rw [unhide HL']; exact OwI.nil _ _, hw1⟩
  have hf : E = 0 := by rw [← unhide HE]; exact stE_t hc
  have hlen := tstC_len hc
  have HC := hide hc
  have HL' : Hid (L = idsK S.ves (drpR S) S.ves.length) := by show _ = _; rw [← unhide HL]; exact idsL_t hc
  clear hc HE HL
  subst hf
  obtain ⟨p, hp⟩ : ∃ p, drpR S = p := ⟨_, rfl⟩
  rw [hp] at HL'
  have HP := hide hp
  clear hp
  have HV := hide ((unhide HS).up hw1).ves
  obtain ⟨l, hl⟩ : ∃ l, S.ves = l := ⟨_, rfl⟩
  have HMEM : Hid (∀ k, k < l.length → l.getD k ve0 ∈ S.ves) := by intro k hk; rw [hl]; exact mem_getD hk
  rw [hl] at hlen hv1 HV HL' x3 HBS HS ⊢
  clear hl
  obtain ⟨N, hN⟩ : ∃ N, l.length = N := ⟨_, rfl⟩
  rw [hN] at hlen hv1 HV HL' x3 HBS HMEM HS ⊢
  have HN := hide hN
  clear hN x0 x1 x2 x4 x5 x6
  go_wp2
  go_loopw [4, 5] (fun o i wr => ∃ k : Nat, k ≤ N ∧ i = .int .i64 k ∧ Below w1.heap.size w1 wr ∧ OwI wr w1.heap.size o (idsK l p k)) (fun _ i _ => N - (intOf i).toNat)
  case atStart => exact ⟨0, Nat.zero_le _, rfl, Below.refl _ _, OwI.nil _ _⟩
  case round =>
    obtain ⟨k, hk, rfl, hbq, hO⟩ := hrel
    have HOQ := hide hO
    clear hO
    have hBS := (unhide HBS).up hbq
    have y0 := hBS.c0
    have y1 := hBS.c1
    have y2 := hBS.c2
    have y3 := hBS.c3
    have y4 := hBS.c4
    have y5 := hBS.c5
    have y6 := hBS.c6
    have hlr := hBS.lt
    clear hBS x3
    by_cases hlt : k < N
    · have hlt' : k < l.length := by rw [unhide HN]; exact hlt
      obtain ⟨b8, o8, e8, r0⟩ := Lst.at (unhide HV) hlt'
      obtain ⟨X, hX⟩ : ∃ X, l.getD k ve0 = X := ⟨_, rfl⟩
      have HM : Hid (X ∈ S.ves) := by show _ ∈ _; rw [← hX]; exact unhide HMEM k hlt
      rw [hX] at r0
      have HX := hide hX
      subst e8
      have r := RVe.up hbq r0
      obtain ⟨U, hu, hI⟩ := r.c8
      obtain ⟨ua, uc, rfl, _⟩ := hI.form
      have c0 := r.c0
      have c1 := r.c1
      have c2 := r.c2
      have c3 := r.c3
      have c4 := r.c4
      have c5 := r.c5
      have c6 := r.c6
      have c7 := r.c7
      have c9 := r.c9
      have c10 := r.c10
      have c11 := r.c11
      have HS2 := hide r.s2
      clear r r0 hI hX
      have hWq := hbq.size
      have hln := idsK_len l p k
      have HKN : Hid (idsK l p k = idsK l p k) := rfl
      obtain ⟨T, hT⟩ : ∃ T, drpR S X = T := ⟨_, rfl⟩
      have HZN : Hid (T = false → idsK l p (k + 1) = idsK l p k) := fun e => idsK_no hlt' (by rw [unhide HX, ← unhide HP, hT]; exact e)
      have HZY : Hid (T = true → idsK l p (k + 1) = idsK l p k ++ [X.id]) := fun e => by rw [idsK_yes hlt' (by rw [unhide HX, ← unhide HP, hT]; exact e), unhide HX]
      have HAG : Hid (ageR S X true = T) := hT
      clear hT
      go_upto_region 7 with fail
      have hne := Later.one wr
      have l0 := fun d : Later wr => d.cell y0
      have l1 := fun d : Later wr => d.cell y1
      have l2 := fun d : Later wr => d.cell y2
      have l3 := fun d : Later wr => d.cell y3
      have l4 := fun d : Later wr => d.cell y4
      have l5 := fun d : Later wr => d.cell y5
      have l6 := fun d : Later wr => d.cell y6
      have m0 := fun d : Later wr => d.cell c0
      have m1 := fun d : Later wr => d.cell c1
      have m2 := fun d : Later wr => d.cell c2
      have m3 := fun d : Later wr => d.cell c3
      have m4 := fun d : Later wr => d.cell c4
      have m5 := fun d : Later wr => d.cell c5
      have m6 := fun d : Later wr => d.cell c6
      have m7 := fun d : Later wr => d.cell c7
      have m8 := fun d : Later wr => d.cell hu
      have m9 := fun d : Later wr => d.cell c9
      have m10 := fun d : Later wr => d.cell c10
      have m11 := fun d : Later wr => d.cell c11
      refine wp_region_later (by kernel_rfl) (by kernel_rfl) ?_
      repeat (go_big_quiet_step ((go_at_call 31; exact Calls.later (aged_any S X b _ u q g ua _ uc true _ (((unhide HS).up hw1).up (bl_trans hbq (Later.below _))) (unhide HC) (unhide HM) (unhide HS2)))))
      rw [unhide HAG]
      cases T
      · have HT : Hid (false = false) := rfl
        refine wpQuiet_nil ?_
        intro w9 hw'
        obtain ⟨⟨w2, hb2⟩, hw''⟩ := hw'
        subst hw''
        have HZ : Hid (idsK l p (k + 1) = idsK l p k) := unhide HZN (unhide HT)
        have hbn := bl_trans hbq hb2
        have HON := hide (oi_up (unhide HOQ) hb2)
        clear hne l0 l1 l2 l3 l4 l5 l6 m0 m1 m2 m3 m4 m5 m6 m7 m8 m9 m10 m11 y0 y1 y2 y3 y4 y5 y6 c0 c1 c2 c3 c4 c5 c6 c7 c9 c10 c11 hu HOQ
        go_wp2
        go_roundw
        case rel => exact ⟨k + 1, by omega, by go_num, hbn, by rw [unhide HZ]; exact unhide HON⟩
        case measure => (simp [intOf] <;> omega)
      · have HT : Hid (true = true) := rfl
        refine wpQuiet_nil ?_
        intro w9 hw'
        obtain ⟨⟨w2, hb2⟩, hw''⟩ := hw'
        subst hw''
        have HZ : Hid (idsK l p (k + 1) = idsK l p k ++ [X.id]) := unhide HZY (unhide HT)
        have hbn := bl_trans hbq hb2
        have HON := hide (oi_up (unhide HOQ) hb2)
        have z3 := scell_up hb2 y3
        have zc := scell_up hb2 c0
        have hlw := World.block_lt_of_cell? _ _ z3
        have hlw2 := World.block_lt_of_cell? _ _ zc
        simp at hlw hlw2
        have hWn := hbn.size
        clear hne l0 l1 l2 l3 l4 l5 l6 m0 m1 m2 m3 m4 m5 m6 m7 m8 m9 m10 m11 y0 y1 y2 y3 y4 y5 y6 c0 c1 c2 c3 c4 c5 c6 c7 c9 c10 c11 hu HOQ
        obtain ⟨Q, hQ⟩ : ∃ Q, idsK l p k = Q := ⟨_, rfl⟩
        rw [hQ] at HON HZ hln
        clear hQ HZN HZY HKN
        go_wp2_with (first
          | (at_builtin; refine wpList_append_own _ rfl _ _ 26 rfl w1.heap.size 3 i0 (.int .i64 0) 1 8 Try.underlying26 hi hz0 hz1 hz2 rfl (by decide) _ _ _ rfl ((unhide HON).alloc _) ⟨w9.heap.size, 0, none⟩ 1 1 [.int .i64 X.id] rfl rfl (cell_one_new _ _ _) (oneI _) (by unfold maxLen; omega) (by omega) (by simp; omega) ?_; intro v' w1' hown' hgrow hnil)
          | go_in)
        have hb1 := (bl_alloc hbn _).grown hgrow (bl_alloc hbn _).size (fun j hj => own_blk (unhide HON) j hj)
        rw [i64s_snoc] at hown'
        clear hgrow hnil
        first
          | exact ⟨⟨k + 1, by omega, by go_num, hb1, by rw [unhide HZ]; unfold OwI; rw [List.length_append]; exact hown'⟩, by simp [intOf]; omega⟩
          | (go_roundw
             case rel => exact ⟨k + 1, by omega, by go_num, hb1, by rw [unhide HZ]; unfold OwI; rw [List.length_append]; exact hown'⟩
             case measure => (simp [intOf] <;> omega))
    · obtain rfl : k = N := by omega
      go_wp2
      go_ret2
      exact ⟨_, rfl, by rw [unhide HL']; exact own_lo (unhide HOQ) hw1.size, bl_trans hw1 hbq⟩
set_option maxHeartbeats 2000000 in
theorem chillOf_any (S : St) (b v u q g : Value) (w : World) (hS : Sta w b v u q g S) :
    Calls Try.prog 16 #[stV S b v u q g] w fun e w' => ∃ o, e = .returned (.tuple #[o, .int .i64 (stE S)]) ∧ OwI w' w.heap.size o (idsL S (chlP S)) ∧ Below w.heap.size w w' := by
  obtain ⟨va, vc, rfl, hv1, hv2⟩ := hS.ves.form
  unfold maxLen at hv2
  obtain ⟨i0, hi, hz0, hz1, hz2⟩ := info_parts infoI
  have HS := hide hS
  clear hS
  obtain ⟨E, hE⟩ : ∃ E, stE S = E := ⟨_, rfl⟩
  obtain ⟨L, hL⟩ : ∃ L, idsL S (chlP S) = L := ⟨_, rfl⟩
  rw [hE, hL]
  have HE := hide hE
  have HL := hide hL
  clear hE hL
  go_enter Try.func16, Try.ntmps16
  go_wp2_with fail
  refine (stateMay_any S b _ u q g _ ((unhide HS).up (bl1 _ _))).mono ?_
  rintro e w1 ⟨rfl, hb⟩
  have hBS := (BoxS.new w S b (.slice va S.ves.length vc) u q g 28).up hb
  have hw1 := bl_trans (bl1 w _) hb
  have x0 := hBS.c0
  have x1 := hBS.c1
  have x2 := hBS.c2
  have x3 := hBS.c3
  have x4 := hBS.c4
  have x5 := hBS.c5
  have x6 := hBS.c6
  have hl1 := hBS.lt
  have HBS := hide hBS
  clear hb hBS
  rw [st_eq]
  cases hc : stC S
  · have hf : E = 9 := by rw [← unhide HE]; exact stE_f hc
    have HL' : Hid (L = []) := by show _ = _; rw [← unhide HL]; exact idsL_f hc
    clear hc
    subst hf
    go_wp2
    go_ret2
    exact ⟨_, rfl, by rw [unhide HL']; exact OwI.nil _ _, hw1⟩
  have hf : E = 0 := by rw [← unhide HE]; exact stE_t hc
  have hlen := tstC_len hc
  have HC := hide hc
  have HL' : Hid (L = idsK S.ves (chlP S) S.ves.length) := by show _ = _; rw [← unhide HL]; exact idsL_t hc
  clear hc HE HL
  subst hf
  obtain ⟨p, hp⟩ : ∃ p, chlP S = p := ⟨_, rfl⟩
  rw [hp] at HL'
  have HP := hide hp
  clear hp
  have HV := hide ((unhide HS).up hw1).ves
  obtain ⟨l, hl⟩ : ∃ l, S.ves = l := ⟨_, rfl⟩
  have HMEM : Hid (∀ k, k < l.length → l.getD k ve0 ∈ S.ves) := by intro k hk; rw [hl]; exact mem_getD hk
  rw [hl] at hlen hv1 HV HL' x3 HBS HS ⊢
  clear hl
  obtain ⟨N, hN⟩ : ∃ N, l.length = N := ⟨_, rfl⟩
  rw [hN] at hlen hv1 HV HL' x3 HBS HMEM HS ⊢
  have HN := hide hN
  clear hN x0 x1 x2 x4 x5 x6
  go_wp2
  go_loopw [4, 5] (fun o i wr => ∃ k : Nat, k ≤ N ∧ i = .int .i64 k ∧ Below w1.heap.size w1 wr ∧ OwI wr w1.heap.size o (idsK l p k)) (fun _ i _ => N - (intOf i).toNat)
  case atStart => exact ⟨0, Nat.zero_le _, rfl, Below.refl _ _, OwI.nil _ _⟩
  case round =>
    obtain ⟨k, hk, rfl, hbq, hO⟩ := hrel
    have HOQ := hide hO
    clear hO
    have hBS := (unhide HBS).up hbq
    have y0 := hBS.c0
    have y1 := hBS.c1
    have y2 := hBS.c2
    have y3 := hBS.c3
    have y4 := hBS.c4
    have y5 := hBS.c5
    have y6 := hBS.c6
    have hlr := hBS.lt
    clear hBS x3
    by_cases hlt : k < N
    · have hlt' : k < l.length := by rw [unhide HN]; exact hlt
      obtain ⟨b8, o8, e8, r0⟩ := Lst.at (unhide HV) hlt'
      obtain ⟨X, hX⟩ : ∃ X, l.getD k ve0 = X := ⟨_, rfl⟩
      have HM : Hid (X ∈ S.ves) := by show _ ∈ _; rw [← hX]; exact unhide HMEM k hlt
      rw [hX] at r0
      have HX := hide hX
      subst e8
      have r := RVe.up hbq r0
      obtain ⟨U, hu, hI⟩ := r.c8
      obtain ⟨ua, uc, rfl, _⟩ := hI.form
      have c0 := r.c0
      have c1 := r.c1
      have c2 := r.c2
      have c3 := r.c3
      have c4 := r.c4
      have c5 := r.c5
      have c6 := r.c6
      have c7 := r.c7
      have c9 := r.c9
      have c10 := r.c10
      have c11 := r.c11
      have HS2 := hide r.s2
      clear r r0 hI hX
      have hWq := hbq.size
      have hln := idsK_len l p k
      have HKN : Hid (idsK l p k = idsK l p k) := rfl
      obtain ⟨T, hT⟩ : ∃ T, chlP S X = T := ⟨_, rfl⟩
      have HZN : Hid (T = false → idsK l p (k + 1) = idsK l p k) := fun e => idsK_no hlt' (by rw [unhide HX, ← unhide HP, hT]; exact e)
      have HZY : Hid (T = true → idsK l p (k + 1) = idsK l p k ++ [X.id]) := fun e => by rw [idsK_yes hlt' (by rw [unhide HX, ← unhide HP, hT]; exact e), unhide HX]
      have HAG0 : Hid (((X.tier == 3) && decide (X.til ≤ S.clock)) = T) := hT
      clear hT
      go_upto_region 7 with fail
      have hne := Later.one wr
      have l0 := fun d : Later wr => d.cell y0
      have l1 := fun d : Later wr => d.cell y1
      have l2 := fun d : Later wr => d.cell y2
      have l3 := fun d : Later wr => d.cell y3
      have l4 := fun d : Later wr => d.cell y4
      have l5 := fun d : Later wr => d.cell y5
      have l6 := fun d : Later wr => d.cell y6
      have m0 := fun d : Later wr => d.cell c0
      have m1 := fun d : Later wr => d.cell c1
      have m2 := fun d : Later wr => d.cell c2
      have m3 := fun d : Later wr => d.cell c3
      have m4 := fun d : Later wr => d.cell c4
      have m5 := fun d : Later wr => d.cell c5
      have m6 := fun d : Later wr => d.cell c6
      have m7 := fun d : Later wr => d.cell c7
      have m8 := fun d : Later wr => d.cell hu
      have m9 := fun d : Later wr => d.cell c9
      have m10 := fun d : Later wr => d.cell c10
      have m11 := fun d : Later wr => d.cell c11
      refine wp_region_later (by kernel_rfl) (by kernel_rfl) ?_
      cases t : (X.tier == 3)
      · rw [t] at HAG0
        have HT : Hid (T = false) := (unhide HAG0).symm
        clear HAG0
        repeat (go_big_quiet_step (fail))
        refine wpQuiet_nil ?_
        intro w9 hw'
        obtain ⟨⟨w2, hb2⟩, hw''⟩ := hw'
        subst hw''
        have HZ : Hid (idsK l p (k + 1) = idsK l p k) := unhide HZN (unhide HT)
        have hbn := bl_trans hbq hb2
        have HON := hide (oi_up (unhide HOQ) hb2)
        clear hne l0 l1 l2 l3 l4 l5 l6 m0 m1 m2 m3 m4 m5 m6 m7 m8 m9 m10 m11 y0 y1 y2 y3 y4 y5 y6 c0 c1 c2 c3 c4 c5 c6 c7 c9 c10 c11 hu HOQ
        go_wp2
        go_roundw
        case rel => exact ⟨k + 1, by omega, by go_num, hbn, by rw [unhide HZ]; exact unhide HON⟩
        case measure => (simp [intOf] <;> omega)
      · rw [t] at HAG0
        have HAG : Hid (decide (X.til ≤ S.clock) = T) := unhide HAG0
        clear HAG0
        repeat (go_big_quiet_step (fail))
        rw [unhide HAG]
        cases T
        · have HT : Hid (false = false) := rfl
          refine wpQuiet_nil ?_
          intro w9 hw'
          obtain ⟨⟨w2, hb2⟩, hw''⟩ := hw'
          subst hw''
          have HZ : Hid (idsK l p (k + 1) = idsK l p k) := unhide HZN (unhide HT)
          have hbn := bl_trans hbq hb2
          have HON := hide (oi_up (unhide HOQ) hb2)
          clear hne l0 l1 l2 l3 l4 l5 l6 m0 m1 m2 m3 m4 m5 m6 m7 m8 m9 m10 m11 y0 y1 y2 y3 y4 y5 y6 c0 c1 c2 c3 c4 c5 c6 c7 c9 c10 c11 hu HOQ
          go_wp2
          go_roundw
          case rel => exact ⟨k + 1, by omega, by go_num, hbn, by rw [unhide HZ]; exact unhide HON⟩
          case measure => (simp [intOf] <;> omega)
        · have HT : Hid (true = true) := rfl
          refine wpQuiet_nil ?_
          intro w9 hw'
          obtain ⟨⟨w2, hb2⟩, hw''⟩ := hw'
          subst hw''
          have HZ : Hid (idsK l p (k + 1) = idsK l p k ++ [X.id]) := unhide HZY (unhide HT)
          have hbn := bl_trans hbq hb2
          have HON := hide (oi_up (unhide HOQ) hb2)
          have z3 := scell_up hb2 y3
          have zc := scell_up hb2 c0
          have hlw := World.block_lt_of_cell? _ _ z3
          have hlw2 := World.block_lt_of_cell? _ _ zc
          simp at hlw hlw2
          have hWn := hbn.size
          clear hne l0 l1 l2 l3 l4 l5 l6 m0 m1 m2 m3 m4 m5 m6 m7 m8 m9 m10 m11 y0 y1 y2 y3 y4 y5 y6 c0 c1 c2 c3 c4 c5 c6 c7 c9 c10 c11 hu HOQ
          obtain ⟨Q, hQ⟩ : ∃ Q, idsK l p k = Q := ⟨_, rfl⟩
          rw [hQ] at HON HZ hln
          clear hQ HZN HZY HKN
          go_wp2_with (first
            | (at_builtin; refine wpList_append_own _ rfl _ _ 26 rfl w1.heap.size 3 i0 (.int .i64 0) 1 8 Try.underlying26 hi hz0 hz1 hz2 rfl (by decide) _ _ _ rfl ((unhide HON).alloc _) ⟨w9.heap.size, 0, none⟩ 1 1 [.int .i64 X.id] rfl rfl (cell_one_new _ _ _) (oneI _) (by unfold maxLen; omega) (by omega) (by simp; omega) ?_; intro v' w1' hown' hgrow hnil)
            | go_in)
          have hb1 := (bl_alloc hbn _).grown hgrow (bl_alloc hbn _).size (fun j hj => own_blk (unhide HON) j hj)
          rw [i64s_snoc] at hown'
          clear hgrow hnil
          first
            | exact ⟨⟨k + 1, by omega, by go_num, hb1, by rw [unhide HZ]; unfold OwI; rw [List.length_append]; exact hown'⟩, by simp [intOf]; omega⟩
            | (go_roundw
               case rel => exact ⟨k + 1, by omega, by go_num, hb1, by rw [unhide HZ]; unfold OwI; rw [List.length_append]; exact hown'⟩
               case measure => (simp [intOf] <;> omega))
    · obtain rfl : k = N := by omega
      go_wp2
      go_ret2
      exact ⟨_, rfl, by rw [unhide HL']; exact own_lo (unhide HOQ) hw1.size, bl_trans hw1 hbq⟩
end Go.Proofs.Ytkogbgeadlnnfaa
