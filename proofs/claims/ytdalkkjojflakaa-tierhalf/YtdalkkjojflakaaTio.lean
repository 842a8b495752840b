/- The document's allIn, HalfOf. -/
import Derived.Test.YtdalkkjojflakaaTim
import Derived.Test.YtdalkkjojflakaaTik
namespace Go.Proofs.Ytdalkkjojflakaa
open Go.RowKit Go.Maps
set_option maxRecDepth 100000
set_option linter.unusedVariables false
set_option linter.unusedSimpArgs false
theorem allIn_any (v : Value) (l : List Int) (most : Int) (w : World) (h : Ints w v l) :
    Calls Try.prog 47 #[.int .i64 most, v] w fun e w' => e = .returned (.bool (allB l.length (fun i => inB (l.getD i 0) 0 most))) ∧ w = w' := by
  obtain ⟨a, cap, rfl, h1, h2⟩ := h.form
  unfold maxLen at h2
  have HL := hide h
  clear h
  have HP : Hid (∀ i, (fun i => inB (l.getD i 0) 0 most) i = inB (l.getD i 0) 0 most) := fun i => rfl
  obtain ⟨p, hp⟩ : ∃ p, (fun i => inB (l.getD i 0) 0 most) = p := ⟨_, rfl⟩
  rw [hp] at HP ⊢
  clear hp
  obtain ⟨N, hN⟩ : ∃ N, l.length = N := ⟨_, rfl⟩
  rw [hN] at h1 HL ⊢
  have HN := hide hN
  clear hN
  go_enter Try.func47, Try.ntmps47
  go_wp2
  go_loopw [5] (fun i wr => ∃ k : Nat, k ≤ N ∧ i = .int .i64 k ∧ w = wr ∧ ∀ j, j < k → p j = true) (fun i _ => N - (intOf i).toNat)
  case atStart => exact ⟨0, Nat.zero_le _, rfl, rfl, fun j hj => absurd hj (Nat.not_lt_zero _)⟩
  case round =>
    obtain ⟨k, hk, rfl, rfl, hall⟩ := hrel
    have HA := hide hall
    clear hall
    by_cases hlt : k < N
    · obtain ⟨b, o, rfl, r0⟩ := Lst.at (unhide HL) (i := k) (by rw [unhide HN]; exact hlt)
      have HPK : Hid (p k = inB (l.getD k 0) 0 most) := unhide HP k
      obtain ⟨X, hX⟩ : ∃ X, l.getD k 0 = X := ⟨_, rfl⟩
      rw [hX] at r0 HPK
      have c0 := r0.1
      rw [Nat.mul_one] at c0
      clear hX r0
      go_wp2_with fail
      refine (in_any X 0 most _).mono ?_
      rintro e w1 ⟨rfl, rfl⟩
      rw [← unhide HPK]
      cases hpk : p k
      · go_wp2
        go_ret
        exact ⟨ret_bool (allB_f hlt hpk).symm, rfl⟩
      · go_wp2
        go_roundw
        case rel => exact ⟨k + 1, by omega, by go_num, by first | trivial | rfl, fun j hj => if e : j < k then unhide HA j e else (show j = k by omega) ▸ hpk⟩
        case measure => simp [intOf]; omega
    · obtain rfl : k = N := by omega
      go_wp2
      go_ret
      exact ⟨ret_bool (allB_t (unhide HA)).symm, rfl⟩
set_option maxHeartbeats 4000000 in
theorem halfOf_any (S : St) (b v u q g : Value) (lv : Value) (l : List Int) (w : World) (hS : Sta w b v u q g S) (hv : Ints w lv l) :
    Calls Try.prog 24 #[stV S b v u q g, lv] w fun e w' => ∃ o, e = .returned (.tuple #[.int .i64 (halV S l), o, .int .i64 (halE S l)]) ∧ OwI w' w.heap.size o (halL S l) ∧ Below w.heap.size w w' := by
  obtain ⟨la, lc, rfl, hl1, hl2⟩ := hv.form
  obtain ⟨va, vc, rfl, hv1, hv2⟩ := hS.ves.form
  unfold maxLen at hl2 hv2
  obtain ⟨i0, hi, hz0, hz1, hz2⟩ := info_parts infoI
  have HS := hide hS
  have HV := hide hv
  clear hS hv
  obtain ⟨E, hE⟩ : ∃ E, halE S l = E := ⟨_, rfl⟩
  obtain ⟨V, hV⟩ : ∃ V, halV S l = V := ⟨_, rfl⟩
  obtain ⟨L, hL⟩ : ∃ L, halL S l = L := ⟨_, rfl⟩
  rw [hE, hV, hL]
  have HE := hide hE
  have HVV := hide hV
  have HL := hide hL
  clear hE hL hV
  go_enter Try.func24, Try.ntmps24
  go_wp2_with fail
  refine (liveOf_any S b _ u q g _ ((unhide HS).up (bl1 _ _))).mono ?_
  rintro e w1 ⟨o1, rfl, hO1, hb⟩
  have hX := (BoxS.new w S b (.slice va S.ves.length vc) u q g 59).up hb
  have hw1 := bl_trans (bl1 w _) hb
  have HX := hide hX
  clear hb
  cases hc : stC S
  · obtain ⟨k1, k2, k3⟩ := hal_9 (l := l) hc
    have hf := stE_f hc
    have HE' : Hid (E = 9) := by show _ = _; rw [← unhide HE]; exact k1
    have HV' : Hid (V = 0) := by show _ = _; rw [← unhide HVV]; exact k2
    have HL' : Hid (L = []) := by show _ = _; rw [← unhide HL]; exact k3
    rw [hf]
    clear hf hc k1 k2 k3
    go_wp2
    refine bodyPost_ret (v := .tuple #[.int .i64 0, .slice none 0 0, .int .i64 9]) (by simp [results, Try.results24, go_sem, *]) rfl ⟨.slice none 0 0, ret_half (unhide HV').symm (unhide HE').symm, ?_, hw1⟩
    rw [unhide HL']; exact OwI.nil _ _
  have hf := stE_t hc
  rw [livS_t hc] at hO1
  rw [hf]
  have hlen := tstC_len hc
  have HBD : Hid (∀ n, 0 ≤ livK S.ves S.ves.length n ∧ livK S.ves S.ves.length n ≤ 606 * (S.ves.length : Int)) := fun n => livK_bd hc _ (Nat.le_refl _) n
  have HC := hide hc
  have HZC : Hid (sizC 8 l = (decide ((l.length : Int) ≤ 8) && allB l.length (fun i => inB (l.getD i 0) 0 4000))) := rfl
  clear hf hc
  cases hz : sizC 8 l
  · obtain ⟨k1, k2, k3⟩ := hal_2 (unhide HC) hz
    have HE' : Hid (E = 2) := by show _ = _; rw [← unhide HE]; exact k1
    have HV' : Hid (V = 0) := by show _ = _; rw [← unhide HVV]; exact k2
    have HL' : Hid (L = []) := by show _ = _; rw [← unhide HL]; exact k3
    rw [hz] at HZC
    clear hz k1 k2 k3
    by_cases hm : (l.length : Int) ≤ 8
    · rw [decide_eq_true hm, Bool.true_and] at HZC
      go_wp2_with fail
      refine (allIn_any _ l 4000 _ (Ints.up hw1 (unhide HV))).mono ?_
      rintro e w2 ⟨rfl, rfl⟩
      rw [← unhide HZC]
      go_wp2
      refine bodyPost_ret (v := .tuple #[.int .i64 0, .slice none 0 0, .int .i64 2]) (by simp [results, Try.results24, go_sem, *]) rfl ⟨.slice none 0 0, ret_half (unhide HV').symm (unhide HE').symm, ?_, hw1⟩
      rw [unhide HL']; exact OwI.nil _ _
    · go_wp2
      refine bodyPost_ret (v := .tuple #[.int .i64 0, .slice none 0 0, .int .i64 2]) (by simp [results, Try.results24, go_sem, *]) rfl ⟨.slice none 0 0, ret_half (unhide HV').symm (unhide HE').symm, ?_, hw1⟩
      rw [unhide HL']; exact OwI.nil _ _
  have hl8 := sizC_8 hz
  have HZA : Hid (∀ k, k < l.length → 0 ≤ l.getD k 0 ∧ l.getD k 0 ≤ 4000) := fun k hk => sizC_at hz hk
  have HZ := hide hz
  have hm : (l.length : Int) ≤ 8 := by omega
  rw [hz, decide_eq_true hm, Bool.true_and] at HZC
  clear hz
  have HLV := hide (hO1.ints (fun x hx => by
    unfold livL at hx
    obtain ⟨n, _, rfl⟩ := List.mem_map.1 hx
    have h1 := unhide HBD n
    obtain ⟨m, hm⟩ := Int.eq_ofNat_of_zero_le h1.1
    rw [hm]
    exact wfNat (by omega)))
  obtain ⟨o1a, o1c, rfl, o1l, o1m⟩ := (unhide HLV).form
  rw [livL_len] at HLV o1l ⊢
  clear hO1
  obtain ⟨N, hN⟩ : ∃ N, l.length = N := ⟨_, rfl⟩
  rw [hN] at hl1 hl8 hm HV HZA HZC ⊢
  have HN := hide hN
  clear hX
  go_wp2_with fail
  refine (allIn_any _ l 4000 _ (by have := Ints.up hw1 (unhide HV); exact this)).mono ?_
  rintro e w2 ⟨rfl, rfl⟩
  rw [hN, ← unhide HZC]
  clear hN
  go_wp2
  go_loopw [9, 10, 11] (fun i _ _ wr => ∃ k : Nat, k ≤ N ∧ i = .int .i64 k ∧ Below w1.heap.size w1 wr ∧ ∀ j, j < k → halQ S l j = false) (fun i _ _ _ => N - (intOf i).toNat)
  case atStart => exact ⟨0, Nat.zero_le _, rfl, Below.refl _ _, fun j hj => absurd hj (Nat.not_lt_zero _)⟩
  case round =>
    obtain ⟨k, hk, rfl, hbq, hall⟩ := hrel
    have HA := hide hall
    clear hall
    by_cases hlt : k < N
    · obtain ⟨b7, o7, e7, r0⟩ := Lst.at (Ints.up (bl_trans hw1 hbq) (unhide HV)) (i := k) (by rw [unhide HN]; exact hlt)
      obtain ⟨b6, o6, e6, r1⟩ := Lst.at (Ints.up hbq (unhide HLV)) (i := k) (by rw [livL_len]; omega)
      rw [livL_at _ _ (by omega)] at r1
      have HQ : Hid (halQ S l k = ((decide (0 < l.getD k 0) && !isGone S (k : Int)) && decide (2 * livK S.ves S.ves.length k ≤ l.getD k 0))) := by show _ = _; unfold halQ; rw [livL_at _ _ (by omega)]
      have hzk := unhide HZA k hlt
      have hbk := unhide HBD k
      obtain ⟨Z, hZ⟩ : ∃ Z, l.getD k 0 = Z := ⟨_, rfl⟩
      obtain ⟨Y, hY⟩ : ∃ Y, livK S.ves S.ves.length k = Y := ⟨_, rfl⟩
      rw [hZ] at r0 HQ hzk
      rw [hY] at r1 HQ hbk
      have c7 := r0.1
      have c6 := r1.1
      rw [Nat.mul_one] at c7 c6
      subst e7 e6
      have hX := (unhide HX).up hbq
      have y0 := hX.c0
      have y1 := hX.c1
      have y2 := hX.c2
      have y3 := hX.c3
      have y4 := hX.c4
      have y5 := hX.c5
      have y6 := hX.c6
      have hlr := hX.lt
      have hWq := hbq.size
      clear hX hZ hY r0 r1
      go_upto_region 9 with fail
      have hne := Later.one wr
      have l0 := fun d : Later wr => d.cell y0
      have l1 := fun d : Later wr => d.cell y1
      have l2 := fun d : Later wr => d.cell y2
      have l3 := fun d : Later wr => d.cell y3
      have l4 := fun d : Later wr => d.cell y4
      have l5 := fun d : Later wr => d.cell y5
      have l6 := fun d : Later wr => d.cell y6
      have m6 := fun d : Later wr => d.cell c6
      have m7 := fun d : Later wr => d.cell c7
      refine wp_region_later (by kernel_rfl) (by kernel_rfl) ?_
      cases d0 : (Z == 0)
      case true =>
        have HQ' : Hid (halQ S l k = false) := by
          show _ = _
          rw [unhide HQ, decide_eq_false (by have : Z = 0 := by simpa using d0
                                             omega)]; rfl
        repeat (go_big_quiet_step (fail))
        refine wpQuiet_nil ?_
        intro w9 hw'
        obtain ⟨⟨w2, hb2⟩, hw''⟩ := hw'
        subst hw''
        have hbn := bl_trans hbq hb2
        clear hne l0 l1 l2 l3 l4 l5 l6 m6 m7 y0 y1 y2 y3 y4 y5 y6 c6 c7
        go_wp2
        go_roundw
        case rel => exact ⟨k + 1, by omega, by go_num, hbn, fun j hj => if e : j < k then unhide HA j e else (show j = k by omega) ▸ unhide HQ'⟩
        case measure => (simp [intOf] <;> omega)
      case false =>
        have hZ0 : Z ≠ 0 := by simpa using d0
        rw [decide_eq_true (show 0 < Z by omega), Bool.true_and] at HQ
        cases hg : isGone S (k : Int)
        case true =>
          rw [hg] at HQ
          have HQ' : Hid (halQ S l k = false) := unhide HQ
          repeat (go_big_quiet_step ((go_at_call 48; exact Calls.later (goneIs_any S b _ u q g (k : Int) _ (((unhide HS).up hw1).up (bl_trans hbq (Later.below _))).gone))))
          rw [hg]
          refine wpQuiet_nil ?_
          intro w9 hw'
          obtain ⟨⟨w2, hb2⟩, hw''⟩ := hw'
          subst hw''
          have hbn := bl_trans hbq hb2
          clear hne l0 l1 l2 l3 l4 l5 l6 m6 m7 y0 y1 y2 y3 y4 y5 y6 c6 c7
          go_wp2
          go_roundw
          case rel => exact ⟨k + 1, by omega, by go_num, hbn, fun j hj => if e : j < k then unhide HA j e else (show j = k by omega) ▸ unhide HQ'⟩
          case measure => (simp [intOf] <;> omega)
        case false =>
          rw [hg] at HQ
          have HQ2 : Hid (halQ S l k = decide (2 * Y ≤ Z)) := unhide HQ
          by_cases d1 : Y + Y > Z
          · have HQ' : Hid (halQ S l k = false) := by show _ = _; rw [unhide HQ2, decide_eq_false (by omega)]
            repeat (go_big_quiet_step ((go_at_call 48; exact Calls.later (goneIs_any S b _ u q g (k : Int) _ (((unhide HS).up hw1).up (bl_trans hbq (Later.below _))).gone))))
            rw [hg]
            refine wpQuiet_nil ?_
            intro w9 hw'
            obtain ⟨⟨w2, hb2⟩, hw''⟩ := hw'
            subst hw''
            have hbn := bl_trans hbq hb2
            clear hne l0 l1 l2 l3 l4 l5 l6 m6 m7 y0 y1 y2 y3 y4 y5 y6 c6 c7
            go_wp2
            go_roundw
            case rel => exact ⟨k + 1, by omega, by go_num, hbn, fun j hj => if e : j < k then unhide HA j e else (show j = k by omega) ▸ unhide HQ'⟩
            case measure => (simp [intOf] <;> omega)
          · have HQ' : Hid (halQ S l k = true) := by show _ = _; rw [unhide HQ2, decide_eq_true (by omega)]
            repeat (go_big_quiet_step ((go_at_call 48; exact Calls.later (goneIs_any S b _ u q g (k : Int) _ (((unhide HS).up hw1).up (bl_trans hbq (Later.below _))).gone))))
            rw [hg]
            refine wpQuiet_nil ?_
            intro w9 hw'
            obtain ⟨⟨w2, hb2⟩, hw''⟩ := hw'
            subst hw''
            have h0 : halI S l = (k : Int) := by unfold halI; rw [unhide HN]; exact firstI_t hlt (unhide HQ') (unhide HA)
            obtain ⟨k1, k2, k3⟩ := hal_0 (unhide HC) (unhide HZ) h0
            have HE' : Hid (E = 0) := by show _ = _; rw [← unhide HE]; exact k1
            have HV' : Hid (V = (k : Int)) := by show _ = _; rw [← unhide HVV]; exact k2
            have HL' : Hid (L = idsK S.ves (hlfP (k : Int)) S.ves.length) := by show _ = _; rw [← unhide HL]; exact k3
            have hbn := bl_trans hbq hb2
            have HBX := hide ((unhide HX).up hbn)
            have HVS := hide (((unhide HS).up hw1).up hbn).ves
            have hWn := hbn.size
            have t3 := (unhide HBX).c3
            have hlw := (unhide HBX).lt
            clear k1 k2 k3 h0 hne l0 l1 l2 l3 l4 l5 l6 m6 m7 y0 y1 y2 y3 y4 y5 y6 c6 c7 hg hb2 d1 hzk hbk HQ HQ2 HQ' HE HL HVV HZA HBD
            obtain ⟨x, hx⟩ : ∃ x, S.ves = x := ⟨_, rfl⟩
            rw [hx] at HL' HVS hlen hv1 t3 HBX ⊢
            have HXX := hide hx
            clear hx
            obtain ⟨M, hM⟩ : ∃ M, x.length = M := ⟨_, rfl⟩
            rw [hM] at HL' HVS hlen hv1 t3 HBX ⊢
            have HM := hide hM
            clear hM
            go_wp2
            go_loopw [10, 11] (fun o i wp => ∃ j : Nat, j ≤ M ∧ i = .int .i64 j ∧ Below w9.heap.size w9 wp ∧ OwI wp w9.heap.size o (idsK x (hlfP (k : Int)) j)) (fun _ i _ => M - (intOf i).toNat)
            case atStart => exact ⟨0, Nat.zero_le _, rfl, Below.refl _ _, OwI.nil _ _⟩
            case round =>
              clear t3
              obtain ⟨j, hj, rfl, hbp, hO⟩ := hrel
              have HOQ := hide hO
              have t3 := ((unhide HBX).up hbp).c3
              have hlp := ((unhide HBX).up hbp).lt
              clear hO
              by_cases hjl : j < M
              · have hjl' : j < x.length := by rw [unhide HM]; exact hjl
                obtain ⟨b8, o8, e8, r0⟩ := Lst.at (unhide HVS) hjl'
                have HNO : Hid (hlfP (k : Int) (x.getD j ve0) = false → idsK x (hlfP (k : Int)) (j + 1) = idsK x (hlfP (k : Int)) j) := fun e => idsK_no hjl' e
                have HYES : Hid (hlfP (k : Int) (x.getD j ve0) = true → idsK x (hlfP (k : Int)) (j + 1) = idsK x (hlfP (k : Int)) j ++ [(x.getD j ve0).id]) := fun e => idsK_yes hjl' e
                obtain ⟨X, hX⟩ : ∃ X, x.getD j ve0 = X := ⟨_, rfl⟩
                rw [hX] at r0 HNO HYES
                subst e8
                have r := RVe.up hbp r0
                have c0 := r.c0
                have c7 := r.c7
                have c9 := r.c9
                clear r r0 hX
                have hWp := hbp.size
                have hln := idsK_len x (hlfP (k : Int)) j
                have HH : Hid (hlfP (k : Int) X = (((X.tier == 2) || (X.tier == 3)) && X.vol == (k : Int))) := rfl
                obtain ⟨T, hT⟩ : ∃ T, hlfP (k : Int) X = T := ⟨_, rfl⟩
                rw [hT] at HNO HYES HH
                clear hT
                have hl8 : b8 < wr.heap.size := by have := World.block_lt_of_cell? _ _ c0; simpa using this
                cases t1 : (X.tier == 2)
                case true =>
                  rw [t1, Bool.true_or, Bool.true_and] at HH
                  cases t2 : (X.vol == (k : Int))
                  case false =>
                    have HT : Hid (T = false) := (unhide HH).trans t2
                    have HZ1 : Hid (idsK x (hlfP (k : Int)) (j + 1) = idsK x (hlfP (k : Int)) j) := unhide HNO (unhide HT)
                    go_wp2
                    go_roundw
                    case rel => exact ⟨j + 1, by omega, by go_num, hbp, by rw [unhide HZ1]; exact unhide HOQ⟩
                    case measure => (simp [intOf] <;> omega)
                  case true =>
                    have HT : Hid (T = true) := (unhide HH).trans t2
                    have HZ1 : Hid (idsK x (hlfP (k : Int)) (j + 1) = idsK x (hlfP (k : Int)) j ++ [X.id]) := unhide HYES (unhide HT)
                    obtain ⟨Q, hQ⟩ : ∃ Q, idsK x (hlfP (k : Int)) j = Q := ⟨_, rfl⟩
                    rw [hQ] at HOQ HZ1 hln
                    clear hQ HNO HYES
                    go_wp2_with (first
                      | (at_builtin; refine wpList_append_own _ rfl _ _ 22 rfl w9.heap.size 3 i0 (.int .i64 0) 1 8 Try.underlying22 hi hz0 hz1 hz2 rfl (by decide) _ _ _ rfl ((unhide HOQ).alloc _) ⟨wr.heap.size, 0, none⟩ 1 1 [.int .i64 X.id] rfl rfl (cell_one_new _ _ _) (oneI _) (by unfold maxLen; omega) (by omega) (by simp; omega) ?_; intro v' w1' hown' hgrow hnil)
                      | go_in)
                    have hb1 := (bl_alloc hbp _).grown hgrow (bl_alloc hbp _).size (fun j' hj' => own_blk (unhide HOQ) j' hj')
                    rw [i64s_snoc] at hown'
                    clear hgrow hnil
                    first
                      | exact ⟨⟨j + 1, by omega, by go_num, hb1, by rw [unhide HZ1]; unfold OwI; rw [List.length_append]; exact hown'⟩, by simp [intOf]; omega⟩
                      | (go_roundw
                         case rel => exact ⟨j + 1, by omega, by go_num, hb1, by rw [unhide HZ1]; unfold OwI; rw [List.length_append]; exact hown'⟩
                         case measure => (simp [intOf] <;> omega))
                case false =>
                  rw [t1, Bool.false_or] at HH
                  cases t3' : (X.tier == 3)
                  case false =>
                    rw [t3', Bool.false_and] at HH
                    have HT : Hid (T = false) := unhide HH
                    have HZ1 : Hid (idsK x (hlfP (k : Int)) (j + 1) = idsK x (hlfP (k : Int)) j) := unhide HNO (unhide HT)
                    go_wp2
                    go_roundw
                    case rel => exact ⟨j + 1, by omega, by go_num, hbp, by rw [unhide HZ1]; exact unhide HOQ⟩
                    case measure => (simp [intOf] <;> omega)
                  case true =>
                    rw [t3', Bool.true_and] at HH
                    cases t2 : (X.vol == (k : Int))
                    case false =>
                      have HT : Hid (T = false) := (unhide HH).trans t2
                      have HZ1 : Hid (idsK x (hlfP (k : Int)) (j + 1) = idsK x (hlfP (k : Int)) j) := unhide HNO (unhide HT)
                      go_wp2
                      go_roundw
                      case rel => exact ⟨j + 1, by omega, by go_num, hbp, by rw [unhide HZ1]; exact unhide HOQ⟩
                      case measure => (simp [intOf] <;> omega)
                    case true =>
                      have HT : Hid (T = true) := (unhide HH).trans t2
                      have HZ1 : Hid (idsK x (hlfP (k : Int)) (j + 1) = idsK x (hlfP (k : Int)) j ++ [X.id]) := unhide HYES (unhide HT)
                      obtain ⟨Q, hQ⟩ : ∃ Q, idsK x (hlfP (k : Int)) j = Q := ⟨_, rfl⟩
                      rw [hQ] at HOQ HZ1 hln
                      clear hQ HNO HYES
                      go_wp2_with (first
                        | (at_builtin; refine wpList_append_own _ rfl _ _ 22 rfl w9.heap.size 3 i0 (.int .i64 0) 1 8 Try.underlying22 hi hz0 hz1 hz2 rfl (by decide) _ _ _ rfl ((unhide HOQ).alloc _) ⟨wr.heap.size, 0, none⟩ 1 1 [.int .i64 X.id] rfl rfl (cell_one_new _ _ _) (oneI _) (by unfold maxLen; omega) (by omega) (by simp; omega) ?_; intro v' w1' hown' hgrow hnil)
                        | go_in)
                      have hb1 := (bl_alloc hbp _).grown hgrow (bl_alloc hbp _).size (fun j' hj' => own_blk (unhide HOQ) j' hj')
                      rw [i64s_snoc] at hown'
                      clear hgrow hnil
                      first
                        | exact ⟨⟨j + 1, by omega, by go_num, hb1, by rw [unhide HZ1]; unfold OwI; rw [List.length_append]; exact hown'⟩, by simp [intOf]; omega⟩
                        | (go_roundw
                           case rel => exact ⟨j + 1, by omega, by go_num, hb1, by rw [unhide HZ1]; unfold OwI; rw [List.length_append]; exact hown'⟩
                           case measure => (simp [intOf] <;> omega))
              · obtain rfl : j = M := by omega
                go_wp2
                refine bodyPost_ret (v := .tuple #[.int .i64 (k : Int), u10, .int .i64 0]) (by simp [results, Try.results24, go_sem, *]) rfl ⟨u10, ret_half (unhide HV').symm (unhide HE').symm, ?_, bl_trans (bl_trans hw1 hbn) hbp⟩
                rw [unhide HL']
                exact own_lo (unhide HOQ) (by have := (bl_trans hw1 hbn).size; omega)
    · obtain rfl : k = N := by omega
      have h14 : halI S l = -1 := by unfold halI; rw [unhide HN]; exact firstI_f (unhide HA)
      obtain ⟨k1, k2, k3⟩ := hal_14 (unhide HC) (unhide HZ) h14
      have HE' : Hid (E = 14) := by show _ = _; rw [← unhide HE]; exact k1
      have HV' : Hid (V = 0) := by show _ = _; rw [← unhide HVV]; exact k2
      have HL' : Hid (L = []) := by show _ = _; rw [← unhide HL]; exact k3
      clear k1 k2 k3 h14
      go_wp2
      refine bodyPost_ret (v := .tuple #[.int .i64 0, .slice none 0 0, .int .i64 14]) (by simp [results, Try.results24, go_sem, *]) rfl ⟨.slice none 0 0, ret_half (unhide HV').symm (unhide HE').symm, ?_, bl_trans hw1 hbq⟩
      rw [unhide HL']; exact OwI.nil _ _
end Go.Proofs.Ytdalkkjojflakaa
