/- list.rowsOf. -/
import Derived.Test.YtdgmdapijhbocaaGreatLrpq
import Derived.Test.YtdgmdapijhbocaaGreatLsnq
import Derived.Test.YtdgmdapijhbocaaGreatG18
import Derived.BigRegion
namespace Go.Proofs.YtdgmdapijhbocaaGreat
open Go.RowKit Go.Maps
set_option maxRecDepth 100000
set_option linter.unusedVariables false
set_option linter.unusedSimpArgs false
theorem ro_up {w w' : World} {B : Nat} {v : Value} {xs : List Ro} (h : OwRo w B v xs) (hb : Below w.heap.size w w') : OwRo w' B v xs := World.ownsRow.kept h (gb_below (r := none) hb) (Classical.em _)
theorem ro_lo {w : World} {B B' : Nat} {v : Value} {xs : List Ro} (h : OwRo w B v xs) (hB : B' ≤ B) : OwRo w B' v xs := by
  refine ⟨h.1, ?_⟩
  rcases h.2 with h0 | ⟨g, cap, cur, e1, hb, r⟩
  · exact .inl h0
  · exact .inr ⟨g, cap, cur, e1, Nat.le_trans hB hb, r⟩
theorem ro_nil (w : World) (B : Nat) : OwRo w B (.slice none 0 0) [] := ⟨by simp, .inl ⟨rfl, rfl⟩⟩
theorem ro_form {w : World} {B : Nat} {v : Value} {xs : List Ro} (h : OwRo w B v xs) : ∃ a cap, v = .slice a xs.length cap ∧ xs.length ≤ cap ∧ cap ≤ maxLen := by
  rcases h.2 with ⟨rfl, h0⟩ | ⟨g, cap, cur, rfl, _, _, h1, h2, _⟩
  · exact ⟨_, 0, by rw [h0], by omega, Nat.zero_le _⟩
  · exact ⟨_, cap, rfl, h1, h2⟩
/-- A row of one's own is nothing, or a block. -/
theorem ro_row {w : World} {B : Nat} {v : Value} {xs : List Ro} (h : OwRo w B v xs) (hn : xs ≠ []) : ∃ g cap, v = .slice (some ⟨g, 0, none⟩) xs.length cap ∧ B ≤ g ∧ RowRo w g cap xs ∧ cap ≤ 9223372036854775807 ∧ xs.length ≤ cap := by
  obtain ⟨g, cap, sp, e, hB, hr, hl, hc, hnc, _⟩ := own_row h (List.length_pos_iff.2 hn)
  exact ⟨g, cap, e, hB, ⟨sp, hr, by rw [List.length_append]; exact hl⟩, hc, hnc⟩
theorem ro_of {w : World} {B g cap : Nat} {xs : List Ro} (h : RowRo w g cap xs) (hB : B ≤ g) (hn : xs.length ≤ cap) (hc : cap ≤ 9223372036854775807) : OwRo w B (.slice (some ⟨g, 0, none⟩) xs.length cap) xs := by
  obtain ⟨sp, hr, hl⟩ := h
  have hf := flat_len2 roL 7 (fun _ => rfl) xs
  refine ⟨hf, .inr ⟨g, cap, _, rfl, hB, hr, hn, by unfold maxLen; omega, by simpa using hl, ?_⟩⟩
  exact List.take_left' hf
theorem ro_lst {w : World} {B : Nat} {v : Value} {xs : List Ro} (h : OwRo w B v xs) : Lst RRo 7 ro0 w v xs :=
  own_lst (fun _ => rfl) h fun g p x hx k => ⟨k 0 (by decide), k 1 (by decide), k 2 (by decide), k 3 (by decide), k 4 (by decide), k 5 (by decide), k 6 (by decide)⟩
set_option maxHeartbeats 4000000 in
theorem rowsOf_any (S : St) (b v u q g : Value) (nm pre : ByteArray) (w : World) (hS : Sta w b v u q g S) (hok : stC S = true) (hp : pre.size ≤ maxLen) :
    Calls Tryz.prog 41 #[stV S b v u q g, .string nm, .string pre] w fun e w' => ∃ o, e = .returned o ∧ OwRo w' w.heap.size o (rowsL (sv S nm pre)) ∧ Below w.heap.size w w' := by
  obtain ⟨va, vc, rfl, hv1, hv2⟩ := hS.ves.form
  unfold maxLen at hv2
  obtain ⟨i0, hi, hz0, hz1, hz2⟩ := info_parts infoRo
  have HV := hide hS.ves
  have HP := hide hp
  have hlen := tstC_len hok
  have HOK := hide hok
  have HSV : Hid ((sv S nm pre).length = (l0K S nm pre S.ves.length).length) := by show _ = _; rw [sv_len, l0_all, List.length_map]
  clear hS hp hok
  obtain ⟨N, hN⟩ : ∃ N, S.ves.length = N := ⟨_, rfl⟩
  rw [hN] at hlen hv1 HV HSV ⊢
  have HN := hide hN
  clear hN
  go_enter Tryz.func41, Tryz.ntmps41
  go_wp2
  have hw0 := bl1 w (.cells #[.int .i64 S.next, .int .i64 S.clock, b, .slice va N vc, u, q, g] 29)
  obtain ⟨W, hW⟩ : ∃ W, w.alloc (.cells #[.int .i64 S.next, .int .i64 S.clock, b, .slice va N vc, u, q, g] 29) = W := ⟨_, rfl⟩
  rw [hW] at hw0 ⊢
  clear hW
  go_loopw [7, 9, 14] (fun o _ i wr => ∃ k : Nat, k ≤ N ∧ i = .int .i64 k ∧ Below W.heap.size W wr ∧ OwRo wr W.heap.size o (l0K S nm pre k)) (fun _ _ i _ => N - (intOf i).toNat)
  case atStart => exact ⟨0, Nat.zero_le _, rfl, Below.refl _ _, ro_nil _ _⟩
  case round =>
    obtain ⟨k, hk, rfl, hbq, hO⟩ := hrel
    have HOQ := hide hO
    clear hO
    by_cases hlt : k < N
    · have hlt' : k < S.ves.length := by rw [unhide HN]; exact hlt
      obtain ⟨b8, o8, e8, r0⟩ := Lst.at (unhide HV) hlt'
      obtain ⟨X, hX⟩ : ∃ X, S.ves.getD k ve0 = X := ⟨_, rfl⟩
      rw [hX] at r0
      have HX := hide hX
      subst e8
      have r := RVe.up (bl_trans hw0 hbq) r0
      obtain ⟨U, hu, hI⟩ := r.c8
      obtain ⟨ua, uc, rfl, _⟩ := hI.form
      have c0 := r.c0
      have c1 := r.c1
      have c2 := r.c2
      have c3 := r.c3
      have c4 := r.c4
      have c5 := r.c5
      have c6 := r.c6
      have c7 := r.c7
      have c9 := r.c9
      have c10 := r.c10
      have c11 := r.c11
      have HS2 := hide r.s2
      clear r r0 hI hX
      have hWq := hbq.size
      have hln := l0_len S nm pre k
      go_upto_region 5 with fail
      generalize hWW : wr.alloc _ = W8
      have h8 : BoxV W8 wr.heap.size X (.slice ua X.sec.length uc) ∧ Below wr.heap.size wr W8 := by
        rw [← hWW]
        exact ⟨BoxV.new _ _ _ _, bl1 _ _⟩
      clear hWW c0 c1 c2 c3 c4 c5 c6 c7 c9 c10 c11 hu
      obtain ⟨hk8, hb8⟩ := h8
      have z0 := hk8.c0
      have z1 := hk8.c1
      have z2 := hk8.c2
      have z4 := hk8.c4
      have z5 := hk8.c5
      have z7 := hk8.c7
      have hw1 := bl_trans hbq hb8
      have HO1 := hide (ro_up (unhide HOQ) hb8)
      have hl8 := hk8.lt
      have hW1 := hw1.size
      clear hk8 HOQ hb8
      obtain ⟨vB, hvB⟩ : ∃ x, wr.heap.size = x := ⟨_, rfl⟩
      rw [hvB] at z0 z1 z2 z4 z5 z7 hl8 ⊢
      clear hvB
      have HSP : Hid (selP nm pre X = ((X.bu.toList == nm.toList) && pfB X.ke pre)) := rfl
      cases hn : (X.bu.toList == nm.toList)
      · have HZ : Hid (l0K S nm pre (k + 1) = l0K S nm pre k) := l0_no hlt' (by rw [unhide HX, unhide HSP, hn]; rfl)
        go_wp2
        go_roundw
        case rel => exact ⟨k + 1, by omega, by go_num, hw1, by rw [unhide HZ]; exact unhide HO1⟩
        case measure => (simp [intOf] <;> omega)
      cases hpf : pfB X.ke pre
      · have HZ : Hid (l0K S nm pre (k + 1) = l0K S nm pre k) := l0_no hlt' (by rw [unhide HX, unhide HSP, hn, hpf]; rfl)
        go_wp2_with fail
        refine (prefix_any X.ke pre _ (unhide HS2) (unhide HP)).mono ?_
        rintro e w9 ⟨rfl, rfl⟩
        rw [hpf]
        clear hpf
        go_wp2
        go_roundw
        case rel => exact ⟨k + 1, by omega, by go_num, hw1, by rw [unhide HZ]; exact unhide HO1⟩
        case measure => (simp [intOf] <;> omega)
      · have HZ : Hid (l0K S nm pre (k + 1) = l0K S nm pre k ++ [roF X]) := by
          show _ = _
          rw [l0_yes hlt' (by rw [unhide HX, unhide HSP, hn, hpf]; rfl), unhide HX]
        go_wp2_with fail
        refine (prefix_any X.ke pre _ (unhide HS2) (unhide HP)).mono ?_
        rintro e w9 ⟨rfl, rfl⟩
        rw [hpf]
        clear hpf hn HSP
        obtain ⟨Q, hQ⟩ : ∃ Q, l0K S nm pre k = Q := ⟨_, rfl⟩
        rw [hQ] at HO1 HZ hln
        clear hQ
        obtain ⟨oa, oc, rfl, ho1, ho2⟩ := ro_form (unhide HO1)
        unfold maxLen at ho2
        go_wp2_with (first
          | (at_builtin; refine wpList_append_own _ rfl _ _ 56 rfl W.heap.size 61 i0 (.agg zeroRo) 7 56 Tryz.underlying56 hi hz0 hz1 hz2 rfl (by decide) _ _ _ rfl ((unhide HO1).alloc _) ⟨W8.heap.size, 0, none⟩ 1 1 [.string X.ke, .bool false, .int .i64 X.id, .bool X.mar, .bool false, .int .i64 X.size, .int .i64 X.tier] rfl rfl (fun j u hj => by rw [addI, Nat.zero_add]; exact cell_of (heap_alloc_new _ _) j (by simpa using hj)) (by simp [Value.oneCell']) (by unfold maxLen; omega) (by omega) (by simp; omega) ?_; intro v' w1' hown' hgrow hnil)
          | go_in)
        have hb1 := (bl_alloc hw1 _).grown hgrow (bl_alloc hw1 _).size (fun j hj => ((unhide HO1).lt j hj).1)
        clear hgrow hnil
        exact ⟨⟨k + 1, by omega, by go_num, hb1, by rw [unhide HZ]; unfold OwRo; rw [List.length_append, List.flatMap_append]; show World.ownsRow _ _ _ _ _ (Q.length + 1) (Q.flatMap roL ++ (roL (roF X) ++ [])); rw [List.append_nil]; exact hown'⟩, by simp [intOf]; omega⟩
    · obtain rfl : k = N := by omega
      have hw1 := bl_trans hw0 hbq
      have HL0 : Hid (l0K S nm pre k = (selV S nm pre).map roF) := by show _ = _; rw [← l0_all, unhide HN]
      have hln := l0_len S nm pre k
      obtain ⟨L, hL⟩ : ∃ L, l0K S nm pre k = L := ⟨_, rfl⟩
      obtain ⟨l, hl⟩ : ∃ l, sv S nm pre = l := ⟨_, rfl⟩
      rw [hL] at HOQ HL0 HSV hln
      rw [hl] at HSV
      have HLL := hide hl
      have hWs := hw0.size
      clear hL hl
      by_cases hne : L = []
      · subst hne
        obtain ⟨oa, oc, rfl, ho1, ho2⟩ := ro_form (unhide HOQ)
        have hl0 : Hid (l = []) := List.eq_nil_of_length_eq_zero (unhide HSV)
        have hz : ([] : List Ro).length = 0 := rfl
        rw [hz] at HOQ ⊢
        clear hz ho1 ho2
        go_wp2_with fail
        refine (sort_none _ _ _).mono ?_
        rintro e w2 ⟨rfl, rfl⟩
        go_wp2
        go_loopw [10, 47] (fun _ i wq => i = .int .i64 0 ∧ Below w2.heap.size w2 wq) (fun _ _ _ => 0)
        case atStart => exact ⟨rfl, Below.refl _ _⟩
        case round =>
          obtain ⟨rfl, hbr⟩ := hrel
          go_wp2
          go_ret
          rw [unhide HLL, unhide hl0]
          exact ⟨_, rfl, ro_lo (ro_up (unhide HOQ) hbr) hWs, bl_trans hw1 hbr⟩
      · obtain ⟨gr, cap, rfl, hgB, hR, hcap, hnc⟩ := ro_row (unhide HOQ) hne
        have HRR := hide hR
        obtain ⟨M, hM⟩ : ∃ M, L.length = M := ⟨_, rfl⟩
        have HM := hide hM
        have HST := hide (sort_any gr cap L wr hR (by omega))
        have hM0 : 0 < M := by rw [← hM]; exact List.length_pos_iff.2 hne
        rw [hM] at hln hnc HST ⊢
        clear hR hM hne HOQ
        go_wp2_with fail
        refine (unhide HST).mono ?_
        rintro e w2 ⟨rfl, F, hF1, hF2, hF3, hg2⟩
        have hFe : F = mixL l 0 := by rw [mixL_0, ← unhide HLL]; exact sort_is (unhide HOK) nm pre (by rw [← unhide HL0]; exact hF1) hF2
        rw [hFe] at hF3
        have HF3 := hide hF3
        have HLM : Hid (l.length = M) := by show _ = _; rw [unhide HSV, unhide HM]
        have hw2 : Below w.heap.size w w2 := bl_tr hw1 (gb_lo hg2 (by have := hw1.size; omega) (fun j e => by injection e with e; omega))
        clear hFe hF1 hF2 hF3 hg2 HST
        go_wp2
        go_loopw [10, 47] (fun _ i wq => ∃ j : Nat, j ≤ M ∧ i = .int .i64 j ∧ RowRo wq gr cap (mixL l j) ∧ w2.grownBy wq (some gr)) (fun _ i _ => M - (intOf i).toNat)
        case atStart => exact ⟨0, Nat.zero_le _, rfl, unhide HF3, gb_refl _ _⟩
        case round =>
          obtain ⟨j, hj, rfl, hRR, hgb⟩ := hrel
          by_cases hjl : j < M
          · obtain ⟨sp, hrr, hcl⟩ := hRR
            have hjl2 : j < l.length := by rw [unhide HLM]; exact hjl
            have hml := mixL_len (l := l) (k := j) (by omega)
            have r := row_ro hrr (i := j) (by rw [hml]; exact hjl2)
            have HKJ : Hid (((mixL l j).getD j ro0).key = (l.getD j ve0).ke) := mixL_key hjl2
            have HXJ : Hid ((mixL l j).getD j ro0 = roF (l.getD j ve0)) := mixL_hi (Nat.le_refl _) hjl2
            have hfz := fun i => fz_of hrr i
            have HROW := hide hrr
            have HCL := hide hcl
            have HML := hide hml
            obtain ⟨Z, hZ⟩ : ∃ Z, (mixL l j).getD j ro0 = Z := ⟨_, rfl⟩
            rw [hZ] at r HKJ HXJ
            have d4 := r.c4
            have HGB := hide hgb
            cases j with
            | zero =>
              clear hml hcl hrr hgb hZ
              have HA : Hid (latAt l 0 = true) := latAt_0 l
              rw [Nat.zero_mul, Nat.zero_add] at d4
              go_wp2
              have f4 := hfz 4
              go_region
              generalize hWW : World.drew _ = W9
              have h9 : RowRo W9 gr cap (mixL l (0 + 1)) ∧ w2.grownBy W9 (some gr) := by
                rw [← hWW]
                refine ⟨⟨sp, ?_, ?_⟩, gb_trans (gb_trans (unhide HGB) (gb_setCell _ _ _ _)) (gb_drew _ _)⟩
                · rw [mixL_set hjl2]
                  exact rw_put1 roL 7 (fun _ => rfl) ro0 (roOf (l.getD (0) ve0) (latAt l (0))) _ (unhide HROW) (by rw [unhide HML]; exact hjl2) (j := 4) (by decide) (by rw [mixL_hi (Nat.le_refl _) hjl2, unhide HA]; rfl)
                · have h1 := mixL_len (l := l) (k := 0 + 1) (by omega)
                  rw [← unhide HCL, List.length_append, List.length_append, flat_len2 roL 7 (fun _ => rfl), flat_len2 roL 7 (fun _ => rfl), h1, unhide HML]
              clear hWW hfz
              go_wp2
              go_roundw
              case rel => exact ⟨0 + 1, by omega, by go_num, h9.1, h9.2⟩
              case measure => (simp [intOf] <;> omega)
            | succ m =>
              have hm2 : m < l.length := by omega
              have s := row_ro hrr (i := m) (by rw [hml]; exact hm2)
              have HKM : Hid (((mixL l (m + 1)).getD m ro0).key = (l.getD m ve0).ke) := mixL_key hm2
              obtain ⟨Y, hY⟩ : ∃ Y, (mixL l (m + 1)).getD m ro0 = Y := ⟨_, rfl⟩
              rw [hY] at s HKM
              have d0 := r.c0
              have e0 := s.c0
              clear hml hcl hrr hgb hZ hY r s
              have f4 := hfz ((m + 1) * 7 + 4)
              have HA2 : Hid (latAt l (m + 1) = !(Y.key.toList == Z.key.toList)) := by show _ = _; rw [latAt_s, ← unhide HKM, ← unhide HKJ]; rfl
              have hb0 : (0 : Int) ≤ (m : Int) := Int.natCast_nonneg _
              have hb1 : (m : Int) < (M : Int) := by omega
              have hb2 : (0 : Int) ≤ (m : Int) + 1 := by omega
              have hb3 : (m : Int) + 1 < (M : Int) := by omega
              have hne0 : ((m : Int) + 1 == 0) = false := by simp; omega
              have hcast : ((m + 1 : Nat) : Int) = (m : Int) + 1 := by omega
              rw [hcast]
              clear hcast
              go_wp2
              go_region
              generalize hWW : World.drew _ = W9
              have h9 : RowRo W9 gr cap (mixL l (m + 1 + 1)) ∧ w2.grownBy W9 (some gr) := by
                rw [← hWW]
                refine ⟨⟨sp, ?_, ?_⟩, gb_trans (gb_trans (unhide HGB) (gb_setCell _ _ _ _)) (gb_drew _ _)⟩
                · rw [mixL_set hjl2]
                  exact rw_put1 roL 7 (fun _ => rfl) ro0 (roOf (l.getD (m + 1) ve0) (latAt l (m + 1))) _ (unhide HROW) (by rw [unhide HML]; exact hjl2) (j := 4) (by decide) (by rw [mixL_hi (Nat.le_refl _) hjl2, unhide HA2]; rfl)
                · have h1 := mixL_len (l := l) (k := m + 1 + 1) (by omega)
                  rw [← unhide HCL, List.length_append, List.length_append, flat_len2 roL 7 (fun _ => rfl), flat_len2 roL 7 (fun _ => rfl), h1, unhide HML]
              clear hWW hfz
              go_wp2
              go_roundw
              case rel => exact ⟨m + 1 + 1, by omega, by go_num, h9.1, h9.2⟩
              case measure => (simp [intOf] <;> omega)
          · obtain rfl : j = M := by omega
            rw [← unhide HLM, mixL_n] at hRR
            have hcp := hnc
            go_wp2
            go_ret
            rw [unhide HLL]
            refine ⟨_, rfl, ?_, bl_tr hw2 (gb_lo hgb hw2.size (fun j e => by injection e with e; omega))⟩
            have h := ro_of (B := w.heap.size) hRR (by omega) (by unfold rowsL; rw [rowsK_len, unhide HLM]; exact hcp) hcap
            rw [show (rowsL l).length = l.length by unfold rowsL; rw [rowsK_len], unhide HLM] at h
            exact h
end Go.Proofs.YtdgmdapijhbocaaGreat
