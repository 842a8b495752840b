/- list.rowsOf. -/
import Derived.Test.YtdgmdapijhbocaaGreatG17
import Derived.BigRegion
import Derived.Test.YtdgmdapijhbocaaGreatG6
import Derived.Test.YtdgmdapijhbocaaGreatG3
import Derived.Test.YtdgmdapijhbocaaGreatG5
import Derived.Lib.Bytealg
namespace Go.Proofs.YtdgmdapijhbocaaGreat
open Go.RowKit Go.Maps
set_option maxRecDepth 100000
set_option linter.unusedVariables false
set_option linter.unusedSimpArgs false
theorem ro_up {w w' : World} {B : Nat} {v : Value} {xs : List Ro} (h : OwRo w B v xs) (hb : Below w.heap.size w w') : OwRo w' B v xs := World.ownsRow.kept h (gb_below (r := none) hb) (Classical.em _)
theorem ro_lo {w : World} {B B' : Nat} {v : Value} {xs : List Ro} (h : OwRo w B v xs) (hB : B' ≤ B) : OwRo w B' v xs := by
  refine ⟨h.1, ?_⟩
  rcases h.2 with h0 | ⟨g, cap, cur, e1, hb, r⟩
  · exact .inl h0
  · exact .inr ⟨g, cap, cur, e1, Nat.le_trans hB hb, r⟩
theorem ro_nil (w : World) (B : Nat) : OwRo w B (.slice none 0 0) [] := ⟨by simp, .inl ⟨rfl, rfl⟩⟩
theorem ro_form {w : World} {B : Nat} {v : Value} {xs : List Ro} (h : OwRo w B v xs) : ∃ a cap, v = .slice a xs.length cap ∧ xs.length ≤ cap ∧ cap ≤ maxLen := by
  rcases h.2 with ⟨rfl, h0⟩ | ⟨g, cap, cur, rfl, _, _, h1, h2, _⟩
  · exact ⟨_, 0, by rw [h0], by omega, Nat.zero_le _⟩
  · exact ⟨_, cap, rfl, h1, h2⟩
/-- A row of one's own is nothing, or a block. -/
theorem ro_row {w : World} {B : Nat} {v : Value} {xs : List Ro} (h : OwRo w B v xs) (hn : xs ≠ []) : ∃ g cap, v = .slice (some ⟨g, 0, none⟩) xs.length cap ∧ B ≤ g ∧ RowRo w g cap xs ∧ cap ≤ 9223372036854775807 ∧ xs.length ≤ cap := by
  obtain ⟨g, cap, sp, e, hB, hr, hl, hc, hnc, _⟩ := own_row h (List.length_pos_iff.2 hn)
  exact ⟨g, cap, e, hB, ⟨sp, hr, by rw [List.length_append]; exact hl⟩, hc, hnc⟩
theorem ro_of {w : World} {B g cap : Nat} {xs : List Ro} (h : RowRo w g cap xs) (hB : B ≤ g) (hn : xs.length ≤ cap) (hc : cap ≤ 9223372036854775807) : OwRo w B (.slice (some ⟨g, 0, none⟩) xs.length cap) xs := by
  obtain ⟨sp, hr, hl⟩ := h
  have hf := flat_len2 roL 7 (fun _ => rfl) xs
  refine ⟨hf, .inr ⟨g, cap, _, rfl, hB, hr, hn, by unfold maxLen; omega, by simpa using hl, ?_⟩⟩
  exact List.take_left' hf
theorem ro_lst {w : World} {B : Nat} {v : Value} {xs : List Ro} (h : OwRo w B v xs) : Lst RRo 7 ro0 w v xs :=
  own_lst (fun _ => rfl) h fun g p x hx k => ⟨k 0 (by decide), k 1 (by decide), k 2 (by decide), k 3 (by decide), k 4 (by decide), k 5 (by decide), k 6 (by decide)⟩
set_option maxHeartbeats 4000000 in
theorem rowsOf_any (S : St) (b v u q g : Value) (nm pre : ByteArray) (w : World) (hS : Sta w b v u q g S) (hok : stC S = true) (hp : pre.size ≤ maxLen) :
    Calls Tryz.prog 41 #[stV S b v u q g, .string nm, .string pre] w fun e w' => ∃ o, e = .returned o ∧ OwRo w' w.heap.size o (rowsL (sv S nm pre)) ∧ Below w.heap.size w w' := by
  obtain ⟨va, vc, rfl, hv1, hv2⟩ := hS.ves.form
  unfold maxLen at hv2
  obtain ⟨i0, hi, hz0, hz1, hz2⟩ := info_parts infoRo
  have HV := hide hS.ves
  have HP := hide hp
  have hlen := tstC_len hok
  have HOK := hide hok
  have HSV : Hid ((sv S nm pre).length = (l0K S nm pre S.ves.length).length) := by show _ = _; rw [sv_len, l0_all, List.length_map]
  clear hS hp hok
  obtain ⟨N, hN⟩ : ∃ N, S.ves.length = N := ⟨_, rfl⟩
  rw [hN] at hlen hv1 HV HSV ⊢
  have HN := hide hN
  clear hN
  go_enter Tryz.func41, Tryz.ntmps41
  go_wp2
  have hw0 := bl1 w (.cells #[.int .i64 S.next, .int .i64 S.clock, b, .slice va N vc, u, q, g] 29)
  obtain ⟨W, hW⟩ : ∃ W, w.alloc (.cells #[.int .i64 S.next, .int .i64 S.clock, b, .slice va N vc, u, q, g] 29) = W := ⟨_, rfl⟩
  rw [hW] at hw0 ⊢
  clear hW
  go_loopw [7, 9, 14] (fun o _ i wr => ∃ k : Nat, k ≤ N ∧ i = .int .i64 k ∧ Below W.heap.size W wr ∧ OwRo wr W.heap.size o (l0K S nm pre k)) (fun _ _ i _ => N - (intOf i).toNat)
  case atStart => exact ⟨0, Nat.zero_le _, rfl, Below.refl _ _, ro_nil _ _⟩
  case round =>
    obtain ⟨k, hk, rfl, hbq, hO⟩ := hrel
    have HOQ := hide hO
    clear hO
    by_cases hlt : k < N
    · have hlt' : k < S.ves.length := by rw [unhide HN]; exact hlt
      obtain ⟨b8, o8, e8, r0⟩ := Lst.at (unhide HV) hlt'
      obtain ⟨X, hX⟩ : ∃ X, S.ves.getD k ve0 = X := ⟨_, rfl⟩
      rw [hX] at r0
      have HX := hide hX
      subst e8
      have r := RVe.up (bl_trans hw0 hbq) r0
      obtain ⟨U, hu, hI⟩ := r.c8
      obtain ⟨ua, uc, rfl, _⟩ := hI.form
      have c0 := r.c0
      have c1 := r.c1
      have c2 := r.c2
      have c3 := r.c3
      have c4 := r.c4
      have c5 := r.c5
      have c6 := r.c6
      have c7 := r.c7
      have c9 := r.c9
      have c10 := r.c10
      have c11 := r.c11
      have HS2 := hide r.s2
      clear r r0 hI hX
      have hWq := hbq.size
      have hln := l0_len S nm pre k
      go_upto_region 5 with fail
      generalize hWW : wr.alloc _ = W8
      have h8 : BoxV W8 wr.heap.size X (.slice ua X.sec.length uc) ∧ Below wr.heap.size wr W8 := by
        rw [← hWW]
        exact ⟨BoxV.new _ _ _ _, bl1 _ _⟩
      clear hWW c0 c1 c2 c3 c4 c5 c6 c7 c9 c10 c11 hu
      obtain ⟨hk8, hb8⟩ := h8
      have z0 := hk8.c0
      have z1 := hk8.c1
      have z2 := hk8.c2
      have z4 := hk8.c4
      have z5 := hk8.c5
      have z7 := hk8.c7
      have hw1 := bl_trans hbq hb8
      have HO1 := hide (ro_up (unhide HOQ) hb8)
      have hl8 := hk8.lt
      have hW1 := hw1.size
      clear hk8 HOQ hb8
      obtain ⟨vB, hvB⟩ : ∃ x, wr.heap.size = x := ⟨_, rfl⟩
      rw [hvB] at z0 z1 z2 z4 z5 z7 hl8 ⊢
      clear hvB
      have HSP : Hid (selP nm pre X = ((X.bu.toList == nm.toList) && pfB X.ke pre)) := rfl
      cases hn : (X.bu.toList == nm.toList)
      · have HZ : Hid (l0K S nm pre (k + 1) = l0K S nm pre k) := l0_no hlt' (by rw [unhide HX, unhide HSP, hn]; rfl)
        go_wp2
        go_roundw
        case rel => exact ⟨k + 1, by omega, by go_num, hw1, by rw [unhide HZ]; exact unhide HO1⟩
        case measure => (simp [intOf] <;> omega)
      cases hpf : pfB X.ke pre
      · have HZ : Hid (l0K S nm pre (k + 1) = l0K S nm pre k) := l0_no hlt' (by rw [unhide HX, unhide HSP, hn, hpf]; rfl)
        go_wp2_with fail
        refine (prefix_any X.ke pre _ (unhide HS2) (unhide HP)).mono ?_
        rintro e w9 ⟨rfl, rfl⟩
        rw [hpf]
        clear hpf
        go_wp2
        go_roundw
        case rel => exact ⟨k + 1, by omega, by go_num, hw1, by rw [unhide HZ]; exact unhide HO1⟩
        case measure => (simp [intOf] <;> omega)
      · have HZ : Hid (l0K S nm pre (k + 1) = l0K S nm pre k ++ [roF X]) := by
          show _ = _
          rw [l0_yes hlt' (by rw [unhide HX, unhide HSP, hn, hpf]; rfl), unhide HX]
        go_wp2_with fail
        refine (prefix_any X.ke pre _ (unhide HS2) (unhide HP)).mono ?_
        rintro e w9 ⟨rfl, rfl⟩
        rw [hpf]
        clear hpf hn HSP
        obtain ⟨Q, hQ⟩ : ∃ Q, l0K S nm pre k = Q := ⟨_, rfl⟩
        rw [hQ] at HO1 HZ hln
        clear hQ
        obtain ⟨oa, oc, rfl, ho1, ho2⟩ := ro_form (unhide HO1)
        unfold maxLen at ho2
        go_wp2_with (first
          | (at_builtin; refine wpList_append_own _ rfl _ _ 56 rfl W.heap.size 61 i0 (.agg zeroRo) 7 56 Tryz.underlying56 hi hz0 hz1 hz2 rfl (by decide) _ _ _ rfl ((unhide HO1).alloc _) ⟨W8.heap.size, 0, none⟩ 1 1 [.string X.ke, .bool false, .int .i64 X.id, .bool X.mar, .bool false, .int .i64 X.size, .int .i64 X.tier] rfl rfl (fun j u hj => by rw [addI, Nat.zero_add]; exact cell_of (heap_alloc_new _ _) j (by simpa using hj)) (by simp [Value.oneCell']) (by unfold maxLen; omega) (by omega) (by simp; omega) ?_; intro v' w1' hown' hgrow hnil)
          | go_in)
        have hb1 := (bl_alloc hw1 _).grown hgrow (bl_alloc hw1 _).size (fun j hj => ((unhide HO1).lt j hj).1)
        clear hgrow hnil
        exact ⟨⟨k + 1, by omega, by go_num, hb1, by rw [unhide HZ]; unfold OwRo; rw [List.length_append, List.flatMap_append]; show World.ownsRow _ _ _ _ _ (Q.length + 1) (Q.flatMap roL ++ (roL (roF X) ++ [])); rw [List.append_nil]; exact hown'⟩, by simp [intOf]; omega⟩
    · obtain rfl : k = N := by omega
      have hw1 := bl_trans hw0 hbq
      have HL0 : Hid (l0K S nm pre k = (selV S nm pre).map roF) := by show _ = _; rw [← l0_all, unhide HN]
      have hln := l0_len S nm pre k
      obtain ⟨L, hL⟩ : ∃ L, l0K S nm pre k = L := ⟨_, rfl⟩
      obtain ⟨l, hl⟩ : ∃ l, sv S nm pre = l := ⟨_, rfl⟩
      rw [hL] at HOQ HL0 HSV hln
      rw [hl] at HSV
      have HLL := hide hl
      have hWs := hw0.size
      clear hL hl
      by_cases hne : L = []
      · subst hne
        obtain ⟨oa, oc, rfl, ho1, ho2⟩ := ro_form (unhide HOQ)
        have hl0 : Hid (l = []) := List.eq_nil_of_length_eq_zero (unhide HSV)
        have hz : ([] : List Ro).length = 0 := rfl
        rw [hz] at HOQ ⊢
        clear hz ho1 ho2
        go_wp2_with fail
        refine (sort_none _ _ _).mono ?_
        rintro e w2 ⟨rfl, rfl⟩
        go_wp2
        go_loopw [10, 47] (fun _ i wq => i = .int .i64 0 ∧ Below w2.heap.size w2 wq) (fun _ _ _ => 0)
        case atStart => exact ⟨rfl, Below.refl _ _⟩
        case round =>
          obtain ⟨rfl, hbr⟩ := hrel
          go_wp2
          go_ret
          rw [unhide HLL, unhide hl0]
          exact ⟨_, rfl, ro_lo (ro_up (unhide HOQ) hbr) hWs, bl_trans hw1 hbr⟩
      · obtain ⟨gr, cap, rfl, hgB, hR, hcap, hnc⟩ := ro_row (unhide HOQ) hne
        have HRR := hide hR
        obtain ⟨M, hM⟩ : ∃ M, L.length = M := ⟨_, rfl⟩
        have HM := hide hM
        have HST := hide (sort_any gr cap L wr hR (by omega))
        have hM0 : 0 < M := by rw [← hM]; exact List.length_pos_iff.2 hne
        rw [hM] at hln hnc HST ⊢
        clear hR hM hne HOQ
        go_wp2_with fail
        refine (unhide HST).mono ?_
        rintro e w2 ⟨rfl, F, hF1, hF2, hF3, hg2⟩
        have hFe : F = mixL l 0 := by rw [mixL_0, ← unhide HLL]; exact sort_is (unhide HOK) nm pre (by rw [← unhide HL0]; exact hF1) hF2
        rw [hFe] at hF3
        have HF3 := hide hF3
        have HLM : Hid (l.length = M) := by show _ = _; rw [unhide HSV, unhide HM]
        have hw2 : Below w.heap.size w w2 := bl_tr hw1 (gb_lo hg2 (by have := hw1.size; omega) (fun j e => by injection e with e; omega))
        clear hFe hF1 hF2 hF3 hg2 HST
        go_wp2
        go_loopw [10, 47] (fun _ i wq => ∃ j : Nat, j ≤ M ∧ i = .int .i64 j ∧ RowRo wq gr cap (mixL l j) ∧ w2.grownBy wq (some gr)) (fun _ i _ => M - (intOf i).toNat)
        case atStart => exact ⟨0, Nat.zero_le _, rfl, unhide HF3, gb_refl _ _⟩
        case round =>
          obtain ⟨j, hj, rfl, hRR, hgb⟩ := hrel
          by_cases hjl : j < M
          · obtain ⟨sp, hrr, hcl⟩ := hRR
            have hjl2 : j < l.length := by rw [unhide HLM]; exact hjl
            have hml := mixL_len (l := l) (k := j) (by omega)
            have r := row_ro hrr (i := j) (by rw [hml]; exact hjl2)
            have HKJ : Hid (((mixL l j).getD j ro0).key = (l.getD j ve0).ke) := mixL_key hjl2
            have HXJ : Hid ((mixL l j).getD j ro0 = roF (l.getD j ve0)) := mixL_hi (Nat.le_refl _) hjl2
            have hfz := fun i => fz_of hrr i
            have HROW := hide hrr
            have HCL := hide hcl
            have HML := hide hml
            obtain ⟨Z, hZ⟩ : ∃ Z, (mixL l j).getD j ro0 = Z := ⟨_, rfl⟩
            rw [hZ] at r HKJ HXJ
            have d4 := r.c4
            have HGB := hide hgb
            cases j with
            | zero =>
              clear hml hcl hrr hgb hZ
              have HA : Hid (latAt l 0 = true) := latAt_0 l
              rw [Nat.zero_mul, Nat.zero_add] at d4
              go_wp2
              have f4 := hfz 4
              go_region
              generalize hWW : World.drew _ = W9
              have h9 : RowRo W9 gr cap (mixL l (0 + 1)) ∧ w2.grownBy W9 (some gr) := by
                rw [← hWW]
                refine ⟨⟨sp, ?_, ?_⟩, gb_trans (gb_trans (unhide HGB) (gb_setCell _ _ _ _)) (gb_drew _ _)⟩
                · rw [mixL_set hjl2]
                  exact rw_put1 roL 7 (fun _ => rfl) ro0 (roOf (l.getD (0) ve0) (latAt l (0))) _ (unhide HROW) (by rw [unhide HML]; exact hjl2) (j := 4) (by decide) (by rw [mixL_hi (Nat.le_refl _) hjl2, unhide HA]; rfl)
                · have h1 := mixL_len (l := l) (k := 0 + 1) (by omega)
                  rw [← unhide HCL, List.length_append, List.length_append, flat_len2 roL 7 (fun _ => rfl), flat_len2 roL 7 (fun _ => rfl), h1, unhide HML]
              clear hWW hfz
              go_wp2
              go_roundw
              case rel => exact ⟨0 + 1, by omega, by go_num, h9.1, h9.2⟩
              case measure => (simp [intOf] <;> omega)
            | succ m =>
              have hm2 : m < l.length := by omega
              have s := row_ro hrr (i := m) (by rw [hml]; exact hm2)
              have HKM : Hid (((mixL l (m + 1)).getD m ro0).key = (l.getD m ve0).ke) := mixL_key hm2
              obtain ⟨Y, hY⟩ : ∃ Y, (mixL l (m + 1)).getD m ro0 = Y := ⟨_, rfl⟩
              rw [hY] at s HKM
              have d0 := r.c0
              have e0 := s.c0
              clear hml hcl hrr hgb hZ hY r s
              have f4 := hfz ((m + 1) * 7 + 4)
              have HA2 : Hid (latAt l (m + 1) = !(Y.key.toList == Z.key.toList)) := by show _ = _; rw [latAt_s, ← unhide HKM, ← unhide HKJ]; rfl
              have hb0 : (0 : Int) ≤ (m : Int) := Int.natCast_nonneg _
              have hb1 : (m : Int) < (M : Int) := by omega
              have hb2 : (0 : Int) ≤ (m : Int) + 1 := by omega
              have hb3 : (m : Int) + 1 < (M : Int) := by omega
              have hne0 : ((m : Int) + 1 == 0) = false := by simp; omega
              have hcast : ((m + 1 : Nat) : Int) = (m : Int) + 1 := by omega
              rw [hcast]
              clear hcast
              go_wp2
              go_region
              generalize hWW : World.drew _ = W9
              have h9 : RowRo W9 gr cap (mixL l (m + 1 + 1)) ∧ w2.grownBy W9 (some gr) := by
                rw [← hWW]
                refine ⟨⟨sp, ?_, ?_⟩, gb_trans (gb_trans (unhide HGB) (gb_setCell _ _ _ _)) (gb_drew _ _)⟩
                · rw [mixL_set hjl2]
                  exact rw_put1 roL 7 (fun _ => rfl) ro0 (roOf (l.getD (m + 1) ve0) (latAt l (m + 1))) _ (unhide HROW) (by rw [unhide HML]; exact hjl2) (j := 4) (by decide) (by rw [mixL_hi (Nat.le_refl _) hjl2, unhide HA2]; rfl)
                · have h1 := mixL_len (l := l) (k := m + 1 + 1) (by omega)
                  rw [← unhide HCL, List.length_append, List.length_append, flat_len2 roL 7 (fun _ => rfl), flat_len2 roL 7 (fun _ => rfl), h1, unhide HML]
              clear hWW hfz
              go_wp2
              go_roundw
              case rel => exact ⟨m + 1 + 1, by omega, by go_num, h9.1, h9.2⟩
              case measure => (simp [intOf] <;> omega)
          · obtain rfl : j = M := by omega
            rw [← unhide HLM, mixL_n] at hRR
            have hcp := hnc
            go_wp2
            go_ret
            rw [unhide HLL]
            refine ⟨_, rfl, ?_, bl_tr hw2 (gb_lo hgb hw2.size (fun j e => by injection e with e; omega))⟩
            have h := ro_of (B := w.heap.size) hRR (by omega) (by unfold rowsL; rw [rowsK_len, unhide HLM]; exact hcp) hcap
            rw [show (rowsL l).length = l.length by unfold rowsL; rw [rowsK_len], unhide HLM] at h
            exact h
end Go.Proofs.YtdgmdapijhbocaaGreat

/- list.check, list.page, list.shared. -/
namespace Go.Proofs.YtdgmdapijhbocaaGreat
open Go.RowKit Go.Maps
set_option maxRecDepth 100000
set_option linter.unusedVariables false
set_option linter.unusedSimpArgs false
set_option maxHeartbeats 1000000 in
theorem index_lcheck_1 (C1 : Value) (a : Option Addr) (cap : Nat) (xs : List Bu) (p : Nat → Bool) (w : World) (hL : Lst RBu 5 bu0 w (.slice a xs.length cap) xs) (hn : xs.length ≤ 9223372036854775807)
    (hst : ∀ (k : Nat) (wr : World) (X : Bu), k < xs.length → xs.getD k bu0 = X → Below w.heap.size w wr → Calls Tryz.prog 105 #[buV X, C1] wr fun e w' => e = .returned (.bool (p k)) ∧ Below wr.heap.size wr w') :
    Calls Tryz.prog 152 #[.slice a xs.length cap, .func (.func 105) #[] #[C1]] w fun e w' => e = .returned (.int .i64 (firstI xs.length p)) ∧ Below w.heap.size w w' := by
  have HL := hide hL
  have HST := hide hst
  clear hL hst
  obtain ⟨N, hN⟩ : ∃ N, xs.length = N := ⟨_, rfl⟩
  have HN := hide hN
  rw [hN] at hn HL HST ⊢
  clear hN
  go_enter Tryz.func152, Tryz.ntmps152
  go_wp2
  go_loopw [5, 8] (fun _ i wr => ∃ k : Nat, k ≤ N ∧ i = .int .i64 k ∧ Below w.heap.size w wr ∧ ∀ j, j < k → p j = false) (fun _ i _ => N - (intOf i).toNat)
  case atStart => exact ⟨0, Nat.zero_le _, rfl, Below.refl _ _, fun j hj => absurd hj (Nat.not_lt_zero _)⟩
  case round =>
    obtain ⟨k, hk, rfl, hb, hall⟩ := hrel
    have HA := hide hall
    clear hall
    by_cases hlt : k < N
    · obtain ⟨b, o, rfl, r0⟩ := Lst.at (unhide HL) (i := k) (by rw [unhide HN]; exact hlt)
      obtain ⟨X, hX⟩ : ∃ X, xs.getD k bu0 = X := ⟨_, rfl⟩
      rw [hX] at r0
      have r := RBu.up hb r0
      have HX := hide hX
      clear hX r0
      have hI := hb
      have c0 := r.c0
      have c1 := r.c1
      have c2 := r.c2
      have c3 := r.c3
      have c4 := r.c4
      have HI := hide hI
      clear r hI
      go_wp2_with fail
      refine (unhide HST k _ X hlt (unhide HX) (unhide HI)).mono ?_
      rintro e w1 ⟨rfl, hb1⟩
      cases hpk : p k
      · go_wp2
        go_roundw
        case rel => exact ⟨k + 1, by omega, by go_num, bl_trans hb hb1, fun j hj => if e : j < k then unhide HA j e else (show j = k by omega) ▸ hpk⟩
        case measure => simp [intOf]; omega
      · go_wp2
        go_ret
        exact ⟨ret_int (firstI_t hlt hpk (unhide HA)).symm, bl_trans hb hb1⟩
    · obtain rfl : k = N := by omega
      go_wp2
      go_ret
      exact ⟨ret_int (firstI_f (unhide HA)).symm, hb⟩
theorem contains_lcheck_1 (C1 : Value) (a : Option Addr) (cap : Nat) (xs : List Bu) (p : Nat → Bool) (w : World) (hL : Lst RBu 5 bu0 w (.slice a xs.length cap) xs) (hn : xs.length ≤ 9223372036854775807)
    (hst : ∀ (k : Nat) (wr : World) (X : Bu), k < xs.length → xs.getD k bu0 = X → Below w.heap.size w wr → Calls Tryz.prog 105 #[buV X, C1] wr fun e w' => e = .returned (.bool (p k)) ∧ Below wr.heap.size wr w') :
    Calls Tryz.prog 104 #[.slice a xs.length cap, .func (.func 105) #[] #[C1]] w fun e w' => e = .returned (.bool (decide (0 ≤ firstI xs.length p))) ∧ Below w.heap.size w w' := by
  have HL := hide hL
  have HST := hide hst
  have HN := hide hn
  clear hL hst hn
  go_enter Tryz.func104, Tryz.ntmps104
  go_wp2_with fail
  refine (index_lcheck_1 C1 a cap xs p w (unhide HL) (unhide HN) (unhide HST)).mono ?_
  rintro e w1 ⟨rfl, hb⟩
  go_wp2
  go_ret
  exact ⟨rfl, hb⟩
theorem lcheck_1 (X : Bu) (nm : ByteArray) (B : Nat) (w : World) (h : w.cell? ⟨B, 0, none⟩ = some (.string nm)) : Calls Tryz.prog 105 #[buV X, .pointer (some ⟨B, 0, none⟩)] w fun e w' => e = .returned (.bool (eqS X.nam nm)) ∧ Below w.heap.size w w' := by
  have hB := World.block_lt_of_cell? w _ h
  simp at hB
  go_enter Tryz.func105, Tryz.ntmps105
  go_wp2
  go_ret
  exact ⟨rfl, bl1 _ _⟩
/-- What is refused of both. -/
def lchE (S : St) (nm pre : ByteArray) (m : Int) : Int := if stE S = 0 then (if hasB S nm then (if rulE pre 0 0 = 0 then (if inB m 1 50 then 0 else 2) else rulE pre 0 0) else 6) else stE S
set_option maxHeartbeats 1000000 in
theorem lcheck_any (S : St) (b v u q g : Value) (nm pre : ByteArray) (m : Int) (w : World) (hS : Sta w b v u q g S) (hp : pre.size ≤ maxLen) :
    Calls Tryz.prog 40 #[stV S b v u q g, .string nm, .string pre, .int .i64 m] w fun e w' => e = .returned (.int .i64 (lchE S nm pre m)) ∧ Below w.heap.size w w' := by
  obtain ⟨ba, bc, rfl, hb1, hb2⟩ := hS.bus.form
  unfold maxLen at hb2
  have HS := hide hS
  have HP := hide hp
  have HE : Hid (lchE S nm pre m = if stE S = 0 then (if hasB S nm then (if rulE pre 0 0 = 0 then (if inB m 1 50 then 0 else 2) else rulE pre 0 0) else 6) else stE S) := rfl
  obtain ⟨E, hE⟩ : ∃ E, lchE S nm pre m = E := ⟨_, rfl⟩
  obtain ⟨F, hF⟩ : ∃ F, stE S = F := ⟨_, rfl⟩
  obtain ⟨R, hR⟩ : ∃ R, rulE pre 0 0 = R := ⟨_, rfl⟩
  obtain ⟨H, hH⟩ : ∃ H, hasB S nm = H := ⟨_, rfl⟩
  have HF := hide hF
  have HR := hide hR
  have HH : Hid (decide (0 ≤ firstI S.bus.length (buP S.bus nm)) = H) := hH
  rw [hE, hF, hR, hH] at HE
  rw [hE]
  clear hS hp hE hF hR hH
  go_enter Tryz.func40, Tryz.ntmps40
  go_wp2_with fail
  have hw0 : Below w.heap.size w ((w.alloc (.cells #[.int .i64 S.next, .int .i64 S.clock, .slice ba S.bus.length bc, v, u, q, g] 29)).alloc (.cells #[.string nm] 9)) := bl_alloc (bl1 _ _) _
  refine (check_any S _ v u q g _ ((unhide HS).up hw0)).mono ?_
  rintro e w1 ⟨rfl, hb⟩
  have hw1 := bl_trans hw0 hb
  have x2 := box2a hb 2 rfl
  have n0 := box2b hb 0 rfl
  rw [unhide HF]
  clear hb hw0
  have hs1 := hw1.size
  by_cases h0 : F = 0
  case neg =>
    have HEE : Hid (E = F) := by show _ = _; rw [unhide HE, if_neg h0]
    go_wp2
    go_ret
    exact ⟨ret_int (unhide HEE).symm, hw1⟩
  subst h0
  rw [if_pos rfl] at HE
  go_wp2_with fail
  refine (contains_lcheck_1 _ ba bc S.bus (buP S.bus nm) _ ((unhide HS).up hw1).bus (by omega) fun k wr X hk hX hbr => ?_).mono ?_
  · subst hX
    exact lcheck_1 _ nm _ wr (scell_up hbr n0)
  rintro e w2 ⟨rfl, hb⟩
  rw [unhide HH]
  have hw2 := bl_trans hw1 hb
  clear hb x2 n0
  cases H
  · have HEE : Hid (E = 6) := by show _ = _; rw [unhide HE]; rfl
    go_wp2
    go_ret
    exact ⟨ret_int (unhide HEE).symm, hw2⟩
  rw [if_pos rfl] at HE
  go_wp2_with fail
  refine (checkRule_any pre 0 0 _ (unhide HP)).mono ?_
  rintro e w3 ⟨rfl, hb⟩
  rw [unhide HR]
  have hw3 := bl_trans hw2 hb
  clear hb
  by_cases h0 : R = 0
  case neg =>
    have HEE : Hid (E = R) := by show _ = _; rw [unhide HE, if_neg h0]
    go_wp2
    go_ret
    exact ⟨ret_int (unhide HEE).symm, hw3⟩
  rw [if_pos h0] at HE
  subst h0
  cases hm : inB m 1 50
  · have HEE : Hid (E = 2) := by show _ = _; rw [unhide HE, hm]; rfl
    by_cases h1 : m < 1
    · go_wp2
      go_ret
      exact ⟨ret_int (unhide HEE).symm, hw3⟩
    · have h2 : 50 < m := by have := inB_f hm; omega
      go_wp2
      go_ret
      exact ⟨ret_int (unhide HEE).symm, hw3⟩
  · have HEE : Hid (E = 0) := by show _ = _; rw [unhide HE, hm]; rfl
    have hmb := inB_t hm
    clear hm
    go_wp2
    go_ret
    exact ⟨ret_int (unhide HEE).symm, hw3⟩
end Go.Proofs.YtdgmdapijhbocaaGreat

/- list.page, list.shared; strings.Index of one letter. -/
namespace Go.Proofs.YtdgmdapijhbocaaGreat
open Go.RowKit Go.Maps Go.PlainAid
set_option maxRecDepth 100000
set_option linter.unusedVariables false
set_option linter.unusedSimpArgs false
theorem page_any (a : Option Addr) (n c m : Nat) (w : World) (hn : n ≤ c) (hc : c ≤ 9223372036854775807) (hm : m ≤ 1000) :
    Calls Tryz.prog 43 #[.slice a n c, .int .i64 m] w fun e w' => e = .returned (.tuple #[.slice a (min n m) c, .bool (decide (m < n))]) ∧ w = w' := by
  by_cases h : n ≤ m
  · have hmin : min n m = n := by omega
    have hd : decide (m < n) = false := decide_eq_false (by omega)
    rw [hmin, hd]
    go_enter Tryz.func43, Tryz.ntmps43
    go_wp2
    go_ret2
    exact ⟨rfl, rfl⟩
  · have hmin : min n m = m := by omega
    have hd : decide (m < n) = true := decide_eq_true (by omega)
    have hmc : m ≤ c := by omega
    rw [hmin, hd]
    clear hmin hd
    go_enter Tryz.func43, Tryz.ntmps43
    go_wp2
    go_ret2
    exact ⟨rfl, rfl⟩
theorem firstIdx_at (s : ByteArray) (c : UInt8) : firstIdx s c = firstI s.size (fun i => bt s i == (c.toNat : Int)) := by
  have hp : ∀ i, i < s.size → (bt s i == (c.toNat : Int)) = (s[i]! == c) := fun i hi => by
    have e1 : s[i]! = s[i] := getElem!_pos s i hi
    rw [e1]
    unfold bt
    rw [dif_pos hi]
    cases h : (s[i] == c)
    · have h' : ¬ s[i] = c := by simpa using h
      rw [beq_eq_false_iff_ne]
      intro e
      exact h' (UInt8.toNat_inj.1 (by omega))
    · have h' : s[i] = c := by simpa using h
      rw [h']
      simp
  unfold firstIdx
  cases hf : (List.range s.size).find? fun i => s[i]! == c with
  | none =>
    rw [List.find?_eq_none] at hf
    refine (firstI_f fun j hj => ?_).symm
    rw [hp j hj]
    have := hf j (List.mem_range.2 hj)
    simpa using this
  | some k =>
    have h1 := List.find?_some hf
    obtain ⟨hk, hlt⟩ := (List.find?_range_eq_some.1 hf).2
    rw [List.mem_range] at hk
    refine (firstI_t hk ?_ fun j hj => ?_).symm
    · rw [hp k hk]; exact h1
    · rw [hp j (by omega)]
      have := hlt j hj
      simpa using this
theorem bt_cut (s : ByteArray) {p i : Nat} (hp : p ≤ s.size) (hi : i < s.size - p) : bt (s.extract p s.size) i = bt s (p + i) := by
  unfold bt
  have h1 : (s.extract p s.size).size = s.size - p := by simp
  rw [dif_pos (by omega), dif_pos (by omega)]
  simp [ByteArray.getElem_extract]
theorem sidxB_any (s : ByteArray) (c : UInt8) (w : World) : Calls Tryz.prog 184 #[.string s, .int .u8 (c.toNat : Int)] w fun e w' => e = .returned (.int .i64 (firstIdx s c)) ∧ w = w' := by
  have hc : ((c.toNat : Int).toNat.toUInt8) = c := by simp
  have hx : Sem.run Tryz.prog (callFunc 199 #[.string s, .int .u8 (c.toNat : Int)]) w = .ok (.value (.int .i64 (firstIdx s c))) w := by
    rw [run_callFunc_extern Tryz.func199 (by kernel_rfl) (by kernel_rfl) (by kernel_rfl) (e := Extern.BytealgIndexByte.indexByte) (by kernel_rfl), run_indexByte_string, hc]
    rfl
  obtain ⟨R, hR⟩ : ∃ R, firstIdx s c = R := ⟨_, rfl⟩
  rw [hR] at hx ⊢
  have HX := hide hx
  clear hR hc hx
  go_enter Tryz.func184, Tryz.ntmps184
  go_wp2
  rw [unhide HX, Oper.upon_value]
  go_wp2
  go_ret
  exact ⟨rfl, rfl⟩
theorem empT {s : ByteArray} (h : s.size = 0) : s.toList.isEmpty = true := by
  obtain ⟨⟨l⟩⟩ := s
  match l, h with
  | [], _ => rw [ByteArray.toList_eq]; rfl
theorem empF {s : ByteArray} (h : s.size = 1) : s.toList.isEmpty = false := by
  obtain ⟨⟨l⟩⟩ := s
  match l, h with
  | [x], _ => rw [ByteArray.toList_eq]; rfl
theorem bt_u8 {dl : ByteArray} (h : dl.size = 1) : ∃ c : UInt8, bt dl 0 = (c.toNat : Int) := ⟨dl[0], by unfold bt; rw [dif_pos (by omega)]⟩
set_option maxHeartbeats 1000000 in
theorem sidx1_any (s dl : ByteArray) (c : UInt8) (w : World) (hs : s.size ≤ maxLen) (hd : dl.size = 1) (hc : bt dl 0 = (c.toNat : Int)) : Calls Tryz.prog 158 #[.string s, .string dl] w fun e w' => e = .returned (.int .i64 (firstIdx s c)) ∧ w = w' := by
  unfold maxLen at hs
  have hg := get_bt dl 0 (by omega)
  rw [hc] at hg
  have hd1 : (dl.size : Int) = 1 := by omega
  cases t : (dl.toList == s.toList)
  · clear hc
    go_enter Tryz.func158, Tryz.ntmps158
    go_wp2_with fail
    refine (sidxB_any s c _).mono ?_
    rintro e w1 ⟨rfl, rfl⟩
    go_wp2
    go_ret
    exact ⟨rfl, rfl⟩
  · obtain rfl : dl = s := eqS_to t
    have h0 : firstIdx dl c = 0 := by
      rw [firstIdx_at]
      exact firstI_t (k := 0) (by omega) (by rw [hc]; simp) fun j hj => absurd hj (Nat.not_lt_zero _)
    rw [h0]
    clear h0 hc hg
    go_enter Tryz.func158, Tryz.ntmps158
    go_wp2
    go_ret
    exact ⟨rfl, rfl⟩
theorem sIndex_any (s dl : ByteArray) (c : UInt8) (w : World) (hs : s.size ≤ maxLen) (hd : dl.size = 1) (hc : bt dl 0 = (c.toNat : Int)) : Calls Tryz.prog 111 #[.string s, .string dl] w fun e w' => e = .returned (.int .i64 (firstIdx s c)) ∧ w = w' := by
  have HS := hide hs
  have HD := hide hd
  have HC := hide hc
  clear hs hd hc
  go_enter Tryz.func111, Tryz.ntmps111
  go_wp2_with fail
  refine (sidx1_any s dl c _ (unhide HS) (unhide HD) (unhide HC)).mono ?_
  rintro e w1 ⟨rfl, rfl⟩
  go_wp2
  go_ret
  exact ⟨rfl, rfl⟩
theorem posI_first {s dl : ByteArray} {c : UInt8} {p : Nat} (hp : p ≤ s.size) (hc : bt dl 0 = (c.toNat : Int)) : firstIdx (s.extract p s.size) c = posI s (bt dl 0) p := by
  have h1 : (s.extract p s.size).size = s.size - p := by simp
  rw [firstIdx_at, h1, hc]
  unfold posI
  rcases firstI_cases (s.size - p) (fun i => bt s (p + i) == (c.toNat : Int)) with ⟨h2, h3⟩ | ⟨k, hk, h2, h3, h4⟩
  · rw [h2]
    exact firstI_f fun j hj => by rw [bt_cut s hp hj]; exact h3 j hj
  · rw [h2]
    exact firstI_t hk (by rw [bt_cut s hp hk]; exact h3) fun j hj => by rw [bt_cut s hp (by omega)]; exact h4 j hj
theorem posI_bd {s : ByteArray} {c : Int} {p : Nat} (hp : p ≤ s.size) : posI s c p = -1 ∨ ∃ k : Nat, posI s c p = (k : Int) ∧ p + k < s.size := by
  unfold posI
  rcases firstI_cases (s.size - p) (fun i => bt s (p + i) == c) with ⟨h2, h3⟩ | ⟨k, hk, h2, h3, h4⟩
  · exact .inl h2
  · exact .inr ⟨k, h2, by omega⟩
set_option maxHeartbeats 1000000 in
theorem shared_any (r : Ro) (pre dl : ByteArray) (w : World) (hk : r.key.size ≤ maxLen) (hp : pre.size ≤ r.key.size) (hd : dl.size ≤ 1) :
    Calls Tryz.prog 42 #[roV r, .string pre, .string dl] w fun e w' => e = .returned (roV (shR r pre dl)) ∧ Below w.heap.size w w' := by
  unfold maxLen at hk
  by_cases h0 : dl.size = 0
  · have HE : Hid (shR r pre dl = r) := by show _ = _; unfold shR; rw [if_pos h0]
    have hdl := empT h0
    obtain ⟨R, hR⟩ : ∃ R, shR r pre dl = R := ⟨_, rfl⟩
    rw [hR] at HE ⊢
    clear hR h0 hd
    rw [unhide HE]
    clear HE
    go_enter Tryz.func42, Tryz.ntmps42
    go_wp2
    refine bodyPost_ret (v := roV r) (by simp [results, Tryz.results42, go_sem, *]) rfl ⟨rfl, bl_alloc (bl1 _ _) _⟩
  · have hd1 : dl.size = 1 := by omega
    obtain ⟨c, hc⟩ := bt_u8 hd1
    have HE : Hid (shR r pre dl = if posI r.key (bt dl 0) pre.size < 0 then r else ⟨r.key.extract 0 (pre.size + (posI r.key (bt dl 0) pre.size).toNat + 1), true, 0, false, false, 0, 0⟩) := by show _ = _; unfold shR; rw [if_neg h0]
    have HP := hide (posI_first hp hc)
    have hbd := posI_bd (c := bt dl 0) hp
    obtain ⟨R, hR⟩ : ∃ R, shR r pre dl = R := ⟨_, rfl⟩
    obtain ⟨P, hP⟩ : ∃ P, posI r.key (bt dl 0) pre.size = P := ⟨_, rfl⟩
    rw [hR] at HE ⊢
    rw [hP] at HP HE hbd
    have HD := hide hd1
    have HC := hide hc
    have hne := empF hd1
    clear hR hP h0 hd hc
    go_enter Tryz.func42, Tryz.ntmps42
    go_wp2_with fail
    refine (sIndex_any _ dl c _ (by simp [maxLen]; omega) (unhide HD) (unhide HC)).mono ?_
    rintro e w1 ⟨rfl, rfl⟩
    rw [unhide HP]
    clear HP
    rcases hbd with rfl | ⟨k, rfl, hkb⟩
    · have HR : Hid (R = r) := by show _ = _; rw [unhide HE, if_pos (by decide)]
      clear HE
      go_wp2
      rw [unhide HR]
      refine bodyPost_ret (v := roV r) (by simp [results, Tryz.results42, go_sem, *]) rfl ⟨rfl, bl_alloc (bl1 _ _) _⟩
    · have HR : Hid (R = ⟨r.key.extract 0 (pre.size + k + 1), true, 0, false, false, 0, 0⟩) := by show _ = _; rw [unhide HE, if_neg (by omega), Int.toNat_natCast]
      clear HE
      go_wp2
      rw [unhide HR]
      refine bodyPost_ret (v := roV ⟨r.key.extract 0 (pre.size + k + 1), true, 0, false, false, 0, 0⟩) (by simp [results, Tryz.results42, go_sem, *]) rfl ⟨rfl, bl_alloc (bl1 _ _) _⟩
end Go.Proofs.YtdgmdapijhbocaaGreat

/- list.Keys and list.Versions. -/
namespace Go.Proofs.YtdgmdapijhbocaaGreat
open Go.RowKit Go.Maps
set_option maxRecDepth 100000
set_option linter.unusedVariables false
set_option linter.unusedSimpArgs false
theorem ro_cut {w : World} {B : Nat} {a : Option Addr} {L cap : Nat} {xs : List Ro} (h : OwRo w B (.slice a L cap) xs) {k : Nat} (hk : k ≤ L) : OwRo w B (.slice a k cap) (xs.take k) := by
  have hl : xs.length = L := by
    rcases h.2 with ⟨e, h0⟩ | ⟨g, c, cur, e, _⟩
    · simp at e; omega
    · simp at e; omega
  subst hl
  have hk2 : (xs.take k).length = k := by simp; omega
  refine ⟨flat_len2 roL 7 (fun _ => rfl) _, ?_⟩
  rcases h.2 with ⟨e, h0⟩ | ⟨g, c, cur, e, hB, hg, hn, hc, hs, ht⟩
  · simp at e
    obtain ⟨rfl, h1, rfl⟩ := e
    refine .inl ⟨?_, by rw [hk2]; omega⟩
    rw [show k = 0 by omega]
  · simp at e
    obtain ⟨rfl, rfl⟩ := e
    refine .inr ⟨g, cap, cur, by rw [hk2], hB, hg, by rw [hk2]; omega, hc, hs, ?_⟩
    rw [hk2, ← flat_take roL 7 (fun _ => rfl) xs k hk, ← ht, List.take_take, Nat.min_eq_left (Nat.mul_le_mul_right _ hk)]
def pagR (E : Int) (R : List Ro) (m : Int) : List Ro := if E = 0 then R.take m.toNat else []
def morB (E : Int) (R : List Ro) (m : Int) : Bool := decide (E = 0 ∧ m < R.length)
theorem lch_ok {S : St} {nm pre : ByteArray} {m : Int} (h : lchE S nm pre m = 0) : stC S = true ∧ hasB S nm = true ∧ pre.size ≤ 16 ∧ 1 ≤ m ∧ m ≤ 50 := by
  unfold lchE at h
  by_cases h1 : stE S = 0
  · rw [if_pos h1] at h
    cases h2 : hasB S nm
    · rw [h2] at h; simp at h
    · rw [h2, if_pos rfl] at h
      by_cases h3 : rulE pre 0 0 = 0
      · rw [if_pos h3] at h
        cases h4 : inB m 1 50
        · rw [h4] at h; simp at h
        · refine ⟨?_, rfl, ?_, (inB_t h4).1, (inB_t h4).2⟩
          · cases k : stC S
            · rw [stE_f k] at h1; exact absurd h1 (by decide)
            · rfl
          · unfold rulE at h3
            split at h3
            · omega
            · exact absurd h3 (by decide)
      · rw [if_neg h3] at h; exact absurd h h3
  · rw [if_neg h1] at h; exact absurd h h1
theorem sv_mem {S : St} {nm pre : ByteArray} {x : Ve} (h : x ∈ sv S nm pre) : x ∈ S.ves ∧ selP nm pre x = true := by
  have := (srt_perm _).mem_iff.1 h
  exact List.mem_filter.1 this
theorem pfB_le {s t : ByteArray} (h : pfB s t = true) : t.size ≤ s.size := by
  unfold pfB at h
  split at h
  · assumption
  · cases h
theorem veC_key {S : St} {x : Ve} (h : veC S x = true) : 1 ≤ x.ke.size ∧ x.ke.size ≤ 16 := by
  unfold veC namC at h
  simp only [Bool.and_eq_true, beq_iff_eq] at h
  have hw := h.1.1.2
  unfold worE at hw
  split at hw
  · next q => have := inB_t q; omega
  · exact absurd hw (by decide)
theorem rows_key {S : St} (hok : stC S = true) (nm pre : ByteArray) {k : Nat} (hk : k < (rowsL (sv S nm pre)).length) : pre.size ≤ ((rowsL (sv S nm pre)).getD k ro0).key.size ∧ ((rowsL (sv S nm pre)).getD k ro0).key.size ≤ 16 := by
  have hl : (rowsL (sv S nm pre)).length = (sv S nm pre).length := rowsK_len _ _
  have hm : (sv S nm pre).getD k ve0 ∈ sv S nm pre := mem_get (by omega)
  obtain ⟨h1, h2⟩ := sv_mem hm
  have e : (rowsL (sv S nm pre)).getD k ro0 = roOf ((sv S nm pre).getD k ve0) (latAt (sv S nm pre) k) := rowsK_at _ (by omega)
  rw [e]
  have h3 := veC_key (tstC_at hok h1)
  unfold selP at h2
  rw [Bool.and_eq_true] at h2
  exact ⟨pfB_le h2.2, h3.2⟩
theorem rows_len {S : St} (hok : stC S = true) (nm pre : ByteArray) : (rowsL (sv S nm pre)).length ≤ 40 := by
  have hl : (rowsL (sv S nm pre)).length = (sv S nm pre).length := rowsK_len _ _
  rw [hl, sv_len]
  have := List.length_filter_le (selP nm pre) S.ves
  have h2 := tstC_len hok
  unfold selV
  omega
theorem take_min9 {α : Type} (R : List α) {n k : Nat} (hn : R.length = n) : R.take k = R.take (min n k) := by rw [← hn, Nat.min_comm, ← List.take_eq_take_min]
set_option maxHeartbeats 1000000 in
theorem versions_any (S : St) (b v u q g : Value) (nm pre : ByteArray) (m : Int) (w : World) (hS : Sta w b v u q g S) (hp : pre.size ≤ maxLen) :
    Calls Tryz.prog 21 #[stV S b v u q g, .string nm, .string pre, .int .i64 m] w fun e w' => ∃ o, e = .returned (.tuple #[o, .bool (morB (lchE S nm pre m) (versL S nm pre) m), .int .i64 (lchE S nm pre m)]) ∧ OwRo w' w.heap.size o (pagR (lchE S nm pre m) (versL S nm pre) m) ∧ Below w.heap.size w w' := by
  have HS := hide hS
  have HP := hide hp
  have HOK : Hid (lchE S nm pre m = 0 → stC S = true ∧ hasB S nm = true ∧ pre.size ≤ 16 ∧ 1 ≤ m ∧ m ≤ 50) := lch_ok
  have HCK := hide (fun W (hW : Sta W b v u q g S) => lcheck_any S b v u q g nm pre m W hW hp)
  obtain ⟨E, hE⟩ : ∃ E, lchE S nm pre m = E := ⟨_, rfl⟩
  rw [hE] at HOK HCK ⊢
  clear hS hp hE
  go_enter Tryz.func21, Tryz.ntmps21
  go_wp2_with fail
  refine (unhide HCK _ ((unhide HS).up (bl1 _ _))).mono ?_
  rintro e w1 ⟨rfl, hb⟩
  have hX := (BoxS.new w S b v u q g 29).up hb
  have hw1 := bl_trans (bl1 w _) hb
  have x0 := hX.c0
  have x1 := hX.c1
  have x2 := hX.c2
  have x3 := hX.c3
  have x4 := hX.c4
  have x5 := hX.c5
  have x6 := hX.c6
  clear hX hb HCK
  by_cases h0 : E = 0
  case neg =>
    have hm : morB E (versL S nm pre) m = false := by unfold morB; simp [h0]
    have hpg : pagR E (versL S nm pre) m = [] := by unfold pagR; rw [if_neg h0]
    have HM := hide hm
    have HPG := hide hpg
    clear hm hpg
    go_wp2
    refine bodyPost_ret (v := .tuple #[.slice none 0 0, .bool false, .int .i64 E]) (by simp [results, Tryz.results21, go_sem, *]) rfl ⟨.slice none 0 0, ?_, ?_, hw1⟩
    · rw [unhide HM]
    · rw [unhide HPG]; exact ro_nil _ _
  subst h0
  obtain ⟨hok, hhas, hps, hm1, hm2⟩ := unhide HOK rfl
  have HRL := hide (rows_len hok nm pre)
  have HRO := hide (fun W (hW : Sta W b v u q g S) => rowsOf_any S b v u q g nm pre W hW hok (unhide HP))
  have HPG : Hid (pagR 0 (versL S nm pre) m = (rowsL (sv S nm pre)).take m.toNat) := by show _ = _; unfold pagR; rw [if_pos rfl]; rfl
  have HMO : Hid (morB 0 (versL S nm pre) m = decide (m < (rowsL (sv S nm pre)).length)) := by show _ = _; unfold morB; simp; rfl
  obtain ⟨R, hR⟩ : ∃ R, rowsL (sv S nm pre) = R := ⟨_, rfl⟩
  rw [hR] at HRL HRO HPG HMO
  clear hok hhas hR HOK
  go_wp2_with fail
  refine (unhide HRO _ ((unhide HS).up hw1)).mono ?_
  rintro e w2 ⟨o, rfl, hO, hb⟩
  have hw2 := bl_trans hw1 hb
  have HO := hide (ro_lo hO hw1.size)
  obtain ⟨oa, oc, rfl, ho1, ho2⟩ := ro_form hO
  unfold maxLen at ho2
  have hrl := unhide HRL
  obtain ⟨n, hn⟩ : ∃ n, R.length = n := ⟨_, rfl⟩
  have HN := hide hn
  obtain ⟨k, rfl⟩ := Int.eq_ofNat_of_zero_le (show 0 ≤ m by omega)
  rw [hn] at HO HMO ho1 hrl ⊢
  have HPA := hide (fun W => page_any oa n oc k W ho1 (by omega) (by omega))
  clear hO hb hn x0 x1 x2 x3 x4 x5 x6
  go_wp2_with fail
  refine (unhide HPA _).mono ?_
  rintro e w3 ⟨rfl, rfl⟩
  have HC := hide (ro_cut (unhide HO) (k := min n k) (Nat.min_le_left _ _))
  have HT : Hid (pagR 0 (versL S nm pre) (k : Int) = R.take (min n k)) := by show _ = _; rw [unhide HPG, Int.toNat_natCast]; exact take_min9 R (unhide HN)
  have HD : Hid (morB 0 (versL S nm pre) (k : Int) = decide (k < n)) := by show _ = _; rw [unhide HMO]; exact decide_eq_decide.2 (by omega)
  clear HPG HMO
  go_wp2
  refine bodyPost_ret (v := .tuple #[.slice oa (min n k) oc, .bool (decide (k < n)), .int .i64 0]) (by simp [results, Tryz.results21, go_sem, *]) rfl ⟨.slice oa (min n k) oc, ?_, ?_, hw2⟩
  · rw [unhide HD]
  · rw [unhide HT]; exact unhide HC
theorem compact_none (a : Option Addr) (c : Nat) (w : World) : Calls Tryz.prog 44 #[.slice a 0 c] w fun e w' => e = .returned (.slice a 0 c) ∧ w = w' := by
  go_enter Tryz.func44, Tryz.ntmps44
  go_wp2
  go_ret
  exact ⟨rfl, rfl⟩
def keyE (S : St) (nm pre dl : ByteArray) (m : Int) : Int := if lchE S nm pre m = 0 then (if 1 < dl.size then 1 else 0) else lchE S nm pre m
theorem ap_next {pre dl af : ByteArray} {R : List Ro} {k : Nat} (hk : k < R.length) : apL pre dl af (R.take (k + 1)) = apL pre dl af (R.take k) ++ (stepR pre dl af (R.getD k ro0)).toList := by
  unfold apL
  rw [take_next R ro0 hk, List.filterMap_append, List.filterMap_cons]
  cases stepR pre dl af (R.getD k ro0) <;> rfl
theorem ap_len (pre dl af : ByteArray) (R : List Ro) (k : Nat) : (apL pre dl af (R.take k)).length ≤ k := by
  unfold apL
  have := List.length_filterMap_le (stepR pre dl af) (R.take k)
  have h2 := List.length_take_le k R
  omega
theorem roA_set (w : World) (B : Nat) (T : TypeId) (r r' : Ro) (h : w.heap[B]? = some (.cells (roA r) T (0, 0))) : (w.setCells B 0 (roL r')).heap[B]? = some (.cells (roA r') T (0, 0)) := by
  have h1 := row_setCells (roL r') 0 w (roL r) h (by simp)
  simpa using h1
set_option maxHeartbeats 4000000 in
theorem keys_any (S : St) (b v u q g : Value) (nm pre dl af : ByteArray) (m : Int) (w : World) (hS : Sta w b v u q g S) (hp : pre.size ≤ maxLen) (hd : dl.size ≤ maxLen) :
    Calls Tryz.prog 17 #[stV S b v u q g, .string nm, .string pre, .string dl, .string af, .int .i64 m] w fun e w' => ∃ o, e = .returned (.tuple #[o, .bool (morB (keyE S nm pre dl m) (keysL S nm pre dl af) m), .int .i64 (keyE S nm pre dl m)]) ∧ OwRo w' w.heap.size o (pagR (keyE S nm pre dl m) (keysL S nm pre dl af) m) ∧ Below w.heap.size w w' := by
  have HS := hide hS
  have HP := hide hp
  have HOK : Hid (lchE S nm pre m = 0 → stC S = true ∧ hasB S nm = true ∧ pre.size ≤ 16 ∧ 1 ≤ m ∧ m ≤ 50) := lch_ok
  have HCK := hide (fun W (hW : Sta W b v u q g S) => lcheck_any S b v u q g nm pre m W hW hp)
  have HKE : Hid (keyE S nm pre dl m = if lchE S nm pre m = 0 then (if 1 < dl.size then 1 else 0) else lchE S nm pre m) := rfl
  obtain ⟨E, hE⟩ : ∃ E, lchE S nm pre m = E := ⟨_, rfl⟩
  obtain ⟨F, hF⟩ : ∃ F, keyE S nm pre dl m = F := ⟨_, rfl⟩
  rw [hE] at HOK HCK HKE
  rw [hF] at HKE ⊢
  unfold maxLen at hd
  clear hS hp hE hF
  go_enter Tryz.func17, Tryz.ntmps17
  go_wp2_with fail
  refine (unhide HCK _ ((unhide HS).up (bl1 _ _))).mono ?_
  rintro e w1 ⟨rfl, hb⟩
  have hX := (BoxS.new w S b v u q g 29).up hb
  have hw1 := bl_trans (bl1 w _) hb
  have x0 := hX.c0
  have x1 := hX.c1
  have x2 := hX.c2
  have x3 := hX.c3
  have x4 := hX.c4
  have x5 := hX.c5
  have x6 := hX.c6
  clear hX hb HCK
  by_cases h0 : E = 0
  case neg =>
    have HF : Hid (F = E) := by show _ = _; rw [unhide HKE, if_neg h0]
    have HM : Hid (morB E (keysL S nm pre dl af) m = false) := by show _ = _; unfold morB; simp [h0]
    have HPG : Hid (pagR E (keysL S nm pre dl af) m = []) := by show _ = _; unfold pagR; rw [if_neg h0]
    go_wp2
    refine bodyPost_ret (v := .tuple #[.slice none 0 0, .bool false, .int .i64 E]) (by simp [results, Tryz.results17, go_sem, *]) rfl ⟨.slice none 0 0, ?_, ?_, hw1⟩
    · rw [unhide HF, unhide HM]
    · rw [unhide HF, unhide HPG]; exact ro_nil _ _
  subst h0
  rw [if_pos rfl] at HKE
  by_cases h1 : 1 < dl.size
  · have HF : Hid (F = 1) := by show _ = _; rw [unhide HKE, if_pos h1]
    have HM : Hid (morB 1 (keysL S nm pre dl af) m = false) := by show _ = _; unfold morB; simp
    have HPG : Hid (pagR 1 (keysL S nm pre dl af) m = []) := by show _ = _; unfold pagR; rw [if_neg (by decide)]
    go_wp2
    refine bodyPost_ret (v := .tuple #[.slice none 0 0, .bool false, .int .i64 1]) (by simp [results, Tryz.results17, go_sem, *]) rfl ⟨.slice none 0 0, ?_, ?_, hw1⟩
    · rw [unhide HF, unhide HM]
    · rw [unhide HF, unhide HPG]; exact ro_nil _ _
  have HF : Hid (F = 0) := by show _ = _; rw [unhide HKE, if_neg h1]
  obtain ⟨hok, hhas, hps, hm1, hm2⟩ := unhide HOK rfl
  have HRL := hide (rows_len hok nm pre)
  have HRK : Hid (∀ k, k < (rowsL (sv S nm pre)).length → pre.size ≤ ((rowsL (sv S nm pre)).getD k ro0).key.size ∧ ((rowsL (sv S nm pre)).getD k ro0).key.size ≤ 16) := fun k hk => rows_key hok nm pre hk
  have HRO := hide (fun W (hW : Sta W b v u q g S) => rowsOf_any S b v u q g nm pre W hW hok (unhide HP))
  have HKL : Hid (keysL S nm pre dl af = cmpL (apL pre dl af (rowsL (sv S nm pre)))) := rfl
  obtain ⟨R, hR⟩ : ∃ R, rowsL (sv S nm pre) = R := ⟨_, rfl⟩
  rw [hR] at HRL HRO HKL HRK
  obtain ⟨KL, hKL⟩ : ∃ KL, keysL S nm pre dl af = KL := ⟨_, rfl⟩
  have HKK := hide hKL
  rw [hKL] at HKL
  clear hok hhas hR HOK HKE hKL
  go_wp2_with fail
  refine (unhide HRO _ ((unhide HS).up hw1)).mono ?_
  rintro e w2 ⟨o, rfl, hO, hb⟩
  have hw2 := bl_trans hw1 hb
  have HLS := hide (ro_lst hO)
  obtain ⟨oa, oc, rfl, ho1, ho2⟩ := ro_form hO
  unfold maxLen at ho2
  have hrl := unhide HRL
  obtain ⟨n, hn⟩ : ∃ n, R.length = n := ⟨_, rfl⟩
  have HN := hide hn
  rw [hn] at HLS ho1 hrl HRK ⊢
  obtain ⟨i0, hi, hz0, hz1, hz2⟩ := info_parts infoRo
  have HD : Hid (dl.size ≤ 1) := by show _ ≤ _; omega
  clear hO hb hn x0 x1 x2 x3 x4 x5 x6 HRO HS
  go_wp2
  go_loopw [16, 18, 36] (fun o _ i wr => ∃ k : Nat, k ≤ n ∧ i = .int .i64 k ∧ OwRo wr w2.heap.size o (apL pre dl af (R.take k)) ∧ Below w2.heap.size w2 wr) (fun _ _ i _ => n - (intOf i).toNat)
  case atStart => exact ⟨0, Nat.zero_le _, rfl, ro_nil _ _, Below.refl _ _⟩
  case round =>
    obtain ⟨k, hk, rfl, hO, hbr⟩ := hrel
    have HOQ := hide hO
    obtain ⟨qa, qc, rfl, hq1, hq2⟩ := ro_form hO
    unfold maxLen at hq2
    clear hO
    by_cases hlt : k < n
    · have hlt' : k < R.length := by rw [unhide HN]; exact hlt
      obtain ⟨b8, o8, e8, r0⟩ := Lst.at (unhide HLS) hlt'
      obtain ⟨hx1, hx2⟩ := unhide HRK k hlt
      have HAP := hide (ap_next (pre := pre) (dl := dl) (af := af) hlt')
      obtain ⟨X, hX⟩ : ∃ X, R.getD k ro0 = X := ⟨_, rfl⟩
      rw [hX] at r0 hx1 hx2 HAP
      have HSH := hide (fun W => shared_any X pre dl W (by unfold maxLen; omega) hx1 (unhide HD))
      subst e8
      have r := RRo.up hbr r0
      have c0 := r.c0
      have c1 := r.c1
      have c2 := r.c2
      have c3 := r.c3
      have c4 := r.c4
      have c5 := r.c5
      have c6 := r.c6
      clear r r0 hX
      have hln := ap_len pre dl af R k
      have hWq := hbr.size
      go_upto_region 10 with fail
      generalize hWW : wr.alloc _ = W8
      have h8 : W8.heap[wr.heap.size]? = some (.cells (roA X) 61 (0, 0)) ∧ Below wr.heap.size wr W8 := by
        rw [← hWW]
        exact ⟨heap_alloc_new _ _, bl1 _ _⟩
      clear hWW c0 c1 c2 c3 c4 c5 c6
      obtain ⟨hr8, hb8⟩ := h8
      have z0 : W8.cell? ⟨wr.heap.size, 0, none⟩ = some (.string X.key) := cell_of hr8 0 rfl
      have z1 : W8.cell? ⟨wr.heap.size, 1, none⟩ = some (.bool X.com) := cell_of hr8 1 rfl
      have z2 : W8.cell? ⟨wr.heap.size, 2, none⟩ = some (.int .i64 X.id) := cell_of hr8 2 rfl
      have z3 : W8.cell? ⟨wr.heap.size, 3, none⟩ = some (.bool X.mar) := cell_of hr8 3 rfl
      have z4 : W8.cell? ⟨wr.heap.size, 4, none⟩ = some (.bool X.lat) := cell_of hr8 4 rfl
      have z5 : W8.cell? ⟨wr.heap.size, 5, none⟩ = some (.int .i64 X.size) := cell_of hr8 5 rfl
      have z6 : W8.cell? ⟨wr.heap.size, 6, none⟩ = some (.int .i64 X.tier) := cell_of hr8 6 rfl
      have HR8 := hide hr8
      have hl8 : wr.heap.size < W8.heap.size := (Array.getElem?_eq_some_iff.1 hr8).1
      have hw8 := bl_trans hbr hb8
      have HO1 := hide (ro_up (unhide HOQ) hb8)
      have hW8 := hw8.size
      have HNB : Hid ((Value.slice qa (apL pre dl af (R.take k)).length qc).ownBlock = none ∨ (Value.slice qa (apL pre dl af (R.take k)).length qc).ownBlock ≠ some wr.heap.size) := by
        cases hq : (Value.slice qa (apL pre dl af (R.take k)).length qc).ownBlock with
        | none => exact .inl rfl
        | some j =>
          have := ((unhide HOQ).lt j hq).2
          exact .inr (fun e => by injection e with e; omega)
      obtain ⟨B8, hB8⟩ : ∃ x, wr.heap.size = x := ⟨_, rfl⟩
      have hB8w : w2.heap.size ≤ B8 := by omega
      rw [hB8] at z0 z1 z2 z3 z4 z5 z6 HR8 hl8 HNB ⊢
      clear hr8 hb8 hB8 HOQ
      have HST : Hid (stepR pre dl af X = if X.mar || !X.lat then none else if gtB (shR X pre dl).key af then some (shR X pre dl) else none) := rfl
      cases hmar : X.mar
      case true =>
        have HZ : Hid (apL pre dl af (R.take (k + 1)) = apL pre dl af (R.take k)) := by show _ = _; rw [unhide HAP, unhide HST, hmar]; simp
        rw [hmar] at z3
        go_wp2
        go_roundw
        case rel => exact ⟨k + 1, by omega, by go_num, by rw [unhide HZ]; exact unhide HO1, hw8⟩
        case measure => (simp [intOf] <;> omega)
      cases hlat : X.lat
      case false =>
        have HZ : Hid (apL pre dl af (R.take (k + 1)) = apL pre dl af (R.take k)) := by show _ = _; rw [unhide HAP, unhide HST, hmar, hlat]; simp
        rw [hmar] at z3
        rw [hlat] at z4
        go_wp2
        go_roundw
        case rel => exact ⟨k + 1, by omega, by go_num, by rw [unhide HZ]; exact unhide HO1, hw8⟩
        case measure => (simp [intOf] <;> omega)
      rw [hmar, hlat] at HST
      have HST2 : Hid (stepR pre dl af X = if gtB (shR X pre dl).key af then some (shR X pre dl) else none) := unhide HST
      have HMA := hide hmar
      have HLA := hide hlat
      rw [hmar] at z3
      rw [hlat] at z4
      clear HST hmar hlat
      obtain ⟨Y, hY⟩ : ∃ Y, shR X pre dl = Y := ⟨_, rfl⟩
      rw [hY] at HSH HST2
      clear hY
      go_wp2_with fail
      have HXE : Hid (roV X = .agg #[.string X.key, .bool X.com, .int .i64 X.id, .bool false, .bool true, .int .i64 X.size, .int .i64 X.tier]) := by show _ = _; rw [← unhide HMA, ← unhide HLA]
      have HSH2 : Hid (∀ W : World, Calls Tryz.prog 42 #[.agg #[.string X.key, .bool X.com, .int .i64 X.id, .bool false, .bool true, .int .i64 X.size, .int .i64 X.tier], .string pre, .string dl] W fun e w' => e = .returned (roV Y) ∧ Below W.heap.size W w') := fun W => by
        have h := unhide HSH W
        rw [unhide HXE] at h
        exact h
      refine (unhide HSH2 _).mono ?_
      rintro e w9 ⟨rfl, hb9⟩
      have hr9 := (hb9.block _ hl8).trans (unhide HR8)
      have y0 : w9.cell? ⟨B8, 0, none⟩ = some (.string X.key) := cell_of hr9 0 rfl
      have y1 : w9.cell? ⟨B8, 1, none⟩ = some (.bool X.com) := cell_of hr9 1 rfl
      have y2 : w9.cell? ⟨B8, 2, none⟩ = some (.int .i64 X.id) := cell_of hr9 2 rfl
      have y3 : w9.cell? ⟨B8, 3, none⟩ = some (.bool X.mar) := cell_of hr9 3 rfl
      have y4 : w9.cell? ⟨B8, 4, none⟩ = some (.bool X.lat) := cell_of hr9 4 rfl
      have y5 : w9.cell? ⟨B8, 5, none⟩ = some (.int .i64 X.size) := cell_of hr9 5 rfl
      have y6 : w9.cell? ⟨B8, 6, none⟩ = some (.int .i64 X.tier) := cell_of hr9 6 rfl
      have hfz := fun i => fz_of hr9 i
      have HR9 := hide hr9
      have HO9 := hide (ro_up (unhide HO1) hb9)
      have hw9 := bl_trans hw8 hb9
      clear hr9 hb9 HO1 HSH HSH2 HXE z0 z1 z2 z3 z4 z5 z6 hw8 hW8
      go_upto_region 12 with fail
      generalize hWW : World.setCell _ _ _ = W10
      have h10 : W10.heap[B8]? = some (.cells (roA Y) 61 (0, 0)) ∧ OwRo W10 w2.heap.size (.slice qa (apL pre dl af (R.take k)).length qc) (apL pre dl af (R.take k)) ∧ Below w2.heap.size w2 W10 := by
        rw [← hWW]
        have hgb := gb_setCells B8 (roL Y) 0 w9
        exact ⟨roA_set w9 B8 _ X Y (unhide HR9), World.ownsRow.kept (unhide HO9) hgb (unhide HNB), bl_tr hw9 (gb_lo hgb hw9.size (fun j e => by injection e with e; omega))⟩
      obtain ⟨hr10, hO10, hw10⟩ := h10
      clear hWW y0 y1 y2 y3 y4 y5 y6 hfz HR9 HO9 hw9
      have y0 : W10.cell? ⟨B8, 0, none⟩ = some (.string Y.key) := cell_of hr10 0 rfl
      have y1 : W10.cell? ⟨B8, 1, none⟩ = some (.bool Y.com) := cell_of hr10 1 rfl
      have y2 : W10.cell? ⟨B8, 2, none⟩ = some (.int .i64 Y.id) := cell_of hr10 2 rfl
      have y3 : W10.cell? ⟨B8, 3, none⟩ = some (.bool Y.mar) := cell_of hr10 3 rfl
      have y4 : W10.cell? ⟨B8, 4, none⟩ = some (.bool Y.lat) := cell_of hr10 4 rfl
      have y5 : W10.cell? ⟨B8, 5, none⟩ = some (.int .i64 Y.size) := cell_of hr10 5 rfl
      have y6 : W10.cell? ⟨B8, 6, none⟩ = some (.int .i64 Y.tier) := cell_of hr10 6 rfl
      have HOT := hide hO10
      have hs10 := hw10.size
      have hl10 : B8 < W10.heap.size := (Array.getElem?_eq_some_iff.1 hr10).1
      clear hr10 hO10
      cases ha : Op.bytesLess Y.key.toList af.toList
      · cases hb : (Y.key.toList == af.toList)
        · have HZ : Hid (apL pre dl af (R.take (k + 1)) = apL pre dl af (R.take k) ++ [Y]) := by show _ = _; rw [unhide HAP, unhide HST2, show gtB Y.key af = true by unfold gtB; simp [ha, hb]]; simp
          clear HST2
          obtain ⟨Q, hQ⟩ : ∃ Q, apL pre dl af (R.take k) = Q := ⟨_, rfl⟩
          rw [hQ] at HOT HZ hln ⊢
          clear hQ
          go_wp2_with (first
            | (at_builtin; refine wpList_append_own _ rfl _ _ 56 rfl w2.heap.size 61 i0 (.agg zeroRo) 7 56 Tryz.underlying56 hi hz0 hz1 hz2 rfl (by decide) _ _ _ rfl ((unhide HOT).alloc _) ⟨W10.heap.size, 0, none⟩ 1 1 [.string Y.key, .bool Y.com, .int .i64 Y.id, .bool Y.mar, .bool Y.lat, .int .i64 Y.size, .int .i64 Y.tier] rfl rfl (fun j u hj => by rw [addI, Nat.zero_add]; exact cell_of (heap_alloc_new _ _) j (by simpa using hj)) (by simp [Value.oneCell']) (by unfold maxLen; omega) (by omega) (by simp; omega) ?_; intro v' w1' hown' hgrow hnil)
            | go_in)
          have hb1 := (bl_alloc hw10 _).grown hgrow (bl_alloc hw10 _).size (fun j hj => ((unhide HOT).lt j hj).1)
          clear hgrow hnil
          exact ⟨⟨k + 1, by omega, by go_num, by rw [unhide HZ]; unfold OwRo; rw [List.length_append, List.flatMap_append]; show World.ownsRow _ _ _ _ _ (Q.length + 1) (Q.flatMap roL ++ (roL Y ++ [])); rw [List.append_nil]; exact hown', hb1⟩, by simp [intOf]; omega⟩
        · skip
          have HZ : Hid (apL pre dl af (R.take (k + 1)) = apL pre dl af (R.take k)) := by show _ = _; rw [unhide HAP, unhide HST2, show gtB Y.key af = false by unfold gtB; simp [ha, hb]]; simp
          go_wp2
          go_roundw
          case rel => exact ⟨k + 1, by omega, by go_num, by rw [unhide HZ]; exact unhide HOT, hw10⟩
          case measure => (simp [intOf] <;> omega)
      · skip
        have HZ : Hid (apL pre dl af (R.take (k + 1)) = apL pre dl af (R.take k)) := by show _ = _; rw [unhide HAP, unhide HST2, show gtB Y.key af = false by unfold gtB; simp [ha]]; simp
        go_wp2
        go_roundw
        case rel => exact ⟨k + 1, by omega, by go_num, by rw [unhide HZ]; exact unhide HOT, hw10⟩
        case measure => (simp [intOf] <;> omega)
    · obtain rfl : k = n := by omega
      have hw3 := bl_trans hw2 hbr
      have HTK : Hid (R.take k = R) := List.take_of_length_le (by rw [unhide HN]; exact Nat.le_refl _)
      have hln := ap_len pre dl af R k
      obtain ⟨A, hA⟩ : ∃ A, apL pre dl af (R.take k) = A := ⟨_, rfl⟩
      have HKA : Hid (KL = cmpL A) := by show _ = _; rw [unhide HKL, ← hA, unhide HTK]
      rw [hA] at HOQ hq1 hln ⊢
      obtain ⟨mk, rfl⟩ := Int.eq_ofNat_of_zero_le (show 0 ≤ m by omega)
      have hw2s := hw2.size
      clear hA HKL HTK
      by_cases hne : A = []
      · subst hne
        have HOC : Hid (OwRo wr w.heap.size (.slice qa 0 qc) KL) := by
          have h := ro_lo (unhide HOQ) hw2s
          rw [unhide HKA]
          exact h
        have HN9 : Hid (KL.length = 0) := by show _ = _; rw [unhide HKA]; rfl
        have hnn : 0 ≤ qc := Nat.zero_le _
        have hcc : qc ≤ 9223372036854775807 := by omega
        have hz : ([] : List Ro).length = 0 := rfl
        rw [hz] at HOQ ⊢
        clear hz HOQ
        go_wp2_with fail
        refine (compact_none _ _ _).mono ?_
        rintro e w4 ⟨rfl, rfl⟩
        have HPA := hide (fun W => page_any qa 0 qc mk W hnn hcc (by omega))
        have HC := hide (ro_cut (unhide HOC) (k := min 0 mk) (Nat.min_le_left _ _))
        have HT : Hid (pagR 0 KL (mk : Int) = KL.take (min 0 mk)) := by show _ = _; unfold pagR; rw [if_pos rfl, Int.toNat_natCast]; exact take_min9 KL (unhide HN9)
        have HD2 : Hid (morB 0 KL (mk : Int) = decide (mk < 0)) := by show _ = _; unfold morB; rw [unhide HN9]; exact decide_eq_decide.2 (by omega)
        go_wp2_with fail
        refine (unhide HPA _).mono ?_
        rintro e w5 ⟨rfl, rfl⟩
        go_wp2
        refine bodyPost_ret (v := .tuple #[.slice qa (min 0 mk) qc, .bool (decide (mk < 0)), .int .i64 0]) (by simp [results, Tryz.results17, go_sem, *]) rfl ⟨.slice qa (min 0 mk) qc, ?_, ?_, hw3⟩
        · rw [unhide HF, unhide HKK, unhide HD2]
        · rw [unhide HF, unhide HKK, unhide HT]; exact unhide HC
      · obtain ⟨gr, cap, hsl, hgB, hR, hcap, hnc⟩ := ro_row (unhide HOQ) hne
        simp only [Value.slice.injEq] at hsl
        obtain ⟨rfl, _, rfl⟩ := hsl
        have HCO := hide (compact_any gr qc A wr hR hnc hcap)
        have hcl : (cmpL A).length ≤ A.length := by
          have h := cmp_len A A.length (Nat.le_refl _)
          rwa [List.take_of_length_le (Nat.le_refl _)] at h
        rw [← unhide HKA] at HCO hcl
        obtain ⟨n9, hn9⟩ : ∃ n9, KL.length = n9 := ⟨_, rfl⟩
        have HN9 := hide hn9
        rw [hn9] at HCO hcl
        clear hR hn9 HOQ hne
        go_wp2_with fail
        refine (unhide HCO).mono ?_
        rintro e w4 ⟨rfl, hR4, hg4⟩
        have hw4 : Below w.heap.size w w4 := bl_tr hw3 (gb_lo hg4 hw3.size (fun j e => by injection e with e; omega))
        have hnn : n9 ≤ qc := by omega
        have hcc : qc ≤ 9223372036854775807 := by omega
        have HOC : Hid (OwRo w4 w.heap.size (.slice (some ⟨gr, 0, none⟩) n9 qc) KL) := by
          have h := ro_of (B := w.heap.size) hR4 (by omega) (by rw [unhide HN9]; exact hnn) hcap
          rw [unhide HN9] at h
          exact h
        clear hR4 hg4 HCO
        have HPA := hide (fun W => page_any (some ⟨gr, 0, none⟩) n9 qc mk W hnn hcc (by omega))
        have HC := hide (ro_cut (unhide HOC) (k := min n9 mk) (Nat.min_le_left _ _))
        have HT : Hid (pagR 0 KL (mk : Int) = KL.take (min n9 mk)) := by show _ = _; unfold pagR; rw [if_pos rfl, Int.toNat_natCast]; exact take_min9 KL (unhide HN9)
        have HD2 : Hid (morB 0 KL (mk : Int) = decide (mk < n9)) := by show _ = _; unfold morB; rw [unhide HN9]; exact decide_eq_decide.2 (by omega)
        go_wp2_with fail
        refine (unhide HPA _).mono ?_
        rintro e w5 ⟨rfl, rfl⟩
        go_wp2
        refine bodyPost_ret (v := .tuple #[.slice (some ⟨gr, 0, none⟩) (min n9 mk) qc, .bool (decide (mk < n9)), .int .i64 0]) (by simp [results, Tryz.results17, go_sem, *]) rfl ⟨.slice (some ⟨gr, 0, none⟩) (min n9 mk) qc, ?_, ?_, hw4⟩
        · rw [unhide HF, unhide HKK, unhide HD2]
        · rw [unhide HF, unhide HKK, unhide HT]; exact unhide HC
end Go.Proofs.YtdgmdapijhbocaaGreat
