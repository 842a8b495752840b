/- icehousekeep.NextClass: the walk. -/
import Derived.Test.YtbfhkbmcleglaaaGreatTieq
import Derived.Test.YtbfhkbmcleglaaaGreatKkpq
namespace Go.Proofs.YtbfhkbmcleglaaaGreat
open Go.RowKit Go.Maps
set_option maxRecDepth 100000
set_option linter.unusedVariables false
set_option linter.unusedSimpArgs false
/-- The one that comes next: the first of the best class. -/
theorem nexK_first (l : List Ak) : ∀ n, ∃ p, p ≤ n ∧ nexK l n = l.getD p ak0 ∧ (∀ i, i ≤ n → (l.getD p ak0).cls ≤ (l.getD i ak0).cls) ∧ ∀ i, i < p → (l.getD p ak0).cls < (l.getD i ak0).cls
  | 0 => ⟨0, Nat.le_refl _, rfl, (fun i hi => by rw [show i = 0 by omega]; exact Int.le_refl _), fun i hi => absurd hi (Nat.not_lt_zero _)⟩
  | n + 1 => by
    obtain ⟨p, h1, h2, h3, h4⟩ := nexK_first l n
    by_cases h : (l.getD (n + 1) ak0).cls < (nexK l n).cls
    · refine ⟨n + 1, Nat.le_refl _, by rw [nexK, if_pos h], fun i hi => ?_, fun i hi => ?_⟩
      · by_cases e : i = n + 1
        · subst e; exact Int.le_refl _
        · have := h3 i (by omega)
          rw [h2] at h
          omega
      · have := h3 i (by omega)
        rw [h2] at h
        omega
    · refine ⟨p, by omega, by rw [nexK, if_neg h]; exact h2, fun i hi => ?_, h4⟩
      by_cases e : i = n + 1
      · subst e; rw [h2] at h; omega
      · exact h3 i (by omega)
set_option maxHeartbeats 4000000 in
theorem nextClass_walk (lv : Value) (l : List Rw) (w : World) (hl : Raws w lv l) :
    Calls Tryz.prog 18 #[lv] w fun e w' => e = .returned (.bool true) ∧ Below w.heap.size w w' := by
  obtain ⟨la, lc, rfl, hl1, hl2⟩ := hl.form
  unfold maxLen at hl2
  have HL := hide hl
  clear hl
  obtain ⟨S, hSS⟩ : ∃ S, staL l 40 = S := ⟨_, rfl⟩
  obtain ⟨n, hnn⟩ : ∃ n, cntN l (rnd l 40) = n := ⟨_, rfl⟩
  have hn2 : 2 ≤ n := by rw [← hnn]; exact cntN_two l _ (by unfold rnd; omega)
  have hok : stC S = true := by rw [← hSS]; exact staL_ok l 40
  have hc0 := stE_t hok
  have HC := hide hc0
  clear hc0
  go_enter Tryz.func18, Tryz.ntmps18
  go_wp2_with fail
  refine (kSt _ l 40 _ _ (unhide HL) rfl (by decide)).mono ?_
  rintro e w1 ⟨ba, bc, va, vc, ua, uc, qa, qc, ga, gc, oa, oc, rfl, hS, hb1⟩
  rw [hSS] at hS ⊢
  rw [hnn]
  have HSS := hide hSS
  have HNN := hide hnn
  clear hSS hnn
  go_upto_region 2 with fail
  generalize hWW : w1.alloc _ = W2
  have h2 : BoxS W2 w1.heap.size S (.slice ba S.bus.length bc) (.slice va S.ves.length vc) (.slice ua S.ups.length uc) (.slice qa S.que.length qc) (.slice ga S.gone.length gc) ∧ Below w1.heap.size w1 W2 := by
    rw [← hWW]
    exact ⟨BoxS.new _ _ _ _ _ _ _ _, bl1 _ _⟩
  clear hWW
  obtain ⟨hX, hb2⟩ := h2
  have hw2 := bl_trans hb1 hb2
  have HS := hide (hS.up hb2)
  have HX := hide hX
  clear hS hb1 hb2 hX
  have x0 := (unhide HX).c0
  have x1 := (unhide HX).c1
  have x2 := (unhide HX).c2
  have x3 := (unhide HX).c3
  have x4 := (unhide HX).c4
  have x5 := (unhide HX).c5
  have x6 := (unhide HX).c6
  go_wp2_with fail
  refine (tNext_any S _ _ _ _ _ _ (unhide HS)).mono ?_
  rintro e w3 ⟨rfl, hb3⟩
  have HX3 := hide ((unhide HX).up hb3)
  have HS3 := hide ((unhide HS).up hb3)
  have hw3 := bl_trans hw2 hb3
  have hl3 := (unhide HX3).lt
  clear x0 x1 x2 x3 x4 x5 x6 hb3
  cases hN : S.que.length with
  | zero =>
    obtain ⟨e1, e2⟩ := nex_14 hok hN
    rw [e1, e2]
    have HX4 := hide (unhide HX3)
    rw [hN] at HX4
    have x0 := (unhide HX4).c0
    have x1 := (unhide HX4).c1
    have x2 := (unhide HX4).c2
    have x3 := (unhide HX4).c3
    have x4 := (unhide HX4).c4
    have x5 := (unhide HX4).c5
    have x6 := (unhide HX4).c6
    clear e1 e2
    go_upto_region 4 with fail
    go_wp2_with fail
    refine (check_any S _ _ _ _ _ _ (Sta.up (bl1 _ _) (by have := unhide HS3; rw [hN] at this; exact this))).mono ?_
    rintro e w5 ⟨rfl, hb5⟩
    rw [unhide HC]
    have hw5 := bl_trans (bl_trans hw3 (bl1 _ _)) hb5
    clear x0 x1 x2 x3 x4 x5 x6 hb5
    go_wp2
    go_ret
    exact ⟨rfl, hw5⟩
  | succ M =>
    have hMb : M ≤ 1000 := by have := (few_of hok).que; omega
    obtain ⟨e1, e2⟩ := nex_0 hok (by omega)
    rw [hN, Nat.add_sub_cancel] at e2
    obtain ⟨p, hp1, hp2, hp3, hp4⟩ := nexK_first S.que M
    rw [e1, e2, hp2]
    have HX4 := hide (unhide HX3)
    rw [hN] at HX4
    have HQ : Hid (Lst RAk 3 ak0 w3 (.slice qa (M + 1) qc) S.que) := by have := (unhide HS3).que; rw [hN] at this; exact this
    obtain ⟨l8, hl8⟩ : ∃ x, S.que = x := ⟨_, rfl⟩
    rw [hl8] at HQ hp2 hp3 hp4 hN ⊢
    obtain ⟨A, hA⟩ : ∃ A, l8.getD p ak0 = A := ⟨_, rfl⟩
    rw [hA] at hp3 hp4 ⊢
    have HP3 := hide hp3
    have HP4 := hide hp4
    have HA := hide hA
    have x5 := (unhide HX4).c5
    have x3 := (unhide HX4).c3
    have hNl := hN
    have HN := hide hN
    clear e1 e2 hp2 hp3 hp4 hA hl8 hN hok hNl
    go_upto_region 3 with fail
    generalize hWW : w3.alloc _ = W4
    have h4 : W4.heap[w3.heap.size]? = some (.cells (akB A) 41 (0, 0)) ∧ Below w3.heap.size w3 W4 := by
      rw [← hWW]
      exact ⟨heap_alloc_new _ _, bl1 _ _⟩
    clear hWW
    obtain ⟨hr4, hb4⟩ := h4
    have HX5 := hide ((unhide HX4).up hb4)
    have HQ5 := hide ((unhide HQ).imp fun _ _ _ r => RAk.up hb4 r)
    have hw4 := bl_trans hw3 hb4
    have hl4 := (unhide HX5).lt
    have HR4 := hide hr4
    clear x3 x5 hr4 hb4 hl3
    have x5 := (unhide HX5).c5
    have x3 := (unhide HX5).c3
    go_wp2
    go_loopw [7, 9, 34] (fun s _ i wr => ∃ k : Nat, k ≤ M + 1 ∧ i = .int .i64 k ∧ s = .bool (decide (p < k)) ∧ Below W4.heap.size W4 wr) (fun _ _ i _ => M + 1 - (intOf i).toNat)
    case atStart => exact ⟨0, Nat.zero_le _, rfl, by simp, Below.refl _ _⟩
    case round =>
      clear x3 x5
      obtain ⟨k, hk, rfl, rfl, hbr⟩ := hrel
      have hr := (hbr.block _ (Array.getElem?_eq_some_iff.1 (unhide HR4)).1).trans (unhide HR4)
      have g0 := cell_of hr 0 rfl
      have g1 := cell_of hr 1 rfl
      have g2 := cell_of hr 2 rfl
      have hlr : w3.heap.size < wr.heap.size := (Array.getElem?_eq_some_iff.1 hr).1
      clear hr
      by_cases hlt : k < M + 1
      · obtain ⟨b8, o8, e8, r0⟩ := Lst.at (unhide HQ5) (i := k) (by rw [unhide HN]; exact hlt)
        subst e8
        have r := RAk.up hbr r0
        have hge := unhide HP3 k (by omega)
        by_cases hpk : p < k
        · have hd : decide (p < k) = true := by simpa using hpk
          have hd2 : Hid (decide (p < k + 1) = true) := by show _ = _; simp; omega
          rw [hd]
          obtain ⟨X, hX⟩ : ∃ X, l8.getD k ak0 = X := ⟨_, rfl⟩
          rw [hX] at r hge
          have c0 := r.c0
          have c1 := r.c1
          have c2 := r.c2
          have hlt2 : ¬ X.cls < A.cls := by omega
          clear r r0 hX hd hpk
          cases hq : (X.cls == A.cls)
          all_goals
            go_wp2
            go_roundw
            case rel => exact ⟨k + 1, by omega, by go_num, by rw [unhide hd2], bl_trans hbr (bl1 _ _)⟩
            case measure => (simp [intOf] <;> omega)
        · have hd : decide (p < k) = false := by simpa using hpk
          rw [hd]
          by_cases hpe : k = p
          · have hd2 : Hid (decide (p < k + 1) = true) := by show _ = _; simp; omega
            rw [hpe, unhide HA, ← hpe] at r
            have c0 := r.c0
            have c1 := r.c1
            have c2 := r.c2
            have hlt2 : ¬ A.cls < A.cls := by omega
            have hq : (A.cls == A.cls) = true := by simp
            clear r r0 hd hpk hge hpe
            go_wp2
            go_roundw
            case rel => exact ⟨k + 1, by omega, by go_num, by rw [unhide hd2], bl_trans hbr (bl1 _ _)⟩
            case measure => (simp [intOf] <;> omega)
          · have hd2 : Hid (decide (p < k + 1) = false) := by show _ = _; simp; omega
            have hgt := unhide HP4 k (by omega)
            obtain ⟨X, hX⟩ : ∃ X, l8.getD k ak0 = X := ⟨_, rfl⟩
            rw [hX] at r hge hgt
            have c0 := r.c0
            have c1 := r.c1
            have c2 := r.c2
            have hlt2 : ¬ X.cls < A.cls := by omega
            have hq : (X.cls == A.cls) = false := by simp; omega
            clear r r0 hX hd hpk hge hpe hgt
            go_wp2
            go_roundw
            case rel => exact ⟨k + 1, by omega, by go_num, by rw [unhide hd2], bl_trans hbr (bl1 _ _)⟩
            case measure => (simp [intOf] <;> omega)
      · obtain rfl : k = M + 1 := by omega
        have hd : decide (p < M + 1) = true := by simp; omega
        rw [hd]
        clear hd g0 g1 g2
        go_wp2
        go_ret
        exact ⟨rfl, bl_trans hw4 hbr⟩
end Go.Proofs.YtbfhkbmcleglaaaGreat
