/- icehousekeep.ModeOn: the walk. -/
import Derived.Test.YtbfhkbmcleglaaaGreatSopq
import Derived.Test.YtbfhkbmcleglaaaGreatKkpq
namespace Go.Proofs.YtbfhkbmcleglaaaGreat
open Go.RowKit Go.Maps
set_option maxRecDepth 100000
set_option linter.unusedVariables false
set_option linter.unusedSimpArgs false
def rMo (nm : ByteArray) (m : Int) : Rc := { rcN 2 with nam := nm, n := m }
theorem rMo_wf {nm : ByteArray} {m : Int} (h : nm.size ≤ maxLen) : WfR (rMo nm m) ∧ FitR (rMo nm m) := ⟨{ rcN_wf 2 with nam := h }, { rcN_fit 2 with nam := h }⟩
theorem idxB_a {S : St} {x y : Bu} (hb : S.bus = [x, y]) (hx : x.nam = ⟨#[97]⟩) : idxB S ⟨#[97]⟩ = 0 := by
  unfold idxB
  rw [hb]
  exact firstI_t (k := 0) (by show 0 < 2; decide) (by unfold buP; show eqS x.nam _ = true; rw [hx]; kernel_rfl) (fun j hj => absurd hj (Nat.not_lt_zero _))
theorem idxB_c {S : St} {x y : Bu} (hb : S.bus = [x, y]) (hx : x.nam = ⟨#[97]⟩) (hy : y.nam = ⟨#[98]⟩) : idxB S ⟨#[99]⟩ = -1 := by
  unfold idxB
  rw [hb]
  refine firstI_f fun j hj => ?_
  match j, hj with
  | 0, _ => unfold buP; show eqS x.nam _ = false; rw [hx]; kernel_rfl
  | 1, _ => unfold buP; show eqS y.nam _ = false; rw [hy]; kernel_rfl
theorem mode_a {S : St} (hc : stC S = true) {x y : Bu} (hb : S.bus = [x, y]) (hx : x.nam = ⟨#[97]⟩) (m : Int) :
    (inB m 0 2 = false → appE S (rMo ⟨#[97]⟩ m) = 2) ∧ (inB m 0 2 = true → (m = 0 ∧ x.mode ≠ 0) → appE S (rMo ⟨#[97]⟩ m) = 9) ∧
    (inB m 0 2 = true → ¬ (m = 0 ∧ x.mode ≠ 0) → appE S (rMo ⟨#[97]⟩ m) = 0 ∧ appS S (rMo ⟨#[97]⟩ m) = { S with bus := [{ x with mode := m }, y] }) := by
  have hce : chgE S (rMo ⟨#[97]⟩ m) = if inB m 0 2 then (if m = 0 ∧ x.mode ≠ 0 then 9 else 0) else 2 := by
    rw [(chg_2 (r := rMo ⟨#[97]⟩ m) rfl).1]
    show modE S ⟨#[97]⟩ m = _
    unfold modE
    rw [idxB_a hb hx, if_neg (by decide), hb]
    rfl
  have hcs : chgS S (rMo ⟨#[97]⟩ m) = { S with bus := S.bus.set 0 { S.bus.getD 0 bu0 with mode := m } } := by
    rw [(chg_2 (r := rMo ⟨#[97]⟩ m) rfl).2]
    show modS S ⟨#[97]⟩ m = _
    unfold modS
    rw [idxB_a hb hx]
    rfl
  refine ⟨fun h => ?_, fun h h2 => ?_, fun h h2 => ?_⟩
  · rw [h, if_neg (by decide)] at hce
    exact (app_c hc (by rw [hce]; decide)).1.trans hce
  · rw [h, if_pos rfl, if_pos h2] at hce
    exact (app_c hc (by rw [hce]; decide)).1.trans hce
  · rw [h, if_pos rfl, if_neg h2] at hce
    have hO := (stOk_iff S).1 hc
    have hbx : buC (S.bus.getD 0 bu0) = true := mem_bus hO (by rw [hb]; simp [List.getD])
    have hT := hO.bus (i := 0) (y := { S.bus.getD 0 bu0 with mode := m }) (fun _ => rfl) (by
      unfold buC at hbx ⊢
      simp only [Bool.and_eq_true] at hbx ⊢
      exact ⟨hbx.1, h⟩)
    obtain ⟨a1, a2⟩ := app_0 hc hce (by rw [hcs]; exact (stOk_iff _).2 hT)
    refine ⟨a1, ?_⟩
    rw [a2, hcs, hb]
    rfl
theorem mode_c {S : St} (hc : stC S = true) {x y : Bu} (hb : S.bus = [x, y]) (hx : x.nam = ⟨#[97]⟩) (hy : y.nam = ⟨#[98]⟩) (m : Int) : appE S (rMo ⟨#[99]⟩ m) = 6 := by
  have hce : chgE S (rMo ⟨#[99]⟩ m) = 6 := by
    rw [(chg_2 (r := rMo ⟨#[99]⟩ m) rfl).1]
    show modE S ⟨#[99]⟩ m = _
    unfold modE
    rw [idxB_c hb hx hy, if_pos (by decide)]
  exact (app_c hc (by rw [hce]; decide)).1.trans hce
set_option maxHeartbeats 4000000 in
theorem modeOn_walk (lv : Value) (l : List Rw) (mo : Int) (w : World) (hl : Raws w lv l) (hmo : (Lit.int .i64 mo).wf = true) :
    Calls Tryz.prog 11 #[lv, .int .i64 mo] w fun e w' => e = .returned (.bool true) ∧ Below w.heap.size w w' := by
  obtain ⟨la, lc, rfl, hl1, hl2⟩ := hl.form
  unfold maxLen at hl2
  have HL := hide hl
  clear hl
  obtain ⟨m0, m1⟩ := wf_lo hmo
  clear hmo
  obtain ⟨S, hSS⟩ : ∃ S, staL l 20 = S := ⟨_, rfl⟩
  obtain ⟨n, hnn⟩ : ∃ n, cntN l (rnd l 20) = n := ⟨_, rfl⟩
  have hn2 : 2 ≤ n := by rw [← hnn]; exact cntN_two l _ (by unfold rnd; omega)
  have hok : stC S = true := by rw [← hSS]; exact staL_ok l 20
  obtain ⟨x, y, hbus, hxn, hyn⟩ := bus_two (hSS ▸ staL_names l 20)
  have hp0 := pickI_lo mo (m := 5) (by decide)
  have hp1 := pickI_hi mo (m := 5) (by decide)
  obtain ⟨P, hP⟩ : ∃ P, pickI mo 5 = P := ⟨_, rfl⟩
  have HP := hide hP
  rw [hP] at hp0 hp1
  obtain ⟨q1, q2, q3⟩ := mode_a hok hbus hxn (P - 1)
  have HQ1 := hide q1
  have HQ2 := hide q2
  have HQ3 : Hid (inB (P - 1) 0 2 = true → ¬ (P - 1 = 0 ∧ x.mode ≠ 0) → appE S (rMo ⟨#[97]⟩ (P - 1)) = 0 ∧ (P - 1 = 0 → appE (appS S (rMo ⟨#[97]⟩ (P - 1))) (rMo ⟨#[97]⟩ 0) = 0) ∧ (P - 1 ≠ 0 → appE (appS S (rMo ⟨#[97]⟩ (P - 1))) (rMo ⟨#[97]⟩ 0) = 9) ∧ appE (appS S (rMo ⟨#[97]⟩ (P - 1))) (rMo ⟨#[99]⟩ 0) = 6) := fun h h2 => by
    obtain ⟨a1, a2⟩ := q3 h h2
    have hT : stC (appS S (rMo ⟨#[97]⟩ (P - 1))) = true := by
      obtain ⟨_, _, b1, b2⟩ := app_ok a1
      rw [b2]; exact b1
    have hbT : (appS S (rMo ⟨#[97]⟩ (P - 1))).bus = [{ x with mode := P - 1 }, y] := by rw [a2]
    obtain ⟨_, r2, r3⟩ := mode_a hT hbT hxn 0
    exact ⟨a1, fun e => (r3 (by decide) (fun hh => hh.2 e)).1, fun e => r2 (by decide) ⟨rfl, e⟩, mode_c hT hbT hxn hyn 0⟩
  have HB := hide hbus
  clear hP q1 q2 q3 hxn hyn hbus
  go_enter Tryz.func11, Tryz.ntmps11
  go_wp2_with fail
  refine (kSt _ l 20 _ _ (unhide HL) rfl (by decide)).mono ?_
  rintro e w1 ⟨ba, bc, va, vc, ua, uc, qa, qc, ga, gc, oa, oc, rfl, hS, hb1⟩
  rw [hSS] at hS ⊢
  rw [hnn]
  have HSS := hide hSS
  have HNN := hide hnn
  clear hSS hnn
  go_upto_region 2 with fail
  generalize hWW : w1.alloc _ = W2
  have h2 : BoxS W2 w1.heap.size S (.slice ba S.bus.length bc) (.slice va S.ves.length vc) (.slice ua S.ups.length uc) (.slice qa S.que.length qc) (.slice ga S.gone.length gc) ∧ Below w1.heap.size w1 W2 := by
    rw [← hWW]
    exact ⟨BoxS.new _ _ _ _ _ _ _ _, bl1 _ _⟩
  clear hWW
  obtain ⟨hX, hb2⟩ := h2
  have hw2 := bl_trans hb1 hb2
  have HS := hide (hS.up hb2)
  have HX := hide hX
  clear hS hb1 hb2 hX
  go_wp2_with fail
  refine (picked_any mo 5 _ (by decide) (by decide) m0 m1).mono ?_
  rintro e w3 ⟨rfl, rfl⟩
  rw [unhide HP]
  have x0 := (unhide HX).c0
  have x1 := (unhide HX).c1
  have x2 := (unhide HX).c2
  have x3 := (unhide HX).c3
  have x4 := (unhide HX).c4
  have x5 := (unhide HX).c5
  have x6 := (unhide HX).c6
  have hl2 := (unhide HX).lt
  go_wp2_with fail
  refine (kAp S _ _ _ _ _ (rMo ⟨#[97]⟩ (P - 1)) nl nl nl _ (unhide HS) (rMo_wf (by decide)).2 (rMo_wf (by decide)).1 (RcI.none _ _ rfl rfl rfl)).mono ?_
  rintro e w5 ⟨ba', bc', va', vc', ua', uc', qa', qc', ga', gc', rfl, hT, hb5⟩
  obtain ⟨T, hTT⟩ : ∃ T, appS S (rMo ⟨#[97]⟩ (P - 1)) = T := ⟨_, rfl⟩
  obtain ⟨E, hE⟩ : ∃ E, appE S (rMo ⟨#[97]⟩ (P - 1)) = E := ⟨_, rfl⟩
  rw [hTT] at HQ3 hT ⊢
  rw [hE] at HQ1 HQ2 HQ3 ⊢
  have HX5 := hide ((unhide HX).up hb5)
  have HS5 := hide ((unhide HS).up hb5)
  have hw5 := bl_trans hw2 hb5
  have hl5 := (unhide HX5).lt
  clear x0 x1 x2 x3 x4 x5 x6 hb5 hTT hE hl2
  go_upto_region 4 with fail
  generalize hWW : w5.alloc _ = W6
  have h6 : BoxS W6 w5.heap.size T (.slice ba' T.bus.length bc') (.slice va' T.ves.length vc') (.slice ua' T.ups.length uc') (.slice qa' T.que.length qc') (.slice ga' T.gone.length gc') ∧ Below w5.heap.size w5 W6 := by
    rw [← hWW]
    exact ⟨BoxS.new _ _ _ _ _ _ _ _, bl1 _ _⟩
  clear hWW
  obtain ⟨hX6, hb6⟩ := h6
  have HY6 := hide hX6
  have HX6 := hide ((unhide HX5).up hb6)
  have HS6 := hide ((unhide HS5).up hb6)
  have HT6 := hide (hT.up hb6)
  have hw6 := bl_trans hw5 hb6
  have hl6 := (unhide HX6).lt
  have hl7 := hX6.lt
  clear hT hX6 hb6 hl5
  obtain ⟨M, hM⟩ : ∃ M, P - 1 = M := ⟨_, rfl⟩
  rw [hM] at HQ1 HQ2 HQ3 ⊢
  by_cases hlo : M < 0
  · have hE2 := unhide HQ1 (by unfold inB; exact decide_eq_false (by omega))
    subst hE2
    clear hM hp0 hp1
    go_wp2
    go_ret
    exact ⟨rfl, hw6⟩
  by_cases hhi : 2 < M
  · have hE2 := unhide HQ1 (by unfold inB; exact decide_eq_false (by omega))
    subst hE2
    clear hM hp0 hp1
    go_wp2
    go_ret
    exact ⟨rfl, hw6⟩
  have hin : inB M 0 2 = true := by unfold inB; exact decide_eq_true (by omega)
  by_cases h9 : M = 0 ∧ x.mode ≠ 0
  · have hE2 := unhide HQ2 hin h9
    subst hE2
    have hM0 := h9.1
    have hmm : (x.mode != 0) = true := by simpa using h9.2
    have hl2 : S.bus.length = 2 := by rw [unhide HB]; rfl
    have hX7 := unhide HX6
    rw [hl2] at hX7
    have y2 := hX7.c2
    have hL := (unhide HS6).bus
    obtain ⟨b8, o8, e8, r0⟩ := Lst.at hL (i := 0) (by omega)
    rw [unhide HB] at r0
    subst e8
    have c1 := r0.c1
    rw [show o8 + 0 * 5 + 1 = o8 + 1 by omega] at c1
    replace c1 : W6.cell? ⟨b8, o8 + 1, none⟩ = some (.int .i64 x.mode) := c1
    subst hM0
    clear hM hp0 hp1 hlo hhi hin h9 r0 hL hX7 hl2
    go_wp2
    go_ret
    exact ⟨rfl, hw6⟩
  · obtain ⟨rfl, f0, f9, g6⟩ := unhide HQ3 hin h9
    have HF0 := hide f0
    have HF9 := hide f9
    have HG6 := hide g6
    clear f0 f9 g6 h9
    have x0 := (unhide HY6).c0
    have x1 := (unhide HY6).c1
    have x2 := (unhide HY6).c2
    have x3 := (unhide HY6).c3
    have x4 := (unhide HY6).c4
    have x5 := (unhide HY6).c5
    have x6 := (unhide HY6).c6
    have hMM : P = M + 1 := by omega
    clear hM
    go_wp2_with fail
    refine (kAp T _ _ _ _ _ (rMo ⟨#[97]⟩ 0) nl nl nl _ (unhide HT6) (rMo_wf (by decide)).2 (rMo_wf (by decide)).1 (RcI.none _ _ rfl rfl rfl)).mono ?_
    rintro e w8 ⟨ba3, bc3, va3, vc3, ua3, uc3, qa3, qc3, ga3, gc3, rfl, _, hb8⟩
    have HY8 := hide ((unhide HY6).up hb8)
    have HT8 := hide ((unhide HT6).up hb8)
    have hw8 := bl_trans hw6 hb8
    have hl8 := (unhide HY8).lt
    clear x0 x1 x2 x3 x4 x5 x6 hb8
    go_upto_region 9 with fail
    generalize hWW : w8.alloc _ = W9
    have h9 : Below w8.heap.size w8 W9 := by
      rw [← hWW]
      exact bl1 _ _
    clear hWW
    have HY9 := hide ((unhide HY8).up h9)
    have HT9 := hide ((unhide HT8).up h9)
    have hw9 := bl_trans hw8 h9
    have hl9 := (unhide HY9).lt
    clear h9
    have x0 := (unhide HY9).c0
    have x1 := (unhide HY9).c1
    have x2 := (unhide HY9).c2
    have x3 := (unhide HY9).c3
    have x4 := (unhide HY9).c4
    have x5 := (unhide HY9).c5
    have x6 := (unhide HY9).c6
    go_wp2_with fail
    refine (kAp T _ _ _ _ _ (rMo ⟨#[99]⟩ 0) nl nl nl _ (unhide HT9) (rMo_wf (by decide)).2 (rMo_wf (by decide)).1 (RcI.none _ _ rfl rfl rfl)).mono ?_
    rintro e w10 ⟨ba4, bc4, va4, vc4, ua4, uc4, qa4, qc4, ga4, gc4, rfl, _, hb10⟩
    rw [unhide HG6]
    have hw10 := bl_trans hw9 hb10
    clear x0 x1 x2 x3 x4 x5 x6 hb10
    by_cases hM0 : M = 0
    · rw [unhide HF0 hM0]
      have tm : (M == 0) = true := by simpa using hM0
      clear hM0
      go_wp2
      go_ret
      exact ⟨rfl, bl_trans hw10 (bl1 _ _)⟩
    · rw [unhide HF9 hM0]
      have tm : (M == 0) = false := by simpa using hM0
      clear hM0
      go_wp2
      go_ret
      exact ⟨rfl, bl_trans hw10 (bl1 _ _)⟩
end Go.Proofs.YtbfhkbmcleglaaaGreat
