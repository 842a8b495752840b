/- state.chill, freeze. -/
import Derived.Test.YtdgmdapijhbocaaGreatG11
import Derived.Deep.AppendLies
namespace Go.Proofs.YtdgmdapijhbocaaGreat
open Go.RowKit Go.Maps
set_option maxRecDepth 100000
set_option linter.unusedVariables false
set_option linter.unusedSimpArgs false
theorem vset_set {l : List (Ve × Value)} {k : Nat} {x y : Ve × Value} : (l.set k x).set k y = l.set k y := by simp
theorem vset_get {l : List (Ve × Value)} {k : Nat} {x : Ve × Value} (hk : k < l.length) : (l.set k x).getD k vp0 = x := by simp [List.getD, hk]
def chlE (S : St) (id : Int) : Int := if wbE S id = 0 then (if (S.ves.getD (idxV S id).toNat ve0).tier = 3 then 0 else 11) else wbE S id
def chlS (S : St) (id : Int) : St := { S with ves := S.ves.set (idxV S id).toNat { S.ves.getD (idxV S id).toNat ve0 with tier := 2, sec := [], til := 0 } }
set_option maxHeartbeats 4000000 in
theorem chill_any (S : St) (id : Int) (B X : Nat) (w : World) (h : Bx w B X S) (hX : B ≤ X) (hw : WfS S) (hn : S.ves.length ≤ 1000) :
    Calls Tryz.prog 68 #[.pointer (some ⟨X, 0, none⟩), .int .i64 id] w fun e w' => e = .returned (.int .i64 (chlE S id)) ∧ (chlE S id = 0 → Bx w' B X (chlS S id)) ∧ Below B w w' := by
  have hXl := h.lt
  obtain ⟨b, v, u, q, g, hr, hO⟩ := h
  have HR := hide hr
  have HO := hide hO
  obtain ⟨E, hE⟩ : ∃ E, chlE S id = E := ⟨_, rfl⟩
  obtain ⟨Q, hQ⟩ : ∃ Q, chlS S id = Q := ⟨_, rfl⟩
  rw [hE, hQ]
  have HE := hide hE
  have HQ := hide hQ
  clear hr hO hE hQ
  go_enter Tryz.func68, Tryz.ntmps68
  go_wp2_with fail
  refine (withBody_any S id B X b v u q g w (unhide HR) (unhide HO) hw hn).mono ?_
  rintro e w1 ⟨p, rfl, hp, hb1⟩
  obtain ⟨F, hF⟩ : ∃ F, wbE S id = F := ⟨_, rfl⟩
  rw [hF] at hp ⊢
  have HL1 : Hid (Below B w w1) := bl_lo hb1 (by omega)
  by_cases hf : ¬ F = 0
  · have HEF : Hid (E = F) := by show _ = _; rw [← unhide HE]; unfold chlE; rw [hF, if_neg hf]
    have t0 : (F != 0) = true := by simp [hf]
    have H0 := hide hf
    clear hf hF hp hb1
    go_wp2
    go_ret
    exact ⟨ret_int (unhide HEF).symm, fun e => absurd ((unhide HEF).symm.trans e) (unhide H0), unhide HL1⟩
  replace hf : F = 0 := Classical.not_not.1 hf
  obtain ⟨k, hIk, hk, hpp⟩ := hp hf
  have hO1 := (unhide HO).up hb1
  have hr1 := (hb1.block X hXl).trans (unhide HR)
  obtain ⟨ps, gv, cap, sp, hps, hpl, rfl, hBg, hrow, hlen, hcap, hnc, hin⟩ := hO1.vrow (by omega)
  have hpv := hpp gv _ _ rfl
  subst hpv
  have hkp : k < ps.length := by omega
  obtain ⟨P, hP⟩ : ∃ P, ps.getD k vp0 = P := ⟨_, rfl⟩
  have hP1 : P.1 = S.ves.getD k ve0 := by rw [← hP]; exact getD_fst hps hk
  obtain ⟨ua, uc, hP2, _, _⟩ := own_form (hin P (by rw [← hP]; exact getD_mem hkp))
  obtain ⟨Y, hY⟩ : ∃ Y, S.ves.getD k ve0 = Y := ⟨_, rfl⟩
  have hPv : P = (Y, .slice ua Y.sec.length uc) := by
    obtain ⟨P1, P2⟩ := P
    simp only at hP1 hP2
    rw [hP2, hP1, hY]
  subst hPv
  have hEY : Hid (E = if Y.tier = 3 then 0 else 11) := by show _ = _; rw [← unhide HE]; unfold chlE; rw [hF, if_pos hf, hIk, show ((k : Int)).toNat = k from rfl, hY]
  subst hf
  have m7 := row_at vpL 12 (fun _ => rfl) vp0 hrow hkp (j := 7) (by decide) (by rw [hP]; rfl)
  have m8 := row_at vpL 12 (fun _ => rfl) vp0 hrow hkp (j := 8) (by decide) (by rw [hP]; rfl)
  have m11 := row_at vpL 12 (fun _ => rfl) vp0 hrow hkp (j := 11) (by decide) (by rw [hP]; rfl)
  have mf := fun j => fz_of hrow j
  have HR1 := hide hr1
  have HO1 := hide hO1
  have HRow := hide hrow
  have HPS := hide hps
  have HLEN := hide hlen
  have HIN := hide hin
  have HP := hide hP
  have HIK := hide hIk
  have HYD := hide hY
  have hgl : gv < w1.heap.size := (Array.getElem?_eq_some_iff.1 hrow).1
  clear hF hp hpp hb1 hO1 hr1 hrow hps hlen hin hP hP1 hP2 hIk hY
  by_cases ht : Y.tier = 3
  · have HE0 : Hid (E = 0) := by show _ = _; rw [unhide hEY, if_pos ht]
    have t7 : (Y.tier != 3) = false := by simp [ht]
    have HB : Hid (Bx (((w1.setCell ⟨gv, k * 12 + 7, none⟩ (.int .i64 2)).setCell ⟨gv, k * 12 + 8, none⟩ (.slice none 0 0)).setCell ⟨gv, k * 12 + 11, none⟩ (.int .i64 0)) B X Q) := by
        have r0 := unhide HRow
        have r1 := row_set vpL 12 (fun _ => rfl) vp0 r0 hkp (j := 7) (by decide) (.int .i64 2) ({ Y with tier := 2 }, .slice ua Y.sec.length uc) (by rw [unhide HP]; rfl)
        have hk1 : k < (ps.set k ({ Y with tier := 2 }, .slice ua Y.sec.length uc)).length := by simpa using hkp
        have r2 := row_set vpL 12 (fun _ => rfl) vp0 r1 hk1 (j := 8) (by decide) (.slice none 0 0) ({ Y with tier := 2, sec := [] }, .slice none 0 0) (by rw [vset_get hkp]; rfl)
        rw [vset_set] at r2
        have hk2 : k < (ps.set k ({ Y with tier := 2, sec := [] }, .slice none 0 0)).length := by simpa using hkp
        have r3 := row_set vpL 12 (fun _ => rfl) vp0 r2 hk2 (j := 11) (by decide) (.int .i64 0) ({ Y with tier := 2, sec := [], til := 0 }, .slice none 0 0) (by rw [vset_get hkp]; rfl)
        rw [vset_set] at r3
        have hgs : w1.grownBy (((w1.setCell ⟨gv, k * 12 + 7, none⟩ (.int .i64 2)).setCell ⟨gv, k * 12 + 8, none⟩ (.slice none 0 0)).setCell ⟨gv, k * 12 + 11, none⟩ (.int .i64 0)) (some gv) := gb_trans (gb_trans (gb_setCell _ _ _ _) (gb_setCell _ _ _ _)) (gb_setCell _ _ _ _)
        have hs := (unhide HO1).setV (unhide HPS) hBg (unhide HRow) (unhide HLEN) hcap (unhide HIN) r3 hgs (OwI.nil _ _)
        show Bx _ _ _ _
        rw [← unhide HQ]
        unfold chlS
        rw [unhide HIK, show ((k : Int)).toNat = k from rfl, unhide HYD]
        exact ⟨b, _, u, q, g, row_kept (unhide HR1) hgs (row_typ (unhide HRow)) (by decide), hs⟩
    have HL : Hid (Below B w (((w1.setCell ⟨gv, k * 12 + 7, none⟩ (.int .i64 2)).setCell ⟨gv, k * 12 + 8, none⟩ (.slice none 0 0)).setCell ⟨gv, k * 12 + 11, none⟩ (.int .i64 0))) := bl_tr (unhide HL1) (gb_lo (r := some gv) (gb_trans (gb_trans (gb_setCell _ _ _ _) (gb_setCell _ _ _ _)) (gb_setCell _ _ _ _)) (by omega) (fun j e => by injection e with e; omega))
    clear ht
    go_wp2
    go_ret
    exact ⟨ret_int (unhide HE0).symm, fun _ => unhide HB, unhide HL⟩
  · have HE11 : Hid (E = 11) := by show _ = _; rw [unhide hEY, if_neg ht]
    have t7 : (Y.tier != 3) = true := by simp [ht]
    clear ht
    go_wp2
    go_ret
    exact ⟨ret_int (unhide HE11).symm, fun e => absurd ((unhide HE11).symm.trans e) (by decide), unhide HL1⟩
def frzV (Y : Ve) (vol pos : Int) : Ve := if Y.tier = 1 then { Y with tier := 2, sec := [], vol := vol, pos := pos } else { Y with vol := vol, pos := pos }
def frzE (S : St) (id : Int) : Int := if wbE S id = 0 then 0 else wbE S id
def frzS (S : St) (id vol pos : Int) : St := { S with ves := S.ves.set (idxV S id).toNat (frzV (S.ves.getD (idxV S id).toNat ve0) vol pos) }
theorem frzV_1 {Y : Ve} {vol pos : Int} (h : Y.tier = 1) : frzV Y vol pos = { Y with tier := 2, sec := [], vol := vol, pos := pos } := by unfold frzV; rw [if_pos h]
theorem frzV_2 {Y : Ve} {vol pos : Int} (h : ¬ Y.tier = 1) : frzV Y vol pos = { Y with vol := vol, pos := pos } := by unfold frzV; rw [if_neg h]
set_option maxHeartbeats 4000000 in
theorem freeze_any (S : St) (id vol pos : Int) (B X : Nat) (w : World) (h : Bx w B X S) (hX : B ≤ X) (hw : WfS S) (hn : S.ves.length ≤ 1000) :
    Calls Tryz.prog 65 #[.pointer (some ⟨X, 0, none⟩), .int .i64 id, .int .i64 vol, .int .i64 pos] w fun e w' => e = .returned (.int .i64 (frzE S id)) ∧ (frzE S id = 0 → Bx w' B X (frzS S id vol pos)) ∧ Below B w w' := by
  have hXl := h.lt
  obtain ⟨b, v, u, q, g, hr, hO⟩ := h
  have HR := hide hr
  have HO := hide hO
  obtain ⟨E, hE⟩ : ∃ E, frzE S id = E := ⟨_, rfl⟩
  obtain ⟨Q, hQ⟩ : ∃ Q, frzS S id vol pos = Q := ⟨_, rfl⟩
  rw [hE, hQ]
  have HE := hide hE
  have HQ := hide hQ
  clear hr hO hE hQ
  go_enter Tryz.func65, Tryz.ntmps65
  go_wp2_with fail
  refine (withBody_any S id B X b v u q g w (unhide HR) (unhide HO) hw hn).mono ?_
  rintro e w1 ⟨p, rfl, hp, hb1⟩
  obtain ⟨F, hF⟩ : ∃ F, wbE S id = F := ⟨_, rfl⟩
  rw [hF] at hp ⊢
  have HL1 : Hid (Below B w w1) := bl_lo hb1 (by omega)
  by_cases hf : ¬ F = 0
  · have HEF : Hid (E = F) := by show _ = _; rw [← unhide HE]; unfold frzE; rw [hF, if_neg hf]
    have t0 : (F != 0) = true := by simp [hf]
    have H0 := hide hf
    clear hf hF hp hb1
    go_wp2
    go_ret
    exact ⟨ret_int (unhide HEF).symm, fun e => absurd ((unhide HEF).symm.trans e) (unhide H0), unhide HL1⟩
  replace hf : F = 0 := Classical.not_not.1 hf
  obtain ⟨k, hIk, hk, hpp⟩ := hp hf
  have hO1 := (unhide HO).up hb1
  have hr1 := (hb1.block X hXl).trans (unhide HR)
  obtain ⟨ps, gv, cap, sp, hps, hpl, rfl, hBg, hrow, hlen, hcap, hnc, hin⟩ := hO1.vrow (by omega)
  have hpv := hpp gv _ _ rfl
  subst hpv
  have hkp : k < ps.length := by omega
  obtain ⟨P, hP⟩ : ∃ P, ps.getD k vp0 = P := ⟨_, rfl⟩
  have hP1 : P.1 = S.ves.getD k ve0 := by rw [← hP]; exact getD_fst hps hk
  obtain ⟨ua, uc, hP2, _, _⟩ := own_form (hin P (by rw [← hP]; exact getD_mem hkp))
  obtain ⟨Y, hY⟩ : ∃ Y, S.ves.getD k ve0 = Y := ⟨_, rfl⟩
  have hPv : P = (Y, .slice ua Y.sec.length uc) := by
    obtain ⟨P1, P2⟩ := P
    simp only at hP1 hP2
    rw [hP2, hP1, hY]
  subst hPv
  have hEY : Hid (E = 0) := by show _ = _; rw [← unhide HE]; unfold frzE; rw [hF, if_pos hf]
  subst hf
  have m7 := row_at vpL 12 (fun _ => rfl) vp0 hrow hkp (j := 7) (by decide) (by rw [hP]; rfl)
  have m8 := row_at vpL 12 (fun _ => rfl) vp0 hrow hkp (j := 8) (by decide) (by rw [hP]; rfl)
  have m9 := row_at vpL 12 (fun _ => rfl) vp0 hrow hkp (j := 9) (by decide) (by rw [hP]; rfl)
  have m10 := row_at vpL 12 (fun _ => rfl) vp0 hrow hkp (j := 10) (by decide) (by rw [hP]; rfl)
  have mf := fun j => fz_of hrow j
  have HR1 := hide hr1
  have HO1 := hide hO1
  have HRow := hide hrow
  have HPS := hide hps
  have HLEN := hide hlen
  have HIN := hide hin
  have HP := hide hP
  have HIK := hide hIk
  have HYD := hide hY
  have hgl : gv < w1.heap.size := (Array.getElem?_eq_some_iff.1 hrow).1
  clear hF hp hpp hb1 hO1 hr1 hrow hps hlen hin hP hP1 hP2 hIk hY
  by_cases ht : Y.tier = 1
  · have t7 : (Y.tier == 1) = true := by simp [ht]
    have HB : Hid (Bx ((((w1.setCell ⟨gv, k * 12 + 7, none⟩ (.int .i64 2)).setCell ⟨gv, k * 12 + 8, none⟩ (.slice none 0 0)).setCell ⟨gv, k * 12 + 9, none⟩ (.int .i64 vol)).setCell ⟨gv, k * 12 + 10, none⟩ (.int .i64 pos)) B X Q) := by
        have r0 := unhide HRow
        have r1 := row_set vpL 12 (fun _ => rfl) vp0 r0 hkp (j := 7) (by decide) (.int .i64 2) ({ Y with tier := 2 }, .slice ua Y.sec.length uc) (by rw [unhide HP]; rfl)
        have hk1 : k < (ps.set k ({ Y with tier := 2 }, .slice ua Y.sec.length uc)).length := by simpa using hkp
        have r2 := row_set vpL 12 (fun _ => rfl) vp0 r1 hk1 (j := 8) (by decide) (.slice none 0 0) ({ Y with tier := 2, sec := [] }, .slice none 0 0) (by rw [vset_get hkp]; rfl)
        rw [vset_set] at r2
        have hk2 : k < (ps.set k ({ Y with tier := 2, sec := [] }, .slice none 0 0)).length := by simpa using hkp
        have r3 := row_set vpL 12 (fun _ => rfl) vp0 r2 hk2 (j := 9) (by decide) (.int .i64 vol) ({ Y with tier := 2, sec := [], vol := vol }, .slice none 0 0) (by rw [vset_get hkp]; rfl)
        rw [vset_set] at r3
        have hk3 : k < (ps.set k ({ Y with tier := 2, sec := [], vol := vol }, .slice none 0 0)).length := by simpa using hkp
        have r4 := row_set vpL 12 (fun _ => rfl) vp0 r3 hk3 (j := 10) (by decide) (.int .i64 pos) ({ Y with tier := 2, sec := [], vol := vol, pos := pos }, .slice none 0 0) (by rw [vset_get hkp]; rfl)
        rw [vset_set] at r4
        have hgs : w1.grownBy ((((w1.setCell ⟨gv, k * 12 + 7, none⟩ (.int .i64 2)).setCell ⟨gv, k * 12 + 8, none⟩ (.slice none 0 0)).setCell ⟨gv, k * 12 + 9, none⟩ (.int .i64 vol)).setCell ⟨gv, k * 12 + 10, none⟩ (.int .i64 pos)) (some gv) := gb_trans (gb_trans (gb_trans (gb_setCell _ _ _ _) (gb_setCell _ _ _ _)) (gb_setCell _ _ _ _)) (gb_setCell _ _ _ _)
        have hs := (unhide HO1).setV (unhide HPS) hBg (unhide HRow) (unhide HLEN) hcap (unhide HIN) r4 hgs (OwI.nil _ _)
        show Bx _ _ _ _
        rw [← unhide HQ]
        unfold frzS
        rw [unhide HIK, show ((k : Int)).toNat = k from rfl, unhide HYD, frzV_1 ht]
        exact ⟨b, _, u, q, g, row_kept (unhide HR1) hgs (row_typ (unhide HRow)) (by decide), hs⟩
    have HL : Hid (Below B w ((((w1.setCell ⟨gv, k * 12 + 7, none⟩ (.int .i64 2)).setCell ⟨gv, k * 12 + 8, none⟩ (.slice none 0 0)).setCell ⟨gv, k * 12 + 9, none⟩ (.int .i64 vol)).setCell ⟨gv, k * 12 + 10, none⟩ (.int .i64 pos))) := bl_tr (unhide HL1) (gb_lo (r := some gv) (gb_trans (gb_trans (gb_trans (gb_setCell _ _ _ _) (gb_setCell _ _ _ _)) (gb_setCell _ _ _ _)) (gb_setCell _ _ _ _)) (by omega) (fun j e => by injection e with e; omega))
    clear ht
    go_wp2
    go_ret
    exact ⟨ret_int (unhide hEY).symm, fun _ => unhide HB, unhide HL⟩
  · have t7 : (Y.tier == 1) = false := by simp [ht]
    have HB : Hid (Bx ((w1.setCell ⟨gv, k * 12 + 9, none⟩ (.int .i64 vol)).setCell ⟨gv, k * 12 + 10, none⟩ (.int .i64 pos)) B X Q) := by
        have r0 := unhide HRow
        have r1 := row_set vpL 12 (fun _ => rfl) vp0 r0 hkp (j := 9) (by decide) (.int .i64 vol) ({ Y with vol := vol }, .slice ua Y.sec.length uc) (by rw [unhide HP]; rfl)
        have hk1 : k < (ps.set k ({ Y with vol := vol }, .slice ua Y.sec.length uc)).length := by simpa using hkp
        have r2 := row_set vpL 12 (fun _ => rfl) vp0 r1 hk1 (j := 10) (by decide) (.int .i64 pos) ({ Y with vol := vol, pos := pos }, .slice ua Y.sec.length uc) (by rw [vset_get hkp]; rfl)
        rw [vset_set] at r2
        have hgs : w1.grownBy ((w1.setCell ⟨gv, k * 12 + 9, none⟩ (.int .i64 vol)).setCell ⟨gv, k * 12 + 10, none⟩ (.int .i64 pos)) (some gv) := gb_trans (gb_setCell _ _ _ _) (gb_setCell _ _ _ _)
        have hs := (unhide HO1).setV (unhide HPS) hBg (unhide HRow) (unhide HLEN) hcap (unhide HIN) r2 hgs (own_kept (unhide HIN (Y, .slice ua Y.sec.length uc) (by rw [← unhide HP]; exact getD_mem hkp)) hgs (row_typ (unhide HRow)) (by decide))
        show Bx _ _ _ _
        rw [← unhide HQ]
        unfold frzS
        rw [unhide HIK, show ((k : Int)).toNat = k from rfl, unhide HYD, frzV_2 ht]
        exact ⟨b, _, u, q, g, row_kept (unhide HR1) hgs (row_typ (unhide HRow)) (by decide), hs⟩
    have HL : Hid (Below B w ((w1.setCell ⟨gv, k * 12 + 9, none⟩ (.int .i64 vol)).setCell ⟨gv, k * 12 + 10, none⟩ (.int .i64 pos))) := bl_tr (unhide HL1) (gb_lo (r := some gv) (gb_trans (gb_setCell _ _ _ _) (gb_setCell _ _ _ _)) (by omega) (fun j e => by injection e with e; omega))
    clear ht
    go_wp2
    go_ret
    exact ⟨ret_int (unhide hEY).symm, fun _ => unhide HB, unhide HL⟩
def thwE (S : St) (id : Int) : Int := if wbE S id = 0 then (if (S.ves.getD (idxV S id).toNat ve0).tier = 2 then 0 else 12) else wbE S id
def thw1 (S : St) (id : Int) (l : List Int) (n : Int) : St := { S with ves := S.ves.set (idxV S id).toNat { S.ves.getD (idxV S id).toNat ve0 with tier := 3, sec := l, til := n } }
def thwS (S : St) (id : Int) (l : List Int) (n : Int) : St := unaS (thw1 S id l n) id
theorem thw1_wf {S : St} {id : Int} {l : List Int} {n : Int} (h : WfS S) (hl : ∀ x ∈ l, (Lit.int .i64 x).wf = true) (hk : (idxV S id).toNat < S.ves.length) : WfS (thw1 S id l n) := by
  refine ⟨h.bus, fun x hx => ?_, h.ups, h.que, h.gone⟩
  rcases List.mem_or_eq_of_mem_set hx with hx | rfl
  · exact h.ves x hx
  · exact ⟨(h.ves _ (getD_mem hk)).1, hl⟩
set_option maxHeartbeats 4000000 in
theorem thaw_any (S : St) (id n : Int) (l : List Int) (ra : Option Addr) (rc : Nat) (B X : Nat) (w : World) (h : Bx w B X S) (hX : B ≤ X) (hw : WfS S) (hn : S.ves.length ≤ 1000) (hsec : l.length * 8 ≤ 281474976710656) (hI : ∀ w', Below B w w' → Ints w' (.slice ra l.length rc) l) :
    Calls Tryz.prog 67 #[.pointer (some ⟨X, 0, none⟩), .int .i64 id, .slice ra l.length rc, .int .i64 n] w fun e w' => e = .returned (.int .i64 (thwE S id)) ∧ (thwE S id = 0 → Bx w' B X (thwS S id l n)) ∧ Below B w w' := by
  have HIL := hide hI
  clear hI
  have hXl := h.lt
  obtain ⟨b, v, u, q, g, hr, hO⟩ := h
  have HR := hide hr
  have HO := hide hO
  obtain ⟨E, hE⟩ : ∃ E, thwE S id = E := ⟨_, rfl⟩
  obtain ⟨Q, hQ⟩ : ∃ Q, thwS S id l n = Q := ⟨_, rfl⟩
  rw [hE, hQ]
  have HE := hide hE
  have HQ := hide hQ
  clear hr hO hE hQ
  go_enter Tryz.func67, Tryz.ntmps67
  go_wp2_with fail
  refine (withBody_any S id B X b v u q g w (unhide HR) (unhide HO) hw hn).mono ?_
  rintro e w1 ⟨p, rfl, hp, hb1⟩
  obtain ⟨F, hF⟩ : ∃ F, wbE S id = F := ⟨_, rfl⟩
  rw [hF] at hp ⊢
  have HL1 : Hid (Below B w w1) := bl_lo hb1 (by omega)
  by_cases hf : ¬ F = 0
  · have HEF : Hid (E = F) := by show _ = _; rw [← unhide HE]; unfold thwE; rw [hF, if_neg hf]
    have t0 : (F != 0) = true := by simp [hf]
    have H0 := hide hf
    clear hf hF hp hb1
    go_wp2
    go_ret
    exact ⟨ret_int (unhide HEF).symm, fun e => absurd ((unhide HEF).symm.trans e) (unhide H0), unhide HL1⟩
  replace hf : F = 0 := Classical.not_not.1 hf
  obtain ⟨k, hIk, hk, hpp⟩ := hp hf
  have hO1 := (unhide HO).up hb1
  have hr1 := (hb1.block X hXl).trans (unhide HR)
  obtain ⟨ps, gv, cap, sp, hps, hpl, rfl, hBg, hrow, hlen, hcap, hnc, hin⟩ := hO1.vrow (by omega)
  have hpv := hpp gv _ _ rfl
  subst hpv
  have hkp : k < ps.length := by omega
  obtain ⟨P, hP⟩ : ∃ P, ps.getD k vp0 = P := ⟨_, rfl⟩
  have hP1 : P.1 = S.ves.getD k ve0 := by rw [← hP]; exact getD_fst hps hk
  obtain ⟨ua, uc, hP2, _, _⟩ := own_form (hin P (by rw [← hP]; exact getD_mem hkp))
  obtain ⟨Y, hY⟩ : ∃ Y, S.ves.getD k ve0 = Y := ⟨_, rfl⟩
  have hPv : P = (Y, .slice ua Y.sec.length uc) := by
    obtain ⟨P1, P2⟩ := P
    simp only at hP1 hP2
    rw [hP2, hP1, hY]
  subst hPv
  have hEY : Hid (E = if Y.tier = 2 then 0 else 12) := by show _ = _; rw [← unhide HE]; unfold thwE; rw [hF, if_pos hf, hIk, show ((k : Int)).toNat = k from rfl, hY]
  subst hf
  have m7 := row_at vpL 12 (fun _ => rfl) vp0 hrow hkp (j := 7) (by decide) (by rw [hP]; rfl)
  have mf := fun j => fz_of hrow j
  have HR1 := hide hr1
  have HO1 := hide hO1
  have HRow := hide hrow
  have HPS := hide hps
  have HLEN := hide hlen
  have HIN := hide hin
  have HP := hide hP
  have HIK := hide hIk
  have HYD := hide hY
  have hgl : gv < w1.heap.size := (Array.getElem?_eq_some_iff.1 hrow).1
  clear hF hp hpp hb1 hO1 hr1 hrow hps hlen hin hP hP1 hP2 hIk hY
  by_cases ht : ¬ Y.tier = 2
  · have HE12 : Hid (E = 12) := by show _ = _; rw [unhide hEY, if_neg ht]
    have t7 : (Y.tier != 2) = true := by simp [ht]
    clear ht
    go_wp2
    go_ret
    exact ⟨ret_int (unhide HE12).symm, fun e => absurd ((unhide HE12).symm.trans e) (by decide), unhide HL1⟩
  replace ht : Y.tier = 2 := Classical.not_not.1 ht
  have HE0 : Hid (E = 0) := by show _ = _; rw [unhide hEY, if_pos ht]
  have t7 : (Y.tier != 2) = false := by simp [ht]
  have hXl1 : X < w1.heap.size := (Array.getElem?_eq_some_iff.1 (unhide HR1)).1
  clear ht
  go_wp2_with fail
  refine (copyInts_any _ l w1 (unhide HIL w1 (unhide HL1)) hsec).mono ?_
  rintro e w2 ⟨o, rfl, hoO, hb2⟩
  obtain ⟨oa, oc, rfl, _, _⟩ := own_form hoO
  have hrow2 := (hb2.block gv hgl).trans (unhide HRow)
  have hr2 := (hb2.block X hXl1).trans (unhide HR1)
  have hO2 := (unhide HO1).up hb2
  have hin2 : ∀ p ∈ ps, OwI w2 B p.2 p.1.sec := fun p hp => own_up hb2 (unhide HIN p hp)
  clear m7 mf
  have m7 := row_at vpL 12 (fun _ => rfl) vp0 hrow2 hkp (j := 7) (by decide) (by rw [unhide HP]; rfl)
  have m8 := row_at vpL 12 (fun _ => rfl) vp0 hrow2 hkp (j := 8) (by decide) (by rw [unhide HP]; rfl)
  have m11 := row_at vpL 12 (fun _ => rfl) vp0 hrow2 hkp (j := 11) (by decide) (by rw [unhide HP]; rfl)
  have mf := fun j => fz_of hrow2 j
  have hsz2 := hb2.size
  have HBT : Hid (Bx (((w2.setCell ⟨gv, k * 12 + 7, none⟩ (.int .i64 3)).setCell ⟨gv, k * 12 + 8, none⟩ (.slice oa l.length oc)).setCell ⟨gv, k * 12 + 11, none⟩ (.int .i64 n)) B X (thw1 S id l n)) := by
    have HRow := hide hrow2
    have hgs : w2.grownBy (((w2.setCell ⟨gv, k * 12 + 7, none⟩ (.int .i64 3)).setCell ⟨gv, k * 12 + 8, none⟩ (.slice oa l.length oc)).setCell ⟨gv, k * 12 + 11, none⟩ (.int .i64 n)) (some gv) := gb_trans (gb_trans (gb_setCell _ _ _ _) (gb_setCell _ _ _ _)) (gb_setCell _ _ _ _)
    have r0 := unhide HRow
    have r1 := row_set vpL 12 (fun _ => rfl) vp0 r0 hkp (j := 7) (by decide) (.int .i64 3) ({ Y with tier := 3 }, .slice ua Y.sec.length uc) (by rw [unhide HP]; rfl)
    have hk1 : k < (ps.set k ({ Y with tier := 3 }, .slice ua Y.sec.length uc)).length := by simpa using hkp
    have r2 := row_set vpL 12 (fun _ => rfl) vp0 r1 hk1 (j := 8) (by decide) (.slice oa l.length oc) ({ Y with tier := 3, sec := l }, .slice oa l.length oc) (by rw [vset_get hkp]; rfl)
    rw [vset_set] at r2
    have hk2 : k < (ps.set k ({ Y with tier := 3, sec := l }, .slice oa l.length oc)).length := by simpa using hkp
    have r3 := row_set vpL 12 (fun _ => rfl) vp0 r2 hk2 (j := 11) (by decide) (.int .i64 n) ({ Y with tier := 3, sec := l, til := n }, .slice oa l.length oc) (by rw [vset_get hkp]; rfl)
    rw [vset_set] at r3
    have hoo : OwI (((w2.setCell ⟨gv, k * 12 + 7, none⟩ (.int .i64 3)).setCell ⟨gv, k * 12 + 8, none⟩ (.slice oa l.length oc)).setCell ⟨gv, k * 12 + 11, none⟩ (.int .i64 n)) B (.slice oa l.length oc) l := own_base (own_kept hoO hgs (row_typ hrow2) (by decide)) (by omega)
    have hs := hO2.setV (unhide HPS) hBg hrow2 (unhide HLEN) hcap hin2 r3 hgs hoo
    show Bx _ _ _ _
    unfold thw1
    rw [unhide HIK, show ((k : Int)).toNat = k from rfl, unhide HYD]
    exact ⟨b, _, u, q, g, row_kept hr2 hgs (row_typ hrow2) (by decide), hs⟩
  have HL : Hid (Below B w (((w2.setCell ⟨gv, k * 12 + 7, none⟩ (.int .i64 3)).setCell ⟨gv, k * 12 + 8, none⟩ (.slice oa l.length oc)).setCell ⟨gv, k * 12 + 11, none⟩ (.int .i64 n))) := bl_tr (unhide HL1) (bl_tr (bl_lo hb2 (by omega)) (gb_lo (r := some gv) (gb_trans (gb_trans (gb_setCell _ _ _ _) (gb_setCell _ _ _ _)) (gb_setCell _ _ _ _)) (by omega) (fun j e => by injection e with e; omega)))
  have HWF : Hid (WfS (thw1 S id l n)) := thw1_wf hw (Ints.wfs (unhide HIL w1 (unhide HL1))) (by rw [unhide HIK]; exact hk)
  clear hrow2 hr2 hO2 hin2 hoO hb2
  go_wp2_with fail
  refine (unask_any (thw1 S id l n) id B X _ (unhide HBT) hX (unhide HWF)).mono ?_
  rintro e w3 ⟨rfl, hB3, hl3⟩
  have HB3 : Hid (Bx w3 B X Q) := by
    show Bx _ _ _ _
    rw [← unhide HQ]
    exact hB3
  have HL3 : Hid (Below B w w3) := bl_tr (unhide HL) hl3
  clear hB3 hl3 m7 m8 m11 mf
  go_wp2
  go_ret
  exact ⟨ret_int (unhide HE0).symm, fun _ => unhide HB3, unhide HL3⟩
end Go.Proofs.YtdgmdapijhbocaaGreat

/- state.addAsk. -/
namespace Go.Proofs.YtdgmdapijhbocaaGreat
open Go.RowKit Go.Maps
set_option maxRecDepth 100000
set_option linter.unusedVariables false
set_option linter.unusedSimpArgs false
def idxA (S : St) (n : Int) : Int := firstI S.que.length (akP S.que n)
def adaE (S : St) (a : Ak) : Int := if wbE S a.ver = 0 then (if (S.ves.getD (idxV S a.ver).toNat ve0).tier = 2 then (if 0 ≤ idxA S a.ver then 13 else if inB a.days 1 1000 && inB a.cls 0 2 then (if S.que.length = 10 then 8 else 0) else 2) else 12) else wbE S a.ver
def adaS (S : St) (a : Ak) : St := { S with que := S.que ++ [a] }
attribute [local go_sem ↓] Go.wp_at_zero Go.wp_at_succ
set_option maxHeartbeats 4000000 in
theorem addAsk_any (S : St) (a : Ak) (B X : Nat) (w : World) (h : Bx w B X S) (hX : B ≤ X) (hw : WfS S) (hn : S.ves.length ≤ 1000) (hq : S.que.length ≤ 1000) :
    Calls Tryz.prog 66 #[.pointer (some ⟨X, 0, none⟩), akV a] w fun e w' => e = .returned (.int .i64 (adaE S a)) ∧ (adaE S a = 0 → Bx w' B X (adaS S a)) ∧ Below B w w' := by
  obtain ⟨i0, hi, hz0, hz1, hz2⟩ := info_parts infoAk
  have hXl := h.lt
  obtain ⟨b, v, u, q, g, hr, hO⟩ := h
  have HR := hide hr
  have HO := hide hO
  obtain ⟨E, hE⟩ : ∃ E, adaE S a = E := ⟨_, rfl⟩
  obtain ⟨Q, hQ⟩ : ∃ Q, adaS S a = Q := ⟨_, rfl⟩
  rw [hE, hQ]
  have HE := hide hE
  have HQ := hide hQ
  clear hr hO hE hQ
  go_enter Tryz.func66, Tryz.ntmps66
  go_wp2_with fail
  refine (withBody_any S a.ver B X b v u q g _ (((bl1 w _).block X hXl).trans (unhide HR)) ((unhide HO).up (bl1 _ _)) hw hn).mono ?_
  rintro e w1 ⟨p, rfl, hp, hb⟩
  have hb1 : Below w.heap.size w w1 := bl_trans (bl1 _ _) hb
  have hA1 := (hb.block w.heap.size (by simp)).trans (heap_alloc_new _ _)
  have HA1 : Hid (w1.heap[w.heap.size]? = some (.cells (akL a).toArray 43 (0, 0))) := hA1
  obtain ⟨F, hF⟩ : ∃ F, wbE S a.ver = F := ⟨_, rfl⟩
  rw [hF] at hp ⊢
  have HL1 : Hid (Below B w w1) := bl_lo hb1 (by omega)
  by_cases hf : ¬ F = 0
  · have HEF : Hid (E = F) := by show _ = _; rw [← unhide HE]; unfold adaE; rw [hF, if_neg hf]
    have t0 : (F != 0) = true := by simp [hf]
    have H0 := hide hf
    clear hf hF hp hb hb1 hA1
    go_wp2
    go_ret
    exact ⟨ret_int (unhide HEF).symm, fun e => absurd ((unhide HEF).symm.trans e) (unhide H0), unhide HL1⟩
  replace hf : F = 0 := Classical.not_not.1 hf
  obtain ⟨k, hIk, hk, hpp⟩ := hp hf
  have hO1 := (unhide HO).up hb1
  have hr1 := (hb1.block X hXl).trans (unhide HR)
  obtain ⟨ps, gv, cap, sp, hps, hpl, rfl, hBg, hrow, hlen, hcap, hnc, hin⟩ := hO1.vrow (by omega)
  have hpv := hpp gv _ _ rfl
  subst hpv
  obtain ⟨T, hT⟩ : ∃ T, (S.ves.getD k ve0).tier = T := ⟨_, rfl⟩
  have m7 := row_at vpL 12 (fun _ => rfl) vp0 hrow (k := k) (by omega) (j := 7) (by decide) (v := .int .i64 T) (by rw [← hT, ← getD_fst hps hk]; rfl)
  have hEY : Hid (E = if T = 2 then (if 0 ≤ idxA S a.ver then 13 else if inB a.days 1 1000 && inB a.cls 0 2 then (if S.que.length = 10 then 8 else 0) else 2) else 12) := by show _ = _; rw [← unhide HE]; unfold adaE; rw [hF, if_pos hf, hIk, show ((k : Int)).toNat = k from rfl, hT]
  subst hf
  have hL := hide (hO1.que.lst hw.que)
  have bx := OSt.boxr hr1
  have c0 := bx.c0
  have c1 := bx.c1
  have c2 := bx.c2
  have c3 := bx.c3
  have c4 := bx.c4
  have c5 := bx.c5
  have c6 := bx.c6
  have s0 := cell_of (unhide HA1) 0 rfl
  have hXl1 := (Array.getElem?_eq_some_iff.1 hr1).1
  have hAl1 := (Array.getElem?_eq_some_iff.1 (unhide HA1)).1
  have HR1 := hide hr1
  have HO1 := hide hO1
  clear hF hp hpp hb hb1 hA1 hO1 hr1 bx hrow hps hlen hin hIk hT HR HO
  by_cases ht : ¬ T = 2
  · have HE12 : Hid (E = 12) := by show _ = _; rw [unhide hEY, if_neg ht]
    have t7 : (T != 2) = true := by simp [ht]
    clear ht
    go_wp2
    go_ret
    exact ⟨ret_int (unhide HE12).symm, fun e => absurd ((unhide HE12).symm.trans e) (by decide), unhide HL1⟩
  replace ht : T = 2 := Classical.not_not.1 ht
  have HE2 : Hid (E = if 0 ≤ idxA S a.ver then 13 else if inB a.days 1 1000 && inB a.cls 0 2 then (if S.que.length = 10 then 8 else 0) else 2) := by show _ = _; rw [unhide hEY, if_pos ht]
  have t7 : (T != 2) = false := by simp [ht]
  clear ht
  go_wp2
  have hne := Later.one w1
  have l0 := fun d : Later w1 => d.cell c0
  have l1 := fun d : Later w1 => d.cell c1
  have l2 := fun d : Later w1 => d.cell c2
  have l3 := fun d : Later w1 => d.cell c3
  have l4 := fun d : Later w1 => d.cell c4
  have l5 := fun d : Later w1 => d.cell c5
  have l6 := fun d : Later w1 => d.cell c6
  have lz := fun d : Later w1 => d.cell s0
  refine wp_region_later (by kernel_rfl) (by kernel_rfl) ?_
  repeat (go_big_quiet_step ((go_at_call 125; exact Calls.later (findAsk_any S b _ u q g a.ver _ ((unhide hL).imp fun _ _ _ r => RAk.up (Later.below _) r)))))
  refine wpQuiet_nil ?_
  intro w9 hw'
  obtain ⟨⟨w8, hb2⟩, hw''⟩ := hw'
  subst hw''
  have hr9 := (hb2.block X hXl1).trans (unhide HR1)
  have hA9 := (hb2.block w.heap.size hAl1).trans (unhide HA1)
  have hO9 := (unhide HO1).up hb2
  have HL9 : Hid (Below B w w9) := bl_tr (unhide HL1) (bl_lo hb2 (by omega))
  have hXl9 := (Array.getElem?_eq_some_iff.1 hr9).1
  have hAl9 := (Array.getElem?_eq_some_iff.1 hA9).1
  obtain ⟨I, hII⟩ : ∃ I, firstI S.que.length (akP S.que a.ver) = I := ⟨_, rfl⟩
  rw [hII]
  have HII : Hid (idxA S a.ver = I) := hII
  rw [unhide HII] at HE2
  have a0 := cell_of hA9 0 rfl
  have a1 := cell_of hA9 1 rfl
  have a2 := cell_of hA9 2 rfl
  have HR9 := hide hr9
  have HO9 := hide hO9
  have HA9 := hide hA9
  clear hne l0 l1 l2 l3 l4 l5 l6 lz c0 c1 c2 c3 c4 c5 c6 s0 hL HR1 HO1 HA1 hII hb2 m7 hr9 hO9 hA9
  by_cases hpos : 0 ≤ I
  · have HE13 : Hid (E = 13) := by show _ = _; rw [unhide HE2, if_pos hpos]
    go_wp2
    go_ret
    exact ⟨ret_int (unhide HE13).symm, fun e => absurd ((unhide HE13).symm.trans e) (by decide), unhide HL9⟩
  go_wp2_with fail
  refine (askMayBe_any a w9).mono ?_
  rintro e w2 ⟨rfl, hb2⟩
  have hr2 := (hb2.block X hXl9).trans (unhide HR9)
  have hA2 := (hb2.block w.heap.size hAl9).trans (unhide HA9)
  have hO2 := (unhide HO9).up hb2
  have HL2 : Hid (Below B w w2) := bl_tr (unhide HL9) (bl_lo hb2 (by omega))
  have hXl2 := (Array.getElem?_eq_some_iff.1 hr2).1
  obtain ⟨M, hM⟩ : ∃ M, (inB a.days 1 1000 && inB a.cls 0 2) = M := ⟨_, rfl⟩
  rw [hM] at HE2 ⊢
  obtain ⟨qa, qc, rfl, hqn, hqc⟩ := own_form hO2.que
  have d5 := cell_of hr2 5 rfl
  clear a0 a1 a2
  have a0 := cell_of hA2 0 rfl
  have a1 := cell_of hA2 1 rfl
  have a2 := cell_of hA2 2 rfl
  have HR2 := hide hr2
  have HO2 := hide hO2
  clear hr2 hA2 hO2 hb2 HR9 HO9 HA9 hM
  cases M
  · have HEr : Hid (E = 2) := by show _ = _; rw [unhide HE2, if_neg (by omega)]; rfl
    go_wp2
    go_ret
    exact ⟨ret_int (unhide HEr).symm, fun e => absurd ((unhide HEr).symm.trans e) (by decide), unhide HL2⟩
  by_cases h4 : S.que.length = 10
  · have HE8 : Hid (E = 8) := by show _ = _; rw [unhide HE2, if_neg (by omega), if_pos rfl, if_pos h4]
    have t4 : ((S.que.length : Int) == 10) = true := by simp [h4]
    have H4 := hide h4
    clear h4
    go_wp2
    go_ret
    exact ⟨ret_int (unhide HE8).symm, fun e => absurd ((unhide HE8).symm.trans e) (by decide), unhide HL2⟩
  have HE0 : Hid (E = 0) := by show _ = _; rw [unhide HE2, if_neg (by omega), if_pos rfl, if_neg h4]
  have t4 : ((S.que.length : Int) == 10) = false := by simp; omega
  have H4 := hide h4
  have hB3 : B ≤ w2.heap.size := by omega
  clear h4
  go_wp2
  go_region_law ((refine step_append_lies _ (by rfl) _ _ _ (by rfl) B 43 i0 _ 3 24 Tryz.underlying26 hi hz0 hz1 hz2 rfl (by omega) (.slice qa S.que.length qc) S.que.length (S.que.flatMap akL) (by rfl) (World.ownsRow.alloc (World.ownsRow.drew (unhide HO2).que) _) ⟨w2.heap.size, 0, none⟩ 1 1 (akL a) (by rfl) (by rfl) (World.news_of_block (cs := #[.int .i64 a.ver, .int .i64 a.days, .int .i64 a.cls]) (t := 43) (fr := (0, 0)) (heap_alloc_new w2.drew _)) (by simp [Value.oneCell']) (by omega) (by unfold maxLen; omega) (by omega) (by simp; omega) (w2.heap.size + 1) (by simp) ?_; intro gg gcap w7 hown' hgrow hat hlt7; have hgw := gb_trans (gb_below (r := (Value.slice qa S.que.length qc).ownBlock) (bl_alloc (Below.drew (Below.refl _ w2)) _)) hgrow; have htk := own_typ (unhide HO2).que; have hrX := row_kept (unhide HR2) hgw htk (by decide); have e5 := cell_of hrX 5 rfl; have f5 := fz_of hrX 5))
  all_goals
    have HB : Hid (Bx (w7.setCell ⟨X, 5, none⟩ (.slice (some ⟨gg, 0, none⟩) (S.que.length + 1) gcap)) B X Q) := by
      have hO2 := unhide HO2
      have hs1 : OSt w7 B b (.slice (some ⟨gv, 0, none⟩) S.ves.length cap) u (.slice (some ⟨gg, 0, none⟩) (S.que.length + 1) gcap) g (adaS S a) := by
        refine ⟨own_kept hO2.bus hgw htk (by decide), hO2.ves.kept hgw htk (by decide) (by decide), hO2.ups.kept hgw htk (by decide) (by decide) (by decide), ?_, own_kept hO2.gone hgw htk (by decide)⟩
        show World.ownsRow _ _ _ _ _ _ _
        unfold adaS
        rw [List.length_append, List.flatMap_append]
        simpa using hown'
      show Bx _ _ _ _
      rw [← unhide HQ]
      exact ⟨b, _, u, _, g, rowS hrX 5 _ rfl, hs1.box (gb_setCell w7 X 5 _) (row_typ hrX)⟩
    have HL : Hid (Below B w (w7.setCell ⟨X, 5, none⟩ (.slice (some ⟨gg, 0, none⟩) (S.que.length + 1) gcap))) := bl_tr (unhide HL2) (bl_tr (gb_lo hgw (by omega) (fun j e => ((unhide HO2).que.lt j e).1)) (gb_lo (gb_setCell w7 X 5 _) (by have := hgw.size; omega) (fun j e => by injection e with e; omega)))
    clear hown' hgrow hgw htk hrX hat
    go_wp2
    go_ret
    exact ⟨ret_int (unhide HE0).symm, fun _ => unhide HB, unhide HL⟩
end Go.Proofs.YtdgmdapijhbocaaGreat

/- state.addVersion. -/
namespace Go.Proofs.YtdgmdapijhbocaaGreat
open Go.RowKit Go.Maps
set_option maxRecDepth 100000
set_option linter.unusedVariables false
set_option linter.unusedSimpArgs false
def idxN (S : St) (Y : Ve) : Int := firstI S.ves.length (nulP S.ves Y.bu Y.ke)
def advD (S : St) (Y : Ve) : St := if Y.nul = true ∧ 0 ≤ idxN S Y then drpS (takeS S) (idxN S Y).toNat else takeS S
def advE (S : St) (Y : Ve) : Int := if takeE S Y.id = 0 then (if (advD S Y).ves.length = 40 then 8 else 0) else takeE S Y.id
def advS (S : St) (Y : Ve) : St := { advD S Y with ves := (advD S Y).ves ++ [Y] }
attribute [local go_sem ↓] Go.wp_at_zero Go.wp_at_succ
set_option maxHeartbeats 8000000 in
theorem addVersion_any (S : St) (Y : Ve) (ua : Option Addr) (uc : Nat) (B X : Nat) (w : World) (h : Bx w B X S) (hX : B ≤ X) (hw : WfS S) (hn : S.ves.length ≤ 1000) (h0 : 1 ≤ S.next) (h1 : S.next ≤ 1048576) (hsec : Y.sec.length * 8 ≤ 281474976710656) (hI : ∀ w', Below B w w' → Ints w' (.slice ua Y.sec.length uc) Y.sec) :
    Calls Tryz.prog 63 #[.pointer (some ⟨X, 0, none⟩), veV Y (.slice ua Y.sec.length uc)] w fun e w' => e = .returned (.int .i64 (advE S Y)) ∧ (advE S Y = 0 → Bx w' B X (advS S Y)) ∧ Below B w w' := by
  obtain ⟨i0, hi, hz0, hz1, hz2⟩ := info_parts infoVe
  have hXl := h.lt
  obtain ⟨b, v, u, q, g, hr, hO⟩ := h
  obtain ⟨E, hE⟩ : ∃ E, advE S Y = E := ⟨_, rfl⟩
  obtain ⟨Q, hQ⟩ : ∃ Q, advS S Y = Q := ⟨_, rfl⟩
  rw [hE, hQ]
  obtain ⟨N, hN⟩ : ∃ N, Y.nul = N := ⟨_, rfl⟩
  have HE := hide hE
  have HQ := hide hQ
  have HI := hide hI
  have HR := hide hr
  have HO := hide hO
  have HN := hide hN
  have hvV : v.ownBlock ≠ some w.heap.size := hO.ves.new
  have HVV := hide hvV
  clear hE hQ hI hr hO hvV hN
  go_enter Tryz.func63, Tryz.ntmps63
  go_wp2_with fail
  refine (takeNumberW_any S Y.id X b v u q g _ (((bl1 w _).block X hXl).trans (unhide HR)) h0 h1).mono ?_
  rintro e w1 ⟨rfl, hw1a, hw1b⟩
  obtain ⟨F, hF⟩ : ∃ F, takeE S Y.id = F := ⟨_, rfl⟩
  rw [hF] at hw1a hw1b ⊢
  by_cases hf : ¬ F = 0
  · have HEF : Hid (E = F) := by show _ = _; rw [← unhide HE]; unfold advE; rw [hF, if_neg hf]
    have t0 : (F != 0) = true := by simp [hf]
    have H0 := hide hf
    have hw1 := hw1b hf
    have HL0 : Hid (Below B w w1) := by rw [hw1]; exact bl_lo (bl1 _ _) (by omega)
    clear hf hF hw1a hw1b hw1
    go_wp2
    go_ret
    exact ⟨ret_int (unhide HEF).symm, fun e => absurd ((unhide HEF).symm.trans e) (unhide H0), unhide HL0⟩
  replace hf : F = 0 := Classical.not_not.1 hf
  have HE3 : Hid (E = if (advD S Y).ves.length = 40 then 8 else 0) := by show _ = _; rw [← unhide HE]; unfold advE; rw [hF, if_pos hf]
  have hw1 := hw1a hf
  subst hf
  have hr1 : w1.heap[X]? = some (.cells (stA (takeS S) b v u q g) 29 (0, 0)) := by rw [hw1]; exact rowS (((bl1 w _).block X hXl).trans (unhide HR)) 0 _ rfl
  have hV1 : w1.heap[w.heap.size]? = some (.cells (veL Y (.slice ua Y.sec.length uc)).toArray 36 (0, 0)) := by rw [hw1, Below.heap_setCell _ _ _ _ (by simp; omega)]; exact heap_alloc_new _ _
  have hO1 : OSt w1 B b v u q g (takeS S) := by rw [hw1]; exact (((unhide HO).up (bl1 _ _)).box (gb_setCell _ X 0 _) (row_typ (((bl1 w _).block X hXl).trans (unhide HR)))).of rfl rfl rfl rfl rfl
  have HL1 : Hid (Below B w w1) := by
    show Below _ _ _
    rw [hw1]
    exact bl_tr (bl_lo (bl1 _ _) (by omega)) (gb_lo (gb_setCell _ X 0 _) (by simp; omega) (fun j e => by injection e with e; omega))
  have hL := hide (hO1.ves.lst hw.ves)
  have bx := OSt.boxr hr1
  have c0 := bx.c0
  have c1 := bx.c1
  have c2 := bx.c2
  have c3 := bx.c3
  have c4 := bx.c4
  have c5 := bx.c5
  have c6 := bx.c6
  have s1 := cell_of hV1 1 rfl
  have s2 := cell_of hV1 2 rfl
  have hXl1 := (Array.getElem?_eq_some_iff.1 hr1).1
  have hVl1 := (Array.getElem?_eq_some_iff.1 hV1).1
  have HR1 := hide hr1
  have HO1 := hide hO1
  have HV1 := hide hV1
  clear hF hw1a hw1b hw1 hr1 hO1 hV1 bx HR HO
  go_wp2
  have hne := Later.one w1
  have l0 := fun d : Later w1 => d.cell c0
  have l1 := fun d : Later w1 => d.cell c1
  have l2 := fun d : Later w1 => d.cell c2
  have l3 := fun d : Later w1 => d.cell c3
  have l4 := fun d : Later w1 => d.cell c4
  have l5 := fun d : Later w1 => d.cell c5
  have l6 := fun d : Later w1 => d.cell c6
  have lz1 := fun d : Later w1 => d.cell s1
  have lz2 := fun d : Later w1 => d.cell s2
  refine wp_region_later (by kernel_rfl) (by kernel_rfl) ?_
  repeat (go_big_quiet_step ((go_at_call 122; exact Calls.later (findNull_any (takeS S) b v u q g Y.bu Y.ke _ ((unhide hL).imp fun _ _ _ r => RVe.up (Later.below _) r)))))
  refine wpQuiet_nil ?_
  intro w9 hw'
  obtain ⟨⟨w8, hb2⟩, hw''⟩ := hw'
  subst hw''
  have hr9 := (hb2.block X hXl1).trans (unhide HR1)
  have hV9 := (hb2.block w.heap.size hVl1).trans (unhide HV1)
  have hO9 := (unhide HO1).up hb2
  have HL9 : Hid (Below B w w9) := bl_tr (unhide HL1) (bl_lo hb2 (by omega))
  have hXl9 := (Array.getElem?_eq_some_iff.1 hr9).1
  have y3 := cell_of hV9 3 rfl
  have hbd := firstI_lt S.ves.length (nulP S.ves Y.bu Y.ke)
  obtain ⟨I, hII⟩ : ∃ I, firstI S.ves.length (nulP S.ves Y.bu Y.ke) = I := ⟨_, rfl⟩
  have hII2 : firstI (takeS S).ves.length (nulP (takeS S).ves Y.bu Y.ke) = I := hII
  rw [hII2]
  rw [hII] at hbd
  have HIN0 : Hid (idxN S Y = I) := hII
  clear hne l0 l1 l2 l3 l4 l5 l6 lz1 lz2 c0 c1 c2 c3 c4 c5 c6 s1 s2 hL HR1 HO1 HV1 hII hII2 hb2
  have hyN : veL Y (.slice ua Y.sec.length uc) = [.int .i64 Y.id, .string Y.bu, .string Y.ke, .bool N, .bool Y.mar, .int .i64 Y.size, .int .i64 Y.time, .int .i64 Y.tier, .slice ua Y.sec.length uc, .int .i64 Y.vol, .int .i64 Y.pos, .int .i64 Y.til] := by rw [← unhide HN]
  replace y3 : w9.cell? ⟨w.heap.size, 3, none⟩ = some (.bool N) := by have := cell_of hV9 3 (v := .bool Y.nul) rfl; rwa [unhide HN] at this
  clear hyN
  by_cases hdrop : N = true ∧ 0 ≤ I
  · obtain ⟨rfl, hpos⟩ := hdrop
    obtain ⟨k, rfl⟩ := Int.eq_ofNat_of_zero_le hpos
    have hDv : advD S Y = drpS (takeS S) k := by
      unfold advD
      rw [unhide HIN0, if_pos ⟨unhide HN, hpos⟩]; rfl
    obtain ⟨D, hD⟩ : ∃ D, drpS (takeS S) k = D := ⟨_, rfl⟩
    have HE2 : Hid (E = if D.ves.length = 40 then 8 else 0) := by show _ = _; rw [unhide HE3, hDv, hD]
    have HQ2 : Hid ({ D with ves := D.ves ++ [Y] } = Q) := by show _ = _; rw [← unhide HQ]; unfold advS; rw [hDv, hD]
    have hDl : D.ves.length ≤ 1000 := by
      rw [← hD]
      show (S.ves.take k ++ S.ves.drop (k + 1)).length ≤ 1000
      rw [List.length_append, List.length_take, List.length_drop]; omega
    have HR9 := hide hr9
    have HO9 := hide hO9
    have HV9 := hide hV9
    have HD := hide hD
    clear hr9 hO9 hV9 hDv hD
    go_wp2_with fail
    refine (dropW_any (takeS S) k B X b v u q g w9 (unhide HR9) (unhide HO9) hX (takeS_wf hw) (by show k < S.ves.length; omega) hn).mono ?_
    rintro e w5 ⟨rfl, hB5, hl5, hv5⟩
    rw [unhide HD] at hB5
    have hV5 := hv5 w.heap.size _ _ (unhide HVV) (unhide HV9)
    have HL5 : Hid (Below B w w5) := bl_tr (unhide HL9) hl5
    clear hl5 hv5 y3
    obtain ⟨b1, v1, u1, q1, g1, hr1, hO1⟩ := hB5
    obtain ⟨ps, hps, hown, hin⟩ := hO1.ves
    have hpl : ps.length = D.ves.length := by have := congrArg List.length hps; rw [List.length_map] at this; exact this
    rw [hpl] at hown
    obtain ⟨va1, vc1, rfl, hvn, hvc⟩ := own_form hown
    have hXl5 := (Array.getElem?_eq_some_iff.1 hr1).1
    have d3 := cell_of hr1 3 rfl
    have y0 := cell_of hV5 0 rfl
    have y1 := cell_of hV5 1 rfl
    have y2 := cell_of hV5 2 rfl
    have y3 := cell_of hV5 3 rfl
    have y4 := cell_of hV5 4 rfl
    have y5 := cell_of hV5 5 rfl
    have y6 := cell_of hV5 6 rfl
    have y7 := cell_of hV5 7 rfl
    have y8 := cell_of hV5 8 rfl
    have y9 := cell_of hV5 9 rfl
    have y10 := cell_of hV5 10 rfl
    have y11 := cell_of hV5 11 rfl
    have HR1 := hide hr1
    have HO1 := hide hO1
    have HOW := hide hown
    have HPS := hide hps
    have HIN := hide hin
    have HPL := hide hpl
    have HI5 := hide (unhide HI w5 (unhide HL5))
    have hB6 : B ≤ w5.heap.size := by omega
    clear hr1 hO1 hown hps hin hpl hV5
    by_cases h4 : D.ves.length = 40
    · have HE8 : Hid (E = 8) := by show _ = _; rw [unhide HE2, if_pos h4]
      have t4 : ((D.ves.length : Int) == 40) = true := by simp [h4]
      have H4 := hide h4
      clear h4
      go_wp2
      go_ret
      exact ⟨ret_int (unhide HE8).symm, fun e => absurd ((unhide HE8).symm.trans e) (by decide), unhide HL5⟩
    have HE0 : Hid (E = 0) := by show _ = _; rw [unhide HE2, if_neg h4]
    have t4 : ((D.ves.length : Int) == 40) = false := by simp; omega
    have H4 := hide h4
    clear h4
    go_wp2
    go_region_law ((first
      | (go_simp; go_at_call 39; refine (copyVersion_any Y ua _ uc _ (Ints.up (Below.drew (Below.refl _ _)) (unhide HI5)) hsec).mono ?_; rintro e w6 ⟨o, rfl, ho, hb6⟩; have hb56 : Below w5.heap.size w5 w6 := ⟨hb6.os, hb6.tape, hb6.output, hb6.size, hb6.block⟩; have d6 := scell_up hb56 d3; have hl6 : X < w6.heap.size := Nat.lt_of_lt_of_le hXl5 hb56.size; obtain ⟨oa, oc, rfl, _, _⟩ := own_form ho; dsimp only)
      | (refine step_append_lies _ (by rfl) _ _ _ (by rfl) B 36 i0 _ 12 120 Tryz.underlying24 hi hz0 hz1 hz2 rfl (by omega) (.slice va1 D.ves.length vc1) D.ves.length (ps.flatMap fun p => veL p.1 p.2) (by simp [Act.eval, Act.put]) ((own_up hb56 (unhide HOW)).alloc _) ⟨w6.heap.size, 0, none⟩ 1 1 (veL Y (.slice oa Y.sec.length oc)) (by simp [Act.eval, Act.put]) rfl (World.news_of_block (cs := #[.int .i64 Y.id, .string Y.bu, .string Y.ke, .bool Y.nul, .bool Y.mar, .int .i64 Y.size, .int .i64 Y.time, .int .i64 Y.tier, .slice oa Y.sec.length oc, .int .i64 Y.vol, .int .i64 Y.pos, .int .i64 Y.til]) (t := 36) (fr := (0, 0)) (heap_alloc_new w6 _)) (by simp [Value.oneCell']) (by omega) (by unfold maxLen; omega) (by omega) (by have := hb56.size; simp; omega) (w6.heap.size + 1) (by simp) ?_; intro gg gcap w7 hown' hgrow hat hlt7; have hgw := gb_trans (gb_below (r := (Value.slice va1 D.ves.length vc1).ownBlock) (bl_alloc hb56 _)) hgrow; have htk := own_typ (unhide HOW); have hrX := row_kept (unhide HR1) hgw htk (by decide); have e3 := cell_of hrX 3 rfl; have f3 := fz_of hrX 3)))
    all_goals
      have HB : Hid (Bx (w7.setCell ⟨X, 3, none⟩ (.slice (some ⟨gg, 0, none⟩) (D.ves.length + 1) gcap)) B X Q) := by
        have hO1 := unhide HO1
        have hoI : OwI w7 B (.slice oa Y.sec.length oc) Y.sec := by
          have s1 : OwI (w6.alloc (.cells (veL Y (.slice oa Y.sec.length oc)).toArray 36)) w5.heap.size (.slice oa Y.sec.length oc) Y.sec := World.ownsRow.alloc ho _
          refine own_base (own_kept s1 hgrow (T' := 36) (fun j hj => ?_) (by decide)) (by omega)
          obtain ⟨c, fz, hc⟩ := htk j hj
          exact ⟨c, fz, ((bl_alloc hb56 _).block j (Array.getElem?_eq_some_iff.1 hc).1).trans hc⟩
        have hs1 : OSt w7 B b1 (.slice (some ⟨gg, 0, none⟩) (D.ves.length + 1) gcap) u1 q1 g1 { D with ves := D.ves ++ [Y] } := by
          refine ⟨own_kept hO1.bus hgw htk (by decide), ⟨ps ++ [(Y, .slice oa Y.sec.length oc)], ?_, ?_, ?_⟩, hO1.ups.kept hgw htk (by decide) (by decide) (by decide), own_kept hO1.que hgw htk (by decide), own_kept hO1.gone hgw htk (by decide)⟩
          · rw [List.map_append, unhide HPS]; rfl
          · rw [List.length_append, unhide HPL, List.flatMap_append]
            simpa using hown'
          · intro p hp
            rcases List.mem_append.1 hp with hp | hp
            · exact own_kept (unhide HIN p hp) hgw htk (by decide)
            · obtain rfl := List.mem_singleton.1 hp
              exact hoI
        show Bx _ _ _ _
        rw [← unhide HQ2]
        exact ⟨b1, _, u1, q1, g1, rowS hrX 3 _ rfl, hs1.box (gb_setCell w7 X 3 _) (row_typ hrX)⟩
      have HL : Hid (Below B w (w7.setCell ⟨X, 3, none⟩ (.slice (some ⟨gg, 0, none⟩) (D.ves.length + 1) gcap))) := bl_tr (unhide HL5) (bl_tr (gb_lo hgw (by omega) (fun j e => ((unhide HOW).lt j e).1)) (gb_lo (gb_setCell w7 X 3 _) (by have := hgw.size; omega) (fun j e => by injection e with e; omega)))
      clear hown' hgrow hgw htk hrX hat ho hb6 hb56
      go_wp2
      go_ret
      exact ⟨ret_int (unhide HE0).symm, fun _ => unhide HB, unhide HL⟩
  · have hDv : advD S Y = takeS S := by
      unfold advD
      rw [unhide HIN0, unhide HN, if_neg hdrop]
    obtain ⟨D, hD⟩ : ∃ D, takeS S = D := ⟨_, rfl⟩
    have HE2 : Hid (E = if D.ves.length = 40 then 8 else 0) := by show _ = _; rw [unhide HE3, hDv, hD]
    have HQ2 : Hid ({ D with ves := D.ves ++ [Y] } = Q) := by show _ = _; rw [← unhide HQ]; unfold advS; rw [hDv, hD]
    have hDl : D.ves.length ≤ 1000 := by rw [← hD]; exact hn
    have hB5 : Bx w9 B X D := by rw [← hD]; exact ⟨b, v, u, q, g, hr9, hO9⟩
    obtain ⟨w5, rfl⟩ : ∃ w5, w5 = w9 := ⟨_, rfl⟩
    have hV5 := hV9
    have HL5 := HL9
    have hNI : N = false ∨ (N = true ∧ I < 0) := by
      cases N
      · exact .inl rfl
      · exact .inr ⟨rfl, by simpa using hdrop⟩
    have HV5 := hide hV5
    clear hDv hD hr9 hO9 hV9 hdrop
    obtain ⟨b1, v1, u1, q1, g1, hr1, hO1⟩ := hB5
    obtain ⟨ps, hps, hown, hin⟩ := hO1.ves
    have hpl : ps.length = D.ves.length := by have := congrArg List.length hps; rw [List.length_map] at this; exact this
    rw [hpl] at hown
    obtain ⟨va1, vc1, rfl, hvn, hvc⟩ := own_form hown
    have hXl5 := (Array.getElem?_eq_some_iff.1 hr1).1
    have d3 := cell_of hr1 3 rfl
    have y0 := cell_of hV5 0 rfl
    have y1 := cell_of hV5 1 rfl
    have y2 := cell_of hV5 2 rfl
    have y4 := cell_of hV5 4 rfl
    have y5 := cell_of hV5 5 rfl
    have y6 := cell_of hV5 6 rfl
    have y7 := cell_of hV5 7 rfl
    have y8 := cell_of hV5 8 rfl
    have y9 := cell_of hV5 9 rfl
    have y10 := cell_of hV5 10 rfl
    have y11 := cell_of hV5 11 rfl
    have HR1 := hide hr1
    have HO1 := hide hO1
    have HOW := hide hown
    have HPS := hide hps
    have HIN := hide hin
    have HPL := hide hpl
    have HI5 := hide (unhide HI w5 (unhide HL5))
    have hB6 : B ≤ w5.heap.size := by omega
    clear hr1 hO1 hown hps hin hpl hV5
    by_cases h4 : D.ves.length = 40
    · have HE8 : Hid (E = 8) := by show _ = _; rw [unhide HE2, if_pos h4]
      have t4 : ((D.ves.length : Int) == 40) = true := by simp [h4]
      have H4 := hide h4
      clear h4
      rcases hNI with rfl | ⟨rfl, hneg⟩
      all_goals
        go_wp2
        go_ret
        exact ⟨ret_int (unhide HE8).symm, fun e => absurd ((unhide HE8).symm.trans e) (by decide), unhide HL5⟩
    have HE0 : Hid (E = 0) := by show _ = _; rw [unhide HE2, if_neg h4]
    have t4 : ((D.ves.length : Int) == 40) = false := by simp; omega
    have H4 := hide h4
    clear h4
    rcases hNI with rfl | ⟨rfl, hneg⟩
    all_goals
      go_wp2
      clear y3
      have y3 := cell_of (unhide HV5) 3 rfl
      go_region_law ((first
        | (go_simp; go_at_call 39; refine (copyVersion_any Y ua _ uc _ (Ints.up (Below.drew (Below.refl _ _)) (unhide HI5)) hsec).mono ?_; rintro e w6 ⟨o, rfl, ho, hb6⟩; have hb56 : Below w5.heap.size w5 w6 := ⟨hb6.os, hb6.tape, hb6.output, hb6.size, hb6.block⟩; have d6 := scell_up hb56 d3; have hl6 : X < w6.heap.size := Nat.lt_of_lt_of_le hXl5 hb56.size; obtain ⟨oa, oc, rfl, _, _⟩ := own_form ho; dsimp only)
        | (refine step_append_lies _ (by rfl) _ _ _ (by rfl) B 36 i0 _ 12 120 Tryz.underlying24 hi hz0 hz1 hz2 rfl (by omega) (.slice va1 D.ves.length vc1) D.ves.length (ps.flatMap fun p => veL p.1 p.2) (by simp [Act.eval, Act.put]) ((own_up hb56 (unhide HOW)).alloc _) ⟨w6.heap.size, 0, none⟩ 1 1 (veL Y (.slice oa Y.sec.length oc)) (by simp [Act.eval, Act.put]) rfl (World.news_of_block (cs := #[.int .i64 Y.id, .string Y.bu, .string Y.ke, .bool Y.nul, .bool Y.mar, .int .i64 Y.size, .int .i64 Y.time, .int .i64 Y.tier, .slice oa Y.sec.length oc, .int .i64 Y.vol, .int .i64 Y.pos, .int .i64 Y.til]) (t := 36) (fr := (0, 0)) (heap_alloc_new w6 _)) (by simp [Value.oneCell']) (by omega) (by unfold maxLen; omega) (by omega) (by have := hb56.size; simp; omega) (w6.heap.size + 1) (by simp) ?_; intro gg gcap w7 hown' hgrow hat hlt7; have hgw := gb_trans (gb_below (r := (Value.slice va1 D.ves.length vc1).ownBlock) (bl_alloc hb56 _)) hgrow; have htk := own_typ (unhide HOW); have hrX := row_kept (unhide HR1) hgw htk (by decide); have e3 := cell_of hrX 3 rfl; have f3 := fz_of hrX 3)))
      all_goals
        have HB : Hid (Bx (w7.setCell ⟨X, 3, none⟩ (.slice (some ⟨gg, 0, none⟩) (D.ves.length + 1) gcap)) B X Q) := by
          have hO1 := unhide HO1
          have hoI : OwI w7 B (.slice oa Y.sec.length oc) Y.sec := by
            have s1 : OwI (w6.alloc (.cells (veL Y (.slice oa Y.sec.length oc)).toArray 36)) w5.heap.size (.slice oa Y.sec.length oc) Y.sec := World.ownsRow.alloc ho _
            refine own_base (own_kept s1 hgrow (T' := 36) (fun j hj => ?_) (by decide)) (by omega)
            obtain ⟨c, fz, hc⟩ := htk j hj
            exact ⟨c, fz, ((bl_alloc hb56 _).block j (Array.getElem?_eq_some_iff.1 hc).1).trans hc⟩
          have hs1 : OSt w7 B b1 (.slice (some ⟨gg, 0, none⟩) (D.ves.length + 1) gcap) u1 q1 g1 { D with ves := D.ves ++ [Y] } := by
            refine ⟨own_kept hO1.bus hgw htk (by decide), ⟨ps ++ [(Y, .slice oa Y.sec.length oc)], ?_, ?_, ?_⟩, hO1.ups.kept hgw htk (by decide) (by decide) (by decide), own_kept hO1.que hgw htk (by decide), own_kept hO1.gone hgw htk (by decide)⟩
            · rw [List.map_append, unhide HPS]; rfl
            · rw [List.length_append, unhide HPL, List.flatMap_append]
              simpa using hown'
            · intro p hp
              rcases List.mem_append.1 hp with hp | hp
              · exact own_kept (unhide HIN p hp) hgw htk (by decide)
              · obtain rfl := List.mem_singleton.1 hp
                exact hoI
          show Bx _ _ _ _
          rw [← unhide HQ2]
          exact ⟨b1, _, u1, q1, g1, rowS hrX 3 _ rfl, hs1.box (gb_setCell w7 X 3 _) (row_typ hrX)⟩
        have HL : Hid (Below B w (w7.setCell ⟨X, 3, none⟩ (.slice (some ⟨gg, 0, none⟩) (D.ves.length + 1) gcap))) := bl_tr (unhide HL5) (bl_tr (gb_lo hgw (by omega) (fun j e => ((unhide HOW).lt j e).1)) (gb_lo (gb_setCell w7 X 3 _) (by have := hgw.size; omega) (fun j e => by injection e with e; omega)))
        clear hown' hgrow hgw htk hrX hat ho hb6 hb56
        go_wp2
        go_ret
        exact ⟨ret_int (unhide HE0).symm, fun _ => unhide HB, unhide HL⟩
end Go.Proofs.YtdgmdapijhbocaaGreat

/- state.giveUp. -/
namespace Go.Proofs.YtdgmdapijhbocaaGreat
open Go.RowKit Go.Maps
set_option maxRecDepth 100000
set_option linter.unusedVariables false
set_option linter.unusedSimpArgs false
def idxG (S : St) (n : Int) : Int := firstI S.gone.length (goP S.gone n)
def givE (S : St) (n : Int) : Int := if 0 ≤ idxG S n then 7 else 0
def givS (S : St) (n : Int) : St := { S with gone := putA S.gone n (fun i => decide (n < S.gone.getD i 0)) }
attribute [local go_sem ↓] Go.wp_at_zero Go.wp_at_succ
set_option maxHeartbeats 4000000 in
theorem giveUp_any (S : St) (n : Int) (B X : Nat) (b v u q g : Value) (w : World) (hr : w.heap[X]? = some (.cells (stA S b v u q g) 29 (0, 0))) (hO : OSt w B b v u q g S) (hA : Apt w B v u g S) (hX : B ≤ X) (hw : WfS S) (hn : S.gone.length ≤ 1000) :
    Calls Tryz.prog 73 #[.pointer (some ⟨X, 0, none⟩), .int .i64 n] w fun e w' => e = .returned (.int .i64 (givE S n)) ∧ (givE S n = 0 → Bx w' B X (givS S n)) ∧ Below B w w' := by
  have hXl := (Array.getElem?_eq_some_iff.1 hr).1
  obtain ⟨E, hE⟩ : ∃ E, givE S n = E := ⟨_, rfl⟩
  obtain ⟨Q, hQ⟩ : ∃ Q, givS S n = Q := ⟨_, rfl⟩
  rw [hE, hQ]
  have HE := hide hE
  have HQ := hide hQ
  clear hE hQ
  obtain ⟨w1, hw1⟩ : ∃ w1, w.alloc (.cells #[.int .i64 n] 3) = w1 := ⟨_, rfl⟩
  have hb1 : Below w.heap.size w w1 := by rw [← hw1]; exact bl1 _ _
  have hbox : w1.heap[w.heap.size]? = some (.cells #[.int .i64 n] 3 (0, 0)) := by rw [← hw1]; exact heap_alloc_new _ _
  have hr1 := (hb1.block X hXl).trans hr
  have hO1 := hO.up hb1
  have hA1 := hA.up hb1
  have HL1 : Hid (Below B w w1) := bl_lo hb1 (by omega)
  have hL := hide (hO1.gone.ints hw.gone)
  have bx := OSt.boxr hr1
  have hXl1 := (Array.getElem?_eq_some_iff.1 hr1).1
  have hBl1 := (Array.getElem?_eq_some_iff.1 hbox).1
  have HR1 := hide hr1
  have HO1 := hide hO1
  have HA1 := hide hA1
  have HB1 := hide hbox
  clear hr hO hA hr1 hO1 hA1 hb1
  go_enter Tryz.func73, Tryz.ntmps73
  go_wp2
  have z0 := cell_of hbox 0 rfl
  have c0 := bx.c0
  have c1 := bx.c1
  have c2 := bx.c2
  have c3 := bx.c3
  have c4 := bx.c4
  have c5 := bx.c5
  have c6 := bx.c6
  clear hw1 hbox bx
  have hne := Later.one w1
  have l0 := fun d : Later w1 => d.cell c0
  have l1 := fun d : Later w1 => d.cell c1
  have l2 := fun d : Later w1 => d.cell c2
  have l3 := fun d : Later w1 => d.cell c3
  have l4 := fun d : Later w1 => d.cell c4
  have l5 := fun d : Later w1 => d.cell c5
  have l6 := fun d : Later w1 => d.cell c6
  have lz := fun d : Later w1 => d.cell z0
  refine wp_region_later (by kernel_rfl) (by kernel_rfl) ?_
  repeat (go_big_quiet_step ((go_at_call 133; exact Calls.later (findGone_any S b v u q g n _ (Ints.up (Later.below _) (unhide hL))))))
  refine wpQuiet_nil ?_
  intro w9 hw'
  obtain ⟨⟨w8, hb2⟩, hw''⟩ := hw'
  subst hw''
  have hr9 := (hb2.block X hXl1).trans (unhide HR1)
  have hB9 := (hb2.block w.heap.size hBl1).trans (unhide HB1)
  have hO9 := (unhide HO1).up hb2
  have hA9 := (unhide HA1).up hb2
  have HL9 : Hid (Below B w w9) := bl_tr (unhide HL1) (bl_lo hb2 (by omega))
  have hXl9 := (Array.getElem?_eq_some_iff.1 hr9).1
  obtain ⟨I, hII⟩ : ∃ I, firstI S.gone.length (goP S.gone n) = I := ⟨_, rfl⟩
  rw [hII]
  have HII : Hid (idxG S n = I) := hII
  have HE2 : Hid (E = if 0 ≤ I then 7 else 0) := by show _ = _; rw [← unhide HE]; unfold givE; rw [unhide HII]
  clear hne l0 l1 l2 l3 l4 l5 l6 lz c0 c1 c2 c3 c4 c5 c6 z0 hL HR1 HO1 HA1 HB1 hII hb2
  obtain ⟨ga, gc, rfl, hgn, hgc⟩ := own_form hO9.gone
  have d6 := cell_of hr9 6 rfl
  have z0 := cell_of hB9 0 rfl
  have HR9 := hide hr9
  have HO9 := hide hO9
  have HA9 := hide hA9
  clear hr9 hB9 hO9 hA9
  by_cases hpos : 0 ≤ I
  · have HE7 : Hid (E = 7) := by show _ = _; rw [unhide HE2, if_pos hpos]
    go_wp2
    go_ret
    exact ⟨ret_int (unhide HE7).symm, fun e => absurd ((unhide HE7).symm.trans e) (by decide), unhide HL9⟩
  have HE0 : Hid (E = 0) := by show _ = _; rw [unhide HE2, if_neg hpos]
  obtain ⟨L, hLL⟩ : ∃ L, putA S.gone n (fun i => decide (n < S.gone.getD i 0)) = L := ⟨_, rfl⟩
  have HLL := hide hLL
  clear hLL
  go_wp2
  go_region_law ((go_simp; go_at_call 134; refine (putAheadInt_any B _ S.gone n n w.heap.size _ (own_up (Below.drew (Below.refl _ _)) (unhide HO9).gone) hw.gone (scell_up (Below.drew (Below.refl _ _)) z0) hn (by simp; omega)).mono ?_; rintro e w3 ⟨o, rfl, ho, hg⟩; rw [unhide HLL] at ho; have hgw := gb_trans (gb_below (r := (Value.slice ga S.gone.length gc).ownBlock) (Below.drew (Below.refl _ w9))) hg; have htk := own_typ (unhide HO9).gone; have hrX := row_kept (unhide HR9) hgw htk (by decide); have e6 := cell_of hrX 6 rfl; have f6 := fz_of hrX 6; obtain ⟨oa, oc, rfl, _, _⟩ := own_form ho; dsimp only))
  all_goals
    have HB : Hid (Bx (w3.setCell ⟨X, 6, none⟩ (.slice oa L.length oc)) B X Q) := by
      have hO1 := unhide HO9
      have hap := unhide HA9 w3 fun k _ h2 h3 => hgw.block k h2 (Ne.symm h3)
      have hs1 : OSt w3 B b v u q (.slice oa L.length oc) { S with gone := L } :=
        ⟨own_kept hO1.bus hgw htk (by decide), hap.1, hap.2, own_kept hO1.que hgw htk (by decide), ho⟩
      show Bx _ _ _ _
      rw [← unhide HQ]
      unfold givS
      rw [unhide HLL]
      exact ⟨b, v, u, q, _, rowS hrX 6 _ rfl, hs1.box (gb_setCell w3 X 6 _) (row_typ hrX)⟩
    have HL : Hid (Below B w (w3.setCell ⟨X, 6, none⟩ (.slice oa L.length oc))) := bl_tr (unhide HL9) (bl_tr (gb_lo hgw (by omega) (fun j e => ((unhide HO9).gone.lt j e).1)) (gb_lo (gb_setCell w3 X 6 _) (by have := hgw.size; omega) (fun j e => by injection e with e; omega)))
    clear ho hg hgw htk hrX e6 f6
    go_wp2
    go_ret
    exact ⟨ret_int (unhide HE0).symm, fun _ => unhide HB, unhide HL⟩
end Go.Proofs.YtdgmdapijhbocaaGreat
