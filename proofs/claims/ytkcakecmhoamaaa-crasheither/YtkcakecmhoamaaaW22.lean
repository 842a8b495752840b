/- icehousekeep.CrashEither: the walk. -/
import Derived.Test.YtkcakecmhoamaaaDva
import Derived.Test.YtkcakecmhoamaaaGtd
import Derived.Test.YtkcakecmhoamaaaStr
import Derived.Deep.RegionHeldLaw
namespace Go.Proofs.Ytkcakecmhoamaaa
open Go.RowKit
set_option maxRecDepth 100000
set_option linter.unusedVariables false
set_option linter.unusedSimpArgs false
attribute [local go_sem ↓] Go.wp_at_zero Go.wp_at_succ
theorem Bls.at {w : World} {a : Option Addr} {n cap : Nat} {ks : List Bool} (h : Bls w (.slice a n cap) ks) {i : Nat} (hi : i < ks.length) : ∃ b o, a = some ⟨b, o, none⟩ ∧ w.cell? ⟨b, o + i, none⟩ = some (.bool (ks.getD i false)) := by
  obtain ⟨a', cap', e, h1, h2, h3⟩ := h
  simp at e
  obtain ⟨rfl, _⟩ := e
  exact h3 i hi
theorem Dev.sec {w : World} {a : Option Addr} {n cap : Nat} {c v : Value} {D : Dv} (h : Dev w (.slice a n cap) c v D) {i : Nat} (hi : i < D.safe.length) : ∃ b o, a = some ⟨b, o, none⟩ ∧ ∃ u, w.cell? ⟨b, o + i, none⟩ = some u ∧ Bts w u (D.safe.getD i []) := by
  obtain ⟨⟨a', cap', e, h1, h2, h3⟩, _⟩ := h
  simp at e
  obtain ⟨rfl, _⟩ := e
  exact h3 i hi
theorem Dev.wri {w : World} {a : Option Addr} {n cap : Nat} {s v : Value} {D : Dv} (h : Dev w s (.slice a n cap) v D) {i : Nat} (hi : i < D.cache.length) : ∃ b o, a = some ⟨b, o, none⟩ ∧ w.cell? ⟨b, o + i * 2, none⟩ = some (.int .i64 (D.cache.getD i ⟨0, []⟩).pos) ∧ ∃ u, w.cell? ⟨b, o + i * 2 + 1, none⟩ = some u ∧ Bts w u (D.cache.getD i ⟨0, []⟩).data := by
  obtain ⟨_, ⟨a', cap', e, h1, h2, h3⟩, _⟩ := h
  simp at e
  obtain ⟨rfl, _⟩ := e
  exact h3 i hi
/-- What the loop has found so far. -/
def stay (D : Dv) (ks : List Bool) (A k : Nat) : List Int := (settled (keepF ks) D.safe D.cache k).getD A []
theorem stay_0 (D : Dv) (ks : List Bool) (A : Nat) : stay D ks A 0 = D.safe.getD A [] := rfl
theorem DvI.pos {D : Dv} {m : Nat} (h : DvI D m) {k : Nat} (hk : k < D.cache.length) : 0 ≤ (D.cache.getD k ⟨0, []⟩).pos ∧ (D.cache.getD k ⟨0, []⟩).pos < D.safe.length := (h.ok.c64 k hk).1
theorem stay_yes {D : Dv} {m : Nat} (h : DvI D m) {ks : List Bool} {A k : Nat} (hk : k < D.cache.length) (h1 : ks.getD k false = true) (h2 : (D.cache.getD k ⟨0, []⟩).pos = (A : Int)) : stay D ks A (k + 1) = (D.cache.getD k ⟨0, []⟩).data := by
  unfold stay; rw [settled_at (h.pos hk)]; exact if_pos ⟨h1, h2⟩
theorem stay_no {D : Dv} {m : Nat} (h : DvI D m) {ks : List Bool} {A k : Nat} (hk : k < D.cache.length) (h1 : ¬ (ks.getD k false = true ∧ (D.cache.getD k ⟨0, []⟩).pos = (A : Int))) : stay D ks A (k + 1) = stay D ks A k := by
  unfold stay; rw [settled_at (h.pos hk)]; exact if_neg h1
set_option maxHeartbeats 2000000 in
theorem crashEither_walk (lv : Value) (rs : List Rw) (kv : Value) (ks : List Bool) (at_ : Int) (w : World) (hR : Raws w lv rs) (hB : Bls w kv ks) (w1_ : (Lit.int .i64 at_).wf = true) :
    Calls Try.prog 18 #[lv, kv, .int .i64 at_] w fun e w' => e = .returned (.bool true) ∧ Below w.heap.size w w' := by
  have HR := hide hR
  clear hR
  obtain ⟨n0, n1⟩ := wf_lo w1_
  clear w1_
  have HB := hide hB
  obtain ⟨ka, kc, rfl, kl, km, _⟩ := hB
  unfold maxLen at km
  obtain ⟨A, hPA⟩ : ∃ K : Nat, pickI at_ 18 = (K : Int) := ⟨(pickI at_ 18).toNat, by have := pickI_lo at_ (m := 18) (by omega); omega⟩
  have hA18 : A < 18 := by have := pickI_hi at_ (m := 18) (by omega); omega
  have HPA := hide hPA
  clear hPA
  go_enter Try.func18, Try.ntmps18
  go_wp2_with fail
  refine (small_any _).mono ?_
  rintro e w1 ⟨rfl, hb1⟩
  go_upto_region 2 with fail
  go_cut [8, 9] (fun p e wd => ∃ dB s c v D, p = .pointer (some ⟨dB, 0, none⟩) ∧ e = .bool true ∧ Kd w wd w1.heap.size dB s c v D ∧ DvI D 30)
  case first =>
    go_wp2_with fail
    refine (devices_at lv rs 30 30 rfl _ ((unhide HR).up (bl_trans hb1 (bl1 _ _))) (by decide)).mono ?_
    rintro e wn ⟨s', c', v', D, rfl, hD, hI, hb⟩
    have hD0 := hD
    obtain ⟨⟨b1, dap1, rfl, _⟩, ⟨b2, dap2, rfl, _⟩, ⟨b3, dap3, rfl, _⟩⟩ := hD0
    go_wp2
    go_meet
    case rel => exact ⟨wn.heap.size, _, _, _, D, rfl, rfl, ⟨((Row.new w1 _ _).up hb).up (bl1 _ _), Row.new _ _ _, hD.up (bl1 _ _), bl_trans hb1 (bl_trans (bl1 _ _) (bl_trans hb (bl1 _ _))), Nat.le_trans hb1.size (Nat.le_trans (by simp) hb.size)⟩, hI⟩
  case rest =>
  clear hb1
  obtain ⟨dB, s1, c1, v1, D, rfl, rfl, hK, hI⟩ := hcut
  have h18 := hI.ns
  have HI := hide hI
  obtain ⟨b1, dap1, hs1⟩ : ∃ b1 dap1, s1 = .slice b1 18 dap1 := by
    obtain ⟨⟨b1, d1, h1, _⟩, _⟩ := hK.dev
    exact ⟨b1, d1, by rw [h1, h18]⟩
  subst hs1
  obtain ⟨b2, dap2, hs2⟩ : ∃ b2 dap2, c1 = .slice b2 D.cache.length dap2 := by
    obtain ⟨_, ⟨b1, d1, h1, _⟩, _⟩ := hK.dev
    exact ⟨b1, d1, h1⟩
  subst hs2
  have hnc : D.cache.length ≤ 30 := hI.nc
  obtain ⟨sb, so, hsb, su, sc, sB⟩ := hK.dev.sec (i := A) (by rw [h18]; exact hA18)
  subst hsb
  have q0 := hK.box.cell 0 _ rfl
  have q1 := hK.box.cell 1 _ rfl
  clear hI h18
  go_wp2_with fail
  refine (picked_any at_ 18 _ (by omega) (by omega) n0 n1).mono ?_
  rintro e w' ⟨rfl, rfl⟩
  rw [unhide HPA]
  have hstr := sB.str
  obtain ⟨S0, hS0⟩ : ∃ S0, strOfNums (D.safe.getD A []) = S0 := ⟨_, rfl⟩
  rw [hS0] at hstr
  have HS0 := hide hS0
  clear sB hS0
  go_upto_region 8 with fail
  clear hstr sc
  go_loopw [11, 12, 13, 41] (fun want _ _ i wr => ∃ (k : Nat), k ≤ D.cache.length ∧ i = .int .i64 k ∧ want = .string (strOfNums (stay D ks A k)) ∧ Kd w wr w1.heap.size dB (.slice (some ⟨sb, so, none⟩) 18 dap1) (.slice b2 D.cache.length dap2) v1 D) (fun _ _ _ i _ => D.cache.length - (intOf i).toNat)
  case atStart => exact ⟨0, Nat.zero_le _, rfl, by rw [stay_0, unhide HS0], hK⟩
  case round =>
    clear hK q0 q1
    obtain ⟨k, hk, rfl, rfl, hK⟩ := hrel
    by_cases hlt : k < D.cache.length
    · have HIx := hide ((unhide HI).pos hlt)
      obtain ⟨cb, co, hcb, pc, cu, uc, uB⟩ := hK.dev.wri (i := k) hlt
      subst hcb
      obtain ⟨P, hP⟩ : ∃ P, (D.cache.getD k ⟨0, []⟩).pos = P := ⟨_, rfl⟩
      obtain ⟨U, hU⟩ : ∃ U, (D.cache.getD k ⟨0, []⟩).data = U := ⟨_, rfl⟩
      rw [hP] at pc
      rw [hU] at uB
      have uB0 := uB
      obtain ⟨ua, ucap, hcu, _⟩ := uB0
      subst hcu
      have HSY : Hid (ks.getD k false = true → P = (A : Int) → stay D ks A (k + 1) = U) := fun h1 h2 => by rw [← hU]; exact stay_yes (unhide HI) hlt h1 (by rw [hP]; exact h2)
      have HSN : Hid (¬ (ks.getD k false = true ∧ P = (A : Int)) → stay D ks A (k + 1) = stay D ks A k) := fun h1 => stay_no (unhide HI) hlt (by rw [hP]; exact h1)
      clear hP hU
      obtain ⟨SK, hSK⟩ : ∃ SK, strOfNums (stay D ks A k) = SK := ⟨_, rfl⟩
      rw [hSK]
      have HSK := hide hSK
      clear hSK
      go_upto_region 9 with fail
      go_cut [12, 13] (fun i p wd => i = .int .i64 k ∧ ∃ pB, p = .pointer (some ⟨pB, 0, none⟩) ∧ Row wd pB 63 [.int .i64 P, .slice ua U.length ucap] ∧ Below wr.heap.size wr wd)
      case first =>
        go_wp2
        go_meet
        case rel => exact ⟨rfl, wr.heap.size, rfl, Row.new _ _ _, bl1 _ _⟩
      case rest =>
      obtain ⟨rfl, pB, rfl, hr, hb⟩ := hcut
      clear pc uc
      have r0 := hr.cell 0 _ rfl
      have r1 := hr.cell 1 _ rfl
      have hstr := (uB.up hb).str
      obtain ⟨SU, hSU⟩ : ∃ SU, strOfNums U = SU := ⟨_, rfl⟩
      rw [hSU] at hstr
      have HSU := hide hSU
      clear hSU uB
      have hK2 := hK.up hb
      clear hK hb hr
      by_cases hkl : k < ks.length
      case neg =>
        have HN : Hid (stay D ks A (k + 1) = stay D ks A k) := unhide HSN (fun h => by rw [List.getD_eq_getElem?_getD, List.getElem?_eq_none (by omega)] at h; exact absurd h.1 (by decide))
        go_wp2
        go_roundw
        case rel => exact ⟨k + 1, by omega, by go_num, by rw [unhide HN, unhide HSK], hK2⟩
        case measure => simp [intOf]; omega
      obtain ⟨kb, ko, hkb, kcell⟩ := ((unhide HB).up hK2.bel).at hkl
      subst hkb
      cases hkk : ks.getD k false
      case false =>
        rw [hkk] at kcell
        have HN : Hid (stay D ks A (k + 1) = stay D ks A k) := unhide HSN (fun h => by rw [hkk] at h; exact absurd h.1 (by decide))
        clear hkk
        go_wp2
        go_roundw
        case rel => exact ⟨k + 1, by omega, by go_num, by rw [unhide HN, unhide HSK], hK2⟩
        case measure => simp [intOf]; omega
      rw [hkk] at kcell
      by_cases hPA : P = (A : Int)
      · have HN : Hid (stay D ks A (k + 1) = U) := unhide HSY hkk hPA
        clear hkk
        subst hPA
        go_wp2
        go_roundw
        case rel => exact ⟨k + 1, by omega, by go_num, by rw [unhide HN, unhide HSU], hK2⟩
        case measure => simp [intOf]; omega
      · have HN : Hid (stay D ks A (k + 1) = stay D ks A k) := unhide HSN (fun h => hPA h.2)
        clear hkk
        go_wp2
        go_roundw
        case rel => exact ⟨k + 1, by omega, by go_num, by rw [unhide HN, unhide HSK], hK2⟩
        case measure => simp [intOf]; omega
    · have hkk : k = D.cache.length := by omega
      obtain ⟨SK, hSK⟩ : ∃ SK, strOfNums (stay D ks A k) = SK := ⟨_, rfl⟩
      rw [hSK]
      obtain ⟨W, hW⟩ : ∃ W, stay D ks A k = W := ⟨_, rfl⟩
      have HW : Hid (getL (craD ks 0 D 0) (A : Int) = W) := by show _ = _; rw [cra_some, ← hW, hkk]; rfl
      have HWS : Hid (strOfNums W = SK) := by rw [← hW]; exact hSK
      have HCE := hide ((unhide HI).craE (t := 0) (by decide))
      have HIC : Hid (DvI (craD ks 0 D 0) 0) := ⟨(unhide HI).ok.cra (by decide), by rw [craD_ok], by rw [craD_ok]; exact Nat.zero_le _⟩
      obtain ⟨DC, hDC⟩ : ∃ DC, craD ks 0 D 0 = DC := ⟨_, rfl⟩
      rw [hDC] at HW HIC
      have HG1 : Hid (atE DC (A : Int) (chkE 6 2 6 300 3 DC) = 0) := by show _ = _; rw [(unhide HIC).chk]; exact atE_t ((unhide HIC).at (by omega) (by omega))
      have HDC := hide hDC
      have HBK := hide ((unhide HB).up hK.bel)
      clear hDC hW hSK hkk
      have hex : ¬ k < D.cache.length := hlt
      go_upto_region 13 with fail
      go_cut [14, 15] (fun p e wd => ∃ cB s c v, p = .pointer (some ⟨cB, 0, none⟩) ∧ e = .int .i64 0 ∧ Kd w wd w1.heap.size cB s c v DC)
      case first =>
        have g0 := hK.geo.cell 0 _ rfl
        have g1 := hK.geo.cell 1 _ rfl
        have g2 := hK.geo.cell 2 _ rfl
        have g3 := hK.geo.cell 3 _ rfl
        have g4 := hK.geo.cell 4 _ rfl
        have hd := hK.dev
        obtain ⟨_, _, ⟨b3, dap3, rfl, _⟩⟩ := hd
        have q0 := hK.box.cell 0 _ rfl
        have q1 := hK.box.cell 1 _ rfl
        have q2 := hK.box.cell 2 _ rfl
        have q3 := hK.box.cell 3 _ rfl
        go_wp2_with fail
        refine (crash_any 6 2 6 300 3 _ _ _ D _ ks 0 _ hK.dev (unhide HBK)).mono ?_
        rintro e wn ⟨s', c', v', rfl, hO, hb⟩
        rw [unhide HCE, unhide HDC] at hO ⊢
        obtain ⟨sa, cs, ca, cc, va, cv, rfl, rfl, rfl, _⟩ := hO.form
        go_wp2
        go_meet
        case rel => exact ⟨wn.heap.size, _, _, _, rfl, rfl, ⟨(hK.geo.up hb).up (bl1 _ _), Row.new _ _ _, hO.dev.up (bl1 _ _), bl_trans hK.bel (bl_trans hb (bl1 _ _)), Nat.le_trans hK.bel.size hb.size⟩⟩
      case rest =>
      clear hK HBK
      obtain ⟨cB, s2, c2, v2, rfl, rfl, hK⟩ := hcut
      go_upto_region 14 with fail
      go_cut [16, 17] (fun u e wd => e = .int .i64 0 ∧ Bts wd u W ∧ Kd w wd w1.heap.size cB s2 c2 v2 DC)
      case first =>
        have g0 := hK.geo.cell 0 _ rfl
        have g1 := hK.geo.cell 1 _ rfl
        have g2 := hK.geo.cell 2 _ rfl
        have g3 := hK.geo.cell 3 _ rfl
        have g4 := hK.geo.cell 4 _ rfl
        have hd := hK.dev
        obtain ⟨⟨b1, dap1, rfl, _⟩, ⟨b2, dap2, rfl, _⟩, ⟨b3, dap3, rfl, _⟩⟩ := hd
        have q0 := hK.box.cell 0 _ rfl
        have q1 := hK.box.cell 1 _ rfl
        have q2 := hK.box.cell 2 _ rfl
        have q3 := hK.box.cell 3 _ rfl
        go_wp2_with fail
        refine (get_any 6 2 6 300 3 _ _ _ DC A _ hK.dev).mono ?_
        rintro e wn ⟨u, rfl, hO, hb⟩
        rw [unhide HG1] at hO ⊢
        rw [okL0, unhide HW] at hO
        go_wp2
        go_meet
        case rel => exact ⟨rfl, hO, hK.up hb⟩
      case rest =>
      clear hK
      obtain ⟨rfl, hW, hK⟩ := hcut
      have q3 := hK.box.cell 3 _ rfl
      rw [(unhide HIC).fu] at q3
      have hstr := hW.str
      rw [unhide HWS] at hstr
      go_wp2
      go_ret
      exact ⟨by simp, hK.bel⟩
end Go.Proofs.Ytkcakecmhoamaaa
