/- icehousekeep.devices: whatever is done, devices that may be. -/
import Derived.Test.YtkcakecmhoamaaaRws
import Derived.Test.YtkcakecmhoamaaaFlC
import Derived.Test.YtkcakecmhoamaaaMkC
import Derived.Deep.RegionHeldLaw
namespace Go.Proofs.Ytkcakecmhoamaaa
open Go.RowKit
set_option maxRecDepth 100000
set_option linter.unusedVariables false
set_option linter.unusedSimpArgs false
attribute [local go_sem ↓] Go.wp_at_zero Go.wp_at_succ
set_option maxHeartbeats 8000000 in
theorem devices_any (lv : Value) (rs : List Rw) (most : Nat) (w : World) (hR : Raws w lv rs) (hm : most ≤ 100) :
    Calls Try.prog 50 #[.agg #[.int .i64 6, .int .i64 2, .int .i64 6, .int .i64 300, .int .i64 3], lv, .int .i64 most] w fun e w' =>
      ∃ s c v D, e = .returned (.tuple #[.agg #[s, c, v, .int .i64 D.fuel], .bool true]) ∧ Dev w' s c v D ∧ DvI D most ∧ Below w.heap.size w w' := by
  have HR := hide hR
  obtain ⟨la, lcap, rfl, l1, l2, hel⟩ := hR
  unfold maxLen at l2
  have HEL := hide hel
  clear hel
  go_enter Try.func50, Try.ntmps50
  go_upto_region 1 with fail
  go_cut [8, 9] (fun p e wd => ∃ dB s c v, p = .pointer (some ⟨dB, 0, none⟩) ∧ e = .int .i64 0 ∧ Kd w wd w.heap.size dB s c v tD0 ∧ ODev wd 0 s c v tD0 ∧ Row wd (w.heap.size + 1) 31 [.slice none 0 0, .slice none 0 0, .slice none 0 0, .int .i64 0] ∧ w.heap.size + 1 < dB)
  case first =>
    go_wp2_with fail
    refine (new_any 6 2 6 300 3 _).mono ?_
    rintro e wn ⟨s', c', v', rfl, hO, hb⟩
    rw [tE0]
    rw [tD0_eq] at hO ⊢
    obtain ⟨sa, cs, ca, cc, va, cv, rfl, rfl, rfl, _⟩ := hO.form
    have hG : Row wn w.heap.size 23 geoL := ((Row.new w _ _).up (bl1 _ _)).up hb
    have hS : Row wn (w.heap.size + 1) 31 [.slice none 0 0, .slice none 0 0, .slice none 0 0, .int .i64 0] := box2r hb
    have hB := bl_trans (bl2 _ _ _) hb
    have hl := hS.lt
    go_wp2
    go_meet
    case rel => exact ⟨wn.heap.size, _, _, _, rfl, rfl, ⟨hG.up (bl1 _ _), Row.new _ _ _, hO.dev.up (bl1 _ _), bl_trans hB (bl1 _ _), hB.size⟩, (hO.up (bl1 _ _)).base (Nat.zero_le _), hS.up (bl1 _ _), hl⟩
  case rest =>
  obtain ⟨dB, s1, c1, v1, rfl, rfl, hK, hOD, hS, hlt⟩ := hcut
  have q0 : ∃ n c, s1 = .slice n 18 c := by obtain ⟨⟨b1, d1, e, _⟩, _⟩ := hK.dev; exact ⟨b1, d1, by rw [e]; rfl⟩
  obtain ⟨b1, d1, rfl⟩ := q0
  have k0 := hK.box.cell 0 _ rfl
  go_wp2
  go_loopw [10, 11, 12, 13, 14, 66, 83, 91] (fun i _ _ _ _ _ _ _ wr => ∃ (k : Nat) (D : Dv) (s c v : Value), k ≤ most ∧ k ≤ rs.length ∧ i = .int .i64 k ∧ Kd w wr w.heap.size dB s c v D ∧ ODev wr 0 s c v D ∧ Row wr (w.heap.size + 1) 31 [.slice none 0 0, .slice none 0 0, .slice none 0 0, .int .i64 0] ∧ DvI D k) (fun i _ _ _ _ _ _ _ _ => most - (intOf i).toNat)
  case atStart => exact ⟨0, tD0, _, _, _, Nat.zero_le _, Nat.zero_le _, rfl, hK, hOD, hS, DvI.zero⟩
  case round =>
    clear hK hS hOD k0
    obtain ⟨k, D, s2, c2, v2, hk1, hk2, rfl, hK, hOD, hS, hI⟩ := hrel
    have HI := hide hI
    clear hI
    by_cases hlt1 : k < rs.length
    case neg =>
      obtain ⟨sa, cs, ca, cc, va, cv, rfl, rfl, rfl, _⟩ := hOD.form
      have q0 := hK.box.cell 0 _ rfl
      have q1 := hK.box.cell 1 _ rfl
      have q2 := hK.box.cell 2 _ rfl
      have q3 := hK.box.cell 3 _ rfl
      have z0 := hS.cell 0 _ rfl
      have z1 := hS.cell 1 _ rfl
      have z2 := hS.cell 2 _ rfl
      have z3 := hS.cell 3 _ rfl
      have zf := hS.unfrozen
      go_wp2
      refine bodyPost_ret (v := .tuple #[.agg #[.slice sa D.safe.length cs, .slice ca D.cache.length cc, .slice va D.vols.length cv, .int .i64 D.fuel], .bool true]) (by simp [results, Try.results50, go_sem, *]) rfl ⟨_, _, _, D, rfl, (O4 hOD hS _ _ _ _).dev, (unhide HI).more hk1, ?_⟩
      exact bl_set (bl_set (bl_set (bl_set hK.bel (by simp) _) (by simp) _) (by simp) _) (by simp) _
    by_cases hlt2 : k < most
    case neg =>
      obtain ⟨sa, cs, ca, cc, va, cv, rfl, rfl, rfl, _⟩ := hOD.form
      have q0 := hK.box.cell 0 _ rfl
      have q1 := hK.box.cell 1 _ rfl
      have q2 := hK.box.cell 2 _ rfl
      have q3 := hK.box.cell 3 _ rfl
      have z0 := hS.cell 0 _ rfl
      have z1 := hS.cell 1 _ rfl
      have z2 := hS.cell 2 _ rfl
      have z3 := hS.cell 3 _ rfl
      have zf := hS.unfrozen
      go_wp2
      refine bodyPost_ret (v := .tuple #[.agg #[.slice sa D.safe.length cs, .slice ca D.cache.length cc, .slice va D.vols.length cv, .int .i64 D.fuel], .bool true]) (by simp [results, Try.results50, go_sem, *]) rfl ⟨_, _, _, D, rfl, (O4 hOD hS _ _ _ _).dev, (unhide HI).more hk1, ?_⟩
      exact bl_set (bl_set (bl_set (bl_set hK.bel (by simp) _) (by simp) _) (by simp) _) (by simp) _
    obtain ⟨lb, lo, hla, hRk⟩ := (unhide HR).up hK.bel |>.at k hlt1
    subst hla
    obtain ⟨R, hRR⟩ : ∃ R, rs.getD k rw0 = R := ⟨_, rfl⟩
    rw [hRR] at hRk
    clear hRR
    have e0 := hRk.c0
    have e1 := hRk.c1
    have e2 := hRk.c2
    have e3 := hRk.c3
    have e4 := hRk.c4
    have e5 := hRk.c5
    obtain ⟨ks0, ks1⟩ := hRk.k0
    obtain ⟨as0, as1⟩ := hRk.a0
    obtain ⟨N, M, T, hN, hN0, hM, hM1, hM2, hT, hTs⟩ := cut_sixty R.text hRk.s
    clear hRk
    go_upto_region 7 with fail
    go_cut [11] (fun p wd => ∃ rB, p = .pointer (some ⟨rB, 0, none⟩) ∧ Row wd rB 60 [.int .i64 R.kind, .int .i64 R.a, .int .i64 R.b, .int .i64 R.c, .int .i64 R.d, .string R.text] ∧ Below wr.heap.size wr wd)
    case first =>
      go_wp2
      go_meet
      case rel => exact ⟨wr.heap.size, rfl, Row.new _ _ _, bl1 _ _⟩
    case rest =>
    obtain ⟨rB, rfl, hRB, hb7⟩ := hcut
    clear e0 e1 e2 e3 e4 e5
    have e5 := hRB.cell 5 _ rfl
    have hcv := conv_run T M hTs
    have HTS := hide hTs
    have n0 : (0 : Int) ≤ (M : Int) := Int.natCast_nonneg _
    have n1 : (M : Int) ≤ (N : Int) := by omega
    clear hTs
    go_upto_region 8 with fail
    go_cut [12] (fun bv wd => Txs wd bv T ∧ Row wd rB 60 [.int .i64 R.kind, .int .i64 R.a, .int .i64 R.b, .int .i64 R.c, .int .i64 R.d, .string R.text] ∧ Below wr.heap.size wr wd)
    case first =>
      go_wp2
      go_meet
      case rel =>
        refine ⟨?_, hRB.up ?_, bl_trans hb7 ?_⟩
        · exact Txs.up (Txs.newAt _ T _ _ (by rw [unhide HTS]; exact (conv_cap _ M (by unfold maxLen; omega)).1) (conv_cap _ M (by unfold maxLen; omega)).2 (by first | rfl | simp) (unhide HTS)) ((Below.refl _ _).drew)
        · (repeat (first | exact Below.refl _ _ | apply Below.drew | apply bl_alloc))
        · (repeat (first | exact Below.refl _ _ | apply Below.drew | apply bl_alloc))
    case rest =>
    clear hRB hb7 e5 hcv n0 n1 hN hN0 hM hM2 hT
    obtain ⟨hA, hRB, hb8⟩ := hcut
    obtain ⟨b1, dap1, b2, dap2, b3, dap3, hs2, hc2, hv2⟩ : ∃ b1 dap1 b2 dap2 b3 dap3, s2 = .slice b1 D.safe.length dap1 ∧ c2 = .slice b2 D.cache.length dap2 ∧ v2 = .slice b3 D.vols.length dap3 := by
      obtain ⟨⟨b1, d1, h1, _⟩, ⟨b2, d2, h2, _⟩, ⟨b3, d3, h3, _⟩⟩ := hK.dev
      exact ⟨b1, d1, b2, d2, b3, d3, h1, h2, h3⟩
    subst hs2 hc2 hv2
    go_upto_region 9 with fail
    go_cut [13] (fun p wd => ∃ xB, p = .pointer (some ⟨xB, 0, none⟩) ∧ Row wd xB 31 [.slice b1 D.safe.length dap1, .slice b2 D.cache.length dap2, .slice b3 D.vols.length dap3, .int .i64 D.fuel] ∧ wr.heap.size ≤ xB ∧ Txs wd u12 T ∧ Row wd rB 60 [.int .i64 R.kind, .int .i64 R.a, .int .i64 R.b, .int .i64 R.c, .int .i64 R.d, .string R.text] ∧ Below wr.heap.size wr wd)
    case first =>
      have hq := hK.box.up hb8
      have q0 := hq.cell 0 _ rfl
      have q1 := hq.cell 1 _ rfl
      have q2 := hq.cell 2 _ rfl
      have q3 := hq.cell 3 _ rfl
      go_wp2
      go_meet
      case rel => exact ⟨_, rfl, Row.new _ _ _, hb8.size, hA.up (bl1 _ _), hRB.up (bl1 _ _), bl_trans hb8 (bl1 _ _)⟩
    case rest =>
    clear hA hRB hb8
    obtain ⟨xB, rfl, hXB, hxr, hA, hRB, hb9⟩ := hcut
    have hxl : w.heap.size ≤ w.heap.size := Nat.le_refl _
    replace hxl := hxr
    have e0 := hRB.cell 0 _ rfl
    have e1 := hRB.cell 1 _ rfl
    have hg9 := hK.geo.up hb9
    have g0 := hg9.cell 0 _ rfl
    have g1 := hg9.cell 1 _ rfl
    have g2 := hg9.cell 2 _ rfl
    have g3 := hg9.cell 3 _ rfl
    have g4 := hg9.cell 4 _ rfl
    have hq9 := hK.box.up hb9
    have q0 := hq9.cell 0 _ rfl
    have q1 := hq9.cell 1 _ rfl
    have q2 := hq9.cell 2 _ rfl
    have q3 := hq9.cell 3 _ rfl
    have HXB := hide hXB
    have HDE := hide (hK.dev.up hb9)
    have HNS := hide (unhide HI).ns
    have HM1 := hide hM1
    have KS : Hid (∀ w', wc.grownBy w' (some xB) → (fun w' => w'.cell? ⟨w.heap.size, 0, none⟩ = some (.int .i64 6) ∧ w'.cell? ⟨w.heap.size, 1, none⟩ = some (.int .i64 2) ∧ w'.cell? ⟨w.heap.size, 2, none⟩ = some (.int .i64 6) ∧ w'.cell? ⟨w.heap.size, 3, none⟩ = some (.int .i64 300) ∧ w'.cell? ⟨w.heap.size, 4, none⟩ = some (.int .i64 3) ∧ w'.cell? ⟨dB, 0, none⟩ = some (.slice b1 D.safe.length dap1) ∧ w'.cell? ⟨dB, 1, none⟩ = some (.slice b2 D.cache.length dap2) ∧ w'.cell? ⟨dB, 2, none⟩ = some (.slice b3 D.vols.length dap3) ∧ w'.cell? ⟨dB, 3, none⟩ = some (.int .i64 D.fuel) ∧ w'.cell? ⟨rB, 1, none⟩ = some (.int .i64 R.a)) w') := fun w' hg => by
      have y1 := hg9.kept hg (by have := hK.geo.lt; simp; omega)
      have y2 := hq9.kept hg (by have := hK.box.lt; simp; omega)
      have y3 := hRB.kept hg (by simpa using hRB.apart hXB (by decide))
      exact ⟨y1.cell 0 _ rfl, y1.cell 1 _ rfl, y1.cell 2 _ rfl, y1.cell 3 _ rfl, y1.cell 4 _ rfl, y2.cell 0 _ rfl, y2.cell 1 _ rfl, y2.cell 2 _ rfl, y2.cell 3 _ rfl, y3.cell 1 _ rfl⟩
    obtain ⟨xs, hxs⟩ : ∃ xs, bytesI T = xs := ⟨_, rfl⟩
    have HXL : Hid (xs.length ≤ 64) := by show _ ≤ _; rw [← hxs, bytesI_length, unhide HTS]; exact hM1
    have HBT : Hid (Bts wc u12 xs) := by show Bts _ _ _; rw [← hxs]; exact hA.bts
    obtain ⟨G, hG⟩ : ∃ G : Nat, pickI R.kind 6 = (G : Int) := ⟨(pickI R.kind 6).toNat, by have := pickI_lo R.kind (m := 6) (by omega); omega⟩
    have hG6 : G = 0 ∨ G = 1 ∨ G = 2 ∨ G = 3 ∨ G = 4 ∨ G = 5 := by have := pickI_hi R.kind (m := 6) (by omega); omega
    have HG := hide hG
    clear hG hxs hM1 hg9 hq9
    obtain ⟨X, hX⟩ : ∃ X : Int, pickI R.a (D.safe.length : Int) = X := ⟨_, rfl⟩
    have hX0 : Hid (0 ≤ X ∧ X < 18) := by
      show _ ∧ _
      rw [← hX, unhide HNS]
      exact ⟨pickI_lo _ (by decide), pickI_hi _ (by decide)⟩
    have HX := hide hX
    clear hX
    obtain ⟨Y, hY⟩ : ∃ Y : Int, pickI R.a ((D.vols.length : Int) + 1) = Y := ⟨_, rfl⟩
    have HY := hide hY
    clear hY
    have HPE := hide ((unhide HI).putE (by omega) (unhide hX0).1 (unhide hX0).2 (unhide HXL))
    obtain ⟨EA, hEA⟩ : ∃ EA, appE 300 3 D Y xs.length (chkE 6 2 6 300 3 D) = EA := ⟨_, rfl⟩
    have HFE := hide (unhide HI).fluE
    have hnv : Hid ((D.vols.length : Int) ≤ 3) := (unhide HI).ok.nvs
    have HW : Hid (IntKind.i64.wrap ((D.vols.length : Int) + 1) = (D.vols.length : Int) + 1) := IntWalk.i64_in _ (by have := unhide hnv; omega)
    obtain ⟨DP, hDP⟩ : ∃ DP, putD D X xs 0 = DP := ⟨_, rfl⟩
    obtain ⟨DF, hDF⟩ : ∃ DF, fluD D 0 = DF := ⟨_, rfl⟩
    obtain ⟨DM, hDM⟩ : ∃ DM, marD D 0 = DM := ⟨_, rfl⟩
    obtain ⟨DA, hDA⟩ : ∃ DA, appD 3 D Y xs EA = DA := ⟨_, rfl⟩
    have HIP : Hid (DvI DP (k + 1)) := by show DvI _ _; rw [← hDP]; exact (unhide HI).put (by omega) (unhide hX0).1 (unhide hX0).2
    have HIF : Hid (DvI DF (k + 1)) := by show DvI _ _; rw [← hDF]; exact (unhide HI).flu
    have HIM : Hid (DvI DM (k + 1)) := by show DvI _ _; rw [← hDM]; exact (unhide HI).mar
    have HIA : Hid (EA = 0 → DvI DA (k + 1)) := by
      show _ → DvI _ _
      intro he
      rw [← hDA, he]
      rw [he] at hEA
      exact (unhide HI).app hEA
    have HEA := hide hEA
    have HDP := hide hDP
    have HDF := hide hDF
    have HDM := hide hDM
    have HDA := hide hDA
    clear hEA hDP hDF hDM hDA
    go_wp2_with fail
    refine (picked_any R.kind 6 _ (by omega) (by omega) ks0 ks1).mono ?_
    rintro e w' ⟨rfl, rfl⟩
    rw [unhide HG]
    rcases hG6 with rfl | rfl | rfl | rfl | rfl | rfl
    · go_upto_region 16 with fail
      go_region_held_law (fun w' => w'.cell? ⟨w.heap.size, 0, none⟩ = some (.int .i64 6) ∧ w'.cell? ⟨w.heap.size, 1, none⟩ = some (.int .i64 2) ∧ w'.cell? ⟨w.heap.size, 2, none⟩ = some (.int .i64 6) ∧ w'.cell? ⟨w.heap.size, 3, none⟩ = some (.int .i64 300) ∧ w'.cell? ⟨w.heap.size, 4, none⟩ = some (.int .i64 3) ∧ w'.cell? ⟨dB, 0, none⟩ = some (.slice b1 D.safe.length dap1) ∧ w'.cell? ⟨dB, 1, none⟩ = some (.slice b2 D.cache.length dap2) ∧ w'.cell? ⟨dB, 2, none⟩ = some (.slice b3 D.vols.length dap3) ∧ w'.cell? ⟨dB, 3, none⟩ = some (.int .i64 D.fuel) ∧ w'.cell? ⟨rB, 1, none⟩ = some (.int .i64 R.a))
        (exact unhide KS _ (by repeat (first | exact gb_refl _ _ | exact gb_below hbB | apply gb_drew | apply gb_alloc | apply gb_set)))
        ((first
          | (go_simp; go_at_call 51; refine (picked_any R.a (D.safe.length : Int) _ (by have := unhide HNS; omega) (by have := unhide HNS; omega) as0 as1).mono ?_; rintro e w' ⟨rfl, rfl⟩; rw [unhide HX]; dsimp only)
          | (go_simp; go_at_call 30; refine (put_any 6 2 6 300 3 _ _ _ D X _ xs _ ((unhide HDE).up ?_) ((unhide HBT).up ?_)).mono ?_; (focus ((repeat (first | exact Below.refl _ _ | apply Below.drew | apply bl_alloc)); done)); (focus ((repeat (first | exact Below.refl _ _ | apply Below.drew | apply bl_alloc)); done)); rintro e wB ⟨t', d', z', rfl, hOB, hbB0⟩; rw [unhide HPE, unhide HDP] at hOB ⊢; refine have_of (p := Below wc.heap.size wc wB) (bl_trans ?_ hbB0) ?_; (focus ((repeat (first | exact Below.refl _ _ | apply Below.drew | apply bl_alloc)); done)); intro hbB; have hwB := hbB.size; have hdB := hOB.dev; obtain ⟨⟨e1', eap1, rfl, _⟩, ⟨e2', eap2, rfl, _⟩, ⟨e3', eap3, rfl, _⟩⟩ := hdB; have zr := (unhide HXB).up hbB; have z0 := zr.cell 0 _ rfl; have z1 := zr.cell 1 _ rfl; have z2 := zr.cell 2 _ rfl; have z3 := zr.cell 3 _ rfl; have zf := zr.unfrozen; dsimp only)))
      all_goals
        go_upto_region 21 with fail
        obtain ⟨wd, hwd⟩ : ∃ wd, wd = (((wB.setCell ⟨xB, 0, none⟩ (.slice e1' DP.safe.length eap1)).setCell ⟨xB, 1, none⟩ (.slice e2' DP.cache.length eap2)).setCell ⟨xB, 2, none⟩ (.slice e3' DP.vols.length eap3)).setCell ⟨xB, 3, none⟩ (.int .i64 DP.fuel) := ⟨_, rfl⟩
        have hX : Row wd xB 31 [(.slice e1' DP.safe.length eap1), (.slice e2' DP.cache.length eap2), (.slice e3' DP.vols.length eap3), .int .i64 DP.fuel] := by rw [hwd]; exact R4 zr _ _ _ _
        have hO := O4 hOB zr (.slice e1' DP.safe.length eap1) (.slice e2' DP.cache.length eap2) (.slice e3' DP.vols.length eap3) (.int .i64 DP.fuel)
        rw [← hwd] at hO
        have hbd : Below wr.heap.size wr wd := by rw [hwd]; exact bl_set (bl_set (bl_set (bl_set (bl_trans hb9 hbB) hxl _) hxl _) hxl _) hxl _
        rw [← hwd]
        clear hwd zr z0 z1 z2 z3 zf hOB g0 g1 g2 g3 g4 q0 q1 q2 q3 e0 e1 KS
        have r0 := hX.cell 0 _ rfl
        have r1 := hX.cell 1 _ rfl
        have r2 := hX.cell 2 _ rfl
        have r3 := hX.cell 3 _ rfl
        have hr := hK.box.up hbd
        have z0 := hr.cell 0 _ rfl
        have z1 := hr.cell 1 _ rfl
        have z2 := hr.cell 2 _ rfl
        have z3 := hr.cell 3 _ rfl
        have zf := hr.unfrozen
        go_wp2
        go_roundw
        case rel => exact ⟨k + 1, DP, _, _, _, by omega, by omega, by go_num, hK.store hbd hO, (O4 hO hr _ _ _ _).base (Nat.zero_le _), (hS.up hbd).kept (gb4 dB _ _ _ _) (by simp; omega), unhide HIP⟩
        case measure => simp [intOf]; omega
    · go_upto_region 16 with fail
      go_region_held_law (fun w' => w'.cell? ⟨w.heap.size, 0, none⟩ = some (.int .i64 6) ∧ w'.cell? ⟨w.heap.size, 1, none⟩ = some (.int .i64 2) ∧ w'.cell? ⟨w.heap.size, 2, none⟩ = some (.int .i64 6) ∧ w'.cell? ⟨w.heap.size, 3, none⟩ = some (.int .i64 300) ∧ w'.cell? ⟨w.heap.size, 4, none⟩ = some (.int .i64 3) ∧ w'.cell? ⟨dB, 0, none⟩ = some (.slice b1 D.safe.length dap1) ∧ w'.cell? ⟨dB, 1, none⟩ = some (.slice b2 D.cache.length dap2) ∧ w'.cell? ⟨dB, 2, none⟩ = some (.slice b3 D.vols.length dap3) ∧ w'.cell? ⟨dB, 3, none⟩ = some (.int .i64 D.fuel) ∧ w'.cell? ⟨rB, 1, none⟩ = some (.int .i64 R.a))
        (exact unhide KS _ (by repeat (first | exact gb_refl _ _ | exact gb_below hbB | apply gb_drew | apply gb_alloc | apply gb_set)))
        ((first
          | (go_simp; go_at_call 51; refine (picked_any R.a (D.safe.length : Int) _ (by have := unhide HNS; omega) (by have := unhide HNS; omega) as0 as1).mono ?_; rintro e w' ⟨rfl, rfl⟩; rw [unhide HX]; dsimp only)
          | (go_simp; go_at_call 30; refine (put_any 6 2 6 300 3 _ _ _ D X _ xs _ ((unhide HDE).up ?_) ((unhide HBT).up ?_)).mono ?_; (focus ((repeat (first | exact Below.refl _ _ | apply Below.drew | apply bl_alloc)); done)); (focus ((repeat (first | exact Below.refl _ _ | apply Below.drew | apply bl_alloc)); done)); rintro e wB ⟨t', d', z', rfl, hOB, hbB0⟩; rw [unhide HPE, unhide HDP] at hOB ⊢; refine have_of (p := Below wc.heap.size wc wB) (bl_trans ?_ hbB0) ?_; (focus ((repeat (first | exact Below.refl _ _ | apply Below.drew | apply bl_alloc)); done)); intro hbB; have hwB := hbB.size; have hdB := hOB.dev; obtain ⟨⟨e1', eap1, rfl, _⟩, ⟨e2', eap2, rfl, _⟩, ⟨e3', eap3, rfl, _⟩⟩ := hdB; have zr := (unhide HXB).up hbB; have z0 := zr.cell 0 _ rfl; have z1 := zr.cell 1 _ rfl; have z2 := zr.cell 2 _ rfl; have z3 := zr.cell 3 _ rfl; have zf := zr.unfrozen; dsimp only)))
      all_goals
        go_upto_region 21 with fail
        obtain ⟨wd, hwd⟩ : ∃ wd, wd = (((wB.setCell ⟨xB, 0, none⟩ (.slice e1' DP.safe.length eap1)).setCell ⟨xB, 1, none⟩ (.slice e2' DP.cache.length eap2)).setCell ⟨xB, 2, none⟩ (.slice e3' DP.vols.length eap3)).setCell ⟨xB, 3, none⟩ (.int .i64 DP.fuel) := ⟨_, rfl⟩
        have hX : Row wd xB 31 [(.slice e1' DP.safe.length eap1), (.slice e2' DP.cache.length eap2), (.slice e3' DP.vols.length eap3), .int .i64 DP.fuel] := by rw [hwd]; exact R4 zr _ _ _ _
        have hO := O4 hOB zr (.slice e1' DP.safe.length eap1) (.slice e2' DP.cache.length eap2) (.slice e3' DP.vols.length eap3) (.int .i64 DP.fuel)
        rw [← hwd] at hO
        have hbd : Below wr.heap.size wr wd := by rw [hwd]; exact bl_set (bl_set (bl_set (bl_set (bl_trans hb9 hbB) hxl _) hxl _) hxl _) hxl _
        rw [← hwd]
        clear hwd zr z0 z1 z2 z3 zf hOB g0 g1 g2 g3 g4 q0 q1 q2 q3 e0 e1 KS
        have r0 := hX.cell 0 _ rfl
        have r1 := hX.cell 1 _ rfl
        have r2 := hX.cell 2 _ rfl
        have r3 := hX.cell 3 _ rfl
        have hr := hK.box.up hbd
        have z0 := hr.cell 0 _ rfl
        have z1 := hr.cell 1 _ rfl
        have z2 := hr.cell 2 _ rfl
        have z3 := hr.cell 3 _ rfl
        have zf := hr.unfrozen
        go_wp2
        go_roundw
        case rel => exact ⟨k + 1, DP, _, _, _, by omega, by omega, by go_num, hK.store hbd hO, (O4 hO hr _ _ _ _).base (Nat.zero_le _), (hS.up hbd).kept (gb4 dB _ _ _ _) (by simp; omega), unhide HIP⟩
        case measure => simp [intOf]; omega
    · go_upto_region 16 with fail
      go_region_held_law (fun w' => w'.cell? ⟨w.heap.size, 0, none⟩ = some (.int .i64 6) ∧ w'.cell? ⟨w.heap.size, 1, none⟩ = some (.int .i64 2) ∧ w'.cell? ⟨w.heap.size, 2, none⟩ = some (.int .i64 6) ∧ w'.cell? ⟨w.heap.size, 3, none⟩ = some (.int .i64 300) ∧ w'.cell? ⟨w.heap.size, 4, none⟩ = some (.int .i64 3) ∧ w'.cell? ⟨dB, 0, none⟩ = some (.slice b1 D.safe.length dap1) ∧ w'.cell? ⟨dB, 1, none⟩ = some (.slice b2 D.cache.length dap2) ∧ w'.cell? ⟨dB, 2, none⟩ = some (.slice b3 D.vols.length dap3) ∧ w'.cell? ⟨dB, 3, none⟩ = some (.int .i64 D.fuel) ∧ w'.cell? ⟨rB, 1, none⟩ = some (.int .i64 R.a))
        (exact unhide KS _ (by repeat (first | exact gb_refl _ _ | exact gb_below hbB | apply gb_drew | apply gb_alloc | apply gb_set)))
        ((first
          | (go_simp; go_at_call 51; refine (picked_any R.a (D.safe.length : Int) _ (by have := unhide HNS; omega) (by have := unhide HNS; omega) as0 as1).mono ?_; rintro e w' ⟨rfl, rfl⟩; rw [unhide HX]; dsimp only)
          | (go_simp; go_at_call 30; refine (put_any 6 2 6 300 3 _ _ _ D X _ xs _ ((unhide HDE).up ?_) ((unhide HBT).up ?_)).mono ?_; (focus ((repeat (first | exact Below.refl _ _ | apply Below.drew | apply bl_alloc)); done)); (focus ((repeat (first | exact Below.refl _ _ | apply Below.drew | apply bl_alloc)); done)); rintro e wB ⟨t', d', z', rfl, hOB, hbB0⟩; rw [unhide HPE, unhide HDP] at hOB ⊢; refine have_of (p := Below wc.heap.size wc wB) (bl_trans ?_ hbB0) ?_; (focus ((repeat (first | exact Below.refl _ _ | apply Below.drew | apply bl_alloc)); done)); intro hbB; have hwB := hbB.size; have hdB := hOB.dev; obtain ⟨⟨e1', eap1, rfl, _⟩, ⟨e2', eap2, rfl, _⟩, ⟨e3', eap3, rfl, _⟩⟩ := hdB; have zr := (unhide HXB).up hbB; have z0 := zr.cell 0 _ rfl; have z1 := zr.cell 1 _ rfl; have z2 := zr.cell 2 _ rfl; have z3 := zr.cell 3 _ rfl; have zf := zr.unfrozen; dsimp only)))
      all_goals
        go_upto_region 21 with fail
        obtain ⟨wd, hwd⟩ : ∃ wd, wd = (((wB.setCell ⟨xB, 0, none⟩ (.slice e1' DP.safe.length eap1)).setCell ⟨xB, 1, none⟩ (.slice e2' DP.cache.length eap2)).setCell ⟨xB, 2, none⟩ (.slice e3' DP.vols.length eap3)).setCell ⟨xB, 3, none⟩ (.int .i64 DP.fuel) := ⟨_, rfl⟩
        have hX : Row wd xB 31 [(.slice e1' DP.safe.length eap1), (.slice e2' DP.cache.length eap2), (.slice e3' DP.vols.length eap3), .int .i64 DP.fuel] := by rw [hwd]; exact R4 zr _ _ _ _
        have hO := O4 hOB zr (.slice e1' DP.safe.length eap1) (.slice e2' DP.cache.length eap2) (.slice e3' DP.vols.length eap3) (.int .i64 DP.fuel)
        rw [← hwd] at hO
        have hbd : Below wr.heap.size wr wd := by rw [hwd]; exact bl_set (bl_set (bl_set (bl_set (bl_trans hb9 hbB) hxl _) hxl _) hxl _) hxl _
        rw [← hwd]
        clear hwd zr z0 z1 z2 z3 zf hOB g0 g1 g2 g3 g4 q0 q1 q2 q3 e0 e1 KS
        have r0 := hX.cell 0 _ rfl
        have r1 := hX.cell 1 _ rfl
        have r2 := hX.cell 2 _ rfl
        have r3 := hX.cell 3 _ rfl
        have hr := hK.box.up hbd
        have z0 := hr.cell 0 _ rfl
        have z1 := hr.cell 1 _ rfl
        have z2 := hr.cell 2 _ rfl
        have z3 := hr.cell 3 _ rfl
        have zf := hr.unfrozen
        go_wp2
        go_roundw
        case rel => exact ⟨k + 1, DP, _, _, _, by omega, by omega, by go_num, hK.store hbd hO, (O4 hO hr _ _ _ _).base (Nat.zero_le _), (hS.up hbd).kept (gb4 dB _ _ _ _) (by simp; omega), unhide HIP⟩
        case measure => simp [intOf]; omega
    · go_upto_region 18 with fail
      go_wp2_with fail
      refine (flush_any 6 2 6 300 3 _ _ _ D _ (unhide HDE)).mono ?_
      rintro e wB ⟨s', c', v', rfl, hOB, hbB⟩
      rw [unhide HFE, unhide HDF] at hOB ⊢
      obtain ⟨e1', eap1, e2', eap2, e3', eap3, rfl, rfl, rfl, _⟩ := hOB.form
      have zr := hXB.up hbB
      have z0 := zr.cell 0 _ rfl
      have z1 := zr.cell 1 _ rfl
      have z2 := zr.cell 2 _ rfl
      have z3 := zr.cell 3 _ rfl
      have zf := zr.unfrozen
      go_upto_region 21 with fail
      obtain ⟨wd, hwd⟩ : ∃ wd, wd = (((wB.setCell ⟨xB, 0, none⟩ (.slice e1' DF.safe.length eap1)).setCell ⟨xB, 1, none⟩ (.slice e2' DF.cache.length eap2)).setCell ⟨xB, 2, none⟩ (.slice e3' DF.vols.length eap3)).setCell ⟨xB, 3, none⟩ (.int .i64 DF.fuel) := ⟨_, rfl⟩
      have hX : Row wd xB 31 [(.slice e1' DF.safe.length eap1), (.slice e2' DF.cache.length eap2), (.slice e3' DF.vols.length eap3), .int .i64 DF.fuel] := by rw [hwd]; exact R4 zr _ _ _ _
      have hO := O4 hOB zr (.slice e1' DF.safe.length eap1) (.slice e2' DF.cache.length eap2) (.slice e3' DF.vols.length eap3) (.int .i64 DF.fuel)
      rw [← hwd] at hO
      have hbd : Below wr.heap.size wr wd := by rw [hwd]; exact bl_set (bl_set (bl_set (bl_set (bl_trans hb9 hbB) hxl _) hxl _) hxl _) hxl _
      rw [← hwd]
      clear hwd zr z0 z1 z2 z3 zf hOB g0 g1 g2 g3 g4 q0 q1 q2 q3 e0 e1 KS
      have r0 := hX.cell 0 _ rfl
      have r1 := hX.cell 1 _ rfl
      have r2 := hX.cell 2 _ rfl
      have r3 := hX.cell 3 _ rfl
      have hr := hK.box.up hbd
      have z0 := hr.cell 0 _ rfl
      have z1 := hr.cell 1 _ rfl
      have z2 := hr.cell 2 _ rfl
      have z3 := hr.cell 3 _ rfl
      have zf := hr.unfrozen
      go_wp2
      go_roundw
      case rel => exact ⟨k + 1, DF, _, _, _, by omega, by omega, by go_num, hK.store hbd hO, (O4 hO hr _ _ _ _).base (Nat.zero_le _), (hS.up hbd).kept (gb4 dB _ _ _ _) (by simp; omega), unhide HIF⟩
      case measure => simp [intOf]; omega
    · go_upto_region 20 with fail
      go_region_held_law (fun w' => w'.cell? ⟨w.heap.size, 0, none⟩ = some (.int .i64 6) ∧ w'.cell? ⟨w.heap.size, 1, none⟩ = some (.int .i64 2) ∧ w'.cell? ⟨w.heap.size, 2, none⟩ = some (.int .i64 6) ∧ w'.cell? ⟨w.heap.size, 3, none⟩ = some (.int .i64 300) ∧ w'.cell? ⟨w.heap.size, 4, none⟩ = some (.int .i64 3) ∧ w'.cell? ⟨dB, 0, none⟩ = some (.slice b1 D.safe.length dap1) ∧ w'.cell? ⟨dB, 1, none⟩ = some (.slice b2 D.cache.length dap2) ∧ w'.cell? ⟨dB, 2, none⟩ = some (.slice b3 D.vols.length dap3) ∧ w'.cell? ⟨dB, 3, none⟩ = some (.int .i64 D.fuel) ∧ w'.cell? ⟨rB, 1, none⟩ = some (.int .i64 R.a))
        (exact unhide KS _ (by repeat (first | exact gb_refl _ _ | exact gb_below hbB | apply gb_drew | apply gb_alloc | apply gb_set)))
        ((first
          | (go_simp; go_at_call 51; rw [unhide HW]; refine (picked_any R.a ((D.vols.length : Int) + 1) _ (by omega) (by have := unhide hnv; omega) as0 as1).mono ?_; rintro e w' ⟨rfl, rfl⟩; rw [unhide HY]; dsimp only)
          | (go_simp; go_at_call 37; refine (append_any 6 2 6 300 3 _ _ _ D Y _ xs _ ((unhide HDE).up ?_) ((unhide HBT).up ?_)).mono ?_; (focus ((repeat (first | exact Below.refl _ _ | apply Below.drew | apply bl_alloc)); done)); (focus ((repeat (first | exact Below.refl _ _ | apply Below.drew | apply bl_alloc)); done)); rintro e wB ⟨t', d', z', rfl, hOB, hbB0⟩; rw [unhide HEA, unhide HDA] at hOB ⊢; refine have_of (p := Below wc.heap.size wc wB) (bl_trans ?_ hbB0) ?_; (focus ((repeat (first | exact Below.refl _ _ | apply Below.drew | apply bl_alloc)); done)); intro hbB; have hwB := hbB.size; have hdB := hOB.dev; obtain ⟨⟨e1', eap1, rfl, _⟩, ⟨e2', eap2, rfl, _⟩, ⟨e3', eap3, rfl, _⟩⟩ := hdB; have zr := (unhide HXB).up hbB; have z0 := zr.cell 0 _ rfl; have z1 := zr.cell 1 _ rfl; have z2 := zr.cell 2 _ rfl; have z3 := zr.cell 3 _ rfl; have zf := zr.unfrozen; dsimp only)))
      all_goals
        go_upto_region 21 with fail
        obtain ⟨wd, hwd⟩ : ∃ wd, wd = (((wB.setCell ⟨xB, 0, none⟩ (.slice e1' DA.safe.length eap1)).setCell ⟨xB, 1, none⟩ (.slice e2' DA.cache.length eap2)).setCell ⟨xB, 2, none⟩ (.slice e3' DA.vols.length eap3)).setCell ⟨xB, 3, none⟩ (.int .i64 DA.fuel) := ⟨_, rfl⟩
        have hX : Row wd xB 31 [(.slice e1' DA.safe.length eap1), (.slice e2' DA.cache.length eap2), (.slice e3' DA.vols.length eap3), .int .i64 DA.fuel] := by rw [hwd]; exact R4 zr _ _ _ _
        have hO := O4 hOB zr (.slice e1' DA.safe.length eap1) (.slice e2' DA.cache.length eap2) (.slice e3' DA.vols.length eap3) (.int .i64 DA.fuel)
        rw [← hwd] at hO
        have hbd : Below wr.heap.size wr wd := by rw [hwd]; exact bl_set (bl_set (bl_set (bl_set (bl_trans hb9 hbB) hxl _) hxl _) hxl _) hxl _
        rw [← hwd]
        clear hwd zr z0 z1 z2 z3 zf hOB g0 g1 g2 g3 g4 q0 q1 q2 q3 e0 e1 KS
        by_cases hE : EA = 0
        · have HZ := hide ((unhide HIA) hE)
          subst hE
          have r0 := hX.cell 0 _ rfl
          have r1 := hX.cell 1 _ rfl
          have r2 := hX.cell 2 _ rfl
          have r3 := hX.cell 3 _ rfl
          have hr := hK.box.up hbd
          have z0 := hr.cell 0 _ rfl
          have z1 := hr.cell 1 _ rfl
          have z2 := hr.cell 2 _ rfl
          have z3 := hr.cell 3 _ rfl
          have zf := hr.unfrozen
          go_wp2
          go_roundw
          case rel => exact ⟨k + 1, DA, _, _, _, by omega, by omega, by go_num, hK.store hbd hO, (O4 hO hr _ _ _ _).base (Nat.zero_le _), (hS.up hbd).kept (gb4 dB _ _ _ _) (by simp; omega), unhide HZ⟩
          case measure => simp [intOf]; omega
        · go_wp2
          go_roundw
          case rel => exact ⟨k + 1, D, _, _, _, by omega, by omega, by go_num, hK.up hbd, hOD.up hbd, hS.up hbd, (unhide HI).more (Nat.le_succ _)⟩
          case measure => simp [intOf]; omega
    · go_upto_region 12 with fail
      go_wp2_with fail
      refine (mark_any 6 2 6 300 3 _ _ _ D _ (unhide HDE)).mono ?_
      rintro e wB ⟨s', c', v', rfl, hOB, hbB⟩
      rw [unhide HFE, unhide HDM] at hOB ⊢
      obtain ⟨e1', eap1, e2', eap2, e3', eap3, rfl, rfl, rfl, _⟩ := hOB.form
      have zr := hXB.up hbB
      have z0 := zr.cell 0 _ rfl
      have z1 := zr.cell 1 _ rfl
      have z2 := zr.cell 2 _ rfl
      have z3 := zr.cell 3 _ rfl
      have zf := zr.unfrozen
      go_upto_region 21 with fail
      obtain ⟨wd, hwd⟩ : ∃ wd, wd = (((wB.setCell ⟨xB, 0, none⟩ (.slice e1' DM.safe.length eap1)).setCell ⟨xB, 1, none⟩ (.slice e2' DM.cache.length eap2)).setCell ⟨xB, 2, none⟩ (.slice e3' DM.vols.length eap3)).setCell ⟨xB, 3, none⟩ (.int .i64 DM.fuel) := ⟨_, rfl⟩
      have hX : Row wd xB 31 [(.slice e1' DM.safe.length eap1), (.slice e2' DM.cache.length eap2), (.slice e3' DM.vols.length eap3), .int .i64 DM.fuel] := by rw [hwd]; exact R4 zr _ _ _ _
      have hO := O4 hOB zr (.slice e1' DM.safe.length eap1) (.slice e2' DM.cache.length eap2) (.slice e3' DM.vols.length eap3) (.int .i64 DM.fuel)
      rw [← hwd] at hO
      have hbd : Below wr.heap.size wr wd := by rw [hwd]; exact bl_set (bl_set (bl_set (bl_set (bl_trans hb9 hbB) hxl _) hxl _) hxl _) hxl _
      rw [← hwd]
      clear hwd zr z0 z1 z2 z3 zf hOB g0 g1 g2 g3 g4 q0 q1 q2 q3 e0 e1 KS
      have r0 := hX.cell 0 _ rfl
      have r1 := hX.cell 1 _ rfl
      have r2 := hX.cell 2 _ rfl
      have r3 := hX.cell 3 _ rfl
      have hr := hK.box.up hbd
      have z0 := hr.cell 0 _ rfl
      have z1 := hr.cell 1 _ rfl
      have z2 := hr.cell 2 _ rfl
      have z3 := hr.cell 3 _ rfl
      have zf := hr.unfrozen
      go_wp2
      go_roundw
      case rel => exact ⟨k + 1, DM, _, _, _, by omega, by omega, by go_num, hK.store hbd hO, (O4 hO hr _ _ _ _).base (Nat.zero_le _), (hS.up hbd).kept (gb4 dB _ _ _ _) (by simp; omega), unhide HIM⟩
      case measure => simp [intOf]; omega
end Go.Proofs.Ytkcakecmhoamaaa
