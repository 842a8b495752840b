/- icehouseref.CrashedOf. -/
import Derived.Test.YtkcakecmhoamaaaCrC
import Derived.Test.YtkcakecmhoamaaaFlO
namespace Go.Proofs.Ytkcakecmhoamaaa
open Go.RowKit
set_option maxRecDepth 100000
set_option linter.unusedVariables false
set_option linter.unusedSimpArgs false
attribute [local go_sem ↓] Go.wp_at_zero Go.wp_at_succ

theorem Bts.take {w : World} {a : Option Addr} {n cap : Nat} {xs : List Int} (h : Bts w (.slice a n cap) xs) {m : Nat} (hm : m ≤ xs.length) : Bts w (.slice a m cap) (xs.take m) := by
  obtain ⟨a', cap', e, h1, h2, h3⟩ := h
  injection e with e1 e2 e3
  subst e1
  subst e3
  have hl : (xs.take m).length = m := by simp; omega
  refine ⟨a, cap, by rw [hl], by omega, h2, fun i hi => ?_⟩
  rw [hl] at hi
  obtain ⟨b, o, e, hc⟩ := h3 i (by omega)
  exact ⟨b, o, e, by rw [hc]; simp [List.getD, hi]⟩
theorem keepF_far {ks : List Bool} {k : Nat} (h : ks.length ≤ k) : keepF ks k = false := by simp [keepF, List.getD, List.getElem?_eq_none h]

set_option maxHeartbeats 6000000 in
theorem crashedOf_any (r a h vm nv : Int) (s c v : Value) (D : Dv) (kv : Value) (ks : List Bool) (tail : Int) (w : World) (hD : Dev w s c v D) (hK : Bls w kv ks) :
    Calls Try.prog 46 #[.agg #[.int .i64 r, .int .i64 a, .int .i64 h, .int .i64 vm, .int .i64 nv], .agg #[s, c, v, .int .i64 D.fuel], kv, .int .i64 tail] w fun e w' =>
      ∃ s' c' v', e = .returned (.tuple #[.agg #[s', c', v', .int .i64 (craD ks tail D (craE tail (chkE r a h vm nv D))).fuel], .int .i64 (craE tail (chkE r a h vm nv D))]) ∧ ODev w' w.heap.size s' c' v' (craD ks tail D (craE tail (chkE r a h vm nv D))) ∧ Below w.heap.size w w' := by
  have HD := hide hD
  have HK := hide hK
  obtain ⟨ak, capk, hkv, lk, mk, _⟩ := hK
  unfold maxLen at mk
  obtain ⟨nk, hnk⟩ : ∃ nk, ks.length = nk := ⟨_, rfl⟩
  rw [hnk] at hkv lk
  subst hkv
  have HNK := hide hnk
  clear hnk
  obtain ⟨⟨a1, cap1, rfl, l1, m1, hs⟩, ⟨a2, cap2, rfl, l2, m2, hc⟩, ⟨a3, cap3, rfl, l3, m3, hv⟩⟩ := hD
  clear hs hc hv
  unfold maxLen at m1 m2 m3
  go_enter Try.func46, Try.ntmps46
  go_wp2_with fail
  refine (devFault_any r a h vm nv _ _ _ D _ ((unhide HD).up (bl3 _ _ _ _))).mono ?_
  rintro e w1 ⟨rfl, hb1⟩
  have hb0 : Below w.heap.size w w1 := bl_trans (bl3 _ _ _ _) hb1
  have f0 := box3b hb1 0 rfl
  have f1 := box3b hb1 1 rfl
  have f2 := box3b hb1 2 rfl
  have f3 := box3b hb1 3 rfl
  have hR := box3r (cs := [.slice none 0 0, .slice none 0 0, .slice none 0 0, .int .i64 0]) hb1
  have d0 := hR.cell 0 _ rfl
  have d1 := hR.cell 1 _ rfl
  have d2 := hR.cell 2 _ rfl
  have d3 := hR.cell 3 _ rfl
  have df := hR.unfrozen
  have HR := hide hR
  clear hb1 hR
  obtain ⟨E, hE⟩ : ∃ E, chkE r a h vm nv D = E := ⟨_, rfl⟩
  rw [hE]
  by_cases hE0 : E = 0
  case neg =>
    have t1 : (E != 0) = true := by simpa using hE0
    have t2 : (E == 0) = false := by simpa using hE0
    have HE : Hid (E = craE tail (chkE r a h vm nv D)) := by rw [hE]; exact (craE_bad hE0).symm
    have HE0 := hide hE0
    clear hE hE0
    go_wp2
    refine bodyPost_ret (v := .tuple #[.agg #[.slice none 0 0, .slice none 0 0, .slice none 0 0, .int .i64 0], .int .i64 E]) (by simp [results, Try.results46, go_sem, *]) rfl ⟨_, _, _, ret_dev (by rw [← unhide HE, craD_bad (unhide HE0)]; rfl) (unhide HE), ?_, ?_⟩
    · rw [← unhide HE, craD_bad (unhide HE0)]; exact ODev.empty _ _ _
    · repeat (first | exact hb0 | refine bl_set ?_ (by simp <;> omega) _)
  subst hE0
  obtain ⟨hg, hd⟩ := chk_of hE
  have HFIT := hide (fits_of hg hd)
  have HVO := hide (volsOk_of hd)
  have HDV := hide (devB_all hd)
  have HCH := hide hE
  clear hE hd hg
  by_cases ht : tail < 0
  · have HE : Hid (2 = craE tail (chkE r a h vm nv D)) := by rw [unhide HCH]; exact (craE_no ht).symm
    go_wp2
    refine bodyPost_ret (v := .tuple #[.agg #[.slice none 0 0, .slice none 0 0, .slice none 0 0, .int .i64 0], .int .i64 2]) (by simp [results, Try.results46, go_sem, *]) rfl ⟨_, _, _, ret_dev (by rw [← unhide HE, craD_bad (by decide)]; rfl) (unhide HE), ?_, ?_⟩
    · rw [← unhide HE, craD_bad (by decide)]; exact ODev.empty _ _ _
    · repeat (first | exact hb0 | refine bl_set ?_ (by simp <;> omega) _)
  have HE : Hid (0 = craE tail (chkE r a h vm nv D)) := by rw [unhide HCH]; exact (craE_ok ht).symm
  have HT : Hid (0 ≤ tail) := Int.not_lt.1 ht
  go_wp2_with fail
  refine (devCopy_any _ _ _ D D.fuel _ ((unhide HD).up hb0) (unhide HFIT)).mono ?_
  rintro e w3 ⟨s', c', v', rfl, hO, hb3⟩
  have hsz2 := hb0.size
  have hsz3 := hb3.size
  replace hb0 := bl_trans hb0 hb3
  obtain ⟨b1, dap1, b2, dap2, b3, dap3, rfl, rfl, rfl, hcs, hcsm, hcc, hccm, hcv, hcvm⟩ := hO.form
  unfold maxLen at hcsm hccm hcvm
  obtain ⟨N, hN⟩ : ∃ N, D.cache.length = N := ⟨_, rfl⟩
  obtain ⟨S, hS⟩ : ∃ S, D.safe.length = S := ⟨_, rfl⟩
  obtain ⟨V, hV⟩ : ∃ V, D.vols.length = V := ⟨_, rfl⟩
  rw [hN] at hcc hO ⊢
  rw [hS] at hcs hO ⊢
  rw [hV] at hcv hO ⊢
  have HN := hide hN
  have HS := hide hS
  have HV := hide hV
  have HR3 := hide ((unhide HR).up hb3)
  obtain ⟨W1, hW1⟩ : ∃ W1, W1 = w3.alloc (.cells #[.slice b1 S dap1, .slice b2 N dap2, .slice b3 V dap3, .int .i64 D.fuel] 31) := ⟨_, rfl⟩
  have h31 : Below w3.heap.size w3 W1 := by rw [hW1]; exact bl1 _ _
  have hout : Row W1 w3.heap.size 31 [.slice b1 S dap1, .slice b2 N dap2, .slice b3 V dap3, .int .i64 D.fuel] := by rw [hW1]; exact Row.new _ _ _
  have HW1 := hide hW1
  have HO1 := hide (hO.up h31)
  have HOUT := hide hout
  have HR1 := hide ((unhide HR3).up h31)
  have HB01 := hide (bl_trans hb0 h31)
  have hol0 := hout.lt
  have hrw : w.heap.size + 1 + 1 < w1.heap.size := (unhide HR).lt
  clear hN hS hV hW1 hO hout d0 d1 d2 d3 df f0 f1 f2 f3
  go_wp2
  rw [← unhide HW1]
  go_loopw [12] (fun i wr => ∃ k : Nat, k ≤ N ∧ i = .int .i64 k ∧ Row wr w3.heap.size 31 [.slice b1 S dap1, .slice b2 N dap2, .slice b3 V dap3, .int .i64 D.fuel] ∧ Row wr (w.heap.size + 1 + 1) 31 [.slice none 0 0, .slice none 0 0, .slice none 0 0, .int .i64 0] ∧ ODev wr w1.heap.size (.slice b1 S dap1) (.slice b2 N dap2) (.slice b3 V dap3) ⟨settled (keepF ks) D.safe D.cache k, D.cache, D.vols, D.fuel⟩ ∧ Below w.heap.size w wr) (fun i _ => N - (intOf i).toNat)
  case atStart => exact ⟨0, Nat.zero_le _, rfl, unhide HOUT, unhide HR1, unhide HO1, unhide HB01⟩
  case round =>
    obtain ⟨k, hk, rfl, hout, hres, hO, hbr⟩ := hrel
    have o1 := hout.cell 1 _ rfl
    have hol := hout.lt
    by_cases hlt : k < N ∧ k < nk
    · obtain ⟨hlt, hltk⟩ := hlt
      have hx : k < D.cache.length := by rw [unhide HN]; exact hlt
      have o0 := hout.cell 0 _ rfl
      obtain ⟨ak', capk', ek, _, _, hkc⟩ := (unhide HK).up hbr
      injection ek with ek1 ek2 ek3
      obtain ⟨bk, ok, hak, hkcell⟩ := hkc k (by rw [unhide HNK]; exact hltk)
      rw [← ek1] at hak
      subst hak
      clear ek1 ek2 ek3 hkc
      have hkcell' : wr.cell? ⟨bk, ok + k, none⟩ = some (.bool (keepF ks k)) := hkcell
      clear hkcell
      obtain ⟨⟨p0, p1⟩, hdl⟩ := (unhide HDV).2.2.2.2.2.1 k hx
      rw [unhide HS] at p1
      obtain ⟨gc, curc, rfl, _, hrc, hpos, u, hu, hou⟩ := hO.wri (x := k) hx
      simp only at hpos hu hou
      obtain ⟨P, hP⟩ : ∃ P : Nat, (D.cache.getD k ⟨0, []⟩).pos = (P : Int) := ⟨(D.cache.getD k ⟨0, []⟩).pos.toNat, by omega⟩
      rw [hP] at hpos p0 p1
      have hPS : P < S := by omega
      obtain ⟨gs, curs, rfl, hgB, hrs, ⟨u0, hu0, _⟩, hput⟩ := hO.sec (x := P) (by simp only; rw [settled_length, unhide HS]; exact hPS)
      have hk0 : (0 : Int) ≤ (k : Int) := Int.natCast_nonneg _
      have hk1 : (k : Int) < (N : Int) := by omega
      have hk2 : (k : Int) < (nk : Int) := by omega
      cases hkk : keepF ks k
      case false =>
        rw [hkk] at hkcell'
        have HOK : Hid (ODev wr w1.heap.size (.slice (some ⟨gs, 0, none⟩) S dap1) (.slice (some ⟨gc, 0, none⟩) N dap2) (.slice b3 V dap3) ⟨settled (keepF ks) D.safe D.cache (k + 1), D.cache, D.vols, D.fuel⟩) := by
          show ODev _ _ _ _ _ _
          rw [settled_no hkk]; exact hO
        have HOUT' := hide hout
        have HRES' := hide hres
        clear hkk hP hput hrc hrs hou hout hres hO hdl
        go_wp2
        go_roundw
        case rel => exact ⟨k + 1, by omega, by go_num, unhide HOUT', unhide HRES', unhide HOK, hbr⟩
        case measure => simp [intOf]; omega
      rw [hkk] at hkcell'
      have hpm := hput u _ hou
      simp only at hpm
      rw [show (settled (keepF ks) D.safe D.cache k).set P (D.cache.getD k ⟨0, []⟩).data = settled (keepF ks) D.safe D.cache (k + 1) by rw [settled_yes hkk, hP]; rfl] at hpm
      obtain ⟨au, cu, rfl, lu, mu⟩ := own_form hou
      rw [hdl] at hu lu hpm
      have hfz := hrs.unfrozen P
      have hgl := hrs.lt
      have hcl := hrc.lt
      have hne1 : w3.heap.size ≠ gs := (hrs.apart hout (by decide)).symm
      have hne2 : w.heap.size + 1 + 1 ≠ gs := (hrs.apart hres (by decide)).symm
      have hne3 : gc ≠ gs := (hrs.apart hrc (by decide)).symm
      have HPM := hide hpm
      have HOUT' := hide hout
      have HRES' := hide hres
      have hwg : w.heap.size ≤ gs := by omega
      clear hkk hP hpm hput hrc hrs hou hout hres hO hdl
      go_wp2
      go_region_held3 (fun w' => w'.cell? ⟨w3.heap.size, 0, none⟩ = some (.slice (some ⟨gs, 0, none⟩) S dap1) ∧ w'.cell? ⟨w3.heap.size, 1, none⟩ = some (.slice (some ⟨gc, 0, none⟩) N dap2) ∧ w'.cell? ⟨gc, k * 2, none⟩ = some (.int .i64 (P : Int)) ∧ w'.cell? ⟨gc, k * 2 + 1, none⟩ = some (.slice au 64 cu)) (first | exact ⟨o0, o1, hpos, hu⟩ | (refine ⟨?_, ?_, ?_, ?_⟩ <;> (refine (World.cell?_setCell_other _ _ _ _ (by simp <;> omega)).trans ?_; assumption))) (fail)
      all_goals
        go_wp2
        go_roundw
        case rel =>
          have hgg := gb_drew (gb_set (gb_refl wr (some gs)) P (.slice au 64 cu))
          exact ⟨k + 1, by omega, by go_num, (unhide HOUT').kept hgg (by simpa using hne1), (unhide HRES').kept hgg (by simpa using hne2), (unhide HPM).up (Below.refl _ _).drew, (bl_set hbr (p := ⟨gs, P, none⟩) hwg _).drew⟩
        case measure => simp [intOf]; omega
    · have hst : settled (keepF ks) D.safe D.cache k = settled (keepF ks) D.safe D.cache N := by
        by_cases e : k = N
        · rw [e]
        · exact (settled_stop (fun j hj => keepF_far (by rw [unhide HNK]; omega)) N hk).symm
      have hO' := hO.nocache
      simp only at hO'
      rw [hst] at hO'
      have o2 := hout.cell 2 _ rfl
      have o3 := hout.cell 3 _ rfl
      have hof := hout.unfrozen
      have HO' := hide hO'
      have HOUT' := hide hout
      have HRES' := hide hres
      have hrne : w.heap.size + 1 + 1 ≠ w3.heap.size := by omega
      have hg : (k : Int) < (N : Int) → decide ((k : Int) < (nk : Int)) = false := by intro h; simp; omega
      clear hst hO hO' hout hres
      by_cases hkN : k < N
      case' pos =>
        have e1 : decide ((k : Int) < (nk : Int)) = false := hg (by omega)
        clear hg
      case' neg =>
        have hkn : N = k := by omega
        subst hkn
        clear hg hkN hk hlt
      all_goals
        go_wp2
        obtain ⟨W2, hW2⟩ : ∃ W2, W2 = (wr.setCell ⟨w3.heap.size, 1, none⟩ (.slice none 0 0)).setCell ⟨w3.heap.size, 3, none⟩ (.int .i64 (-1)) := ⟨_, rfl⟩
        have hg2 : wr.grownBy W2 (some w3.heap.size) := by rw [hW2]; exact gb_set (gb_set (gb_refl _ _) _ _) _ _
        have hout2 : Row W2 w3.heap.size 31 [.slice b1 S dap1, .slice none 0 0, .slice b3 V dap3, .int .i64 (-1)] := by rw [hW2]; exact ((unhide HOUT').set 1 _).set 3 _
        have HO2 := hide ((unhide HO').kept (unhide HOUT') (by decide) (by decide) (by decide) (by decide) hg2)
        have HR2 := hide ((unhide HRES').kept hg2 (by simpa using hrne))
        have HB2 : Hid (Below w.heap.size w W2) := by rw [hW2]; exact bl_set (bl_set hbr (by simp; omega) _) (by simp; omega) _
        have HOUT2 := hide hout2
        rw [← hW2]
        clear hW2 hg2 hout2 o1 o2 o3 hof hol
        clear hbr
        (try (have hdn : decide (k < nk) = false := (by simp; omega); simp only [hdn]; clear hdn))
        go_loopw [13, 14, 15] (fun i _ _ wx => ∃ q : Nat, q ≤ V ∧ i = .int .i64 q ∧ Row wx w3.heap.size 31 [.slice b1 S dap1, .slice none 0 0, .slice b3 V dap3, .int .i64 (-1)] ∧ Row wx (w.heap.size + 1 + 1) 31 [.slice none 0 0, .slice none 0 0, .slice none 0 0, .int .i64 0] ∧ ODev wx w1.heap.size (.slice b1 S dap1) (.slice none 0 0) (.slice b3 V dap3) ⟨settled (keepF ks) D.safe D.cache N, [], firstK (cutV (craN tail)) q D.vols, D.fuel⟩ ∧ Below w.heap.size w wx) (fun i _ _ _ => V - (intOf i).toNat)
        case atStart => exact ⟨0, Nat.zero_le _, rfl, unhide HOUT2, unhide HR2, by rw [firstK_zero]; exact unhide HO2, unhide HB2⟩
        case round =>
          obtain ⟨q, hq, rfl, hout, hres, hO, hbq⟩ := hrel
          have o2 := hout.cell 2 _ rfl
          have hol := hout.lt
          by_cases hlt2 : q < V
          · have hx : q < D.vols.length := by rw [unhide HV]; exact hlt2
            obtain ⟨g, cur, rfl, hgB, hrow, ⟨u, hu, hou⟩, hsy, hgo, _, _⟩ := hO.volD (x := q) (by simp only; rw [firstK_length]; exact hx)
            simp only at hou hsy hgo
            rw [firstK_at _ _ _ hx] at hou hsy hgo
            have hvo := unhide HVO q hx
            have hL47 := (unhide HFIT).volD hx
            have hMi := craN_int (Int.not_lt.2 (unhide HT)) hvo.1 hvo.2
            have hMl := craN_le (Int.not_lt.2 (unhide HT)) hvo.1 hvo.2
            have hT0 : (0 : Int) ≤ tail := unhide HT
            obtain ⟨L, hL⟩ : ∃ L, (D.vols.getD q vo0).data.length = L := ⟨_, rfl⟩
            obtain ⟨SY, hSY⟩ : ∃ SY, (D.vols.getD q vo0).synced = SY := ⟨_, rfl⟩
            obtain ⟨GO, hGO⟩ : ∃ GO, (D.vols.getD q vo0).gone = GO := ⟨_, rfl⟩
            obtain ⟨M, hM⟩ : ∃ M, craN tail (D.vols.getD q vo0) = M := ⟨_, rfl⟩
            obtain ⟨au, cu, rfl, lu, mu⟩ := own_form hou
            have HBD := hide hou.bts
            have HML := hide hMl
            rw [hL] at hu lu hL47 HBD hMl
            rw [hSY] at hsy
            rw [hGO] at hgo
            rw [hSY, hL] at hvo
            rw [hM, hSY, hL] at hMi
            rw [hM] at hMl HML
            obtain ⟨hv0, hv1⟩ := hvo
            unfold maxLen at mu
            have HL := hide hL
            have HM := hide hM
            have hgl := hrow.lt
            have hfz := hrow.unfrozen
            have hne1 : w3.heap.size ≠ g := (hrow.apart hout (by decide)).symm
            have hne2 : w.heap.size + 1 + 1 ≠ g := (hrow.apart hres (by decide)).symm
            have hk0 : (0 : Int) ≤ (q : Int) := Int.natCast_nonneg _
            have hk1 : (q : Int) < (V : Int) := by omega
            have hM1 : (0 : Int) ≤ (M : Int) := Int.natCast_nonneg _
            have hM2 : (M : Int) ≤ (cu : Int) := by omega
            have HO1 := hide hO
            have HOUTq := hide hout
            have HRESq := hide hres
            have HMI := hide hMi
            have hwg : w.heap.size ≤ g := by omega
            clear hL hSY hGO hM hMi hou hO hrow hout hres
            by_cases hm : tail < (L : Int) - SY
            case' pos => have hMe : SY + tail = (M : Int) := by rw [unhide HMI, Int.min_eq_left (by omega)]
            case' neg => have hMe : (L : Int) = (M : Int) := by rw [unhide HMI, Int.min_eq_right (by omega)]; omega
            all_goals
              go_wp2
              obtain ⟨Z, hZ⟩ : ∃ Z, Z = wr.alloc (.cells #[.slice au L cu, .int .i64 SY, .bool GO] 73) := ⟨_, rfl⟩
              have hbz : Below wr.heap.size wr Z := by rw [hZ]; exact bl1 _ _
              have z0 : Z.cell? ⟨wr.heap.size, 0, none⟩ = some (.slice au L cu) := box1 (by rw [← hZ]; exact Below.refl _ Z) 0 rfl
              rw [← hZ]
              clear hZ
              have oz := cell_up hbz o2
              have KS : Hid (∀ w', Below Z.heap.size Z w' → w'.cell? ⟨w3.heap.size, 2, none⟩ = some (.slice (some ⟨g, 0, none⟩) V dap3) ∧ w'.cell? ⟨wr.heap.size, 0, none⟩ = some (.slice au L cu)) := fun w' hb => ⟨cell_up hb oz, cell_up hb z0⟩
              have KG : Hid (∀ w', Below Z.heap.size Z w' → w'.cell? ⟨g, q * 3, none⟩ = some (.slice au L cu) ∧ w'.cell? ⟨g, q * 3 + 1, none⟩ = some (.int .i64 SY) ∧ (∀ j, w'.frozen? ⟨g, j, none⟩ = false)) := fun w' hb => ⟨cell_up (bl_trans hbz hb) hu, cell_up (bl_trans hbz hb) hsy, fun j => ((bl_trans hbz hb).frozen (p := ⟨g, j, none⟩) hgl).trans (hfz j)⟩
              have HBZ := hide hbz
              have HBDZ := hide (((unhide HBD).up hbz).take (unhide HML))
              have hzl : wr.heap.size < Z.heap.size := World.block_lt_of_cell? Z _ z0
              have hgz : g < Z.heap.size := by omega
              have hoz : w3.heap.size < Z.heap.size := by omega
              have hwz : wr.heap.size ≠ g := by omega
              have htl : ((D.vols.getD q vo0).data.take M).length = M := by rw [List.length_take]; exact Nat.min_eq_left (unhide HML)
              have HTL := hide htl
              clear hbz hu hsy hgo htl o2
              go_region_held3 (fun w' => w'.cell? ⟨w3.heap.size, 2, none⟩ = some (.slice (some ⟨g, 0, none⟩) V dap3) ∧ w'.cell? ⟨wr.heap.size, 0, none⟩ = some (.slice au L cu))
                (first | exact ⟨(World.cell?_setCell_other _ _ _ _ (by simp <;> omega)).trans (unhide KS _ hbA).1, (World.cell?_setCell_other _ _ _ _ (by simp <;> omega)).trans (unhide KS _ hbA).2⟩ | exact unhide KS _ hbA | exact unhide KS _ (by repeat (first | exact Below.refl _ _ | apply Below.drew | apply bl_alloc)))
                ((go_at_call 62; refine (joined_any _ [(D.vols.getD q vo0).data.take M] _ (by exact RowsAt.one (unhide HBDZ)) (by simp only [List.flatten_cons, List.flatten_nil, List.append_nil]; rw [unhide HTL]; omega)).mono ?_; rintro e w6 ⟨u6, rfl, hown6, hb6⟩; have hbA : Below Z.heap.size Z w6 := bl_trans (by repeat (first | exact Below.refl _ _ | apply Below.drew | apply bl_alloc)) hb6; have l6 : Z.heap.size ≤ w6.heap.size := hbA.size; simp only [List.flatten_cons, List.flatten_nil, List.append_nil] at hown6; obtain ⟨a6, c6, hu6, _, _⟩ := own_form hown6; rw [unhide HTL] at hu6; subst hu6; have o6 := (unhide KS w6 hbA).1; have x6 := (unhide KG w6 hbA).1; have y6 := (unhide KG w6 hbA).2.1; have f6 := (unhide KG w6 hbA).2.2))
              all_goals
                have HOWN6 := hide hown6
                have HBA := hide hbA
                clear hown6 hbA hb6
                go_wp2
                go_roundw
                case rel =>
                  have hbb : Below wr.heap.size wr w6 := bl_trans (unhide HBZ) (unhide HBA)
                  have hown : Own w6 w1.heap.size (.slice a6 M c6) ((D.vols.getD q vo0).data.take M) := (unhide HOWN6).base (by first | omega | (simp; omega))
                  have hcut := ((unhide HO1).up hbb).cutAt (x := q) (by simp only; rw [firstK_length]; exact hx) _ _ (M : Int) hown
                  simp only at hcut
                  rw [firstK_at _ _ _ hx, show (⟨(D.vols.getD q vo0).data.take M, (M : Int), (D.vols.getD q vo0).gone⟩ : Vo) = cutV (craN tail) (D.vols.getD q vo0) by unfold cutV; rw [unhide HM, pad_take (unhide HML)], firstK_set _ _ _ hx] at hcut
                  have hgg : ∀ u v, w6.grownBy ((w6.setCell ⟨g, q * 3, none⟩ u).setCell ⟨g, q * 3 + 1, none⟩ v) (some g) := fun u v => gb_set (gb_set (gb_refl _ _) _ _) _ _
                  first
                    | exact ⟨q + 1, by omega, by go_num, ((unhide HOUTq).up hbb).kept (hgg _ _) (by simpa using hne1), ((unhide HRESq).up hbb).kept (hgg _ _) (by simpa using hne2), hcut, bl_set (bl_set (bl_trans hbq hbb) hwg _) hwg _⟩
                    | exact ⟨q + 1, by omega, by go_num, Row.dr (((unhide HOUTq).up hbb).kept (hgg _ _) (by simpa using hne1)), Row.dr (((unhide HRESq).up hbb).kept (hgg _ _) (by simpa using hne2)), hcut.up (Below.refl _ _).drew, (bl_set (bl_set (bl_trans hbq hbb) hwg _) hwg _).drew⟩
                case measure => simp [intOf]; omega
          · obtain rfl : q = V := by omega
            have e0 := hout.cell 0 _ rfl
            have e1' := hout.cell 1 _ rfl
            have e3 := hout.cell 3 _ rfl
            have d0 := hres.cell 0 _ rfl
            have d1 := hres.cell 1 _ rfl
            have d2 := hres.cell 2 _ rfl
            have d3 := hres.cell 3 _ rfl
            have df := hres.unfrozen
            have hrl := hres.lt
            have hO' : ODev wr w1.heap.size (.slice b1 S dap1) (.slice none 0 0) (.slice b3 q dap3) ⟨settled (keepF ks) D.safe D.cache N, [], D.vols.map (cutV (craN tail)), D.fuel⟩ := by
              rw [← firstK_all, unhide HV]; exact hO
            have HOf := hide hO'
            have HRESf := hide hres
            clear hO hO' hres hout
            go_wp2
            refine bodyPost_ret (v := .tuple #[.agg #[.slice b1 S dap1, .slice none 0 0, .slice b3 q dap3, .int .i64 (-1)], .int .i64 0]) (by simp [results, Try.results46, go_sem, *]) rfl ⟨_, _, _, ret_dev (by rw [← unhide HE, craD_ok]) (unhide HE), ?_, ?_⟩
            · rw [← unhide HE, craD_ok, unhide HN]
              exact (((unhide HOf).fuel (-1)).kept (unhide HRESf) (by decide) (by decide) (by decide) (by decide) (gb_set (gb_set (gb_set (gb_set (gb_refl _ _) _ _) _ _) _ _) _ _)).base hsz2
            · refine bl_set (bl_set (bl_set (bl_set hbq ?_ _) ?_ _) ?_ _) ?_ _ <;> simp <;> omega
end Go.Proofs.Ytkcakecmhoamaaa
