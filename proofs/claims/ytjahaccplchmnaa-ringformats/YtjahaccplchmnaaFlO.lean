/- icehouseref.FlushedOf. -/
import Derived.Test.YtjahaccplchmnaaCpb
import Derived.Deep.DrawnRows
import Derived.Deep.RegionHeld3
namespace Go.Proofs.Ytjahaccplchmnaa
open Go.RowKit
set_option maxRecDepth 100000
set_option linter.unusedVariables false
set_option linter.unusedSimpArgs false
attribute [local go_sem ↓] Go.wp_at_zero Go.wp_at_succ

set_option maxHeartbeats 2000000 in
theorem flushedOf_any (r a h vm nv : Int) (s c v : Value) (D : Dv) (w : World) (hD : Dev w s c v D) :
    Calls Try.prog 87 #[.agg #[.int .i64 r, .int .i64 a, .int .i64 h, .int .i64 vm, .int .i64 nv], .agg #[s, c, v, .int .i64 D.fuel]] w fun e w' =>
      ∃ s' c' v', e = .returned (.tuple #[.agg #[s', c', v', .int .i64 (fluD D (marE D (chkE r a h vm nv D))).fuel], .int .i64 (marE D (chkE r a h vm nv D))]) ∧ ODev w' w.heap.size s' c' v' (fluD D (marE D (chkE r a h vm nv D))) ∧ Below w.heap.size w w' := by
  have HD := hide hD
  obtain ⟨⟨a1, cap1, rfl, l1, m1, hs⟩, ⟨a2, cap2, rfl, l2, m2, hc⟩, ⟨a3, cap3, rfl, l3, m3, hv⟩⟩ := hD
  clear hs hc hv
  unfold maxLen at m1 m2 m3
  go_enter Try.func87, Try.ntmps87
  go_wp2_with fail
  refine (devFault_any r a h vm nv _ _ _ D _ ((unhide HD).up (bl3 _ _ _ _))).mono ?_
  rintro e w1 ⟨rfl, hb1⟩
  have hb0 : Below w.heap.size w w1 := bl_trans (bl3 _ _ _ _) hb1
  have f0 := box3b hb1 0 rfl
  have f1 := box3b hb1 1 rfl
  have f2 := box3b hb1 2 rfl
  have f3 := box3b hb1 3 rfl
  have hR := box3r (cs := [.slice none 0 0, .slice none 0 0, .slice none 0 0, .int .i64 0]) hb1
  have d0 := hR.cell 0 _ rfl
  have d1 := hR.cell 1 _ rfl
  have d2 := hR.cell 2 _ rfl
  have d3 := hR.cell 3 _ rfl
  have df := hR.unfrozen
  have HR := hide hR
  clear hb1 hR
  obtain ⟨E, hE⟩ : ∃ E, chkE r a h vm nv D = E := ⟨_, rfl⟩
  rw [hE]
  by_cases hE0 : E = 0
  case neg =>
    have t1 : (E != 0) = true := by simpa using hE0
    have t2 : (E == 0) = false := by simpa using hE0
    have HE : Hid (E = marE D (chkE r a h vm nv D)) := by rw [hE]; exact (marE_bad hE0).symm
    have HE0 := hide hE0
    clear hE hE0
    go_wp2
    refine bodyPost_ret (v := .tuple #[.agg #[.slice none 0 0, .slice none 0 0, .slice none 0 0, .int .i64 0], .int .i64 E]) (by simp [results, Try.results87, go_sem, *]) rfl ⟨_, _, _, ret_dev (by rw [← unhide HE, fluD_bad (unhide HE0)]; rfl) (unhide HE), ?_, ?_⟩
    · rw [← unhide HE, fluD_bad (unhide HE0)]; exact ODev.empty _ _ _
    · repeat (first | exact hb0 | refine bl_set ?_ (by simp <;> omega) _)
  subst hE0
  obtain ⟨hg, hd⟩ := chk_of hE
  have HFIT := hide (fits_of hg hd)
  have HFU := hide (fuel_of hd)
  have HDV := hide (devB_all hd)
  have HCH := hide hE
  clear hE hd hg
  by_cases hF0 : D.fuel = 0
  · have HE : Hid (10 = marE D (chkE r a h vm nv D)) := by rw [unhide HCH]; exact (marE_down hF0).symm
    have HF0 := hide hF0
    clear hF0
    go_wp2_with fail
    refine (spent_zero _ _ _ D _ (unhide HF0)).mono ?_
    rintro e w3 ⟨rfl, hb3⟩
    replace hb0 := bl_trans hb0 hb3
    have hR := (unhide HR).up hb3
    clear d0 d1 d2 d3 df
    have d0 := hR.cell 0 _ rfl
    have d1 := hR.cell 1 _ rfl
    have d2 := hR.cell 2 _ rfl
    have d3 := hR.cell 3 _ rfl
    have df := hR.unfrozen
    have hrl := hR.lt
    clear hR hb3 f0 f1 f2 f3
    go_wp2
    refine bodyPost_ret (v := .tuple #[.agg #[.slice none 0 0, .slice none 0 0, .slice none 0 0, .int .i64 0], .int .i64 10]) (by simp [results, Try.results87, go_sem, *]) rfl ⟨_, _, _, ret_dev (by rw [← unhide HE, fluD_bad (by decide)]; rfl) (unhide HE), ?_, ?_⟩
    · rw [← unhide HE, fluD_bad (by decide)]; exact ODev.empty _ _ _
    · repeat (first | exact hb0 | refine bl_set ?_ (by simp <;> omega) _ | refine bl_alloc ?_ _)
  have HE : Hid (0 = marE D (chkE r a h vm nv D)) := by rw [unhide HCH]; exact (marE_ok hF0).symm
  have HF0 := hide hF0
  clear hF0
  go_wp2_with fail
  refine (spent_some _ _ _ D _ ((unhide HD).up hb0) (unhide HFIT) (unhide HF0) (unhide HFU).1 (unhide HFU).2).mono ?_
  rintro e w3 ⟨s', c', v', rfl, hO, hb3⟩
  have hsz2 := hb0.size
  have hsz3 := hb3.size
  replace hb0 := bl_trans hb0 hb3
  obtain ⟨b1, dap1, b2, dap2, b3, dap3, rfl, rfl, rfl, hcs, hcsm, hcc, hccm, _, _⟩ := hO.form
  unfold maxLen at hcsm hccm
  obtain ⟨N, hN⟩ : ∃ N, D.cache.length = N := ⟨_, rfl⟩
  obtain ⟨S, hS⟩ : ∃ S, D.safe.length = S := ⟨_, rfl⟩
  rw [hN] at hcc hO ⊢
  rw [hS] at hcs hO ⊢
  have HN := hide hN
  have HS := hide hS
  have HR3 := hide ((unhide HR).up hb3)
  obtain ⟨W1, hW1⟩ : ∃ W1, W1 = w3.alloc (.cells #[.slice b1 S dap1, .slice b2 N dap2, .slice b3 D.vols.length dap3, .int .i64 (lessF D.fuel)] 28) := ⟨_, rfl⟩
  have h31 : Below w3.heap.size w3 W1 := by rw [hW1]; exact bl1 _ _
  have hout : Row W1 w3.heap.size 28 [.slice b1 S dap1, .slice b2 N dap2, .slice b3 D.vols.length dap3, .int .i64 (lessF D.fuel)] := by rw [hW1]; exact Row.new _ _ _
  have HW1 := hide hW1
  have HO1 := hide (hO.up h31)
  have HOUT := hide hout
  have HR1 := hide ((unhide HR3).up h31)
  have HB01 := hide (bl_trans hb0 h31)
  have hol0 := hout.lt
  clear hN hS hW1 hO hout d0 d1 d2 d3 df f0 f1 f2 f3
  go_wp2
  rw [← unhide HW1]
  go_loopw [8] (fun i wr => ∃ k : Nat, k ≤ N ∧ i = .int .i64 k ∧ Row wr w3.heap.size 28 [.slice b1 S dap1, .slice b2 N dap2, .slice b3 D.vols.length dap3, .int .i64 (lessF D.fuel)] ∧ Row wr (w.heap.size + 1 + 1) 28 [.slice none 0 0, .slice none 0 0, .slice none 0 0, .int .i64 0] ∧ ODev wr w1.heap.size (.slice b1 S dap1) (.slice b2 N dap2) (.slice b3 D.vols.length dap3) ⟨settled (fun _ => true) D.safe D.cache k, D.cache, D.vols, D.fuel⟩ ∧ Below w.heap.size w wr) (fun i _ => N - (intOf i).toNat)
  case atStart => exact ⟨0, Nat.zero_le _, rfl, unhide HOUT, unhide HR1, unhide HO1, unhide HB01⟩
  case round =>
    obtain ⟨k, hk, rfl, hout, hres, hO, hbr⟩ := hrel
    have o1 := hout.cell 1 _ rfl
    have hol := hout.lt
    by_cases hlt : k < N
    · have hx : k < D.cache.length := by rw [unhide HN]; exact hlt
      have o0 := hout.cell 0 _ rfl
      obtain ⟨⟨p0, p1⟩, hdl⟩ := (unhide HDV).2.2.2.2.2.1 k hx
      rw [unhide HS] at p1
      obtain ⟨gc, curc, rfl, _, hrc, hpos, u, hu, hou⟩ := hO.wri (x := k) hx
      simp only at hpos hu hou
      obtain ⟨P, hP⟩ : ∃ P : Nat, (D.cache.getD k ⟨0, []⟩).pos = (P : Int) := ⟨(D.cache.getD k ⟨0, []⟩).pos.toNat, by omega⟩
      rw [hP] at hpos p0 p1
      have hPS : P < S := by omega
      obtain ⟨gs, curs, rfl, hgB, hrs, ⟨u0, hu0, _⟩, hput⟩ := hO.sec (x := P) (by simp only; rw [settled_length, unhide HS]; exact hPS)
      have hpm := hput u _ hou
      simp only at hpm
      rw [show (settled (fun _ => true) D.safe D.cache k).set P (D.cache.getD k ⟨0, []⟩).data = settled (fun _ => true) D.safe D.cache (k + 1) by rw [settled_yes rfl, hP]; rfl] at hpm
      obtain ⟨au, cu, rfl, lu, mu⟩ := own_form hou
      rw [hdl] at hu lu hpm
      have hfz := hrs.unfrozen P
      have hgl := hrs.lt
      have hcl := hrc.lt
      have hne1 : w3.heap.size ≠ gs := (hrs.apart hout (by decide)).symm
      have hne2 : w.heap.size + 1 + 1 ≠ gs := (hrs.apart hres (by decide)).symm
      have hne3 : gc ≠ gs := (hrs.apart hrc (by decide)).symm
      have HPM := hide hpm
      have HOUT' := hide hout
      have HRES' := hide hres
      have hk0 : (0 : Int) ≤ (k : Int) := Int.natCast_nonneg _
      have hk1 : (k : Int) < (N : Int) := by omega
      have hwg : w.heap.size ≤ gs := by omega
      clear hP hpm hput hrc hrs hou hout hres hO hdl
      go_wp2
      go_region_held3 (fun w' => w'.cell? ⟨w3.heap.size, 0, none⟩ = some (.slice (some ⟨gs, 0, none⟩) S dap1) ∧ w'.cell? ⟨w3.heap.size, 1, none⟩ = some (.slice (some ⟨gc, 0, none⟩) N dap2) ∧ w'.cell? ⟨gc, k * 2, none⟩ = some (.int .i64 (P : Int)) ∧ w'.cell? ⟨gc, k * 2 + 1, none⟩ = some (.slice au 64 cu)) (first | exact ⟨o0, o1, hpos, hu⟩ | (refine ⟨?_, ?_, ?_, ?_⟩ <;> (refine (World.cell?_setCell_other _ _ _ _ (by simp <;> omega)).trans ?_; assumption))) (fail)
      all_goals
        go_wp2
        go_roundw
        case rel =>
          have hgg := gb_drew (gb_set (gb_refl wr (some gs)) P (.slice au 64 cu))
          exact ⟨k + 1, by omega, by go_num, (unhide HOUT').kept hgg (by simpa using hne1), (unhide HRES').kept hgg (by simpa using hne2), (unhide HPM).up (Below.refl _ _).drew, (bl_set hbr (p := ⟨gs, P, none⟩) hwg _).drew⟩
        case measure => simp [intOf]; omega
    · obtain rfl : k = N := by omega
      have e0 := hout.cell 0 _ rfl
      have e2 := hout.cell 2 _ rfl
      have e3 := hout.cell 3 _ rfl
      have ef := hout.unfrozen
      have d0 := hres.cell 0 _ rfl
      have d1 := hres.cell 1 _ rfl
      have d2 := hres.cell 2 _ rfl
      have d3 := hres.cell 3 _ rfl
      have df := hres.unfrozen
      have hrl := hres.lt
      have hrne : w.heap.size + 1 + 1 ≠ w3.heap.size := by have := (unhide HR).lt; omega
      have hO' := hO.nocache
      simp only at hO'
      have HO' := hide hO'
      have HRES' := hide hres
      have HOUT' := hide hout
      clear hO hO' hres hout
      go_wp2
      refine bodyPost_ret (v := .tuple #[.agg #[.slice b1 S dap1, .slice none 0 0, .slice b3 D.vols.length dap3, .int .i64 (lessF D.fuel)], .int .i64 0]) (by simp [results, Try.results87, go_sem, *]) rfl ⟨_, _, _, ret_dev (by rw [← unhide HE, fluD_ok]) (unhide HE), ?_, ?_⟩
      · rw [← unhide HE, fluD_ok, unhide HN]
        have hres6 := (unhide HRES').kept (gb_set (gb_refl wr (some w3.heap.size)) 1 (.slice none 0 0)) (by simpa using hrne)
        have k1 := ((unhide HO').fuel (lessF D.fuel)).kept (unhide HOUT') (by decide) (by decide) (by decide) (by decide) (gb_set (gb_refl wr (some w3.heap.size)) 1 (.slice none 0 0))
        exact (k1.kept hres6 (by decide) (by decide) (by decide) (by decide) (gb_set (gb_set (gb_set (gb_set (gb_refl _ _) _ _) _ _) _ _) _ _)).base hsz2
      · refine bl_set (bl_set (bl_set (bl_set (bl_set hbr ?_ _) ?_ _) ?_ _) ?_ _) ?_ _ <;> simp <;> omega
end Go.Proofs.Ytjahaccplchmnaa
