/- icehouseref.MarkedOf. -/
import Derived.Test.YtkcakecmhoamaaaVol
import Derived.Deep.DrawnRows
import Derived.Deep.RegionHeld3
namespace Go.Proofs.Ytkcakecmhoamaaa
open Go.RowKit
set_option maxRecDepth 100000
set_option linter.unusedVariables false
set_option linter.unusedSimpArgs false
attribute [local go_sem ↓] Go.wp_at_zero Go.wp_at_succ

set_option maxHeartbeats 2000000 in
theorem markedOf_any (r a h vm nv : Int) (s c v : Value) (D : Dv) (w : World) (hD : Dev w s c v D) :
    Calls Try.prog 40 #[.agg #[.int .i64 r, .int .i64 a, .int .i64 h, .int .i64 vm, .int .i64 nv], .agg #[s, c, v, .int .i64 D.fuel]] w fun e w' =>
      ∃ s' c' v', e = .returned (.tuple #[.agg #[s', c', v', .int .i64 (marD D (marE D (chkE r a h vm nv D))).fuel], .int .i64 (marE D (chkE r a h vm nv D))]) ∧ ODev w' w.heap.size s' c' v' (marD D (marE D (chkE r a h vm nv D))) ∧ Below w.heap.size w w' := by
  have HD := hide hD
  obtain ⟨⟨a1, cap1, rfl, l1, m1, hs⟩, ⟨a2, cap2, rfl, l2, m2, hc⟩, ⟨a3, cap3, rfl, l3, m3, hv⟩⟩ := hD
  clear hs hc hv
  unfold maxLen at m1 m2 m3
  go_enter Try.func40, Try.ntmps40
  go_wp2_with fail
  refine (devFault_any r a h vm nv _ _ _ D _ ((unhide HD).up (bl3 _ _ _ _))).mono ?_
  rintro e w1 ⟨rfl, hb1⟩
  have hb0 : Below w.heap.size w w1 := bl_trans (bl3 _ _ _ _) hb1
  have f0 := box3b hb1 0 rfl
  have f1 := box3b hb1 1 rfl
  have f2 := box3b hb1 2 rfl
  have f3 := box3b hb1 3 rfl
  have hR := box3r (cs := [.slice none 0 0, .slice none 0 0, .slice none 0 0, .int .i64 0]) hb1
  have d0 := hR.cell 0 _ rfl
  have d1 := hR.cell 1 _ rfl
  have d2 := hR.cell 2 _ rfl
  have d3 := hR.cell 3 _ rfl
  have df := hR.unfrozen
  have HR := hide hR
  clear hb1 hR
  obtain ⟨E, hE⟩ : ∃ E, chkE r a h vm nv D = E := ⟨_, rfl⟩
  rw [hE]
  by_cases hE0 : E = 0
  case neg =>
    have t1 : (E != 0) = true := by simpa using hE0
    have t2 : (E == 0) = false := by simpa using hE0
    have HE : Hid (E = marE D (chkE r a h vm nv D)) := by rw [hE]; exact (marE_bad hE0).symm
    have HE0 := hide hE0
    clear hE hE0
    go_wp2
    refine bodyPost_ret (v := .tuple #[.agg #[.slice none 0 0, .slice none 0 0, .slice none 0 0, .int .i64 0], .int .i64 E]) (by simp [results, Try.results40, go_sem, *]) rfl ⟨_, _, _, ret_dev (by rw [← unhide HE, marD_bad (unhide HE0)]; rfl) (unhide HE), ?_, ?_⟩
    · rw [← unhide HE, marD_bad (unhide HE0)]; exact ODev.empty _ _ _
    · repeat (first | exact hb0 | refine bl_set ?_ (by simp <;> omega) _)
  subst hE0
  obtain ⟨hg, hd⟩ := chk_of hE
  have HFIT := hide (fits_of hg hd)
  have HFU := hide (fuel_of hd)
  have HCH := hide hE
  clear hE hd hg
  by_cases hF0 : D.fuel = 0
  · have HE : Hid (10 = marE D (chkE r a h vm nv D)) := by rw [unhide HCH]; exact (marE_down hF0).symm
    have HF0 := hide hF0
    clear hF0
    go_wp2_with fail
    refine (spent_zero _ _ _ D _ (unhide HF0)).mono ?_
    rintro e w3 ⟨rfl, hb3⟩
    replace hb0 := bl_trans hb0 hb3
    have hR := (unhide HR).up hb3
    clear d0 d1 d2 d3 df
    have d0 := hR.cell 0 _ rfl
    have d1 := hR.cell 1 _ rfl
    have d2 := hR.cell 2 _ rfl
    have d3 := hR.cell 3 _ rfl
    have df := hR.unfrozen
    have hrl := hR.lt
    clear hR hb3 f0 f1 f2 f3
    go_wp2
    refine bodyPost_ret (v := .tuple #[.agg #[.slice none 0 0, .slice none 0 0, .slice none 0 0, .int .i64 0], .int .i64 10]) (by simp [results, Try.results40, go_sem, *]) rfl ⟨_, _, _, ret_dev (by rw [← unhide HE, marD_bad (by decide)]; rfl) (unhide HE), ?_, ?_⟩
    · rw [← unhide HE, marD_bad (by decide)]; exact ODev.empty _ _ _
    · repeat (first | exact hb0 | refine bl_set ?_ (by simp <;> omega) _ | refine bl_alloc ?_ _)
  have HE : Hid (0 = marE D (chkE r a h vm nv D)) := by rw [unhide HCH]; exact (marE_ok hF0).symm
  have HF0 := hide hF0
  clear hF0
  go_wp2_with fail
  refine (spent_some _ _ _ D _ ((unhide HD).up hb0) (unhide HFIT) (unhide HF0) (unhide HFU).1 (unhide HFU).2).mono ?_
  rintro e w3 ⟨s', c', v', rfl, hO, hb3⟩
  have hsz2 := hb0.size
  have hsz3 := hb3.size
  replace hb0 := bl_trans hb0 hb3
  obtain ⟨b1, dap1, b2, dap2, b3, dap3, rfl, rfl, rfl, _, _, _, _, hcap, hcm⟩ := hO.form
  unfold maxLen at hcm
  obtain ⟨N, hN⟩ : ∃ N, D.vols.length = N := ⟨_, rfl⟩
  rw [hN] at hcap hO ⊢
  have HN := hide hN
  have HR3 := hide ((unhide HR).up hb3)
  obtain ⟨W1, hW1⟩ : ∃ W1, W1 = w3.alloc (.cells #[.slice b1 D.safe.length dap1, .slice b2 D.cache.length dap2, .slice b3 N dap3, .int .i64 (lessF D.fuel)] 31) := ⟨_, rfl⟩
  have h31 : Below w3.heap.size w3 W1 := by rw [hW1]; exact bl1 _ _
  have hout : Row W1 w3.heap.size 31 [.slice b1 D.safe.length dap1, .slice b2 D.cache.length dap2, .slice b3 N dap3, .int .i64 (lessF D.fuel)] := by rw [hW1]; exact Row.new _ _ _
  have HW1 := hide hW1
  have HO1 := hide (hO.up h31)
  have HOUT := hide hout
  have HR1 := hide ((unhide HR3).up h31)
  have HB01 := hide (bl_trans hb0 h31)
  have hol0 := hout.lt
  clear hN hW1 hO hout d0 d1 d2 d3 df f0 f1 f2 f3
  go_wp2
  rw [← unhide HW1]
  go_loopw [8] (fun i wr => ∃ k : Nat, k ≤ N ∧ i = .int .i64 k ∧ Row wr w3.heap.size 31 [.slice b1 D.safe.length dap1, .slice b2 D.cache.length dap2, .slice b3 N dap3, .int .i64 (lessF D.fuel)] ∧ Row wr (w.heap.size + 1 + 1) 31 [.slice none 0 0, .slice none 0 0, .slice none 0 0, .int .i64 0] ∧ ODev wr w1.heap.size (.slice b1 D.safe.length dap1) (.slice b2 D.cache.length dap2) (.slice b3 N dap3) ⟨D.safe, D.cache, firstK markV k D.vols, D.fuel⟩ ∧ Below w.heap.size w wr) (fun i _ => N - (intOf i).toNat)
  case atStart => exact ⟨0, Nat.zero_le _, rfl, unhide HOUT, unhide HR1, by rw [firstK_zero]; exact unhide HO1, unhide HB01⟩
  case round =>
    obtain ⟨k, hk, rfl, hout, hres, hO, hbr⟩ := hrel
    have o2 := hout.cell 2 _ rfl
    have hol := hout.lt
    by_cases hlt : k < N
    · have hx : k < D.vols.length := by rw [unhide HN]; exact hlt
      obtain ⟨g, cur, rfl, hgB, hrow, ⟨u, hu, hou⟩, hsy, hgo, _, hput⟩ := hO.volD (x := k) (by rw [firstK_length]; exact hx)
      rw [firstK_at _ _ _ hx] at hou hsy hgo hput
      obtain ⟨L, hL⟩ : ∃ L, (D.vols.getD k vo0).data.length = L := ⟨_, rfl⟩
      obtain ⟨au, cu, rfl, lu, mu⟩ := own_form hou
      rw [hL] at hu lu
      unfold maxLen at mu
      have hpm := hput L
      rw [show (⟨(D.vols.getD k vo0).data, (L : Int), (D.vols.getD k vo0).gone⟩ : Vo) = markV (D.vols.getD k vo0) by rw [← hL]; rfl, firstK_set _ _ _ hx] at hpm
      obtain ⟨sy, hsy'⟩ : ∃ sy, (D.vols.getD k vo0).synced = sy := ⟨_, rfl⟩
      rw [hsy'] at hsy
      have hfz := hrow.unfrozen (k * 3 + 1)
      have hgl := hrow.lt
      have hne1 : w3.heap.size ≠ g := (hrow.apart hout (by decide)).symm
      have hne2 : w.heap.size + 1 + 1 ≠ g := (hrow.apart hres (by decide)).symm
      have HPM := hide hpm
      have HOUT' := hide hout
      have HRES' := hide hres
      have hk0 : (0 : Int) ≤ (k : Int) := Int.natCast_nonneg _
      have hk1 : (k : Int) < (N : Int) := by omega
      have hwg : w.heap.size ≤ g := by omega
      clear hL hsy' hpm hput hgo hrow hou hout hres hO
      go_wp2
      go_region_held3 (fun w' => w'.cell? ⟨w3.heap.size, 2, none⟩ = some (.slice (some ⟨g, 0, none⟩) N dap3) ∧ w'.cell? ⟨g, k * 3, none⟩ = some (.slice au L cu)) (first | exact ⟨o2, hu⟩ | exact ⟨(World.cell?_setCell_other _ _ _ _ (by simp <;> omega)).trans o2, (World.cell?_setCell_other _ _ _ _ (by simp <;> omega)).trans hu⟩) (fail)
      all_goals
        go_wp2
        go_roundw
        case rel =>
          have hgg := gb_drew (gb_set (gb_refl wr (some g)) (k * 3 + 1) (.int .i64 (L : Int)))
          exact ⟨k + 1, by omega, by go_num, (unhide HOUT').kept hgg (by simpa using hne1), (unhide HRES').kept hgg (by simpa using hne2), (unhide HPM).up (Below.refl _ _).drew, (bl_set hbr (p := ⟨g, k * 3 + 1, none⟩) hwg _).drew⟩
        case measure => simp [intOf]; omega
    · obtain rfl : k = N := by omega
      have e0 := hout.cell 0 _ rfl
      have e1 := hout.cell 1 _ rfl
      have e3 := hout.cell 3 _ rfl
      have d0 := hres.cell 0 _ rfl
      have d1 := hres.cell 1 _ rfl
      have d2 := hres.cell 2 _ rfl
      have d3 := hres.cell 3 _ rfl
      have df := hres.unfrozen
      have hrl := hres.lt
      have hO' : ODev wr w1.heap.size (.slice b1 D.safe.length dap1) (.slice b2 D.cache.length dap2) (.slice b3 k dap3) ⟨D.safe, D.cache, D.vols.map markV, D.fuel⟩ := by
        rw [← firstK_all, unhide HN]; exact hO
      have HO' := hide hO'
      have HRES' := hide hres
      clear hO hO' hres hout
      go_wp2
      refine bodyPost_ret (v := .tuple #[.agg #[.slice b1 D.safe.length dap1, .slice b2 D.cache.length dap2, .slice b3 k dap3, .int .i64 (lessF D.fuel)], .int .i64 0]) (by simp [results, Try.results40, go_sem, *]) rfl ⟨_, _, _, ret_dev (by rw [← unhide HE, marD_ok]) (unhide HE), ?_, ?_⟩
      · rw [← unhide HE, marD_ok]
        exact (((unhide HO').fuel (lessF D.fuel)).kept (unhide HRES') (by decide) (by decide) (by decide) (by decide) (gb_set (gb_set (gb_set (gb_set (gb_refl _ _) _ _) _ _) _ _) _ _)).base hsz2
      · refine bl_set (bl_set (bl_set (bl_set hbr ?_ _) ?_ _) ?_ _) ?_ _ <;> simp <;> omega
end Go.Proofs.Ytkcakecmhoamaaa
