/- dev.Take and the document's TookOf. -/
import Derived.Test.YtkcakecmhoamaaaOwn
import Derived.Test.YtkcakecmhoamaaaFet
namespace Go.Proofs.Ytkcakecmhoamaaa
open Go.RowKit
set_option linter.unusedVariables false
set_option linter.unusedSimpArgs false

/-- What taking a volume away answers. -/
def takE (D : Dv) (x e : Int) : Int := if e = 0 then (if isVol D x then (if D.fuel = 0 then 10 else 0) else 6) else e
def takD (D : Dv) (x e : Int) : Dv := if e = 0 then ⟨D.safe, D.cache, D.vols.set x.toNat ⟨[], 0, true⟩, lessF D.fuel⟩ else nilD
theorem takE_bad {D : Dv} {x e : Int} (h : e ≠ 0) : takE D x e = e := by simp [takE, h]
theorem takE_no {D : Dv} {x : Int} (h : isVol D x = false) : takE D x 0 = 6 := by simp [takE, h]
theorem takE_down {D : Dv} {x : Int} (h : isVol D x = true) (hf : D.fuel = 0) : takE D x 0 = 10 := by simp [takE, h, hf]
theorem takE_ok {D : Dv} {x : Int} (h : isVol D x = true) (hf : D.fuel ≠ 0) : takE D x 0 = 0 := by simp [takE, h, hf]
theorem takD_bad {D : Dv} {x e : Int} (h : e ≠ 0) : takD D x e = nilD := by simp [takD, h]
theorem takD_ok (D : Dv) (x : Int) : takD D x 0 = ⟨D.safe, D.cache, D.vols.set x.toNat ⟨[], 0, true⟩, lessF D.fuel⟩ := by simp [takD]
theorem isVol_t {D : Dv} {x : Int} (h : isVol D x = true) : ∃ k : Nat, x = k ∧ k < D.vols.length := by
  unfold isVol at h
  simp only [Bool.and_eq_true] at h
  have := inB_t h.1
  exact ⟨x.toNat, by omega, by omega⟩
theorem fuel_of {r a h vm nv : Int} {D : Dv} (hd : devB r a h vm nv D = true) : -1 ≤ D.fuel ∧ D.fuel ≤ 1048576 := by
  obtain ⟨x1, x2, x3, x4, x5, x6, x7⟩ := devB_all hd
  first | exact x4 | exact inB_t x4

theorem oneThing_o (s c v : Value) (D : Dv) (w : World) (hD : Dev w s c v D) (hfit : Fits D) (hF : D.fuel ≠ 0) (hlo : -1 ≤ D.fuel) (hhi : D.fuel ≤ 1048576) :
    Calls Try.prog 63 #[.agg #[s, c, v, .int .i64 D.fuel]] w fun e w' =>
      ∃ s' c' v', e = .returned (.tuple #[.agg #[s', c', v', .int .i64 (lessF D.fuel)], .int .i64 0]) ∧ ODev w' w.heap.size s' c' v' D ∧ Below w.heap.size w w' :=
  (oneThing_some s c v D w hD hfit hF hlo hhi).mono fun e w' ⟨s', c', v', M, h1, h2, h3⟩ => ⟨s', c', v', h1, h2.odev hfit, h3⟩

set_option maxHeartbeats 1000000 in
theorem take_any (r a h vm nv : Int) (s c v : Value) (D : Dv) (x : Int) (w : World) (hD : Dev w s c v D) :
    Calls Try.prog 43 #[.agg #[.int .i64 r, .int .i64 a, .int .i64 h, .int .i64 vm, .int .i64 nv], .agg #[s, c, v, .int .i64 D.fuel], .int .i64 x] w fun e w' =>
      ∃ s' c' v', e = .returned (.tuple #[.agg #[s', c', v', .int .i64 (takD D x (takE D x (chkE r a h vm nv D))).fuel], .int .i64 (takE D x (chkE r a h vm nv D))]) ∧ ODev w' w.heap.size s' c' v' (takD D x (takE D x (chkE r a h vm nv D))) ∧ Below w.heap.size w w' := by
  have HD := hide hD
  obtain ⟨⟨a1, cap1, rfl, l1, m1, hs⟩, ⟨a2, cap2, rfl, l2, m2, hc⟩, ⟨a3, cap3, rfl, l3, m3, hv⟩⟩ := hD
  clear hs hc hv
  go_enter Try.func43, Try.ntmps43
  go_wp2_with fail
  refine (check_any r a h vm nv _ _ _ D _ ((unhide HD).up (bl3 _ _ _ _))).mono ?_
  rintro e w1 ⟨rfl, hb1⟩
  have hb0 : Below w.heap.size w w1 := bl_trans (bl3 _ _ _ _) hb1
  have f0 := box3b hb1 0 rfl
  have f1 := box3b hb1 1 rfl
  have f2 := box3b hb1 2 rfl
  have f3 := box3b hb1 3 rfl
  have hR := box3r (cs := [.slice none 0 0, .slice none 0 0, .slice none 0 0, .int .i64 0]) hb1
  have d0 := hR.cell 0 _ rfl
  have d1 := hR.cell 1 _ rfl
  have d2 := hR.cell 2 _ rfl
  have d3 := hR.cell 3 _ rfl
  have df := hR.unfrozen
  have HR := hide hR
  clear hb1 hR
  obtain ⟨E, hE⟩ : ∃ E, chkE r a h vm nv D = E := ⟨_, rfl⟩
  rw [hE]
  by_cases hE0 : E = 0
  case neg =>
    have t1 : (E != 0) = true := by simpa using hE0
    have t2 : (E == 0) = false := by simpa using hE0
    have HE : Hid (E = takE D x (chkE r a h vm nv D)) := by rw [hE]; exact (takE_bad hE0).symm
    have HE0 := hide hE0
    clear hE hE0
    go_wp2
    refine bodyPost_ret (v := .tuple #[.agg #[.slice none 0 0, .slice none 0 0, .slice none 0 0, .int .i64 0], .int .i64 E]) (by simp [results, Try.results43, go_sem, *]) rfl ⟨_, _, _, ret_dev (by rw [← unhide HE, takD_bad (unhide HE0)]; rfl) (unhide HE), ?_, ?_⟩
    · rw [← unhide HE, takD_bad (unhide HE0)]; exact ODev.empty _ _ _
    · repeat (first | exact hb0 | refine bl_set ?_ (by simp <;> omega) _)
  subst hE0
  obtain ⟨hg, hd⟩ := chk_of hE
  have HFIT := hide (fits_of hg hd)
  have HFU := hide (fuel_of hd)
  have HCH := hide hE
  clear hE hd hg
  go_wp2_with fail
  refine (isVolume_any _ _ _ D x _ ((unhide HD).up hb0)).mono ?_
  rintro e w2 ⟨rfl, hb2⟩
  replace hb0 := bl_trans hb0 hb2
  replace f0 := cell_up hb2 f0
  replace f1 := cell_up hb2 f1
  replace f2 := cell_up hb2 f2
  replace f3 := cell_up hb2 f3
  have hR := (unhide HR).up hb2
  clear d0 d1 d2 d3 df
  have d0 := hR.cell 0 _ rfl
  have d1 := hR.cell 1 _ rfl
  have d2 := hR.cell 2 _ rfl
  have d3 := hR.cell 3 _ rfl
  have df := hR.unfrozen
  clear HR hb2
  have HR := hide hR
  clear hR
  cases hV : isVol D x
  case false =>
    have HE : Hid (6 = takE D x (chkE r a h vm nv D)) := by rw [unhide HCH]; exact (takE_no hV).symm
    clear hV
    go_wp2
    refine bodyPost_ret (v := .tuple #[.agg #[.slice none 0 0, .slice none 0 0, .slice none 0 0, .int .i64 0], .int .i64 6]) (by simp [results, Try.results43, go_sem, *]) rfl ⟨_, _, _, ret_dev (by rw [← unhide HE, takD_bad (by decide)]; rfl) (unhide HE), ?_, ?_⟩
    · rw [← unhide HE, takD_bad (by decide)]; exact ODev.empty _ _ _
    · repeat (first | exact hb0 | refine bl_set ?_ (by simp <;> omega) _)
  by_cases hF0 : D.fuel = 0
  · have HE : Hid (10 = takE D x (chkE r a h vm nv D)) := by rw [unhide HCH]; exact (takE_down hV hF0).symm
    have HF0 := hide hF0
    clear hV hF0
    go_wp2_with fail
    refine (oneThing_zero _ _ _ D _ (unhide HF0)).mono ?_
    rintro e w3 ⟨rfl, hb3⟩
    replace hb0 := bl_trans hb0 hb3
    have hR := (unhide HR).up hb3
    clear d0 d1 d2 d3 df
    have d0 := hR.cell 0 _ rfl
    have d1 := hR.cell 1 _ rfl
    have d2 := hR.cell 2 _ rfl
    have d3 := hR.cell 3 _ rfl
    have df := hR.unfrozen
    have hrl := hR.lt
    clear hR hb3 f0 f1 f2 f3
    go_wp2
    refine bodyPost_ret (v := .tuple #[.agg #[.slice none 0 0, .slice none 0 0, .slice none 0 0, .int .i64 0], .int .i64 10]) (by simp [results, Try.results43, go_sem, *]) rfl ⟨_, _, _, ret_dev (by rw [← unhide HE, takD_bad (by decide)]; rfl) (unhide HE), ?_, ?_⟩
    · rw [← unhide HE, takD_bad (by decide)]; exact ODev.empty _ _ _
    · repeat (first | exact hb0 | refine bl_set ?_ (by simp <;> omega) _ | refine bl_alloc ?_ _)
  have HE : Hid (0 = takE D x (chkE r a h vm nv D)) := by rw [unhide HCH]; exact (takE_ok hV hF0).symm
  obtain ⟨k, rfl, hk⟩ := isVol_t hV
  have HF0 := hide hF0
  clear hV hF0
  go_wp2_with fail
  refine (oneThing_o _ _ _ D _ ((unhide HD).up hb0) (unhide HFIT) (unhide HF0) (unhide HFU).1 (unhide HFU).2).mono ?_
  rintro e w3 ⟨s', c', v', rfl, hO, hb3⟩
  have hsz2 := hb0.size
  replace hb0 := bl_trans hb0 hb3
  obtain ⟨gv, cap, cur, rfl, hgv, hrow, hcap, hcm, ⟨u0, o0, _⟩, o1, o2, hput⟩ := hO.vol hk
  unfold maxLen at hcm
  have hod := hO.dev
  obtain ⟨⟨b1, dap1, rfl, _⟩, ⟨b2, dap2, rfl, _⟩, _⟩ := hod
  obtain ⟨N, hN⟩ : ∃ N, D.vols.length = N := ⟨_, rfl⟩
  rw [hN] at hk hcap
  have HN := hide hN
  have hR := (unhide HR).up hb3
  clear d0 d1 d2 d3 df
  have d0 := hR.cell 0 _ rfl
  have d1 := hR.cell 1 _ rfl
  have d2 := hR.cell 2 _ rfl
  have d3 := hR.cell 3 _ rfl
  have df := hR.unfrozen
  have hrl := hR.lt
  have hgl := hrow.lt
  have ef := hrow.unfrozen
  have hne := hrow.apart hR (by decide)
  have HPUT := hide (hput (.slice none 0 0) ⟨[], 0, true⟩ (Own.nil _ _))
  have HRW := hide hrow
  have HR3 := hide hR
  rw [hN]
  clear hrow hR hput hO hb3 hN f0 f1 f2 f3 HR
  go_wp2
  refine bodyPost_ret (v := .tuple #[.agg #[.slice b1 D.safe.length dap1, .slice b2 D.cache.length dap2, .slice (some ⟨gv, 0, none⟩) N cap, .int .i64 (lessF D.fuel)], .int .i64 0]) (by simp [results, Try.results43, go_sem, *]) rfl ⟨_, _, _, ret_dev (by rw [← unhide HE, takD_ok]) (unhide HE), ?_, ?_⟩
  · rw [← unhide HE, takD_ok, Int.toNat_natCast]
    have H := unhide HPUT
    rw [unhide HN] at H
    clear HPUT
    have hR4 := (unhide HR3).kept (gb_set (gb_set (gb_set (gb_refl w3 (some gv)) (k * 3) (.slice none 0 0)) (k * 3 + 1) (.int .i64 0)) (k * 3 + 2) (.bool true)) (by simp; omega)
    exact (ODev.up ((H.fuel (lessF D.fuel)).kept hR4 (by decide) (by decide) (by decide) (by decide) (gb_set (gb_set (gb_set (gb_set (gb_refl _ _) _ _) _ _) _ _) _ _)) (bl1 _ _)).base hsz2
  · refine bl_alloc (bl_set (bl_set (bl_set (bl_set (bl_set (bl_set (bl_set hb0 ?_ _) ?_ _) ?_ _) ?_ _) ?_ _) ?_ _) ?_ _) _ <;> simp <;> omega
set_option maxHeartbeats 1000000 in
theorem tookOf_any (r a h vm nv : Int) (s c v : Value) (D : Dv) (x : Int) (w : World) (hD : Dev w s c v D) :
    Calls Try.prog 44 #[.agg #[.int .i64 r, .int .i64 a, .int .i64 h, .int .i64 vm, .int .i64 nv], .agg #[s, c, v, .int .i64 D.fuel], .int .i64 x] w fun e w' =>
      ∃ s' c' v', e = .returned (.tuple #[.agg #[s', c', v', .int .i64 (takD D x (takE D x (chkE r a h vm nv D))).fuel], .int .i64 (takE D x (chkE r a h vm nv D))]) ∧ ODev w' w.heap.size s' c' v' (takD D x (takE D x (chkE r a h vm nv D))) ∧ Below w.heap.size w w' := by
  have HD := hide hD
  obtain ⟨⟨a1, cap1, rfl, l1, m1, hs⟩, ⟨a2, cap2, rfl, l2, m2, hc⟩, ⟨a3, cap3, rfl, l3, m3, hv⟩⟩ := hD
  clear hs hc hv
  go_enter Try.func44, Try.ntmps44
  go_wp2_with fail
  refine (devFault_any r a h vm nv _ _ _ D _ ((unhide HD).up (bl3 _ _ _ _))).mono ?_
  rintro e w1 ⟨rfl, hb1⟩
  have hb0 : Below w.heap.size w w1 := bl_trans (bl3 _ _ _ _) hb1
  have f0 := box3b hb1 0 rfl
  have f1 := box3b hb1 1 rfl
  have f2 := box3b hb1 2 rfl
  have f3 := box3b hb1 3 rfl
  have hR := box3r (cs := [.slice none 0 0, .slice none 0 0, .slice none 0 0, .int .i64 0]) hb1
  have d0 := hR.cell 0 _ rfl
  have d1 := hR.cell 1 _ rfl
  have d2 := hR.cell 2 _ rfl
  have d3 := hR.cell 3 _ rfl
  have df := hR.unfrozen
  have HR := hide hR
  clear hb1 hR
  obtain ⟨E, hE⟩ : ∃ E, chkE r a h vm nv D = E := ⟨_, rfl⟩
  rw [hE]
  by_cases hE0 : E = 0
  case neg =>
    have t1 : (E != 0) = true := by simpa using hE0
    have t2 : (E == 0) = false := by simpa using hE0
    have HE : Hid (E = takE D x (chkE r a h vm nv D)) := by rw [hE]; exact (takE_bad hE0).symm
    have HE0 := hide hE0
    clear hE hE0
    go_wp2
    refine bodyPost_ret (v := .tuple #[.agg #[.slice none 0 0, .slice none 0 0, .slice none 0 0, .int .i64 0], .int .i64 E]) (by simp [results, Try.results44, go_sem, *]) rfl ⟨_, _, _, ret_dev (by rw [← unhide HE, takD_bad (unhide HE0)]; rfl) (unhide HE), ?_, ?_⟩
    · rw [← unhide HE, takD_bad (unhide HE0)]; exact ODev.empty _ _ _
    · repeat (first | exact hb0 | refine bl_set ?_ (by simp <;> omega) _)
  subst hE0
  obtain ⟨hg, hd⟩ := chk_of hE
  have HFIT := hide (fits_of hg hd)
  have HFU := hide (fuel_of hd)
  have HCH := hide hE
  clear hE hd hg
  go_wp2_with fail
  refine (volumeMay_any _ _ _ D x _ ((unhide HD).up hb0)).mono ?_
  rintro e w2 ⟨rfl, hb2⟩
  replace hb0 := bl_trans hb0 hb2
  replace f0 := cell_up hb2 f0
  replace f1 := cell_up hb2 f1
  replace f2 := cell_up hb2 f2
  replace f3 := cell_up hb2 f3
  have hR := (unhide HR).up hb2
  clear d0 d1 d2 d3 df
  have d0 := hR.cell 0 _ rfl
  have d1 := hR.cell 1 _ rfl
  have d2 := hR.cell 2 _ rfl
  have d3 := hR.cell 3 _ rfl
  have df := hR.unfrozen
  clear HR hb2
  have HR := hide hR
  clear hR
  cases hV : isVol D x
  case false =>
    have HE : Hid (6 = takE D x (chkE r a h vm nv D)) := by rw [unhide HCH]; exact (takE_no hV).symm
    clear hV
    go_wp2
    refine bodyPost_ret (v := .tuple #[.agg #[.slice none 0 0, .slice none 0 0, .slice none 0 0, .int .i64 0], .int .i64 6]) (by simp [results, Try.results44, go_sem, *]) rfl ⟨_, _, _, ret_dev (by rw [← unhide HE, takD_bad (by decide)]; rfl) (unhide HE), ?_, ?_⟩
    · rw [← unhide HE, takD_bad (by decide)]; exact ODev.empty _ _ _
    · repeat (first | exact hb0 | refine bl_set ?_ (by simp <;> omega) _)
  by_cases hF0 : D.fuel = 0
  · have HE : Hid (10 = takE D x (chkE r a h vm nv D)) := by rw [unhide HCH]; exact (takE_down hV hF0).symm
    have HF0 := hide hF0
    clear hV hF0
    go_wp2_with fail
    refine (spent_zero _ _ _ D _ (unhide HF0)).mono ?_
    rintro e w3 ⟨rfl, hb3⟩
    replace hb0 := bl_trans hb0 hb3
    have hR := (unhide HR).up hb3
    clear d0 d1 d2 d3 df
    have d0 := hR.cell 0 _ rfl
    have d1 := hR.cell 1 _ rfl
    have d2 := hR.cell 2 _ rfl
    have d3 := hR.cell 3 _ rfl
    have df := hR.unfrozen
    have hrl := hR.lt
    clear hR hb3 f0 f1 f2 f3
    go_wp2
    refine bodyPost_ret (v := .tuple #[.agg #[.slice none 0 0, .slice none 0 0, .slice none 0 0, .int .i64 0], .int .i64 10]) (by simp [results, Try.results44, go_sem, *]) rfl ⟨_, _, _, ret_dev (by rw [← unhide HE, takD_bad (by decide)]; rfl) (unhide HE), ?_, ?_⟩
    · rw [← unhide HE, takD_bad (by decide)]; exact ODev.empty _ _ _
    · repeat (first | exact hb0 | refine bl_set ?_ (by simp <;> omega) _ | refine bl_alloc ?_ _)
  have HE : Hid (0 = takE D x (chkE r a h vm nv D)) := by rw [unhide HCH]; exact (takE_ok hV hF0).symm
  obtain ⟨k, rfl, hk⟩ := isVol_t hV
  have HF0 := hide hF0
  clear hV hF0
  go_wp2_with fail
  refine (spent_some _ _ _ D _ ((unhide HD).up hb0) (unhide HFIT) (unhide HF0) (unhide HFU).1 (unhide HFU).2).mono ?_
  rintro e w3 ⟨s', c', v', rfl, hO, hb3⟩
  have hsz2 := hb0.size
  replace hb0 := bl_trans hb0 hb3
  obtain ⟨gv, cap, cur, rfl, hgv, hrow, hcap, hcm, ⟨u0, o0, _⟩, o1, o2, hput⟩ := hO.vol hk
  unfold maxLen at hcm
  have hod := hO.dev
  obtain ⟨⟨b1, dap1, rfl, _⟩, ⟨b2, dap2, rfl, _⟩, _⟩ := hod
  obtain ⟨N, hN⟩ : ∃ N, D.vols.length = N := ⟨_, rfl⟩
  rw [hN] at hk hcap
  have HN := hide hN
  have hR := (unhide HR).up hb3
  clear d0 d1 d2 d3 df
  have d0 := hR.cell 0 _ rfl
  have d1 := hR.cell 1 _ rfl
  have d2 := hR.cell 2 _ rfl
  have d3 := hR.cell 3 _ rfl
  have df := hR.unfrozen
  have hrl := hR.lt
  have hgl := hrow.lt
  have ef := hrow.unfrozen
  have hne := hrow.apart hR (by decide)
  have HPUT := hide (hput (.slice none 0 0) ⟨[], 0, true⟩ (Own.nil _ _))
  have HRW := hide hrow
  have HR3 := hide hR
  rw [hN]
  clear hrow hR hput hO hb3 hN f0 f1 f2 f3 HR
  go_wp2
  refine bodyPost_ret (v := .tuple #[.agg #[.slice b1 D.safe.length dap1, .slice b2 D.cache.length dap2, .slice (some ⟨gv, 0, none⟩) N cap, .int .i64 (lessF D.fuel)], .int .i64 0]) (by simp [results, Try.results44, go_sem, *]) rfl ⟨_, _, _, ret_dev (by rw [← unhide HE, takD_ok]) (unhide HE), ?_, ?_⟩
  · rw [← unhide HE, takD_ok, Int.toNat_natCast]
    have H := unhide HPUT
    rw [unhide HN] at H
    clear HPUT
    have hR4 := (unhide HR3).kept (gb_set (gb_set (gb_set (gb_refl w3 (some gv)) (k * 3) (.slice none 0 0)) (k * 3 + 1) (.int .i64 0)) (k * 3 + 2) (.bool true)) (by simp; omega)
    exact (ODev.up ((H.fuel (lessF D.fuel)).kept hR4 (by decide) (by decide) (by decide) (by decide) (gb_set (gb_set (gb_set (gb_set (gb_refl _ _) _ _) _ _) _ _) _ _)) (bl1 _ _)).base hsz2
  · refine bl_alloc (bl_set (bl_set (bl_set (bl_set (bl_set (bl_set (bl_set hb0 ?_ _) ?_ _) ?_ _) ?_ _) ?_ _) ?_ _) ?_ _) _ <;> simp <;> omega
end Go.Proofs.Ytkcakecmhoamaaa
