/- dev.Arm. -/
import Derived.Test.YtjaedigjmgfakaaArmR
import Derived.Test.YtjaedigjmgfakaaCpy
namespace Go.Proofs.Ytjaedigjmgfakaa
open Go.RowKit
set_option linter.unusedVariables false
set_option linter.unusedSimpArgs false

set_option maxHeartbeats 1000000 in
theorem arm_any (r a h vm nv : Int) (s c v : Value) (D : Dv) (f : Int) (w : World) (hD : Dev w s c v D) :
    Calls Try.prog 16 #[.agg #[.int .i64 r, .int .i64 a, .int .i64 h, .int .i64 vm, .int .i64 nv], .agg #[s, c, v, .int .i64 D.fuel], .int .i64 f] w fun e w' =>
      ∃ s' c' v', e = .returned (.tuple #[.agg #[s', c', v', .int .i64 (armD D f (armE f (chkE r a h vm nv D))).fuel], .int .i64 (armE f (chkE r a h vm nv D))]) ∧ ODev w' w.heap.size s' c' v' (armD D f (armE f (chkE r a h vm nv D))) ∧ Below w.heap.size w w' := by
  have HD := hide hD
  obtain ⟨⟨a1, cap1, rfl, l1, m1, hs⟩, ⟨a2, cap2, rfl, l2, m2, hc⟩, ⟨a3, cap3, rfl, l3, m3, hv⟩⟩ := hD
  clear hs hc hv
  go_enter Try.func16, Try.ntmps16
  go_wp2_with fail
  refine (check_any r a h vm nv _ _ _ D _ ((unhide HD).up (bl3 _ _ _ _))).mono ?_
  rintro e w1 ⟨rfl, hb1⟩
  have hb0 : Below w.heap.size w w1 := bl_trans (bl3 _ _ _ _) hb1
  have f0 := box3b hb1 0 rfl
  have f1 := box3b hb1 1 rfl
  have f2 := box3b hb1 2 rfl
  have f3 := box3b hb1 3 rfl
  have hR := box3r (cs := [.slice none 0 0, .slice none 0 0, .slice none 0 0, .int .i64 0]) hb1
  have d0 := hR.cell 0 _ rfl
  have d1 := hR.cell 1 _ rfl
  have d2 := hR.cell 2 _ rfl
  have d3 := hR.cell 3 _ rfl
  have df := hR.unfrozen
  have HR := hide hR
  clear hb1 hR
  obtain ⟨E, hE⟩ : ∃ E, chkE r a h vm nv D = E := ⟨_, rfl⟩
  rw [hE]
  by_cases hE0 : E = 0
  case neg =>
    have t1 : (E != 0) = true := by simpa using hE0
    have HE : Hid (E = armE f (chkE r a h vm nv D)) := by rw [hE]; exact (armE_bad hE0).symm
    have HE0 := hide hE0
    clear hE hE0
    go_wp2
    refine bodyPost_ret (v := .tuple #[.agg #[.slice none 0 0, .slice none 0 0, .slice none 0 0, .int .i64 0], .int .i64 E]) (by simp [results, Try.results16, go_sem, *]) rfl ⟨_, _, _, ret_dev (by rw [← unhide HE, armD_bad (unhide HE0)]; rfl) (unhide HE), ?_, ?_⟩
    · rw [← unhide HE, armD_bad (unhide HE0)]; exact ODev.empty _ _ _
    · repeat (first | exact hb0 | refine bl_set ?_ (by simp <;> omega) _)
  subst hE0
  obtain ⟨hg, hd⟩ := chk_of hE
  have HFIT := hide (fits_of hg hd)
  have HCH := hide hE
  clear hE hd hg
  cases hin : inB f 0 1048576
  case false =>
    have HE : Hid (2 = armE f (chkE r a h vm nv D)) := by rw [unhide HCH]; exact (armE_f hin).symm
    have hno := inB_f hin
    clear hin
    by_cases p0 : 0 ≤ f
    · have p1 : ¬ f ≤ 1048576 := by omega
      clear hno
      go_wp2
      refine bodyPost_ret (v := .tuple #[.agg #[.slice none 0 0, .slice none 0 0, .slice none 0 0, .int .i64 0], .int .i64 2]) (by simp [results, Try.results16, go_sem, *]) rfl ⟨_, _, _, ret_dev (by rw [← unhide HE, armD_bad (by decide)]; rfl) (unhide HE), ?_, ?_⟩
      · rw [← unhide HE, armD_bad (by decide)]; exact ODev.empty _ _ _
      · repeat (first | exact hb0 | refine bl_set ?_ (by simp <;> omega) _)
    · clear hno
      go_wp2
      refine bodyPost_ret (v := .tuple #[.agg #[.slice none 0 0, .slice none 0 0, .slice none 0 0, .int .i64 0], .int .i64 2]) (by simp [results, Try.results16, go_sem, *]) rfl ⟨_, _, _, ret_dev (by rw [← unhide HE, armD_bad (by decide)]; rfl) (unhide HE), ?_, ?_⟩
      · rw [← unhide HE, armD_bad (by decide)]; exact ODev.empty _ _ _
      · repeat (first | exact hb0 | refine bl_set ?_ (by simp <;> omega) _)
  have HE : Hid (0 = armE f (chkE r a h vm nv D)) := by rw [unhide HCH]; exact (armE_t hin).symm
  obtain ⟨p0, p1⟩ := inB_t hin
  clear hin
  go_wp2_with fail
  refine (copyDevices_any _ _ _ D D.fuel _ ((unhide HD).up hb0) (unhide HFIT)).mono ?_
  rintro e w2 ⟨s', c', v', M, rfl, hCD, hb2⟩
  have hO := hCD.odev (unhide HFIT)
  clear hCD
  replace hb0 := bl_trans hb0 hb2
  have hod := hO.dev
  obtain ⟨⟨b1, dap1, rfl, _⟩, ⟨b2, dap2, rfl, _⟩, ⟨b3, dap3, rfl, _⟩⟩ := hod
  have hR := (unhide HR).up hb2
  have d0 := hR.cell 0 _ rfl
  have d1 := hR.cell 1 _ rfl
  have d2 := hR.cell 2 _ rfl
  have d3 := hR.cell 3 _ rfl
  have df := hR.unfrozen
  have hrl := hR.lt
  have HR2 := hide hR
  have HO := hide hO
  have hsz := (unhide HR).lt
  have hs1 : w.heap.size ≤ w1.heap.size := by omega
  clear hR hO HR hb2 f0 f1 f2 f3
  go_wp2
  refine bodyPost_ret (v := .tuple #[.agg #[.slice b1 D.safe.length dap1, .slice b2 D.cache.length dap2, .slice b3 D.vols.length dap3, .int .i64 f], .int .i64 0]) (by simp [results, Try.results16, go_sem, *]) rfl ⟨_, _, _, ret_dev (by rw [← unhide HE, armD_ok]) (unhide HE), ?_, ?_⟩
  · rw [← unhide HE, armD_ok]
    refine (ODev.up (((unhide HO).fuel f).kept (unhide HR2) (by decide) (by decide) (by decide) (by decide) ?_) (bl1 _ _)).base hs1
    repeat (first | exact gb_refl _ _ | refine gb_set ?_ _ _)
  · refine bl_alloc ?_ _
    repeat (first | exact hb0 | refine bl_set ?_ (by simp <;> omega) _)
end Go.Proofs.Ytjaedigjmgfakaa
