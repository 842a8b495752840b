/- dev.Mark. -/
import Derived.Test.YtkcakecmhoamaaaCut
import Derived.Test.YtkcakecmhoamaaaPut
namespace Go.Proofs.Ytkcakecmhoamaaa
open Go.RowKit
set_option maxRecDepth 100000
set_option linter.unusedVariables false
set_option linter.unusedSimpArgs false

theorem cutV_mark (vs : List Vo) : vs.map (cutV fun y => y.data.length) = vs.map markV := by
  apply List.map_congr_left
  intro y _
  simp [cutV, markV, pad_same]
theorem Fits.volD {D : Dv} (h : Fits D) {i : Nat} (hi : i < D.vols.length) : (D.vols.getD i vo0).data.length ≤ 140737488355328 := h.vol i hi
theorem own_far {w : World} {B : Nat} {s c v : Value} {D : Dv} (h : ODev w B s c v D) {g : Nat} {t : TypeId} {cs : List Value} (hr : Row w g t cs) (ht : 73 ≠ t) : some g ≠ v.ownBlock := by
  obtain ⟨us, h1, _⟩ := h.vols
  exact Ne.symm (own_apart h1 hr ht)
theorem own_from {w : World} {B : Nat} {s c v : Value} {D : Dv} (h : ODev w B s c v D) : ∀ j, v.ownBlock = some j → B ≤ j := by
  obtain ⟨us, h1, _⟩ := h.vols
  exact fun j hj => (World.ownsRow.lt h1 j hj).1

set_option maxHeartbeats 2000000 in
theorem mark_any (r a h vm nv : Int) (s c v : Value) (D : Dv) (w : World) (hD : Dev w s c v D) :
    Calls Try.prog 39 #[.agg #[.int .i64 r, .int .i64 a, .int .i64 h, .int .i64 vm, .int .i64 nv], .agg #[s, c, v, .int .i64 D.fuel]] w fun e w' =>
      ∃ s' c' v', e = .returned (.tuple #[.agg #[s', c', v', .int .i64 (marD D (marE D (chkE r a h vm nv D))).fuel], .int .i64 (marE D (chkE r a h vm nv D))]) ∧ ODev w' w.heap.size s' c' v' (marD D (marE D (chkE r a h vm nv D))) ∧ Below w.heap.size w w' := by
  have HD := hide hD
  obtain ⟨⟨a1, cap1, rfl, l1, m1, hs⟩, ⟨a2, cap2, rfl, l2, m2, hc⟩, ⟨a3, cap3, rfl, l3, m3, hv⟩⟩ := hD
  clear hs hc hv
  unfold maxLen at m1 m2 m3
  go_enter Try.func39, Try.ntmps39
  go_wp2_with fail
  refine (check_any r a h vm nv _ _ _ D _ ((unhide HD).up (bl3 _ _ _ _))).mono ?_
  rintro e w1 ⟨rfl, hb1⟩
  have hb0 : Below w.heap.size w w1 := bl_trans (bl3 _ _ _ _) hb1
  have f0 := box3b hb1 0 rfl
  have f1 := box3b hb1 1 rfl
  have f2 := box3b hb1 2 rfl
  have f3 := box3b hb1 3 rfl
  have hR := box3r (cs := [.slice none 0 0, .slice none 0 0, .slice none 0 0, .int .i64 0]) hb1
  have d0 := hR.cell 0 _ rfl
  have d1 := hR.cell 1 _ rfl
  have d2 := hR.cell 2 _ rfl
  have d3 := hR.cell 3 _ rfl
  have df := hR.unfrozen
  have HR := hide hR
  clear hb1 hR
  obtain ⟨E, hE⟩ : ∃ E, chkE r a h vm nv D = E := ⟨_, rfl⟩
  rw [hE]
  by_cases hE0 : E = 0
  case neg =>
    have t1 : (E != 0) = true := by simpa using hE0
    have t2 : (E == 0) = false := by simpa using hE0
    have HE : Hid (E = marE D (chkE r a h vm nv D)) := by rw [hE]; exact (marE_bad hE0).symm
    have HE0 := hide hE0
    clear hE hE0
    go_wp2
    refine bodyPost_ret (v := .tuple #[.agg #[.slice none 0 0, .slice none 0 0, .slice none 0 0, .int .i64 0], .int .i64 E]) (by simp [results, Try.results39, go_sem, *]) rfl ⟨_, _, _, ret_dev (by rw [← unhide HE, marD_bad (unhide HE0)]; rfl) (unhide HE), ?_, ?_⟩
    · rw [← unhide HE, marD_bad (unhide HE0)]; exact ODev.empty _ _ _
    · repeat (first | exact hb0 | refine bl_set ?_ (by simp <;> omega) _)
  subst hE0
  obtain ⟨hg, hd⟩ := chk_of hE
  have HFIT := hide (fits_of hg hd)
  have HFU := hide (fuel_of hd)
  have HCH := hide hE
  clear hE hd hg
  by_cases hF0 : D.fuel = 0
  · have HE : Hid (10 = marE D (chkE r a h vm nv D)) := by rw [unhide HCH]; exact (marE_down hF0).symm
    have HF0 := hide hF0
    clear hF0
    go_wp2_with fail
    refine (oneThing_zero _ _ _ D _ (unhide HF0)).mono ?_
    rintro e w3 ⟨rfl, hb3⟩
    replace hb0 := bl_trans hb0 hb3
    have hR := (unhide HR).up hb3
    clear d0 d1 d2 d3 df
    have d0 := hR.cell 0 _ rfl
    have d1 := hR.cell 1 _ rfl
    have d2 := hR.cell 2 _ rfl
    have d3 := hR.cell 3 _ rfl
    have df := hR.unfrozen
    have hrl := hR.lt
    clear hR hb3 f0 f1 f2 f3
    go_wp2
    refine bodyPost_ret (v := .tuple #[.agg #[.slice none 0 0, .slice none 0 0, .slice none 0 0, .int .i64 0], .int .i64 10]) (by simp [results, Try.results39, go_sem, *]) rfl ⟨_, _, _, ret_dev (by rw [← unhide HE, marD_bad (by decide)]; rfl) (unhide HE), ?_, ?_⟩
    · rw [← unhide HE, marD_bad (by decide)]; exact ODev.empty _ _ _
    · repeat (first | exact hb0 | refine bl_set ?_ (by simp <;> omega) _ | refine bl_alloc ?_ _)
  have HE : Hid (0 = marE D (chkE r a h vm nv D)) := by rw [unhide HCH]; exact (marE_ok hF0).symm
  have HF0 := hide hF0
  clear hF0
  go_wp2_with fail
  refine (oneThing_o _ _ _ D _ ((unhide HD).up hb0) (unhide HFIT) (unhide HF0) (unhide HFU).1 (unhide HFU).2).mono ?_
  rintro e w3 ⟨s', c', v', rfl, hO, hb3⟩
  have hsz2 := hb0.size
  have hsz3 := hb3.size
  replace hb0 := bl_trans hb0 hb3
  obtain ⟨b1, dap1, b2, dap2, b3, dap3, rfl, rfl, rfl, _, _, _, _, hcap, hcm⟩ := hO.form
  have HR3 := hide ((unhide HR).up hb3)
  have HO3 := hide hO
  have hol := hO.form
  clear hol
  clear d0 d1 d2 d3 df f0 f1 f2 f3 hO
  go_wp2_with fail
  refine (cutM_any () _ _ _ D (lessF D.fuel) w1.heap.size (fun y => y.data.length) _ ((unhide HO3).up (bl1 _ _)) (by simp; omega) (fun i hi => (unhide HFIT).volD hi) (fun k hk x cap wr _ => mark1_any x _ cap _ _ wr (Nat.le_trans ((unhide HFIT).volD hk) (by decide)))).mono ?_
  rintro e w5 ⟨rfl, hO5, hg5⟩
  rw [cutV_mark] at hO5
  have hr5 := ((unhide HR3).up (bl1 _ _)).kept hg5 (own_far (unhide HO3) (unhide HR3) (by decide))
  have HB5 := hide (bl_own (bl_trans hb0 (bl1 _ _)) hg5 fun j hj => Nat.le_trans hsz2 (own_from (unhide HO3) j hj))
  have d0 := hr5.cell 0 _ rfl
  have d1 := hr5.cell 1 _ rfl
  have d2 := hr5.cell 2 _ rfl
  have d3 := hr5.cell 3 _ rfl
  have df := hr5.unfrozen
  have hrl := hr5.lt
  have HO5 := hide hO5
  have HR5 := hide hr5
  clear hO5 hr5 hg5
  go_wp2
  refine bodyPost_ret (v := .tuple #[.agg #[.slice b1 D.safe.length dap1, .slice b2 D.cache.length dap2, .slice b3 D.vols.length dap3, .int .i64 (lessF D.fuel)], .int .i64 0]) (by simp [results, Try.results39, go_sem, *]) rfl ⟨_, _, _, ret_dev (by rw [← unhide HE, marD_ok]) (unhide HE), ?_, ?_⟩
  · rw [← unhide HE, marD_ok]
    exact (((unhide HO5).fuel (lessF D.fuel)).kept (unhide HR5) (by decide) (by decide) (by decide) (by decide) (gb_set (gb_set (gb_set (gb_set (gb_refl _ _) _ _) _ _) _ _) _ _)).base hsz2
  · refine bl_set (bl_set (bl_set (bl_set (unhide HB5) ?_ _) ?_ _) ?_ _) ?_ _ <;> simp <;> omega
end Go.Proofs.Ytkcakecmhoamaaa
