/- dev.Flush. -/
import Derived.Test.YtjaedigjmgfakaaSet
import Derived.Test.YtjaedigjmgfakaaPut
namespace Go.Proofs.Ytjaedigjmgfakaa
open Go.RowKit
set_option maxRecDepth 100000
set_option linter.unusedVariables false
set_option linter.unusedSimpArgs false

theorem flush1_any (k : Int) (w : World) : Calls Try.prog 47 #[.int .i64 k] w fun e w' => e = .returned (.bool true) ∧ Below w.heap.size w w' := by
  go_enter Try.func47, Try.ntmps47
  go_wp2
  go_ret
  exact ⟨rfl, Below.refl _ _⟩
/-- Devices without a cache, out of sectors in blocks of their own. -/
theorem ODev.ofSec {w : World} {B M gs gv : Nat} {us uv : List Value} {xs : List (List Int)} {g : Nat → Nat} {vs : List Vo} {n nv : Nat} (f : Int) (hs : Row w gs 26 us) (hgs : B ≤ gs) (hsec : Sec w B M us xs g n) (hn : xs.length = n) (h64 : ∀ i, i < n → (xs.getD i []).length = 64) (hnm : n ≤ maxLen)
    (hv : Row w gv 79 uv) (hgv : B ≤ gv) (hvi : VosIn w M uv vs) (hnv : vs.length = nv) (hvm : nv ≤ maxLen) (hle : B ≤ M) : ODev w B (.slice (some ⟨gs, 0, none⟩) n n) (.slice none 0 0) (.slice (some ⟨gv, 0, none⟩) nv nv) ⟨xs, [], vs, f⟩ := by
  subst hn
  subst hnv
  exact ⟨⟨us, own_row (size := 1) hs (by rw [hsec.len, Nat.mul_one]) hnm hgs, hsec.len, fun i hi => ⟨_, hsec.pos i hi, (hsec.blk i hi).own (by rw [h64 i hi]; decide) (hsec.lo i hi)⟩⟩, ⟨[], World.ownsRow_nil _ _ _ _, rfl, fun i hi => absurd hi (Nat.not_lt_zero _)⟩, ⟨uv, own_row (size := 3) hv hvi.1 hvm hgv, hvi.imp fun _ _ q => q.base hle⟩⟩

set_option maxHeartbeats 2000000 in
theorem flush_any (r a h vm nv : Int) (s c v : Value) (D : Dv) (w : World) (hD : Dev w s c v D) :
    Calls Try.prog 29 #[.agg #[.int .i64 r, .int .i64 a, .int .i64 h, .int .i64 vm, .int .i64 nv], .agg #[s, c, v, .int .i64 D.fuel]] w fun e w' =>
      ∃ s' c' v', e = .returned (.tuple #[.agg #[s', c', v', .int .i64 (fluD D (marE D (chkE r a h vm nv D))).fuel], .int .i64 (marE D (chkE r a h vm nv D))]) ∧ ODev w' w.heap.size s' c' v' (fluD D (marE D (chkE r a h vm nv D))) ∧ Below w.heap.size w w' := by
  have HD := hide hD
  obtain ⟨⟨a1, cap1, rfl, l1, m1, hs⟩, ⟨a2, cap2, rfl, l2, m2, hc⟩, ⟨a3, cap3, rfl, l3, m3, hv⟩⟩ := hD
  clear hs hc hv
  unfold maxLen at m1 m2 m3
  go_enter Try.func29, Try.ntmps29
  go_wp2_with fail
  refine (check_any r a h vm nv _ _ _ D _ ((unhide HD).up (bl3 _ _ _ _))).mono ?_
  rintro e w1 ⟨rfl, hb1⟩
  have hb0 : Below w.heap.size w w1 := bl_trans (bl3 _ _ _ _) hb1
  have f0 := box3b hb1 0 rfl
  have f1 := box3b hb1 1 rfl
  have f2 := box3b hb1 2 rfl
  have f3 := box3b hb1 3 rfl
  have hR := box3r (cs := [.slice none 0 0, .slice none 0 0, .slice none 0 0, .int .i64 0]) hb1
  have d0 := hR.cell 0 _ rfl
  have d1 := hR.cell 1 _ rfl
  have d2 := hR.cell 2 _ rfl
  have d3 := hR.cell 3 _ rfl
  have df := hR.unfrozen
  have HR := hide hR
  clear hb1 hR
  obtain ⟨E, hE⟩ : ∃ E, chkE r a h vm nv D = E := ⟨_, rfl⟩
  rw [hE]
  by_cases hE0 : E = 0
  case neg =>
    have t1 : (E != 0) = true := by simpa using hE0
    have t2 : (E == 0) = false := by simpa using hE0
    have HE : Hid (E = marE D (chkE r a h vm nv D)) := by rw [hE]; exact (marE_bad hE0).symm
    have HE0 := hide hE0
    clear hE hE0
    go_wp2
    refine bodyPost_ret (v := .tuple #[.agg #[.slice none 0 0, .slice none 0 0, .slice none 0 0, .int .i64 0], .int .i64 E]) (by simp [results, Try.results29, go_sem, *]) rfl ⟨_, _, _, ret_dev (by rw [← unhide HE, fluD_bad (unhide HE0)]; rfl) (unhide HE), ?_, ?_⟩
    · rw [← unhide HE, fluD_bad (unhide HE0)]; exact ODev.empty _ _ _
    · repeat (first | exact hb0 | refine bl_set ?_ (by simp <;> omega) _)
  subst hE0
  obtain ⟨hg, hd⟩ := chk_of hE
  have HFIT := hide (fits_of hg hd)
  have HFU := hide (fuel_of hd)
  have HDV := hide (devB_all hd)
  have HCH := hide hE
  clear hE hd hg
  by_cases hF0 : D.fuel = 0
  · have HE : Hid (10 = marE D (chkE r a h vm nv D)) := by rw [unhide HCH]; exact (marE_down hF0).symm
    have HF0 := hide hF0
    clear hF0
    go_wp2_with fail
    refine (oneThing_zero _ _ _ D _ (unhide HF0)).mono ?_
    rintro e w3 ⟨rfl, hb3⟩
    replace hb0 := bl_trans hb0 hb3
    have hR := (unhide HR).up hb3
    clear d0 d1 d2 d3 df
    have d0 := hR.cell 0 _ rfl
    have d1 := hR.cell 1 _ rfl
    have d2 := hR.cell 2 _ rfl
    have d3 := hR.cell 3 _ rfl
    have df := hR.unfrozen
    have hrl := hR.lt
    clear hR hb3 f0 f1 f2 f3
    go_wp2
    refine bodyPost_ret (v := .tuple #[.agg #[.slice none 0 0, .slice none 0 0, .slice none 0 0, .int .i64 0], .int .i64 10]) (by simp [results, Try.results29, go_sem, *]) rfl ⟨_, _, _, ret_dev (by rw [← unhide HE, fluD_bad (by decide)]; rfl) (unhide HE), ?_, ?_⟩
    · rw [← unhide HE, fluD_bad (by decide)]; exact ODev.empty _ _ _
    · repeat (first | exact hb0 | refine bl_set ?_ (by simp <;> omega) _ | refine bl_alloc ?_ _)
  have HE : Hid (0 = marE D (chkE r a h vm nv D)) := by rw [unhide HCH]; exact (marE_ok hF0).symm
  have HF0 := hide hF0
  clear hF0
  go_wp2_with fail
  refine (oneThing_some _ _ _ D _ ((unhide HD).up hb0) (unhide HFIT) (unhide HF0) (unhide HFU).1 (unhide HFU).2).mono ?_
  rintro e w3 ⟨s', c', v', M, rfl, hO, hb3⟩
  have hsz2 := hb0.size
  have hsz3 := hb3.size
  replace hb0 := bl_trans hb0 hb3
  obtain ⟨hle, ⟨gs, us, g, rfl, hgs, hrs, hsec⟩, ⟨gc, uc, rfl, hgc, hrc, hwi⟩, ⟨gv, uv, rfl, hgv, hrv, hvi, _⟩⟩ := hO
  have HR3 := hide ((unhide HR).up hb3)
  have HRS := hide hrs
  have HSEC := hide hsec
  have HRC := hide hrc
  have HWI := hide hwi
  have HRV := hide hrv
  have HVI := hide hvi
  have F1 := (unhide HFIT).safe
  have F3 := (unhide HFIT).vols
  clear d0 d1 d2 d3 df f0 f1 f2 f3 hrs hsec hrc hwi hrv hvi
  go_wp2_with fail
  refine (setF_any () gs gc gv us uc uv g w1.heap.size M D (lessF D.fuel) (fun _ => true) _ ((unhide HRS).up (bl1 _ _)) ((unhide HSEC).up (bl1 _ _) (Nat.le_refl _)) ((unhide HRC).up (bl1 _ _)) ((unhide HWI).imp fun _ _ q => q.up (bl1 _ _)) ((unhide HRV).up (bl1 _ _)) ((unhide HVI).imp fun _ _ q => q.up (bl1 _ _)) (unhide HDV).2.2.2.2.1 (unhide HDV).2.2.2.2.2.1 (unhide HFIT) (fun k hk wr _ => flush1_any _ wr)).mono ?_
  rintro e w5 ⟨rfl, hs5, hsec5, hv5, hvi5, hto⟩
  have hO5 := ODev.ofSec D.fuel hs5 hgs hsec5 (settled_length _ _ _ _) (settled_64 (unhide HDV).2.2.2.2.1 (unhide HDV).2.2.2.2.2.1 _ (Nat.le_refl _)) (by unfold maxLen; omega) hv5 hgv hvi5 rfl (by unfold maxLen; omega) hle
  have hr5 := hto.row ((unhide HR3).up (bl1 _ _)) (by decide) (fun j hj => ((unhide HSEC).blk j hj).up (bl1 _ _))
  have HB5 := hide (hto.from (fun j hj => (unhide HSEC).lo j hj) (by simp; omega) (bl_trans hb0 (bl1 _ _)) hsz2)
  have d0 := hr5.cell 0 _ rfl
  have d1 := hr5.cell 1 _ rfl
  have d2 := hr5.cell 2 _ rfl
  have d3 := hr5.cell 3 _ rfl
  have df := hr5.unfrozen
  have hrl := hr5.lt
  have HO5 := hide hO5
  have HR5 := hide hr5
  clear hO5 hr5 hto hs5 hsec5 hv5 hvi5
  go_wp2
  refine bodyPost_ret (v := .tuple #[.agg #[.slice (some ⟨gs, 0, none⟩) D.safe.length D.safe.length, .slice none 0 0, .slice (some ⟨gv, 0, none⟩) D.vols.length D.vols.length, .int .i64 (lessF D.fuel)], .int .i64 0]) (by simp [results, Try.results29, go_sem, *]) rfl ⟨_, _, _, ret_dev (by rw [← unhide HE, fluD_ok]) (unhide HE), ?_, ?_⟩
  · rw [← unhide HE, fluD_ok]
    exact (((unhide HO5).fuel (lessF D.fuel)).kept (unhide HR5) (by decide) (by decide) (by decide) (by decide) (gb_set (gb_set (gb_set (gb_set (gb_refl _ _) _ _) _ _) _ _) _ _)).base hsz2
  · refine bl_set (bl_set (bl_set (bl_set (unhide HB5) ?_ _) ?_ _) ?_ _) ?_ _ <;> simp <;> omega
end Go.Proofs.Ytjaedigjmgfakaa
