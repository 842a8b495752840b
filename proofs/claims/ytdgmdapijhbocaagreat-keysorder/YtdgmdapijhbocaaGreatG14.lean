/- state.Apply. -/
import Derived.Test.YtdgmdapijhbocaaGreatG13
import Derived.Deep.MidRow
import Derived.Test.YtdgmdapijhbocaaGreatG6
import Derived.BigQuiet
import Derived.Deep.QuietTactic
import Derived.Test.YtdgmdapijhbocaaGreatG7
namespace Go.Proofs.YtdgmdapijhbocaaGreat
open Go.RowKit Go.Maps
set_option maxRecDepth 100000
set_option linter.unusedVariables false
set_option linter.unusedSimpArgs false
def st00 : St := ⟨0, 0, [], [], [], [], []⟩
def appE (S : St) (r : Rc) : Int := if stC S then (if chgE S r = 0 then (if stC (chgS S r) then 0 else 4) else chgE S r) else 9
def appS (S : St) (r : Rc) : St := if appE S r = 0 then chgS S r else st00
theorem app_9 {S : St} {r : Rc} (h : stC S = false) : appE S r = 9 ∧ appS S r = st00 := by simp [appE, appS, h]
theorem app_c {S : St} {r : Rc} (h : stC S = true) (h2 : ¬ chgE S r = 0) : appE S r = chgE S r ∧ appS S r = st00 := by simp [appE, appS, h, h2]
theorem app_4 {S : St} {r : Rc} (h : stC S = true) (h2 : chgE S r = 0) (h3 : stC (chgS S r) = false) : appE S r = 4 ∧ appS S r = st00 := by simp [appE, appS, h, h2, h3]
theorem app_0 {S : St} {r : Rc} (h : stC S = true) (h2 : chgE S r = 0) (h3 : stC (chgS S r) = true) : appE S r = 0 ∧ appS S r = chgS S r := by simp [appE, appS, h, h2, h3]
theorem few_of {S : St} (h : stC S = true) : Few S := by
  unfold stC at h
  simp only [Bool.and_eq_true] at h
  obtain ⟨⟨⟨⟨⟨⟨⟨hn, hc⟩, hg⟩, hb⟩, hv⟩, hu⟩, hq⟩, _⟩ := h
  have h1 := inB_t hn
  have h2 := inB_t hc
  unfold busC at hb
  unfold vesC at hv
  unfold upsC at hu
  unfold queC at hq
  unfold goneC at hg
  simp only [Bool.and_eq_true, decide_eq_true_eq] at hb hv hu hq hg
  refine ⟨h1.1, h1.2, h2.1, h2.2, by omega, by omega, by omega, by omega, by omega, ?_⟩
  intro y hy
  obtain ⟨k, hk, e⟩ := mem_at (d := up0) hy
  have := allB_iff.1 hu.2 k hk
  unfold upsQ upC at this
  rw [e] at this
  simp only [Bool.and_eq_true] at this
  have hp := this.2
  unfold pasC at hp
  simp only [Bool.and_eq_true, decide_eq_true_eq] at hp
  have := hp.1.1
  omega
theorem fit_of {S : St} (h : stC S = true) : FitS S := by
  have hf := few_of h
  unfold stC at h
  simp only [Bool.and_eq_true] at h
  obtain ⟨⟨⟨⟨_, hv⟩, hu⟩, _⟩, _⟩ := h
  unfold vesC at hv
  unfold upsC at hu
  simp only [Bool.and_eq_true, decide_eq_true_eq] at hv hu
  have hb := hf.bus
  have hve := hf.ves
  have hup := hf.ups
  have hqu := hf.que
  have hgo := hf.gone
  refine ⟨by omega, by omega, by omega, by omega, by unfold FitI; omega, ?_, ?_⟩
  · intro x hx
    obtain ⟨k, hk, e⟩ := mem_at (d := ve0) hx
    have := allB_iff.1 hv.1.2 k hk
    unfold vesQ at this
    rw [e] at this
    have := veC_sec this
    unfold FitI; omega
  · intro y hy
    have hpl := hf.parts y hy
    obtain ⟨k, hk, e⟩ := mem_at (d := up0) hy
    have := allB_iff.1 hu.2 k hk
    unfold upsQ upC at this
    rw [e] at this
    simp only [Bool.and_eq_true] at this
    have hp := this.2
    unfold pasC at hp
    simp only [Bool.and_eq_true, decide_eq_true_eq] at hp
    refine ⟨by omega, fun x hx => ?_⟩
    obtain ⟨j, hj, e2⟩ := mem_at (d := pa0) hx
    have h3 := allB_iff.1 hp.2 j hj
    unfold pasQ paC at h3
    rw [e2] at h3
    simp only [Bool.and_eq_true, beq_iff_eq] at h3
    have h6 := secN_le (inB_t h3.1.2).2
    unfold FitI; omega
theorem rows3 {w w1 : World} {o0 o1 o2 : Obj} (hb : Below (((w.alloc o0).alloc o1).alloc o2).heap.size (((w.alloc o0).alloc o1).alloc o2) w1) :
    w1.heap[w.heap.size]? = some o0 ∧ w1.heap[w.heap.size + 1]? = some o1 ∧ w1.heap[w.heap.size + 1 + 1]? = some o2 := by
  refine ⟨?_, ?_, ?_⟩
  · rw [hb.block w.heap.size (by simp <;> omega), (bl1 _ _).block w.heap.size (by simp <;> omega), (bl1 _ _).block w.heap.size (by simp)]
    exact heap_alloc_new _ _
  · rw [hb.block (w.heap.size + 1) (by simp), (bl1 _ _).block (w.heap.size + 1) (by simp)]
    simpa using heap_alloc_new (w.alloc o0) o1
  · rw [hb.block (w.heap.size + 1 + 1) (by simp)]
    simpa using heap_alloc_new ((w.alloc o0).alloc o1) o2
theorem row1q {w : World} {g : Nat} {t : TypeId} {c c' : Array Value} (h : w.heap[g]? = some (.cells c t (0, 0))) (i : Nat) (v : Value) (hc : c.setIfInBounds i v = c') : (w.setCell ⟨g, i, none⟩ v).heap[g]? = some (.cells c' t (0, 0)) := by
  rw [← hc]; exact heap_setCell_same w g i c t v h
theorem row7 {w : World} {g : Nat} {t : TypeId} {a0 a1 a2 a3 a4 a5 a6 : Value} (h : w.heap[g]? = some (.cells #[a0, a1, a2, a3, a4, a5, a6] t (0, 0))) (v0 v1 v2 v3 v4 v5 v6 : Value) :
    (((((((w.setCell ⟨g, 0, none⟩ v0).setCell ⟨g, 1, none⟩ v1).setCell ⟨g, 2, none⟩ v2).setCell ⟨g, 3, none⟩ v3).setCell ⟨g, 4, none⟩ v4).setCell ⟨g, 5, none⟩ v5).setCell ⟨g, 6, none⟩ v6).heap[g]? = some (.cells #[v0, v1, v2, v3, v4, v5, v6] t (0, 0)) := by
  replace h := row1q (c' := #[v0, a1, a2, a3, a4, a5, a6]) h 0 v0 rfl
  replace h := row1q (c' := #[v0, v1, a2, a3, a4, a5, a6]) h 1 v1 rfl
  replace h := row1q (c' := #[v0, v1, v2, a3, a4, a5, a6]) h 2 v2 rfl
  replace h := row1q (c' := #[v0, v1, v2, v3, a4, a5, a6]) h 3 v3 rfl
  replace h := row1q (c' := #[v0, v1, v2, v3, v4, a5, a6]) h 4 v4 rfl
  replace h := row1q (c' := #[v0, v1, v2, v3, v4, v5, a6]) h 5 v5 rfl
  replace h := row1q (c' := #[v0, v1, v2, v3, v4, v5, v6]) h 6 v6 rfl
  exact h
theorem OSt.nil (w : World) (B : Nat) : OSt w B (.slice none 0 0) (.slice none 0 0) (.slice none 0 0) (.slice none 0 0) (.slice none 0 0) st00 :=
  ⟨⟨by simp [st00], .inl ⟨rfl, rfl⟩⟩, ⟨[], rfl, ⟨by simp, .inl ⟨rfl, rfl⟩⟩, fun p hp => by cases hp⟩, ⟨[], rfl, ⟨by simp, .inl ⟨rfl, rfl⟩⟩, ⟨(fun p hp => by cases hp), List.Pairwise.nil⟩⟩, ⟨by simp [st00], .inl ⟨rfl, rfl⟩⟩, OwI.nil _ _⟩
theorem ret_app {S : St} {b v u q g : Value} {a c : Int} {T : St} (h : S = T) (h2 : a = c) : Ending.returned (.tuple #[stV S b v u q g, .int .i64 a]) = .returned (.tuple #[stV T b v u q g, .int .i64 c]) := by rw [h, h2]
abbrev nl : Value := .slice none 0 0
set_option maxHeartbeats 4000000 in
theorem apply_A (S : St) (b v u q g : Value) (r : Rc) (vv pv sv : Value) (w : World) (hS : Sta w b v u q g S) (hR : FitR r) (hWR : WfR r) (hI : RcI w r vv pv sv) (hc : stC S = false) :
    Calls Tryz.prog 12 #[stV S b v u q g, rcV r vv pv sv] w fun e w' => ∃ b' v' u' q' g', e = .returned (.tuple #[stV (appS S r) b' v' u' q' g', .int .i64 (appE S r)]) ∧ OSt w' w.heap.size b' v' u' q' g' (appS S r) ∧ Below w.heap.size w w' := by
  obtain ⟨va, vc, rfl, _, _⟩ := hI.ver.form
  obtain ⟨pa, pc, rfl, _, _⟩ := hI.part.form
  obtain ⟨sa, sc, rfl, _, _⟩ := hI.sec.form
  obtain ⟨E, hE⟩ : ∃ E, appE S r = E := ⟨_, rfl⟩
  obtain ⟨Q, hQ⟩ : ∃ Q, appS S r = Q := ⟨_, rfl⟩
  rw [hE, hQ]
  have HE := hide hE
  have HQ := hide hQ
  have HS := hide hS
  have HI := hide hI
  have HW := hide hS.wfs
  clear hE hQ hS hI
  go_enter Tryz.func12, Tryz.ntmps12
  go_wp2_with fail
  refine (check_any S b v u q g _ ((unhide HS).up (bl_alloc (bl_alloc (bl1 _ _) _) _))).mono ?_
  rintro e w1 ⟨rfl, hb⟩
  have hw1 : Below w.heap.size w w1 := bl_trans (bl_alloc (bl_alloc (bl1 _ _) _) _) hb
  obtain ⟨r0, r1, r2⟩ := rows3 hb
  have R0 := hide r0
  have R1 := hide r1
  have R2 : Hid (w1.heap[w.heap.size + 1 + 1]? = some (.cells #[.int .i64 0, .int .i64 0, nl, nl, nl, nl, nl] 29 (0, 0))) := r2
  have hl0 : w.heap.size < w1.heap.size := (Array.getElem?_eq_some_iff.1 r0).1
  have hl1 : w.heap.size + 1 < w1.heap.size := (Array.getElem?_eq_some_iff.1 r1).1
  have hl2 : w.heap.size + 1 + 1 < w1.heap.size := (Array.getElem?_eq_some_iff.1 r2).1
  clear r0 r1 r2 hb
  obtain ⟨k1, k2⟩ := app_9 (r := r) hc
  have HE' : Hid (E = 9) := by show _ = _; rw [← unhide HE]; exact k1
  have HQ' : Hid (Q = st00) := by show _ = _; rw [← unhide HQ]; exact k2
  have hf := stE_f hc
  rw [hf]
  have z0 := cell_of (unhide R2) 0 rfl
  have z1 := cell_of (unhide R2) 1 rfl
  have z2 := cell_of (unhide R2) 2 rfl
  have z3 := cell_of (unhide R2) 3 rfl
  have z4 := cell_of (unhide R2) 4 rfl
  have z5 := cell_of (unhide R2) 5 rfl
  have z6 := cell_of (unhide R2) 6 rfl
  have zf := fun j => fz_of (unhide R2) j
  clear k1 k2 hf hc
  go_wp2
  refine bodyPost_ret (v := .tuple #[stV st00 nl nl nl nl nl, .int .i64 9]) (by simp [results, Tryz.results12, st00, nl, go_sem, *]) rfl ⟨nl, nl, nl, nl, nl, ret_app (unhide HQ').symm (unhide HE').symm, ?_, ?_⟩
  · rw [unhide HQ']; exact OSt.nil _ _
  · (iterate 7 (refine bl_set ?_ (by simp <;> omega) _))
    exact hw1
set_option maxHeartbeats 4000000 in
theorem apply_B (S : St) (b v u q g : Value) (r : Rc) (vv pv sv : Value) (w : World) (hS : Sta w b v u q g S) (hR : FitR r) (hWR : WfR r) (hI : RcI w r vv pv sv) (hc : stC S = true) (h0 : ¬ chgE S r = 0) :
    Calls Tryz.prog 12 #[stV S b v u q g, rcV r vv pv sv] w fun e w' => ∃ b' v' u' q' g', e = .returned (.tuple #[stV (appS S r) b' v' u' q' g', .int .i64 (appE S r)]) ∧ OSt w' w.heap.size b' v' u' q' g' (appS S r) ∧ Below w.heap.size w w' := by
  obtain ⟨va, vc, rfl, _, _⟩ := hI.ver.form
  obtain ⟨pa, pc, rfl, _, _⟩ := hI.part.form
  obtain ⟨sa, sc, rfl, _, _⟩ := hI.sec.form
  obtain ⟨E, hE⟩ : ∃ E, appE S r = E := ⟨_, rfl⟩
  obtain ⟨Q, hQ⟩ : ∃ Q, appS S r = Q := ⟨_, rfl⟩
  rw [hE, hQ]
  have HE := hide hE
  have HQ := hide hQ
  have HS := hide hS
  have HI := hide hI
  have HW := hide hS.wfs
  clear hE hQ hS hI
  go_enter Tryz.func12, Tryz.ntmps12
  go_wp2_with fail
  refine (check_any S b v u q g _ ((unhide HS).up (bl_alloc (bl_alloc (bl1 _ _) _) _))).mono ?_
  rintro e w1 ⟨rfl, hb⟩
  have hw1 : Below w.heap.size w w1 := bl_trans (bl_alloc (bl_alloc (bl1 _ _) _) _) hb
  obtain ⟨r0, r1, r2⟩ := rows3 hb
  have R0 := hide r0
  have R1 := hide r1
  have R2 : Hid (w1.heap[w.heap.size + 1 + 1]? = some (.cells #[.int .i64 0, .int .i64 0, nl, nl, nl, nl, nl] 29 (0, 0))) := r2
  have hl0 : w.heap.size < w1.heap.size := (Array.getElem?_eq_some_iff.1 r0).1
  have hl1 : w.heap.size + 1 < w1.heap.size := (Array.getElem?_eq_some_iff.1 r1).1
  have hl2 : w.heap.size + 1 + 1 < w1.heap.size := (Array.getElem?_eq_some_iff.1 r2).1
  clear r0 r1 r2 hb
  have hf := stE_t hc
  rw [hf]
  have hFew := few_of hc
  have hFit := fit_of hc
  have HC := hide hc
  have c0 := cell_of (unhide R0) 0 rfl
  have c1 := cell_of (unhide R0) 1 rfl
  have c2 := cell_of (unhide R0) 2 rfl
  have c3 := cell_of (unhide R0) 3 rfl
  have c4 := cell_of (unhide R0) 4 rfl
  have c5 := cell_of (unhide R0) 5 rfl
  have c6 := cell_of (unhide R0) 6 rfl
  have HFW := hide hFew
  clear hf hc hFew
  go_wp2_with fail
  refine (copyA_any S b v u q g w1 ((unhide HS).up hw1) hFit).mono ?_
  rintro e w2 ⟨b', v', u', q', g', rfl, hO, hb2, hA⟩
  obtain ⟨⟨ba', bc', rfl, _, _⟩, ⟨va', vc', rfl, _, _⟩, ⟨ua', uc', rfl, _, _⟩, ⟨qa', qc', rfl, _, _⟩, ⟨ga', gc', rfl, _, _⟩⟩ := And.intro (hO.sta (unhide HW)).bus.form (And.intro (hO.sta (unhide HW)).ves.form (And.intro (hO.sta (unhide HW)).ups.form (And.intro (hO.sta (unhide HW)).que.form (hO.sta (unhide HW)).gone.form)))
  have HO := hide hO
  have HA := hide hA
  have hl12 := hb2.size
  have R1' := (hb2.block _ hl1).trans (unhide R1)
  have R2' : Hid (w2.heap[w.heap.size + 1 + 1]? = some (.cells #[.int .i64 0, .int .i64 0, nl, nl, nl, nl, nl] 29 (0, 0))) := (hb2.block _ hl2).trans (unhide R2)
  have HB2 := hide hb2
  have hl1' : w.heap.size + 1 < w2.heap.size := by omega
  have hl2' : w.heap.size + 1 + 1 < w2.heap.size := by omega
  have HR1' := hide R1'
  clear hO hA hb2 R1' c0 c1 c2 c3 c4 c5 c6 hFit
  go_upto_region 5 with fail
  have hrc := ((bl1 w2 (.cells (stA S (.slice ba' S.bus.length bc') (.slice va' S.ves.length vc') (.slice ua' S.ups.length uc') (.slice qa' S.que.length qc') (.slice ga' S.gone.length gc')) 29)).block _ (by omega)).trans (unhide HR1')
  refine wp_region_lit ?_
  refine wpList_load_mid rfl 47 (.tmp 3) rfl (w.heap.size + 1) 0 rfl (rcA r (.slice va r.ver.sec.length vc) (.slice pa r.part.sec.length pc) (.slice sa r.sec.length sc)).toList _ (fun j v hv => by rw [Nat.zero_add]; exact cell_of hrc j (by simpa using hv)) Tryz.underlying47 rfl (by kernel_rfl) ?_
  clear hrc
  go_wp2_with fail
  refine (change_any S r (.slice va r.ver.sec.length vc) (.slice pa r.part.sec.length pc) (.slice sa r.sec.length sc) w1.heap.size w2.heap.size _ _ _ _ _ _ (heap_alloc_new w2 _) ((unhide HO).up (bl1 _ _)) ((unhide HA).up (bl1 _ _)) hl12 (unhide HW) (unhide HFW) hR (fun w' hb => (unhide HI).up (bl_trans hw1 (bl_tr (bl_tr (unhide HB2) (bl_lo (bl1 _ _) hl12)) hb)))).mono ?_
  rintro e w3 ⟨rfl, hBx, hbl⟩
  have hall : Below w1.heap.size w1 w3 := bl_tr (bl_tr (unhide HB2) (bl_lo (bl1 _ _) hl12)) hbl
  have HALL := hide hall
  have r2 := (hall.block _ hl2).trans (unhide R2)
  have z0 := cell_of r2 0 rfl
  have z1 := cell_of r2 1 rfl
  have z2 := cell_of r2 2 rfl
  have z3 := cell_of r2 3 rfl
  have z4 := cell_of r2 4 rfl
  have z5 := cell_of r2 5 rfl
  have z6 := cell_of r2 6 rfl
  have zf := fun j => fz_of r2 j
  have hl3 : w.heap.size + 1 + 1 < w3.heap.size := (Array.getElem?_eq_some_iff.1 r2).1
  obtain ⟨F, hF⟩ : ∃ F, chgE S r = F := ⟨_, rfl⟩
  rw [hF] at hBx h0 ⊢
  obtain ⟨k1, k2⟩ := app_c (unhide HC) (by rw [hF]; exact h0)
  have HE' : Hid (E = F) := by show _ = _; rw [← unhide HE, k1]; exact hF
  have HQ' : Hid (Q = st00) := by show _ = _; rw [← unhide HQ]; exact k2
  have t0 : (F != 0) = true := by simp [h0]
  clear k1 k2 hF h0 hBx hbl hall r2
  go_wp2
  refine bodyPost_ret (v := .tuple #[stV st00 nl nl nl nl nl, .int .i64 F]) (by simp [results, Tryz.results12, st00, nl, go_sem, *]) rfl ⟨nl, nl, nl, nl, nl, ret_app (unhide HQ').symm (unhide HE').symm, ?_, ?_⟩
  · rw [unhide HQ']; exact OSt.nil _ _
  · (iterate 7 (refine bl_set ?_ (by simp <;> omega) _))
    exact bl_trans hw1 (unhide HALL)
set_option maxHeartbeats 4000000 in
theorem apply_C (S : St) (b v u q g : Value) (r : Rc) (vv pv sv : Value) (w : World) (hS : Sta w b v u q g S) (hR : FitR r) (hWR : WfR r) (hI : RcI w r vv pv sv) (hc : stC S = true) (h0 : chgE S r = 0) (h3 : stC (chgS S r) = false) :
    Calls Tryz.prog 12 #[stV S b v u q g, rcV r vv pv sv] w fun e w' => ∃ b' v' u' q' g', e = .returned (.tuple #[stV (appS S r) b' v' u' q' g', .int .i64 (appE S r)]) ∧ OSt w' w.heap.size b' v' u' q' g' (appS S r) ∧ Below w.heap.size w w' := by
  obtain ⟨va, vc, rfl, _, _⟩ := hI.ver.form
  obtain ⟨pa, pc, rfl, _, _⟩ := hI.part.form
  obtain ⟨sa, sc, rfl, _, _⟩ := hI.sec.form
  obtain ⟨E, hE⟩ : ∃ E, appE S r = E := ⟨_, rfl⟩
  obtain ⟨Q, hQ⟩ : ∃ Q, appS S r = Q := ⟨_, rfl⟩
  rw [hE, hQ]
  have HE := hide hE
  have HQ := hide hQ
  have HS := hide hS
  have HI := hide hI
  have HW := hide hS.wfs
  clear hE hQ hS hI
  go_enter Tryz.func12, Tryz.ntmps12
  go_wp2_with fail
  refine (check_any S b v u q g _ ((unhide HS).up (bl_alloc (bl_alloc (bl1 _ _) _) _))).mono ?_
  rintro e w1 ⟨rfl, hb⟩
  have hw1 : Below w.heap.size w w1 := bl_trans (bl_alloc (bl_alloc (bl1 _ _) _) _) hb
  obtain ⟨r0, r1, r2⟩ := rows3 hb
  have R0 := hide r0
  have R1 := hide r1
  have R2 : Hid (w1.heap[w.heap.size + 1 + 1]? = some (.cells #[.int .i64 0, .int .i64 0, nl, nl, nl, nl, nl] 29 (0, 0))) := r2
  have hl0 : w.heap.size < w1.heap.size := (Array.getElem?_eq_some_iff.1 r0).1
  have hl1 : w.heap.size + 1 < w1.heap.size := (Array.getElem?_eq_some_iff.1 r1).1
  have hl2 : w.heap.size + 1 + 1 < w1.heap.size := (Array.getElem?_eq_some_iff.1 r2).1
  clear r0 r1 r2 hb
  have hf := stE_t hc
  rw [hf]
  have hFew := few_of hc
  have hFit := fit_of hc
  have HC := hide hc
  have c0 := cell_of (unhide R0) 0 rfl
  have c1 := cell_of (unhide R0) 1 rfl
  have c2 := cell_of (unhide R0) 2 rfl
  have c3 := cell_of (unhide R0) 3 rfl
  have c4 := cell_of (unhide R0) 4 rfl
  have c5 := cell_of (unhide R0) 5 rfl
  have c6 := cell_of (unhide R0) 6 rfl
  have HFW := hide hFew
  clear hf hc hFew
  go_wp2_with fail
  refine (copyA_any S b v u q g w1 ((unhide HS).up hw1) hFit).mono ?_
  rintro e w2 ⟨b', v', u', q', g', rfl, hO, hb2, hA⟩
  obtain ⟨⟨ba', bc', rfl, _, _⟩, ⟨va', vc', rfl, _, _⟩, ⟨ua', uc', rfl, _, _⟩, ⟨qa', qc', rfl, _, _⟩, ⟨ga', gc', rfl, _, _⟩⟩ := And.intro (hO.sta (unhide HW)).bus.form (And.intro (hO.sta (unhide HW)).ves.form (And.intro (hO.sta (unhide HW)).ups.form (And.intro (hO.sta (unhide HW)).que.form (hO.sta (unhide HW)).gone.form)))
  have HO := hide hO
  have HA := hide hA
  have hl12 := hb2.size
  have R1' := (hb2.block _ hl1).trans (unhide R1)
  have R2' : Hid (w2.heap[w.heap.size + 1 + 1]? = some (.cells #[.int .i64 0, .int .i64 0, nl, nl, nl, nl, nl] 29 (0, 0))) := (hb2.block _ hl2).trans (unhide R2)
  have HB2 := hide hb2
  have hl1' : w.heap.size + 1 < w2.heap.size := by omega
  have hl2' : w.heap.size + 1 + 1 < w2.heap.size := by omega
  have HR1' := hide R1'
  clear hO hA hb2 R1' c0 c1 c2 c3 c4 c5 c6 hFit
  go_upto_region 5 with fail
  have hrc := ((bl1 w2 (.cells (stA S (.slice ba' S.bus.length bc') (.slice va' S.ves.length vc') (.slice ua' S.ups.length uc') (.slice qa' S.que.length qc') (.slice ga' S.gone.length gc')) 29)).block _ (by omega)).trans (unhide HR1')
  refine wp_region_lit ?_
  refine wpList_load_mid rfl 47 (.tmp 3) rfl (w.heap.size + 1) 0 rfl (rcA r (.slice va r.ver.sec.length vc) (.slice pa r.part.sec.length pc) (.slice sa r.sec.length sc)).toList _ (fun j v hv => by rw [Nat.zero_add]; exact cell_of hrc j (by simpa using hv)) Tryz.underlying47 rfl (by kernel_rfl) ?_
  clear hrc
  go_wp2_with fail
  refine (change_any S r (.slice va r.ver.sec.length vc) (.slice pa r.part.sec.length pc) (.slice sa r.sec.length sc) w1.heap.size w2.heap.size _ _ _ _ _ _ (heap_alloc_new w2 _) ((unhide HO).up (bl1 _ _)) ((unhide HA).up (bl1 _ _)) hl12 (unhide HW) (unhide HFW) hR (fun w' hb => (unhide HI).up (bl_trans hw1 (bl_tr (bl_tr (unhide HB2) (bl_lo (bl1 _ _) hl12)) hb)))).mono ?_
  rintro e w3 ⟨rfl, hBx, hbl⟩
  have hall : Below w1.heap.size w1 w3 := bl_tr (bl_tr (unhide HB2) (bl_lo (bl1 _ _) hl12)) hbl
  have HALL := hide hall
  have r2 := (hall.block _ hl2).trans (unhide R2)
  have z0 := cell_of r2 0 rfl
  have z1 := cell_of r2 1 rfl
  have z2 := cell_of r2 2 rfl
  have z3 := cell_of r2 3 rfl
  have z4 := cell_of r2 4 rfl
  have z5 := cell_of r2 5 rfl
  have z6 := cell_of r2 6 rfl
  have zf := fun j => fz_of r2 j
  have hl3 : w.heap.size + 1 + 1 < w3.heap.size := (Array.getElem?_eq_some_iff.1 r2).1
  obtain ⟨F, hF⟩ : ∃ F, chgE S r = F := ⟨_, rfl⟩
  rw [hF] at hBx h0 ⊢
  obtain ⟨b3, v3, u3, q3, g3, hr3, hO3⟩ := hBx h0
  have hwf := chg_wf (unhide HW) hWR (hF.trans h0)
  have HST := hide (hO3.sta hwf)
  have HO3 := hide hO3
  have hch := hF.trans h0
  subst h0
  obtain ⟨T, hT⟩ : ∃ T, chgS S r = T := ⟨_, rfl⟩
  rw [hT] at HST HO3 hr3 h3
  have o0 := cell_of hr3 0 rfl
  have o1 := cell_of hr3 1 rfl
  have o2 := cell_of hr3 2 rfl
  have o3 := cell_of hr3 3 rfl
  have o4 := cell_of hr3 4 rfl
  have o5 := cell_of hr3 5 rfl
  have o6 := cell_of hr3 6 rfl
  have hl4 : w2.heap.size < w3.heap.size := (Array.getElem?_eq_some_iff.1 hr3).1
  have H4 := hide (fun h3 : stC T = false => app_4 (unhide HC) hch (by rw [hT]; exact h3))
  have H0 := hide (fun h3 : stC T = true => app_0 (unhide HC) hch (by rw [hT]; exact h3))
  have HT := hide hT
  have HR3 := hide hr3
  have R23 := hide r2
  clear hF hbl hall hr3 hO3 hwf hch hT hBx r2 z0 z1 z2 z3 z4 z5 z6 zf
  go_wp2_with fail
  refine (check_any T b3 v3 u3 q3 g3 _ (unhide HST)).mono ?_
  rintro e w4 ⟨rfl, hb4⟩
  have r2 := (hb4.block _ hl3).trans (unhide R23)
  have r3 := (hb4.block _ hl4).trans (unhide HR3)
  have z0 := cell_of r2 0 rfl
  have z1 := cell_of r2 1 rfl
  have z2 := cell_of r2 2 rfl
  have z3 := cell_of r2 3 rfl
  have z4 := cell_of r2 4 rfl
  have z5 := cell_of r2 5 rfl
  have z6 := cell_of r2 6 rfl
  have zf := fun j => fz_of r2 j
  have hw4 := bl_trans (bl_trans hw1 (unhide HALL)) hb4
  have hl5 : w.heap.size + 1 + 1 < w4.heap.size := (Array.getElem?_eq_some_iff.1 r2).1
  have hc := h3
  obtain ⟨k1, k2⟩ := unhide H4 hc
  have HE' : Hid (E = 4) := by show _ = _; rw [← unhide HE]; exact k1
  have HQ' : Hid (Q = st00) := by show _ = _; rw [← unhide HQ]; exact k2
  rw [stE_f hc]
  clear k1 k2 hc r2 r3 o0 o1 o2 o3 o4 o5 o6 hb4
  go_wp2
  refine bodyPost_ret (v := .tuple #[stV st00 nl nl nl nl nl, .int .i64 4]) (by simp [results, Tryz.results12, st00, nl, go_sem, *]) rfl ⟨nl, nl, nl, nl, nl, ret_app (unhide HQ').symm (unhide HE').symm, ?_, ?_⟩
  · rw [unhide HQ']; exact OSt.nil _ _
  · (iterate 7 (refine bl_set ?_ (by simp <;> omega) _))
    exact hw4
set_option maxHeartbeats 4000000 in
theorem apply_D (S : St) (b v u q g : Value) (r : Rc) (vv pv sv : Value) (w : World) (hS : Sta w b v u q g S) (hR : FitR r) (hWR : WfR r) (hI : RcI w r vv pv sv) (hc : stC S = true) (h0 : chgE S r = 0) (h3 : stC (chgS S r) = true) :
    Calls Tryz.prog 12 #[stV S b v u q g, rcV r vv pv sv] w fun e w' => ∃ b' v' u' q' g', e = .returned (.tuple #[stV (appS S r) b' v' u' q' g', .int .i64 (appE S r)]) ∧ OSt w' w.heap.size b' v' u' q' g' (appS S r) ∧ Below w.heap.size w w' := by
  obtain ⟨va, vc, rfl, _, _⟩ := hI.ver.form
  obtain ⟨pa, pc, rfl, _, _⟩ := hI.part.form
  obtain ⟨sa, sc, rfl, _, _⟩ := hI.sec.form
  obtain ⟨E, hE⟩ : ∃ E, appE S r = E := ⟨_, rfl⟩
  obtain ⟨Q, hQ⟩ : ∃ Q, appS S r = Q := ⟨_, rfl⟩
  rw [hE, hQ]
  have HE := hide hE
  have HQ := hide hQ
  have HS := hide hS
  have HI := hide hI
  have HW := hide hS.wfs
  clear hE hQ hS hI
  go_enter Tryz.func12, Tryz.ntmps12
  go_wp2_with fail
  refine (check_any S b v u q g _ ((unhide HS).up (bl_alloc (bl_alloc (bl1 _ _) _) _))).mono ?_
  rintro e w1 ⟨rfl, hb⟩
  have hw1 : Below w.heap.size w w1 := bl_trans (bl_alloc (bl_alloc (bl1 _ _) _) _) hb
  obtain ⟨r0, r1, r2⟩ := rows3 hb
  have R0 := hide r0
  have R1 := hide r1
  have R2 : Hid (w1.heap[w.heap.size + 1 + 1]? = some (.cells #[.int .i64 0, .int .i64 0, nl, nl, nl, nl, nl] 29 (0, 0))) := r2
  have hl0 : w.heap.size < w1.heap.size := (Array.getElem?_eq_some_iff.1 r0).1
  have hl1 : w.heap.size + 1 < w1.heap.size := (Array.getElem?_eq_some_iff.1 r1).1
  have hl2 : w.heap.size + 1 + 1 < w1.heap.size := (Array.getElem?_eq_some_iff.1 r2).1
  clear r0 r1 r2 hb
  have hf := stE_t hc
  rw [hf]
  have hFew := few_of hc
  have hFit := fit_of hc
  have HC := hide hc
  have c0 := cell_of (unhide R0) 0 rfl
  have c1 := cell_of (unhide R0) 1 rfl
  have c2 := cell_of (unhide R0) 2 rfl
  have c3 := cell_of (unhide R0) 3 rfl
  have c4 := cell_of (unhide R0) 4 rfl
  have c5 := cell_of (unhide R0) 5 rfl
  have c6 := cell_of (unhide R0) 6 rfl
  have HFW := hide hFew
  clear hf hc hFew
  go_wp2_with fail
  refine (copyA_any S b v u q g w1 ((unhide HS).up hw1) hFit).mono ?_
  rintro e w2 ⟨b', v', u', q', g', rfl, hO, hb2, hA⟩
  obtain ⟨⟨ba', bc', rfl, _, _⟩, ⟨va', vc', rfl, _, _⟩, ⟨ua', uc', rfl, _, _⟩, ⟨qa', qc', rfl, _, _⟩, ⟨ga', gc', rfl, _, _⟩⟩ := And.intro (hO.sta (unhide HW)).bus.form (And.intro (hO.sta (unhide HW)).ves.form (And.intro (hO.sta (unhide HW)).ups.form (And.intro (hO.sta (unhide HW)).que.form (hO.sta (unhide HW)).gone.form)))
  have HO := hide hO
  have HA := hide hA
  have hl12 := hb2.size
  have R1' := (hb2.block _ hl1).trans (unhide R1)
  have R2' : Hid (w2.heap[w.heap.size + 1 + 1]? = some (.cells #[.int .i64 0, .int .i64 0, nl, nl, nl, nl, nl] 29 (0, 0))) := (hb2.block _ hl2).trans (unhide R2)
  have HB2 := hide hb2
  have hl1' : w.heap.size + 1 < w2.heap.size := by omega
  have hl2' : w.heap.size + 1 + 1 < w2.heap.size := by omega
  have HR1' := hide R1'
  clear hO hA hb2 R1' c0 c1 c2 c3 c4 c5 c6 hFit
  go_upto_region 5 with fail
  have hrc := ((bl1 w2 (.cells (stA S (.slice ba' S.bus.length bc') (.slice va' S.ves.length vc') (.slice ua' S.ups.length uc') (.slice qa' S.que.length qc') (.slice ga' S.gone.length gc')) 29)).block _ (by omega)).trans (unhide HR1')
  refine wp_region_lit ?_
  refine wpList_load_mid rfl 47 (.tmp 3) rfl (w.heap.size + 1) 0 rfl (rcA r (.slice va r.ver.sec.length vc) (.slice pa r.part.sec.length pc) (.slice sa r.sec.length sc)).toList _ (fun j v hv => by rw [Nat.zero_add]; exact cell_of hrc j (by simpa using hv)) Tryz.underlying47 rfl (by kernel_rfl) ?_
  clear hrc
  go_wp2_with fail
  refine (change_any S r (.slice va r.ver.sec.length vc) (.slice pa r.part.sec.length pc) (.slice sa r.sec.length sc) w1.heap.size w2.heap.size _ _ _ _ _ _ (heap_alloc_new w2 _) ((unhide HO).up (bl1 _ _)) ((unhide HA).up (bl1 _ _)) hl12 (unhide HW) (unhide HFW) hR (fun w' hb => (unhide HI).up (bl_trans hw1 (bl_tr (bl_tr (unhide HB2) (bl_lo (bl1 _ _) hl12)) hb)))).mono ?_
  rintro e w3 ⟨rfl, hBx, hbl⟩
  have hall : Below w1.heap.size w1 w3 := bl_tr (bl_tr (unhide HB2) (bl_lo (bl1 _ _) hl12)) hbl
  have HALL := hide hall
  have r2 := (hall.block _ hl2).trans (unhide R2)
  have z0 := cell_of r2 0 rfl
  have z1 := cell_of r2 1 rfl
  have z2 := cell_of r2 2 rfl
  have z3 := cell_of r2 3 rfl
  have z4 := cell_of r2 4 rfl
  have z5 := cell_of r2 5 rfl
  have z6 := cell_of r2 6 rfl
  have zf := fun j => fz_of r2 j
  have hl3 : w.heap.size + 1 + 1 < w3.heap.size := (Array.getElem?_eq_some_iff.1 r2).1
  obtain ⟨F, hF⟩ : ∃ F, chgE S r = F := ⟨_, rfl⟩
  rw [hF] at hBx h0 ⊢
  obtain ⟨b3, v3, u3, q3, g3, hr3, hO3⟩ := hBx h0
  have hwf := chg_wf (unhide HW) hWR (hF.trans h0)
  have HST := hide (hO3.sta hwf)
  have HO3 := hide hO3
  have hch := hF.trans h0
  subst h0
  obtain ⟨T, hT⟩ : ∃ T, chgS S r = T := ⟨_, rfl⟩
  rw [hT] at HST HO3 hr3 h3
  have o0 := cell_of hr3 0 rfl
  have o1 := cell_of hr3 1 rfl
  have o2 := cell_of hr3 2 rfl
  have o3 := cell_of hr3 3 rfl
  have o4 := cell_of hr3 4 rfl
  have o5 := cell_of hr3 5 rfl
  have o6 := cell_of hr3 6 rfl
  have hl4 : w2.heap.size < w3.heap.size := (Array.getElem?_eq_some_iff.1 hr3).1
  have H4 := hide (fun h3 : stC T = false => app_4 (unhide HC) hch (by rw [hT]; exact h3))
  have H0 := hide (fun h3 : stC T = true => app_0 (unhide HC) hch (by rw [hT]; exact h3))
  have HT := hide hT
  have HR3 := hide hr3
  have R23 := hide r2
  clear hF hbl hall hr3 hO3 hwf hch hT hBx r2 z0 z1 z2 z3 z4 z5 z6 zf
  go_wp2_with fail
  refine (check_any T b3 v3 u3 q3 g3 _ (unhide HST)).mono ?_
  rintro e w4 ⟨rfl, hb4⟩
  have r2 := (hb4.block _ hl3).trans (unhide R23)
  have r3 := (hb4.block _ hl4).trans (unhide HR3)
  have z0 := cell_of r2 0 rfl
  have z1 := cell_of r2 1 rfl
  have z2 := cell_of r2 2 rfl
  have z3 := cell_of r2 3 rfl
  have z4 := cell_of r2 4 rfl
  have z5 := cell_of r2 5 rfl
  have z6 := cell_of r2 6 rfl
  have zf := fun j => fz_of r2 j
  have hw4 := bl_trans (bl_trans hw1 (unhide HALL)) hb4
  have hl5 : w.heap.size + 1 + 1 < w4.heap.size := (Array.getElem?_eq_some_iff.1 r2).1
  have hc := h3
  obtain ⟨k1, k2⟩ := unhide H0 hc
  have HE' : Hid (E = 0) := by show _ = _; rw [← unhide HE]; exact k1
  have HQ' : Hid (Q = T) := by show _ = _; rw [← unhide HQ, k2]; exact unhide HT
  rw [stE_t hc]
  have HO4 := hide ((unhide HO3).up hb4)
  obtain ⟨⟨ba3, bc3, rfl, _, _⟩, ⟨va3, vc3, rfl, _, _⟩, ⟨ua3, uc3, rfl, _, _⟩, ⟨qa3, qc3, rfl, _, _⟩, ⟨ga3, gc3, rfl, _, _⟩⟩ := And.intro (unhide HST).bus.form (And.intro (unhide HST).ves.form (And.intro (unhide HST).ups.form (And.intro (unhide HST).que.form (unhide HST).gone.form)))
  have p0 := cell_of r3 0 rfl
  have p1 := cell_of r3 1 rfl
  have p2 := cell_of r3 2 rfl
  have p3 := cell_of r3 3 rfl
  have p4 := cell_of r3 4 rfl
  have p5 := cell_of r3 5 rfl
  have p6 := cell_of r3 6 rfl
  have hl6 : w2.heap.size < w4.heap.size := (Array.getElem?_eq_some_iff.1 r3).1
  clear k1 k2 hc r2 r3 o0 o1 o2 o3 o4 o5 o6 hb4
  go_wp2
  refine bodyPost_ret (v := .tuple #[stV T (.slice ba3 T.bus.length bc3) (.slice va3 T.ves.length vc3) (.slice ua3 T.ups.length uc3) (.slice qa3 T.que.length qc3) (.slice ga3 T.gone.length gc3), .int .i64 0]) (by simp [results, Tryz.results12, go_sem, *]) rfl ⟨_, _, _, _, _, ret_app (unhide HQ').symm (unhide HE').symm, ?_, ?_⟩
  · rw [unhide HQ']
    refine OSt.base (B := w1.heap.size) ?_ (by omega)
    (iterate 7 (refine OSt.low ?_ (by omega) _))
    exact unhide HO4
  · (iterate 7 (refine bl_set ?_ (by simp <;> omega) _))
    exact hw4
theorem apply_any (S : St) (b v u q g : Value) (r : Rc) (vv pv sv : Value) (w : World) (hS : Sta w b v u q g S) (hR : FitR r) (hWR : WfR r) (hI : RcI w r vv pv sv) :
    Calls Tryz.prog 12 #[stV S b v u q g, rcV r vv pv sv] w fun e w' => ∃ b' v' u' q' g', e = .returned (.tuple #[stV (appS S r) b' v' u' q' g', .int .i64 (appE S r)]) ∧ OSt w' w.heap.size b' v' u' q' g' (appS S r) ∧ Below w.heap.size w w' := by
  cases hc : stC S
  · exact apply_A S b v u q g r vv pv sv w hS hR hWR hI hc
  by_cases h0 : chgE S r = 0
  · cases h3 : stC (chgS S r)
    · exact apply_C S b v u q g r vv pv sv w hS hR hWR hI hc h0 h3
    · exact apply_D S b v u q g r vv pv sv w hS hR hWR hI hc h0 h3
  · exact apply_B S b v u q g r vv pv sv w hS hR hWR hI hc h0
end Go.Proofs.YtdgmdapijhbocaaGreat

/- icehousekeep's small functions: picked, name, key. -/
namespace Go.Proofs.YtdgmdapijhbocaaGreat
open Go.RowKit Go.Maps
set_option maxRecDepth 100000
set_option linter.unusedVariables false
set_option linter.unusedSimpArgs false
/-- A number from 0 to many - 1. -/
def pickI (n m : Int) : Int := (if n < 0 then -(n + 1) else n) % m
theorem pickI_lo (n : Int) {m : Int} (hm : 0 < m) : 0 ≤ pickI n m := Int.emod_nonneg _ (by omega)
theorem pickI_hi (n : Int) {m : Int} (hm : 0 < m) : pickI n m < m := Int.emod_lt_of_pos _ hm
theorem picked_any (n m : Int) (w : World) (hm : 0 < m) (hmm : m ≤ 9223372036854775807) (h0 : -9223372036854775808 ≤ n) (h1 : n ≤ 9223372036854775807) :
    Calls Tryz.prog 10 #[.int .i64 n, .int .i64 m] w fun e w' => e = .returned (.int .i64 (pickI n m)) ∧ w = w' := by
  have hz : ¬ m = 0 := by omega
  by_cases hn : n < 0
  · have HP : Hid ((-(n + 1)) % m = pickI n m) := by show _ = _; unfold pickI; rw [if_pos hn]
    go_enter Tryz.func10, Tryz.ntmps10
    go_wp2
    go_ret
    exact ⟨ret_int (by rw [← unhide HP, ← Int.tmod_eq_emod_of_nonneg (by omega), Int.neg_tmod]), rfl⟩
  · have HP : Hid (n % m = pickI n m) := by show _ = _; unfold pickI; rw [if_neg hn]
    go_enter Tryz.func10, Tryz.ntmps10
    go_wp2
    go_ret
    exact ⟨ret_int (unhide HP), rfl⟩
def nmB (n : Int) : ByteArray := if pickI n 2 = 0 then ⟨#[97]⟩ else ⟨#[98]⟩
def kyB (n : Int) : ByteArray := if pickI n 5 = 0 then ⟨#[120]⟩ else if pickI n 5 = 1 then ⟨#[121, 47, 49]⟩ else if pickI n 5 = 2 then ⟨#[121, 47, 50]⟩ else if pickI n 5 = 3 then ⟨#[122, 47, 97, 47, 98]⟩ else ⟨#[121]⟩
theorem name_any (n : Int) (w : World) (h0 : -9223372036854775808 ≤ n) (h1 : n ≤ 9223372036854775807) :
    Calls Tryz.prog 18 #[.int .i64 n] w fun e w' => e = .returned (.string (nmB n)) ∧ Below w.heap.size w w' := by
  have HN : Hid (nmB n = if pickI n 2 = 0 then ⟨#[97]⟩ else ⟨#[98]⟩) := rfl
  have hlo := pickI_lo n (m := 2) (by decide)
  have hhi := pickI_hi n (m := 2) (by decide)
  go_enter Tryz.func18, Tryz.ntmps18
  go_wp2_with fail
  refine (picked_any n 2 _ (by decide) (by decide) h0 h1).mono ?_
  rintro e w1 ⟨rfl, rfl⟩
  obtain ⟨p, hp⟩ : ∃ p, pickI n 2 = p := ⟨_, rfl⟩
  rw [hp] at HN hlo hhi ⊢
  clear hp
  rcases (show p = 0 ∨ p = 1 by omega) with rfl | rfl
  all_goals
    go_wp2
    go_ret
    exact ⟨by rw [unhide HN]; rfl, bl1 _ _⟩
theorem key_any (n : Int) (w : World) (h0 : -9223372036854775808 ≤ n) (h1 : n ≤ 9223372036854775807) :
    Calls Tryz.prog 19 #[.int .i64 n] w fun e w' => e = .returned (.string (kyB n)) ∧ Below w.heap.size w w' := by
  have HN : Hid (kyB n = if pickI n 5 = 0 then ⟨#[120]⟩ else if pickI n 5 = 1 then ⟨#[121, 47, 49]⟩ else if pickI n 5 = 2 then ⟨#[121, 47, 50]⟩ else if pickI n 5 = 3 then ⟨#[122, 47, 97, 47, 98]⟩ else ⟨#[121]⟩) := rfl
  have hlo := pickI_lo n (m := 5) (by decide)
  have hhi := pickI_hi n (m := 5) (by decide)
  go_enter Tryz.func19, Tryz.ntmps19
  go_wp2_with fail
  refine (picked_any n 5 _ (by decide) (by decide) h0 h1).mono ?_
  rintro e w1 ⟨rfl, rfl⟩
  obtain ⟨p, hp⟩ : ∃ p, pickI n 5 = p := ⟨_, rfl⟩
  rw [hp] at HN hlo hhi ⊢
  clear hp
  rcases (show p = 0 ∨ p = 1 ∨ p = 2 ∨ p = 3 ∨ p = 4 by omega) with rfl | rfl | rfl | rfl | rfl
  all_goals
    go_wp2
    go_ret
    exact ⟨by rw [unhide HN]; rfl, bl1 _ _⟩
theorem nmB_le (n : Int) : (nmB n).size ≤ maxLen ∧ (nmB n = ⟨#[97]⟩ ∨ nmB n = ⟨#[98]⟩) := by
  unfold nmB
  split
  · exact ⟨by decide, .inl rfl⟩
  · exact ⟨by decide, .inr rfl⟩
theorem kyB_le (n : Int) : (kyB n).size ≤ maxLen := by
  unfold kyB
  repeat (first | (split; · decide) | decide)
theorem Ints.cut {w : World} {a : Option Addr} {L cap : Nat} {xs : List Int} (h : Ints w (.slice a L cap) xs) {k : Nat} (hk : k ≤ L) : Ints w (.slice a k cap) (xs.take k) := by
  obtain ⟨a', cap', e, h1, h2, h3⟩ := h
  simp at e
  obtain ⟨rfl, rfl, rfl⟩ := e
  have hl : (xs.take k).length = k := by simp; omega
  refine ⟨a, cap, by rw [hl], by omega, h2, fun i hi => ?_⟩
  rw [hl] at hi
  obtain ⟨b, o, e, r⟩ := h3 i (by omega)
  refine ⟨b, o, e, ?_⟩
  have : (xs.take k).getD i 0 = xs.getD i 0 := by simp [List.getD, List.getElem?_take, hi]
  rw [this]; exact r
end Go.Proofs.YtdgmdapijhbocaaGreat

/- icehousekeep.id, upload, sectors. -/
namespace Go.Proofs.YtdgmdapijhbocaaGreat
open Go.RowKit Go.Maps
set_option maxRecDepth 100000
set_option linter.unusedVariables false
set_option linter.unusedSimpArgs false
def idN (S : St) (n : Int) : Int := if S.ves.length = 0 then 1 + pickI n 9 else (S.ves.getD (pickI n S.ves.length).toNat ve0).id
def upN (S : St) (n : Int) : Int := if S.ups.length = 0 then 1 else (S.ups.getD (pickI n S.ups.length).toNat up0).id
theorem pick_nat (n : Int) {L : Nat} (h : 0 < L) : ∃ k : Nat, k < L ∧ pickI n L = (k : Int) := by
  have h1 := pickI_lo n (m := (L : Int)) (by omega)
  have h2 := pickI_hi n (m := (L : Int)) (by omega)
  obtain ⟨k, hk⟩ := Int.eq_ofNat_of_zero_le h1
  exact ⟨k, by omega, hk⟩
set_option maxHeartbeats 1000000 in
theorem k_id_any (S : St) (b v u q g : Value) (n : Int) (w : World) (hS : Sta w b v u q g S) (h0 : -9223372036854775808 ≤ n) (h1 : n ≤ 9223372036854775807) :
    Calls Tryz.prog 52 #[stV S b v u q g, .int .i64 n] w fun e w' => e = .returned (.int .i64 (idN S n)) ∧ Below w.heap.size w w' := by
  obtain ⟨va, vc, rfl, hv1, hv2⟩ := hS.ves.form
  unfold maxLen at hv2
  have HV := hide hS.ves
  have HE : Hid (idN S n = if S.ves.length = 0 then 1 + pickI n 9 else (S.ves.getD (pickI n S.ves.length).toNat ve0).id) := rfl
  obtain ⟨E, hE⟩ : ∃ E, idN S n = E := ⟨_, rfl⟩
  rw [hE] at HE ⊢
  clear hE hS
  obtain ⟨l, hl⟩ : ∃ l, S.ves = l := ⟨_, rfl⟩
  rw [hl] at hv1 HV HE ⊢
  clear hl
  cases hN : l.length with
  | zero =>
    rw [hN, if_pos rfl] at HE
    rw [hN] at hv1 HV
    go_enter Tryz.func52, Tryz.ntmps52
    first
      | (go_wp2_with fail
         refine (picked_any n 9 _ (by decide) (by decide) h0 h1).mono ?_
         rintro e w1 ⟨rfl, rfl⟩
         have hlo := pickI_lo n (m := 9) (by decide)
         have hhi := pickI_hi n (m := 9) (by decide)
         go_wp2
         go_ret
         exact ⟨ret_int (unhide HE).symm, bl1 _ _⟩)
      | (go_wp2
         go_ret
         exact ⟨ret_int (unhide HE).symm, bl1 _ _⟩)
  | succ M =>
    obtain ⟨k, hk, hpk⟩ := pick_nat n (L := M + 1) (by omega)
    rw [hN, if_neg (by omega), hpk, Int.toNat_natCast] at HE
    rw [hN] at hv1 HV
    obtain ⟨b8, o8, e8, r0⟩ := Lst.at (unhide HV) (i := k) (by omega)
    obtain ⟨X, hX⟩ : ∃ X, l.getD k ve0 = X := ⟨_, rfl⟩
    rw [hX] at r0 HE
    subst e8
    have HPK : Hid (∀ W : World, Calls Tryz.prog 10 #[.int .i64 n, .int .i64 ((M + 1 : Nat) : Int)] W fun e w' => e = .returned (.int .i64 (k : Int)) ∧ W = w') := fun W => by
      have := picked_any n ((M + 1 : Nat) : Int) W (by omega) (by omega) h0 h1
      rw [hpk] at this; exact this
    have c0 := r0.c0
    clear r0 hX hpk hN
    go_enter Tryz.func52, Tryz.ntmps52
    go_upto_region 2 with fail
    obtain ⟨W, hW⟩ : ∃ W, w.alloc (.cells (stA S b (.slice (some ⟨b8, o8, none⟩) (M + 1) vc) u q g) 29) = W := ⟨_, rfl⟩
    have hbW : Below w.heap.size w W := by rw [← hW]; exact bl1 _ _
    have y3 : W.cell? ⟨w.heap.size, 3, none⟩ = some (.slice (some ⟨b8, o8, none⟩) (M + 1) vc) := by rw [← hW, World.cell?_alloc_at _ _ _ _ rfl]; rfl
    have c0' := scell_up hbW c0
    rw [hW]
    clear hW
    have hne := Later.one W
    have l3 := fun d : Later W => d.cell y3
    have m0 := fun d : Later W => d.cell c0'
    refine wp_region_later (by kernel_rfl) (by kernel_rfl) ?_
    repeat (go_big_quiet_step ((go_at_call 10; exact Calls.later_same (unhide HPK _))))
    refine wpQuiet_nil ?_
    intro w9 hw'
    obtain ⟨⟨w2, hb2⟩, hw''⟩ := hw'
    subst hw''
    clear hne l3 m0
    go_wp2
    go_ret
    exact ⟨ret_int (unhide HE).symm, bl_trans hbW hb2⟩
set_option maxHeartbeats 1000000 in
theorem k_upload_any (S : St) (b v u q g : Value) (n : Int) (w : World) (hS : Sta w b v u q g S) (h0 : -9223372036854775808 ≤ n) (h1 : n ≤ 9223372036854775807) :
    Calls Tryz.prog 53 #[stV S b v u q g, .int .i64 n] w fun e w' => e = .returned (.int .i64 (upN S n)) ∧ Below w.heap.size w w' := by
  obtain ⟨va, vc, rfl, hv1, hv2⟩ := hS.ups.form
  unfold maxLen at hv2
  have HV := hide hS.ups
  have HE : Hid (upN S n = if S.ups.length = 0 then 1 else (S.ups.getD (pickI n S.ups.length).toNat up0).id) := rfl
  obtain ⟨E, hE⟩ : ∃ E, upN S n = E := ⟨_, rfl⟩
  rw [hE] at HE ⊢
  clear hE hS
  obtain ⟨l, hl⟩ : ∃ l, S.ups = l := ⟨_, rfl⟩
  rw [hl] at hv1 HV HE ⊢
  clear hl
  cases hN : l.length with
  | zero =>
    rw [hN, if_pos rfl] at HE
    rw [hN] at hv1 HV
    go_enter Tryz.func53, Tryz.ntmps53
    first
      | (go_wp2_with fail
         refine (picked_any n 9 _ (by decide) (by decide) h0 h1).mono ?_
         rintro e w1 ⟨rfl, rfl⟩
         have hlo := pickI_lo n (m := 9) (by decide)
         have hhi := pickI_hi n (m := 9) (by decide)
         go_wp2
         go_ret
         exact ⟨ret_int (unhide HE).symm, bl1 _ _⟩)
      | (go_wp2
         go_ret
         exact ⟨ret_int (unhide HE).symm, bl1 _ _⟩)
  | succ M =>
    obtain ⟨k, hk, hpk⟩ := pick_nat n (L := M + 1) (by omega)
    rw [hN, if_neg (by omega), hpk, Int.toNat_natCast] at HE
    rw [hN] at hv1 HV
    obtain ⟨b8, o8, e8, r0⟩ := Lst.at (unhide HV) (i := k) (by omega)
    obtain ⟨X, hX⟩ : ∃ X, l.getD k up0 = X := ⟨_, rfl⟩
    rw [hX] at r0 HE
    subst e8
    have HPK : Hid (∀ W : World, Calls Tryz.prog 10 #[.int .i64 n, .int .i64 ((M + 1 : Nat) : Int)] W fun e w' => e = .returned (.int .i64 (k : Int)) ∧ W = w') := fun W => by
      have := picked_any n ((M + 1 : Nat) : Int) W (by omega) (by omega) h0 h1
      rw [hpk] at this; exact this
    have c0 := r0.c0
    clear r0 hX hpk hN
    go_enter Tryz.func53, Tryz.ntmps53
    go_upto_region 2 with fail
    obtain ⟨W, hW⟩ : ∃ W, w.alloc (.cells (stA S b v (.slice (some ⟨b8, o8, none⟩) (M + 1) vc) q g) 29) = W := ⟨_, rfl⟩
    have hbW : Below w.heap.size w W := by rw [← hW]; exact bl1 _ _
    have y3 : W.cell? ⟨w.heap.size, 4, none⟩ = some (.slice (some ⟨b8, o8, none⟩) (M + 1) vc) := by rw [← hW, World.cell?_alloc_at _ _ _ _ rfl]; rfl
    have c0' := scell_up hbW c0
    rw [hW]
    clear hW
    have hne := Later.one W
    have l3 := fun d : Later W => d.cell y3
    have m0 := fun d : Later W => d.cell c0'
    refine wp_region_later (by kernel_rfl) (by kernel_rfl) ?_
    repeat (go_big_quiet_step ((go_at_call 10; exact Calls.later_same (unhide HPK _))))
    refine wpQuiet_nil ?_
    intro w9 hw'
    obtain ⟨⟨w2, hb2⟩, hw''⟩ := hw'
    subst hw''
    clear hne l3 m0
    go_wp2
    go_ret
    exact ⟨ret_int (unhide HE).symm, bl_trans hbW hb2⟩
theorem fre_wf (S : St) (m : Int) : ∀ x ∈ freL S m, (Lit.int .i64 x).wf = true := by
  intro x hx
  unfold freL at hx
  split at hx
  · rename_i h
    unfold freE at h
    split at h
    · split at h
      · rename_i h2
        have := inB_t h2
        exact freK_wf (k := m.toNat) (by omega) x hx
      · cases h
    · cases h
  · cases hx
def secF (S : St) (n : Int) : List Int := (freL S 200).take (min (secN n).toNat (freL S 200).length)
theorem sectors_any (S : St) (b v u q g : Value) (n : Int) (w : World) (hS : Sta w b v u q g S) (h0 : 0 ≤ n) (h1 : n ≤ 1000000) :
    Calls Tryz.prog 11 #[stV S b v u q g, .int .i64 n] w fun e w' => ∃ o, e = .returned o ∧ Ints w' o (secF S n) ∧ Below w.heap.size w w' := by
  have HS := hide hS
  clear hS
  have hlen : (freL S 200).length ≤ 200 := by
    unfold freL
    split
    · exact freK_len S _
    · simp
  have hsn : 0 ≤ secN n := by unfold secN; split <;> omega
  go_enter Tryz.func11, Tryz.ntmps11
  go_wp2_with fail
  refine (free_any S b v u q g 200 _ ((unhide HS).up (bl1 _ _))).mono ?_
  rintro e w1 ⟨o, rfl, hO, hb⟩
  have hw1 := bl_trans (bl1 w _) hb
  have HI := hide (hO.ints (fre_wf S 200))
  obtain ⟨oa, oc, rfl, ol, om⟩ := hO.form
  unfold maxLen at om
  clear hO hb
  obtain ⟨F, hF⟩ : ∃ F, freL S 200 = F := ⟨_, rfl⟩
  have HF : Hid (secF S n = F.take (min (secN n).toNat F.length)) := by show _ = _; unfold secF; rw [hF]
  rw [hF] at HI hlen ol ⊢
  clear hF
  obtain ⟨L, hL⟩ : ∃ L, F.length = L := ⟨_, rfl⟩
  rw [hL] at HI hlen ol HF ⊢
  clear hL
  go_wp2_with fail
  refine (sectorsN_any n _ (by omega) (by omega)).mono ?_
  rintro e w2 ⟨rfl, rfl⟩
  obtain ⟨k, hk⟩ := Int.eq_ofNat_of_zero_le hsn
  rw [hk] at HF ⊢
  clear hk hsn
  rw [Int.toNat_natCast] at HF
  by_cases hkl : k ≤ L
  · rw [Nat.min_eq_left (by omega)] at HF
    have hI := hide ((unhide HI).cut (k := k) (by omega))
    go_wp2
    go_ret
    exact ⟨_, rfl, by rw [unhide HF]; exact unhide hI, hw1⟩
  · rw [Nat.min_eq_right (by omega)] at HF
    have hI := hide ((unhide HI).cut (k := L) (by omega))
    go_wp2
    go_ret
    exact ⟨_, rfl, by rw [unhide HF]; exact unhide hI, hw1⟩
theorem secF_len (S : St) (n : Int) : (secF S n).length ≤ 200 := by
  have hlen : (freL S 200).length ≤ 200 := by
    unfold freL
    split
    · exact freK_len S _
    · simp
  unfold secF
  rw [List.length_take]
  omega
end Go.Proofs.YtdgmdapijhbocaaGreat

/- The latest version of a key, as plain lists. -/
namespace Go.Proofs.YtdgmdapijhbocaaGreat
open Go.RowKit Go.Maps
set_option maxRecDepth 100000
set_option linter.unusedVariables false
set_option linter.unusedSimpArgs false
def veZ : Ve := ⟨0, ⟨#[]⟩, ⟨#[]⟩, false, false, 0, 0, 0, [], 0, 0, 0⟩
/-- The latest of the first k versions. -/
def latK (S : St) (nm ky : ByteArray) (k : Nat) : Ve := if lastB k (latP S.ves nm ky) < 0 then veZ else S.ves.getD (lastB k (latP S.ves nm ky)).toNat ve0
def latB (S : St) (nm ky : ByteArray) : Bool := stC S && decide (0 ≤ lastB S.ves.length (latP S.ves nm ky))
def latV (S : St) (nm ky : ByteArray) : Ve := if stC S then latK S nm ky S.ves.length else veZ
theorem lastB_bd (p : Nat → Bool) : ∀ n : Nat, -1 ≤ lastB n p ∧ lastB n p < n
  | 0 => by simp [lastB]
  | n + 1 => by
    have := lastB_bd p n
    unfold lastB
    split <;> omega
theorem latK_0 (S : St) (nm ky : ByteArray) : latK S nm ky 0 = veZ := rfl
theorem latK_no {S : St} {nm ky : ByteArray} {k : Nat} (h : latP S.ves nm ky k = false) : latK S nm ky (k + 1) = latK S nm ky k := by
  have e : lastB (k + 1) (latP S.ves nm ky) = lastB k (latP S.ves nm ky) := by show (if latP S.ves nm ky k then (k : Int) else _) = _; rw [h]; rfl
  unfold latK
  rw [e]
theorem latK_yes {S : St} {nm ky : ByteArray} {k : Nat} (h : latP S.ves nm ky k = true) : latK S nm ky (k + 1) = S.ves.getD k ve0 := by
  have e : lastB (k + 1) (latP S.ves nm ky) = (k : Int) := by unfold lastB; rw [h]; rfl
  unfold latK
  rw [e, if_neg (by omega)]
  rfl
theorem stC_ves {S : St} (h : stC S = true) : vesC S = true := by
  unfold stC at h
  simp only [Bool.and_eq_true] at h
  exact h.1.1.1.2
theorem veC_id {S : St} {x : Ve} (h : veC S x = true) : 1 ≤ x.id ∧ x.id ≤ S.next - 1 := by
  unfold veC namC at h
  simp only [Bool.and_eq_true] at h
  exact inB_t h.1.1.1.1
theorem vesC_rise {S : St} (h : vesC S = true) : ∀ j k, j < k → k < S.ves.length → (S.ves.getD j ve0).id < (S.ves.getD k ve0).id := by
  unfold vesC at h
  simp only [Bool.and_eq_true] at h
  have hr := allB_iff.1 h.1.1.2
  intro j k
  induction k with
  | zero => intro h; omega
  | succ k ih =>
    intro hj hk
    have h1 : (S.ves.getD k ve0).id < (S.ves.getD (k + 1) ve0).id := of_decide_eq_true (hr k (by omega))
    rcases Nat.lt_or_ge j k with h2 | h2
    · have := ih h2 (by omega); omega
    · obtain rfl : j = k := by omega
      exact h1
theorem vesC_at {S : St} (h : vesC S = true) {k : Nat} (hk : k < S.ves.length) : veC S (S.ves.getD k ve0) = true := by
  unfold vesC at h
  simp only [Bool.and_eq_true] at h
  exact allB_iff.1 h.1.2 k hk
theorem latK_lt {S : St} (nm ky : ByteArray) {k : Nat} (h : vesC S = true) (hk : k < S.ves.length) : (latK S nm ky k).id < (S.ves.getD k ve0).id := by
  have hb := lastB_bd (latP S.ves nm ky) k
  unfold latK
  split
  · have := veC_id (vesC_at h hk)
    show (0 : Int) < _
    omega
  · exact vesC_rise h _ _ (by omega) hk
theorem latK_bd {S : St} (nm ky : ByteArray) {k : Nat} (h : vesC S = true) (hk : k ≤ S.ves.length) : 0 ≤ (latK S nm ky k).id ∧ (latK S nm ky k).sec.length ≤ 10 ∧ (decide (0 < (latK S nm ky k).id) = decide (0 ≤ lastB k (latP S.ves nm ky))) := by
  have hb := lastB_bd (latP S.ves nm ky) k
  unfold latK
  split
  · rename_i h1
    refine ⟨Int.le_refl _, by simp [veZ], ?_⟩
    rw [decide_eq_false (by simp [veZ]), decide_eq_false (by omega)]
  · rename_i h1
    have h2 := vesC_at h (k := (lastB k (latP S.ves nm ky)).toNat) (by omega)
    have h3 := veC_id h2
    refine ⟨by omega, veC_sec h2, ?_⟩
    rw [decide_eq_true (by omega), decide_eq_true (by omega)]
end Go.Proofs.YtdgmdapijhbocaaGreat

/- state.Latest. -/
namespace Go.Proofs.YtdgmdapijhbocaaGreat
open Go.RowKit Go.Maps
set_option maxRecDepth 100000
set_option linter.unusedVariables false
set_option linter.unusedSimpArgs false
theorem rows4 {w w1 : World} {o0 o1 o2 o3 : Obj} (hb : Below ((((w.alloc o0).alloc o1).alloc o2).alloc o3).heap.size ((((w.alloc o0).alloc o1).alloc o2).alloc o3) w1) :
    w1.heap[w.heap.size]? = some o0 ∧ w1.heap[w.heap.size + 1]? = some o1 ∧ w1.heap[w.heap.size + 1 + 1]? = some o2 ∧ w1.heap[w.heap.size + 1 + 1 + 1]? = some o3 := by
  refine ⟨?_, ?_, ?_, ?_⟩
  · rw [hb.block w.heap.size (by simp <;> omega), (bl1 _ _).block w.heap.size (by simp <;> omega), (bl1 _ _).block w.heap.size (by simp <;> omega), (bl1 _ _).block w.heap.size (by simp)]
    exact heap_alloc_new _ _
  · rw [hb.block (w.heap.size + 1) (by simp <;> omega), (bl1 _ _).block (w.heap.size + 1) (by simp <;> omega), (bl1 _ _).block (w.heap.size + 1) (by simp)]
    simpa using heap_alloc_new (w.alloc o0) o1
  · rw [hb.block (w.heap.size + 1 + 1) (by simp), (bl1 _ _).block (w.heap.size + 1 + 1) (by simp)]
    simpa using heap_alloc_new ((w.alloc o0).alloc o1) o2
  · rw [hb.block (w.heap.size + 1 + 1 + 1) (by simp)]
    simpa using heap_alloc_new (((w.alloc o0).alloc o1).alloc o2) o3
theorem ret_lat {X Y : Ve} {o : Value} {a b : Bool} {m n : Int} (h : X = Y) (h2 : a = b) (h3 : m = n) : Ending.returned (.tuple #[veV X o, .bool a, .int .i64 m]) = .returned (.tuple #[veV Y o, .bool b, .int .i64 n]) := by rw [h, h2, h3]
set_option maxHeartbeats 2000000 in
theorem latest_any (S : St) (b v u q g : Value) (nm ky : ByteArray) (w : World) (hS : Sta w b v u q g S) :
    Calls Tryz.prog 15 #[stV S b v u q g, .string nm, .string ky] w fun e w' => ∃ o, e = .returned (.tuple #[veV (latV S nm ky) o, .bool (latB S nm ky), .int .i64 (stE S)]) ∧ OwI w' w.heap.size o (latV S nm ky).sec ∧ Below w.heap.size w w' := by
  have HS := hide hS
  obtain ⟨va, vc, rfl, hv1, hv2⟩ := hS.ves.form
  unfold maxLen at hv2
  clear hS
  obtain ⟨V, hV⟩ : ∃ V, latV S nm ky = V := ⟨_, rfl⟩
  obtain ⟨T, hT⟩ : ∃ T, latB S nm ky = T := ⟨_, rfl⟩
  obtain ⟨F, hF⟩ : ∃ F, stE S = F := ⟨_, rfl⟩
  rw [hV, hT, hF]
  have HV := hide hV
  have HT := hide hT
  have HF := hide hF
  clear hV hT hF
  go_enter Tryz.func15, Tryz.ntmps15
  go_wp2_with fail
  refine (check_any S b _ u q g _ ((unhide HS).up (bl_alloc (bl_alloc (bl_alloc (bl1 _ _) _) _) _))).mono ?_
  rintro e w1 ⟨rfl, hb⟩
  have hw1 : Below w.heap.size w w1 := bl_trans (bl_alloc (bl_alloc (bl_alloc (bl1 _ _) _) _) _) hb
  obtain ⟨r0, r1, r2, r3⟩ := rows4 hb
  have x3 := cell_of r0 3 rfl
  have n0 := cell_of r1 0 rfl
  have k0 := cell_of r2 0 rfl
  have R0 := hide r0
  have R3 : Hid (w1.heap[w.heap.size + 1 + 1 + 1]? = some (.cells zeroVe 36 (0, 0))) := r3
  have z0 := cell_of r3 0 rfl
  have z1 := cell_of r3 1 rfl
  have z2 := cell_of r3 2 rfl
  have z3 := cell_of r3 3 rfl
  have z4 := cell_of r3 4 rfl
  have z5 := cell_of r3 5 rfl
  have z6 := cell_of r3 6 rfl
  have z7 := cell_of r3 7 rfl
  have z8 := cell_of r3 8 rfl
  have z9 := cell_of r3 9 rfl
  have z10 := cell_of r3 10 rfl
  have z11 := cell_of r3 11 rfl
  have zf := fun j => fz_of r3 j
  have hlt1 : w.heap.size + 1 + 1 + 1 < w1.heap.size := World.block_lt_of_cell? w1 _ z0
  clear r0 r1 r2 r3 hb
  rw [unhide HF]
  cases hc : stC S
  · have hf : F = 9 := by rw [← unhide HF]; exact stE_f hc
    have HV' : Hid (V = veZ) := by show _ = _; rw [← unhide HV]; unfold latV; rw [hc]; rfl
    have HT' : Hid (T = false) := by show _ = _; rw [← unhide HT]; unfold latB; rw [hc]; rfl
    clear hc
    subst hf
    go_wp2
    refine bodyPost_ret (v := .tuple #[veV veZ (.slice none 0 0), .bool false, .int .i64 9]) (by simp [results, Tryz.results15, veZ, go_sem, *]) rfl ⟨.slice none 0 0, ret_lat (unhide HV').symm (unhide HT').symm rfl, ?_, ?_⟩
    · rw [unhide HV']; exact OwI.nil _ _
    · (iterate 12 (refine bl_set ?_ (by simp <;> omega) _))
      exact hw1
  have hf : F = 0 := by rw [← unhide HF]; exact stE_t hc
  have HC := hide hc
  have HV' : Hid (V = latK S nm ky S.ves.length) := by show _ = _; rw [← unhide HV]; unfold latV; rw [hc]; rfl
  have HT' : Hid (T = decide (0 ≤ lastB S.ves.length (latP S.ves nm ky))) := by show _ = _; rw [← unhide HT]; unfold latB; rw [hc]; rfl
  have hbd := lastB_bd (latP S.ves nm ky) S.ves.length
  clear hc HF
  subst hf
  go_wp2_with fail
  refine (findLast_any (.pointer (some ⟨w.heap.size + 1, 0, none⟩)) (.pointer (some ⟨w.heap.size + 1 + 1, 0, none⟩)) va vc S.ves (latP S.ves nm ky) w1 ((unhide HS).up hw1).ves (by omega) ?_).mono ?_
  · intro k wr X ua un uc hk hX hbr hI
    subst hX
    exact latest_1 _ ua un uc nm ky _ _ wr (scell_up hbr n0) (scell_up hbr k0)
  rintro e w2 ⟨rfl, hb2⟩
  have hw2 := bl_trans hw1 hb2
  have r0 := (hb2.block _ (World.block_lt_of_cell? w1 _ x3)).trans (unhide R0)
  have r3 := (hb2.block _ (World.block_lt_of_cell? w1 _ z0)).trans (unhide R3)
  clear x3 z0 z1 z2 z3 z4 z5 z6 z7 z8 z9 z10 z11 zf R0 R3 n0 k0
  have x3 := cell_of r0 3 rfl
  have z0 := cell_of r3 0 rfl
  have z1 := cell_of r3 1 rfl
  have z2 := cell_of r3 2 rfl
  have z3 := cell_of r3 3 rfl
  have z4 := cell_of r3 4 rfl
  have z5 := cell_of r3 5 rfl
  have z6 := cell_of r3 6 rfl
  have z7 := cell_of r3 7 rfl
  have z8 := cell_of r3 8 rfl
  have z9 := cell_of r3 9 rfl
  have z10 := cell_of r3 10 rfl
  have z11 := cell_of r3 11 rfl
  have zf := fun j => fz_of r3 j
  have R3 := hide r3
  clear r0 r3
  obtain ⟨I, hI⟩ : ∃ I, lastB S.ves.length (latP S.ves nm ky) = I := ⟨_, rfl⟩
  rw [hI] at hbd HT' ⊢
  have HI := hide hI
  clear hI
  by_cases hneg : I < 0
  · have HV2 : Hid (V = veZ) := by
      show _ = _
      rw [unhide HV']; unfold latK; rw [unhide HI, if_pos hneg]
    have HT2 : Hid (T = false) := by show _ = _; rw [unhide HT', decide_eq_false (by omega)]
    go_wp2
    refine bodyPost_ret (v := .tuple #[veV veZ (.slice none 0 0), .bool false, .int .i64 0]) (by simp [results, Tryz.results15, veZ, go_sem, *]) rfl ⟨.slice none 0 0, ret_lat (unhide HV2).symm (unhide HT2).symm rfl, ?_, ?_⟩
    · rw [unhide HV2]; exact OwI.nil _ _
    · (iterate 12 (refine bl_set ?_ (by simp <;> omega) _))
      exact hw2
  · obtain ⟨k, rfl⟩ := Int.eq_ofNat_of_zero_le (show 0 ≤ I by omega)
    have hk : k < S.ves.length := by omega
    obtain ⟨X, hX⟩ : ∃ X, S.ves.getD k ve0 = X := ⟨_, rfl⟩
    have HV2 : Hid (V = X) := by
      show _ = _
      rw [unhide HV']; unfold latK; rw [unhide HI, if_neg hneg]; exact hX
    have HT2 : Hid (T = true) := by show _ = _; rw [unhide HT', decide_eq_true (by omega)]
    have hsec : X.sec.length ≤ 10 := by rw [← hX]; exact veC_sec (vesC_at (stC_ves (unhide HC)) hk)
    obtain ⟨b8, o8, e8, r⟩ := Lst.at ((unhide HS).up hw2).ves hk
    rw [hX] at r
    subst e8
    obtain ⟨U, hu, hi⟩ := r.c8
    obtain ⟨ua, uc, rfl, _⟩ := hi.form
    have HII := hide hi
    have c0 := r.c0
    have c1 := r.c1
    have c2 := r.c2
    have c3 := r.c3
    have c4 := r.c4
    have c5 := r.c5
    have c6 := r.c6
    have c7 := r.c7
    have c9 := r.c9
    have c10 := r.c10
    have c11 := r.c11
    clear r hi hX HI HV' HT' HC hneg HV HT
    go_wp2_with fail
    refine (copyVersion_any X ua _ uc w2 (unhide HII) (by omega)).mono ?_
    rintro e w3 ⟨o, rfl, hO, hb3⟩
    have hw3 := bl_trans hw2 hb3
    have r3 := (hb3.block _ (World.block_lt_of_cell? w2 _ z0)).trans (unhide R3)
    clear x3 z0 z1 z2 z3 z4 z5 z6 z7 z8 z9 z10 z11 zf R3 c0 c1 c2 c3 c4 c5 c6 c7 c9 c10 c11 hu
    have z0 := cell_of r3 0 rfl
    have z1 := cell_of r3 1 rfl
    have z2 := cell_of r3 2 rfl
    have z3 := cell_of r3 3 rfl
    have z4 := cell_of r3 4 rfl
    have z5 := cell_of r3 5 rfl
    have z6 := cell_of r3 6 rfl
    have z7 := cell_of r3 7 rfl
    have z8 := cell_of r3 8 rfl
    have z9 := cell_of r3 9 rfl
    have z10 := cell_of r3 10 rfl
    have z11 := cell_of r3 11 rfl
    have zf := fun j => fz_of r3 j
    have hlt : w.heap.size + 1 + 1 + 1 < w2.heap.size := by have := hb2.size; omega
    clear r3
    obtain ⟨oa, oc, rfl, o1, o2⟩ := hO.form
    have HO := hide hO
    clear hO
    go_wp2
    refine bodyPost_ret (v := .tuple #[veV X (.slice oa X.sec.length oc), .bool true, .int .i64 0]) (by simp [results, Tryz.results15, go_sem, *]) rfl ⟨.slice oa X.sec.length oc, ret_lat (unhide HV2).symm (unhide HT2).symm rfl, ?_, ?_⟩
    · rw [unhide HV2]
      refine own_lo (B := w2.heap.size) ?_ (by omega)
      (iterate 12 (refine OwI.low ?_ (by omega) _))
      exact unhide HO
    · (iterate 12 (refine bl_set ?_ (by simp <;> omega) _))
      exact hw3
end Go.Proofs.YtdgmdapijhbocaaGreat
