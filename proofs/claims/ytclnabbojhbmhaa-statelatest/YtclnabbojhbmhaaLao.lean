/- The document's LatestOf; versions that are held against each other. -/
import Derived.Test.YtclnabbojhbmhaaLat
import Derived.Test.YtclnabbojhbmhaaRfc
namespace Go.Proofs.Ytclnabbojhbmhaa
open Go.RowKit Go.Maps
set_option maxRecDepth 100000
set_option linter.unusedVariables false
set_option linter.unusedSimpArgs false
set_option maxHeartbeats 1000000 in
theorem sameVersion_any (X : Ve) (x y : Value) (w : World) (hx : Ints w x X.sec) (hy : Ints w y X.sec) : Calls Try.prog 25 #[veV X x, veV X y] w fun e w' => e = .returned (.bool true) ∧ Below w.heap.size w w' := by
  obtain ⟨a, ac, rfl, a1, a2⟩ := hx.form
  obtain ⟨b, bc, rfl, b1, b2⟩ := hy.form
  have HX := hide hx
  have HY := hide hy
  clear hx hy
  go_enter Try.func25, Try.ntmps25
  go_wp2_with fail
  refine (sameInts_any _ _ X.sec _ (Ints.up (bl_alloc (bl1 _ _) _) (unhide HX)) (Ints.up (bl_alloc (bl1 _ _) _) (unhide HY))).mono ?_
  rintro e w1 ⟨rfl, hb1⟩
  go_wp2
  go_ret
  exact ⟨rfl, bl_trans (bl_alloc (bl1 _ _) _) hb1⟩
theorem rows2 {w w1 : World} {o0 o1 : Obj} (hb : Below ((w.alloc o0).alloc o1).heap.size ((w.alloc o0).alloc o1) w1) :
    w1.heap[w.heap.size]? = some o0 ∧ w1.heap[w.heap.size + 1]? = some o1 := by
  refine ⟨?_, ?_⟩
  · rw [hb.block w.heap.size (by simp <;> omega), (bl1 _ _).block w.heap.size (by simp)]
    exact heap_alloc_new _ _
  · rw [hb.block (w.heap.size + 1) (by simp)]
    simpa using heap_alloc_new (w.alloc o0) o1
theorem row1 {w : World} {g : Nat} {t : TypeId} {c c' : Array Value} (h : w.heap[g]? = some (.cells c t (0, 0))) (i : Nat) (v : Value) (hc : c.setIfInBounds i v = c') : (w.setCell ⟨g, i, none⟩ v).heap[g]? = some (.cells c' t (0, 0)) := by
  rw [← hc]; exact heap_setCell_same w g i c t v h
theorem row12 {w : World} {g : Nat} {t : TypeId} {a0 a1 a2 a3 a4 a5 a6 a7 a8 a9 a10 a11 : Value} (h : w.heap[g]? = some (.cells #[a0, a1, a2, a3, a4, a5, a6, a7, a8, a9, a10, a11] t (0, 0))) (v0 v1 v2 v3 v4 v5 v6 v7 v8 v9 v10 v11 : Value) :
    ((((((((((((w.setCell ⟨g, 0, none⟩ v0).setCell ⟨g, 1, none⟩ v1).setCell ⟨g, 2, none⟩ v2).setCell ⟨g, 3, none⟩ v3).setCell ⟨g, 4, none⟩ v4).setCell ⟨g, 5, none⟩ v5).setCell ⟨g, 6, none⟩ v6).setCell ⟨g, 7, none⟩ v7).setCell ⟨g, 8, none⟩ v8).setCell ⟨g, 9, none⟩ v9).setCell ⟨g, 10, none⟩ v10).setCell ⟨g, 11, none⟩ v11).heap[g]? = some (.cells #[v0, v1, v2, v3, v4, v5, v6, v7, v8, v9, v10, v11] t (0, 0)) := by
  replace h := row1 (c' := #[v0, a1, a2, a3, a4, a5, a6, a7, a8, a9, a10, a11]) h 0 v0 rfl
  replace h := row1 (c' := #[v0, v1, a2, a3, a4, a5, a6, a7, a8, a9, a10, a11]) h 1 v1 rfl
  replace h := row1 (c' := #[v0, v1, v2, a3, a4, a5, a6, a7, a8, a9, a10, a11]) h 2 v2 rfl
  replace h := row1 (c' := #[v0, v1, v2, v3, a4, a5, a6, a7, a8, a9, a10, a11]) h 3 v3 rfl
  replace h := row1 (c' := #[v0, v1, v2, v3, v4, a5, a6, a7, a8, a9, a10, a11]) h 4 v4 rfl
  replace h := row1 (c' := #[v0, v1, v2, v3, v4, v5, a6, a7, a8, a9, a10, a11]) h 5 v5 rfl
  replace h := row1 (c' := #[v0, v1, v2, v3, v4, v5, v6, a7, a8, a9, a10, a11]) h 6 v6 rfl
  replace h := row1 (c' := #[v0, v1, v2, v3, v4, v5, v6, v7, a8, a9, a10, a11]) h 7 v7 rfl
  replace h := row1 (c' := #[v0, v1, v2, v3, v4, v5, v6, v7, v8, a9, a10, a11]) h 8 v8 rfl
  replace h := row1 (c' := #[v0, v1, v2, v3, v4, v5, v6, v7, v8, v9, a10, a11]) h 9 v9 rfl
  replace h := row1 (c' := #[v0, v1, v2, v3, v4, v5, v6, v7, v8, v9, v10, a11]) h 10 v10 rfl
  replace h := row1 (c' := #[v0, v1, v2, v3, v4, v5, v6, v7, v8, v9, v10, v11]) h 11 v11 rfl
  exact h
abbrev veA (X : Ve) (o : Value) : Array Value := #[.int .i64 X.id, .string X.bu, .string X.ke, .bool X.nul, .bool X.mar, .int .i64 X.size, .int .i64 X.time, .int .i64 X.tier, o, .int .i64 X.vol, .int .i64 X.pos, .int .i64 X.til]
set_option maxHeartbeats 2000000 in
theorem latestOf_any (S : St) (b v u q g : Value) (nm ky : ByteArray) (w : World) (hS : Sta w b v u q g S) :
    Calls Try.prog 24 #[stV S b v u q g, .string nm, .string ky] w fun e w' => ∃ o, e = .returned (.tuple #[veV (latV S nm ky) o, .bool (latB S nm ky), .int .i64 (stE S)]) ∧ OwI w' w.heap.size o (latV S nm ky).sec ∧ Below w.heap.size w w' := by
  have HS := hide hS
  obtain ⟨va, vc, rfl, hv1, hv2⟩ := hS.ves.form
  unfold maxLen at hv2
  clear hS
  obtain ⟨V, hV⟩ : ∃ V, latV S nm ky = V := ⟨_, rfl⟩
  obtain ⟨T, hT⟩ : ∃ T, latB S nm ky = T := ⟨_, rfl⟩
  obtain ⟨F, hF⟩ : ∃ F, stE S = F := ⟨_, rfl⟩
  rw [hV, hT, hF]
  have HV := hide hV
  have HT := hide hT
  have HF := hide hF
  clear hV hT hF
  go_enter Try.func24, Try.ntmps24
  go_wp2_with fail
  refine (stateMay_any S b _ u q g _ ((unhide HS).up (bl_alloc (bl1 _ _) _))).mono ?_
  rintro e w1 ⟨rfl, hb⟩
  have hw1 : Below w.heap.size w w1 := bl_trans (bl_alloc (bl1 _ _) _) hb
  obtain ⟨r0, r3⟩ := rows2 hb
  rw [st_eq]
  have hlt1 : w.heap.size + 1 < w1.heap.size := (Array.getElem?_eq_some_iff.1 r3).1
  cases hc : stC S
  · have hf : F = 9 := by rw [← unhide HF]; exact stE_f hc
    have HV' : Hid (V = veZ) := by show _ = _; rw [← unhide HV]; unfold latV; rw [hc]; rfl
    have HT' : Hid (T = false) := by show _ = _; rw [← unhide HT]; unfold latB; rw [hc]; rfl
    have z0 := cell_of r3 0 rfl
    have z1 := cell_of r3 1 rfl
    have z2 := cell_of r3 2 rfl
    have z3 := cell_of r3 3 rfl
    have z4 := cell_of r3 4 rfl
    have z5 := cell_of r3 5 rfl
    have z6 := cell_of r3 6 rfl
    have z7 := cell_of r3 7 rfl
    have z8 := cell_of r3 8 rfl
    have z9 := cell_of r3 9 rfl
    have z10 := cell_of r3 10 rfl
    have z11 := cell_of r3 11 rfl
    have zf := fun j => fz_of r3 j
    clear hc r0 r3
    subst hf
    go_wp2
    refine bodyPost_ret (v := .tuple #[veV veZ (.slice none 0 0), .bool false, .int .i64 9]) (by simp [results, Try.results24, veZ, go_sem, *]) rfl ⟨.slice none 0 0, ret_lat (unhide HV').symm (unhide HT').symm rfl, ?_, ?_⟩
    · rw [unhide HV']; exact OwI.nil _ _
    · (iterate 12 (refine bl_set ?_ (by simp <;> omega) _))
      exact hw1
  have hf : F = 0 := by rw [← unhide HF]; exact stE_t hc
  have hvc := stC_ves hc
  have HC := hide hvc
  have HV' : Hid (V = latK S nm ky S.ves.length) := by show _ = _; rw [← unhide HV]; unfold latV; rw [hc]; rfl
  have HT' : Hid (T = decide (0 ≤ lastB S.ves.length (latP S.ves nm ky))) := by show _ = _; rw [← unhide HT]; unfold latB; rw [hc]; rfl
  clear hc hvc HF HV HT
  subst hf
  have x3 := cell_of r0 3 rfl
  have R3 := hide r3
  clear r0 r3 hb
  go_wp2
  go_loopw [10, 11] (fun i _ wr => ∃ (k : Nat) (o : Value), k ≤ S.ves.length ∧ i = .int .i64 k ∧ Below w1.heap.size w1 wr ∧ wr.heap[w1.heap.size]? = some (.cells (veA (latK S nm ky k) o) 45 (0, 0)) ∧ OwI wr (w1.heap.size + 1) o (latK S nm ky k).sec) (fun i _ _ => S.ves.length - (intOf i).toNat)
  case atStart => exact ⟨0, .slice none 0 0, Nat.zero_le _, rfl, bl1 _ _, heap_alloc_new _ _, OwI.nil _ _⟩
  case round =>
    obtain ⟨k, o, hk, rfl, hbq, hrow, hO⟩ := hrel
    obtain ⟨oa, oc, rfl, o1, o2⟩ := hO.form
    have hgt : w1.heap.size < wr.heap.size := (Array.getElem?_eq_some_iff.1 hrow).1
    by_cases hlt : k < S.ves.length
    · obtain ⟨b8, o8, e8, r0⟩ := Lst.at ((unhide HS).up hw1).ves hlt
      obtain ⟨X, hX⟩ : ∃ X, S.ves.getD k ve0 = X := ⟨_, rfl⟩
      have hid := latK_lt nm ky (unhide HC) hlt
      have hsec : X.sec.length ≤ 10 := by rw [← hX]; exact veC_sec (vesC_at (unhide HC) hlt)
      have HP : Hid (latP S.ves nm ky k = ((X.bu.toList == nm.toList) && (X.ke.toList == ky.toList))) := by show _ = _; rw [← hX]; rfl
      rw [hX] at r0 hid
      obtain ⟨Y, hY⟩ : ∃ Y, latK S nm ky k = Y := ⟨_, rfl⟩
      rw [hY] at hid hrow hO o1
      have HY := hide hY
      have HX := hide hX
      subst e8
      have r := RVe.up hbq r0
      obtain ⟨U, hu0, hi⟩ := r0.c8
      obtain ⟨ua, uc, rfl, _⟩ := hi.form
      have hu := scell_up hbq hu0
      have HII := hide hi
      have c0 := r.c0
      have c1 := r.c1
      have c2 := r.c2
      have c3 := r.c3
      have c4 := r.c4
      have c5 := r.c5
      have c6 := r.c6
      have c7 := r.c7
      have c9 := r.c9
      have c10 := r.c10
      have c11 := r.c11
      have y0 := cell_of hrow 0 rfl
      have y1 := cell_of hrow 1 rfl
      have y2 := cell_of hrow 2 rfl
      have y3 := cell_of hrow 3 rfl
      have y4 := cell_of hrow 4 rfl
      have y5 := cell_of hrow 5 rfl
      have y6 := cell_of hrow 6 rfl
      have y7 := cell_of hrow 7 rfl
      have y8 := cell_of hrow 8 rfl
      have y9 := cell_of hrow 9 rfl
      have y10 := cell_of hrow 10 rfl
      have y11 := cell_of hrow 11 rfl
      have yf := fun j => fz_of hrow j
      have x3' := scell_up hbq x3
      have HR := hide hrow
      have HO := hide hO
      clear r r0 hi hX hY hrow hO hu0 x3
      cases t : (X.bu.toList == nm.toList)
      · rw [t] at HP
        have hp : latP S.ves nm ky k = false := unhide HP
        go_wp2
        exact ⟨⟨k + 1, .slice oa Y.sec.length oc, by omega, by go_num, bl_alloc hbq _, by rw [latK_no hp, unhide HY]; exact ((bl1 _ _).block _ hgt).trans (unhide HR), by rw [latK_no hp, unhide HY]; exact World.ownsRow.alloc (unhide HO) _⟩, by simp [intOf]; omega⟩
      · rw [t] at HP
        cases t2 : (X.ke.toList == ky.toList)
        · rw [t2] at HP
          have hp : latP S.ves nm ky k = false := unhide HP
          go_wp2
          exact ⟨⟨k + 1, .slice oa Y.sec.length oc, by omega, by go_num, bl_alloc hbq _, by rw [latK_no hp, unhide HY]; exact ((bl1 _ _).block _ hgt).trans (unhide HR), by rw [latK_no hp, unhide HY]; exact World.ownsRow.alloc (unhide HO) _⟩, by simp [intOf]; omega⟩
        · rw [t2] at HP
          have hp : latP S.ves nm ky k = true := unhide HP
          go_wp2_with fail
          refine (intsCopy_any _ X.sec _ (Ints.up (w := w1) (bl_alloc (by (iterate 12 (refine bl_set ?_ (Nat.le_refl _) _)); exact hbq) _) (unhide HII)) (by omega)).mono ?_
          rintro e w2 ⟨o', rfl, hO', hb2⟩
          have hrow2 := (hb2.block w1.heap.size (by simp; omega)).trans (((bl1 _ _).block w1.heap.size (by simp; omega)).trans (row12 (unhide HR) (.int .i64 X.id) (.string X.bu) (.string X.ke) (.bool X.nul) (.bool X.mar) (.int .i64 X.size) (.int .i64 X.time) (.int .i64 X.tier) (.slice ua X.sec.length uc) (.int .i64 X.vol) (.int .i64 X.pos) (.int .i64 X.til)))
          have hb3 : Below w1.heap.size w1 w2 := bl_trans (bl_alloc (by (iterate 12 (refine bl_set ?_ (Nat.le_refl _) _)); exact hbq) _) hb2
          have hO3 : OwI w2 (w1.heap.size + 1) o' X.sec := own_lo hO' (by simp; omega)
          obtain ⟨pa, pc, rfl, p1, p2⟩ := hO3.form
          have e8 := cell_of hrow2 8 rfl
          have f8 := fz_of hrow2 8
          have HR2 := hide hrow2
          have HO3 := hide hO3
          clear hO' hb2 hrow2 hO3 c0 c1 c2 c3 c4 c5 c6 c7 c9 c10 c11 hu y0 y1 y2 y3 y4 y5 y6 y7 y8 y9 y10 y11 yf x3' HR HO
          go_wp2
          exact ⟨⟨k + 1, _, by omega, by go_num, bl_set hb3 (Nat.le_refl _) _, by rw [latK_yes hp, unhide HX]; exact heap_setCell_same _ _ _ _ _ _ (unhide HR2), by rw [latK_yes hp, unhide HX]; exact OwI.low (unhide HO3) (by omega) _⟩, by simp [intOf]; omega⟩
    · have x3' := scell_up hbq x3
      rw [show S.ves.length = k by omega] at HV' HT'
      obtain ⟨_, _, hpos⟩ := latK_bd nm ky (unhide HC) hk
      obtain ⟨Y, hY⟩ : ∃ Y, latK S nm ky k = Y := ⟨_, rfl⟩
      rw [hY] at hrow hO o1 HV' hpos
      have HT2 : Hid (T = decide (0 < Y.id)) := by show _ = _; rw [unhide HT', hpos]
      have hr3 := (hbq.block _ hlt1).trans (unhide R3)
      have z0 := cell_of hr3 0 rfl
      have z1 := cell_of hr3 1 rfl
      have z2 := cell_of hr3 2 rfl
      have z3 := cell_of hr3 3 rfl
      have z4 := cell_of hr3 4 rfl
      have z5 := cell_of hr3 5 rfl
      have z6 := cell_of hr3 6 rfl
      have z7 := cell_of hr3 7 rfl
      have z8 := cell_of hr3 8 rfl
      have z9 := cell_of hr3 9 rfl
      have z10 := cell_of hr3 10 rfl
      have z11 := cell_of hr3 11 rfl
      have zf := fun j => fz_of hr3 j
      have y0 := cell_of hrow 0 rfl
      have y1 := cell_of hrow 1 rfl
      have y2 := cell_of hrow 2 rfl
      have y3 := cell_of hrow 3 rfl
      have y4 := cell_of hrow 4 rfl
      have y5 := cell_of hrow 5 rfl
      have y6 := cell_of hrow 6 rfl
      have y7 := cell_of hrow 7 rfl
      have y8 := cell_of hrow 8 rfl
      have y9 := cell_of hrow 9 rfl
      have y10 := cell_of hrow 10 rfl
      have y11 := cell_of hrow 11 rfl
      have yf := fun j => fz_of hrow j
      have HO := hide hO
      clear hrow hO hr3 hpos HT' x3
      go_wp2
      go_region
      all_goals go_wp2
      refine bodyPost_ret (v := .tuple #[veV Y (.slice oa Y.sec.length oc), .bool (decide (0 < Y.id)), .int .i64 0]) (by simp [results, Try.results24, go_sem, *]) rfl ⟨.slice oa Y.sec.length oc, ret_lat (unhide HV').symm (unhide HT2).symm rfl, ?_, ?_⟩
      · rw [unhide HV']
        refine own_lo (B := w1.heap.size + 1) ?_ (by omega)
        refine World.ownsRow.drew ?_
        (iterate 12 (refine OwI.low ?_ (by omega) _))
        exact unhide HO
      · refine Below.drew ?_
        (iterate 12 (refine bl_set ?_ (by simp <;> omega) _))
        exact bl_trans hw1 hbq
end Go.Proofs.Ytclnabbojhbmhaa
