/- state.Latest. -/
import Derived.Test.YtclnabbojhbmhaaLap
namespace Go.Proofs.Ytclnabbojhbmhaa
open Go.RowKit Go.Maps
set_option maxRecDepth 100000
set_option linter.unusedVariables false
set_option linter.unusedSimpArgs false
theorem cell_of {w : World} {g : Nat} {c : Array Value} {t : TypeId} {fz : Nat × Nat} (h : w.heap[g]? = some (.cells c t fz)) (j : Nat) {v : Value} (hv : c[j]? = some v) : w.cell? ⟨g, j, none⟩ = some v := by simp [World.cell?, h, hv]
theorem rows4 {w w1 : World} {o0 o1 o2 o3 : Obj} (hb : Below ((((w.alloc o0).alloc o1).alloc o2).alloc o3).heap.size ((((w.alloc o0).alloc o1).alloc o2).alloc o3) w1) :
    w1.heap[w.heap.size]? = some o0 ∧ w1.heap[w.heap.size + 1]? = some o1 ∧ w1.heap[w.heap.size + 1 + 1]? = some o2 ∧ w1.heap[w.heap.size + 1 + 1 + 1]? = some o3 := by
  refine ⟨?_, ?_, ?_, ?_⟩
  · rw [hb.block w.heap.size (by simp <;> omega), (bl1 _ _).block w.heap.size (by simp <;> omega), (bl1 _ _).block w.heap.size (by simp <;> omega), (bl1 _ _).block w.heap.size (by simp)]
    exact heap_alloc_new _ _
  · rw [hb.block (w.heap.size + 1) (by simp <;> omega), (bl1 _ _).block (w.heap.size + 1) (by simp <;> omega), (bl1 _ _).block (w.heap.size + 1) (by simp)]
    simpa using heap_alloc_new (w.alloc o0) o1
  · rw [hb.block (w.heap.size + 1 + 1) (by simp), (bl1 _ _).block (w.heap.size + 1 + 1) (by simp)]
    simpa using heap_alloc_new ((w.alloc o0).alloc o1) o2
  · rw [hb.block (w.heap.size + 1 + 1 + 1) (by simp)]
    simpa using heap_alloc_new (((w.alloc o0).alloc o1).alloc o2) o3
theorem ret_lat {X Y : Ve} {o : Value} {a b : Bool} {m n : Int} (h : X = Y) (h2 : a = b) (h3 : m = n) : Ending.returned (.tuple #[veV X o, .bool a, .int .i64 m]) = .returned (.tuple #[veV Y o, .bool b, .int .i64 n]) := by rw [h, h2, h3]
set_option maxHeartbeats 2000000 in
theorem latest_any (S : St) (b v u q g : Value) (nm ky : ByteArray) (w : World) (hS : Sta w b v u q g S) :
    Calls Try.prog 23 #[stV S b v u q g, .string nm, .string ky] w fun e w' => ∃ o, e = .returned (.tuple #[veV (latV S nm ky) o, .bool (latB S nm ky), .int .i64 (stE S)]) ∧ OwI w' w.heap.size o (latV S nm ky).sec ∧ Below w.heap.size w w' := by
  have HS := hide hS
  obtain ⟨va, vc, rfl, hv1, hv2⟩ := hS.ves.form
  unfold maxLen at hv2
  clear hS
  obtain ⟨V, hV⟩ : ∃ V, latV S nm ky = V := ⟨_, rfl⟩
  obtain ⟨T, hT⟩ : ∃ T, latB S nm ky = T := ⟨_, rfl⟩
  obtain ⟨F, hF⟩ : ∃ F, stE S = F := ⟨_, rfl⟩
  rw [hV, hT, hF]
  have HV := hide hV
  have HT := hide hT
  have HF := hide hF
  clear hV hT hF
  go_enter Try.func23, Try.ntmps23
  go_wp2_with fail
  refine (check_any S b _ u q g _ ((unhide HS).up (bl_alloc (bl_alloc (bl_alloc (bl1 _ _) _) _) _))).mono ?_
  rintro e w1 ⟨rfl, hb⟩
  have hw1 : Below w.heap.size w w1 := bl_trans (bl_alloc (bl_alloc (bl_alloc (bl1 _ _) _) _) _) hb
  obtain ⟨r0, r1, r2, r3⟩ := rows4 hb
  have x3 := cell_of r0 3 rfl
  have n0 := cell_of r1 0 rfl
  have k0 := cell_of r2 0 rfl
  have R0 := hide r0
  have R3 : Hid (w1.heap[w.heap.size + 1 + 1 + 1]? = some (.cells zeroVe 45 (0, 0))) := r3
  have z0 := cell_of r3 0 rfl
  have z1 := cell_of r3 1 rfl
  have z2 := cell_of r3 2 rfl
  have z3 := cell_of r3 3 rfl
  have z4 := cell_of r3 4 rfl
  have z5 := cell_of r3 5 rfl
  have z6 := cell_of r3 6 rfl
  have z7 := cell_of r3 7 rfl
  have z8 := cell_of r3 8 rfl
  have z9 := cell_of r3 9 rfl
  have z10 := cell_of r3 10 rfl
  have z11 := cell_of r3 11 rfl
  have zf := fun j => fz_of r3 j
  have hlt1 : w.heap.size + 1 + 1 + 1 < w1.heap.size := World.block_lt_of_cell? w1 _ z0
  clear r0 r1 r2 r3 hb
  rw [unhide HF]
  cases hc : stC S
  · have hf : F = 9 := by rw [← unhide HF]; exact stE_f hc
    have HV' : Hid (V = veZ) := by show _ = _; rw [← unhide HV]; unfold latV; rw [hc]; rfl
    have HT' : Hid (T = false) := by show _ = _; rw [← unhide HT]; unfold latB; rw [hc]; rfl
    clear hc
    subst hf
    go_wp2
    refine bodyPost_ret (v := .tuple #[veV veZ (.slice none 0 0), .bool false, .int .i64 9]) (by simp [results, Try.results23, veZ, go_sem, *]) rfl ⟨.slice none 0 0, ret_lat (unhide HV').symm (unhide HT').symm rfl, ?_, ?_⟩
    · rw [unhide HV']; exact OwI.nil _ _
    · (iterate 12 (refine bl_set ?_ (by simp <;> omega) _))
      exact hw1
  have hf : F = 0 := by rw [← unhide HF]; exact stE_t hc
  have HC := hide hc
  have HV' : Hid (V = latK S nm ky S.ves.length) := by show _ = _; rw [← unhide HV]; unfold latV; rw [hc]; rfl
  have HT' : Hid (T = decide (0 ≤ lastB S.ves.length (latP S.ves nm ky))) := by show _ = _; rw [← unhide HT]; unfold latB; rw [hc]; rfl
  have hbd := lastB_bd (latP S.ves nm ky) S.ves.length
  clear hc HF
  subst hf
  go_wp2_with fail
  refine (findLast_any (.pointer (some ⟨w.heap.size + 1, 0, none⟩)) (.pointer (some ⟨w.heap.size + 1 + 1, 0, none⟩)) va vc S.ves (latP S.ves nm ky) w1 ((unhide HS).up hw1).ves (by omega) ?_).mono ?_
  · intro k wr X ua un uc hk hX hbr hI
    subst hX
    exact latest_1 _ ua un uc nm ky _ _ wr (scell_up hbr n0) (scell_up hbr k0)
  rintro e w2 ⟨rfl, hb2⟩
  have hw2 := bl_trans hw1 hb2
  have r0 := (hb2.block _ (World.block_lt_of_cell? w1 _ x3)).trans (unhide R0)
  have r3 := (hb2.block _ (World.block_lt_of_cell? w1 _ z0)).trans (unhide R3)
  clear x3 z0 z1 z2 z3 z4 z5 z6 z7 z8 z9 z10 z11 zf R0 R3 n0 k0
  have x3 := cell_of r0 3 rfl
  have z0 := cell_of r3 0 rfl
  have z1 := cell_of r3 1 rfl
  have z2 := cell_of r3 2 rfl
  have z3 := cell_of r3 3 rfl
  have z4 := cell_of r3 4 rfl
  have z5 := cell_of r3 5 rfl
  have z6 := cell_of r3 6 rfl
  have z7 := cell_of r3 7 rfl
  have z8 := cell_of r3 8 rfl
  have z9 := cell_of r3 9 rfl
  have z10 := cell_of r3 10 rfl
  have z11 := cell_of r3 11 rfl
  have zf := fun j => fz_of r3 j
  have R3 := hide r3
  clear r0 r3
  obtain ⟨I, hI⟩ : ∃ I, lastB S.ves.length (latP S.ves nm ky) = I := ⟨_, rfl⟩
  rw [hI] at hbd HT' ⊢
  have HI := hide hI
  clear hI
  by_cases hneg : I < 0
  · have HV2 : Hid (V = veZ) := by
      show _ = _
      rw [unhide HV']; unfold latK; rw [unhide HI, if_pos hneg]
    have HT2 : Hid (T = false) := by show _ = _; rw [unhide HT', decide_eq_false (by omega)]
    go_wp2
    refine bodyPost_ret (v := .tuple #[veV veZ (.slice none 0 0), .bool false, .int .i64 0]) (by simp [results, Try.results23, veZ, go_sem, *]) rfl ⟨.slice none 0 0, ret_lat (unhide HV2).symm (unhide HT2).symm rfl, ?_, ?_⟩
    · rw [unhide HV2]; exact OwI.nil _ _
    · (iterate 12 (refine bl_set ?_ (by simp <;> omega) _))
      exact hw2
  · obtain ⟨k, rfl⟩ := Int.eq_ofNat_of_zero_le (show 0 ≤ I by omega)
    have hk : k < S.ves.length := by omega
    obtain ⟨X, hX⟩ : ∃ X, S.ves.getD k ve0 = X := ⟨_, rfl⟩
    have HV2 : Hid (V = X) := by
      show _ = _
      rw [unhide HV']; unfold latK; rw [unhide HI, if_neg hneg]; exact hX
    have HT2 : Hid (T = true) := by show _ = _; rw [unhide HT', decide_eq_true (by omega)]
    have hsec : X.sec.length ≤ 10 := by rw [← hX]; exact veC_sec (vesC_at (stC_ves (unhide HC)) hk)
    obtain ⟨b8, o8, e8, r⟩ := Lst.at ((unhide HS).up hw2).ves hk
    rw [hX] at r
    subst e8
    obtain ⟨U, hu, hi⟩ := r.c8
    obtain ⟨ua, uc, rfl, _⟩ := hi.form
    have HII := hide hi
    have c0 := r.c0
    have c1 := r.c1
    have c2 := r.c2
    have c3 := r.c3
    have c4 := r.c4
    have c5 := r.c5
    have c6 := r.c6
    have c7 := r.c7
    have c9 := r.c9
    have c10 := r.c10
    have c11 := r.c11
    clear r hi hX HI HV' HT' HC hneg HV HT
    go_wp2_with fail
    refine (copyVersion_any X ua _ uc w2 (unhide HII) (by omega)).mono ?_
    rintro e w3 ⟨o, rfl, hO, hb3⟩
    have hw3 := bl_trans hw2 hb3
    have r3 := (hb3.block _ (World.block_lt_of_cell? w2 _ z0)).trans (unhide R3)
    clear x3 z0 z1 z2 z3 z4 z5 z6 z7 z8 z9 z10 z11 zf R3 c0 c1 c2 c3 c4 c5 c6 c7 c9 c10 c11 hu
    have z0 := cell_of r3 0 rfl
    have z1 := cell_of r3 1 rfl
    have z2 := cell_of r3 2 rfl
    have z3 := cell_of r3 3 rfl
    have z4 := cell_of r3 4 rfl
    have z5 := cell_of r3 5 rfl
    have z6 := cell_of r3 6 rfl
    have z7 := cell_of r3 7 rfl
    have z8 := cell_of r3 8 rfl
    have z9 := cell_of r3 9 rfl
    have z10 := cell_of r3 10 rfl
    have z11 := cell_of r3 11 rfl
    have zf := fun j => fz_of r3 j
    have hlt : w.heap.size + 1 + 1 + 1 < w2.heap.size := by have := hb2.size; omega
    clear r3
    obtain ⟨oa, oc, rfl, o1, o2⟩ := hO.form
    have HO := hide hO
    clear hO
    go_wp2
    refine bodyPost_ret (v := .tuple #[veV X (.slice oa X.sec.length oc), .bool true, .int .i64 0]) (by simp [results, Try.results23, go_sem, *]) rfl ⟨.slice oa X.sec.length oc, ret_lat (unhide HV2).symm (unhide HT2).symm rfl, ?_, ?_⟩
    · rw [unhide HV2]
      refine own_lo (B := w2.heap.size) ?_ (by omega)
      (iterate 12 (refine OwI.low ?_ (by omega) _))
      exact unhide HO
    · (iterate 12 (refine bl_set ?_ (by simp <;> omega) _))
      exact hw3
end Go.Proofs.Ytclnabbojhbmhaa
