/- icehouselaw.StateLatest: the walk. -/
import Derived.Test.YtclnabbojhbmhaaLao
namespace Go.Proofs.Ytclnabbojhbmhaa
open Go.RowKit Go.Maps
set_option maxRecDepth 100000
set_option linter.unusedVariables false
set_option linter.unusedSimpArgs false
theorem latV_wf {w : World} {b v u q g : Value} {S : St} (h : Sta w b v u q g S) (nm ky : ByteArray) : ∀ x ∈ (latV S nm ky).sec, (Lit.int .i64 x).wf = true := by
  intro x hx
  unfold latV at hx
  split at hx
  · unfold latK at hx
    have hb := lastB_bd (latP S.ves nm ky) S.ves.length
    split at hx
    · cases hx
    · obtain ⟨_, _, _, _, _, h3⟩ := h.ves
      obtain ⟨_, _, _, r⟩ := h3 (lastB S.ves.length (latP S.ves nm ky)).toNat (by omega)
      obtain ⟨_, _, hi⟩ := r.c8
      exact hi.wf x hx
  · cases hx
set_option maxHeartbeats 2000000 in
theorem stateLatest_walk (b v u q g : Value) (S : St) (nm ky : ByteArray) (w : World) (hS : Sta w b v u q g S) (h1 : nm.size ≤ maxLen) (h2 : ky.size ≤ maxLen) :
    Calls Try.prog 9 #[stV S b v u q g, .string nm, .string ky] w fun e w' => e = .returned (.bool true) ∧ Below w.heap.size w w' := by
  have HW := hide (latV_wf hS nm ky)
  have HS := hide hS
  clear hS h1 h2
  go_enter Try.func9, Try.ntmps9
  go_wp2_with fail
  refine (latest_any S b v u q g nm ky _ ((unhide HS).up (bl1 _ _))).mono ?_
  rintro e w1 ⟨o1, rfl, hO1, hb⟩
  have hX := (BoxS.new w S b v u q g 35).up hb
  have x0 := hX.c0
  have x1 := hX.c1
  have x2 := hX.c2
  have x3 := hX.c3
  have x4 := hX.c4
  have x5 := hX.c5
  have x6 := hX.c6
  have hlt := hX.lt
  have hw1 := bl_trans (bl1 w _) hb
  obtain ⟨oa, oc, rfl, _, _⟩ := hO1.form
  have HI1 := hide (hO1.ints (unhide HW))
  clear hX hb hO1
  obtain ⟨X, hX⟩ : ∃ X, latV S nm ky = X := ⟨_, rfl⟩
  obtain ⟨T, hT⟩ : ∃ T, latB S nm ky = T := ⟨_, rfl⟩
  obtain ⟨F, hF⟩ : ∃ F, stE S = F := ⟨_, rfl⟩
  rw [hX] at HW HI1 ⊢
  rw [hT, hF]
  have HX := hide hX
  have HT := hide hT
  have HF := hide hF
  clear hX hT hF
  go_wp2_with fail
  refine (latestOf_any S b v u q g nm ky _ ((unhide HS).up (bl_alloc hw1 _))).mono ?_
  rintro e w2 ⟨o2, rfl, hO2, hb2⟩
  obtain ⟨pa, pc, rfl, _, _⟩ := hO2.form
  rw [unhide HX] at hO2 ⊢
  rw [unhide HT, unhide HF]
  have HI2 := hide (hO2.ints (unhide HW))
  have hr := (hb2.block w1.heap.size (by simp)).trans (heap_alloc_new _ _)
  have e0 := cell_of hr 0 rfl
  have e1 := cell_of hr 1 rfl
  have e2 := cell_of hr 2 rfl
  have e3 := cell_of hr 3 rfl
  have e4 := cell_of hr 4 rfl
  have e5 := cell_of hr 5 rfl
  have e6 := cell_of hr 6 rfl
  have e7 := cell_of hr 7 rfl
  have e8 := cell_of hr 8 rfl
  have e9 := cell_of hr 9 rfl
  have e10 := cell_of hr 10 rfl
  have e11 := cell_of hr 11 rfl
  have hw2 := bl_trans (bl_alloc hw1 _) hb2
  have HI3 := hide (Ints.up hb2 (Ints.up (bl1 _ _) (unhide HI1)))
  have hlt2 : w1.heap.size < w2.heap.size := (Array.getElem?_eq_some_iff.1 hr).1
  clear x0 x1 x2 x3 x4 x5 x6 hO2 hr hb2 HI1
  go_wp2_with fail
  refine (sameVersion_any X _ _ _ (Ints.up (bl1 _ _) (unhide HI3)) (Ints.up (bl1 _ _) (unhide HI2))).mono ?_
  rintro e w3 ⟨rfl, hb3⟩
  go_wp2
  go_ret
  exact ⟨rfl, bl_trans (bl_alloc hw2 _) hb3⟩
end Go.Proofs.Ytclnabbojhbmhaa
