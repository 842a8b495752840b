/- icehouselaw.TierPlaces: the walk. -/
import Derived.Test.YtkogbgeadlnnfaaTiq
import Derived.Test.YtkogbgeadlnnfaaTin
import Derived.Deep.RegionHeld3
namespace Go.Proofs.Ytkogbgeadlnnfaa
open Go.RowKit Go.Maps
set_option maxRecDepth 100000
set_option linter.unusedVariables false
set_option linter.unusedSimpArgs false
set_option maxHeartbeats 1000000 in
theorem tierPlaces_walk (r a h vm nv : Int) (b v u q g : Value) (S : St) (lv : Value) (l : List Int) (sz wo : Int) (w : World) (hS : Sta w b v u q g S) (_ : FitS S) (hv : Ints w lv l) (hl : l.length * 8 ≤ 140737488355328) (_ : (Lit.int .i64 sz).wf = true) (_ : (Lit.int .i64 wo).wf = true) :
    Calls Try.prog 9 #[.agg #[.int .i64 r, .int .i64 a, .int .i64 h, .int .i64 vm, .int .i64 nv], stV S b v u q g, lv, .int .i64 sz, .int .i64 wo] w fun e w' => e = .returned (.bool true) ∧ Below w.heap.size w w' := by
  have HS := hide hS
  have HV := hide hv
  clear hS hv
  go_enter Try.func9, Try.ntmps9
  go_upto_region 1 with fail
  have hw0 := bl_alloc (bl1 w (.cells #[.int .i64 r, .int .i64 a, .int .i64 h, .int .i64 vm, .int .i64 nv] 43)) (.cells #[.int .i64 S.next, .int .i64 S.clock, b, v, u, q, g] 28)
  obtain ⟨W, hW⟩ : ∃ W, (w.alloc (.cells #[.int .i64 r, .int .i64 a, .int .i64 h, .int .i64 vm, .int .i64 nv] 43)).alloc (.cells #[.int .i64 S.next, .int .i64 S.clock, b, v, u, q, g] 28) = W := ⟨_, rfl⟩
  have KZ : Hid (∀ w', Below W.heap.size W w' → ((w'.cell? ⟨w.heap.size, 0, none⟩ = some (.int .i64 r) ∧ w'.cell? ⟨w.heap.size, 1, none⟩ = some (.int .i64 a) ∧ w'.cell? ⟨w.heap.size, 2, none⟩ = some (.int .i64 h) ∧ w'.cell? ⟨w.heap.size, 3, none⟩ = some (.int .i64 vm) ∧ w'.cell? ⟨w.heap.size, 4, none⟩ = some (.int .i64 nv)) ∧ w'.cell? ⟨w.heap.size + 1, 0, none⟩ = some (.int .i64 S.next) ∧ w'.cell? ⟨w.heap.size + 1, 1, none⟩ = some (.int .i64 S.clock) ∧ w'.cell? ⟨w.heap.size + 1, 2, none⟩ = some b ∧ w'.cell? ⟨w.heap.size + 1, 3, none⟩ = some v ∧ w'.cell? ⟨w.heap.size + 1, 4, none⟩ = some u ∧ w'.cell? ⟨w.heap.size + 1, 5, none⟩ = some q ∧ w'.cell? ⟨w.heap.size + 1, 6, none⟩ = some g)) := by
    intro w' hb
    subst hW
    exact ⟨⟨box2a hb 0 rfl, box2a hb 1 rfl, box2a hb 2 rfl, box2a hb 3 rfl, box2a hb 4 rfl⟩, box2b hb 0 rfl, box2b hb 1 rfl, box2b hb 2 rfl, box2b hb 3 rfl, box2b hb 4 rfl, box2b hb 5 rfl, box2b hb 6 rfl⟩
  rw [hW] at hw0 ⊢
  obtain ⟨⟨g0, _⟩, s0, _⟩ := unhide KZ W (Below.refl _ _)
  have hl1 : w.heap.size < W.heap.size := World.block_lt_of_cell? _ _ g0
  have hl2 : w.heap.size + 1 < W.heap.size := World.block_lt_of_cell? _ _ s0
  clear hW g0 s0
  obtain ⟨E, hE⟩ : ∃ E, plaE S l vm nv sz wo = E := ⟨_, rfl⟩
  obtain ⟨V, hV⟩ : ∃ V, plaV S l vm nv sz wo = V := ⟨_, rfl⟩
  have HE := hide hE
  have HVV := hide hV
  clear hE hV
  go_cut [11, 12] (fun x e wc => x = .int .i64 V ∧ e = .int .i64 E ∧ Below W.heap.size W wc)
  case first =>
    go_region_held3 (fun w' => (w'.cell? ⟨w.heap.size, 0, none⟩ = some (.int .i64 r) ∧ w'.cell? ⟨w.heap.size, 1, none⟩ = some (.int .i64 a) ∧ w'.cell? ⟨w.heap.size, 2, none⟩ = some (.int .i64 h) ∧ w'.cell? ⟨w.heap.size, 3, none⟩ = some (.int .i64 vm) ∧ w'.cell? ⟨w.heap.size, 4, none⟩ = some (.int .i64 nv)) ∧ w'.cell? ⟨w.heap.size + 1, 0, none⟩ = some (.int .i64 S.next) ∧ w'.cell? ⟨w.heap.size + 1, 1, none⟩ = some (.int .i64 S.clock) ∧ w'.cell? ⟨w.heap.size + 1, 2, none⟩ = some b ∧ w'.cell? ⟨w.heap.size + 1, 3, none⟩ = some v ∧ w'.cell? ⟨w.heap.size + 1, 4, none⟩ = some u ∧ w'.cell? ⟨w.heap.size + 1, 5, none⟩ = some q ∧ w'.cell? ⟨w.heap.size + 1, 6, none⟩ = some g)
      (exact unhide KZ _ (by repeat (first | exact Below.refl _ _ | exact b4' | exact b3' | apply Below.drew)))
      (first
        | (go_at_call 22; refine (tInts_any lv l _ (Ints.up (by repeat (first | exact Below.refl _ _ | apply Below.drew)) (Ints.up hw0 (unhide HV))) hl).mono ?_; rintro e w3 ⟨o3, rfl, hO3, b3⟩; have b3' : Below W.heap.size W w3 := bl_trans (by repeat (first | exact Below.refl _ _ | apply Below.drew)) b3)
        | (go_at_call 24; refine (tPlace_any r a h vm nv S b v u q g o3 l sz wo w3 ((unhide HS).up (bl_trans hw0 b3')) (hO3.ints (unhide HV).wf)).mono ?_; rintro e w4 ⟨rfl, b4⟩; rw [unhide HE, unhide HVV]; have b4' : Below W.heap.size W w4 := bl_trans b3' b4)
        | fail)
    all_goals
      go_wp2
      go_meet
      case rel => exact ⟨rfl, rfl, b4'⟩
  case rest =>
    obtain ⟨rfl, rfl, hbc⟩ := hcut
    obtain ⟨⟨g0, g1, g2, g3, g4⟩, x0, x1, x2, x3, x4, x5, x6⟩ := unhide KZ _ hbc
    have hwc := bl_trans hw0 hbc
    have hlc : w.heap.size < wc.heap.size := World.block_lt_of_cell? _ _ g0
    have hlc2 : w.heap.size + 1 < wc.heap.size := World.block_lt_of_cell? _ _ x0
    go_wp2_with fail
    refine (placeOf_any r a h vm nv S b v u q g lv l sz wo _ ((unhide HS).up hwc) (Ints.up hwc (unhide HV))).mono ?_
    rintro e w5 ⟨rfl, hb5⟩
    rw [unhide HE, unhide HVV]
    clear x0 x1 x2 x3 x4 x5 x6 g0 g1 g2 g3 g4
    go_wp2
    go_ret
    exact ⟨rfl, bl_trans hwc hb5⟩
end Go.Proofs.Ytkogbgeadlnnfaa
