/- icehouselaw.TierHalf: the walk. -/
import Derived.Test.YtdalkkjojflakaaTio
import Derived.Test.YtdalkkjojflakaaTin
import Derived.Deep.RegionHeld3
namespace Go.Proofs.Ytdalkkjojflakaa
open Go.RowKit Go.Maps
set_option maxRecDepth 100000
set_option linter.unusedVariables false
set_option linter.unusedSimpArgs false
theorem halL_wf (S : St) (l : List Int) : ∀ x ∈ halL S l, (Lit.int .i64 x).wf = true := by
  unfold halL
  split
  · rename_i h
    refine ids_wf ?_ _ _
    unfold halE at h
    cases hc : stC S
    · rw [hc] at h; cases h
    · rfl
  · intro x hx; cases hx
set_option maxHeartbeats 1000000 in
theorem tierHalf_walk (b v u q g : Value) (S : St) (lv : Value) (l : List Int) (w : World) (hS : Sta w b v u q g S) (_ : FitS S) (hv : Ints w lv l) (hl : l.length * 8 ≤ 140737488355328) :
    Calls Try.prog 8 #[stV S b v u q g, lv] w fun e w' => e = .returned (.bool true) ∧ Below w.heap.size w w' := by
  have HS := hide hS
  have HV := hide hv
  clear hS hv
  go_enter Try.func8, Try.ntmps8
  go_upto_region 1 with fail
  have hw0 := bl1 w (.cells #[.int .i64 S.next, .int .i64 S.clock, b, v, u, q, g] 59)
  have hBS := BoxS.new w S b v u q g 59
  obtain ⟨W, hW⟩ : ∃ W, w.alloc (.cells #[.int .i64 S.next, .int .i64 S.clock, b, v, u, q, g] 59) = W := ⟨_, rfl⟩
  rw [hW] at hw0 hBS ⊢
  have hl1 := hBS.lt
  have HBS := hide hBS
  have KZ : Hid (∀ w', Below W.heap.size W w' → (w'.cell? ⟨w.heap.size, 0, none⟩ = some (.int .i64 S.next) ∧ w'.cell? ⟨w.heap.size, 1, none⟩ = some (.int .i64 S.clock) ∧ w'.cell? ⟨w.heap.size, 2, none⟩ = some b ∧ w'.cell? ⟨w.heap.size, 3, none⟩ = some v ∧ w'.cell? ⟨w.heap.size, 4, none⟩ = some u ∧ w'.cell? ⟨w.heap.size, 5, none⟩ = some q ∧ w'.cell? ⟨w.heap.size, 6, none⟩ = some g)) := by
    intro w' hb
    have h1 := (unhide HBS).up hb
    exact ⟨h1.c0, h1.c1, h1.c2, h1.c3, h1.c4, h1.c5, h1.c6⟩
  clear hW hBS
  obtain ⟨E, hE⟩ : ∃ E, halE S l = E := ⟨_, rfl⟩
  obtain ⟨V, hV⟩ : ∃ V, halV S l = V := ⟨_, rfl⟩
  have HE := hide hE
  have HVV := hide hV
  clear hE hV
  go_cut [5, 6, 7] (fun a o e wc => a = .int .i64 V ∧ e = .int .i64 E ∧ OwI wc W.heap.size o (halL S l) ∧ Below W.heap.size W wc)
  case first =>
    go_region_held3 (fun w' => w'.cell? ⟨w.heap.size, 0, none⟩ = some (.int .i64 S.next) ∧ w'.cell? ⟨w.heap.size, 1, none⟩ = some (.int .i64 S.clock) ∧ w'.cell? ⟨w.heap.size, 2, none⟩ = some b ∧ w'.cell? ⟨w.heap.size, 3, none⟩ = some v ∧ w'.cell? ⟨w.heap.size, 4, none⟩ = some u ∧ w'.cell? ⟨w.heap.size, 5, none⟩ = some q ∧ w'.cell? ⟨w.heap.size, 6, none⟩ = some g)
      (exact unhide KZ _ (by repeat (first | exact Below.refl _ _ | exact b4' | exact b3' | apply Below.drew)))
      (first
        | (go_at_call 10; refine (tInts_any lv l _ (Ints.up (by repeat (first | exact Below.refl _ _ | apply Below.drew)) (Ints.up hw0 (unhide HV))) hl).mono ?_; rintro e w3 ⟨o3, rfl, hO3, b3⟩; have b3' : Below W.heap.size W w3 := bl_trans (by repeat (first | exact Below.refl _ _ | apply Below.drew)) b3)
        | (go_at_call 23; refine (tHalf_any S b v u q g o3 l w3 ((unhide HS).up (bl_trans hw0 b3')) (hO3.ints (unhide HV).wf)).mono ?_; rintro e w4 ⟨o4, rfl, hO4, b4⟩; rw [unhide HE, unhide HVV]; have b4' : Below W.heap.size W w4 := bl_trans b3' b4)
        | fail)
    all_goals
      go_wp2
      go_meet
      case rel => exact ⟨rfl, rfl, own_lo hO4 b3'.size, b4'⟩
  case rest =>
    obtain ⟨rfl, rfl, hO, hbc⟩ := hcut
    have hX := (unhide HBS).up hbc
    have hwc := bl_trans hw0 hbc
    have x0 := hX.c0
    have x1 := hX.c1
    have x2 := hX.c2
    have x3 := hX.c3
    have x4 := hX.c4
    have x5 := hX.c5
    have x6 := hX.c6
    have hlc := hX.lt
    have HI1 := hide (hO.ints (halL_wf S l))
    clear hX hO
    go_wp2_with fail
    refine (halfOf_any S b v u q g lv l _ ((unhide HS).up hwc) (Ints.up hwc (unhide HV))).mono ?_
    rintro e w5 ⟨o5, rfl, hO5, hb5⟩
    have HI2 := hide (hO5.ints (halL_wf S l))
    rw [unhide HE, unhide HVV]
    clear x0 x1 x2 x3 x4 x5 x6 hO5
    go_wp2_with fail
    refine (sameInts_any _ o5 (halL S l) _ (Ints.up hb5 (unhide HI1)) (unhide HI2)).mono ?_
    rintro e w6 ⟨rfl, hb6⟩
    go_wp2
    go_ret
    exact ⟨rfl, bl_trans (bl_trans hwc hb5) hb6⟩
end Go.Proofs.Ytdalkkjojflakaa
