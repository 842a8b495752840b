/- The law of reads: the walk. -/
import Derived.Test.YtbdpmigebnahkaaReo
import Derived.Test.YtbdpmigebnahkaaNap
import Derived.Deep.RegionHeld3
namespace Go.Proofs.Ytbdpmigebnahkaa
open Go.RowKit
set_option linter.unusedVariables false
set_option linter.unusedSimpArgs false
set_option maxHeartbeats 2000000 in
set_option maxRecDepth 100000 in
theorem hotReads_walk (r a h vm nv : Int) (s c v : Value) (D : Dv) (lv : Value) (l : List Int) (n : Int) (w : World) (hD : Dev w s c v D) (_ : Fits D) (hv : Nts w lv l) (hl : l.length * 8 ≤ 140737488355328) (_ : (Lit.int .i64 n).wf = true) :
    Calls Try.prog 4 #[.agg #[.int .i64 r, .int .i64 a, .int .i64 h, .int .i64 vm, .int .i64 nv], .agg #[s, c, v, .int .i64 D.fuel], lv, .int .i64 n] w fun e w' => e = .returned (.bool true) ∧ Below w.heap.size w w' := by
  have HD := hide hD
  have HV := hide hv
  clear hD hv
  obtain ⟨E, hE⟩ : ∃ E, romE h l n (chkE r a h vm nv D) = E := ⟨_, rfl⟩
  have HE := hide hE
  clear hE
  go_enter Try.func4, Try.ntmps4
  go_wp2
  obtain ⟨W0, hW0⟩ : ∃ W0, W0 = (w.alloc (.cells #[.int .i64 r, .int .i64 a, .int .i64 h, .int .i64 vm, .int .i64 nv] 23)).alloc (.cells #[s, c, v, .int .i64 D.fuel] 28) := ⟨_, rfl⟩
  have hb0 : Below w.heap.size w W0 := by rw [hW0]; exact bl2 _ _ _
  have KS : Hid (∀ w', Below W0.heap.size W0 w' → w'.cell? ⟨w.heap.size, 0, none⟩ = some (.int .i64 r) ∧ w'.cell? ⟨w.heap.size, 1, none⟩ = some (.int .i64 a) ∧ w'.cell? ⟨w.heap.size, 2, none⟩ = some (.int .i64 h) ∧ w'.cell? ⟨w.heap.size, 3, none⟩ = some (.int .i64 vm) ∧ w'.cell? ⟨w.heap.size, 4, none⟩ = some (.int .i64 nv) ∧ w'.cell? ⟨w.heap.size + 1, 0, none⟩ = some s ∧ w'.cell? ⟨w.heap.size + 1, 1, none⟩ = some c ∧ w'.cell? ⟨w.heap.size + 1, 2, none⟩ = some v ∧ w'.cell? ⟨w.heap.size + 1, 3, none⟩ = some (.int .i64 D.fuel)) :=
    fun w' hb => by
      rw [hW0] at hb
      exact ⟨box2a hb 0 rfl, box2a hb 1 rfl, box2a hb 2 rfl, box2a hb 3 rfl, box2a hb 4 rfl, box2b hb 0 rfl, box2b hb 1 rfl, box2b hb 2 rfl, box2b hb 3 rfl⟩
  rw [← hW0]
  clear hW0
  obtain ⟨g0, g1, g2, g3, g4, f0, f1, f2, f3⟩ := unhide KS _ (Below.refl _ _)
  go_cut [9, 10] (fun u e wc => Bts wc u (okL E (reaL r a D l n)) ∧ e = .int .i64 E ∧ Below W0.heap.size W0 wc)
  case first =>
    go_region_held3 (fun w' => w'.cell? ⟨w.heap.size, 0, none⟩ = some (.int .i64 r) ∧ w'.cell? ⟨w.heap.size, 1, none⟩ = some (.int .i64 a) ∧ w'.cell? ⟨w.heap.size, 2, none⟩ = some (.int .i64 h) ∧ w'.cell? ⟨w.heap.size, 3, none⟩ = some (.int .i64 vm) ∧ w'.cell? ⟨w.heap.size, 4, none⟩ = some (.int .i64 nv) ∧ w'.cell? ⟨w.heap.size + 1, 0, none⟩ = some s ∧ w'.cell? ⟨w.heap.size + 1, 1, none⟩ = some c ∧ w'.cell? ⟨w.heap.size + 1, 2, none⟩ = some v ∧ w'.cell? ⟨w.heap.size + 1, 3, none⟩ = some (.int .i64 D.fuel))
      (exact unhide KS _ (by repeat (first | exact Below.refl _ _ | exact b3' | exact b2 | apply Below.drew)))
      (first
        | (go_at_call 15; refine (intsLaw_any _ l _ (((unhide HV).up hb0).up (by repeat (first | exact Below.refl _ _ | apply Below.drew))) hl).mono ?_; rintro e w2 ⟨u2, rfl, h2, b2⟩; replace b2 : Below W0.heap.size W0 w2 := Below.trans (by repeat (first | exact Below.refl _ _ | apply Below.drew)) b2)
        | (go_at_call 19; refine (read_any r a h vm nv s c v D _ l n _ ((unhide HD).up (bl_trans hb0 b2)) h2.nts).mono ?_; rintro e w3 ⟨u3, rfl, hB3, b3⟩; rw [unhide HE] at hB3 ⊢; have b3' : Below W0.heap.size W0 w3 := bl_trans b2 b3))
    all_goals
      go_wp2
      go_meet
      case rel => exact ⟨hB3, rfl, b3'⟩
  case rest =>
    obtain ⟨hB, rfl, hbc⟩ := hcut
    have HB := hide hB
    clear hB g0 g1 g2 g3 g4 f0 f1 f2 f3
    obtain ⟨g0, g1, g2, g3, g4, f0, f1, f2, f3⟩ := unhide KS _ hbc
    go_wp2_with fail
    refine (readOf_any r a h vm nv s c v D lv l n _ ((unhide HD).up (bl_trans hb0 hbc)) ((unhide HV).up (bl_trans hb0 hbc))).mono ?_
    rintro e w2 ⟨u', rfl, hB2, hb2⟩
    rw [unhide HE] at hB2 ⊢
    have s1 := ((unhide HB).up hb2).str
    have s2 := hB2.str
    obtain ⟨S, hS⟩ : ∃ S, strOfNums (okL E (reaL r a D l n)) = S := ⟨_, rfl⟩
    rw [hS] at s1 s2
    clear hB2 HB hS
    go_wp2
    go_ret
    exact ⟨ret_bool (by simp), bl_trans (bl_trans hb0 hbc) hb2⟩
end Go.Proofs.Ytbdpmigebnahkaa
