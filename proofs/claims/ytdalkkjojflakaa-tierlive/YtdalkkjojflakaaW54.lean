/- icehouselaw.TierLive: the walk. -/
import Derived.Test.YtdalkkjojflakaaTik
namespace Go.Proofs.Ytdalkkjojflakaa
open Go.RowKit Go.Maps
set_option maxRecDepth 100000
set_option linter.unusedVariables false
set_option linter.unusedSimpArgs false
theorem livS_wf (S : St) : ∀ x ∈ livS S, (Lit.int .i64 x).wf = true := by
  cases h : stC S
  · rw [livS_f h]; intro x hx; cases hx
  · rw [livS_t h]
    intro x hx
    unfold livL at hx
    obtain ⟨n, _, rfl⟩ := List.mem_map.1 hx
    have h1 := livK_bd h S.ves.length (Nat.le_refl _) n
    have h2 := tstC_len h
    obtain ⟨m, hm⟩ := Int.eq_ofNat_of_zero_le h1.1
    rw [hm]
    exact wfNat (by omega)
set_option maxHeartbeats 1000000 in
theorem tierLive_walk (b v u q g : Value) (S : St) (w : World) (hS : Sta w b v u q g S) :
    Calls Try.prog 7 #[stV S b v u q g] w fun e w' => e = .returned (.bool true) ∧ Below w.heap.size w w' := by
  have HS := hide hS
  clear hS
  go_enter Try.func7, Try.ntmps7
  go_wp2_with fail
  refine (tLive_any S b v u q g _ ((unhide HS).up (bl1 _ _))).mono ?_
  rintro e w1 ⟨o1, rfl, hO1, hb⟩
  have hX := (BoxS.new w S b v u q g 59).up hb
  have x0 := hX.c0
  have x1 := hX.c1
  have x2 := hX.c2
  have x3 := hX.c3
  have x4 := hX.c4
  have x5 := hX.c5
  have x6 := hX.c6
  have hw1 := bl_trans (bl1 w _) hb
  have HI1 := hide (hO1.ints (livS_wf S))
  clear hX hb hO1
  obtain ⟨E, hE⟩ : ∃ E, stE S = E := ⟨_, rfl⟩
  rw [hE]
  have HE := hide hE
  clear hE
  go_wp2_with fail
  refine (liveOf_any S b v u q g _ ((unhide HS).up hw1)).mono ?_
  rintro e w2 ⟨o2, rfl, hO2, hb2⟩
  have HI2 := hide (hO2.ints (livS_wf S))
  rw [unhide HE]
  clear x0 x1 x2 x3 x4 x5 x6 hO2
  go_wp2_with fail
  refine (sameInts_any o1 o2 (livS S) _ (Ints.up hb2 (unhide HI1)) (unhide HI2)).mono ?_
  rintro e w3 ⟨rfl, hb3⟩
  go_wp2
  go_ret
  exact ⟨rfl, bl_trans (bl_trans hw1 hb2) hb3⟩
end Go.Proofs.Ytdalkkjojflakaa
