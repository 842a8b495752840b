/- tier.Freeze, Drop, Chill, Next. -/
import Derived.Test.YtdgmdapijhbocaaGreatTicq
namespace Go.Proofs.YtdgmdapijhbocaaGreat
open Go.RowKit Go.Maps
set_option maxRecDepth 100000
set_option linter.unusedVariables false
set_option linter.unusedSimpArgs false
def idsL (S : St) (p : Ve → Bool) : List Int := if stC S then idsK S.ves p S.ves.length else []
theorem idsL_f {S : St} {p : Ve → Bool} (h : stC S = false) : idsL S p = [] := by simp [idsL, h]
theorem idsL_t {S : St} {p : Ve → Bool} (h : stC S = true) : idsL S p = idsK S.ves p S.ves.length := by simp [idsL, h]
theorem idsL_wf (S : St) (p : Ve → Bool) : ∀ x ∈ idsL S p, (Lit.int .i64 x).wf = true := by
  cases h : stC S
  · rw [idsL_f h]; intro x hx; cases hx
  · rw [idsL_t h]; exact ids_wf h p _
theorem checkedIds_fre (C1 : Value) (S : St) (b v u q g : Value) (p : Ve → Bool) (w : World) (hS : Sta w b v u q g S)
    (hst : stC S = true → ∀ (k : Nat) (wr : World) (X : Ve) (ua : Option Addr) (un uc : Nat), k < S.ves.length → S.ves.getD k ve0 = X → Below w.heap.size w wr → X.bu.size ≤ maxLen → X.ke.size ≤ maxLen → Calls Tryz.prog 47 #[veV X (.slice ua un uc), C1] wr fun e w' => e = .returned (.bool (p X)) ∧ Below wr.heap.size wr w') :
    Calls Tryz.prog 46 #[stV S b v u q g, .func (.func 47) #[] #[C1]] w fun e w' => ∃ o, e = .returned (.tuple #[o, .int .i64 (stE S)]) ∧ OwI w' w.heap.size o (idsL S p) ∧ Below w.heap.size w w' := by
  have HS := hide hS
  have HST := hide hst
  clear hS hst
  obtain ⟨E, hE⟩ : ∃ E, stE S = E := ⟨_, rfl⟩
  obtain ⟨L, hL⟩ : ∃ L, idsL S p = L := ⟨_, rfl⟩
  rw [hE, hL]
  have HE := hide hE
  have HL := hide hL
  clear hE hL
  go_enter Tryz.func46, Tryz.ntmps46
  go_wp2_with fail
  refine (check_any S b v u q g _ ((unhide HS).up (bl1 _ _))).mono ?_
  rintro e w1 ⟨rfl, hb⟩
  have hX := (BoxS.new w S b v u q g 29).up hb
  have hw1 := bl_trans (bl1 w _) hb
  have x0 := hX.c0
  have x1 := hX.c1
  have x2 := hX.c2
  have x3 := hX.c3
  have x4 := hX.c4
  have x5 := hX.c5
  have x6 := hX.c6
  clear hX hb
  rw [unhide HE]
  cases hc : stC S
  · have hf : E = 9 := by rw [← unhide HE]; exact stE_f hc
    have HL' : Hid (L = []) := by show _ = _; rw [← unhide HL]; exact idsL_f hc
    clear hc
    subst hf
    go_wp2
    go_ret2
    exact ⟨_, rfl, by rw [unhide HL']; exact OwI.nil _ _, hw1⟩
  have hf : E = 0 := by rw [← unhide HE]; exact stE_t hc
  have hlen := tstC_len hc
  have HL' : Hid (L = idsK S.ves p S.ves.length) := by show _ = _; rw [← unhide HL]; exact idsL_t hc
  have HST' := hide (unhide HST hc)
  clear hc HE HL HST
  subst hf
  go_wp2_with fail
  refine (ids_fre C1 S b v u q g p _ ((unhide HS).up hw1) (by omega) fun k wr X ua un uc hk hX hbr => unhide HST' k wr X ua un uc hk hX (bl_trans hw1 hbr)).mono ?_
  rintro e w2 ⟨o, rfl, hO, hb2⟩
  go_wp2
  go_ret2
  exact ⟨o, rfl, by rw [unhide HL']; exact own_lo hO hw1.size, bl_trans hw1 hb2⟩
theorem checkedIds_dro (C1 : Value) (S : St) (b v u q g : Value) (p : Ve → Bool) (w : World) (hS : Sta w b v u q g S)
    (hst : stC S = true → ∀ (k : Nat) (wr : World) (X : Ve) (ua : Option Addr) (un uc : Nat), k < S.ves.length → S.ves.getD k ve0 = X → Below w.heap.size w wr → X.bu.size ≤ maxLen → X.ke.size ≤ maxLen → Calls Tryz.prog 50 #[veV X (.slice ua un uc), C1] wr fun e w' => e = .returned (.bool (p X)) ∧ Below wr.heap.size wr w') :
    Calls Tryz.prog 46 #[stV S b v u q g, .func (.func 50) #[] #[C1]] w fun e w' => ∃ o, e = .returned (.tuple #[o, .int .i64 (stE S)]) ∧ OwI w' w.heap.size o (idsL S p) ∧ Below w.heap.size w w' := by
  have HS := hide hS
  have HST := hide hst
  clear hS hst
  obtain ⟨E, hE⟩ : ∃ E, stE S = E := ⟨_, rfl⟩
  obtain ⟨L, hL⟩ : ∃ L, idsL S p = L := ⟨_, rfl⟩
  rw [hE, hL]
  have HE := hide hE
  have HL := hide hL
  clear hE hL
  go_enter Tryz.func46, Tryz.ntmps46
  go_wp2_with fail
  refine (check_any S b v u q g _ ((unhide HS).up (bl1 _ _))).mono ?_
  rintro e w1 ⟨rfl, hb⟩
  have hX := (BoxS.new w S b v u q g 29).up hb
  have hw1 := bl_trans (bl1 w _) hb
  have x0 := hX.c0
  have x1 := hX.c1
  have x2 := hX.c2
  have x3 := hX.c3
  have x4 := hX.c4
  have x5 := hX.c5
  have x6 := hX.c6
  clear hX hb
  rw [unhide HE]
  cases hc : stC S
  · have hf : E = 9 := by rw [← unhide HE]; exact stE_f hc
    have HL' : Hid (L = []) := by show _ = _; rw [← unhide HL]; exact idsL_f hc
    clear hc
    subst hf
    go_wp2
    go_ret2
    exact ⟨_, rfl, by rw [unhide HL']; exact OwI.nil _ _, hw1⟩
  have hf : E = 0 := by rw [← unhide HE]; exact stE_t hc
  have hlen := tstC_len hc
  have HL' : Hid (L = idsK S.ves p S.ves.length) := by show _ = _; rw [← unhide HL]; exact idsL_t hc
  have HST' := hide (unhide HST hc)
  clear hc HE HL HST
  subst hf
  go_wp2_with fail
  refine (ids_dro C1 S b v u q g p _ ((unhide HS).up hw1) (by omega) fun k wr X ua un uc hk hX hbr => unhide HST' k wr X ua un uc hk hX (bl_trans hw1 hbr)).mono ?_
  rintro e w2 ⟨o, rfl, hO, hb2⟩
  go_wp2
  go_ret2
  exact ⟨o, rfl, by rw [unhide HL']; exact own_lo hO hw1.size, bl_trans hw1 hb2⟩
theorem tfre_any (S : St) (b v u q g : Value) (w : World) (hS : Sta w b v u q g S) :
    Calls Tryz.prog 23 #[stV S b v u q g] w fun e w' => ∃ o, e = .returned (.tuple #[o, .int .i64 (stE S)]) ∧ OwI w' w.heap.size o (idsL S (frzP S)) ∧ Below w.heap.size w w' := by
  have HS := hide hS
  clear hS
  go_enter Tryz.func23, Tryz.ntmps23
  go_wp2_with fail
  refine (checkedIds_fre _ S b v u q g (frzP S) _ ((unhide HS).up (bl1 _ _)) ?_).mono ?_
  · intro hc k wr X ua un uc hk hX hbr s1 s2
    subst hX
    obtain ⟨k0, k1⟩ := tstC_clock hc
    obtain ⟨k2, k3⟩ := tveC_time (tstC_at hc (mem_getD hk))
    exact freeze_1 S _ b v u q g ua un uc _ wr (((BoxS.new w S b v u q g _)).up hbr) ((unhide HS).up (bl_trans (bl1 _ _) hbr)) k0 k1 k2 (by omega) s2
  rintro e w1 ⟨o, rfl, hO, hb⟩
  go_wp2
  go_ret2
  exact ⟨o, rfl, own_lo hO (by simp), bl_trans (bl1 _ _) hb⟩
theorem tdro_any (S : St) (b v u q g : Value) (w : World) (hS : Sta w b v u q g S) :
    Calls Tryz.prog 24 #[stV S b v u q g] w fun e w' => ∃ o, e = .returned (.tuple #[o, .int .i64 (stE S)]) ∧ OwI w' w.heap.size o (idsL S (drpP S)) ∧ Below w.heap.size w w' := by
  have HS := hide hS
  clear hS
  go_enter Tryz.func24, Tryz.ntmps24
  go_wp2_with fail
  refine (checkedIds_dro _ S b v u q g (drpP S) _ ((unhide HS).up (bl1 _ _)) ?_).mono ?_
  · intro hc k wr X ua un uc hk hX hbr s1 s2
    subst hX
    obtain ⟨k0, k1⟩ := tstC_clock hc
    obtain ⟨k2, k3⟩ := tveC_time (tstC_at hc (mem_getD hk))
    exact drop_1 S _ b v u q g ua un uc _ wr (((BoxS.new w S b v u q g _)).up hbr) ((unhide HS).up (bl_trans (bl1 _ _) hbr)) k0 k1 k2 (by omega) s2
  rintro e w1 ⟨o, rfl, hO, hb⟩
  go_wp2
  go_ret2
  exact ⟨o, rfl, own_lo hO (by simp), bl_trans (bl1 _ _) hb⟩
end Go.Proofs.YtdgmdapijhbocaaGreat
