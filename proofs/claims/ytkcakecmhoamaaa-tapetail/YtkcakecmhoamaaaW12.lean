import Derived.Test.YtkcakecmhoamaaaArmC
import Derived.Test.YtkcakecmhoamaaaSame2
namespace Go.Proofs.Ytkcakecmhoamaaa
open Go.RowKit
set_option linter.unusedVariables false
set_option linter.unusedSimpArgs false

theorem have_of {p q : Prop} (hp : p) (h : p → q) : q := h hp
theorem R4 {w : World} {g : Nat} {t : TypeId} {a0 b0 c0 d0 : Value} (h : Row w g t [a0, b0, c0, d0]) (a b c d : Value) : Row ((((w.setCell ⟨g, 0, none⟩ a).setCell ⟨g, 1, none⟩ b).setCell ⟨g, 2, none⟩ c).setCell ⟨g, 3, none⟩ d) g t [a, b, c, d] := (((h.set 0 a).set 1 b).set 2 c).set 3 d
theorem O4 {w : World} {B g : Nat} {s c v : Value} {D : Dv} (h : ODev w B s c v D) {cs : List Value} (hr : Row w g 31 cs) (a b x d : Value) : ODev ((((w.setCell ⟨g, 0, none⟩ a).setCell ⟨g, 1, none⟩ b).setCell ⟨g, 2, none⟩ x).setCell ⟨g, 3, none⟩ d) B s c v D :=
  h.kept hr (by decide) (by decide) (by decide) (by decide) (gb_set (gb_set (gb_set (gb_set (gb_refl _ _) _ _) _ _) _ _) _ _)
attribute [local go_sem ↓] Go.wp_at_zero Go.wp_at_succ
set_option maxHeartbeats 4000000 in
set_option maxRecDepth 100000 in
theorem devArms_walk (r a h vm nv : Int) (s c v : Value) (D : Dv) (f : Int) (w : World) (hD : Dev w s c v D) (hfit : Fits D) (_ : (Lit.int .i64 f).wf = true) :
    Calls Try.prog 14 #[.agg #[.int .i64 r, .int .i64 a, .int .i64 h, .int .i64 vm, .int .i64 nv], .agg #[s, c, v, .int .i64 D.fuel], .int .i64 f] w fun e w' => e = .returned (.bool true) ∧ Below w.heap.size w w' := by
  have HD := hide hD
  obtain ⟨⟨a1, cap1, rfl, _⟩, ⟨a2, cap2, rfl, _⟩, ⟨a3, cap3, rfl, _⟩⟩ := hD
  go_enter Try.func14, Try.ntmps14
  go_wp2
  obtain ⟨W0, hW0⟩ : ∃ W0, W0 = (w.alloc (.cells #[.int .i64 r, .int .i64 a, .int .i64 h, .int .i64 vm, .int .i64 nv] 23)).alloc (.cells #[.slice a1 D.safe.length cap1, .slice a2 D.cache.length cap2, .slice a3 D.vols.length cap3, .int .i64 D.fuel] 31) := ⟨_, rfl⟩
  have hb0 : Below w.heap.size w W0 := by rw [hW0]; exact bl2 _ _ _
  have hs : Below W0.heap.size ((w.alloc (.cells #[.int .i64 r, .int .i64 a, .int .i64 h, .int .i64 vm, .int .i64 nv] 23)).alloc (.cells #[.slice a1 D.safe.length cap1, .slice a2 D.cache.length cap2, .slice a3 D.vols.length cap3, .int .i64 D.fuel] 31)) W0 := by rw [← hW0]; exact Below.refl _ W0
  rw [hW0] at hs
  have g0 : W0.cell? ⟨w.heap.size, 0, none⟩ = some (.int .i64 r) := by rw [hW0]; exact box2a hs 0 rfl
  have g1 : W0.cell? ⟨w.heap.size, 1, none⟩ = some (.int .i64 a) := by rw [hW0]; exact box2a hs 1 rfl
  have g2 : W0.cell? ⟨w.heap.size, 2, none⟩ = some (.int .i64 h) := by rw [hW0]; exact box2a hs 2 rfl
  have g3 : W0.cell? ⟨w.heap.size, 3, none⟩ = some (.int .i64 vm) := by rw [hW0]; exact box2a hs 3 rfl
  have g4 : W0.cell? ⟨w.heap.size, 4, none⟩ = some (.int .i64 nv) := by rw [hW0]; exact box2a hs 4 rfl
  have f0 : W0.cell? ⟨w.heap.size + 1, 0, none⟩ = some (.slice a1 D.safe.length cap1) := by rw [hW0]; exact box2b hs 0 rfl
  have f1 : W0.cell? ⟨w.heap.size + 1, 1, none⟩ = some (.slice a2 D.cache.length cap2) := by rw [hW0]; exact box2b hs 1 rfl
  have f2 : W0.cell? ⟨w.heap.size + 1, 2, none⟩ = some (.slice a3 D.vols.length cap3) := by rw [hW0]; exact box2b hs 2 rfl
  have f3 : W0.cell? ⟨w.heap.size + 1, 3, none⟩ = some (.int .i64 D.fuel) := by rw [hW0]; exact box2b hs 3 rfl
  clear hs
  rw [← hW0]
  clear hW0
  have KS : Hid (∀ w', Below W0.heap.size W0 w' → w'.cell? ⟨w.heap.size, 0, none⟩ = some (.int .i64 r) ∧ w'.cell? ⟨w.heap.size, 1, none⟩ = some (.int .i64 a) ∧ w'.cell? ⟨w.heap.size, 2, none⟩ = some (.int .i64 h) ∧ w'.cell? ⟨w.heap.size, 3, none⟩ = some (.int .i64 vm) ∧ w'.cell? ⟨w.heap.size, 4, none⟩ = some (.int .i64 nv) ∧ w'.cell? ⟨w.heap.size + 1, 0, none⟩ = some (.slice a1 D.safe.length cap1) ∧ w'.cell? ⟨w.heap.size + 1, 1, none⟩ = some (.slice a2 D.cache.length cap2) ∧ w'.cell? ⟨w.heap.size + 1, 2, none⟩ = some (.slice a3 D.vols.length cap3) ∧ w'.cell? ⟨w.heap.size + 1, 3, none⟩ = some (.int .i64 D.fuel)) :=
    fun w' hb => ⟨cell_up hb g0, cell_up hb g1, cell_up hb g2, cell_up hb g3, cell_up hb g4, cell_up hb f0, cell_up hb f1, cell_up hb f2, cell_up hb f3⟩
  obtain ⟨E, hE⟩ : ∃ E, armE f (chkE r a h vm nv D) = E := ⟨_, rfl⟩
  have HE := hide hE
  clear hE
  go_cut [7, 8] (fun p e wc => ∃ Ba s' c' v', p = .pointer (some ⟨Ba, 0, none⟩) ∧ e = .int .i64 E ∧ Row wc Ba 31 [s', c', v', .int .i64 (armD D f E).fuel] ∧ ODev wc W0.heap.size s' c' v' (armD D f E) ∧ Below W0.heap.size W0 wc)
  case first =>
    go_region_held3 (fun w' => w'.cell? ⟨w.heap.size, 0, none⟩ = some (.int .i64 r) ∧ w'.cell? ⟨w.heap.size, 1, none⟩ = some (.int .i64 a) ∧ w'.cell? ⟨w.heap.size, 2, none⟩ = some (.int .i64 h) ∧ w'.cell? ⟨w.heap.size, 3, none⟩ = some (.int .i64 vm) ∧ w'.cell? ⟨w.heap.size, 4, none⟩ = some (.int .i64 nv) ∧ w'.cell? ⟨w.heap.size + 1, 0, none⟩ = some (.slice a1 D.safe.length cap1) ∧ w'.cell? ⟨w.heap.size + 1, 1, none⟩ = some (.slice a2 D.cache.length cap2) ∧ w'.cell? ⟨w.heap.size + 1, 2, none⟩ = some (.slice a3 D.vols.length cap3) ∧ w'.cell? ⟨w.heap.size + 1, 3, none⟩ = some (.int .i64 D.fuel))
      (exact unhide KS _ (by repeat (first | exact Below.refl _ _ | apply Below.drew | apply bl_alloc | refine bl_set ?_ (by simp <;> omega) _ | exact hbB | exact hbA)))
      (first
        | (go_at_call 29; refine (devCopy_any _ _ _ D D.fuel _ (by exact (unhide HD).up (bl_trans hb0 (by repeat (first | exact Below.refl _ _ | apply Below.drew | apply bl_alloc)))) hfit).mono ?_; rintro e wA ⟨s', c', v', rfl, hOA, hbA0⟩; have hbA : Below W0.heap.size W0 wA := bl_trans (by repeat (first | exact Below.refl _ _ | apply Below.drew | apply bl_alloc)) hbA0; have hwA := hbA.size; have hdA := hOA.dev; obtain ⟨⟨b1, dap1, rfl, _⟩, ⟨b2, dap2, rfl, _⟩, ⟨b3, dap3, rfl, _⟩⟩ := hdA; (try (refine have_of (Row.up (g := W0.heap.size) (t := 31) (cs := [.slice none 0 0, .slice none 0 0, .slice none 0 0, .int .i64 0]) ?_ hbA0) ?_; (focus (first | exact Row.new _ _ _ | exact Row.dr (Row.new _ _ _))); intro yr)))
        | (go_at_call 47; refine (arm_any r a h vm nv _ _ _ D f _ (by exact hOA.dev.up (by repeat (first | exact Below.refl _ _ | apply Below.drew | apply bl_alloc)))).mono ?_; rintro e wB ⟨t', d', z', rfl, hOB, hbB0⟩; have hbB : Below W0.heap.size W0 wB := bl_trans (by repeat (first | exact hbA | apply Below.drew | apply bl_alloc)) hbB0; have hwB := hbB.size; have hdB := hOB.dev; obtain ⟨⟨e1, eap1, rfl, _⟩, ⟨e2, eap2, rfl, _⟩, ⟨e3, eap3, rfl, _⟩⟩ := hdB; rw [unhide HE] at hOB ⊢; (try (refine have_of (Row.up (g := wA.heap.size) (t := 31) (cs := [.slice none 0 0, .slice none 0 0, .slice none 0 0, .int .i64 0]) ?_ hbB0) ?_; (focus (first | exact Row.new _ _ _ | exact Row.dr (Row.new _ _ _))); intro zr; have z0 := zr.cell 0 _ rfl; have z1 := zr.cell 1 _ rfl; have z2 := zr.cell 2 _ rfl; have z3 := zr.cell 3 _ rfl; have zf := zr.unfrozen)); (try (have zr := yr.up hbB0; have z0 := zr.cell 0 _ rfl; have z1 := zr.cell 1 _ rfl; have z2 := zr.cell 2 _ rfl; have z3 := zr.cell 3 _ rfl; have zf := zr.unfrozen))))
    all_goals
      go_wp2
      go_meet
      case rel =>
        refine ⟨_, .slice e1 (armD D f E).safe.length eap1, .slice e2 (armD D f E).cache.length eap2, .slice e3 (armD D f E).vols.length eap3, rfl, rfl, ?_, ?_, ?_⟩
        · first | exact R4 zr _ _ _ _ | exact Row.new _ _ _
        · first | exact O4 (hOB.base (by first | omega | (simp; omega))) zr _ _ _ _ | exact (hOB.up (bl1 _ _)).base (by first | omega | (simp; omega))
        · repeat (first | exact hbB | apply Below.drew | apply bl_alloc | refine bl_set ?_ (by simp <;> omega) _)
  case rest =>
    obtain ⟨Ba, s', c', v', rfl, rfl, hrow, hO, hbc⟩ := hcut
    have hd := hO.dev
    have HO1 := hide hO.dev
    have hbW := hide (bl_trans hb0 hbc)
    have HDc := hide ((unhide HD).up (bl_trans hb0 hbc))
    obtain ⟨⟨b1, dap1, rfl, _⟩, ⟨b2, dap2, rfl, _⟩, ⟨b3, dap3, rfl, _⟩⟩ := hd
    obtain ⟨g0, g1, g2, g3, g4, f0, f1, f2, f3⟩ := unhide KS _ hbc
    have r0 := hrow.cell 0 _ rfl
    have r1 := hrow.cell 1 _ rfl
    have r2 := hrow.cell 2 _ rfl
    have r3 := hrow.cell 3 _ rfl
    clear hO hb0 KS
    obtain ⟨F, hF⟩ : ∃ F, (armD D f E).fuel = F := ⟨_, rfl⟩
    have HF := hide hF
    rw [hF] at r3
    clear hF hrow
    go_wp2_with fail
    refine (armedOf_any r a h vm nv _ _ _ D f _ (unhide HDc)).mono ?_
    rintro e w2 ⟨s', c', v', rfl, hO2, hb2⟩
    rw [unhide HE] at hO2 ⊢
    have hd := hO2.dev
    have HO2 := hide hO2.dev
    have k0 := cell_up hb2 r0
    have k1 := cell_up hb2 r1
    have k2 := cell_up hb2 r2
    have k3 := cell_up hb2 r3
    have HO1' := hide ((unhide HO1).up hb2)
    obtain ⟨⟨i1, lap1, rfl, _⟩, ⟨i2, lap2, rfl, _⟩, ⟨i3, lap3, rfl, _⟩⟩ := hd
    have hbZ := hide (bl_trans (unhide hbW) hb2)
    have hBl : Ba < w2.heap.size := World.block_lt_of_cell? w2 _ k0
    clear hO2 hb2
    rw [unhide HF]
    go_wp2_with fail
    refine (sameDevices_f _ _ _ _ _ _ (armD D f E) F _ ((unhide HO1').up (bl1 _ _)) ((unhide HO2).up (bl1 _ _))).mono ?_
    rintro e w4 ⟨rfl, hb4⟩
    go_wp2
    go_ret
    exact ⟨rfl, bl_trans (unhide hbZ) (bl_trans (bl1 _ _) hb4)⟩
end Go.Proofs.Ytkcakecmhoamaaa
