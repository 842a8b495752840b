/- The law of writes: the walk. -/
import Derived.Test.YtbdpmigebnahkaaWro
import Derived.Test.YtbdpmigebnahkaaNap
import Derived.Test.YtbdpmigebnahkaaSame2
import Derived.Test.YtbdpmigebnahkaaDCp
namespace Go.Proofs.Ytbdpmigebnahkaa
open Go.RowKit
set_option linter.unusedVariables false
set_option linter.unusedSimpArgs false
attribute [local go_sem ↓] Go.wp_at_zero Go.wp_at_succ
set_option maxHeartbeats 4000000 in
set_option maxRecDepth 100000 in
theorem hotWrites_walk (r a h vm nv : Int) (s c v : Value) (D : Dv) (lv : Value) (l : List Int) (bv : Value) (xs : List Int) (w : World) (hD : Dev w s c v D) (hfit : Fits D) (hN : Nts w lv l) (hLN : l.length * 8 ≤ 140737488355328) (hB : Bts w bv xs) (hL : xs.length ≤ 140737488355328) :
    Calls Try.prog 3 #[.agg #[.int .i64 r, .int .i64 a, .int .i64 h, .int .i64 vm, .int .i64 nv], .agg #[s, c, v, .int .i64 D.fuel], lv, bv] w fun e w' => e = .returned (.bool true) ∧ Below w.heap.size w w' := by
  have HD := hide hD
  have HFIT := hide hfit
  have HBT := hide hB
  have HNT := hide hN
  obtain ⟨⟨a1, cap1, rfl, _⟩, ⟨a2, cap2, rfl, _⟩, ⟨a3, cap3, rfl, _⟩⟩ := hD
  obtain ⟨ab, capb, rfl, _⟩ := hB
  obtain ⟨an, capn, rfl, _⟩ := hN
  clear hfit
  obtain ⟨E, hE⟩ : ∃ E, wroE r a h vm nv D l xs = E := ⟨_, rfl⟩
  have HE := hide hE
  clear hE
  obtain ⟨Z, hZ⟩ : ∃ Z, wroD r a h vm nv D l xs = Z := ⟨_, rfl⟩
  have HZ := hide hZ
  clear hZ
  obtain ⟨F, hF⟩ : ∃ F, Z.fuel = F := ⟨_, rfl⟩
  have HF := hide hF
  clear hF
  go_enter Try.func3, Try.ntmps3
  go_wp2_with fail
  refine (devCopy_any _ _ _ D D.fuel _ ((unhide HD).up (bl2 _ _ _)) (unhide HFIT)).mono ?_
  rintro e w1 ⟨s', c', v', rfl, hO1, hb1⟩
  have HB1 := hide (bl_trans (bl2 _ _ _) hb1)
  have g0 := box2a hb1 0 rfl
  have g1 := box2a hb1 1 rfl
  have g2 := box2a hb1 2 rfl
  have g3 := box2a hb1 3 rfl
  have g4 := box2a hb1 4 rfl
  have f0 := box2b hb1 0 rfl
  have f1 := box2b hb1 1 rfl
  have f2 := box2b hb1 2 rfl
  have f3 := box2b hb1 3 rfl
  have hd := hO1.dev
  have HK := hide hO1.dev
  obtain ⟨⟨b1, dap1, rfl, _⟩, ⟨b2, dap2, rfl, _⟩, ⟨b3, dap3, rfl, _⟩⟩ := hd
  have l1 : w.heap.size + 1 < w1.heap.size := World.block_lt_of_cell? w1 _ f0
  have l0 : w.heap.size < w1.heap.size := by omega
  clear hO1 hb1
  go_wp2
  obtain ⟨W0, hW0⟩ : ∃ W0, W0 = w1.alloc (.cells #[.slice b1 D.safe.length dap1, .slice b2 D.cache.length dap2, .slice b3 D.vols.length dap3, .int .i64 D.fuel] 28) := ⟨_, rfl⟩
  have hb10 : Below w1.heap.size w1 W0 := by rw [hW0]; exact bl1 _ _
  have hrk : Row W0 w1.heap.size 28 [.slice b1 D.safe.length dap1, .slice b2 D.cache.length dap2, .slice b3 D.vols.length dap3, .int .i64 D.fuel] := by rw [hW0]; exact Row.new _ _ _
  have l2 : w1.heap.size < W0.heap.size := hrk.lt
  rw [← hW0]
  clear hW0
  replace g0 := cell_up hb10 g0
  replace g1 := cell_up hb10 g1
  replace g2 := cell_up hb10 g2
  replace g3 := cell_up hb10 g3
  replace g4 := cell_up hb10 g4
  replace f0 := cell_up hb10 f0
  replace f1 := cell_up hb10 f1
  replace f2 := cell_up hb10 f2
  replace f3 := cell_up hb10 f3
  have k0 := hrk.cell 0 _ rfl
  have k1 := hrk.cell 1 _ rfl
  have k2 := hrk.cell 2 _ rfl
  have k3 := hrk.cell 3 _ rfl
  have HK0 := hide ((unhide HK).up hb10)
  have HB0 := hide (bl_trans (unhide HB1) hb10)
  have HBT0 := hide ((unhide HBT).up (bl_trans (unhide HB1) hb10))
  have HNT0 := hide ((unhide HNT).up (bl_trans (unhide HB1) hb10))
  have KS : Hid (∀ w', Below W0.heap.size W0 w' → w'.cell? ⟨w.heap.size, 0, none⟩ = some (.int .i64 r) ∧ w'.cell? ⟨w.heap.size, 1, none⟩ = some (.int .i64 a) ∧ w'.cell? ⟨w.heap.size, 2, none⟩ = some (.int .i64 h) ∧ w'.cell? ⟨w.heap.size, 3, none⟩ = some (.int .i64 vm) ∧ w'.cell? ⟨w.heap.size, 4, none⟩ = some (.int .i64 nv) ∧ w'.cell? ⟨w1.heap.size, 0, none⟩ = some (.slice b1 D.safe.length dap1) ∧ w'.cell? ⟨w1.heap.size, 1, none⟩ = some (.slice b2 D.cache.length dap2) ∧ w'.cell? ⟨w1.heap.size, 2, none⟩ = some (.slice b3 D.vols.length dap3) ∧ w'.cell? ⟨w1.heap.size, 3, none⟩ = some (.int .i64 D.fuel)) :=
    fun w' hb => ⟨cell_up hb g0, cell_up hb g1, cell_up hb g2, cell_up hb g3, cell_up hb g4, cell_up hb k0, cell_up hb k1, cell_up hb k2, cell_up hb k3⟩
  have KF : Hid (∀ w', Below W0.heap.size W0 w' → w'.cell? ⟨w.heap.size + 1, 0, none⟩ = some (.slice a1 D.safe.length cap1) ∧ w'.cell? ⟨w.heap.size + 1, 1, none⟩ = some (.slice a2 D.cache.length cap2) ∧ w'.cell? ⟨w.heap.size + 1, 2, none⟩ = some (.slice a3 D.vols.length cap3) ∧ w'.cell? ⟨w.heap.size + 1, 3, none⟩ = some (.int .i64 D.fuel)) :=
    fun w' hb => ⟨cell_up hb f0, cell_up hb f1, cell_up hb f2, cell_up hb f3⟩
  clear f0 f1 f2 f3 hrk hb10
  go_cut [10, 11] (fun p e wc => ∃ Ba s' c' v', p = .pointer (some ⟨Ba, 0, none⟩) ∧ e = .int .i64 E ∧ Row wc Ba 28 [s', c', v', .int .i64 F] ∧ ODev wc W0.heap.size s' c' v' (Z) ∧ Below W0.heap.size W0 wc)
  case first =>
    go_region_held3 (fun w' => w'.cell? ⟨w.heap.size, 0, none⟩ = some (.int .i64 r) ∧ w'.cell? ⟨w.heap.size, 1, none⟩ = some (.int .i64 a) ∧ w'.cell? ⟨w.heap.size, 2, none⟩ = some (.int .i64 h) ∧ w'.cell? ⟨w.heap.size, 3, none⟩ = some (.int .i64 vm) ∧ w'.cell? ⟨w.heap.size, 4, none⟩ = some (.int .i64 nv) ∧ w'.cell? ⟨w1.heap.size, 0, none⟩ = some (.slice b1 D.safe.length dap1) ∧ w'.cell? ⟨w1.heap.size, 1, none⟩ = some (.slice b2 D.cache.length dap2) ∧ w'.cell? ⟨w1.heap.size, 2, none⟩ = some (.slice b3 D.vols.length dap3) ∧ w'.cell? ⟨w1.heap.size, 3, none⟩ = some (.int .i64 D.fuel))
      (exact unhide KS _ (by repeat (first | exact Below.refl _ _ | exact hbW | exact hbJ | exact hbI | exact hbO | apply Below.drew | apply bl_alloc | refine bl_set ?_ (by simp <;> omega) _)))
      (first
        | (go_at_call 15; refine (intsLaw_any _ l _ ((unhide HNT0).up (by repeat (first | exact Below.refl _ _ | exact hbO | apply Below.drew | apply bl_alloc))) hLN).mono ?_; rintro e wI ⟨uI, rfl, hOI, bI⟩; have hbI : Below W0.heap.size W0 wI := bl_trans (by repeat (first | exact Below.refl _ _ | exact hbO | apply Below.drew | apply bl_alloc)) bI; have hwI := hbI.size; have hNI := hOI.nts; (try (have hBO := hBO.up (Below.trans (by repeat (first | exact Below.refl _ _ | apply Below.drew | apply bl_alloc)) (Below.mono bI (by first | exact Nat.le_refl _ | (simp; done))))) ); (first | (have yr := yr.up bI) | (have yr := Row.up (t := 28) (cs := [.slice none 0 0, .slice none 0 0, .slice none 0 0, .int .i64 0]) (Row.new _ _ _) bI) | (have yr := Row.up (t := 28) (cs := [.slice none 0 0, .slice none 0 0, .slice none 0 0, .int .i64 0]) (Row.dr (Row.new _ _ _)) bI) | skip))
        | (go_at_call 16; refine (octets_any _ xs _ ((unhide HBT0).up (by repeat (first | exact Below.refl _ _ | exact hbI | apply Below.drew | apply bl_alloc))) hL).mono ?_; rintro e wO ⟨uO, rfl, hOO, bO⟩; have hbO : Below W0.heap.size W0 wO := bl_trans (by repeat (first | exact Below.refl _ _ | exact hbI | apply Below.drew | apply bl_alloc)) bO; have hwO := hbO.size; have hBO := hOO.bts; (try (have hNI := hNI.up (Below.trans (by repeat (first | exact Below.refl _ _ | apply Below.drew | apply bl_alloc)) (Below.mono bO (by first | exact Nat.le_refl _ | (simp; done))))) ); (first | (have yr := yr.up bO) | (have yr := Row.up (t := 28) (cs := [.slice none 0 0, .slice none 0 0, .slice none 0 0, .int .i64 0]) (Row.new _ _ _) bO) | (have yr := Row.up (t := 28) (cs := [.slice none 0 0, .slice none 0 0, .slice none 0 0, .int .i64 0]) (Row.dr (Row.new _ _ _)) bO) | skip))
        | (go_at_call 14; refine (write_any r a h vm nv _ _ _ D _ _ l xs _ ((unhide HK0).up (by repeat (first | exact hbO | exact hbI | apply bl_alloc))) (by first | exact hNI | exact hNI.up (bl1 _ _)) (by first | exact hBO | exact hBO.up (bl1 _ _))).mono ?_; rintro e wW ⟨t', d', z', rfl, hOB, bW⟩; have hbW : Below W0.heap.size W0 wW := bl_trans (by repeat (first | exact hbO | exact hbI | apply bl_alloc)) bW; have hwW := hbW.size; have hdB := hOB.dev; rw [unhide HZ] at hOB hdB; rw [unhide HE, unhide HZ, unhide HF]; obtain ⟨⟨e1, eap1, rfl, _⟩, ⟨e2, eap2, rfl, _⟩, ⟨e3, eap3, rfl, _⟩⟩ := hdB; (first | (have yr := yr.up bW) | (have yr := Row.up (t := 28) (cs := [.slice none 0 0, .slice none 0 0, .slice none 0 0, .int .i64 0]) (Row.new _ _ _) bW) | (have yr := Row.up (t := 28) (cs := [.slice none 0 0, .slice none 0 0, .slice none 0 0, .int .i64 0]) (Row.dr (Row.new _ _ _)) bW) | skip); (try (have z0 := yr.cell 0 _ rfl; have z1 := yr.cell 1 _ rfl; have z2 := yr.cell 2 _ rfl; have z3 := yr.cell 3 _ rfl; have zf := yr.unfrozen))))
    all_goals
      go_wp2
      go_meet
      case rel =>
        refine ⟨_, .slice e1 Z.safe.length eap1, .slice e2 Z.cache.length eap2, .slice e3 Z.vols.length eap3, rfl, rfl, ?_, ?_, ?_⟩
        · first | exact R4 yr _ _ _ _ | exact Row.new _ _ _
        · first | exact O4 (hOB.base (by have := hbI.size; have := hbO.size; first | omega | (simp; omega))) yr _ _ _ _ | exact (hOB.up (bl1 _ _)).base (by have := hbI.size; have := hbO.size; first | omega | (simp; omega))
        · repeat (first | exact hbW | apply Below.drew | apply bl_alloc | refine bl_set ?_ (by simp <;> omega) _)
  case rest =>
    obtain ⟨Ba, s', c', v', rfl, rfl, hrow, hO, hbc⟩ := hcut
    have hd := hO.dev
    have HA := hide hO.dev
    have HBW := hide (bl_trans (unhide HB0) hbc)
    have HDc := hide ((unhide HD).up (bl_trans (unhide HB0) hbc))
    have HBTc := hide ((unhide HBT0).up hbc)
    have HNTc := hide ((unhide HNT0).up hbc)
    have HKc := hide ((unhide HK0).up hbc)
    obtain ⟨⟨c1, eap1, rfl, _⟩, ⟨c2, eap2, rfl, _⟩, ⟨c3, eap3, rfl, _⟩⟩ := hd
    obtain ⟨g0, g1, g2, g3, g4, k0, k1, k2, k3⟩ := unhide KS _ hbc
    obtain ⟨f0, f1, f2, f3⟩ := unhide KF _ hbc
    have r0 := hrow.cell 0 _ rfl
    have r1 := hrow.cell 1 _ rfl
    have r2 := hrow.cell 2 _ rfl
    have r3 := hrow.cell 3 _ rfl
    have m0 := hbc.size
    clear hO hrow hbc
    go_wp2_with fail
    refine (wroteOf_any r a h vm nv _ _ _ D _ _ l xs _ (unhide HDc) (unhide HNTc) (unhide HBTc)).mono ?_
    rintro e w3 ⟨s', c', v', rfl, hd3, hb3⟩
    rw [unhide HZ] at hd3
    rw [unhide HE, unhide HZ, unhide HF]
    have HB3 := hide (bl_trans (unhide HBW) hb3)
    clear g0 g1 g2 g3 g4
    replace f0 := cell_up hb3 f0
    replace f1 := cell_up hb3 f1
    replace f2 := cell_up hb3 f2
    replace f3 := cell_up hb3 f3
    replace k0 := cell_up hb3 k0
    replace k1 := cell_up hb3 k1
    replace k2 := cell_up hb3 k2
    replace k3 := cell_up hb3 k3
    replace r0 := cell_up hb3 r0
    replace r1 := cell_up hb3 r1
    replace r2 := cell_up hb3 r2
    replace r3 := cell_up hb3 r3
    have HK3 := hide ((unhide HKc).up hb3)
    have HA3 := hide ((unhide HA).up hb3)
    have hd := hd3
    have HBB := hide hd3
    obtain ⟨⟨i1, lap1, rfl, _⟩, ⟨i2, lap2, rfl, _⟩, ⟨i3, lap3, rfl, _⟩⟩ := hd
    have n0 : Ba < w3.heap.size := World.block_lt_of_cell? w3 _ r0
    have n1 : w.heap.size + 1 < w3.heap.size := World.block_lt_of_cell? w3 _ f0
    have n2 : w1.heap.size < w3.heap.size := World.block_lt_of_cell? w3 _ k0
    clear hd3 hb3
    go_wp2_with fail
    refine (sameDevices_f _ _ _ _ _ _ (Z) F _ ((unhide HA3).up (bl1 _ _)) ((unhide HBB).up (bl1 _ _))).mono ?_
    rintro e w4 ⟨rfl, hb4⟩
    have hb34 := bl_trans (bl1 _ _) hb4
    have HB4 := hide (bl_trans (unhide HB3) hb34)
    replace f0 := cell_up hb34 f0
    replace f1 := cell_up hb34 f1
    replace f2 := cell_up hb34 f2
    replace f3 := cell_up hb34 f3
    replace k0 := cell_up hb34 k0
    replace k1 := cell_up hb34 k1
    replace k2 := cell_up hb34 k2
    replace k3 := cell_up hb34 k3
    have HK4 := hide ((unhide HK3).up hb34)
    clear hb4 hb34 r0 r1 r2 r3
    go_wp2_with fail
    refine (sameDevices_f _ _ _ _ _ _ D D.fuel _ (unhide HK4) ((unhide HD).up (unhide HB4))).mono ?_
    rintro e w5 ⟨rfl, hb5⟩
    go_wp2
    go_ret
    exact ⟨rfl, bl_trans (unhide HB4) hb5⟩
end Go.Proofs.Ytbdpmigebnahkaa
