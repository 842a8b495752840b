/- icehousekeep.FuelCounts: the walk. -/
import Derived.Test.YtkcakecmhoamaaaW19
import Derived.Deep.RegionHeldLaw
namespace Go.Proofs.Ytkcakecmhoamaaa
open Go.RowKit
set_option maxRecDepth 100000
set_option linter.unusedVariables false
set_option linter.unusedSimpArgs false
attribute [local go_sem ↓] Go.wp_at_zero Go.wp_at_succ
/-- Armed devices: how many things wait at most, and how many may still be done. -/
structure FuI (D : Dv) (m f : Nat) : Prop where
  ok : DOk 6 2 6 300 3 D
  fu : D.fuel = f
  nc : D.cache.length ≤ m
section
variable {D : Dv} {m f : Nat}
theorem FuI.ns (h : FuI D m f) : D.safe.length = 18 := by have := h.ok.ns; omega
theorem FuI.at (h : FuI D m f) {x : Int} (h0 : 0 ≤ x) (h1 : x < 18) : inB x 0 ((D.safe.length : Int) - 1) = true := by rw [h.ns]; simp [inB]; omega
theorem FuI.chk (h : FuI D m f) : chkE 6 2 6 300 3 D = 0 := chk_ok geoS h.ok
theorem DvI.arm {D : Dv} (h : DvI D m) (hf : f ≤ 1000) : armE (f : Int) (chkE 6 2 6 300 3 D) = 0 := by
  rw [h.chk]; exact armE_t (by simp [inB]; omega)
theorem DvI.armed {D : Dv} (h : DvI D m) (hf : f ≤ 1000) : FuI (armD D (f : Int) 0) m f := by
  have hx : inB (f : Int) 0 1048576 = true := by simp [inB]; omega
  refine ⟨h.ok.arm hx, by rw [armD_ok], by rw [armD_ok]; exact h.nc⟩
theorem FuI.e (h : FuI D m (f + 1)) (hm : m < 1000) {x : Int} (h0 : 0 ≤ x) (h1 : x < 18) : putE D x ([1] : List Int).length (chkE 6 2 6 300 3 D) = 0 := by
  rw [h.chk]; exact putE_ok (h.at h0 h1) (by decide) (by have := h.nc; omega) (by rw [h.fu]; omega)
theorem FuI.next (h : FuI D m (f + 1)) (hm : m < 1000) {x : Int} (h0 : 0 ≤ x) (h1 : x < 18) (xs : List Int) : FuI (putD D x xs 0) (m + 1) f := by
  refine ⟨h.ok.put (h.at h0 h1) (by have := h.nc; omega) (by rw [h.fu]; omega), ?_, ?_⟩
  · rw [putD_ok]; simp only [h.fu, lessF]; split <;> omega
  · rw [putD_ok]; simp; exact h.nc
theorem FuI.put0 (h : FuI D m 0) (hm : m < 1000) : putE D 0 ([] : List Int).length (chkE 6 2 6 300 3 D) = 10 := by
  rw [h.chk]; exact putE_down (h.at (by decide) (by decide)) (by decide) (by have := h.nc; omega) (by rw [h.fu]; rfl)
theorem FuI.mar0 (h : FuI D m 0) : marE D (chkE 6 2 6 300 3 D) = 10 := by
  rw [h.chk]; exact marE_down (by rw [h.fu]; rfl)
theorem FuI.get0 (h : FuI D m f) : atE D 0 (chkE 6 2 6 300 3 D) = 0 := by
  rw [h.chk]; exact atE_t (h.at (by decide) (by decide))
theorem FuI.cra (h : FuI D m f) : craE 0 (chkE 6 2 6 300 3 D) = 0 := by rw [h.chk]; exact craE_ok (by decide)
theorem FuI.crashed (h : FuI D m f) (ks : List Bool) : DvI (craD ks 0 D 0) 0 := ⟨h.ok.cra (by decide), by rw [craD_ok], by rw [craD_ok]; exact Nat.zero_le _⟩
end
theorem Bts.one (u : World) {g : Nat} (hg : u.heap.size = g) : Bts (u.alloc (.cells [Value.int .u8 1].toArray 5)) (.slice (some ⟨g, 0, none⟩) 1 1) [1] := by
  subst hg
  refine ⟨_, _, rfl, by decide, by decide, fun i hi => ⟨_, _, rfl, ?_⟩⟩
  match i, hi with
  | 0, _ => exact (Row.new u 5 [.int .u8 1]).cell 0 _ rfl
abbrev nilV : List Value := [.slice none 0 0, .slice none 0 0, .slice none 0 0, .int .i64 0]
set_option maxHeartbeats 2000000 in
theorem fuelCounts_walk (n : Int) (lv : Value) (rs : List Rw) (w : World) (wn : (Lit.int .i64 n).wf = true) (hR : Raws w lv rs) :
    Calls Try.prog 21 #[.int .i64 n, lv] w fun e w' => e = .returned (.bool true) ∧ Below w.heap.size w w' := by
  have HR := hide hR
  clear hR
  obtain ⟨n0, n1⟩ := wf_lo wn
  clear wn
  obtain ⟨K, hP⟩ : ∃ K : Nat, pickI n 20 = (K : Int) := ⟨(pickI n 20).toNat, by have := pickI_lo n (m := 20) (by omega); omega⟩
  have hK20 : K < 20 := by have := pickI_hi n (m := 20) (by omega); omega
  have HP := hide hP
  clear hP
  go_enter Try.func21, Try.ntmps21
  go_wp2_with fail
  refine (small_any _).mono ?_
  rintro e w1 ⟨rfl, hb1⟩
  go_upto_region 2 with fail
  go_cut [6, 7] (fun p e wd => ∃ dB s c v D, p = .pointer (some ⟨dB, 0, none⟩) ∧ e = .bool true ∧ Kd w wd w1.heap.size dB s c v D ∧ DvI D 10)
  case first =>
    go_wp2_with fail
    refine (devices_at lv rs 10 10 rfl _ ((unhide HR).up (bl_trans hb1 (bl1 _ _))) (by decide)).mono ?_
    rintro e wn ⟨s', c', v', D, rfl, hD, hI, hb⟩
    have hD0 := hD
    obtain ⟨⟨b1, dap1, rfl, _⟩, ⟨b2, dap2, rfl, _⟩, ⟨b3, dap3, rfl, _⟩⟩ := hD0
    go_wp2
    go_meet
    case rel => exact ⟨wn.heap.size, _, _, _, D, rfl, rfl, ⟨((Row.new w1 _ _).up hb).up (bl1 _ _), Row.new _ _ _, hD.up (bl1 _ _), bl_trans hb1 (bl_trans (bl1 _ _) (bl_trans hb (bl1 _ _))), Nat.le_trans hb1.size (Nat.le_trans (by simp) hb.size)⟩, hI⟩
  case rest =>
  clear hb1
  obtain ⟨dB, s1, c1, v1, D, rfl, rfl, hK, hI⟩ := hcut
  go_wp2_with fail
  refine (picked_any n 20 _ (by omega) (by omega) n0 n1).mono ?_
  rintro e w' ⟨rfl, rfl⟩
  rw [unhide HP]
  have HE := hide (hI.arm (f := K) (by omega))
  have HA := hide (hI.armed (f := K) (by omega))
  obtain ⟨DA, hDA⟩ : ∃ DA, armD D (K : Int) 0 = DA := ⟨_, rfl⟩
  rw [hDA] at HA
  have HDA := hide hDA
  clear hDA hI
  go_upto_region 4 with fail
  go_cut [9] (fun e wd => ∃ s c v, e = .int .i64 0 ∧ Kd w wd w1.heap.size dB s c v DA)
  case first =>
    have g0 := hK.geo.cell 0 _ rfl
    have g1 := hK.geo.cell 1 _ rfl
    have g2 := hK.geo.cell 2 _ rfl
    have g3 := hK.geo.cell 3 _ rfl
    have g4 := hK.geo.cell 4 _ rfl
    have hd := hK.dev
    obtain ⟨⟨b1, dap1, rfl, _⟩, ⟨b2, dap2, rfl, _⟩, ⟨b3, dap3, rfl, _⟩⟩ := hd
    have q0 := hK.box.cell 0 _ rfl
    have q1 := hK.box.cell 1 _ rfl
    have q2 := hK.box.cell 2 _ rfl
    have q3 := hK.box.cell 3 _ rfl
    go_wp2_with fail
    refine (arm_any 6 2 6 300 3 _ _ _ D K _ hK.dev).mono ?_
    rintro e wn ⟨s', c', v', rfl, hO, hb⟩
    rw [unhide HE, unhide HDA] at hO ⊢
    obtain ⟨sa, cs, ca, cc, va, cv, rfl, rfl, rfl, _⟩ := hO.form
    have hr := hK.box.up hb
    have z0 := hr.cell 0 _ rfl
    have z1 := hr.cell 1 _ rfl
    have z2 := hr.cell 2 _ rfl
    have z3 := hr.cell 3 _ rfl
    have zf := hr.unfrozen
    go_wp2
    go_meet
    case rel => exact ⟨_, _, _, rfl, hK.store hb hO⟩
  case rest =>
  clear hK
  obtain ⟨s2, c2, v2, rfl, hK⟩ := hcut
  go_wp2
  go_loopw [10, 11, 12] (fun i _ _ wr => ∃ (j : Nat) (D : Dv) (s c v : Value), j ≤ K ∧ i = .int .i64 j ∧ Kd w wr w1.heap.size dB s c v D ∧ FuI D (10 + j) (K - j)) (fun i _ _ _ => K - (intOf i).toNat)
  case atStart => exact ⟨0, DA, _, _, _, Nat.zero_le _, rfl, hK, unhide HA⟩
  case round =>
    clear hK HA
    obtain ⟨j, D2, s3, c3, v3, hj, rfl, hK, hI⟩ := hrel
    by_cases hlt : j < K
    · obtain ⟨F, hF⟩ : ∃ F, K - j = F + 1 := ⟨K - j - 1, by omega⟩
      rw [hF] at hI
      have g0 := hK.geo.cell 0 _ rfl
      have g1 := hK.geo.cell 1 _ rfl
      have g2 := hK.geo.cell 2 _ rfl
      have g3 := hK.geo.cell 3 _ rfl
      have g4 := hK.geo.cell 4 _ rfl
      have hd := hK.dev
      obtain ⟨⟨b1, dap1, rfl, _⟩, ⟨b2, dap2, rfl, _⟩, ⟨b3, dap3, rfl, _⟩⟩ := hd
      have q0 := hK.box.cell 0 _ rfl
      have q1 := hK.box.cell 1 _ rfl
      have q2 := hK.box.cell 2 _ rfl
      have q3 := hK.box.cell 3 _ rfl
      have h18 := hI.ns
      rw [h18] at q0
      have hdl : dB < wr.heap.size := hK.box.lt
      have hgl : w1.heap.size < wr.heap.size := hK.geo.lt
      obtain ⟨X, hX⟩ : ∃ X : Int, (j : Int).tmod 18 = X := ⟨_, rfl⟩
      have X0 : 0 ≤ X := by rw [Int.tmod_eq_emod_of_nonneg (by omega)] at hX; omega
      have X1 : X < 18 := by rw [Int.tmod_eq_emod_of_nonneg (by omega)] at hX; omega
      have HXX := hide hX
      clear hX
      have HE2 := hide (hI.e (by omega) X0 X1)
      have HN := hide (hI.next (by omega) X0 X1 [1])
      have HDE : Hid (Dev wr (.slice b1 18 dap1) (.slice b2 D2.cache.length dap2) (.slice b3 D2.vols.length dap3) D2) := by have := hK.dev; rw [h18] at this; exact this
      have HK := hide hK
      clear hI hK h18
      obtain ⟨D3, hD3⟩ : ∃ D3, putD D2 X [1] 0 = D3 := ⟨_, rfl⟩
      rw [hD3] at HN
      have HD3 := hide hD3
      clear hD3
      have HB1 : Hid (∀ w', Below (wr.alloc (.cells [Value.int .u8 1].toArray 5)).heap.size (wr.alloc (.cells [Value.int .u8 1].toArray 5)) w' → Bts w' (.slice (some ⟨wr.heap.size, 0, none⟩) 1 1) [1]) := fun w' hb => (Bts.one wr rfl).up hb
      have HB2 : Hid (∀ w', Below ((wr.alloc (.cells nilV.toArray 31)).alloc (.cells [Value.int .u8 1].toArray 5)).heap.size ((wr.alloc (.cells nilV.toArray 31)).alloc (.cells [Value.int .u8 1].toArray 5)) w' → Bts w' (.slice (some ⟨wr.heap.size + 1, 0, none⟩) 1 1) [1]) := fun w' hb => (Bts.one _ (by simp)).up hb
      have HR1 : Hid (∀ w', Below (wr.alloc (.cells nilV.toArray 31)).heap.size (wr.alloc (.cells nilV.toArray 31)) w' → Row w' wr.heap.size 31 nilV) := fun w' hb => (Row.new wr _ nilV).up hb
      have HR2 : Hid (∀ (w' : World), Below ((wr.alloc (.cells [Value.int .u8 1].toArray 5)).alloc (.cells nilV.toArray 31)).heap.size ((wr.alloc (.cells [Value.int .u8 1].toArray 5)).alloc (.cells nilV.toArray 31)) w' → Row w' (wr.heap.size + 1) 31 nilV) := by
        intro w' hb
        have := (Row.new (wr.alloc (.cells [Value.int .u8 1].toArray 5)) 31 nilV).up hb
        simpa using this
      have KS : Hid (∀ w', Below wr.heap.size wr w' → (fun w' => w'.cell? ⟨w1.heap.size, 0, none⟩ = some (.int .i64 6) ∧ w'.cell? ⟨w1.heap.size, 1, none⟩ = some (.int .i64 2) ∧ w'.cell? ⟨w1.heap.size, 2, none⟩ = some (.int .i64 6) ∧ w'.cell? ⟨w1.heap.size, 3, none⟩ = some (.int .i64 300) ∧ w'.cell? ⟨w1.heap.size, 4, none⟩ = some (.int .i64 3) ∧ w'.cell? ⟨dB, 0, none⟩ = some (.slice b1 18 dap1) ∧ w'.cell? ⟨dB, 1, none⟩ = some (.slice b2 D2.cache.length dap2) ∧ w'.cell? ⟨dB, 2, none⟩ = some (.slice b3 D2.vols.length dap3) ∧ w'.cell? ⟨dB, 3, none⟩ = some (.int .i64 D2.fuel)) w') := fun w' hb => ⟨cell_up hb g0, cell_up hb g1, cell_up hb g2, cell_up hb g3, cell_up hb g4, cell_up hb q0, cell_up hb q1, cell_up hb q2, cell_up hb q3⟩
      go_upto_region 10 with fail
      go_cut [11, 12] (fun p e wd => ∃ Ba s' c' v', p = .pointer (some ⟨Ba, 0, none⟩) ∧ e = .int .i64 0 ∧ Row wd Ba 31 [s', c', v', .int .i64 D3.fuel] ∧ ODev wd wr.heap.size s' c' v' D3 ∧ Below wr.heap.size wr wd)
      case first =>
        have gB : Value.slice (some ⟨wr.heap.size + 1, 0, none⟩) 1 1 = Value.slice (some ⟨wr.heap.size + 1, 0, none⟩) 1 1 := rfl
        have gP : Value.pointer (some ⟨wr.heap.size + 1, 0, none⟩) = Value.pointer (some ⟨wr.heap.size + 1, 0, none⟩) := rfl
        go_region_held_law (fun w' => w'.cell? ⟨w1.heap.size, 0, none⟩ = some (.int .i64 6) ∧ w'.cell? ⟨w1.heap.size, 1, none⟩ = some (.int .i64 2) ∧ w'.cell? ⟨w1.heap.size, 2, none⟩ = some (.int .i64 6) ∧ w'.cell? ⟨w1.heap.size, 3, none⟩ = some (.int .i64 300) ∧ w'.cell? ⟨w1.heap.size, 4, none⟩ = some (.int .i64 3) ∧ w'.cell? ⟨dB, 0, none⟩ = some (.slice b1 18 dap1) ∧ w'.cell? ⟨dB, 1, none⟩ = some (.slice b2 D2.cache.length dap2) ∧ w'.cell? ⟨dB, 2, none⟩ = some (.slice b3 D2.vols.length dap3) ∧ w'.cell? ⟨dB, 3, none⟩ = some (.int .i64 D2.fuel))
          (exact unhide KS _ (by repeat (first | exact Below.refl _ _ | apply Below.drew | apply bl_alloc | refine bl_set ?_ (by simp <;> omega) _ | exact hbB)))
          ((first
          | (go_simp; go_at_call 30; rw [gB]; rw [unhide HXX]; refine (put_any 6 2 6 300 3 _ _ _ D2 X _ [1] _ ((unhide HDE).up ?_) (unhide HB2 _ ?_)).mono ?_; (focus ((repeat (first | exact Below.refl _ _ | apply Below.drew | apply bl_alloc)); done)); (focus ((repeat (first | exact Below.refl _ _ | apply Below.drew | apply bl_alloc)); done)); rintro e wB ⟨t', d', z', rfl, hOB, hbB0⟩; rw [unhide HE2, unhide HD3] at hOB ⊢; refine have_of (p := Below wr.heap.size wr wB) (bl_trans ?_ hbB0) ?_; (focus ((repeat (first | exact Below.refl _ _ | apply Below.drew | apply bl_alloc)); done)); intro hbB; have hwB := hbB.size; have hdB := hOB.dev; obtain ⟨⟨e1, eap1, rfl, _⟩, ⟨e2, eap2, rfl, _⟩, ⟨e3, eap3, rfl, _⟩⟩ := hdB;  refine have_of (unhide HR1 wB (bl_trans ?_ hbB0)) ?_; (focus ((repeat (first | exact Below.refl _ _ | apply Below.drew | apply bl_alloc)); done)); intro zr; have z0 := zr.cell 0 _ rfl; have z1 := zr.cell 1 _ rfl; have z2 := zr.cell 2 _ rfl; have z3 := zr.cell 3 _ rfl; have zf := zr.unfrozen; dsimp only)
          | (go_simp; go_at_call 30; rw [unhide HXX]; refine (put_any 6 2 6 300 3 _ _ _ D2 X _ [1] _ ((unhide HDE).up ?_) (unhide HB1 _ ?_)).mono ?_; (focus ((repeat (first | exact Below.refl _ _ | apply Below.drew | apply bl_alloc)); done)); (focus ((repeat (first | exact Below.refl _ _ | apply Below.drew | apply bl_alloc)); done)); rintro e wB ⟨t', d', z', rfl, hOB, hbB0⟩; rw [unhide HE2, unhide HD3] at hOB ⊢; refine have_of (p := Below wr.heap.size wr wB) (bl_trans ?_ hbB0) ?_; (focus ((repeat (first | exact Below.refl _ _ | apply Below.drew | apply bl_alloc)); done)); intro hbB; have hwB := hbB.size; have hdB := hOB.dev; obtain ⟨⟨e1, eap1, rfl, _⟩, ⟨e2, eap2, rfl, _⟩, ⟨e3, eap3, rfl, _⟩⟩ := hdB;  (try (rw [gP]; refine have_of (unhide HR2 wB (bl_trans ?_ hbB0)) ?_; (focus ((repeat (first | exact Below.refl _ _ | apply Below.drew | apply bl_alloc)); done)); intro zr; have z0 := zr.cell 0 _ rfl; have z1 := zr.cell 1 _ rfl; have z2 := zr.cell 2 _ rfl; have z3 := zr.cell 3 _ rfl; have zf := zr.unfrozen)); dsimp only)))
        all_goals
          go_wp2
          go_meet
          case rel =>
            refine ⟨_, .slice e1 D3.safe.length eap1, .slice e2 D3.cache.length eap2, .slice e3 D3.vols.length eap3, rfl, rfl, ?_, ?_, ?_⟩
            · first | exact R4 zr _ _ _ _ | exact Row.new _ _ _
            · first | exact O4 (hOB.base (by first | omega | (simp; omega) | simp)) zr _ _ _ _ | exact (hOB.up (bl1 _ _)).base (by first | omega | (simp; omega) | simp)
            · repeat (first | exact hbB | apply Below.drew | apply bl_alloc | refine bl_set ?_ (by simp <;> omega) _)
      case rest =>
        obtain ⟨Ba, s', c', v', rfl, rfl, hrow, hO, hbc⟩ := hcut
        clear g0 g1 g2 g3 g4 q0 q1 q2 q3 KS HB1 HB2 HR1 HR2 HDE
        obtain ⟨sa, cs, ca, cc, va, cv, rfl, rfl, rfl, _⟩ := hO.form
        have r0 := hrow.cell 0 _ rfl
        have r1 := hrow.cell 1 _ rfl
        have r2 := hrow.cell 2 _ rfl
        have r3 := hrow.cell 3 _ rfl
        have hr := (unhide HK).box.up hbc
        have z0 := hr.cell 0 _ rfl
        have z1 := hr.cell 1 _ rfl
        have z2 := hr.cell 2 _ rfl
        have z3 := hr.cell 3 _ rfl
        have zf := hr.unfrozen
        go_wp2
        go_roundw
        case rel => exact ⟨j + 1, D3, _, _, _, by omega, by go_num, (unhide HK).store hbc hO, by rw [show K - (j + 1) = F by omega]; exact unhide HN⟩
        case measure => simp [intOf]; omega
    · have hjj : j = K := by omega
      subst hjj
      rw [Nat.sub_self] at hI
      have HC := hide (hI.crashed [])
      have HCE := hide hI.cra
      have HI := hide hI
      obtain ⟨DC, hDC⟩ : ∃ DC, craD [] 0 D2 0 = DC := ⟨_, rfl⟩
      rw [hDC] at HC
      have HDC := hide hDC
      clear hDC hI
      go_upto_region 14 with fail
      go_cut [14] (fun e wd => e = .int .i64 10 ∧ Kd w wd w1.heap.size dB s3 c3 v3 D2)
      case first =>
        have g0 := hK.geo.cell 0 _ rfl
        have g1 := hK.geo.cell 1 _ rfl
        have g2 := hK.geo.cell 2 _ rfl
        have g3 := hK.geo.cell 3 _ rfl
        have g4 := hK.geo.cell 4 _ rfl
        have hd := hK.dev
        obtain ⟨⟨b1, dap1, rfl, _⟩, ⟨b2, dap2, rfl, _⟩, ⟨b3, dap3, rfl, _⟩⟩ := hd
        have q0 := hK.box.cell 0 _ rfl
        have q1 := hK.box.cell 1 _ rfl
        have q2 := hK.box.cell 2 _ rfl
        have q3 := hK.box.cell 3 _ rfl
        go_wp2_with fail
        refine (put_any 6 2 6 300 3 _ _ _ D2 0 _ [] _ hK.dev (Bts.nil _)).mono ?_
        rintro e wn ⟨s', c', v', rfl, hO, hb⟩
        rw [(unhide HI).put0 (by omega)] at hO ⊢
        rw [putD_bad (by decide)] at hO ⊢
        obtain ⟨sa, cs, ca, cc, va, cv, rfl, rfl, rfl, _⟩ := hO.form
        go_wp2
        go_meet
        case rel => exact ⟨rfl, (hK.up hb).up (bl1 _ _)⟩
      case rest =>
      clear hK
      obtain ⟨rfl, hK⟩ := hcut
      go_upto_region 15 with fail
      go_cut [16] (fun e wd => e = .int .i64 10 ∧ Kd w wd w1.heap.size dB s3 c3 v3 D2)
      case first =>
        have g0 := hK.geo.cell 0 _ rfl
        have g1 := hK.geo.cell 1 _ rfl
        have g2 := hK.geo.cell 2 _ rfl
        have g3 := hK.geo.cell 3 _ rfl
        have g4 := hK.geo.cell 4 _ rfl
        have hd := hK.dev
        obtain ⟨⟨b1, dap1, rfl, _⟩, ⟨b2, dap2, rfl, _⟩, ⟨b3, dap3, rfl, _⟩⟩ := hd
        have q0 := hK.box.cell 0 _ rfl
        have q1 := hK.box.cell 1 _ rfl
        have q2 := hK.box.cell 2 _ rfl
        have q3 := hK.box.cell 3 _ rfl
        go_wp2_with fail
        refine (flush_any 6 2 6 300 3 _ _ _ D2 _ hK.dev).mono ?_
        rintro e wn ⟨s', c', v', rfl, hO, hb⟩
        rw [(unhide HI).mar0] at hO ⊢
        rw [fluD_bad (by decide)] at hO ⊢
        obtain ⟨sa, cs, ca, cc, va, cv, rfl, rfl, rfl, _⟩ := hO.form
        go_wp2
        go_meet
        case rel => exact ⟨rfl, (hK.up hb).up (bl1 _ _)⟩
      case rest =>
      clear hK
      obtain ⟨rfl, hK⟩ := hcut
      go_upto_region 16 with fail
      go_cut [18] (fun e wd => e = .int .i64 10 ∧ Kd w wd w1.heap.size dB s3 c3 v3 D2)
      case first =>
        have g0 := hK.geo.cell 0 _ rfl
        have g1 := hK.geo.cell 1 _ rfl
        have g2 := hK.geo.cell 2 _ rfl
        have g3 := hK.geo.cell 3 _ rfl
        have g4 := hK.geo.cell 4 _ rfl
        have hd := hK.dev
        obtain ⟨⟨b1, dap1, rfl, _⟩, ⟨b2, dap2, rfl, _⟩, ⟨b3, dap3, rfl, _⟩⟩ := hd
        have q0 := hK.box.cell 0 _ rfl
        have q1 := hK.box.cell 1 _ rfl
        have q2 := hK.box.cell 2 _ rfl
        have q3 := hK.box.cell 3 _ rfl
        go_wp2_with fail
        refine (mark_any 6 2 6 300 3 _ _ _ D2 _ hK.dev).mono ?_
        rintro e wn ⟨s', c', v', rfl, hO, hb⟩
        rw [(unhide HI).mar0] at hO ⊢
        rw [marD_bad (by decide)] at hO ⊢
        obtain ⟨sa, cs, ca, cc, va, cv, rfl, rfl, rfl, _⟩ := hO.form
        go_wp2
        go_meet
        case rel => exact ⟨rfl, (hK.up hb).up (bl1 _ _)⟩
      case rest =>
      clear hK
      obtain ⟨rfl, hK⟩ := hcut
      go_upto_region 17 with fail
      go_cut [19, 20] (fun _ e wd => e = .int .i64 0 ∧ Kd w wd w1.heap.size dB s3 c3 v3 D2)
      case first =>
        have g0 := hK.geo.cell 0 _ rfl
        have g1 := hK.geo.cell 1 _ rfl
        have g2 := hK.geo.cell 2 _ rfl
        have g3 := hK.geo.cell 3 _ rfl
        have g4 := hK.geo.cell 4 _ rfl
        have hd := hK.dev
        obtain ⟨⟨b1, dap1, rfl, _⟩, ⟨b2, dap2, rfl, _⟩, ⟨b3, dap3, rfl, _⟩⟩ := hd
        have q0 := hK.box.cell 0 _ rfl
        have q1 := hK.box.cell 1 _ rfl
        have q2 := hK.box.cell 2 _ rfl
        have q3 := hK.box.cell 3 _ rfl
        go_wp2_with fail
        refine (get_any 6 2 6 300 3 _ _ _ D2 0 _ hK.dev).mono ?_
        rintro e wn ⟨u, rfl, hO, hb⟩
        rw [(unhide HI).get0]
        go_wp2
        go_meet
        case rel => exact ⟨rfl, hK.up hb⟩
      case rest =>
      clear hK
      obtain ⟨rfl, hK⟩ := hcut
      go_upto_region 18 with fail
      go_cut [21, 22] (fun p e wd => ∃ cB s c v, p = .pointer (some ⟨cB, 0, none⟩) ∧ e = .int .i64 0 ∧ Kd w wd w1.heap.size cB s c v DC)
      case first =>
        have g0 := hK.geo.cell 0 _ rfl
        have g1 := hK.geo.cell 1 _ rfl
        have g2 := hK.geo.cell 2 _ rfl
        have g3 := hK.geo.cell 3 _ rfl
        have g4 := hK.geo.cell 4 _ rfl
        have hd := hK.dev
        obtain ⟨⟨b1, dap1, rfl, _⟩, ⟨b2, dap2, rfl, _⟩, ⟨b3, dap3, rfl, _⟩⟩ := hd
        have q0 := hK.box.cell 0 _ rfl
        have q1 := hK.box.cell 1 _ rfl
        have q2 := hK.box.cell 2 _ rfl
        have q3 := hK.box.cell 3 _ rfl
        go_wp2_with fail
        refine (crash_any 6 2 6 300 3 _ _ _ D2 _ [] 0 _ hK.dev (bls_none _)).mono ?_
        rintro e wn ⟨s', c', v', rfl, hO, hb⟩
        rw [unhide HCE, unhide HDC] at hO ⊢
        obtain ⟨sa, cs, ca, cc, va, cv, rfl, rfl, rfl, _⟩ := hO.form
        go_wp2
        go_meet
        case rel => exact ⟨wn.heap.size, _, _, _, rfl, rfl, ⟨(hK.geo.up hb).up (bl1 _ _), Row.new _ _ _, hO.dev.up (bl1 _ _), bl_trans hK.bel (bl_trans hb (bl1 _ _)), Nat.le_trans hK.bel.size hb.size⟩⟩
      case rest =>
      clear hK
      obtain ⟨cB, s4, c4, v4, rfl, rfl, hK⟩ := hcut
      go_upto_region 19 with fail
      go_cut [24] (fun e wd => e = .int .i64 0 ∧ Below w.heap.size w wd)
      case first =>
        have g0 := hK.geo.cell 0 _ rfl
        have g1 := hK.geo.cell 1 _ rfl
        have g2 := hK.geo.cell 2 _ rfl
        have g3 := hK.geo.cell 3 _ rfl
        have g4 := hK.geo.cell 4 _ rfl
        have hd := hK.dev
        obtain ⟨⟨b1, dap1, rfl, _⟩, ⟨b2, dap2, rfl, _⟩, ⟨b3, dap3, rfl, _⟩⟩ := hd
        have q0 := hK.box.cell 0 _ rfl
        have q1 := hK.box.cell 1 _ rfl
        have q2 := hK.box.cell 2 _ rfl
        have q3 := hK.box.cell 3 _ rfl
        go_wp2_with fail
        refine (flush_any 6 2 6 300 3 _ _ _ DC _ hK.dev).mono ?_
        rintro e wn ⟨s', c', v', rfl, hO, hb⟩
        rw [(unhide HC).fluE] at hO ⊢
        obtain ⟨sa, cs, ca, cc, va, cv, rfl, rfl, rfl, _⟩ := hO.form
        go_wp2
        go_meet
        case rel => exact ⟨rfl, bl_trans hK.bel (bl_trans hb (bl1 _ _))⟩
      case rest =>
      clear hK
      obtain ⟨rfl, hbe⟩ := hcut
      go_wp2
      go_ret
      exact ⟨ret_bool (by simp), hbe⟩
end Go.Proofs.Ytkcakecmhoamaaa
