/- icehousekeep.TakeGone: the walk. -/
import Derived.Test.YtkcakecmhoamaaaKd
import Derived.Deep.RegionHeld3
import Derived.Deep.RegionHeldLaw
namespace Go.Proofs.Ytkcakecmhoamaaa
open Go.RowKit
set_option maxRecDepth 100000
set_option linter.unusedVariables false
set_option linter.unusedSimpArgs false
attribute [local go_sem ↓] Go.wp_at_zero Go.wp_at_succ
abbrev nilL : List Value := [.slice none 0 0, .slice none 0 0, .slice none 0 0, .int .i64 0]
theorem cut_fifty (s : ByteArray) (hs : s.size ≤ 9223372036854775807) : ∃ (N M : Nat) (T : ByteArray), s.size = N ∧ N ≤ 9223372036854775807 ∧ (if (50 : Int) < (N : Int) then (50 : Int) else (N : Int)) = (M : Int) ∧ M ≤ 50 ∧ M ≤ N ∧ s.extract 0 M = T ∧ T.size = M := by
  refine ⟨s.size, min s.size 50, _, rfl, hs, by split <;> omega, by omega, by omega, rfl, by simp⟩
/-- The run of '[]byte(s)', with letters for what it lays. -/
theorem conv_let (t : ByteArray) (m : Nat) (hs : t.size = m) (hm : m ≤ maxLen) : ∃ (cf : World → Nat) (br : Nat → Array Value) (fr : Nat → Nat × Nat),
    (∀ u : World, (convert 9 37 (.string t)).run Try.prog u = .ok (.slice (some ⟨u.heap.size, 0, none⟩) m (cf u)) (u.drew.alloc (.cells (br (cf u)) 5 (fr (cf u))))) ∧ (∀ u, m ≤ cf u) ∧ (∀ u, cf u ≤ maxLen) ∧ ∀ c, br c = bytesRow t c :=
  ⟨fun u => grownCap u m 0 5, bytesRow t, fun c => ((bytesRow t c).size, (bytesRow t c).size + 1), conv_run t m hs, fun u => (conv_cap u m hm).1, fun u => (conv_cap u m hm).2, fun _ => rfl⟩
theorem tdiv3 (n : Int) (h0 : -9223372036854775808 ≤ n) (h1 : n ≤ 9223372036854775807) : -9223372036854775808 ≤ n.tdiv 3 ∧ n.tdiv 3 ≤ 9223372036854775807 := by
  by_cases h : 0 ≤ n
  · rw [Int.tdiv_eq_ediv_of_nonneg h]; omega
  · have e : n.tdiv 3 = -((-n).tdiv 3) := by rw [Int.neg_tdiv, Int.neg_neg]
    rw [e, Int.tdiv_eq_ediv_of_nonneg (by omega)]; omega
/-- What the loop keeps: volumes made one by one, none of them taken away. -/
structure TkI (D : Dv) (j : Nat) : Prop where
  ok : DOk 6 2 6 300 3 D
  fu : D.fuel = -1
  nv : D.vols.length = j
  go : ∀ i, i < j → (D.vols.getD i vo0).gone = false
theorem TkI.zero : TkI tD0 0 := ⟨tOk0, rfl, rfl, fun i hi => absurd hi (Nat.not_lt_zero _)⟩
theorem TkI.e {D : Dv} {j : Nat} (h : TkI D j) (hj : j < 3) {xs : List Int} (hx : xs.length ≤ 50) : appE 300 3 D (j : Int) xs.length (chkE 6 2 6 300 3 D) = 0 := by
  rw [chk_ok geoS h.ok]
  exact appE_okN (by simp [appB, h.nv]; omega) (by omega) (by rw [h.fu]; decide)
theorem TkI.next {D : Dv} {j : Nat} (h : TkI D j) (hj : j < 3) {xs : List Int} (hx : xs.length ≤ 50) : TkI (appD 3 D (j : Int) xs 0) (j + 1) := by
  have hA : appB 3 D (j : Int) = true := by simp [appB, h.nv]; omega
  have he := h.e hj hx
  rw [chk_ok geoS h.ok] at he
  refine ⟨h.ok.app he (by decide), ?_, ?_, ?_⟩
  · rw [appD_ok]; simp [lessF, h.fu]
  · rw [appD_ok, appVs_t hA]; simp [appV, h.nv]
  · intro i hi
    rw [appD_ok, appVs_t hA, Int.toNat_natCast]
    simp only [appV]
    rw [getD_setL _ _ _ _ _ (by simp [h.nv])]
    split
    · simp only [getD_snoc, h.nv, Nat.lt_irrefl, if_false, if_true]
    · rw [getD_snoc, if_pos (by rw [h.nv]; omega)]
      exact h.go i (by omega)
theorem TkI.vol {D : Dv} {j : Nat} (h : TkI D j) {v : Nat} (hv : v < j) : isVol D (v : Int) = true := by
  unfold isVol
  rw [Int.toNat_natCast, show (D.vols.getD v ⟨[], 0, false⟩).gone = false from h.go v hv]
  simp [inB, h.nv]; omega
theorem TkI.take {D : Dv} {j : Nat} (h : TkI D j) {v : Nat} (hv : v < j) : takE D (v : Int) (chkE 6 2 6 300 3 D) = 0 := by
  rw [chk_ok geoS h.ok]
  exact takE_ok (h.vol hv) (by rw [h.fu]; decide)
theorem TkI.gone {D : Dv} {j : Nat} (h : TkI D j) {v : Nat} (hv : v < j) : DOk 6 2 6 300 3 (takD D (v : Int) 0) ∧ (takD D (v : Int) 0).vols.length = j ∧ isVol (takD D (v : Int) 0) (v : Int) = false := by
  refine ⟨h.ok.tak (h.vol hv) (by rw [h.fu]; decide), by rw [takD_ok]; simp [h.nv], ?_⟩
  unfold isVol
  rw [takD_ok, Int.toNat_natCast]
  simp only
  rw [getD_setL _ _ _ _ _ (by rw [h.nv]; exact hv)]
  simp
set_option maxHeartbeats 1000000 in
theorem takeGone_walk (s : ByteArray) (n : Int) (w : World) (hs : s.size ≤ maxLen) (wn : (Lit.int .i64 n).wf = true) :
    Calls Try.prog 20 #[.string s, .int .i64 n] w fun e w' => e = .returned (.bool true) ∧ Below w.heap.size w w' := by
  unfold maxLen at hs
  obtain ⟨n0, n1⟩ := wf_lo wn
  clear wn
  obtain ⟨N, M, T, hN, hN0, hM, hM1, hM2, hT, hTs⟩ := cut_fifty s hs
  have hMm : M ≤ maxLen := by unfold maxLen; omega
  obtain ⟨cf, br, frf, hcv, cf1, cf2, hbr⟩ := conv_let T M hTs hMm
  have C1 := hide cf1
  have C2 := hide cf2
  have HBR := hide hbr
  clear cf1 cf2 hbr
  have HTS := hide hTs
  have k0 : (0 : Int) ≤ (M : Int) := Int.natCast_nonneg _
  have k1 : (M : Int) ≤ (N : Int) := by omega
  obtain ⟨xs, hxs⟩ : ∃ xs, bytesI T = xs := ⟨_, rfl⟩
  have HX : Hid (xs.length ≤ 50) := by show _ ≤ _; rw [← hxs, bytesI_length, hTs]; exact hM1
  have HXS := hide hxs
  clear hTs hxs
  obtain ⟨P, hP⟩ : ∃ P : Nat, pickI n 3 = (P : Int) := ⟨(pickI n 3).toNat, by have := pickI_lo n (m := 3) (by omega); omega⟩
  have hP3 : P < 3 := by have := pickI_hi n (m := 3) (by omega); omega
  have HP := hide hP
  clear hP
  go_enter Try.func20, Try.ntmps20
  go_wp2_with fail
  refine (small_any _).mono ?_
  rintro e w1 ⟨rfl, hb1⟩
  go_upto_region 2 with fail
  go_cut [6, 7] (fun p e wd => ∃ dB s c v, p = .pointer (some ⟨dB, 0, none⟩) ∧ e = .int .i64 0 ∧ Kd w wd w1.heap.size dB s c v tD0)
  case first =>
    go_wp2_with fail
    refine (new_any 6 2 6 300 3 _).mono ?_
    rintro e wn ⟨s', c', v', rfl, hO, hb⟩
    rw [tE0]
    rw [tD0_eq] at hO ⊢
    obtain ⟨sa, cs, ca, cc, va, cv, rfl, rfl, rfl, _⟩ := hO.form
    go_wp2
    go_meet
    case rel => exact ⟨wn.heap.size, _, _, _, rfl, rfl, ⟨((Row.new w1 _ _).up hb).up (bl1 _ _), Row.new _ _ _, hO.dev.up (bl1 _ _), bl_trans hb1 (bl_trans (bl1 _ _) (bl_trans hb (bl1 _ _))), Nat.le_trans hb1.size (Nat.le_trans (by simp) hb.size)⟩⟩
  case rest =>
  clear hb1
  obtain ⟨dB, s1, c1, v1, rfl, rfl, hK⟩ := hcut
  go_wp2_with fail
  refine (picked_any n 3 _ (by omega) (by omega) n0 n1).mono ?_
  rintro e w' ⟨rfl, rfl⟩
  rw [unhide HP]
  go_wp2
  go_loopw [9, 10, 11] (fun i _ _ wr => ∃ (j : Nat) (D : Dv) (s c v : Value), j ≤ P + 1 ∧ i = .int .i64 j ∧ Kd w wr w1.heap.size dB s c v D ∧ TkI D j) (fun i _ _ _ => P + 1 - (intOf i).toNat)
  case atStart => exact ⟨0, tD0, _, _, _, Nat.zero_le _, rfl, hK, TkI.zero⟩
  case round =>
    clear hK
    obtain ⟨j, D, s2, c2, v2, hj, rfl, hK, hI⟩ := hrel
    by_cases hlt : j < P + 1
    · have g0 := hK.geo.cell 0 _ rfl
      have g1 := hK.geo.cell 1 _ rfl
      have g2 := hK.geo.cell 2 _ rfl
      have g3 := hK.geo.cell 3 _ rfl
      have g4 := hK.geo.cell 4 _ rfl
      have hd := hK.dev
      obtain ⟨⟨b1, dap1, rfl, _⟩, ⟨b2, dap2, rfl, _⟩, ⟨b3, dap3, rfl, _⟩⟩ := hd
      have q0 := hK.box.cell 0 _ rfl
      have q1 := hK.box.cell 1 _ rfl
      have q2 := hK.box.cell 2 _ rfl
      have q3 := hK.box.cell 3 _ rfl
      have hdl : dB < wr.heap.size := hK.box.lt
      have hgl : w1.heap.size < wr.heap.size := hK.geo.lt
      have HE := hide (hI.e (by omega) (unhide HX))
      have HN := hide (hI.next (by omega) (unhide HX))
      have HDE := hide hK.dev
      have HK := hide hK
      clear hI hK
      obtain ⟨D', hD'⟩ : ∃ D', appD 3 D (j : Int) xs 0 = D' := ⟨_, rfl⟩
      rw [hD'] at HN
      have HD' := hide hD'
      clear hD'
      have HB1 : Hid (∀ (c : Nat), M ≤ c → c ≤ maxLen → ∀ w', Below (wr.alloc (.cells (br c) 5 (frf c))).heap.size (wr.alloc (.cells (br c) 5 (frf c))) w' → Bts w' (.slice (some ⟨wr.heap.size, 0, none⟩) M c) xs) := by
        intro c h1 h2 w' hb
        rw [unhide HBR] at hb
        rw [← unhide HXS]
        exact ((Txs.newAt wr T c (frf c) (by rw [unhide HTS]; exact h1) h2 rfl (unhide HTS)).up hb).bts
      have HB2 : Hid (∀ (c : Nat), M ≤ c → c ≤ maxLen → ∀ w', Below ((wr.alloc (.cells nilL.toArray 31)).alloc (.cells (br c) 5 (frf c))).heap.size ((wr.alloc (.cells nilL.toArray 31)).alloc (.cells (br c) 5 (frf c))) w' → Bts w' (.slice (some ⟨wr.heap.size + 1, 0, none⟩) M c) xs) := by
        intro c h1 h2 w' hb
        rw [unhide HBR] at hb
        rw [← unhide HXS]
        exact ((Txs.newAt _ T c (frf c) (by rw [unhide HTS]; exact h1) h2 (by simp) (unhide HTS)).up hb).bts
      have HR1 : Hid (∀ w', Below (wr.alloc (.cells nilL.toArray 31)).heap.size (wr.alloc (.cells nilL.toArray 31)) w' → Row w' wr.heap.size 31 nilL) := fun w' hb => (Row.new wr _ nilL).up hb
      have HR2 : Hid (∀ (c : Nat) (w' : World), Below ((wr.alloc (.cells (br c) 5 (frf c))).alloc (.cells nilL.toArray 31)).heap.size ((wr.alloc (.cells (br c) 5 (frf c))).alloc (.cells nilL.toArray 31)) w' → Row w' (wr.heap.size + 1) 31 nilL) := by
        intro c w' hb
        have := (Row.new (wr.alloc (.cells (br c) 5 (frf c))) 31 nilL).up hb
        simpa using this
      have KS : Hid (∀ w', Below wr.heap.size wr w' → (fun w' => w'.cell? ⟨w1.heap.size, 0, none⟩ = some (.int .i64 6) ∧ w'.cell? ⟨w1.heap.size, 1, none⟩ = some (.int .i64 2) ∧ w'.cell? ⟨w1.heap.size, 2, none⟩ = some (.int .i64 6) ∧ w'.cell? ⟨w1.heap.size, 3, none⟩ = some (.int .i64 300) ∧ w'.cell? ⟨w1.heap.size, 4, none⟩ = some (.int .i64 3) ∧ w'.cell? ⟨dB, 0, none⟩ = some (.slice b1 D.safe.length dap1) ∧ w'.cell? ⟨dB, 1, none⟩ = some (.slice b2 D.cache.length dap2) ∧ w'.cell? ⟨dB, 2, none⟩ = some (.slice b3 D.vols.length dap3) ∧ w'.cell? ⟨dB, 3, none⟩ = some (.int .i64 D.fuel)) w') := fun w' hb => ⟨cell_up hb g0, cell_up hb g1, cell_up hb g2, cell_up hb g3, cell_up hb g4, cell_up hb q0, cell_up hb q1, cell_up hb q2, cell_up hb q3⟩
      go_upto_region 7 with fail
      go_cut [10, 11] (fun p e wd => ∃ Ba s' c' v', p = .pointer (some ⟨Ba, 0, none⟩) ∧ e = .int .i64 0 ∧ Row wd Ba 31 [s', c', v', .int .i64 D'.fuel] ∧ ODev wd wr.heap.size s' c' v' D' ∧ Below wr.heap.size wr wd)
      case first =>
        have gB : ∀ c, Value.slice (some ⟨wr.heap.size + 1, 0, none⟩) M c = Value.slice (some ⟨wr.heap.size + 1, 0, none⟩) M c := fun _ => rfl
        have gP : Value.pointer (some ⟨wr.heap.size + 1, 0, none⟩) = Value.pointer (some ⟨wr.heap.size + 1, 0, none⟩) := rfl
        go_region_held_law (fun w' => w'.cell? ⟨w1.heap.size, 0, none⟩ = some (.int .i64 6) ∧ w'.cell? ⟨w1.heap.size, 1, none⟩ = some (.int .i64 2) ∧ w'.cell? ⟨w1.heap.size, 2, none⟩ = some (.int .i64 6) ∧ w'.cell? ⟨w1.heap.size, 3, none⟩ = some (.int .i64 300) ∧ w'.cell? ⟨w1.heap.size, 4, none⟩ = some (.int .i64 3) ∧ w'.cell? ⟨dB, 0, none⟩ = some (.slice b1 D.safe.length dap1) ∧ w'.cell? ⟨dB, 1, none⟩ = some (.slice b2 D.cache.length dap2) ∧ w'.cell? ⟨dB, 2, none⟩ = some (.slice b3 D.vols.length dap3) ∧ w'.cell? ⟨dB, 3, none⟩ = some (.int .i64 D.fuel))
          (exact unhide KS _ (by repeat (first | exact Below.refl _ _ | apply Below.drew | apply bl_alloc | refine bl_set ?_ (by simp <;> omega) _ | exact hbB)))
          ((first
          | (go_simp; go_at_call 37; rw [gB]; refine (append_any 6 2 6 300 3 _ _ _ D j _ xs _ ((unhide HDE).up ?_) (unhide HB2 _ (unhide C1 _) (unhide C2 _) _ ?_)).mono ?_; (focus ((repeat (first | exact Below.refl _ _ | apply Below.drew | apply bl_alloc)); done)); (focus ((repeat (first | exact Below.refl _ _ | apply Below.drew | apply bl_alloc)); done)); rintro e wB ⟨t', d', z', rfl, hOB, hbB0⟩; rw [unhide HE, unhide HD'] at hOB ⊢; refine have_of (p := Below wr.heap.size wr wB) (bl_trans ?_ hbB0) ?_; (focus ((repeat (first | exact Below.refl _ _ | apply Below.drew | apply bl_alloc)); done)); intro hbB; have hwB := hbB.size; have hdB := hOB.dev; obtain ⟨⟨e1, eap1, rfl, _⟩, ⟨e2, eap2, rfl, _⟩, ⟨e3, eap3, rfl, _⟩⟩ := hdB;  refine have_of (unhide HR1 wB (bl_trans ?_ hbB0)) ?_; (focus ((repeat (first | exact Below.refl _ _ | apply Below.drew | apply bl_alloc)); done)); intro zr; have z0 := zr.cell 0 _ rfl; have z1 := zr.cell 1 _ rfl; have z2 := zr.cell 2 _ rfl; have z3 := zr.cell 3 _ rfl; have zf := zr.unfrozen; dsimp only)
          | (go_simp; go_at_call 37; refine (append_any 6 2 6 300 3 _ _ _ D j _ xs _ ((unhide HDE).up ?_) (unhide HB1 _ (unhide C1 _) (unhide C2 _) _ ?_)).mono ?_; (focus ((repeat (first | exact Below.refl _ _ | apply Below.drew | apply bl_alloc)); done)); (focus ((repeat (first | exact Below.refl _ _ | apply Below.drew | apply bl_alloc)); done)); rintro e wB ⟨t', d', z', rfl, hOB, hbB0⟩; rw [unhide HE, unhide HD'] at hOB ⊢; refine have_of (p := Below wr.heap.size wr wB) (bl_trans ?_ hbB0) ?_; (focus ((repeat (first | exact Below.refl _ _ | apply Below.drew | apply bl_alloc)); done)); intro hbB; have hwB := hbB.size; have hdB := hOB.dev; obtain ⟨⟨e1, eap1, rfl, _⟩, ⟨e2, eap2, rfl, _⟩, ⟨e3, eap3, rfl, _⟩⟩ := hdB;  (try (rw [gP]; refine have_of (unhide HR2 _ wB (bl_trans (b := _) (Below.drew (Below.drew (Below.refl _ _))) hbB0)) ?_; intro zr; have z0 := zr.cell 0 _ rfl; have z1 := zr.cell 1 _ rfl; have z2 := zr.cell 2 _ rfl; have z3 := zr.cell 3 _ rfl; have zf := zr.unfrozen)); dsimp only)))
        all_goals
          go_wp2
          go_meet
          case rel =>
            refine ⟨_, .slice e1 D'.safe.length eap1, .slice e2 D'.cache.length eap2, .slice e3 D'.vols.length eap3, rfl, rfl, ?_, ?_, ?_⟩
            · first | exact R4 zr _ _ _ _ | exact Row.new _ _ _
            · first | exact O4 (hOB.base (by first | omega | (simp; omega) | simp)) zr _ _ _ _ | exact (hOB.up (bl1 _ _)).base (by first | omega | (simp; omega) | simp)
            · repeat (first | exact hbB | apply Below.drew | apply bl_alloc | refine bl_set ?_ (by simp <;> omega) _)
      case rest =>
        obtain ⟨Ba, s', c', v', rfl, rfl, hrow, hO, hbc⟩ := hcut
        clear g0 g1 g2 g3 g4 q0 q1 q2 q3 KS HB1 HB2 HR1 HR2 HDE
        obtain ⟨sa, cs, ca, cc, va, cv, rfl, rfl, rfl, _⟩ := hO.form
        have r0 := hrow.cell 0 _ rfl
        have r1 := hrow.cell 1 _ rfl
        have r2 := hrow.cell 2 _ rfl
        have r3 := hrow.cell 3 _ rfl
        have hr := (unhide HK).box.up hbc
        have z0 := hr.cell 0 _ rfl
        have z1 := hr.cell 1 _ rfl
        have z2 := hr.cell 2 _ rfl
        have z3 := hr.cell 3 _ rfl
        have zf := hr.unfrozen
        go_wp2
        go_roundw
        case rel => exact ⟨j + 1, D', _, _, _, by omega, by go_num, (unhide HK).store hbc hO, unhide HN⟩
        case measure => simp [intOf]; omega
    · have hjj : j = P + 1 := by omega
      subst hjj
      obtain ⟨V, hV⟩ : ∃ V : Nat, pickI (n.tdiv 3) (1 + (P : Int)) = (V : Int) := ⟨(pickI (n.tdiv 3) (1 + (P : Int))).toNat, by have := pickI_lo (n.tdiv 3) (m := 1 + (P : Int)) (by omega); omega⟩
      have hVP : V < P + 1 := by have := pickI_hi (n.tdiv 3) (m := 1 + (P : Int)) (by omega); omega
      have HV := hide hV
      have t0 : -9223372036854775808 ≤ n.tdiv 3 := (tdiv3 n n0 n1).1
      have t1 : n.tdiv 3 ≤ 9223372036854775807 := (tdiv3 n n0 n1).2
      clear hV hcv hN hN0 hM hM1 hM2 hT k0 k1 hs hMm hj hlt
      have HT := hide (hI.take hVP)
      obtain ⟨o1, o2, o3⟩ := hI.gone hVP
      obtain ⟨D2, hD2⟩ : ∃ D2, takD D (V : Int) 0 = D2 := ⟨_, rfl⟩
      rw [hD2] at o1 o2 o3
      have HD2 := hide hD2
      have HO1 := hide o1
      have HO2 := hide o2
      have HO3 := hide o3
      clear hD2 o1 o2 o3 hI
      go_wp2_with fail
      refine (picked_any (n.tdiv 3) (1 + (P : Int)) _ (by omega) (by omega) t0 t1).mono ?_
      rintro e w' ⟨rfl, rfl⟩
      rw [unhide HV]
      go_upto_region 12 with fail
      go_cut [13] (fun e wd => ∃ s c v, e = .int .i64 0 ∧ Kd w wd w1.heap.size dB s c v D2)
      case first =>
        have g0 := hK.geo.cell 0 _ rfl
        have g1 := hK.geo.cell 1 _ rfl
        have g2 := hK.geo.cell 2 _ rfl
        have g3 := hK.geo.cell 3 _ rfl
        have g4 := hK.geo.cell 4 _ rfl
        have hd := hK.dev
        obtain ⟨⟨b1, dap1, rfl, _⟩, ⟨b2, dap2, rfl, _⟩, ⟨b3, dap3, rfl, _⟩⟩ := hd
        have q0 := hK.box.cell 0 _ rfl
        have q1 := hK.box.cell 1 _ rfl
        have q2 := hK.box.cell 2 _ rfl
        have q3 := hK.box.cell 3 _ rfl
        go_wp2_with fail
        refine (take_any 6 2 6 300 3 _ _ _ D V _ hK.dev).mono ?_
        rintro e wn ⟨s', c', v', rfl, hO, hb⟩
        rw [unhide HT] at hO ⊢
        rw [unhide HD2] at hO ⊢
        obtain ⟨sa, cs, ca, cc, va, cv, rfl, rfl, rfl, _⟩ := hO.form
        have hr := hK.box.up hb
        have z0 := hr.cell 0 _ rfl
        have z1 := hr.cell 1 _ rfl
        have z2 := hr.cell 2 _ rfl
        have z3 := hr.cell 3 _ rfl
        have zf := hr.unfrozen
        go_wp2
        go_meet
        case rel => exact ⟨_, _, _, rfl, hK.store hb hO⟩
      case rest =>
      clear hK
      obtain ⟨s3, c3, v3, rfl, hK⟩ := hcut
      have HC : Hid (chkE 6 2 6 300 3 D2 = 0) := chk_ok geoS (unhide HO1)
      have HA6 : Hid (appE 300 3 D2 (V : Int) ([] : List Int).length (chkE 6 2 6 300 3 D2) = 6) := by
        show _ = _
        rw [unhide HC]
        exact appE_no (by simp [appB, unhide HO2]; omega) (unhide HO3)
      have HT6 : Hid (takE D2 (V : Int) (chkE 6 2 6 300 3 D2) = 6) := by show _ = _; rw [unhide HC]; exact takE_no (unhide HO3)
      have HF6 : Hid (fetE D2 (V : Int) 0 0 (chkE 6 2 6 300 3 D2) = 6) := by show _ = _; rw [unhide HC]; exact fetE_none (unhide HO3)
      go_upto_region 13 with fail
      go_cut [15] (fun e wd => e = .int .i64 6 ∧ Kd w wd w1.heap.size dB s3 c3 v3 D2)
      case first =>
        have g0 := hK.geo.cell 0 _ rfl
        have g1 := hK.geo.cell 1 _ rfl
        have g2 := hK.geo.cell 2 _ rfl
        have g3 := hK.geo.cell 3 _ rfl
        have g4 := hK.geo.cell 4 _ rfl
        have hd := hK.dev
        obtain ⟨⟨b1, dap1, rfl, _⟩, ⟨b2, dap2, rfl, _⟩, ⟨b3, dap3, rfl, _⟩⟩ := hd
        have q0 := hK.box.cell 0 _ rfl
        have q1 := hK.box.cell 1 _ rfl
        have q2 := hK.box.cell 2 _ rfl
        have q3 := hK.box.cell 3 _ rfl
        go_wp2_with fail
        refine (append_any 6 2 6 300 3 _ _ _ D2 V _ [] _ hK.dev (Bts.nil _)).mono ?_
        rintro e wn ⟨s', c', v', rfl, hO, hb⟩
        rw [unhide HA6] at hO ⊢
        rw [appD_bad (by decide)] at hO ⊢
        obtain ⟨sa, cs, ca, cc, va, cv, rfl, rfl, rfl, _⟩ := hO.form
        go_wp2
        go_meet
        case rel => exact ⟨rfl, (hK.up hb).up (bl1 _ _)⟩
      case rest =>
      clear hK
      obtain ⟨rfl, hK⟩ := hcut
      go_upto_region 14 with fail
      go_cut [17] (fun e wd => e = .int .i64 6 ∧ Kd w wd w1.heap.size dB s3 c3 v3 D2)
      case first =>
        have g0 := hK.geo.cell 0 _ rfl
        have g1 := hK.geo.cell 1 _ rfl
        have g2 := hK.geo.cell 2 _ rfl
        have g3 := hK.geo.cell 3 _ rfl
        have g4 := hK.geo.cell 4 _ rfl
        have hd := hK.dev
        obtain ⟨⟨b1, dap1, rfl, _⟩, ⟨b2, dap2, rfl, _⟩, ⟨b3, dap3, rfl, _⟩⟩ := hd
        have q0 := hK.box.cell 0 _ rfl
        have q1 := hK.box.cell 1 _ rfl
        have q2 := hK.box.cell 2 _ rfl
        have q3 := hK.box.cell 3 _ rfl
        go_wp2_with fail
        refine (take_any 6 2 6 300 3 _ _ _ D2 V _ hK.dev).mono ?_
        rintro e wn ⟨s', c', v', rfl, hO, hb⟩
        rw [unhide HT6] at hO ⊢
        rw [takD_bad (by decide)] at hO ⊢
        obtain ⟨sa, cs, ca, cc, va, cv, rfl, rfl, rfl, _⟩ := hO.form
        go_wp2
        go_meet
        case rel => exact ⟨rfl, (hK.up hb).up (bl1 _ _)⟩
      case rest =>
      clear hK
      obtain ⟨rfl, hK⟩ := hcut
      go_upto_region 15 with fail
      go_cut [18, 19] (fun _ e wd => e = .int .i64 6 ∧ Kd w wd w1.heap.size dB s3 c3 v3 D2)
      case first =>
        have g0 := hK.geo.cell 0 _ rfl
        have g1 := hK.geo.cell 1 _ rfl
        have g2 := hK.geo.cell 2 _ rfl
        have g3 := hK.geo.cell 3 _ rfl
        have g4 := hK.geo.cell 4 _ rfl
        have hd := hK.dev
        obtain ⟨⟨b1, dap1, rfl, _⟩, ⟨b2, dap2, rfl, _⟩, ⟨b3, dap3, rfl, _⟩⟩ := hd
        have q0 := hK.box.cell 0 _ rfl
        have q1 := hK.box.cell 1 _ rfl
        have q2 := hK.box.cell 2 _ rfl
        have q3 := hK.box.cell 3 _ rfl
        go_wp2_with fail
        refine (fetch_any 6 2 6 300 3 _ _ _ D2 V 0 0 _ hK.dev).mono ?_
        rintro e wn ⟨u, rfl, hO, hb⟩
        rw [unhide HF6]
        go_wp2
        go_meet
        case rel => exact ⟨rfl, hK.up hb⟩
      case rest =>
      clear hK
      obtain ⟨rfl, hK⟩ := hcut
      have g0 := hK.geo.cell 0 _ rfl
      have g1 := hK.geo.cell 1 _ rfl
      have g2 := hK.geo.cell 2 _ rfl
      have g3 := hK.geo.cell 3 _ rfl
      have g4 := hK.geo.cell 4 _ rfl
      have hd := hK.dev
      obtain ⟨⟨b1, dap1, rfl, _⟩, ⟨b2, dap2, rfl, _⟩, ⟨b3, dap3, rfl, _⟩⟩ := hd
      have q0 := hK.box.cell 0 _ rfl
      have q1 := hK.box.cell 1 _ rfl
      have q2 := hK.box.cell 2 _ rfl
      have q3 := hK.box.cell 3 _ rfl
      have hlen := unhide HO2
      go_wp2
      go_ret
      exact ⟨ret_bool (by simp; omega), hK.bel⟩
end Go.Proofs.Ytkcakecmhoamaaa
