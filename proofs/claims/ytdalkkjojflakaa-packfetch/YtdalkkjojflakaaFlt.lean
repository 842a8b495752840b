import Derived.Test.YtdalkkjojflakaaChk3
namespace Go.Proofs.Ytdalkkjojflakaa
open Go.RowKit
set_option linter.unusedVariables false
set_option linter.unusedSimpArgs false

theorem volB_ref (vm L sy : Int) (go : Bool) (hvm : 0 ≤ vm) (hL : 0 ≤ L) : volB vm L sy go = !(decide (vm < L) || !inB sy 0 L || (go && decide (0 < L))) := by
  cases go <;> simp [volB, inB] <;> by_cases h1 : L ≤ vm <;> by_cases h2 : 0 ≤ sy <;> by_cases h3 : sy ≤ L <;> by_cases h4 : L ≤ 0 <;> simp [*] <;> omega

set_option maxHeartbeats 2000000 in
theorem devFault_any (r a h vm nv : Int) (s c v : Value) (D : Dv) (w : World) (hD : Dev w s c v D) :
    Calls Try.prog 52 #[.agg #[.int .i64 r, .int .i64 a, .int .i64 h, .int .i64 vm, .int .i64 nv], .agg #[s, c, v, .int .i64 D.fuel]] w fun e w' => e = .returned (.int .i64 (chkE r a h vm nv D)) ∧ Below w.heap.size w w' := by
  obtain ⟨⟨a1, cap1, rfl, l1, m1, hs⟩, ⟨a2, cap2, rfl, l2, m2, hc⟩, ⟨a3, cap3, rfl, l3, m3, hv⟩⟩ := hD
  unfold maxLen at m1 m2 m3
  have HS : Hid (∀ i, i < D.safe.length → ∃ b o, a1 = some ⟨b, o, none⟩ ∧ ∃ u, w.cell? ⟨b, o + i, none⟩ = some u ∧ Bts w u (D.safe.getD i [])) := hs
  have HC : Hid (∀ i, i < D.cache.length → ∃ b o, a2 = some ⟨b, o, none⟩ ∧ w.cell? ⟨b, o + i * 2, none⟩ = some (.int .i64 (D.cache.getD i ⟨0, []⟩).pos) ∧ ∃ u, w.cell? ⟨b, o + i * 2 + 1, none⟩ = some u ∧ Bts w u (D.cache.getD i ⟨0, []⟩).data) := hc
  have HV : Hid (∀ i, i < D.vols.length → ∃ b o, a3 = some ⟨b, o, none⟩ ∧ (∃ u, w.cell? ⟨b, o + i * 3, none⟩ = some u ∧ Bts w u (D.vols.getD i ⟨[], 0, false⟩).data) ∧ w.cell? ⟨b, o + i * 3 + 1, none⟩ = some (.int .i64 (D.vols.getD i ⟨[], 0, false⟩).synced) ∧ w.cell? ⟨b, o + i * 3 + 2, none⟩ = some (.bool (D.vols.getD i ⟨[], 0, false⟩).gone)) := hv
  clear hs hc hv
  go_enter Try.func52, Try.ntmps52
  go_wp2_with fail
  refine (geometryFault_any r a h vm nv _).mono ?_
  rintro e w1 ⟨rfl, hb1⟩
  cases hg : geoB r a h vm nv
  · rw [geoE_f hg]
    go_wp2
    go_ret
    exact ⟨ret_int (chk2 hg), bl_trans (bl_alloc (bl_alloc (Below.refl _ _) _) _) hb1⟩
  rw [geoE_t hg]
  obtain ⟨⟨_, _⟩, ⟨_, _⟩, ⟨_, _⟩, ⟨_, _⟩, ⟨_, _⟩⟩ := geoB_bd hg
  have hb0 : Below w.heap.size w w1 := bl_trans (bl_alloc (bl_alloc (Below.refl _ _) _) _) hb1
  have g0 := box2a hb1 0 rfl
  have g1 := box2a hb1 1 rfl
  have g2 := box2a hb1 2 rfl
  have g3 := box2a hb1 3 rfl
  have g4 := box2a hb1 4 rfl
  have f0 := box2b hb1 0 rfl
  have f1 := box2b hb1 1 rfl
  have f2 := box2b hb1 2 rfl
  have f3 := box2b hb1 3 rfl
  clear hb1
  go_wp2_with fail
  have hne := Later.one w1
  have g0' := fun d : Later w1 => d.cell g0
  have g1' := fun d : Later w1 => d.cell g1
  have g2' := fun d : Later w1 => d.cell g2
  have g3' := fun d : Later w1 => d.cell g3
  have g4' := fun d : Later w1 => d.cell g4
  have f0' := fun d : Later w1 => d.cell f0
  have f1' := fun d : Later w1 => d.cell f1
  have f2' := fun d : Later w1 => d.cell f2
  have f3' := fun d : Later w1 => d.cell f3
  refine wp_region_later (by kernel_rfl) (by kernel_rfl) ?_
  by_cases d1 : (D.safe.length : Int) = 2 + r + 2 * a + h
  case neg =>
    have e1 : ((D.safe.length : Int) != 2 + r + a + a + h) = true := by simp; omega
    repeat (go_big_quiet_step (first | (go_at_call 81; exact Calls.later (sectorsOf_any r a h vm nv _ (by omega) (by omega) (by omega))) | (go_at_call 28; exact Calls.later_same (in_any _ _ _ _))))
    refine wpQuiet_nil ?_
    intro _ hw'
    obtain ⟨⟨w2, hb2⟩, hw''⟩ := hw'
    subst hw''
    go_wp2
    go_ret
    exact ⟨ret_int (chk9 hg (devB1 d1)), bl_trans hb0 hb2⟩
  have e1 : ((D.safe.length : Int) != 2 + r + a + a + h) = false := by simp; omega
  have HD1 := hide d1
  clear d1
  by_cases d2 : (D.cache.length : Int) ≤ 2000
  case neg =>
    have e2 : decide ((2000 : Int) < (D.cache.length : Int)) = true := by simp; omega
    repeat (go_big_quiet_step (first | (go_at_call 81; exact Calls.later (sectorsOf_any r a h vm nv _ (by omega) (by omega) (by omega))) | (go_at_call 28; exact Calls.later_same (in_any _ _ _ _))))
    refine wpQuiet_nil ?_
    intro _ hw'
    obtain ⟨⟨w2, hb2⟩, hw''⟩ := hw'
    subst hw''
    go_wp2
    go_ret
    exact ⟨ret_int (chk9 hg (devB2 (by omega))), bl_trans hb0 hb2⟩
  have e2 : decide ((2000 : Int) < (D.cache.length : Int)) = false := by simp; omega
  by_cases d3 : (D.vols.length : Int) ≤ nv
  case neg =>
    have e3 : decide (nv < (D.vols.length : Int)) = true := by simp; omega
    repeat (go_big_quiet_step (first | (go_at_call 81; exact Calls.later (sectorsOf_any r a h vm nv _ (by omega) (by omega) (by omega))) | (go_at_call 28; exact Calls.later_same (in_any _ _ _ _))))
    refine wpQuiet_nil ?_
    intro _ hw'
    obtain ⟨⟨w2, hb2⟩, hw''⟩ := hw'
    subst hw''
    go_wp2
    go_ret
    exact ⟨ret_int (chk9 hg (devB3 (by omega))), bl_trans hb0 hb2⟩
  have e3 : decide (nv < (D.vols.length : Int)) = false := by simp; omega
  cases i4 : inB D.fuel (-1) 1048576
  case false =>
    repeat (go_big_quiet_step (first | (go_at_call 81; exact Calls.later (sectorsOf_any r a h vm nv _ (by omega) (by omega) (by omega))) | (go_at_call 28; exact Calls.later_same (in_any _ _ _ _))))
    refine wpQuiet_nil ?_
    intro _ hw'
    obtain ⟨⟨w2, hb2⟩, hw''⟩ := hw'
    subst hw''
    go_wp2
    go_ret
    exact ⟨ret_int (chk9 hg (devB4 i4)), bl_trans hb0 hb2⟩
  repeat (go_big_quiet_step (first | (go_at_call 81; exact Calls.later (sectorsOf_any r a h vm nv _ (by omega) (by omega) (by omega))) | (go_at_call 28; exact Calls.later_same (in_any _ _ _ _))))
  refine wpQuiet_nil ?_
  intro w3 hw'
  obtain ⟨⟨w2, hb2⟩, hw''⟩ := hw'
  subst hw''
  clear hne g0' g1' g2' g3' g4' f0' f1' f2' f3'
  replace hb0 := bl_trans hb0 hb2
  replace g3 := cell_up hb2 g3
  replace f0 := cell_up hb2 f0
  replace f1 := cell_up hb2 f1
  replace f2 := cell_up hb2 f2
  clear hb2 g0 g1 g2 g4 f3 e1 e2 e3
  go_wp2
  go_loop [6] (fun i => ∃ k : Nat, k ≤ D.safe.length ∧ i = .int .i64 k ∧ ∀ j, j < k → (((D.safe.getD j []).length : Int) == 64) = true) (fun i => D.safe.length - (intOf i).toNat)
  case atStart => exact ⟨0, Nat.zero_le _, rfl, fun j hj => absurd hj (Nat.not_lt_zero _)⟩
  case round =>
    obtain ⟨k, hk, rfl, hall⟩ := hrel
    have HA := hide hall
    clear hall
    by_cases hlt : k < D.safe.length
    · obtain ⟨b, o, rfl, u, hu, x, cp, rfl, lx, mx, _⟩ := HS.out k hlt
      unfold maxLen at mx
      replace hu := cell_up hb0 hu
      obtain ⟨L, hL⟩ : ∃ L : Nat, (D.safe.getD k []).length = L := ⟨_, rfl⟩
      rw [hL] at hu lx
      have HL := hide hL
      clear hL
      cases h64 : ((L : Int) == 64)
      · have h64' : ((L : Int) != 64) = true := by simpa using h64
        have F : Hid ((((D.safe.getD k []).length : Int) == 64) = false) := by rw [unhide HL]; exact h64
        clear h64
        go_wp2
        go_ret
        exact ⟨ret_int (chk9 hg (devB5 (allB_f hlt (unhide F)))), hb0⟩
      · have h64' : ((L : Int) != 64) = false := by simpa using h64
        have F : Hid ((((D.safe.getD k []).length : Int) == 64) = true) := by rw [unhide HL]; exact h64
        clear h64
        go_wp2
        go_round
        case rel => exact ⟨k + 1, by omega, by go_num, fun j hj => if e : j < k then unhide HA j e else (show j = k by omega) ▸ unhide F⟩
        case measure => simp [intOf]; omega
    have A1 : Hid (allB D.safe.length (fun i => ((D.safe.getD i []).length : Int) == 64) = true) := allB_t fun j hj => unhide HA j (by omega)
    clear HA
    go_wp2
    go_loopw [7] (fun i wr => ∃ k : Nat, k ≤ D.cache.length ∧ i = .int .i64 k ∧ Below w3.heap.size w3 wr ∧ ∀ j, j < k → (inB (D.cache.getD j ⟨0, []⟩).pos 0 ((D.safe.length : Int) - 1) && (((D.cache.getD j ⟨0, []⟩).data.length : Int) == 64)) = true) (fun i _ => D.cache.length - (intOf i).toNat)
    case atStart => exact ⟨0, Nat.zero_le _, rfl, Below.refl _ _, fun j hj => absurd hj (Nat.not_lt_zero _)⟩
    case round =>
      obtain ⟨k, hk, rfl, hbr, hall⟩ := hrel
      have HA := hide hall
      clear hall
      replace g3 := cell_up hbr g3
      replace f0 := cell_up hbr f0
      replace f1 := cell_up hbr f1
      replace f2 := cell_up hbr f2
      replace hb0 := bl_trans hb0 hbr
      by_cases hlt : k < D.cache.length
      · obtain ⟨b, o, rfl, hp, u, hu, x, cp, rfl, lx, mx, _⟩ := HC.out k hlt
        unfold maxLen at mx
        replace hp := cell_up hb0 hp
        replace hu := cell_up hb0 hu
        obtain ⟨L, hL⟩ : ∃ L : Nat, (D.cache.getD k ⟨0, []⟩).data.length = L := ⟨_, rfl⟩
        obtain ⟨X, hX⟩ : ∃ X : Int, (D.cache.getD k ⟨0, []⟩).pos = X := ⟨_, rfl⟩
        rw [hL] at hu lx
        rw [hX] at hp
        have HL := hide hL
        have HX := hide hX
        clear hL hX
        go_wp2_with fail
        have hne := Later.one wr
        have f0' := fun d : Later wr => d.cell f0
        have f1' := fun d : Later wr => d.cell f1
        have hp' := fun d : Later wr => d.cell hp
        have hu' := fun d : Later wr => d.cell hu
        refine wp_region_later (by kernel_rfl) (by kernel_rfl) ?_
        cases hi : inB X 0 ((D.safe.length : Int) - 1)
        case false =>
          have F : Hid ((inB (D.cache.getD k ⟨0, []⟩).pos 0 ((D.safe.length : Int) - 1) && (((D.cache.getD k ⟨0, []⟩).data.length : Int) == 64)) = false) := by rw [unhide HX, hi]; rfl
          repeat (go_big_quiet_step ((go_at_call 28; exact Calls.later_same (in_any _ _ _ _))))
          refine wpQuiet_nil ?_
          intro w4 hw'
          obtain ⟨⟨w5, hb4⟩, hw''⟩ := hw'
          subst hw''
          go_wp2
          go_ret
          exact ⟨ret_int (chk9 hg (devB6 (allB_f hlt (unhide F)))), bl_trans hb0 hb4⟩
        cases h64 : ((L : Int) == 64)
        case false =>
          have F : Hid ((inB (D.cache.getD k ⟨0, []⟩).pos 0 ((D.safe.length : Int) - 1) && (((D.cache.getD k ⟨0, []⟩).data.length : Int) == 64)) = false) := by rw [unhide HX, hi, unhide HL, h64]; rfl
          have h64' : ((L : Int) != 64) = true := by simpa using h64
          clear h64
          repeat (go_big_quiet_step ((go_at_call 28; exact Calls.later_same (in_any _ _ _ _))))
          refine wpQuiet_nil ?_
          intro w4 hw'
          obtain ⟨⟨w5, hb4⟩, hw''⟩ := hw'
          subst hw''
          go_wp2
          go_ret
          exact ⟨ret_int (chk9 hg (devB6 (allB_f hlt (unhide F)))), bl_trans hb0 hb4⟩
        have F : Hid ((inB (D.cache.getD k ⟨0, []⟩).pos 0 ((D.safe.length : Int) - 1) && (((D.cache.getD k ⟨0, []⟩).data.length : Int) == 64)) = true) := by rw [unhide HX, hi, unhide HL, h64]; rfl
        have h64' : ((L : Int) != 64) = false := by simpa using h64
        clear h64
        repeat (go_big_quiet_step ((go_at_call 28; exact Calls.later_same (in_any _ _ _ _))))
        refine wpQuiet_nil ?_
        intro w4 hw'
        obtain ⟨⟨w5, hb4⟩, hw''⟩ := hw'
        subst hw''
        go_wp2
        go_roundw
        case rel => exact ⟨k + 1, by omega, by go_num, bl_trans hbr hb4, fun j hj => if e : j < k then unhide HA j e else (show j = k by omega) ▸ unhide F⟩
        case measure => simp [intOf]; omega
      have A2 : Hid (allB D.cache.length (fun i => inB (D.cache.getD i ⟨0, []⟩).pos 0 ((D.safe.length : Int) - 1) && (((D.cache.getD i ⟨0, []⟩).data.length : Int) == 64)) = true) := allB_t fun j hj => unhide HA j (by omega)
      clear HA
      go_wp2
      go_loopw [8, 9] (fun i _ wx => ∃ k : Nat, k ≤ D.vols.length ∧ i = .int .i64 k ∧ Below wr.heap.size wr wx ∧ ∀ j, j < k → volB vm (D.vols.getD j ⟨[], 0, false⟩).data.length (D.vols.getD j ⟨[], 0, false⟩).synced (D.vols.getD j ⟨[], 0, false⟩).gone = true) (fun i _ _ => D.vols.length - (intOf i).toNat)
      case atStart => exact ⟨0, Nat.zero_le _, rfl, Below.refl _ _, fun j hj => absurd hj (Nat.not_lt_zero _)⟩
      case round =>
        obtain ⟨k, hk, rfl, hbx, hall⟩ := hrel
        have HA := hide hall
        clear hall
        replace g3 := cell_up hbx g3
        replace f2 := cell_up hbx f2
        replace hb0 := bl_trans hb0 hbx
        clear f0 f1 hbr
        have hsz : w.heap.size + 1 < wr.heap.size := World.block_lt_of_cell? wr _ f2
        have hsz' : w.heap.size < wr.heap.size := World.block_lt_of_cell? wr _ g3
        by_cases hlt : k < D.vols.length
        · obtain ⟨b, o, rfl, ⟨u, hu, x, cp, rfl, lx, mx, _⟩, hp, hgo⟩ := HV.out k hlt
          unfold maxLen at mx
          replace hp := cell_up hb0 hp
          replace hu := cell_up hb0 hu
          replace hgo := cell_up hb0 hgo
          obtain ⟨L, hL⟩ : ∃ L : Nat, (D.vols.getD k ⟨[], 0, false⟩).data.length = L := ⟨_, rfl⟩
          obtain ⟨X, hX⟩ : ∃ X : Int, (D.vols.getD k ⟨[], 0, false⟩).synced = X := ⟨_, rfl⟩
          obtain ⟨G, hG⟩ : ∃ G : Bool, (D.vols.getD k ⟨[], 0, false⟩).gone = G := ⟨_, rfl⟩
          rw [hL] at hu lx
          rw [hX] at hp
          rw [hG] at hgo
          have F : Hid (volB vm (D.vols.getD k ⟨[], 0, false⟩).data.length (D.vols.getD k ⟨[], 0, false⟩).synced (D.vols.getD k ⟨[], 0, false⟩).gone = !(decide (vm < (L : Int)) || !inB X 0 L || (G && decide (0 < (L : Int))))) := by
            rw [hL, hX, hG]; exact volB_ref _ _ _ _ (by omega) (by omega)
          clear hL hX hG
          by_cases t1 : vm < (L : Int)
          · go_wp2_with (go_at_call 28; refine (in_any _ _ _ _).mono ?_; rintro e w' ⟨rfl, rfl⟩)
            go_ret
            exact ⟨ret_int (chk9 hg (devB7 (allB_f hlt (by rw [unhide F]; simp [t1])))), bl_alloc hb0 _⟩
          cases t2 : inB X 0 L
          · go_wp2_with (go_at_call 28; refine (in_any _ _ _ _).mono ?_; rintro e w' ⟨rfl, rfl⟩)
            go_ret
            exact ⟨ret_int (chk9 hg (devB7 (allB_f hlt (by rw [unhide F]; simp [t2])))), bl_alloc hb0 _⟩
          cases G
          · go_wp2_with (go_at_call 28; refine (in_any _ _ _ _).mono ?_; rintro e w' ⟨rfl, rfl⟩)
            go_roundw
            case rel => exact ⟨k + 1, by omega, by go_num, bl_alloc hbx _, fun j hj => if e : j < k then unhide HA j e else (show j = k by omega) ▸ (by rw [unhide F, t2]; simp; omega)⟩
            case measure => simp [intOf]; omega
          by_cases t3 : (0 : Int) < (L : Int)
          · go_wp2_with (go_at_call 28; refine (in_any _ _ _ _).mono ?_; rintro e w' ⟨rfl, rfl⟩)
            go_ret
            exact ⟨ret_int (chk9 hg (devB7 (allB_f hlt (by rw [unhide F]; simp; intro _ _; omega)))), bl_alloc hb0 _⟩
          · go_wp2_with (go_at_call 28; refine (in_any _ _ _ _).mono ?_; rintro e w' ⟨rfl, rfl⟩)
            go_roundw
            case rel => exact ⟨k + 1, by omega, by go_num, bl_alloc hbx _, fun j hj => if e : j < k then unhide HA j e else (show j = k by omega) ▸ (by rw [unhide F, t2]; simp; omega)⟩
            case measure => simp [intOf]; omega
        have A3 : allB D.vols.length (fun i => volB vm (D.vols.getD i ⟨[], 0, false⟩).data.length (D.vols.getD i ⟨[], 0, false⟩).synced (D.vols.getD i ⟨[], 0, false⟩).gone) = true := allB_t fun j hj => unhide HA j (by omega)
        have F := hide (chk0 hg (devB0 (unhide HD1) d2 d3 i4 (unhide A1) (unhide A2) A3))
        clear A3 HA
        go_wp2
        go_ret
        exact ⟨ret_int (unhide F), hb0⟩
end Go.Proofs.Ytdalkkjojflakaa
