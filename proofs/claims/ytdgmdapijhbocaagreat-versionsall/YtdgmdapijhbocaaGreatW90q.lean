/- icehousekeep.VersionsAll: the walk. -/
import Derived.Test.YtdgmdapijhbocaaGreatLkpq
import Derived.BigQuiet
import Derived.Deep.QuietTactic
import Derived.Deep.RegionHeld3
import Derived.Test.YtdgmdapijhbocaaGreatKkpq
namespace Go.Proofs.YtdgmdapijhbocaaGreat
open Go.RowKit Go.Maps
set_option maxRecDepth 100000
set_option linter.unusedVariables false
set_option linter.unusedSimpArgs false
def cntB (l : List Ve) (nm : ByteArray) (k : Nat) : Nat := ((l.take k).filter (fun v => eqS v.bu nm)).length
theorem cntB_next {l : List Ve} {nm : ByteArray} {k : Nat} (hk : k < l.length) : cntB l nm (k + 1) = cntB l nm k + if eqS (l.getD k ve0).bu nm then 1 else 0 := by
  unfold cntB
  rw [take_next l ve0 hk, List.filter_append, List.length_append, List.filter_cons]
  split <;> simp
theorem cntB_le (l : List Ve) (nm : ByteArray) (k : Nat) : cntB l nm k ≤ k := by
  unfold cntB
  have := List.length_filter_le (fun v : Ve => eqS v.bu nm) (l.take k)
  have h2 := List.length_take_le k l
  omega
theorem pfB_em (s : ByteArray) : pfB s ⟨#[]⟩ = true := by
  unfold pfB
  rw [if_pos (show ByteArray.size ⟨#[]⟩ ≤ s.size from Nat.zero_le _)]
  have : s.extract 0 (ByteArray.size ⟨#[]⟩) = ⟨#[]⟩ := by
    show s.extract 0 0 = _
    apply ByteArray.ext
    simp
  rw [this]
  exact beq_self_eq_true _
theorem sv_cnt (S : St) (nm : ByteArray) : (sv S nm ⟨#[]⟩).length = cntB S.ves nm S.ves.length := by
  rw [sv_len]
  unfold selV cntB
  rw [List.take_of_length_le (Nat.le_refl _)]
  congr 1
  exact List.filter_congr fun x _ => by unfold selP; rw [pfB_em, Bool.and_true]
set_option maxHeartbeats 4000000 in
theorem versionsAll_walk (lv : Value) (l : List Rw) (na : Int) (w : World) (hl : Raws w lv l) (ha : (Lit.int .i64 na).wf = true) :
    Calls Tryz.prog 7 #[lv, .int .i64 na] w fun e w' => e = .returned (.bool true) ∧ Below w.heap.size w w' := by
  obtain ⟨la, lc, rfl, hl1, hl2⟩ := hl.form
  unfold maxLen at hl2
  have HL := hide hl
  clear hl
  obtain ⟨ha0, ha1⟩ := wf_lo ha
  clear ha
  obtain ⟨S, hSS⟩ : ∃ S, staL l 40 = S := ⟨_, rfl⟩
  obtain ⟨n, hnn⟩ : ∃ n, cntN l (rnd l 40) = n := ⟨_, rfl⟩
  have hn2 : 2 ≤ n := by rw [← hnn]; exact cntN_two l _ (by unfold rnd; omega)
  have hok : stC S = true := by rw [← hSS]; exact staL_ok l 40
  obtain ⟨NM, hNM⟩ : ∃ x, nmB na = x := ⟨_, rfl⟩
  have hnm := (nmB_le na).1
  have HNP : Hid (∀ W : World, Calls Tryz.prog 18 #[.int .i64 na] W fun e w' => e = .returned (.string NM) ∧ Below W.heap.size W w') := fun W => by
    have := name_any na W ha0 ha1
    rwa [hNM] at this
  have hbn : bnm S = [⟨#[97]⟩, ⟨#[98]⟩] := by rw [← hSS]; exact staL_names l 40
  have hhas : hasB S NM = true := hasB_in (by rw [hbn, ← hNM]; rcases (nmB_le na).2 with h | h <;> rw [h] <;> simp)
  have hr0 : rulE ⟨#[]⟩ 0 0 = 0 := rfl
  have hrl : (rowsL (sv S NM ⟨#[]⟩)).length = (sv S NM ⟨#[]⟩).length := rowsK_len _ _
  have hm40 : (sv S NM ⟨#[]⟩).length ≤ 40 := by rw [← hrl]; exact rows_len hok _ _
  have HCN : Hid ((sv S NM ⟨#[]⟩).length = cntB S.ves NM S.ves.length) := sv_cnt S NM
  have hle50 := lch_0 hok hhas hr0 (m := 50) (by decide) (by decide)
  have hle1 := lch_0 hok hhas hr0 (m := 1) (by decide) (by decide)
  have HSV : Hid (∀ m, m + 1 < (sv S NM ⟨#[]⟩).length → keyLt ((sv S NM ⟨#[]⟩).getD m ve0) ((sv S NM ⟨#[]⟩).getD (m + 1) ve0) = true) := fun m hm => sv_at hok _ _ hm
  have hlen := tstC_len hok
  have HV50 : Hid (∀ (W : World) (b v u q g : Value), Sta W b v u q g S → Calls Tryz.prog 21 #[stV S b v u q g, .string NM, .string ⟨#[]⟩, .int .i64 50] W fun e w' => ∃ a c, e = .returned (.tuple #[.slice a (sv S NM ⟨#[]⟩).length c, .bool false, .int .i64 0]) ∧ OwRo w' W.heap.size (.slice a (sv S NM ⟨#[]⟩).length c) (rowsL (sv S NM ⟨#[]⟩)) ∧ Below W.heap.size W w') := fun W b v u q g hS => by
    refine (versions_any S b v u q g NM ⟨#[]⟩ 50 W hS (by decide)).mono ?_
    rintro e w' ⟨o, rfl, hO, hb⟩
    rw [hle50] at hO ⊢
    have e1 : pagR 0 (versL S NM ⟨#[]⟩) 50 = rowsL (sv S NM ⟨#[]⟩) := by
      unfold pagR
      rw [if_pos rfl]
      exact List.take_of_length_le (by show (rowsL _).length ≤ 50; omega)
    have e2 : morB 0 (versL S NM ⟨#[]⟩) 50 = false := by
      unfold morB
      refine decide_eq_false ?_
      show ¬ (_ ∧ (50 : Int) < ((rowsL _).length : Nat))
      omega
    rw [e1] at hO
    rw [e2]
    obtain ⟨a, c, rfl, _, _⟩ := ro_form hO
    rw [hrl] at hO ⊢
    exact ⟨a, c, rfl, hO, hb⟩
  have HV1 : Hid (∀ (W : World) (b v u q g : Value), Sta W b v u q g S → Calls Tryz.prog 21 #[stV S b v u q g, .string NM, .string ⟨#[]⟩, .int .i64 1] W fun e w' => ∃ a c, e = .returned (.tuple #[.slice a (min (sv S NM ⟨#[]⟩).length 1) c, .bool (decide (1 < (sv S NM ⟨#[]⟩).length)), .int .i64 0]) ∧ Below W.heap.size W w') := fun W b v u q g hS => by
    refine (versions_any S b v u q g NM ⟨#[]⟩ 1 W hS (by decide)).mono ?_
    rintro e w' ⟨o, rfl, hO, hb⟩
    rw [hle1] at hO ⊢
    have e1 : pagR 0 (versL S NM ⟨#[]⟩) 1 = (rowsL (sv S NM ⟨#[]⟩)).take 1 := by unfold pagR; rw [if_pos rfl]; rfl
    have e2 : morB 0 (versL S NM ⟨#[]⟩) 1 = decide (1 < (sv S NM ⟨#[]⟩).length) := by
      unfold morB
      refine decide_eq_decide.2 ?_
      show (_ ∧ (1 : Int) < ((rowsL _).length : Nat)) ↔ _
      omega
    rw [e1] at hO
    rw [e2]
    obtain ⟨a, c, rfl, _, _⟩ := ro_form hO
    rw [List.length_take, hrl, Nat.min_comm] at *
    exact ⟨a, c, rfl, hb⟩
  obtain ⟨V, hV⟩ : ∃ V, sv S NM ⟨#[]⟩ = V := ⟨_, rfl⟩
  rw [hV] at HCN HSV HV50 HV1 hrl hm40
  obtain ⟨M, hM⟩ : ∃ M, V.length = M := ⟨_, rfl⟩
  rw [hM] at HCN HSV HV50 HV1 hrl hm40
  have HRL := hide hrl
  have HVM := hide hM
  clear hNM hbn hhas hr0 hrl hle50 hle1 hV hM
  go_enter Tryz.func7, Tryz.ntmps7
  go_wp2_with fail
  refine (listTells_any _).mono ?_
  rintro e w0 ⟨rfl, hb0⟩
  have HL0 := hide (Raws.up (unhide HL) hb0)
  go_wp2_with fail
  refine (kSt _ l 40 _ _ (unhide HL0) rfl (by decide)).mono ?_
  rintro e w1 ⟨ba, bc, va, vc, ua, uc, qa, qc, ga, gc, oa, oc, rfl, hS, hb1⟩
  rw [hSS] at hS ⊢
  rw [hnn]
  have HSS := hide hSS
  have HNN := hide hnn
  clear hSS hnn
  go_upto_region 4 with fail
  generalize hWW : w1.alloc _ = W2
  have h2 : BoxS W2 w1.heap.size S (.slice ba S.bus.length bc) (.slice va S.ves.length vc) (.slice ua S.ups.length uc) (.slice qa S.que.length qc) (.slice ga S.gone.length gc) ∧ Below w1.heap.size w1 W2 := by
    rw [← hWW]
    exact ⟨BoxS.new _ _ _ _ _ _ _ _, bl1 _ _⟩
  clear hWW
  obtain ⟨hX, hb2⟩ := h2
  have hw2 := bl_trans hb0 (bl_trans hb1 hb2)
  have HS := hide (hS.up hb2)
  have HX := hide hX
  clear hS hb0 hb1 hb2 hX
  have hbx := (unhide HX).lt
  obtain ⟨BX, hBX⟩ : ∃ x, w1.heap.size = x := ⟨_, rfl⟩
  rw [hBX] at HX hbx ⊢
  have HXD := hide ((unhide HX).up (bl_dr _))
  clear hBX
  have hS0 := boxS_cells (unhide HXD)
  go_region_held3 (fun W' => W'.cell? ⟨BX, 0, none⟩ = some (.int .i64 S.next) ∧ W'.cell? ⟨BX, 1, none⟩ = some (.int .i64 S.clock) ∧ W'.cell? ⟨BX, 2, none⟩ = some (.slice ba S.bus.length bc) ∧ W'.cell? ⟨BX, 3, none⟩ = some (.slice va S.ves.length vc) ∧ W'.cell? ⟨BX, 4, none⟩ = some (.slice ua S.ups.length uc) ∧ W'.cell? ⟨BX, 5, none⟩ = some (.slice qa S.que.length qc) ∧ W'.cell? ⟨BX, 6, none⟩ = some (.slice ga S.gone.length gc))
    (first | exact hS0 | exact hS3 | exact hS4 | fail)
    (first
      | (go_at_call 18; refine (unhide HNP _).mono ?_; rintro e w3 ⟨rfl, hb3⟩; have HX3 := hide ((unhide HXD).up hb3); have HS3 := hide ((unhide HS).up (bl_trans (bl_dr _) hb3)); have hw3 := bl_trans hw2 (bl_trans (bl_dr _) hb3); have hS3 := boxS_cells (unhide HX3))
      | (go_at_call 21; refine (unhide HV50 _ _ _ _ _ _ (unhide HS3)).mono ?_; rintro e w4 ⟨oa4, oc4, rfl, hO4, hb4⟩; have HO4 := hide hO4; clear hO4; have HX4 := hide ((unhide HX3).up hb4); have HS4 := hide ((unhide HS3).up hb4); have hw4 := bl_trans hw3 hb4; have hS4 := boxS_cells (unhide HX4))
      | fail)
  clear hS0 hS3 hS4
  have x3 := (unhide HX4).c3
  have hlx := (unhide HX4).lt
  obtain ⟨N, hN⟩ : ∃ x, S.ves.length = x := ⟨_, rfl⟩
  rw [hN] at x3 hlen HCN
  have HN := hide hN
  clear hN
  go_wp2
  go_loopw [10, 12, 36] (fun n _ i wr => ∃ k : Nat, k ≤ N ∧ i = .int .i64 k ∧ n = .int .i64 (cntB S.ves NM k : Nat) ∧ Below w4.heap.size w4 wr) (fun _ _ i _ => N - (intOf i).toNat)
  case atStart => exact ⟨0, Nat.zero_le _, rfl, rfl, Below.refl _ _⟩
  case round =>
    clear x3
    obtain ⟨k, hk, rfl, rfl, hbr⟩ := hrel
    have hcl := cntB_le S.ves NM k
    by_cases hlt : k < N
    · have hlt' : k < S.ves.length := by rw [unhide HN]; exact hlt
      obtain ⟨b8, o8, e8, r0⟩ := Lst.at (unhide HS4).ves hlt'
      have HCK := hide (cntB_next (nm := NM) hlt')
      obtain ⟨X, hX⟩ : ∃ X, S.ves.getD k ve0 = X := ⟨_, rfl⟩
      rw [hX] at r0 HCK
      subst e8
      have r := RVe.up hbr r0
      obtain ⟨U, hu, hI⟩ := r.c8
      obtain ⟨va', vc', rfl, _⟩ := hI.form
      have c0 := r.c0
      have c1 := r.c1
      have c2 := r.c2
      have c3 := r.c3
      have c4 := r.c4
      have c5 := r.c5
      have c6 := r.c6
      have c7 := r.c7
      have c9 := r.c9
      have c10 := r.c10
      have c11 := r.c11
      have hbs := r.s1
      clear r r0 hI hX
      obtain ⟨J, hJ⟩ : ∃ x, cntB S.ves NM k = x := ⟨_, rfl⟩
      rw [hJ] at HCK hcl ⊢
      clear hJ
      go_upto_region 9 with fail
      generalize hWW : wr.alloc _ = W8
      have h8 : W8.cell? ⟨wr.heap.size, 1, none⟩ = some (.string X.bu) ∧ Below wr.heap.size wr W8 := by
        rw [← hWW]
        exact ⟨cell_of (heap_alloc_new _ _) 1 rfl, bl1 _ _⟩
      clear hWW hu c0 c1 c2 c3 c4 c5 c6 c7 c9 c10 c11
      obtain ⟨z1, hb8⟩ := h8
      have hl8 : wr.heap.size < W8.heap.size := World.block_lt_of_cell? _ _ z1
      have hb9 := bl_trans hbr hb8
      obtain ⟨vB, hvB⟩ : ∃ x, wr.heap.size = x := ⟨_, rfl⟩
      rw [hvB] at z1 hl8 ⊢
      have hnel := Later.one W8
      have l0 := fun d : Later W8 => d.cell z1
      clear hb8 hvB z1
      cases hn : (X.bu.toList == NM.toList)
      · have HC2 : Hid (cntB S.ves NM (k + 1) = J) := by show _ = _; rw [unhide HCK, if_neg (by rw [show eqS X.bu NM = false from hn]; decide)]; rfl
        refine wp_region_later (by kernel_rfl) (by kernel_rfl) ?_
        repeat (go_big_quiet_step ((go_at_call 18; exact Calls.later (unhide HNP _))))
        refine wpQuiet_nil ?_
        intro w11 hw'
        obtain ⟨⟨w13, hb13⟩, hw''⟩ := hw'
        subst hw''
        clear hnel l0
        go_wp2
        go_roundw
        case rel => exact ⟨k + 1, by omega, by go_num, by rw [unhide HC2], bl_trans hb9 hb13⟩
        case measure => (simp [intOf] <;> omega)
      · have HC2 : Hid (cntB S.ves NM (k + 1) = J + 1) := by show _ = _; rw [unhide HCK, if_pos (show eqS X.bu NM = true from hn)]
        refine wp_region_later (by kernel_rfl) (by kernel_rfl) ?_
        repeat (go_big_quiet_step ((go_at_call 18; exact Calls.later (unhide HNP _))))
        refine wpQuiet_nil ?_
        intro w11 hw'
        obtain ⟨⟨w13, hb13⟩, hw''⟩ := hw'
        subst hw''
        clear hnel l0
        go_wp2
        go_roundw
        case rel => exact ⟨k + 1, by omega, by go_num, by rw [unhide HC2]; go_num, bl_trans hb9 hb13⟩
        case measure => (simp [intOf] <;> omega)
    · obtain rfl : k = N := by omega
      rw [← unhide HCN]
      have hw5 := bl_trans hw4 hbr
      have HX5 := hide ((unhide HX4).up hbr)
      have HS5 := hide ((unhide HS4).up hbr)
      have HR5 := hide ((ro_lst (unhide HO4)).imp fun _ _ _ r => RRo.up hbr r)
      have hmc := ro_form (unhide HO4)
      clear hbr hcl HO4
      have hlt9 : ¬ k < S.ves.length := by rw [unhide HN]; exact hlt
      go_wp2
      go_loopw [13, 14, 15, 61] (fun _ _ _ i wq => ∃ j : Nat, j ≤ M ∧ i = .int .i64 j ∧ Below wr.heap.size wr wq) (fun _ _ _ i _ => M - (intOf i).toNat)
      case atStart => exact ⟨0, Nat.zero_le _, rfl, Below.refl _ _⟩
      case round =>
        clear hlt9
        obtain ⟨j, hj, rfl, hbj⟩ := hrel
        by_cases hjl : j < M
        · have hjr : j < (rowsL V).length := by rw [unhide HRL]; exact hjl
          obtain ⟨b9, o9, e9, r0⟩ := Lst.at (unhide HR5) hjr
          have hRJ : (rowsL V).getD j ro0 = roOf (V.getD j ve0) (latAt V j) := rowsK_at V (by rw [unhide HVM]; exact hjl)
          rw [hRJ] at r0
          obtain rfl := e9
          have r := RRo.up hbj r0
          have HKL := hide (unhide HSV)
          have hjm : j < V.length := by rw [unhide HVM]; exact hjl
          obtain ⟨X, hX⟩ : ∃ X, V.getD j ve0 = X := ⟨_, rfl⟩
          rw [hX] at r
          have HX := hide hX
          clear hRJ r0 hX
          cases j with
          | zero =>
            rw [latAt_0, Nat.zero_mul, Nat.add_zero] at r
            have c0 : wr.cell? _ = some (.string X.ke) := r.c0
            have c1 : wr.cell? _ = some (.bool false) := r.c1
            have c2 : wr.cell? _ = some (.int .i64 X.id) := r.c2
            have c3 : wr.cell? _ = some (.bool X.mar) := r.c3
            have c4 : wr.cell? _ = some (.bool true) := r.c4
            have c5 : wr.cell? _ = some (.int .i64 X.size) := r.c5
            have c6 : wr.cell? _ = some (.int .i64 X.tier) := r.c6
            clear r
            go_upto_region 17 with fail
            generalize hWW : wr.alloc _ = W8
            have h8 : (W8.cell? ⟨wr.heap.size, 0, none⟩ = some (.string X.ke) ∧ W8.cell? ⟨wr.heap.size, 2, none⟩ = some (.int .i64 X.id) ∧ W8.cell? ⟨wr.heap.size, 4, none⟩ = some (.bool true)) ∧ Below wr.heap.size wr W8 := by
              rw [← hWW]
              exact ⟨⟨cell_of (heap_alloc_new _ _) 0 rfl, cell_of (heap_alloc_new _ _) 2 rfl, cell_of (heap_alloc_new _ _) 4 rfl⟩, bl1 _ _⟩
            clear hWW c0 c1 c2 c3 c4 c5 c6
            obtain ⟨⟨z0, z2, z4⟩, hb8⟩ := h8
            have hl8 : wr.heap.size < W8.heap.size := World.block_lt_of_cell? _ _ z0
            have hb9 := bl_trans hbj hb8
            obtain ⟨vB, hvB⟩ : ∃ x, wr.heap.size = x := ⟨_, rfl⟩
            rw [hvB] at z0 z2 z4 hl8 ⊢
            have hnel := Later.one W8
            have l0 := fun d : Later W8 => d.cell z0
            clear hb8 hvB
            refine wp_region_later (by kernel_rfl) (by kernel_rfl) ?_
            repeat (go_big_quiet_step (fail))
            refine wpQuiet_nil ?_
            intro w11 hw'
            obtain ⟨⟨w13, hb13⟩, hw''⟩ := hw'
            subst hw''
            clear hnel l0
            have hb14 := bl_trans hb9 hb13
            have z0 := scell_up hb13 z0
            have z2 := scell_up hb13 z2
            have z4 := scell_up hb13 z4
            clear hb13
            go_wp2
            have hnel := Later.one w11
            have l0 := fun d : Later w11 => d.cell z0
            have l1 := fun d : Later w11 => d.cell z2
            have l2 := fun d : Later w11 => d.cell z4
            refine wp_region_later (by kernel_rfl) (by kernel_rfl) ?_
            repeat (go_big_quiet_step (fail))
            refine wpQuiet_nil ?_
            intro w11 hw'
            obtain ⟨⟨w13, hb13⟩, hw''⟩ := hw'
            subst hw''
            clear hnel l0 l1 l2
            go_wp2
            go_roundw
            case rel => exact ⟨1, by omega, by go_num, bl_trans hb14 hb13⟩
            case measure => (simp [intOf] <;> omega)
          | succ m =>
            have hmr : m < (rowsL V).length := by rw [unhide HRL]; omega
            obtain ⟨b7, o7, e7, s0⟩ := Lst.at (unhide HR5) hmr
            simp at e7
            obtain ⟨rfl, rfl⟩ := e7
            have hRM : (rowsL V).getD m ro0 = roOf (V.getD m ve0) (latAt V m) := rowsK_at V (by omega)
            rw [hRM] at s0
            have s := RRo.up hbj s0
            have hkl := unhide HSV m (by omega)
            obtain ⟨Y, hY⟩ : ∃ Y, V.getD m ve0 = Y := ⟨_, rfl⟩
            have HLA : Hid (latAt V (m + 1) = !(Y.ke.toList == X.ke.toList)) := by show _ = _; rw [latAt_s, hY, unhide HX]; rfl
            rw [hY, unhide HX] at hkl
            rw [hY] at s
            have d0 : wr.cell? _ = some (.string Y.ke) := s.c0
            have d2 : wr.cell? _ = some (.int .i64 Y.id) := s.c2
            have c0 : wr.cell? _ = some (.string X.ke) := r.c0
            have c1 : wr.cell? _ = some (.bool false) := r.c1
            have c2 : wr.cell? _ = some (.int .i64 X.id) := r.c2
            have c3 : wr.cell? _ = some (.bool X.mar) := r.c3
            have c4 : wr.cell? _ = some (.bool (latAt V (m + 1))) := r.c4
            have c5 : wr.cell? _ = some (.int .i64 X.size) := r.c5
            have c6 : wr.cell? _ = some (.int .i64 X.tier) := r.c6
            rw [unhide HLA] at c4
            have HKEY : Hid ((Op.bytesLess Y.ke.toList X.ke.toList = true) ∨ ((Y.ke.toList == X.ke.toList) = true ∧ X.id < Y.id)) := by
              show _ ∨ _
              unfold keyLt at hkl
              rw [Bool.or_eq_true, Bool.and_eq_true, decide_eq_true_eq] at hkl
              exact hkl
            have hm0 : (m : Int) < (M : Int) := by omega
            have hm1 : (m : Int) + 1 < (M : Int) := by omega
            have hm2 : ((m : Int) + 1 == 0) = false := by simp; omega
            have hm3 : (0 : Int) < (m : Int) + 1 := by omega
            have hm4 : (0 : Int) ≤ (m : Int) := by omega
            clear r s s0 hRM hY hkl HKL
            have hcast : ((m + 1 : Nat) : Int) = (m : Int) + 1 := by omega
            rw [hcast]
            clear hcast
            cases he : (Y.ke.toList == X.ke.toList)
            · have hlt9 : Op.bytesLess Y.ke.toList X.ke.toList = true := by
                rcases unhide HKEY with h | ⟨h, _⟩
                · exact h
                · rw [he] at h; cases h
              rw [he] at c4
              clear HKEY HLA
              go_upto_region 17 with fail
              generalize hWW : wr.alloc _ = W8
              have h8 : (W8.cell? ⟨wr.heap.size, 0, none⟩ = some (.string X.ke) ∧ W8.cell? ⟨wr.heap.size, 2, none⟩ = some (.int .i64 X.id) ∧ W8.cell? ⟨wr.heap.size, 4, none⟩ = some (.bool true)) ∧ Below wr.heap.size wr W8 := by
                rw [← hWW]
                exact ⟨⟨cell_of (heap_alloc_new _ _) 0 rfl, cell_of (heap_alloc_new _ _) 2 rfl, cell_of (heap_alloc_new _ _) 4 rfl⟩, bl1 _ _⟩
              clear hWW c0 c1 c2 c3 c4 c5 c6
              obtain ⟨⟨z0, z2, z4⟩, hb8⟩ := h8
              have hl8 : wr.heap.size < W8.heap.size := World.block_lt_of_cell? _ _ z0
              have hb9 := bl_trans hbj hb8
              have d0 := scell_up hb8 d0
              have d2 := scell_up hb8 d2
              obtain ⟨vB, hvB⟩ : ∃ x, wr.heap.size = x := ⟨_, rfl⟩
              rw [hvB] at z0 z2 z4 hl8 ⊢
              have hnel := Later.one W8
              have l0 := fun d : Later W8 => d.cell z0
              have l1 := fun d : Later W8 => d.cell d0
              clear hb8 hvB
              refine wp_region_later (by kernel_rfl) (by kernel_rfl) ?_
              repeat (go_big_quiet_step (fail))
              refine wpQuiet_nil ?_
              intro w11 hw'
              obtain ⟨⟨w13, hb13⟩, hw''⟩ := hw'
              subst hw''
              clear hnel l0 l1
              have hb14 := bl_trans hb9 hb13
              have z0 := scell_up hb13 z0
              have z2 := scell_up hb13 z2
              have z4 := scell_up hb13 z4
              have d0 := scell_up hb13 d0
              have d2 := scell_up hb13 d2
              clear hb13
              go_wp2
              have hnel := Later.one w11
              have l0 := fun d : Later w11 => d.cell z0
              have l1 := fun d : Later w11 => d.cell z2
              have l2 := fun d : Later w11 => d.cell z4
              have l3 := fun d : Later w11 => d.cell d0
              have l4 := fun d : Later w11 => d.cell d2
              refine wp_region_later (by kernel_rfl) (by kernel_rfl) ?_
              repeat (go_big_quiet_step (fail))
              refine wpQuiet_nil ?_
              intro w11 hw'
              obtain ⟨⟨w13, hb13⟩, hw''⟩ := hw'
              subst hw''
              clear hnel l0 l1 l2 l3 l4
              go_wp2
              go_roundw
              case rel => exact ⟨m + 1 + 1, by omega, by go_num, bl_trans hb14 hb13⟩
              case measure => (simp [intOf] <;> omega)
            · have hid9 : X.id < Y.id := by
                rcases unhide HKEY with h | ⟨_, h⟩
                · have e9 : Y.ke = X.ke := eqS_to he
                  rw [e9] at h
                  have := ltS_irr X.ke
                  unfold ltS at this
                  rw [this] at h; cases h
                · exact h
              rw [he] at c4
              clear HKEY HLA
              go_upto_region 17 with fail
              generalize hWW : wr.alloc _ = W8
              have h8 : (W8.cell? ⟨wr.heap.size, 0, none⟩ = some (.string X.ke) ∧ W8.cell? ⟨wr.heap.size, 2, none⟩ = some (.int .i64 X.id) ∧ W8.cell? ⟨wr.heap.size, 4, none⟩ = some (.bool false)) ∧ Below wr.heap.size wr W8 := by
                rw [← hWW]
                exact ⟨⟨cell_of (heap_alloc_new _ _) 0 rfl, cell_of (heap_alloc_new _ _) 2 rfl, cell_of (heap_alloc_new _ _) 4 rfl⟩, bl1 _ _⟩
              clear hWW c0 c1 c2 c3 c4 c5 c6
              obtain ⟨⟨z0, z2, z4⟩, hb8⟩ := h8
              have hl8 : wr.heap.size < W8.heap.size := World.block_lt_of_cell? _ _ z0
              have hb9 := bl_trans hbj hb8
              have d0 := scell_up hb8 d0
              have d2 := scell_up hb8 d2
              obtain ⟨vB, hvB⟩ : ∃ x, wr.heap.size = x := ⟨_, rfl⟩
              rw [hvB] at z0 z2 z4 hl8 ⊢
              have hnel := Later.one W8
              have l0 := fun d : Later W8 => d.cell z0
              have l1 := fun d : Later W8 => d.cell d0
              clear hb8 hvB
              refine wp_region_later (by kernel_rfl) (by kernel_rfl) ?_
              repeat (go_big_quiet_step (fail))
              refine wpQuiet_nil ?_
              intro w11 hw'
              obtain ⟨⟨w13, hb13⟩, hw''⟩ := hw'
              subst hw''
              clear hnel l0 l1
              have hb14 := bl_trans hb9 hb13
              have z0 := scell_up hb13 z0
              have z2 := scell_up hb13 z2
              have z4 := scell_up hb13 z4
              have d0 := scell_up hb13 d0
              have d2 := scell_up hb13 d2
              clear hb13
              go_wp2
              have hnel := Later.one w11
              have l0 := fun d : Later w11 => d.cell z0
              have l1 := fun d : Later w11 => d.cell z2
              have l2 := fun d : Later w11 => d.cell z4
              have l3 := fun d : Later w11 => d.cell d0
              have l4 := fun d : Later w11 => d.cell d2
              refine wp_region_later (by kernel_rfl) (by kernel_rfl) ?_
              repeat (go_big_quiet_step (fail))
              refine wpQuiet_nil ?_
              intro w11 hw'
              obtain ⟨⟨w13, hb13⟩, hw''⟩ := hw'
              subst hw''
              clear hnel l0 l1 l2 l3 l4
              go_wp2
              go_roundw
              case rel => exact ⟨m + 1 + 1, by omega, by go_num, bl_trans hb14 hb13⟩
              case measure => (simp [intOf] <;> omega)
        · obtain rfl : j = M := by omega
          have hX9 := (unhide HX5).up hbj
          have hw9 := bl_trans hw5 hbj
          have HXD9 := hide (hX9.up (bl_dr _))
          have HS9 := hide ((unhide HS5).up hbj)
          have hS90 := boxS_cells (unhide HXD9)
          obtain ⟨F, hF⟩ : ∃ x, min j 1 = x := ⟨_, rfl⟩
          obtain ⟨D, hD⟩ : ∃ x, decide (1 < j) = x := ⟨_, rfl⟩
          rw [hF, hD] at HV1
          have HFD : Hid ((j = 0 ∧ F = 0 ∧ D = false) ∨ (j = 1 ∧ F = 1 ∧ D = false) ∨ (2 ≤ j ∧ F = 1 ∧ D = true)) := by
            show _ ∨ _
            rcases (show j = 0 ∨ j = 1 ∨ 2 ≤ j by omega) with q | q | q
            · subst q; exact .inl ⟨rfl, hF.symm, hD.symm⟩
            · subst q; exact .inr (.inl ⟨rfl, hF.symm, hD.symm⟩)
            · exact .inr (.inr ⟨q, by omega, by rw [← hD]; exact decide_eq_true (by omega)⟩)
          clear hF hD
          have hlx9 := hX9.lt
          clear hX9
          go_wp2
          go_region_held3 (fun W' => W'.cell? ⟨BX, 0, none⟩ = some (.int .i64 S.next) ∧ W'.cell? ⟨BX, 1, none⟩ = some (.int .i64 S.clock) ∧ W'.cell? ⟨BX, 2, none⟩ = some (.slice ba S.bus.length bc) ∧ W'.cell? ⟨BX, 3, none⟩ = some (.slice va S.ves.length vc) ∧ W'.cell? ⟨BX, 4, none⟩ = some (.slice ua S.ups.length uc) ∧ W'.cell? ⟨BX, 5, none⟩ = some (.slice qa S.que.length qc) ∧ W'.cell? ⟨BX, 6, none⟩ = some (.slice ga S.gone.length gc))
            (first | exact hS90 | exact hS93 | exact hS94 | fail)
            (first
              | (go_at_call 18; refine (unhide HNP _).mono ?_; rintro e w23 ⟨rfl, hb23⟩; have HX93 := hide ((unhide HXD9).up hb23); have HS93 := hide ((unhide HS9).up (bl_trans (bl_dr _) hb23)); have hw93 := bl_trans hw9 (bl_trans (bl_dr _) hb23); have hS93 := boxS_cells (unhide HX93))
              | (go_at_call 21; refine (unhide HV1 _ _ _ _ _ _ (unhide HS93)).mono ?_; rintro e w24 ⟨oa5, oc5, rfl, hb24⟩; have hS94 := boxS_cells ((unhide HX93).up hb24); have hw94 := bl_trans hw93 hb24)
              | fail)
          clear hS90 hS93 hS94
          rcases unhide HFD with ⟨q, rfl, rfl⟩ | ⟨q, rfl, rfl⟩ | ⟨q, rfl, rfl⟩
          · clear HFD
            subst q
            have q2 : min (0 : Int) 1 = 0 := rfl
            go_wp2
            go_ret
            exact ⟨rfl, hw94⟩
          · clear HFD
            subst q
            go_wp2
            go_ret
            exact ⟨rfl, hw94⟩
          · clear HFD
            have q1 : (1 : Int) < (j : Int) := by omega
            have q2 : min (j : Int) 1 = 1 := by omega
            clear q
            go_wp2
            go_ret
            exact ⟨rfl, hw94⟩
end Go.Proofs.YtdgmdapijhbocaaGreat
