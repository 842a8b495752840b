/- The document's StateMay. -/
import Derived.Test.YtdalkkjojflakaaRfq
import Derived.BigQuiet
import Derived.Deep.QuietTactic
import Derived.Deep.DeepCutAuto
namespace Go.Proofs.Ytdalkkjojflakaa
open Go.RowKit Go.Maps
set_option maxRecDepth 100000
set_option linter.unusedVariables false
set_option linter.unusedSimpArgs false
theorem Ints.wf {w : World} {v : Value} {xs : List Int} (h : Ints w v xs) : ∀ x ∈ xs, (Lit.int .i64 x).wf = true := by
  intro x hx
  obtain ⟨k, hk, e⟩ := mem_at (d := 0) hx
  obtain ⟨a, cap, _, _, _, h3⟩ := h
  obtain ⟨_, _, _, r⟩ := h3 k hk
  rw [e] at r
  exact r.2
theorem secs_wf {w : World} {b v u q g : Value} {S : St} (h : Sta w b v u q g S) : ∀ x ∈ secs S, (Lit.int .i64 x).wf = true := by
  intro x hx
  unfold secs at hx
  rcases List.mem_append.1 hx with hx | hx
  · obtain ⟨y, hy, hx⟩ := List.mem_flatMap.1 hx
    obtain ⟨k, hk, e⟩ := mem_at (d := ve0) hy
    obtain ⟨a, cap, _, _, _, h3⟩ := h.ves
    obtain ⟨_, _, _, r⟩ := h3 k hk
    rw [e] at r
    obtain ⟨_, _, hi⟩ := r.c8
    exact hi.wf x hx
  · obtain ⟨y, hy, hx⟩ := List.mem_flatMap.1 hx
    obtain ⟨p, hp, hx⟩ := List.mem_flatMap.1 hx
    obtain ⟨k, hk, e⟩ := mem_at (d := up0) hy
    obtain ⟨a, cap, _, _, _, h3⟩ := h.ups
    obtain ⟨_, _, _, r⟩ := h3 k hk
    rw [e] at r
    obtain ⟨_, _, hi⟩ := r.c3
    obtain ⟨k2, hk2, e2⟩ := mem_at (d := pa0) hp
    obtain ⟨_, _, _, _, _, h4⟩ := hi
    obtain ⟨_, _, _, r2⟩ := h4 k2 hk2
    rw [e2] at r2
    obtain ⟨_, _, hi2⟩ := r2.c2
    exact hi2.wf x hx
theorem Later.bus {w : World} (d : Later w) {v : Value} {xs : List Bu} (h : Lst RBu 5 bu0 w v xs) : Lst RBu 5 bu0 d.to v xs := h.imp fun _ _ _ r => RBu.up d.below r
theorem Later.ints {w : World} (d : Later w) {v : Value} {xs : List Int} (h : Ints w v xs) : Ints d.to v xs := Ints.up d.below h
set_option maxHeartbeats 20000000 in
theorem stateMay_any (S : St) (b v u q g : Value) (w : World) (hS : Sta w b v u q g S) : Calls Try.prog 42 #[stV S b v u q g] w fun e w' => e = .returned (.bool (stR S)) ∧ Below w.heap.size w w' := by
  obtain ⟨ba, bc, rfl, hb1, hb2⟩ := hS.bus.form
  obtain ⟨va, vc, rfl, hv1, hv2⟩ := hS.ves.form
  obtain ⟨ua, uc, rfl, hu1, hu2⟩ := hS.ups.form
  obtain ⟨qa, qc, rfl, hq1, hq2⟩ := hS.que.form
  obtain ⟨ga, gc, rfl, hg1, hg2⟩ := hS.gone.form
  unfold maxLen at hb2 hv2 hu2 hq2 hg2
  have HS := hide hS
  clear hS
  obtain ⟨W, hW⟩ : ∃ W, w.alloc (.cells #[.int .i64 S.next, .int .i64 S.clock, .slice ba S.bus.length bc, .slice va S.ves.length vc, .slice ua S.ups.length uc, .slice qa S.que.length qc, .slice ga S.gone.length gc] 59) = W := ⟨_, rfl⟩
  have HX : Hid (BoxS W w.heap.size S (.slice ba S.bus.length bc) (.slice va S.ves.length vc) (.slice ua S.ups.length uc) (.slice qa S.que.length qc) (.slice ga S.gone.length gc)) := by rw [← hW]; exact BoxS.new _ _ _ _ _ _ _ _
  have HW0 : Hid (Below w.heap.size w W) := by rw [← hW]; exact bl1 _ _
  have HSW := hide ((unhide HS).up (unhide HW0))
  have HE : Hid (stR S = ((inB S.next 1 1048576 && inB S.clock 0 1073741824 && decide ((S.bus.length : Int) ≤ 4) && decide ((S.ves.length : Int) ≤ 40) && decide ((S.ups.length : Int) ≤ 4) && decide ((S.que.length : Int) ≤ 10)) && (allB S.gone.length (goneR S.gone) && allB S.bus.length (busR S.bus) && allB S.ves.length (vesR S) && allB S.ups.length (upsR S) && allB S.que.length (queR S) && allB (secs S).length (secR (secs S))))) := rfl
  have x0 := (unhide HX).c0
  have x1 := (unhide HX).c1
  have x2 := (unhide HX).c2
  have x3 := (unhide HX).c3
  have x4 := (unhide HX).c4
  have x5 := (unhide HX).c5
  have x6 := (unhide HX).c6
  go_enter Try.func42, Try.ntmps42
  go_wp2_with fail
  refine (in_any _ _ _ _).mono ?_
  rintro e w1 ⟨rfl, rfl⟩
  clear hW
  cases h1 : inB S.next 1 1048576
  · as_aux_lemma =>
    have HF : Hid (stR S = false) := by show _ = _; rw [unhide HE, h1]; rfl
    go_wp2
    go_ret
    exact ⟨ret_bool (unhide HF).symm, unhide HW0⟩
  obtain ⟨hx, hx2⟩ := inB_t h1
  rw [h1] at HE
  clear h1
  go_wp2_with fail
  refine (in_any _ _ _ _).mono ?_
  rintro e w1 ⟨rfl, rfl⟩
  cases h1 : inB S.clock 0 1073741824
  · as_aux_lemma =>
    have HF : Hid (stR S = false) := by show _ = _; rw [unhide HE, h1]; rfl
    go_wp2
    go_ret
    exact ⟨ret_bool (unhide HF).symm, unhide HW0⟩
  rw [h1] at HE
  clear h1
  by_cases hl_bus : (S.bus.length : Int) ≤ 4
  case neg =>
    as_aux_lemma =>
    have HF : Hid (stR S = false) := by show _ = _; rw [unhide HE, decide_eq_false hl_bus]; simp
    have hgt : (4 : Int) < (S.bus.length : Int) := by omega
    clear hl_bus
    go_wp2
    go_ret
    exact ⟨ret_bool (unhide HF).symm, unhide HW0⟩
  rw [decide_eq_true hl_bus] at HE
  by_cases hl_ves : (S.ves.length : Int) ≤ 40
  case neg =>
    as_aux_lemma =>
    have HF : Hid (stR S = false) := by show _ = _; rw [unhide HE, decide_eq_false hl_ves]; simp
    have hgt : (40 : Int) < (S.ves.length : Int) := by omega
    clear hl_ves
    go_wp2
    go_ret
    exact ⟨ret_bool (unhide HF).symm, unhide HW0⟩
  rw [decide_eq_true hl_ves] at HE
  by_cases hl_ups : (S.ups.length : Int) ≤ 4
  case neg =>
    as_aux_lemma =>
    have HF : Hid (stR S = false) := by show _ = _; rw [unhide HE, decide_eq_false hl_ups]; simp
    have hgt : (4 : Int) < (S.ups.length : Int) := by omega
    clear hl_ups
    go_wp2
    go_ret
    exact ⟨ret_bool (unhide HF).symm, unhide HW0⟩
  rw [decide_eq_true hl_ups] at HE
  by_cases hl_que : (S.que.length : Int) ≤ 10
  case neg =>
    as_aux_lemma =>
    have HF : Hid (stR S = false) := by show _ = _; rw [unhide HE, decide_eq_false hl_que]; simp
    have hgt : (10 : Int) < (S.que.length : Int) := by omega
    clear hl_que
    go_wp2
    go_ret
    exact ⟨ret_bool (unhide HF).symm, unhide HW0⟩
  rw [decide_eq_true hl_que] at HE
  have HW0' := hide (unhide HW0)
  go_wp2
  clear x0 x1 x2 x3 x4 x5 x6
  go_loopw [3] (fun i wr => ∃ k : Nat, k ≤ S.gone.length ∧ i = .int .i64 k ∧ Below W.heap.size W wr ∧ ∀ j, j < k → goneR S.gone j = true) (fun i _ => S.gone.length - (intOf i).toNat)
  case atStart => exact ⟨0, Nat.zero_le _, rfl, Below.refl _ _, fun j hj => absurd hj (Nat.not_lt_zero _)⟩
  case round =>
    as_aux_lemma =>
    obtain ⟨k, hk, rfl, hb, hall⟩ := hrel
    have HA := hide hall
    have hbw := bl_trans (unhide HW0) hb
    have x6 := ((unhide HX).up hb).c6
    clear hall
    by_cases hlt : k < S.gone.length
    · as_aux_lemma =>
      obtain ⟨b', o', hga, r⟩ := Lst.at ((unhide HSW).up hb).gone hlt
      subst hga
      have c0 := r.1
      rw [Nat.mul_one] at c0
      clear r
      have HP : Hid (goneR S.gone k = (inB (S.gone.getD k 0) 0 7 && !(decide (0 < k) && decide (S.gone.getD k 0 ≤ S.gone.getD (k - 1) 0)))) := rfl
      obtain ⟨G, hG⟩ : ∃ G, S.gone.getD k 0 = G := ⟨_, rfl⟩
      rw [hG] at c0 HP
      clear hG
      cases hin : inB G 0 7
      · as_aux_lemma =>
        have HF : Hid (goneR S.gone k = false) := by show _ = _; rw [unhide HP, hin]; rfl
        have hne := Later.one wr
        have l0 := fun d : Later wr => d.cell x6
        have l1 := fun d : Later wr => d.cell c0
        go_upto_region 6 with fail
        refine wp_region_later (by kernel_rfl) (by kernel_rfl) ?_
        repeat (go_big_quiet_step ((go_at_call 28; exact Calls.later_same (in_any _ _ _ _))))
        refine wpQuiet_nil ?_
        intro w9 hw'
        obtain ⟨⟨w8, hb9⟩, hw''⟩ := hw'
        subst hw''
        clear hne l0 l1
        go_wp2
        go_ret
        exact ⟨ret_bool (at_gone hlt (unhide HF)), bl_trans hbw hb9⟩
      cases k with
      | zero =>
        as_aux_lemma =>
        rw [Nat.add_zero] at c0
        have HF : Hid (goneR S.gone 0 = true) := by show _ = _; rw [unhide HP, hin]; rfl
        have hne := Later.one wr
        have l0 := fun d : Later wr => d.cell x6
        have l1 := fun d : Later wr => d.cell c0
        go_upto_region 6 with fail
        refine wp_region_later (by kernel_rfl) (by kernel_rfl) ?_
        repeat (go_big_quiet_step ((go_at_call 28; exact Calls.later_same (in_any _ _ _ _))))
        refine wpQuiet_nil ?_
        intro w9 hw'
        obtain ⟨⟨w8, hb9⟩, hw''⟩ := hw'
        subst hw''
        clear hne l0 l1
        go_wp2
        go_roundw
        case rel => exact ⟨1, by omega, by go_num, bl_trans hb hb9, fun j hj => by obtain rfl : j = 0 := by omega
                                                                                   exact unhide HF⟩
        case measure => (simp [intOf] <;> omega)
      | succ m =>
        as_aux_lemma =>
        obtain ⟨b2, o2, e2, r⟩ := Lst.at ((unhide HSW).up hb).gone (i := m) (by omega)
        simp at e2
        obtain ⟨rfl, rfl⟩ := e2
        have c1 := r.1
        rw [Nat.mul_one] at c1
        clear r
        rw [Nat.add_sub_cancel] at HP
        obtain ⟨G1, hG1⟩ : ∃ G, S.gone.getD m 0 = G := ⟨_, rfl⟩
        rw [hG1] at c1 HP
        clear hG1
        have hm0 : (0 : Int) ≤ (m : Int) := Int.natCast_nonneg _
        have hm1 : (m : Int) < (S.gone.length : Int) := by omega
        by_cases hle : G ≤ G1
        · as_aux_lemma =>
          have HF : Hid (goneR S.gone (m + 1) = false) := by show _ = _; rw [unhide HP, hin, decide_eq_true hle]; simp
          have hne := Later.one wr
          have l0 := fun d : Later wr => d.cell x6
          have l1 := fun d : Later wr => d.cell c0
          have l2 := fun d : Later wr => d.cell c1
          go_upto_region 6 with fail
          refine wp_region_later (by kernel_rfl) (by kernel_rfl) ?_
          repeat (go_big_quiet_step ((go_at_call 28; exact Calls.later_same (in_any _ _ _ _))))
          refine wpQuiet_nil ?_
          intro w9 hw'
          obtain ⟨⟨w8, hb9⟩, hw''⟩ := hw'
          subst hw''
          clear hne l0 l1 l2
          go_wp2
          go_ret
          exact ⟨ret_bool (at_gone hlt (unhide HF)), bl_trans hbw hb9⟩
        · as_aux_lemma =>
          have HF : Hid (goneR S.gone (m + 1) = true) := by show _ = _; rw [unhide HP, hin, decide_eq_false hle]; simp
          have hne := Later.one wr
          have l0 := fun d : Later wr => d.cell x6
          have l1 := fun d : Later wr => d.cell c0
          have l2 := fun d : Later wr => d.cell c1
          go_upto_region 6 with fail
          refine wp_region_later (by kernel_rfl) (by kernel_rfl) ?_
          repeat (go_big_quiet_step ((go_at_call 28; exact Calls.later_same (in_any _ _ _ _))))
          refine wpQuiet_nil ?_
          intro w9 hw'
          obtain ⟨⟨w8, hb9⟩, hw''⟩ := hw'
          subst hw''
          clear hne l0 l1 l2
          go_wp2
          go_roundw
          case rel => exact ⟨m + 1 + 1, by omega, by go_num, bl_trans hb hb9, fun j hj => if e : j < m + 1 then unhide HA j e else (show j = m + 1 by omega) ▸ unhide HF⟩
          case measure => (simp [intOf] <;> omega)
    have HG : Hid (allB S.gone.length (goneR S.gone) = true) := allB_t fun j hj => unhide HA j (by omega)
    go_wp2
    clear x6
    go_loopw [4, 5] (fun i _ wr => ∃ k : Nat, k ≤ S.bus.length ∧ i = .int .i64 k ∧ Below W.heap.size W wr ∧ ∀ j, j < k → busR S.bus j = true) (fun i _ _ => S.bus.length - (intOf i).toNat)
    case atStart => exact ⟨0, Nat.zero_le _, rfl, hb, fun j hj => absurd hj (Nat.not_lt_zero _)⟩
    case round =>
      as_aux_lemma =>
      clear hb hbw hlt HA
      obtain ⟨k, hk, rfl, hb, hall⟩ := hrel
      have HA := hide hall
      have x2 := ((unhide HX).up hb).c2
      clear hall
      by_cases hlt : k < S.bus.length
      · as_aux_lemma =>
        obtain ⟨b', o', hba, r⟩ := Lst.at ((unhide HSW).up hb).bus hlt
        subst hba
        have HP : Hid (busR S.bus k = ((worE (S.bus.getD k bu0).nam 8 == 0 && inB (S.bus.getD k bu0).mode 0 2 && rulE (S.bus.getD k bu0).pre (S.bus.getD k bu0).fre (S.bus.getD k bu0).dro == 0) && !(decide (0 < k) && leS (S.bus.getD k bu0).nam (S.bus.getD (k - 1) bu0).nam))) := rfl
        obtain ⟨X, hX⟩ : ∃ X, S.bus.getD k bu0 = X := ⟨_, rfl⟩
        rw [hX] at r HP
        have c0 := r.c0
        have c1 := r.c1
        have c2 := r.c2
        have c3 := r.c3
        have c4 := r.c4
        have s0 := r.s0
        have s2 := r.s2
        clear r hX
        go_upto_region 12 with fail
        clear c0 c1 c2 c3 c4 x2
        obtain ⟨wq, hwq⟩ : ∃ wq, wr.alloc (.cells #[.string X.nam, .int .i64 X.mode, .string X.pre, .int .i64 X.fre, .int .i64 X.dro] 102) = wq := ⟨_, rfl⟩
        rw [hwq]
        have hbq : Below wr.heap.size wr wq := by rw [← hwq]; exact bl1 _ _
        have d0 : wq.cell? ⟨wr.heap.size, 0, none⟩ = some (.string X.nam) := by rw [← hwq, World.cell?_alloc_at _ _ _ _ rfl]; rfl
        have d1 : wq.cell? ⟨wr.heap.size, 1, none⟩ = some (.int .i64 X.mode) := by rw [← hwq, World.cell?_alloc_at _ _ _ _ rfl]; rfl
        have d2 : wq.cell? ⟨wr.heap.size, 2, none⟩ = some (.string X.pre) := by rw [← hwq, World.cell?_alloc_at _ _ _ _ rfl]; rfl
        have d3 : wq.cell? ⟨wr.heap.size, 3, none⟩ = some (.int .i64 X.fre) := by rw [← hwq, World.cell?_alloc_at _ _ _ _ rfl]; rfl
        have d4 : wq.cell? ⟨wr.heap.size, 4, none⟩ = some (.int .i64 X.dro) := by rw [← hwq, World.cell?_alloc_at _ _ _ _ rfl]; rfl
        clear hwq
        have hbQ := bl_trans hb hbq
        have hbw := bl_trans (unhide HW0) hbQ
        have x2q := ((unhide HX).up hbQ).c2
        by_cases e1 : worE X.nam 8 = 0
        case neg =>
          as_aux_lemma =>
          have e1b : (worE X.nam 8 != 0) = true := by simp [e1]
          have HF : Hid (busR S.bus k = false) := by show _ = _; rw [unhide HP]; simp [e1]
          clear e1
          have hne := Later.one wq
          have l0 := fun d : Later wq => d.cell x2q
          have l1 := fun d : Later wq => d.cell d0
          have l2 := fun d : Later wq => d.cell d1
          have l3 := fun d : Later wq => d.cell d2
          have l4 := fun d : Later wq => d.cell d3
          have l5 := fun d : Later wq => d.cell d4
          refine wp_region_later (by kernel_rfl) (by kernel_rfl) ?_
          repeat (go_big_quiet_step (first | (go_at_call 68; exact Calls.later (nameFault_any _ _ s0)) | (go_at_call 69; exact Calls.later (ruleFault_any _ _ _ _ s2)) | (go_at_call 28; exact Calls.later_same (in_any _ _ _ _))))
          refine wpQuiet_nil ?_
          intro w9 hw'
          obtain ⟨⟨w8, hb9⟩, hw''⟩ := hw'
          subst hw''
          clear hne l0 l1 l2 l3 l4 l5
          go_wp2
          go_ret
          exact ⟨ret_bool (at_bus hlt (unhide HF)), bl_trans hbw hb9⟩
        cases e2 : inB X.mode 0 2
        case false =>
          as_aux_lemma =>
          have HF : Hid (busR S.bus k = false) := by show _ = _; rw [unhide HP, e2]; simp
          have hne := Later.one wq
          have l0 := fun d : Later wq => d.cell x2q
          have l1 := fun d : Later wq => d.cell d0
          have l2 := fun d : Later wq => d.cell d1
          have l3 := fun d : Later wq => d.cell d2
          have l4 := fun d : Later wq => d.cell d3
          have l5 := fun d : Later wq => d.cell d4
          refine wp_region_later (by kernel_rfl) (by kernel_rfl) ?_
          repeat (go_big_quiet_step (first | (go_at_call 68; exact Calls.later (nameFault_any _ _ s0)) | (go_at_call 69; exact Calls.later (ruleFault_any _ _ _ _ s2)) | (go_at_call 28; exact Calls.later_same (in_any _ _ _ _))))
          refine wpQuiet_nil ?_
          intro w9 hw'
          obtain ⟨⟨w8, hb9⟩, hw''⟩ := hw'
          subst hw''
          clear hne l0 l1 l2 l3 l4 l5
          go_wp2
          go_ret
          exact ⟨ret_bool (at_bus hlt (unhide HF)), bl_trans hbw hb9⟩
        by_cases e3 : rulE X.pre X.fre X.dro = 0
        case neg =>
          as_aux_lemma =>
          have e3b : (rulE X.pre X.fre X.dro != 0) = true := by simp [e3]
          have HF : Hid (busR S.bus k = false) := by show _ = _; rw [unhide HP]; simp [e3]
          clear e3
          have hne := Later.one wq
          have l0 := fun d : Later wq => d.cell x2q
          have l1 := fun d : Later wq => d.cell d0
          have l2 := fun d : Later wq => d.cell d1
          have l3 := fun d : Later wq => d.cell d2
          have l4 := fun d : Later wq => d.cell d3
          have l5 := fun d : Later wq => d.cell d4
          refine wp_region_later (by kernel_rfl) (by kernel_rfl) ?_
          repeat (go_big_quiet_step (first | (go_at_call 68; exact Calls.later (nameFault_any _ _ s0)) | (go_at_call 69; exact Calls.later (ruleFault_any _ _ _ _ s2)) | (go_at_call 28; exact Calls.later_same (in_any _ _ _ _))))
          refine wpQuiet_nil ?_
          intro w9 hw'
          obtain ⟨⟨w8, hb9⟩, hw''⟩ := hw'
          subst hw''
          clear hne l0 l1 l2 l3 l4 l5
          go_wp2
          go_ret
          exact ⟨ret_bool (at_bus hlt (unhide HF)), bl_trans hbw hb9⟩
        cases k with
        | zero =>
          as_aux_lemma =>
          have HF : Hid (busR S.bus 0 = true) := by show _ = _; rw [unhide HP, e1, e2, e3]; rfl
          have hne := Later.one wq
          have l0 := fun d : Later wq => d.cell x2q
          have l1 := fun d : Later wq => d.cell d0
          have l2 := fun d : Later wq => d.cell d1
          have l3 := fun d : Later wq => d.cell d2
          have l4 := fun d : Later wq => d.cell d3
          have l5 := fun d : Later wq => d.cell d4
          refine wp_region_later (by kernel_rfl) (by kernel_rfl) ?_
          repeat (go_big_quiet_step (first | (go_at_call 68; exact Calls.later (nameFault_any _ _ s0)) | (go_at_call 69; exact Calls.later (ruleFault_any _ _ _ _ s2)) | (go_at_call 28; exact Calls.later_same (in_any _ _ _ _))))
          refine wpQuiet_nil ?_
          intro w9 hw'
          obtain ⟨⟨w8, hb9⟩, hw''⟩ := hw'
          subst hw''
          clear hne l0 l1 l2 l3 l4 l5
          go_wp2
          go_roundw
          case rel => exact ⟨1, by omega, by go_num, bl_trans hbQ hb9, fun j hj => by obtain rfl : j = 0 := by omega
                                                                                      exact unhide HF⟩
          case measure => (simp [intOf] <;> omega)
        | succ m =>
          as_aux_lemma =>
          obtain ⟨b2, o2, e2', r⟩ := Lst.at ((unhide HSW).up hbQ).bus (i := m) (by omega)
          simp at e2'
          obtain ⟨rfl, rfl⟩ := e2'
          have c1 := r.c0
          clear r
          rw [Nat.add_sub_cancel] at HP
          obtain ⟨Y, hY⟩ : ∃ G, S.bus.getD m bu0 = G := ⟨_, rfl⟩
          rw [hY] at c1 HP
          clear hY
          have hm0 : (0 : Int) ≤ (m : Int) := Int.natCast_nonneg _
          have hm1 : (m : Int) < (S.bus.length : Int) := by omega
          cases hle : leS X.nam Y.nam
          · as_aux_lemma =>
            have HF : Hid (busR S.bus (m + 1) = true) := by show _ = _; rw [unhide HP, e1, e2, e3, hle]; simp
            simp only [leS, ltS, eqS] at hle
            have hne := Later.one wq
            have l0 := fun d : Later wq => d.cell x2q
            have l1 := fun d : Later wq => d.cell d0
            have l2 := fun d : Later wq => d.cell d1
            have l3 := fun d : Later wq => d.cell d2
            have l4 := fun d : Later wq => d.cell d3
            have l5 := fun d : Later wq => d.cell d4
            have l6 := fun d : Later wq => d.cell c1
            refine wp_region_later (by kernel_rfl) (by kernel_rfl) ?_
            repeat (go_big_quiet_step (first | (go_at_call 68; exact Calls.later (nameFault_any _ _ s0)) | (go_at_call 69; exact Calls.later (ruleFault_any _ _ _ _ s2)) | (go_at_call 28; exact Calls.later_same (in_any _ _ _ _))))
            refine wpQuiet_nil ?_
            intro w9 hw'
            obtain ⟨⟨w8, hb9⟩, hw''⟩ := hw'
            subst hw''
            clear hne l0 l1 l2 l3 l4 l5 l6
            go_wp2
            go_roundw
            case rel => exact ⟨m + 1 + 1, by omega, by go_num, bl_trans hbQ hb9, fun j hj => if e : j < m + 1 then unhide HA j e else (show j = m + 1 by omega) ▸ unhide HF⟩
            case measure => (simp [intOf] <;> omega)
          · as_aux_lemma =>
            have HF : Hid (busR S.bus (m + 1) = false) := by show _ = _; rw [unhide HP, e1, e2, e3, hle]; simp
            simp only [leS, ltS, eqS] at hle
            have hne := Later.one wq
            have l0 := fun d : Later wq => d.cell x2q
            have l1 := fun d : Later wq => d.cell d0
            have l2 := fun d : Later wq => d.cell d1
            have l3 := fun d : Later wq => d.cell d2
            have l4 := fun d : Later wq => d.cell d3
            have l5 := fun d : Later wq => d.cell d4
            have l6 := fun d : Later wq => d.cell c1
            refine wp_region_later (by kernel_rfl) (by kernel_rfl) ?_
            repeat (go_big_quiet_step (first | (go_at_call 68; exact Calls.later (nameFault_any _ _ s0)) | (go_at_call 69; exact Calls.later (ruleFault_any _ _ _ _ s2)) | (go_at_call 28; exact Calls.later_same (in_any _ _ _ _))))
            refine wpQuiet_nil ?_
            intro w9 hw'
            obtain ⟨⟨w8, hb9⟩, hw''⟩ := hw'
            subst hw''
            clear hne l0 l1 l2 l3 l4 l5 l6
            go_wp2
            go_ret
            exact ⟨ret_bool (at_bus hlt (unhide HF)), bl_trans hbw hb9⟩
      have HBU : Hid (allB S.bus.length (busR S.bus) = true) := allB_t fun j hj => unhide HA j (by omega)
      go_wp2
      clear x2
      go_loopw [6, 7, 8, 9] (fun i _ _ _ wr => ∃ k : Nat, k ≤ S.ves.length ∧ i = .int .i64 k ∧ Below W.heap.size W wr ∧ ∀ j, j < k → vesR S j = true) (fun i _ _ _ _ => S.ves.length - (intOf i).toNat)
      case atStart => exact ⟨0, Nat.zero_le _, rfl, hb, fun j hj => absurd hj (Nat.not_lt_zero _)⟩
      case round =>
        as_aux_lemma =>
        clear hb hlt HA
        obtain ⟨k, hk, rfl, hb, hall⟩ := hrel
        have HA := hide hall
        have x3 := ((unhide HX).up hb).c3
        clear hall
        by_cases hlt : k < S.ves.length
        · as_aux_lemma =>
          obtain ⟨b', o', hva, r⟩ := Lst.at ((unhide HSW).up hb).ves hlt
          subst hva
          have HP : Hid (vesR S k = (veC S (S.ves.getD k ve0) && !(decide (0 < k) && decide ((S.ves.getD k ve0).id ≤ (S.ves.getD (k - 1) ve0).id)) && allB k (fun l => !twoN (S.ves.getD k ve0) (S.ves.getD l ve0)))) := rfl
          obtain ⟨X, hX⟩ : ∃ X, S.ves.getD k ve0 = X := ⟨_, rfl⟩
          rw [hX] at r HP
          obtain ⟨z, hz, hzi⟩ := r.c8
          obtain ⟨za, zc, rfl, _⟩ := hzi.form
          have c0 := r.c0
          have c1 := r.c1
          have c2 := r.c2
          have c3 := r.c3
          have c4 := r.c4
          have c5 := r.c5
          have c6 := r.c6
          have c7 := r.c7
          have c9 := r.c9
          have c10 := r.c10
          have c11 := r.c11

          have sk := r.s2
          have HZI := hide hzi
          clear r hX hzi
          go_upto_region 18 with fail
          clear c0 c1 c2 c3 c4 c5 c6 c7 hz c9 c10 c11 x3
          obtain ⟨wq, hwq⟩ : ∃ wq, wr.alloc (.cells #[.int .i64 X.id, .string X.bu, .string X.ke, .bool X.nul, .bool X.mar, .int .i64 X.size, .int .i64 X.time, .int .i64 X.tier, .slice za X.sec.length zc, .int .i64 X.vol, .int .i64 X.pos, .int .i64 X.til] 83) = wq := ⟨_, rfl⟩
          rw [hwq]
          have hbq : Below wr.heap.size wr wq := by rw [← hwq]; exact bl1 _ _
          have d0 : wq.cell? ⟨wr.heap.size, 0, none⟩ = some (.int .i64 X.id) := by rw [← hwq, World.cell?_alloc_at _ _ _ _ rfl]; rfl
          have d1 : wq.cell? ⟨wr.heap.size, 1, none⟩ = some (.string X.bu) := by rw [← hwq, World.cell?_alloc_at _ _ _ _ rfl]; rfl
          have d2 : wq.cell? ⟨wr.heap.size, 2, none⟩ = some (.string X.ke) := by rw [← hwq, World.cell?_alloc_at _ _ _ _ rfl]; rfl
          have d3 : wq.cell? ⟨wr.heap.size, 3, none⟩ = some (.bool X.nul) := by rw [← hwq, World.cell?_alloc_at _ _ _ _ rfl]; rfl
          have d4 : wq.cell? ⟨wr.heap.size, 4, none⟩ = some (.bool X.mar) := by rw [← hwq, World.cell?_alloc_at _ _ _ _ rfl]; rfl
          have d5 : wq.cell? ⟨wr.heap.size, 5, none⟩ = some (.int .i64 X.size) := by rw [← hwq, World.cell?_alloc_at _ _ _ _ rfl]; rfl
          have d6 : wq.cell? ⟨wr.heap.size, 6, none⟩ = some (.int .i64 X.time) := by rw [← hwq, World.cell?_alloc_at _ _ _ _ rfl]; rfl
          have d7 : wq.cell? ⟨wr.heap.size, 7, none⟩ = some (.int .i64 X.tier) := by rw [← hwq, World.cell?_alloc_at _ _ _ _ rfl]; rfl
          have d8 : wq.cell? ⟨wr.heap.size, 8, none⟩ = some (.slice za X.sec.length zc) := by rw [← hwq, World.cell?_alloc_at _ _ _ _ rfl]; rfl
          have d9 : wq.cell? ⟨wr.heap.size, 9, none⟩ = some (.int .i64 X.vol) := by rw [← hwq, World.cell?_alloc_at _ _ _ _ rfl]; rfl
          have d10 : wq.cell? ⟨wr.heap.size, 10, none⟩ = some (.int .i64 X.pos) := by rw [← hwq, World.cell?_alloc_at _ _ _ _ rfl]; rfl
          have d11 : wq.cell? ⟨wr.heap.size, 11, none⟩ = some (.int .i64 X.til) := by rw [← hwq, World.cell?_alloc_at _ _ _ _ rfl]; rfl

          clear hwq
          have hbQ := bl_trans hb hbq
          have hbw := bl_trans (unhide HW0) hbQ
          have hXq := (unhide HX).up hbQ
          have y0 := hXq.c0
          have y1 := hXq.c1
          have y2 := hXq.c2
          have y3 := hXq.c3
          have y4 := hXq.c4
          have y5 := hXq.c5
          have y6 := hXq.c6

          clear hXq
          have hBq := ((unhide HSW).up hbQ).bus
          have hGq := ((unhide HSW).up hbQ).gone
          have hIq := Ints.up hbq (unhide HZI)
          have HBq := hide hBq
          cases e1 : veC S X
          case false =>
            as_aux_lemma =>
            have HF : Hid (vesR S k = false) := by show _ = _; rw [unhide HP, e1]; rfl
            have hne := Later.one wq
            have l0 := fun d : Later wq => d.cell y0
            have l1 := fun d : Later wq => d.cell y1
            have l2 := fun d : Later wq => d.cell y2
            have l3 := fun d : Later wq => d.cell y3
            have l4 := fun d : Later wq => d.cell y4
            have l5 := fun d : Later wq => d.cell y5
            have l6 := fun d : Later wq => d.cell y6
            have l7 := fun d : Later wq => d.cell d0
            have l8 := fun d : Later wq => d.cell d1
            have l9 := fun d : Later wq => d.cell d2
            have l10 := fun d : Later wq => d.cell d3
            have l11 := fun d : Later wq => d.cell d4
            have l12 := fun d : Later wq => d.cell d5
            have l13 := fun d : Later wq => d.cell d6
            have l14 := fun d : Later wq => d.cell d7
            have l15 := fun d : Later wq => d.cell d8
            have l16 := fun d : Later wq => d.cell d9
            have l17 := fun d : Later wq => d.cell d10
            have l18 := fun d : Later wq => d.cell d11
            refine wp_region_later (by kernel_rfl) (by kernel_rfl) ?_
            repeat (go_big_quiet_step ((go_at_call 70; exact Calls.later (versionMay_any S _ _ _ _ _ X _ _ _ _ (Later.bus _ hBq) (Later.ints _ hGq) (Later.ints _ hIq) sk hx hx2))))
            refine wpQuiet_nil ?_
            intro w9 hw'
            obtain ⟨⟨w8, hb9⟩, hw''⟩ := hw'
            subst hw''
            clear hne l0 l1 l2 l3 l4 l5 l6 l7 l8 l9 l10 l11 l12 l13 l14 l15 l16 l17 l18
            go_wp2
            go_ret
            exact ⟨ret_bool (at_ves hlt (unhide HF)), bl_trans hbw hb9⟩
          cases k with
          | zero =>
            as_aux_lemma =>
            have hne := Later.one wq
            have l0 := fun d : Later wq => d.cell y0
            have l1 := fun d : Later wq => d.cell y1
            have l2 := fun d : Later wq => d.cell y2
            have l3 := fun d : Later wq => d.cell y3
            have l4 := fun d : Later wq => d.cell y4
            have l5 := fun d : Later wq => d.cell y5
            have l6 := fun d : Later wq => d.cell y6
            have l7 := fun d : Later wq => d.cell d0
            have l8 := fun d : Later wq => d.cell d1
            have l9 := fun d : Later wq => d.cell d2
            have l10 := fun d : Later wq => d.cell d3
            have l11 := fun d : Later wq => d.cell d4
            have l12 := fun d : Later wq => d.cell d5
            have l13 := fun d : Later wq => d.cell d6
            have l14 := fun d : Later wq => d.cell d7
            have l15 := fun d : Later wq => d.cell d8
            have l16 := fun d : Later wq => d.cell d9
            have l17 := fun d : Later wq => d.cell d10
            have l18 := fun d : Later wq => d.cell d11
            refine wp_region_later (by kernel_rfl) (by kernel_rfl) ?_
            repeat (go_big_quiet_step ((go_at_call 70; exact Calls.later (versionMay_any S _ _ _ _ _ X _ _ _ _ (Later.bus _ hBq) (Later.ints _ hGq) (Later.ints _ hIq) sk hx hx2))))
            refine wpQuiet_nil ?_
            intro w9 hw'
            obtain ⟨⟨w8, hb9⟩, hw''⟩ := hw'
            subst hw''
            clear hne l0 l1 l2 l3 l4 l5 l6 l7 l8 l9 l10 l11 l12 l13 l14 l15 l16 l17 l18
            clear hBq hGq hIq y0 y1 y2 y3 y4 y5 y6 d0 d4 d5 d6 d7 d8 d9 d10 d11
            have HQ := hide (bl_trans hbQ hb9)
            have f1 := scell_up hb9 d1
            have f2 := scell_up hb9 d2
            have f3 := scell_up hb9 d3
            have HF1 := hide f1
            have HF2 := hide f2
            have HF3 := hide f3
            clear f1 f2 f3
            go_wp2
            go_loopw [8, 9] (fun i _ wp => ∃ j : Nat, j ≤ 0 ∧ i = .int .i64 j ∧ Below w9.heap.size w9 wp ∧ ∀ l, l < j → twoN X (S.ves.getD l ve0) = false) (fun i _ _ => 0 - (intOf i).toNat)
            case atStart => exact ⟨0, Nat.zero_le _, rfl, Below.refl _ _, fun j hj => absurd hj (Nat.not_lt_zero _)⟩
            case round =>
              as_aux_lemma =>
              obtain ⟨j, hj, rfl, hbp, hin⟩ := hrel
              have HIN := hide hin
              clear hin
              have HBP := hide (bl_trans (unhide HQ) hbp)
              have x3p := ((unhide HX).up (unhide HBP)).c3
              have g1 := scell_up hbp (unhide HF1)
              have g2 := scell_up hbp (unhide HF2)
              have g3 := scell_up hbp (unhide HF3)
              have hlt7 := World.block_lt_of_cell? _ _ g1
              simp only at hlt7
              by_cases hjk : j < 0
              · exact absurd hjk (Nat.not_lt_zero _)
              · as_aux_lemma =>
                have HZ : Hid (vesR S 0 = true) := by
                  show _ = _
                  have ha : allB (0) (fun l => !twoN X (S.ves.getD l ve0)) = true := allB_t fun l hl => by rw [unhide HIN l (by omega)]; rfl
                  rw [unhide HP, ha]
                  rw [e1]; rfl
                have hjk' : ¬ (j : Int) < ((0 : Nat) : Int) := by omega
                go_wp2
                go_roundw
                case rel => exact ⟨0 + 1, by omega, by go_num, unhide HBP, fun j' hj' => if e : j' < 0 then unhide HA j' e else (show j' = 0 by omega) ▸ unhide HZ⟩
                case measure => (simp [intOf] <;> omega)
          | succ m =>
            as_aux_lemma =>
            obtain ⟨b2, o2, e2', r⟩ := Lst.at ((unhide HSW).up hbQ).ves (i := m) (by omega)
            simp at e2'
            obtain ⟨rfl, rfl⟩ := e2'
            have c1 := r.c0
            clear r
            rw [Nat.add_sub_cancel] at HP
            obtain ⟨Y, hY⟩ : ∃ G, S.ves.getD m ve0 = G := ⟨_, rfl⟩
            rw [hY] at c1 HP
            clear hY
            have hm0 : (0 : Int) ≤ (m : Int) := Int.natCast_nonneg _
            have hm1 : (m : Int) < (S.ves.length : Int) := by omega
            by_cases hle : X.id ≤ Y.id
            case pos =>
              as_aux_lemma =>
              have HF : Hid (vesR S (m + 1) = false) := by show _ = _; rw [unhide HP, decide_eq_true hle]; simp
              have hne := Later.one wq
              have l0 := fun d : Later wq => d.cell y0
              have l1 := fun d : Later wq => d.cell y1
              have l2 := fun d : Later wq => d.cell y2
              have l3 := fun d : Later wq => d.cell y3
              have l4 := fun d : Later wq => d.cell y4
              have l5 := fun d : Later wq => d.cell y5
              have l6 := fun d : Later wq => d.cell y6
              have l7 := fun d : Later wq => d.cell d0
              have l8 := fun d : Later wq => d.cell d1
              have l9 := fun d : Later wq => d.cell d2
              have l10 := fun d : Later wq => d.cell d3
              have l11 := fun d : Later wq => d.cell d4
              have l12 := fun d : Later wq => d.cell d5
              have l13 := fun d : Later wq => d.cell d6
              have l14 := fun d : Later wq => d.cell d7
              have l15 := fun d : Later wq => d.cell d8
              have l16 := fun d : Later wq => d.cell d9
              have l17 := fun d : Later wq => d.cell d10
              have l18 := fun d : Later wq => d.cell d11
              have l19 := fun d : Later wq => d.cell c1
              refine wp_region_later (by kernel_rfl) (by kernel_rfl) ?_
              repeat (go_big_quiet_step ((go_at_call 70; exact Calls.later (versionMay_any S _ _ _ _ _ X _ _ _ _ (Later.bus _ hBq) (Later.ints _ hGq) (Later.ints _ hIq) sk hx hx2))))
              refine wpQuiet_nil ?_
              intro w9 hw'
              obtain ⟨⟨w8, hb9⟩, hw''⟩ := hw'
              subst hw''
              clear hne l0 l1 l2 l3 l4 l5 l6 l7 l8 l9 l10 l11 l12 l13 l14 l15 l16 l17 l18 l19
              go_wp2
              go_ret
              exact ⟨ret_bool (at_ves hlt (unhide HF)), bl_trans hbw hb9⟩
            have HLE : Hid (decide (X.id ≤ Y.id) = false) := decide_eq_false hle
            have hne := Later.one wq
            have l0 := fun d : Later wq => d.cell y0
            have l1 := fun d : Later wq => d.cell y1
            have l2 := fun d : Later wq => d.cell y2
            have l3 := fun d : Later wq => d.cell y3
            have l4 := fun d : Later wq => d.cell y4
            have l5 := fun d : Later wq => d.cell y5
            have l6 := fun d : Later wq => d.cell y6
            have l7 := fun d : Later wq => d.cell d0
            have l8 := fun d : Later wq => d.cell d1
            have l9 := fun d : Later wq => d.cell d2
            have l10 := fun d : Later wq => d.cell d3
            have l11 := fun d : Later wq => d.cell d4
            have l12 := fun d : Later wq => d.cell d5
            have l13 := fun d : Later wq => d.cell d6
            have l14 := fun d : Later wq => d.cell d7
            have l15 := fun d : Later wq => d.cell d8
            have l16 := fun d : Later wq => d.cell d9
            have l17 := fun d : Later wq => d.cell d10
            have l18 := fun d : Later wq => d.cell d11
            have l19 := fun d : Later wq => d.cell c1
            refine wp_region_later (by kernel_rfl) (by kernel_rfl) ?_
            repeat (go_big_quiet_step ((go_at_call 70; exact Calls.later (versionMay_any S _ _ _ _ _ X _ _ _ _ (Later.bus _ hBq) (Later.ints _ hGq) (Later.ints _ hIq) sk hx hx2))))
            refine wpQuiet_nil ?_
            intro w9 hw'
            obtain ⟨⟨w8, hb9⟩, hw''⟩ := hw'
            subst hw''
            clear hne l0 l1 l2 l3 l4 l5 l6 l7 l8 l9 l10 l11 l12 l13 l14 l15 l16 l17 l18 l19
            clear hBq hGq hIq y0 y1 y2 y3 y4 y5 y6 d0 d4 d5 d6 d7 d8 d9 d10 d11 c1
            have HQ := hide (bl_trans hbQ hb9)
            have f1 := scell_up hb9 d1
            have f2 := scell_up hb9 d2
            have f3 := scell_up hb9 d3
            have HF1 := hide f1
            have HF2 := hide f2
            have HF3 := hide f3
            clear f1 f2 f3
            go_wp2
            go_loopw [8, 9] (fun i _ wp => ∃ j : Nat, j ≤ (m + 1) ∧ i = .int .i64 j ∧ Below w9.heap.size w9 wp ∧ ∀ l, l < j → twoN X (S.ves.getD l ve0) = false) (fun i _ _ => (m + 1) - (intOf i).toNat)
            case atStart => exact ⟨0, Nat.zero_le _, rfl, Below.refl _ _, fun j hj => absurd hj (Nat.not_lt_zero _)⟩
            case round =>
              as_aux_lemma =>
              obtain ⟨j, hj, rfl, hbp, hin⟩ := hrel
              have HIN := hide hin
              clear hin
              have HBP := hide (bl_trans (unhide HQ) hbp)
              have x3p := ((unhide HX).up (unhide HBP)).c3
              have g1 := scell_up hbp (unhide HF1)
              have g2 := scell_up hbp (unhide HF2)
              have g3 := scell_up hbp (unhide HF3)
              have hlt7 := World.block_lt_of_cell? _ _ g1
              simp only at hlt7
              by_cases hjk : j < (m + 1)
              · as_aux_lemma =>
                obtain ⟨b5, o5, e5, r⟩ := Lst.at ((unhide HSW).up (unhide HBP)).ves (i := j) (by omega)
                simp at e5
                obtain ⟨rfl, rfl⟩ := e5
                obtain ⟨Y2, hY⟩ : ∃ Y, S.ves.getD j ve0 = Y := ⟨_, rfl⟩
                rw [hY] at r
                have HYY := hide hY
                clear hY
                obtain ⟨z8, q8, hz8⟩ := r.c8
                obtain ⟨ya, yc, rfl, _⟩ := hz8.form
                have q0 := r.c0
                have q1 := r.c1
                have q2 := r.c2
                have q3 := r.c3
                have q4 := r.c4
                have q5 := r.c5
                have q6 := r.c6
                have q7 := r.c7
                have q9 := r.c9
                have q10 := r.c10
                have q11 := r.c11
                clear r hz8
                have hj1 : (j : Int) < (S.ves.length : Int) := by omega
                have HT : Hid (twoN X Y2 = (X.nul && Y2.nul && eqS X.bu Y2.bu && eqS X.ke Y2.ke)) := rfl
                cases t1 : X.nul
                case false =>
                  as_aux_lemma =>
                  have HZ : Hid (twoN X Y2 = false) := by show _ = _; rw [unhide HT, t1]; rfl
                  rw [t1] at g3
                  clear t1
                  go_wp2
                  go_roundw
                  case rel => exact ⟨j + 1, by omega, by go_num, bl_trans hbp (bl1 _ _), fun l hl => if e : l < j then unhide HIN l e else (show l = j by omega) ▸ (by rw [unhide HYY]; exact unhide HZ)⟩
                  case measure => (simp [intOf] <;> omega)
                rw [t1] at g3 HT
                clear t1
                cases t2 : Y2.nul
                case false =>
                  as_aux_lemma =>
                  have HZ : Hid (twoN X Y2 = false) := by show _ = _; rw [unhide HT, t2]; rfl
                  rw [t2] at q3
                  clear t2
                  go_wp2
                  go_roundw
                  case rel => exact ⟨j + 1, by omega, by go_num, bl_trans hbp (bl1 _ _), fun l hl => if e : l < j then unhide HIN l e else (show l = j by omega) ▸ (by rw [unhide HYY]; exact unhide HZ)⟩
                  case measure => (simp [intOf] <;> omega)
                rw [t2] at q3 HT
                clear t2
                cases t3 : eqS X.bu Y2.bu
                case false =>
                  as_aux_lemma =>
                  have HZ : Hid (twoN X Y2 = false) := by show _ = _; rw [unhide HT, t3]; rfl
                  simp only [eqS] at t3
                  go_wp2
                  go_roundw
                  case rel => exact ⟨j + 1, by omega, by go_num, bl_trans hbp (bl1 _ _), fun l hl => if e : l < j then unhide HIN l e else (show l = j by omega) ▸ (by rw [unhide HYY]; exact unhide HZ)⟩
                  case measure => (simp [intOf] <;> omega)
                rw [t3] at HT
                simp only [eqS] at t3
                cases t4 : eqS X.ke Y2.ke
                case false =>
                  as_aux_lemma =>
                  have HZ : Hid (twoN X Y2 = false) := by show _ = _; rw [unhide HT, t4]; rfl
                  simp only [eqS] at t4
                  go_wp2
                  go_roundw
                  case rel => exact ⟨j + 1, by omega, by go_num, bl_trans hbp (bl1 _ _), fun l hl => if e : l < j then unhide HIN l e else (show l = j by omega) ▸ (by rw [unhide HYY]; exact unhide HZ)⟩
                  case measure => (simp [intOf] <;> omega)
                have HZ : Hid (vesR S (m + 1) = false) := by
                  show _ = _
                  have ha : allB ((m + 1)) (fun l => !twoN X (S.ves.getD l ve0)) = false := allB_f hjk (by rw [unhide HYY, unhide HT, t4]; rfl)
                  rw [unhide HP, ha]
                  simp
                simp only [eqS] at t4
                go_wp2
                go_ret
                exact ⟨ret_bool (at_ves hlt (unhide HZ)), bl_trans (bl_trans (unhide HW0) (unhide HBP)) (bl1 _ _)⟩
              · as_aux_lemma =>
                have HZ : Hid (vesR S (m + 1) = true) := by
                  show _ = _
                  have ha : allB ((m + 1)) (fun l => !twoN X (S.ves.getD l ve0)) = true := allB_t fun l hl => by rw [unhide HIN l (by omega)]; rfl
                  rw [unhide HP, ha]
                  rw [e1, unhide HLE]; simp
                have hjk' : ¬ (j : Int) < (((m + 1) : Nat) : Int) := by omega
                go_wp2
                go_roundw
                case rel => exact ⟨(m + 1) + 1, by omega, by go_num, unhide HBP, fun j' hj' => if e : j' < (m + 1) then unhide HA j' e else (show j' = (m + 1) by omega) ▸ unhide HZ⟩
                case measure => (simp [intOf] <;> omega)
        have HVE : Hid (allB S.ves.length (vesR S) = true) := allB_t fun j hj => unhide HA j (by omega)
        go_wp2
        clear x3
        go_loopw [10, 11, 12, 13] (fun i _ _ _ wr => ∃ k : Nat, k ≤ S.ups.length ∧ i = .int .i64 k ∧ Below W.heap.size W wr ∧ ∀ j, j < k → upsR S j = true) (fun i _ _ _ _ => S.ups.length - (intOf i).toNat)
        case atStart => exact ⟨0, Nat.zero_le _, rfl, hb, fun j hj => absurd hj (Nat.not_lt_zero _)⟩
        case round =>
          as_aux_lemma =>
          clear hb hlt HA
          obtain ⟨k, hk, rfl, hb, hall⟩ := hrel
          have HA := hide hall
          have x4 := ((unhide HX).up hb).c4
          clear hall
          by_cases hlt : k < S.ups.length
          · as_aux_lemma =>
            obtain ⟨b', o', hva, r⟩ := Lst.at ((unhide HSW).up hb).ups hlt
            subst hva
            have HP : Hid (upsR S k = (namC S (S.ups.getD k up0).id (S.ups.getD k up0).bu (S.ups.getD k up0).ke && !(decide (0 < k) && decide ((S.ups.getD k up0).id ≤ (S.ups.getD (k - 1) up0).id)) && allB (S.ups.getD k up0).parts.length (pasR (S.ups.getD k up0).parts))) := rfl
            obtain ⟨X, hX⟩ : ∃ X, S.ups.getD k up0 = X := ⟨_, rfl⟩
            rw [hX] at r HP
            have HNM : Hid (namC S X.id X.bu X.ke = (inB X.id 1 (S.next - 1) && hasB S X.bu && worE X.ke 16 == 0)) := rfl
            have HHB : Hid (hasB S X.bu = decide (0 ≤ firstI S.bus.length (buP S.bus X.bu))) := rfl
            obtain ⟨z, hz, hzi⟩ := r.c3
            obtain ⟨za, zc, rfl, zl, zm⟩ := hzi.form
            unfold maxLen at zm
            have c0 := r.c0
            have c1 := r.c1
            have c2 := r.c2
            have sk := r.s2
            have HZI := hide hzi
            clear r hX hzi
            go_upto_region 30 with fail
            clear c0 c1 c2 hz x4
            obtain ⟨wq, hwq⟩ : ∃ wq, wr.alloc (.cells #[.int .i64 X.id, .string X.bu, .string X.ke, .slice za X.parts.length zc] 108) = wq := ⟨_, rfl⟩
            rw [hwq]
            have hbq : Below wr.heap.size wr wq := by rw [← hwq]; exact bl1 _ _
            have d0 : wq.cell? ⟨wr.heap.size, 0, none⟩ = some (.int .i64 X.id) := by rw [← hwq, World.cell?_alloc_at _ _ _ _ rfl]; rfl
            have d1 : wq.cell? ⟨wr.heap.size, 1, none⟩ = some (.string X.bu) := by rw [← hwq, World.cell?_alloc_at _ _ _ _ rfl]; rfl
            have d2 : wq.cell? ⟨wr.heap.size, 2, none⟩ = some (.string X.ke) := by rw [← hwq, World.cell?_alloc_at _ _ _ _ rfl]; rfl
            have d3 : wq.cell? ⟨wr.heap.size, 3, none⟩ = some (.slice za X.parts.length zc) := by rw [← hwq, World.cell?_alloc_at _ _ _ _ rfl]; rfl

            clear hwq
            have hbQ := bl_trans hb hbq
            have hbw := bl_trans (unhide HW0) hbQ
            have hXq := (unhide HX).up hbQ
            have y0 := hXq.c0
            have y1 := hXq.c1
            have y2 := hXq.c2
            have y3 := hXq.c3
            have y4 := hXq.c4
            have y5 := hXq.c5
            have y6 := hXq.c6

            clear hXq
            have hBq := ((unhide HSW).up hbQ).bus
            by_cases j1 : firstI S.bus.length (buP S.bus X.bu) < 0
            case pos =>
              as_aux_lemma =>
              have HF : Hid (upsR S k = false) := by show _ = _; rw [unhide HP, unhide HNM, unhide HHB, decide_eq_false (by omega)]; simp
              have hne := Later.one wq
              have l0 := fun d : Later wq => d.cell y0
              have l1 := fun d : Later wq => d.cell y1
              have l2 := fun d : Later wq => d.cell y2
              have l3 := fun d : Later wq => d.cell y3
              have l4 := fun d : Later wq => d.cell y4
              have l5 := fun d : Later wq => d.cell y5
              have l6 := fun d : Later wq => d.cell y6
              have l7 := fun d : Later wq => d.cell d0
              have l8 := fun d : Later wq => d.cell d1
              have l9 := fun d : Later wq => d.cell d2
              have l10 := fun d : Later wq => d.cell d3
              refine wp_region_later (by kernel_rfl) (by kernel_rfl) ?_
              repeat (go_big_quiet_step (first | (go_at_call 71; exact Calls.later (bucketAt_any S _ _ _ _ _ _ _ (Later.bus _ hBq))) | (go_at_call 72; exact Calls.later (keyFault_any _ _ sk)) | (go_at_call 28; exact Calls.later_same (in_any _ _ _ _))))
              refine wpQuiet_nil ?_
              intro w9 hw'
              obtain ⟨⟨w8, hb9⟩, hw''⟩ := hw'
              subst hw''
              clear hne l0 l1 l2 l3 l4 l5 l6 l7 l8 l9 l10
              go_wp2
              go_ret
              exact ⟨ret_bool (at_ups hlt (unhide HF)), bl_trans hbw hb9⟩
            have HH : Hid (hasB S X.bu = true) := by show _ = _; rw [unhide HHB]; exact decide_eq_true (by omega)
            have j2 : decide (firstI S.bus.length (buP S.bus X.bu) < 0) = false := decide_eq_false j1
            clear j1
            by_cases e1 : worE X.ke 16 = 0
            case neg =>
              as_aux_lemma =>
              have e1b : (worE X.ke 16 != 0) = true := by simp [e1]
              have HF : Hid (upsR S k = false) := by show _ = _; rw [unhide HP, unhide HNM]; simp [e1]
              clear e1
              have hne := Later.one wq
              have l0 := fun d : Later wq => d.cell y0
              have l1 := fun d : Later wq => d.cell y1
              have l2 := fun d : Later wq => d.cell y2
              have l3 := fun d : Later wq => d.cell y3
              have l4 := fun d : Later wq => d.cell y4
              have l5 := fun d : Later wq => d.cell y5
              have l6 := fun d : Later wq => d.cell y6
              have l7 := fun d : Later wq => d.cell d0
              have l8 := fun d : Later wq => d.cell d1
              have l9 := fun d : Later wq => d.cell d2
              have l10 := fun d : Later wq => d.cell d3
              refine wp_region_later (by kernel_rfl) (by kernel_rfl) ?_
              repeat (go_big_quiet_step (first | (go_at_call 71; exact Calls.later (bucketAt_any S _ _ _ _ _ _ _ (Later.bus _ hBq))) | (go_at_call 72; exact Calls.later (keyFault_any _ _ sk)) | (go_at_call 28; exact Calls.later_same (in_any _ _ _ _))))
              refine wpQuiet_nil ?_
              intro w9 hw'
              obtain ⟨⟨w8, hb9⟩, hw''⟩ := hw'
              subst hw''
              clear hne l0 l1 l2 l3 l4 l5 l6 l7 l8 l9 l10
              go_wp2
              go_ret
              exact ⟨ret_bool (at_ups hlt (unhide HF)), bl_trans hbw hb9⟩
            cases e2 : inB X.id 1 (S.next - 1)
            case false =>
              as_aux_lemma =>
              have HF : Hid (upsR S k = false) := by show _ = _; rw [unhide HP, unhide HNM, e2]; simp
              have hne := Later.one wq
              have l0 := fun d : Later wq => d.cell y0
              have l1 := fun d : Later wq => d.cell y1
              have l2 := fun d : Later wq => d.cell y2
              have l3 := fun d : Later wq => d.cell y3
              have l4 := fun d : Later wq => d.cell y4
              have l5 := fun d : Later wq => d.cell y5
              have l6 := fun d : Later wq => d.cell y6
              have l7 := fun d : Later wq => d.cell d0
              have l8 := fun d : Later wq => d.cell d1
              have l9 := fun d : Later wq => d.cell d2
              have l10 := fun d : Later wq => d.cell d3
              refine wp_region_later (by kernel_rfl) (by kernel_rfl) ?_
              repeat (go_big_quiet_step (first | (go_at_call 71; exact Calls.later (bucketAt_any S _ _ _ _ _ _ _ (Later.bus _ hBq))) | (go_at_call 72; exact Calls.later (keyFault_any _ _ sk)) | (go_at_call 28; exact Calls.later_same (in_any _ _ _ _))))
              refine wpQuiet_nil ?_
              intro w9 hw'
              obtain ⟨⟨w8, hb9⟩, hw''⟩ := hw'
              subst hw''
              clear hne l0 l1 l2 l3 l4 l5 l6 l7 l8 l9 l10
              go_wp2
              go_ret
              exact ⟨ret_bool (at_ups hlt (unhide HF)), bl_trans hbw hb9⟩
            have HN1 : Hid (namC S X.id X.bu X.ke = true) := by show _ = _; rw [unhide HNM, e2, unhide HH, e1]; rfl
            cases k with
            | zero =>
              as_aux_lemma =>
              have hne := Later.one wq
              have l0 := fun d : Later wq => d.cell y0
              have l1 := fun d : Later wq => d.cell y1
              have l2 := fun d : Later wq => d.cell y2
              have l3 := fun d : Later wq => d.cell y3
              have l4 := fun d : Later wq => d.cell y4
              have l5 := fun d : Later wq => d.cell y5
              have l6 := fun d : Later wq => d.cell y6
              have l7 := fun d : Later wq => d.cell d0
              have l8 := fun d : Later wq => d.cell d1
              have l9 := fun d : Later wq => d.cell d2
              have l10 := fun d : Later wq => d.cell d3
              refine wp_region_later (by kernel_rfl) (by kernel_rfl) ?_
              repeat (go_big_quiet_step (first | (go_at_call 71; exact Calls.later (bucketAt_any S _ _ _ _ _ _ _ (Later.bus _ hBq))) | (go_at_call 72; exact Calls.later (keyFault_any _ _ sk)) | (go_at_call 28; exact Calls.later_same (in_any _ _ _ _))))
              refine wpQuiet_nil ?_
              intro w9 hw'
              obtain ⟨⟨w8, hb9⟩, hw''⟩ := hw'
              subst hw''
              clear hne l0 l1 l2 l3 l4 l5 l6 l7 l8 l9 l10
              clear hBq y0 y1 y2 y3 y4 y5 y6 d0 d1 d2
              have HQ := hide (bl_trans hbQ hb9)
              have HF3 := hide (scell_up hb9 d3)
              have HPI := hide ((Pas.up hbq (unhide HZI)))
              have HPI9 := hide (Pas.up hb9 (unhide HPI))
              have f3 := unhide HF3
              go_wp2
              clear f3
              go_loopw [12, 13] (fun i _ wp => ∃ j : Nat, j ≤ X.parts.length ∧ i = .int .i64 j ∧ Below w9.heap.size w9 wp ∧ ∀ l, l < j → pasR X.parts l = true) (fun i _ _ => X.parts.length - (intOf i).toNat)
              case atStart => exact ⟨0, Nat.zero_le _, rfl, Below.refl _ _, fun j hj => absurd hj (Nat.not_lt_zero _)⟩
              case round =>
                as_aux_lemma =>
                obtain ⟨j, hj, rfl, hbp, hin⟩ := hrel
                have HIN := hide hin
                clear hin
                have HBP := hide (bl_trans (unhide HQ) hbp)
                have g3 := scell_up hbp (unhide HF3)
                by_cases hjk : j < X.parts.length
                · as_aux_lemma =>
                  obtain ⟨b5, o5, hza, r⟩ := Lst.at (Pas.up hbp (unhide HPI9)) hjk
                  subst hza
                  have HPP : Hid (pasR X.parts j = (paC (X.parts.getD j pa0) && !(decide (0 < j) && decide ((X.parts.getD j pa0).n ≤ (X.parts.getD (j - 1) pa0).n)))) := rfl
                  obtain ⟨P, hP⟩ : ∃ P, X.parts.getD j pa0 = P := ⟨_, rfl⟩
                  rw [hP] at r HPP
                  have HPC : Hid (paC P = (inB P.n 1 5 && inB P.size 0 600 && (P.sec.length : Int) == secN P.size)) := rfl
                  clear hP
                  obtain ⟨z8, q2, hz8⟩ := r.c2
                  obtain ⟨ya, yc, rfl, yl, ym⟩ := hz8.form
                  unfold maxLen at ym
                  have q0 := r.c0
                  have q1 := r.c1
                  clear r hz8
                  go_upto_region 36 with fail
                  clear q0 q1 q2 g3
                  obtain ⟨wz, hwz⟩ : ∃ wz, wr.alloc (.cells #[.int .i64 P.n, .int .i64 P.size, .slice ya P.sec.length yc] 111) = wz := ⟨_, rfl⟩
                  rw [hwz]
                  have hpq : Below wr.heap.size wr wz := by rw [← hwz]; exact bl1 _ _
                  have p0 : wz.cell? ⟨wr.heap.size, 0, none⟩ = some (.int .i64 P.n) := by rw [← hwz, World.cell?_alloc_at _ _ _ _ rfl]; rfl
                  have p1 : wz.cell? ⟨wr.heap.size, 1, none⟩ = some (.int .i64 P.size) := by rw [← hwz, World.cell?_alloc_at _ _ _ _ rfl]; rfl
                  have p2 : wz.cell? ⟨wr.heap.size, 2, none⟩ = some (.slice ya P.sec.length yc) := by rw [← hwz, World.cell?_alloc_at _ _ _ _ rfl]; rfl
                  have p3 := scell_up (bl_trans hbp hpq) (unhide HF3)
                  clear hwz
                  cases t1 : inB P.n 1 5
                  case false =>
                    as_aux_lemma =>
                    have HZ : Hid (pasR X.parts j = false) := by show _ = _; rw [unhide HPP, unhide HPC, t1]; rfl
                    have hne := Later.one wz
                    have l0 := fun d : Later wz => d.cell p0
                    have l1 := fun d : Later wz => d.cell p1
                    have l2 := fun d : Later wz => d.cell p2
                    have l3 := fun d : Later wz => d.cell p3
                    refine wp_region_later (by kernel_rfl) (by kernel_rfl) ?_
                    repeat (go_big_quiet_step ((go_at_call 28; exact Calls.later_same (in_any _ _ _ _))))
                    refine wpQuiet_nil ?_
                    intro w9 hw'
                    obtain ⟨⟨w8, hb9⟩, hw''⟩ := hw'
                    subst hw''
                    clear hne l0 l1 l2 l3
                    go_wp2
                    go_ret
                    exact ⟨ret_bool (at_ups hlt (by rw [unhide HP, allB_f hjk (unhide HZ)]; simp)), bl_trans (bl_trans (unhide HW0) (unhide HBP)) (bl_trans hpq hb9)⟩
                  cases t2 : inB P.size 0 600
                  case false =>
                    as_aux_lemma =>
                    have HZ : Hid (pasR X.parts j = false) := by show _ = _; rw [unhide HPP, unhide HPC, t2]; simp
                    have hne := Later.one wz
                    have l0 := fun d : Later wz => d.cell p0
                    have l1 := fun d : Later wz => d.cell p1
                    have l2 := fun d : Later wz => d.cell p2
                    have l3 := fun d : Later wz => d.cell p3
                    refine wp_region_later (by kernel_rfl) (by kernel_rfl) ?_
                    repeat (go_big_quiet_step ((go_at_call 28; exact Calls.later_same (in_any _ _ _ _))))
                    refine wpQuiet_nil ?_
                    intro w9 hw'
                    obtain ⟨⟨w8, hb9⟩, hw''⟩ := hw'
                    subst hw''
                    clear hne l0 l1 l2 l3
                    go_wp2
                    go_ret
                    exact ⟨ret_bool (at_ups hlt (by rw [unhide HP, allB_f hjk (unhide HZ)]; simp)), bl_trans (bl_trans (unhide HW0) (unhide HBP)) (bl_trans hpq hb9)⟩
                  obtain ⟨z0, z1'⟩ := inB_t t2
                  have z1 : P.size ≤ 1000000 := by omega
                  cases t3 : ((P.sec.length : Int) == secN P.size)
                  case false =>
                    as_aux_lemma =>
                    have HZ : Hid (pasR X.parts j = false) := by show _ = _; rw [unhide HPP, unhide HPC, t3]; simp
                    have t3_ : ((P.sec.length : Int) != secN P.size) = true := by simpa using t3
                    have hne := Later.one wz
                    have l0 := fun d : Later wz => d.cell p0
                    have l1 := fun d : Later wz => d.cell p1
                    have l2 := fun d : Later wz => d.cell p2
                    have l3 := fun d : Later wz => d.cell p3
                    refine wp_region_later (by kernel_rfl) (by kernel_rfl) ?_
                    repeat (go_big_quiet_step (first | (go_at_call 73; exact Calls.later_same (chunks_any _ _ z0 z1)) | (go_at_call 28; exact Calls.later_same (in_any _ _ _ _))))
                    refine wpQuiet_nil ?_
                    intro w9 hw'
                    obtain ⟨⟨w8, hb9⟩, hw''⟩ := hw'
                    subst hw''
                    clear hne l0 l1 l2 l3
                    go_wp2
                    go_ret
                    exact ⟨ret_bool (at_ups hlt (by rw [unhide HP, allB_f hjk (unhide HZ)]; simp)), bl_trans (bl_trans (unhide HW0) (unhide HBP)) (bl_trans hpq hb9)⟩
                  have t3_ : ((P.sec.length : Int) != secN P.size) = false := by simpa using t3
                  cases j with
                  | zero =>
                    as_aux_lemma =>
                    have HZ : Hid (pasR X.parts 0 = true) := by show _ = _; rw [unhide HPP, unhide HPC, t1, t2, t3]; rfl
                    have hne := Later.one wz
                    have l0 := fun d : Later wz => d.cell p0
                    have l1 := fun d : Later wz => d.cell p1
                    have l2 := fun d : Later wz => d.cell p2
                    have l3 := fun d : Later wz => d.cell p3
                    refine wp_region_later (by kernel_rfl) (by kernel_rfl) ?_
                    repeat (go_big_quiet_step (first | (go_at_call 73; exact Calls.later_same (chunks_any _ _ z0 z1)) | (go_at_call 28; exact Calls.later_same (in_any _ _ _ _))))
                    refine wpQuiet_nil ?_
                    intro w9 hw'
                    obtain ⟨⟨w8, hb9⟩, hw''⟩ := hw'
                    subst hw''
                    clear hne l0 l1 l2 l3
                    go_wp2
                    go_roundw
                    case rel => exact ⟨0 + 1, by omega, by go_num, bl_trans hbp (bl_trans hpq hb9), fun l hl => if e : l < 0 then unhide HIN l e else (show l = 0 by omega) ▸ unhide HZ⟩
                    case measure => (simp [intOf] <;> omega)
                  | succ i2 =>
                    as_aux_lemma =>
                    obtain ⟨b6, o6, e6, r⟩ := Lst.at (Pas.up (bl_trans hbp hpq) (unhide HPI9)) (i := i2) (by omega)
                    simp at e6
                    obtain ⟨rfl, rfl⟩ := e6
                    have p4 := r.c0
                    clear r
                    rw [Nat.add_sub_cancel] at HPP
                    obtain ⟨P1, hP1⟩ : ∃ P, X.parts.getD i2 pa0 = P := ⟨_, rfl⟩
                    rw [hP1] at p4 HPP
                    clear hP1
                    have hi0 : (0 : Int) ≤ (i2 : Int) := Int.natCast_nonneg _
                    have hi1 : (i2 : Int) < (X.parts.length : Int) := by omega
                    by_cases hle : P.n ≤ P1.n
                    case pos =>
                      as_aux_lemma =>
                      have HZ : Hid (pasR X.parts (i2 + 1) = false) := by show _ = _; rw [unhide HPP, decide_eq_true hle]; simp
                      have hne := Later.one wz
                      have l0 := fun d : Later wz => d.cell p0
                      have l1 := fun d : Later wz => d.cell p1
                      have l2 := fun d : Later wz => d.cell p2
                      have l3 := fun d : Later wz => d.cell p3
                      have l4 := fun d : Later wz => d.cell p4
                      refine wp_region_later (by kernel_rfl) (by kernel_rfl) ?_
                      repeat (go_big_quiet_step (first | (go_at_call 73; exact Calls.later_same (chunks_any _ _ z0 z1)) | (go_at_call 28; exact Calls.later_same (in_any _ _ _ _))))
                      refine wpQuiet_nil ?_
                      intro w9 hw'
                      obtain ⟨⟨w8, hb9⟩, hw''⟩ := hw'
                      subst hw''
                      clear hne l0 l1 l2 l3 l4
                      go_wp2
                      go_ret
                      exact ⟨ret_bool (at_ups hlt (by rw [unhide HP, allB_f hjk (unhide HZ)]; simp)), bl_trans (bl_trans (unhide HW0) (unhide HBP)) (bl_trans hpq hb9)⟩
                    have HZ : Hid (pasR X.parts (i2 + 1) = true) := by show _ = _; rw [unhide HPP, unhide HPC, t1, t2, t3, decide_eq_false hle]; simp
                    have hne := Later.one wz
                    have l0 := fun d : Later wz => d.cell p0
                    have l1 := fun d : Later wz => d.cell p1
                    have l2 := fun d : Later wz => d.cell p2
                    have l3 := fun d : Later wz => d.cell p3
                    have l4 := fun d : Later wz => d.cell p4
                    refine wp_region_later (by kernel_rfl) (by kernel_rfl) ?_
                    repeat (go_big_quiet_step (first | (go_at_call 73; exact Calls.later_same (chunks_any _ _ z0 z1)) | (go_at_call 28; exact Calls.later_same (in_any _ _ _ _))))
                    refine wpQuiet_nil ?_
                    intro w9 hw'
                    obtain ⟨⟨w8, hb9⟩, hw''⟩ := hw'
                    subst hw''
                    clear hne l0 l1 l2 l3 l4
                    go_wp2
                    go_roundw
                    case rel => exact ⟨(i2 + 1) + 1, by omega, by go_num, bl_trans hbp (bl_trans hpq hb9), fun l hl => if e : l < (i2 + 1) then unhide HIN l e else (show l = (i2 + 1) by omega) ▸ unhide HZ⟩
                    case measure => (simp [intOf] <;> omega)
                · as_aux_lemma =>
                  have HZ : Hid (upsR S 0 = true) := by
                    show _ = _
                    have ha : allB X.parts.length (pasR X.parts) = true := allB_t fun l hl => unhide HIN l (by omega)
                    rw [unhide HP, ha]
                    rw [unhide HN1]; rfl
                  go_wp2
                  go_roundw
                  case rel => exact ⟨0 + 1, by omega, by go_num, unhide HBP, fun j' hj' => if e : j' < 0 then unhide HA j' e else (show j' = 0 by omega) ▸ unhide HZ⟩
                  case measure => (simp [intOf] <;> omega)
            | succ m =>
              as_aux_lemma =>
              obtain ⟨b2, o2, e2', r⟩ := Lst.at ((unhide HSW).up hbQ).ups (i := m) (by omega)
              simp at e2'
              obtain ⟨rfl, rfl⟩ := e2'
              have c1 := r.c0
              clear r
              rw [Nat.add_sub_cancel] at HP
              obtain ⟨Y, hY⟩ : ∃ G, S.ups.getD m up0 = G := ⟨_, rfl⟩
              rw [hY] at c1 HP
              clear hY
              have hm0 : (0 : Int) ≤ (m : Int) := Int.natCast_nonneg _
              have hm1 : (m : Int) < (S.ups.length : Int) := by omega
              by_cases hle : X.id ≤ Y.id
              case pos =>
                as_aux_lemma =>
                have HF : Hid (upsR S (m + 1) = false) := by show _ = _; rw [unhide HP, decide_eq_true hle]; simp
                have hne := Later.one wq
                have l0 := fun d : Later wq => d.cell y0
                have l1 := fun d : Later wq => d.cell y1
                have l2 := fun d : Later wq => d.cell y2
                have l3 := fun d : Later wq => d.cell y3
                have l4 := fun d : Later wq => d.cell y4
                have l5 := fun d : Later wq => d.cell y5
                have l6 := fun d : Later wq => d.cell y6
                have l7 := fun d : Later wq => d.cell d0
                have l8 := fun d : Later wq => d.cell d1
                have l9 := fun d : Later wq => d.cell d2
                have l10 := fun d : Later wq => d.cell d3
                have l11 := fun d : Later wq => d.cell c1
                refine wp_region_later (by kernel_rfl) (by kernel_rfl) ?_
                repeat (go_big_quiet_step (first | (go_at_call 71; exact Calls.later (bucketAt_any S _ _ _ _ _ _ _ (Later.bus _ hBq))) | (go_at_call 72; exact Calls.later (keyFault_any _ _ sk)) | (go_at_call 28; exact Calls.later_same (in_any _ _ _ _))))
                refine wpQuiet_nil ?_
                intro w9 hw'
                obtain ⟨⟨w8, hb9⟩, hw''⟩ := hw'
                subst hw''
                clear hne l0 l1 l2 l3 l4 l5 l6 l7 l8 l9 l10 l11
                go_wp2
                go_ret
                exact ⟨ret_bool (at_ups hlt (unhide HF)), bl_trans hbw hb9⟩
              have HLE : Hid (decide (X.id ≤ Y.id) = false) := decide_eq_false hle
              have hne := Later.one wq
              have l0 := fun d : Later wq => d.cell y0
              have l1 := fun d : Later wq => d.cell y1
              have l2 := fun d : Later wq => d.cell y2
              have l3 := fun d : Later wq => d.cell y3
              have l4 := fun d : Later wq => d.cell y4
              have l5 := fun d : Later wq => d.cell y5
              have l6 := fun d : Later wq => d.cell y6
              have l7 := fun d : Later wq => d.cell d0
              have l8 := fun d : Later wq => d.cell d1
              have l9 := fun d : Later wq => d.cell d2
              have l10 := fun d : Later wq => d.cell d3
              have l11 := fun d : Later wq => d.cell c1
              refine wp_region_later (by kernel_rfl) (by kernel_rfl) ?_
              repeat (go_big_quiet_step (first | (go_at_call 71; exact Calls.later (bucketAt_any S _ _ _ _ _ _ _ (Later.bus _ hBq))) | (go_at_call 72; exact Calls.later (keyFault_any _ _ sk)) | (go_at_call 28; exact Calls.later_same (in_any _ _ _ _))))
              refine wpQuiet_nil ?_
              intro w9 hw'
              obtain ⟨⟨w8, hb9⟩, hw''⟩ := hw'
              subst hw''
              clear hne l0 l1 l2 l3 l4 l5 l6 l7 l8 l9 l10 l11
              clear hBq y0 y1 y2 y3 y4 y5 y6 d0 d1 d2 c1
              have HQ := hide (bl_trans hbQ hb9)
              have HF3 := hide (scell_up hb9 d3)
              have HPI := hide ((Pas.up hbq (unhide HZI)))
              have HPI9 := hide (Pas.up hb9 (unhide HPI))
              have f3 := unhide HF3
              go_wp2
              clear f3
              go_loopw [12, 13] (fun i _ wp => ∃ j : Nat, j ≤ X.parts.length ∧ i = .int .i64 j ∧ Below w9.heap.size w9 wp ∧ ∀ l, l < j → pasR X.parts l = true) (fun i _ _ => X.parts.length - (intOf i).toNat)
              case atStart => exact ⟨0, Nat.zero_le _, rfl, Below.refl _ _, fun j hj => absurd hj (Nat.not_lt_zero _)⟩
              case round =>
                as_aux_lemma =>
                obtain ⟨j, hj, rfl, hbp, hin⟩ := hrel
                have HIN := hide hin
                clear hin
                have HBP := hide (bl_trans (unhide HQ) hbp)
                have g3 := scell_up hbp (unhide HF3)
                by_cases hjk : j < X.parts.length
                · as_aux_lemma =>
                  obtain ⟨b5, o5, hza, r⟩ := Lst.at (Pas.up hbp (unhide HPI9)) hjk
                  subst hza
                  have HPP : Hid (pasR X.parts j = (paC (X.parts.getD j pa0) && !(decide (0 < j) && decide ((X.parts.getD j pa0).n ≤ (X.parts.getD (j - 1) pa0).n)))) := rfl
                  obtain ⟨P, hP⟩ : ∃ P, X.parts.getD j pa0 = P := ⟨_, rfl⟩
                  rw [hP] at r HPP
                  have HPC : Hid (paC P = (inB P.n 1 5 && inB P.size 0 600 && (P.sec.length : Int) == secN P.size)) := rfl
                  clear hP
                  obtain ⟨z8, q2, hz8⟩ := r.c2
                  obtain ⟨ya, yc, rfl, yl, ym⟩ := hz8.form
                  unfold maxLen at ym
                  have q0 := r.c0
                  have q1 := r.c1
                  clear r hz8
                  go_upto_region 36 with fail
                  clear q0 q1 q2 g3
                  obtain ⟨wz, hwz⟩ : ∃ wz, wr.alloc (.cells #[.int .i64 P.n, .int .i64 P.size, .slice ya P.sec.length yc] 111) = wz := ⟨_, rfl⟩
                  rw [hwz]
                  have hpq : Below wr.heap.size wr wz := by rw [← hwz]; exact bl1 _ _
                  have p0 : wz.cell? ⟨wr.heap.size, 0, none⟩ = some (.int .i64 P.n) := by rw [← hwz, World.cell?_alloc_at _ _ _ _ rfl]; rfl
                  have p1 : wz.cell? ⟨wr.heap.size, 1, none⟩ = some (.int .i64 P.size) := by rw [← hwz, World.cell?_alloc_at _ _ _ _ rfl]; rfl
                  have p2 : wz.cell? ⟨wr.heap.size, 2, none⟩ = some (.slice ya P.sec.length yc) := by rw [← hwz, World.cell?_alloc_at _ _ _ _ rfl]; rfl
                  have p3 := scell_up (bl_trans hbp hpq) (unhide HF3)
                  clear hwz
                  cases t1 : inB P.n 1 5
                  case false =>
                    as_aux_lemma =>
                    have HZ : Hid (pasR X.parts j = false) := by show _ = _; rw [unhide HPP, unhide HPC, t1]; rfl
                    have hne := Later.one wz
                    have l0 := fun d : Later wz => d.cell p0
                    have l1 := fun d : Later wz => d.cell p1
                    have l2 := fun d : Later wz => d.cell p2
                    have l3 := fun d : Later wz => d.cell p3
                    refine wp_region_later (by kernel_rfl) (by kernel_rfl) ?_
                    repeat (go_big_quiet_step ((go_at_call 28; exact Calls.later_same (in_any _ _ _ _))))
                    refine wpQuiet_nil ?_
                    intro w9 hw'
                    obtain ⟨⟨w8, hb9⟩, hw''⟩ := hw'
                    subst hw''
                    clear hne l0 l1 l2 l3
                    go_wp2
                    go_ret
                    exact ⟨ret_bool (at_ups hlt (by rw [unhide HP, allB_f hjk (unhide HZ)]; simp)), bl_trans (bl_trans (unhide HW0) (unhide HBP)) (bl_trans hpq hb9)⟩
                  cases t2 : inB P.size 0 600
                  case false =>
                    as_aux_lemma =>
                    have HZ : Hid (pasR X.parts j = false) := by show _ = _; rw [unhide HPP, unhide HPC, t2]; simp
                    have hne := Later.one wz
                    have l0 := fun d : Later wz => d.cell p0
                    have l1 := fun d : Later wz => d.cell p1
                    have l2 := fun d : Later wz => d.cell p2
                    have l3 := fun d : Later wz => d.cell p3
                    refine wp_region_later (by kernel_rfl) (by kernel_rfl) ?_
                    repeat (go_big_quiet_step ((go_at_call 28; exact Calls.later_same (in_any _ _ _ _))))
                    refine wpQuiet_nil ?_
                    intro w9 hw'
                    obtain ⟨⟨w8, hb9⟩, hw''⟩ := hw'
                    subst hw''
                    clear hne l0 l1 l2 l3
                    go_wp2
                    go_ret
                    exact ⟨ret_bool (at_ups hlt (by rw [unhide HP, allB_f hjk (unhide HZ)]; simp)), bl_trans (bl_trans (unhide HW0) (unhide HBP)) (bl_trans hpq hb9)⟩
                  obtain ⟨z0, z1'⟩ := inB_t t2
                  have z1 : P.size ≤ 1000000 := by omega
                  cases t3 : ((P.sec.length : Int) == secN P.size)
                  case false =>
                    as_aux_lemma =>
                    have HZ : Hid (pasR X.parts j = false) := by show _ = _; rw [unhide HPP, unhide HPC, t3]; simp
                    have t3_ : ((P.sec.length : Int) != secN P.size) = true := by simpa using t3
                    have hne := Later.one wz
                    have l0 := fun d : Later wz => d.cell p0
                    have l1 := fun d : Later wz => d.cell p1
                    have l2 := fun d : Later wz => d.cell p2
                    have l3 := fun d : Later wz => d.cell p3
                    refine wp_region_later (by kernel_rfl) (by kernel_rfl) ?_
                    repeat (go_big_quiet_step (first | (go_at_call 73; exact Calls.later_same (chunks_any _ _ z0 z1)) | (go_at_call 28; exact Calls.later_same (in_any _ _ _ _))))
                    refine wpQuiet_nil ?_
                    intro w9 hw'
                    obtain ⟨⟨w8, hb9⟩, hw''⟩ := hw'
                    subst hw''
                    clear hne l0 l1 l2 l3
                    go_wp2
                    go_ret
                    exact ⟨ret_bool (at_ups hlt (by rw [unhide HP, allB_f hjk (unhide HZ)]; simp)), bl_trans (bl_trans (unhide HW0) (unhide HBP)) (bl_trans hpq hb9)⟩
                  have t3_ : ((P.sec.length : Int) != secN P.size) = false := by simpa using t3
                  cases j with
                  | zero =>
                    as_aux_lemma =>
                    have HZ : Hid (pasR X.parts 0 = true) := by show _ = _; rw [unhide HPP, unhide HPC, t1, t2, t3]; rfl
                    have hne := Later.one wz
                    have l0 := fun d : Later wz => d.cell p0
                    have l1 := fun d : Later wz => d.cell p1
                    have l2 := fun d : Later wz => d.cell p2
                    have l3 := fun d : Later wz => d.cell p3
                    refine wp_region_later (by kernel_rfl) (by kernel_rfl) ?_
                    repeat (go_big_quiet_step (first | (go_at_call 73; exact Calls.later_same (chunks_any _ _ z0 z1)) | (go_at_call 28; exact Calls.later_same (in_any _ _ _ _))))
                    refine wpQuiet_nil ?_
                    intro w9 hw'
                    obtain ⟨⟨w8, hb9⟩, hw''⟩ := hw'
                    subst hw''
                    clear hne l0 l1 l2 l3
                    go_wp2
                    go_roundw
                    case rel => exact ⟨0 + 1, by omega, by go_num, bl_trans hbp (bl_trans hpq hb9), fun l hl => if e : l < 0 then unhide HIN l e else (show l = 0 by omega) ▸ unhide HZ⟩
                    case measure => (simp [intOf] <;> omega)
                  | succ i2 =>
                    as_aux_lemma =>
                    obtain ⟨b6, o6, e6, r⟩ := Lst.at (Pas.up (bl_trans hbp hpq) (unhide HPI9)) (i := i2) (by omega)
                    simp at e6
                    obtain ⟨rfl, rfl⟩ := e6
                    have p4 := r.c0
                    clear r
                    rw [Nat.add_sub_cancel] at HPP
                    obtain ⟨P1, hP1⟩ : ∃ P, X.parts.getD i2 pa0 = P := ⟨_, rfl⟩
                    rw [hP1] at p4 HPP
                    clear hP1
                    have hi0 : (0 : Int) ≤ (i2 : Int) := Int.natCast_nonneg _
                    have hi1 : (i2 : Int) < (X.parts.length : Int) := by omega
                    by_cases hle : P.n ≤ P1.n
                    case pos =>
                      as_aux_lemma =>
                      have HZ : Hid (pasR X.parts (i2 + 1) = false) := by show _ = _; rw [unhide HPP, decide_eq_true hle]; simp
                      have hne := Later.one wz
                      have l0 := fun d : Later wz => d.cell p0
                      have l1 := fun d : Later wz => d.cell p1
                      have l2 := fun d : Later wz => d.cell p2
                      have l3 := fun d : Later wz => d.cell p3
                      have l4 := fun d : Later wz => d.cell p4
                      refine wp_region_later (by kernel_rfl) (by kernel_rfl) ?_
                      repeat (go_big_quiet_step (first | (go_at_call 73; exact Calls.later_same (chunks_any _ _ z0 z1)) | (go_at_call 28; exact Calls.later_same (in_any _ _ _ _))))
                      refine wpQuiet_nil ?_
                      intro w9 hw'
                      obtain ⟨⟨w8, hb9⟩, hw''⟩ := hw'
                      subst hw''
                      clear hne l0 l1 l2 l3 l4
                      go_wp2
                      go_ret
                      exact ⟨ret_bool (at_ups hlt (by rw [unhide HP, allB_f hjk (unhide HZ)]; simp)), bl_trans (bl_trans (unhide HW0) (unhide HBP)) (bl_trans hpq hb9)⟩
                    have HZ : Hid (pasR X.parts (i2 + 1) = true) := by show _ = _; rw [unhide HPP, unhide HPC, t1, t2, t3, decide_eq_false hle]; simp
                    have hne := Later.one wz
                    have l0 := fun d : Later wz => d.cell p0
                    have l1 := fun d : Later wz => d.cell p1
                    have l2 := fun d : Later wz => d.cell p2
                    have l3 := fun d : Later wz => d.cell p3
                    have l4 := fun d : Later wz => d.cell p4
                    refine wp_region_later (by kernel_rfl) (by kernel_rfl) ?_
                    repeat (go_big_quiet_step (first | (go_at_call 73; exact Calls.later_same (chunks_any _ _ z0 z1)) | (go_at_call 28; exact Calls.later_same (in_any _ _ _ _))))
                    refine wpQuiet_nil ?_
                    intro w9 hw'
                    obtain ⟨⟨w8, hb9⟩, hw''⟩ := hw'
                    subst hw''
                    clear hne l0 l1 l2 l3 l4
                    go_wp2
                    go_roundw
                    case rel => exact ⟨(i2 + 1) + 1, by omega, by go_num, bl_trans hbp (bl_trans hpq hb9), fun l hl => if e : l < (i2 + 1) then unhide HIN l e else (show l = (i2 + 1) by omega) ▸ unhide HZ⟩
                    case measure => (simp [intOf] <;> omega)
                · as_aux_lemma =>
                  have HZ : Hid (upsR S (m + 1) = true) := by
                    show _ = _
                    have ha : allB X.parts.length (pasR X.parts) = true := allB_t fun l hl => unhide HIN l (by omega)
                    rw [unhide HP, ha]
                    rw [unhide HN1, unhide HLE]; simp
                  go_wp2
                  go_roundw
                  case rel => exact ⟨(m + 1) + 1, by omega, by go_num, unhide HBP, fun j' hj' => if e : j' < (m + 1) then unhide HA j' e else (show j' = (m + 1) by omega) ▸ unhide HZ⟩
                  case measure => (simp [intOf] <;> omega)
          have HUP : Hid (allB S.ups.length (upsR S) = true) := allB_t fun j hj => unhide HA j (by omega)
          go_wp2
          clear x4
          go_loopw [14, 15, 16, 17] (fun i _ _ _ wr => ∃ k : Nat, k ≤ S.que.length ∧ i = .int .i64 k ∧ Below W.heap.size W wr ∧ ∀ j, j < k → queR S j = true) (fun i _ _ _ _ => S.que.length - (intOf i).toNat)
          case atStart => exact ⟨0, Nat.zero_le _, rfl, hb, fun j hj => absurd hj (Nat.not_lt_zero _)⟩
          case round =>
            as_aux_lemma =>
            clear hb hlt HA
            obtain ⟨k, hk, rfl, hb, hall⟩ := hrel
            have HA := hide hall
            have x5 := ((unhide HX).up hb).c5
            clear hall
            by_cases hlt : k < S.que.length
            · as_aux_lemma =>
              obtain ⟨b', o', hva, r⟩ := Lst.at ((unhide HSW).up hb).que hlt
              subst hva
              have HP : Hid (queR S k = (coldB S (S.que.getD k ak0).ver && askB (S.que.getD k ak0) && allB k (fun j => !((S.que.getD j ak0).ver == (S.que.getD k ak0).ver)))) := rfl
              obtain ⟨X, hX⟩ : ∃ X, S.que.getD k ak0 = X := ⟨_, rfl⟩
              rw [hX] at r HP
              have HCO : Hid (coldB S X.ver = (decide (0 ≤ firstI S.ves.length (veP S.ves X.ver)) && (S.ves.getD (firstI S.ves.length (veP S.ves X.ver)).toNat ve0).tier == 2)) := rfl
              have HAK : Hid (askB X = (inB X.days 1 1000 && inB X.cls 0 2)) := rfl
              have c0 := r.c0
              have c1 := r.c1
              have c2 := r.c2
              have hX0 := (unhide HX).up hb
              have y0 := hX0.c0
              have y1 := hX0.c1
              have y2 := hX0.c2
              have y3 := hX0.c3
              have y4 := hX0.c4
              have y6 := hX0.c6
              have hBl := hX0.lt
              clear r hX hX0
              go_wp2_with fail
              refine (versionAt_any S _ _ _ _ _ _ _ ((unhide HSW).up (bl_trans hb (bl1 _ _))).ves).mono ?_
              rintro e wv ⟨rfl, hbv1⟩
              have hbQ := bl_trans (bl_trans hb (bl1 _ _)) hbv1
              have hbv := bl_trans (unhide HW0) hbQ
              have d0 := box1 hbv1 0 (v := .int .i64 X.ver) rfl
              have d1 := box1 hbv1 1 (v := .int .i64 X.days) rfl
              have d2 := box1 hbv1 2 (v := .int .i64 X.cls) rfl
              have x3 := ((unhide HX).up hbQ).c3
              clear c0 c1 c2 y0 y1 y2 y3 y4 y6 x5 hbv1
              rcases firstI_cases S.ves.length (veP S.ves X.ver) with ⟨hf, _⟩ | ⟨i2, hi2, hf, _, _⟩
              · as_aux_lemma =>
                have HF : Hid (queR S k = false) := by show _ = _; rw [unhide HP, unhide HCO, hf]; rfl
                rw [hf]
                clear hf
                go_wp2
                go_ret
                exact ⟨ret_bool (at_que hlt (unhide HF)), hbv⟩
              obtain ⟨b2, o2, hva2, r⟩ := Lst.at ((unhide HSW).up hbQ).ves hi2
              obtain ⟨T, hT⟩ : ∃ T, (S.ves.getD i2 ve0).tier = T := ⟨_, rfl⟩
              have HCT : Hid (coldB S X.ver = (T == 2)) := by
                show _ = _
                rw [unhide HCO, hf, decide_eq_true (Int.natCast_nonneg i2), Int.toNat_natCast, Bool.true_and, hT]
              subst hva2
              have c7 := r.c7
              rw [hT] at c7
              rw [hf]
              have hk0 : (0 : Int) ≤ (i2 : Int) := Int.natCast_nonneg _
              have hk1 : (i2 : Int) < (S.ves.length : Int) := by omega
              clear hT r hf HCO
              by_cases ht : T = 2
              case neg =>
                as_aux_lemma =>
                have ht2 : (T == 2) = false := by simp [ht]
                have ht3 : (T != 2) = true := by simp [ht]
                have HF : Hid (queR S k = false) := by show _ = _; rw [unhide HP, unhide HCT, ht2]; rfl
                go_wp2
                go_ret
                exact ⟨ret_bool (at_que hlt (unhide HF)), hbv⟩
              subst ht
              go_wp2_with fail
              refine (in_any _ _ _ _).mono ?_
              rintro e w3 ⟨rfl, rfl⟩
              cases t1 : inB X.days 1 1000
              case false =>
                as_aux_lemma =>
                have HF : Hid (queR S k = false) := by show _ = _; rw [unhide HP, unhide HAK, t1]; simp
                go_wp2
                go_ret
                exact ⟨ret_bool (at_que hlt (unhide HF)), hbv⟩
              rw [t1] at HAK
              clear t1
              go_wp2_with fail
              refine (in_any _ _ _ _).mono ?_
              rintro e w3 ⟨rfl, rfl⟩
              cases t2 : inB X.cls 0 2
              case false =>
                as_aux_lemma =>
                have HF : Hid (queR S k = false) := by show _ = _; rw [unhide HP, unhide HAK, t2]; simp
                go_wp2
                go_ret
                exact ⟨ret_bool (at_que hlt (unhide HF)), hbv⟩
              rw [t2] at HAK
              clear t2
              have HD0 := hide d0
              clear d0 d1 d2 x3 c7
              have HQ := hide hbQ
              go_wp2
              go_loopw [17] (fun i wp => ∃ j : Nat, j ≤ k ∧ i = .int .i64 j ∧ Below wv.heap.size wv wp ∧ ∀ l, l < j → ((S.que.getD l ak0).ver == X.ver) = false) (fun i _ => k - (intOf i).toNat)
              case atStart => exact ⟨0, Nat.zero_le _, rfl, Below.refl _ _, fun j hj => absurd hj (Nat.not_lt_zero _)⟩
              case round =>
                as_aux_lemma =>
                obtain ⟨j, hj, rfl, hbp, hin⟩ := hrel
                have HIN := hide hin
                clear hin
                have HBP := hide (bl_trans (unhide HQ) hbp)
                have x5 := ((unhide HX).up (unhide HBP)).c5
                have g0 := scell_up hbp (unhide HD0)
                by_cases hjk : j < k
                · as_aux_lemma =>
                  obtain ⟨b5, o5, e5, r⟩ := Lst.at ((unhide HSW).up (unhide HBP)).que (i := j) (by omega)
                  simp at e5
                  obtain ⟨rfl, rfl⟩ := e5
                  have q0 := r.c0
                  obtain ⟨Y, hY⟩ : ∃ Y, S.que.getD j ak0 = Y := ⟨_, rfl⟩
                  rw [hY] at q0
                  have HYY := hide hY
                  clear hY r
                  have hj1 : (j : Int) < (S.que.length : Int) := by omega
                  cases t1 : (Y.ver == X.ver)
                  case false =>
                    as_aux_lemma =>
                    have HZ : Hid (((S.que.getD j ak0).ver == X.ver) = false) := by rw [unhide HYY]; exact t1
                    have hne := Later.one wr
                    have l0 := fun d : Later wr => d.cell x5
                    have l1 := fun d : Later wr => d.cell g0
                    have l2 := fun d : Later wr => d.cell q0
                    go_upto_region 48 with fail
                    refine wp_region_later (by kernel_rfl) (by kernel_rfl) ?_
                    repeat (go_big_quiet_step (fail))
                    refine wpQuiet_nil ?_
                    intro w9 hw'
                    obtain ⟨⟨w8, hb9⟩, hw''⟩ := hw'
                    subst hw''
                    clear hne l0 l1 l2
                    go_wp2
                    go_roundw
                    case rel => exact ⟨j + 1, by omega, by go_num, bl_trans hbp hb9, fun l hl => if e : l < j then unhide HIN l e else (show l = j by omega) ▸ unhide HZ⟩
                    case measure => (simp [intOf] <;> omega)
                  have HF : Hid (queR S k = false) := by
                    show _ = _
                    have ha : allB k (fun l => !((S.que.getD l ak0).ver == X.ver)) = false := allB_f hjk (by rw [unhide HYY, t1]; rfl)
                    rw [unhide HP, ha]
                    simp
                  have hne := Later.one wr
                  have l0 := fun d : Later wr => d.cell x5
                  have l1 := fun d : Later wr => d.cell g0
                  have l2 := fun d : Later wr => d.cell q0
                  go_upto_region 48 with fail
                  refine wp_region_later (by kernel_rfl) (by kernel_rfl) ?_
                  repeat (go_big_quiet_step (fail))
                  refine wpQuiet_nil ?_
                  intro w9 hw'
                  obtain ⟨⟨w8, hb9⟩, hw''⟩ := hw'
                  subst hw''
                  clear hne l0 l1 l2
                  go_wp2
                  go_ret
                  exact ⟨ret_bool (at_que hlt (unhide HF)), bl_trans (bl_trans (unhide HW0) (unhide HBP)) hb9⟩
                · as_aux_lemma =>
                  have HZ : Hid (queR S k = true) := by
                    show _ = _
                    have ha : allB k (fun l => !((S.que.getD l ak0).ver == X.ver)) = true := allB_t fun l hl => by rw [unhide HIN l (by omega)]; rfl
                    rw [unhide HP, unhide HCT, unhide HAK, ha]
                    rfl
                  go_wp2
                  go_roundw
                  case rel => exact ⟨k + 1, by omega, by go_num, unhide HBP, fun j' hj' => if e : j' < k then unhide HA j' e else (show j' = k by omega) ▸ unhide HZ⟩
                  case measure => (simp [intOf] <;> omega)
            have HQU : Hid (allB S.que.length (queR S) = true) := allB_t fun j hj => unhide HA j (by omega)
            have HVC : Hid (vesC S = true) := by show _ = _; rw [← ves_eq, unhide HVE, decide_eq_true hl_ves]; rfl
            have HUC : Hid (upsC S = true) := by show _ = _; rw [← ups_eq, unhide HUP, decide_eq_true hl_ups]; rfl
            have hsl := secs_le (unhide HVC) (unhide HUC)
            have hX0 := (unhide HX).up hb
            have y0 := hX0.c0
            have y1 := hX0.c1
            have y2 := hX0.c2
            have y3 := hX0.c3
            have y4 := hX0.c4
            have y6 := hX0.c6
            clear hX0
            go_wp2_with fail
            refine (allSectors_any S _ _ _ _ _ _ ((unhide HSW).up hb) (by omega)).mono ?_
            rintro e wv ⟨ov, rfl, hov, hbv1⟩
            have hbQ := bl_trans hb hbv1
            have hbv := bl_trans (unhide HW0) hbQ
            have HOI := hide (hov.ints (secs_wf (unhide HS)))
            obtain ⟨oa, oc, rfl, ol, om⟩ := hov.form
            unfold maxLen at om
            clear hov y0 y1 y2 y3 y4 y6 x5 hbv1
            obtain ⟨L, hL⟩ : ∃ L, secs S = L := ⟨_, rfl⟩
            have HLS := hide hL
            rw [hL] at HOI ol hsl ⊢
            clear hL
            go_wp2
            go_loopw [19, 20] (fun i _ wr => ∃ k : Nat, k ≤ L.length ∧ i = .int .i64 k ∧ Below wv.heap.size wv wr ∧ ∀ j, j < k → secR L j = true) (fun i _ _ => L.length - (intOf i).toNat)
            case atStart => exact ⟨0, Nat.zero_le _, rfl, Below.refl _ _, fun j hj => absurd hj (Nat.not_lt_zero _)⟩
            case round =>
              as_aux_lemma =>
              clear hb hlt HA
              obtain ⟨k, hk, rfl, hb, hall⟩ := hrel
              have HA := hide hall
              clear hall
              by_cases hlt : k < L.length
              · as_aux_lemma =>
                obtain ⟨b', o', hva, r⟩ := Lst.at (Ints.up hb (unhide HOI)) hlt
                subst hva
                have HP : Hid (secR L k = (inB (L.getD k 0) 0 199 && allB k (fun j => !(L.getD k 0 == L.getD j 0)))) := rfl
                obtain ⟨X, hX⟩ : ∃ X, L.getD k 0 = X := ⟨_, rfl⟩
                have c0 := r.1
                rw [Nat.mul_one] at c0
                rw [hX] at c0 HP
                have HXX := hide hX
                clear r hX
                go_wp2_with fail
                refine (in_any _ _ _ _).mono ?_
                rintro e w3 ⟨rfl, rfl⟩
                cases t1 : inB X 0 199
                case false =>
                  as_aux_lemma =>
                  have HF : Hid (secR L k = false) := by show _ = _; rw [unhide HP, t1]; rfl
                  go_wp2
                  go_ret
                  exact ⟨ret_bool (at_sec (k := k) (by rw [unhide HLS]; exact hlt) (by rw [unhide HLS]; exact unhide HF)), bl_trans hbv hb⟩
                rw [t1] at HP
                clear t1
                have HC0 := hide c0
                clear c0
                go_wp2
                go_loopw [20] (fun i wp => ∃ j : Nat, j ≤ k ∧ i = .int .i64 j ∧ Below wr.heap.size wr wp ∧ ∀ l, l < j → (X == L.getD l 0) = false) (fun i _ => k - (intOf i).toNat)
                case atStart => exact ⟨0, Nat.zero_le _, rfl, Below.refl _ _, fun j hj => absurd hj (Nat.not_lt_zero _)⟩
                case round =>
                  as_aux_lemma =>
                  obtain ⟨j, hj, rfl, hbp, hin⟩ := hrel
                  have HIN := hide hin
                  clear hin
                  have HBP := hide (bl_trans hb hbp)
                  have g0 := scell_up hbp (unhide HC0)
                  have hk1 : (k : Int) < (L.length : Int) := by omega
                  by_cases hjk : j < k
                  · as_aux_lemma =>
                    obtain ⟨b5, o5, e5, r⟩ := Lst.at (Ints.up (unhide HBP) (unhide HOI)) (i := j) (by omega)
                    simp at e5
                    obtain ⟨rfl, rfl⟩ := e5
                    have q0 := r.1
                    rw [Nat.mul_one] at q0
                    obtain ⟨Y, hY⟩ : ∃ Y, L.getD j 0 = Y := ⟨_, rfl⟩
                    rw [hY] at q0
                    have HYY := hide hY
                    clear hY r
                    have hj1 : (j : Int) < (L.length : Int) := by omega
                    cases t1 : (X == Y)
                    case false =>
                      as_aux_lemma =>
                      have HZ : Hid ((X == L.getD j 0) = false) := by rw [unhide HYY]; exact t1
                      have hne := Later.one wr
                      have l0 := fun d : Later wr => d.cell g0
                      have l1 := fun d : Later wr => d.cell q0
                      go_upto_region 59 with fail
                      refine wp_region_later (by kernel_rfl) (by kernel_rfl) ?_
                      repeat (go_big_quiet_step (fail))
                      refine wpQuiet_nil ?_
                      intro w9 hw'
                      obtain ⟨⟨w8, hb9⟩, hw''⟩ := hw'
                      subst hw''
                      clear hne l0 l1
                      go_wp2
                      go_roundw
                      case rel => exact ⟨j + 1, by omega, by go_num, bl_trans hbp hb9, fun l hl => if e : l < j then unhide HIN l e else (show l = j by omega) ▸ unhide HZ⟩
                      case measure => (simp [intOf] <;> omega)
                    have HF : Hid (secR L k = false) := by
                      show _ = _
                      have ha : allB k (fun l => !(X == L.getD l 0)) = false := allB_f hjk (by rw [unhide HYY, t1]; rfl)
                      rw [unhide HP, ha]
                      simp
                    have hne := Later.one wr
                    have l0 := fun d : Later wr => d.cell g0
                    have l1 := fun d : Later wr => d.cell q0
                    go_upto_region 59 with fail
                    refine wp_region_later (by kernel_rfl) (by kernel_rfl) ?_
                    repeat (go_big_quiet_step (fail))
                    refine wpQuiet_nil ?_
                    intro w9 hw'
                    obtain ⟨⟨w8, hb9⟩, hw''⟩ := hw'
                    subst hw''
                    clear hne l0 l1
                    go_wp2
                    go_ret
                    exact ⟨ret_bool (at_sec (k := k) (by rw [unhide HLS]; exact hlt) (by rw [unhide HLS]; exact unhide HF)), bl_trans (bl_trans hbv (unhide HBP)) hb9⟩
                  · as_aux_lemma =>
                    have HZ : Hid (secR L k = true) := by
                      show _ = _
                      have ha : allB k (fun l => !(X == L.getD l 0)) = true := allB_t fun l hl => by rw [unhide HIN l (by omega)]; rfl
                      rw [unhide HP, ha]
                      rfl
                    go_wp2
                    go_roundw
                    case rel => exact ⟨k + 1, by omega, by go_num, unhide HBP, fun j' hj' => if e : j' < k then unhide HA j' e else (show j' = k by omega) ▸ unhide HZ⟩
                    case measure => (simp [intOf] <;> omega)
              have HSE : Hid (allB L.length (secR L) = true) := allB_t fun j hj => unhide HA j (by omega)
              have HFN : Hid (stR S = true) := by
                show _ = _
                rw [unhide HE, unhide HG, unhide HBU, unhide HVE, unhide HUP, unhide HQU, unhide HLS, unhide HSE]
                rfl
              go_wp2
              go_ret
              exact ⟨ret_bool (unhide HFN).symm, bl_trans hbv hb⟩
end Go.Proofs.Ytdalkkjojflakaa
