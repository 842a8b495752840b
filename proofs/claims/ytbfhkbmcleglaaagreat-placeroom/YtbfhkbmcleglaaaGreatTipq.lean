/- tier.Place. -/
import Derived.Test.YtbfhkbmcleglaaaGreatTimq
namespace Go.Proofs.YtbfhkbmcleglaaaGreat
open Go.RowKit Go.Maps
set_option maxRecDepth 100000
set_option linter.unusedVariables false
set_option linter.unusedSimpArgs false
def plaB (l : List Int) (nv sz : Int) : Bool := (decide (nv ≤ 8) && sizC nv l) && inB sz 0 4000
/-- Is there room on the last volume? -/
def lasB (S : St) (l : List Int) (sz wo vm : Int) : Bool := ((decide (0 ≤ (l.length : Int) - 1) && ((l.length : Int) - 1 != wo)) && !isGone S ((l.length : Int) - 1)) && decide (l.getD (l.length - 1) 0 + sz ≤ vm)
def newB (l : List Int) (nv sz vm : Int) : Bool := decide ((l.length : Int) < nv) && decide (sz ≤ vm)
def plaE (S : St) (l : List Int) (vm nv sz wo : Int) : Int := if stC S then (if plaB l nv sz then (if lasB S l sz wo vm then 0 else if newB l nv sz vm then 0 else 8) else 2) else 9
def plaV (S : St) (l : List Int) (vm nv sz wo : Int) : Int := if stC S then (if plaB l nv sz then (if lasB S l sz wo vm then (l.length : Int) - 1 else if newB l nv sz vm then (l.length : Int) else 0) else 0) else 0
section
variable {S : St} {l : List Int} {vm nv sz wo : Int}
theorem pla_9 (h : stC S = false) : plaE S l vm nv sz wo = 9 ∧ plaV S l vm nv sz wo = 0 := by simp [plaE, plaV, h]
theorem pla_2 (h : stC S = true) (h2 : plaB l nv sz = false) : plaE S l vm nv sz wo = 2 ∧ plaV S l vm nv sz wo = 0 := by simp [plaE, plaV, h, h2]
theorem pla_l (h : stC S = true) (h2 : plaB l nv sz = true) (h3 : lasB S l sz wo vm = true) : plaE S l vm nv sz wo = 0 ∧ plaV S l vm nv sz wo = (l.length : Int) - 1 := by simp [plaE, plaV, h, h2, h3]
theorem pla_n (h : stC S = true) (h2 : plaB l nv sz = true) (h3 : lasB S l sz wo vm = false) (h4 : newB l nv sz vm = true) : plaE S l vm nv sz wo = 0 ∧ plaV S l vm nv sz wo = (l.length : Int) := by simp [plaE, plaV, h, h2, h3, h4]
theorem pla_8 (h : stC S = true) (h2 : plaB l nv sz = true) (h3 : lasB S l sz wo vm = false) (h4 : newB l nv sz vm = false) : plaE S l vm nv sz wo = 8 ∧ plaV S l vm nv sz wo = 0 := by simp [plaE, plaV, h, h2, h3, h4]
end
theorem ret_ii {a b c d : Int} (h : a = b) (h2 : c = d) : Ending.returned (.tuple #[.int .i64 a, .int .i64 c]) = .returned (.tuple #[.int .i64 b, .int .i64 d]) := by rw [h, h2]
set_option maxHeartbeats 2000000 in
theorem tPlace_any (r a h vm nv : Int) (S : St) (b v u q g : Value) (lv : Value) (l : List Int) (sz wo : Int) (w : World) (hS : Sta w b v u q g S) (hv : Ints w lv l) :
    Calls Tryz.prog 45 #[.agg #[.int .i64 r, .int .i64 a, .int .i64 h, .int .i64 vm, .int .i64 nv], stV S b v u q g, lv, .int .i64 sz, .int .i64 wo] w fun e w' => e = .returned (.tuple #[.int .i64 (plaV S l vm nv sz wo), .int .i64 (plaE S l vm nv sz wo)]) ∧ Below w.heap.size w w' := by
  obtain ⟨la, lc, rfl, hl1, hl2⟩ := hv.form
  unfold maxLen at hl2
  have HS := hide hS
  have HV := hide hv
  clear hS hv
  obtain ⟨E, hE⟩ : ∃ E, plaE S l vm nv sz wo = E := ⟨_, rfl⟩
  obtain ⟨V, hV⟩ : ∃ V, plaV S l vm nv sz wo = V := ⟨_, rfl⟩
  rw [hE, hV]
  have HE := hide hE
  have HVV := hide hV
  have HPB : Hid (plaB l nv sz = ((decide (nv ≤ 8) && sizC nv l) && inB sz 0 4000)) := rfl
  obtain ⟨P, hP⟩ : ∃ P, plaB l nv sz = P := ⟨_, rfl⟩
  rw [hP] at HPB
  have HP := hide hP
  clear hE hV hP
  go_enter Tryz.func45, Tryz.ntmps45
  go_wp2_with fail
  refine (check_any S b v u q g _ ((unhide HS).up (bl_alloc (bl1 _ _) _))).mono ?_
  rintro e w1 ⟨rfl, hb⟩
  have hw1 := bl_trans (bl_alloc (bl1 w _) _) hb
  have g3 := box2a hb 3 rfl
  have g4 := box2a hb 4 rfl
  have s0 := box2b hb 0 rfl
  have s1 := box2b hb 1 rfl
  have s2 := box2b hb 2 rfl
  have s3 := box2b hb 3 rfl
  have s4 := box2b hb 4 rfl
  have s5 := box2b hb 5 rfl
  have s6 := box2b hb 6 rfl
  have hlg : w.heap.size < w1.heap.size := World.block_lt_of_cell? _ _ g3
  have hls : w.heap.size + 1 < w1.heap.size := World.block_lt_of_cell? _ _ s0
  clear hb
  cases hc : stC S
  · obtain ⟨k1, k2⟩ := pla_9 (l := l) (vm := vm) (nv := nv) (sz := sz) (wo := wo) hc
    have hf := stE_f hc
    have HE' : Hid (E = 9) := by show _ = _; rw [← unhide HE]; exact k1
    have HV' : Hid (V = 0) := by show _ = _; rw [← unhide HVV]; exact k2
    rw [hf]
    clear hf hc k1 k2
    go_wp2
    go_ret2
    exact ⟨ret_ii (unhide HV').symm (unhide HE').symm, hw1⟩
  have hf := stE_t hc
  rw [hf]
  have HC := hide hc
  clear hf hc
  have HBAD : Hid (P = false → E = 2 ∧ V = 0) := fun e => by
    obtain ⟨k1, k2⟩ := pla_2 (vm := vm) (wo := wo) (unhide HC) ((unhide HP).trans e)
    exact ⟨(unhide HE).symm.trans k1, (unhide HVV).symm.trans k2⟩
  cases d0 : decide (nv ≤ 8)
  · have hd0 := of_decide_eq_false d0
    rw [d0] at HPB
    obtain ⟨k1, k2⟩ := unhide HBAD (unhide HPB)
    have HE' := hide k1
    have HV' := hide k2
    clear k1 k2 d0
    go_wp2
    go_ret2
    exact ⟨ret_ii (unhide HV').symm (unhide HE').symm, hw1⟩
  have hd0 := of_decide_eq_true d0
  rw [d0, Bool.true_and] at HPB
  clear d0
  go_wp2_with fail
  refine (sizesMayBe_any _ l nv _ (Ints.up hw1 (unhide HV))).mono ?_
  rintro e w2 ⟨rfl, rfl⟩
  cases hz : sizC nv l
  · rw [hz] at HPB
    obtain ⟨k1, k2⟩ := unhide HBAD (unhide HPB)
    have HE' := hide k1
    have HV' := hide k2
    clear k1 k2 hz
    go_wp2
    go_ret2
    exact ⟨ret_ii (unhide HV').symm (unhide HE').symm, hw1⟩
  rw [hz, Bool.true_and] at HPB
  have HZA : Hid (∀ k, k < l.length → 0 ≤ l.getD k 0 ∧ l.getD k 0 ≤ 4000) := fun k hk => sizC_at hz hk
  clear hz
  go_wp2_with fail
  refine (sizeMayBe_any sz _).mono ?_
  rintro e w2 ⟨rfl, rfl⟩
  cases hs : inB sz 0 4000
  · rw [hs] at HPB
    obtain ⟨k1, k2⟩ := unhide HBAD (unhide HPB)
    have HE' := hide k1
    have HV' := hide k2
    clear k1 k2 hs
    go_wp2
    go_ret2
    exact ⟨ret_ii (unhide HV').symm (unhide HE').symm, hw1⟩
  rw [hs] at HPB
  obtain ⟨hs0, hs1⟩ := inB_t hs
  have HPT : Hid (plaB l nv sz = true) := (unhide HP).trans (unhide HPB)
  clear hs HPB HBAD HP
  have HLB : Hid (lasB S l sz wo vm = (((decide (0 ≤ (l.length : Int) - 1) && ((l.length : Int) - 1 != wo)) && !isGone S ((l.length : Int) - 1)) && decide (l.getD (l.length - 1) 0 + sz ≤ vm))) := rfl
  have HNB : Hid (newB l nv sz vm = (decide ((l.length : Int) < nv) && decide (sz ≤ vm))) := rfl
  obtain ⟨B, hB⟩ : ∃ B, lasB S l sz wo vm = B := ⟨_, rfl⟩
  obtain ⟨C, hC⟩ : ∃ C, newB l nv sz vm = C := ⟨_, rfl⟩
  rw [hB] at HLB
  rw [hC] at HNB
  have HB := hide hB
  have HCC := hide hC
  clear hB hC
  obtain ⟨N, hN⟩ : ∃ N, l.length = N := ⟨_, rfl⟩
  rw [hN] at hl1 HV HZA HLB HNB ⊢
  have HN := hide hN
  clear hN
  go_upto_region 8 with fail
  obtain ⟨J, hJ⟩ : ∃ J : Int, (N : Int) - 1 = J := ⟨_, rfl⟩
  rw [hJ] at HLB ⊢
  have HJ := hide hJ
  go_cut [62] (fun x wc => x = .bool B ∧ Below w1.heap.size w1 wc)
  case first =>
    have hne := Later.one w1
    have l0 := fun d : Later w1 => d.cell s0
    have l1 := fun d : Later w1 => d.cell s1
    have l2 := fun d : Later w1 => d.cell s2
    have l3 := fun d : Later w1 => d.cell s3
    have l4 := fun d : Later w1 => d.cell s4
    have l5 := fun d : Later w1 => d.cell s5
    have l6 := fun d : Later w1 => d.cell s6
    have l7 := fun d : Later w1 => d.cell g3
    refine wp_region_later (by kernel_rfl) (by kernel_rfl) ?_
    cases d0 : decide (0 ≤ J)
    case false =>
      have hd := of_decide_eq_false d0
      rw [d0] at HLB
      have HBF : Hid (B = false) := unhide HLB
      repeat (go_big_quiet_step (fail))
      refine wpQuiet_nil ?_
      intro w9 hw'
      obtain ⟨⟨w2, hb2⟩, hw''⟩ := hw'
      subst hw''
      go_wp2
      go_meet
      case rel => exact ⟨by rw [unhide HBF], hb2⟩
    case true =>
      have hd := of_decide_eq_true d0
      rw [d0, Bool.true_and] at HLB
      cases d1 : (J != wo)
      case false =>
        rw [d1] at HLB
        have HBF : Hid (B = false) := unhide HLB
        repeat (go_big_quiet_step (fail))
        refine wpQuiet_nil ?_
        intro w9 hw'
        obtain ⟨⟨w2, hb2⟩, hw''⟩ := hw'
        subst hw''
        go_wp2
        go_meet
        case rel => exact ⟨by rw [unhide HBF], hb2⟩
      case true =>
        rw [d1, Bool.true_and] at HLB
        obtain ⟨M, rfl⟩ := Int.eq_ofNat_of_zero_le hd
        have hMN : N = M + 1 := by omega
        obtain ⟨b7, o7, e7, r0⟩ := Lst.at (Ints.up hw1 (unhide HV)) (i := M) (by rw [unhide HN]; omega)
        have hzk := unhide HZA M (by omega)
        rw [show N - 1 = M by omega] at HLB
        obtain ⟨Z, hZ⟩ : ∃ Z, l.getD M 0 = Z := ⟨_, rfl⟩
        rw [hZ] at r0 HLB hzk
        have c7 := r0.1
        rw [Nat.mul_one] at c7
        subst e7
        have l8 := fun d : Later w1 => d.cell c7
        clear r0 hZ
        cases hg : isGone S (M : Int)
        case true =>
          rw [hg] at HLB
          have HBF : Hid (B = false) := unhide HLB
          repeat (go_big_quiet_step ((go_at_call 76; exact Calls.later (tIsGone_any S b v u q g (M : Int) _ (((unhide HS).up hw1).up (Later.below _)).gone))))
          rw [hg]
          refine wpQuiet_nil ?_
          intro w9 hw'
          obtain ⟨⟨w2, hb2⟩, hw''⟩ := hw'
          subst hw''
          go_wp2
          go_meet
          case rel => exact ⟨by rw [unhide HBF], hb2⟩
        case false =>
          rw [hg] at HLB
          have HBF : Hid (B = decide (Z + sz ≤ vm)) := unhide HLB
          repeat (go_big_quiet_step ((go_at_call 76; exact Calls.later (tIsGone_any S b v u q g (M : Int) _ (((unhide HS).up hw1).up (Later.below _)).gone))))
          rw [hg]
          refine wpQuiet_nil ?_
          intro w9 hw'
          obtain ⟨⟨w2, hb2⟩, hw''⟩ := hw'
          subst hw''
          go_wp2
          go_meet
          case rel => exact ⟨by rw [unhide HBF], hb2⟩
  case rest =>
    obtain ⟨rfl, hbc⟩ := hcut
    have hwc := bl_trans hw1 hbc
    have p3 := scell_up hbc g3
    have p4 := scell_up hbc g4
    have hlg' : w.heap.size < wc.heap.size := World.block_lt_of_cell? _ _ p3
    clear g3 g4 s0 s1 s2 s3 s4 s5 s6 HLB
    cases B
    case true =>
      obtain ⟨k1, k2⟩ := pla_l (unhide HC) (unhide HPT) (unhide HB)
      have HE' : Hid (E = 0) := by show _ = _; rw [← unhide HE]; exact k1
      have HV' : Hid (V = J) := by show _ = _; rw [← unhide HVV, k2, unhide HN]; exact unhide HJ
      clear k1 k2
      go_wp2
      go_ret2
      exact ⟨ret_ii (unhide HV').symm (unhide HE').symm, hwc⟩
    case false =>
      cases d2 : decide ((N : Int) < nv)
      · have hd2 := of_decide_eq_false d2
        rw [d2, Bool.false_and] at HNB
        obtain ⟨k1, k2⟩ := pla_8 (unhide HC) (unhide HPT) (unhide HB) ((unhide HCC).trans (unhide HNB))
        have HE' : Hid (E = 8) := by show _ = _; rw [← unhide HE]; exact k1
        have HV' : Hid (V = 0) := by show _ = _; rw [← unhide HVV]; exact k2
        clear k1 k2 d2
        go_wp2
        go_ret2
        exact ⟨ret_ii (unhide HV').symm (unhide HE').symm, hwc⟩
      have hd2 := of_decide_eq_true d2
      rw [d2, Bool.true_and] at HNB
      by_cases d3 : sz ≤ vm
      · obtain ⟨k1, k2⟩ := pla_n (unhide HC) (unhide HPT) (unhide HB) ((unhide HCC).trans ((unhide HNB).trans (decide_eq_true d3)))
        have HE' : Hid (E = 0) := by show _ = _; rw [← unhide HE]; exact k1
        have HV' : Hid (V = (N : Int)) := by show _ = _; rw [← unhide HVV, k2, unhide HN]
        clear k1 k2 d2
        go_wp2
        go_ret2
        exact ⟨ret_ii (unhide HV').symm (unhide HE').symm, hwc⟩
      · obtain ⟨k1, k2⟩ := pla_8 (unhide HC) (unhide HPT) (unhide HB) ((unhide HCC).trans ((unhide HNB).trans (decide_eq_false d3)))
        have HE' : Hid (E = 8) := by show _ = _; rw [← unhide HE]; exact k1
        have HV' : Hid (V = 0) := by show _ = _; rw [← unhide HVV]; exact k2
        clear k1 k2 d2
        go_wp2
        go_ret2
        exact ⟨ret_ii (unhide HV').symm (unhide HE').symm, hwc⟩
end Go.Proofs.YtbfhkbmcleglaaaGreat
