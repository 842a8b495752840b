/- tier.Half. -/
import Derived.Test.YtbfhkbmcleglaaaGreatTilq
namespace Go.Proofs.YtbfhkbmcleglaaaGreat
open Go.RowKit Go.Maps
set_option maxRecDepth 100000
set_option linter.unusedVariables false
set_option linter.unusedSimpArgs false
/-- Is volume i half dead? -/
def halQ (S : St) (l : List Int) (i : Nat) : Bool := (decide (0 < l.getD i 0) && !isGone S (i : Int)) && decide (2 * (livL S.ves S.ves.length).getD i 0 ≤ l.getD i 0)
def halI (S : St) (l : List Int) : Int := firstI l.length (halQ S l)
def halE (S : St) (l : List Int) : Int := if stC S then (if sizC 8 l then (if halI S l < 0 then 14 else 0) else 2) else 9
def halV (S : St) (l : List Int) : Int := if halE S l = 0 then halI S l else 0
def halL (S : St) (l : List Int) : List Int := if halE S l = 0 then idsK S.ves (hlfP (halI S l)) S.ves.length else []
theorem hal_9 {S : St} {l : List Int} (h : stC S = false) : halE S l = 9 ∧ halV S l = 0 ∧ halL S l = [] := by simp [halE, halV, halL, h]
theorem hal_2 {S : St} {l : List Int} (h : stC S = true) (h2 : sizC 8 l = false) : halE S l = 2 ∧ halV S l = 0 ∧ halL S l = [] := by simp [halE, halV, halL, h, h2]
theorem hal_14 {S : St} {l : List Int} (h : stC S = true) (h2 : sizC 8 l = true) (h3 : halI S l = -1) : halE S l = 14 ∧ halV S l = 0 ∧ halL S l = [] := by simp [halE, halV, halL, h, h2, h3]
theorem hal_0 {S : St} {l : List Int} {k : Nat} (h : stC S = true) (h2 : sizC 8 l = true) (h3 : halI S l = (k : Int)) : halE S l = 0 ∧ halV S l = (k : Int) ∧ halL S l = idsK S.ves (hlfP (k : Int)) S.ves.length := by
  have h4 : ¬ ((k : Int) < 0) := by omega
  simp [halE, halV, halL, h, h2, h3, h4]
theorem sizC_8 {l : List Int} (h : sizC 8 l = true) : l.length ≤ 8 := by
  unfold sizC at h
  simp only [Bool.and_eq_true, decide_eq_true_eq] at h
  omega
theorem sizC_at {m : Int} {l : List Int} (h : sizC m l = true) {k : Nat} (hk : k < l.length) : 0 ≤ l.getD k 0 ∧ l.getD k 0 ≤ 4000 := by
  unfold sizC at h
  simp only [Bool.and_eq_true] at h
  exact inB_t (allB_iff.1 h.2 k hk)
theorem ret_half {o : Value} {a b c d : Int} (h : a = b) (h2 : c = d) : Ending.returned (.tuple #[.int .i64 a, o, .int .i64 c]) = .returned (.tuple #[.int .i64 b, o, .int .i64 d]) := by rw [h, h2]
set_option maxHeartbeats 2000000 in
theorem tHalf_any (S : St) (b v u q g : Value) (lv : Value) (l : List Int) (w : World) (hS : Sta w b v u q g S) (hv : Ints w lv l) :
    Calls Tryz.prog 43 #[stV S b v u q g, lv] w fun e w' => ∃ o, e = .returned (.tuple #[.int .i64 (halV S l), o, .int .i64 (halE S l)]) ∧ OwI w' w.heap.size o (halL S l) ∧ Below w.heap.size w w' := by
  obtain ⟨la, lc, rfl, hl1, hl2⟩ := hv.form
  unfold maxLen at hl2
  have HS := hide hS
  have HV := hide hv
  clear hS hv
  obtain ⟨E, hE⟩ : ∃ E, halE S l = E := ⟨_, rfl⟩
  obtain ⟨V, hV⟩ : ∃ V, halV S l = V := ⟨_, rfl⟩
  obtain ⟨L, hL⟩ : ∃ L, halL S l = L := ⟨_, rfl⟩
  rw [hE, hV, hL]
  have HE := hide hE
  have HVV := hide hV
  have HL := hide hL
  clear hE hL hV
  go_enter Tryz.func43, Tryz.ntmps43
  go_wp2_with fail
  refine (tLive_any S b v u q g _ ((unhide HS).up (bl1 _ _))).mono ?_
  rintro e w1 ⟨o1, rfl, hO1, hb⟩
  have hX := (BoxS.new w S b v u q g 29).up hb
  have hw1 := bl_trans (bl1 w _) hb
  have HX := hide hX
  clear hb
  cases hc : stC S
  · obtain ⟨k1, k2, k3⟩ := hal_9 (l := l) hc
    have hf := stE_f hc
    have HE' : Hid (E = 9) := by show _ = _; rw [← unhide HE]; exact k1
    have HV' : Hid (V = 0) := by show _ = _; rw [← unhide HVV]; exact k2
    have HL' : Hid (L = []) := by show _ = _; rw [← unhide HL]; exact k3
    rw [hf]
    clear hf hc k1 k2 k3
    go_wp2
    refine bodyPost_ret (v := .tuple #[.int .i64 0, .slice none 0 0, .int .i64 9]) (by simp [results, Tryz.results43, go_sem, *]) rfl ⟨.slice none 0 0, ret_half (unhide HV').symm (unhide HE').symm, ?_, hw1⟩
    rw [unhide HL']; exact OwI.nil _ _
  have hf := stE_t hc
  rw [livS_t hc] at hO1
  rw [hf]
  have hlen := tstC_len hc
  have HBD : Hid (∀ n, 0 ≤ livK S.ves S.ves.length n ∧ livK S.ves S.ves.length n ≤ 606 * (S.ves.length : Int)) := fun n => livK_bd hc _ (Nat.le_refl _) n
  have HC := hide hc
  clear hf hc
  go_wp2_with fail
  refine (sizesMayBe_any _ l 8 _ (Ints.up hw1 (unhide HV))).mono ?_
  rintro e w2 ⟨rfl, rfl⟩
  cases hz : sizC 8 l
  · obtain ⟨k1, k2, k3⟩ := hal_2 (unhide HC) hz
    have HE' : Hid (E = 2) := by show _ = _; rw [← unhide HE]; exact k1
    have HV' : Hid (V = 0) := by show _ = _; rw [← unhide HVV]; exact k2
    have HL' : Hid (L = []) := by show _ = _; rw [← unhide HL]; exact k3
    clear hz k1 k2 k3
    go_wp2
    refine bodyPost_ret (v := .tuple #[.int .i64 0, .slice none 0 0, .int .i64 2]) (by simp [results, Tryz.results43, go_sem, *]) rfl ⟨.slice none 0 0, ret_half (unhide HV').symm (unhide HE').symm, ?_, hw1⟩
    rw [unhide HL']; exact OwI.nil _ _
  have hl8 := sizC_8 hz
  have HZA : Hid (∀ k, k < l.length → 0 ≤ l.getD k 0 ∧ l.getD k 0 ≤ 4000) := fun k hk => sizC_at hz hk
  have HZ := hide hz
  clear hz
  have HLV := hide (hO1.ints (fun x hx => by
    unfold livL at hx
    obtain ⟨n, _, rfl⟩ := List.mem_map.1 hx
    have h1 := unhide HBD n
    obtain ⟨m, hm⟩ := Int.eq_ofNat_of_zero_le h1.1
    rw [hm]
    exact wfNat (by omega)))
  obtain ⟨o1a, o1c, rfl, o1l, o1m⟩ := (unhide HLV).form
  rw [livL_len] at HLV o1l ⊢
  clear hO1
  obtain ⟨N, hN⟩ : ∃ N, l.length = N := ⟨_, rfl⟩
  rw [hN] at hl1 hl8 HV HZA ⊢
  have HN := hide hN
  clear hN hX
  go_wp2
  go_loopw [9, 10, 24] (fun _ _ i wr => ∃ k : Nat, k ≤ N ∧ i = .int .i64 k ∧ Below w1.heap.size w1 wr ∧ ∀ j, j < k → halQ S l j = false) (fun _ _ i _ => N - (intOf i).toNat)
  case atStart => exact ⟨0, Nat.zero_le _, rfl, Below.refl _ _, fun j hj => absurd hj (Nat.not_lt_zero _)⟩
  case round =>
    obtain ⟨k, hk, rfl, hbq, hall⟩ := hrel
    have HA := hide hall
    clear hall
    by_cases hlt : k < N
    · obtain ⟨b7, o7, e7, r0⟩ := Lst.at (Ints.up (bl_trans hw1 hbq) (unhide HV)) (i := k) (by rw [unhide HN]; exact hlt)
      obtain ⟨b6, o6, e6, r1⟩ := Lst.at (Ints.up hbq (unhide HLV)) (i := k) (by rw [livL_len]; omega)
      rw [livL_at _ _ (by omega)] at r1
      have HQ : Hid (halQ S l k = ((decide (0 < l.getD k 0) && !isGone S (k : Int)) && decide (2 * livK S.ves S.ves.length k ≤ l.getD k 0))) := by show _ = _; unfold halQ; rw [livL_at _ _ (by omega)]
      have hzk := unhide HZA k hlt
      have hbk := unhide HBD k
      obtain ⟨Z, hZ⟩ : ∃ Z, l.getD k 0 = Z := ⟨_, rfl⟩
      obtain ⟨Y, hY⟩ : ∃ Y, livK S.ves S.ves.length k = Y := ⟨_, rfl⟩
      rw [hZ] at r0 HQ hzk
      rw [hY] at r1 HQ hbk
      have c7 := r0.1
      have c6 := r1.1
      rw [Nat.mul_one] at c7 c6
      subst e7 e6
      have hX := (unhide HX).up hbq
      have x0 := hX.c0
      have x1 := hX.c1
      have x2 := hX.c2
      have x3 := hX.c3
      have x4 := hX.c4
      have x5 := hX.c5
      have x6 := hX.c6
      have hlr := hX.lt
      have hl6 := World.block_lt_of_cell? _ _ c6
      simp at hl6
      have hWq := hbq.size
      clear hX hZ hY r0 r1
      cases d0 : decide (0 < Z)
      · have hd0 := of_decide_eq_false d0
        rw [d0] at HQ
        have HQ' : Hid (halQ S l k = false) := unhide HQ
        clear d0 HQ
        go_wp2
        go_roundw
        case rel => exact ⟨k + 1, by omega, by go_num, bl_alloc hbq _, fun j hj => if e : j < k then unhide HA j e else (show j = k by omega) ▸ unhide HQ'⟩
        case measure => (simp [intOf] <;> omega)
      have hd0 := of_decide_eq_true d0
      rw [d0] at HQ
      clear d0
      go_wp2_with fail
      refine (tIsGone_any S b v u q g (k : Int) _ (((unhide HS).up hw1).up (bl_alloc hbq _)).gone).mono ?_
      rintro e w2 ⟨rfl, hb2⟩
      have hbw := bl_trans (bl1 wr _) hb2
      have hw2 := bl_trans hbq hbw
      have n0 := box1 hb2 0 rfl
      have y0 := scell_up hbw x0
      have y1 := scell_up hbw x1
      have y2 := scell_up hbw x2
      have y3 := scell_up hbw x3
      have y4 := scell_up hbw x4
      have y5 := scell_up hbw x5
      have y6 := scell_up hbw x6
      have c6' := scell_up hbw c6
      have hs2 := hbw.size
      have hln : wr.heap.size < w2.heap.size := World.block_lt_of_cell? _ _ n0
      clear hb2 x0 x1 x2 x3 x4 x5 x6 c6 c7
      cases hg : isGone S (k : Int)
      case true =>
        rw [hg] at HQ
        have HQ' : Hid (halQ S l k = false) := unhide HQ
        clear hg HQ
        go_wp2
        go_roundw
        case rel => exact ⟨k + 1, by omega, by go_num, hw2, fun j hj => if e : j < k then unhide HA j e else (show j = k by omega) ▸ unhide HQ'⟩
        case measure => (simp [intOf] <;> omega)
      case false =>
        rw [hg] at HQ
        cases d1 : decide (2 * Y ≤ Z)
        · have hd1 := of_decide_eq_false d1
          rw [d1] at HQ
          have HQ' : Hid (halQ S l k = false) := unhide HQ
          clear d1 hg HQ
          go_wp2
          go_roundw
          case rel => exact ⟨k + 1, by omega, by go_num, hw2, fun j hj => if e : j < k then unhide HA j e else (show j = k by omega) ▸ unhide HQ'⟩
          case measure => (simp [intOf] <;> omega)
        · have hd1 := of_decide_eq_true d1
          rw [d1] at HQ
          have HQ' : Hid (halQ S l k = true) := unhide HQ
          have h0 : halI S l = (k : Int) := by unfold halI; rw [unhide HN]; exact firstI_t hlt (unhide HQ') (unhide HA)
          obtain ⟨k1, k2, k3⟩ := hal_0 (unhide HC) (unhide HZ) h0
          have HE' : Hid (E = 0) := by show _ = _; rw [← unhide HE]; exact k1
          have HV' : Hid (V = (k : Int)) := by show _ = _; rw [← unhide HVV]; exact k2
          have HL' : Hid (L = idsK S.ves (hlfP (k : Int)) S.ves.length) := by show _ = _; rw [← unhide HL]; exact k3
          clear k1 k2 k3 h0 d1 hg HQ
          go_upto_region 10 with fail
          go_region_with (go_at_call 77; refine (ids_hlf _ S b v u q g (hlfP (k : Int)) _ ((((unhide HS).up hw1).up hw2).up (Below.drew (Below.refl _ _))) (by omega) ?_).mono ?_; (focus (intro k' wr' X ua un uc _ _ hbr _ _; exact half_1 (k : Int) X ua un uc _ _ (scell_up hbr (by exact n0)))); rintro e w3 ⟨o3, rfl, hO3, hb3⟩; have n3 := scell_up hb3 (show w2.drew.cell? ⟨wr.heap.size, 0, none⟩ = some (.int .i64 (k : Int)) from n0); have hl9 : wr.heap.size < w3.heap.size := World.block_lt_of_cell? _ _ n3; have hw3 : Below w2.heap.size w2 w3 := (Below.drew (Below.refl w2.heap.size w2)).trans hb3)
          all_goals (
            go_wp2
            refine bodyPost_ret (v := .tuple #[.int .i64 (k : Int), o3, .int .i64 0]) (by simp [results, Tryz.results43, go_sem, *]) rfl ⟨o3, ret_half (unhide HV').symm (unhide HE').symm, ?_, bl_trans (bl_trans hw1 hw2) hw3⟩
            rw [unhide HL']
            exact own_lo hO3 (show w.heap.size ≤ w2.heap.size by have := (bl_trans hw1 hw2).size; omega))
    · obtain rfl : k = N := by omega
      have h14 : halI S l = -1 := by unfold halI; rw [unhide HN]; exact firstI_f (unhide HA)
      obtain ⟨k1, k2, k3⟩ := hal_14 (unhide HC) (unhide HZ) h14
      have HE' : Hid (E = 14) := by show _ = _; rw [← unhide HE]; exact k1
      have HV' : Hid (V = 0) := by show _ = _; rw [← unhide HVV]; exact k2
      have HL' : Hid (L = []) := by show _ = _; rw [← unhide HL]; exact k3
      clear k1 k2 k3 h14
      go_wp2
      refine bodyPost_ret (v := .tuple #[.int .i64 0, .slice none 0 0, .int .i64 14]) (by simp [results, Tryz.results43, go_sem, *]) rfl ⟨.slice none 0 0, ret_half (unhide HV').symm (unhide HE').symm, ?_, bl_trans hw1 hbq⟩
      rw [unhide HL']; exact OwI.nil _ _
end Go.Proofs.YtbfhkbmcleglaaaGreat
