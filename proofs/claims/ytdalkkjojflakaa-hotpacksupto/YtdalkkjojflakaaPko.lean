/- icehouseref.PackedOf. -/
import Derived.Test.YtdalkkjojflakaaPak
import Derived.Deep.RegionHeld3
import Derived.Deep.AppendLies
namespace Go.Proofs.Ytdalkkjojflakaa
open Go.RowKit
set_option linter.unusedVariables false
set_option linter.unusedSimpArgs false

set_option maxHeartbeats 2000000 in
set_option maxRecDepth 100000 in
theorem packedOf_any (p : Int) (iv bv : Value) (ids : List Int) (bs : List (List Int)) (w : World) (hi : Nts w iv ids) (hb : RowsAt w bv bs) (hn : bs.length ≤ 100000000) :
    Calls Try.prog 11 #[.int .i64 p, iv, bv] w fun e w' =>
      ∃ u q, e = .returned (.tuple #[u, q, .int .i64 (pkE p ids bs)]) ∧ Own w' w.heap.size u (okL (pkE p ids bs) (pkO ids bs ids.length)) ∧ OwQ w' w.heap.size q (okP (pkE p ids bs) (pkP p ids bs ids.length)) ∧ Below w.heap.size w w' := by
  obtain ⟨ia, ic, rfl, il, im, hic⟩ := hi
  obtain ⟨ba, bc, rfl, bl, bm, hbc⟩ := hb
  unfold maxLen at im bm
  have HIC := hide hic
  have HBC := hide hbc
  clear hic hbc
  cases hp : inB p 0 4000
  case false =>
    have HE : Hid (2 = pkE p ids bs) := by show _ = _; unfold pkE; rw [hp]; rfl
    go_enter Try.func11, Try.ntmps11
    go_wp2_with (go_at_call 28; refine (in_any _ _ _ _).mono ?_; rintro e w' ⟨rfl, rfl⟩)
    refine bodyPost_ret (v := .tuple #[.slice none 0 0, .slice none 0 0, .int .i64 2]) (by simp [results, Try.results11, go_sem, *]) rfl ⟨_, _, ret_three (unhide HE), by rw [← unhide HE]; exact own0 _ _, by rw [← unhide HE]; exact OwQ.nil _ _, Below.refl _ _⟩
  have hpb := inB_t hp
  by_cases hl : ids.length = bs.length
  case neg =>
    have HE : Hid (4 = pkE p ids bs) := by show _ = _; unfold pkE; rw [hp, if_pos rfl, if_neg hl]
    have hl' : ¬ (ids.length : Int) = (bs.length : Int) := by omega
    go_enter Try.func11, Try.ntmps11
    go_wp2_with (go_at_call 28; refine (in_any _ _ _ _).mono ?_; rintro e w' ⟨rfl, rfl⟩)
    refine bodyPost_ret (v := .tuple #[.slice none 0 0, .slice none 0 0, .int .i64 4]) (by simp [results, Try.results11, go_sem, *]) rfl ⟨_, _, ret_three (unhide HE), by rw [← unhide HE]; exact own0 _ _, by rw [← unhide HE]; exact OwQ.nil _ _, Below.refl _ _⟩
  have HE : Hid (pkE p ids bs = pkF ids bs ids.length) := by show _ = _; unfold pkE; rw [hp, if_pos rfl, if_pos hl]
  obtain ⟨n, hnn⟩ : ∃ n, ids.length = n := ⟨_, rfl⟩
  rw [← hl] at hn bl HBC ⊢
  rw [hnn] at hn bl il HIC HBC HE ⊢
  have HNN := hide hnn
  clear hnn hl
  obtain ⟨i0, hi, hz0, hz1, hz2⟩ := info_parts infoPc
  go_enter Try.func11, Try.ntmps11
  go_wp2_with (go_at_call 28; refine (in_any _ _ _ _).mono ?_; rintro e w' ⟨rfl, rfl⟩)
  clear hp
  go_loopw [9, 10, 11] (fun u q i wr => ∃ k : Nat, k ≤ n ∧ i = .int .i64 k ∧ pkF ids bs k = 0 ∧ Own wr w.heap.size u (pkO ids bs k) ∧ OwQ wr w.heap.size q (pkP p ids bs k) ∧ Below w.heap.size w wr) (fun _ _ i _ => n - (intOf i).toNat)
  case atStart => exact ⟨0, Nat.zero_le _, rfl, rfl, own0 _ _, OwQ.nil _ _, Below.refl _ _⟩
  case round =>
    obtain ⟨k, hk, rfl, hF, hown, hq, hbr⟩ := hrel
    have HF := hide hF
    have HLEN := hide (pkO_len hF)
    obtain ⟨ua, uc, rfl, ul, um⟩ := own_form hown
    obtain ⟨qa, qc, rfl, ql, qm⟩ := own_form hq
    have HOWN := hide hown
    have HQ := hide hq
    clear hF hown hq
    unfold maxLen at um qm
    have hpl := pkP_len p ids bs k
    rw [hpl] at ql ⊢
    have HPL := hide hpl
    clear hpl
    obtain ⟨M, hM⟩ : ∃ M, (pkO ids bs k).length = M := ⟨_, rfl⟩
    rw [hM] at ul ⊢
    have hMb : M ≤ 606 * k := by rw [← hM]; exact unhide HLEN
    have HM := hide hM
    clear hM HLEN
    by_cases hlt : k < n
    · obtain ⟨b, o, rfl, x, hx, y, cp, rfl, lx, mx, hy⟩ := unhide HBC k hlt
      obtain ⟨b2, o2, rfl, hid⟩ := unhide HIC k hlt
      unfold maxLen at mx
      have hx0 := hx
      have hid0 := hid
      replace hx := cell_up hbr hx
      replace hid := cell_up hbr hid
      obtain ⟨I, hI⟩ : ∃ I, ids.getD k 0 = I := ⟨_, rfl⟩
      obtain ⟨L, hL⟩ : ∃ L, (bs.getD k []).length = L := ⟨_, rfl⟩
      rw [hI] at hid
      rw [hL] at hx lx hx0
      rw [hI] at hid0
      have KZ : Hid (∀ w', Below w.heap.size w w' → w'.cell? ⟨b2, o2 + k, none⟩ = some (.int .i64 I) ∧ w'.cell? ⟨b, o + k, none⟩ = some (.slice y L cp)) := fun w' hb => ⟨cell_up hb hid0, cell_up hb hx0⟩
      clear hid0
      have hY0 : Bts w (.slice y L cp) (bs.getD k []) := ⟨y, cp, by rw [hL], by rw [hL]; exact lx, by unfold maxLen; omega, hy⟩
      obtain ⟨Y, hYY⟩ : ∃ Y, bs.getD k [] = Y := ⟨_, rfl⟩
      have HYL : Hid (Y.length = L) := by show _ = _; rw [← hYY]; exact hL
      have HY : Hid (Bts w (.slice y L cp) Y) := by show Bts _ _ _; rw [← hYY]; exact hY0
      have hbdl : bdL bs k = (L : Int) := by unfold bdL; rw [hL]
      have HQK : Hid (pkQ ids bs k = if inB I 1 1048576 then (if inB (L : Int) 0 600 then 0 else 1) else 2) := by show _ = _; unfold pkQ; rw [hI, hbdl]
      obtain ⟨P, hP⟩ : ∃ P, pkO ids bs k = P := ⟨_, rfl⟩
      obtain ⟨G, hG⟩ : ∃ G, hdL I (L : Int) = G := ⟨_, rfl⟩
      have HGL : Hid (G.length = 6) := by show _ = _; rw [← hG]; exact hdL_len _ _
      have HPM : Hid (P.length = M) := by show _ = _; rw [← hP]; exact unhide HM
      have HOO : Hid (pkO ids bs (k + 1) = P ++ (G ++ Y)) := by show _ = _; rw [pkO, hI, hbdl, hP, hG, hYY]
      have HG := hide hG
      rw [hP] at HOWN
      have HPP : Hid (pkP p ids bs (k + 1) = pkP p ids bs k ++ [⟨I, p + (M : Int), (L : Int)⟩]) := by show _ = _; rw [pkP, hI, hbdl, unhide HM]
      have HL := hide hL
      clear hI hL hy hbdl hx0 hY0 hYY hP hG
      have hsz := hbr.size
      cases hI1 : inB I 1 1048576
      case false =>
        have HR : Hid (2 = pkE p ids bs) := by
          show _ = _
          have e : pkQ ids bs k = 2 := by rw [unhide HQK, hI1]; rfl
          rw [unhide HE, pkF_bad (unhide HF) (by rw [e]; decide) hlt, e]
        go_wp2_with (go_at_call 28; refine (in_any _ _ _ _).mono ?_; rintro e w' ⟨rfl, rfl⟩)
        refine bodyPost_ret (v := .tuple #[.slice none 0 0, .slice none 0 0, .int .i64 2]) (by simp [results, Try.results11, go_sem, *]) rfl ⟨_, _, ret_three (unhide HR), by rw [← unhide HR]; exact own0 _ _, by rw [← unhide HR]; exact OwQ.nil _ _, hbr⟩
      cases hL1 : inB (L : Int) 0 600
      case false =>
        have hL9 : (600 : Int) < (L : Int) := by have := inB_f hL1; omega
        have HR : Hid (1 = pkE p ids bs) := by
          show _ = _
          have e : pkQ ids bs k = 1 := by rw [unhide HQK, hI1, hL1]; rfl
          rw [unhide HE, pkF_bad (unhide HF) (by rw [e]; decide) hlt, e]
        go_wp2_with (go_at_call 28; refine (in_any _ _ _ _).mono ?_; rintro e w' ⟨rfl, rfl⟩)
        refine bodyPost_ret (v := .tuple #[.slice none 0 0, .slice none 0 0, .int .i64 1]) (by simp [results, Try.results11, go_sem, *]) rfl ⟨_, _, ret_three (unhide HR), by rw [← unhide HR]; exact own0 _ _, by rw [← unhide HR]; exact OwQ.nil _ _, hbr⟩
      have HF1 : Hid (pkF ids bs (k + 1) = 0) := pkF_ok (unhide HF) (by rw [unhide HQK, hI1, hL1]; rfl)
      have hLb := inB_t hL1
      have hL9 : ¬ (600 : Int) < (L : Int) := by omega
      have hIb := inB_t hI1
      go_upto_region 14 with (go_at_call 28; refine (in_any _ _ _ _).mono ?_; rintro e w' ⟨rfl, rfl⟩)
      have HWR : Hid (IntKind.i64.wrap (p + (M : Int)) = p + (M : Int)) := by show _ = _; simp only [IntKind.wrap_i64]; omega
      have hq0 : Own wr w.heap.size (.slice ua M uc) P := by have := unhide HOWN; rw [unhide HPM] at this; exact this
      have hqq : wr.ownsRow w.heap.size 39 3 (.slice qa k qc) k ((pkP p ids bs k).flatMap pcL) := by have := unhide HQ; unfold OwQ at this; rw [unhide HPL] at this; exact this
      have HQ0 := hide hq0
      have HQQ := hide hqq
      clear hq0 hqq hI1 hL1
      go_region_held3 (fun w' => w'.cell? ⟨b2, o2 + k, none⟩ = some (.int .i64 I) ∧ w'.cell? ⟨b, o + k, none⟩ = some (.slice y L cp))
        (exact unhide KZ _ (by repeat (first | exact hbr | exact hb4 | apply Below.drew | apply bl_alloc)))
        (first
          | (refine step_append_lies _ (by rfl) _ _ _ (by rfl) w.heap.size 39 i0 _ 3 24 Try.underlying25 hi hz0 hz1 hz2 rfl (by omega) (.slice qa k qc) k ((pkP p ids bs k).flatMap pcL) (by rfl) (World.ownsRow.drew (World.ownsRow.alloc (unhide HQQ) _)) ⟨wr.heap.size, 0, none⟩ 1 1 [.int .i64 I, .int .i64 (IntKind.i64.wrap (p + (M : Int))), .int .i64 (L : Int)] (by rfl) (by rfl) (World.news_of_block (cs := #[.int .i64 I, .int .i64 (IntKind.i64.wrap (p + (M : Int))), .int .i64 (L : Int)]) (t := 39) (fr := (0, 0)) (heap_alloc_new wr _)) (by simp [Value.oneCell']) (by omega) (by unfold maxLen; omega) (by omega) (by simp; omega) (wr.heap.size + 1) (by simp) ?_; intro g cap w4 hown4 hgrow hat hlt4; have hb4 : Below w.heap.size w w4 := (bl_trans hbr (Below.drew (bl1 wr (.cells #[.int .i64 I, .int .i64 (IntKind.i64.wrap (p + (M : Int))), .int .i64 (L : Int)] 39)))).grown hgrow (by simp; omega) (fun j hj => (World.ownsRow.lt (unhide HQQ) j hj).1)))
      all_goals
        have ho4 : Own w4 w.heap.size (.slice ua M uc) P := own_two (((unhide HQ0).up (bl1 _ _)).up (Below.drew (Below.refl _ _))) (World.ownsRow.drew (World.ownsRow.alloc (unhide HQQ) _)) (by decide) hgrow
        have HQ4 : Hid (OwQ w4 w.heap.size (.slice (some ⟨g, 0, none⟩) (k + 1) cap) (pkP p ids bs (k + 1))) := by
          show OwQ _ _ _ _
          unfold OwQ
          rw [pkP_len, unhide HPP, List.flatMap_append]
          rw [unhide HWR] at hown4
          simpa [pcL] using hown4
        have HO4 := hide ho4
        clear hown4 hgrow hat ho4 hx hid
        have hs4 := hb4.size
        obtain ⟨iN, rfl⟩ := Int.eq_ofNat_of_zero_le (show 0 ≤ I by omega)
        obtain ⟨hc1, hc2⟩ := unhide KZ _ hb4
        go_wp2
        go_region_held3 (fun w' => w'.cell? ⟨b2, o2 + k, none⟩ = some (.int .i64 iN) ∧ w'.cell? ⟨b, o + k, none⟩ = some (.slice y L cp))
          (exact unhide KZ _ (by repeat (first | exact hb4 | exact hb5' | exact hb6' | apply Below.drew | apply bl_alloc)))
          (first
            | (go_at_call 30; refine (refHead_any iN L _ (by omega) (by omega)).mono ?_; rintro e w5 ⟨u5, rfl, h5, b5⟩; rw [unhide HG] at h5; have hb45 : Below w4.heap.size w4 w5 := Below.trans (by repeat (first | exact Below.refl _ _ | apply Below.drew)) b5; have hb5' : Below w.heap.size w w5 := bl_trans hb4 hb45; have h5f := h5; obtain ⟨va, vc, rfl, _, _⟩ := own_form h5f)
            | (go_at_call 29; refine (joined_any _ [P, G, Y] _ (RowsAt.three (((unhide HO4).up hb45).bts) h5.bts ((unhide HY).up hb5')) (by simp [unhide HPM, unhide HGL, unhide HYL]; omega)).mono ?_; rintro e w6 ⟨u6, rfl, h6, b6⟩; have hb6' : Below w.heap.size w w6 := bl_trans (bl_trans hb5' (bl1 _ _)) b6))
        all_goals
          have HO6 : Hid (Own w6 w.heap.size u6 (pkO ids bs (k + 1))) := by
            show Own _ _ _ _
            rw [unhide HOO]
            have h6' := Own.base (B' := w.heap.size) h6 (by have := hb5'.size; simp; omega)
            simpa using h6'
          have HQ6 := hide (own_up (own_up (unhide HQ4) hb45) (bl_trans (bl1 _ _) b6))
          clear h6
          go_wp2
          go_roundw
          case rel => exact ⟨k + 1, by omega, by go_num, unhide HF1, unhide HO6, unhide HQ6, hb6'⟩
          case measure => (simp [intOf] <;> omega)
    · obtain rfl : k = n := by omega
      have HR : Hid (0 = pkE p ids bs) := by show _ = _; rw [unhide HE, unhide HF]
      go_wp2
      refine bodyPost_ret (v := .tuple #[.slice ua M uc, .slice qa k qc, .int .i64 0]) (by simp [results, Try.results11, go_sem, *]) rfl ⟨_, _, ret_three (unhide HR), ?_, ?_, hbr⟩
      · rw [← unhide HR, okL0]
        have := unhide HOWN
        rw [unhide HM] at this
        exact this
      · rw [← unhide HR, okP0]
        have := unhide HQ
        rw [unhide HPL] at this
        exact this
end Go.Proofs.Ytdalkkjojflakaa
