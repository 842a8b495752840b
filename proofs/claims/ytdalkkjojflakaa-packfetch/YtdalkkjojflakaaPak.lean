/- hot.Pack. -/
import Derived.Test.YtdalkkjojflakaaHFt
import Derived.Test.YtdalkkjojflakaaNap
namespace Go.Proofs.Ytdalkkjojflakaa
open Go.RowKit
set_option linter.unusedVariables false
set_option linter.unusedSimpArgs false

structure Pc where
  id : Int
  pos : Int
  size : Int
def pc0 : Pc := ⟨0, 0, 0⟩
def pcL (p : Pc) : List Value := [.int .i64 p.id, .int .i64 p.pos, .int .i64 p.size]
theorem infoPc : (Try.prog.info? 39).map (fun i => (i.zero, i.size, i.bytes)) = some (some (.agg #[.int .i64 0, .int .i64 0, .int .i64 0]), 3, 24) := by kernel_rfl
/-- Pieces in memory of one's own. -/
def OwQ (w : World) (B : Nat) (v : Value) (ps : List Pc) : Prop := w.ownsRow B 39 3 v ps.length (ps.flatMap pcL)
theorem OwQ.nil (w : World) (B : Nat) : OwQ w B (.slice none 0 0) [] := ⟨by simp, .inl ⟨rfl, rfl⟩⟩

def bdL (bs : List (List Int)) (i : Nat) : Int := ((bs.getD i []).length : Int)
/-- The bytes of the first k pieces. -/
def pkO (ids : List Int) (bs : List (List Int)) : Nat → List Int
  | 0 => []
  | k + 1 => pkO ids bs k ++ (hdL (ids.getD k 0) (bdL bs k) ++ bs.getD k [])
/-- Where they stand. -/
def pkP (p : Int) (ids : List Int) (bs : List (List Int)) : Nat → List Pc
  | 0 => []
  | k + 1 => pkP p ids bs k ++ [⟨ids.getD k 0, p + ((pkO ids bs k).length : Int), bdL bs k⟩]
theorem pkP_len (p : Int) (ids : List Int) (bs : List (List Int)) (k : Nat) : (pkP p ids bs k).length = k := by
  induction k with
  | zero => rfl
  | succ k ih => simp [pkP, ih]
def pkQ (ids : List Int) (bs : List (List Int)) (i : Nat) : Int := if inB (ids.getD i 0) 1 1048576 then (if inB (bdL bs i) 0 600 then 0 else 1) else 2
/-- What is refused of the first k. -/
def pkF (ids : List Int) (bs : List (List Int)) : Nat → Int
  | 0 => 0
  | k + 1 => if pkF ids bs k = 0 then pkQ ids bs k else pkF ids bs k
theorem pkF_mono {ids : List Int} {bs : List (List Int)} {k : Nat} (h : pkF ids bs k ≠ 0) : ∀ {n : Nat}, k ≤ n → pkF ids bs n = pkF ids bs k := by
  intro n
  induction n with
  | zero => intro hk; obtain rfl : k = 0 := by omega
            rfl
  | succ n ih =>
    intro hk
    by_cases e : k = n + 1
    · rw [e]
    · have := ih (by omega)
      simp [pkF, this, h]
theorem pkF_bad {ids : List Int} {bs : List (List Int)} {k n : Nat} (h0 : pkF ids bs k = 0) (h : pkQ ids bs k ≠ 0) (hk : k < n) : pkF ids bs n = pkQ ids bs k := by
  have e : pkF ids bs (k + 1) = pkQ ids bs k := by simp [pkF, h0]
  rw [pkF_mono (by rw [e]; exact h) hk, e]
theorem pkF_ok {ids : List Int} {bs : List (List Int)} {k : Nat} (h0 : pkF ids bs k = 0) (h : pkQ ids bs k = 0) : pkF ids bs (k + 1) = 0 := by simp [pkF, h0, h]
theorem pkO_len {ids : List Int} {bs : List (List Int)} {k : Nat} (h : pkF ids bs k = 0) : (pkO ids bs k).length ≤ 606 * k := by
  induction k with
  | zero => simp [pkO]
  | succ k ih =>
    have h1 : pkF ids bs k = 0 := by
      by_cases e : pkF ids bs k = 0
      · exact e
      · simp [pkF, e] at h
    have h2 : pkQ ids bs k = 0 := by simpa [pkF, h1] using h
    have h3 : inB (bdL bs k) 0 600 = true := by
      unfold pkQ at h2
      split at h2
      · split at h2
        · assumption
        · omega
      · omega
    have h4 := inB_t h3
    have := ih h1
    simp only [pkO, List.length_append, hdL_len]
    unfold bdL at h4
    omega
def pkE (p : Int) (ids : List Int) (bs : List (List Int)) : Int := if inB p 0 4000 then (if ids.length = bs.length then pkF ids bs ids.length else 4) else 2
def okP (e : Int) (l : List Pc) : List Pc := if e = 0 then l else []
theorem okPn {e : Int} {l : List Pc} (h : e ≠ 0) : okP e l = [] := by simp [okP, h]
theorem okP0 (l : List Pc) : okP 0 l = l := by simp [okP]
theorem ret_three {a b : Value} {e e' : Int} (h : e = e') : Ending.returned (.tuple #[a, b, .int .i64 e]) = .returned (.tuple #[a, b, .int .i64 e']) := by rw [h]

set_option maxHeartbeats 2000000 in
set_option maxRecDepth 100000 in
theorem pack_any (p : Int) (iv bv : Value) (ids : List Int) (bs : List (List Int)) (w : World) (hi : Nts w iv ids) (hb : RowsAt w bv bs) (hn : bs.length ≤ 100000000) :
    Calls Try.prog 9 #[.int .i64 p, iv, bv] w fun e w' =>
      ∃ u q, e = .returned (.tuple #[u, q, .int .i64 (pkE p ids bs)]) ∧ Own w' w.heap.size u (okL (pkE p ids bs) (pkO ids bs ids.length)) ∧ OwQ w' w.heap.size q (okP (pkE p ids bs) (pkP p ids bs ids.length)) ∧ Below w.heap.size w w' := by
  obtain ⟨ia, ic, rfl, il, im, hic⟩ := hi
  obtain ⟨ba, bc, rfl, bl, bm, hbc⟩ := hb
  unfold maxLen at im bm
  have HIC := hide hic
  have HBC := hide hbc
  clear hic hbc
  cases hp : inB p 0 4000
  case false =>
    have HE : Hid (2 = pkE p ids bs) := by show _ = _; unfold pkE; rw [hp]; rfl
    by_cases h1 : p < 0
    · go_enter Try.func9, Try.ntmps9
      go_wp2
      refine bodyPost_ret (v := .tuple #[.slice none 0 0, .slice none 0 0, .int .i64 2]) (by simp [results, Try.results9, go_sem, *]) rfl ⟨_, _, ret_three (unhide HE), by rw [← unhide HE]; exact own0 _ _, by rw [← unhide HE]; exact OwQ.nil _ _, Below.refl _ _⟩
    · have h2 : 4000 < p := by have := inB_f hp; omega
      go_enter Try.func9, Try.ntmps9
      go_wp2
      refine bodyPost_ret (v := .tuple #[.slice none 0 0, .slice none 0 0, .int .i64 2]) (by simp [results, Try.results9, go_sem, *]) rfl ⟨_, _, ret_three (unhide HE), by rw [← unhide HE]; exact own0 _ _, by rw [← unhide HE]; exact OwQ.nil _ _, Below.refl _ _⟩
  have hpb := inB_t hp
  by_cases hl : ids.length = bs.length
  case neg =>
    have HE : Hid (4 = pkE p ids bs) := by show _ = _; unfold pkE; rw [hp, if_pos rfl, if_neg hl]
    have hl' : ¬ (ids.length : Int) = (bs.length : Int) := by omega
    go_enter Try.func9, Try.ntmps9
    go_wp2
    refine bodyPost_ret (v := .tuple #[.slice none 0 0, .slice none 0 0, .int .i64 4]) (by simp [results, Try.results9, go_sem, *]) rfl ⟨_, _, ret_three (unhide HE), by rw [← unhide HE]; exact own0 _ _, by rw [← unhide HE]; exact OwQ.nil _ _, Below.refl _ _⟩
  have HE : Hid (pkE p ids bs = pkF ids bs ids.length) := by show _ = _; unfold pkE; rw [hp, if_pos rfl, if_pos hl]
  obtain ⟨n, hnn⟩ : ∃ n, ids.length = n := ⟨_, rfl⟩
  rw [← hl] at hn bl HBC ⊢
  rw [hnn] at hn bl il HIC HBC HE ⊢
  have HNN := hide hnn
  clear hnn hl hp
  obtain ⟨i0, hi, hz0, hz1, hz2⟩ := info_parts infoPc
  go_enter Try.func9, Try.ntmps9
  go_wp2
  go_loopw [9, 10, 11, 12, 13, 27] (fun u q _ _ _ i wr => ∃ k : Nat, k ≤ n ∧ i = .int .i64 k ∧ pkF ids bs k = 0 ∧ Own wr w.heap.size u (pkO ids bs k) ∧ OwQ wr w.heap.size q (pkP p ids bs k) ∧ Below w.heap.size w wr) (fun _ _ _ _ _ i _ => n - (intOf i).toNat)
  case atStart => exact ⟨0, Nat.zero_le _, rfl, rfl, own0 _ _, OwQ.nil _ _, Below.refl _ _⟩
  case round =>
    obtain ⟨k, hk, rfl, hF, hown, hq, hbr⟩ := hrel
    have HF := hide hF
    have HLEN := hide (pkO_len hF)
    obtain ⟨ua, uc, rfl, ul, um⟩ := own_form hown
    obtain ⟨qa, qc, rfl, ql, qm⟩ := own_form hq
    have HOWN := hide hown
    have HQ := hide hq
    clear hF hown hq
    unfold maxLen at um qm
    have hpl := pkP_len p ids bs k
    rw [hpl] at ql ⊢
    have HPL := hide hpl
    clear hpl
    obtain ⟨M, hM⟩ : ∃ M, (pkO ids bs k).length = M := ⟨_, rfl⟩
    rw [hM] at ul ⊢
    have hMb : M ≤ 606 * k := by rw [← hM]; exact unhide HLEN
    have HM := hide hM
    clear hM HLEN
    by_cases hlt : k < n
    · obtain ⟨b, o, rfl, x, hx, y, cp, rfl, lx, mx, hy⟩ := unhide HBC k hlt
      obtain ⟨b2, o2, rfl, hid⟩ := unhide HIC k hlt
      unfold maxLen at mx
      have hx0 := hx
      replace hx := cell_up hbr hx
      replace hid := cell_up hbr hid
      obtain ⟨I, hI⟩ : ∃ I, ids.getD k 0 = I := ⟨_, rfl⟩
      obtain ⟨L, hL⟩ : ∃ L, (bs.getD k []).length = L := ⟨_, rfl⟩
      rw [hI] at hid
      rw [hL] at hx lx
      have hY0 : Bts w (.slice y L cp) (bs.getD k []) := ⟨y, cp, by rw [hL], by rw [hL]; exact lx, by unfold maxLen; omega, hy⟩
      obtain ⟨Y, hYY⟩ : ∃ Y, bs.getD k [] = Y := ⟨_, rfl⟩
      have HYL : Hid (Y.length = L) := by show _ = _; rw [← hYY]; exact hL
      have HY : Hid (Bts w (.slice y L cp) Y) := by show Bts _ _ _; rw [← hYY]; exact hY0
      have hbdl : bdL bs k = (L : Int) := by unfold bdL; rw [hL]
      have HQK : Hid (pkQ ids bs k = if inB I 1 1048576 then (if inB (L : Int) 0 600 then 0 else 1) else 2) := by show _ = _; unfold pkQ; rw [hI, hbdl]
      obtain ⟨P, hP⟩ : ∃ P, pkO ids bs k = P := ⟨_, rfl⟩
      obtain ⟨G, hG⟩ : ∃ G, hdL I (L : Int) = G := ⟨_, rfl⟩
      have HGL : Hid (G.length = 6) := by show _ = _; rw [← hG]; exact hdL_len _ _
      have HPM : Hid (P.length = M) := by show _ = _; rw [← hP]; exact unhide HM
      have HOO : Hid (pkO ids bs (k + 1) = P ++ (G ++ Y)) := by show _ = _; rw [pkO, hI, hbdl, hP, hG, hYY]
      have HG := hide hG
      rw [hP] at HOWN
      have HPP : Hid (pkP p ids bs (k + 1) = pkP p ids bs k ++ [⟨I, p + (M : Int), (L : Int)⟩]) := by show _ = _; rw [pkP, hI, hbdl, unhide HM]
      have HL := hide hL
      clear hI hL hy hbdl hx0 hY0 hYY hP hG
      have hsz := hbr.size
      cases hI1 : inB I 1 1048576
      case false =>
        have HR : Hid (2 = pkE p ids bs) := by
          show _ = _
          have e : pkQ ids bs k = 2 := by rw [unhide HQK, hI1]; rfl
          rw [unhide HE, pkF_bad (unhide HF) (by rw [e]; decide) hlt, e]
        go_wp2_with (go_at_call 25; refine (isId_any _ _).mono ?_; rintro e w' ⟨rfl, rfl⟩)
        refine bodyPost_ret (v := .tuple #[.slice none 0 0, .slice none 0 0, .int .i64 2]) (by simp [results, Try.results9, go_sem, *]) rfl ⟨_, _, ret_three (unhide HR), by rw [← unhide HR]; exact own0 _ _, by rw [← unhide HR]; exact OwQ.nil _ _, bl_alloc hbr _⟩
      cases hL1 : inB (L : Int) 0 600
      case false =>
        have HR : Hid (1 = pkE p ids bs) := by
          show _ = _
          have e : pkQ ids bs k = 1 := by rw [unhide HQK, hI1, hL1]; rfl
          rw [unhide HE, pkF_bad (unhide HF) (by rw [e]; decide) hlt, e]
        go_wp2_with (first | (go_at_call 25; refine (isId_any _ _).mono ?_; rintro e w' ⟨rfl, rfl⟩) | (go_at_call 26; refine (isSize_any _ _).mono ?_; rintro e w' ⟨rfl, rfl⟩))
        refine bodyPost_ret (v := .tuple #[.slice none 0 0, .slice none 0 0, .int .i64 1]) (by simp [results, Try.results9, go_sem, *]) rfl ⟨_, _, ret_three (unhide HR), by rw [← unhide HR]; exact own0 _ _, by rw [← unhide HR]; exact OwQ.nil _ _, bl_alloc hbr _⟩
      have HF1 : Hid (pkF ids bs (k + 1) = 0) := pkF_ok (unhide HF) (by rw [unhide HQK, hI1, hL1]; rfl)
      have hLb := inB_t hL1
      go_wp2_with (first | (go_at_call 25; refine (isId_any _ _).mono ?_; rintro e w' ⟨rfl, rfl⟩) | (go_at_call 26; refine (isSize_any _ _).mono ?_; rintro e w' ⟨rfl, rfl⟩))
      clear hI1 hL1
      refine (head_any I (p + (M : Int)) (L : Int) _).mono ?_
      rintro e w2 ⟨u2, rfl, h2, b2⟩
      obtain ⟨W1, hW1⟩ : ∃ W1, W1 = wr.alloc (.cells #[.int .i64 I, .int .i64 (p + (M : Int)), .int .i64 (L : Int)] 39) := ⟨_, rfl⟩
      have hrow1 : Row W1 wr.heap.size 39 [.int .i64 I, .int .i64 (p + (M : Int)), .int .i64 (L : Int)] := by rw [hW1]; exact Row.new _ _ _
      have hbw : Below wr.heap.size wr W1 := by rw [hW1]; exact bl1 _ _
      rw [← hW1] at h2 b2
      rw [unhide HG] at h2
      clear hW1
      have hrow2 := hrow1.up b2
      have hb2 : Below wr.heap.size wr w2 := bl_trans hbw b2
      have ho2 : Own w2 w.heap.size (.slice ua M uc) P := by have := (unhide HOWN).up hb2; rw [unhide HPM] at this; exact this
      have hq2 : OwQ w2 w.heap.size (.slice qa k qc) (pkP p ids bs k) := by have := own_up (unhide HQ) hb2; rw [unhide HPL] at this; unfold OwQ; rw [unhide HPL]; exact this
      have hbW2 : Below w.heap.size w w2 := bl_trans hbr hb2
      have HR2 := hide hrow2
      have HO2 := hide ho2
      have HQ2 := hide hq2
      have HB2 := hide hbW2
      have hlr : wr.heap.size < w2.heap.size := hrow2.lt
      clear hrow1 hrow2 ho2 hq2 HOWN HQ hbw hb2
      go_wp2_with (at_builtin; refine wpList_app_bytes w2 rfl (.tmp 53) (.tmp 55) rfl w.heap.size (.slice ua M uc) u2 P G rfl rfl (unhide HO2) h2.bts (by omega) (by rw [unhide HPM, unhide HGL]; omega) ?_)
      intro a3 c3 w3 ho3 hg3
      have hs3 := hg3.size
      have hbW3 : Below w.heap.size w w3 := (unhide HB2).grown hg3 (by omega) fun j hj => (World.ownsRow.lt (unhide HO2) j hj).1
      have hr3 := (unhide HR2).kept hg3 (own_apart (unhide HO2) (unhide HR2) (by decide)).symm
      have hq3 := own_two (unhide HQ2) (unhide HO2) (by decide) hg3
      have HO3 := hide ho3
      have HR3 := hide hr3
      have HQ3 := hide hq3
      have HB3 := hide hbW3
      rw [unhide HPM, unhide HGL] at ho3 ⊢
      clear ho3 hr3 hq3 hbW3 hg3 HO2 HR2 HQ2 HB2 h2
      go_wp2_with (at_builtin; refine wpList_app_bytes w3 rfl (.tmp 56) (.tmp 57) rfl w.heap.size (.slice a3 (M + 6) c3) (.slice y L cp) (P ++ G) Y rfl rfl (by have := unhide HO3; rw [unhide HPM, unhide HGL] at this; exact this) ((unhide HY).up (unhide HB3)) (by omega) (by rw [List.length_append, unhide HPM, unhide HGL, unhide HYL]; omega) ?_)
      intro a4 c4 w4 ho4 hg4
      have hs4 := hg4.size
      have ho3' : Own w3 w.heap.size (.slice a3 (M + 6) c3) (P ++ G) := by have := unhide HO3; rw [unhide HPM, unhide HGL] at this; exact this
      have hbW4 : Below w.heap.size w w4 := (unhide HB3).grown hg4 (by omega) fun j hj => (World.ownsRow.lt ho3' j hj).1
      have hr4 := (unhide HR3).kept hg4 (own_apart ho3' (unhide HR3) (by decide)).symm
      have hq4 := own_two (unhide HQ3) ho3' (by decide) hg4
      have c0 := hr4.cell 0 _ rfl
      have c1 := hr4.cell 1 _ rfl
      have c2 := hr4.cell 2 _ rfl
      have HO4 : Hid (Own w4 w.heap.size (.slice a4 (M + 6 + L) c4) (pkO ids bs (k + 1))) := by
        show Own _ _ _ _
        rw [unhide HOO]
        rw [unhide HPM, unhide HGL, unhide HYL] at ho4
        exact ho4
      have HQ4 : Hid (w4.ownsRow w.heap.size 39 3 (.slice qa k qc) k ((pkP p ids bs k).flatMap pcL)) := by have := hq4; rw [unhide HPL] at this; exact this
      have HB4 := hide hbW4
      try rw [List.length_append]
      rw [unhide HPM, unhide HGL, unhide HYL]
      clear ho4 hr4 hq4 hbW4 hg4 HO3 HR3 HQ3 HB3 ho3'
      go_wp2_with (at_builtin; refine wpList_append_own _ rfl (.tmp 59) (.tmp 61) 25 rfl w.heap.size 39 i0 (.agg #[.int .i64 0, .int .i64 0, .int .i64 0]) 3 24 Try.underlying25 hi hz0 hz1 hz2 rfl (by decide) _ k ((pkP p ids bs k).flatMap pcL) rfl ((unhide HQ4).alloc _) ⟨w4.heap.size, 0, none⟩ 1 1 [.int .i64 I, .int .i64 (p + (M : Int)), .int .i64 (L : Int)] rfl rfl ?c1 ?c2 ?c3 ?c4 ?c5 ?_)
      case c1 =>
        intro j u hj
        match j, hj with
        | 0, hj => simp at hj; subst hj; simp [Addr.add]
        | 1, hj => simp at hj; subst hj; simp [Addr.add]
        | 2, hj => simp at hj; subst hj; simp [Addr.add]
      case c2 => intro u hu; simp at hu; rcases hu with rfl | rfl | rfl <;> rfl
      case c3 => unfold maxLen; omega
      case c4 => omega
      case c5 => simp; omega
      intro q5 w5 hq5 hg5 _
      have hb5 : Below w.heap.size w w5 := (bl_alloc (unhide HB4) _).grown hg5 (by simp; omega) fun j hj => ((unhide HQ4).lt j hj).1
      have HO5 : Hid (Own w5 w.heap.size (.slice a4 (M + 6 + L) c4) (pkO ids bs (k + 1))) := own_two ((unhide HO4).up (bl1 _ _)) ((unhide HQ4).alloc _) (by decide) hg5
      have HQ5 : Hid (OwQ w5 w.heap.size q5 (pkP p ids bs (k + 1))) := by
        show OwQ _ _ _ _
        unfold OwQ
        rw [pkP_len, unhide HPP, List.flatMap_append]
        simpa [pcL] using hq5
      clear hq5 hg5 HO4 HQ4 HB4
      go_wp2
      go_roundw
      case rel => exact ⟨k + 1, by omega, by go_num, unhide HF1, unhide HO5, unhide HQ5, hb5⟩
      case measure => (simp [intOf] <;> omega)
    · obtain rfl : k = n := by omega
      have HR : Hid (0 = pkE p ids bs) := by show _ = _; rw [unhide HE, unhide HF]
      go_wp2
      refine bodyPost_ret (v := .tuple #[.slice ua M uc, .slice qa k qc, .int .i64 0]) (by simp [results, Try.results9, go_sem, *]) rfl ⟨_, _, ret_three (unhide HR), ?_, ?_, hbr⟩
      · rw [← unhide HR, okL0]
        have := unhide HOWN
        rw [unhide HM] at this
        exact this
      · rw [← unhide HR, okP0]
        have := unhide HQ
        rw [unhide HPL] at this
        exact this
end Go.Proofs.Ytdalkkjojflakaa
