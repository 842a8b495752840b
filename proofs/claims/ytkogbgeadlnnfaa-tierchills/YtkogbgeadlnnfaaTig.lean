/- The document's aged. -/
import Derived.Test.YtkogbgeadlnnfaaTif
import Derived.Test.YtkogbgeadlnnfaaTie
import Derived.Test.YtkogbgeadlnnfaaRfa
import Derived.BigQuiet
import Derived.Deep.QuietTactic
import Derived.Deep.RegionHeld3
namespace Go.Proofs.Ytkogbgeadlnnfaa
open Go.RowKit Go.Maps
set_option maxRecDepth 100000
set_option linter.unusedVariables false
set_option linter.unusedSimpArgs false
theorem ag_blk {w w1 : World} {o : Obj} (hb : Below (w.alloc o).drew.heap.size (w.alloc o).drew w1) : w1.heap[w.heap.size]? = some o := (hb.block w.heap.size (by show w.heap.size < (w.alloc o).heap.size; simp)).trans (heap_alloc_new w o)
theorem ag_cell {w : World} {g : Nat} {c : Array Value} {t : TypeId} {fz : Nat × Nat} (h : w.heap[g]? = some (.cells c t fz)) (j : Nat) {v : Value} (hv : c[j]? = some v) : w.cell? ⟨g, j, none⟩ = some v := by simp [World.cell?, h, hv]
theorem ag_fz {w : World} {g : Nat} {c : Array Value} {t : TypeId} (h : w.heap[g]? = some (.cells c t (0, 0))) (i : Nat) : w.frozen? ⟨g, i, none⟩ = false := by simp [World.frozen?, h]
set_option maxHeartbeats 1000000 in
theorem aged_any (S : St) (X : Ve) (b v u q g : Value) (ua : Option Addr) (un uc : Nat) (dr : Bool) (w : World) (hS : Sta w b v u q g S) (hc : stC S = true) (hx : X ∈ S.ves) (hk : X.ke.size ≤ maxLen) :
    Calls Try.prog 31 #[stV S b v u q g, veV X (.slice ua un uc), .bool dr] w fun e w' => e = .returned (.bool (ageR S X dr)) ∧ Below w.heap.size w w' := by
  obtain ⟨ba, bc, rfl, hb1, hb2⟩ := hS.bus.form
  unfold maxLen at hb2
  obtain ⟨kb, hkb, hfi, _⟩ := veC_bus (tstC_at hc hx)
  obtain ⟨k0, k1⟩ := tstC_clock hc
  obtain ⟨k2, k3⟩ := tveC_time (tstC_at hc hx)
  have HE : Hid (ageR S X dr = ((decide (0 ≤ ageN dr (S.bus.getD kb bu0)) && pfB X.ke (S.bus.getD kb bu0).pre) && decide (ageN dr (S.bus.getD kb bu0) ≤ S.clock - X.time))) := by
    show _ = _
    unfold ageR ageB
    rw [hfi]; rfl
  obtain ⟨R, hR⟩ : ∃ R, ageR S X dr = R := ⟨_, rfl⟩
  rw [hR] at HE ⊢
  obtain ⟨b8, o8, e8, r⟩ := Lst.at hS.bus hkb
  obtain ⟨Y, hY⟩ : ∃ Y, S.bus.getD kb bu0 = Y := ⟨_, rfl⟩
  rw [hY] at r HE
  subst e8
  have HP := hide r.s2
  have c2 := r.c2
  have c3 := r.c3
  have c4 := r.c4
  have HS := hide hS
  have HK := hide hk
  have HFI := hide hfi
  have hl8 := World.block_lt_of_cell? w _ c2
  simp at hl8
  clear hS hk hc hx hR hY r hfi
  go_enter Try.func31, Try.ntmps31
  go_upto_region 1 with fail
  have hw0 := bl_alloc (bl1 w (.cells #[.int .i64 S.next, .int .i64 S.clock, .slice (some ⟨b8, o8, none⟩) S.bus.length bc, v, u, q, g] 28)) (.cells (veB X (.slice ua un uc)) 49)
  have hBS := (BoxS.new w S (.slice (some ⟨b8, o8, none⟩) S.bus.length bc) v u q g 28).up (bl1 _ (.cells (veB X (.slice ua un uc)) 49))
  have hBV := BoxV.at (w.alloc (.cells #[.int .i64 S.next, .int .i64 S.clock, .slice (some ⟨b8, o8, none⟩) S.bus.length bc, v, u, q, g] 28)) X (.slice ua un uc) 49 (B := w.heap.size + 1) (by simp)
  obtain ⟨W, hW⟩ : ∃ W, (w.alloc (.cells #[.int .i64 S.next, .int .i64 S.clock, .slice (some ⟨b8, o8, none⟩) S.bus.length bc, v, u, q, g] 28)).alloc (.cells (veB X (.slice ua un uc)) 49) = W := ⟨_, rfl⟩
  rw [hW] at hw0 hBS hBV ⊢
  have hl1 := hBS.lt
  have hl2 := hBV.lt
  have hl9 : b8 < W.heap.size := by have := hw0.size; omega
  have HBS := hide hBS
  have HBV := hide hBV
  have KZ : Hid (∀ w', Below W.heap.size W w' → (w'.cell? ⟨w.heap.size, 0, none⟩ = some (.int .i64 S.next) ∧ w'.cell? ⟨w.heap.size, 1, none⟩ = some (.int .i64 S.clock) ∧ w'.cell? ⟨w.heap.size, 2, none⟩ = some (.slice (some ⟨b8, o8, none⟩) S.bus.length bc) ∧ w'.cell? ⟨w.heap.size, 3, none⟩ = some v ∧ w'.cell? ⟨w.heap.size, 4, none⟩ = some u ∧ w'.cell? ⟨w.heap.size, 5, none⟩ = some q ∧ w'.cell? ⟨w.heap.size, 6, none⟩ = some g ∧ w'.cell? ⟨w.heap.size + 1, 1, none⟩ = some (.string X.bu) ∧ w'.cell? ⟨b8, o8 + kb * 5 + 2, none⟩ = some (.string Y.pre) ∧ w'.cell? ⟨b8, o8 + kb * 5 + 2 + 1, none⟩ = some (.int .i64 Y.fre) ∧ w'.cell? ⟨b8, o8 + kb * 5 + 2 + 2, none⟩ = some (.int .i64 Y.dro))) := by
    intro w' hb
    have h1 := (unhide HBS).up hb
    have h2 := (unhide HBV).up hb
    have hb3 := bl_trans hw0 hb
    exact ⟨h1.c0, h1.c1, h1.c2, h1.c3, h1.c4, h1.c5, h1.c6, h2.c1, scell_up hb3 c2, scell_up hb3 c3, scell_up hb3 c4⟩
  clear hW hBS hBV
  go_cut [7] (fun p wc => ∃ P, p = .pointer (some ⟨P, 0, none⟩) ∧ wc.heap[P]? = some (.cells #[.string Y.pre, .int .i64 Y.fre, .int .i64 Y.dro] 52 (0, 0)) ∧ Below W.heap.size W wc)
  case first =>
    go_region_held3 (fun w' => w'.cell? ⟨w.heap.size, 0, none⟩ = some (.int .i64 S.next) ∧ w'.cell? ⟨w.heap.size, 1, none⟩ = some (.int .i64 S.clock) ∧ w'.cell? ⟨w.heap.size, 2, none⟩ = some (.slice (some ⟨b8, o8, none⟩) S.bus.length bc) ∧ w'.cell? ⟨w.heap.size, 3, none⟩ = some v ∧ w'.cell? ⟨w.heap.size, 4, none⟩ = some u ∧ w'.cell? ⟨w.heap.size, 5, none⟩ = some q ∧ w'.cell? ⟨w.heap.size, 6, none⟩ = some g ∧ w'.cell? ⟨w.heap.size + 1, 1, none⟩ = some (.string X.bu) ∧ w'.cell? ⟨b8, o8 + kb * 5 + 2, none⟩ = some (.string Y.pre) ∧ w'.cell? ⟨b8, o8 + kb * 5 + 2 + 1, none⟩ = some (.int .i64 Y.fre) ∧ w'.cell? ⟨b8, o8 + kb * 5 + 2 + 2, none⟩ = some (.int .i64 Y.dro))
      (exact unhide KZ _ (by repeat (first | exact Below.refl _ _ | exact b3' | apply Below.drew | refine bl_alloc ?_ _ | refine bl_set ?_ (Nat.le_refl _) _ | refine bl_set ?_ (by have := b3'.size; simp <;> omega) _)))
      (first
        | (go_at_call 51; refine (bucketAt_any S _ v u q g X.bu _ (((unhide HS).up hw0).up (by repeat (first | exact Below.refl _ _ | apply Below.drew | refine bl_alloc ?_ _))).bus).mono ?_; rintro e w3 ⟨rfl, b3⟩; rw [unhide HFI]; have b3' : Below W.heap.size W w3 := bl_trans (by repeat (first | exact Below.refl _ _ | apply Below.drew | refine bl_alloc ?_ _)) b3; (first | (have yr := ag_blk b3; have y0 := ag_cell yr 0 rfl; have y1 := ag_cell yr 1 rfl; have y2 := ag_cell yr 2 rfl; have yf0 := ag_fz yr 0; have yf1 := ag_fz yr 1; have yf2 := ag_fz yr 2; have yfa := fun j => ag_fz yr j) | skip))
        | fail)
    all_goals
      go_wp2
      go_meet
      case rel =>
        first
          | exact ⟨_, rfl, t_new1 _ _, bl_alloc b3' _⟩
          | exact ⟨_, rfl, row3 yr _ _ _, by (iterate 3 (refine bl_set ?_ (Nat.le_refl _) _)); exact b3'⟩
          | fail
  case rest =>
    obtain ⟨P, rfl, hr, hbc⟩ := hcut
    have hwc := bl_trans hw0 hbc
    have p0 := tcell_of hr 0 rfl
    have p1 := tcell_of hr 1 rfl
    have p2 := tcell_of hr 2 rfl
    have hpl : P < wc.heap.size := World.block_lt_of_cell? wc _ p0
    have s1 := ((unhide HBS).up hbc).c1
    have v2 := ((unhide HBV).up hbc).c2
    have v6 := ((unhide HBV).up hbc).c6
    have hl1' : w.heap.size < wc.heap.size := World.block_lt_of_cell? wc _ s1
    have hl2' : w.heap.size + 1 < wc.heap.size := World.block_lt_of_cell? wc _ v2
    clear hr c2 c3 c4 KZ
    cases dr
    case false =>
      have HE0 : Hid (R = ((decide (0 ≤ Y.fre) && pfB X.ke Y.pre) && decide (Y.fre ≤ S.clock - X.time))) := unhide HE
      obtain ⟨n, hn⟩ : ∃ n, Y.fre = n := ⟨_, rfl⟩
      rw [hn] at HE0 p1
      clear HE hn
      cases hd : decide (0 ≤ n)
      · have h0 := of_decide_eq_false hd
        rw [hd] at HE0
        have HR : Hid (R = false) := unhide HE0
        clear HE0 hd
        go_wp2
        go_ret
        exact ⟨ret_bool (unhide HR).symm, hwc⟩
      have h0 := of_decide_eq_true hd
      rw [hd] at HE0
      clear hd
      cases hpf : pfB X.ke Y.pre
      · rw [hpf] at HE0
        have HR : Hid (R = false) := unhide HE0
        clear HE0
        go_wp2_with (fail)
        refine (beginsD_any X.ke Y.pre _ (unhide HK) (unhide HP)).mono ?_
        rintro e w2 ⟨rfl, rfl⟩
        rw [hpf]
        clear hpf
        go_wp2
        go_ret
        exact ⟨ret_bool (unhide HR).symm, hwc⟩
      · rw [hpf] at HE0
        have HR : Hid (R = decide (n ≤ S.clock - X.time)) := unhide HE0
        clear HE0
        go_wp2_with (fail)
        refine (beginsD_any X.ke Y.pre _ (unhide HK) (unhide HP)).mono ?_
        rintro e w2 ⟨rfl, rfl⟩
        rw [hpf]
        clear hpf
        go_wp2
        go_ret
        exact ⟨ret_bool (unhide HR).symm, hwc⟩
    case true =>
      have HE0 : Hid (R = ((decide (0 ≤ Y.dro) && pfB X.ke Y.pre) && decide (Y.dro ≤ S.clock - X.time))) := unhide HE
      obtain ⟨n, hn⟩ : ∃ n, Y.dro = n := ⟨_, rfl⟩
      rw [hn] at HE0 p2
      clear HE hn
      cases hd : decide (0 ≤ n)
      · have h0 := of_decide_eq_false hd
        rw [hd] at HE0
        have HR : Hid (R = false) := unhide HE0
        clear HE0 hd
        go_wp2
        go_ret
        exact ⟨ret_bool (unhide HR).symm, hwc⟩
      have h0 := of_decide_eq_true hd
      rw [hd] at HE0
      clear hd
      cases hpf : pfB X.ke Y.pre
      · rw [hpf] at HE0
        have HR : Hid (R = false) := unhide HE0
        clear HE0
        go_wp2_with (fail)
        refine (beginsD_any X.ke Y.pre _ (unhide HK) (unhide HP)).mono ?_
        rintro e w2 ⟨rfl, rfl⟩
        rw [hpf]
        clear hpf
        go_wp2
        go_ret
        exact ⟨ret_bool (unhide HR).symm, hwc⟩
      · rw [hpf] at HE0
        have HR : Hid (R = decide (n ≤ S.clock - X.time)) := unhide HE0
        clear HE0
        go_wp2_with (fail)
        refine (beginsD_any X.ke Y.pre _ (unhide HK) (unhide HP)).mono ?_
        rintro e w2 ⟨rfl, rfl⟩
        rw [hpf]
        clear hpf
        go_wp2
        go_ret
        exact ⟨ret_bool (unhide HR).symm, hwc⟩
end Go.Proofs.Ytkogbgeadlnnfaa
