/- dev.Put. -/
import Derived.Test.YtjaedigjmgfakaaTak
import Derived.Test.YtjaedigjmgfakaaOwn2
import Derived.Deep.DrawnRows
import Derived.Deep.RegionHeldLaw
namespace Go.Proofs.Ytjaedigjmgfakaa
open Go.RowKit
set_option linter.unusedVariables false
set_option linter.unusedSimpArgs false

/-- What putting a sector answers. -/
def putE (D : Dv) (x : Int) (L : Nat) (e : Int) : Int := if e = 0 then (if inB x 0 ((D.safe.length : Int) - 1) then (if 64 < L then 1 else if 2000 ≤ D.cache.length then 8 else if D.fuel = 0 then 10 else 0) else 2) else e
def putD (D : Dv) (x : Int) (xs : List Int) (e : Int) : Dv := if e = 0 then ⟨D.safe, D.cache ++ [⟨x, pad 64 xs⟩], D.vols, lessF D.fuel⟩ else nilD
theorem putE_bad {D : Dv} {x : Int} {L : Nat} {e : Int} (h : e ≠ 0) : putE D x L e = e := by simp [putE, h]
theorem putE_at {D : Dv} {x : Int} {L : Nat} (h : inB x 0 ((D.safe.length : Int) - 1) = false) : putE D x L 0 = 2 := by simp [putE, h]
theorem putE_size {D : Dv} {x : Int} {L : Nat} (h : inB x 0 ((D.safe.length : Int) - 1) = true) (hL : 64 < L) : putE D x L 0 = 1 := by simp [putE, h, hL]
theorem putE_full {D : Dv} {x : Int} {L : Nat} (h : inB x 0 ((D.safe.length : Int) - 1) = true) (hL : ¬ 64 < L) (hc : 2000 ≤ D.cache.length) : putE D x L 0 = 8 := by simp [putE, h, hL, hc]
theorem putE_down {D : Dv} {x : Int} {L : Nat} (h : inB x 0 ((D.safe.length : Int) - 1) = true) (hL : ¬ 64 < L) (hc : ¬ 2000 ≤ D.cache.length) (hf : D.fuel = 0) : putE D x L 0 = 10 := by simp [putE, h, hL, hc, hf]
theorem putE_ok {D : Dv} {x : Int} {L : Nat} (h : inB x 0 ((D.safe.length : Int) - 1) = true) (hL : ¬ 64 < L) (hc : ¬ 2000 ≤ D.cache.length) (hf : D.fuel ≠ 0) : putE D x L 0 = 0 := by simp [putE, h, hL, hc, hf]
theorem putD_bad {D : Dv} {x : Int} {xs : List Int} {e : Int} (h : e ≠ 0) : putD D x xs e = nilD := by simp [putD, h]
theorem putD_ok (D : Dv) (x : Int) (xs : List Int) : putD D x xs 0 = ⟨D.safe, D.cache ++ [⟨x, pad 64 xs⟩], D.vols, lessF D.fuel⟩ := by simp [putD]
theorem cache_of {r a h vm nv : Int} {D : Dv} (hd : devB r a h vm nv D = true) : D.cache.length ≤ 2000 := by
  obtain ⟨x1, x2, x3, x4, x5, x6, x7⟩ := devB_all hd
  omega

theorem bl_own {a b c : World} (h : Below a.heap.size a b) {r : Option Nat} (k : b.grownBy c r) (hr : ∀ j, r = some j → a.heap.size ≤ j) : Below a.heap.size a c :=
  ⟨k.os.trans h.os, k.tape.trans h.tape, k.output.trans h.output, Nat.le_trans h.size k.size, fun i hi => (k.block i (Nat.lt_of_lt_of_le hi h.size) (fun e => absurd (hr i e.symm) (Nat.not_le.2 hi))).trans (h.block i hi)⟩
attribute [local go_sem ↓] Go.wp_at_zero Go.wp_at_succ
set_option maxHeartbeats 1000000 in
theorem put_any (r a h vm nv : Int) (s c v : Value) (D : Dv) (x : Int) (bv : Value) (xs : List Int) (w : World) (hD : Dev w s c v D) (hB : Bts w bv xs) :
    Calls Try.prog 46 #[.agg #[.int .i64 r, .int .i64 a, .int .i64 h, .int .i64 vm, .int .i64 nv], .agg #[s, c, v, .int .i64 D.fuel], .int .i64 x, bv] w fun e w' =>
      ∃ s' c' v', e = .returned (.tuple #[.agg #[s', c', v', .int .i64 (putD D x xs (putE D x xs.length (chkE r a h vm nv D))).fuel], .int .i64 (putE D x xs.length (chkE r a h vm nv D))]) ∧ ODev w' w.heap.size s' c' v' (putD D x xs (putE D x xs.length (chkE r a h vm nv D))) ∧ Below w.heap.size w w' := by
  have HD := hide hD
  have HBT := hide hB
  obtain ⟨ab, capb, rfl, lb, mb, _⟩ := hB
  obtain ⟨L, hL⟩ : ∃ L, xs.length = L := ⟨_, rfl⟩
  have HL := hide hL
  rw [hL] at lb HBT ⊢
  clear hL
  unfold maxLen at mb
  obtain ⟨⟨a1, cap1, rfl, l1, m1, hs⟩, ⟨a2, cap2, rfl, l2, m2, hc⟩, ⟨a3, cap3, rfl, l3, m3, hv⟩⟩ := hD
  clear hs hc hv
  go_enter Try.func46, Try.ntmps46
  go_wp2_with fail
  refine (check_any r a h vm nv _ _ _ D _ ((unhide HD).up (bl3 _ _ _ _))).mono ?_
  rintro e w1 ⟨rfl, hb1⟩
  have hb0 : Below w.heap.size w w1 := bl_trans (bl3 _ _ _ _) hb1
  have f0 := box3b hb1 0 rfl
  have f1 := box3b hb1 1 rfl
  have f2 := box3b hb1 2 rfl
  have f3 := box3b hb1 3 rfl
  have hR := box3r (cs := [.slice none 0 0, .slice none 0 0, .slice none 0 0, .int .i64 0]) hb1
  have d0 := hR.cell 0 _ rfl
  have d1 := hR.cell 1 _ rfl
  have d2 := hR.cell 2 _ rfl
  have d3 := hR.cell 3 _ rfl
  have df := hR.unfrozen
  have HR := hide hR
  clear hb1 hR
  obtain ⟨E, hE⟩ : ∃ E, chkE r a h vm nv D = E := ⟨_, rfl⟩
  rw [hE]
  by_cases hE0 : E = 0
  case neg =>
    have t1 : (E != 0) = true := by simpa using hE0
    have t2 : (E == 0) = false := by simpa using hE0
    have HE : Hid (E = putE D x L (chkE r a h vm nv D)) := by rw [hE]; exact (putE_bad hE0).symm
    have HE0 := hide hE0
    clear hE hE0
    go_wp2
    refine bodyPost_ret (v := .tuple #[.agg #[.slice none 0 0, .slice none 0 0, .slice none 0 0, .int .i64 0], .int .i64 E]) (by simp [results, Try.results46, go_sem, *]) rfl ⟨_, _, _, ret_dev (by rw [← unhide HE, putD_bad (unhide HE0)]; rfl) (unhide HE), ?_, ?_⟩
    · rw [← unhide HE, putD_bad (unhide HE0)]; exact ODev.empty _ _ _
    · repeat (first | exact hb0 | refine bl_set ?_ (by simp <;> omega) _)
  subst hE0
  obtain ⟨hg, hd⟩ := chk_of hE
  have HFIT := hide (fits_of hg hd)
  have HFU := hide (fuel_of hd)
  have hcl := cache_of hd
  have HCH := hide hE
  clear hE hd hg
  go_wp2_with fail
  refine (isSector_any _ _ _ _ _ _ D.safe.length _ _ rfl (by unfold maxLen at m1; omega)).mono ?_
  rintro e w2 ⟨rfl, hb2⟩
  replace hb0 := bl_trans hb0 hb2
  replace f0 := cell_up hb2 f0
  replace f1 := cell_up hb2 f1
  replace f2 := cell_up hb2 f2
  replace f3 := cell_up hb2 f3
  have hR := (unhide HR).up hb2
  clear d0 d1 d2 d3 df
  have d0 := hR.cell 0 _ rfl
  have d1 := hR.cell 1 _ rfl
  have d2 := hR.cell 2 _ rfl
  have d3 := hR.cell 3 _ rfl
  have df := hR.unfrozen
  clear HR hb2
  have HR := hide hR
  clear hR
  cases hV : inB x 0 ((D.safe.length : Int) - 1)
  case false =>
    have HE : Hid (2 = putE D x L (chkE r a h vm nv D)) := by rw [unhide HCH]; exact (putE_at hV).symm
    clear hV
    go_wp2
    refine bodyPost_ret (v := .tuple #[.agg #[.slice none 0 0, .slice none 0 0, .slice none 0 0, .int .i64 0], .int .i64 2]) (by simp [results, Try.results46, go_sem, *]) rfl ⟨_, _, _, ret_dev (by rw [← unhide HE, putD_bad (by decide)]; rfl) (unhide HE), ?_, ?_⟩
    · rw [← unhide HE, putD_bad (by decide)]; exact ODev.empty _ _ _
    · repeat (first | refine bl_set ?_ (by simp <;> omega) _ | refine bl_alloc ?_ _ | exact hb0)
  by_cases hS : 64 < L
  · have HE : Hid (1 = putE D x L (chkE r a h vm nv D)) := by rw [unhide HCH]; exact (putE_size hV hS).symm
    clear hV
    go_wp2
    refine bodyPost_ret (v := .tuple #[.agg #[.slice none 0 0, .slice none 0 0, .slice none 0 0, .int .i64 0], .int .i64 1]) (by simp [results, Try.results46, go_sem, *]) rfl ⟨_, _, _, ret_dev (by rw [← unhide HE, putD_bad (by decide)]; rfl) (unhide HE), ?_, ?_⟩
    · rw [← unhide HE, putD_bad (by decide)]; exact ODev.empty _ _ _
    · repeat (first | refine bl_set ?_ (by simp <;> omega) _ | refine bl_alloc ?_ _ | exact hb0)
  by_cases hC : 2000 ≤ D.cache.length
  · have HE : Hid (8 = putE D x L (chkE r a h vm nv D)) := by rw [unhide HCH]; exact (putE_full hV hS hC).symm
    have hC' : D.cache.length = 2000 := by omega
    rw [hC'] at f1 ⊢
    clear hV hC hC' hcl l2
    go_wp2
    refine bodyPost_ret (v := .tuple #[.agg #[.slice none 0 0, .slice none 0 0, .slice none 0 0, .int .i64 0], .int .i64 8]) (by simp [results, Try.results46, go_sem, *]) rfl ⟨_, _, _, ret_dev (by rw [← unhide HE, putD_bad (by decide)]; rfl) (unhide HE), ?_, ?_⟩
    · rw [← unhide HE, putD_bad (by decide)]; exact ODev.empty _ _ _
    · repeat (first | refine bl_set ?_ (by simp <;> omega) _ | refine bl_alloc ?_ _ | exact hb0)
  have hcn : ¬ D.cache.length = 2000 := by omega
  by_cases hF0 : D.fuel = 0
  · have HE : Hid (10 = putE D x L (chkE r a h vm nv D)) := by rw [unhide HCH]; exact (putE_down hV hS hC hF0).symm
    have HF0 := hide hF0
    clear hV hF0
    go_wp2_with fail
    refine (oneThing_zero _ _ _ D _ (unhide HF0)).mono ?_
    rintro e w3 ⟨rfl, hb3⟩
    replace hb0 := bl_trans hb0 hb3
    have hR := (unhide HR).up hb3
    clear d0 d1 d2 d3 df
    have d0 := hR.cell 0 _ rfl
    have d1 := hR.cell 1 _ rfl
    have d2 := hR.cell 2 _ rfl
    have d3 := hR.cell 3 _ rfl
    have df := hR.unfrozen
    have hrl := hR.lt
    clear hR hb3 f0 f1 f2 f3
    go_wp2
    refine bodyPost_ret (v := .tuple #[.agg #[.slice none 0 0, .slice none 0 0, .slice none 0 0, .int .i64 0], .int .i64 10]) (by simp [results, Try.results46, go_sem, *]) rfl ⟨_, _, _, ret_dev (by rw [← unhide HE, putD_bad (by decide)]; rfl) (unhide HE), ?_, ?_⟩
    · rw [← unhide HE, putD_bad (by decide)]; exact ODev.empty _ _ _
    · repeat (first | refine bl_set ?_ (by simp <;> omega) _ | refine bl_alloc ?_ _ | exact hb0)
  have HE : Hid (0 = putE D x L (chkE r a h vm nv D)) := by rw [unhide HCH]; exact (putE_ok hV hS hC hF0).symm
  have HF0 := hide hF0
  clear hV hF0
  go_wp2_with fail
  refine (oneThing_o _ _ _ D _ ((unhide HD).up hb0) (unhide HFIT) (unhide HF0) (unhide HFU).1 (unhide HFU).2).mono ?_
  rintro e w3 ⟨s', c', v', rfl, hO, hb3⟩
  have hsz2 := hb0.size
  have hsz3 := hb3.size
  replace hb0 := bl_trans hb0 hb3
  have hod := hO.dev
  obtain ⟨⟨b1, dap1, rfl, _⟩, _, ⟨b3, dap3, rfl, _⟩⟩ := hod
  obtain ⟨us, hoc, hoi⟩ := hO.cache
  obtain ⟨ac, cc, rfl, _, _⟩ := own_form hoc
  have hR := (unhide HR).up hb3
  clear d0 d1 d2 d3 df f0 f1 f2 f3
  go_wp2
  obtain ⟨W1, hW1⟩ : ∃ W1, W1 = w3.alloc (.cells #[.slice b1 D.safe.length dap1, .slice ac D.cache.length cc, .slice b3 D.vols.length dap3, .int .i64 (lessF D.fuel)] 34) := ⟨_, rfl⟩
  have h31 : Below w3.heap.size w3 W1 := by rw [hW1]; exact bl1 _ _
  have hout : Row W1 w3.heap.size 34 [.slice b1 D.safe.length dap1, .slice ac D.cache.length cc, .slice b3 D.vols.length dap3, .int .i64 (lessF D.fuel)] := by rw [hW1]; exact Row.new _ _ _
  rw [← hW1]
  clear hW1
  have HR1 := hide (hR.up h31)
  have HO1 := hide (hO.up h31)
  have HOC := hide (own_up hoc h31)
  have HOI := hide (hoi.imp fun _ _ q => q.up h31)
  have HOUT := hide hout
  have hol := hout.lt
  have o1 := hout.cell 1 _ rfl
  have hne : (Value.slice ac D.cache.length cc).ownBlock ≠ some w3.heap.size := own_apart (own_up hoc h31) hout (by decide)
  have HNE := hide hne
  have HB1 := hide ((unhide HBT).up (bl_trans hb0 h31))
  obtain ⟨nc, hnc⟩ : ∃ nc, D.cache.length = nc := ⟨_, rfl⟩
  rw [hnc] at HOC HO1 HNE o1 HOUT hcl hcn hC ⊢
  have HNC := hide hnc
  clear hnc hne hO hoc hoi hR hout hb3
  obtain ⟨i1, hi1, hy0, hy1, hy2⟩ := info_parts infoWr
  have KC := hide fun (w' : World) (hb : Below W1.heap.size W1 w') => cell_up hb o1
  go_region_law ((first
    | (go_simp; go_at_call 51; refine (copyBytes_any _ xs 64 _ (by exact (unhide HB1).up (Below.refl _ _).drew) (by decide)).mono ?_; rintro e w4 ⟨rfl, hblk, hb4⟩; have hb14 : Below W1.heap.size W1 w4 := un_drew hb4; have hs14 := hb14.size; have hl4 : w3.heap.size < w4.heap.size := Nat.lt_of_lt_of_le hol hs14; have o4 := unhide KC w4 hb14; have z4 := ((unhide HOUT).up hb14).unfrozen 1; dsimp only)
    | (refine step_append_lies _ (by rfl) _ _ _ (by rfl) w2.heap.size 90 i1 _ 2 32 Try.underlying31 hi1 hy0 hy1 hy2 rfl (by omega) (.slice ac nc cc) nc us (by rfl) ((own_up (unhide HOC) hb14).alloc _) ⟨w4.heap.size, 0, none⟩ 1 1 [.int .i64 x, .slice (some ⟨W1.heap.size, 0, none⟩) 64 64] (by rfl) (by rfl) (World.news_of_block (cs := #[.int .i64 x, .slice (some ⟨W1.heap.size, 0, none⟩) 64 64]) (t := 90) (fr := (0, 0)) (heap_alloc_new w4 _)) (by simp [Value.oneCell']) (by omega) (by unfold maxLen; omega) (by omega) (by simp; omega) (w4.heap.size + 1) (by simp) ?_; intro g cap w5 hown5 hgrow hat hlt5; have hc5 := (hgrow.cell_far ⟨w3.heap.size, 1, none⟩ (by simp; omega) (Ne.symm (unhide HNE))).trans ((World.cell?_alloc_past _ _ _ (Nat.lt_of_lt_of_le hol hs14)).trans o4); have hf5 := (hgrow.frozen_far ⟨w3.heap.size, 1, none⟩ (by simp; omega) (Ne.symm (unhide HNE))).trans ((World.frozen?_alloc_past _ _ _ (Nat.lt_of_lt_of_le hol hs14)).trans z4))))
  all_goals
    have hbw : Below W1.heap.size W1 (w4.alloc (.cells #[.int .i64 x, .slice (some ⟨W1.heap.size, 0, none⟩) 64 64] 90)) := bl_trans hb14 (bl1 _ _)
    have hnr := own_apart (unhide HOC) (unhide HR1) (by decide)
    have hout5 := ((unhide HOUT).up hbw).kept hgrow (Ne.symm (unhide HNE))
    have hres5 := ((unhide HR1).up hbw).kept hgrow (Ne.symm hnr)
    have hby : Own w4 w2.heap.size (.slice (some ⟨W1.heap.size, 0, none⟩) 64 64) (pad 64 xs) := by
      have := Blk.own hblk (by rw [pad_length]; decide) (B := w2.heap.size) (by have := h31.size; simp; omega)
      rw [pad_length] at this
      exact this
    have hO5 := ODev.wrote (y := ⟨x, pad 64 xs⟩) ((unhide HO1).up hbw) (by rw [unhide HNC]; exact own_up (unhide HOC) hbw) ((unhide HOI).imp fun _ _ q => q.up hbw) hgrow (by rw [unhide HNC]; exact hown5) (hby.up (bl1 _ _))
    have e0 := hout5.cell 0 _ rfl
    have e2 := hout5.cell 2 _ rfl
    have e3 := hout5.cell 3 _ rfl
    have d0 := hres5.cell 0 _ rfl
    have d1 := hres5.cell 1 _ rfl
    have d2 := hres5.cell 2 _ rfl
    have d3 := hres5.cell 3 _ rfl
    have df := hres5.unfrozen
    have hrl := (unhide HR1).lt
    have hrne : w.heap.size + 1 + 1 ≠ w3.heap.size := by have := (unhide HR).lt; omega
    have HO5 := hide hO5
    have HOUT5 := hide hout5
    have HRES5 := hide hres5
    have HGR := hide hgrow
    have HBW := hide hbw
    clear hO5 hout5 hres5 hgrow hown5 hat hnr hby
    have HOJ := hide fun j hj => ((unhide HOC).lt j hj).1
    have HB5 := hide (bl_own (bl_trans (bl_trans hb0 h31) (unhide HBW)) (unhide HGR) fun j hj => Nat.le_trans hsz2 (unhide HOJ j hj))
    go_wp2
    refine bodyPost_ret (v := .tuple #[.agg #[.slice b1 D.safe.length dap1, .slice (some ⟨g, 0, none⟩) (nc + 1) cap, .slice b3 D.vols.length dap3, .int .i64 (lessF D.fuel)], .int .i64 0]) (by simp [results, Try.results46, go_sem, *]) rfl ⟨_, _, _, ret_dev (by rw [← unhide HE, putD_ok]) (unhide HE), ?_, ?_⟩
    · rw [← unhide HE, putD_ok]
      have hres6 := (unhide HRES5).kept (gb_set (gb_refl w5 (some w3.heap.size)) 1 (.slice (some ⟨g, 0, none⟩) (nc + 1) cap)) (by simpa using hrne)
      have k1 := ((unhide HO5).fuel (lessF D.fuel)).kept (unhide HOUT5) (by decide) (by decide) (by decide) (by decide) (gb_set (gb_refl w5 (some w3.heap.size)) 1 (.slice (some ⟨g, 0, none⟩) (nc + 1) cap))
      exact (k1.kept hres6 (by decide) (by decide) (by decide) (by decide) (gb_set (gb_set (gb_set (gb_set (gb_refl _ _) _ _) _ _) _ _) _ _)).base hsz2
    · have hq := hb0.size
      refine bl_set (bl_set (bl_set (bl_set (bl_set (unhide HB5) ?_ _) ?_ _) ?_ _) ?_ _) ?_ _ <;> simp <;> omega
end Go.Proofs.Ytjaedigjmgfakaa
