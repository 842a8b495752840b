/- icehouseref.PutOf. -/
import Derived.Test.YtjahaccplchmnaaPut
namespace Go.Proofs.Ytjahaccplchmnaa
open Go.RowKit
set_option maxRecDepth 100000
set_option linter.unusedVariables false
set_option linter.unusedSimpArgs false

theorem pad_zero (m : Nat) : pad m [] = List.replicate m 0 := by simp [pad]
theorem pad_set {m k : Nat} {xs : List Int} (hk : k < xs.length) (hm : xs.length ≤ m) : (pad m (xs.take k)).set k (xs.getD k 0) = pad m (xs.take (k + 1)) := by
  apply List.ext_getElem?
  intro i
  have e1 : (xs.take k).take m = xs.take k := List.take_of_length_le (by simp; omega)
  have e2 : (xs.take (k + 1)).take m = xs.take (k + 1) := List.take_of_length_le (by simp; omega)
  have l1 : (xs.take k).length = k := by simp; omega
  have l2 : (xs.take (k + 1)).length = k + 1 := by simp; omega
  unfold pad
  rw [e1, e2, l1, l2]
  by_cases h1 : i < k
  · rw [List.getElem?_set_ne (by omega), List.getElem?_append_left (by omega), List.getElem?_append_left (by omega), List.getElem?_take, List.getElem?_take, if_pos h1, if_pos (by omega)]
  by_cases h2 : i = k
  · subst h2
    rw [List.getElem?_set_self (by simp; omega), List.getElem?_append_left (by omega), List.getElem?_take, if_pos (by omega)]
    simp [List.getD, hk]
  · rw [List.getElem?_set_ne (by omega), List.getElem?_append_right (by omega), List.getElem?_append_right (by omega), l1, l2, List.getElem?_replicate, List.getElem?_replicate]
    by_cases h3 : i < m
    · rw [if_pos (by omega), if_pos (by omega)]
    · rw [if_neg (by omega), if_neg (by omega)]
theorem u8s_set (xs : List Int) (k : Nat) (z : Int) : (u8s xs).set k (.int .u8 z) = u8s (xs.set k z) := by simp [u8s, List.map_set]
theorem Blk.set {w : World} {g : Nat} {xs : List Int} (h : Blk w g xs) (k : Nat) (z : Int) : Blk (w.setCell ⟨g, k, none⟩ (.int .u8 z)) g (xs.set k z) := by
  have := Row.set (w := w) (t := 5) h k (.int .u8 z)
  rw [u8s_set] at this
  exact this
theorem u8s_rep (m : Nat) : u8s (List.replicate m 0) = List.replicate m (Value.int .u8 0) := by simp [u8s]

attribute [local go_sem ↓] Go.wp_at_zero Go.wp_at_succ
set_option maxHeartbeats 1000000 in
theorem putOf_any (r a h vm nv : Int) (s c v : Value) (D : Dv) (x : Int) (bv : Value) (xs : List Int) (w : World) (hD : Dev w s c v D) (hB : Bts w bv xs) :
    Calls Try.prog 88 #[.agg #[.int .i64 r, .int .i64 a, .int .i64 h, .int .i64 vm, .int .i64 nv], .agg #[s, c, v, .int .i64 D.fuel], .int .i64 x, bv] w fun e w' =>
      ∃ s' c' v', e = .returned (.tuple #[.agg #[s', c', v', .int .i64 (putD D x xs (putE D x xs.length (chkE r a h vm nv D))).fuel], .int .i64 (putE D x xs.length (chkE r a h vm nv D))]) ∧ ODev w' w.heap.size s' c' v' (putD D x xs (putE D x xs.length (chkE r a h vm nv D))) ∧ Below w.heap.size w w' := by
  have HD := hide hD
  have HBT := hide hB
  obtain ⟨ab, capb, rfl, lb, mb, _⟩ := hB
  obtain ⟨L, hL⟩ : ∃ L, xs.length = L := ⟨_, rfl⟩
  have HL := hide hL
  rw [hL] at lb HBT ⊢
  clear hL
  unfold maxLen at mb
  obtain ⟨⟨a1, cap1, rfl, l1, m1, hs⟩, ⟨a2, cap2, rfl, l2, m2, hc⟩, ⟨a3, cap3, rfl, l3, m3, hv⟩⟩ := hD
  clear hs hc hv
  unfold maxLen at m1 m2 m3
  go_enter Try.func88, Try.ntmps88
  go_wp2_with fail
  refine (devFault_any r a h vm nv _ _ _ D _ ((unhide HD).up (bl3 _ _ _ _))).mono ?_
  rintro e w1 ⟨rfl, hb1⟩
  have hb0 : Below w.heap.size w w1 := bl_trans (bl3 _ _ _ _) hb1
  have f0 := box3b hb1 0 rfl
  have f1 := box3b hb1 1 rfl
  have f2 := box3b hb1 2 rfl
  have f3 := box3b hb1 3 rfl
  have hR := box3r (cs := [.slice none 0 0, .slice none 0 0, .slice none 0 0, .int .i64 0]) hb1
  have d0 := hR.cell 0 _ rfl
  have d1 := hR.cell 1 _ rfl
  have d2 := hR.cell 2 _ rfl
  have d3 := hR.cell 3 _ rfl
  have df := hR.unfrozen
  have HR := hide hR
  clear hb1 hR
  obtain ⟨E, hE⟩ : ∃ E, chkE r a h vm nv D = E := ⟨_, rfl⟩
  rw [hE]
  by_cases hE0 : E = 0
  case neg =>
    have t1 : (E != 0) = true := by simpa using hE0
    have t2 : (E == 0) = false := by simpa using hE0
    have HE : Hid (E = putE D x L (chkE r a h vm nv D)) := by rw [hE]; exact (putE_bad hE0).symm
    have HE0 := hide hE0
    clear hE hE0
    go_wp2
    refine bodyPost_ret (v := .tuple #[.agg #[.slice none 0 0, .slice none 0 0, .slice none 0 0, .int .i64 0], .int .i64 E]) (by simp [results, Try.results88, go_sem, *]) rfl ⟨_, _, _, ret_dev (by rw [← unhide HE, putD_bad (unhide HE0)]; rfl) (unhide HE), ?_, ?_⟩
    · rw [← unhide HE, putD_bad (unhide HE0)]; exact ODev.empty _ _ _
    · repeat (first | exact hb0 | refine bl_set ?_ (by simp <;> omega) _)
  subst hE0
  obtain ⟨hg, hd⟩ := chk_of hE
  have HFIT := hide (fits_of hg hd)
  have HFU := hide (fuel_of hd)
  have hcl := cache_of hd
  have HCH := hide hE
  clear hE hd hg
  go_wp2_with fail
  refine (in_any _ _ _ _).mono ?_
  rintro e w' ⟨rfl, rfl⟩
  cases hV : inB x 0 ((D.safe.length : Int) - 1)
  case false =>
    have HE : Hid (2 = putE D x L (chkE r a h vm nv D)) := by rw [unhide HCH]; exact (putE_at hV).symm
    clear hV
    go_wp2
    refine bodyPost_ret (v := .tuple #[.agg #[.slice none 0 0, .slice none 0 0, .slice none 0 0, .int .i64 0], .int .i64 2]) (by simp [results, Try.results88, go_sem, *]) rfl ⟨_, _, _, ret_dev (by rw [← unhide HE, putD_bad (by decide)]; rfl) (unhide HE), ?_, ?_⟩
    · rw [← unhide HE, putD_bad (by decide)]; exact ODev.empty _ _ _
    · repeat (first | refine bl_set ?_ (by simp <;> omega) _ | refine bl_alloc ?_ _ | exact hb0)
  by_cases hS : 64 < L
  · have HE : Hid (1 = putE D x L (chkE r a h vm nv D)) := by rw [unhide HCH]; exact (putE_size hV hS).symm
    clear hV
    go_wp2
    refine bodyPost_ret (v := .tuple #[.agg #[.slice none 0 0, .slice none 0 0, .slice none 0 0, .int .i64 0], .int .i64 1]) (by simp [results, Try.results88, go_sem, *]) rfl ⟨_, _, _, ret_dev (by rw [← unhide HE, putD_bad (by decide)]; rfl) (unhide HE), ?_, ?_⟩
    · rw [← unhide HE, putD_bad (by decide)]; exact ODev.empty _ _ _
    · repeat (first | refine bl_set ?_ (by simp <;> omega) _ | refine bl_alloc ?_ _ | exact hb0)
  by_cases hC : 2000 ≤ D.cache.length
  · have HE : Hid (8 = putE D x L (chkE r a h vm nv D)) := by rw [unhide HCH]; exact (putE_full hV hS hC).symm
    have hC' : D.cache.length = 2000 := by omega
    rw [hC'] at f1 ⊢
    clear hV hC hC' hcl l2
    go_wp2
    refine bodyPost_ret (v := .tuple #[.agg #[.slice none 0 0, .slice none 0 0, .slice none 0 0, .int .i64 0], .int .i64 8]) (by simp [results, Try.results88, go_sem, *]) rfl ⟨_, _, _, ret_dev (by rw [← unhide HE, putD_bad (by decide)]; rfl) (unhide HE), ?_, ?_⟩
    · rw [← unhide HE, putD_bad (by decide)]; exact ODev.empty _ _ _
    · repeat (first | refine bl_set ?_ (by simp <;> omega) _ | refine bl_alloc ?_ _ | exact hb0)
  have hcn : ¬ D.cache.length = 2000 := by omega
  by_cases hF0 : D.fuel = 0
  · have HE : Hid (10 = putE D x L (chkE r a h vm nv D)) := by rw [unhide HCH]; exact (putE_down hV hS hC hF0).symm
    have HF0 := hide hF0
    clear hV hF0
    go_wp2_with fail
    refine (spent_zero _ _ _ D _ (unhide HF0)).mono ?_
    rintro e w3 ⟨rfl, hb3⟩
    replace hb0 := bl_trans hb0 hb3
    have hR := (unhide HR).up hb3
    clear d0 d1 d2 d3 df
    have d0 := hR.cell 0 _ rfl
    have d1 := hR.cell 1 _ rfl
    have d2 := hR.cell 2 _ rfl
    have d3 := hR.cell 3 _ rfl
    have df := hR.unfrozen
    have hrl := hR.lt
    clear hR hb3 f0 f1 f2 f3
    go_wp2
    refine bodyPost_ret (v := .tuple #[.agg #[.slice none 0 0, .slice none 0 0, .slice none 0 0, .int .i64 0], .int .i64 10]) (by simp [results, Try.results88, go_sem, *]) rfl ⟨_, _, _, ret_dev (by rw [← unhide HE, putD_bad (by decide)]; rfl) (unhide HE), ?_, ?_⟩
    · rw [← unhide HE, putD_bad (by decide)]; exact ODev.empty _ _ _
    · repeat (first | refine bl_set ?_ (by simp <;> omega) _ | refine bl_alloc ?_ _ | exact hb0)
  have HE : Hid (0 = putE D x L (chkE r a h vm nv D)) := by rw [unhide HCH]; exact (putE_ok hV hS hC hF0).symm
  have HF0 := hide hF0
  clear hV hF0
  go_wp2_with fail
  refine (spent_some _ _ _ D _ ((unhide HD).up hb0) (unhide HFIT) (unhide HF0) (unhide HFU).1 (unhide HFU).2).mono ?_
  rintro e w3 ⟨s', c', v', rfl, hO, hb3⟩
  have hsz2 := hb0.size
  have hsz3 := hb3.size
  replace hb0 := bl_trans hb0 hb3
  have hod := hO.dev
  obtain ⟨⟨b1, dap1, rfl, _⟩, _, ⟨b3, dap3, rfl, _⟩⟩ := hod
  obtain ⟨us, hoc, hoi⟩ := hO.cache
  obtain ⟨ac, cc, rfl, _, _⟩ := own_form hoc
  have hR := (unhide HR).up hb3
  clear d0 d1 d2 d3 df f0 f1 f2 f3
  obtain ⟨i0, hi, hz0, hz1, hz2⟩ := info_parts infoU8
  have hmk : ∀ u : World, (Instr.makeSlice 37 (.int .i64 64) (.int .i64 64)).run Try.prog u =
      .ok (.slice (some ⟨u.heap.size, 0, none⟩) 64 64) (u.alloc (.cells (u8s (pad 64 (xs.take 0))).toArray 5)) := fun u => by
    have h := run_make (P := Try.prog) u 37 5 i0 (.int .u8 0) Try.underlying37 hi hz0 .i64 .i64 64 64 (by omega) (Int.le_refl _) (by rw [hz2]; omega) (by omega)
    rw [List.take_zero, pad_zero, u8s_rep, ← made_u8]
    simpa [hz1, Value.cells] using h
  obtain ⟨W1, hW1⟩ : ∃ W1, W1 = w3.alloc (.cells #[.slice b1 D.safe.length dap1, .slice ac D.cache.length cc, .slice b3 D.vols.length dap3, .int .i64 (lessF D.fuel)] 28) := ⟨_, rfl⟩
  obtain ⟨Z, hZ⟩ : ∃ Z, Z = u8s (pad 64 (xs.take 0)) := ⟨_, rfl⟩
  rw [← hZ] at hmk
  have HZ := hide hZ
  clear hZ
  have h31 : Below w3.heap.size w3 W1 := by rw [hW1]; exact bl1 _ _
  have hs31 : W1.heap.size = w3.heap.size + 1 := by rw [hW1]; simp
  have hout : Row W1 w3.heap.size 28 [.slice b1 D.safe.length dap1, .slice ac D.cache.length cc, .slice b3 D.vols.length dap3, .int .i64 (lessF D.fuel)] := by rw [hW1]; exact Row.new _ _ _
  have HW1 := hide hW1
  clear hW1
  have HR1 := hide (hR.up h31)
  have HO1 := hide (hO.up h31)
  have HOC := hide (own_up hoc h31)
  have HOI := hide (hoi.imp fun _ _ q => q.up h31)
  have HOUT := hide hout
  have HB1 := hide ((unhide HBT).up (bl_trans hb0 h31))
  have HB01 := hide (bl_trans hb0 h31)
  have HS31 := hide hs31
  clear hO hoc hoi hR hout hs31
  obtain ⟨nc, hnc⟩ : ∃ nc, D.cache.length = nc := ⟨_, rfl⟩
  rw [hnc] at HOC HO1 HOUT hcl hcn hC HW1
  have HNC := hide hnc
  clear hnc
  go_wp2
  rw [unhide HNC]
  rw [← unhide HW1]
  obtain ⟨W2, hW2⟩ : ∃ W2, W2 = W1.alloc (.cells Z.toArray 5) := ⟨_, rfl⟩
  have h12 : Below W1.heap.size W1 W2 := by rw [hW2]; exact bl1 _ _
  have hblk : Blk W2 (w3.heap.size + 1) (pad 64 (xs.take 0)) := by rw [hW2, unhide HZ, ← unhide HS31]; exact Blk.new _ _
  rw [← hW2]
  clear hW2 hmk
  obtain ⟨i1, hi1, hy0, hy1, hy2⟩ := info_parts infoWr
  have hle1 : W1.heap.size ≤ w3.heap.size + 1 := by rw [unhide HS31]; exact Nat.le_refl _
  go_loopw [13] (fun i wr => ∃ k : Nat, k ≤ L ∧ i = .int .i64 k ∧ Blk wr (w3.heap.size + 1) (pad 64 (xs.take k)) ∧ W2.grownBy wr (some (w3.heap.size + 1))) (fun i _ => L - (intOf i).toNat)
  case atStart => exact ⟨0, Nat.zero_le _, rfl, hblk, gb_refl _ _⟩
  case round =>
    obtain ⟨k, hk, rfl, hbk, hgb⟩ := hrel
    have hbr : Below W1.heap.size W1 wr := bl_gb h12 hgb hle1
    by_cases hlt : k < L
    · have hlx : k < xs.length := by rw [unhide HL]; exact hlt
      obtain ⟨aa, cap', e, _, _, hcc⟩ := (unhide HB1).up hbr
      injection e with e1 e2 e3
      obtain ⟨b, o, hab, hcell⟩ := hcc k hlx
      rw [← e1] at hab
      subst hab
      obtain ⟨z, hz⟩ : ∃ z, xs.getD k 0 = z := ⟨_, rfl⟩
      rw [hz] at hcell
      have hold := hbk.cell k (by rw [pad_length]; omega)
      obtain ⟨y, hy⟩ : ∃ y, (pad 64 (xs.take k)).getD k 0 = y := ⟨_, rfl⟩
      rw [hy] at hold
      have hfz := Row.unfrozen (w := wr) hbk k
      have HBN : Hid (Blk (wr.setCell ⟨w3.heap.size + 1, k, none⟩ (.int .u8 z)) (w3.heap.size + 1) (pad 64 (xs.take (k + 1)))) := by
        have := hbk.set k z
        rw [← hz, pad_set hlx (by rw [unhide HL]; omega), hz] at this
        exact this
      have hbl := World.block_lt_of_cell? wr _ hcell
      have hbl2 := hbk.lt
      clear e1 e2 e3 hcc hz hy hbk
      go_wp2
      go_roundw
      case rel => exact ⟨k + 1, by omega, by go_num, unhide HBN, gb_set hgb _ _⟩
      case measure => simp [intOf]; omega
    · obtain rfl : k = L := by omega
      rw [List.take_of_length_le (by rw [unhide HL]; exact Nat.le_refl _)] at hbk
      have hout := (unhide HOUT).up hbr
      have hol := hout.lt
      have o1 := hout.cell 1 _ rfl
      have z1 := hout.unfrozen 1
      have hne : (Value.slice ac nc cc).ownBlock ≠ some w3.heap.size := own_apart (own_up (unhide HOC) hbr) hout (by decide)
      have HNE := hide hne
      have HBK := hide hbk
      have HO2 := hide (own_up (unhide HOC) hbr)
      have hsr := hbr.size
      clear hout hne hbk
      go_wp2_with (at_builtin; refine wpList_append_lies _ rfl (.tmp 71) (.tmp 75) 25 rfl w1.heap.size 69 i1 _ 2 32 Try.underlying25 hi1 hy0 hy1 hy2 rfl (by omega) (.slice ac nc cc) nc us rfl ((unhide HO2).alloc _) ⟨wr.heap.size, 0, none⟩ 1 1 [.int .i64 x, .slice (some ⟨w3.heap.size + 1, 0, none⟩) 64 64] rfl rfl ?c1 ?c2 (by omega) ?c3 ?c4 ?c5 (wr.heap.size + 1) (by simp) ?_)
      case c1 => exact World.news_of_block (cs := #[.int .i64 x, .slice (some ⟨w3.heap.size + 1, 0, none⟩) 64 64]) (t := 69) (fr := (0, 0)) (heap_alloc_new wr _)
      case c2 => simp [Value.oneCell']
      case c3 => unfold maxLen; omega
      case c4 => omega
      case c5 => have := h31.size; simp; omega
      intro g cap w5 hown5 hgrow hat hlt5
      have hbw : Below W1.heap.size W1 (wr.alloc (.cells #[.int .i64 x, .slice (some ⟨w3.heap.size + 1, 0, none⟩) 64 64] 69)) := bl_trans hbr (bl1 _ _)
      have hnr := own_apart (unhide HOC) (unhide HR1) (by decide)
      have hout5 := ((unhide HOUT).up hbw).kept hgrow (Ne.symm (unhide HNE))
      have hres5 := ((unhide HR1).up hbw).kept hgrow (Ne.symm hnr)
      have hby : Own wr w1.heap.size (.slice (some ⟨w3.heap.size + 1, 0, none⟩) 64 64) (pad 64 xs) := by
        have := Blk.own (unhide HBK) (by rw [pad_length]; decide) (B := w1.heap.size) (by omega)
        rw [pad_length] at this
        exact this
      have hO5 := ODev.wrote (y := ⟨x, pad 64 xs⟩) ((unhide HO1).up hbw) (by rw [unhide HNC]; exact own_up (unhide HOC) hbw) ((unhide HOI).imp fun _ _ q => q.up hbw) hgrow (by rw [unhide HNC]; exact hown5) (hby.up (bl1 _ _))
      have c5 := hout5.cell 1 _ rfl
      have z5 := hout5.unfrozen 1
      have e0 := hout5.cell 0 _ rfl
      have e2 := hout5.cell 2 _ rfl
      have e3 := hout5.cell 3 _ rfl
      have d0 := hres5.cell 0 _ rfl
      have d1 := hres5.cell 1 _ rfl
      have d2 := hres5.cell 2 _ rfl
      have d3 := hres5.cell 3 _ rfl
      have df := hres5.unfrozen
      have hrl := (unhide HR1).lt
      have hrne : w.heap.size + 1 + 1 ≠ w3.heap.size := by have := (unhide HR).lt; omega
      have HO5 := hide hO5
      have HOUT5 := hide hout5
      have HRES5 := hide hres5
      have HGR := hide hgrow
      have HBW := hide hbw
      have HOJ := hide fun j hj => ((unhide HOC).lt j hj).1
      have HB5 := hide (bl_own (bl_trans (unhide HB01) hbw) hgrow fun j hj => Nat.le_trans hsz2 (unhide HOJ j hj))
      clear hO5 hout5 hres5 hgrow hown5 hat hnr hby hbw
      go_wp2
      refine bodyPost_ret (v := .tuple #[.agg #[.slice b1 D.safe.length dap1, .slice (some ⟨g, 0, none⟩) (nc + 1) cap, .slice b3 D.vols.length dap3, .int .i64 (lessF D.fuel)], .int .i64 0]) (by simp [results, Try.results88, go_sem, *]) rfl ⟨_, _, _, ret_dev (by rw [← unhide HE, putD_ok]) (unhide HE), ?_, ?_⟩
      · rw [← unhide HE, putD_ok]
        have hres6 := (unhide HRES5).kept (gb_set (gb_refl w5 (some w3.heap.size)) 1 (.slice (some ⟨g, 0, none⟩) (nc + 1) cap)) (by simpa using hrne)
        have k1 := ((unhide HO5).fuel (lessF D.fuel)).kept (unhide HOUT5) (by decide) (by decide) (by decide) (by decide) (gb_set (gb_refl w5 (some w3.heap.size)) 1 (.slice (some ⟨g, 0, none⟩) (nc + 1) cap))
        exact (k1.kept hres6 (by decide) (by decide) (by decide) (by decide) (gb_set (gb_set (gb_set (gb_set (gb_refl _ _) _ _) _ _) _ _) _ _)).base hsz2
      · have hq := hb0.size
        refine bl_set (bl_set (bl_set (bl_set (bl_set (unhide HB5) ?_ _) ?_ _) ?_ _) ?_ _) ?_ _ <;> simp <;> omega
end Go.Proofs.Ytjahaccplchmnaa
