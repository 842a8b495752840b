/- icehouseref.DevCopy. -/
import Derived.Test.YtjahaccplchmnaaFit
import Derived.Deep.DeepCutAuto
namespace Go.Proofs.Ytjahaccplchmnaa
open Go.RowKit
set_option linter.unusedVariables false
set_option linter.unusedSimpArgs false

theorem take_push {α : Type} (xs : List α) (d : α) (k : Nat) (h : k < xs.length) : xs.take (k + 1) = xs.take k ++ [xs.getD k d] := by
  rw [List.take_succ_eq_append_getElem h]; simp [List.getD, h]

theorem gb_own {a b c : World} {R r : Option Nat} (h : a.grownBy b R) (hg : b.grownBy c r) (hr : ∀ j, r = some j → a.heap.size ≤ j) : a.grownBy c R :=
  ⟨hg.os.trans h.os, hg.tape.trans h.tape, hg.output.trans h.output, Nat.le_trans h.size hg.size, fun k hk hne => (hg.block k (Nat.lt_of_lt_of_le hk h.size) (fun e => by have := hr k e.symm; omega)).trans (h.block k hk hne)⟩
theorem WrsIn.push {w w' : World} {B : Nat} {us : List Value} {xs : List Wr} (h : WrsIn w B us xs) (f : ∀ u ys, Own w B u ys → Own w' B u ys) {u : Value} {y : Wr} (hu : Own w' B u y.data) : WrsIn w' B (us ++ [.int .i64 y.pos, u]) (xs ++ [y]) := by
  have hl := h.1
  refine ⟨by simp [hl]; omega, fun i hi => ?_⟩
  simp at hi
  by_cases e : i = xs.length
  · subst e
    refine ⟨?_, u, ?_, ?_⟩
    · rw [List.getElem?_append_right (by omega), show xs.length * 2 - us.length = 0 by omega]; simp [List.getD]
    · rw [List.getElem?_append_right (by omega), show xs.length * 2 + 1 - us.length = 1 by omega]; simp
    · simpa [List.getD] using hu
  · obtain ⟨h0, v, h1, h2⟩ := h.2 i (by omega)
    rw [show (xs ++ [y]).getD i ⟨0, []⟩ = xs.getD i ⟨0, []⟩ by simp [List.getD, List.getElem?_append_left (show i < xs.length by omega)]]
    exact ⟨by rw [List.getElem?_append_left (by omega)]; exact h0, v, by rw [List.getElem?_append_left (by omega)]; exact h1, f _ _ h2⟩
theorem VosIn.push {w w' : World} {B : Nat} {us : List Value} {xs : List Vo} (h : VosIn w B us xs) (f : ∀ u ys, Own w B u ys → Own w' B u ys) {u : Value} {y : Vo} (hu : Own w' B u y.data) : VosIn w' B (us ++ [u, .int .i64 y.synced, .bool y.gone]) (xs ++ [y]) := by
  have hl := h.1
  refine ⟨by simp [hl]; omega, fun i hi => ?_⟩
  simp at hi
  by_cases e : i = xs.length
  · subst e
    refine ⟨⟨u, ?_, ?_⟩, ?_, ?_⟩
    · rw [List.getElem?_append_right (by omega), show xs.length * 3 - us.length = 0 by omega]; simp
    · simpa [List.getD] using hu
    · rw [List.getElem?_append_right (by omega), show xs.length * 3 + 1 - us.length = 1 by omega]; simp [List.getD]
    · rw [List.getElem?_append_right (by omega), show xs.length * 3 + 2 - us.length = 2 by omega]; simp [List.getD]
  · obtain ⟨⟨v, h1, h2⟩, h3, h4⟩ := h.2 i (by omega)
    rw [show (xs ++ [y]).getD i ⟨[], 0, false⟩ = xs.getD i ⟨[], 0, false⟩ by simp [List.getD, List.getElem?_append_left (show i < xs.length by omega)]]
    exact ⟨⟨v, by rw [List.getElem?_append_left (by omega)]; exact h1, f _ _ h2⟩, by rw [List.getElem?_append_left (by omega)]; exact h3, by rw [List.getElem?_append_left (by omega)]; exact h4⟩

attribute [local go_sem ↓] Go.wp_at_zero Go.wp_at_succ
set_option maxHeartbeats 6000000 in
set_option maxRecDepth 100000 in
theorem devCopy_any (s c v : Value) (D : Dv) (F : Int) (w : World) (hD : Dev w s c v D) (hfit : Fits D) :
    Calls Try.prog 16 #[.agg #[s, c, v, .int .i64 F]] w fun e w' =>
      ∃ s' c' v', e = .returned (.agg #[s', c', v', .int .i64 F]) ∧ ODev w' w.heap.size s' c' v' D ∧ Below w.heap.size w w' := by
  obtain ⟨⟨a1, cap1, rfl, l1, m1, hs⟩, ⟨a2, cap2, rfl, l2, m2, hc⟩, ⟨a3, cap3, rfl, l3, m3, hv⟩⟩ := hD
  obtain ⟨ft1, ft2, ft3, ft4, ft5, ft6⟩ := hfit
  unfold maxLen at m1 m2 m3
  have HS := hide hs
  have HC := hide hc
  have HV := hide hv
  have F4 := hide ft4
  have F5 := hide ft5
  have F6 := hide ft6
  clear hs hc hv ft4 ft5 ft6
  obtain ⟨ns, hns⟩ : ∃ n, D.safe.length = n := ⟨_, rfl⟩
  obtain ⟨nc, hnc⟩ : ∃ n, D.cache.length = n := ⟨_, rfl⟩
  obtain ⟨nv, hnv⟩ : ∃ n, D.vols.length = n := ⟨_, rfl⟩
  rw [hns] at ft1 l1 HS F4 ⊢
  rw [hnc] at ft2 l2 HC F5 ⊢
  rw [hnv] at ft3 l3 HV F6 ⊢
  have NS := hide hns
  have NC := hide hnc
  have NV := hide hnv
  clear hns hnc hnv
  obtain ⟨i0, hi, hz0, hz1, hz2⟩ := info_parts infoBts
  obtain ⟨i1, hi1, hy0, hy1, hy2⟩ := info_parts infoWr
  obtain ⟨i2, hi2, hx0, hx1, hx2⟩ := info_parts infoVo
  go_enter Try.func16, Try.ntmps16
  go_wp2
  obtain ⟨W0, hW0⟩ : ∃ W0, W0 = ((w.alloc (.cells #[.slice a1 ns cap1, .slice a2 nc cap2, .slice a3 nv cap3, .int .i64 F] 28)).alloc (.cells #[.slice none 0 0, .slice none 0 0, .slice none 0 0, .int .i64 0] 28)).alloc (.cells #[.slice none 0 0, .slice none 0 0, .slice none 0 0, .int .i64 F] 28) := ⟨_, rfl⟩
  have hb0 : Below w.heap.size w W0 := by rw [hW0]; exact bl3 _ _ _ _
  have q0 : W0.cell? ⟨w.heap.size, 0, none⟩ = some (.slice a1 ns cap1) := box3a (by rw [← hW0]; exact Below.refl _ W0) 0 rfl
  have q1 : W0.cell? ⟨w.heap.size, 1, none⟩ = some (.slice a2 nc cap2) := box3a (by rw [← hW0]; exact Below.refl _ W0) 1 rfl
  have q2 : W0.cell? ⟨w.heap.size, 2, none⟩ = some (.slice a3 nv cap3) := box3a (by rw [← hW0]; exact Below.refl _ W0) 2 rfl
  have hsz0 : W0.heap.size = w.heap.size + 3 := by rw [hW0]; simp
  have HRO : Hid (Row W0 (w.heap.size + 1 + 1) 28 [.slice none 0 0, .slice none 0 0, .slice none 0 0, .int .i64 F]) := by
    show Row _ _ _ _
    rw [hW0]
    have := Row.new ((w.alloc (.cells #[.slice a1 ns cap1, .slice a2 nc cap2, .slice a3 nv cap3, .int .i64 F] 28)).alloc (.cells #[.slice none 0 0, .slice none 0 0, .slice none 0 0, .int .i64 0] 28)) 28 [.slice none 0 0, .slice none 0 0, .slice none 0 0, .int .i64 F]
    simpa using this
  have HRES : Hid (Row W0 (w.heap.size + 1) 28 [.slice none 0 0, .slice none 0 0, .slice none 0 0, .int .i64 0]) := by
    show Row _ _ _ _
    rw [hW0]
    have := (Row.new (w.alloc (.cells #[.slice a1 ns cap1, .slice a2 nc cap2, .slice a3 nv cap3, .int .i64 F] 28)) 28 [.slice none 0 0, .slice none 0 0, .slice none 0 0, .int .i64 0]).up (bl1 _ (.cells #[.slice none 0 0, .slice none 0 0, .slice none 0 0, .int .i64 F] 28))
    simpa using this
  rw [← hW0]
  clear hW0
  have HSZ0 := hide hsz0
  have hszl : w.heap.size + 2 < W0.heap.size := by omega
  clear hsz0
  go_loopw [4, 5] (fun i _ wr => ∃ k : Nat, k ≤ ns ∧ i = .int .i64 k ∧ ∃ u us, Row wr (w.heap.size + 1 + 1) 28 [u, .slice none 0 0, .slice none 0 0, .int .i64 F] ∧ wr.ownsRow W0.heap.size 37 1 u k us ∧ RowsIn wr W0.heap.size us (D.safe.take k) ∧ W0.grownBy wr (some (w.heap.size + 1 + 1))) (fun i _ _ => ns - (intOf i).toNat)
  case atStart => exact ⟨0, Nat.zero_le _, rfl, _, [], unhide HRO, World.ownsRow_nil _ _ _ _, ⟨rfl, fun j hj => absurd hj (Nat.not_lt_zero _)⟩, gb_refl _ _⟩
  case round =>
    obtain ⟨k, hk, rfl, u, us, hrow, hown, hin, hgb⟩ := hrel
    have hbr : Below w.heap.size w wr := bl_gb hb0 hgb (by omega)
    have hq : ∀ j, wr.cell? ⟨w.heap.size, j, none⟩ = W0.cell? ⟨w.heap.size, j, none⟩ := fun j => hgb.cell_far ⟨w.heap.size, j, none⟩ (by simp; omega) (by simp; omega)
    have hszr := hgb.size
    by_cases hlt : k < ns
    · have r0 := (hq 0).trans q0
      clear hq
      obtain ⟨b, o, rfl, x, hx, hbx⟩ := unhide HS k hlt
      replace hx := cell_up hbr hx
      have HB := hide (hbx.up hbr)
      obtain ⟨y, cp, rfl, lx, mx, _⟩ := hbx
      obtain ⟨L, hL⟩ : ∃ L : Nat, (D.safe.getD k []).length = L := ⟨_, rfl⟩
      have hLf : L ≤ 140737488355328 := by rw [← hL]; exact unhide F4 k hlt
      rw [hL] at hx lx HB
      have HL := hide hL
      have HROW := hide hrow
      have HOWN := hide hown
      have HIN := hide hin
      clear hL hrow hown hin mx
      go_wp2_with fail
      refine (joined_any _ [D.safe.getD k []] _ (RowsAt.one (unhide HB)) (by rw [List.flatten_cons, List.flatten_nil, List.append_nil, unhide HL]; exact hLf)).mono ?_
      rintro e w2 ⟨x', rfl, hjo, hb2⟩
      rw [List.flatten_cons, List.flatten_nil, List.append_nil] at hjo
      have hb12 : Below wr.heap.size wr w2 := bl_trans (bl1 _ _) hb2
      obtain ⟨ax, cx, hxf, _, _⟩ := own_form hjo
      rw [hxf] at hjo ⊢
      rw [unhide HL] at hxf hjo ⊢
      have HJO := hide hjo
      clear hjo hb2 hx hxf
      have hrow := (unhide HROW).up hb12
      have o0 := hrow.cell 0 _ rfl
      have z0 := hrow.unfrozen 0
      have hol := hrow.lt
      have hne : u.ownBlock ≠ some (w.heap.size + 1 + 1) := own_apart (own_up (unhide HOWN) hb12) hrow (by decide)
      have HNE := hide hne
      clear hrow hne
      go_wp2_with (at_builtin; refine wpList_append_lies _ rfl (.tmp 28) (.tmp 30) 24 rfl W0.heap.size 37 i0 (.slice none 0 0) 1 24 Try.underlying24 hi hz0 hz1 hz2 rfl (by omega) u k us rfl ((own_up (unhide HOWN) hb12).alloc _) ⟨w2.heap.size, 0, none⟩ 1 1 [.slice ax L cx] rfl rfl ?c1 ?c2 (by omega) ?c3 ?c4 ?c5 (w2.heap.size + 1) (by simp) ?_)
      case c1 => exact World.news_of_block (cs := #[.slice ax L cx]) (t := 37) (fr := (0, 0)) (heap_alloc_new w2 _)
      case c2 => intro q hq; simp at hq; subst hq; rfl
      case c3 => unfold maxLen; omega
      case c4 => omega
      case c5 => have := hb12.size; simp; omega
      intro g cap w3 hown3 hgrow hat hlt3
      have hbw2 : Below wr.heap.size wr (w2.alloc (.cells #[.slice ax L cx] 37)) := bl_trans hb12 (bl1 _ _)
      have hrow3 := ((unhide HROW).up hbw2).kept hgrow (Ne.symm (unhide HNE))
      have hc3 := hrow3.cell 0 _ rfl
      have hf3 := hrow3.unfrozen 0
      have HROW3 := hide hrow3
      have HOWN3 := hide hown3
      have HGR := hide hgrow
      clear hrow3 hown3 hgrow hat
      go_wp2
      go_roundw
      case rel =>
        have hgg := gb_set (gb_refl w3 (some (w.heap.size + 1 + 1))) 0 (.slice (some ⟨g, 0, none⟩) (k + 1) cap)
        refine ⟨k + 1, by omega, by go_num, _, _, (unhide HROW3).set 0 _, (unhide HOWN3).kept hgg (.inr (own_apart (unhide HOWN3) (unhide HROW3) (by decide))), ?_, gb_set (gb_own (gb_trans hgb (gb_below hbw2)) (unhide HGR) fun j hj => ((unhide HOWN).lt j hj).1) 0 _⟩
        rw [take_push D.safe [] k (by rw [unhide NS]; exact hlt)]
        have ho2 := own_up (unhide HOWN) hbw2
        exact ((unhide HIN).push (fun _ _ q => own_two (q.up hbw2) ho2 (by decide) (unhide HGR)) (own_two (((unhide HJO).up (bl1 _ _)).base (by simp; omega)) ho2 (by decide) (unhide HGR))).imp fun _ _ q => q.kept (unhide HROW3) (by decide) hgg
      case measure => simp [intOf]; omega
    · obtain rfl : k = ns := by omega
      have r0 := (hq 0).trans q0
      have r1 := (hq 1).trans q1
      have HROW := hide hrow
      obtain ⟨au, cu, hu, _, _⟩ := own_form hown
      subst hu
      have hin' : RowsIn wr W0.heap.size us D.safe := by rw [List.take_of_length_le (by rw [unhide NS]; exact Nat.le_refl _)] at hin; exact hin
      have HPART : Hid (∃ us0, wr.ownsRow W0.heap.size 37 1 (.slice au k cu) k us0 ∧ RowsIn wr W0.heap.size us0 D.safe) := ⟨us, hown, hin'⟩
      have HGB := hide hgb
      clear hrow hown hin hin' hq
      go_wp2
      go_loopw [6, 7] (fun i _ wx => ∃ k2 : Nat, k2 ≤ nc ∧ i = .int .i64 k2 ∧ ∃ u us, Row wx (w.heap.size + 1 + 1) 28 [.slice au k cu, u, .slice none 0 0, .int .i64 F] ∧ wx.ownsRow W0.heap.size 69 2 u k2 us ∧ WrsIn wx W0.heap.size us (D.cache.take k2) ∧ (∃ us0, wx.ownsRow W0.heap.size 37 1 (.slice au k cu) k us0 ∧ RowsIn wx W0.heap.size us0 D.safe) ∧ W0.grownBy wx (some (w.heap.size + 1 + 1))) (fun i _ _ => nc - (intOf i).toNat)
      case atStart => exact ⟨0, Nat.zero_le _, rfl, _, [], unhide HROW, World.ownsRow_nil _ _ _ _, ⟨rfl, fun j hj => absurd hj (Nat.not_lt_zero _)⟩, unhide HPART, unhide HGB⟩
      case round =>
        obtain ⟨k2, hk2, rfl, u, us, hrow, hown, hin, hpart, hgb2⟩ := hrel
        have hbr2 : Below w.heap.size w wr := bl_gb hb0 hgb2 (by omega)
        have hq : ∀ j, wr.cell? ⟨w.heap.size, j, none⟩ = W0.cell? ⟨w.heap.size, j, none⟩ := fun j => hgb2.cell_far ⟨w.heap.size, j, none⟩ (by simp; omega) (by simp; omega)
        have hszr2 := hgb2.size
        by_cases hlt2 : k2 < nc
        · have r1 := (hq 1).trans q1
          clear hq
          obtain ⟨b, o, rfl, hp, x, hx, hbx⟩ := unhide HC k2 hlt2
          replace hx := cell_up hbr2 hx
          replace hp := cell_up hbr2 hp
          have HB := hide (hbx.up hbr2)
          obtain ⟨y, cp, rfl, lx, mx, _⟩ := hbx
          obtain ⟨L, hL⟩ : ∃ L : Nat, (D.cache.getD k2 ⟨0, []⟩).data.length = L := ⟨_, rfl⟩
          obtain ⟨X, hX⟩ : ∃ X : Int, (D.cache.getD k2 ⟨0, []⟩).pos = X := ⟨_, rfl⟩
          have hLf : L ≤ 140737488355328 := by rw [← hL]; exact unhide F5 k2 hlt2
          rw [hL] at hx lx HB
          rw [hX] at hp
          have HL := hide hL
          have HX := hide hX
          have HROW := hide hrow
          have HOWN := hide hown
          have HIN := hide hin
          have HPART := hide hpart
          clear hL hX hrow hown hin mx hpart
          go_wp2_with fail
          refine (joined_any _ [(D.cache.getD k2 ⟨0, []⟩).data] _ (RowsAt.one (unhide HB)) (by rw [List.flatten_cons, List.flatten_nil, List.append_nil, unhide HL]; exact hLf)).mono ?_
          rintro e w2 ⟨x', rfl, hjo, hb2⟩
          rw [List.flatten_cons, List.flatten_nil, List.append_nil] at hjo
          have hb12 : Below wr.heap.size wr w2 := bl_trans (bl1 _ _) hb2
          obtain ⟨ax, cx, hxf, _, _⟩ := own_form hjo
          rw [hxf] at hjo ⊢
          rw [unhide HL] at hxf hjo ⊢
          have HJO := hide hjo
          replace hp := cell_up hb12 hp
          replace r1 := cell_up hb12 r1
          clear hjo hb2 hx hxf
          have hrow := (unhide HROW).up hb12
          have o1 := hrow.cell 1 _ rfl
          have z1 := hrow.unfrozen 1
          have hol := hrow.lt
          have hne : u.ownBlock ≠ some (w.heap.size + 1 + 1) := own_apart (own_up (unhide HOWN) hb12) hrow (by decide)
          have HNE := hide hne
          have hbl : b < w2.heap.size := World.block_lt_of_cell? w2 _ hp
          have hs2 := hb12.size
          have hk0 : (0 : Int) ≤ (k2 : Int) := Int.natCast_nonneg _
          have hk1 : (k2 : Int) < (nc : Int) := by omega
          have HO2 := hide (own_up (unhide HOWN) hb12)
          clear hrow hne
          go_wp2
          go_region_law ((refine step_append_lies _ (by rfl) _ _ _ (by rfl) W0.heap.size 69 i1 _ 2 32 Try.underlying25 hi1 hy0 hy1 hy2 rfl (by omega) u k2 us (by rfl) (((unhide HO2).alloc _).drew) ⟨w2.heap.size, 0, none⟩ 1 1 [.int .i64 X, .slice ax L cx] (by rfl) (by rfl) (World.news_of_block (cs := #[.int .i64 X, .slice ax L cx]) (t := 69) (fr := (0, 0)) (heap_alloc_new w2 _)) (by simp [Value.oneCell']) (by omega) (by unfold maxLen; omega) (by omega) (by simp; omega) (w2.heap.size + 1) (by simp) ?_; intro g cap w3 hown3 hgrow hat hlt3; have hc3 := (hgrow.cell_far ⟨w.heap.size + 1 + 1, 1, none⟩ (by simp; omega) (Ne.symm (unhide HNE))).trans ((World.cell?_alloc_past _ _ _ hol).trans o1); have hf3 := (hgrow.frozen_far ⟨w.heap.size + 1 + 1, 1, none⟩ (by simp; omega) (Ne.symm (unhide HNE))).trans ((World.frozen?_alloc_past _ _ _ hol).trans z1)))
          all_goals
            have hbw2 : Below wr.heap.size wr (w2.alloc (.cells #[.int .i64 X, .slice ax L cx] 69)).drew := (bl_trans hb12 (bl1 _ _)).drew
            have hrow3 := ((unhide HROW).up hbw2).kept hgrow (Ne.symm (unhide HNE))
            have HROW3 := hide hrow3
            have HOWN3 := hide hown3
            have HGR := hide hgrow
            clear hrow3 hown3 hgrow hat
            go_wp2
            go_roundw
            case rel =>
              have hgg := gb_set (gb_refl w3 (some (w.heap.size + 1 + 1))) 1 (.slice (some ⟨g, 0, none⟩) (k2 + 1) cap)
              have ho2 := own_up (unhide HOWN) hbw2
              obtain ⟨us0, hp1, hp2⟩ := unhide HPART
              refine ⟨k2 + 1, by omega, by go_num, _, _, (unhide HROW3).set 1 _, (unhide HOWN3).kept hgg (.inr (own_apart (unhide HOWN3) (unhide HROW3) (by decide))), ?_, ⟨us0, ?_, ?_⟩, gb_set (gb_own (gb_trans hgb2 (gb_below hbw2)) (unhide HGR) fun j hj => ((unhide HOWN).lt j hj).1) 1 _⟩
              · rw [take_push D.cache ⟨0, []⟩ k2 (by rw [unhide NC]; exact hlt2), ← unhide HX]
                exact ((unhide HIN).push (fun _ _ q => own_two (q.up hbw2) ho2 (by decide) (unhide HGR)) (own_two (((unhide HJO).up (bl1 _ _).drew).base (by simp; omega)) ho2 (by decide) (unhide HGR))).imp fun _ _ q => q.kept (unhide HROW3) (by decide) hgg
              · have := own_two (own_up hp1 hbw2) ho2 (by decide) (unhide HGR)
                exact this.kept hgg (.inr (own_apart this (unhide HROW3) (by decide)))
              · exact (hp2.imp fun _ _ q => own_two (q.up hbw2) ho2 (by decide) (unhide HGR)).imp fun _ _ q => q.kept (unhide HROW3) (by decide) hgg
            case measure => simp [intOf]; omega
        · obtain rfl : k2 = nc := by omega
          have r1 := (hq 1).trans q1
          have r2 := (hq 2).trans q2
          have HROW := hide hrow
          obtain ⟨av, cv, hv', _, _⟩ := own_form hown
          subst hv'
          have hin' : WrsIn wr W0.heap.size us D.cache := by rw [List.take_of_length_le (by rw [unhide NC]; exact Nat.le_refl _)] at hin; exact hin
          have HPART2 : Hid (∃ us0, wr.ownsRow W0.heap.size 69 2 (.slice av k2 cv) k2 us0 ∧ WrsIn wr W0.heap.size us0 D.cache) := ⟨us, hown, hin'⟩
          have HPART1 := hide hpart
          have HGB2 := hide hgb2
          clear hrow hown hin hin' hq hpart
          go_wp2
          go_loopw [8, 9] (fun i _ wx => ∃ k3 : Nat, k3 ≤ nv ∧ i = .int .i64 k3 ∧ ∃ u us, Row wx (w.heap.size + 1 + 1) 28 [.slice au k cu, .slice av k2 cv, u, .int .i64 F] ∧ wx.ownsRow W0.heap.size 71 3 u k3 us ∧ VosIn wx W0.heap.size us (D.vols.take k3) ∧ (∃ us0, wx.ownsRow W0.heap.size 37 1 (.slice au k cu) k us0 ∧ RowsIn wx W0.heap.size us0 D.safe) ∧ (∃ us0, wx.ownsRow W0.heap.size 69 2 (.slice av k2 cv) k2 us0 ∧ WrsIn wx W0.heap.size us0 D.cache) ∧ W0.grownBy wx (some (w.heap.size + 1 + 1))) (fun i _ _ => nv - (intOf i).toNat)
          case atStart => exact ⟨0, Nat.zero_le _, rfl, _, [], unhide HROW, World.ownsRow_nil _ _ _ _, ⟨rfl, fun j hj => absurd hj (Nat.not_lt_zero _)⟩, unhide HPART1, unhide HPART2, unhide HGB2⟩
          case round =>
            obtain ⟨k3, hk3, rfl, u, us, hrow, hown, hin, hpart1, hpart2, hgb3⟩ := hrel
            have hbr3 : Below w.heap.size w wr := bl_gb hb0 hgb3 (by omega)
            have hq : ∀ j, wr.cell? ⟨w.heap.size, j, none⟩ = W0.cell? ⟨w.heap.size, j, none⟩ := fun j => hgb3.cell_far ⟨w.heap.size, j, none⟩ (by simp; omega) (by simp; omega)
            have hszr3 := hgb3.size
            have r2 := (hq 2).trans q2
            clear hq
            by_cases hlt3 : k3 < nv
            · obtain ⟨b, o, rfl, ⟨x, hx, hbx⟩, hp, hgo⟩ := unhide HV k3 hlt3
              replace hx := cell_up hbr3 hx
              replace hp := cell_up hbr3 hp
              replace hgo := cell_up hbr3 hgo
              have HB := hide (hbx.up hbr3)
              obtain ⟨y, cp, rfl, lx, mx, _⟩ := hbx
              obtain ⟨L, hL⟩ : ∃ L : Nat, (D.vols.getD k3 ⟨[], 0, false⟩).data.length = L := ⟨_, rfl⟩
              obtain ⟨X, hX⟩ : ∃ X : Int, (D.vols.getD k3 ⟨[], 0, false⟩).synced = X := ⟨_, rfl⟩
              obtain ⟨G, hG⟩ : ∃ G : Bool, (D.vols.getD k3 ⟨[], 0, false⟩).gone = G := ⟨_, rfl⟩
              have hLf : L ≤ 140737488355328 := by rw [← hL]; exact unhide F6 k3 hlt3
              rw [hL] at hx lx HB
              rw [hX] at hp
              rw [hG] at hgo
              have HL := hide hL
              have HX := hide hX
              have HG := hide hG
              have HROW := hide hrow
              have HOWN := hide hown
              have HIN := hide hin
              have HPART1 := hide hpart1
              have HPART2 := hide hpart2
              clear hL hX hG hrow hown hin mx hpart1 hpart2
              go_wp2_with fail
              refine (joined_any _ [(D.vols.getD k3 ⟨[], 0, false⟩).data] _ (RowsAt.one (unhide HB)) (by rw [List.flatten_cons, List.flatten_nil, List.append_nil, unhide HL]; exact hLf)).mono ?_
              rintro e w2 ⟨x', rfl, hjo, hb2⟩
              rw [List.flatten_cons, List.flatten_nil, List.append_nil] at hjo
              have hb12 : Below wr.heap.size wr w2 := bl_trans (bl1 _ _) hb2
              obtain ⟨ax, cx, hxf, _, _⟩ := own_form hjo
              rw [hxf] at hjo ⊢
              rw [unhide HL] at hxf hjo ⊢
              have HJO := hide hjo
              replace hp := cell_up hb12 hp
              replace hgo := cell_up hb12 hgo
              replace r2 := cell_up hb12 r2
              clear hjo hb2 hx hxf
              have hrow := (unhide HROW).up hb12
              have o2 := hrow.cell 2 _ rfl
              have z2 := hrow.unfrozen 2
              have hol := hrow.lt
              have hne : u.ownBlock ≠ some (w.heap.size + 1 + 1) := own_apart (own_up (unhide HOWN) hb12) hrow (by decide)
              have HNE := hide hne
              have hbl : b < w2.heap.size := World.block_lt_of_cell? w2 _ hp
              have hs2 := hb12.size
              have hk0 : (0 : Int) ≤ (k3 : Int) := Int.natCast_nonneg _
              have hk1 : (k3 : Int) < (nv : Int) := by omega
              have HO2 := hide (own_up (unhide HOWN) hb12)
              clear hrow hne
              go_wp2
              go_region_law ((refine step_append_lies _ (by rfl) _ _ _ (by rfl) W0.heap.size 71 i2 _ 3 40 Try.underlying26 hi2 hx0 hx1 hx2 rfl (by omega) u k3 us (by rfl) (((unhide HO2).alloc _).drew) ⟨w2.heap.size, 0, none⟩ 1 1 [.slice ax L cx, .int .i64 X, .bool G] (by rfl) (by rfl) (World.news_of_block (cs := #[.slice ax L cx, .int .i64 X, .bool G]) (t := 71) (fr := (0, 0)) (heap_alloc_new w2 _)) (by simp [Value.oneCell']) (by omega) (by unfold maxLen; omega) (by omega) (by simp; omega) (w2.heap.size + 1) (by simp) ?_; intro g cap w3 hown3 hgrow hat hlt3'; have hc3 := (hgrow.cell_far ⟨w.heap.size + 1 + 1, 2, none⟩ (by simp; omega) (Ne.symm (unhide HNE))).trans ((World.cell?_alloc_past _ _ _ hol).trans o2); have hf3 := (hgrow.frozen_far ⟨w.heap.size + 1 + 1, 2, none⟩ (by simp; omega) (Ne.symm (unhide HNE))).trans ((World.frozen?_alloc_past _ _ _ hol).trans z2)))
              all_goals
                have hbw2 : Below wr.heap.size wr (w2.alloc (.cells #[.slice ax L cx, .int .i64 X, .bool G] 71)).drew := (bl_trans hb12 (bl1 _ _)).drew
                have hrow3 := ((unhide HROW).up hbw2).kept hgrow (Ne.symm (unhide HNE))
                have HROW3 := hide hrow3
                have HOWN3 := hide hown3
                have HGR := hide hgrow
                clear hrow3 hown3 hgrow hat
                go_wp2
                go_roundw
                case rel =>
                  have hgg := gb_set (gb_refl w3 (some (w.heap.size + 1 + 1))) 2 (.slice (some ⟨g, 0, none⟩) (k3 + 1) cap)
                  have ho2 := own_up (unhide HOWN) hbw2
                  obtain ⟨us0, hp1, hp2⟩ := unhide HPART1
                  obtain ⟨us1, hp3, hp4⟩ := unhide HPART2
                  refine ⟨k3 + 1, by omega, by go_num, _, _, (unhide HROW3).set 2 _, (unhide HOWN3).kept hgg (.inr (own_apart (unhide HOWN3) (unhide HROW3) (by decide))), ?_, ⟨us0, ?_, ?_⟩, ⟨us1, ?_, ?_⟩, gb_set (gb_own (gb_trans hgb3 (gb_below hbw2)) (unhide HGR) fun j hj => ((unhide HOWN).lt j hj).1) 2 _⟩
                  · rw [take_push D.vols ⟨[], 0, false⟩ k3 (by rw [unhide NV]; exact hlt3), ← unhide HX, ← unhide HG]
                    exact ((unhide HIN).push (fun _ _ q => own_two (q.up hbw2) ho2 (by decide) (unhide HGR)) (own_two (((unhide HJO).up (bl1 _ _).drew).base (by simp; omega)) ho2 (by decide) (unhide HGR))).imp fun _ _ q => q.kept (unhide HROW3) (by decide) hgg
                  · have := own_two (own_up hp1 hbw2) ho2 (by decide) (unhide HGR)
                    exact this.kept hgg (.inr (own_apart this (unhide HROW3) (by decide)))
                  · exact (hp2.imp fun _ _ q => own_two (q.up hbw2) ho2 (by decide) (unhide HGR)).imp fun _ _ q => q.kept (unhide HROW3) (by decide) hgg
                  · have := own_two (own_up hp3 hbw2) ho2 (by decide) (unhide HGR)
                    exact this.kept hgg (.inr (own_apart this (unhide HROW3) (by decide)))
                  · exact (hp4.imp fun _ _ q => own_two (q.up hbw2) ho2 (by decide) (unhide HGR)).imp fun _ _ q => q.kept (unhide HROW3) (by decide) hgg
                case measure => simp [intOf]; omega
            · obtain rfl : k3 = nv := by omega
              obtain ⟨aw, cw, hw', _, _⟩ := own_form hown
              subst hw'
              have hin' : VosIn wr W0.heap.size us D.vols := by rw [List.take_of_length_le (by rw [unhide NV]; exact Nat.le_refl _)] at hin; exact hin
              have HOD : Hid (ODev wr W0.heap.size (.slice au k cu) (.slice av k2 cv) (.slice aw k3 cw) D) := ⟨by rw [unhide NS]; exact hpart1, by rw [unhide NC]; exact hpart2, ⟨us, by rw [unhide NV]; exact hown, hin'⟩⟩
              have c0 := hrow.cell 0 _ rfl
              have c1 := hrow.cell 1 _ rfl
              have c2 := hrow.cell 2 _ rfl
              have c3 := hrow.cell 3 _ rfl
              have hres := (unhide HRES).kept hgb3 (by simp)
              have d0 := hres.cell 0 _ rfl
              have d1 := hres.cell 1 _ rfl
              have d2 := hres.cell 2 _ rfl
              have d3 := hres.cell 3 _ rfl
              have df := hres.unfrozen
              have HRESF := hide hres
              clear hrow hown hin hin' hpart1 hpart2 hres
              go_wp2
              refine bodyPost_ret (v := .agg #[.slice au k cu, .slice av k2 cv, .slice aw k3 cw, .int .i64 F]) (by simp [results, Try.results16, go_sem, *]) rfl ⟨_, _, _, rfl, ?_, ?_⟩
              · refine ((unhide HOD).kept (unhide HRESF) (by decide) (by decide) (by decide) (by decide) ?_).base hb0.size
                repeat (first | exact gb_refl _ _ | refine gb_set ?_ _ _)
              · repeat (first | exact hbr3 | refine bl_set ?_ (by simp) _)
end Go.Proofs.Ytjahaccplchmnaa
