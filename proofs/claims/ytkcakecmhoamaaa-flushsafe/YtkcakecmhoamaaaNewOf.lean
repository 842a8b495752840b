/- icehouseref.NewOf. -/
import Derived.Test.YtkcakecmhoamaaaNew
import Derived.Deep.RegionHeld3
import Derived.Deep.AppendLies
import Derived.Deep.RegionLaw
import Derived.Deep.DrawnRows
namespace Go.Proofs.Ytkcakecmhoamaaa
open Go.RowKit
set_option linter.unusedVariables false
set_option linter.unusedSimpArgs false

/-- One more sector is appended. -/
theorem RowsIn.push {w w' : World} {B : Nat} {us : List Value} {xs : List (List Int)} (h : RowsIn w B us xs) (f : ∀ u ys, Own w B u ys → Own w' B u ys) {u : Value} {ys : List Int} (hu : Own w' B u ys) : RowsIn w' B (us ++ [u]) (xs ++ [ys]) := by
  refine ⟨by simp [h.1], fun i hi => ?_⟩
  simp at hi
  by_cases e : i = xs.length
  · subst e
    refine ⟨u, ?_, ?_⟩
    · rw [List.getElem?_append_right (by rw [h.1]; exact Nat.le_refl _), h.1]; simp
    · simpa [List.getD] using hu
  · obtain ⟨v, h1, h2⟩ := h.2 i (by omega)
    refine ⟨v, ?_, ?_⟩
    · rw [List.getElem?_append_left (by rw [h.1]; omega)]; exact h1
    · rw [show (xs ++ [ys]).getD i [] = xs.getD i [] by simp [List.getD, List.getElem?_append_left (show i < xs.length by omega)]]
      exact f _ _ h2
theorem own_two {w w' : World} {B B' : Nat} {e e' : TypeId} {size size' : Nat} {v v' : Value} {n n' : Nat} {xs xs' : List Value} (h : w.ownsRow B e size v n xs) (h' : w.ownsRow B' e' size' v' n' xs') (he : e ≠ e') (hg : w.grownBy w' v'.ownBlock) : w'.ownsRow B e size v n xs := by
  refine h.kept hg ?_
  cases hv : v.ownBlock with
  | none => exact .inl rfl
  | some g =>
    refine .inr fun q => ?_
    obtain ⟨c1, h1⟩ := own_tag h hv
    obtain ⟨c2, h2⟩ := own_tag h' q.symm
    rw [h1] at h2
    simp at h2
    exact he h2.2
theorem repl_succ {α : Type} (k : Nat) (x : α) : List.replicate (k + 1) x = List.replicate k x ++ [x] := List.replicate_succ'

attribute [local go_sem ↓] Go.wp_at_zero Go.wp_at_succ
set_option maxHeartbeats 1000000 in
set_option maxRecDepth 100000 in
theorem newOf_any (r a h vm nv : Int) (w : World) :
    Calls Try.prog 25 #[.agg #[.int .i64 r, .int .i64 a, .int .i64 h, .int .i64 vm, .int .i64 nv]] w fun e w' =>
      ∃ s c v, e = .returned (.tuple #[.agg #[s, c, v, .int .i64 (newD r a h vm nv).fuel], .int .i64 (geoE r a h vm nv)]) ∧ ODev w' w.heap.size s c v (newD r a h vm nv) ∧ Below w.heap.size w w' := by
  go_enter Try.func25, Try.ntmps25
  go_wp2_with fail
  refine (geometryFault_any r a h vm nv _).mono ?_
  rintro e w1 ⟨rfl, hb1⟩
  have hb0 : Below w.heap.size w w1 := bl_trans (bl2 _ _ _) hb1
  have g0 := box2a hb1 0 rfl
  have g1 := box2a hb1 1 rfl
  have g2 := box2a hb1 2 rfl
  have g3 := box2a hb1 3 rfl
  have g4 := box2a hb1 4 rfl
  have f0 := box2b hb1 0 rfl
  have f1 := box2b hb1 1 rfl
  have f2 := box2b hb1 2 rfl
  have f3 := box2b hb1 3 rfl
  have hR := box2r (cs := [.slice none 0 0, .slice none 0 0, .slice none 0 0, .int .i64 0]) hb1
  have z0 := hR.unfrozen
  have HR1 := hide hR
  clear hb1 hR
  cases hg : geoB r a h vm nv
  · rw [geoE_f hg]
    go_wp2
    refine bodyPost_ret (v := .tuple #[.agg #[.slice none 0 0, .slice none 0 0, .slice none 0 0, .int .i64 0], .int .i64 2]) (by simp [results, Try.results25, go_sem, *]) rfl ⟨_, _, _, ret_dev (by rw [newD_f hg]) (geoE_f hg).symm, ?_, ?_⟩
    · rw [newD_f hg]; exact ODev.empty _ _ _
    · repeat (first | exact hb0 | refine bl_set ?_ (by simp) _)
  rw [geoE_t hg]
  obtain ⟨⟨_, _⟩, ⟨_, _⟩, ⟨_, _⟩, ⟨_, _⟩, ⟨_, _⟩⟩ := geoB_bd hg
  obtain ⟨n, hn⟩ : ∃ n : Nat, 2 + r + a + a + h = n := ⟨(2 + r + a + a + h).toNat, by omega⟩
  have hnb : n ≤ 422 := by omega
  have HN := hide hn
  obtain ⟨i0, hi, hz0, hz1, hz2⟩ := info_parts infoBts
  obtain ⟨i1, hi1, hy0, hy1, hy2⟩ := info_parts infoU8
  have hmk2 : ∀ u : World, (Instr.makeSlice 37 (.int .i64 64) (.int .i64 64)).run Try.prog u =
      .ok (.slice (some ⟨u.heap.size, 0, none⟩) 64 64) (u.alloc (.cells (u8s zeros).toArray 5)) := fun u => by
    have h := run_make (P := Try.prog) u 37 5 i1 (.int .u8 0) Try.underlying37 hi1 hy0 .i64 .i64 64 64 (by omega) (Int.le_refl _) (by rw [hy2]; omega) (by omega)
    rw [show (u8s zeros) = List.replicate 64 (Value.int .u8 0) by simp [u8s, zeros], ← made_one]
    simpa [hy1, Value.cells] using h
  have HN' : Hid ((2 + r + 2 * a + h).toNat = n) := by show _ = _; omega
  clear hn
  go_wp2
  go_loopw [6] (fun i wr => ∃ k : Nat, k ≤ n ∧ i = .int .i64 k ∧ ∃ u us, Row wr w1.heap.size 31 [u, .slice none 0 0, .slice none 0 0, .int .i64 (-1)] ∧ wr.ownsRow w1.heap.size 37 1 u k us ∧ RowsIn wr w1.heap.size us (List.replicate k zeros) ∧ Below w1.heap.size w1 wr) (fun i _ => n - (intOf i).toNat)
  case atStart => exact ⟨0, Nat.zero_le _, rfl, _, [], Row.new _ _ _, World.ownsRow_nil _ _ _ _, ⟨rfl, fun j hj => absurd hj (Nat.not_lt_zero _)⟩, bl1 _ _⟩
  case round =>
    obtain ⟨k, hk, rfl, u, us, hrow, hown, hin, hbr⟩ := hrel
    replace g0 := cell_up hbr g0
    replace g1 := cell_up hbr g1
    replace g2 := cell_up hbr g2
    replace g3 := cell_up hbr g3
    replace g4 := cell_up hbr g4
    have HROW := hide hrow
    have HOWN := hide hown
    have HIN := hide hin
    clear hrow hown hin
    go_wp2_with fail
    refine (sectorsOf_any r a h vm nv _ (by omega) (by omega) (by omega)).mono ?_
    rintro e w2 ⟨rfl, hb2⟩
    rw [unhide HN]
    by_cases hlt : k < n
    · have hrow := (unhide HROW).up hb2
      have c0 := hrow.cell 0 _ rfl
      have z1 := hrow.unfrozen 0
      clear hrow
      go_wp2
      have hb20 := bl_trans hb0 (bl_trans hbr hb2)
      have hsz := hb20.size
      have hown2 := own_up (unhide HOWN) hb2
      have hrow2 := (unhide HROW).up hb2
      have hne : u.ownBlock ≠ some w1.heap.size := own_apart hown2 hrow2 (by decide)
      have hl1 := hrow2.lt
      have CZ1 : Hid (∀ o1, (w2.alloc o1).drew.cell? ⟨w1.heap.size, 0, none⟩ = some u) := fun o1 => (World.cell?_alloc_past _ _ _ hl1).trans c0
      have FZ1 : Hid (∀ o1, (w2.alloc o1).drew.frozen? ⟨w1.heap.size, 0, none⟩ = false) := fun o1 => (World.frozen?_alloc_past _ _ _ hl1).trans z1
      have CZ2 : Hid (∀ o1 o2, ((w2.alloc o1).alloc o2).drew.cell? ⟨w1.heap.size, 0, none⟩ = some u) := fun o1 o2 => (World.cell?_alloc_past _ _ _ (by simp; omega)).trans (unhide CZ1 o1)
      have FZ2 : Hid (∀ o1 o2, ((w2.alloc o1).alloc o2).drew.frozen? ⟨w1.heap.size, 0, none⟩ = false) := fun o1 o2 => (World.frozen?_alloc_past _ _ _ (by simp; omega)).trans (unhide FZ1 o1)
      have HO2 := hide hown2
      have HNE := hide hne
      clear hown2 hrow2 hne
      have cz1 := unhide CZ1
      have cz2 := unhide CZ2
      have HNW : Hid ((((w2.alloc (.cells (u8s zeros).toArray 5)).alloc (.cells #[.slice (some ⟨w2.heap.size, 0, none⟩) 64 64] 37)).drew).heap[w2.heap.size + 1]? = some (.cells #[.slice (some ⟨w2.heap.size, 0, none⟩) 64 64] 37 (0, 0))) := by
        have := heap_alloc_new (w2.alloc (.cells (u8s zeros).toArray 5)) (.cells #[.slice (some ⟨w2.heap.size, 0, none⟩) 64 64] 37)
        rw [World.size_alloc] at this
        exact this
      go_region_law ((refine step_append_lies _ (by rfl) _ _ _ (by rfl) w1.heap.size 37 i0 _ 1 24 Try.underlying27 hi hz0 hz1 hz2 rfl (by omega) u k us (by rfl) ((((unhide HO2).alloc _).alloc _).drew) ⟨w2.heap.size + 1, 0, none⟩ 1 1 [.slice (some ⟨w2.heap.size, 0, none⟩) 64 64] (by rfl) (by rfl) (World.news_of_block (cs := #[.slice (some ⟨w2.heap.size, 0, none⟩) 64 64]) (t := 37) (fr := (0, 0)) (unhide HNW)) (by simp [Value.oneCell']) (by omega) (by unfold maxLen; omega) (by omega) (by simp; omega) (w2.heap.size + 2) (by simp) ?_; intro g cap w3 hown3 hgrow hat hlt3; have hc3 := (hgrow.cell_far ⟨w1.heap.size, 0, none⟩ (by simp; omega) (Ne.symm (unhide HNE))).trans (unhide CZ2 _ _); have hf3 := (hgrow.frozen_far ⟨w1.heap.size, 0, none⟩ (by simp; omega) (Ne.symm (unhide HNE))).trans (unhide FZ2 _ _)))
      all_goals
        have hrow3 : Row w3 w1.heap.size 31 [u, .slice none 0 0, .slice none 0 0, .int .i64 (-1)] := (((unhide HROW).up hb2).up (Below.drew (bl_alloc (bl1 _ _) _))).kept hgrow (Ne.symm (unhide HNE))
        have HROW3 := hide hrow3
        have HOWN3 := hide hown3
        have HIN3 : Hid (RowsIn w3 w1.heap.size (us ++ [.slice (some ⟨w2.heap.size, 0, none⟩) 64 64]) (List.replicate (k + 1) zeros)) := by
          rw [repl_succ]
          have hz := (Blk.new w2 zeros).own (by rw [zeros64]; decide) (B := w1.heap.size) (by omega)
          rw [zeros64] at hz
          exact (unhide HIN).push (fun _ _ q => own_two (((q.up hb2).up (bl_alloc (bl1 _ _) _)).drew) ((((unhide HO2).alloc _).alloc _).drew) (by decide) hgrow) (own_two ((hz.up (bl1 _ _)).drew) ((((unhide HO2).alloc _).alloc _).drew) (by decide) hgrow)
        have hbw3 : Below w1.heap.size w1 w3 := by
          exact (Below.drew (bl_trans hbr (bl_trans hb2 (bl_alloc (bl1 _ _) _)))).grown hgrow (by simp; omega) fun j hj => ((unhide HOWN).lt j hj).1
        clear hrow3 hown3
        go_wp2
        go_roundw
        case rel => exact ⟨k + 1, by omega, by go_num, _, _, (unhide HROW3).set 0 _, (unhide HOWN3).kept (gb_set (gb_refl _ _) 0 _) (.inr (own_apart (unhide HOWN3) (unhide HROW3) (by decide))), (unhide HIN3).imp fun _ _ q => q.kept (unhide HROW3) (by decide) (gb_set (gb_refl _ _) 0 _), hbw3.setCell (by simp) _⟩
        case measure => simp [intOf]; omega
    · obtain rfl : k = n := by omega
      have hrow := (unhide HROW).up hb2
      have c0 := hrow.cell 0 _ rfl
      have c1 := hrow.cell 1 _ rfl
      have c2 := hrow.cell 2 _ rfl
      have c3 := hrow.cell 3 _ rfl
      have hRR := ((unhide HR1).up hbr).up hb2
      have d0 := hRR.cell 0 _ rfl
      have d1 := hRR.cell 1 _ rfl
      have d2 := hRR.cell 2 _ rfl
      have d3 := hRR.cell 3 _ rfl
      have hz0 := hRR.unfrozen
      have HRR := hide hRR
      obtain ⟨au, cu, hu, _, _⟩ := own_form (unhide HOWN)
      have HO2 := hide (own_up (unhide HOWN) hb2)
      have HI2 := hide ((unhide HIN).imp fun _ _ q => q.up hb2)
      subst hu
      clear hrow hRR f0 f1 f2 f3 z0 HOWN HIN
      go_wp2
      refine bodyPost_ret (v := .tuple #[.agg #[.slice au k cu, .slice none 0 0, .slice none 0 0, .int .i64 (-1)], .int .i64 0]) (by simp [results, Try.results25, go_sem, *]) rfl ⟨_, _, _, ret_dev (by rw [newD_t hg]) (geoE_t hg).symm, ?_, ?_⟩
      · have e : newD r a h vm nv = ⟨List.replicate k zeros, [], [], -1⟩ := by rw [newD_t hg, unhide HN']
        rw [e]
        have hod : ODev w2 w1.heap.size (.slice au k cu) (.slice none 0 0) (.slice none 0 0) ⟨List.replicate k zeros, [], [], -1⟩ := ⟨⟨us, by simpa using unhide HO2, unhide HI2⟩, (ODev.empty w2 _ 0).cache, (ODev.empty w2 _ 0).vols⟩
        refine (hod.kept (unhide HRR) (by decide) (by decide) (by decide) (by decide) ?_).base hb0.size
        repeat (first | exact gb_refl _ _ | refine gb_set ?_ _ _)
      · have := bl_trans hb0 (bl_trans hbr hb2)
        repeat (first | exact this | refine bl_set ?_ (by simp) _)
end Go.Proofs.Ytkcakecmhoamaaa
