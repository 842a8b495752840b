/- state.drop, dropOne, dropUpload. -/
import Derived.Test.YtdgmdapijhbocaaGreatG11
import Derived.Test.YtdgmdapijhbocaaGreatG6
import Derived.BigQuiet
import Derived.Deep.QuietTactic
import Derived.Shelf.SlSortCmp.WholeK
import Derived.Test.YtdgmdapijhbocaaGreatG1
namespace Go.Proofs.YtdgmdapijhbocaaGreat
open Go.RowKit Go.Maps
set_option maxRecDepth 100000
set_option linter.unusedVariables false
set_option linter.unusedSimpArgs false
/-- A row of one's own, its elements and what is behind them. -/
theorem own_row {w : World} {B k : Nat} {T : TypeId} {v : Value} {n : Nat} {xs : List Value} (h : w.ownsRow B T k v n xs) (hn : 0 < n) : ∃ g cap sp, v = .slice (some ⟨g, 0, none⟩) n cap ∧ B ≤ g ∧ w.heap[g]? = some (.cells (xs ++ sp).toArray T (0, 0)) ∧ xs.length + sp.length = cap * k ∧ cap ≤ 9223372036854775807 ∧ n ≤ cap ∧ xs.length = n * k := by
  have hl := h.1
  rcases h.2 with ⟨rfl, h0⟩ | ⟨g, cap, cur, rfl, hB, hg, hnc, hc, hs, ht⟩
  · omega
  · refine ⟨g, cap, cur.toList.drop (n * k), rfl, hB, ?_, ?_, by unfold maxLen at hc; omega, hnc, hl⟩
    · rw [← ht, List.take_append_drop]; exact hg
    · have e1 : cur.toList.length = cur.size := Array.length_toList
      have e2 := Nat.mul_le_mul_right k hnc
      rw [List.length_drop]
      omega
theorem ve_one {w : World} {B : Nat} (ps : List (Ve × Value)) (h : ∀ p ∈ ps, OwI w B p.2 p.1.sec) : ∀ u ∈ ps.flatMap (fun p => veL p.1 p.2), u.oneCell' = true := fun u hu => by
  obtain ⟨y, hy, hu⟩ := List.mem_flatMap.1 hu
  obtain ⟨a, c, e, _⟩ := own_form (h y hy)
  rw [e] at hu
  simp at hu
  rcases hu with rfl | rfl | rfl | rfl | rfl | rfl | rfl | rfl | rfl | rfl | rfl | rfl <;> rfl
theorem up_one {w : World} {B : Nat} (ps : List (Up × Value)) (h : ∀ p ∈ ps, OwP w B p.2 p.1.parts) : ∀ u ∈ ps.flatMap (fun p => upL p.1 p.2), u.oneCell' = true := fun u hu => by
  obtain ⟨y, hy, hu⟩ := List.mem_flatMap.1 hu
  obtain ⟨a, c, e, _⟩ := (h y hy).form
  rw [e] at hu
  simp at hu
  rcases hu with rfl | rfl | rfl | rfl <;> rfl
/-- What is left of a row when one of its elements goes. -/
theorem own_cut {α : Type} (C : α → List Value) (k : Nat) (hk : ∀ x, (C x).length = k) {w : World} {B g cap m i : Nat} {T : TypeId} {ps : List α} {sp cur : List Value} (hB : B ≤ g) (hps : ps.length = m + 1) (hi : i ≤ m) (hc : cap ≤ 9223372036854775807) (hm : m ≤ cap)
    (hr : w.heap[g]? = some (.cells cur.toArray T (0, 0))) (hl : cur.length = cap * k) (ht : cur.take (m * k) = ((ps.flatMap C) ++ sp).take (i * k) ++ (((ps.flatMap C) ++ sp).take ((m + 1) * k)).drop ((i + 1) * k)) :
    w.ownsRow B T k (.slice (some ⟨g, 0, none⟩) m cap) (ps.take i ++ ps.drop (i + 1)).length ((ps.take i ++ ps.drop (i + 1)).flatMap C) := by
  have hf := flat_len2 C k hk ps
  rw [hps] at hf
  have e0 : (ps.take i ++ ps.drop (i + 1)).length = m := by rw [List.length_append, List.length_take, List.length_drop, hps]; omega
  have e1 : ((ps.flatMap C) ++ sp).take ((m + 1) * k) = ps.flatMap C := List.take_left' hf
  have e2 : ((ps.flatMap C) ++ sp).take (i * k) = (ps.take i).flatMap C := by
    rw [List.take_append_of_le_length (by rw [hf]; exact Nat.mul_le_mul_right _ (by omega)), flat_take C k hk ps i (by omega)]
  rw [e1, e2, flat_drop C k hk ps (i + 1) (by omega), ← List.flatMap_append] at ht
  rw [e0]
  exact ⟨by rw [flat_len2 C k hk, e0], .inr ⟨g, cap, _, rfl, hB, hr, hm, by unfold maxLen; omega, by simpa using hl, ht⟩⟩
def cutV (l : List Ve) (k : Nat) : List Ve := l.take k ++ l.drop (k + 1)
def drpS (S : St) (k : Nat) : St := { unaS S (S.ves.getD k ve0).id with ves := S.ves.take k ++ S.ves.drop (k + 1) }
theorem unaS_wf {S : St} (h : WfS S) (id : Int) : WfS (unaS S id) := ⟨h.bus, h.ves, h.ups, fun x hx => h.que x (List.mem_filter.1 hx).1, h.gone⟩
set_option maxHeartbeats 4000000 in
theorem dropW_any (S : St) (k : Nat) (B X : Nat) (b v u q g : Value) (w : World) (hr : w.heap[X]? = some (.cells (stA S b v u q g) 29 (0, 0))) (hO : OSt w B b v u q g S) (hX : B ≤ X) (hw : WfS S) (hk : k < S.ves.length) (hn : S.ves.length ≤ 1000) :
    Calls Tryz.prog 123 #[.pointer (some ⟨X, 0, none⟩), .int .i64 k] w fun e w' => e = .returned (.tuple #[]) ∧ Bx w' B X (drpS S k) ∧ Below B w w' ∧ (∀ (n : Nat) (c : Array Value) (fz : Nat × Nat), v.ownBlock ≠ some n → w.heap[n]? = some (.cells c 36 fz) → w'.heap[n]? = some (.cells c 36 fz)) := by
  have hXl := (Array.getElem?_eq_some_iff.1 hr).1
  have HR0 := hide hr
  have HO0 := hide hO
  have hL := (hO.ves.lst hw.ves)
  obtain ⟨va, vc, rfl, hv1, hv2⟩ := hO.ves.form
  unfold maxLen at hv2
  have c3 := cell_of hr 3 rfl
  obtain ⟨b8, o8, e8, r⟩ := Lst.at hL hk
  subst e8
  obtain ⟨I, hI⟩ : ∃ I, (S.ves.getD k ve0).id = I := ⟨_, rfl⟩
  have c0 := r.c0
  rw [hI] at c0
  have HII := hide hI
  clear hr hO hL r hI
  go_enter Tryz.func123, Tryz.ntmps123
  go_wp2_with fail
  refine (unaskW_any S I B X b _ u q g w (unhide HR0) (unhide HO0) hX hw).mono ?_
  rintro e w1 ⟨rfl, ⟨q1, hr1, hO1⟩, hl1, hoth⟩
  have HOT := hide hoth
  have hXl1 := (Array.getElem?_eq_some_iff.1 hr1).1
  obtain ⟨ps, hps, hown, hin⟩ := hO1.ves
  have hpl : ps.length = S.ves.length := by have := congrArg List.length hps; rw [List.length_map] at this; exact this
  obtain ⟨m, hm⟩ : ∃ m, S.ves.length = m + 1 := ⟨S.ves.length - 1, by omega⟩
  rw [hpl, hm] at hown
  obtain ⟨gv, cap, sp, hvv, hBg, hrow, hlen, hcap, hnc, hxl⟩ := own_row hown (by omega)
  injection hvv with ev1 ev2 ev3
  subst ev3
  injection ev1 with ev1
  injection ev1 with ev1 ev4 _
  subst ev1 ev4
  have d3 := cell_of hr1 3 rfl
  have HR1 := hide hr1
  have HO1 := hide hO1
  have HRow := hide hrow
  have H1 := hide (ve_one ps hin)
  have HPS := hide hps
  have HIN := hide hin
  have HPL : Hid (ps.length = m + 1) := by show _ = _; rw [hpl, hm]
  have hkm : k ≤ m := by omega
  have HLEN := hide hlen
  have HXL := hide hxl
  clear c0 c3 hr1 hO1 hown hrow hin hps hpl hlen hxl
  go_wp2_with fail
  refine (deleteV_any b8 m vc k ((ps.flatMap fun p => veL p.1 p.2) ++ sp) w1 (unhide HRow) (by rw [List.length_append]; exact unhide HLEN) hnc hcap hkm (by
    rw [List.take_left' (unhide HXL)]
    exact unhide H1)).mono ?_
  rintro e w2 ⟨rfl, ⟨cur', hr2, hcl, hct⟩, hg2⟩
  have htk := row_typ (unhide HRow)
  have hrX := row_kept (unhide HR1) hg2 htk (by decide)
  have hO1 := unhide HO1
  have e3 := cell_of hrX 3 rfl
  have f3 := fz_of hrX 3
  have HB : Hid (Bx (w2.setCell ⟨X, 3, none⟩ (.slice (some ⟨b8, 0, none⟩) m vc)) B X (drpS S k)) := by
    have hs1 : OSt w2 B b (.slice (some ⟨b8, 0, none⟩) m vc) u q1 g (drpS S k) := by
      refine ⟨own_kept hO1.bus hg2 htk (by decide), ⟨ps.take k ++ ps.drop (k + 1), ?_, own_cut (fun p : Ve × Value => veL p.1 p.2) 12 (fun _ => rfl) hBg (unhide HPL) hkm hcap (by omega) hr2 hcl hct, ?_⟩, hO1.ups.kept hg2 htk (by decide) (by decide) (by decide), ?_, own_kept hO1.gone hg2 htk (by decide)⟩
      · rw [List.map_append, List.map_take, List.map_drop, unhide HPS]; rfl
      · intro p hp
        refine own_kept (unhide HIN p ?_) hg2 htk (by decide)
        rcases List.mem_append.1 hp with hp | hp
        · exact List.mem_of_mem_take hp
        · exact List.mem_of_mem_drop hp
      · have := own_kept hO1.que hg2 htk (by decide)
        rw [← unhide HII] at this
        exact this
    exact ⟨b, _, u, q1, g, rowS hrX 3 _ rfl, hs1.box (gb_setCell w2 X 3 _) (row_typ hrX)⟩
  have HL : Hid (Below B w (w2.setCell ⟨X, 3, none⟩ (.slice (some ⟨b8, 0, none⟩) m vc))) := bl_tr hl1 (bl_tr (gb_lo hg2 (by omega) (fun j e => by injection e with e; omega)) (gb_lo (gb_setCell w2 X 3 _) (by have := hg2.size; omega) (fun j e => by injection e with e; omega)))
  have HV : Hid (∀ (n : Nat) (c : Array Value) (fz : Nat × Nat), (some b8 : Option Nat) ≠ some n → w.heap[n]? = some (.cells c 36 fz) → (w2.setCell ⟨X, 3, none⟩ (.slice (some ⟨b8, 0, none⟩) m vc)).heap[n]? = some (.cells c 36 fz)) := fun n c fz hne hn => by
    have s1 := unhide HOT n c _ fz (by decide) (by decide) hn
    have s2 := (hg2.block n (Array.getElem?_eq_some_iff.1 s1).1 (fun e => hne e.symm)).trans s1
    exact row_kept s2 (gb_setCell w2 X 3 _) (row_typ hrX) (by decide)
  clear hg2 hr2 hcl hct htk hrX hO1 d3
  go_wp2
  go_end0
  exact ⟨rfl, unhide HB, unhide HL, unhide HV⟩
theorem drop_any (S : St) (k : Nat) (B X : Nat) (w : World) (h : Bx w B X S) (hX : B ≤ X) (hw : WfS S) (hk : k < S.ves.length) (hn : S.ves.length ≤ 1000) :
    Calls Tryz.prog 123 #[.pointer (some ⟨X, 0, none⟩), .int .i64 k] w fun e w' => e = .returned (.tuple #[]) ∧ Bx w' B X (drpS S k) ∧ Below B w w' := by
  obtain ⟨b, v, u, q, g, hr, hO⟩ := h
  refine (dropW_any S k B X b v u q g w hr hO hX hw hk hn).mono ?_
  rintro e w' ⟨h1, h2, h3, _⟩
  exact ⟨h1, h2, h3⟩
theorem OSt.boxr {w : World} {X : Nat} {S : St} {b v u q g : Value} (hr : w.heap[X]? = some (.cells (stA S b v u q g) 29 (0, 0))) : BoxS w X S b v u q g := ⟨cell_of hr 0 rfl, cell_of hr 1 rfl, cell_of hr 2 rfl, cell_of hr 3 rfl, cell_of hr 4 rfl, cell_of hr 5 rfl, cell_of hr 6 rfl⟩
def idxV (S : St) (id : Int) : Int := firstI S.ves.length (veP S.ves id)
def dr1E (S : St) (id : Int) : Int := if idxV S id < 0 then 6 else 0
set_option maxHeartbeats 2000000 in
theorem dropOne_any (S : St) (id : Int) (B X : Nat) (w : World) (h : Bx w B X S) (hX : B ≤ X) (hw : WfS S) (hn : S.ves.length ≤ 1000) :
    Calls Tryz.prog 64 #[.pointer (some ⟨X, 0, none⟩), .int .i64 id] w fun e w' => e = .returned (.int .i64 (dr1E S id)) ∧ (dr1E S id = 0 → Bx w' B X (drpS S (idxV S id).toNat)) ∧ Below B w w' := by
  have hXl := h.lt
  have HBx := hide h
  obtain ⟨b, v, u, q, g, hr, hO⟩ := h
  have hL := hide (hO.ves.lst hw.ves)
  have bx := OSt.boxr hr
  have c0 := bx.c0
  have c1 := bx.c1
  have c2 := bx.c2
  have c3 := bx.c3
  have c4 := bx.c4
  have c5 := bx.c5
  have c6 := bx.c6
  obtain ⟨E, hE⟩ : ∃ E, dr1E S id = E := ⟨_, rfl⟩
  obtain ⟨Q, hQ⟩ : ∃ Q, drpS S (idxV S id).toNat = Q := ⟨_, rfl⟩
  rw [hE, hQ]
  have HE := hide hE
  have HQ := hide hQ
  clear hr hO hE hQ bx
  go_enter Tryz.func64, Tryz.ntmps64
  go_wp2_with fail
  refine (findVersion_any S b v u q g id w (unhide hL)).mono ?_
  rintro e w1 ⟨rfl, hb1⟩
  have hbd := firstI_lt S.ves.length (veP S.ves id)
  obtain ⟨I, hI⟩ : ∃ I, firstI S.ves.length (veP S.ves id) = I := ⟨_, rfl⟩
  rw [hI] at hbd ⊢
  have HI : Hid (idxV S id = I) := hI
  have HB1 : Hid (Bx w1 B X S) := (unhide HBx).up hb1
  have HL1 : Hid (Below B w w1) := bl_lo hb1 (by omega)
  clear hI hb1 c0 c1 c2 c3 c4 c5 c6
  by_cases hneg : I < 0
  · have HE6 : Hid (E = 6) := by show _ = _; rw [← unhide HE]; unfold dr1E; rw [unhide HI, if_pos hneg]
    go_wp2
    go_ret
    exact ⟨ret_int (unhide HE6).symm, fun e => absurd ((unhide HE6).symm.trans e) (by decide), unhide HL1⟩
  · obtain ⟨k, rfl⟩ := Int.eq_ofNat_of_zero_le (show 0 ≤ I by omega)
    have HE0 : Hid (E = 0) := by show _ = _; rw [← unhide HE]; unfold dr1E; rw [unhide HI, if_neg hneg]
    have HQ2 : Hid (drpS S k = Q) := by show _ = _; rw [← unhide HQ, unhide HI]; rfl
    go_wp2_with fail
    refine (drop_any S k B X w1 (unhide HB1) hX hw (by omega) hn).mono ?_
    rintro e w2 ⟨rfl, hB2, hl2⟩
    rw [unhide HQ2] at hB2
    have HB2 := hide hB2
    have HL2 : Hid (Below B w w2) := bl_tr (unhide HL1) hl2
    clear hB2 hl2
    go_wp2
    go_ret
    exact ⟨ret_int (unhide HE0).symm, fun _ => unhide HB2, unhide HL2⟩
def idxU (S : St) (id : Int) : Int := firstI S.ups.length (upP S.ups id)
def drUE (S : St) (id : Int) : Int := if idxU S id < 0 then 6 else 0
def drUS (S : St) (id : Int) : St := { S with ups := S.ups.take (idxU S id).toNat ++ S.ups.drop ((idxU S id).toNat + 1) }
set_option maxHeartbeats 4000000 in
theorem dropUpload_any (S : St) (id : Int) (B X : Nat) (w : World) (h : Bx w B X S) (hX : B ≤ X) (hw : WfS S) (hn : S.ups.length ≤ 1000) :
    Calls Tryz.prog 71 #[.pointer (some ⟨X, 0, none⟩), .int .i64 id] w fun e w' => e = .returned (.int .i64 (drUE S id)) ∧ (drUE S id = 0 → Bx w' B X (drUS S id)) ∧ Below B w w' := by
  have hXl := h.lt
  have HBx := hide h
  obtain ⟨b, v, u, q, g, hr, hO⟩ := h
  have hL := hide (hO.ups.lst hw.ups)
  have bx := OSt.boxr hr
  have c0 := bx.c0
  have c1 := bx.c1
  have c2 := bx.c2
  have c3 := bx.c3
  have c4 := bx.c4
  have c5 := bx.c5
  have c6 := bx.c6
  obtain ⟨E, hE⟩ : ∃ E, drUE S id = E := ⟨_, rfl⟩
  obtain ⟨Q, hQ⟩ : ∃ Q, drUS S id = Q := ⟨_, rfl⟩
  rw [hE, hQ]
  have HE := hide hE
  have HQ := hide hQ
  clear hr hO hE hQ bx
  go_enter Tryz.func71, Tryz.ntmps71
  go_wp2_with fail
  refine (findUpload_any S b v u q g id w (unhide hL)).mono ?_
  rintro e w1 ⟨rfl, hb1⟩
  have hbd := firstI_lt S.ups.length (upP S.ups id)
  obtain ⟨I, hI⟩ : ∃ I, firstI S.ups.length (upP S.ups id) = I := ⟨_, rfl⟩
  rw [hI] at hbd ⊢
  have HI : Hid (idxU S id = I) := hI
  have HB1 : Bx w1 B X S := (unhide HBx).up hb1
  have HL1 : Hid (Below B w w1) := bl_lo hb1 (by omega)
  have hXl1 := HB1.lt
  clear hI hb1 c0 c1 c2 c3 c4 c5 c6
  by_cases hneg : I < 0
  · have HE6 : Hid (E = 6) := by show _ = _; rw [← unhide HE]; unfold drUE; rw [unhide HI, if_pos hneg]
    go_wp2
    go_ret
    exact ⟨ret_int (unhide HE6).symm, fun e => absurd ((unhide HE6).symm.trans e) (by decide), unhide HL1⟩
  · obtain ⟨k, rfl⟩ := Int.eq_ofNat_of_zero_le (show 0 ≤ I by omega)
    have HE0 : Hid (E = 0) := by show _ = _; rw [← unhide HE]; unfold drUE; rw [unhide HI, if_neg hneg]
    have HQ2 : Hid ({ S with ups := S.ups.take k ++ S.ups.drop (k + 1) } = Q) := by show _ = _; rw [← unhide HQ]; unfold drUS; rw [unhide HI]; rfl
    obtain ⟨b1, v1, u1, q1, g1, hr1, hO1⟩ := HB1
    obtain ⟨ps, hps, hown, hin, hpw⟩ := hO1.ups
    have hpl : ps.length = S.ups.length := by have := congrArg List.length hps; rw [List.length_map] at this; exact this
    obtain ⟨m, hm⟩ : ∃ m, S.ups.length = m + 1 := ⟨S.ups.length - 1, by omega⟩
    rw [hpl, hm] at hown
    obtain ⟨gv, cap, sp, rfl, hBg, hrow, hlen, hcap, hnc, hxl⟩ := own_row hown (by omega)
    have d3 := cell_of hr1 4 rfl
    have HR1 := hide hr1
    have HO1 := hide hO1
    have HRow := hide hrow
    have H1 := hide (up_one ps hin)
    have HPS := hide hps
    have HIN := hide hin
    have HPW := hide hpw
    have HPL : Hid (ps.length = m + 1) := by show _ = _; rw [hpl, hm]
    have hkm : k ≤ m := by omega
    have HLEN := hide hlen
    have HXL := hide hxl
    clear hr1 hO1 hown hrow hin hps hpl hlen hxl hpw
    go_wp2_with fail
    refine (deleteU_any gv m cap k ((ps.flatMap fun p => upL p.1 p.2) ++ sp) w1 (unhide HRow) (by rw [List.length_append]; exact unhide HLEN) hnc hcap hkm (by
      rw [List.take_left' (unhide HXL)]
      exact unhide H1)).mono ?_
    rintro e w2 ⟨rfl, ⟨cur', hr2, hcl, hct⟩, hg2⟩
    have htk := row_typ (unhide HRow)
    have hrX := row_kept (unhide HR1) hg2 htk (by decide)
    have hO1 := unhide HO1
    have e3 := cell_of hrX 4 rfl
    have f3 := fz_of hrX 4
    have HB : Hid (Bx (w2.setCell ⟨X, 4, none⟩ (.slice (some ⟨gv, 0, none⟩) m cap)) B X Q) := by
      show Bx _ _ _ _
      rw [← unhide HQ2]
      have hs1 : OSt w2 B b1 v1 (.slice (some ⟨gv, 0, none⟩) m cap) q1 g1 { S with ups := S.ups.take k ++ S.ups.drop (k + 1) } := by
        refine ⟨own_kept hO1.bus hg2 htk (by decide), hO1.ves.kept hg2 htk (by decide) (by decide), ⟨ps.take k ++ ps.drop (k + 1), ?_, own_cut (fun p : Up × Value => upL p.1 p.2) 4 (fun _ => rfl) hBg (unhide HPL) hkm hcap (by omega) hr2 hcl hct, ?_, ?_⟩, own_kept hO1.que hg2 htk (by decide), own_kept hO1.gone hg2 htk (by decide)⟩
        · rw [List.map_append, List.map_take, List.map_drop, unhide HPS]
        · intro p hp
          refine (unhide HIN p ?_).kept hg2 htk (by decide) (by decide)
          rcases List.mem_append.1 hp with hp | hp
          · exact List.mem_of_mem_take hp
          · exact List.mem_of_mem_drop hp
        · have hsub : (ps.take k ++ ps.drop (k + 1)).Sublist ps := by
            have e9 := List.take_append_drop k ps
            conv => rhs; rw [← e9]
            refine List.Sublist.append (List.Sublist.refl _) ?_
            rw [← List.drop_drop]
            exact List.drop_sublist _ _
          exact (unhide HPW).sublist hsub
      exact ⟨b1, v1, _, q1, g1, rowS hrX 4 _ rfl, hs1.box (gb_setCell w2 X 4 _) (row_typ hrX)⟩
    have HL : Hid (Below B w (w2.setCell ⟨X, 4, none⟩ (.slice (some ⟨gv, 0, none⟩) m cap))) := bl_tr (unhide HL1) (bl_tr (gb_lo hg2 (by omega) (fun j e => by injection e with e; omega)) (gb_lo (gb_setCell w2 X 4 _) (by have := hg2.size; omega) (fun j e => by injection e with e; omega)))
    clear hg2 hr2 hcl hct htk hrX hO1 d3
    go_wp2
    go_ret
    exact ⟨ret_int (unhide HE0).symm, fun _ => unhide HB, unhide HL⟩
end Go.Proofs.YtdgmdapijhbocaaGreat

/- slices.Compact at rows of one's own. -/
namespace Go.Proofs.YtdgmdapijhbocaaGreat
open Go.RowKit Go.Maps
set_option maxRecDepth 100000
set_option linter.unusedVariables false
set_option linter.unusedSimpArgs false
abbrev OwRo (w : World) (B : Nat) (v : Value) (xs : List Ro) : Prop := w.ownsRow B 61 7 v xs.length (xs.flatMap roL)
abbrev zeroRo : Array Value := #[.string ⟨#[]⟩, .bool false, .int .i64 0, .bool false, .bool false, .int .i64 0, .int .i64 0]
theorem infoRo : (Tryz.prog.info? 61).map (fun i => (i.zero, i.size, i.bytes)) = some (some (.agg zeroRo), 7, 56) := by kernel_rfl
theorem zeroRo_run (w : World) : (zeroValue 61).run Tryz.prog w = .ok (.agg zeroRo) w := by kernel_rfl
/-- One element of a row is set. -/
theorem rw_put {α : Type} (C : α → List Value) (k : Nat) (hk : ∀ x, (C x).length = k) {w : World} {g i : Nat} {T : TypeId} {E : List α} {sp : List Value} (x : α) (hr : w.heap[g]? = some (.cells (E.flatMap C ++ sp).toArray T (0, 0))) (hi : i < E.length) :
    (w.setCells g (i * k) (C x)).heap[g]? = some (.cells ((E.set i x).flatMap C ++ sp).toArray T (0, 0)) := by
  have hf := flat_len2 C k hk E
  have h2 : (i + 1) * k ≤ E.length * k := Nat.mul_le_mul_right _ hi
  have h3 : (i + 1) * k = i * k + k := Nat.succ_mul i k
  have hl : i * k + (C x).length ≤ (E.flatMap C ++ sp).length := by rw [hk, List.length_append, hf]; omega
  rw [row_setCells (C x) (i * k) w _ hr hl]
  have e1 : (E.flatMap C ++ sp).take (i * k) = (E.take i).flatMap C := by
    rw [List.take_append_of_le_length (by rw [hf]; omega), flat_take C k hk E i (by omega)]
  have e2 : (E.flatMap C ++ sp).drop (i * k + (C x).length) = (E.drop (i + 1)).flatMap C ++ sp := by
    rw [hk, ← h3, List.drop_append_of_le_length (by rw [hf]; omega), flat_drop C k hk E (i + 1) (by omega)]
  rw [e1, e2, List.set_eq_take_append_cons_drop, if_pos hi, List.flatMap_append, List.flatMap_cons]
  simp
theorem rw_at {α : Type} (C : α → List Value) (k : Nat) (hk : ∀ x, (C x).length = k) (d : α) {w : World} {g i j : Nat} {T : TypeId} {E : List α} {sp : List Value} (hr : w.heap[g]? = some (.cells (E.flatMap C ++ sp).toArray T (0, 0))) (hi : i < E.length) (hj : j < k) :
    w.cell? ⟨g, i * k + j, none⟩ = (C (E.getD i d))[j]? := by
  have hf := flat_len2 C k hk E
  have h2 : (i + 1) * k ≤ E.length * k := Nat.mul_le_mul_right _ hi
  have h3 : (i + 1) * k = i * k + k := Nat.succ_mul i k
  rw [← flat_at C k hk d E i j hi hj]
  have : (E.flatMap C)[i * k + j]? = (E.flatMap C ++ sp)[i * k + j]? := by rw [List.getElem?_append_left (by rw [hf]; omega)]
  rw [this]
  simp [World.cell?, hr]
theorem addR_last (o : List Ro) (r : Ro) : addR o r ≠ [] ∧ (addR o r).getD ((addR o r).length - 1) ro0 = r := by
  unfold addR
  split
  · next h => exact ⟨h.1, eqR_iff.1 h.2⟩
  · exact ⟨by simp, by simp [List.getD]⟩
theorem cmp_take (E : List Ro) {k : Nat} (hk : k < E.length) : cmpL (E.take (k + 1)) = addR (cmpL (E.take k)) (E.getD k ro0) := by
  rw [take_next E ro0 hk, cmpL_snoc]
theorem cmp_last (E : List Ro) {k : Nat} (hk : k < E.length) : cmpL (E.take (k + 1)) ≠ [] ∧ (cmpL (E.take (k + 1))).getD ((cmpL (E.take (k + 1))).length - 1) ro0 = E.getD k ro0 := by
  rw [cmp_take E hk]
  exact addR_last _ _
theorem cmp_next (E : List Ro) {k : Nat} (hk : k + 1 < E.length) : cmpL (E.take (k + 2)) = if eqR (E.getD k ro0) (E.getD (k + 1) ro0) = true then cmpL (E.take (k + 1)) else cmpL (E.take (k + 1)) ++ [E.getD (k + 1) ro0] := by
  obtain ⟨h1, h2⟩ := cmp_last E (k := k) (by omega)
  rw [cmp_take E hk]
  unfold addR
  rw [h2]
  by_cases h : eqR (E.getD k ro0) (E.getD (k + 1) ro0) = true
  · rw [if_pos ⟨h1, h⟩, if_pos h]
  · rw [if_neg (fun q => h q.2), if_neg h]
theorem cmp_len (E : List Ro) (k : Nat) (hk : k ≤ E.length) : (cmpL (E.take k)).length ≤ k := by
  induction k with
  | zero => simp [cmpL]
  | succ k ih =>
    rw [cmp_take E hk]
    have := ih (by omega)
    unfold addR
    split
    · omega
    · simp; omega
/-- What the row is while the second loop stands at j. -/
structure CmpI (E F : List Ro) (j m : Nat) : Prop where
  len : F.length = E.length
  pre : F.take m = cmpL (E.take j)
  many : m = (cmpL (E.take j)).length
  low : m < j
  high : ∀ i, j ≤ i + 1 → i < E.length → F.getD i ro0 = E.getD i ro0
theorem CmpI.start {E : List Ro} {k : Nat} (hk : k + 1 < E.length) (hs : cmpL (E.take (k + 1)) = E.take (k + 1)) (he : eqR (E.getD k ro0) (E.getD (k + 1) ro0) = true) : CmpI E E (k + 2) (k + 1) := by
  have h := cmp_next E hk
  rw [if_pos he, hs] at h
  exact ⟨rfl, h.symm, by rw [h]; simp; omega, by omega, fun _ _ _ => rfl⟩
theorem CmpI.same {E F : List Ro} {k m : Nat} (h : CmpI E F (k + 1) m) (hk : k + 1 < E.length) (he : eqR (E.getD k ro0) (E.getD (k + 1) ro0) = true) : CmpI E F (k + 2) m := by
  have h2 := cmp_next E hk
  rw [if_pos he] at h2
  exact ⟨h.len, by rw [h2]; exact h.pre, by rw [h2]; exact h.many, by have := h.low; omega, fun i hi hl => h.high i (by omega) hl⟩
theorem CmpI.put {E F : List Ro} {k m : Nat} (h : CmpI E F (k + 1) m) (hk : k + 1 < E.length) (he : eqR (E.getD k ro0) (E.getD (k + 1) ro0) = false) : CmpI E (F.set m (E.getD (k + 1) ro0)) (k + 2) (m + 1) := by
  have h2 := cmp_next E hk
  rw [if_neg (by rw [he]; decide)] at h2
  have hl := h.low
  have hF := h.len
  refine ⟨by rw [List.length_set, hF], ?_, by rw [h2, List.length_append, ← h.many]; rfl, by omega, fun i hi hl2 => ?_⟩
  · rw [h2, ← h.pre, List.set_eq_take_append_cons_drop, if_pos (by omega)]
    have e1 : (F.take m).length = m := by rw [List.length_take]; omega
    rw [List.take_append, e1, List.take_of_length_le (by omega)]
    simp
  · have hne : m ≠ i := by omega
    rw [← h.high i (by omega) hl2]
    simp [List.getD, List.getElem?_set_ne hne]
theorem cmp_all {E : List Ro} (h : cmpL (E.take E.length) = E.take E.length) : cmpL E = E := by rwa [List.take_of_length_le (Nat.le_refl _)] at h
structure RRo (w : World) (b p : Nat) (x : Ro) : Prop where
  c0 : w.cell? ⟨b, p, none⟩ = some (.string x.key)
  c1 : w.cell? ⟨b, p + 1, none⟩ = some (.bool x.com)
  c2 : w.cell? ⟨b, p + 2, none⟩ = some (.int .i64 x.id)
  c3 : w.cell? ⟨b, p + 3, none⟩ = some (.bool x.mar)
  c4 : w.cell? ⟨b, p + 4, none⟩ = some (.bool x.lat)
  c5 : w.cell? ⟨b, p + 5, none⟩ = some (.int .i64 x.size)
  c6 : w.cell? ⟨b, p + 6, none⟩ = some (.int .i64 x.tier)
theorem RRo.up {w w' : World} (hb : Below w.heap.size w w') {b p : Nat} {x : Ro} (h : RRo w b p x) : RRo w' b p x := ⟨scell_up hb h.c0, scell_up hb h.c1, scell_up hb h.c2, scell_up hb h.c3, scell_up hb h.c4, scell_up hb h.c5, scell_up hb h.c6⟩
theorem row_ro {w : World} {g i : Nat} {E : List Ro} {T : TypeId} {sp : List Value} (hr : w.heap[g]? = some (.cells (E.flatMap roL ++ sp).toArray T (0, 0))) (hi : i < E.length) : RRo w g (i * 7) (E.getD i ro0) := by
  have h := fun j (hj : j < 7) => rw_at roL 7 (fun _ => rfl) ro0 hr hi hj
  exact ⟨h 0 (by decide), h 1 (by decide), h 2 (by decide), h 3 (by decide), h 4 (by decide), h 5 (by decide), h 6 (by decide)⟩
theorem cmp_small {E : List Ro} (h : E.length < 2) : cmpL E = E := by
  match E, h with
  | [], _ => rfl
  | [x], _ => rfl
/-- A block that holds rows, and spare room behind them. -/
def RowRo (w : World) (g cap : Nat) (E : List Ro) : Prop := ∃ sp, w.heap[g]? = some (.cells (E.flatMap roL ++ sp).toArray 61 (0, 0)) ∧ (E.flatMap roL ++ sp).length = cap * 7
theorem ifR {α : Type} (Y X : Ro) (a b : α) : (if Y.key.toList = X.key.toList then if Y.com = X.com then if Y.id = X.id then if Y.mar = X.mar then if Y.lat = X.lat then if Y.size = X.size then if Y.tier = X.tier then a else b else b else b else b else b else b else b) = if eqR Y X = true then a else b := by
  unfold eqR eqS
  simp only [Bool.and_eq_true, beq_iff_eq]
  by_cases h1 : Y.key.toList = X.key.toList
  · by_cases h2 : Y.com = X.com
    · by_cases h3 : Y.id = X.id
      · by_cases h4 : Y.mar = X.mar
        · by_cases h5 : Y.lat = X.lat
          · by_cases h6 : Y.size = X.size
            · by_cases h7 : Y.tier = X.tier <;> simp [h1, h2, h3, h4, h5, h6, h7]
            · simp [h6]
          · simp [h5]
        · simp [h4]
      · simp [h3]
    · simp [h2]
  · simp [h1]
theorem eqR_sym {X Y : Ro} {b : Bool} (h : eqR X Y = b) : eqR Y X = b := by
  cases b
  · cases k : eqR Y X
    · rfl
    · rw [eqR_iff] at k
      subst k
      rw [eqR_iff.2 rfl] at h
      cases h
  · rw [eqR_iff] at h ⊢
    exact h.symm
set_option maxHeartbeats 4000000 in
theorem compact_any (g cap : Nat) (E : List Ro) (w : World) (hw : RowRo w g cap E) (hn : E.length ≤ cap) (hcap : cap ≤ 9223372036854775807) :
    Calls Tryz.prog 44 #[.slice (some ⟨g, 0, none⟩) E.length cap] w fun e w' => e = .returned (.slice (some ⟨g, 0, none⟩) (cmpL E).length cap) ∧ RowRo w' g cap (cmpL E) ∧ w.grownBy w' (some g) := by
  obtain ⟨sp, hr, hl⟩ := hw
  have HR := hide hr
  have HL := hide hl
  clear hr hl
  by_cases h2 : E.length < 2
  · rw [cmp_small h2]
    obtain ⟨N, hN⟩ : ∃ N, E.length = N := ⟨_, rfl⟩
    rw [hN] at h2 hn ⊢
    clear hN
    go_enter Tryz.func44, Tryz.ntmps44
    go_wp2
    go_ret
    exact ⟨rfl, ⟨sp, unhide HR, unhide HL⟩, gb_refl _ _⟩
  · have h00 : Hid (cmpL (E.take 1) = E.take 1) := cmp_small (by rw [List.length_take]; omega)
    obtain ⟨N, hN⟩ : ∃ N, E.length = N := ⟨_, rfl⟩
    have HN := hide hN
    have HCP : Hid ((cmpL E).length ≤ N) := by
      have h := cmp_len E E.length (Nat.le_refl _)
      rw [List.take_of_length_le (Nat.le_refl _), hN] at h
      exact h
    rw [hN] at h2 hn ⊢
    clear hN
    obtain ⟨M, hM⟩ : ∃ M, (cmpL E).length = M := ⟨_, rfl⟩
    rw [hM] at HCP ⊢
    have HM := hide hM
    clear hM
    go_enter Tryz.func44, Tryz.ntmps44
    go_wp2
    go_loopw [3] (fun i wr => ∃ k : Nat, k + 1 ≤ N ∧ i = .int .i64 ((k : Int) + 1) ∧ cmpL (E.take (k + 1)) = E.take (k + 1) ∧ wr.heap[g]? = some (.cells (E.flatMap roL ++ sp).toArray 61 (0, 0)) ∧ w.grownBy wr (some g)) (fun i _ => N - (intOf i).toNat)
    case atStart => exact ⟨0, by omega, rfl, unhide h00, unhide HR, gb_refl _ _⟩
    case round =>
      obtain ⟨k, hk, rfl, hcm, hrr, hgb⟩ := hrel
      have HC := hide hcm
      have HRR := hide hrr
      clear hcm
      by_cases hlt : k + 1 < N
      · have hlt' : (k : Int) + 1 < (N : Int) := by omega
        have hl0 : (k : Int) < (N : Int) := by omega
        have r := row_ro hrr (i := k) (by rw [unhide HN]; omega)
        have s := row_ro hrr (i := k + 1) (by rw [unhide HN]; omega)
        obtain ⟨X, hX⟩ : ∃ X, E.getD k ro0 = X := ⟨_, rfl⟩
        obtain ⟨Y, hY⟩ : ∃ Y, E.getD (k + 1) ro0 = Y := ⟨_, rfl⟩
        rw [hX] at r
        rw [hY] at s
        have HX := hide hX
        have HYY := hide hY
        clear hX hY hrr
        have l0 := fun d : Later wr => d.cell r.c0
        have l1 := fun d : Later wr => d.cell r.c1
        have l2 := fun d : Later wr => d.cell r.c2
        have l3 := fun d : Later wr => d.cell r.c3
        have l4 := fun d : Later wr => d.cell r.c4
        have l5 := fun d : Later wr => d.cell r.c5
        have l6 := fun d : Later wr => d.cell r.c6
        have m0 := fun d : Later wr => d.cell s.c0
        have m1 := fun d : Later wr => d.cell s.c1
        have m2 := fun d : Later wr => d.cell s.c2
        have m3 := fun d : Later wr => d.cell s.c3
        have m4 := fun d : Later wr => d.cell s.c4
        have m5 := fun d : Later wr => d.cell s.c5
        have m6 := fun d : Later wr => d.cell s.c6
        have hnel := Later.one wr
        clear r s
        go_wp2
        cases hq : eqR Y X
        · skip
          refine wp_region_later (by kernel_rfl) (by kernel_rfl) ?_
          repeat (go_big_quiet_step (fail))
          refine wpQuiet_step (fun K hK => ?_)
          clear l0 l1 l2 l3 l4 l5 l6 m0 m1 m2 m3 m4 m5 m6
          go_simp
          refine ⟨.bool false, fun d9 => ?_, hK _ ?_⟩
          · simp only [ifR]
            rw [hq]
            exact ⟨rfl, rfl⟩
          clear hK K
          refine wpQuiet_nil ?_
          intro w11 hw'
          obtain ⟨⟨w13, hb13⟩, hw''⟩ := hw'
          subst hw''
          clear hnel
          go_wp2
          go_roundw
          case rel =>
            refine ⟨k + 1, by omega, by go_num, ?_, (hb13.block g (Array.getElem?_eq_some_iff.1 (unhide HRR)).1).trans (unhide HRR), gb_trans hgb (gb_below hb13)⟩
            have h := cmp_next E (k := k) (by rw [unhide HN]; exact hlt)
            rw [unhide HX, unhide HYY, if_neg (by rw [eqR_sym hq]; decide), unhide HC] at h
            show cmpL (List.take (k + 2) E) = List.take (k + 2) E
            rw [h, take_next E ro0 (show k + 1 < E.length by rw [unhide HN]; exact hlt), unhide HYY]
          case measure => (simp [intOf] <;> omega)
        · skip
          refine wp_region_later (by kernel_rfl) (by kernel_rfl) ?_
          repeat (go_big_quiet_step (fail))
          refine wpQuiet_step (fun K hK => ?_)
          clear l0 l1 l2 l3 l4 l5 l6 m0 m1 m2 m3 m4 m5 m6
          go_simp
          refine ⟨.bool true, fun d9 => ?_, hK _ ?_⟩
          · simp only [ifR]
            rw [hq]
            exact ⟨rfl, rfl⟩
          clear hK K
          refine wpQuiet_nil ?_
          intro w11 hw'
          obtain ⟨⟨w13, hb13⟩, hw''⟩ := hw'
          subst hw''
          clear hnel
          have HR13 := hide ((hb13.block g (Array.getElem?_eq_some_iff.1 (unhide HRR)).1).trans (unhide HRR))
          have HG13 := hide (gb_trans hgb (gb_below (r := some g) hb13))
          have HI0 : Hid (CmpI E E (k + 2) (k + 1)) := CmpI.start (by rw [unhide HN]; exact hlt) (unhide HC) (by rw [unhide HX, unhide HYY]; exact eqR_sym hq)
          have hck : ¬ cap = k + 1 := by omega
          clear hq hgb hb13 HX HYY HC HRR
          go_wp2
          go_loopw [3, 5] (fun i3 i5 wq => ∃ (q m : Nat) (F : List Ro), i5 = .int .i64 ((q : Int) + 1) ∧ i3 = .int .i64 m ∧ k + 1 + (q + 1) ≤ N ∧ CmpI E F (k + 1 + q + 1) m ∧ wq.heap[g]? = some (.cells (F.flatMap roL ++ sp).toArray 61 (0, 0)) ∧ w.grownBy wq (some g)) (fun _ i5 _ => N - (intOf i5).toNat)
          case atStart => exact ⟨0, k + 1, E, rfl, by go_num, by omega, unhide HI0, unhide HR13, unhide HG13⟩
          case round =>
            obtain ⟨q, m, F, rfl, rfl, hq1, hI, hrr, hgb⟩ := hrel
            have hmlow := hI.low
            have hFl := hI.len
            rw [unhide HN] at hFl
            have HI := hide hI
            have HRR := hide hrr
            clear hI
            by_cases hlt2 : k + 1 + (q + 1) < N
            · have hmb : m < N := by omega
              have r := row_ro hrr (i := k + 1 + q) (by rw [hFl]; omega)
              have s := row_ro hrr (i := k + 1 + (q + 1)) (by rw [hFl]; omega)
              have z := row_ro hrr (i := m) (by rw [hFl]; omega)
              rw [(unhide HI).high (k + 1 + q) (by omega) (by rw [unhide HN]; omega), show (k + 1 + q) * 7 = (k + 1) * 7 + q * 7 by omega] at r
              rw [(unhide HI).high (k + 1 + (q + 1)) (by omega) (by rw [unhide HN]; omega), show (k + 1 + (q + 1)) * 7 = (k + 1) * 7 + (q + 1) * 7 by omega] at s
              obtain ⟨X, hX⟩ : ∃ X, E.getD (k + 1 + q) ro0 = X := ⟨_, rfl⟩
              obtain ⟨Y, hY⟩ : ∃ Y, E.getD (k + 1 + (q + 1)) ro0 = Y := ⟨_, rfl⟩
              obtain ⟨Z, hZ⟩ : ∃ Z, F.getD m ro0 = Z := ⟨_, rfl⟩
              rw [hX] at r
              rw [hY] at s
              rw [hZ] at z
              have HX := hide hX
              have HYY := hide hY
              have HS := hide s
              have HZ := hide z
              have hfz := fun i => fz_of hrr i
              have HFZ := hide hfz
              have HFL := hide hFl
              clear hX hY hZ hrr hFl hfz
              have hi1 : (q : Int) + 1 < ((N - (k + 1) : Nat) : Int) := by omega
              have hi2 : (q : Int) < ((N - (k + 1) : Nat) : Int) := by omega
              have l0 := fun d : Later wr => d.cell r.c0
              have l1 := fun d : Later wr => d.cell r.c1
              have l2 := fun d : Later wr => d.cell r.c2
              have l3 := fun d : Later wr => d.cell r.c3
              have l4 := fun d : Later wr => d.cell r.c4
              have l5 := fun d : Later wr => d.cell r.c5
              have l6 := fun d : Later wr => d.cell r.c6
              have m0 := fun d : Later wr => d.cell s.c0
              have m1 := fun d : Later wr => d.cell s.c1
              have m2 := fun d : Later wr => d.cell s.c2
              have m3 := fun d : Later wr => d.cell s.c3
              have m4 := fun d : Later wr => d.cell s.c4
              have m5 := fun d : Later wr => d.cell s.c5
              have m6 := fun d : Later wr => d.cell s.c6
              have hnel := Later.one wr
              clear r s z
              go_wp2
              cases hq : eqR Y X
              · skip
                refine wp_region_later (by kernel_rfl) (by kernel_rfl) ?_
                repeat (go_big_quiet_step (fail))
                refine wpQuiet_step (fun K hK => ?_)
                clear l0 l1 l2 l3 l4 l5 l6 m0 m1 m2 m3 m4 m5 m6
                go_simp
                refine ⟨.bool true, fun d9 => ?_, hK _ ?_⟩
                · simp only [ifR]
                  rw [hq]
                  exact ⟨rfl, rfl⟩
                clear hK K
                refine wpQuiet_nil ?_
                intro w11 hw'
                obtain ⟨⟨w13, hb13⟩, hw''⟩ := hw'
                subst hw''
                clear hnel
                have hr13 := (hb13.block g (Array.getElem?_eq_some_iff.1 (unhide HRR)).1).trans (unhide HRR)
                have hg13 := gb_trans hgb (gb_below (r := some g) hb13)
                have s13 := (unhide HS).up hb13
                have z13 := (unhide HZ).up hb13
                have c0 := s13.c0
                have d0 := z13.c0
                have c1 := s13.c1
                have d1 := z13.c1
                have c2 := s13.c2
                have d2 := z13.c2
                have c3 := s13.c3
                have d3 := z13.c3
                have c4 := s13.c4
                have d4 := z13.c4
                have c5 := s13.c5
                have d5 := z13.c5
                have c6 := s13.c6
                have d6 := z13.c6
                have hfz := fun i => fz_of hr13 i
                have HR13 := hide hr13
                have HI2 : Hid (CmpI E (F.set m Y) (k + 1 + q + 1 + 1) (m + 1)) := by
                  have h := CmpI.put (unhide HI) (by rw [unhide HN]; omega) (by rw [unhide HX]; exact (show eqR X (E.getD (k + 1 + (q + 1)) ro0) = false by rw [unhide HYY]; exact eqR_sym hq))
                  have e : E.getD (k + 1 + q + 1) ro0 = Y := unhide HYY
                  rw [e] at h
                  exact h
                have hmc : m < cap := by omega
                clear s13 z13 hr13 hb13 hgb
                go_upto_region 13 with fail
                generalize hWW : World.setCell _ _ _ = W9
                have h9 : W9.heap[g]? = some (.cells ((F.set m Y).flatMap roL ++ sp).toArray 61 (0, 0)) ∧ w.grownBy W9 (some g) := by
                  rw [← hWW]
                  exact ⟨rw_put roL 7 (fun _ => rfl) Y (unhide HR13) (by rw [unhide HFL]; exact hmb), gb_trans hg13 (gb_setCells g (roL Y) (m * 7) _)⟩
                clear hWW c0 c1 c2 c3 c4 c5 c6 d0 d1 d2 d3 d4 d5 d6 hfz hg13
                go_wp2
                go_roundw
                case rel => exact ⟨q + 1, m + 1, F.set m Y, by go_num, by go_num, by omega, unhide HI2, h9.1, h9.2⟩
                case measure => (simp [intOf] <;> omega)
              · skip
                refine wp_region_later (by kernel_rfl) (by kernel_rfl) ?_
                repeat (go_big_quiet_step (fail))
                refine wpQuiet_step (fun K hK => ?_)
                clear l0 l1 l2 l3 l4 l5 l6 m0 m1 m2 m3 m4 m5 m6
                go_simp
                refine ⟨.bool false, fun d9 => ?_, hK _ ?_⟩
                · simp only [ifR]
                  rw [hq]
                  exact ⟨rfl, rfl⟩
                clear hK K
                refine wpQuiet_nil ?_
                intro w11 hw'
                obtain ⟨⟨w13, hb13⟩, hw''⟩ := hw'
                subst hw''
                clear hnel
                have HI2 : Hid (CmpI E F (k + 1 + q + 1 + 1) m) := CmpI.same (unhide HI) (by rw [unhide HN]; omega) (by rw [unhide HX]; exact (show eqR X (E.getD (k + 1 + (q + 1)) ro0) = true by rw [unhide HYY]; exact eqR_sym hq))
                go_wp2
                go_roundw
                case rel => exact ⟨q + 1, m, F, by go_num, by go_num, by omega, unhide HI2, (hb13.block g (Array.getElem?_eq_some_iff.1 (unhide HRR)).1).trans (unhide HRR), gb_trans hgb (gb_below hb13)⟩
                case measure => (simp [intOf] <;> omega)
            · have hend : k + 1 + q + 1 = N := by omega
              have hmM : Hid (m = M) := by
                show _ = _
                have h := (unhide HI).many
                rw [hend, ← unhide HN, List.take_of_length_le (Nat.le_refl _), unhide HM] at h
                exact h
              have hpre : Hid (F.take m = cmpL E) := by
                show _ = _
                have h := (unhide HI).pre
                rw [hend, ← unhide HN, List.take_of_length_le (Nat.le_refl _)] at h
                exact h
              have hmc : ¬ cap = m := by omega
              have hmn : m < N := by omega
              have hlq : ¬ ((q : Int) + 1 < ((N - (k + 1) : Nat) : Int)) := by omega
              obtain ⟨Z, hZ⟩ : ∃ Z, (Builtin.zeroCells (Value.agg zeroRo).cells (N - m)).toList = Z := ⟨_, rfl⟩
              have hZl : Z.length = (N - m) * 7 := by rw [← hZ, Array.length_toList, size_zeroCells]; rfl
              have hfl : (F.flatMap roL ++ sp).length = cap * 7 := by
                have h1 := unhide HL
                rw [List.length_append, flat_len2 roL 7 (fun _ => rfl), unhide HN] at h1
                rw [List.length_append, flat_len2 roL 7 (fun _ => rfl), hFl]
                exact h1
              have hcl : ∀ ty, (Builtin.clear_ #[56] ty #[.slice (some ⟨g, m * 7, none⟩) (N - m) (cap - m)]).run Tryz.prog wr = .ok (.tuple #[]) (wr.setCells g (m * 7) Z) := fun ty => by
                rw [← hZ]
                refine run_clearN wr 56 61 ty (.agg zeroRo) 7 Tryz.underlying56 zeroRo_run rfl (by simp [Value.cells, Value.oneCell']) g (m * 7) (N - m) _ (by omega) (fun j hj => ?_) (fun j hj => fz_of hrr _)
                have hlt : m * 7 + j < (F.flatMap roL ++ sp).length := by rw [hfl]; omega
                rw [cell_of hrr _ (v := (F.flatMap roL ++ sp)[m * 7 + j]) (by simp [hlt])]
                rfl
              obtain ⟨W9, hW9⟩ : ∃ W9, wr.setCells g (m * 7) Z = W9 := ⟨_, rfl⟩
              have HEND : Hid (RowRo W9 g cap (cmpL E) ∧ w.grownBy W9 (some g)) := by
                have h1 := row_setCells Z (m * 7) wr _ hrr (by rw [hZl, hfl]; omega)
                have e1 : (F.flatMap roL ++ sp).take (m * 7) = (cmpL E).flatMap roL := by
                  rw [List.take_append_of_le_length (by rw [flat_len2 roL 7 (fun _ => rfl), hFl]; omega), flat_take roL 7 (fun _ => rfl) F m (by omega), unhide hpre]
                rw [e1, List.append_assoc] at h1
                rw [← hW9]
                refine ⟨⟨_, h1, ?_⟩, gb_trans hgb (gb_setCells g Z _ _)⟩
                have h2 := flat_len2 roL 7 (fun _ => rfl) (cmpL E)
                rw [unhide HM, ← unhide hmM] at h2
                rw [List.length_append, List.length_append, h2, hZl, List.length_drop, hfl]
                omega
              rw [hW9] at hcl
              clear hgb hrr hZ hZl hfl hW9 hFl hend
              go_wp2
              rw [unhide hmM]
              go_ret
              exact ⟨rfl, unhide HEND⟩
      · obtain rfl : k + 1 = N := by omega
        have hE : Hid (cmpL E = E) := by
          show _ = _
          have h := unhide HC
          rw [← unhide HN] at h
          exact cmp_all h
        have hMN : Hid (M = k + 1) := by show _ = _; rw [← unhide HM, unhide hE, unhide HN]
        go_wp2
        go_ret
        rw [unhide hE, unhide hMN]
        exact ⟨rfl, ⟨sp, hrr, unhide HL⟩, hgb⟩
end Go.Proofs.YtdgmdapijhbocaaGreat

/- The laying of the library's slices.SortFunc at api.Row. -/
namespace Go.Proofs.YtdgmdapijhbocaaGreat
open Go.Shelf
def sortRow_ren : Go.Shelf.Ren := ⟨fun | 6 => 107 | 15 => 155 | 14 => 154 | 28 => 182 | 29 => 183 | 20 => 174 | 21 => 175 | 22 => 176 | 23 => 177 | 24 => 178 | 25 => 179 | 26 => 180 | 27 => 181 | 46 => 194 | 47 => 195 | 48 => 196 | 49 => 197 | 50 => 198 | 57 => 204 | n => n, fun | 22 => 56 | 24 => 61 | 25 => 143 | 3 => 3 | 39 => 169 | 0 => 0 | 53 => 189 | 55 => 191 | 4 => 4 | 46 => 182 | 45 => 181 | 50 => 186 | 5 => 5 | 9 => 9 | 66 => 198 | 70 => 202 | 76 => 206 | 77 => 207 | n => n, fun | n => n⟩
theorem sortRow : Go.Proofs.SlLaysF0.n6 Tryz.prog sortRow_ren := {
  mixed := by kernel_rfl,
  f6 := ⟨Tryz.f107.name, by decide, Tryz.func107.trans (congrArg some (by kernel_rfl))⟩,
  f14 := ⟨Tryz.f154.name, by decide, Tryz.func154.trans (congrArg some (by kernel_rfl))⟩,
  f15 := Tryz.func155.trans (congrArg some (by kernel_rfl)),
  f20 := ⟨Tryz.f174.name, by decide, Tryz.func174.trans (congrArg some (by kernel_rfl))⟩,
  f21 := ⟨Tryz.f175.name, by decide, Tryz.func175.trans (congrArg some (by kernel_rfl))⟩,
  f22 := ⟨Tryz.f176.name, by decide, Tryz.func176.trans (congrArg some (by kernel_rfl))⟩,
  f23 := ⟨Tryz.f177.name, by decide, Tryz.func177.trans (congrArg some (by kernel_rfl))⟩,
  f24 := ⟨Tryz.f178.name, by decide, Tryz.func178.trans (congrArg some (by kernel_rfl))⟩,
  f25 := ⟨Tryz.f179.name, by decide, Tryz.func179.trans (congrArg some (by kernel_rfl))⟩,
  f26 := ⟨Tryz.f180.name, by decide, Tryz.func180.trans (congrArg some (by kernel_rfl))⟩,
  f27 := ⟨Tryz.f181.name, by decide, Tryz.func181.trans (congrArg some (by kernel_rfl))⟩,
  f28 := Tryz.func182.trans (congrArg some (by kernel_rfl)),
  f29 := Tryz.func183.trans (congrArg some (by kernel_rfl)),
  f46 := ⟨Tryz.f194.name, by decide, Tryz.func194.trans (congrArg some (by kernel_rfl))⟩,
  f47 := Tryz.func195.trans (congrArg some (by kernel_rfl)),
  f48 := Tryz.func196.trans (congrArg some (by kernel_rfl)),
  f49 := ⟨Tryz.f197.name, by decide, Tryz.func197.trans (congrArg some (by kernel_rfl))⟩,
  f50 := ⟨Tryz.f198.name, by decide, Tryz.func198.trans (congrArg some (by kernel_rfl))⟩,
  f57 := ⟨Tryz.f204.name, by decide, Tryz.func204.trans (congrArg some (by kernel_rfl))⟩,
  t0 := Tryz.underlying0,
  a0 := Tryz.isAgg0,
  z0 := Tryz.sizeOf0,
  v0 := Tryz.zeroValue0,
  t3 := Tryz.underlying3,
  a3 := Tryz.isAgg3,
  z3 := Tryz.sizeOf3,
  v3 := Tryz.zeroValue3,
  t4 := Tryz.underlying4,
  a4 := Tryz.isAgg4,
  z4 := Tryz.sizeOf4,
  v4 := Tryz.zeroValue4,
  t5 := Tryz.underlying5,
  a5 := Tryz.isAgg5,
  z5 := Tryz.sizeOf5,
  v5 := Tryz.zeroValue5,
  t9 := Tryz.underlying9,
  a9 := Tryz.isAgg9,
  z9 := Tryz.sizeOf9,
  v9 := Tryz.zeroValue9,
  t22 := Tryz.underlying56,
  a22 := Tryz.isAgg56,
  z22 := Tryz.sizeOf56,
  v22 := Tryz.zeroValue56,
  t25 := Tryz.underlying143,
  a25 := Tryz.isAgg143,
  z25 := Tryz.sizeOf143,
  v25 := Tryz.zeroValue143,
  t39 := Tryz.underlying169,
  a39 := Tryz.isAgg169,
  z39 := Tryz.sizeOf169,
  v39 := Tryz.zeroValue169,
  t45 := Tryz.underlying181,
  a45 := Tryz.isAgg181,
  z45 := Tryz.sizeOf181,
  v45 := Tryz.zeroValue181,
  t46 := Tryz.underlying182,
  a46 := Tryz.isAgg182,
  z46 := Tryz.sizeOf182,
  v46 := Tryz.zeroValue182,
  t50 := Tryz.underlying186,
  a50 := Tryz.isAgg186,
  z50 := Tryz.sizeOf186,
  v50 := Tryz.zeroValue186,
  t53 := Tryz.underlying189,
  a53 := Tryz.isAgg189,
  z53 := Tryz.sizeOf189,
  v53 := Tryz.zeroValue189,
  t55 := Tryz.underlying191,
  a55 := Tryz.isAgg191,
  z55 := Tryz.sizeOf191,
  v55 := Tryz.zeroValue191,
  t66 := Tryz.underlying198,
  a66 := Tryz.isAgg198,
  z66 := Tryz.sizeOf198,
  v66 := Tryz.zeroValue198,
  t70 := Tryz.underlying202,
  a70 := Tryz.isAgg202,
  z70 := Tryz.sizeOf202,
  v70 := Tryz.zeroValue202,
  t76 := Tryz.underlying206,
  a76 := Tryz.isAgg206,
  z76 := Tryz.sizeOf206,
  v76 := Tryz.zeroValue206,
  t77 := Tryz.underlying207,
  a77 := Tryz.isAgg207,
  z77 := Tryz.sizeOf207,
  v77 := Tryz.zeroValue207 }
end Go.Proofs.YtdgmdapijhbocaaGreat

/- The order of rows: list.rowsOf's closure, and the library's sort over it. -/
namespace Go.Proofs.YtdgmdapijhbocaaGreat
open Go.RowKit Go.Maps Go.Sort
set_option maxRecDepth 100000
set_option linter.unusedVariables false
set_option linter.unusedSimpArgs false
theorem isNaNs_any (s : ByteArray) (w : World) : Calls Tryz.prog 156 #[.string s] w fun e w' => e = .returned (.bool false) ∧ w = w' := by
  go_enter Tryz.func156, Tryz.ntmps156
  go_wp2
  go_ret
  exact ⟨by simp, rfl⟩
theorem isNaNi_any (s : Int) (w : World) : Calls Tryz.prog 157 #[.int .i64 s] w fun e w' => e = .returned (.bool false) ∧ w = w' := by
  go_enter Tryz.func157, Tryz.ntmps157
  go_wp2
  go_ret
  exact ⟨by simp, rfl⟩
def cmpS (a b : ByteArray) : Int := if ltS a b then -1 else if eqS a b then 0 else 1
def cmpN (a b : Int) : Int := if a < b then -1 else if b < a then 1 else 0
set_option maxHeartbeats 1000000 in
theorem cmpS_any (a b : ByteArray) (w : World) : Calls Tryz.prog 109 #[.string a, .string b] w fun e w' => e = .returned (.int .i64 (cmpS a b)) ∧ w = w' := by
  have HE : Hid (cmpS a b = if Op.bytesLess a.toList b.toList then -1 else if a.toList == b.toList then 0 else 1) := rfl
  obtain ⟨R, hR⟩ : ∃ R, cmpS a b = R := ⟨_, rfl⟩
  rw [hR] at HE ⊢
  clear hR
  cases t : Op.bytesLess a.toList b.toList
  · rw [t] at HE
    cases t2 : (a.toList == b.toList)
    · rw [t2] at HE
      go_enter Tryz.func109, Tryz.ntmps109
      go_wp2_with (go_at_call 156; refine (isNaNs_any _ _).mono ?_; rintro e w' ⟨rfl, rfl⟩)
      go_ret
      exact ⟨ret_int (unhide HE).symm, rfl⟩
    · rw [t2] at HE
      go_enter Tryz.func109, Tryz.ntmps109
      go_wp2_with (go_at_call 156; refine (isNaNs_any _ _).mono ?_; rintro e w' ⟨rfl, rfl⟩)
      go_ret
      exact ⟨ret_int (unhide HE).symm, rfl⟩
  · rw [t] at HE
    go_enter Tryz.func109, Tryz.ntmps109
    go_wp2_with (go_at_call 156; refine (isNaNs_any _ _).mono ?_; rintro e w' ⟨rfl, rfl⟩)
    go_ret
    exact ⟨ret_int (unhide HE).symm, rfl⟩
set_option maxHeartbeats 1000000 in
theorem cmpN_any (a b : Int) (w : World) : Calls Tryz.prog 110 #[.int .i64 a, .int .i64 b] w fun e w' => e = .returned (.int .i64 (cmpN a b)) ∧ w = w' := by
  have HE : Hid (cmpN a b = if a < b then -1 else if b < a then 1 else 0) := rfl
  obtain ⟨R, hR⟩ : ∃ R, cmpN a b = R := ⟨_, rfl⟩
  rw [hR] at HE ⊢
  clear hR
  by_cases t : a < b
  · rw [if_pos t] at HE
    go_enter Tryz.func110, Tryz.ntmps110
    go_wp2_with (go_at_call 157; refine (isNaNi_any _ _).mono ?_; rintro e w' ⟨rfl, rfl⟩)
    go_ret
    exact ⟨ret_int (unhide HE).symm, rfl⟩
  · rw [if_neg t] at HE
    by_cases t2 : b < a
    · rw [if_pos t2] at HE
      go_enter Tryz.func110, Tryz.ntmps110
      go_wp2_with (go_at_call 157; refine (isNaNi_any _ _).mono ?_; rintro e w' ⟨rfl, rfl⟩)
      go_ret
      exact ⟨ret_int (unhide HE).symm, rfl⟩
    · rw [if_neg t2] at HE
      go_enter Tryz.func110, Tryz.ntmps110
      go_wp2_with (go_at_call 157; refine (isNaNi_any _ _).mono ?_; rintro e w' ⟨rfl, rfl⟩)
      go_ret
      exact ⟨ret_int (unhide HE).symm, rfl⟩
/-- Which of two rows comes first. -/
def rowC (X Y : Ro) : Int := if eqS X.key Y.key then cmpN Y.id X.id else cmpS X.key Y.key
set_option maxHeartbeats 1000000 in
theorem rowC_any (X Y : Ro) (w : World) : Calls Tryz.prog 108 #[roV X, roV Y] w fun e w' => e = .returned (.int .i64 (rowC X Y)) ∧ ∃ q os', w' = grow (w.drewN q) os' := by
  have HE : Hid (rowC X Y = if X.key.toList == Y.key.toList then cmpN Y.id X.id else cmpS X.key Y.key) := rfl
  obtain ⟨R, hR⟩ : ∃ R, rowC X Y = R := ⟨_, rfl⟩
  rw [hR] at HE ⊢
  clear hR
  cases t : (X.key.toList == Y.key.toList)
  · rw [t] at HE
    obtain ⟨C, hC⟩ : ∃ C, cmpS X.key Y.key = C := ⟨_, rfl⟩
    have HC := hide (cmpS_any X.key Y.key)
    rw [hC] at HE HC
    clear hC
    go_enter Tryz.func108, Tryz.ntmps108
    go_wp2_with fail
    refine (unhide HC _).mono ?_
    rintro e w1 ⟨rfl, rfl⟩
    go_wp2
    go_ret
    exact ⟨ret_int (unhide HE).symm, 0, _, by rw [alloc_eq_grow, alloc_eq_grow, grow_grow]; rfl⟩
  · rw [t] at HE
    obtain ⟨C, hC⟩ : ∃ C, cmpN Y.id X.id = C := ⟨_, rfl⟩
    have HC := hide (cmpN_any Y.id X.id)
    rw [hC] at HE HC
    clear hC
    go_enter Tryz.func108, Tryz.ntmps108
    go_wp2_with fail
    refine (unhide HC _).mono ?_
    rintro e w1 ⟨rfl, rfl⟩
    go_wp2
    go_ret
    exact ⟨ret_int (unhide HE).symm, 0, _, by rw [alloc_eq_grow, alloc_eq_grow, grow_grow]; rfl⟩
/-- A row is ahead of another. -/
def rowLt (X Y : Ro) : Bool := ltS X.key Y.key || (eqS X.key Y.key && decide (Y.id < X.id))
theorem rowC_lt (X Y : Ro) : ltOf rowC X Y = rowLt X Y := by
  unfold ltOf rowC rowLt cmpS cmpN
  cases e : eqS X.key Y.key
  · cases l : ltS X.key Y.key <;> simp
  · have e2 := eqS_to e
    rw [e2, ltS_irr]
    by_cases h : Y.id < X.id
    · simp [h]
    · by_cases h2 : X.id < Y.id <;> simp [h, h2]
theorem rowLt_iff (X Y : Ro) : rowLt X Y = true ↔ (ltS X.key Y.key = true ∨ (X.key = Y.key ∧ Y.id < X.id)) := by
  unfold rowLt
  simp only [Bool.or_eq_true, Bool.and_eq_true, decide_eq_true_eq, eqS_iff]
theorem ltS_no {a b c : ByteArray} (h : ltS a b = false) (k : ltS b c = false) : ltS a c = false := by
  cases l : ltS a c
  · rfl
  · cases e : eqS b c
    · have h1 := ltS_tot k e
      have := ltS_tr l h1
      rw [h] at this; cases this
    · rw [← eqS_to e, h] at l; cases l
theorem rowSwo : SWO (ltOf rowC) where
  irrefl x := by rw [rowC_lt]; unfold rowLt; rw [ltS_irr]; simp
  trans x y z h1 h2 := by
    rw [rowC_lt, rowLt_iff] at *
    rcases h1 with h1 | ⟨h1, h3⟩ <;> rcases h2 with h2 | ⟨h2, h4⟩
    · exact .inl (ltS_tr h1 h2)
    · rw [← h2]; exact .inl h1
    · rw [h1]; exact .inl h2
    · exact .inr ⟨h1.trans h2, by omega⟩
  ntrans x y z h1 h2 := by
    rw [rowC_lt] at *
    cases h : rowLt x z
    · rfl
    · exfalso
      have n1 : ¬ rowLt x y = true := by rw [h1]; decide
      have n2 : ¬ rowLt y z = true := by rw [h2]; decide
      rw [rowLt_iff] at h n1 n2
      have a1 : ltS x.key y.key = false := by simpa using fun k => n1 (.inl k)
      have a2 : ltS y.key z.key = false := by simpa using fun k => n2 (.inl k)
      have a3 := ltS_no a1 a2
      rcases h with h | ⟨h, h'⟩
      · rw [a3] at h; cases h
      · have b1 : ¬ (x.key = y.key) ∨ ¬ (y.id < x.id) := by
          by_cases k : x.key = y.key
          · exact .inr fun q => n1 (.inr ⟨k, q⟩)
          · exact .inl k
        have e1 : x.key = y.key := by
          cases k : eqS x.key y.key
          · have l1 := ltS_tot a1 k
            rw [← h] at a2
            rw [a2] at l1; cases l1
          · exact eqS_to k
        have e2 : y.key = z.key := by rw [← e1]; exact h
        rcases b1 with b1 | b1
        · exact b1 e1
        · exact n2 (.inr ⟨e2, by omega⟩)
theorem roL_one : ∀ x : Ro, ∀ v ∈ roL x, v.oneCell' = true := fun x v hv => by
  simp at hv
  rcases hv with rfl | rfl | rfl | rfl | rfl | rfl | rfl <;> rfl
theorem flatK_list {α : Type} [Inhabited α] (C : α → List Value) (k : Nat) (hk : ∀ x, (C x).length = k) (E : List α) : (flatK C k E.toArray).toList = E.flatMap C := by
  have hl : (flatK C k E.toArray).toList.length = (E.flatMap C).length := by rw [Array.length_toList, size_flatK, flat_len2 C k hk]; simp
  refine List.ext_getElem? fun t => ?_
  by_cases ht : t < E.length * k
  · have k0 : 0 < k := by
      rcases Nat.eq_zero_or_pos k with h | h
      · subst h; simp at ht
      · exact h
    have hd : t / k < E.length := Nat.div_lt_of_lt_mul (by rw [Nat.mul_comm]; exact ht)
    have hm := Nat.mod_lt t k0
    have h1 := flat_at C k hk default E (t / k) (t % k) hd hm
    rw [Nat.mul_comm, Nat.div_add_mod] at h1
    have h2 := get_flatK C k E.toArray t (by simpa using ht)
    have h3 : t < (flatK C k E.toArray).size := by simpa using ht
    rw [h1, Array.getElem?_toList, Array.getElem?_eq_getElem h3, ← getElem!_pos (flatK C k E.toArray) t h3, h2]
    have e1 : E.toArray[t / k]! = E.getD (t / k) default := by
      rw [getElem!_pos _ _ (by simpa using hd)]
      simp [List.getD, List.getElem?_eq_getElem hd]
    rw [e1]
    have h4 : t % k < (C (E.getD (t / k) default)).length := by rw [hk]; exact hm
    rw [getElem!_pos (C (E.getD (t / k) default)) (t % k) h4, List.getElem?_eq_getElem h4]
  · rw [List.getElem?_eq_none (by rw [hl, flat_len2 C k hk]; omega), List.getElem?_eq_none (by rw [flat_len2 C k hk]; omega)]
theorem put_heap {w : World} {g : Nat} {cur sp : List Value} {T : TypeId} {d : Array Value} (hr : w.heap[g]? = some (.cells (cur ++ sp).toArray T (0, 0))) (hd : d.size = cur.length) :
    (putRow id w g 0 d).heap[g]? = some (.cells (d.toList ++ sp).toArray T (0, 0)) := by
  unfold putRow mapBlock
  simp only [Array.getElem?_modify, if_true, hr, Option.map_some, onCells]
  congr 2
  unfold putCells
  refine Array.ext_getElem? fun t => ?_
  simp only [Array.getElem?_mapIdx, List.getElem?_toArray, Nat.zero_le, true_and, Nat.zero_add, Nat.sub_zero]
  by_cases ht : t < cur.length
  · have h1 : t < d.toList.length := by rw [Array.length_toList, hd]; exact ht
    rw [List.getElem?_append_left ht, List.getElem?_append_left h1, List.getElem?_eq_getElem ht, Option.map_some, if_pos (by omega), List.getElem?_eq_getElem h1]
    have h2 : t < d.size := by omega
    rw [getElem!_pos d t h2]
    simp
  · have hdl : d.toList.length = cur.length := by rw [Array.length_toList, hd]
    rw [List.getElem?_append_right (by omega), List.getElem?_append_right (by omega), hdl]
    cases sp[t - cur.length]? with
    | none => rfl
    | some v => rw [Option.map_some, if_neg (by omega)]
theorem put_grown (w : World) (g : Nat) (d : Array Value) : w.grownBy (putRow id w g 0 d) (some g) :=
  ⟨rfl, rfl, rfl, by simp, fun k hk hne => by
    unfold putRow mapBlock
    simp only [Array.getElem?_modify]
    rw [if_neg (fun e => hne (by rw [e]))]⟩
theorem grow_grown (w : World) (os : Array Obj) (r : Option Nat) : w.grownBy (grow w os) r :=
  ⟨rfl, rfl, rfl, by simp, fun k hk _ => by unfold grow; simp [Array.getElem?_append_left hk]⟩
theorem ahead_grown (w : World) (n : Nat) (r : Option Nat) : w.grownBy (Sort.ahead w n) r := ⟨rfl, rfl, rfl, Nat.le_refl _, fun _ _ _ => rfl⟩
set_option maxHeartbeats 1000000 in
theorem sort_any (g cap : Nat) (E : List Ro) (w : World) (hw : RowRo w g cap E) (hcap : E.length ≤ 100000) :
    Calls Tryz.prog 107 #[.slice (some ⟨g, 0, none⟩) E.length cap, .func (.func 108) #[] #[]] w fun e w' => e = .returned (.tuple #[]) ∧ ∃ F : List Ro, F.Perm E ∧ F.Pairwise (fun x y => rowLt y x = false) ∧ RowRo w' g cap F ∧ w.grownBy w' (some g) := by
  obtain ⟨sp, hr, hl⟩ := hw
  have hg := (Array.getElem?_eq_some_iff.1 hr).1
  have eg : ∀ args w, (callFunc 108 args).run Tryz.prog w = .ok (.enter 108 args) w := enters_of Tryz.func108 (by kernel_rfl) rfl
  have hfl := flatK_list roL 7 (fun _ => rfl) E
  have hH : HoldsK roL 7 w g 0 E.toArray := fun j hj => by
    have hj' : j < (flatK roL 7 E.toArray).toList.length := by rw [Array.length_toList]; exact hj
    refine ⟨?_, fz_of hr _⟩
    rw [Nat.zero_add]
    refine cell_of hr j ?_
    rw [← hfl]
    have : (flatK roL 7 E.toArray)[j]! = (flatK roL 7 E.toArray).toList[j] := by rw [getElem!_pos _ j hj]; simp
    rw [List.getElem?_toArray, List.getElem?_append_left hj', List.getElem?_eq_getElem hj', this]
    rfl
  have hcon := AnyQ.slices_SortFunc sortRow 7 Tryz.isAgg61 Tryz.sizeOf61 roL (fun _ => rfl) roL_one rowC rowSwo 108 #[] g 0 cap E.toArray w eg (fun _ _ _ _ x y => rowC_any x y _) hH hg (by simp; omega)
  change Calls Tryz.prog 107 #[.slice (some ⟨g, 0, none⟩) E.length cap, .func (.func 108) #[] #[]] _ _ at hcon
  refine hcon.mono ?_
  rintro e w' ⟨rfl, d', n, os, hp, hs, rfl⟩
  have hsz : d'.size = E.length := by simpa using hp.1
  refine ⟨rfl, d'.toList, ?_, ?_, ⟨sp, ?_, ?_⟩, ?_⟩
  · have := hp.2.2
    have e1 : d'.extract 0 E.toArray.size = d' := by rw [show E.toArray.size = d'.size by simp [hsz]]; simp
    have e2 : E.toArray.extract 0 E.toArray.size = E.toArray := by simp
    rw [e1, e2] at this
    simpa using this
  · rw [List.pairwise_iff_getElem]
    intro i j hi hj hij
    have := hs i j (Nat.zero_le _) hij (by simpa [hsz] using hj)
    rw [rowC_lt, getElem!_pos d' j (by simpa using hj), getElem!_pos d' i (by simpa using hi)] at this
    simpa using this
  · unfold sortWorldK grow
    have hr' : (Sort.ahead w n).heap[g]? = some (.cells (E.flatMap roL ++ sp).toArray 61 (0, 0)) := hr
    have h1 := put_heap (d := flatK roL 7 d') hr' (by rw [size_flatK, hsz, flat_len2 roL 7 (fun _ => rfl)])
    have h2 := flatK_list roL 7 (fun _ => rfl) d'.toList
    rw [Array.toArray_toList] at h2
    rw [h2] at h1
    rw [Array.getElem?_append_left (by show g < (putRow id _ g 0 _).heap.size; simp; exact hg)]
    exact h1
  · rw [← hl, List.length_append, List.length_append, flat_len2 roL 7 (fun _ => rfl), flat_len2 roL 7 (fun _ => rfl), Array.length_toList, hsz]
  · exact gb_trans (gb_trans (ahead_grown w n _) (put_grown _ g _)) (grow_grown _ _ _)
end Go.Proofs.YtdgmdapijhbocaaGreat
