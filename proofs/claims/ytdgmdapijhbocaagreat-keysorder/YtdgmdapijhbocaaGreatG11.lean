/- state.drop, dropOne, dropUpload. -/
import Derived.Test.YtdgmdapijhbocaaGreatG10
import Derived.Deep.RegionLaw
import Derived.BigQuiet
import Derived.Deep.QuietTactic
import Derived.Deep.DrawnRows
import Derived.Deep.RegionHeldLaw
namespace Go.Proofs.YtdgmdapijhbocaaGreat
open Go.RowKit Go.Maps
set_option maxRecDepth 100000
set_option linter.unusedVariables false
set_option linter.unusedSimpArgs false
/-- A row of one's own, its elements and what is behind them. -/
theorem own_row {w : World} {B k : Nat} {T : TypeId} {v : Value} {n : Nat} {xs : List Value} (h : w.ownsRow B T k v n xs) (hn : 0 < n) : ∃ g cap sp, v = .slice (some ⟨g, 0, none⟩) n cap ∧ B ≤ g ∧ w.heap[g]? = some (.cells (xs ++ sp).toArray T (0, 0)) ∧ xs.length + sp.length = cap * k ∧ cap ≤ 9223372036854775807 ∧ n ≤ cap ∧ xs.length = n * k := by
  have hl := h.1
  rcases h.2 with ⟨rfl, h0⟩ | ⟨g, cap, cur, rfl, hB, hg, hnc, hc, hs, ht⟩
  · omega
  · refine ⟨g, cap, cur.toList.drop (n * k), rfl, hB, ?_, ?_, by unfold maxLen at hc; omega, hnc, hl⟩
    · rw [← ht, List.take_append_drop]; exact hg
    · have e1 : cur.toList.length = cur.size := Array.length_toList
      have e2 := Nat.mul_le_mul_right k hnc
      rw [List.length_drop]
      omega
theorem ve_one {w : World} {B : Nat} (ps : List (Ve × Value)) (h : ∀ p ∈ ps, OwI w B p.2 p.1.sec) : ∀ u ∈ ps.flatMap (fun p => veL p.1 p.2), u.oneCell' = true := fun u hu => by
  obtain ⟨y, hy, hu⟩ := List.mem_flatMap.1 hu
  obtain ⟨a, c, e, _⟩ := own_form (h y hy)
  rw [e] at hu
  simp at hu
  rcases hu with rfl | rfl | rfl | rfl | rfl | rfl | rfl | rfl | rfl | rfl | rfl | rfl <;> rfl
theorem up_one {w : World} {B : Nat} (ps : List (Up × Value)) (h : ∀ p ∈ ps, OwP w B p.2 p.1.parts) : ∀ u ∈ ps.flatMap (fun p => upL p.1 p.2), u.oneCell' = true := fun u hu => by
  obtain ⟨y, hy, hu⟩ := List.mem_flatMap.1 hu
  obtain ⟨a, c, e, _⟩ := (h y hy).form
  rw [e] at hu
  simp at hu
  rcases hu with rfl | rfl | rfl | rfl <;> rfl
/-- What is left of a row when one of its elements goes. -/
theorem own_cut {α : Type} (C : α → List Value) (k : Nat) (hk : ∀ x, (C x).length = k) {w : World} {B g cap m i : Nat} {T : TypeId} {ps : List α} {sp cur : List Value} (hB : B ≤ g) (hps : ps.length = m + 1) (hi : i ≤ m) (hc : cap ≤ 9223372036854775807) (hm : m ≤ cap)
    (hr : w.heap[g]? = some (.cells cur.toArray T (0, 0))) (hl : cur.length = cap * k) (ht : cur.take (m * k) = ((ps.flatMap C) ++ sp).take (i * k) ++ (((ps.flatMap C) ++ sp).take ((m + 1) * k)).drop ((i + 1) * k)) :
    w.ownsRow B T k (.slice (some ⟨g, 0, none⟩) m cap) (ps.take i ++ ps.drop (i + 1)).length ((ps.take i ++ ps.drop (i + 1)).flatMap C) := by
  have hf := flat_len2 C k hk ps
  rw [hps] at hf
  have e0 : (ps.take i ++ ps.drop (i + 1)).length = m := by rw [List.length_append, List.length_take, List.length_drop, hps]; omega
  have e1 : ((ps.flatMap C) ++ sp).take ((m + 1) * k) = ps.flatMap C := List.take_left' hf
  have e2 : ((ps.flatMap C) ++ sp).take (i * k) = (ps.take i).flatMap C := by
    rw [List.take_append_of_le_length (by rw [hf]; exact Nat.mul_le_mul_right _ (by omega)), flat_take C k hk ps i (by omega)]
  rw [e1, e2, flat_drop C k hk ps (i + 1) (by omega), ← List.flatMap_append] at ht
  rw [e0]
  exact ⟨by rw [flat_len2 C k hk, e0], .inr ⟨g, cap, _, rfl, hB, hr, hm, by unfold maxLen; omega, by simpa using hl, ht⟩⟩
def cutV (l : List Ve) (k : Nat) : List Ve := l.take k ++ l.drop (k + 1)
def drpS (S : St) (k : Nat) : St := { unaS S (S.ves.getD k ve0).id with ves := S.ves.take k ++ S.ves.drop (k + 1) }
theorem unaS_wf {S : St} (h : WfS S) (id : Int) : WfS (unaS S id) := ⟨h.bus, h.ves, h.ups, fun x hx => h.que x (List.mem_filter.1 hx).1, h.gone⟩
set_option maxHeartbeats 4000000 in
theorem dropW_any (S : St) (k : Nat) (B X : Nat) (b v u q g : Value) (w : World) (hr : w.heap[X]? = some (.cells (stA S b v u q g) 29 (0, 0))) (hO : OSt w B b v u q g S) (hX : B ≤ X) (hw : WfS S) (hk : k < S.ves.length) (hn : S.ves.length ≤ 1000) :
    Calls Tryz.prog 123 #[.pointer (some ⟨X, 0, none⟩), .int .i64 k] w fun e w' => e = .returned (.tuple #[]) ∧ Bx w' B X (drpS S k) ∧ Below B w w' ∧ (∀ (n : Nat) (c : Array Value) (fz : Nat × Nat), v.ownBlock ≠ some n → w.heap[n]? = some (.cells c 36 fz) → w'.heap[n]? = some (.cells c 36 fz)) := by
  have hXl := (Array.getElem?_eq_some_iff.1 hr).1
  have HR0 := hide hr
  have HO0 := hide hO
  have hL := (hO.ves.lst hw.ves)
  obtain ⟨va, vc, rfl, hv1, hv2⟩ := hO.ves.form
  unfold maxLen at hv2
  have c3 := cell_of hr 3 rfl
  obtain ⟨b8, o8, e8, r⟩ := Lst.at hL hk
  subst e8
  obtain ⟨I, hI⟩ : ∃ I, (S.ves.getD k ve0).id = I := ⟨_, rfl⟩
  have c0 := r.c0
  rw [hI] at c0
  have HII := hide hI
  clear hr hO hL r hI
  go_enter Tryz.func123, Tryz.ntmps123
  go_wp2_with fail
  refine (unaskW_any S I B X b _ u q g w (unhide HR0) (unhide HO0) hX hw).mono ?_
  rintro e w1 ⟨rfl, ⟨q1, hr1, hO1⟩, hl1, hoth⟩
  have HOT := hide hoth
  have hXl1 := (Array.getElem?_eq_some_iff.1 hr1).1
  obtain ⟨ps, hps, hown, hin⟩ := hO1.ves
  have hpl : ps.length = S.ves.length := by have := congrArg List.length hps; rw [List.length_map] at this; exact this
  obtain ⟨m, hm⟩ : ∃ m, S.ves.length = m + 1 := ⟨S.ves.length - 1, by omega⟩
  rw [hpl, hm] at hown
  obtain ⟨gv, cap, sp, hvv, hBg, hrow, hlen, hcap, hnc, hxl⟩ := own_row hown (by omega)
  injection hvv with ev1 ev2 ev3
  subst ev3
  injection ev1 with ev1
  injection ev1 with ev1 ev4 _
  subst ev1 ev4
  have d3 := cell_of hr1 3 rfl
  have HR1 := hide hr1
  have HO1 := hide hO1
  have HRow := hide hrow
  have H1 := hide (ve_one ps hin)
  have HPS := hide hps
  have HIN := hide hin
  have HPL : Hid (ps.length = m + 1) := by show _ = _; rw [hpl, hm]
  have hkm : k ≤ m := by omega
  have HLEN := hide hlen
  have HXL := hide hxl
  clear c0 c3 hr1 hO1 hown hrow hin hps hpl hlen hxl
  go_wp2_with fail
  refine (deleteV_any b8 m vc k ((ps.flatMap fun p => veL p.1 p.2) ++ sp) w1 (unhide HRow) (by rw [List.length_append]; exact unhide HLEN) hnc hcap hkm (by
    rw [List.take_left' (unhide HXL)]
    exact unhide H1)).mono ?_
  rintro e w2 ⟨rfl, ⟨cur', hr2, hcl, hct⟩, hg2⟩
  have htk := row_typ (unhide HRow)
  have hrX := row_kept (unhide HR1) hg2 htk (by decide)
  have hO1 := unhide HO1
  have e3 := cell_of hrX 3 rfl
  have f3 := fz_of hrX 3
  have HB : Hid (Bx (w2.setCell ⟨X, 3, none⟩ (.slice (some ⟨b8, 0, none⟩) m vc)) B X (drpS S k)) := by
    have hs1 : OSt w2 B b (.slice (some ⟨b8, 0, none⟩) m vc) u q1 g (drpS S k) := by
      refine ⟨own_kept hO1.bus hg2 htk (by decide), ⟨ps.take k ++ ps.drop (k + 1), ?_, own_cut (fun p : Ve × Value => veL p.1 p.2) 12 (fun _ => rfl) hBg (unhide HPL) hkm hcap (by omega) hr2 hcl hct, ?_⟩, hO1.ups.kept hg2 htk (by decide) (by decide) (by decide), ?_, own_kept hO1.gone hg2 htk (by decide)⟩
      · rw [List.map_append, List.map_take, List.map_drop, unhide HPS]; rfl
      · intro p hp
        refine own_kept (unhide HIN p ?_) hg2 htk (by decide)
        rcases List.mem_append.1 hp with hp | hp
        · exact List.mem_of_mem_take hp
        · exact List.mem_of_mem_drop hp
      · have := own_kept hO1.que hg2 htk (by decide)
        rw [← unhide HII] at this
        exact this
    exact ⟨b, _, u, q1, g, rowS hrX 3 _ rfl, hs1.box (gb_setCell w2 X 3 _) (row_typ hrX)⟩
  have HL : Hid (Below B w (w2.setCell ⟨X, 3, none⟩ (.slice (some ⟨b8, 0, none⟩) m vc))) := bl_tr hl1 (bl_tr (gb_lo hg2 (by omega) (fun j e => by injection e with e; omega)) (gb_lo (gb_setCell w2 X 3 _) (by have := hg2.size; omega) (fun j e => by injection e with e; omega)))
  have HV : Hid (∀ (n : Nat) (c : Array Value) (fz : Nat × Nat), (some b8 : Option Nat) ≠ some n → w.heap[n]? = some (.cells c 36 fz) → (w2.setCell ⟨X, 3, none⟩ (.slice (some ⟨b8, 0, none⟩) m vc)).heap[n]? = some (.cells c 36 fz)) := fun n c fz hne hn => by
    have s1 := unhide HOT n c _ fz (by decide) (by decide) hn
    have s2 := (hg2.block n (Array.getElem?_eq_some_iff.1 s1).1 (fun e => hne e.symm)).trans s1
    exact row_kept s2 (gb_setCell w2 X 3 _) (row_typ hrX) (by decide)
  clear hg2 hr2 hcl hct htk hrX hO1 d3
  go_wp2
  go_end0
  exact ⟨rfl, unhide HB, unhide HL, unhide HV⟩
theorem drop_any (S : St) (k : Nat) (B X : Nat) (w : World) (h : Bx w B X S) (hX : B ≤ X) (hw : WfS S) (hk : k < S.ves.length) (hn : S.ves.length ≤ 1000) :
    Calls Tryz.prog 123 #[.pointer (some ⟨X, 0, none⟩), .int .i64 k] w fun e w' => e = .returned (.tuple #[]) ∧ Bx w' B X (drpS S k) ∧ Below B w w' := by
  obtain ⟨b, v, u, q, g, hr, hO⟩ := h
  refine (dropW_any S k B X b v u q g w hr hO hX hw hk hn).mono ?_
  rintro e w' ⟨h1, h2, h3, _⟩
  exact ⟨h1, h2, h3⟩
theorem OSt.boxr {w : World} {X : Nat} {S : St} {b v u q g : Value} (hr : w.heap[X]? = some (.cells (stA S b v u q g) 29 (0, 0))) : BoxS w X S b v u q g := ⟨cell_of hr 0 rfl, cell_of hr 1 rfl, cell_of hr 2 rfl, cell_of hr 3 rfl, cell_of hr 4 rfl, cell_of hr 5 rfl, cell_of hr 6 rfl⟩
def idxV (S : St) (id : Int) : Int := firstI S.ves.length (veP S.ves id)
def dr1E (S : St) (id : Int) : Int := if idxV S id < 0 then 6 else 0
set_option maxHeartbeats 2000000 in
theorem dropOne_any (S : St) (id : Int) (B X : Nat) (w : World) (h : Bx w B X S) (hX : B ≤ X) (hw : WfS S) (hn : S.ves.length ≤ 1000) :
    Calls Tryz.prog 64 #[.pointer (some ⟨X, 0, none⟩), .int .i64 id] w fun e w' => e = .returned (.int .i64 (dr1E S id)) ∧ (dr1E S id = 0 → Bx w' B X (drpS S (idxV S id).toNat)) ∧ Below B w w' := by
  have hXl := h.lt
  have HBx := hide h
  obtain ⟨b, v, u, q, g, hr, hO⟩ := h
  have hL := hide (hO.ves.lst hw.ves)
  have bx := OSt.boxr hr
  have c0 := bx.c0
  have c1 := bx.c1
  have c2 := bx.c2
  have c3 := bx.c3
  have c4 := bx.c4
  have c5 := bx.c5
  have c6 := bx.c6
  obtain ⟨E, hE⟩ : ∃ E, dr1E S id = E := ⟨_, rfl⟩
  obtain ⟨Q, hQ⟩ : ∃ Q, drpS S (idxV S id).toNat = Q := ⟨_, rfl⟩
  rw [hE, hQ]
  have HE := hide hE
  have HQ := hide hQ
  clear hr hO hE hQ bx
  go_enter Tryz.func64, Tryz.ntmps64
  go_wp2_with fail
  refine (findVersion_any S b v u q g id w (unhide hL)).mono ?_
  rintro e w1 ⟨rfl, hb1⟩
  have hbd := firstI_lt S.ves.length (veP S.ves id)
  obtain ⟨I, hI⟩ : ∃ I, firstI S.ves.length (veP S.ves id) = I := ⟨_, rfl⟩
  rw [hI] at hbd ⊢
  have HI : Hid (idxV S id = I) := hI
  have HB1 : Hid (Bx w1 B X S) := (unhide HBx).up hb1
  have HL1 : Hid (Below B w w1) := bl_lo hb1 (by omega)
  clear hI hb1 c0 c1 c2 c3 c4 c5 c6
  by_cases hneg : I < 0
  · have HE6 : Hid (E = 6) := by show _ = _; rw [← unhide HE]; unfold dr1E; rw [unhide HI, if_pos hneg]
    go_wp2
    go_ret
    exact ⟨ret_int (unhide HE6).symm, fun e => absurd ((unhide HE6).symm.trans e) (by decide), unhide HL1⟩
  · obtain ⟨k, rfl⟩ := Int.eq_ofNat_of_zero_le (show 0 ≤ I by omega)
    have HE0 : Hid (E = 0) := by show _ = _; rw [← unhide HE]; unfold dr1E; rw [unhide HI, if_neg hneg]
    have HQ2 : Hid (drpS S k = Q) := by show _ = _; rw [← unhide HQ, unhide HI]; rfl
    go_wp2_with fail
    refine (drop_any S k B X w1 (unhide HB1) hX hw (by omega) hn).mono ?_
    rintro e w2 ⟨rfl, hB2, hl2⟩
    rw [unhide HQ2] at hB2
    have HB2 := hide hB2
    have HL2 : Hid (Below B w w2) := bl_tr (unhide HL1) hl2
    clear hB2 hl2
    go_wp2
    go_ret
    exact ⟨ret_int (unhide HE0).symm, fun _ => unhide HB2, unhide HL2⟩
def idxU (S : St) (id : Int) : Int := firstI S.ups.length (upP S.ups id)
def drUE (S : St) (id : Int) : Int := if idxU S id < 0 then 6 else 0
def drUS (S : St) (id : Int) : St := { S with ups := S.ups.take (idxU S id).toNat ++ S.ups.drop ((idxU S id).toNat + 1) }
set_option maxHeartbeats 4000000 in
theorem dropUpload_any (S : St) (id : Int) (B X : Nat) (w : World) (h : Bx w B X S) (hX : B ≤ X) (hw : WfS S) (hn : S.ups.length ≤ 1000) :
    Calls Tryz.prog 71 #[.pointer (some ⟨X, 0, none⟩), .int .i64 id] w fun e w' => e = .returned (.int .i64 (drUE S id)) ∧ (drUE S id = 0 → Bx w' B X (drUS S id)) ∧ Below B w w' := by
  have hXl := h.lt
  have HBx := hide h
  obtain ⟨b, v, u, q, g, hr, hO⟩ := h
  have hL := hide (hO.ups.lst hw.ups)
  have bx := OSt.boxr hr
  have c0 := bx.c0
  have c1 := bx.c1
  have c2 := bx.c2
  have c3 := bx.c3
  have c4 := bx.c4
  have c5 := bx.c5
  have c6 := bx.c6
  obtain ⟨E, hE⟩ : ∃ E, drUE S id = E := ⟨_, rfl⟩
  obtain ⟨Q, hQ⟩ : ∃ Q, drUS S id = Q := ⟨_, rfl⟩
  rw [hE, hQ]
  have HE := hide hE
  have HQ := hide hQ
  clear hr hO hE hQ bx
  go_enter Tryz.func71, Tryz.ntmps71
  go_wp2_with fail
  refine (findUpload_any S b v u q g id w (unhide hL)).mono ?_
  rintro e w1 ⟨rfl, hb1⟩
  have hbd := firstI_lt S.ups.length (upP S.ups id)
  obtain ⟨I, hI⟩ : ∃ I, firstI S.ups.length (upP S.ups id) = I := ⟨_, rfl⟩
  rw [hI] at hbd ⊢
  have HI : Hid (idxU S id = I) := hI
  have HB1 : Bx w1 B X S := (unhide HBx).up hb1
  have HL1 : Hid (Below B w w1) := bl_lo hb1 (by omega)
  have hXl1 := HB1.lt
  clear hI hb1 c0 c1 c2 c3 c4 c5 c6
  by_cases hneg : I < 0
  · have HE6 : Hid (E = 6) := by show _ = _; rw [← unhide HE]; unfold drUE; rw [unhide HI, if_pos hneg]
    go_wp2
    go_ret
    exact ⟨ret_int (unhide HE6).symm, fun e => absurd ((unhide HE6).symm.trans e) (by decide), unhide HL1⟩
  · obtain ⟨k, rfl⟩ := Int.eq_ofNat_of_zero_le (show 0 ≤ I by omega)
    have HE0 : Hid (E = 0) := by show _ = _; rw [← unhide HE]; unfold drUE; rw [unhide HI, if_neg hneg]
    have HQ2 : Hid ({ S with ups := S.ups.take k ++ S.ups.drop (k + 1) } = Q) := by show _ = _; rw [← unhide HQ]; unfold drUS; rw [unhide HI]; rfl
    obtain ⟨b1, v1, u1, q1, g1, hr1, hO1⟩ := HB1
    obtain ⟨ps, hps, hown, hin, hpw⟩ := hO1.ups
    have hpl : ps.length = S.ups.length := by have := congrArg List.length hps; rw [List.length_map] at this; exact this
    obtain ⟨m, hm⟩ : ∃ m, S.ups.length = m + 1 := ⟨S.ups.length - 1, by omega⟩
    rw [hpl, hm] at hown
    obtain ⟨gv, cap, sp, rfl, hBg, hrow, hlen, hcap, hnc, hxl⟩ := own_row hown (by omega)
    have d3 := cell_of hr1 4 rfl
    have HR1 := hide hr1
    have HO1 := hide hO1
    have HRow := hide hrow
    have H1 := hide (up_one ps hin)
    have HPS := hide hps
    have HIN := hide hin
    have HPW := hide hpw
    have HPL : Hid (ps.length = m + 1) := by show _ = _; rw [hpl, hm]
    have hkm : k ≤ m := by omega
    have HLEN := hide hlen
    have HXL := hide hxl
    clear hr1 hO1 hown hrow hin hps hpl hlen hxl hpw
    go_wp2_with fail
    refine (deleteU_any gv m cap k ((ps.flatMap fun p => upL p.1 p.2) ++ sp) w1 (unhide HRow) (by rw [List.length_append]; exact unhide HLEN) hnc hcap hkm (by
      rw [List.take_left' (unhide HXL)]
      exact unhide H1)).mono ?_
    rintro e w2 ⟨rfl, ⟨cur', hr2, hcl, hct⟩, hg2⟩
    have htk := row_typ (unhide HRow)
    have hrX := row_kept (unhide HR1) hg2 htk (by decide)
    have hO1 := unhide HO1
    have e3 := cell_of hrX 4 rfl
    have f3 := fz_of hrX 4
    have HB : Hid (Bx (w2.setCell ⟨X, 4, none⟩ (.slice (some ⟨gv, 0, none⟩) m cap)) B X Q) := by
      show Bx _ _ _ _
      rw [← unhide HQ2]
      have hs1 : OSt w2 B b1 v1 (.slice (some ⟨gv, 0, none⟩) m cap) q1 g1 { S with ups := S.ups.take k ++ S.ups.drop (k + 1) } := by
        refine ⟨own_kept hO1.bus hg2 htk (by decide), hO1.ves.kept hg2 htk (by decide) (by decide), ⟨ps.take k ++ ps.drop (k + 1), ?_, own_cut (fun p : Up × Value => upL p.1 p.2) 4 (fun _ => rfl) hBg (unhide HPL) hkm hcap (by omega) hr2 hcl hct, ?_, ?_⟩, own_kept hO1.que hg2 htk (by decide), own_kept hO1.gone hg2 htk (by decide)⟩
        · rw [List.map_append, List.map_take, List.map_drop, unhide HPS]
        · intro p hp
          refine (unhide HIN p ?_).kept hg2 htk (by decide) (by decide)
          rcases List.mem_append.1 hp with hp | hp
          · exact List.mem_of_mem_take hp
          · exact List.mem_of_mem_drop hp
        · have hsub : (ps.take k ++ ps.drop (k + 1)).Sublist ps := by
            have e9 := List.take_append_drop k ps
            conv => rhs; rw [← e9]
            refine List.Sublist.append (List.Sublist.refl _) ?_
            rw [← List.drop_drop]
            exact List.drop_sublist _ _
          exact (unhide HPW).sublist hsub
      exact ⟨b1, v1, _, q1, g1, rowS hrX 4 _ rfl, hs1.box (gb_setCell w2 X 4 _) (row_typ hrX)⟩
    have HL : Hid (Below B w (w2.setCell ⟨X, 4, none⟩ (.slice (some ⟨gv, 0, none⟩) m cap))) := bl_tr (unhide HL1) (bl_tr (gb_lo hg2 (by omega) (fun j e => by injection e with e; omega)) (gb_lo (gb_setCell w2 X 4 _) (by have := hg2.size; omega) (fun j e => by injection e with e; omega)))
    clear hg2 hr2 hcl hct htk hrX hO1 d3
    go_wp2
    go_ret
    exact ⟨ret_int (unhide HE0).symm, fun _ => unhide HB, unhide HL⟩
end Go.Proofs.YtdgmdapijhbocaaGreat

/- state.setMode, setRule, addBucket. -/
namespace Go.Proofs.YtdgmdapijhbocaaGreat
open Go.RowKit Go.Maps
set_option maxRecDepth 100000
set_option linter.unusedVariables false
set_option linter.unusedSimpArgs false
theorem row_at {α : Type} (C : α → List Value) (n : Nat) (hn : ∀ x, (C x).length = n) (d : α) {w : World} {g : Nat} {T : TypeId} {fz : Nat × Nat} {l : List α} {sp : List Value} (hr : w.heap[g]? = some (.cells ((l.flatMap C) ++ sp).toArray T fz)) {k : Nat} (hk : k < l.length) {j : Nat} (hj : j < n) {v : Value} (hv : (C (l.getD k d))[j]? = some v) : w.cell? ⟨g, k * n + j, none⟩ = some v := by
  refine cell_of hr _ ?_
  rw [List.getElem?_toArray]
  have e := flat_at C n hn d l k j hk hj
  rw [hv] at e
  rw [List.getElem?_append_left (List.getElem?_eq_some_iff.1 e).1, e]
theorem flat_set {α : Type} (C : α → List Value) (n : Nat) (hn : ∀ x, (C x).length = n) (d : α) (l : List α) (sp : List Value) (k j : Nat) (v : Value) (x' : α) (hk : k < l.length) (hj : j < n) (hx : C x' = (C (l.getD k d)).set j v) : (l.flatMap C ++ sp).set (k * n + j) v = (l.set k x').flatMap C ++ sp := by
  have e1 := flat_split C d l hk
  have hk2 : k < (l.set k x').length := by simpa using hk
  have e2 := flat_split C d (l.set k x') hk2
  have e3 : (l.set k x').take k = l.take k := by rw [List.take_set_of_le (Nat.le_refl _)]
  have e4 : (l.set k x').drop (k + 1) = l.drop (k + 1) := by rw [List.drop_set_of_lt (by omega)]
  have e5 : (l.set k x').getD k d = x' := by simp [List.getD, hk]
  have hl : ((l.take k).flatMap C).length = k * n := by rw [flat_len2 C n hn, List.length_take, Nat.min_eq_left (by omega)]
  rw [e2, e3, e4, e5, e1, hx]
  simp only [List.append_assoc]
  rw [List.set_append_right _ _ (by omega), List.set_append_left _ _ (by rw [hl, hn]; omega), hl, Nat.add_sub_cancel_left]
theorem row_set {α : Type} (C : α → List Value) (n : Nat) (hn : ∀ x, (C x).length = n) (d : α) {w : World} {g : Nat} {T : TypeId} {l : List α} {sp : List Value} (hr : w.heap[g]? = some (.cells ((l.flatMap C) ++ sp).toArray T (0, 0))) {k : Nat} (hk : k < l.length) {j : Nat} (hj : j < n) (v : Value) (x' : α) (hx : C x' = (C (l.getD k d)).set j v) :
    (w.setCell ⟨g, k * n + j, none⟩ v).heap[g]? = some (.cells (((l.set k x').flatMap C) ++ sp).toArray T (0, 0)) := by
  rw [heap_setCell_same w g _ _ T v hr, ← flat_set C n hn d l sp k j v x' hk hj hx]
  simp
theorem OwB.of {w : World} {B g cap : Nat} {l : List Bu} {sp : List Value} {n : Nat} (hB : B ≤ g) (hr : w.heap[g]? = some (.cells ((l.flatMap buL) ++ sp).toArray 69 (0, 0))) (hl : (l.flatMap buL).length + sp.length = cap * 5) (hc : cap ≤ 9223372036854775807) (hn : n = l.length) : OwB w B (.slice (some ⟨g, 0, none⟩) n cap) l := by
  subst hn
  have h1 := flat_len2 buL 5 (fun _ => rfl) l
  exact ⟨h1, .inr ⟨g, cap, _, rfl, hB, hr, by omega, by unfold maxLen; omega, by simpa using hl, by rw [← h1]; show List.take _ (_ ++ _) = _; exact List.take_left⟩⟩
def idxB (S : St) (nm : ByteArray) : Int := firstI S.bus.length (buP S.bus nm)
def modE (S : St) (nm : ByteArray) (n : Int) : Int := if idxB S nm < 0 then 6 else if inB n 0 2 then (if n = 0 ∧ (S.bus.getD (idxB S nm).toNat bu0).mode ≠ 0 then 9 else 0) else 2
def modS (S : St) (nm : ByteArray) (n : Int) : St := { S with bus := S.bus.set (idxB S nm).toNat { S.bus.getD (idxB S nm).toNat bu0 with mode := n } }
set_option maxHeartbeats 4000000 in
theorem setMode_any (S : St) (nm : ByteArray) (n : Int) (B X : Nat) (w : World) (h : Bx w B X S) (hX : B ≤ X) (hw : WfS S) (hn : S.bus.length ≤ 1000) :
    Calls Tryz.prog 61 #[.pointer (some ⟨X, 0, none⟩), .string nm, .int .i64 n] w fun e w' => e = .returned (.int .i64 (modE S nm n)) ∧ (modE S nm n = 0 → Bx w' B X (modS S nm n)) ∧ Below B w w' := by
  have hXl := h.lt
  have HBx := hide h
  obtain ⟨b, v, u, q, g, hr, hO⟩ := h
  have hL := hide (hO.bus.lst hw.bus)
  have bx := OSt.boxr hr
  have c0 := bx.c0
  have c1 := bx.c1
  have c2 := bx.c2
  have c3 := bx.c3
  have c4 := bx.c4
  have c5 := bx.c5
  have c6 := bx.c6
  obtain ⟨E, hE⟩ : ∃ E, modE S nm n = E := ⟨_, rfl⟩
  obtain ⟨Q, hQ⟩ : ∃ Q, modS S nm n = Q := ⟨_, rfl⟩
  rw [hE, hQ]
  have HE := hide hE
  have HQ := hide hQ
  clear hr hO hE hQ bx
  go_enter Tryz.func61, Tryz.ntmps61
  go_wp2_with fail
  refine (findBucket_any S b v u q g nm w (unhide hL)).mono ?_
  rintro e w1 ⟨rfl, hb1⟩
  have hbd := firstI_lt S.bus.length (buP S.bus nm)
  obtain ⟨I, hI⟩ : ∃ I, firstI S.bus.length (buP S.bus nm) = I := ⟨_, rfl⟩
  rw [hI] at hbd ⊢
  have HI : Hid (idxB S nm = I) := hI
  have HB1 : Bx w1 B X S := (unhide HBx).up hb1
  have HL1 : Hid (Below B w w1) := bl_lo hb1 (by omega)
  have hXl1 := HB1.lt
  clear hI hb1 c0 c1 c2 c3 c4 c5 c6
  by_cases hneg : I < 0
  · have HE6 : Hid (E = 6) := by show _ = _; rw [← unhide HE]; unfold modE; rw [unhide HI, if_pos hneg]
    go_wp2
    go_ret
    exact ⟨ret_int (unhide HE6).symm, fun e => absurd ((unhide HE6).symm.trans e) (by decide), unhide HL1⟩
  · obtain ⟨k, rfl⟩ := Int.eq_ofNat_of_zero_le (show 0 ≤ I by omega)
    have hk : k < S.bus.length := by omega
    obtain ⟨b1, v1, u1, q1, g1, hr1, hO1⟩ := HB1
    obtain ⟨gv, cap, sp, rfl, hBg, hrow, hlen, hcap, hnc, hxl⟩ := own_row hO1.bus (by omega)
    obtain ⟨M, hM⟩ : ∃ M, (S.bus.getD k bu0).mode = M := ⟨_, rfl⟩
    have hME : Hid (modE S nm n = if inB n 0 2 then (if n = 0 ∧ M ≠ 0 then 9 else 0) else 2) := by
      show _ = _
      unfold modE
      rw [unhide HI, if_neg hneg, show ((k : Int)).toNat = k from rfl, hM]
    have m1 := row_at buL 5 (fun _ => rfl) bu0 hrow hk (j := 1) (by decide) (v := .int .i64 M) (by rw [← hM]; rfl)
    have d2 := cell_of hr1 2 rfl
    have mf := fun j => fz_of hrow j
    have HR1 := hide hr1
    have HO1 := hide hO1
    have HRow := hide hrow
    have HLEN := hide hlen
    clear hr1 hO1 hrow hM hlen hxl hneg
    go_wp2_with fail
    refine (modeMayBe_any n w1).mono ?_
    rintro e w2 ⟨rfl, rfl⟩
    cases hin : inB n 0 2
    · have HE2 : Hid (E = 2) := by show _ = _; rw [← unhide HE, unhide hME, hin]; rfl
      clear hin
      go_wp2
      go_ret
      exact ⟨ret_int (unhide HE2).symm, fun e => absurd ((unhide HE2).symm.trans e) (by decide), unhide HL1⟩
    · have HM2 : Hid (E = if n = 0 ∧ M ≠ 0 then 9 else 0) := by show _ = _; rw [← unhide HE, unhide hME, hin]; rfl
      have htk := row_typ (unhide HRow)
      have hgs := gb_setCell w1 gv (k * 5 + 1) (.int .i64 n)
      have HB : Hid (Bx (w1.setCell ⟨gv, k * 5 + 1, none⟩ (.int .i64 n)) B X Q) := by
        have hO1 := unhide HO1
        have hr2 := row_set buL 5 (fun _ => rfl) bu0 (unhide HRow) hk (j := 1) (by decide) (.int .i64 n) { S.bus.getD k bu0 with mode := n } rfl
        have hs1 : OSt (w1.setCell ⟨gv, k * 5 + 1, none⟩ (.int .i64 n)) B (.slice (some ⟨gv, 0, none⟩) S.bus.length cap) v1 u1 q1 g1 { S with bus := S.bus.set k { S.bus.getD k bu0 with mode := n } } :=
          ⟨OwB.of hBg hr2 (by have := unhide HLEN; rw [flat_len2 buL 5 (fun _ => rfl)] at this ⊢; simpa using this) hcap (by simp), hO1.ves.kept hgs htk (by decide) (by decide), hO1.ups.kept hgs htk (by decide) (by decide) (by decide), own_kept hO1.que hgs htk (by decide), own_kept hO1.gone hgs htk (by decide)⟩
        show Bx _ _ _ _
        rw [← unhide HQ]
        unfold modS
        rw [unhide HI]
        exact ⟨_, v1, u1, q1, g1, row_kept (unhide HR1) hgs htk (by decide), hs1⟩
      have HL : Hid (Below B w (w1.setCell ⟨gv, k * 5 + 1, none⟩ (.int .i64 n))) := bl_tr (unhide HL1) (gb_lo hgs (by omega) (fun j e => by injection e with e; omega))
      clear hin hgs htk hME
      by_cases h0 : n = 0
      · have t0 : (n == 0) = true := by simp [h0]
        by_cases hm0 : M = 0
        · have HE0 : Hid (E = 0) := by show _ = _; rw [unhide HM2, if_neg (fun e => e.2 hm0)]
          have t1 : (M != 0) = false := by simp [hm0]
          clear h0 hm0
          go_wp2
          go_ret
          exact ⟨ret_int (unhide HE0).symm, fun _ => unhide HB, unhide HL⟩
        · have HE9 : Hid (E = 9) := by show _ = _; rw [unhide HM2, if_pos ⟨h0, hm0⟩]
          have t1 : (M != 0) = true := by simp [hm0]
          clear h0 hm0
          go_wp2
          go_ret
          exact ⟨ret_int (unhide HE9).symm, fun e => absurd ((unhide HE9).symm.trans e) (by decide), unhide HL1⟩
      · have t0 : (n == 0) = false := by simp [h0]
        have HE0 : Hid (E = 0) := by show _ = _; rw [unhide HM2, if_neg (fun e => h0 e.1)]
        clear h0
        go_wp2
        go_ret
        exact ⟨ret_int (unhide HE0).symm, fun _ => unhide HB, unhide HL⟩
def rueE (S : St) (nm pre : ByteArray) (f d : Int) : Int := if idxB S nm < 0 then 6 else rulE pre f d
def rueS (S : St) (nm pre : ByteArray) (f d : Int) : St := { S with bus := S.bus.set (idxB S nm).toNat { S.bus.getD (idxB S nm).toNat bu0 with pre := pre, fre := f, dro := d } }
theorem set_set {l : List Bu} {k : Nat} {x y : Bu} : (l.set k x).set k y = l.set k y := by simp
set_option maxHeartbeats 4000000 in
theorem setRule_any (S : St) (nm pre : ByteArray) (f d : Int) (B X : Nat) (w : World) (h : Bx w B X S) (hX : B ≤ X) (hw : WfS S) (hn : S.bus.length ≤ 1000) (hp : pre.size ≤ maxLen) :
    Calls Tryz.prog 62 #[.pointer (some ⟨X, 0, none⟩), .string nm, .agg #[.string pre, .int .i64 f, .int .i64 d]] w fun e w' => e = .returned (.int .i64 (rueE S nm pre f d)) ∧ (rueE S nm pre f d = 0 → Bx w' B X (rueS S nm pre f d)) ∧ Below B w w' := by
  have hXl := h.lt
  have HBx := hide h
  obtain ⟨b, v, u, q, g, hr, hO⟩ := h
  have hL := hide (hO.bus.lst hw.bus)
  have bx := OSt.boxr hr
  have c0 := bx.c0
  have c1 := bx.c1
  have c2 := bx.c2
  have c3 := bx.c3
  have c4 := bx.c4
  have c5 := bx.c5
  have c6 := bx.c6
  obtain ⟨E, hE⟩ : ∃ E, rueE S nm pre f d = E := ⟨_, rfl⟩
  obtain ⟨Q, hQ⟩ : ∃ Q, rueS S nm pre f d = Q := ⟨_, rfl⟩
  rw [hE, hQ]
  have HE := hide hE
  have HQ := hide hQ
  clear hr hO hE hQ bx
  go_enter Tryz.func62, Tryz.ntmps62
  go_wp2_with fail
  refine (findBucket_any S b v u q g nm _ ((unhide hL).imp fun _ _ _ r => RBu.up (bl1 _ _) r)).mono ?_
  rintro e w1 ⟨rfl, hb⟩
  have hb1 : Below w.heap.size w w1 := bl_trans (bl1 _ _) hb
  have hbox := (hb.block w.heap.size (by simp)).trans (heap_alloc_new _ _)
  have z0 := cell_of hbox 0 rfl
  have z1 := cell_of hbox 1 rfl
  have z2 := cell_of hbox 2 rfl
  have hbd := firstI_lt S.bus.length (buP S.bus nm)
  obtain ⟨I, hI⟩ : ∃ I, firstI S.bus.length (buP S.bus nm) = I := ⟨_, rfl⟩
  rw [hI] at hbd ⊢
  have HI : Hid (idxB S nm = I) := hI
  have HB1 : Bx w1 B X S := (unhide HBx).up hb1
  have HL1 : Hid (Below B w w1) := bl_lo hb1 (by omega)
  have hXl1 := HB1.lt
  have HBX := hide hbox
  clear hI hb hb1 hbox c0 c1 c2 c3 c4 c5 c6
  by_cases hneg : I < 0
  · have HE6 : Hid (E = 6) := by show _ = _; rw [← unhide HE]; unfold rueE; rw [unhide HI, if_pos hneg]
    go_wp2
    go_ret
    exact ⟨ret_int (unhide HE6).symm, fun e => absurd ((unhide HE6).symm.trans e) (by decide), unhide HL1⟩
  · obtain ⟨k, rfl⟩ := Int.eq_ofNat_of_zero_le (show 0 ≤ I by omega)
    have hk : k < S.bus.length := by omega
    have hRE : Hid (E = rulE pre f d) := by
      show _ = _
      rw [← unhide HE]
      unfold rueE
      rw [unhide HI, if_neg hneg]
    clear hneg
    go_wp2_with fail
    refine (checkRule_any pre f d w1 hp).mono ?_
    rintro e w2 ⟨rfl, hb2⟩
    have HB2 := HB1.up hb2
    have HL2 : Hid (Below B w w2) := bl_tr (unhide HL1) (bl_lo hb2 (by omega))
    have hXl2 := HB2.lt
    have hbox2 := (hb2.block w.heap.size (Array.getElem?_eq_some_iff.1 (unhide HBX)).1).trans (unhide HBX)
    clear z0 z1 z2 HB1
    have z0 := cell_of hbox2 0 rfl
    have z1 := cell_of hbox2 1 rfl
    have z2 := cell_of hbox2 2 rfl
    rw [← unhide hRE]
    by_cases h0 : E = 0
    · obtain ⟨b1, v1, u1, q1, g1, hr1, hO1⟩ := HB2
      obtain ⟨gv, cap, sp, rfl, hBg, hrow, hlen, hcap, hnc, hxl⟩ := own_row hO1.bus (by omega)
      have m2 := row_at buL 5 (fun _ => rfl) bu0 hrow hk (j := 2) (by decide) rfl
      have m3 := row_at buL 5 (fun _ => rfl) bu0 hrow hk (j := 3) (by decide) rfl
      have m4 := row_at buL 5 (fun _ => rfl) bu0 hrow hk (j := 4) (by decide) rfl
      have d2 := cell_of hr1 2 rfl
      have mf := fun j => fz_of hrow j
      have htk := row_typ hrow
      have hgs : w2.grownBy (((w2.setCell ⟨gv, k * 5 + 2, none⟩ (.string pre)).setCell ⟨gv, k * 5 + 3, none⟩ (.int .i64 f)).setCell ⟨gv, k * 5 + 4, none⟩ (.int .i64 d)).drew (some gv) := gb_trans (gb_trans (gb_trans (gb_setCell _ _ _ _) (gb_setCell _ _ _ _)) (gb_setCell _ _ _ _)) (gb_drew _ _)
      have HB : Hid (Bx (((w2.setCell ⟨gv, k * 5 + 2, none⟩ (.string pre)).setCell ⟨gv, k * 5 + 3, none⟩ (.int .i64 f)).setCell ⟨gv, k * 5 + 4, none⟩ (.int .i64 d)).drew B X Q) := by
        have r1 := row_set buL 5 (fun _ => rfl) bu0 hrow hk (j := 2) (by decide) (.string pre) { S.bus.getD k bu0 with pre := pre } rfl
        have hk1 : k < (S.bus.set k { S.bus.getD k bu0 with pre := pre }).length := by simpa using hk
        have g1' : (S.bus.set k { S.bus.getD k bu0 with pre := pre }).getD k bu0 = { S.bus.getD k bu0 with pre := pre } := by simp [List.getD, hk]
        have r2 := row_set buL 5 (fun _ => rfl) bu0 r1 hk1 (j := 3) (by decide) (.int .i64 f) { S.bus.getD k bu0 with pre := pre, fre := f } (by rw [g1']; rfl)
        rw [set_set] at r2
        have hk2 : k < (S.bus.set k { S.bus.getD k bu0 with pre := pre, fre := f }).length := by simpa using hk
        have g2' : (S.bus.set k { S.bus.getD k bu0 with pre := pre, fre := f }).getD k bu0 = { S.bus.getD k bu0 with pre := pre, fre := f } := by simp [List.getD, hk]
        have r3 := row_set buL 5 (fun _ => rfl) bu0 r2 hk2 (j := 4) (by decide) (.int .i64 d) { S.bus.getD k bu0 with pre := pre, fre := f, dro := d } (by rw [g2']; rfl)
        rw [set_set] at r3
        have hs1 : OSt (((w2.setCell ⟨gv, k * 5 + 2, none⟩ (.string pre)).setCell ⟨gv, k * 5 + 3, none⟩ (.int .i64 f)).setCell ⟨gv, k * 5 + 4, none⟩ (.int .i64 d)).drew B (.slice (some ⟨gv, 0, none⟩) S.bus.length cap) v1 u1 q1 g1 { S with bus := S.bus.set k { S.bus.getD k bu0 with pre := pre, fre := f, dro := d } } :=
          ⟨OwB.of hBg (row_drew r3) (by have := hlen; rw [flat_len2 buL 5 (fun _ => rfl)] at this ⊢; simpa using this) hcap (by simp), hO1.ves.kept hgs htk (by decide) (by decide), hO1.ups.kept hgs htk (by decide) (by decide) (by decide), own_kept hO1.que hgs htk (by decide), own_kept hO1.gone hgs htk (by decide)⟩
        show Bx _ _ _ _
        rw [← unhide HQ]
        unfold rueS
        rw [unhide HI]
        exact ⟨_, v1, u1, q1, g1, row_kept hr1 hgs htk (by decide), hs1⟩
      have HL : Hid (Below B w (((w2.setCell ⟨gv, k * 5 + 2, none⟩ (.string pre)).setCell ⟨gv, k * 5 + 3, none⟩ (.int .i64 f)).setCell ⟨gv, k * 5 + 4, none⟩ (.int .i64 d)).drew) := bl_tr (unhide HL2) (gb_lo hgs (by omega) (fun j e => by injection e with e; omega))
      clear hgs htk hr1 hO1 hrow hlen hxl hbox2 hb2 HE hRE
      subst h0
      go_wp2
      go_region
      all_goals go_wp2
      all_goals go_ret
      all_goals exact ⟨rfl, unhide HB, unhide HL⟩
    · have t0 : (E != 0) = true := by simp [h0]
      have H0 := hide h0
      clear h0 hb2 hbox2 z0 z1 z2 HB2
      go_wp2
      go_ret
      exact ⟨rfl, fun e => absurd e (unhide H0), unhide HL2⟩
def adbE (S : St) (nm : ByteArray) : Int := if worE nm 8 = 0 then (if 0 ≤ idxB S nm then 7 else if S.bus.length = 4 then 8 else 0) else worE nm 8
def adbS (S : St) (nm : ByteArray) : St := { S with bus := putA S.bus ⟨nm, 0, ⟨#[]⟩, -1, -1⟩ (fun i => gtS (S.bus.getD i bu0).nam nm) }
set_option maxHeartbeats 4000000 in
theorem addBucket_any (S : St) (nm : ByteArray) (B X : Nat) (w : World) (h : Bx w B X S) (hX : B ≤ X) (hw : WfS S) (hn : S.bus.length ≤ 1000) (hp : nm.size ≤ maxLen) :
    Calls Tryz.prog 60 #[.pointer (some ⟨X, 0, none⟩), .string nm] w fun e w' => e = .returned (.int .i64 (adbE S nm)) ∧ (adbE S nm = 0 → Bx w' B X (adbS S nm)) ∧ Below B w w' := by
  have hXl := h.lt
  have HBx := hide h
  clear h
  obtain ⟨E, hE⟩ : ∃ E, adbE S nm = E := ⟨_, rfl⟩
  obtain ⟨Q, hQ⟩ : ∃ Q, adbS S nm = Q := ⟨_, rfl⟩
  rw [hE, hQ]
  have HE := hide hE
  have HQ := hide hQ
  clear hE hQ
  go_enter Tryz.func60, Tryz.ntmps60
  go_wp2_with fail
  refine (checkName_any nm _ hp).mono ?_
  rintro e w1 ⟨rfl, hb⟩
  have hb1 : Below w.heap.size w w1 := bl_trans (bl1 _ _) hb
  have hbox := (hb.block w.heap.size (by simp)).trans (heap_alloc_new _ _)
  obtain ⟨F, hF⟩ : ∃ F, worE nm 8 = F := ⟨_, rfl⟩
  rw [hF]
  have HL1 : Hid (Below B w w1) := bl_lo hb1 (by omega)
  by_cases h0 : ¬ F = 0
  · have HEF : Hid (E = F) := by show _ = _; rw [← unhide HE]; unfold adbE; rw [hF, if_neg h0]
    have t0 : (F != 0) = true := by simp [h0]
    have H0 := hide h0
    clear h0 hF hb hb1 hbox
    go_wp2
    go_ret
    exact ⟨ret_int (unhide HEF).symm, fun e => absurd ((unhide HEF).symm.trans e) (unhide H0), unhide HL1⟩
  replace h0 : F = 0 := Classical.not_not.1 h0
  have HE2 : Hid (E = if 0 ≤ idxB S nm then 7 else if S.bus.length = 4 then 8 else 0) := by show _ = _; rw [← unhide HE]; unfold adbE; rw [hF, if_pos h0]
  subst h0
  have hB1 := (unhide HBx).up hb1
  have hXl1 := hB1.lt
  have HB1 := hide hB1
  obtain ⟨b, v, u, q, g, hr, hO⟩ := hB1
  have hL := hide (hO.bus.lst hw.bus)
  have bx := OSt.boxr hr
  have z0 := cell_of hbox 0 rfl
  have HBX := hide hbox
  have c0 := bx.c0
  have c1 := bx.c1
  have c2 := bx.c2
  have c3 := bx.c3
  have c4 := bx.c4
  have c5 := bx.c5
  have c6 := bx.c6
  clear hF hb hb1 hbox bx hr hO
  go_wp2
  have hne := Later.one w1
  have l0 := fun d : Later w1 => d.cell c0
  have l1 := fun d : Later w1 => d.cell c1
  have l2 := fun d : Later w1 => d.cell c2
  have l3 := fun d : Later w1 => d.cell c3
  have l4 := fun d : Later w1 => d.cell c4
  have l5 := fun d : Later w1 => d.cell c5
  have l6 := fun d : Later w1 => d.cell c6
  have lz := fun d : Later w1 => d.cell z0
  refine wp_region_later (by kernel_rfl) (by kernel_rfl) ?_
  repeat (go_big_quiet_step ((go_at_call 118; exact Calls.later (findBucket_any S b v u q g nm _ ((unhide hL).imp fun _ _ _ r => RBu.up (Later.below _) r)))))
  refine wpQuiet_nil ?_
  intro w9 hw'
  obtain ⟨⟨w2, hb2⟩, hw''⟩ := hw'
  subst hw''
  have hB2 := (unhide HB1).up hb2
  have hXl2 := hB2.lt
  have HL2 : Hid (Below B w w9) := bl_tr (unhide HL1) (bl_lo hb2 (by omega))
  have hbox2 := (hb2.block w.heap.size (Array.getElem?_eq_some_iff.1 (unhide HBX)).1).trans (unhide HBX)
  clear hne l0 l1 l2 l3 l4 l5 l6 lz c0 c1 c2 c3 c4 c5 c6 z0 hL HB1 HBX
  obtain ⟨I, hI⟩ : ∃ I, firstI S.bus.length (buP S.bus nm) = I := ⟨_, rfl⟩
  rw [hI]
  have HI : Hid (idxB S nm = I) := hI
  rw [unhide HI] at HE2
  clear hI
  by_cases hpos : 0 ≤ I
  · have HE7 : Hid (E = 7) := by show _ = _; rw [unhide HE2, if_pos hpos]
    clear hb2 hbox2
    go_wp2
    go_ret
    exact ⟨ret_int (unhide HE7).symm, fun e => absurd ((unhide HE7).symm.trans e) (by decide), unhide HL2⟩
  obtain ⟨b1, v1, u1, q1, g1, hr1, hO1⟩ := hB2
  obtain ⟨ba, bc, rfl, hbn, hbc⟩ := own_form hO1.bus
  have d2 := cell_of hr1 2 rfl
  have z0 := cell_of hbox2 0 rfl
  have hzl := (Array.getElem?_eq_some_iff.1 hbox2).1
  have HR1 := hide hr1
  have HO1 := hide hO1
  have HBX2 := hide hbox2
  clear hr1 hO1 hbox2 hb2
  by_cases h4 : S.bus.length = 4
  · have HE8 : Hid (E = 8) := by show _ = _; rw [unhide HE2, if_neg hpos, if_pos h4]
    have t4 : ((S.bus.length : Int) == 4) = true := by simp [h4]
    have H4 := hide h4
    clear h4
    go_wp2
    go_ret
    exact ⟨ret_int (unhide HE8).symm, fun e => absurd ((unhide HE8).symm.trans e) (by decide), unhide HL2⟩
  have HE0 : Hid (E = 0) := by show _ = _; rw [unhide HE2, if_neg hpos, if_neg h4]
  have t4 : ((S.bus.length : Int) == 4) = false := by simp; omega
  have H4 := hide h4
  clear h4
  obtain ⟨L, hLL⟩ : ∃ L, putA S.bus ⟨nm, 0, ⟨#[]⟩, -1, -1⟩ (fun i => gtS (S.bus.getD i bu0).nam nm) = L := ⟨_, rfl⟩
  have HLL := hide hLL
  clear hLL
  go_wp2
  go_region_law ((go_simp; go_at_call 119; refine (putAheadBu_any B _ S.bus ⟨nm, 0, ⟨#[]⟩, -1, -1⟩ nm w.heap.size _ (own_up (Below.drew (bl1 _ _)) (unhide HO1).bus) hw.bus (scell_up (Below.drew (bl1 _ _)) z0) hn (by simp; omega)).mono ?_; rintro e w3 ⟨o, rfl, ho, hg⟩; rw [unhide HLL] at ho; have hgw := gb_trans (gb_below (r := (Value.slice ba S.bus.length bc).ownBlock) (Below.drew (bl1 w9 _))) hg; have htk := own_typ (unhide HO1).bus; have hrX := row_kept (unhide HR1) hgw htk (by decide); have e2 := cell_of hrX 2 rfl; have f2 := fz_of hrX 2; obtain ⟨oa, oc, rfl, _, _⟩ := own_form ho; dsimp only))
  all_goals
    have HB : Hid (Bx (w3.setCell ⟨X, 2, none⟩ (.slice oa L.length oc)) B X Q) := by
      have hO1 := unhide HO1
      have hs1 : OSt w3 B (.slice oa L.length oc) v1 u1 q1 g1 { S with bus := L } :=
        ⟨ho, hO1.ves.kept hgw htk (by decide) (by decide), hO1.ups.kept hgw htk (by decide) (by decide) (by decide), own_kept hO1.que hgw htk (by decide), own_kept hO1.gone hgw htk (by decide)⟩
      show Bx _ _ _ _
      rw [← unhide HQ]
      unfold adbS
      rw [unhide HLL]
      exact ⟨_, v1, u1, q1, g1, rowS hrX 2 _ rfl, hs1.box (gb_setCell w3 X 2 _) (row_typ hrX)⟩
    have HL : Hid (Below B w (w3.setCell ⟨X, 2, none⟩ (.slice oa L.length oc))) := bl_tr (unhide HL2) (bl_tr (gb_lo hgw (by omega) (fun j e => ((unhide HO1).bus.lt j e).1)) (gb_lo (gb_setCell w3 X 2 _) (by have := hgw.size; omega) (fun j e => by injection e with e; omega)))
    clear ho hg hgw htk hrX e2 f2
    go_wp2
    go_ret
    exact ⟨ret_int (unhide HE0).symm, fun _ => unhide HB, unhide HL⟩
end Go.Proofs.YtdgmdapijhbocaaGreat

/- state.addUpload, addVersion. -/
namespace Go.Proofs.YtdgmdapijhbocaaGreat
open Go.RowKit Go.Maps
set_option maxRecDepth 100000
set_option linter.unusedVariables false
set_option linter.unusedSimpArgs false
theorem OwV.new {w : World} {B : Nat} {v : Value} {xs : List Ve} (h : OwV w B v xs) : v.ownBlock ≠ some w.heap.size := by
  obtain ⟨_, _, h2, _⟩ := h
  exact own_new h2 (Nat.le_refl _)
theorem takeS_wf {S : St} (h : WfS S) : WfS (takeS S) := ⟨h.bus, h.ves, h.ups, h.que, h.gone⟩
theorem OwP.nil (w : World) (B : Nat) : OwP w B (.slice none 0 0) [] := ⟨[], rfl, ⟨rfl, .inl ⟨rfl, rfl⟩⟩, fun p hp => by cases hp⟩
def aduE (S : St) (id : Int) : Int := if takeE S id = 0 then (if S.ups.length = 4 then 8 else 0) else takeE S id
def aduS (S : St) (id : Int) (bu ke : ByteArray) : St := { takeS S with ups := S.ups ++ [⟨id, bu, ke, []⟩] }
set_option maxHeartbeats 4000000 in
theorem addUpload_any (S : St) (id : Int) (bu ke : ByteArray) (B X : Nat) (w : World) (h : Bx w B X S) (hX : B ≤ X) (hn : S.ups.length ≤ 1000) (h0 : 1 ≤ S.next) (h1 : S.next ≤ 1048576) :
    Calls Tryz.prog 69 #[.pointer (some ⟨X, 0, none⟩), .int .i64 id, .string bu, .string ke] w fun e w' => e = .returned (.int .i64 (aduE S id)) ∧ (aduE S id = 0 → Bx w' B X (aduS S id bu ke)) ∧ Below B w w' := by
  obtain ⟨i0, hi, hz0, hz1, hz2⟩ := info_parts infoUp
  have hXl := h.lt
  have HBx := hide h
  clear h
  obtain ⟨E, hE⟩ : ∃ E, aduE S id = E := ⟨_, rfl⟩
  obtain ⟨Q, hQ⟩ : ∃ Q, aduS S id bu ke = Q := ⟨_, rfl⟩
  rw [hE, hQ]
  have HE := hide hE
  have HQ := hide hQ
  clear hE hQ
  go_enter Tryz.func69, Tryz.ntmps69
  go_wp2_with fail
  refine (takeNumber_any S id B X w (unhide HBx) hX h0 h1).mono ?_
  rintro e w1 ⟨rfl, hB1, hl1⟩
  obtain ⟨F, hF⟩ : ∃ F, takeE S id = F := ⟨_, rfl⟩
  rw [hF] at hB1 ⊢
  have HL1 := hide hl1
  by_cases hf : ¬ F = 0
  · have HEF : Hid (E = F) := by show _ = _; rw [← unhide HE]; unfold aduE; rw [hF, if_neg hf]
    have t0 : (F != 0) = true := by simp [hf]
    have H0 := hide hf
    clear hf hF hB1 hl1
    go_wp2
    go_ret
    exact ⟨ret_int (unhide HEF).symm, fun e => absurd ((unhide HEF).symm.trans e) (unhide H0), unhide HL1⟩
  replace hf : F = 0 := Classical.not_not.1 hf
  have HE2 : Hid (E = if S.ups.length = 4 then 8 else 0) := by show _ = _; rw [← unhide HE]; unfold aduE; rw [hF, if_pos hf]
  have hB2 := hB1 hf
  subst hf
  have hXl1 := hB2.lt
  obtain ⟨b1, v1, u1, q1, g1, hr1, hO1⟩ := hB2
  obtain ⟨ps, hps, hown, hin, hpw⟩ := hO1.ups
  have hpl : ps.length = S.ups.length := by have := congrArg List.length hps; rw [List.length_map] at this; exact this
  obtain ⟨ua, uc, rfl, hun, huc⟩ := own_form hown
  have d4 := cell_of hr1 4 rfl
  have HR1 := hide hr1
  have HO1 := hide hO1
  have HOW := hide hown
  have HPS := hide hps
  have HIN := hide hin
  have HPW := hide hpw
  rw [hpl] at d4
  have HPL := hide hpl
  clear hF hB1 hl1 hr1 hO1 hown hps hin hpw hpl
  by_cases h4 : S.ups.length = 4
  · have HE8 : Hid (E = 8) := by show _ = _; rw [unhide HE2, if_pos h4]
    have t4 : ((S.ups.length : Int) == 4) = true := by simp [h4]
    have H4 := hide h4
    clear h4
    go_wp2
    go_ret
    exact ⟨ret_int (unhide HE8).symm, fun e => absurd ((unhide HE8).symm.trans e) (by decide), unhide HL1⟩
  have HE0 : Hid (E = 0) := by show _ = _; rw [unhide HE2, if_neg h4]
  have t4 : ((S.ups.length : Int) == 4) = false := by simp; omega
  have hB3 : B ≤ w1.heap.size := by omega
  have HOW2 : Hid (w1.ownsRow B 102 4 (.slice ua S.ups.length uc) S.ups.length (ps.flatMap fun p => upL p.1 p.2)) := by have := unhide HOW; rwa [unhide HPL] at this
  have HR2 : Hid (w1.heap[X]? = some (.cells (stA (takeS S) b1 v1 (.slice ua S.ups.length uc) q1 g1) 29 (0, 0))) := by have := unhide HR1; rwa [unhide HPL] at this
  have H4 := hide h4
  clear h4
  go_wp2_with (first
    | (at_builtin; refine wpList_append_own _ rfl _ _ 25 rfl B 102 i0 (.agg zeroUp) 4 64 Tryz.underlying25 hi hz0 hz1 hz2 rfl (by decide) _ _ _ rfl ((unhide HOW2).alloc _) ⟨w1.heap.size, 0, none⟩ 1 1 [.int .i64 id, .string bu, .string ke, .slice none 0 0] rfl rfl (fun j u hj => by rw [addI, Nat.zero_add]; exact cell_of (heap_alloc_new _ _) j (by simpa using hj)) (by simp [Value.oneCell']) (by unfold maxLen; omega) (by omega) (by simp; omega) ?_; intro o' w2 hown' hgrow hnil; have hgw := gb_trans (gb_below (r := (Value.slice ua S.ups.length uc).ownBlock) (bl1 w1 _)) hgrow; have htk := own_typ (unhide HOW2); have hrX := row_kept (unhide HR2) hgw htk (by decide); have e4 := cell_of hrX 4 rfl; have f4 := fz_of hrX 4; obtain ⟨oa, oc, rfl, _, _⟩ := own_form hown')
    | go_in)
  have HB : Hid (Bx (w2.setCell ⟨X, 4, none⟩ (.slice oa (S.ups.length + 1) oc)) B X Q) := by
    have hO1 := unhide HO1
    have hs1 : OSt w2 B b1 v1 (.slice oa (S.ups.length + 1) oc) q1 g1 (aduS S id bu ke) := by
      refine ⟨own_kept hO1.bus hgw htk (by decide), hO1.ves.kept hgw htk (by decide) (by decide), ⟨ps ++ [(⟨id, bu, ke, []⟩, .slice none 0 0)], ?_, ?_, ?_, ?_⟩, own_kept hO1.que hgw htk (by decide), own_kept hO1.gone hgw htk (by decide)⟩
      · rw [List.map_append, unhide HPS]; rfl
      · rw [List.length_append, unhide HPL, List.flatMap_append]
        simpa using hown'
      · intro p hp
        rcases List.mem_append.1 hp with hp | hp
        · exact (unhide HIN p hp).kept hgw htk (by decide) (by decide)
        · obtain rfl := List.mem_singleton.1 hp
          exact OwP.nil _ _
      · refine List.pairwise_append.2 ⟨unhide HPW, List.pairwise_singleton _ _, fun x hx y hy => ?_⟩
        obtain rfl := List.mem_singleton.1 hy
        exact Classical.em _
    show Bx _ _ _ _
    rw [← unhide HQ]
    exact ⟨b1, v1, _, q1, g1, rowS hrX 4 _ rfl, hs1.box (gb_setCell w2 X 4 _) (row_typ hrX)⟩
  have HL : Hid (Below B w (w2.setCell ⟨X, 4, none⟩ (.slice oa (S.ups.length + 1) oc))) := bl_tr (unhide HL1) (bl_tr (gb_lo hgw (by omega) (fun j e => ((unhide HOW2).lt j e).1)) (gb_lo (gb_setCell w2 X 4 _) (by have := hgw.size; omega) (fun j e => by injection e with e; omega)))
  clear hown' hgrow hgw htk hrX hnil
  go_wp2
  go_ret
  exact ⟨ret_int (unhide HE0).symm, fun _ => unhide HB, unhide HL⟩
end Go.Proofs.YtdgmdapijhbocaaGreat

/- state.withBody, chill. -/
namespace Go.Proofs.YtdgmdapijhbocaaGreat
open Go.RowKit Go.Maps
set_option maxRecDepth 100000
set_option linter.unusedVariables false
set_option linter.unusedSimpArgs false
abbrev vpL (p : Ve × Value) : List Value := veL p.1 p.2
abbrev vp0 : Ve × Value := (ve0, .slice none 0 0)
def wbE (S : St) (id : Int) : Int := if idxV S id < 0 then 6 else if (S.ves.getD (idxV S id).toNat ve0).mar then 3 else 0
/-- The versions' row: its pairs, and what is behind them. -/
theorem OSt.vrow {w : World} {B : Nat} {b v u q g : Value} {S : St} (h : OSt w B b v u q g S) (hn : 0 < S.ves.length) : ∃ (ps : List (Ve × Value)) (gv cap : Nat) (sp : List Value), ps.map (·.1) = S.ves ∧ ps.length = S.ves.length ∧ v = .slice (some ⟨gv, 0, none⟩) S.ves.length cap ∧ B ≤ gv ∧ w.heap[gv]? = some (.cells ((ps.flatMap vpL) ++ sp).toArray 36 (0, 0)) ∧ (ps.flatMap vpL).length + sp.length = cap * 12 ∧ cap ≤ 9223372036854775807 ∧ S.ves.length ≤ cap ∧ ∀ p ∈ ps, OwI w B p.2 p.1.sec := by
  obtain ⟨ps, h1, h2, h3⟩ := h.ves
  have hl : ps.length = S.ves.length := by have := congrArg List.length h1; rw [List.length_map] at this; exact this
  obtain ⟨gv, cap, sp, e1, e2, e3, e4, e5, e6, _⟩ := own_row h2 (by omega)
  rw [hl] at e1 e6
  exact ⟨ps, gv, cap, sp, h1, hl, e1, e2, e3, e4, e5, e6, h3⟩
theorem getD_fst {ps : List (Ve × Value)} {l : List Ve} (h : ps.map (·.1) = l) {k : Nat} (hk : k < l.length) : (ps.getD k vp0).1 = l.getD k ve0 := by
  subst h
  have hk' : k < ps.length := by simpa using hk
  simp [List.getD, hk']
/-- One version has changed in its place. -/
theorem OSt.setV {w w' : World} {B gv cap k : Nat} {b u q g u' : Value} {S : St} {ps : List (Ve × Value)} {sp : List Value} {Y : Ve} (h : OSt w B b (.slice (some ⟨gv, 0, none⟩) S.ves.length cap) u q g S) (h1 : ps.map (·.1) = S.ves) (hB : B ≤ gv) (hrow : w.heap[gv]? = some (.cells ((ps.flatMap vpL) ++ sp).toArray 36 (0, 0))) (hl : (ps.flatMap vpL).length + sp.length = cap * 12) (hc : cap ≤ 9223372036854775807) (hin : ∀ p ∈ ps, OwI w B p.2 p.1.sec)
    (hr : w'.heap[gv]? = some (.cells (((ps.set k (Y, u')).flatMap vpL) ++ sp).toArray 36 (0, 0))) (hg : w.grownBy w' (some gv)) (hu : OwI w' B u' Y.sec) : OSt w' B b (.slice (some ⟨gv, 0, none⟩) S.ves.length cap) u q g { S with ves := S.ves.set k Y } := by
  have htk := row_typ hrow
  have hpl : ps.length = S.ves.length := by have := congrArg List.length h1; rw [List.length_map] at this; exact this
  refine ⟨own_kept h.bus hg htk (by decide), ⟨ps.set k (Y, u'), ?_, ?_, ?_⟩, h.ups.kept hg htk (by decide) (by decide) (by decide), own_kept h.que hg htk (by decide), own_kept h.gone hg htk (by decide)⟩
  · rw [List.map_set, h1]
  · have e1 := flat_len2 vpL 12 (fun _ => rfl) (ps.set k (Y, u'))
    have e2 := flat_len2 vpL 12 (fun _ => rfl) ps
    rw [List.length_set] at e1 ⊢
    refine ⟨e1, .inr ⟨gv, cap, _, by rw [hpl], hB, hr, by omega, by unfold maxLen; omega, ?_, ?_⟩⟩
    · rw [List.size_toArray, List.length_append]; omega
    · rw [← e1]; show List.take _ (_ ++ _) = _; exact List.take_left
  · intro p hp
    rcases List.mem_or_eq_of_mem_set hp with hp | rfl
    · exact own_kept (hin p hp) hg htk (by decide)
    · exact hu
set_option maxHeartbeats 4000000 in
theorem withBody_any (S : St) (id : Int) (B X : Nat) (b v u q g : Value) (w : World) (hr : w.heap[X]? = some (.cells (stA S b v u q g) 29 (0, 0))) (hO : OSt w B b v u q g S) (hw : WfS S) (hn : S.ves.length ≤ 1000) :
    Calls Tryz.prog 124 #[.pointer (some ⟨X, 0, none⟩), .int .i64 id] w fun e w' => ∃ p, e = .returned (.tuple #[.pointer p, .int .i64 (wbE S id)]) ∧ (wbE S id = 0 → ∃ k : Nat, idxV S id = k ∧ k < S.ves.length ∧ ∀ gv n cap, v = .slice (some ⟨gv, 0, none⟩) n cap → p = some ⟨gv, k * 12, none⟩) ∧ Below w.heap.size w w' := by
  have hXl := (Array.getElem?_eq_some_iff.1 hr).1
  have hL := hide (hO.ves.lst hw.ves)
  have bx := OSt.boxr hr
  have c0 := bx.c0
  have c1 := bx.c1
  have c2 := bx.c2
  have c3 := bx.c3
  have c4 := bx.c4
  have c5 := bx.c5
  have c6 := bx.c6
  obtain ⟨E, hE⟩ : ∃ E, wbE S id = E := ⟨_, rfl⟩
  rw [hE]
  have HE := hide hE
  have HR := hide hr
  have HO := hide hO
  clear hr hO hE bx
  go_enter Tryz.func124, Tryz.ntmps124
  go_wp2_with fail
  refine (findVersion_any S b v u q g id w (unhide hL)).mono ?_
  rintro e w1 ⟨rfl, hb1⟩
  have hbd := firstI_lt S.ves.length (veP S.ves id)
  obtain ⟨I, hI⟩ : ∃ I, firstI S.ves.length (veP S.ves id) = I := ⟨_, rfl⟩
  rw [hI] at hbd ⊢
  have HI : Hid (idxV S id = I) := hI
  clear hI c0 c1 c2 c3 c4 c5 c6 hL
  by_cases hneg : I < 0
  · have HE6 : Hid (E = 6) := by show _ = _; rw [← unhide HE]; unfold wbE; rw [unhide HI, if_pos hneg]
    go_wp2
    go_ret2
    exact ⟨_, ret_tup (unhide HE6).symm, fun e => absurd ((unhide HE6).symm.trans e) (by decide), hb1⟩
  · obtain ⟨k, rfl⟩ := Int.eq_ofNat_of_zero_le (show 0 ≤ I by omega)
    have hk : k < S.ves.length := by omega
    obtain ⟨ps, gv, cap, sp, h1, hpl, rfl, hBg, hrow, hlen, hcap, hnc, hin⟩ := (unhide HO).vrow (by omega)
    have hr1 := (hb1.block X hXl).trans (unhide HR)
    have hrow1 := (hb1.block gv (Array.getElem?_eq_some_iff.1 hrow).1).trans hrow
    obtain ⟨M, hM⟩ : ∃ M, (S.ves.getD k ve0).mar = M := ⟨_, rfl⟩
    have hE2 : E = if M then 3 else 0 := by rw [← unhide HE]; unfold wbE; rw [unhide HI, if_neg hneg, show ((k : Int)).toNat = k from rfl, hM]
    have m4 := row_at vpL 12 (fun _ => rfl) vp0 hrow1 (k := k) (by omega) (j := 4) (by decide) (v := .bool M) (by rw [← hM, ← getD_fst h1 hk]; rfl)
    have d3 := cell_of hr1 3 rfl
    have HE2 := hide hE2
    clear hE2 hr1 hrow1 h1 hpl hrow hlen hin hM hneg
    cases M
    · have HE0 : Hid (E = 0) := by show _ = _; rw [unhide HE2]; rfl
      go_wp2
      go_ret2
      refine ⟨_, ret_tup (unhide HE0).symm, fun _ => ⟨k, unhide HI, hk, fun gv' n' cap' e => ?_⟩, hb1⟩
      injection e with e _ _
      injection e with e
      injection e with e _ _
      rw [← e]
    · have HE3 : Hid (E = 3) := by show _ = _; rw [unhide HE2]; rfl
      go_wp2
      go_ret2
      exact ⟨_, ret_tup (unhide HE3).symm, fun e => absurd ((unhide HE3).symm.trans e) (by decide), hb1⟩
end Go.Proofs.YtdgmdapijhbocaaGreat
