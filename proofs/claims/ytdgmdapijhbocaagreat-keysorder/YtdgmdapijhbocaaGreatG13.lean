/- For state.addPart: slices.DeleteFunc on a row of parts of one's own, whatever it holds. -/
import Derived.Test.YtdgmdapijhbocaaGreatG12
import Derived.Deep.RegionHeldLaw
namespace Go.Proofs.YtdgmdapijhbocaaGreat
open Go.RowKit Go.Maps
set_option maxRecDepth 100000
set_option linter.unusedVariables false
set_option linter.unusedSimpArgs false
attribute [local go_sem ↓] Go.wp_at_zero Go.wp_at_succ
theorem deleteFuncP_nil (C : Value) (w : World) : Calls Tryz.prog 128 #[.slice none 0 0, .func (.func 129) #[] #[C]] w fun e w' => e = .returned (.slice none 0 0) ∧ Below w.heap.size w w' := by
  go_enter Tryz.func128, Tryz.ntmps128
  go_wp2_with fail
  refine (index_addPart_1 C none 0 [] (fun _ => false) w ⟨none, 0, rfl, Nat.le_refl _, Nat.zero_le _, fun i hi => absurd hi (Nat.not_lt_zero _)⟩ (by decide) (fun k wr X ua un uc hk => absurd hk (Nat.not_lt_zero _))).mono ?_
  rintro e w1 ⟨rfl, hb⟩
  have h0 : firstI ([] : List Pa).length (fun _ => false) = -1 := rfl
  rw [h0]
  clear h0
  go_wp2
  go_ret
  exact ⟨rfl, hb⟩
/-- The cells of a row of one's own, and back. -/
theorem own_cells {w : World} {B k : Nat} {T : TypeId} {s : Value} {n : Nat} {xs : List Value} (h : w.ownsRow B T k s n xs) : (s = .slice none 0 0 ∧ n = 0) ∨ ∃ g cap sp, s = .slice (some ⟨g, 0, none⟩) n cap ∧ B ≤ g ∧ w.heap[g]? = some (.cells (xs ++ sp).toArray T (0, 0)) ∧ xs.length + sp.length = cap * k ∧ cap ≤ 9223372036854775807 ∧ n ≤ cap := by
  by_cases h0 : 0 < n
  · obtain ⟨g, cap, sp, h1, h2, h3, h4, h5, h6, _⟩ := own_row h h0
    exact .inr ⟨g, cap, sp, h1, h2, h3, h4, h5, h6⟩
  · rcases h.2 with ⟨rfl, hn⟩ | ⟨g, cap, cur, rfl, hB, hg, hn, hc, hs, ht⟩
    · exact .inl ⟨rfl, hn⟩
    · have hn0 : n = 0 := by omega
      subst hn0
      have hx : xs = [] := List.eq_nil_of_length_eq_zero (by have := h.1; omega)
      subst hx
      exact .inr ⟨g, cap, cur.toList, rfl, hB, by simpa using hg, by simpa using hs, by unfold maxLen at hc; omega, hn⟩
theorem own_back {w : World} {B g cap n k : Nat} {T : TypeId} {l sp : List Value} (hB : B ≤ g) (hr : w.heap[g]? = some (.cells (l ++ sp).toArray T (0, 0))) (hl : l.length + sp.length = cap * k) (hc : cap ≤ 9223372036854775807) (hn : l.length = n * k) (hnc : n ≤ cap) : w.ownsRow B T k (.slice (some ⟨g, 0, none⟩) n cap) n l :=
  ⟨hn, .inr ⟨g, cap, _, rfl, hB, hr, hnc, by unfold maxLen; omega, by simpa using hl, by rw [← hn]; show List.take _ (_ ++ _) = _; exact List.take_left⟩⟩
theorem deleteFuncPo_any (n0 : Int) (B P : Nat) (s : Value) (xs : List (Pa × Value)) (w : World) (hO : w.ownsRow B 45 3 s xs.length (xs.flatMap fun p => paL p.1 p.2)) (hI : ∀ x ∈ xs, OwI w B x.2 x.1.sec) (hs : ∀ x ∈ xs, ∀ n ∈ x.1.sec, (Lit.int .i64 n).wf = true) (hP : w.cell? ⟨P, 0, none⟩ = some (.int .i64 n0)) (hPs : s.ownBlock ≠ some P) :
    Calls Tryz.prog 128 #[s, .func (.func 129) #[] #[.pointer (some ⟨P, 0, none⟩)]] w fun e w' => ∃ o, e = .returned o ∧ w'.ownsRow B 45 3 o (xs.filter (fun x => !(x.1.n == n0))).length ((xs.filter (fun x => !(x.1.n == n0))).flatMap fun p => paL p.1 p.2) ∧ o.ownBlock = s.ownBlock ∧ w.grownBy w' s.ownBlock := by
  have hT := own_typ hO
  rcases own_cells hO with ⟨rfl, h0⟩ | ⟨g, cap, sp, rfl, hB, hr, hl, hc, hn⟩
  · obtain rfl := List.length_eq_zero_iff.1 h0
    refine (deleteFuncP_nil _ w).mono ?_
    rintro e w' ⟨rfl, hb⟩
    exact ⟨_, rfl, own_up hb hO, rfl, gb_below hb⟩
  · refine (deleteFuncP_any n0 P g cap xs sp w hr hl hc hP (fun e => hPs (by rw [e]; rfl)) (fun x hx => ⟨own_base (hI x hx) (Nat.zero_le _), fun e => ?_⟩) hs).mono ?_
    · obtain ⟨c1, f1, h1⟩ := own_typ (hI x hx) g e
      rw [hr] at h1
      injection h1 with h1
      injection h1 with _ h2 _
      exact absurd h2 (by decide)
    · rintro e w' ⟨rfl, ⟨sp', h1, h2⟩, h3⟩
      have hf := flat_len2 (fun p : Pa × Value => paL p.1 p.2) 3 (fun _ => rfl) (xs.filter (fun x => !(x.1.n == n0)))
      exact ⟨_, rfl, own_back hB h1 h2 hc hf (Nat.le_trans (List.length_filter_le _ _) hn), rfl, h3⟩
end Go.Proofs.YtdgmdapijhbocaaGreat

/- state.addPart. -/
namespace Go.Proofs.YtdgmdapijhbocaaGreat
open Go.RowKit Go.Maps
set_option maxRecDepth 100000
set_option linter.unusedVariables false
set_option linter.unusedSimpArgs false
abbrev upP2 (p : Up × Value) : List Value := upL p.1 p.2
abbrev up00 : Up × Value := (up0, .slice none 0 0)
def pasA (l : List Pa) (x : Pa) : List Pa := putA (l.filter (fun y => !(y.n == x.n))) x (fun i => decide (x.n < ((l.filter (fun y => !(y.n == x.n))).getD i pa0).n))
def adpE (S : St) (id : Int) : Int := if idxU S id < 0 then 6 else 0
def adpU (S : St) (id : Int) (x : Pa) : Up := { S.ups.getD (idxU S id).toNat up0 with parts := pasA (S.ups.getD (idxU S id).toNat up0).parts x }
def adpS (S : St) (id : Int) (x : Pa) : St := { S with ups := S.ups.set (idxU S id).toNat (adpU S id x) }
theorem pair_set {α : Type} {R : α → α → Prop} {l : List α} {k : Nat} {y : α} (h : l.Pairwise R) (hl : ∀ z ∈ l.take k, R z y) (hr : ∀ z ∈ l.drop (k + 1), R y z) (hk : k < l.length) : (l.set k y).Pairwise R := by
  rw [List.set_eq_take_append_cons_drop, if_pos hk]
  have e : l = l.take k ++ l.drop k := (List.take_append_drop k l).symm
  rw [e] at h
  have h1 := List.pairwise_append.1 h
  have hd : l.drop k = l.getD k y :: l.drop (k + 1) := by
    rw [List.drop_eq_getElem_cons hk]
    simp [List.getD, hk]
  rw [hd] at h1
  refine List.pairwise_append.2 ⟨h1.1, List.pairwise_cons.2 ⟨hr, (List.pairwise_cons.1 h1.2.1).2⟩, fun a ha b hb => ?_⟩
  rcases List.mem_cons.1 hb with rfl | hb
  · exact hl a ha
  · exact h1.2.2 a ha b (List.mem_cons_of_mem _ hb)
theorem pair_at {α : Type} {R : α → α → Prop} {l : List α} {k : Nat} (d : α) (h : l.Pairwise R) (hk : k < l.length) : (∀ z ∈ l.take k, R z (l.getD k d)) ∧ ∀ z ∈ l.drop (k + 1), R (l.getD k d) z := by
  have e : l = l.take k ++ l.drop k := (List.take_append_drop k l).symm
  rw [e] at h
  have h1 := List.pairwise_append.1 h
  have hd : l.drop k = l.getD k d :: l.drop (k + 1) := by
    rw [List.drop_eq_getElem_cons hk]
    simp [List.getD, hk]
  rw [hd] at h1
  exact ⟨fun z hz => h1.2.2 z hz _ (by simp), (List.pairwise_cons.1 h1.2.1).1⟩
theorem mem_set_cut {α : Type} {l : List α} {k : Nat} {y z : α} (hk : k < l.length) (h : z ∈ l.set k y) : z = y ∨ z ∈ l.take k ∨ z ∈ l.drop (k + 1) := by
  rw [List.set_eq_take_append_cons_drop, if_pos hk] at h
  rcases List.mem_append.1 h with h | h
  · exact .inr (.inl h)
  · rcases List.mem_cons.1 h with h | h
    · exact .inl h
    · exact .inr (.inr h)
/-- Parts whose row is another one stay, whatever is written to a row of parts. -/
theorem OwP.other {w w' : World} {B : Nat} {v : Value} {xs : List Pa} {r : Option Nat} (h : OwP w B v xs) (hg : w.grownBy w' r) (ht : Typ w r 45) (hne : v.ownBlock = none ∨ v.ownBlock ≠ r) : OwP w' B v xs := by
  obtain ⟨ps, h1, h2, h3⟩ := h
  exact ⟨ps, h1, World.ownsRow.kept h2 hg hne, fun p hp => own_kept (h3 p hp) hg ht (by decide)⟩
theorem putA_map {α β : Type} (f : α → β) (l : List α) (x : α) (p : Nat → Bool) : (putA l x p).map f = putA (l.map f) (f x) p := by
  unfold putA
  rw [List.length_map]
  split
  · simp
  · simp [List.map_take, List.map_drop]
theorem putA_len {α : Type} (l : List α) (x : α) (p : Nat → Bool) : (putA l x p).length = l.length + 1 := by
  have h := putI_le l.length p
  rw [← putA_at]
  simp
  omega
theorem mem_putA {α : Type} {l : List α} {x z : α} {p : Nat → Bool} (h : z ∈ putA l x p) : z = x ∨ z ∈ l := by
  rw [← putA_at] at h
  rcases List.mem_append.1 h with h | h
  · exact .inr (List.mem_of_mem_take h)
  · rcases List.mem_cons.1 h with h | h
    · exact .inl h
    · exact .inr (List.mem_of_mem_drop h)
theorem getD_ufst {ps : List (Up × Value)} {l : List Up} (h : ps.map (·.1) = l) {k : Nat} (hk : k < l.length) : (ps.getD k up00).1 = l.getD k up0 := by
  subst h
  have hk' : k < ps.length := by simpa using hk
  simp [List.getD, hk']
theorem getD_pfst (qs : List (Pa × Value)) (k : Nat) : (qs.getD k (pa0, Value.slice none 0 0)).1 = (qs.map (·.1)).getD k pa0 := by
  rcases Nat.lt_or_ge k qs.length with hk | hk
  · simp [List.getD, hk]
  · simp [List.getD, hk]
theorem pas_pairs (qs : List (Pa × Value)) (x : Pa) (o : Value) : (putA (qs.filter (fun y => !(y.1.n == x.n))) (x, o) (fun i => decide (x.n < ((qs.filter (fun y => !(y.1.n == x.n))).getD i (pa0, Value.slice none 0 0)).1.n))).map (·.1) = pasA (qs.map (·.1)) x := by
  rw [putA_map]
  unfold pasA
  have e : (qs.filter (fun y => !(y.1.n == x.n))).map (·.1) = (qs.map (·.1)).filter (fun y => !(y.n == x.n)) := by
    rw [List.filter_map]; rfl
  rw [e]
  congr 1
  funext i
  rw [getD_pfst, e]
end Go.Proofs.YtdgmdapijhbocaaGreat

/- state.addPart: the walk. -/
namespace Go.Proofs.YtdgmdapijhbocaaGreat
open Go.RowKit Go.Maps
set_option maxRecDepth 100000
set_option linter.unusedVariables false
set_option linter.unusedSimpArgs false
attribute [local go_sem ↓] Go.wp_at_zero Go.wp_at_succ
set_option maxHeartbeats 2000000 in
theorem addPart_any (S : St) (id : Int) (x : Pa) (ua : Option Addr) (uc : Nat) (B X : Nat) (w : World) (h : Bx w B X S) (hX : B ≤ X) (hw : WfS S) (hn : S.ups.length ≤ 1000) (hpn : ∀ y ∈ S.ups, y.parts.length ≤ 1000) (hsec : x.sec.length * 8 ≤ 281474976710656) (hI : ∀ w', Below B w w' → Ints w' (.slice ua x.sec.length uc) x.sec) :
    Calls Tryz.prog 70 #[.pointer (some ⟨X, 0, none⟩), .int .i64 id, paV x (.slice ua x.sec.length uc)] w fun e w' => e = .returned (.int .i64 (adpE S id)) ∧ (adpE S id = 0 → Bx w' B X (adpS S id x)) ∧ Below B w w' := by
  have hXl := h.lt
  obtain ⟨b, v, u, q, g, hr, hO⟩ := h
  obtain ⟨E, hE⟩ : ∃ E, adpE S id = E := ⟨_, rfl⟩
  obtain ⟨Q, hQ⟩ : ∃ Q, adpS S id x = Q := ⟨_, rfl⟩
  rw [hE, hQ]
  have HE := hide hE
  have HQ := hide hQ
  have HI := hide hI
  have hw0 := bl1 w (.cells (paL x (.slice ua x.sec.length uc)).toArray 45)
  have hL := hide (((hO.up hw0).ups).lst hw.ups)
  have hr0 := (hw0.block X hXl).trans hr
  have HR0 := hide hr
  have HO0 := hide hO
  have bx := OSt.boxr hr0
  have c0 := bx.c0
  have c1 := bx.c1
  have c2 := bx.c2
  have c3 := bx.c3
  have c4 := bx.c4
  have c5 := bx.c5
  have c6 := bx.c6
  clear hr hO hE hQ bx hr0 hI
  go_enter Tryz.func70, Tryz.ntmps70
  go_wp2_with fail
  refine (findUpload_any S b v u q g id _ (unhide hL)).mono ?_
  rintro e w1 ⟨rfl, hb1⟩
  have hbd := firstI_lt S.ups.length (upP S.ups id)
  obtain ⟨I, hII⟩ : ∃ I, firstI S.ups.length (upP S.ups id) = I := ⟨_, rfl⟩
  rw [hII] at hbd ⊢
  have HII : Hid (idxU S id = I) := hII
  have hw1 := bl_trans hw0 hb1
  have hr1 := (hw1.block X hXl).trans (unhide HR0)
  have HL1 : Hid (Below B w w1) := bl_lo hw1 (by omega)
  have hPr := (hb1.block w.heap.size (by simp)).trans (heap_alloc_new _ _)
  have hXl1 := (Array.getElem?_eq_some_iff.1 hr1).1
  clear hII hb1 c0 c1 c2 c3 c4 c5 c6
  by_cases hneg : I < 0
  · have HE6 : Hid (E = 6) := by show _ = _; rw [← unhide HE]; unfold adpE; rw [unhide HII, if_pos hneg]
    go_wp2
    go_ret
    exact ⟨ret_int (unhide HE6).symm, fun e => absurd ((unhide HE6).symm.trans e) (by decide), unhide HL1⟩
  obtain ⟨k, rfl⟩ := Int.eq_ofNat_of_zero_le (show 0 ≤ I by omega)
  have hk : k < S.ups.length := by omega
  have HE0 : Hid (E = 0) := by show _ = _; rw [← unhide HE]; unfold adpE; rw [unhide HII, if_neg hneg]
  have HQ2 : Hid ({ S with ups := S.ups.set k { S.ups.getD k up0 with parts := pasA (S.ups.getD k up0).parts x } } = Q) := by show _ = _; rw [← unhide HQ]; unfold adpS adpU; rw [unhide HII]; rfl
  have hO1 := (unhide HO0).up hw1
  obtain ⟨ps, hps, hown0, hin0, hpw⟩ := (unhide HO0).ups
  have hown := own_up hw1 hown0
  have hin : ∀ p ∈ ps, OwP w1 B p.2 p.1.parts := fun p hp => (hin0 p hp).up hw1
  have hpl : ps.length = S.ups.length := by have := congrArg List.length hps; rw [List.length_map] at this; exact this
  rw [hpl] at hown
  obtain ⟨gu, cap, sp, rfl, hBg, hrow, hlen, hcap, hnc, hxl⟩ := own_row hown (by omega)
  have hkp : k < ps.length := by omega
  obtain ⟨P, hP⟩ : ∃ P, ps.getD k up00 = P := ⟨_, rfl⟩
  have hP1 : P.1 = S.ups.getD k up0 := by rw [← hP]; exact getD_ufst hps hk
  have hPm : P ∈ ps := by rw [← hP]; exact getD_mem hkp
  obtain ⟨qs, hqs, hqo0, hqi0⟩ := hin0 P hPm
  have hqo := own_up hw1 hqo0
  have hqi : ∀ p ∈ qs, OwI w1 B p.2 p.1.sec := fun p hp => own_up hw1 (hqi0 p hp)
  obtain ⟨Y, hY⟩ : ∃ Y, S.ups.getD k up0 = Y := ⟨_, rfl⟩
  have hYm : Y ∈ S.ups := by
    rw [← hY, List.getD_eq_getElem?_getD, List.getElem?_eq_getElem hk]
    exact List.getElem_mem hk
  obtain ⟨P1, s⟩ := P
  simp only at hP1 hqs hqo hqo0
  rw [hY] at hP1
  subst hP1
  have hql : qs.length = P1.parts.length := by have := congrArg List.length hqs; rw [List.length_map] at this; exact this
  have hqn : qs.length ≤ 1000 := by rw [hql]; exact hpn _ hYm
  obtain ⟨sa, sc, hsv, hsn, hsc⟩ := own_form hqo
  have d4 := cell_of hr1 4 rfl
  have m3 := row_at upP2 4 (fun _ => rfl) up00 hrow hkp (j := 3) (by decide) (by rw [hP]; rfl)
  have hgl : gu < w1.heap.size := (Array.getElem?_eq_some_iff.1 hrow).1
  have hPl : w.heap.size < w1.heap.size := (Array.getElem?_eq_some_iff.1 hPr).1
  have hsne : s.ownBlock ≠ some w.heap.size := by
    intro e
    have := (hqo0.lt _ e).2
    omega
  have hPn := cell_of hPr 0 rfl
  have hqw : ∀ y ∈ qs, ∀ n ∈ y.1.sec, (Lit.int .i64 n).wf = true := fun y hy => (hw.ups P1 hYm).2 y.1 (by rw [← hqs]; exact List.mem_map.2 ⟨y, hy, rfl⟩)
  have HR1 := hide hr1
  have HO1 := hide hO1
  have HRow := hide hrow
  have HPS := hide hps
  have HIN := hide hin
  have HPW := hide hpw
  have HLEN := hide hlen
  have HP := hide hP
  have HYY := hide hY
  have HQS := hide hqs
  have HQI := hide hqi
  have HQO := hide hqo
  have HPR := hide hPr
  have HQW := hide hqw
  clear hown0 hin0 hqo0 hqi0
  clear hr1 hO1 hrow hps hin hpw hlen hP hY hqs hqi hqo hPr hxl hown hPm hYm hL hneg hqw hql
  subst hsv
  go_wp2_with fail
  refine (deleteFuncPo_any x.n B w.heap.size (.slice sa qs.length sc) qs w1 (unhide HQO) (unhide HQI) (unhide HQW) hPn hsne).mono ?_
  rintro e w2 ⟨o, rfl, hOd, hob, hg2⟩
  obtain ⟨fs, hfs⟩ : ∃ fs, qs.filter (fun y => !(y.1.n == x.n)) = fs := ⟨_, rfl⟩
  rw [hfs] at hOd
  have HFS := hide hfs
  have hfl : fs.length ≤ 1000 := by rw [← hfs]; exact Nat.le_trans (List.length_filter_le _ _) hqn
  have hTs : Typ w1 (Value.slice sa qs.length sc).ownBlock 45 := own_typ (unhide HQO)
  have hrX2 := row_kept (unhide HR1) hg2 hTs (by decide)
  have hRow2 := row_kept (unhide HRow) hg2 hTs (by decide)
  have hPR2 : w2.heap[w.heap.size]? = some (.cells (paL x (.slice ua x.sec.length uc)).toArray 45 (0, 0)) := (hg2.block w.heap.size hPl (fun e => hsne e.symm)).trans (unhide HPR)
  have HL2 : Hid (Below B w w2) := bl_tr (unhide HL1) (gb_lo hg2 (by omega) (fun j e => ((unhide HQO).lt j e).1))
  have HI2 := hide (unhide HI w2 (unhide HL2))
  obtain ⟨oa, oc, rfl, ol, om⟩ := own_form hOd
  have d4' := cell_of hrX2 4 rfl
  have p0 := cell_of hPR2 0 rfl
  have p1 := cell_of hPR2 1 rfl
  have p2 := cell_of hPR2 2 rfl
  have hXl2 := (Array.getElem?_eq_some_iff.1 hrX2).1
  have hPl2 := (Array.getElem?_eq_some_iff.1 hPR2).1
  have hgl2 := (Array.getElem?_eq_some_iff.1 hRow2).1
  have HOD := hide hOd
  have HG2 := hide hg2
  have HRX2 := hide hrX2
  have HROW2 := hide hRow2
  have HPR2 := hide hPR2
  have HTS := hide hTs
  have HFI : Hid (∀ p ∈ fs, OwI w2 B p.2 p.1.sec) := by
    intro p hp
    rw [← hfs] at hp
    exact own_kept (unhide HQI p (List.mem_filter.1 hp).1) hg2 hTs (by decide)
  have HFW : Hid (∀ p ∈ fs, ∀ n ∈ p.1.sec, (Lit.int .i64 n).wf = true) := by
    intro p hp
    rw [← hfs] at hp
    exact unhide HQW p (List.mem_filter.1 hp).1
  have hB2 : B ≤ w2.heap.size := by omega
  have HOB := hide hob
  have mf := fun j => fz_of hRow2 j
  clear d4 m3 hPn hfs hOd hg2 hrX2 hRow2 hPR2 hTs hob
  go_upto_region 5 with fail
  go_region_law ((first
    | (go_simp; go_at_call 117; refine (copyPart_any x ua _ uc _ (Ints.up (Below.drew (Below.refl _ _)) (unhide HI2)) hsec).mono ?_; rintro e w3 ⟨o3, rfl, hO3, hb3⟩; have hb23 : Below w2.heap.size w2 w3 := ⟨hb3.os, hb3.tape, hb3.output, hb3.size, hb3.block⟩; have d6 := scell_up hb23 d4'; have q0 := scell_up hb23 p0; have hl6 : X < w3.heap.size := Nat.lt_of_lt_of_le hXl2 hb23.size; have hl7 : w.heap.size < w3.heap.size := Nat.lt_of_lt_of_le hPl2 hb23.size; have hl8 : gu < w3.heap.size := Nat.lt_of_lt_of_le hgl2 hb23.size; obtain ⟨o3a, o3c, rfl, _, _⟩ := own_form hO3; dsimp only)
    | (go_simp; go_at_call 130; refine (putAheadPa_any B _ fs x o3a o3c x.n w.heap.size w3 (own_up hb23 (unhide HOD)) (fun p hp => own_up hb23 (unhide HFI p hp)) (unhide HFW) (by exact q0) hfl (by have := hb23.size; omega)).mono ?_; rintro e w4 ⟨o4, rfl, hO4, hg4, hl4⟩; obtain ⟨o4a, o4c, rfl, _, _⟩ := own_form hO4; have hT3 : Typ w3 (Value.slice oa fs.length oc).ownBlock 45 := own_typ (own_up hb23 (unhide HOD)); have hRow4 := row_kept ((hb23.block gu hgl2).trans (unhide HROW2)) hg4 hT3 (by decide); have hrX4 := row_kept ((hb23.block X hXl2).trans (unhide HRX2)) hg4 hT3 (by decide); have e4 := cell_of hrX4 4 rfl; have m9 := row_at upP2 4 (fun _ => rfl) up00 hRow4 hkp (j := 3) (by decide) (by rw [unhide HP]; rfl); have mf9 := fun j => fz_of hRow4 j; have hXl4 := (Array.getElem?_eq_some_iff.1 hrX4).1; have hgl4 := (Array.getElem?_eq_some_iff.1 hRow4).1; dsimp only)
    | fail))
  all_goals
    obtain ⟨V4, hV4⟩ : ∃ V4, Value.slice o4a (fs.length + 1) o4c = V4 := ⟨_, rfl⟩
    obtain ⟨w5, hw5⟩ : ∃ w5, w4.setCell ⟨gu, k * 4 + 3, none⟩ V4 = w5 := ⟨_, rfl⟩
    rw [hV4] at hO4 hl4
    have r5 := row_set upP2 4 (fun _ => rfl) up00 hRow4 hkp (j := 3) (by decide) V4 ({ P1 with parts := pasA P1.parts x }, V4) (by rw [unhide HP]; rfl)
    have hg5 : w4.grownBy w5 (some gu) := by rw [← hw5]; exact gb_setCell _ _ _ _
    have ht5 := row_typ hRow4
    rw [hw5] at r5
    have HB : Hid (Bx w5 B X Q) := by
      have hg2 := unhide HG2
      have hTs := unhide HTS
      have KV : ∀ {T : TypeId} {n : Nat} {z : Value} {m : Nat} {xs : List Value}, T ≠ 45 → T ≠ 102 → w1.ownsRow B T n z m xs → w5.ownsRow B T n z m xs := fun h1 h2 h3 => own_kept (own_kept (own_up hb23 (own_kept h3 hg2 hTs h1)) hg4 hT3 h1) hg5 ht5 h2
      have hpl5 : (ps.set k ({ P1 with parts := pasA P1.parts x }, V4)).length = S.ups.length := by rw [List.length_set]; exact hpl
      obtain ⟨hpl', hpr'⟩ := pair_at up00 (unhide HPW) hkp
      rw [unhide HP] at hpl' hpr'
      have hne : ∀ z, (z ∈ ps.take k ∨ z ∈ ps.drop (k + 1)) → z.2.ownBlock = none ∨ z.2.ownBlock ≠ (Value.slice sa qs.length sc).ownBlock := fun z hz => by
        rcases hz with hz | hz
        · exact hpl' z hz
        · rcases hpr' z hz with h | h
          · cases hc : z.2.ownBlock with
            | none => exact .inl rfl
            | some i => right; rw [h]; exact fun e => by cases e
          · exact .inr fun e => h e.symm
      have hmem : ∀ z, (z ∈ ps.take k ∨ z ∈ ps.drop (k + 1)) → z ∈ ps := fun z hz => hz.elim List.mem_of_mem_take List.mem_of_mem_drop
      have hap : ∀ z, (z ∈ ps.take k ∨ z ∈ ps.drop (k + 1)) → z.2.ownBlock = none ∨ z.2.ownBlock ≠ V4.ownBlock := fun z hz => by
        cases hc : z.2.ownBlock with
        | none => exact .inl rfl
        | some i =>
          right
          intro e
          obtain ⟨zs, _, hzo, _⟩ := unhide HIN z (hmem z hz)
          have hi := (hzo.lt i hc).2
          rcases hl4 i e.symm with e2 | e2
          · rw [unhide HOB] at e2
            rcases hne z hz with h | h
            · rw [h] at hc; cases hc
            · exact h (hc.trans e2.symm)
          · have h1 := hg2.size
            have h2 := hb23.size
            omega
      have hs5 : OSt w5 B b v (.slice (some ⟨gu, 0, none⟩) S.ups.length cap) q g { S with ups := S.ups.set k { P1 with parts := pasA P1.parts x } } := by
        have hO1 := unhide HO1
        refine ⟨KV (by decide) (by decide) hO1.bus, (((hO1.ves.kept hg2 hTs (by decide) (by decide)).up hb23).kept hg4 hT3 (by decide) (by decide)).kept hg5 ht5 (by decide) (by decide), ⟨ps.set k ({ P1 with parts := pasA P1.parts x }, V4), ?_, ?_, ?_, ?_⟩, KV (by decide) (by decide) hO1.que, KV (by decide) (by decide) hO1.gone⟩
        · rw [List.map_set, unhide HPS]
        · rw [hpl5]
          have e1 : ((ps.set k ({ P1 with parts := pasA P1.parts x }, V4)).flatMap (fun p => upL p.1 p.2)).length = ps.length * 4 := by
            have := flat_len2 (fun p : Up × Value => upL p.1 p.2) 4 (fun _ => rfl) (ps.set k ({ P1 with parts := pasA P1.parts x }, V4))
            rw [List.length_set] at this; exact this
          have e2 : (ps.flatMap (fun p => upL p.1 p.2)).length = ps.length * 4 := flat_len2 (fun p : Up × Value => upL p.1 p.2) 4 (fun _ => rfl) ps
          have e3 : (ps.flatMap (fun p => upL p.1 p.2)).length + sp.length = cap * 4 := unhide HLEN
          exact own_back hBg r5 (by omega) hcap (by rw [e1, hpl]) hnc
        · intro p hp
          rcases mem_set_cut hkp hp with rfl | hp
          · refine ⟨putA fs (x, .slice o3a x.sec.length o3c) (fun i => decide (x.n < (fs.getD i (pa0, Value.slice none 0 0)).1.n)), ?_, ?_, ?_⟩
            · rw [← unhide HFS, pas_pairs, unhide HQS]
            · rw [putA_len]
              exact own_kept hO4 hg5 ht5 (by decide)
            · intro y hy
              rcases mem_putA hy with rfl | hy
              · exact own_kept (own_kept (own_base hO3 hB2) hg4 hT3 (by decide)) hg5 ht5 (by decide)
              · exact own_kept (own_kept (own_up hb23 (unhide HFI y hy)) hg4 hT3 (by decide)) hg5 ht5 (by decide)
          · have hz := (unhide HIN p (hmem p hp)).other hg2 hTs (hne p hp)
            have hz2 := (hz.up hb23).other hg4 hT3 (by rw [unhide HOB]; exact hne p hp)
            exact hz2.kept hg5 ht5 (by decide) (by decide)
        · refine pair_set (unhide HPW) (fun z hz => hap z (.inl hz)) (fun z hz => ?_) hkp
          cases hc : V4.ownBlock with
          | none => exact .inl hc
          | some i =>
            right
            rcases hap z (.inr hz) with h | h
            · show V4.ownBlock ≠ z.2.ownBlock
              rw [hc, h]; exact fun e => by cases e
            · exact fun e => h e.symm
      show Bx _ _ _ _
      rw [← unhide HQ2, unhide HYY]
      exact ⟨b, v, _, q, g, row_kept hrX4 hg5 ht5 (by decide), hs5⟩
    have HL : Hid (Below B w w5) := bl_tr (unhide HL2) (bl_tr (bl_lo hb23 hB2) (bl_tr (gb_lo hg4 (by have := hb23.size; omega) (fun j e => by rw [unhide HOB] at e; exact ((unhide HQO).lt j e).1)) (gb_lo hg5 (by have := hg4.size; have := hb23.size; omega) (fun j e => by injection e with e; omega))))
    rw [← hV4] at hw5
    rw [← hw5] at HB HL
    clear hO4 hl4 r5 hg5 ht5 hw5 hV4 hg4 hT3 hRow4 hrX4 hO3 hb3 hb23 e4 m9 mf9
    go_wp2
    go_ret
    exact ⟨ret_int (unhide HE0).symm, fun _ => unhide HB, unhide HL⟩
end Go.Proofs.YtdgmdapijhbocaaGreat

/- Records in memory; state.change. -/
namespace Go.Proofs.YtdgmdapijhbocaaGreat
open Go.RowKit Go.Maps
set_option maxRecDepth 100000
set_option linter.unusedVariables false
set_option linter.unusedSimpArgs false
structure Rc where
  kind : Int
  id : Int
  n : Int
  nam : ByteArray
  key : ByteArray
  pre : ByteArray
  fre : Int
  dro : Int
  ver : Ve
  ask : Ak
  part : Pa
  sec : List Int
  vol : Int
  pos : Int
abbrev rcA (r : Rc) (vv pv sv : Value) : Array Value := #[.int .i64 r.kind, .int .i64 r.id, .int .i64 r.n, .string r.nam, .string r.key, .string r.pre, .int .i64 r.fre, .int .i64 r.dro, .int .i64 r.ver.id, .string r.ver.bu, .string r.ver.ke, .bool r.ver.nul, .bool r.ver.mar, .int .i64 r.ver.size, .int .i64 r.ver.time, .int .i64 r.ver.tier, vv, .int .i64 r.ver.vol, .int .i64 r.ver.pos, .int .i64 r.ver.til, .int .i64 r.ask.ver, .int .i64 r.ask.days, .int .i64 r.ask.cls, .int .i64 r.part.n, .int .i64 r.part.size, pv, sv, .int .i64 r.vol, .int .i64 r.pos]
abbrev rcV (r : Rc) (vv pv sv : Value) : Value := .agg (rcA r vv pv sv)
/-- The lists of a record in memory. -/
structure RcI (w : World) (r : Rc) (vv pv sv : Value) : Prop where
  ver : Ints w vv r.ver.sec
  part : Ints w pv r.part.sec
  sec : Ints w sv r.sec
theorem RcI.up {w w' : World} {r : Rc} {vv pv sv : Value} (h : RcI w r vv pv sv) (hb : Below w.heap.size w w') : RcI w' r vv pv sv := ⟨Ints.up hb h.ver, Ints.up hb h.part, Ints.up hb h.sec⟩
structure FitR (r : Rc) : Prop where
  nam : r.nam.size ≤ maxLen
  pre : r.pre.size ≤ maxLen
  ver : r.ver.sec.length * 8 ≤ 281474976710656
  part : r.part.sec.length * 8 ≤ 281474976710656
  sec : r.sec.length * 8 ≤ 281474976710656
/-- What is known of a state that may be: how long its lists are. -/
structure Few (S : St) : Prop where
  n0 : 1 ≤ S.next
  n1 : S.next ≤ 1048576
  c0 : 0 ≤ S.clock
  c1 : S.clock ≤ 1073741824
  bus : S.bus.length ≤ 1000
  ves : S.ves.length ≤ 1000
  ups : S.ups.length ≤ 1000
  que : S.que.length ≤ 1000
  gone : S.gone.length ≤ 1000
  parts : ∀ y ∈ S.ups, y.parts.length ≤ 1000
def chgE (S : St) (r : Rc) : Int := if r.kind = 1 then adbE S r.nam else if r.kind = 2 then modE S r.nam r.n else if r.kind = 3 then rueE S r.nam r.pre r.fre r.dro else if r.kind = 4 then advE S r.ver else if r.kind = 5 then dr1E S r.id else if r.kind = 6 then frzE S r.id else if r.kind = 7 then adaE S r.ask else if r.kind = 8 then thwE S r.id else if r.kind = 9 then chlE S r.id else if r.kind = 10 then aduE S r.id else if r.kind = 11 then adpE S r.id else if r.kind = 12 then drUE S r.id else if r.kind = 13 then pasE S r.n else if r.kind = 14 then givE S r.vol else 3
def chgS (S : St) (r : Rc) : St := if r.kind = 1 then adbS S r.nam else if r.kind = 2 then modS S r.nam r.n else if r.kind = 3 then rueS S r.nam r.pre r.fre r.dro else if r.kind = 4 then advS S r.ver else if r.kind = 5 then drpS S (idxV S r.id).toNat else if r.kind = 6 then frzS S r.id r.vol r.pos else if r.kind = 7 then adaS S r.ask else if r.kind = 8 then thwS S r.id r.sec r.n else if r.kind = 9 then chlS S r.id else if r.kind = 10 then aduS S r.id r.nam r.key else if r.kind = 11 then adpS S r.id r.part else if r.kind = 12 then drUS S r.id else if r.kind = 13 then pasS S r.n else if r.kind = 14 then givS S r.vol else S
theorem chg_1 {S : St} {r : Rc} (h : r.kind = 1) : chgE S r = adbE S r.nam ∧ chgS S r = adbS S r.nam := by simp [chgE, chgS, h]
theorem chg_2 {S : St} {r : Rc} (h : r.kind = 2) : chgE S r = modE S r.nam r.n ∧ chgS S r = modS S r.nam r.n := by simp [chgE, chgS, h]
theorem chg_3 {S : St} {r : Rc} (h : r.kind = 3) : chgE S r = rueE S r.nam r.pre r.fre r.dro ∧ chgS S r = rueS S r.nam r.pre r.fre r.dro := by simp [chgE, chgS, h]
theorem chg_4 {S : St} {r : Rc} (h : r.kind = 4) : chgE S r = advE S r.ver ∧ chgS S r = advS S r.ver := by simp [chgE, chgS, h]
theorem chg_5 {S : St} {r : Rc} (h : r.kind = 5) : chgE S r = dr1E S r.id ∧ chgS S r = drpS S (idxV S r.id).toNat := by simp [chgE, chgS, h]
theorem chg_6 {S : St} {r : Rc} (h : r.kind = 6) : chgE S r = frzE S r.id ∧ chgS S r = frzS S r.id r.vol r.pos := by simp [chgE, chgS, h]
theorem chg_7 {S : St} {r : Rc} (h : r.kind = 7) : chgE S r = adaE S r.ask ∧ chgS S r = adaS S r.ask := by simp [chgE, chgS, h]
theorem chg_8 {S : St} {r : Rc} (h : r.kind = 8) : chgE S r = thwE S r.id ∧ chgS S r = thwS S r.id r.sec r.n := by simp [chgE, chgS, h]
theorem chg_9 {S : St} {r : Rc} (h : r.kind = 9) : chgE S r = chlE S r.id ∧ chgS S r = chlS S r.id := by simp [chgE, chgS, h]
theorem chg_10 {S : St} {r : Rc} (h : r.kind = 10) : chgE S r = aduE S r.id ∧ chgS S r = aduS S r.id r.nam r.key := by simp [chgE, chgS, h]
theorem chg_11 {S : St} {r : Rc} (h : r.kind = 11) : chgE S r = adpE S r.id ∧ chgS S r = adpS S r.id r.part := by simp [chgE, chgS, h]
theorem chg_12 {S : St} {r : Rc} (h : r.kind = 12) : chgE S r = drUE S r.id ∧ chgS S r = drUS S r.id := by simp [chgE, chgS, h]
theorem chg_13 {S : St} {r : Rc} (h : r.kind = 13) : chgE S r = pasE S r.n ∧ chgS S r = pasS S r.n := by simp [chgE, chgS, h]
theorem chg_14 {S : St} {r : Rc} (h : r.kind = 14) : chgE S r = givE S r.vol ∧ chgS S r = givS S r.vol := by simp [chgE, chgS, h]
theorem chg_x {S : St} {r : Rc} (h1 : r.kind ≠ 1) (h2 : r.kind ≠ 2) (h3 : r.kind ≠ 3) (h4 : r.kind ≠ 4) (h5 : r.kind ≠ 5) (h6 : r.kind ≠ 6) (h7 : r.kind ≠ 7) (h8 : r.kind ≠ 8) (h9 : r.kind ≠ 9) (h10 : r.kind ≠ 10) (h11 : r.kind ≠ 11) (h12 : r.kind ≠ 12) (h13 : r.kind ≠ 13) (h14 : r.kind ≠ 14) : chgE S r = 3 := by simp [chgE, h1, h2, h3, h4, h5, h6, h7, h8, h9, h10, h11, h12, h13, h14]
attribute [local go_sem ↓] Go.wp_at_zero Go.wp_at_succ
set_option maxHeartbeats 8000000 in
theorem change_any (S : St) (r : Rc) (vv pv sv : Value) (B X : Nat) (b v u q g : Value) (w : World) (hr : w.heap[X]? = some (.cells (stA S b v u q g) 29 (0, 0))) (hO : OSt w B b v u q g S) (hA : Apt w B v u g S) (hX : B ≤ X) (hw : WfS S) (hF : Few S) (hR : FitR r) (hI : ∀ w', Below B w w' → RcI w' r vv pv sv) :
    Calls Tryz.prog 28 #[.pointer (some ⟨X, 0, none⟩), rcV r vv pv sv] w fun e w' => e = .returned (.int .i64 (chgE S r)) ∧ (chgE S r = 0 → Bx w' B X (chgS S r)) ∧ Below B w w' := by
  have hXl := (Array.getElem?_eq_some_iff.1 hr).1
  have hi0 := hI w (bl_lo (Below.refl _ _) (by omega))
  obtain ⟨va, vc, rfl, _, _⟩ := hi0.ver.form
  obtain ⟨pa, pc, rfl, _, _⟩ := hi0.part.form
  obtain ⟨sa, sc, rfl, _, _⟩ := hi0.sec.form
  clear hi0
  obtain ⟨kind, id, n, nam, key, pre, fre, dro, ver, ask, part, sec, vol, pos⟩ := r
  obtain ⟨hfn, hfp, hfv, hfa, hfs⟩ := hR
  have HO := hide hO
  have HA := hide hA
  have HI := hide hI
  have HR0 := hide hr
  obtain ⟨E, hE⟩ : ∃ E, chgE S ⟨kind, id, n, nam, key, pre, fre, dro, ver, ask, part, sec, vol, pos⟩ = E := ⟨_, rfl⟩
  obtain ⟨Q, hQ⟩ : ∃ Q, chgS S ⟨kind, id, n, nam, key, pre, fre, dro, ver, ask, part, sec, vol, pos⟩ = Q := ⟨_, rfl⟩
  rw [hE, hQ]
  have HE := hide hE
  have HQ := hide hQ
  clear hE hQ hO hA hI
  obtain ⟨W, hW⟩ : ∃ W, w.alloc (.cells (rcA ⟨kind, id, n, nam, key, pre, fre, dro, ver, ask, part, sec, vol, pos⟩ (.slice va ver.sec.length vc) (.slice pa part.sec.length pc) (.slice sa sec.length sc)) 47) = W := ⟨_, rfl⟩
  have hB1 : Bx W B X S := by rw [← hW]; exact ⟨b, v, u, q, g, ((bl1 w _).block X hXl).trans hr, (unhide HO).up (bl1 _ _)⟩
  have hR1 : W.heap[X]? = some (.cells (stA S b v u q g) 29 (0, 0)) := by rw [← hW]; exact ((bl1 w _).block X hXl).trans hr
  have hWB : Below B w W := by rw [← hW]; exact bl_lo (bl1 _ _) (by omega)
  have HW := hide hW
  clear hW hr
  by_cases k1 : kind = 1
  · as_aux_lemma =>
    subst k1
    obtain ⟨h1, h2⟩ := chg_1 (S := S) (r := ⟨1, id, n, nam, key, pre, fre, dro, ver, ask, part, sec, vol, pos⟩) rfl
    have HE' : Hid (E = adbE S nam) := by show _ = _; rw [← unhide HE]; exact h1
    have HQ' : Hid (Q = adbS S nam) := by show _ = _; rw [← unhide HQ]; exact h2
    clear h1 h2
    go_enter Tryz.func28, Tryz.ntmps28
    go_wp2_with fail
    rw [unhide HW]
    refine (addBucket_any S nam B X _ hB1 hX hw hF.bus hfn).mono ?_
    rintro e w1 ⟨rfl, hBx, hbl⟩
    rw [← unhide HE', ← unhide HQ'] at hBx
    rw [← unhide HE']
    have HBX := hide hBx
    have HBL := hide (bl_tr hWB hbl)
    clear hBx hbl
    go_wp2
    go_ret
    exact ⟨rfl, unhide HBX, unhide HBL⟩
  by_cases k2 : kind = 2
  · as_aux_lemma =>
    subst k2
    obtain ⟨h1, h2⟩ := chg_2 (S := S) (r := ⟨2, id, n, nam, key, pre, fre, dro, ver, ask, part, sec, vol, pos⟩) rfl
    have HE' : Hid (E = modE S nam n) := by show _ = _; rw [← unhide HE]; exact h1
    have HQ' : Hid (Q = modS S nam n) := by show _ = _; rw [← unhide HQ]; exact h2
    clear h1 h2
    go_enter Tryz.func28, Tryz.ntmps28
    go_wp2_with fail
    rw [unhide HW]
    refine (setMode_any S nam n B X _ hB1 hX hw hF.bus).mono ?_
    rintro e w1 ⟨rfl, hBx, hbl⟩
    rw [← unhide HE', ← unhide HQ'] at hBx
    rw [← unhide HE']
    have HBX := hide hBx
    have HBL := hide (bl_tr hWB hbl)
    clear hBx hbl
    go_wp2
    go_ret
    exact ⟨rfl, unhide HBX, unhide HBL⟩
  by_cases k3 : kind = 3
  · as_aux_lemma =>
    subst k3
    obtain ⟨h1, h2⟩ := chg_3 (S := S) (r := ⟨3, id, n, nam, key, pre, fre, dro, ver, ask, part, sec, vol, pos⟩) rfl
    have HE' : Hid (E = rueE S nam pre fre dro) := by show _ = _; rw [← unhide HE]; exact h1
    have HQ' : Hid (Q = rueS S nam pre fre dro) := by show _ = _; rw [← unhide HQ]; exact h2
    clear h1 h2
    go_enter Tryz.func28, Tryz.ntmps28
    go_wp2_with fail
    rw [unhide HW]
    refine (setRule_any S nam pre fre dro B X _ hB1 hX hw hF.bus hfp).mono ?_
    rintro e w1 ⟨rfl, hBx, hbl⟩
    rw [← unhide HE', ← unhide HQ'] at hBx
    rw [← unhide HE']
    have HBX := hide hBx
    have HBL := hide (bl_tr hWB hbl)
    clear hBx hbl
    go_wp2
    go_ret
    exact ⟨rfl, unhide HBX, unhide HBL⟩
  by_cases k4 : kind = 4
  · as_aux_lemma =>
    subst k4
    obtain ⟨h1, h2⟩ := chg_4 (S := S) (r := ⟨4, id, n, nam, key, pre, fre, dro, ver, ask, part, sec, vol, pos⟩) rfl
    have HE' : Hid (E = advE S ver) := by show _ = _; rw [← unhide HE]; exact h1
    have HQ' : Hid (Q = advS S ver) := by show _ = _; rw [← unhide HQ]; exact h2
    clear h1 h2
    go_enter Tryz.func28, Tryz.ntmps28
    go_wp2_with fail
    rw [unhide HW]
    refine (addVersion_any S ver va vc B X _ hB1 hX hw hF.ves hF.n0 hF.n1 hfv (fun w' hb => (unhide HI w' (bl_tr hWB hb)).ver)).mono ?_
    rintro e w1 ⟨rfl, hBx, hbl⟩
    rw [← unhide HE', ← unhide HQ'] at hBx
    rw [← unhide HE']
    have HBX := hide hBx
    have HBL := hide (bl_tr hWB hbl)
    clear hBx hbl
    go_wp2
    go_ret
    exact ⟨rfl, unhide HBX, unhide HBL⟩
  by_cases k5 : kind = 5
  · as_aux_lemma =>
    subst k5
    obtain ⟨h1, h2⟩ := chg_5 (S := S) (r := ⟨5, id, n, nam, key, pre, fre, dro, ver, ask, part, sec, vol, pos⟩) rfl
    have HE' : Hid (E = dr1E S id) := by show _ = _; rw [← unhide HE]; exact h1
    have HQ' : Hid (Q = drpS S (idxV S id).toNat) := by show _ = _; rw [← unhide HQ]; exact h2
    clear h1 h2
    go_enter Tryz.func28, Tryz.ntmps28
    go_wp2_with fail
    rw [unhide HW]
    refine (dropOne_any S id B X _ hB1 hX hw hF.ves).mono ?_
    rintro e w1 ⟨rfl, hBx, hbl⟩
    rw [← unhide HE', ← unhide HQ'] at hBx
    rw [← unhide HE']
    have HBX := hide hBx
    have HBL := hide (bl_tr hWB hbl)
    clear hBx hbl
    go_wp2
    go_ret
    exact ⟨rfl, unhide HBX, unhide HBL⟩
  by_cases k6 : kind = 6
  · as_aux_lemma =>
    subst k6
    obtain ⟨h1, h2⟩ := chg_6 (S := S) (r := ⟨6, id, n, nam, key, pre, fre, dro, ver, ask, part, sec, vol, pos⟩) rfl
    have HE' : Hid (E = frzE S id) := by show _ = _; rw [← unhide HE]; exact h1
    have HQ' : Hid (Q = frzS S id vol pos) := by show _ = _; rw [← unhide HQ]; exact h2
    clear h1 h2
    go_enter Tryz.func28, Tryz.ntmps28
    go_wp2_with fail
    rw [unhide HW]
    refine (freeze_any S id vol pos B X _ hB1 hX hw hF.ves).mono ?_
    rintro e w1 ⟨rfl, hBx, hbl⟩
    rw [← unhide HE', ← unhide HQ'] at hBx
    rw [← unhide HE']
    have HBX := hide hBx
    have HBL := hide (bl_tr hWB hbl)
    clear hBx hbl
    go_wp2
    go_ret
    exact ⟨rfl, unhide HBX, unhide HBL⟩
  by_cases k7 : kind = 7
  · as_aux_lemma =>
    subst k7
    obtain ⟨h1, h2⟩ := chg_7 (S := S) (r := ⟨7, id, n, nam, key, pre, fre, dro, ver, ask, part, sec, vol, pos⟩) rfl
    have HE' : Hid (E = adaE S ask) := by show _ = _; rw [← unhide HE]; exact h1
    have HQ' : Hid (Q = adaS S ask) := by show _ = _; rw [← unhide HQ]; exact h2
    clear h1 h2
    go_enter Tryz.func28, Tryz.ntmps28
    go_wp2_with fail
    rw [unhide HW]
    refine (addAsk_any S ask B X _ hB1 hX hw hF.ves hF.que).mono ?_
    rintro e w1 ⟨rfl, hBx, hbl⟩
    rw [← unhide HE', ← unhide HQ'] at hBx
    rw [← unhide HE']
    have HBX := hide hBx
    have HBL := hide (bl_tr hWB hbl)
    clear hBx hbl
    go_wp2
    go_ret
    exact ⟨rfl, unhide HBX, unhide HBL⟩
  by_cases k8 : kind = 8
  · as_aux_lemma =>
    subst k8
    obtain ⟨h1, h2⟩ := chg_8 (S := S) (r := ⟨8, id, n, nam, key, pre, fre, dro, ver, ask, part, sec, vol, pos⟩) rfl
    have HE' : Hid (E = thwE S id) := by show _ = _; rw [← unhide HE]; exact h1
    have HQ' : Hid (Q = thwS S id sec n) := by show _ = _; rw [← unhide HQ]; exact h2
    clear h1 h2
    go_enter Tryz.func28, Tryz.ntmps28
    go_wp2_with fail
    rw [unhide HW]
    refine (thaw_any S id n sec sa sc B X _ hB1 hX hw hF.ves hfs (fun w' hb => (unhide HI w' (bl_tr hWB hb)).sec)).mono ?_
    rintro e w1 ⟨rfl, hBx, hbl⟩
    rw [← unhide HE', ← unhide HQ'] at hBx
    rw [← unhide HE']
    have HBX := hide hBx
    have HBL := hide (bl_tr hWB hbl)
    clear hBx hbl
    go_wp2
    go_ret
    exact ⟨rfl, unhide HBX, unhide HBL⟩
  by_cases k9 : kind = 9
  · as_aux_lemma =>
    subst k9
    obtain ⟨h1, h2⟩ := chg_9 (S := S) (r := ⟨9, id, n, nam, key, pre, fre, dro, ver, ask, part, sec, vol, pos⟩) rfl
    have HE' : Hid (E = chlE S id) := by show _ = _; rw [← unhide HE]; exact h1
    have HQ' : Hid (Q = chlS S id) := by show _ = _; rw [← unhide HQ]; exact h2
    clear h1 h2
    go_enter Tryz.func28, Tryz.ntmps28
    go_wp2_with fail
    rw [unhide HW]
    refine (chill_any S id B X _ hB1 hX hw hF.ves).mono ?_
    rintro e w1 ⟨rfl, hBx, hbl⟩
    rw [← unhide HE', ← unhide HQ'] at hBx
    rw [← unhide HE']
    have HBX := hide hBx
    have HBL := hide (bl_tr hWB hbl)
    clear hBx hbl
    go_wp2
    go_ret
    exact ⟨rfl, unhide HBX, unhide HBL⟩
  by_cases k10 : kind = 10
  · as_aux_lemma =>
    subst k10
    obtain ⟨h1, h2⟩ := chg_10 (S := S) (r := ⟨10, id, n, nam, key, pre, fre, dro, ver, ask, part, sec, vol, pos⟩) rfl
    have HE' : Hid (E = aduE S id) := by show _ = _; rw [← unhide HE]; exact h1
    have HQ' : Hid (Q = aduS S id nam key) := by show _ = _; rw [← unhide HQ]; exact h2
    clear h1 h2
    go_enter Tryz.func28, Tryz.ntmps28
    go_wp2_with fail
    rw [unhide HW]
    refine (addUpload_any S id nam key B X _ hB1 hX hF.ups hF.n0 hF.n1).mono ?_
    rintro e w1 ⟨rfl, hBx, hbl⟩
    rw [← unhide HE', ← unhide HQ'] at hBx
    rw [← unhide HE']
    have HBX := hide hBx
    have HBL := hide (bl_tr hWB hbl)
    clear hBx hbl
    go_wp2
    go_ret
    exact ⟨rfl, unhide HBX, unhide HBL⟩
  by_cases k11 : kind = 11
  · as_aux_lemma =>
    subst k11
    obtain ⟨h1, h2⟩ := chg_11 (S := S) (r := ⟨11, id, n, nam, key, pre, fre, dro, ver, ask, part, sec, vol, pos⟩) rfl
    have HE' : Hid (E = adpE S id) := by show _ = _; rw [← unhide HE]; exact h1
    have HQ' : Hid (Q = adpS S id part) := by show _ = _; rw [← unhide HQ]; exact h2
    clear h1 h2
    go_enter Tryz.func28, Tryz.ntmps28
    go_wp2_with fail
    rw [unhide HW]
    refine (addPart_any S id part pa pc B X _ hB1 hX hw hF.ups hF.parts hfa (fun w' hb => (unhide HI w' (bl_tr hWB hb)).part)).mono ?_
    rintro e w1 ⟨rfl, hBx, hbl⟩
    rw [← unhide HE', ← unhide HQ'] at hBx
    rw [← unhide HE']
    have HBX := hide hBx
    have HBL := hide (bl_tr hWB hbl)
    clear hBx hbl
    go_wp2
    go_ret
    exact ⟨rfl, unhide HBX, unhide HBL⟩
  by_cases k12 : kind = 12
  · as_aux_lemma =>
    subst k12
    obtain ⟨h1, h2⟩ := chg_12 (S := S) (r := ⟨12, id, n, nam, key, pre, fre, dro, ver, ask, part, sec, vol, pos⟩) rfl
    have HE' : Hid (E = drUE S id) := by show _ = _; rw [← unhide HE]; exact h1
    have HQ' : Hid (Q = drUS S id) := by show _ = _; rw [← unhide HQ]; exact h2
    clear h1 h2
    go_enter Tryz.func28, Tryz.ntmps28
    go_wp2_with fail
    rw [unhide HW]
    refine (dropUpload_any S id B X _ hB1 hX hw hF.ups).mono ?_
    rintro e w1 ⟨rfl, hBx, hbl⟩
    rw [← unhide HE', ← unhide HQ'] at hBx
    rw [← unhide HE']
    have HBX := hide hBx
    have HBL := hide (bl_tr hWB hbl)
    clear hBx hbl
    go_wp2
    go_ret
    exact ⟨rfl, unhide HBX, unhide HBL⟩
  by_cases k13 : kind = 13
  · as_aux_lemma =>
    subst k13
    obtain ⟨h1, h2⟩ := chg_13 (S := S) (r := ⟨13, id, n, nam, key, pre, fre, dro, ver, ask, part, sec, vol, pos⟩) rfl
    have HE' : Hid (E = pasE S n) := by show _ = _; rw [← unhide HE]; exact h1
    have HQ' : Hid (Q = pasS S n) := by show _ = _; rw [← unhide HQ]; exact h2
    clear h1 h2
    go_enter Tryz.func28, Tryz.ntmps28
    go_wp2_with fail
    rw [unhide HW]
    refine (pass_any S n B X _ hB1 hX hF.c0 hF.c1).mono ?_
    rintro e w1 ⟨rfl, hBx, hbl⟩
    rw [← unhide HE', ← unhide HQ'] at hBx
    rw [← unhide HE']
    have HBX := hide hBx
    have HBL := hide (bl_tr hWB hbl)
    clear hBx hbl
    go_wp2
    go_ret
    exact ⟨rfl, unhide HBX, unhide HBL⟩
  by_cases k14 : kind = 14
  · as_aux_lemma =>
    subst k14
    obtain ⟨h1, h2⟩ := chg_14 (S := S) (r := ⟨14, id, n, nam, key, pre, fre, dro, ver, ask, part, sec, vol, pos⟩) rfl
    have HE' : Hid (E = givE S vol) := by show _ = _; rw [← unhide HE]; exact h1
    have HQ' : Hid (Q = givS S vol) := by show _ = _; rw [← unhide HQ]; exact h2
    clear h1 h2
    go_enter Tryz.func28, Tryz.ntmps28
    go_wp2_with fail
    rw [unhide HW]
    refine (giveUp_any S vol B X b v u q g _ hR1 (by rw [← unhide HW]; exact (unhide HO).up (bl1 _ _)) (by rw [← unhide HW]; exact (unhide HA).up (bl1 _ _)) hX hw hF.gone).mono ?_
    rintro e w1 ⟨rfl, hBx, hbl⟩
    rw [← unhide HE', ← unhide HQ'] at hBx
    rw [← unhide HE']
    have HBX := hide hBx
    have HBL := hide (bl_tr hWB hbl)
    clear hBx hbl
    go_wp2
    go_ret
    exact ⟨rfl, unhide HBX, unhide HBL⟩
  have HE' : Hid (E = 3) := by show _ = _; rw [← unhide HE]; exact chg_x k1 k2 k3 k4 k5 k6 k7 k8 k9 k10 k11 k12 k13 k14
  go_enter Tryz.func28, Tryz.ntmps28
  go_wp2
  go_ret
  exact ⟨ret_int (unhide HE').symm, fun e => absurd ((unhide HE').symm.trans e) (by decide), bl_lo (bl1 _ _) (by omega)⟩
end Go.Proofs.YtdgmdapijhbocaaGreat

/- What a record changes stays a state that can lie in memory. -/
namespace Go.Proofs.YtdgmdapijhbocaaGreat
open Go.RowKit Go.Maps
set_option maxRecDepth 100000
set_option linter.unusedVariables false
set_option linter.unusedSimpArgs false
structure WfR (r : Rc) : Prop where
  nam : r.nam.size ≤ maxLen
  key : r.key.size ≤ maxLen
  pre : r.pre.size ≤ maxLen
  vbu : r.ver.bu.size ≤ maxLen
  vke : r.ver.ke.size ≤ maxLen
  vsec : ∀ n ∈ r.ver.sec, (Lit.int .i64 n).wf = true
  ask : (Lit.int .i64 r.ask.ver).wf = true
  psec : ∀ n ∈ r.part.sec, (Lit.int .i64 n).wf = true
  sec : ∀ n ∈ r.sec, (Lit.int .i64 n).wf = true
  vol : (Lit.int .i64 r.vol).wf = true
theorem of_getD {α : Type} {p : α → Prop} {l : List α} {d : α} (h : ∀ x ∈ l, p x) (hd : p d) (k : Nat) : p (l.getD k d) := by
  rcases Nat.lt_or_ge k l.length with hk | hk
  · have e : l.getD k d = l[k] := by simp [List.getD, hk]
    rw [e]; exact h _ (List.getElem_mem hk)
  · have e : l.getD k d = d := by simp [List.getD, hk]
    rw [e]; exact hd
theorem of_set {α : Type} {p : α → Prop} {l : List α} {k : Nat} {y : α} (h : ∀ x ∈ l, p x) (hy : p y) : ∀ x ∈ l.set k y, p x := fun x hx => by
  rcases List.mem_or_eq_of_mem_set hx with hx | rfl
  · exact h x hx
  · exact hy
theorem of_cut {α : Type} {p : α → Prop} {l : List α} {k m : Nat} (h : ∀ x ∈ l, p x) : ∀ x ∈ l.take k ++ l.drop m, p x := fun x hx => by
  rcases List.mem_append.1 hx with hx | hx
  · exact h x (List.mem_of_mem_take hx)
  · exact h x (List.mem_of_mem_drop hx)
theorem of_putA {α : Type} {q : α → Prop} {l : List α} {y : α} {p : Nat → Bool} (h : ∀ x ∈ l, q x) (hy : q y) : ∀ x ∈ putA l y p, q x := fun x hx => by
  rcases mem_putA hx with rfl | hx
  · exact hy
  · exact h x hx
theorem of_snoc {α : Type} {p : α → Prop} {l : List α} {y : α} (h : ∀ x ∈ l, p x) (hy : p y) : ∀ x ∈ l ++ [y], p x := fun x hx => by
  rcases List.mem_append.1 hx with hx | hx
  · exact h x hx
  · obtain rfl := List.mem_singleton.1 hx; exact hy
theorem bu0_wf : bu0.nam.size ≤ maxLen ∧ bu0.pre.size ≤ maxLen := ⟨by decide, by decide⟩
theorem ve0_wf : (ve0.bu.size ≤ maxLen ∧ ve0.ke.size ≤ maxLen) ∧ ∀ n ∈ ve0.sec, (Lit.int .i64 n).wf = true := ⟨⟨by decide, by decide⟩, fun n hn => by cases hn⟩
theorem up0_wf : (up0.bu.size ≤ maxLen ∧ up0.ke.size ≤ maxLen) ∧ ∀ p ∈ up0.parts, ∀ n ∈ p.sec, (Lit.int .i64 n).wf = true := ⟨⟨by decide, by decide⟩, fun n hn => by cases hn⟩
theorem drpS_wf {S : St} (h : WfS S) (k : Nat) : WfS (drpS S k) := ⟨h.bus, of_cut h.ves, h.ups, fun x hx => h.que x (List.mem_filter.1 hx).1, h.gone⟩
theorem advD_wf {S : St} (h : WfS S) (Y : Ve) : WfS (advD S Y) := by
  unfold advD
  split
  · exact drpS_wf (takeS_wf h) _
  · exact takeS_wf h
theorem chg_wf {S : St} {r : Rc} (h : WfS S) (hr : WfR r) (h0 : chgE S r = 0) : WfS (chgS S r) := by
  by_cases k1 : r.kind = 1
  · rw [(chg_1 k1).2]; exact ⟨of_putA h.bus ⟨hr.nam, by simp [ByteArray.size, maxLen]⟩, h.ves, h.ups, h.que, h.gone⟩
  by_cases k2 : r.kind = 2
  · rw [(chg_2 k2).2]; exact ⟨of_set h.bus (of_getD h.bus bu0_wf _), h.ves, h.ups, h.que, h.gone⟩
  by_cases k3 : r.kind = 3
  · rw [(chg_3 k3).2]; exact ⟨of_set h.bus ⟨(of_getD h.bus bu0_wf (idxB S r.nam).toNat).1, hr.pre⟩, h.ves, h.ups, h.que, h.gone⟩
  by_cases k4 : r.kind = 4
  · rw [(chg_4 k4).2]
    have hd := advD_wf h r.ver
    exact ⟨hd.bus, of_snoc hd.ves ⟨⟨hr.vbu, hr.vke⟩, hr.vsec⟩, hd.ups, hd.que, hd.gone⟩
  by_cases k5 : r.kind = 5
  · rw [(chg_5 k5).2]; exact drpS_wf h _
  by_cases k6 : r.kind = 6
  · rw [(chg_6 k6).2]
    refine ⟨h.bus, of_set h.ves ?_, h.ups, h.que, h.gone⟩
    have hv := of_getD h.ves ve0_wf (idxV S r.id).toNat
    unfold frzV
    split
    · exact ⟨hv.1, fun n hn => by cases hn⟩
    · exact hv
  by_cases k7 : r.kind = 7
  · rw [(chg_7 k7).2]; exact ⟨h.bus, h.ves, h.ups, of_snoc h.que hr.ask, h.gone⟩
  by_cases k8 : r.kind = 8
  · rw [(chg_8 k8).2]
    exact ⟨h.bus, of_set h.ves ⟨(of_getD h.ves ve0_wf (idxV S r.id).toNat).1, hr.sec⟩, h.ups, fun x hx => h.que x (List.mem_filter.1 hx).1, h.gone⟩
  by_cases k9 : r.kind = 9
  · rw [(chg_9 k9).2]; exact ⟨h.bus, of_set h.ves ⟨(of_getD h.ves ve0_wf (idxV S r.id).toNat).1, fun n hn => by cases hn⟩, h.ups, h.que, h.gone⟩
  by_cases k10 : r.kind = 10
  · rw [(chg_10 k10).2]; exact ⟨h.bus, h.ves, of_snoc h.ups ⟨⟨hr.nam, hr.key⟩, fun p hp => by cases hp⟩, h.que, h.gone⟩
  by_cases k11 : r.kind = 11
  · rw [(chg_11 k11).2]
    have hu := of_getD h.ups up0_wf (idxU S r.id).toNat
    refine ⟨h.bus, h.ves, of_set h.ups ⟨hu.1, ?_⟩, h.que, h.gone⟩
    exact of_putA (q := fun p : Pa => ∀ n ∈ p.sec, (Lit.int .i64 n).wf = true) (fun p hp => hu.2 p (List.mem_filter.1 hp).1) hr.psec
  by_cases k12 : r.kind = 12
  · rw [(chg_12 k12).2]; exact ⟨h.bus, h.ves, of_cut h.ups, h.que, h.gone⟩
  by_cases k13 : r.kind = 13
  · rw [(chg_13 k13).2]; exact ⟨h.bus, h.ves, h.ups, h.que, h.gone⟩
  by_cases k14 : r.kind = 14
  · rw [(chg_14 k14).2]; exact ⟨h.bus, h.ves, h.ups, h.que, of_putA h.gone hr.vol⟩
  rw [chg_x k1 k2 k3 k4 k5 k6 k7 k8 k9 k10 k11 k12 k13 k14] at h0
  cases h0
end Go.Proofs.YtdgmdapijhbocaaGreat
