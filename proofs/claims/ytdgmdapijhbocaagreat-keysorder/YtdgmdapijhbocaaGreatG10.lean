/- Lists of a state that are not too long, and whose texts and numbers can be read. -/
import Derived.Test.YtdgmdapijhbocaaGreatG2
import Derived.Test.YtdgmdapijhbocaaGreatG7
import Derived.Test.YtdgmdapijhbocaaGreatG9
import Derived.Test.YtdgmdapijhbocaaGreatG5
namespace Go.Proofs.YtdgmdapijhbocaaGreat
open Go.RowKit
set_option linter.unusedVariables false
def FitI (l : List Int) : Prop := l.length * 8 ≤ 140737488355328
def FitP (l : List Pa) : Prop := l.length * 40 ≤ 140737488355328 ∧ ∀ x ∈ l, FitI x.sec
structure FitS (S : St) : Prop where
  bus : S.bus.length * 56 ≤ 140737488355328
  ves : S.ves.length * 120 ≤ 140737488355328
  ups : S.ups.length * 64 ≤ 140737488355328
  que : S.que.length * 24 ≤ 140737488355328
  gone : FitI S.gone
  vsec : ∀ x ∈ S.ves, FitI x.sec
  upar : ∀ x ∈ S.ups, FitP x.parts
theorem Lst.all {α : Type} {R : World → Nat → Nat → α → Prop} {size : Nat} {d : α} {w : World} {v : Value} {xs : List α} {p : α → Prop} (h : Lst R size d w v xs) (f : ∀ b q x, R w b q x → p x) : ∀ x ∈ xs, p x := by
  intro x hx
  obtain ⟨k, hk, e⟩ := List.mem_iff_getElem.1 hx
  obtain ⟨_, _, _, _, _, h3⟩ := h
  obtain ⟨_, _, _, r⟩ := h3 k hk
  have e2 : xs.getD k d = x := by rw [List.getD_eq_getElem?_getD, List.getElem?_eq_getElem hk]; exact e
  rw [e2] at r
  exact f _ _ _ r
theorem Ints.wfs {w : World} {v : Value} {xs : List Int} (h : Ints w v xs) : ∀ x ∈ xs, (Lit.int .i64 x).wf = true := h.all fun _ _ _ r => r.2
structure WfS (S : St) : Prop where
  bus : ∀ x ∈ S.bus, x.nam.size ≤ maxLen ∧ x.pre.size ≤ maxLen
  ves : ∀ x ∈ S.ves, (x.bu.size ≤ maxLen ∧ x.ke.size ≤ maxLen) ∧ ∀ n ∈ x.sec, (Lit.int .i64 n).wf = true
  ups : ∀ x ∈ S.ups, (x.bu.size ≤ maxLen ∧ x.ke.size ≤ maxLen) ∧ ∀ p ∈ x.parts, ∀ n ∈ p.sec, (Lit.int .i64 n).wf = true
  que : ∀ x ∈ S.que, (Lit.int .i64 x.ver).wf = true
  gone : ∀ n ∈ S.gone, (Lit.int .i64 n).wf = true
theorem RPa.wfs {w : World} {b p : Nat} {x : Pa} (h : RPa w b p x) : ∀ n ∈ x.sec, (Lit.int .i64 n).wf = true := by
  obtain ⟨_, _, hi⟩ := h.c2
  exact Ints.wfs hi
theorem Sta.wfs {w : World} {b v u q g : Value} {S : St} (h : Sta w b v u q g S) : WfS S where
  bus := h.bus.all fun _ _ _ r => ⟨r.s0, r.s2⟩
  ves := h.ves.all fun _ _ _ r => ⟨⟨r.s1, r.s2⟩, by obtain ⟨_, _, hi⟩ := r.c8; exact Ints.wfs hi⟩
  ups := h.ups.all fun _ _ _ r => ⟨⟨r.s1, r.s2⟩, by obtain ⟨_, _, hi⟩ := r.c3; exact hi.all fun _ _ _ r => r.wfs⟩
  que := h.que.all fun _ _ _ r => r.wv
  gone := Ints.wfs h.gone
end Go.Proofs.YtdgmdapijhbocaaGreat

/- state.Copy. -/
namespace Go.Proofs.YtdgmdapijhbocaaGreat
open Go.RowKit Go.Maps
set_option maxRecDepth 100000
set_option linter.unusedVariables false
set_option linter.unusedSimpArgs false
/-- A state in memory of one's own. -/
structure OSt (w : World) (B : Nat) (b v u q g : Value) (S : St) : Prop where
  bus : OwB w B b S.bus
  ves : OwV w B v S.ves
  ups : OwU w B u S.ups
  que : OwA w B q S.que
  gone : OwI w B g S.gone
theorem OSt.sta {w : World} {B : Nat} {b v u q g : Value} {S : St} (h : OSt w B b v u q g S) (hw : WfS S) : Sta w b v u q g S := ⟨h.bus.lst hw.bus, h.ves.lst hw.ves, h.ups.lst hw.ups, h.que.lst hw.que, h.gone.ints hw.gone⟩
theorem OSt.up {w w' : World} {B : Nat} {b v u q g : Value} {S : St} (h : OSt w B b v u q g S) (hb : Below w.heap.size w w') : OSt w' B b v u q g S := ⟨own_up hb h.bus, h.ves.up hb, h.ups.up hb, own_up hb h.que, own_up hb h.gone⟩
theorem OSt.low {w : World} {B : Nat} {b v u q g : Value} {S : St} (h : OSt w B b v u q g S) {k i : Nat} (hk : k < B) (x : Value) : OSt (w.setCell ⟨k, i, none⟩ x) B b v u q g S := ⟨own_low h.bus hk x, h.ves.low hk x, h.ups.low hk x, own_low h.que hk x, own_low h.gone hk x⟩
theorem OSt.base {w : World} {B B' : Nat} {b v u q g : Value} {S : St} (h : OSt w B b v u q g S) (hB : B' ≤ B) : OSt w B' b v u q g S := ⟨own_base h.bus hB, h.ves.base hB, h.ups.base hB, own_base h.que hB, own_base h.gone hB⟩
abbrev stA (S : St) (b v u q g : Value) : Array Value := #[.int .i64 S.next, .int .i64 S.clock, b, v, u, q, g]
abbrev zeroSt : Array Value := #[.int .i64 0, .int .i64 0, .slice none 0 0, .slice none 0 0, .slice none 0 0, .slice none 0 0, .slice none 0 0]
theorem rowS {w : World} {g : Nat} {t : TypeId} {c c' : Array Value} (h : w.heap[g]? = some (.cells c t (0, 0))) (i : Nat) (v : Value) (hc : c.setIfInBounds i v = c') : (w.setCell ⟨g, i, none⟩ v).heap[g]? = some (.cells c' t (0, 0)) := by
  rw [← hc]; exact heap_setCell_same w g i c t v h
/-- Two worlds agree on the blocks from B on that the first has, but for one. -/
abbrev Agr (w w' : World) (B : Nat) (r : Option Nat) : Prop := ∀ k, B ≤ k → k < w.heap.size → r ≠ some k → w'.heap[k]? = w.heap[k]?
theorem own_agr {w w' : World} {B : Nat} {e : TypeId} {size : Nat} {v : Value} {n : Nat} {xs : List Value} (h : w.ownsRow B e size v n xs) (ha : Agr w w' B none) : w'.ownsRow B e size v n xs := by
  refine ⟨h.1, ?_⟩
  rcases h.2 with hn | ⟨g, cap, cur, hv, hb, hg, rest⟩
  · exact .inl hn
  · exact .inr ⟨g, cap, cur, hv, hb, (ha g hb (Array.getElem?_eq_some_iff.1 hg).1 (by simp)).trans hg, rest⟩
theorem OwP.agr {w w' : World} {B : Nat} {v : Value} {xs : List Pa} (h : OwP w B v xs) (ha : Agr w w' B none) : OwP w' B v xs := by
  obtain ⟨ps, h1, h2, h3⟩ := h
  exact ⟨ps, h1, own_agr h2 ha, fun p hp => own_agr (h3 p hp) ha⟩
theorem OwV.agr {w w' : World} {B : Nat} {v : Value} {xs : List Ve} (h : OwV w B v xs) (ha : Agr w w' B none) : OwV w' B v xs := by
  obtain ⟨ps, h1, h2, h3⟩ := h
  exact ⟨ps, h1, own_agr h2 ha, fun p hp => own_agr (h3 p hp) ha⟩
theorem OwU.agr {w w' : World} {B : Nat} {v : Value} {xs : List Up} (h : OwU w B v xs) (ha : Agr w w' B none) : OwU w' B v xs := by
  obtain ⟨ps, h1, h2, h3, h4⟩ := h
  exact ⟨ps, h1, own_agr h2 ha, fun p hp => (h3 p hp).agr ha, h4⟩
/-- The versions and the uploads of a state stay, whatever is written to the row of what was given up. -/
def Apt (w : World) (B : Nat) (v u g : Value) (S : St) : Prop := ∀ w', Agr w w' B g.ownBlock → OwV w' B v S.ves ∧ OwU w' B u S.ups
theorem Apt.up {w w' : World} {B : Nat} {v u g : Value} {S : St} (h : Apt w B v u g S) (hb : Below w.heap.size w w') : Apt w' B v u g S := fun w'' ha => h w'' fun k h1 h2 h3 => (ha k h1 (Nat.lt_of_lt_of_le h2 hb.size) h3).trans (hb.block k h2)
theorem Apt.low {w : World} {B : Nat} {v u g : Value} {S : St} (h : Apt w B v u g S) {k i : Nat} (hk : k < B) (x : Value) : Apt (w.setCell ⟨k, i, none⟩ x) B v u g S := fun w'' ha => h w'' fun j h1 h2 h3 => (ha j h1 (by simpa using h2) h3).trans (Below.heap_setCell _ _ _ _ (by simp; omega))
theorem Apt.base {w : World} {B B' : Nat} {v u g : Value} {S : St} (h : Apt w B v u g S) (hB : B' ≤ B) : Apt w B' v u g S := fun w'' ha => by
  obtain ⟨h1, h2⟩ := h w'' fun j h1 h2 h3 => ha j (by omega) h2 h3
  exact ⟨h1.base hB, h2.base hB⟩
theorem Apt.of {w w' : World} {B : Nat} {v u g : Value} {S : St} (hv : OwV w B v S.ves) (hu : OwU w B u S.ups) (hb : Below w.heap.size w w') (hg : ∀ k, g.ownBlock = some k → w.heap.size ≤ k) : Apt w' B v u g S := fun w'' ha => by
  have : Agr w w'' B none := fun k h1 h2 _ => (ha k h1 (Nat.lt_of_lt_of_le h2 hb.size) fun e => by have := hg k e; omega).trans (hb.block k h2)
  exact ⟨hv.agr this, hu.agr this⟩
set_option maxHeartbeats 2000000 in
theorem copyA_any (S : St) (b v u q g : Value) (w : World) (hS : Sta w b v u q g S) (hF : FitS S) : Calls Tryz.prog 27 #[stV S b v u q g] w fun e w' => ∃ b' v' u' q' g', e = .returned (stV S b' v' u' q' g') ∧ OSt w' w.heap.size b' v' u' q' g' S ∧ Below w.heap.size w w' ∧ Apt w' w.heap.size v' u' g' S := by
  obtain ⟨ba, bc, rfl, _, _⟩ := hS.bus.form
  obtain ⟨va, vc, rfl, _, _⟩ := hS.ves.form
  obtain ⟨ua, uc, rfl, _, _⟩ := hS.ups.form
  obtain ⟨qa, qc, rfl, _, _⟩ := hS.que.form
  obtain ⟨ga, gc, rfl, _, _⟩ := hS.gone.form
  have HS := hide hS
  have HF := hide hF
  clear hS hF
  go_enter Tryz.func27, Tryz.ntmps27
  go_wp2_with fail
  refine (copyListBu_any _ S.bus _ ((unhide HS).up (bl_alloc (bl1 _ _) _)).bus (by have := (unhide HF).bus; omega)).mono ?_
  rintro e w1 ⟨o1, rfl, hO, hb⟩
  obtain ⟨pa1, pc1, rfl, _, _⟩ := own_form hO
  have hr : w1.heap[w.heap.size]? = some (.cells (stA S (.slice ba S.bus.length bc) (.slice va S.ves.length vc) (.slice ua S.ups.length uc) (.slice qa S.que.length qc) (.slice ga S.gone.length gc)) 29 (0, 0)) := (hb.block w.heap.size (by simp; omega)).trans (((bl1 (w.alloc _) _).block w.heap.size (by simp)).trans (heap_alloc_new _ _))
  have hz : w1.heap[w.heap.size + 1]? = some (.cells zeroSt 29 (0, 0)) := (hb.block (w.heap.size + 1) (by simp)).trans (by simpa using heap_alloc_new (w.alloc _) (.cells zeroSt 29))
  have hsz : w.heap.size + 2 ≤ w1.heap.size := by have := hb.size; simp at this; omega
  have hw : Below w.heap.size w w1 := bl_trans (bl_alloc (bl1 _ _) _) hb
  have HO1 : Hid (OwB w1 (w.heap.size + 2) (.slice pa1 S.bus.length pc1) S.bus) := own_base hO (by simp)
  have x0 := cell_of hr 0 rfl
  have x1 := cell_of hr 1 rfl
  have x2 := cell_of hr 2 rfl
  have x3 := cell_of hr 3 rfl
  have x4 := cell_of hr 4 rfl
  have x5 := cell_of hr 5 rfl
  have x6 := cell_of hr 6 rfl
  have xf := fun j => fz_of hr j
  have HR := hide hr
  have HZ := hide hz
  have hw1 := bl_set (p := ⟨w.heap.size, 2, none⟩) hw (Nat.le_refl _) (.slice pa1 S.bus.length pc1)
  clear hr hz hO hb
  clear hw
  go_wp2_with fail
  refine (copyEachV_any _ S.ves _ ((unhide HS).up hw1).ves (by have := (unhide HF).ves; omega) (fun z hz => by have := (unhide HF).vsec z hz; unfold FitI at this; omega)).mono ?_
  rintro e w2 ⟨o2, rfl, hO, hb⟩
  obtain ⟨pa2, pc2, rfl, _, _⟩ := hO.form
  have hr := (hb.block w.heap.size (by simp; omega)).trans (rowS (unhide HR) 2 _ rfl)
  have hr : w2.heap[w.heap.size]? = some (.cells (stA S (.slice pa1 S.bus.length pc1) (.slice va S.ves.length vc) (.slice ua S.ups.length uc) (.slice qa S.que.length qc) (.slice ga S.gone.length gc)) 29 (0, 0)) := hr
  have hz := (hb.block (w.heap.size + 1) (by simp; omega)).trans ((Below.heap_setCell _ _ _ _ (by simp)).trans (unhide HZ))
  have hsz2 : w1.heap.size ≤ w2.heap.size := by have := hb.size; simpa using this
  have hw : Below w.heap.size w w2 := bl_trans hw1 hb
  have HO1' := hide (own_up hb (own_low (unhide HO1) (by omega) _))
  have HO2' : Hid (OwV w2 (w.heap.size + 2) (.slice pa2 S.ves.length pc2) S.ves) := OwV.base hO (by simp; omega)
  clear HO1 HR HZ hw1
  have HO1 := HO1'
  have HO2 := HO2'
  clear HO1' HO2'
  clear x0 x1 x2 x3 x4 x5 x6 xf
  have x0 := cell_of hr 0 rfl
  have x1 := cell_of hr 1 rfl
  have x2 := cell_of hr 2 rfl
  have x3 := cell_of hr 3 rfl
  have x4 := cell_of hr 4 rfl
  have x5 := cell_of hr 5 rfl
  have x6 := cell_of hr 6 rfl
  have xf := fun j => fz_of hr j
  have HR := hide hr
  have HZ := hide hz
  have hw2 := bl_set (p := ⟨w.heap.size, 3, none⟩) hw (Nat.le_refl _) (.slice pa2 S.ves.length pc2)
  clear hr hz hO hb
  clear hw
  go_wp2_with fail
  refine (copyEachU_any _ S.ups _ ((unhide HS).up hw2).ups (by have := (unhide HF).ups; omega) (fun z hz => by obtain ⟨h1, h2⟩ := (unhide HF).upar z hz; exact ⟨by omega, fun y hy => by have := h2 y hy; unfold FitI at this; omega⟩)).mono ?_
  rintro e w3 ⟨o3, rfl, hO, hb⟩
  obtain ⟨pa3, pc3, rfl, _, _⟩ := hO.form
  have hr := (hb.block w.heap.size (by simp; omega)).trans (rowS (unhide HR) 3 _ rfl)
  have hr : w3.heap[w.heap.size]? = some (.cells (stA S (.slice pa1 S.bus.length pc1) (.slice pa2 S.ves.length pc2) (.slice ua S.ups.length uc) (.slice qa S.que.length qc) (.slice ga S.gone.length gc)) 29 (0, 0)) := hr
  have hz := (hb.block (w.heap.size + 1) (by simp; omega)).trans ((Below.heap_setCell _ _ _ _ (by simp)).trans (unhide HZ))
  have hsz3 : w2.heap.size ≤ w3.heap.size := by have := hb.size; simpa using this
  have hw : Below w.heap.size w w3 := bl_trans hw2 hb
  have HO1' := hide (own_up hb (own_low (unhide HO1) (by omega) _))
  have HO2' := hide ((OwV.low (unhide HO2) (by omega) _).up hb)
  have HO3' : Hid (OwU w3 (w.heap.size + 2) (.slice pa3 S.ups.length pc3) S.ups) := OwU.base hO (by simp; omega)
  clear HO1 HO2 HR HZ hw2
  have HO1 := HO1'
  have HO2 := HO2'
  have HO3 := HO3'
  clear HO1' HO2' HO3'
  clear x0 x1 x2 x3 x4 x5 x6 xf
  have x0 := cell_of hr 0 rfl
  have x1 := cell_of hr 1 rfl
  have x2 := cell_of hr 2 rfl
  have x3 := cell_of hr 3 rfl
  have x4 := cell_of hr 4 rfl
  have x5 := cell_of hr 5 rfl
  have x6 := cell_of hr 6 rfl
  have xf := fun j => fz_of hr j
  have HR := hide hr
  have HZ := hide hz
  have hw3 := bl_set (p := ⟨w.heap.size, 4, none⟩) hw (Nat.le_refl _) (.slice pa3 S.ups.length pc3)
  clear hr hz hO hb
  clear hw
  go_wp2_with fail
  refine (copyListAk_any _ S.que _ ((unhide HS).up hw3).que (by have := (unhide HF).que; omega)).mono ?_
  rintro e w4 ⟨o4, rfl, hO, hb⟩
  obtain ⟨pa4, pc4, rfl, _, _⟩ := own_form hO
  have hr := (hb.block w.heap.size (by simp; omega)).trans (rowS (unhide HR) 4 _ rfl)
  have hr : w4.heap[w.heap.size]? = some (.cells (stA S (.slice pa1 S.bus.length pc1) (.slice pa2 S.ves.length pc2) (.slice pa3 S.ups.length pc3) (.slice qa S.que.length qc) (.slice ga S.gone.length gc)) 29 (0, 0)) := hr
  have hz := (hb.block (w.heap.size + 1) (by simp; omega)).trans ((Below.heap_setCell _ _ _ _ (by simp)).trans (unhide HZ))
  have hsz4 : w3.heap.size ≤ w4.heap.size := by have := hb.size; simpa using this
  have hw : Below w.heap.size w w4 := bl_trans hw3 hb
  have HO1' := hide (own_up hb (own_low (unhide HO1) (by omega) _))
  have HO2' := hide ((OwV.low (unhide HO2) (by omega) _).up hb)
  have HO3' := hide ((OwU.low (unhide HO3) (by omega) _).up hb)
  have HO4' : Hid (OwA w4 (w.heap.size + 2) (.slice pa4 S.que.length pc4) S.que) := own_base hO (by simp; omega)
  clear HO1 HO2 HO3 HR HZ hw3
  have HO1 := HO1'
  have HO2 := HO2'
  have HO3 := HO3'
  have HO4 := HO4'
  clear HO1' HO2' HO3' HO4'
  clear x0 x1 x2 x3 x4 x5 x6 xf
  have x0 := cell_of hr 0 rfl
  have x1 := cell_of hr 1 rfl
  have x2 := cell_of hr 2 rfl
  have x3 := cell_of hr 3 rfl
  have x4 := cell_of hr 4 rfl
  have x5 := cell_of hr 5 rfl
  have x6 := cell_of hr 6 rfl
  have xf := fun j => fz_of hr j
  have HR := hide hr
  have HZ := hide hz
  have hw4 := bl_set (p := ⟨w.heap.size, 5, none⟩) hw (Nat.le_refl _) (.slice pa4 S.que.length pc4)
  clear hr hz hO hb
  clear hw
  go_wp2_with fail
  refine (copyInts_any _ S.gone _ ((unhide HS).up hw4).gone (by have := (unhide HF).gone; unfold FitI at this; omega)).mono ?_
  rintro e w5 ⟨o5, rfl, hO, hb⟩
  obtain ⟨pa5, pc5, rfl, _, _⟩ := own_form hO
  have hr := (hb.block w.heap.size (by simp; omega)).trans (rowS (unhide HR) 5 _ rfl)
  have hr : w5.heap[w.heap.size]? = some (.cells (stA S (.slice pa1 S.bus.length pc1) (.slice pa2 S.ves.length pc2) (.slice pa3 S.ups.length pc3) (.slice pa4 S.que.length pc4) (.slice ga S.gone.length gc)) 29 (0, 0)) := hr
  have hz := (hb.block (w.heap.size + 1) (by simp; omega)).trans ((Below.heap_setCell _ _ _ _ (by simp)).trans (unhide HZ))
  have hsz5 : w4.heap.size ≤ w5.heap.size := by have := hb.size; simpa using this
  have hw : Below w.heap.size w w5 := bl_trans hw4 hb
  have HAP : Hid (Apt w5 (w.heap.size + 2) (.slice pa2 S.ves.length pc2) (.slice pa3 S.ups.length pc3) (.slice pa5 S.gone.length pc5) S) := Apt.of (OwV.low (unhide HO2) (by omega) _) (OwU.low (unhide HO3) (by omega) _) hb (fun k e => (hO.lt k e).1)
  have HO1' := hide (own_up hb (own_low (unhide HO1) (by omega) _))
  have HO2' := hide ((OwV.low (unhide HO2) (by omega) _).up hb)
  have HO3' := hide ((OwU.low (unhide HO3) (by omega) _).up hb)
  have HO4' := hide (own_up hb (own_low (unhide HO4) (by omega) _))
  have HO5' : Hid (OwI w5 (w.heap.size + 2) (.slice pa5 S.gone.length pc5) S.gone) := own_base hO (by simp; omega)
  clear HO1 HO2 HO3 HO4 HR HZ hw4
  have HO1 := HO1'
  have HO2 := HO2'
  have HO3 := HO3'
  have HO4 := HO4'
  have HO5 := HO5'
  clear HO1' HO2' HO3' HO4' HO5'
  clear x0 x1 x2 x3 x4 x5 x6 xf
  have x0 := cell_of hr 0 rfl
  have x1 := cell_of hr 1 rfl
  have x2 := cell_of hr 2 rfl
  have x3 := cell_of hr 3 rfl
  have x4 := cell_of hr 4 rfl
  have x5 := cell_of hr 5 rfl
  have x6 := cell_of hr 6 rfl
  have xf := fun j => fz_of hr j
  have z0 := cell_of hz 0 rfl
  have z1 := cell_of hz 1 rfl
  have z2 := cell_of hz 2 rfl
  have z3 := cell_of hz 3 rfl
  have z4 := cell_of hz 4 rfl
  have z5 := cell_of hz 5 rfl
  have z6 := cell_of hz 6 rfl
  have zf := fun j => fz_of hz j
  have HR := hide hr
  have HZ := hide hz
  have hw5 := bl_set (p := ⟨w.heap.size, 6, none⟩) hw (Nat.le_refl _) (.slice pa5 S.gone.length pc5)
  clear hr hz hO hb
  go_wp2
  refine bodyPost_ret (v := stV S (.slice pa1 S.bus.length pc1) (.slice pa2 S.ves.length pc2) (.slice pa3 S.ups.length pc3) (.slice pa4 S.que.length pc4) (.slice pa5 S.gone.length pc5)) (by simp [results, Tryz.results27, go_sem, *]) rfl ⟨.slice pa1 S.bus.length pc1, .slice pa2 S.ves.length pc2, .slice pa3 S.ups.length pc3, .slice pa4 S.que.length pc4, .slice pa5 S.gone.length pc5, rfl, ?_, ?_, ?_⟩
  · refine OSt.base (B := w.heap.size + 2) ?_ (by omega)
    (iterate 8 (refine OSt.low ?_ (by omega) _))
    exact ⟨unhide HO1, unhide HO2, unhide HO3, unhide HO4, unhide HO5⟩
  · (iterate 8 (refine bl_set ?_ (by simp <;> omega) _))
    exact hw
  · refine Apt.base (B := w.heap.size + 2) ?_ (by omega)
    (iterate 8 (refine Apt.low ?_ (by omega) _))
    exact unhide HAP
theorem copy_any (S : St) (b v u q g : Value) (w : World) (hS : Sta w b v u q g S) (hF : FitS S) : Calls Tryz.prog 27 #[stV S b v u q g] w fun e w' => ∃ b' v' u' q' g', e = .returned (stV S b' v' u' q' g') ∧ OSt w' w.heap.size b' v' u' q' g' S ∧ Below w.heap.size w w' := by
  refine (copyA_any S b v u q g w hS hF).mono ?_
  rintro e w' ⟨b', v', u', q', g', h1, h2, h3, _⟩
  exact ⟨b', v', u', q', g', h1, h2, h3⟩
end Go.Proofs.YtdgmdapijhbocaaGreat

/- state.putAhead at buckets, parts and numbers. -/
namespace Go.Proofs.YtdgmdapijhbocaaGreat
open Go.RowKit Go.Maps
set_option maxRecDepth 100000
set_option linter.unusedVariables false
set_option linter.unusedSimpArgs false
def putA {α : Type} (l : List α) (x : α) (p : Nat → Bool) : List α := if firstI l.length p < 0 then l ++ [x] else l.take (firstI l.length p).toNat ++ x :: l.drop (firstI l.length p).toNat
theorem flat_take {α : Type} (C : α → List Value) (k : Nat) (hk : ∀ x, (C x).length = k) (l : List α) (i : Nat) (h : i ≤ l.length) : (l.flatMap C).take (i * k) = (l.take i).flatMap C := by
  have e : l.flatMap C = (l.take i).flatMap C ++ (l.drop i).flatMap C := by rw [← List.flatMap_append, List.take_append_drop]
  rw [e]
  exact List.take_left' (by rw [flat_len2 C k hk, List.length_take, Nat.min_eq_left h])
theorem flat_drop {α : Type} (C : α → List Value) (k : Nat) (hk : ∀ x, (C x).length = k) (l : List α) (i : Nat) (h : i ≤ l.length) : (l.flatMap C).drop (i * k) = (l.drop i).flatMap C := by
  have e : l.flatMap C = (l.take i).flatMap C ++ (l.drop i).flatMap C := by rw [← List.flatMap_append, List.take_append_drop]
  rw [e]
  have := drop_len (P := (l.take i).flatMap C) (Q := (l.drop i).flatMap C) (n := i * k) (m := 0) (by rw [flat_len2 C k hk, List.length_take, Nat.min_eq_left h])
  simpa using this
theorem flat_ins {α : Type} (C : α → List Value) (k : Nat) (hk : ∀ x, (C x).length = k) (l : List α) (x : α) (i : Nat) (h : i ≤ l.length) : (l.flatMap C).take (i * k) ++ C x ++ (l.flatMap C).drop (i * k) = (l.take i ++ x :: l.drop i).flatMap C := by
  rw [flat_take C k hk l i h, flat_drop C k hk l i h, List.flatMap_append, List.flatMap_cons, List.append_assoc]
/-- The place at which it is put. -/
def putI (n : Nat) (p : Nat → Bool) : Nat := if firstI n p < 0 then n else (firstI n p).toNat
theorem putI_le (n : Nat) (p : Nat → Bool) : putI n p ≤ n := by
  have := firstI_lt n p
  unfold putI
  split <;> omega
theorem putA_at {α : Type} (l : List α) (x : α) (p : Nat → Bool) : l.take (putI l.length p) ++ x :: l.drop (putI l.length p) = putA l x p := by
  unfold putI putA
  split
  · rw [List.take_length, List.drop_length]
  · rfl
theorem own_new {w : World} {B : Nat} {e : TypeId} {size : Nat} {v : Value} {n : Nat} {xs : List Value} (h : w.ownsRow B e size v n xs) {h' : Nat} (hh : w.heap.size ≤ h') : v.ownBlock ≠ some h' := fun e => by
  have := (h.lt h' e).2
  omega
theorem bu_one (l : List Bu) : ∀ u ∈ l.flatMap buL, u.oneCell' = true := fun u hu => by
  obtain ⟨y, _, hu⟩ := List.mem_flatMap.1 hu
  simp at hu
  rcases hu with rfl | rfl | rfl | rfl | rfl <;> rfl
theorem i64_one (l : List Int) : ∀ u ∈ i64s l, u.oneCell' = true := fun u hu => by
  obtain ⟨y, _, rfl⟩ := List.mem_map.1 hu
  rfl
theorem i64_ins (l : List Int) (x : Int) (i : Nat) (h : i ≤ l.length) : (i64s l).take i ++ [.int .i64 x] ++ (i64s l).drop i = i64s (l.take i ++ x :: l.drop i) := by
  unfold i64s
  simp [List.map_take, List.map_drop]
theorem pa_one {w : World} {B : Nat} (ps : List (Pa × Value)) (h : ∀ p ∈ ps, OwI w B p.2 p.1.sec) : ∀ u ∈ ps.flatMap (fun p => paL p.1 p.2), u.oneCell' = true := fun u hu => by
  obtain ⟨y, hy, hu⟩ := List.mem_flatMap.1 hu
  obtain ⟨a, c, e, _⟩ := own_form (h y hy)
  rw [e] at hu
  simp at hu
  rcases hu with rfl | rfl | rfl <;> rfl
set_option maxHeartbeats 2000000 in
theorem putAheadBu_any (B : Nat) (s : Value) (l : List Bu) (x : Bu) (nm : ByteArray) (P : Nat) (w : World) (hO : OwB w B s l) (hs : ∀ x ∈ l, x.nam.size ≤ maxLen ∧ x.pre.size ≤ maxLen) (hP : w.cell? ⟨P, 0, none⟩ = some (.string nm)) (hn : l.length ≤ 1000) (hB : B ≤ w.heap.size) :
    Calls Tryz.prog 119 #[s, buV x, .func (.func 120) #[] #[.pointer (some ⟨P, 0, none⟩)]] w fun e w' => ∃ o, e = .returned o ∧ OwB w' B o (putA l x (fun i => gtS (l.getD i bu0).nam nm)) ∧ w.grownBy w' s.ownBlock := by
  obtain ⟨ob, hob⟩ : ∃ ob, s.ownBlock = ob := ⟨_, rfl⟩
  rw [hob]
  obtain ⟨a, cap, rfl, hnc, hcap⟩ := own_form hO
  obtain ⟨p, hp⟩ : ∃ p : Nat → Bool, (fun i => gtS (l.getD i bu0).nam nm) = p := ⟨_, rfl⟩
  rw [hp]
  obtain ⟨L, hL⟩ : ∃ L, putA l x p = L := ⟨_, rfl⟩
  rw [hL]
  have HO := hide hO
  have HLst := hide (OwB.lst hO hs)
  have HP := hide hp
  have HL := hide hL
  have HOB := hide hob
  clear hO hs hp hL hob
  go_enter Tryz.func119, Tryz.ntmps119
  go_wp2_with fail
  refine (index_addBucket_1 _ a cap l p _ ((unhide HLst).imp fun _ _ _ r => RBu.up (bl1 _ _) r) (by omega) (fun k wr X hk e hbr => by
    subst e
    rw [← unhide HP]
    exact addBucket_1 _ nm P wr (scell_up hbr (scell_up (bl1 _ _) hP)))).mono ?_
  rintro e w1 ⟨rfl, hb1⟩
  have hr0 := (hb1.block w.heap.size (by simp)).trans (heap_alloc_new _ _)
  have c0 := cell_of hr0 0 rfl
  have c1 := cell_of hr0 1 rfl
  have c2 := cell_of hr0 2 rfl
  have c3 := cell_of hr0 3 rfl
  have c4 := cell_of hr0 4 rfl
  have hw1 : Below w.heap.size w w1 := bl_trans (bl1 _ _) hb1
  have HO1 : Hid (OwB w1 B (.slice a l.length cap) l) := own_up hw1 (unhide HO)
  have hB1 : B ≤ w1.heap.size := Nat.le_trans hB hw1.size
  have HI : Hid (∀ i : Nat, i = putI l.length p → (l.flatMap buL).take (i * 5) ++ buL x ++ (l.flatMap buL).drop (i * 5) = L.flatMap buL ∧ L.length = l.length + 1 ∧ i ≤ l.length) := fun i hi => by
    subst hi
    have := putI_le l.length p
    refine ⟨by rw [flat_ins buL 5 (fun _ => rfl) l x _ this, putA_at, unhide HL], ?_, this⟩
    rw [← unhide HL, ← putA_at, List.length_append, List.length_cons, List.length_take, List.length_drop]; omega
  clear hr0 hb1 hnc hcap
  by_cases hneg : firstI l.length p < 0
  · have hpi : l.length = putI l.length p := by unfold putI; rw [if_pos hneg]
    obtain ⟨e1, e2, e3⟩ := unhide HI l.length hpi
    have HE1 := hide e1
    have HE2 := hide e2
    clear hpi e1 e2 e3
    go_wp2_with fail
    refine (insertBu_any B _ l.length l.length (l.flatMap buL) (buL x) w1.heap.size _ (World.ownsRow.alloc (unhide HO1) _) (Nat.le_refl _) hn (heap_alloc_new _ _) rfl (own_new (unhide HO1) (Nat.le_refl _)) (bu_one l) (by simp [Value.oneCell']) (by simp; omega)).mono ?_
    rintro e w2 ⟨o, rfl, ho, hg⟩
    rw [unhide HE1, ← unhide HE2] at ho
    have HG : Hid (w.grownBy w2 ob) := by rw [← unhide HOB]; exact gb_trans (gb_below (bl_alloc hw1 _)) hg
    have HO2 := hide ho
    clear ho hg
    go_wp2
    go_ret
    exact ⟨_, rfl, unhide HO2, unhide HG⟩
  · obtain ⟨i, hi⟩ := Int.eq_ofNat_of_zero_le (show 0 ≤ firstI l.length p by omega)
    have hpi : i = putI l.length p := by unfold putI; rw [if_neg hneg, hi]; rfl
    obtain ⟨e1, e2, e3⟩ := unhide HI i hpi
    have HE1 := hide e1
    have HE2 := hide e2
    rw [hi]
    clear hpi e1 e2 hi hneg
    go_wp2_with fail
    refine (insertBu_any B _ l.length i (l.flatMap buL) (buL x) w1.heap.size _ (World.ownsRow.alloc (unhide HO1) _) e3 hn (heap_alloc_new _ _) rfl (own_new (unhide HO1) (Nat.le_refl _)) (bu_one l) (by simp [Value.oneCell']) (by simp; omega)).mono ?_
    rintro e w2 ⟨o, rfl, ho, hg⟩
    rw [unhide HE1, ← unhide HE2] at ho
    have HG : Hid (w.grownBy w2 ob) := by rw [← unhide HOB]; exact gb_trans (gb_below (bl_alloc hw1 _)) hg
    have HO2 := hide ho
    clear ho hg
    go_wp2
    go_ret
    exact ⟨_, rfl, unhide HO2, unhide HG⟩
set_option maxHeartbeats 2000000 in
theorem putAheadInt_any (B : Nat) (s : Value) (l : List Int) (x n0 : Int) (P : Nat) (w : World) (hO : OwI w B s l) (hs : ∀ x ∈ l, (Lit.int .i64 x).wf = true) (hP : w.cell? ⟨P, 0, none⟩ = some (.int .i64 n0)) (hn : l.length ≤ 1000) (hB : B ≤ w.heap.size) :
    Calls Tryz.prog 134 #[s, (.int .i64 x), .func (.func 135) #[] #[.pointer (some ⟨P, 0, none⟩)]] w fun e w' => ∃ o, e = .returned o ∧ OwI w' B o (putA l x (fun i => decide (n0 < l.getD i 0))) ∧ w.grownBy w' s.ownBlock := by
  obtain ⟨ob, hob⟩ : ∃ ob, s.ownBlock = ob := ⟨_, rfl⟩
  rw [hob]
  obtain ⟨a, cap, rfl, hnc, hcap⟩ := own_form hO
  obtain ⟨p, hp⟩ : ∃ p : Nat → Bool, (fun i => decide (n0 < l.getD i 0)) = p := ⟨_, rfl⟩
  rw [hp]
  obtain ⟨L, hL⟩ : ∃ L, putA l x p = L := ⟨_, rfl⟩
  rw [hL]
  have HO := hide hO
  have HLst := hide (OwI.ints hO hs)
  have HP := hide hp
  have HL := hide hL
  have HOB := hide hob
  clear hO hs hp hL hob
  go_enter Tryz.func134, Tryz.ntmps134
  go_wp2_with fail
  refine (index_giveUp_1 _ a cap l p _ (unhide HLst) (by omega) (fun k wr X hk e hbr hwf => by
    subst e
    rw [← unhide HP]
    exact giveUp_1 _ n0 P wr (scell_up hbr hP))).mono ?_
  rintro e w1 ⟨rfl, hb1⟩
  have hw1 : Below w.heap.size w w1 := hb1
  have HO1 : Hid (OwI w1 B (.slice a l.length cap) l) := own_up hw1 (unhide HO)
  have hB1 : B ≤ w1.heap.size := Nat.le_trans hB hw1.size
  have HI : Hid (∀ i : Nat, i = putI l.length p → (i64s l).take i ++ [.int .i64 x] ++ (i64s l).drop i = i64s L ∧ L.length = l.length + 1 ∧ i ≤ l.length) := fun i hi => by
    subst hi
    have := putI_le l.length p
    refine ⟨by rw [i64_ins l x _ this, putA_at, unhide HL], ?_, this⟩
    rw [← unhide HL, ← putA_at, List.length_append, List.length_cons, List.length_take, List.length_drop]; omega
  clear hnc hcap
  by_cases hneg : firstI l.length p < 0
  · have hpi : l.length = putI l.length p := by unfold putI; rw [if_pos hneg]
    obtain ⟨e1, e2, e3⟩ := unhide HI l.length hpi
    have HE1 := hide e1
    have HE2 := hide e2
    clear hpi e1 e2 e3
    go_wp2_with fail
    refine (insertInt_any B _ l.length l.length (i64s l) ([.int .i64 x]) w1.heap.size _ (World.ownsRow.alloc (unhide HO1) _) (Nat.le_refl _) hn (heap_alloc_new _ _) rfl (own_new (unhide HO1) (Nat.le_refl _)) (i64_one l) (by simp [Value.oneCell']) (by simp; omega)).mono ?_
    rintro e w2 ⟨o, rfl, ho, hg⟩
    rw [unhide HE1, ← unhide HE2] at ho
    have HG : Hid (w.grownBy w2 ob) := by rw [← unhide HOB]; exact gb_trans (gb_below (bl_alloc hw1 _)) hg
    have HO2 := hide ho
    clear ho hg
    go_wp2
    go_ret
    exact ⟨_, rfl, unhide HO2, unhide HG⟩
  · obtain ⟨i, hi⟩ := Int.eq_ofNat_of_zero_le (show 0 ≤ firstI l.length p by omega)
    have hpi : i = putI l.length p := by unfold putI; rw [if_neg hneg, hi]; rfl
    obtain ⟨e1, e2, e3⟩ := unhide HI i hpi
    have HE1 := hide e1
    have HE2 := hide e2
    rw [hi]
    clear hpi e1 e2 hi hneg
    go_wp2_with fail
    refine (insertInt_any B _ l.length i (i64s l) ([.int .i64 x]) w1.heap.size _ (World.ownsRow.alloc (unhide HO1) _) e3 hn (heap_alloc_new _ _) rfl (own_new (unhide HO1) (Nat.le_refl _)) (i64_one l) (by simp [Value.oneCell']) (by simp; omega)).mono ?_
    rintro e w2 ⟨o, rfl, ho, hg⟩
    rw [unhide HE1, ← unhide HE2] at ho
    have HG : Hid (w.grownBy w2 ob) := by rw [← unhide HOB]; exact gb_trans (gb_below (bl_alloc hw1 _)) hg
    have HO2 := hide ho
    clear ho hg
    go_wp2
    go_ret
    exact ⟨_, rfl, unhide HO2, unhide HG⟩
set_option maxHeartbeats 2000000 in
theorem putAheadPa_any (B : Nat) (s : Value) (l : List (Pa × Value)) (x : Pa) (ua : Option Addr) (uc : Nat) (n0 : Int) (P : Nat) (w : World) (hO : w.ownsRow B 45 3 s l.length (l.flatMap fun p => paL p.1 p.2)) (hI : ∀ p ∈ l, OwI w B p.2 p.1.sec) (hs : ∀ p ∈ l, ∀ n ∈ p.1.sec, (Lit.int .i64 n).wf = true) (hP : w.cell? ⟨P, 0, none⟩ = some (.int .i64 n0)) (hn : l.length ≤ 1000) (hB : B ≤ w.heap.size) :
    Calls Tryz.prog 130 #[s, paV x (.slice ua x.sec.length uc), .func (.func 131) #[] #[.pointer (some ⟨P, 0, none⟩)]] w fun e w' => ∃ o, e = .returned o ∧ w'.ownsRow B 45 3 o (l.length + 1) ((putA l (x, .slice ua x.sec.length uc) (fun i => decide (n0 < (l.getD i (pa0, .slice none 0 0)).1.n))).flatMap fun p => paL p.1 p.2) ∧ w.grownBy w' s.ownBlock ∧ Lies w s o := by
  obtain ⟨ob, hob⟩ : ∃ ob, s.ownBlock = ob := ⟨_, rfl⟩
  rw [hob]
  obtain ⟨a, cap, rfl, hnc, hcap⟩ := own_form hO
  obtain ⟨p, hp⟩ : ∃ p : Nat → Bool, (fun i => decide (n0 < (l.getD i (pa0, Value.slice none 0 0)).1.n)) = p := ⟨_, rfl⟩
  rw [hp]
  obtain ⟨L, hL⟩ : ∃ L, putA l (x, Value.slice ua x.sec.length uc) p = L := ⟨_, rfl⟩
  rw [hL]
  have HO := hide hO
  have HLst := hide (OwP.lst (xs := l.map (·.1)) ⟨l, rfl, hO, hI⟩ (fun y hy => by obtain ⟨p, hp, rfl⟩ := List.mem_map.1 hy; exact hs p hp))
  have H1 := hide (pa_one l hI)
  have HLN : Hid ((l.map (·.1)).length = l.length) := List.length_map _
  have HP := hide hp
  have HL := hide hL
  have HOB := hide hob
  clear hO hI hs hp hL hob
  go_enter Tryz.func130, Tryz.ntmps130
  go_wp2_with fail
  have hix := index_addPart_2 (.pointer (some ⟨P, 0, none⟩)) a cap (l.map (·.1)) p (w.alloc (.cells (paL x (.slice ua x.sec.length uc)).toArray 45)) (by have := (unhide HLst).imp (w' := w.alloc (.cells (paL x (.slice ua x.sec.length uc)).toArray 45)) fun _ _ _ r => RPa.up (bl1 _ _) r; simpa using this) (by rw [unhide HLN]; omega) (fun k wr X ua' un' uc' hk e hbr hi => by
    have h := addPart_2 X ua' un' uc' n0 P wr (scell_up hbr (scell_up (bl1 _ _) hP))
    have e2 : (l.getD k (pa0, Value.slice none 0 0)).1 = X := by
      rw [← e]
      have hk' : k < l.length := by simpa using hk
      simp [List.getD, hk']
    rw [← unhide HP]
    simp only [e2]
    exact h)
  rw [unhide HLN] at hix
  refine hix.mono ?_
  rintro e w1 ⟨rfl, hb1⟩
  clear hix
  have hr0 := (hb1.block w.heap.size (by simp)).trans (heap_alloc_new _ _)
  have c0 := cell_of hr0 0 rfl
  have c1 := cell_of hr0 1 rfl
  have c2 := cell_of hr0 2 rfl
  have hw1 : Below w.heap.size w w1 := bl_trans (bl1 _ _) hb1
  have HO1 : Hid (w1.ownsRow B 45 3 (.slice a l.length cap) l.length (l.flatMap fun p => paL p.1 p.2)) := own_up hw1 (unhide HO)
  have hB1 : B ≤ w1.heap.size := Nat.le_trans hB hw1.size
  have HI : Hid (∀ i : Nat, i = putI l.length p → (l.flatMap fun p => paL p.1 p.2).take (i * 3) ++ paL x (.slice ua x.sec.length uc) ++ (l.flatMap fun p => paL p.1 p.2).drop (i * 3) = (L.flatMap fun p => paL p.1 p.2) ∧ L.length = l.length + 1 ∧ i ≤ l.length) := fun i hi => by
    subst hi
    have := putI_le l.length p
    refine ⟨by rw [flat_ins (fun p : Pa × Value => paL p.1 p.2) 3 (fun _ => rfl) l (x, .slice ua x.sec.length uc) _ this, putA_at, unhide HL], ?_, this⟩
    rw [← unhide HL, ← putA_at, List.length_append, List.length_cons, List.length_take, List.length_drop]; omega
  clear hr0 hb1 hnc hcap
  by_cases hneg : firstI l.length p < 0
  · have hpi : l.length = putI l.length p := by unfold putI; rw [if_pos hneg]
    obtain ⟨e1, e2, e3⟩ := unhide HI l.length hpi
    have HE1 := hide e1
    have HE2 := hide e2
    clear hpi e1 e2 e3
    go_wp2_with fail
    refine (insertLPa_any B _ l.length l.length (l.flatMap fun p => paL p.1 p.2) (paL x (.slice ua x.sec.length uc)) w1.heap.size _ (World.ownsRow.alloc (unhide HO1) _) (Nat.le_refl _) hn (heap_alloc_new _ _) rfl (own_new (unhide HO1) (Nat.le_refl _)) (unhide H1) (by simp [Value.oneCell']) (by simp; omega)).mono ?_
    rintro e w2 ⟨o, rfl, ho, hg, hli⟩
    rw [unhide HE1] at ho
    have HG : Hid (w.grownBy w2 ob) := by rw [← unhide HOB]; exact gb_trans (gb_below (bl_alloc hw1 _)) hg
    have HO2 := hide ho
    have HLI : Hid (Lies w (.slice a l.length cap) o) := fun j e => (hli j e).imp id fun h => by have := hw1.size; simp at h; omega
    clear ho hg hli
    go_wp2
    go_ret
    exact ⟨_, rfl, unhide HO2, unhide HG, unhide HLI⟩
  · obtain ⟨i, hi⟩ := Int.eq_ofNat_of_zero_le (show 0 ≤ firstI l.length p by omega)
    have hpi : i = putI l.length p := by unfold putI; rw [if_neg hneg, hi]; rfl
    obtain ⟨e1, e2, e3⟩ := unhide HI i hpi
    have HE1 := hide e1
    have HE2 := hide e2
    rw [hi]
    clear hpi e1 e2 hi hneg
    go_wp2_with fail
    refine (insertLPa_any B _ l.length i (l.flatMap fun p => paL p.1 p.2) (paL x (.slice ua x.sec.length uc)) w1.heap.size _ (World.ownsRow.alloc (unhide HO1) _) e3 hn (heap_alloc_new _ _) rfl (own_new (unhide HO1) (Nat.le_refl _)) (unhide H1) (by simp [Value.oneCell']) (by simp; omega)).mono ?_
    rintro e w2 ⟨o, rfl, ho, hg, hli⟩
    rw [unhide HE1] at ho
    have HG : Hid (w.grownBy w2 ob) := by rw [← unhide HOB]; exact gb_trans (gb_below (bl_alloc hw1 _)) hg
    have HO2 := hide ho
    have HLI : Hid (Lies w (.slice a l.length cap) o) := fun j e => (hli j e).imp id fun h => by have := hw1.size; simp at h; omega
    clear ho hg hli
    go_wp2
    go_ret
    exact ⟨_, rfl, unhide HO2, unhide HG, unhide HLI⟩
end Go.Proofs.YtdgmdapijhbocaaGreat

/- A state behind a pointer, in memory of one's own; state.pass, takeNumber, unask. -/
namespace Go.Proofs.YtdgmdapijhbocaaGreat
open Go.RowKit Go.Maps
set_option maxRecDepth 100000
set_option linter.unusedVariables false
set_option linter.unusedSimpArgs false
/-- Whatever block is meant is a row of this type. -/
def Typ (w : World) (r : Option Nat) (T : TypeId) : Prop := ∀ j, r = some j → ∃ c fz, w.heap[j]? = some (.cells c T fz)
theorem own_kept {w w' : World} {B : Nat} {T T' : TypeId} {k : Nat} {v : Value} {n : Nat} {xs : List Value} {r : Option Nat} (h : w.ownsRow B T k v n xs) (hg : w.grownBy w' r) (ht : Typ w r T') (hne : T ≠ T') : w'.ownsRow B T k v n xs := by
  refine h.kept hg ?_
  cases hv : v.ownBlock with
  | none => exact .inl rfl
  | some j =>
    refine .inr fun e => ?_
    obtain ⟨c, fz, hc⟩ := ht j e.symm
    rcases h.2 with ⟨rfl, _⟩ | ⟨g, cap, cur, rfl, _, hg', _⟩
    · cases hv
    · have : g = j := by simpa [Value.ownBlock] using hv
      subst this
      rw [hc] at hg'
      injection hg' with hg'
      injection hg' with _ e2 _
      exact hne e2.symm
theorem own_typ {w : World} {B : Nat} {T : TypeId} {k : Nat} {v : Value} {n : Nat} {xs : List Value} (h : w.ownsRow B T k v n xs) : Typ w v.ownBlock T := fun j hj => by
  rcases h.2 with ⟨rfl, _⟩ | ⟨g, cap, cur, rfl, _, hg', _⟩
  · cases hj
  · have : g = j := by simpa [Value.ownBlock] using hj
    subst this
    exact ⟨_, _, hg'⟩
theorem row_typ {w : World} {X : Nat} {c : Array Value} {T : TypeId} {fz : Nat × Nat} (h : w.heap[X]? = some (.cells c T fz)) : Typ w (some X) T := fun j hj => by
  injection hj with hj
  subst hj
  exact ⟨_, _, h⟩
theorem row_kept {w w' : World} {X : Nat} {c : Array Value} {T T' : TypeId} {fz : Nat × Nat} {r : Option Nat} (h : w.heap[X]? = some (.cells c T fz)) (hg : w.grownBy w' r) (ht : Typ w r T') (hne : T ≠ T') : w'.heap[X]? = some (.cells c T fz) := by
  refine (hg.block X (Array.getElem?_eq_some_iff.1 h).1 fun e => ?_).trans h
  obtain ⟨c', fz', hc⟩ := ht X e.symm
  rw [h] at hc
  injection hc with hc
  injection hc with _ e2 _
  exact hne e2
section
variable {w w' : World} {B : Nat} {v : Value} {r : Option Nat} {T' : TypeId}
theorem OwV.kept {xs : List Ve} (h : OwV w B v xs) (hg : w.grownBy w' r) (ht : Typ w r T') (h1 : 36 ≠ T') (h2 : 3 ≠ T') : OwV w' B v xs := by
  obtain ⟨ps, e1, e2, e3⟩ := h
  exact ⟨ps, e1, own_kept e2 hg ht h1, fun p hp => own_kept (e3 p hp) hg ht h2⟩
theorem OwP.kept {xs : List Pa} (h : OwP w B v xs) (hg : w.grownBy w' r) (ht : Typ w r T') (h1 : 45 ≠ T') (h2 : 3 ≠ T') : OwP w' B v xs := by
  obtain ⟨ps, e1, e2, e3⟩ := h
  exact ⟨ps, e1, own_kept e2 hg ht h1, fun p hp => own_kept (e3 p hp) hg ht h2⟩
theorem OwU.kept {xs : List Up} (h : OwU w B v xs) (hg : w.grownBy w' r) (ht : Typ w r T') (h0 : 102 ≠ T') (h1 : 45 ≠ T') (h2 : 3 ≠ T') : OwU w' B v xs := by
  obtain ⟨ps, e1, e2, e3, e4⟩ := h
  exact ⟨ps, e1, own_kept e2 hg ht h0, fun p hp => (e3 p hp).kept hg ht h1 h2, e4⟩
theorem OSt.box {b v u q g : Value} {S : St} (h : OSt w B b v u q g S) (hg : w.grownBy w' r) (ht : Typ w r 29) : OSt w' B b v u q g S :=
  ⟨own_kept h.bus hg ht (by decide), h.ves.kept hg ht (by decide) (by decide), h.ups.kept hg ht (by decide) (by decide) (by decide), own_kept h.que hg ht (by decide), own_kept h.gone hg ht (by decide)⟩
end
theorem OSt.of {w : World} {B : Nat} {b v u q g : Value} {S S' : St} (h : OSt w B b v u q g S) (h1 : S'.bus = S.bus) (h2 : S'.ves = S.ves) (h3 : S'.ups = S.ups) (h4 : S'.que = S.que) (h5 : S'.gone = S.gone) : OSt w B b v u q g S' :=
  ⟨by rw [h1]; exact h.bus, by rw [h2]; exact h.ves, by rw [h3]; exact h.ups, by rw [h4]; exact h.que, by rw [h5]; exact h.gone⟩
/-- A state lies in the box X; all of it is of memory from B on. -/
def Bx (w : World) (B X : Nat) (S : St) : Prop := ∃ b v u q g, w.heap[X]? = some (.cells (stA S b v u q g) 29 (0, 0)) ∧ OSt w B b v u q g S
theorem Bx.up {w w' : World} {B X : Nat} {S : St} (h : Bx w B X S) (hb : Below w.heap.size w w') : Bx w' B X S := by
  obtain ⟨b, v, u, q, g, h1, h2⟩ := h
  exact ⟨b, v, u, q, g, (hb.block X (Array.getElem?_eq_some_iff.1 h1).1).trans h1, h2.up hb⟩
theorem Bx.lt {w : World} {B X : Nat} {S : St} (h : Bx w B X S) : X < w.heap.size := by
  obtain ⟨b, v, u, q, g, h1, h2⟩ := h
  exact (Array.getElem?_eq_some_iff.1 h1).1
theorem bl_lo {a w : World} {B : Nat} (h : Below a.heap.size a w) (hB : B ≤ a.heap.size) : Below B a w := h.mono hB
theorem gb_lo {a w : World} {B : Nat} {r : Option Nat} (h : a.grownBy w r) (hB : B ≤ a.heap.size) (hr : ∀ j, r = some j → B ≤ j) : Below B a w :=
  ⟨h.os, h.tape, h.output, h.size, fun k hk => h.block k (by omega) fun e => by have := hr k e.symm; omega⟩
theorem bl_tr {a b c : World} {B : Nat} (h : Below B a b) (k : Below B b c) : Below B a c := h.trans k
def pasE (S : St) (n : Int) : Int := if 0 ≤ n ∧ n ≤ 1073741824 - S.clock then 0 else 2
def pasS (S : St) (n : Int) : St := { S with clock := S.clock + n }
set_option maxHeartbeats 1000000 in
theorem pass_any (S : St) (n : Int) (B X : Nat) (w : World) (h : Bx w B X S) (hX : B ≤ X) (h0 : 0 ≤ S.clock) (h1 : S.clock ≤ 1073741824) :
    Calls Tryz.prog 72 #[.pointer (some ⟨X, 0, none⟩), .int .i64 n] w fun e w' => e = .returned (.int .i64 (pasE S n)) ∧ (pasE S n = 0 → Bx w' B X (pasS S n)) ∧ Below B w w' := by
  have hXl := h.lt
  obtain ⟨b, v, u, q, g, hr, hO⟩ := h
  have c1 := cell_of hr 1 rfl
  have f1 := fz_of hr 1
  obtain ⟨E, hE⟩ : ∃ E, pasE S n = E := ⟨_, rfl⟩
  rw [hE]
  by_cases hn : 0 ≤ n
  · by_cases hm : n ≤ 1073741824 - S.clock
    · have HE : Hid (E = 0) := by show _ = _; rw [← hE]; unfold pasE; rw [if_pos ⟨hn, hm⟩]
      have HB : Hid (Bx (w.setCell ⟨X, 1, none⟩ (.int .i64 (S.clock + n))) B X (pasS S n)) := ⟨b, v, u, q, g, rowS hr 1 _ rfl, (hO.box (gb_setCell w X 1 _) (row_typ hr)).of rfl rfl rfl rfl rfl⟩
      clear hr hO hE
      go_enter Tryz.func72, Tryz.ntmps72
      go_wp2
      go_ret
      exact ⟨ret_int (unhide HE).symm, fun _ => unhide HB, gb_lo (gb_setCell w X 1 _) (by omega) (fun j e => by injection e with e; omega)⟩
    · have HE : Hid (E = 2) := by show _ = _; rw [← hE]; unfold pasE; rw [if_neg (fun e => hm e.2)]
      clear hr hO hE
      go_enter Tryz.func72, Tryz.ntmps72
      go_wp2
      go_ret
      exact ⟨ret_int (unhide HE).symm, fun e => absurd ((unhide HE).symm.trans e) (by decide), Below.refl _ _⟩
  · have HE : Hid (E = 2) := by show _ = _; rw [← hE]; unfold pasE; rw [if_neg (fun e => hn e.1)]
    clear hr hO hE
    go_enter Tryz.func72, Tryz.ntmps72
    go_wp2
    go_ret
    exact ⟨ret_int (unhide HE).symm, fun e => absurd ((unhide HE).symm.trans e) (by decide), Below.refl _ _⟩
def takeE (S : St) (id : Int) : Int := if id = S.next ∧ S.next ≠ 1048576 then 0 else 2
def takeS (S : St) : St := { S with next := S.next + 1 }
set_option maxHeartbeats 1000000 in
theorem takeNumberW_any (S : St) (n : Int) (X : Nat) (b v u q g : Value) (w : World) (hr : w.heap[X]? = some (.cells (stA S b v u q g) 29 (0, 0))) (h0 : 1 ≤ S.next) (h1 : S.next ≤ 1048576) :
    Calls Tryz.prog 121 #[.pointer (some ⟨X, 0, none⟩), .int .i64 n] w fun e w' => e = .returned (.int .i64 (takeE S n)) ∧ (takeE S n = 0 → w' = w.setCell ⟨X, 0, none⟩ (.int .i64 (S.next + 1))) ∧ (takeE S n ≠ 0 → w' = w) := by
  have c1 := cell_of hr 0 rfl
  have f1 := fz_of hr 0
  obtain ⟨E, hE⟩ : ∃ E, takeE S n = E := ⟨_, rfl⟩
  rw [hE]
  by_cases hn : n = S.next
  · by_cases hm : S.next = 1048576
    · have HE : Hid (E = 2) := by show _ = _; rw [← hE]; unfold takeE; rw [if_neg (fun e => e.2 hm)]
      have t1 : (n != S.next) = false := by simp [hn]
      have t2 : (S.next == 1048576) = true := by simp [hm]
      clear hr hE hn hm
      go_enter Tryz.func121, Tryz.ntmps121
      go_wp2
      go_ret
      exact ⟨ret_int (unhide HE).symm, fun e => absurd ((unhide HE).symm.trans e) (by decide), fun _ => rfl⟩
    · have HE : Hid (E = 0) := by show _ = _; rw [← hE]; unfold takeE; rw [if_pos ⟨hn, hm⟩]
      have t1 : (n != S.next) = false := by simp [hn]
      have t2 : (S.next == 1048576) = false := by simp [hm]
      clear hr hE hn hm
      go_enter Tryz.func121, Tryz.ntmps121
      go_wp2
      go_ret
      exact ⟨ret_int (unhide HE).symm, fun _ => rfl, fun e => absurd (unhide HE) e⟩
  · have HE : Hid (E = 2) := by show _ = _; rw [← hE]; unfold takeE; rw [if_neg (fun e => hn e.1)]
    have t1 : (n != S.next) = true := by simp [hn]
    clear hr hE hn
    go_enter Tryz.func121, Tryz.ntmps121
    go_wp2
    go_ret
    exact ⟨ret_int (unhide HE).symm, fun e => absurd ((unhide HE).symm.trans e) (by decide), fun _ => rfl⟩
theorem takeNumber_any (S : St) (n : Int) (B X : Nat) (w : World) (h : Bx w B X S) (hX : B ≤ X) (h0 : 1 ≤ S.next) (h1 : S.next ≤ 1048576) :
    Calls Tryz.prog 121 #[.pointer (some ⟨X, 0, none⟩), .int .i64 n] w fun e w' => e = .returned (.int .i64 (takeE S n)) ∧ (takeE S n = 0 → Bx w' B X (takeS S)) ∧ Below B w w' := by
  have hXl := h.lt
  obtain ⟨b, v, u, q, g, hr, hO⟩ := h
  refine (takeNumberW_any S n X b v u q g w hr h0 h1).mono ?_
  rintro e w' ⟨rfl, e1, e2⟩
  by_cases hE : takeE S n = 0
  · have := e1 hE
    subst this
    exact ⟨rfl, fun _ => ⟨b, v, u, q, g, rowS hr 0 _ rfl, (hO.box (gb_setCell w X 0 _) (row_typ hr)).of rfl rfl rfl rfl rfl⟩, gb_lo (gb_setCell w X 0 _) (by omega) (fun j e => by injection e with e; omega)⟩
  · have := e2 hE
    subst this
    exact ⟨rfl, fun e => absurd e hE, Below.refl _ _⟩
theorem OwA.cells {w : World} {B : Nat} {s : Value} {l : List Ak} (h : OwA w B s l) : (s = .slice none 0 0 ∧ l = []) ∨ ∃ g cap sp, s = .slice (some ⟨g, 0, none⟩) l.length cap ∧ B ≤ g ∧ w.heap[g]? = some (.cells ((l.flatMap akL) ++ sp).toArray 43 (0, 0)) ∧ (l.flatMap akL).length + sp.length = cap * 3 ∧ cap ≤ 9223372036854775807 ∧ l.length ≤ cap := by
  have hl := h.1
  rcases h.2 with ⟨rfl, h0⟩ | ⟨g, cap, cur, rfl, hB, hg, hn, hc, hs, ht⟩
  · exact .inl ⟨rfl, List.length_eq_zero_iff.1 h0⟩
  · refine .inr ⟨g, cap, cur.toList.drop (l.length * 3), rfl, hB, ?_, ?_, by unfold maxLen at hc; omega, hn⟩
    · rw [← ht, List.take_append_drop]; exact hg
    · rw [List.length_drop, hl]
      have e1 : cur.toList.length = cur.size := Array.length_toList
      omega
def unaS (S : St) (id : Int) : St := { S with que := S.que.filter (fun x => !(x.ver == id)) }
theorem deleteFuncA_nil (C : Value) (w : World) : Calls Tryz.prog 165 #[.slice none 0 0, .func (.func 166) #[] #[C]] w fun e w' => e = .returned (.slice none 0 0) ∧ Below w.heap.size w w' := by
  go_enter Tryz.func165, Tryz.ntmps165
  go_wp2_with fail
  refine (index_unask_1 C none 0 [] (fun _ => false) w ⟨none, 0, rfl, Nat.le_refl _, Nat.zero_le _, fun i hi => absurd hi (Nat.not_lt_zero _)⟩ (by decide) (fun k wr X hk => absurd hk (Nat.not_lt_zero _))).mono ?_
  rintro e w1 ⟨rfl, hb⟩
  have h0 : firstI ([] : List Ak).length (fun _ => false) = -1 := rfl
  rw [h0]
  clear h0
  go_wp2
  go_ret
  exact ⟨rfl, hb⟩
theorem OwA.of {w : World} {B g cap n : Nat} {l : List Ak} {sp : List Value} (hB : B ≤ g) (hr : w.heap[g]? = some (.cells ((l.flatMap akL) ++ sp).toArray 43 (0, 0))) (hl : (l.flatMap akL).length + sp.length = cap * 3) (hc : cap ≤ 9223372036854775807) (hn : n = l.length) : OwA w B (.slice (some ⟨g, 0, none⟩) n cap) l := by
  subst hn
  have h1 := flat_len2 akL 3 (fun _ => rfl) l
  exact ⟨h1, .inr ⟨g, cap, _, rfl, hB, hr, by omega, by unfold maxLen; omega, by simpa using hl, by rw [← h1]; show List.take _ (_ ++ _) = _; exact List.take_left⟩⟩
/-- Rows that are neither a state's box nor asks stay as they are. -/
def Others (w w' : World) : Prop := ∀ (n : Nat) (c : Array Value) (T : TypeId) (fz : Nat × Nat), T ≠ 29 → T ≠ 43 → w.heap[n]? = some (.cells c T fz) → w'.heap[n]? = some (.cells c T fz)
set_option maxHeartbeats 2000000 in
theorem unaskW_any (S : St) (id : Int) (B X : Nat) (b v u q g : Value) (w : World) (hr : w.heap[X]? = some (.cells (stA S b v u q g) 29 (0, 0))) (hO : OSt w B b v u q g S) (hX : B ≤ X) (hw : WfS S) :
    Calls Tryz.prog 126 #[.pointer (some ⟨X, 0, none⟩), .int .i64 id] w fun e w' => e = .returned (.tuple #[]) ∧ (∃ q', w'.heap[X]? = some (.cells (stA (unaS S id) b v u q' g) 29 (0, 0)) ∧ OSt w' B b v u q' g (unaS S id)) ∧ Below B w w' ∧ Others w w' := by
  have hXl := (Array.getElem?_eq_some_iff.1 hr).1
  rcases OwA.cells hO.que with ⟨rfl, hq0⟩ | ⟨k, cap, sp, rfl, hBk, hrow, hsp, hcap, hlen⟩
  · have c5 := cell_of hr 5 rfl
    have HR := hide hr
    have HO := hide hO
    clear hr hO
    go_enter Tryz.func126, Tryz.ntmps126
    go_wp2_with fail
    refine (deleteFuncA_nil _ _).mono ?_
    rintro e w1 ⟨rfl, hb⟩
    have hb1 : Below w.heap.size w w1 := bl_trans (bl1 _ _) hb
    have hr1 := (hb1.block X hXl).trans (unhide HR)
    have d5 := cell_of hr1 5 rfl
    have f5 := fz_of hr1 5
    have HB : Hid (∃ q', (w1.setCell ⟨X, 5, none⟩ (.slice none 0 0)).heap[X]? = some (.cells (stA (unaS S id) b v u q' g) 29 (0, 0)) ∧ OSt (w1.setCell ⟨X, 5, none⟩ (.slice none 0 0)) B b v u q' g (unaS S id)) := by
      refine ⟨_, rowS hr1 5 _ rfl, (((unhide HO).up hb1).box (gb_setCell w1 X 5 _) (row_typ hr1)).of rfl rfl rfl ?_ rfl⟩
      show S.que.filter _ = S.que
      rw [hq0]; rfl
    have HL : Hid (Below B w (w1.setCell ⟨X, 5, none⟩ (.slice none 0 0))) := bl_tr (bl_lo hb1 (by omega)) (gb_lo (gb_setCell w1 X 5 _) (by have := hb1.size; omega) (fun j e => by injection e with e; omega))
    have HF : Hid (Others w (w1.setCell ⟨X, 5, none⟩ (.slice none 0 0))) := fun n c T fz h1 h2 hn => row_kept ((hb1.block n (Array.getElem?_eq_some_iff.1 hn).1).trans hn) (gb_setCell w1 X 5 _) (row_typ hr1) h1
    clear hb hb1 hr1 c5
    go_wp2
    go_end0
    exact ⟨rfl, unhide HB, unhide HL, unhide HF⟩
  · have c5 := cell_of hr 5 rfl
    have HR := hide hr
    have HO := hide hO
    have HRow := hide hrow
    have hkl : k < w.heap.size := (Array.getElem?_eq_some_iff.1 hrow).1
    clear hr hO hrow
    go_enter Tryz.func126, Tryz.ntmps126
    go_wp2_with fail
    refine (deleteFuncA_any id w.heap.size k cap S.que sp _ (((bl1 w _).block k hkl).trans (unhide HRow)) hsp hcap (cell_of (heap_alloc_new _ _) 0 rfl) (by omega) hw.que).mono ?_
    rintro e w1 ⟨rfl, ⟨sp', hr1, hl1⟩, hg1⟩
    have hgw : w.grownBy w1 (some k) := gb_trans (gb_below (bl1 _ _)) hg1
    have htk := row_typ (unhide HRow)
    have hrX := row_kept (unhide HR) hgw htk (by decide)
    have hO1 := unhide HO
    have d5 := cell_of hrX 5 rfl
    have f5 := fz_of hrX 5
    obtain ⟨F, hF⟩ : ∃ F, S.que.filter (fun x => !(x.ver == id)) = F := ⟨_, rfl⟩
    have HB : Hid (∃ q', (w1.setCell ⟨X, 5, none⟩ (.slice (some ⟨k, 0, none⟩) F.length cap)).heap[X]? = some (.cells (stA (unaS S id) b v u q' g) 29 (0, 0)) ∧ OSt (w1.setCell ⟨X, 5, none⟩ (.slice (some ⟨k, 0, none⟩) F.length cap)) B b v u q' g (unaS S id)) := by
      have hs1 : OSt w1 B b v u (.slice (some ⟨k, 0, none⟩) F.length cap) g (unaS S id) :=
        ⟨own_kept hO1.bus hgw htk (by decide), hO1.ves.kept hgw htk (by decide) (by decide), hO1.ups.kept hgw htk (by decide) (by decide) (by decide), OwA.of hBk hr1 hl1 hcap (by rw [← hF]; rfl), own_kept hO1.gone hgw htk (by decide)⟩
      exact ⟨_, rowS hrX 5 _ rfl, hs1.box (gb_setCell w1 X 5 _) (row_typ hrX)⟩
    have HL : Hid (Below B w (w1.setCell ⟨X, 5, none⟩ (.slice (some ⟨k, 0, none⟩) F.length cap))) := bl_tr (gb_lo hgw (by omega) (fun j e => by injection e with e; omega)) (gb_lo (gb_setCell w1 X 5 _) (by have := hgw.size; omega) (fun j e => by injection e with e; omega))
    have HF : Hid (Others w (w1.setCell ⟨X, 5, none⟩ (.slice (some ⟨k, 0, none⟩) F.length cap))) := fun n c T fz h1 h2 hn => row_kept (row_kept hn hgw htk h2) (gb_setCell w1 X 5 _) (row_typ hrX) h1
    have hFl : (S.que.filter (fun x => !(fun x : Ak => x.ver == id) x)).length = F.length := by rw [← hF]
    rw [hFl]
    clear hgw hg1 hr1 hl1 htk hrX hO1 c5 hF hFl hw
    go_wp2
    go_end0
    exact ⟨rfl, unhide HB, unhide HL, unhide HF⟩
theorem unask_any (S : St) (id : Int) (B X : Nat) (w : World) (h : Bx w B X S) (hX : B ≤ X) (hw : WfS S) :
    Calls Tryz.prog 126 #[.pointer (some ⟨X, 0, none⟩), .int .i64 id] w fun e w' => e = .returned (.tuple #[]) ∧ Bx w' B X (unaS S id) ∧ Below B w w' := by
  obtain ⟨b, v, u, q, g, hr, hO⟩ := h
  refine (unaskW_any S id B X b v u q g w hr hO hX hw).mono ?_
  rintro e w' ⟨rfl, ⟨q', h1, h2⟩, h3, _⟩
  exact ⟨rfl, ⟨b, v, u, q', g, h1, h2⟩, h3⟩
end Go.Proofs.YtdgmdapijhbocaaGreat
