/- state.Copy. -/
import Derived.Test.YtclnabbojhbmhaaCpe
import Derived.Test.YtclnabbojhbmhaaFts
namespace Go.Proofs.Ytclnabbojhbmhaa
open Go.RowKit Go.Maps
set_option maxRecDepth 100000
set_option linter.unusedVariables false
set_option linter.unusedSimpArgs false
/-- A state in memory of one's own. -/
structure OSt (w : World) (B : Nat) (b v u q g : Value) (S : St) : Prop where
  bus : OwB w B b S.bus
  ves : OwV w B v S.ves
  ups : OwU w B u S.ups
  que : OwA w B q S.que
  gone : OwI w B g S.gone
theorem OSt.sta {w : World} {B : Nat} {b v u q g : Value} {S : St} (h : OSt w B b v u q g S) (hw : WfS S) : Sta w b v u q g S := ⟨h.bus.lst hw.bus, h.ves.lst hw.ves, h.ups.lst hw.ups, h.que.lst hw.que, h.gone.ints hw.gone⟩
theorem OSt.up {w w' : World} {B : Nat} {b v u q g : Value} {S : St} (h : OSt w B b v u q g S) (hb : Below w.heap.size w w') : OSt w' B b v u q g S := ⟨own_up hb h.bus, h.ves.up hb, h.ups.up hb, own_up hb h.que, own_up hb h.gone⟩
theorem OSt.low {w : World} {B : Nat} {b v u q g : Value} {S : St} (h : OSt w B b v u q g S) {k i : Nat} (hk : k < B) (x : Value) : OSt (w.setCell ⟨k, i, none⟩ x) B b v u q g S := ⟨own_low h.bus hk x, h.ves.low hk x, h.ups.low hk x, own_low h.que hk x, own_low h.gone hk x⟩
theorem OSt.base {w : World} {B B' : Nat} {b v u q g : Value} {S : St} (h : OSt w B b v u q g S) (hB : B' ≤ B) : OSt w B' b v u q g S := ⟨own_base h.bus hB, h.ves.base hB, h.ups.base hB, own_base h.que hB, own_base h.gone hB⟩
abbrev stA (S : St) (b v u q g : Value) : Array Value := #[.int .i64 S.next, .int .i64 S.clock, b, v, u, q, g]
abbrev zeroSt : Array Value := #[.int .i64 0, .int .i64 0, .slice none 0 0, .slice none 0 0, .slice none 0 0, .slice none 0 0, .slice none 0 0]
theorem rowS {w : World} {g : Nat} {t : TypeId} {c c' : Array Value} (h : w.heap[g]? = some (.cells c t (0, 0))) (i : Nat) (v : Value) (hc : c.setIfInBounds i v = c') : (w.setCell ⟨g, i, none⟩ v).heap[g]? = some (.cells c' t (0, 0)) := by
  rw [← hc]; exact heap_setCell_same w g i c t v h
set_option maxHeartbeats 2000000 in
theorem copy_any (S : St) (b v u q g : Value) (w : World) (hS : Sta w b v u q g S) (hF : FitS S) : Calls Try.prog 18 #[stV S b v u q g] w fun e w' => ∃ b' v' u' q' g', e = .returned (stV S b' v' u' q' g') ∧ OSt w' w.heap.size b' v' u' q' g' S ∧ Below w.heap.size w w' := by
  obtain ⟨ba, bc, rfl, _, _⟩ := hS.bus.form
  obtain ⟨va, vc, rfl, _, _⟩ := hS.ves.form
  obtain ⟨ua, uc, rfl, _, _⟩ := hS.ups.form
  obtain ⟨qa, qc, rfl, _, _⟩ := hS.que.form
  obtain ⟨ga, gc, rfl, _, _⟩ := hS.gone.form
  have HS := hide hS
  have HF := hide hF
  clear hS hF
  go_enter Try.func18, Try.ntmps18
  go_wp2_with fail
  refine (copyListBu_any _ S.bus _ ((unhide HS).up (bl_alloc (bl1 _ _) _)).bus (by have := (unhide HF).bus; omega)).mono ?_
  rintro e w1 ⟨o1, rfl, hO, hb⟩
  obtain ⟨pa1, pc1, rfl, _, _⟩ := own_form hO
  have hr : w1.heap[w.heap.size]? = some (.cells (stA S (.slice ba S.bus.length bc) (.slice va S.ves.length vc) (.slice ua S.ups.length uc) (.slice qa S.que.length qc) (.slice ga S.gone.length gc)) 35 (0, 0)) := (hb.block w.heap.size (by simp; omega)).trans (((bl1 (w.alloc _) _).block w.heap.size (by simp)).trans (heap_alloc_new _ _))
  have hz : w1.heap[w.heap.size + 1]? = some (.cells zeroSt 35 (0, 0)) := (hb.block (w.heap.size + 1) (by simp)).trans (by simpa using heap_alloc_new (w.alloc _) (.cells zeroSt 35))
  have hsz : w.heap.size + 2 ≤ w1.heap.size := by have := hb.size; simp at this; omega
  have hw : Below w.heap.size w w1 := bl_trans (bl_alloc (bl1 _ _) _) hb
  have HO1 : Hid (OwB w1 (w.heap.size + 2) (.slice pa1 S.bus.length pc1) S.bus) := own_base hO (by simp)
  have x0 := cell_of hr 0 rfl
  have x1 := cell_of hr 1 rfl
  have x2 := cell_of hr 2 rfl
  have x3 := cell_of hr 3 rfl
  have x4 := cell_of hr 4 rfl
  have x5 := cell_of hr 5 rfl
  have x6 := cell_of hr 6 rfl
  have xf := fun j => fz_of hr j
  have HR := hide hr
  have HZ := hide hz
  have hw1 := bl_set (p := ⟨w.heap.size, 2, none⟩) hw (Nat.le_refl _) (.slice pa1 S.bus.length pc1)
  clear hr hz hO hb
  clear hw
  go_wp2_with fail
  refine (copyEachV_any _ S.ves _ ((unhide HS).up hw1).ves (by have := (unhide HF).ves; omega) (fun z hz => by have := (unhide HF).vsec z hz; unfold FitI at this; omega)).mono ?_
  rintro e w2 ⟨o2, rfl, hO, hb⟩
  obtain ⟨pa2, pc2, rfl, _, _⟩ := hO.form
  have hr := (hb.block w.heap.size (by simp; omega)).trans (rowS (unhide HR) 2 _ rfl)
  have hr : w2.heap[w.heap.size]? = some (.cells (stA S (.slice pa1 S.bus.length pc1) (.slice va S.ves.length vc) (.slice ua S.ups.length uc) (.slice qa S.que.length qc) (.slice ga S.gone.length gc)) 35 (0, 0)) := hr
  have hz := (hb.block (w.heap.size + 1) (by simp; omega)).trans ((Below.heap_setCell _ _ _ _ (by simp)).trans (unhide HZ))
  have hsz2 : w1.heap.size ≤ w2.heap.size := by have := hb.size; simpa using this
  have hw : Below w.heap.size w w2 := bl_trans hw1 hb
  have HO1' := hide (own_up hb (own_low (unhide HO1) (by omega) _))
  have HO2' : Hid (OwV w2 (w.heap.size + 2) (.slice pa2 S.ves.length pc2) S.ves) := OwV.base hO (by simp; omega)
  clear HO1 HR HZ hw1
  have HO1 := HO1'
  have HO2 := HO2'
  clear HO1' HO2'
  clear x0 x1 x2 x3 x4 x5 x6 xf
  have x0 := cell_of hr 0 rfl
  have x1 := cell_of hr 1 rfl
  have x2 := cell_of hr 2 rfl
  have x3 := cell_of hr 3 rfl
  have x4 := cell_of hr 4 rfl
  have x5 := cell_of hr 5 rfl
  have x6 := cell_of hr 6 rfl
  have xf := fun j => fz_of hr j
  have HR := hide hr
  have HZ := hide hz
  have hw2 := bl_set (p := ⟨w.heap.size, 3, none⟩) hw (Nat.le_refl _) (.slice pa2 S.ves.length pc2)
  clear hr hz hO hb
  clear hw
  go_wp2_with fail
  refine (copyEachU_any _ S.ups _ ((unhide HS).up hw2).ups (by have := (unhide HF).ups; omega) (fun z hz => by obtain ⟨h1, h2⟩ := (unhide HF).upar z hz; exact ⟨by omega, fun y hy => by have := h2 y hy; unfold FitI at this; omega⟩)).mono ?_
  rintro e w3 ⟨o3, rfl, hO, hb⟩
  obtain ⟨pa3, pc3, rfl, _, _⟩ := hO.form
  have hr := (hb.block w.heap.size (by simp; omega)).trans (rowS (unhide HR) 3 _ rfl)
  have hr : w3.heap[w.heap.size]? = some (.cells (stA S (.slice pa1 S.bus.length pc1) (.slice pa2 S.ves.length pc2) (.slice ua S.ups.length uc) (.slice qa S.que.length qc) (.slice ga S.gone.length gc)) 35 (0, 0)) := hr
  have hz := (hb.block (w.heap.size + 1) (by simp; omega)).trans ((Below.heap_setCell _ _ _ _ (by simp)).trans (unhide HZ))
  have hsz3 : w2.heap.size ≤ w3.heap.size := by have := hb.size; simpa using this
  have hw : Below w.heap.size w w3 := bl_trans hw2 hb
  have HO1' := hide (own_up hb (own_low (unhide HO1) (by omega) _))
  have HO2' := hide ((OwV.low (unhide HO2) (by omega) _).up hb)
  have HO3' : Hid (OwU w3 (w.heap.size + 2) (.slice pa3 S.ups.length pc3) S.ups) := OwU.base hO (by simp; omega)
  clear HO1 HO2 HR HZ hw2
  have HO1 := HO1'
  have HO2 := HO2'
  have HO3 := HO3'
  clear HO1' HO2' HO3'
  clear x0 x1 x2 x3 x4 x5 x6 xf
  have x0 := cell_of hr 0 rfl
  have x1 := cell_of hr 1 rfl
  have x2 := cell_of hr 2 rfl
  have x3 := cell_of hr 3 rfl
  have x4 := cell_of hr 4 rfl
  have x5 := cell_of hr 5 rfl
  have x6 := cell_of hr 6 rfl
  have xf := fun j => fz_of hr j
  have HR := hide hr
  have HZ := hide hz
  have hw3 := bl_set (p := ⟨w.heap.size, 4, none⟩) hw (Nat.le_refl _) (.slice pa3 S.ups.length pc3)
  clear hr hz hO hb
  clear hw
  go_wp2_with fail
  refine (copyListAk_any _ S.que _ ((unhide HS).up hw3).que (by have := (unhide HF).que; omega)).mono ?_
  rintro e w4 ⟨o4, rfl, hO, hb⟩
  obtain ⟨pa4, pc4, rfl, _, _⟩ := own_form hO
  have hr := (hb.block w.heap.size (by simp; omega)).trans (rowS (unhide HR) 4 _ rfl)
  have hr : w4.heap[w.heap.size]? = some (.cells (stA S (.slice pa1 S.bus.length pc1) (.slice pa2 S.ves.length pc2) (.slice pa3 S.ups.length pc3) (.slice qa S.que.length qc) (.slice ga S.gone.length gc)) 35 (0, 0)) := hr
  have hz := (hb.block (w.heap.size + 1) (by simp; omega)).trans ((Below.heap_setCell _ _ _ _ (by simp)).trans (unhide HZ))
  have hsz4 : w3.heap.size ≤ w4.heap.size := by have := hb.size; simpa using this
  have hw : Below w.heap.size w w4 := bl_trans hw3 hb
  have HO1' := hide (own_up hb (own_low (unhide HO1) (by omega) _))
  have HO2' := hide ((OwV.low (unhide HO2) (by omega) _).up hb)
  have HO3' := hide ((OwU.low (unhide HO3) (by omega) _).up hb)
  have HO4' : Hid (OwA w4 (w.heap.size + 2) (.slice pa4 S.que.length pc4) S.que) := own_base hO (by simp; omega)
  clear HO1 HO2 HO3 HR HZ hw3
  have HO1 := HO1'
  have HO2 := HO2'
  have HO3 := HO3'
  have HO4 := HO4'
  clear HO1' HO2' HO3' HO4'
  clear x0 x1 x2 x3 x4 x5 x6 xf
  have x0 := cell_of hr 0 rfl
  have x1 := cell_of hr 1 rfl
  have x2 := cell_of hr 2 rfl
  have x3 := cell_of hr 3 rfl
  have x4 := cell_of hr 4 rfl
  have x5 := cell_of hr 5 rfl
  have x6 := cell_of hr 6 rfl
  have xf := fun j => fz_of hr j
  have HR := hide hr
  have HZ := hide hz
  have hw4 := bl_set (p := ⟨w.heap.size, 5, none⟩) hw (Nat.le_refl _) (.slice pa4 S.que.length pc4)
  clear hr hz hO hb
  clear hw
  go_wp2_with fail
  refine (copyInts_any _ S.gone _ ((unhide HS).up hw4).gone (by have := (unhide HF).gone; unfold FitI at this; omega)).mono ?_
  rintro e w5 ⟨o5, rfl, hO, hb⟩
  obtain ⟨pa5, pc5, rfl, _, _⟩ := own_form hO
  have hr := (hb.block w.heap.size (by simp; omega)).trans (rowS (unhide HR) 5 _ rfl)
  have hr : w5.heap[w.heap.size]? = some (.cells (stA S (.slice pa1 S.bus.length pc1) (.slice pa2 S.ves.length pc2) (.slice pa3 S.ups.length pc3) (.slice pa4 S.que.length pc4) (.slice ga S.gone.length gc)) 35 (0, 0)) := hr
  have hz := (hb.block (w.heap.size + 1) (by simp; omega)).trans ((Below.heap_setCell _ _ _ _ (by simp)).trans (unhide HZ))
  have hsz5 : w4.heap.size ≤ w5.heap.size := by have := hb.size; simpa using this
  have hw : Below w.heap.size w w5 := bl_trans hw4 hb
  have HO1' := hide (own_up hb (own_low (unhide HO1) (by omega) _))
  have HO2' := hide ((OwV.low (unhide HO2) (by omega) _).up hb)
  have HO3' := hide ((OwU.low (unhide HO3) (by omega) _).up hb)
  have HO4' := hide (own_up hb (own_low (unhide HO4) (by omega) _))
  have HO5' : Hid (OwI w5 (w.heap.size + 2) (.slice pa5 S.gone.length pc5) S.gone) := own_base hO (by simp; omega)
  clear HO1 HO2 HO3 HO4 HR HZ hw4
  have HO1 := HO1'
  have HO2 := HO2'
  have HO3 := HO3'
  have HO4 := HO4'
  have HO5 := HO5'
  clear HO1' HO2' HO3' HO4' HO5'
  clear x0 x1 x2 x3 x4 x5 x6 xf
  have x0 := cell_of hr 0 rfl
  have x1 := cell_of hr 1 rfl
  have x2 := cell_of hr 2 rfl
  have x3 := cell_of hr 3 rfl
  have x4 := cell_of hr 4 rfl
  have x5 := cell_of hr 5 rfl
  have x6 := cell_of hr 6 rfl
  have xf := fun j => fz_of hr j
  have z0 := cell_of hz 0 rfl
  have z1 := cell_of hz 1 rfl
  have z2 := cell_of hz 2 rfl
  have z3 := cell_of hz 3 rfl
  have z4 := cell_of hz 4 rfl
  have z5 := cell_of hz 5 rfl
  have z6 := cell_of hz 6 rfl
  have zf := fun j => fz_of hz j
  have HR := hide hr
  have HZ := hide hz
  have hw5 := bl_set (p := ⟨w.heap.size, 6, none⟩) hw (Nat.le_refl _) (.slice pa5 S.gone.length pc5)
  clear hr hz hO hb
  go_wp2
  refine bodyPost_ret (v := stV S (.slice pa1 S.bus.length pc1) (.slice pa2 S.ves.length pc2) (.slice pa3 S.ups.length pc3) (.slice pa4 S.que.length pc4) (.slice pa5 S.gone.length pc5)) (by simp [results, Try.results18, go_sem, *]) rfl ⟨.slice pa1 S.bus.length pc1, .slice pa2 S.ves.length pc2, .slice pa3 S.ups.length pc3, .slice pa4 S.que.length pc4, .slice pa5 S.gone.length pc5, rfl, ?_, ?_⟩
  · refine OSt.base (B := w.heap.size + 2) ?_ (by omega)
    (iterate 8 (refine OSt.low ?_ (by omega) _))
    exact ⟨unhide HO1, unhide HO2, unhide HO3, unhide HO4, unhide HO5⟩
  · (iterate 8 (refine bl_set ?_ (by simp <;> omega) _))
    exact hw
end Go.Proofs.Ytclnabbojhbmhaa
