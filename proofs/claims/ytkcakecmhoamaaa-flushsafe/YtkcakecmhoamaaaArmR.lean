/- icehouseref.ArmedOf. -/
import Derived.Test.YtkcakecmhoamaaaGet2
import Derived.Test.YtkcakecmhoamaaaDCp
namespace Go.Proofs.Ytkcakecmhoamaaa
open Go.RowKit
set_option linter.unusedVariables false
set_option linter.unusedSimpArgs false

theorem fits_of {r a h vm nv : Int} {D : Dv} (hg : geoB r a h vm nv = true) (hd : devB r a h vm nv D = true) : Fits D := by
  obtain ⟨x1, x2, x3, _, x5, x6, x7⟩ := devB_all hd
  have hb := geoB_bd hg
  refine ⟨by omega, by omega, by omega, fun i hi => by rw [x5 i hi]; decide, fun i hi => by rw [(x6 i hi).2]; decide, fun i hi => ?_⟩
  have h7 := x7 i hi
  generalize (D.vols.getD i ⟨[], 0, false⟩).gone = go at h7
  generalize (D.vols.getD i ⟨[], 0, false⟩).data.length = L at h7 ⊢
  have : (L : Int) ≤ vm := by cases go <;> simp [volB, inB] at h7 <;> omega
  omega
/-- What arming answers. -/
def armE (f e : Int) : Int := if e = 0 then (if inB f 0 1048576 then 0 else 2) else e
def nilD : Dv := ⟨[], [], [], 0⟩
def armD (D : Dv) (f e : Int) : Dv := if e = 0 then ⟨D.safe, D.cache, D.vols, f⟩ else nilD
theorem armE_bad {f e : Int} (h : e ≠ 0) : armE f e = e := by simp [armE, h]
theorem armE_f {f : Int} (h : inB f 0 1048576 = false) : armE f 0 = 2 := by simp [armE, h]
theorem armE_t {f : Int} (h : inB f 0 1048576 = true) : armE f 0 = 0 := by simp [armE, h]
theorem armD_bad {D : Dv} {f e : Int} (h : e ≠ 0) : armD D f e = nilD := by simp [armD, h]
theorem armD_ok (D : Dv) (f : Int) : armD D f 0 = ⟨D.safe, D.cache, D.vols, f⟩ := by simp [armD]
theorem box3r {w w1 : World} {c0 c1 : Array Value} {cs : List Value} {t0 t1 t2 : TypeId} (hb : Below (((w.alloc (.cells c0 t0)).alloc (.cells c1 t1)).alloc (.cells cs.toArray t2)).heap.size (((w.alloc (.cells c0 t0)).alloc (.cells c1 t1)).alloc (.cells cs.toArray t2)) w1) : Row w1 (w.heap.size + 1 + 1) t2 cs := by
  have := (Row.new ((w.alloc (.cells c0 t0)).alloc (.cells c1 t1)) t2 cs).up hb
  simpa using this
/-- Another fuel. -/
theorem ODev.fuel {w : World} {B : Nat} {s c v : Value} {D : Dv} (h : ODev w B s c v D) (f : Int) : ODev w B s c v ⟨D.safe, D.cache, D.vols, f⟩ := ⟨h.safe, h.cache, h.vols⟩

set_option maxHeartbeats 1000000 in
theorem armedOf_any (r a h vm nv : Int) (s c v : Value) (D : Dv) (f : Int) (w : World) (hD : Dev w s c v D) :
    Calls Try.prog 48 #[.agg #[.int .i64 r, .int .i64 a, .int .i64 h, .int .i64 vm, .int .i64 nv], .agg #[s, c, v, .int .i64 D.fuel], .int .i64 f] w fun e w' =>
      ∃ s' c' v', e = .returned (.tuple #[.agg #[s', c', v', .int .i64 (armD D f (armE f (chkE r a h vm nv D))).fuel], .int .i64 (armE f (chkE r a h vm nv D))]) ∧ ODev w' w.heap.size s' c' v' (armD D f (armE f (chkE r a h vm nv D))) ∧ Below w.heap.size w w' := by
  have HD := hide hD
  obtain ⟨⟨a1, cap1, rfl, l1, m1, hs⟩, ⟨a2, cap2, rfl, l2, m2, hc⟩, ⟨a3, cap3, rfl, l3, m3, hv⟩⟩ := hD
  clear hs hc hv
  go_enter Try.func48, Try.ntmps48
  go_wp2_with fail
  refine (devFault_any r a h vm nv _ _ _ D _ ((unhide HD).up (bl3 _ _ _ _))).mono ?_
  rintro e w1 ⟨rfl, hb1⟩
  have hb0 : Below w.heap.size w w1 := bl_trans (bl3 _ _ _ _) hb1
  have f0 := box3b hb1 0 rfl
  have f1 := box3b hb1 1 rfl
  have f2 := box3b hb1 2 rfl
  have f3 := box3b hb1 3 rfl
  have hR := box3r (cs := [.slice none 0 0, .slice none 0 0, .slice none 0 0, .int .i64 0]) hb1
  have d0 := hR.cell 0 _ rfl
  have d1 := hR.cell 1 _ rfl
  have d2 := hR.cell 2 _ rfl
  have d3 := hR.cell 3 _ rfl
  have df := hR.unfrozen
  have HR := hide hR
  clear hb1 hR
  obtain ⟨E, hE⟩ : ∃ E, chkE r a h vm nv D = E := ⟨_, rfl⟩
  rw [hE]
  by_cases hE0 : E = 0
  case neg =>
    have t1 : (E != 0) = true := by simpa using hE0
    have t2 : (E == 0) = false := by simpa using hE0
    have HE : Hid (E = armE f (chkE r a h vm nv D)) := by rw [hE]; exact (armE_bad hE0).symm
    have HE0 := hide hE0
    clear hE hE0
    go_wp2
    refine bodyPost_ret (v := .tuple #[.agg #[.slice none 0 0, .slice none 0 0, .slice none 0 0, .int .i64 0], .int .i64 E]) (by simp [results, Try.results48, go_sem, *]) rfl ⟨_, _, _, ret_dev (by rw [← unhide HE, armD_bad (unhide HE0)]; rfl) (unhide HE), ?_, ?_⟩
    · rw [← unhide HE, armD_bad (unhide HE0)]; exact ODev.empty _ _ _
    · repeat (first | exact hb0 | refine bl_set ?_ (by simp <;> omega) _)
  subst hE0
  obtain ⟨hg, hd⟩ := chk_of hE
  have HFIT := hide (fits_of hg hd)
  have HCH := hide hE
  clear hE hd hg
  cases hin : inB f 0 1048576
  case false =>
    have HE : Hid (2 = armE f (chkE r a h vm nv D)) := by rw [unhide HCH]; exact (armE_f hin).symm
    go_wp2_with (go_at_call 52; refine (in_any _ _ _ _).mono ?_; rintro e w' ⟨rfl, rfl⟩)
    refine bodyPost_ret (v := .tuple #[.agg #[.slice none 0 0, .slice none 0 0, .slice none 0 0, .int .i64 0], .int .i64 2]) (by simp [results, Try.results48, go_sem, *]) rfl ⟨_, _, _, ret_dev (by rw [← unhide HE, armD_bad (by decide)]; rfl) (unhide HE), ?_, ?_⟩
    · rw [← unhide HE, armD_bad (by decide)]; exact ODev.empty _ _ _
    · repeat (first | exact hb0 | refine bl_set ?_ (by simp <;> omega) _)
  have HE : Hid (0 = armE f (chkE r a h vm nv D)) := by rw [unhide HCH]; exact (armE_t hin).symm
  go_wp2_with (go_at_call 52; refine (in_any _ _ _ _).mono ?_; rintro e w' ⟨rfl, rfl⟩)
  clear hin
  refine (devCopy_any _ _ _ D D.fuel _ ((unhide HD).up hb0) (unhide HFIT)).mono ?_
  rintro e w2 ⟨s', c', v', rfl, hO, hb2⟩
  replace hb0 := bl_trans hb0 hb2
  have hod := hO.dev
  obtain ⟨⟨b1, dap1, rfl, _⟩, ⟨b2, dap2, rfl, _⟩, ⟨b3, dap3, rfl, _⟩⟩ := hod
  have hR := (unhide HR).up hb2
  have d0 := hR.cell 0 _ rfl
  have d1 := hR.cell 1 _ rfl
  have d2 := hR.cell 2 _ rfl
  have d3 := hR.cell 3 _ rfl
  have df := hR.unfrozen
  have hrl := hR.lt
  have HR2 := hide hR
  have HO := hide hO
  have hsz := (unhide HR).lt
  have hs1 : w.heap.size ≤ w1.heap.size := by omega
  clear hR hO HR hb2 f0 f1 f2 f3
  go_wp2
  refine bodyPost_ret (v := .tuple #[.agg #[.slice b1 D.safe.length dap1, .slice b2 D.cache.length dap2, .slice b3 D.vols.length dap3, .int .i64 f], .int .i64 0]) (by simp [results, Try.results48, go_sem, *]) rfl ⟨_, _, _, ret_dev (by rw [← unhide HE, armD_ok]) (unhide HE), ?_, ?_⟩
  · rw [← unhide HE, armD_ok]
    refine (ODev.up (((unhide HO).fuel f).kept (unhide HR2) (by decide) (by decide) (by decide) (by decide) ?_) (bl1 _ _)).base hs1
    repeat (first | exact gb_refl _ _ | refine gb_set ?_ _ _)
  · refine bl_alloc ?_ _
    repeat (first | exact hb0 | refine bl_set ?_ (by simp <;> omega) _)
end Go.Proofs.Ytkcakecmhoamaaa
