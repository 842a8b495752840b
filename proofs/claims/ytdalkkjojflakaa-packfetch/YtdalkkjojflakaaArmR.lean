/- icehouseref.ArmedOf. -/
import Derived.Test.YtdalkkjojflakaaGet2
import Derived.Test.YtdalkkjojflakaaDCp
namespace Go.Proofs.Ytdalkkjojflakaa
open Go.RowKit
set_option linter.unusedVariables false
set_option linter.unusedSimpArgs false

theorem fits_of {r a h vm nv : Int} {D : Dv} (hg : geoB r a h vm nv = true) (hd : devB r a h vm nv D = true) : Fits D := by
  obtain ⟨x1, x2, x3, _, x5, x6, x7⟩ := devB_all hd
  have hb := geoB_bd hg
  refine ⟨by omega, by omega, by omega, fun i hi => by rw [x5 i hi]; decide, fun i hi => by rw [(x6 i hi).2]; decide, fun i hi => ?_⟩
  have h7 := x7 i hi
  generalize (D.vols.getD i ⟨[], 0, false⟩).gone = go at h7
  generalize (D.vols.getD i ⟨[], 0, false⟩).data.length = L at h7 ⊢
  have : (L : Int) ≤ vm := by cases go <;> simp [volB, inB] at h7 <;> omega
  omega
/-- What arming answers. -/
def armE (f e : Int) : Int := if e = 0 then (if inB f 0 1048576 then 0 else 2) else e
def nilD : Dv := ⟨[], [], [], 0⟩
def armD (D : Dv) (f e : Int) : Dv := if e = 0 then ⟨D.safe, D.cache, D.vols, f⟩ else nilD
theorem armE_bad {f e : Int} (h : e ≠ 0) : armE f e = e := by simp [armE, h]
theorem armE_f {f : Int} (h : inB f 0 1048576 = false) : armE f 0 = 2 := by simp [armE, h]
theorem armE_t {f : Int} (h : inB f 0 1048576 = true) : armE f 0 = 0 := by simp [armE, h]
theorem armD_bad {D : Dv} {f e : Int} (h : e ≠ 0) : armD D f e = nilD := by simp [armD, h]
theorem armD_ok (D : Dv) (f : Int) : armD D f 0 = ⟨D.safe, D.cache, D.vols, f⟩ := by simp [armD]
theorem box3r {w w1 : World} {c0 c1 : Array Value} {cs : List Value} {t0 t1 t2 : TypeId} (hb : Below (((w.alloc (.cells c0 t0)).alloc (.cells c1 t1)).alloc (.cells cs.toArray t2)).heap.size (((w.alloc (.cells c0 t0)).alloc (.cells c1 t1)).alloc (.cells cs.toArray t2)) w1) : Row w1 (w.heap.size + 1 + 1) t2 cs := by
  have := (Row.new ((w.alloc (.cells c0 t0)).alloc (.cells c1 t1)) t2 cs).up hb
  simpa using this
/-- Another fuel. -/
theorem ODev.fuel {w : World} {B : Nat} {s c v : Value} {D : Dv} (h : ODev w B s c v D) (f : Int) : ODev w B s c v ⟨D.safe, D.cache, D.vols, f⟩ := ⟨h.safe, h.cache, h.vols⟩

end Go.Proofs.Ytdalkkjojflakaa
