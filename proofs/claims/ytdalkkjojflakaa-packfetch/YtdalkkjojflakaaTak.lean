/- dev.Take and the document's TookOf. -/
import Derived.Test.YtdalkkjojflakaaOwn
import Derived.Test.YtdalkkjojflakaaFet
namespace Go.Proofs.Ytdalkkjojflakaa
open Go.RowKit
set_option linter.unusedVariables false
set_option linter.unusedSimpArgs false

/-- What taking a volume away answers. -/
def takE (D : Dv) (x e : Int) : Int := if e = 0 then (if isVol D x then (if D.fuel = 0 then 10 else 0) else 6) else e
def takD (D : Dv) (x e : Int) : Dv := if e = 0 then ⟨D.safe, D.cache, D.vols.set x.toNat ⟨[], 0, true⟩, lessF D.fuel⟩ else nilD
theorem takE_bad {D : Dv} {x e : Int} (h : e ≠ 0) : takE D x e = e := by simp [takE, h]
theorem takE_no {D : Dv} {x : Int} (h : isVol D x = false) : takE D x 0 = 6 := by simp [takE, h]
theorem takE_down {D : Dv} {x : Int} (h : isVol D x = true) (hf : D.fuel = 0) : takE D x 0 = 10 := by simp [takE, h, hf]
theorem takE_ok {D : Dv} {x : Int} (h : isVol D x = true) (hf : D.fuel ≠ 0) : takE D x 0 = 0 := by simp [takE, h, hf]
theorem takD_bad {D : Dv} {x e : Int} (h : e ≠ 0) : takD D x e = nilD := by simp [takD, h]
theorem takD_ok (D : Dv) (x : Int) : takD D x 0 = ⟨D.safe, D.cache, D.vols.set x.toNat ⟨[], 0, true⟩, lessF D.fuel⟩ := by simp [takD]
theorem isVol_t {D : Dv} {x : Int} (h : isVol D x = true) : ∃ k : Nat, x = k ∧ k < D.vols.length := by
  unfold isVol at h
  simp only [Bool.and_eq_true] at h
  have := inB_t h.1
  exact ⟨x.toNat, by omega, by omega⟩
theorem fuel_of {r a h vm nv : Int} {D : Dv} (hd : devB r a h vm nv D = true) : -1 ≤ D.fuel ∧ D.fuel ≤ 1048576 := by
  obtain ⟨x1, x2, x3, x4, x5, x6, x7⟩ := devB_all hd
  first | exact x4 | exact inB_t x4

theorem oneThing_o (s c v : Value) (D : Dv) (w : World) (hD : Dev w s c v D) (hfit : Fits D) (hF : D.fuel ≠ 0) (hlo : -1 ≤ D.fuel) (hhi : D.fuel ≤ 1048576) :
    Calls Try.prog 39 #[.agg #[s, c, v, .int .i64 D.fuel]] w fun e w' =>
      ∃ s' c' v', e = .returned (.tuple #[.agg #[s', c', v', .int .i64 (lessF D.fuel)], .int .i64 0]) ∧ ODev w' w.heap.size s' c' v' D ∧ Below w.heap.size w w' :=
  (oneThing_some s c v D w hD hfit hF hlo hhi).mono fun e w' ⟨s', c', v', M, h1, h2, h3⟩ => ⟨s', c', v', h1, h2.odev hfit, h3⟩

end Go.Proofs.Ytdalkkjojflakaa
