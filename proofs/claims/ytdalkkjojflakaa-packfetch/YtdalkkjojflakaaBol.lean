/- Lists of truths; what a crash answers. -/
import Derived.Test.YtdalkkjojflakaaFlC
import Derived.Test.YtdalkkjojflakaaMkC
import Derived.Test.YtdalkkjojflakaaApp
namespace Go.Proofs.Ytdalkkjojflakaa
open Go.RowKit
set_option maxRecDepth 100000
set_option linter.unusedVariables false
set_option linter.unusedSimpArgs false

theorem infoBool : (Try.prog.info? 4).map (fun i => (i.zero, i.size, i.bytes)) = some (some (.bool false), 1, 1) := by kernel_rfl
/-- A slice value of truths. -/
def Bls (w : World) (v : Value) (ks : List Bool) : Prop :=
  ∃ a cap, v = .slice a ks.length cap ∧ ks.length ≤ cap ∧ cap ≤ maxLen ∧ ∀ i, i < ks.length → ∃ b o, a = some ⟨b, o, none⟩ ∧ w.cell? ⟨b, o + i, none⟩ = some (.bool (ks.getD i false))
theorem Bls.up {w w' : World} {v : Value} {ks : List Bool} (h : Bls w v ks) (hb : Below w.heap.size w w') : Bls w' v ks := by
  obtain ⟨a, cap, rfl, h1, h2, h3⟩ := h
  refine ⟨a, cap, rfl, h1, h2, fun i hi => ?_⟩
  obtain ⟨b, o, e, hc⟩ := h3 i hi
  exact ⟨b, o, e, cell_up hb hc⟩
def bls (ks : List Bool) : List Value := ks.map Value.bool
theorem bls_length (ks : List Bool) : (bls ks).length = ks.length := by simp [bls]
theorem Bls.own {w : World} {B : Nat} {v : Value} {ks : List Bool} (h : w.ownsRow B 4 1 v ks.length (bls ks)) : Bls w v ks := by
  obtain ⟨a, cap, rfl, h1, h2⟩ := own_form h
  refine ⟨a, cap, rfl, h1, h2, fun i hi => ?_⟩
  obtain ⟨g, cap', e, hc⟩ := own_cell h (j := i) (u := .bool (ks.getD i false)) (by simp [bls, List.getD, hi])
  simp at e
  obtain ⟨rfl, rfl⟩ := e
  exact ⟨g, 0, rfl, by rw [Nat.zero_add]; exact hc⟩
/-- What a crash answers. -/
def keepF (ks : List Bool) (i : Nat) : Bool := ks.getD i false
def craN (tail : Int) (y : Vo) : Nat := (y.synced + min tail ((y.data.length : Int) - y.synced)).toNat
def craE (tail e : Int) : Int := if e = 0 then (if tail < 0 then 2 else 0) else e
def craD (ks : List Bool) (tail : Int) (D : Dv) (e : Int) : Dv := if e = 0 then ⟨settled (keepF ks) D.safe D.cache D.cache.length, [], D.vols.map (cutV (craN tail)), -1⟩ else nilD
theorem craE_bad {tail e : Int} (h : e ≠ 0) : craE tail e = e := by simp [craE, h]
theorem craE_no {tail : Int} (h : tail < 0) : craE tail 0 = 2 := by simp [craE, h]
theorem craE_ok {tail : Int} (h : ¬ tail < 0) : craE tail 0 = 0 := by simp [craE, h]
theorem craD_bad {ks : List Bool} {tail : Int} {D : Dv} {e : Int} (h : e ≠ 0) : craD ks tail D e = nilD := by simp [craD, h]
theorem craD_ok {ks : List Bool} {tail : Int} {D : Dv} : craD ks tail D 0 = ⟨settled (keepF ks) D.safe D.cache D.cache.length, [], D.vols.map (cutV (craN tail)), -1⟩ := by simp [craD]
/-- Volumes that may be. -/
def VolsOk (D : Dv) : Prop := ∀ i, i < D.vols.length → 0 ≤ (D.vols.getD i vo0).synced ∧ (D.vols.getD i vo0).synced ≤ ((D.vols.getD i vo0).data.length : Int)
theorem volsOk_of {r a h vm nv : Int} {D : Dv} (hd : devB r a h vm nv D = true) : VolsOk D := fun i hi => by
  have := (devB_all hd).2.2.2.2.2.2 i hi
  unfold volB at this
  simp only [Bool.and_eq_true] at this
  exact inB_t this.2
theorem craN_int {tail : Int} {y : Vo} (ht : ¬ tail < 0) (h0 : 0 ≤ y.synced) (h1 : y.synced ≤ (y.data.length : Int)) : (craN tail y : Int) = y.synced + min tail ((y.data.length : Int) - y.synced) := by
  unfold craN; omega
theorem craN_le {tail : Int} {y : Vo} (ht : ¬ tail < 0) (h0 : 0 ≤ y.synced) (h1 : y.synced ≤ (y.data.length : Int)) : craN tail y ≤ y.data.length := by
  unfold craN; omega
end Go.Proofs.Ytdalkkjojflakaa
