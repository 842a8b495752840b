/- dev.Fetch and icehouseref.FetchedOf. -/
import Derived.Test.YtjahaccplchmnaaGet2
namespace Go.Proofs.Ytjahaccplchmnaa
open Go.RowKit
set_option linter.unusedVariables false
set_option linter.unusedSimpArgs false

/-- A volume that there is, and that was not taken away. -/
def isVol (D : Dv) (x : Int) : Bool := inB x 0 ((D.vols.length : Int) - 1) && !(D.vols.getD x.toNat ⟨[], 0, false⟩).gone

theorem Bts.cut {w : World} {a : Option Addr} {L cap : Nat} {xs : List Int} (h : Bts w (.slice a L cap) xs) {x y : Nat} (hxy : x ≤ y) (hy : y ≤ L) : Bts w (.slice (if cap = x then a else a.map (fun p => p.add x)) (y - x) (cap - x)) ((xs.take y).drop x) := by
  obtain ⟨a', cap', e, l1, m1, hc⟩ := h
  simp at e
  obtain ⟨rfl, rfl, rfl⟩ := e
  have hl : ((xs.take y).drop x).length = y - x := by simp; omega
  refine ⟨_, cap - x, by rw [hl], by rw [hl]; omega, by omega, fun i hi => ?_⟩
  rw [hl] at hi
  obtain ⟨b, o, rfl, hcell⟩ := hc (x + i) (by omega)
  rw [if_neg (by omega)]
  refine ⟨b, o + x, ?_, ?_⟩
  · simp only [Option.map]
    congr 1
    unfold Addr.add; split <;> simp_all
  · rw [Nat.add_assoc, hcell]
    congr 2
    simp [List.getD, List.getElem?_drop, List.getElem?_take, show x + i < y by omega]

theorem pad_take {m : Nat} {xs : List Int} (h : m ≤ xs.length) : pad m xs = xs.take m := by
  unfold pad; rw [show m - xs.length = 0 by omega]; simp
/-- What a fetch answers. -/
def fetE (D : Dv) (x p n e : Int) : Int :=
  if e = 0 then (if isVol D x then (if inB p 0 (D.vols.getD x.toNat ⟨[], 0, false⟩).data.length && inB n 0 ((D.vols.getD x.toNat ⟨[], 0, false⟩).data.length - p) then 0 else 2) else 6) else e
def fetL (D : Dv) (x p n : Int) : List Int := (((D.vols.getD x.toNat ⟨[], 0, false⟩).data).drop p.toNat).take n.toNat
theorem fetE_bad {D : Dv} {x p n e : Int} (h : e ≠ 0) : fetE D x p n e = e := by simp [fetE, h]
theorem fetE_none {D : Dv} {x p n : Int} (h : isVol D x = false) : fetE D x p n 0 = 6 := by simp [fetE, h]
theorem fetE_out {D : Dv} {x p n : Int} (h : isVol D x = true) (h2 : (inB p 0 (D.vols.getD x.toNat ⟨[], 0, false⟩).data.length && inB n 0 ((D.vols.getD x.toNat ⟨[], 0, false⟩).data.length - p)) = false) : fetE D x p n 0 = 2 := by
  unfold fetE; rw [if_pos rfl, if_pos h, h2]; rfl
theorem fetE_in {D : Dv} {x p n : Int} (h : isVol D x = true) (h2 : (inB p 0 (D.vols.getD x.toNat ⟨[], 0, false⟩).data.length && inB n 0 ((D.vols.getD x.toNat ⟨[], 0, false⟩).data.length - p)) = true) : fetE D x p n 0 = 0 := by
  unfold fetE; rw [if_pos rfl, if_pos h, h2]; rfl
theorem isVol_in {D : Dv} {x : Int} (h : isVol D x = true) : 0 ≤ x ∧ x < D.vols.length := by
  unfold isVol at h
  rw [Bool.and_eq_true] at h
  have := inB_t h.1
  omega
theorem volB_len {vm L sy : Int} {go : Bool} (hvm : 0 ≤ vm) (h : volB vm L sy go = true) : L ≤ vm := by
  cases go <;> simp [volB, inB] at h <;> omega

end Go.Proofs.Ytjahaccplchmnaa
