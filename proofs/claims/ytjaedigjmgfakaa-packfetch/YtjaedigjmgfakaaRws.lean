/- Raw things as plain lists; devices that may be. -/
import Derived.Test.YtjaedigjmgfakaaKd
namespace Go.Proofs.Ytjaedigjmgfakaa
open Go.RowKit
set_option maxRecDepth 100000
set_option linter.unusedVariables false
set_option linter.unusedSimpArgs false
structure Rw where
  kind : Int
  a : Int
  b : Int
  c : Int
  d : Int
  text : ByteArray
def rw0 : Rw := ⟨0, 0, 0, 0, 0, .empty⟩
structure RwAt (w : World) (b p : Nat) (x : Rw) : Prop where
  c0 : w.cell? ⟨b, p, none⟩ = some (.int .i64 x.kind)
  c1 : w.cell? ⟨b, p + 1, none⟩ = some (.int .i64 x.a)
  c2 : w.cell? ⟨b, p + 2, none⟩ = some (.int .i64 x.b)
  c3 : w.cell? ⟨b, p + 3, none⟩ = some (.int .i64 x.c)
  c4 : w.cell? ⟨b, p + 4, none⟩ = some (.int .i64 x.d)
  c5 : w.cell? ⟨b, p + 5, none⟩ = some (.string x.text)
  s : x.text.size ≤ maxLen
  k0 : -9223372036854775808 ≤ x.kind ∧ x.kind ≤ 9223372036854775807
  a0 : -9223372036854775808 ≤ x.a ∧ x.a ≤ 9223372036854775807
  bb0 : -9223372036854775808 ≤ x.b ∧ x.b ≤ 9223372036854775807
  cc0 : -9223372036854775808 ≤ x.c ∧ x.c ≤ 9223372036854775807
  dd0 : -9223372036854775808 ≤ x.d ∧ x.d ≤ 9223372036854775807
def Raws (w : World) (v : Value) (xs : List Rw) : Prop :=
  ∃ a cap, v = .slice a xs.length cap ∧ xs.length ≤ cap ∧ cap ≤ maxLen ∧ ∀ i, i < xs.length → ∃ b o, a = some ⟨b, o, none⟩ ∧ RwAt w b (o + i * 6) (xs.getD i rw0)
theorem RwAt.up {w w' : World} {b p : Nat} {x : Rw} (h : RwAt w b p x) (hb : Below w.heap.size w w') : RwAt w' b p x :=
  ⟨cell_up hb h.c0, cell_up hb h.c1, cell_up hb h.c2, cell_up hb h.c3, cell_up hb h.c4, cell_up hb h.c5, h.s, h.k0, h.a0, h.bb0, h.cc0, h.dd0⟩
theorem Raws.up {w w' : World} {v : Value} {xs : List Rw} (h : Raws w v xs) (hb : Below w.heap.size w w') : Raws w' v xs := by
  obtain ⟨a, cap, e, h1, h2, h3⟩ := h
  refine ⟨a, cap, e, h1, h2, fun i hi => ?_⟩
  obtain ⟨b, o, e, hc⟩ := h3 i hi
  exact ⟨b, o, e, hc.up hb⟩
theorem Raws.at {w : World} {a : Option Addr} {n cap : Nat} {xs : List Rw} (h : Raws w (.slice a n cap) xs) (i : Nat) (hi : i < xs.length) : ∃ b o, a = some ⟨b, o, none⟩ ∧ RwAt w b (o + i * 6) (xs.getD i rw0) := by
  obtain ⟨a', cap', e, h1, h2, h3⟩ := h
  simp at e
  obtain ⟨rfl, _⟩ := e
  exact h3 i hi
/-- Devices that may be, and how many things wait. -/
structure DvI (D : Dv) (m : Nat) : Prop where
  ok : DOk 6 2 6 300 3 D
  fu : D.fuel = -1
  nc : D.cache.length ≤ m
theorem DvI.zero : DvI tD0 0 := ⟨tOk0, rfl, Nat.le_refl _⟩
theorem DvI.more {D : Dv} {m m' : Nat} (h : DvI D m) (hm : m ≤ m') : DvI D m' := ⟨h.ok, h.fu, Nat.le_trans h.nc hm⟩
theorem DvI.ns {D : Dv} {m : Nat} (h : DvI D m) : D.safe.length = 18 := by have := h.ok.ns; omega
theorem DvI.chk {D : Dv} {m : Nat} (h : DvI D m) : chkE 6 2 6 300 3 D = 0 := chk_ok geoS h.ok
section
variable {D : Dv} {m : Nat} (h : DvI D m) (hm : m < 1000)
include h
theorem DvI.f0 : D.fuel ≠ 0 := by rw [h.fu]; decide
theorem DvI.fl : lessF D.fuel = -1 := by rw [h.fu]; rfl
theorem DvI.fluE : marE D (chkE 6 2 6 300 3 D) = 0 := by rw [h.chk]; exact marE_ok h.f0
theorem DvI.flu : DvI (fluD D 0) (m + 1) := ⟨h.ok.flu h.f0, by rw [fluD_ok]; exact h.fl, by rw [fluD_ok]; simp⟩
theorem DvI.mar : DvI (marD D 0) (m + 1) := ⟨h.ok.mar h.f0, by rw [marD_ok]; exact h.fl, by rw [marD_ok]; exact Nat.le_succ_of_le h.nc⟩
theorem DvI.app {x : Int} {xs : List Int} (he : appE 300 3 D x xs.length (chkE 6 2 6 300 3 D) = 0) : DvI (appD 3 D x xs 0) (m + 1) := by
  rw [h.chk] at he
  exact ⟨h.ok.app he (by decide), by rw [appD_ok]; exact h.fl, by rw [appD_ok]; exact Nat.le_succ_of_le h.nc⟩
theorem DvI.at {x : Int} (h0 : 0 ≤ x) (h1 : x < 18) : inB x 0 ((D.safe.length : Int) - 1) = true := by rw [h.ns]; simp [inB]; omega
include hm
theorem DvI.putE {x : Int} {L : Nat} (h0 : 0 ≤ x) (h1 : x < 18) (hL : L ≤ 64) : putE D x L (chkE 6 2 6 300 3 D) = 0 := by
  rw [h.chk]; exact putE_ok (h.at h0 h1) (by omega) (by have := h.nc; omega) h.f0
theorem DvI.put {x : Int} {xs : List Int} (h0 : 0 ≤ x) (h1 : x < 18) : DvI (putD D x xs 0) (m + 1) := by
  refine ⟨h.ok.put (h.at h0 h1) (by have := h.nc; omega) h.f0, by rw [putD_ok]; exact h.fl, ?_⟩
  rw [putD_ok]; simp; exact h.nc
end
theorem cut_sixty (s : ByteArray) (hs : s.size ≤ maxLen) : ∃ (N M : Nat) (T : ByteArray), s.size = N ∧ N ≤ 9223372036854775807 ∧ (if (64 : Int) < (N : Int) then (64 : Int) else (N : Int)) = (M : Int) ∧ M ≤ 64 ∧ M ≤ N ∧ s.extract 0 M = T ∧ T.size = M := by
  unfold maxLen at hs
  refine ⟨s.size, min s.size 64, _, rfl, by omega, by split <;> omega, by omega, by omega, rfl, by simp⟩
end Go.Proofs.Ytjaedigjmgfakaa
