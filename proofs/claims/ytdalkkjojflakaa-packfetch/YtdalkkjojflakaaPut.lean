/- dev.Put. -/
import Derived.Test.YtdalkkjojflakaaTak
import Derived.Test.YtdalkkjojflakaaOwn2
import Derived.Deep.DrawnRows
import Derived.Deep.RegionHeldLaw
namespace Go.Proofs.Ytdalkkjojflakaa
open Go.RowKit
set_option linter.unusedVariables false
set_option linter.unusedSimpArgs false

/-- What putting a sector answers. -/
def putE (D : Dv) (x : Int) (L : Nat) (e : Int) : Int := if e = 0 then (if inB x 0 ((D.safe.length : Int) - 1) then (if 64 < L then 1 else if 2000 ≤ D.cache.length then 8 else if D.fuel = 0 then 10 else 0) else 2) else e
def putD (D : Dv) (x : Int) (xs : List Int) (e : Int) : Dv := if e = 0 then ⟨D.safe, D.cache ++ [⟨x, pad 64 xs⟩], D.vols, lessF D.fuel⟩ else nilD
theorem putE_bad {D : Dv} {x : Int} {L : Nat} {e : Int} (h : e ≠ 0) : putE D x L e = e := by simp [putE, h]
theorem putE_at {D : Dv} {x : Int} {L : Nat} (h : inB x 0 ((D.safe.length : Int) - 1) = false) : putE D x L 0 = 2 := by simp [putE, h]
theorem putE_size {D : Dv} {x : Int} {L : Nat} (h : inB x 0 ((D.safe.length : Int) - 1) = true) (hL : 64 < L) : putE D x L 0 = 1 := by simp [putE, h, hL]
theorem putE_full {D : Dv} {x : Int} {L : Nat} (h : inB x 0 ((D.safe.length : Int) - 1) = true) (hL : ¬ 64 < L) (hc : 2000 ≤ D.cache.length) : putE D x L 0 = 8 := by simp [putE, h, hL, hc]
theorem putE_down {D : Dv} {x : Int} {L : Nat} (h : inB x 0 ((D.safe.length : Int) - 1) = true) (hL : ¬ 64 < L) (hc : ¬ 2000 ≤ D.cache.length) (hf : D.fuel = 0) : putE D x L 0 = 10 := by simp [putE, h, hL, hc, hf]
theorem putE_ok {D : Dv} {x : Int} {L : Nat} (h : inB x 0 ((D.safe.length : Int) - 1) = true) (hL : ¬ 64 < L) (hc : ¬ 2000 ≤ D.cache.length) (hf : D.fuel ≠ 0) : putE D x L 0 = 0 := by simp [putE, h, hL, hc, hf]
theorem putD_bad {D : Dv} {x : Int} {xs : List Int} {e : Int} (h : e ≠ 0) : putD D x xs e = nilD := by simp [putD, h]
theorem putD_ok (D : Dv) (x : Int) (xs : List Int) : putD D x xs 0 = ⟨D.safe, D.cache ++ [⟨x, pad 64 xs⟩], D.vols, lessF D.fuel⟩ := by simp [putD]
theorem cache_of {r a h vm nv : Int} {D : Dv} (hd : devB r a h vm nv D = true) : D.cache.length ≤ 2000 := by
  obtain ⟨x1, x2, x3, x4, x5, x6, x7⟩ := devB_all hd
  omega

theorem bl_own {a b c : World} (h : Below a.heap.size a b) {r : Option Nat} (k : b.grownBy c r) (hr : ∀ j, r = some j → a.heap.size ≤ j) : Below a.heap.size a c :=
  ⟨k.os.trans h.os, k.tape.trans h.tape, k.output.trans h.output, Nat.le_trans h.size k.size, fun i hi => (k.block i (Nat.lt_of_lt_of_le hi h.size) (fun e => absurd (hr i e.symm) (Nat.not_le.2 hi))).trans (h.block i hi)⟩
attribute [local go_sem ↓] Go.wp_at_zero Go.wp_at_succ
end Go.Proofs.Ytdalkkjojflakaa
