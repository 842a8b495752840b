/- dev.Get and icehouseref.GetOf. -/
import Derived.Test.YtdalkkjojflakaaFlt
import Derived.Test.YtdalkkjojflakaaJoi
namespace Go.Proofs.Ytdalkkjojflakaa
open Go.RowKit
set_option linter.unusedVariables false
set_option linter.unusedSimpArgs false

/-- The last place of so many for which it holds; -1: none. -/
def lastI : Nat → (Nat → Bool) → Int
  | 0, _ => -1
  | n + 1, p => if p n then n else lastI n p
theorem lastI_t {n : Nat} {p : Nat → Bool} (h : p n = true) : lastI (n + 1) p = n := by simp [lastI, h]
theorem lastI_f {n : Nat} {p : Nat → Bool} (h : p n = false) : lastI (n + 1) p = lastI n p := by simp [lastI, h]
theorem lastI_cut {n k : Nat} {p : Nat → Bool} (hk : k ≤ n) (h : ∀ j, k ≤ j → j < n → p j = false) : lastI n p = lastI k p := by
  induction n with
  | zero => obtain rfl : k = 0 := by omega
            rfl
  | succ n ih =>
    by_cases e : k = n + 1
    · rw [e]
    · rw [lastI_f (h n (by omega) (by omega))]
      exact ih (by omega) fun j h1 h2 => h j h1 (by omega)
theorem lastI_lt (n : Nat) (p : Nat → Bool) : -1 ≤ lastI n p ∧ lastI n p < n := by
  induction n with
  | zero => simp [lastI]
  | succ n ih =>
    cases h : p n
    · rw [lastI_f h]; omega
    · rw [lastI_t h]; omega

def posIs (D : Dv) (x : Int) (i : Nat) : Bool := (D.cache.getD i ⟨0, []⟩).pos == x
/-- What a sector holds when the first k writes of the cache are looked at. -/
def seen (D : Dv) (x : Int) (k : Nat) : List Int := if 0 ≤ lastI k (posIs D x) then (D.cache.getD (lastI k (posIs D x)).toNat ⟨0, []⟩).data else D.safe.getD x.toNat []
def getL (D : Dv) (x : Int) : List Int := seen D x D.cache.length
/-- ErrRange for a place that is none. -/
def atE (D : Dv) (x e : Int) : Int := if e = 0 then (if inB x 0 ((D.safe.length : Int) - 1) then 0 else 2) else e

theorem chk_of {r a h vm nv : Int} {D : Dv} (h0 : chkE r a h vm nv D = 0) : geoB r a h vm nv = true ∧ devB r a h vm nv D = true := by
  unfold chkE at h0
  cases hg : geoB r a h vm nv <;> simp [hg] at h0
  cases hd : devB r a h vm nv D <;> simp [hd] at h0
  exact ⟨rfl, rfl⟩
end Go.Proofs.Ytdalkkjojflakaa
