/- dev.Flush. -/
import Derived.Test.YtdalkkjojflakaaSet
import Derived.Test.YtdalkkjojflakaaPut
namespace Go.Proofs.Ytdalkkjojflakaa
open Go.RowKit
set_option maxRecDepth 100000
set_option linter.unusedVariables false
set_option linter.unusedSimpArgs false

/-- Devices without a cache, out of sectors in blocks of their own. -/
theorem ODev.ofSec {w : World} {B M gs gv : Nat} {us uv : List Value} {xs : List (List Int)} {g : Nat → Nat} {vs : List Vo} {n nv : Nat} (f : Int) (hs : Row w gs 24 us) (hgs : B ≤ gs) (hsec : Sec w B M us xs g n) (hn : xs.length = n) (h64 : ∀ i, i < n → (xs.getD i []).length = 64) (hnm : n ≤ maxLen)
    (hv : Row w gv 79 uv) (hgv : B ≤ gv) (hvi : VosIn w M uv vs) (hnv : vs.length = nv) (hvm : nv ≤ maxLen) (hle : B ≤ M) : ODev w B (.slice (some ⟨gs, 0, none⟩) n n) (.slice none 0 0) (.slice (some ⟨gv, 0, none⟩) nv nv) ⟨xs, [], vs, f⟩ := by
  subst hn
  subst hnv
  exact ⟨⟨us, own_row (size := 1) hs (by rw [hsec.len, Nat.mul_one]) hnm hgs, hsec.len, fun i hi => ⟨_, hsec.pos i hi, (hsec.blk i hi).own (by rw [h64 i hi]; decide) (hsec.lo i hi)⟩⟩, ⟨[], World.ownsRow_nil _ _ _ _, rfl, fun i hi => absurd hi (Nat.not_lt_zero _)⟩, ⟨uv, own_row (size := 3) hv hvi.1 hvm hgv, hvi.imp fun _ _ q => q.base hle⟩⟩

end Go.Proofs.Ytdalkkjojflakaa
