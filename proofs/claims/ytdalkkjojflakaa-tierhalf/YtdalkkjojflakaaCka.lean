/- state's small checks: of what was given up, of buckets; the places of buckets, versions and volumes. -/
import Derived.Test.YtdalkkjojflakaaRis
import Derived.Test.YtdalkkjojflakaaEvr
import Derived.Test.YtdalkkjojflakaaRul
namespace Go.Proofs.Ytdalkkjojflakaa
open Go.RowKit
set_option maxRecDepth 100000
set_option linter.unusedVariables false
set_option linter.unusedSimpArgs false
theorem both_ways {b : Bool} {P : Prop} (h : b = true → P) (k : b = false → P) : P := by cases b; exact k rfl; exact h rfl
/-- Go's order of texts. -/
def ltS (a b : ByteArray) : Bool := Op.bytesLess a.toList b.toList
def eqS (a b : ByteArray) : Bool := a.toList == b.toList
theorem goneMayBe_1 (X Y : Int) (w : World) : Calls Try.prog 83 #[.int .i64 X, .int .i64 Y] w fun e w' => e = .returned (.bool (decide (X < Y))) ∧ Below w.heap.size w w' := by
  go_enter Try.func83, Try.ntmps83
  go_wp2
  go_ret
  exact ⟨rfl, Below.refl _ _⟩
theorem goneMayBe_2 (X : Int) (w : World) : Calls Try.prog 85 #[.int .i64 X] w fun e w' => e = .returned (.bool (inB X 0 7)) ∧ Below w.heap.size w w' := by
  go_enter Try.func85, Try.ntmps85
  go_wp2_with fail
  refine (within_any _ _ _ _).mono ?_
  rintro e w1 ⟨rfl, rfl⟩
  go_wp2
  go_ret
  exact ⟨rfl, Below.refl _ _⟩
def goneP (g : List Int) (i : Nat) : Bool := decide (g.getD i 0 < g.getD (i + 1) 0)
def goneQ (g : List Int) (i : Nat) : Bool := inB (g.getD i 0) 0 7
def goneC (g : List Int) : Bool := decide ((g.length : Int) ≤ 8) && allB (g.length - 1) (goneP g) && allB g.length (goneQ g)
theorem goneMayBe_any (gv : Value) (g : List Int) (w : World) (hG : Ints w gv g) : Calls Try.prog 62 #[gv] w fun e w' => e = .returned (.bool (goneC g)) ∧ Below w.heap.size w w' := by
  obtain ⟨a, cap, rfl, h1, h2⟩ := hG.form
  unfold maxLen at h2
  have HG := hide hG
  clear hG
  by_cases hl : (g.length : Int) ≤ 8
  · have HC : Hid (goneC g = (allB (g.length - 1) (goneP g) && allB g.length (goneQ g))) := by show _ = _; unfold goneC; rw [decide_eq_true hl, Bool.true_and]
    go_enter Try.func62, Try.ntmps62
    go_wp2_with fail
    refine (rise_goneMayBe_1 a cap g (goneP g) _ (unhide HG) (by omega) (fun k wr X Y h e1 e2 => by subst e1 e2; exact goneMayBe_1 _ _ _)).mono ?_
    rintro e w1 ⟨rfl, hb⟩
    cases hr : allB (g.length - 1) (goneP g)
    · go_wp2
      go_ret
      exact ⟨ret_bool (by rw [unhide HC, hr]; rfl), hb⟩
    · go_wp2_with fail
      refine (every_goneMayBe_2 a cap g (goneQ g) (fun _ wr => Below w.heap.size w wr) (fun wr => Below w.heap.size w wr) _ (by omega) (fun k wr hk hb => Lst.at (Ints.up hb (unhide HG)) hk) (fun _ _ _ x y => bl_trans x y) hb (fun k wr X hk e hI hw => by subst e; exact (goneMayBe_2 _ _).mono fun _ _ ⟨x, y⟩ => ⟨x, fun _ => bl_trans hI y, fun _ => bl_trans hI y⟩)).mono ?_
      rintro e w2 ⟨rfl, hy, hn⟩
      have hb2 := both_ways hy hn
      clear hy hn
      have HR := hide hr
      clear hr
      go_wp2
      go_ret
      exact ⟨ret_bool (by rw [unhide HC, unhide HR]; rfl), hb2⟩
  · have HC : Hid (goneC g = false) := by show _ = _; unfold goneC; rw [decide_eq_false hl]; rfl
    go_enter Try.func62, Try.ntmps62
    go_wp2
    go_ret
    exact ⟨ret_bool (unhide HC).symm, Below.refl _ _⟩
theorem findBucket_1 (X : Bu) (nm : ByteArray) (B : Nat) (w : World) (h : w.cell? ⟨B, 0, none⟩ = some (.string nm)) : Calls Try.prog 137 #[buV X, .pointer (some ⟨B, 0, none⟩)] w fun e w' => e = .returned (.bool (eqS X.nam nm)) ∧ Below w.heap.size w w' := by
  have hB := World.block_lt_of_cell? w _ h
  simp at hB
  go_enter Try.func137, Try.ntmps137
  go_wp2
  go_ret
  exact ⟨rfl, bl1 _ _⟩
theorem findVersion_1 (X : Ve) (ua : Option Addr) (un uc : Nat) (n : Int) (B : Nat) (w : World) (h : w.cell? ⟨B, 0, none⟩ = some (.int .i64 n)) : Calls Try.prog 129 #[veV X (.slice ua un uc), .pointer (some ⟨B, 0, none⟩)] w fun e w' => e = .returned (.bool (X.id == n)) ∧ Below w.heap.size w w' := by
  have hB := World.block_lt_of_cell? w _ h
  simp at hB
  go_enter Try.func129, Try.ntmps129
  go_wp2
  go_ret
  exact ⟨rfl, bl1 _ _⟩
theorem findGone_1 (X n : Int) (B : Nat) (w : World) (h : w.cell? ⟨B, 0, none⟩ = some (.int .i64 n)) : Calls Try.prog 138 #[.int .i64 X, .pointer (some ⟨B, 0, none⟩)] w fun e w' => e = .returned (.bool (X == n)) ∧ Below w.heap.size w w' := by
  go_enter Try.func138, Try.ntmps138
  go_wp2
  go_ret
  exact ⟨rfl, Below.refl _ _⟩
def buP (l : List Bu) (nm : ByteArray) (i : Nat) : Bool := eqS (l.getD i bu0).nam nm
def veP (l : List Ve) (n : Int) (i : Nat) : Bool := (l.getD i ve0).id == n
def goP (l : List Int) (n : Int) (i : Nat) : Bool := l.getD i 0 == n
theorem findBucket_any (S : St) (b v u q g : Value) (nm : ByteArray) (w : World) (hB : Lst RBu 5 bu0 w b S.bus) :
    Calls Try.prog 122 #[stV S b v u q g, .string nm] w fun e w' => e = .returned (.int .i64 (firstI S.bus.length (buP S.bus nm))) ∧ Below w.heap.size w w' := by
  obtain ⟨a, cap, rfl, h1, h2⟩ := hB.form
  unfold maxLen at h2
  have HB := hide hB
  clear hB
  go_enter Try.func122, Try.ntmps122
  go_wp2_with fail
  refine (index_findBucket_1 _ a cap S.bus (buP S.bus nm) _ ((unhide HB).imp fun _ _ _ r => RBu.up (bl_alloc (bl1 _ _) _) r) (by omega) (fun k wr X hk e hI => by subst e; exact findBucket_1 _ nm _ _ (by rw [hI.cell (by simp)]; simp [World.cell?_alloc_at]))).mono ?_
  rintro e w1 ⟨rfl, hb⟩
  go_wp2
  go_ret
  exact ⟨rfl, bl_trans (bl_alloc (bl1 _ _) _) hb⟩
end Go.Proofs.Ytdalkkjojflakaa
