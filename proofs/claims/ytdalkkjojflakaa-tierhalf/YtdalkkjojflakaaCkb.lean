/- state's checks of buckets, parts, uploads and versions, each by itself. -/
import Derived.Test.YtdalkkjojflakaaCka
namespace Go.Proofs.Ytdalkkjojflakaa
open Go.RowKit
set_option maxRecDepth 100000
set_option linter.unusedVariables false
set_option linter.unusedSimpArgs false
theorem findVersion_any (S : St) (b v u q g : Value) (n : Int) (w : World) (hB : Lst RVe 12 ve0 w v S.ves) :
    Calls Try.prog 107 #[stV S b v u q g, .int .i64 n] w fun e w' => e = .returned (.int .i64 (firstI S.ves.length (veP S.ves n))) ∧ Below w.heap.size w w' := by
  obtain ⟨a, cap, rfl, h1, h2⟩ := hB.form
  unfold maxLen at h2
  have HB := hide hB
  clear hB
  go_enter Try.func107, Try.ntmps107
  go_wp2_with fail
  refine (index_findVersion_1 _ a cap S.ves (veP S.ves n) _ ((unhide HB).imp fun _ _ _ r => RVe.up (bl_alloc (bl1 _ _) _) r) (by omega) (fun k wr X ua un uc hk e hI hi => by subst e; exact findVersion_1 _ _ _ _ n _ _ (by rw [hI.cell (by simp)]; simp [World.cell?_alloc_at]))).mono ?_
  rintro e w1 ⟨rfl, hb⟩
  go_wp2
  go_ret
  exact ⟨rfl, bl_trans (bl_alloc (bl1 _ _) _) hb⟩
theorem findGone_any (S : St) (b v u q g : Value) (n : Int) (w : World) (hB : Ints w g S.gone) :
    Calls Try.prog 135 #[stV S b v u q g, .int .i64 n] w fun e w' => e = .returned (.int .i64 (firstI S.gone.length (goP S.gone n))) ∧ Below w.heap.size w w' := by
  obtain ⟨a, cap, rfl, h1, h2⟩ := hB.form
  unfold maxLen at h2
  have HB := hide hB
  clear hB
  go_enter Try.func135, Try.ntmps135
  go_wp2_with fail
  refine (index_findGone_1 _ a cap S.gone (goP S.gone n) _ (Ints.up (bl_alloc (bl1 _ _) _) (unhide HB)) (by omega) (fun k wr X hk e hI hi => by subst e; exact findGone_1 _ n _ _ (by rw [hI.cell (by simp)]; simp [World.cell?_alloc_at]))).mono ?_
  rintro e w1 ⟨rfl, hb⟩
  go_wp2
  go_ret
  exact ⟨rfl, bl_trans (bl_alloc (bl1 _ _) _) hb⟩
theorem modeMayBe_any (n : Int) (w : World) : Calls Try.prog 92 #[.int .i64 n] w fun e w' => e = .returned (.bool (inB n 0 2)) ∧ w = w' := by
  go_enter Try.func92, Try.ntmps92
  go_wp2_with fail
  refine (within_any _ _ _ _).mono ?_
  rintro e w1 ⟨rfl, rfl⟩
  go_wp2
  go_ret
  exact ⟨rfl, rfl⟩
theorem bucketsMayBe_1 (X Y : Bu) (w : World) : Calls Try.prog 87 #[buV X, buV Y] w fun e w' => e = .returned (.bool (ltS X.nam Y.nam)) ∧ Below w.heap.size w w' := by
  go_enter Try.func87, Try.ntmps87
  go_wp2
  go_ret
  exact ⟨rfl, bl_alloc (bl1 _ _) _⟩
def buC (x : Bu) : Bool := worE x.nam 8 == 0 && rulE x.pre x.fre x.dro == 0 && inB x.mode 0 2
theorem bucketsMayBe_2 (X : Bu) (w : World) (h1 : X.nam.size ≤ maxLen) (h2 : X.pre.size ≤ maxLen) : Calls Try.prog 89 #[buV X] w fun e w' => e = .returned (.bool (buC X)) ∧ Below w.heap.size w w' := by
  have HC : Hid (buC X = (worE X.nam 8 == 0 && rulE X.pre X.fre X.dro == 0 && inB X.mode 0 2)) := rfl
  go_enter Try.func89, Try.ntmps89
  go_wp2_with fail
  refine (checkName_any _ _ h1).mono ?_
  rintro e w1 ⟨rfl, hb1⟩
  obtain ⟨E, hE⟩ : ∃ E, worE X.nam 8 = E := ⟨_, rfl⟩
  rw [hE] at HC ⊢
  clear hE
  have c2 := box1 hb1 2 (v := .string X.pre) rfl
  have c3 := box1 hb1 3 (v := .int .i64 X.fre) rfl
  have c4 := box1 hb1 4 (v := .int .i64 X.dro) rfl
  have c1 := box1 hb1 1 (v := .int .i64 X.mode) rfl
  cases hE0 : (E == 0)
  · rw [hE0] at HC
    go_wp2
    go_ret
    exact ⟨ret_bool (by rw [unhide HC]; rfl), bl_trans (bl1 _ _) hb1⟩
  · rw [hE0] at HC
    go_wp2_with fail
    refine (checkRule_any _ _ _ _ h2).mono ?_
    rintro e w2 ⟨rfl, hb2⟩
    obtain ⟨R, hR⟩ : ∃ R, rulE X.pre X.fre X.dro = R := ⟨_, rfl⟩
    rw [hR] at HC ⊢
    clear hR
    have d1 := scell_up hb2 c1
    clear c1 c2 c3 c4
    cases hR0 : (R == 0)
    · rw [hR0] at HC
      go_wp2
      go_ret
      exact ⟨ret_bool (by rw [unhide HC]; rfl), bl_trans (bl_trans (bl1 _ _) hb1) hb2⟩
    · rw [hR0] at HC
      go_wp2_with fail
      refine (modeMayBe_any _ _).mono ?_
      rintro e w3 ⟨rfl, rfl⟩
      go_wp2
      go_ret
      exact ⟨ret_bool (by rw [unhide HC]; rfl), bl_trans (bl_trans (bl1 _ _) hb1) hb2⟩
def busP (l : List Bu) (i : Nat) : Bool := ltS (l.getD i bu0).nam (l.getD (i + 1) bu0).nam
def busQ (l : List Bu) (i : Nat) : Bool := buC (l.getD i bu0)
def busC (l : List Bu) : Bool := decide ((l.length : Int) ≤ 4) && allB (l.length - 1) (busP l) && allB l.length (busQ l)
theorem bucketsMayBe_any (bv : Value) (l : List Bu) (w : World) (hL : Lst RBu 5 bu0 w bv l) : Calls Try.prog 63 #[bv] w fun e w' => e = .returned (.bool (busC l)) ∧ Below w.heap.size w w' := by
  obtain ⟨a, cap, rfl, h1, h2⟩ := hL.form
  unfold maxLen at h2
  have HL := hide hL
  clear hL
  by_cases hl : (l.length : Int) ≤ 4
  · have HC : Hid (busC l = (allB (l.length - 1) (busP l) && allB l.length (busQ l))) := by show _ = _; unfold busC; rw [decide_eq_true hl, Bool.true_and]
    go_enter Try.func63, Try.ntmps63
    go_wp2_with fail
    refine (rise_bucketsMayBe_1 a cap l (busP l) _ (unhide HL) (by omega) (fun k wr X Y h e1 e2 => by subst e1 e2; exact bucketsMayBe_1 _ _ _)).mono ?_
    rintro e w1 ⟨rfl, hb⟩
    cases hr : allB (l.length - 1) (busP l)
    · rw [hr] at HC
      go_wp2
      go_ret
      exact ⟨ret_bool (by rw [unhide HC]; rfl), hb⟩
    · rw [hr] at HC
      clear hr
      go_wp2_with fail
      refine (every_bucketsMayBe_2 a cap l (busQ l) (fun _ wr => Below w.heap.size w wr) (fun wr => Below w.heap.size w wr) _ (by omega) (fun k wr hk hb => Lst.at ((unhide HL).imp fun _ _ _ r => RBu.up hb r) hk) (fun _ _ _ x y => bl_trans x y) hb (fun k wr X hk e hI => by
        subst e
        obtain ⟨_, _, _, r⟩ := Lst.at (unhide HL) hk
        exact (bucketsMayBe_2 _ _ r.s0 r.s2).mono fun _ _ ⟨x, y⟩ => ⟨x, fun _ => bl_trans hI y, fun _ => bl_trans hI y⟩)).mono ?_
      rintro e w2 ⟨rfl, hy, hn⟩
      have hb2 := both_ways hy hn
      clear hy hn
      go_wp2
      go_ret
      exact ⟨ret_bool (by rw [unhide HC]; rfl), hb2⟩
  · have HC : Hid (busC l = false) := by show _ = _; unfold busC; rw [decide_eq_false hl]; rfl
    go_enter Try.func63, Try.ntmps63
    go_wp2
    go_ret
    exact ⟨ret_bool (unhide HC).symm, Below.refl _ _⟩
/-- Sectors that so many bytes need. -/
def secN (n : Int) : Int := if n ≤ 0 then 0 else (n - 1) / 64 + 1
theorem sectorsN_any (n : Int) (w : World) (h0 : -9223372036854775808 ≤ n) (h1 : n ≤ 9223372036854775807) : Calls Try.prog 134 #[.int .i64 n] w fun e w' => e = .returned (.int .i64 (secN n)) ∧ w = w' := by
  by_cases h : n ≤ 0
  · have HC : Hid (secN n = 0) := by show _ = _; unfold secN; rw [if_pos h]
    go_enter Try.func134, Try.ntmps134
    go_wp2
    go_ret
    exact ⟨ret_int (unhide HC).symm, rfl⟩
  · have HC : Hid (secN n = (n - 1) / 64 + 1) := by show _ = _; unfold secN; rw [if_neg h]
    go_enter Try.func134, Try.ntmps134
    go_wp2
    go_ret
    exact ⟨ret_int (unhide HC).symm, rfl⟩
theorem rightMany_any (a : Option Addr) (n cap : Nat) (size : Int) (w : World) (hn : n ≤ 9223372036854775807) (h0 : -9223372036854775808 ≤ size) (h1 : size ≤ 9223372036854775807) : Calls Try.prog 119 #[.slice a n cap, .int .i64 size] w fun e w' => e = .returned (.bool ((n : Int) == secN size)) ∧ w = w' := by
  go_enter Try.func119, Try.ntmps119
  go_wp2_with fail
  refine (sectorsN_any _ _ h0 h1).mono ?_
  rintro e w1 ⟨rfl, rfl⟩
  go_wp2
  go_ret
  exact ⟨rfl, rfl⟩
theorem askMayBe_any (X : Ak) (w : World) : Calls Try.prog 108 #[akV X] w fun e w' => e = .returned (.bool (inB X.days 1 1000 && inB X.cls 0 2)) ∧ Below w.heap.size w w' := by
  go_enter Try.func108, Try.ntmps108
  go_wp2_with fail
  refine (within_any _ _ _ _).mono ?_
  rintro e w1 ⟨rfl, rfl⟩
  cases h : inB X.days 1 1000
  · go_wp2
    go_ret
    exact ⟨ret_bool (by rw [h]; rfl), bl1 _ _⟩
  · go_wp2_with fail
    refine (within_any _ _ _ _).mono ?_
    rintro e w1 ⟨rfl, rfl⟩
    go_wp2
    go_ret
    exact ⟨ret_bool (by rw [h]; rfl), bl1 _ _⟩
end Go.Proofs.Ytdalkkjojflakaa
