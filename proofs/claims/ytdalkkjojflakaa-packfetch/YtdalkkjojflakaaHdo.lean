/- The head of a piece: piece.HeadOf, icehouseref.headOf. -/
import Derived.Test.YtdalkkjojflakaaNum
import Derived.BigQuiet
namespace Go.Proofs.Ytdalkkjojflakaa
open Go.RowKit
set_option linter.unusedVariables false
set_option linter.unusedSimpArgs false

/-- The head of a piece: whose it is, and how long. -/
def hdL (i n : Int) : List Int := be 4 i ++ be 2 n
theorem hdL_len (i n : Int) : (hdL i n).length = 6 := by simp [hdL, be_len]

theorem RowsAt.two {w : World} {u u' : Value} {xs ys : List Int} {t : TypeId} (h : Bts w u xs) (h' : Bts w u' ys) : RowsAt (w.alloc (.cells #[u, u'] t)) (.slice (some ⟨w.heap.size, 0, none⟩) 2 2) [xs, ys] := by
  refine ⟨_, 2, rfl, Nat.le_refl _, by decide, fun i hi => ?_⟩
  match i, hi with
  | 0, _ => exact ⟨w.heap.size, 0, rfl, u, by rw [World.cell?_alloc_at _ _ _ _ rfl]; rfl, h.up (bl1 _ _)⟩
  | 1, _ => exact ⟨w.heap.size, 0, rfl, u', by rw [World.cell?_alloc_at _ _ _ _ rfl]; rfl, h'.up (bl1 _ _)⟩
theorem RowsAt.three {w : World} {u u' u'' : Value} {xs ys zs : List Int} {t : TypeId} (h : Bts w u xs) (h' : Bts w u' ys) (h'' : Bts w u'' zs) : RowsAt (w.alloc (.cells #[u, u', u''] t)) (.slice (some ⟨w.heap.size, 0, none⟩) 3 3) [xs, ys, zs] := by
  refine ⟨_, 3, rfl, Nat.le_refl _, by decide, fun i hi => ?_⟩
  match i, hi with
  | 0, _ => exact ⟨w.heap.size, 0, rfl, u, by rw [World.cell?_alloc_at _ _ _ _ rfl]; rfl, h.up (bl1 _ _)⟩
  | 1, _ => exact ⟨w.heap.size, 0, rfl, u', by rw [World.cell?_alloc_at _ _ _ _ rfl]; rfl, h'.up (bl1 _ _)⟩
  | 2, _ => exact ⟨w.heap.size, 0, rfl, u'', by rw [World.cell?_alloc_at _ _ _ _ rfl]; rfl, h''.up (bl1 _ _)⟩

theorem refHead_any (i n : Nat) (w : World) (hi : i ≤ 4294967295) (hn : n ≤ 4294967295) :
    Calls Try.prog 30 #[.int .i64 i, .int .i64 n] w fun e w' => ∃ u, e = .returned u ∧ Own w' w.heap.size u (hdL i n) ∧ Below w.heap.size w w' := by
  go_enter Try.func30, Try.ntmps30
  go_wp2_with fail
  refine (big_any 4 i _ (by decide) (by decide) hi).mono ?_
  rintro e w1 ⟨u1, rfl, h1, b1⟩
  have H1 := hide h1
  clear h1
  go_wp2_with fail
  refine (big_any 2 n _ (by decide) (by decide) hn).mono ?_
  rintro e w2 ⟨u2, rfl, h2, b2⟩
  have H2 := hide h2
  obtain ⟨va, vc, rfl, _, _⟩ := own_form (unhide H1)
  obtain ⟨ya, yc, rfl, _, _⟩ := own_form h2
  clear h2
  go_wp2_with fail
  refine (joined_any _ [be 4 i, be 2 n] _ (RowsAt.two ((unhide H1).up b2).bts (unhide H2).bts) (by simp [be_len])).mono ?_
  rintro e w3 ⟨u3, rfl, h3, b3⟩
  have hb : Below w.heap.size w w3 := bl_trans (bl_trans (bl_trans b1 b2) (bl1 _ _)) b3
  have hs := (bl_trans (bl_trans b1 b2) (bl1 _ (.cells #[.slice va (be 4 (i : Int)).length vc, .slice ya (be 2 (n : Int)).length yc] 24))).size
  have H3 := hide (h3.base hs)
  clear h3
  go_wp2
  go_ret
  exact ⟨_, rfl, by simpa [hdL] using unhide H3, hb⟩

theorem own0 (w : World) (B : Nat) : Own w B (.slice none 0 0) [] := ⟨by simp [u8s], .inl ⟨rfl, rfl⟩⟩
/-- The same, the count a number that a walk holds: one form for every call, so that no wrong one is tried. -/
theorem numApp_any (m n : Int) (B : Nat) (v : Value) (xs : List Int) (w : World) (hv : Own w B v xs) (hB : B ≤ w.heap.size) (hm0 : 0 ≤ m) (hm : m ≤ 8) (hx : xs.length ≤ 100000) :
    Calls Try.prog 49 #[v, .int .i64 n, .int .i64 m] w fun e w' => ∃ u, e = .returned u ∧ Own w' B u (xs ++ be m.toNat n) ∧ Below B w w' := by
  obtain ⟨k, rfl⟩ := Int.eq_ofNat_of_zero_le hm0
  exact numAppend_any k n B v xs w hv hB (by omega) hx

set_option maxHeartbeats 1000000 in
set_option maxRecDepth 100000 in
theorem head_any (i p n : Int) (w : World) :
    Calls Try.prog 27 #[.agg #[.int .i64 i, .int .i64 p, .int .i64 n]] w fun e w' => ∃ u, e = .returned u ∧ Own w' w.heap.size u (hdL i n) ∧ Below w.heap.size w w' := by
  go_enter Try.func27, Try.ntmps27
  go_wp2
  go_region_with (first
    | (go_at_call 49; refine (numApp_any _ _ (w.heap.size + 1) _ _ _ h1 hs1 (by decide) (by decide) (by rw [be_len]; decide)).mono ?_; rintro e w2 ⟨u2, rfl, h2, b2⟩)
    | (go_at_call 49; refine (numApp_any _ _ (w.heap.size + 1) _ _ _ (own0 _ _) (by simp) (by decide) (by decide) (Nat.zero_le _)).mono ?_; rintro e w1 ⟨u1, rfl, h1, b1⟩; replace h1 : Own w1 (w.heap.size + 1) u1 (be 4 i) := h1; have c2 : w1.cell? ⟨w.heap.size, 2, none⟩ = some (.int .i64 n) := (b1.cell (by simp)).trans (by simp); have hs1 : w.heap.size + 1 ≤ w1.heap.size := (by have := b1.size; simpa using this)))
  all_goals
    go_wp2
    go_ret
    exact ⟨_, rfl, Own.base (B' := w.heap.size) h2 (Nat.le_succ _), (Below.trans (Below.drew (bl1 w _)) (Below.mono b1 (Nat.le_succ _))).trans (Below.mono b2 (Nat.le_succ _))⟩
end Go.Proofs.Ytdalkkjojflakaa
