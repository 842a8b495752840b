/- Things that are done to devices: things.Put, its closure. -/
import Derived.Test.YtjahaccplchmnaaPut
import Derived.Test.YtjahaccplchmnaaFlC
import Derived.Test.YtjahaccplchmnaaArmC
namespace Go.Proofs.Ytjahaccplchmnaa
open Go.RowKit
set_option linter.unusedVariables false
set_option linter.unusedSimpArgs false

/-- A thing: to put bytes in a sector, or to flush. -/
inductive Th where
  | put (pos : Int) (bs : List Int)
  | flush
def thE (r a h vm nv : Int) (D : Dv) : Th → Int
  | .put p xs => putE D p xs.length (chkE r a h vm nv D)
  | .flush => marE D (chkE r a h vm nv D)
def thD (D : Dv) (e : Int) : Th → Dv
  | .put p xs => putD D p xs e
  | .flush => fluD D e

set_option maxHeartbeats 1000000 in
set_option maxRecDepth 100000 in
theorem put1_any (r a h vm nv : Int) (s c v : Value) (D : Dv) (b1 b2 : Nat) (x : Int) (bv : Value) (xs : List Int) (w : World) (hD : Dev w s c v D) (h1 : w.cell? ⟨b1, 0, none⟩ = some (.int .i64 x)) (h2 : w.cell? ⟨b2, 0, none⟩ = some bv) (hB : Bts w bv xs) :
    Calls Try.prog 77 #[.agg #[.int .i64 r, .int .i64 a, .int .i64 h, .int .i64 vm, .int .i64 nv], .agg #[s, c, v, .int .i64 D.fuel], .pointer (some ⟨b1, 0, none⟩), .pointer (some ⟨b2, 0, none⟩)] w fun e w' =>
      ∃ s' c' v', e = .returned (.tuple #[.agg #[s', c', v', .int .i64 (putD D x xs (putE D x xs.length (chkE r a h vm nv D))).fuel], .int .i64 (putE D x xs.length (chkE r a h vm nv D))]) ∧ ODev w' w.heap.size s' c' v' (putD D x xs (putE D x xs.length (chkE r a h vm nv D))) ∧ Below w.heap.size w w' := by
  have HD := hide hD
  have HB := hide hB
  obtain ⟨ba, bc, rfl, _, _, _⟩ := hB
  have hl1 : b1 < w.heap.size := World.block_lt_of_cell? w _ h1
  have hl2 : b2 < w.heap.size := World.block_lt_of_cell? w _ h2
  clear hD
  obtain ⟨E, hE⟩ : ∃ E, putE D x xs.length (chkE r a h vm nv D) = E := ⟨_, rfl⟩
  have HE := hide hE
  obtain ⟨Z, hZ⟩ : ∃ Z, putD D x xs E = Z := ⟨_, rfl⟩
  have HZ := hide hZ
  rw [hE, hZ]
  clear hE hZ
  go_enter Try.func77, Try.ntmps77
  go_upto_region 1 with fail
  obtain ⟨W0, hW0⟩ : ∃ W0, W0 = ((w.alloc (.cells #[.int .i64 r, .int .i64 a, .int .i64 h, .int .i64 vm, .int .i64 nv] 23)).alloc (.cells #[s, c, v, .int .i64 D.fuel] 28)).alloc (.cells #[.slice none 0 0, .slice none 0 0, .slice none 0 0, .int .i64 0] 28) := ⟨_, rfl⟩
  have hbW : Below w.heap.size w W0 := by rw [hW0]; exact bl3 _ _ _ _
  have hk : ∀ w', Below W0.heap.size W0 w' → Row w' (w.heap.size + 1 + 1) 28 [.slice none 0 0, .slice none 0 0, .slice none 0 0, .int .i64 0] := fun w' hb => by rw [hW0] at hb; exact box3r (cs := [.slice none 0 0, .slice none 0 0, .slice none 0 0, .int .i64 0]) hb
  have hcs : ∀ w', Below W0.heap.size W0 w' → (w'.cell? ⟨w.heap.size, 0, none⟩ = some (.int .i64 r) ∧ w'.cell? ⟨w.heap.size, 1, none⟩ = some (.int .i64 a) ∧ w'.cell? ⟨w.heap.size, 2, none⟩ = some (.int .i64 h) ∧ w'.cell? ⟨w.heap.size, 3, none⟩ = some (.int .i64 vm) ∧ w'.cell? ⟨w.heap.size, 4, none⟩ = some (.int .i64 nv)) ∧ w'.cell? ⟨w.heap.size + 1, 0, none⟩ = some s ∧ w'.cell? ⟨w.heap.size + 1, 1, none⟩ = some c ∧ w'.cell? ⟨w.heap.size + 1, 2, none⟩ = some v ∧ w'.cell? ⟨w.heap.size + 1, 3, none⟩ = some (.int .i64 D.fuel) := fun w' hb => by
    rw [hW0] at hb
    exact ⟨⟨box3a hb 0 rfl, box3a hb 1 rfl, box3a hb 2 rfl, box3a hb 3 rfl, box3a hb 4 rfl⟩, box3b hb 0 rfl, box3b hb 1 rfl, box3b hb 2 rfl, box3b hb 3 rfl⟩
  rw [← hW0]
  have HKK := hide hk
  clear hW0 hk
  obtain ⟨⟨g0, g1, g2, g3, g4⟩, f0, f1, f2, f3⟩ := hcs _ (Below.refl _ _)
  clear hcs
  replace h1 := cell_up hbW h1
  replace h2 := cell_up hbW h2
  go_wp2_with fail
  refine (put_any r a h vm nv s c v D x _ xs _ ((unhide HD).up hbW) ((unhide HB).up hbW)).mono ?_
  rintro e w1 ⟨s', c', v', rfl, hO, hb1⟩
  rw [unhide HE, unhide HZ] at hO ⊢
  have hb0 : Below w.heap.size w w1 := bl_trans hbW hb1
  have hR := unhide HKK _ hb1
  have hs1 := hbW.size
  have d0 := hR.cell 0 _ rfl
  have d1 := hR.cell 1 _ rfl
  have d2 := hR.cell 2 _ rfl
  have d3 := hR.cell 3 _ rfl
  have df := hR.unfrozen
  have HR := hide hR
  have hod := hO.dev
  obtain ⟨⟨y1, z1, rfl, _⟩, ⟨y2, z2, rfl, _⟩, ⟨y3, z3, rfl, _⟩⟩ := hod
  have HO := hide hO
  clear hb1 hR hO h1 h2 g0 g1 g2 g3 g4 f0 f1 f2 f3
  go_wp2
  refine bodyPost_ret (v := .tuple #[.agg #[.slice y1 Z.safe.length z1, .slice y2 Z.cache.length z2, .slice y3 Z.vols.length z3, .int .i64 Z.fuel], .int .i64 E]) (by simp [results, Try.results77, go_sem, *]) rfl ⟨_, _, _, rfl, ?_, ?_⟩
  · refine ODev.base ((unhide HO).kept (unhide HR) (by decide) (by decide) (by decide) (by decide) ?_) hs1
    repeat (first | exact gb_refl _ _ | refine gb_set ?_ _ _)
  · repeat (first | exact hb0 | refine bl_set ?_ (by simp <;> omega) _)
end Go.Proofs.Ytjahaccplchmnaa
