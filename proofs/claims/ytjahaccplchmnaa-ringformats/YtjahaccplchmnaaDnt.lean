/- ring.doneTo; things.Put; ring.putSuperblock. -/
import Derived.Test.YtjahaccplchmnaaDdn
import Derived.Test.YtjahaccplchmnaaSup
import Derived.RegionTactic
import Derived.BigRegion
namespace Go.Proofs.Ytjahaccplchmnaa
open Go.RowKit
set_option maxRecDepth 100000
set_option linter.unusedVariables false
set_option linter.unusedSimpArgs false
theorem ODev.st13o {w : World} {B : Nat} {s c v : Value} {D : Dv} (h : ODev w B s c v D) {g g' : Nat} {cs cs' : List Value} (hr : Row w g 28 cs) (hr' : Row w g' 31 cs') {a0 a1 a2 a3 b0 b1 b2 b3 b4 b5 b6 b7 b8 : Value} : ODev (((((((((((((w.setCell ⟨g', 0, none⟩ b0).setCell ⟨g', 1, none⟩ b1).setCell ⟨g', 2, none⟩ b2).setCell ⟨g', 3, none⟩ b3).setCell ⟨g', 4, none⟩ b4).setCell ⟨g', 5, none⟩ b5).setCell ⟨g', 6, none⟩ b6).setCell ⟨g', 7, none⟩ b7).setCell ⟨g', 8, none⟩ b8).setCell ⟨g, 0, none⟩ a0).setCell ⟨g, 1, none⟩ a1).setCell ⟨g, 2, none⟩ a2).setCell ⟨g, 3, none⟩ a3) B s c v D :=
  h.owt hr hr' (gb_set (gb_set (gb_set (gb_set (gb_refl _ _) _ _) _ _) _ _) _ _) (gb_set (gb_set (gb_set (gb_set (gb_set (gb_set (gb_set (gb_set (gb_set (gb_refl _ _) _ _) _ _) _ _) _ _) _ _) _ _) _ _) _ _) _ _)
theorem bl13o {a w : World} (h : Below a.heap.size a w) {g g' : Nat} (hg : a.heap.size ≤ g) (hg' : a.heap.size ≤ g') {a0 a1 a2 a3 b0 b1 b2 b3 b4 b5 b6 b7 b8 : Value} : Below a.heap.size a (((((((((((((w.setCell ⟨g', 0, none⟩ b0).setCell ⟨g', 1, none⟩ b1).setCell ⟨g', 2, none⟩ b2).setCell ⟨g', 3, none⟩ b3).setCell ⟨g', 4, none⟩ b4).setCell ⟨g', 5, none⟩ b5).setCell ⟨g', 6, none⟩ b6).setCell ⟨g', 7, none⟩ b7).setCell ⟨g', 8, none⟩ b8).setCell ⟨g, 0, none⟩ a0).setCell ⟨g, 1, none⟩ a1).setCell ⟨g, 2, none⟩ a2).setCell ⟨g, 3, none⟩ a3) :=
  bl_set (bl_set (bl_set (bl_set (bl_set (bl_set (bl_set (bl_set (bl_set (bl_set (bl_set (bl_set (bl_set (h) hg' _) hg' _) hg' _) hg' _) hg' _) hg' _) hg' _) hg' _) hg' _) hg _) hg _) hg _) hg _
theorem ODev.dr {w : World} {B : Nat} {s c v : Value} {D : Dv} (h : ODev w B s c v D) : ODev w.drew B s c v D := h.up (Below.drew (Below.refl _ _))
set_option maxHeartbeats 1000000 in
theorem doneTo_any (r a h vm nv : Int) (s c v : Value) (D : Dv) (lv : Value) (ths : List Th) (j0 j1 j2 j3 j4 j5 j6 j7 j8 : Int) (w : World) (hD : Dev w s c v D) (hl : ThsAt w lv ths) (hne : 0 < ths.length) :
    Calls Try.prog 40 #[.agg #[.int .i64 r, .int .i64 a, .int .i64 h, .int .i64 vm, .int .i64 nv], .agg #[s, c, v, .int .i64 D.fuel], .agg #[.int .i64 j0, .int .i64 j1, .int .i64 j2, .int .i64 j3, .int .i64 j4, .int .i64 j5, .int .i64 j6, .int .i64 j7, .int .i64 j8], lv] w fun e w' =>
      ∃ s' c' v', e = .returned (.tuple #[.agg #[s', c', v', .int .i64 (doD r a h vm nv D ths).fuel], .agg (if doE r a h vm nv D ths = 0 then #[.int .i64 j0, .int .i64 j1, .int .i64 j2, .int .i64 j3, .int .i64 j4, .int .i64 j5, .int .i64 j6, .int .i64 j7, .int .i64 j8] else jz), .int .i64 (doE r a h vm nv D ths)]) ∧ ODev w' w.heap.size s' c' v' (doD r a h vm nv D ths) ∧ Below w.heap.size w w' := by
  have HD := hide hD
  have HL := hide hl
  obtain ⟨la, lc, rfl, ll, lm, _⟩ := hl
  clear hD
  obtain ⟨FE, hFE⟩ : ∃ FE, doE r a h vm nv D ths = FE := ⟨_, rfl⟩
  obtain ⟨FD, hFD⟩ : ∃ FD, doD r a h vm nv D ths = FD := ⟨_, rfl⟩
  have HFE := hide hFE
  have HFD := hide hFD
  rw [hFE, hFD]
  clear hFE hFD
  obtain ⟨JV, hJV⟩ : ∃ JV : Array Value, (if FE = 0 then #[.int .i64 j0, .int .i64 j1, .int .i64 j2, .int .i64 j3, .int .i64 j4, .int .i64 j5, .int .i64 j6, .int .i64 j7, .int .i64 j8] else jz) = JV := ⟨_, rfl⟩
  have HJ := hide hJV
  rw [hJV]
  clear hJV
  go_enter Try.func40, Try.ntmps40
  go_upto_region 1 with fail
  obtain ⟨W0, hW0⟩ : ∃ W0, W0 = ((((w.alloc (.cells #[.int .i64 r, .int .i64 a, .int .i64 h, .int .i64 vm, .int .i64 nv] 23)).alloc (.cells #[s, c, v, .int .i64 D.fuel] 28)).alloc (.cells #[.int .i64 j0, .int .i64 j1, .int .i64 j2, .int .i64 j3, .int .i64 j4, .int .i64 j5, .int .i64 j6, .int .i64 j7, .int .i64 j8] 31)).alloc (.cells #[.slice none 0 0, .slice none 0 0, .slice none 0 0, .int .i64 0] 28)).alloc (.cells #[.int .i64 0, .int .i64 0, .int .i64 0, .int .i64 0, .int .i64 0, .int .i64 0, .int .i64 0, .int .i64 0, .int .i64 0] 31) := ⟨_, rfl⟩
  have hbW : Below w.heap.size w W0 := by rw [hW0]; exact bl_alloc (bl_alloc (bl3 _ _ _ _) _) _
  have hRG : Row W0 w.heap.size 23 [.int .i64 r, .int .i64 a, .int .i64 h, .int .i64 vm, .int .i64 nv] := by rw [hW0]; exact (Row.new w _ [.int .i64 r, .int .i64 a, .int .i64 h, .int .i64 vm, .int .i64 nv]).up (bl_alloc (bl3 _ _ _ _) _)
  have hRD : Row W0 (w.heap.size + 1) 28 [s, c, v, .int .i64 D.fuel] := by
    rw [hW0]
    have := (Row.new (w.alloc (.cells #[.int .i64 r, .int .i64 a, .int .i64 h, .int .i64 vm, .int .i64 nv] 23)) 28 [s, c, v, .int .i64 D.fuel]).up (bl3 _ (.cells #[.int .i64 j0, .int .i64 j1, .int .i64 j2, .int .i64 j3, .int .i64 j4, .int .i64 j5, .int .i64 j6, .int .i64 j7, .int .i64 j8] 31) (.cells #[.slice none 0 0, .slice none 0 0, .slice none 0 0, .int .i64 0] 28) (.cells #[.int .i64 0, .int .i64 0, .int .i64 0, .int .i64 0, .int .i64 0, .int .i64 0, .int .i64 0, .int .i64 0, .int .i64 0] 31))
    rw [World.size_alloc] at this
    exact this
  have hRJ : Row W0 (w.heap.size + 1 + 1) 31 [.int .i64 j0, .int .i64 j1, .int .i64 j2, .int .i64 j3, .int .i64 j4, .int .i64 j5, .int .i64 j6, .int .i64 j7, .int .i64 j8] := by
    rw [hW0]
    have := (Row.new ((w.alloc (.cells #[.int .i64 r, .int .i64 a, .int .i64 h, .int .i64 vm, .int .i64 nv] 23)).alloc (.cells #[s, c, v, .int .i64 D.fuel] 28)) 31 [.int .i64 j0, .int .i64 j1, .int .i64 j2, .int .i64 j3, .int .i64 j4, .int .i64 j5, .int .i64 j6, .int .i64 j7, .int .i64 j8]).up (bl2 _ (.cells #[.slice none 0 0, .slice none 0 0, .slice none 0 0, .int .i64 0] 28) (.cells #[.int .i64 0, .int .i64 0, .int .i64 0, .int .i64 0, .int .i64 0, .int .i64 0, .int .i64 0, .int .i64 0, .int .i64 0] 31))
    rw [World.size_alloc, World.size_alloc] at this
    exact this
  have hRR : Row W0 (w.heap.size + 1 + 1 + 1) 28 [.slice none 0 0, .slice none 0 0, .slice none 0 0, .int .i64 0] := by
    rw [hW0]
    have := (Row.new (((w.alloc (.cells #[.int .i64 r, .int .i64 a, .int .i64 h, .int .i64 vm, .int .i64 nv] 23)).alloc (.cells #[s, c, v, .int .i64 D.fuel] 28)).alloc (.cells #[.int .i64 j0, .int .i64 j1, .int .i64 j2, .int .i64 j3, .int .i64 j4, .int .i64 j5, .int .i64 j6, .int .i64 j7, .int .i64 j8] 31)) 28 [.slice none 0 0, .slice none 0 0, .slice none 0 0, .int .i64 0]).up (bl1 _ (.cells #[.int .i64 0, .int .i64 0, .int .i64 0, .int .i64 0, .int .i64 0, .int .i64 0, .int .i64 0, .int .i64 0, .int .i64 0] 31))
    rw [World.size_alloc, World.size_alloc, World.size_alloc] at this
    exact this
  have hRK : Row W0 (w.heap.size + 1 + 1 + 1 + 1) 31 [.int .i64 0, .int .i64 0, .int .i64 0, .int .i64 0, .int .i64 0, .int .i64 0, .int .i64 0, .int .i64 0, .int .i64 0] := by
    rw [hW0]
    have := Row.new ((((w.alloc (.cells #[.int .i64 r, .int .i64 a, .int .i64 h, .int .i64 vm, .int .i64 nv] 23)).alloc (.cells #[s, c, v, .int .i64 D.fuel] 28)).alloc (.cells #[.int .i64 j0, .int .i64 j1, .int .i64 j2, .int .i64 j3, .int .i64 j4, .int .i64 j5, .int .i64 j6, .int .i64 j7, .int .i64 j8] 31)).alloc (.cells #[.slice none 0 0, .slice none 0 0, .slice none 0 0, .int .i64 0] 28)) 31 [.int .i64 0, .int .i64 0, .int .i64 0, .int .i64 0, .int .i64 0, .int .i64 0, .int .i64 0, .int .i64 0, .int .i64 0]
    rw [World.size_alloc, World.size_alloc, World.size_alloc, World.size_alloc] at this
    exact this
  rw [← hW0]
  clear hW0
  have HRG := hide hRG
  have HRD := hide hRD
  have HRJ := hide hRJ
  have HRR := hide hRR
  have HRK := hide hRK
  have g0 := hRG.cell 0 _ rfl
  have g1 := hRG.cell 1 _ rfl
  have g2 := hRG.cell 2 _ rfl
  have g3 := hRG.cell 3 _ rfl
  have g4 := hRG.cell 4 _ rfl
  have f0 := hRD.cell 0 _ rfl
  have f1 := hRD.cell 1 _ rfl
  have f2 := hRD.cell 2 _ rfl
  have f3 := hRD.cell 3 _ rfl
  clear hRG hRD hRJ hRR hRK
  go_wp2_with fail
  refine (do_any r a h vm nv s c v D _ ths _ ((unhide HD).up hbW) ((unhide HL).up hbW) hne).mono ?_
  rintro e w5 ⟨s', c', v', rfl, hO, hb5⟩
  rw [unhide HFE, unhide HFD] at *
  have hod := hO.dev
  obtain ⟨⟨y1, i1, rfl, _⟩, ⟨y2, i2, rfl, _⟩, ⟨y3, i3, rfl, _⟩⟩ := hod
  go_upto_region 2 with fail
  obtain ⟨W6, hW6⟩ : ∃ W6, W6 = w5.alloc (.cells #[.slice y1 FD.safe.length i1, .slice y2 FD.cache.length i2, .slice y3 FD.vols.length i3, .int .i64 FD.fuel] 28) := ⟨_, rfl⟩
  have hb6 : Below w5.heap.size w5 W6 := by rw [hW6]; exact bl1 _ _
  have hr6 : Row W6 w5.heap.size 28 [.slice y1 FD.safe.length i1, .slice y2 FD.cache.length i2, .slice y3 FD.vols.length i3, .int .i64 FD.fuel] := by rw [hW6]; exact Row.new _ _ _
  rw [← hW6]
  clear hW6
  have hb56 : Below W0.heap.size W0 W6 := bl_trans hb5 hb6
  have hbw6 : Below w.heap.size w W6 := bl_trans hbW hb56
  have hO6 := (hO.up hb6).base (B' := w.heap.size) hbW.size
  have hRR6 := (unhide HRR).up hb56
  have hRK6 := (unhide HRK).up hb56
  have hRJ6 := (unhide HRJ).up hb56
  have k0 := hr6.cell 0 _ rfl
  have k1 := hr6.cell 1 _ rfl
  have k2 := hr6.cell 2 _ rfl
  have k3 := hr6.cell 3 _ rfl
  have hl0 := hRK6.lt
  have hl5 : w.heap.size + 1 + 1 + 1 + 1 < w5.heap.size := by have := (unhide HRK).lt; have := hb5.size; omega
  have kf := hr6.unfrozen
  have z0 := hRR6.cell 0 _ rfl
  have z1 := hRR6.cell 1 _ rfl
  have z2 := hRR6.cell 2 _ rfl
  have z3 := hRR6.cell 3 _ rfl
  have zf := hRR6.unfrozen
  have u0 := hRK6.cell 0 _ rfl
  have u1 := hRK6.cell 1 _ rfl
  have u2 := hRK6.cell 2 _ rfl
  have u3 := hRK6.cell 3 _ rfl
  have u4 := hRK6.cell 4 _ rfl
  have u5 := hRK6.cell 5 _ rfl
  have u6 := hRK6.cell 6 _ rfl
  have u7 := hRK6.cell 7 _ rfl
  have u8 := hRK6.cell 8 _ rfl
  have uf := hRK6.unfrozen
  have p0 := hRJ6.cell 0 _ rfl
  have p1 := hRJ6.cell 1 _ rfl
  have p2 := hRJ6.cell 2 _ rfl
  have p3 := hRJ6.cell 3 _ rfl
  have p4 := hRJ6.cell 4 _ rfl
  have p5 := hRJ6.cell 5 _ rfl
  have p6 := hRJ6.cell 6 _ rfl
  have p7 := hRJ6.cell 7 _ rfl
  have p8 := hRJ6.cell 8 _ rfl
  have HO6 := hide hO6
  have HRR6 := hide hRR6
  have HRK6 := hide hRK6
  have HBW6 := hide hbw6
  clear hO hb5 hb6 hr6 hb56 hO6 hRR6 hRK6 hRJ6 hbw6 g0 g1 g2 g3 g4 f0 f1 f2 f3
  by_cases hE : FE = 0
  case neg =>
    have t1 : (FE != 0) = true := by simpa using hE
    have hJ2 : jz = JV := by rw [← unhide HJ, if_neg hE]
    have HJ2 := hide hJ2
    clear hJ2
    clear hE p0 p1 p2 p3 p4 p5 p6 p7 p8
    go_wp2
    refine bodyPost_ret (v := .tuple #[.agg #[.slice y1 FD.safe.length i1, .slice y2 FD.cache.length i2, .slice y3 FD.vols.length i3, .int .i64 FD.fuel], .agg jz, .int .i64 FE]) (by simp [results, Try.results40, go_sem, jz, *]) rfl ⟨_, _, _, ret_done (unhide HJ2), ?_, ?_⟩
    · exact (unhide HO6).st13 (unhide HRR6) (unhide HRK6)
    · exact bl13 (unhide HBW6) (by omega) (by omega)
  subst hE
  have HJ2 : Hid (#[.int .i64 j0, .int .i64 j1, .int .i64 j2, .int .i64 j3, .int .i64 j4, .int .i64 j5, .int .i64 j6, .int .i64 j7, .int .i64 j8] = JV) := by show _ = _; rw [← unhide HJ, if_pos rfl]
  go_wp2
  go_region
  all_goals
    go_wp2
    refine bodyPost_ret (v := .tuple #[.agg #[.slice y1 FD.safe.length i1, .slice y2 FD.cache.length i2, .slice y3 FD.vols.length i3, .int .i64 FD.fuel], .agg #[.int .i64 j0, .int .i64 j1, .int .i64 j2, .int .i64 j3, .int .i64 j4, .int .i64 j5, .int .i64 j6, .int .i64 j7, .int .i64 j8], .int .i64 0]) (by simp [results, Try.results40, go_sem, *]) rfl ⟨_, _, _, ret_done (unhide HJ2), ?_, ?_⟩
    · first | exact (ODev.st13 (unhide HO6) (unhide HRR6) (unhide HRK6)).dr | exact (ODev.st13o (unhide HO6) (unhide HRR6) (unhide HRK6)).dr
    · first | exact (bl13 (unhide HBW6) (by omega) (by omega)).drew | exact (bl13o (unhide HBW6) (by omega) (by omega)).drew
theorem thPut_some (x : Int) (bv : Value) (hb : ∃ ba bn bc, bv = .slice ba bn bc) (xs : List Int) (w : World) (hB : Bts w bv xs) : Calls Try.prog 41 #[.int .i64 x, bv] w fun e w' =>
    ∃ f, e = .returned f ∧ ThAt w' f (.put x xs) ∧ (∃ b1 b2, f = .func (.func 77) #[] #[.pointer (some ⟨b1, 0, none⟩), .pointer (some ⟨b2, 0, none⟩)]) ∧ Below w.heap.size w w' := by
  obtain ⟨ba, bn, bc, rfl⟩ := hb
  have HB := hide hB
  clear hB
  go_enter Try.func41, Try.ntmps41
  go_wp2
  go_ret
  have h2 : Row ((w.alloc (.cells #[.int .i64 x] 3)).alloc (.cells #[.slice ba bn bc] 37)) (w.heap.size + 1) 37 [.slice ba bn bc] := by
    have := Row.new (w.alloc (.cells #[.int .i64 x] 3)) 37 [.slice ba bn bc]
    rw [World.size_alloc] at this
    exact this
  exact ⟨_, rfl, ⟨_, _, _, rfl, ((Row.new w 3 [.int .i64 x]).up (bl1 _ _)).cell 0 _ rfl, h2.cell 0 _ rfl, (unhide HB).up (bl2 _ _ _)⟩, ⟨_, _, rfl⟩, bl2 _ _ _⟩
theorem superSec_any (ge ep ar le st fi : Nat) (pl ne us : Int) (w : World) (hge : ge ≤ 4294967295) :
    Calls Try.prog 79 #[.agg #[.int .i64 (ge : Nat), .int .i64 (ep : Nat), .int .i64 (ar : Nat), .int .i64 (le : Nat), .int .i64 (st : Nat), .int .i64 (fi : Nat), .int .i64 pl, .int .i64 ne, .int .i64 us]] w fun e w' => e = .returned (.int .i64 ((ge : Int) % 2)) ∧ Below w.heap.size w w' := by
  have hx : (0 : Int) ≤ (ge : Int) := Int.natCast_nonneg _
  go_enter Try.func79, Try.ntmps79
  go_wp2
  go_ret
  exact ⟨ret_int (by first | rfl | (rw [Int.tmod_eq_emod_of_nonneg hx])), bl1 _ _⟩
set_option maxHeartbeats 4000000 in
theorem putSuper_any (ge ep ar le st fi : Nat) (pl ne us : Int) (w : World) (hge : ge ≤ 4294967295) :
    Calls Try.prog 42 #[.agg #[.int .i64 (ge : Nat), .int .i64 (ep : Nat), .int .i64 (ar : Nat), .int .i64 (le : Nat), .int .i64 (st : Nat), .int .i64 (fi : Nat), .int .i64 pl, .int .i64 ne, .int .i64 us]] w fun e w' => ∃ f, e = .returned f ∧ ThAt w' f (.put ((ge : Int) % 2) (supL ge ep ar le st fi)) ∧ (∃ b1 b2, f = .func (.func 77) #[] #[.pointer (some ⟨b1, 0, none⟩), .pointer (some ⟨b2, 0, none⟩)]) ∧ Below w.heap.size w w' := by
  go_enter Try.func42, Try.ntmps42
  go_upto_region 1 with fail
  obtain ⟨W, hW⟩ : ∃ W, W = w.alloc (.cells #[.int .i64 (ge : Nat), .int .i64 (ep : Nat), .int .i64 (ar : Nat), .int .i64 (le : Nat), .int .i64 (st : Nat), .int .i64 (fi : Nat), .int .i64 pl, .int .i64 ne, .int .i64 us] 31) := ⟨_, rfl⟩
  have hbW : Below w.heap.size w W := by rw [hW]; exact bl1 _ _
  have hrow : Row W w.heap.size 31 [.int .i64 (ge : Nat), .int .i64 (ep : Nat), .int .i64 (ar : Nat), .int .i64 (le : Nat), .int .i64 (st : Nat), .int .i64 (fi : Nat), .int .i64 pl, .int .i64 ne, .int .i64 us] := by rw [hW]; exact Row.new _ _ _
  rw [← hW]
  clear hW
  have c0 := hrow.cell 0 _ rfl
  have c1 := hrow.cell 1 _ rfl
  have c2 := hrow.cell 2 _ rfl
  have c3 := hrow.cell 3 _ rfl
  have c4 := hrow.cell 4 _ rfl
  have c5 := hrow.cell 5 _ rfl
  have c6 := hrow.cell 6 _ rfl
  have c7 := hrow.cell 7 _ rfl
  have c8 := hrow.cell 8 _ rfl
  have KS : Hid (∀ w', Below W.heap.size W w' → (w'.cell? ⟨w.heap.size, 0, none⟩ = some (.int .i64 (ge : Nat)) ∧ w'.cell? ⟨w.heap.size, 1, none⟩ = some (.int .i64 (ep : Nat)) ∧ w'.cell? ⟨w.heap.size, 2, none⟩ = some (.int .i64 (ar : Nat)) ∧ w'.cell? ⟨w.heap.size, 3, none⟩ = some (.int .i64 (le : Nat)) ∧ w'.cell? ⟨w.heap.size, 4, none⟩ = some (.int .i64 (st : Nat)) ∧ w'.cell? ⟨w.heap.size, 5, none⟩ = some (.int .i64 (fi : Nat)) ∧ w'.cell? ⟨w.heap.size, 6, none⟩ = some (.int .i64 pl) ∧ w'.cell? ⟨w.heap.size, 7, none⟩ = some (.int .i64 ne) ∧ w'.cell? ⟨w.heap.size, 8, none⟩ = some (.int .i64 us))) := fun w' hb => ⟨cell_up hb c0, cell_up hb c1, cell_up hb c2, cell_up hb c3, cell_up hb c4, cell_up hb c5, cell_up hb c6, cell_up hb c7, cell_up hb c8⟩
  clear hrow
  go_cut [2] (fun f wd => ThAt wd f (.put ((ge : Int) % 2) (supL ge ep ar le st fi)) ∧ (∃ b1 b2, f = .func (.func 77) #[] #[.pointer (some ⟨b1, 0, none⟩), .pointer (some ⟨b2, 0, none⟩)]) ∧ Below w.heap.size w wd)
  case first =>
    go_region_held3 (fun w' => w'.cell? ⟨w.heap.size, 0, none⟩ = some (.int .i64 (ge : Nat)) ∧ w'.cell? ⟨w.heap.size, 1, none⟩ = some (.int .i64 (ep : Nat)) ∧ w'.cell? ⟨w.heap.size, 2, none⟩ = some (.int .i64 (ar : Nat)) ∧ w'.cell? ⟨w.heap.size, 3, none⟩ = some (.int .i64 (le : Nat)) ∧ w'.cell? ⟨w.heap.size, 4, none⟩ = some (.int .i64 (st : Nat)) ∧ w'.cell? ⟨w.heap.size, 5, none⟩ = some (.int .i64 (fi : Nat)) ∧ w'.cell? ⟨w.heap.size, 6, none⟩ = some (.int .i64 pl) ∧ w'.cell? ⟨w.heap.size, 7, none⟩ = some (.int .i64 ne) ∧ w'.cell? ⟨w.heap.size, 8, none⟩ = some (.int .i64 us))
      (exact unhide KS _ (by repeat (first | exact Below.refl _ _ | exact hbp | exact hbu | exact hbs | apply Below.drew | apply bl_alloc)))
      (first
        | (go_at_call 79; refine (superSec_any ge ep ar le st fi pl ne us _ hge).mono ?_; rintro e ws ⟨rfl, bs⟩; have hbs : Below W.heap.size W ws := bl_trans (by repeat (first | exact Below.refl _ _ | exact hbp | exact hbu | exact hbs | apply Below.drew | apply bl_alloc)) bs)
        | (go_at_call 80; refine (superblock_any ge ep ar le st fi pl ne us _).mono ?_; rintro e wu ⟨u, rfl, tu, bu⟩; have hbu : Below W.heap.size W wu := bl_trans (by repeat (first | exact Below.refl _ _ | exact hbp | exact hbu | exact hbs | apply Below.drew | apply bl_alloc)) bu; have hBu := tu.bts; clear tu; have hU := id hBu; obtain ⟨ua, uc, rfl, _, _⟩ := hU)
        | (go_at_call 41; refine (thPut_some _ _ ⟨_, _, _, rfl⟩ (supL ge ep ar le st fi) _ hBu).mono ?_; rintro e wp ⟨f, rfl, hth, hff, bp⟩; have hbp : Below W.heap.size W wp := bl_trans (by repeat (first | exact Below.refl _ _ | exact hbp | exact hbu | exact hbs | apply Below.drew | apply bl_alloc)) bp))
    all_goals
      go_wp2
      go_meet
      case rel => exact ⟨hth, hff, bl_trans hbW hbp⟩
  case rest =>
  obtain ⟨hth, hff, hb⟩ := hcut
  go_wp2
  go_ret
  exact ⟨_, rfl, hth, hff, hb⟩
end Go.Proofs.Ytjahaccplchmnaa
