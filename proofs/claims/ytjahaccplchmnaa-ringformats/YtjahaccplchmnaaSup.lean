/- The bytes of a superblock: icehouseref.superOf, ring.superblock. -/
import Derived.Test.YtjahaccplchmnaaHdo
import Derived.Test.YtjahaccplchmnaaJoi
import Derived.Deep.RegionHeld3
import Derived.Deep.DeepCutAuto
namespace Go.Proofs.Ytjahaccplchmnaa
open Go.RowKit
set_option maxRecDepth 100000
set_option linter.unusedVariables false
set_option linter.unusedSimpArgs false
theorem RowsAt.list {w : World} {us : List Value} {xss : List (List Int)} {t : TypeId} (hl : us.length = xss.length) (hm : xss.length ≤ maxLen) (h : ∀ i, i < xss.length → ∃ u, us[i]? = some u ∧ Bts w u (xss.getD i [])) :
    RowsAt (w.alloc (.cells us.toArray t)) (.slice (some ⟨w.heap.size, 0, none⟩) xss.length xss.length) xss := by
  refine ⟨_, xss.length, rfl, Nat.le_refl _, hm, fun i hi => ?_⟩
  obtain ⟨u, e, hu⟩ := h i hi
  exact ⟨w.heap.size, 0, rfl, u, by rw [World.cell?_alloc_at _ _ _ _ rfl, Nat.zero_add]; simpa using e, hu.up (bl1 _ _)⟩
def supP (ge ep ar le st fi : Nat) : List (List Int) := [be 4 ge, be 4 ep, be 1 ar, be 4 le, be 2 st, be 4 fi]
/-- The bytes that a superblock tells. -/
def supL (ge ep ar le st fi : Nat) : List Int := (supP ge ep ar le st fi).flatten
theorem supL_len (ge ep ar le st fi : Nat) : (supL ge ep ar le st fi).length = 19 := by simp [supL, supP, be_len]
theorem big_eq {args : Array Value} (m n : Nat) (w : World) (h : args = #[.int .i64 (n : Int), .int .i64 (m : Int)]) (hm : m ≤ 4) (hm0 : 0 < m) (hn : n ≤ 4294967295) :
    Calls Try.prog 89 args w fun e w' => ∃ u, e = .returned u ∧ Own w' w.heap.size u (be m n) ∧ Below w.heap.size w w' := by subst h; exact big_any m n w hm hm0 hn
set_option maxHeartbeats 4000000 in
theorem superOf_any (ge ep ar le st fi : Nat) (pl ne us : Int) (w : World) (hge : ge ≤ 4294967295) (hep : ep ≤ 4294967295) (har : ar ≤ 4294967295) (hle : le ≤ 4294967295) (hst : st ≤ 4294967295) (hfi : fi ≤ 4294967295) :
    Calls Try.prog 46 #[.agg #[.int .i64 (ge : Nat), .int .i64 (ep : Nat), .int .i64 (ar : Nat), .int .i64 (le : Nat), .int .i64 (st : Nat), .int .i64 (fi : Nat), .int .i64 pl, .int .i64 ne, .int .i64 us]] w fun e w' => ∃ u, e = .returned u ∧ Bts w' u (supL ge ep ar le st fi) ∧ Below w.heap.size w w' := by
  go_enter Try.func46, Try.ntmps46
  go_upto_region 1 with fail
  obtain ⟨W, hW⟩ : ∃ W, W = w.alloc (.cells #[.int .i64 (ge : Nat), .int .i64 (ep : Nat), .int .i64 (ar : Nat), .int .i64 (le : Nat), .int .i64 (st : Nat), .int .i64 (fi : Nat), .int .i64 pl, .int .i64 ne, .int .i64 us] 31) := ⟨_, rfl⟩
  have hbW : Below w.heap.size w W := by rw [hW]; exact bl1 _ _
  have hrow : Row W w.heap.size 31 [.int .i64 (ge : Nat), .int .i64 (ep : Nat), .int .i64 (ar : Nat), .int .i64 (le : Nat), .int .i64 (st : Nat), .int .i64 (fi : Nat), .int .i64 pl, .int .i64 ne, .int .i64 us] := by rw [hW]; exact Row.new _ _ _
  rw [← hW]
  clear hW
  have c0 := hrow.cell 0 _ rfl
  have c1 := hrow.cell 1 _ rfl
  have c2 := hrow.cell 2 _ rfl
  have c3 := hrow.cell 3 _ rfl
  have c4 := hrow.cell 4 _ rfl
  have c5 := hrow.cell 5 _ rfl
  have KS : Hid (∀ w', Below W.heap.size W w' → (w'.cell? ⟨w.heap.size, 0, none⟩ = some (.int .i64 (ge : Nat)) ∧ w'.cell? ⟨w.heap.size, 1, none⟩ = some (.int .i64 (ep : Nat)) ∧ w'.cell? ⟨w.heap.size, 2, none⟩ = some (.int .i64 (ar : Nat)) ∧ w'.cell? ⟨w.heap.size, 3, none⟩ = some (.int .i64 (le : Nat)) ∧ w'.cell? ⟨w.heap.size, 4, none⟩ = some (.int .i64 (st : Nat)) ∧ w'.cell? ⟨w.heap.size, 5, none⟩ = some (.int .i64 (fi : Nat)))) := fun w' hb => ⟨cell_up hb c0, cell_up hb c1, cell_up hb c2, cell_up hb c3, cell_up hb c4, cell_up hb c5⟩
  clear hrow
  go_cut [2] (fun u wd => Bts wd u (supL ge ep ar le st fi) ∧ Below w.heap.size w wd)
  case first =>
    go_region_held3 (fun w' => w'.cell? ⟨w.heap.size, 0, none⟩ = some (.int .i64 (ge : Nat)) ∧ w'.cell? ⟨w.heap.size, 1, none⟩ = some (.int .i64 (ep : Nat)) ∧ w'.cell? ⟨w.heap.size, 2, none⟩ = some (.int .i64 (ar : Nat)) ∧ w'.cell? ⟨w.heap.size, 3, none⟩ = some (.int .i64 (le : Nat)) ∧ w'.cell? ⟨w.heap.size, 4, none⟩ = some (.int .i64 (st : Nat)) ∧ w'.cell? ⟨w.heap.size, 5, none⟩ = some (.int .i64 (fi : Nat)))
      (exact unhide KS _ (by repeat (first | exact Below.refl _ _ | exact hbj | exact hb5 | exact hb4 | exact hb3 | exact hb2 | exact hb1 | exact hb0 | apply Below.drew | apply bl_alloc)))
      (first
        | (go_at_call 89; refine (big_eq 4 ge _ ?_ (by decide) (by decide) hge).mono ?_; (focus (exact rfl)); rintro e w0 ⟨u0, rfl, t0, b0⟩; have hb0 : Below W.heap.size W w0 := bl_trans (by repeat (first | exact Below.refl _ _ | exact hbj | exact hb5 | exact hb4 | exact hb3 | exact hb2 | exact hb1 | exact hb0 | apply Below.drew | apply bl_alloc)) b0; have r0 := t0.bts; clear t0; obtain ⟨va0, vc0, rfl, _, _⟩ := id r0)
        | (go_at_call 89; refine (big_eq 4 ep _ ?_ (by decide) (by decide) hep).mono ?_; (focus (exact rfl)); rintro e w1 ⟨u1, rfl, t1, b1⟩; have hb1 : Below W.heap.size W w1 := bl_trans (by repeat (first | exact Below.refl _ _ | exact hbj | exact hb5 | exact hb4 | exact hb3 | exact hb2 | exact hb1 | exact hb0 | apply Below.drew | apply bl_alloc)) b1; have r1 := t1.bts; clear t1; obtain ⟨va1, vc1, rfl, _, _⟩ := id r1; have r0 := r0.up b1)
        | (go_at_call 89; refine (big_eq 1 ar _ ?_ (by decide) (by decide) har).mono ?_; (focus (exact rfl)); rintro e w2 ⟨u2, rfl, t2, b2⟩; have hb2 : Below W.heap.size W w2 := bl_trans (by repeat (first | exact Below.refl _ _ | exact hbj | exact hb5 | exact hb4 | exact hb3 | exact hb2 | exact hb1 | exact hb0 | apply Below.drew | apply bl_alloc)) b2; have r2 := t2.bts; clear t2; obtain ⟨va2, vc2, rfl, _, _⟩ := id r2; have r0 := r0.up b2; have r1 := r1.up b2)
        | (go_at_call 89; refine (big_eq 4 le _ ?_ (by decide) (by decide) hle).mono ?_; (focus (exact rfl)); rintro e w3 ⟨u3, rfl, t3, b3⟩; have hb3 : Below W.heap.size W w3 := bl_trans (by repeat (first | exact Below.refl _ _ | exact hbj | exact hb5 | exact hb4 | exact hb3 | exact hb2 | exact hb1 | exact hb0 | apply Below.drew | apply bl_alloc)) b3; have r3 := t3.bts; clear t3; obtain ⟨va3, vc3, rfl, _, _⟩ := id r3; have r0 := r0.up b3; have r1 := r1.up b3; have r2 := r2.up b3)
        | (go_at_call 89; refine (big_eq 2 st _ ?_ (by decide) (by decide) hst).mono ?_; (focus (exact rfl)); rintro e w4 ⟨u4, rfl, t4, b4⟩; have hb4 : Below W.heap.size W w4 := bl_trans (by repeat (first | exact Below.refl _ _ | exact hbj | exact hb5 | exact hb4 | exact hb3 | exact hb2 | exact hb1 | exact hb0 | apply Below.drew | apply bl_alloc)) b4; have r4 := t4.bts; clear t4; obtain ⟨va4, vc4, rfl, _, _⟩ := id r4; have r0 := r0.up b4; have r1 := r1.up b4; have r2 := r2.up b4; have r3 := r3.up b4)
        | (go_at_call 89; refine (big_eq 4 fi _ ?_ (by decide) (by decide) hfi).mono ?_; (focus (exact rfl)); rintro e w5 ⟨u5, rfl, t5, b5⟩; have hb5 : Below W.heap.size W w5 := bl_trans (by repeat (first | exact Below.refl _ _ | exact hbj | exact hb5 | exact hb4 | exact hb3 | exact hb2 | exact hb1 | exact hb0 | apply Below.drew | apply bl_alloc)) b5; have r5 := t5.bts; clear t5; obtain ⟨va5, vc5, rfl, _, _⟩ := id r5; have r0 := r0.up b5; have r1 := r1.up b5; have r2 := r2.up b5; have r3 := r3.up b5; have r4 := r4.up b5)
        | (go_at_call 38; refine (joined_any _ (supP ge ep ar le st fi) _ (RowsAt.list (us := [.slice va0 (be 4 ge).length vc0, .slice va1 (be 4 ep).length vc1, .slice va2 (be 1 ar).length vc2, .slice va3 (be 4 le).length vc3, .slice va4 (be 2 st).length vc4, .slice va5 (be 4 fi).length vc5]) rfl (by unfold maxLen; simp [supP]) (fun i hi => by match i, hi with | 0, _ => exact ⟨_, rfl, r0⟩ | 1, _ => exact ⟨_, rfl, r1⟩ | 2, _ => exact ⟨_, rfl, r2⟩ | 3, _ => exact ⟨_, rfl, r3⟩ | 4, _ => exact ⟨_, rfl, r4⟩ | 5, _ => exact ⟨_, rfl, r5⟩)) (by show (supL ge ep ar le st fi).length ≤ _; rw [supL_len]; decide)).mono ?_; rintro e wj ⟨uj, rfl, tj, bj⟩; have hbj : Below W.heap.size W wj := bl_trans (by repeat (first | exact Below.refl _ _ | exact hbj | exact hb5 | exact hb4 | exact hb3 | exact hb2 | exact hb1 | exact hb0 | apply Below.drew | apply bl_alloc)) bj))
    all_goals
      go_wp2
      go_meet
      case rel => exact ⟨tj.bts, bl_trans hbW hbj⟩
  case rest =>
  obtain ⟨hB, hb⟩ := hcut
  go_wp2
  go_ret
  exact ⟨_, rfl, hB, hb⟩
set_option maxHeartbeats 4000000 in
theorem superblock_any (ge ep ar le st fi : Nat) (pl ne us : Int) (w : World) :
    Calls Try.prog 80 #[.agg #[.int .i64 (ge : Nat), .int .i64 (ep : Nat), .int .i64 (ar : Nat), .int .i64 (le : Nat), .int .i64 (st : Nat), .int .i64 (fi : Nat), .int .i64 pl, .int .i64 ne, .int .i64 us]] w fun e w' => ∃ u, e = .returned u ∧ Own w' w.heap.size u (supL ge ep ar le st fi) ∧ Below w.heap.size w w' := by
  go_enter Try.func80, Try.ntmps80
  go_upto_region 1 with fail
  obtain ⟨W, hW⟩ : ∃ W, W = w.alloc (.cells #[.int .i64 (ge : Nat), .int .i64 (ep : Nat), .int .i64 (ar : Nat), .int .i64 (le : Nat), .int .i64 (st : Nat), .int .i64 (fi : Nat), .int .i64 pl, .int .i64 ne, .int .i64 us] 31) := ⟨_, rfl⟩
  have hbW : Below w.heap.size w W := by rw [hW]; exact bl1 _ _
  have hrow : Row W w.heap.size 31 [.int .i64 (ge : Nat), .int .i64 (ep : Nat), .int .i64 (ar : Nat), .int .i64 (le : Nat), .int .i64 (st : Nat), .int .i64 (fi : Nat), .int .i64 pl, .int .i64 ne, .int .i64 us] := by rw [hW]; exact Row.new _ _ _
  have hsW : w.heap.size ≤ W.heap.size := hbW.size
  have HROW := hide hrow
  rw [← hW]
  clear hW
  have c0 := hrow.cell 0 _ rfl
  go_wp2_with fail
  refine (numApp_any 4 (ge : Nat) W.heap.size _ ([]) _ (own0 _ _) (Nat.le_refl _) (by decide) (by decide) (by simp [be_len])).mono ?_
  rintro e w0 ⟨u0, rfl, t0, b0⟩
  have hb0 : Below W.heap.size W w0 := b0
  have HO0 := hide t0
  clear t0 c0
  have hrow0 : Row w0 w.heap.size 31 [.int .i64 (ge : Nat), .int .i64 (ep : Nat), .int .i64 (ar : Nat), .int .i64 (le : Nat), .int .i64 (st : Nat), .int .i64 (fi : Nat), .int .i64 pl, .int .i64 ne, .int .i64 us] := (unhide HROW).up hb0
  have hrow := hrow0
  have c1 := hrow.cell 1 _ rfl
  go_wp2_with fail
  refine (numApp_any 4 (ep : Nat) W.heap.size _ ([] ++ be 4 (ge : Nat)) _ (unhide HO0) hb0.size (by decide) (by decide) (by simp [be_len])).mono ?_
  rintro e w1 ⟨u1, rfl, t1, b1⟩
  have hb1 : Below W.heap.size W w1 := hb0.trans b1
  have HO1 := hide t1
  clear t1 c1
  have hrow0 : Row w1 w.heap.size 31 [.int .i64 (ge : Nat), .int .i64 (ep : Nat), .int .i64 (ar : Nat), .int .i64 (le : Nat), .int .i64 (st : Nat), .int .i64 (fi : Nat), .int .i64 pl, .int .i64 ne, .int .i64 us] := (unhide HROW).up hb1
  have hrow := hrow0
  have c2 := hrow.cell 2 _ rfl
  go_wp2_with fail
  refine (numApp_any 1 (ar : Nat) W.heap.size _ ([] ++ be 4 (ge : Nat) ++ be 4 (ep : Nat)) _ (unhide HO1) hb1.size (by decide) (by decide) (by simp [be_len])).mono ?_
  rintro e w2 ⟨u2, rfl, t2, b2⟩
  have hb2 : Below W.heap.size W w2 := hb1.trans b2
  have HO2 := hide t2
  clear t2 c2
  have hrow0 : Row w2 w.heap.size 31 [.int .i64 (ge : Nat), .int .i64 (ep : Nat), .int .i64 (ar : Nat), .int .i64 (le : Nat), .int .i64 (st : Nat), .int .i64 (fi : Nat), .int .i64 pl, .int .i64 ne, .int .i64 us] := (unhide HROW).up hb2
  have hrow := hrow0
  have c3 := hrow.cell 3 _ rfl
  go_wp2_with fail
  refine (numApp_any 4 (le : Nat) W.heap.size _ ([] ++ be 4 (ge : Nat) ++ be 4 (ep : Nat) ++ be 1 (ar : Nat)) _ (unhide HO2) hb2.size (by decide) (by decide) (by simp [be_len])).mono ?_
  rintro e w3 ⟨u3, rfl, t3, b3⟩
  have hb3 : Below W.heap.size W w3 := hb2.trans b3
  have HO3 := hide t3
  clear t3 c3
  have hrow0 : Row w3 w.heap.size 31 [.int .i64 (ge : Nat), .int .i64 (ep : Nat), .int .i64 (ar : Nat), .int .i64 (le : Nat), .int .i64 (st : Nat), .int .i64 (fi : Nat), .int .i64 pl, .int .i64 ne, .int .i64 us] := (unhide HROW).up hb3
  have hrow := hrow0
  have c4 := hrow.cell 4 _ rfl
  go_wp2_with fail
  refine (numApp_any 2 (st : Nat) W.heap.size _ ([] ++ be 4 (ge : Nat) ++ be 4 (ep : Nat) ++ be 1 (ar : Nat) ++ be 4 (le : Nat)) _ (unhide HO3) hb3.size (by decide) (by decide) (by simp [be_len])).mono ?_
  rintro e w4 ⟨u4, rfl, t4, b4⟩
  have hb4 : Below W.heap.size W w4 := hb3.trans b4
  have HO4 := hide t4
  clear t4 c4
  have hrow0 : Row w4 w.heap.size 31 [.int .i64 (ge : Nat), .int .i64 (ep : Nat), .int .i64 (ar : Nat), .int .i64 (le : Nat), .int .i64 (st : Nat), .int .i64 (fi : Nat), .int .i64 pl, .int .i64 ne, .int .i64 us] := (unhide HROW).up hb4
  have hrow := hrow0
  have c5 := hrow.cell 5 _ rfl
  go_wp2_with fail
  refine (numApp_any 4 (fi : Nat) W.heap.size _ ([] ++ be 4 (ge : Nat) ++ be 4 (ep : Nat) ++ be 1 (ar : Nat) ++ be 4 (le : Nat) ++ be 2 (st : Nat)) _ (unhide HO4) hb4.size (by decide) (by decide) (by simp [be_len])).mono ?_
  rintro e w5 ⟨u5, rfl, t5, b5⟩
  have hb5 : Below W.heap.size W w5 := hb4.trans b5
  have HO5 := hide t5
  clear t5 c5
  have hrow0 : Row w5 w.heap.size 31 [.int .i64 (ge : Nat), .int .i64 (ep : Nat), .int .i64 (ar : Nat), .int .i64 (le : Nat), .int .i64 (st : Nat), .int .i64 (fi : Nat), .int .i64 pl, .int .i64 ne, .int .i64 us] := (unhide HROW).up hb5
  have hrow := hrow0
  go_wp2
  go_ret
  refine ⟨_, rfl, ?_, bl_trans hbW hb5⟩
  have := Own.base (B' := w.heap.size) (unhide HO5) hsW
  simpa [supL, supP] using this
end Go.Proofs.Ytjahaccplchmnaa
