/- HotBad: whatever comes in, the law answers true. No condition. -/
import Derived.Test.YtjaedigjmgfakaaPut
import Derived.Test.YtjaedigjmgfakaaFlC
import Derived.Test.YtjaedigjmgfakaaArmC
import Derived.Test.YtjaedigjmgfakaaR4
import Derived.Deep.DeepCutAuto
import Derived.Test.YtjaedigjmgfakaaRom
import Derived.Test.YtjaedigjmgfakaaGet2
import Derived.Deep.RegionLaw
import Derived.Deep.AppendLies
import Derived.Test.YtjaedigjmgfakaaOkd
import Derived.Test.YtjaedigjmgfakaaKp1
import Derived.Lib.Strings
import Derived.Test.YtjaedigjmgfakaaKd
import Derived.Test.YtjaedigjmgfakaaSev
import Derived.Test.YtjaedigjmgfakaaNew
import Derived.Test.YtjaedigjmgfakaaGrw
import Derived.Deep.RegionHeld3
import Derived.Test.YtjaedigjmgfakaaBase
import Derived.ProofKit
import Derived.OpenShut
import Derived.ChangeOld
import Derived.ChangeMaps5
import Derived.Deep.Slices
/- Things that are done to devices: things.Put, its closure. -/
namespace Go.Proofs.Ytjaedigjmgfakaa
open Go.RowKit
set_option linter.unusedVariables false
set_option linter.unusedSimpArgs false

/-- A thing: to put bytes in a sector, or to flush. -/
inductive Th where
  | put (pos : Int) (bs : List Int)
  | flush
def thE (r a h vm nv : Int) (D : Dv) : Th → Int
  | .put p xs => putE D p xs.length (chkE r a h vm nv D)
  | .flush => marE D (chkE r a h vm nv D)
def thD (D : Dv) (e : Int) : Th → Dv
  | .put p xs => putD D p xs e
  | .flush => fluD D e

set_option maxHeartbeats 1000000 in
set_option maxRecDepth 100000 in
theorem put1_any (r a h vm nv : Int) (s c v : Value) (D : Dv) (b1 b2 : Nat) (x : Int) (bv : Value) (xs : List Int) (w : World) (hD : Dev w s c v D) (h1 : w.cell? ⟨b1, 0, none⟩ = some (.int .i64 x)) (h2 : w.cell? ⟨b2, 0, none⟩ = some bv) (hB : Bts w bv xs) :
    Calls Try.prog 45 #[.agg #[.int .i64 r, .int .i64 a, .int .i64 h, .int .i64 vm, .int .i64 nv], .agg #[s, c, v, .int .i64 D.fuel], .pointer (some ⟨b1, 0, none⟩), .pointer (some ⟨b2, 0, none⟩)] w fun e w' =>
      ∃ s' c' v', e = .returned (.tuple #[.agg #[s', c', v', .int .i64 (putD D x xs (putE D x xs.length (chkE r a h vm nv D))).fuel], .int .i64 (putE D x xs.length (chkE r a h vm nv D))]) ∧ ODev w' w.heap.size s' c' v' (putD D x xs (putE D x xs.length (chkE r a h vm nv D))) ∧ Below w.heap.size w w' := by
  have HD := hide hD
  have HB := hide hB
  obtain ⟨ba, bc, rfl, _, _, _⟩ := hB
  have hl1 : b1 < w.heap.size := World.block_lt_of_cell? w _ h1
  have hl2 : b2 < w.heap.size := World.block_lt_of_cell? w _ h2
  clear hD
  obtain ⟨E, hE⟩ : ∃ E, putE D x xs.length (chkE r a h vm nv D) = E := ⟨_, rfl⟩
  have HE := hide hE
  obtain ⟨Z, hZ⟩ : ∃ Z, putD D x xs E = Z := ⟨_, rfl⟩
  have HZ := hide hZ
  rw [hE, hZ]
  clear hE hZ
  go_enter Try.func45, Try.ntmps45
  go_upto_region 1 with fail
  obtain ⟨W0, hW0⟩ : ∃ W0, W0 = ((w.alloc (.cells #[.int .i64 r, .int .i64 a, .int .i64 h, .int .i64 vm, .int .i64 nv] 24)).alloc (.cells #[s, c, v, .int .i64 D.fuel] 34)).alloc (.cells #[.slice none 0 0, .slice none 0 0, .slice none 0 0, .int .i64 0] 34) := ⟨_, rfl⟩
  have hbW : Below w.heap.size w W0 := by rw [hW0]; exact bl3 _ _ _ _
  have hk : ∀ w', Below W0.heap.size W0 w' → Row w' (w.heap.size + 1 + 1) 34 [.slice none 0 0, .slice none 0 0, .slice none 0 0, .int .i64 0] := fun w' hb => by rw [hW0] at hb; exact box3r (cs := [.slice none 0 0, .slice none 0 0, .slice none 0 0, .int .i64 0]) hb
  have hcs : ∀ w', Below W0.heap.size W0 w' → (w'.cell? ⟨w.heap.size, 0, none⟩ = some (.int .i64 r) ∧ w'.cell? ⟨w.heap.size, 1, none⟩ = some (.int .i64 a) ∧ w'.cell? ⟨w.heap.size, 2, none⟩ = some (.int .i64 h) ∧ w'.cell? ⟨w.heap.size, 3, none⟩ = some (.int .i64 vm) ∧ w'.cell? ⟨w.heap.size, 4, none⟩ = some (.int .i64 nv)) ∧ w'.cell? ⟨w.heap.size + 1, 0, none⟩ = some s ∧ w'.cell? ⟨w.heap.size + 1, 1, none⟩ = some c ∧ w'.cell? ⟨w.heap.size + 1, 2, none⟩ = some v ∧ w'.cell? ⟨w.heap.size + 1, 3, none⟩ = some (.int .i64 D.fuel) := fun w' hb => by
    rw [hW0] at hb
    exact ⟨⟨box3a hb 0 rfl, box3a hb 1 rfl, box3a hb 2 rfl, box3a hb 3 rfl, box3a hb 4 rfl⟩, box3b hb 0 rfl, box3b hb 1 rfl, box3b hb 2 rfl, box3b hb 3 rfl⟩
  rw [← hW0]
  have HKK := hide hk
  clear hW0 hk
  obtain ⟨⟨g0, g1, g2, g3, g4⟩, f0, f1, f2, f3⟩ := hcs _ (Below.refl _ _)
  clear hcs
  replace h1 := cell_up hbW h1
  replace h2 := cell_up hbW h2
  go_wp2_with fail
  refine (put_any r a h vm nv s c v D x _ xs _ ((unhide HD).up hbW) ((unhide HB).up hbW)).mono ?_
  rintro e w1 ⟨s', c', v', rfl, hO, hb1⟩
  rw [unhide HE, unhide HZ] at hO ⊢
  have hb0 : Below w.heap.size w w1 := bl_trans hbW hb1
  have hR := unhide HKK _ hb1
  have hs1 := hbW.size
  have d0 := hR.cell 0 _ rfl
  have d1 := hR.cell 1 _ rfl
  have d2 := hR.cell 2 _ rfl
  have d3 := hR.cell 3 _ rfl
  have df := hR.unfrozen
  have HR := hide hR
  have hod := hO.dev
  obtain ⟨⟨y1, z1, rfl, _⟩, ⟨y2, z2, rfl, _⟩, ⟨y3, z3, rfl, _⟩⟩ := hod
  have HO := hide hO
  clear hb1 hR hO h1 h2 g0 g1 g2 g3 g4 f0 f1 f2 f3
  go_wp2
  refine bodyPost_ret (v := .tuple #[.agg #[.slice y1 Z.safe.length z1, .slice y2 Z.cache.length z2, .slice y3 Z.vols.length z3, .int .i64 Z.fuel], .int .i64 E]) (by simp [results, Try.results45, go_sem, *]) rfl ⟨_, _, _, rfl, ?_, ?_⟩
  · refine ODev.base ((unhide HO).kept (unhide HR) (by decide) (by decide) (by decide) (by decide) ?_) hs1
    repeat (first | exact gb_refl _ _ | refine gb_set ?_ _ _)
  · repeat (first | exact hb0 | refine bl_set ?_ (by simp <;> omega) _)
end Go.Proofs.Ytjaedigjmgfakaa

/- Things that are done to devices, one behind the other: things.Do. -/
namespace Go.Proofs.Ytjaedigjmgfakaa
open Go.RowKit
set_option linter.unusedVariables false
set_option linter.unusedSimpArgs false

def doE (r a h vm nv : Int) : Dv → List Th → Int
  | _, [] => 0
  | D, t :: ts => if thE r a h vm nv D t = 0 then doE r a h vm nv (thD D 0 t) ts else thE r a h vm nv D t
def doD (r a h vm nv : Int) : Dv → List Th → Dv
  | D, [] => D
  | D, t :: ts => if thE r a h vm nv D t = 0 then doD r a h vm nv (thD D 0 t) ts else if thE r a h vm nv D t = 10 then D else nilD
theorem drop_at {ths : List Th} {k : Nat} (h : k < ths.length) : ths.drop k = ths.getD k .flush :: ths.drop (k + 1) := by
  rw [List.drop_eq_getElem_cons h]; simp [List.getD, h]
theorem thE_10 {r a h vm nv : Int} {D : Dv} {t : Th} (h10 : thE r a h vm nv D t = 10) : chkE r a h vm nv D = 0 ∧ D.fuel = 0 := by
  have hc : chkE r a h vm nv D = 0 ∨ chkE r a h vm nv D = 9 ∨ chkE r a h vm nv D = 2 := by
    unfold chkE
    split
    · split <;> omega
    · omega
  cases t with
  | put p xs =>
    change putE D p xs.length (chkE r a h vm nv D) = 10 at h10
    unfold putE at h10
    split at h10
    · rename_i hh
      refine ⟨hh, ?_⟩
      split at h10
      · split at h10
        · omega
        · split at h10
          · omega
          · split at h10
            · assumption
            · omega
      · omega
    · omega
  | flush =>
    change marE D (chkE r a h vm nv D) = 10 at h10
    unfold marE at h10
    split at h10
    · rename_i hh
      refine ⟨hh, ?_⟩
      split at h10
      · assumption
      · omega
    · omega

theorem thD_bad {D : Dv} {e : Int} {t : Th} (h : e ≠ 0) : thD D e t = nilD := by
  cases t with
  | put p xs => simp [thD, putD, h]
  | flush => simp [thD, fluD, h]

/-- The value f is a thing. -/
def ThAt (w : World) (f : Value) : Th → Prop
  | .put x xs => ∃ b1 b2 bv, f = .func (.func 45) #[] #[.pointer (some ⟨b1, 0, none⟩), .pointer (some ⟨b2, 0, none⟩)] ∧ w.cell? ⟨b1, 0, none⟩ = some (.int .i64 x) ∧ w.cell? ⟨b2, 0, none⟩ = some bv ∧ Bts w bv xs
  | .flush => f = .func (.func 29) #[] #[]
theorem ThAt.up {w w' : World} {f : Value} {t : Th} (h : ThAt w f t) (hb : Below w.heap.size w w') : ThAt w' f t := by
  cases t with
  | put x xs => obtain ⟨b1, b2, bv, e, h1, h2, h3⟩ := h; exact ⟨b1, b2, bv, e, cell_up hb h1, cell_up hb h2, h3.up hb⟩
  | flush => exact h
def ThsAt (w : World) (v : Value) (ths : List Th) : Prop :=
  ∃ a cap, v = .slice a ths.length cap ∧ ths.length ≤ cap ∧ cap ≤ maxLen ∧ ∀ i, i < ths.length → ∃ b o, a = some ⟨b, o, none⟩ ∧ ∃ f, w.cell? ⟨b, o + i, none⟩ = some f ∧ ThAt w f (ths.getD i .flush)
theorem ThsAt.up {w w' : World} {v : Value} {ths : List Th} (h : ThsAt w v ths) (hb : Below w.heap.size w w') : ThsAt w' v ths := by
  obtain ⟨a, cap, rfl, h1, h2, h3⟩ := h
  refine ⟨a, cap, rfl, h1, h2, fun i hi => ?_⟩
  obtain ⟨b, o, e, f, hc, hf⟩ := h3 i hi
  exact ⟨b, o, e, f, cell_up hb hc, hf.up hb⟩

set_option maxHeartbeats 4000000 in
set_option maxRecDepth 100000 in
theorem do_any (r a h vm nv : Int) (s c v : Value) (D : Dv) (lv : Value) (ths : List Th) (w : World) (hD : Dev w s c v D) (hl : ThsAt w lv ths) (hne : 0 < ths.length) :
    Calls Try.prog 28 #[.agg #[.int .i64 r, .int .i64 a, .int .i64 h, .int .i64 vm, .int .i64 nv], .agg #[s, c, v, .int .i64 D.fuel], lv] w fun e w' =>
      ∃ s' c' v', e = .returned (.tuple #[.agg #[s', c', v', .int .i64 (doD r a h vm nv D ths).fuel], .int .i64 (doE r a h vm nv D ths)]) ∧ ODev w' w.heap.size s' c' v' (doD r a h vm nv D ths) ∧ Below w.heap.size w w' := by
  have HD := hide hD
  have HL := hide hl
  obtain ⟨la, lc, rfl, ll, lm, hlc⟩ := hl
  unfold maxLen at lm
  have HLC := hide hlc
  clear hD hlc
  obtain ⟨FE, hFE⟩ : ∃ FE, doE r a h vm nv D ths = FE := ⟨_, rfl⟩
  obtain ⟨FD, hFD⟩ : ∃ FD, doD r a h vm nv D ths = FD := ⟨_, rfl⟩
  have HFE := hide hFE
  have HFD := hide hFD
  rw [hFE, hFD]
  clear hFE hFD
  go_enter Try.func28, Try.ntmps28
  go_upto_region 1 with fail
  obtain ⟨W0, hW0⟩ : ∃ W0, W0 = ((w.alloc (.cells #[.int .i64 r, .int .i64 a, .int .i64 h, .int .i64 vm, .int .i64 nv] 24)).alloc (.cells #[s, c, v, .int .i64 D.fuel] 34)).alloc (.cells #[.slice none 0 0, .slice none 0 0, .slice none 0 0, .int .i64 0] 34) := ⟨_, rfl⟩
  have hbW : Below w.heap.size w W0 := by rw [hW0]; exact bl3 _ _ _ _
  have hRG : Row W0 w.heap.size 24 [.int .i64 r, .int .i64 a, .int .i64 h, .int .i64 vm, .int .i64 nv] := by rw [hW0]; exact (Row.new w _ [.int .i64 r, .int .i64 a, .int .i64 h, .int .i64 vm, .int .i64 nv]).up (bl2 _ _ _)
  have hRD : Row W0 (w.heap.size + 1) 34 [s, c, v, .int .i64 D.fuel] := by
    rw [hW0]
    have := (Row.new (w.alloc (.cells #[.int .i64 r, .int .i64 a, .int .i64 h, .int .i64 vm, .int .i64 nv] 24)) 34 [s, c, v, .int .i64 D.fuel]).up (bl1 _ (.cells #[.slice none 0 0, .slice none 0 0, .slice none 0 0, .int .i64 0] 34))
    rw [World.size_alloc] at this
    exact this
  have hRR : Row W0 (w.heap.size + 1 + 1) 34 [.slice none 0 0, .slice none 0 0, .slice none 0 0, .int .i64 0] := by rw [hW0]; exact box3r (cs := [.slice none 0 0, .slice none 0 0, .slice none 0 0, .int .i64 0]) (Below.refl _ _)
  rw [← hW0]
  clear hW0
  have HRG := hide hRG
  have HRD := hide hRD
  have HRR := hide hRR
  clear hRG hRD hRR
  go_wp2
  go_loopw [9, 10, 11, 14] (fun _ _ _ i wr => ∃ (k : Nat) (X : Dv) (s c v : Value), k ≤ ths.length ∧ i = .int .i64 k ∧ Row wr w.heap.size 24 [.int .i64 r, .int .i64 a, .int .i64 h, .int .i64 vm, .int .i64 nv] ∧ Row wr (w.heap.size + 1) 34 [s, c, v, .int .i64 X.fuel] ∧
      Row wr (w.heap.size + 1 + 1) 34 [.slice none 0 0, .slice none 0 0, .slice none 0 0, .int .i64 0] ∧ (ODev wr w.heap.size s c v X ∨ k = 0 ∧ Dev w s c v X) ∧ doE r a h vm nv X (ths.drop k) = FE ∧ doD r a h vm nv X (ths.drop k) = FD ∧ Below w.heap.size w wr) (fun _ _ _ i _ => ths.length - (intOf i).toNat)
  case atStart => exact ⟨0, D, s, c, v, Nat.zero_le _, rfl, unhide HRG, unhide HRD, unhide HRR, .inr ⟨rfl, unhide HD⟩, by rw [List.drop_zero]; exact unhide HFE, by rw [List.drop_zero]; exact unhide HFD, hbW⟩
  case round =>
    obtain ⟨k, X, s, c, v, hk, rfl, hG, hRd, hRr, hX, hE, hDD, hb⟩ := hrel
    have hdev : Dev wr s c v X := by
      rcases hX with q | ⟨_, q⟩
      · exact q.dev
      · exact q.up hb
    have g0 := hG.cell 0 _ rfl
    have g1 := hG.cell 1 _ rfl
    have g2 := hG.cell 2 _ rfl
    have g3 := hG.cell 3 _ rfl
    have g4 := hG.cell 4 _ rfl
    have f0 := hRd.cell 0 _ rfl
    have f1 := hRd.cell 1 _ rfl
    have f2 := hRd.cell 2 _ rfl
    have f3 := hRd.cell 3 _ rfl
    have HX := hide hX
    have HE := hide hE
    have HDD := hide hDD
    have HG := hide hG
    have HRd := hide hRd
    have HRr := hide hRr
    have HDEV := hide hdev
    have hl1 := hRr.lt
    clear hX hE hDD hG hRd hRr HFE HFD HRG HRD HRR
    by_cases hlt : k < ths.length
    · obtain ⟨b, o, rfl, f, hf, hth⟩ := unhide HLC k hlt
      replace hf := cell_up hb hf
      replace hth := hth.up hb
      obtain ⟨t, ht⟩ : ∃ t, ths.getD k .flush = t := ⟨_, rfl⟩
      have hdr := drop_at hlt
      rw [ht] at hth hdr
      have HDR := hide hdr
      clear ht hdr
      obtain ⟨E, hEE⟩ : ∃ E, thE r a h vm nv X t = E := ⟨_, rfl⟩
      have HEE := hide hEE
      clear hEE
      obtain ⟨Z, hZ⟩ : ∃ Z, thD X E t = Z := ⟨_, rfl⟩
      have HZ := hide hZ
      clear hZ
      go_upto_region 4 with fail
      go_cut [10, 11] (fun p e wc => ∃ (B : Nat) (s' c' v' : Value), p = .pointer (some ⟨B, 0, none⟩) ∧ e = .int .i64 E ∧ wr.heap.size ≤ B ∧ Row wc B 34 [s', c', v', .int .i64 Z.fuel] ∧ ODev wc wr.heap.size s' c' v' Z ∧ Below wr.heap.size wr wc)
      case first =>
        cases t with
        | put x xs =>
          obtain ⟨b1, b2, bv, rfl, q1, q2, q3⟩ := hth
          have Q3 := hide q3
          clear q3
          go_wp2_with fail
          refine (put1_any r a h vm nv s c v X b1 b2 x bv xs _ (unhide HDEV) q1 q2 (unhide Q3)).mono ?_
          rintro e w2 ⟨s', c', v', rfl, hO, hb2⟩
          have hEp : putE X x xs.length (chkE r a h vm nv X) = E := unhide HEE
          rw [hEp] at hO ⊢
          have hZp : putD X x xs E = Z := unhide HZ
          rw [hZp] at hO ⊢
          have hs2 := hb2.size
          have hod := hO.dev
          obtain ⟨⟨y1, z1, rfl, _⟩, ⟨y2, z2, rfl, _⟩, ⟨y3, z3, rfl, _⟩⟩ := hod
          clear hEp hZp
          go_wp2
          go_meet
          case rel => exact ⟨_, _, _, _, rfl, rfl, hs2, Row.new _ _ _, hO.up (bl1 _ _), bl_trans hb2 (bl1 _ _)⟩
        | flush =>
          obtain rfl := hth
          go_wp2_with fail
          refine (flush_any r a h vm nv s c v X _ (unhide HDEV)).mono ?_
          rintro e w2 ⟨s', c', v', rfl, hO, hb2⟩
          have hEp : marE X (chkE r a h vm nv X) = E := unhide HEE
          rw [hEp] at hO ⊢
          have hZp : fluD X E = Z := unhide HZ
          rw [hZp] at hO ⊢
          have hs2 := hb2.size
          have hod := hO.dev
          obtain ⟨⟨y1, z1, rfl, _⟩, ⟨y2, z2, rfl, _⟩, ⟨y3, z3, rfl, _⟩⟩ := hod
          clear hEp hZp
          go_wp2
          go_meet
          case rel => exact ⟨_, _, _, _, rfl, rfl, hs2, Row.new _ _ _, hO.up (bl1 _ _), bl_trans hb2 (bl1 _ _)⟩
      case rest =>
        obtain ⟨B, s', c', v', rfl, rfl, hBs, hrB, hO, hbc⟩ := hcut
        have hG2 := (unhide HG).up hbc
        have hRd2 := (unhide HRd).up hbc
        have hRr2 := (unhide HRr).up hbc
        have b0 := hrB.cell 0 _ rfl
        have b1 := hrB.cell 1 _ rfl
        have b2 := hrB.cell 2 _ rfl
        have b3 := hrB.cell 3 _ rfl
        have hbw := bl_trans hb hbc
        have hsz := hbc.size
        have hlc := hRr2.lt
        have hdev2 := hO.dev
        obtain ⟨⟨y1, z1, rfl, _⟩, ⟨y2, z2, rfl, _⟩, ⟨y3, z3, rfl, _⟩⟩ := hdev2
        have hne1 : ¬ B = w.heap.size + 1 := by omega
        have hne2 : ¬ B = w.heap.size + 1 + 1 := by omega
        have HO := hide hO
        have HrB := hide hrB
        have HRd2 := hide hRd2
        have HRr2 := hide hRr2
        have HG2 := hide hG2
        clear hO HRd HRr HG
        by_cases hE0 : E = 0
        · subst hE0
          have hE' : doE r a h vm nv Z (ths.drop (k + 1)) = FE := by
            have := unhide HE
            rw [unhide HDR] at this
            simp only [doE, unhide HEE, if_true] at this
            rw [← this, ← unhide HZ]
          have hD' : doD r a h vm nv Z (ths.drop (k + 1)) = FD := by
            have := unhide HDD
            rw [unhide HDR] at this
            simp only [doD, unhide HEE, if_true] at this
            rw [← this, ← unhide HZ]
          have HE' := hide hE'
          have HD' := hide hD'
          have d0 := hRd2.cell 0 _ rfl
          have d1 := hRd2.cell 1 _ rfl
          have d2 := hRd2.cell 2 _ rfl
          have d3 := hRd2.cell 3 _ rfl
          have df := hRd2.unfrozen
          clear hE' hD' hRd2 hRr2 hG2 hrB g0 g1 g2 g3 g4 f0 f1 f2 f3 hf hth
          go_wp2
          go_roundw
          case rel =>
            have hg := gb_set (gb_set (gb_set (gb_set (gb_refl wc (some (w.heap.size + 1))) 0 (.slice y1 Z.safe.length z1)) 1 (.slice y2 Z.cache.length z2)) 2 (.slice y3 Z.vols.length z3)) 3 (.int .i64 Z.fuel)
            refine ⟨k + 1, Z, _, _, _, by omega, by go_num, (unhide HG2).kept hg (by simp), R4 (unhide HRd2) _ _ _ _, (unhide HRr2).kept hg (by simp), .inl ?_, unhide HE', unhide HD', ?_⟩
            · exact ((unhide HO).kept (unhide HRd2) (by decide) (by decide) (by decide) (by decide) hg).base (by omega)
            · exact bl_gb hbw hg (by omega)
          case measure => (simp [intOf] <;> omega)
        have r0 := hRr2.cell 0 _ rfl
        have r1 := hRr2.cell 1 _ rfl
        have r2 := hRr2.cell 2 _ rfl
        have r3 := hRr2.cell 3 _ rfl
        have rf := hRr2.unfrozen
        have t0 : (E != 0) = true := by simpa using hE0
        have hFE : FE = E := by
          have := unhide HE
          rw [unhide HDR] at this
          simp only [doE, unhide HEE, if_neg hE0] at this
          exact this.symm
        by_cases hE10 : E = 10
        · have h10 : thE r a h vm nv X t = 10 := by rw [unhide HEE]; exact hE10
          obtain ⟨hch, hfu⟩ := thE_10 h10
          have hFD : FD = X := by
            have := unhide HDD
            rw [unhide HDR] at this
            simp only [doD, h10, if_true] at this
            exact this.symm
          have hA0 : armE 0 (chkE r a h vm nv X) = 0 := by rw [hch]; exact armE_t (by decide)
          have hA1 : armD X 0 0 = X := by rw [armD_ok]; cases X; simp at hfu; rw [hfu]
          subst hE10
          obtain rfl := hFE
          obtain rfl := hFD
          have HA0 := hide hA0
          have HA1 := hide hA1
          have e0 := hG2.cell 0 _ rfl
          have e1 := hG2.cell 1 _ rfl
          have e2 := hG2.cell 2 _ rfl
          have e3 := hG2.cell 3 _ rfl
          have e4 := hG2.cell 4 _ rfl
          have d0 := hRd2.cell 0 _ rfl
          have d1 := hRd2.cell 1 _ rfl
          have d2 := hRd2.cell 2 _ rfl
          have d3 := hRd2.cell 3 _ rfl
          clear hA0 hA1 hch hfu h10 hRd2 hRr2 hG2 hrB g0 g1 g2 g3 g4 f0 f1 f2 f3 hf hth hE0
          go_wp2_with fail
          refine (arm_any r a h vm nv s c v FD 0 _ ((unhide HDEV).up hbc)).mono ?_
          rintro e w4 ⟨s4, c4, v4, rfl, hO4, hb4⟩
          rw [unhide HA0, unhide HA1] at hO4 ⊢
          have hdev4 := hO4.dev
          obtain ⟨⟨x1, i1, rfl, _⟩, ⟨x2, i2, rfl, _⟩, ⟨x3, i3, rfl, _⟩⟩ := hdev4
          have hrB4 := (unhide HrB).up hb4
          have hRr4 := (unhide HRr2).up hb4
          have b0 := hrB4.cell 0 _ rfl
          have b1 := hrB4.cell 1 _ rfl
          have b2 := hrB4.cell 2 _ rfl
          have b3 := hrB4.cell 3 _ rfl
          have bf := hrB4.unfrozen
          have HO4 := hide hO4
          have HrB4 := hide hrB4
          have HRr4 := hide hRr4
          have hs4 := hb4.size
          clear hrB4 hRr4 hO4 d0 d1 d2 d3 e0 e1 e2 e3 e4 r0 r1 r2 r3 rf
          go_upto_region 7 with fail
          obtain ⟨W5, hW5⟩ : ∃ W5, W5 = (((w4.setCell ⟨B, 0, none⟩ (.slice x1 FD.safe.length i1)).setCell ⟨B, 1, none⟩ (.slice x2 FD.cache.length i2)).setCell ⟨B, 2, none⟩ (.slice x3 FD.vols.length i3)).setCell ⟨B, 3, none⟩ (.int .i64 FD.fuel) := ⟨_, rfl⟩
          have hg5 : w4.grownBy W5 (some B) := by rw [hW5]; exact gb_set (gb_set (gb_set (gb_set (gb_refl _ _) _ _) _ _) _ _) _ _
          have hr5 : Row W5 B 34 [.slice x1 FD.safe.length i1, .slice x2 FD.cache.length i2, .slice x3 FD.vols.length i3, .int .i64 FD.fuel] := by rw [hW5]; exact R4 (unhide HrB4) _ _ _ _
          rw [← hW5]
          clear hW5
          have hO5 := (unhide HO4).kept (unhide HrB4) (by decide) (by decide) (by decide) (by decide) hg5
          have hRr5 := (unhide HRr4).kept hg5 (by simp; omega)
          have b0 := hr5.cell 0 _ rfl
          have b1 := hr5.cell 1 _ rfl
          have b2 := hr5.cell 2 _ rfl
          have b3 := hr5.cell 3 _ rfl
          have r0 := hRr5.cell 0 _ rfl
          have r1 := hRr5.cell 1 _ rfl
          have r2 := hRr5.cell 2 _ rfl
          have r3 := hRr5.cell 3 _ rfl
          have rf := hRr5.unfrozen
          have hb5 : Below w.heap.size w W5 := bl_gb (bl_trans hbw hb4) hg5 (by omega)
          have HO5 := hide hO5
          have HRr5 := hide hRr5
          clear hO5 hRr5 hr5 hg5 HO4 HRr4 HrB4 bf
          go_wp2
          refine bodyPost_ret (v := .tuple #[.agg #[.slice x1 FD.safe.length i1, .slice x2 FD.cache.length i2, .slice x3 FD.vols.length i3, .int .i64 FD.fuel], .int .i64 10]) (by simp [results, Try.results28, go_sem, *]) rfl ⟨_, _, _, rfl, ?_, ?_⟩
          · exact ((unhide HO5).kept (unhide HRr5) (by decide) (by decide) (by decide) (by decide) (by repeat (first | exact gb_refl _ _ | refine gb_set ?_ _ _))).base (by omega)
          · repeat (first | exact hb5 | refine bl_set ?_ (by simp <;> omega) _)
        · have hFD : FD = Z := by
            have := unhide HDD
            rw [unhide HDR] at this
            simp only [doD, unhide HEE, if_neg hE0, if_neg hE10] at this
            rw [← this, ← unhide HZ, thD_bad hE0]
          have t1 : (E == 10) = false := by simpa using hE10
          obtain rfl := hFE
          obtain rfl := hFD
          clear hRd2 hRr2 hG2 hrB g0 g1 g2 g3 g4 f0 f1 f2 f3 hf hth hE0 hE10
          go_wp2
          refine bodyPost_ret (v := .tuple #[.agg #[.slice y1 FD.safe.length z1, .slice y2 FD.cache.length z2, .slice y3 FD.vols.length z3, .int .i64 FD.fuel], .int .i64 FE]) (by simp [results, Try.results28, go_sem, *]) rfl ⟨_, _, _, rfl, ?_, ?_⟩
          · exact ((unhide HO).kept (unhide HRr2) (by decide) (by decide) (by decide) (by decide) (by repeat (first | exact gb_refl _ _ | refine gb_set ?_ _ _))).base (by omega)
          · repeat (first | exact hbw | refine bl_set ?_ (by simp <;> omega) _)
    · have hE := unhide HE
      have hDD := unhide HDD
      rw [List.drop_of_length_le (by omega)] at hE hDD
      obtain rfl : X = FD := hDD
      obtain rfl : 0 = FE := hE
      have hRr := unhide HRr
      have r0 := hRr.cell 0 _ rfl
      have r1 := hRr.cell 1 _ rfl
      have r2 := hRr.cell 2 _ rfl
      have r3 := hRr.cell 3 _ rfl
      have rf := hRr.unfrozen
      clear hRr
      obtain ⟨⟨y1, z1, rfl, _⟩, ⟨y2, z2, rfl, _⟩, ⟨y3, z3, rfl, _⟩⟩ := hdev
      go_wp2
      refine bodyPost_ret (v := .tuple #[.agg #[.slice y1 X.safe.length z1, .slice y2 X.cache.length z2, .slice y3 X.vols.length z3, .int .i64 X.fuel], .int .i64 0]) (by simp [results, Try.results28, go_sem, *]) rfl ⟨_, _, _, rfl, ?_, ?_⟩
      · rcases unhide HX with q | ⟨e0, _⟩
        · exact q.kept (unhide HRr) (by decide) (by decide) (by decide) (by decide) (by repeat (first | exact gb_refl _ _ | refine gb_set ?_ _ _))
        · exfalso; omega
      · repeat (first | exact hb | refine bl_set ?_ (by simp <;> omega) _)
end Go.Proofs.Ytjaedigjmgfakaa

/- icehouseref.chunks and roomMay. -/
namespace Go.Proofs.Ytjaedigjmgfakaa
open Go.RowKit
set_option linter.unusedVariables false
set_option linter.unusedSimpArgs false

theorem cont_f {l : List Int} {k : Nat} {z : Int} (hk : k ≤ l.length) (h : ∀ j, j < k → ¬ l.getD j 0 = z) : (l.take k).contains z = false := by
  rw [← Bool.not_eq_true, List.contains_iff_mem]
  intro hm
  obtain ⟨j, hj, e⟩ := mem_at.1 hm
  have hjk : j < k := by simp at hj; omega
  refine h j hjk ?_
  rw [← e]
  simp [List.getD, List.getElem?_take, hjk]
theorem cont_t {l : List Int} {k j : Nat} {z : Int} (hk : k ≤ l.length) (hj : j < k) (h : l.getD j 0 = z) : (l.take k).contains z = true := by
  rw [List.contains_iff_mem]
  refine mem_at.2 ⟨j, by simp; omega, ?_⟩
  rw [← h]
  simp [List.getD, List.getElem?_take, hj]

end Go.Proofs.Ytjaedigjmgfakaa

namespace Go.Proofs.Ytjaedigjmgfakaa
open Go.RowKit
set_option linter.unusedVariables false
set_option linter.unusedSimpArgs false

theorem seen_t {D : Dv} {x : Int} {k : Nat} (h : posIs D x k = true) : seen D x (k + 1) = (D.cache.getD k ⟨0, []⟩).data := by
  unfold seen; rw [lastI_t h, if_pos (by omega)]; rfl
theorem seen_f {D : Dv} {x : Int} {k : Nat} (h : posIs D x k = false) : seen D x (k + 1) = seen D x k := by
  unfold seen; rw [lastI_f h]
theorem seen_0 (D : Dv) (x : Nat) : seen D (x : Int) 0 = D.safe.getD x [] := by
  unfold seen; rw [if_neg (by simp [lastI])]; rfl

end Go.Proofs.Ytjaedigjmgfakaa

/- hot.Read. -/
namespace Go.Proofs.Ytjaedigjmgfakaa
open Go.RowKit
set_option linter.unusedVariables false
set_option linter.unusedSimpArgs false

theorem diskSector_any (r a h vm nv n : Int) (w : World) (hr : 0 ≤ r ∧ r ≤ 1000) (ha : 0 ≤ a ∧ a ≤ 1000) (hn : 0 ≤ n ∧ n ≤ 1000) :
    Calls Try.prog 27 #[.agg #[.int .i64 r, .int .i64 a, .int .i64 h, .int .i64 vm, .int .i64 nv], .int .i64 n] w fun e w' => e = .returned (.int .i64 (2 + r + 2 * a + n)) ∧ Below w.heap.size w w' := by
  go_enter Try.func27, Try.ntmps27
  go_wp2
  go_ret
  exact ⟨rfl, bl1 _ _⟩

/-- What stands in the first k sectors of a list. -/
def reaK (r a : Int) (D : Dv) (l : List Int) (k : Nat) : List Int := ((l.take k).map fun x => getL D (2 + r + 2 * a + x)).flatten
theorem reaK_0 (r a : Int) (D : Dv) (l : List Int) : reaK r a D l 0 = [] := by simp [reaK]
theorem reaK_next {r a : Int} {D : Dv} {l : List Int} {k : Nat} (hk : k < l.length) : reaK r a D l (k + 1) = reaK r a D l k ++ getL D (2 + r + 2 * a + l.getD k 0) := by
  unfold reaK
  rw [List.take_add_one, List.map_append, List.flatten_append, List.getElem?_eq_getElem hk]
  simp [List.getD, List.getElem?_eq_getElem hk]
theorem reaK_len {r a : Int} {D : Dv} {l : List Int} (h : ∀ i, i < l.length → (getL D (2 + r + 2 * a + l.getD i 0)).length = 64) : ∀ {k : Nat}, k ≤ l.length → (reaK r a D l k).length = 64 * k := by
  intro k
  induction k with
  | zero => intro _; simp [reaK_0]
  | succ k ih => intro hk; rw [reaK_next (by omega), List.length_append, ih (by omega), h k (by omega)]; omega
theorem splice_rea {F G : List Int} {N q : Nat} (hF : F.length = q) (hG : G.length = 64) (hq : q ≤ N) : splice (u8s (pad N F)) q (u8s (G.take (N - q))) = u8s (pad N (F ++ G)) := by
  have e1 : pad N F = F ++ List.replicate (N - q) 0 := by unfold pad; rw [List.take_of_length_le (by omega), hF]
  have e2 : pad N (F ++ G) = F ++ (G.take (N - q) ++ List.replicate (N - (q + 64)) 0) := by
    unfold pad
    rw [List.take_append, List.take_of_length_le (l := F) (by omega), hF, List.length_append, hF, hG, List.append_assoc]
  have e3 : u8s (F ++ List.replicate (N - q) 0) = u8s F ++ List.replicate (N - q) (.int .u8 0) := by simp [u8s]
  rw [e1, e2, e3]
  unfold splice
  have hl : (u8s F).length = q := by rw [u8s_length]; exact hF
  rw [List.take_append, List.take_of_length_le (by omega), hl, Nat.sub_self, List.take_zero, List.append_nil]
  rw [List.drop_append, List.drop_of_length_le (by rw [hl]; omega), List.nil_append, hl, List.drop_replicate]
  have e4 : N - q - (q + (u8s (G.take (N - q))).length - q) = N - (q + 64) := by rw [u8s_length, List.length_take, hG]; omega
  rw [e4]
  simp [u8s]

theorem romB_all {h : Int} {l : List Int} {n : Int} (x : romB h l n = true) : (0 ≤ n ∧ n ≤ 600) ∧ (l.length : Int) = secH n ∧ ∀ i, i < l.length → 0 ≤ l.getD i 0 ∧ l.getD i 0 < h := by
  unfold romB at x
  rw [Bool.and_eq_true, Bool.and_eq_true] at x
  refine ⟨inB_t x.1.1, by simpa using x.1.2, fun i hi => ?_⟩
  have := x.2
  unfold allB at this
  rw [List.all_eq_true] at this
  have := this i (List.mem_range.2 hi)
  unfold romQ at this
  rw [Bool.and_eq_true] at this
  have := inB_t this.1
  omega
def reaL (r a : Int) (D : Dv) (l : List Int) (n : Int) : List Int := (reaK r a D l l.length).take n.toNat

set_option maxHeartbeats 2000000 in
set_option maxRecDepth 100000 in
theorem read_any (r a h vm nv : Int) (s c v : Value) (D : Dv) (lv : Value) (l : List Int) (n : Int) (w : World) (hD : Dev w s c v D) (hv : Nts w lv l) :
    Calls Try.prog 13 #[.agg #[.int .i64 r, .int .i64 a, .int .i64 h, .int .i64 vm, .int .i64 nv], .agg #[s, c, v, .int .i64 D.fuel], lv, .int .i64 n] w fun e w' =>
      ∃ u, e = .returned (.tuple #[u, .int .i64 (romE h l n (chkE r a h vm nv D))]) ∧ Bts w' u (okL (romE h l n (chkE r a h vm nv D)) (reaL r a D l n)) ∧ Below w.heap.size w w' := by
  have HD := hide hD
  have HV := hide hv
  clear hD
  obtain ⟨la, lc, rfl, ll, lm, hlc⟩ := hv
  have HLC := hide hlc
  clear hlc
  unfold maxLen at lm
  go_enter Try.func13, Try.ntmps13
  go_wp2_with fail
  refine (hotCheck_any r a h vm nv _ _ _ D _ l n _ ((unhide HD).up (bl2 _ _ _)) ((unhide HV).up (bl2 _ _ _))).mono ?_
  rintro e w1 ⟨rfl, hb1⟩
  have hb0 : Below w.heap.size w w1 := bl_trans (bl2 _ _ _) hb1
  have g0 := box2a hb1 0 rfl
  have g1 := box2a hb1 1 rfl
  have g2 := box2a hb1 2 rfl
  have g3 := box2a hb1 3 rfl
  have g4 := box2a hb1 4 rfl
  have f0 := box2b hb1 0 rfl
  have f1 := box2b hb1 1 rfl
  have f2 := box2b hb1 2 rfl
  have f3 := box2b hb1 3 rfl
  clear hb1
  obtain ⟨E, hE⟩ : ∃ E, romE h l n (chkE r a h vm nv D) = E := ⟨_, rfl⟩
  rw [hE]
  by_cases hE0 : E = 0
  case neg =>
    have t1 : (E != 0) = true := by simpa using hE0
    have HE0 := hide hE0
    have HE := hide hE.symm
    clear hE hE0
    go_wp2
    go_ret2
    exact ⟨_, ret_pair (unhide HE), by rw [← unhide HE, okLn (unhide HE0)]; exact Bts.nil _, hb0⟩
  subst hE0
  have hch : chkE r a h vm nv D = 0 := by
    unfold romE at hE
    split at hE
    · assumption
    · omega
  have hrm : romB h l n = true := by
    rw [hch] at hE
    cases hq : romB h l n
    · rw [romE_f hq] at hE; omega
    · rfl
  obtain ⟨hg, hd⟩ := chk_of hch
  obtain ⟨⟨hn0, hn1⟩, hlen, hin⟩ := romB_all hrm
  obtain ⟨N, rfl⟩ := Int.eq_ofNat_of_zero_le hn0
  have hgb := geoB_bd hg
  have hsf := (devB_all hd).1
  have h64 : ∀ i, i < l.length → (getL D (2 + r + 2 * a + l.getD i 0)).length = 64 := fun i hi => by
    have := hin i hi
    exact seen_length hd (by omega) (Nat.le_refl _)
  have hat : ∀ i, i < l.length → atE D (2 + r + 2 * a + l.getD i 0) (chkE r a h vm nv D) = 0 := fun i hi => by
    have := hin i hi
    rw [hch]
    refine atE_t ?_
    generalize l.getD i 0 = z at this
    simp [inB]; omega
  have hsec : ∀ i, i < l.length → 64 * i < N := fun i hi => by rw [secH_chunk hn0] at hlen; omega
  have hll : l.length ≤ 10 := by rw [secH_chunk hn0] at hlen; omega
  have hfull : N ≤ 64 * l.length := by rw [secH_chunk hn0] at hlen; omega
  have H64 := hide h64
  have HAT := hide hat
  have HIN := hide hin
  have HSEC := hide hsec
  have HLEN := hide (fun k => reaK_len (k := k) h64)
  have HFULL := hide hfull
  have HE00 := hide hE
  clear h64 hat hin hsec hE hch hrm hg hd hlen hsf hfull
  have KS : Hid (∀ w', Below w1.heap.size w1 w' → w'.cell? ⟨w.heap.size, 0, none⟩ = some (.int .i64 r) ∧ w'.cell? ⟨w.heap.size, 1, none⟩ = some (.int .i64 a) ∧ w'.cell? ⟨w.heap.size, 2, none⟩ = some (.int .i64 h) ∧ w'.cell? ⟨w.heap.size, 3, none⟩ = some (.int .i64 vm) ∧ w'.cell? ⟨w.heap.size, 4, none⟩ = some (.int .i64 nv) ∧ w'.cell? ⟨w.heap.size + 1, 0, none⟩ = some s ∧ w'.cell? ⟨w.heap.size + 1, 1, none⟩ = some c ∧ w'.cell? ⟨w.heap.size + 1, 2, none⟩ = some v ∧ w'.cell? ⟨w.heap.size + 1, 3, none⟩ = some (.int .i64 D.fuel)) :=
    fun w' hb => ⟨cell_up hb g0, cell_up hb g1, cell_up hb g2, cell_up hb g3, cell_up hb g4, cell_up hb f0, cell_up hb f1, cell_up hb f2, cell_up hb f3⟩
  have hlt1 : w.heap.size + 1 < w1.heap.size := World.block_lt_of_cell? w1 _ f0
  clear g0 g1 g2 g3 g4 f0 f1 f2 f3
  obtain ⟨i0, hi, hz0, hz1, hz2⟩ := info_parts infoU8
  have hmk : ∀ u : World, (Instr.makeSlice 26 (.int .i64 (N : Int)) (.int .i64 (N : Int))).run Try.prog u =
      .ok (.slice (some ⟨u.heap.size, 0, none⟩) N N) (u.alloc (.cells (u8s (pad N [])).toArray 5)) := fun u => by
    have h := run_make (P := Try.prog) u 26 5 i0 (.int .u8 0) Try.underlying26 hi hz0 .i64 .i64 (N : Int) (N : Int) (by omega) (Int.le_refl _) (by rw [hz2]; omega) (by omega)
    rw [show u8s (pad N []) = List.replicate N (.int .u8 0) by simp [u8s, pad], ← made_u8]
    simpa [hz1, Value.cells] using h
  go_wp2
  go_loopw [12, 13, 14, 15, 28] (fun _ _ _ _ i wr => ∃ k : Nat, k ≤ l.length ∧ i = .int .i64 k ∧ Blk wr w1.heap.size (pad N (reaK r a D l k)) ∧ Below w1.heap.size w1 wr) (fun _ _ _ _ i _ => l.length - (intOf i).toNat)
  case atStart => exact ⟨0, Nat.zero_le _, rfl, by rw [reaK_0]; exact Blk.new _ _, bl1 _ _⟩
  case round =>
    obtain ⟨k, hk, rfl, hblk, hbr⟩ := hrel
    have HBLK := hide hblk
    clear hblk
    by_cases hlt : k < l.length
    · obtain ⟨b, o, rfl, hcell⟩ := unhide HLC k hlt
      replace hcell := cell_up (bl_trans hb0 hbr) hcell
      obtain ⟨z, hz⟩ : ∃ z, l.getD k 0 = z := ⟨_, rfl⟩
      have hzb := unhide HIN k hlt
      have h64 := unhide H64 k hlt
      have hat := unhide HAT k hlt
      have hnx := reaK_next (r := r) (a := a) (D := D) hlt
      rw [hz] at hcell hzb h64 hat hnx
      have h6 := unhide HSEC k hlt
      have HH64 := hide h64
      have HHAT := hide hat
      have HNX := hide hnx
      clear hz h64 hat hnx
      obtain ⟨g0, g1, g2, g3, g4, f0, f1, f2, f3⟩ := unhide KS _ hbr
      go_wp2
      go_cut [14, 15] (fun u _ wc => Bts wc u (getL D (2 + r + 2 * a + z)) ∧ Below wr.heap.size wr wc)
      case first =>
        go_region_with (first
          | (go_at_call 27; refine (diskSector_any r a h vm nv z _ (by omega) (by omega) (by omega)).mono ?_; rintro e w2 ⟨rfl, b2⟩; replace b2 := (Below.drew (Below.refl wr.heap.size wr)).trans b2; obtain ⟨k0, k1, k2, k3, k4, j0, j1, j2, j3⟩ := unhide KS _ (bl_trans hbr b2))
          | (go_at_call 30; refine (get_any r a h vm nv s c v D _ _ ((unhide HD).up (bl_trans hb0 (bl_trans hbr b2)))).mono ?_; rintro e w3 ⟨u3, rfl, hB3, b3⟩; rw [unhide HHAT] at hB3))
        all_goals
          go_wp2
          go_meet
          case rel => exact ⟨hB3, bl_trans b2 b3⟩
      case rest =>
        obtain ⟨hB3, hbc⟩ := hcut
        have hB' := hB3
        obtain ⟨ya, yc, rfl, yl, ym, hyc⟩ := hB3
        rw [unhide HH64] at yl hB' ⊢
        unfold maxLen at ym
        have HYC := hide hyc
        clear hyc
        have h7 : k * 64 < N := by omega
        have hblk := (unhide HBLK).up hbc
        have HB2 := hide hblk
        have hpl := pad_length N (reaK r a D l k)
        obtain ⟨X, hX⟩ : ∃ X, X = u8s ((getL D (2 + r + 2 * a + z)).take (N - k * 64)) := ⟨_, rfl⟩
        obtain ⟨R, hR⟩ : ∃ R, R = u8s (pad N (reaK r a D l k)) := ⟨_, rfl⟩
        have hXl : X.length = Nat.min 64 (N - k * 64) := by rw [hX, u8s_length, List.length_take, unhide HH64]; exact Nat.min_comm _ _
        have hRl : R.length = N := by rw [hR, u8s_length, hpl]
        have hsp : splice R (k * 64) X = u8s (pad N (reaK r a D l (k + 1))) := by
          rw [hR, hX, unhide HNX]
          exact splice_rea (by rw [unhide HLEN k (by omega)]; omega) (unhide HH64) (by omega)
        have HX := hide hX
        have HR := hide hR
        have HXl := hide hXl
        have HRl := hide hRl
        have HSP := hide hsp
        clear hX hR hXl hRl hsp hblk hpl
        go_wp2_with (refine wpList_copy_splice rfl (.tmp 45) (.tmp 46) 26 26 rfl 5 Try.underlying26 sizeU8 _ _ _ _ _ _ rfl rfl w1.heap.size (k * 64) R 5 ?q1 X ?q2 ?q3 ?q4 ?q5 w1.heap.size w1 ?q6 (Nat.le_refl _) ?q7)
        case q1 => have := unhide HB2; unfold Blk at this; rw [unhide HR]; exact this
        case q2 => exact unhide HXl
        case q3 =>
          intro h0
          obtain ⟨b', o', rfl, _⟩ := unhide HYC 0 (by rw [unhide HH64]; decide)
          refine ⟨_, rfl, fun j u hj => ?_⟩
          have hjl : j < X.length := (List.getElem?_eq_some_iff.1 hj).1
          have hl : X.length = Nat.min 64 (N - k * 64) := unhide HXl
          have hj64 : j < 64 := by rw [hl] at hjl; exact Nat.lt_of_lt_of_le hjl (Nat.min_le_left _ _)
          have hjn : j < N - k * 64 := by rw [hl] at hjl; exact Nat.lt_of_lt_of_le hjl (Nat.min_le_right _ _)
          obtain ⟨b2, o2, e, hcl⟩ := unhide HYC j (by rw [unhide HH64]; exact hj64)
          simp at e
          obtain ⟨rfl, rfl⟩ := e
          rw [show (⟨b', o', none⟩ : Addr).add j = ⟨b', o' + j, none⟩ by unfold Addr.add; split <;> simp_all, hcl]
          rw [unhide HX] at hj
          have hjg : j < (getL D (2 + r + 2 * a + z)).length := by rw [unhide HH64]; exact hj64
          simp [u8s, hjn, hjg] at hj
          rw [← hj]
          simp [List.getD, hjg]
        case q4 =>
          have h1 : X.length = Nat.min 64 (N - k * 64) := unhide HXl
          have h2 : R.length = N := unhide HRl
          have h3 := Nat.min_le_right 64 (N - k * 64)
          have h4 : X.length ≤ N - k * 64 := by rw [h1]; exact h3
          rw [h2]; omega
        case q5 =>
          intro u hu
          rw [unhide HX] at hu
          unfold u8s at hu
          obtain ⟨y, _, rfl⟩ := List.mem_map.1 hu
          rfl
        case q6 => exact bl_trans hbr hbc
        case q7 =>
          intro w5 hg hb5
          have HG : Hid (Blk w5 w1.heap.size (pad N (reaK r a D l (k + 1)))) := by
            show Blk _ _ _
            unfold Blk
            rw [← unhide HSP]
            exact unhide hg
          clear hg
          go_wp2
          go_roundw
          case rel => exact ⟨k + 1, by omega, by go_num, unhide HG, hb5⟩
          case measure => (simp [intOf] <;> omega)
    · obtain rfl : k = l.length := by omega
      have HE : Hid (romE h l (N : Int) (chkE r a h vm nv D) = 0) := HE00
      have hblk := unhide HBLK
      have hpt : pad N (reaK r a D l l.length) = reaL r a D l (N : Int) := by
        unfold reaL
        rw [Int.toNat_natCast]
        exact pad_take (by rw [unhide HLEN l.length (Nat.le_refl _)]; exact unhide HFULL)
      have hpl := pad_length N (reaK r a D l l.length)
      have HBT : Hid (Bts wr (.slice (some ⟨w1.heap.size, 0, none⟩) N N) (reaL r a D l (N : Int))) := by
        have := hblk.bts (cap := N) (by rw [hpl]; exact Nat.le_refl _) (by unfold maxLen; omega)
        rw [hpl, hpt] at this
        exact this
      clear hblk hpt hpl
      go_wp2
      go_ret2
      exact ⟨_, ret_pair (unhide HE).symm, by rw [unhide HE, okL0]; exact unhide HBT, bl_trans hb0 hbr⟩
end Go.Proofs.Ytjaedigjmgfakaa

/- hot.Write. -/
namespace Go.Proofs.Ytjaedigjmgfakaa
open Go.RowKit
set_option linter.unusedVariables false
set_option linter.unusedSimpArgs false

/-- The bytes of the i-th sector. -/
def wrC (xs : List Int) (i : Nat) : List Int := (xs.take (min ((i + 1) * 64) xs.length)).drop (i * 64)
def wrT (r a : Int) (l xs : List Int) (k : Nat) : List Th := (List.range k).map fun i => .put (2 + r + 2 * a + l.getD i 0) (wrC xs i)
theorem wrT_len (r a : Int) (l xs : List Int) (k : Nat) : (wrT r a l xs k).length = k := by simp [wrT]
theorem wrT_next (r a : Int) (l xs : List Int) (k : Nat) : wrT r a l xs (k + 1) = wrT r a l xs k ++ [.put (2 + r + 2 * a + l.getD k 0) (wrC xs k)] := by simp [wrT, List.range_succ]
def wroE (r a h vm nv : Int) (D : Dv) (l xs : List Int) : Int :=
  if romE h l xs.length (chkE r a h vm nv D) = 0 then doE r a h vm nv D (wrT r a l xs l.length ++ [.flush]) else romE h l xs.length (chkE r a h vm nv D)
def wroD (r a h vm nv : Int) (D : Dv) (l xs : List Int) : Dv :=
  if romE h l xs.length (chkE r a h vm nv D) = 0 then doD r a h vm nv D (wrT r a l xs l.length ++ [.flush]) else nilD

theorem infoTh : (Try.prog.info? 68).map (fun i => (i.zero, i.size, i.bytes)) = some (some .nilFunc, 1, 8) := by kernel_rfl
theorem thPut_any (x : Int) (ba : Option Addr) (bn bc : Nat) (w : World) : Calls Try.prog 26 #[.int .i64 x, .slice ba bn bc] w fun e w' =>
    e = .returned (.func (.func 45) #[] #[.pointer (some ⟨w.heap.size, 0, none⟩), .pointer (some ⟨w.heap.size + 1, 0, none⟩)]) ∧ w' = (w.alloc (.cells #[.int .i64 x] 3)).alloc (.cells #[.slice ba bn bc] 26) := by
  go_enter Try.func26, Try.ntmps26
  go_wp2
  go_ret
  exact ⟨rfl, rfl⟩

theorem elemU8 : Try.prog.elem 26 = 5 := by kernel_rfl
theorem sizeOfU8 (u : World) : (sizeOf 5).run Try.prog u = .ok 1 u := by kernel_rfl
theorem cut_run {bb bo L bc x y : Nat} (h1 : x ≤ y) (h2 : y ≤ bc) (h3 : x < bc) (u : World) : (Instr.slice 26 (.slice (some ⟨bb, bo, none⟩) L bc) (some (.int .i64 (x : Int))) (some (.int .i64 (y : Int))) none).run Try.prog u = .ok (.slice (some ⟨bb, bo + x, none⟩) (y - x) (bc - x)) u := by
  rw [run_slice_lh u 26 (some ⟨bb, bo, none⟩) L bc (by rw [elemU8]; exact Try.underlying26) .i64 .i64 (x : Int) (y : Int) (by omega) (by omega) (by omega), elemU8, sizeOfU8]
  simp only [Result.andThen, sliced, Int.toNat_natCast]
  have h4 : ¬ bc - x = 0 := by omega
  have h5 : ¬ bc = x := by omega
  simp [h4, h5, Addr.add]

theorem new3 (w : World) (o1 o2 : Obj) (cs : Array Value) (t : TypeId) : (((w.alloc o1).alloc o2).alloc (.cells cs t)).heap[w.heap.size + 1 + 1]? = some (.cells cs t (0, 0)) := by
  have := heap_alloc_new ((w.alloc o1).alloc o2) (.cells cs t)
  rwa [World.size_alloc, World.size_alloc] at this

/-- A thing that the call has made: its bytes lie in the memory that was there at w0. -/
def ThO (w0 w : World) (f : Value) : Th → Prop
  | .put x xs => ∃ b1 b2 bv, f = .func (.func 45) #[] #[.pointer (some ⟨b1, 0, none⟩), .pointer (some ⟨b2, 0, none⟩)] ∧ Row w b1 3 [.int .i64 x] ∧ Row w b2 26 [bv] ∧ Bts w0 bv xs
  | .flush => f = .func (.func 29) #[] #[]
theorem ThO.up {w0 w w' : World} {f : Value} {t : Th} (h : ThO w0 w f t) (hb : Below w.heap.size w w') : ThO w0 w' f t := by
  cases t with
  | put x xs => obtain ⟨b1, b2, bv, e, h1, h2, h3⟩ := h; exact ⟨b1, b2, bv, e, h1.up hb, h2.up hb, h3⟩
  | flush => exact h
theorem ThO.kept {w0 w w' : World} {f : Value} {t : Th} (h : ThO w0 w f t) {B n : Nat} {u : Value} {fs : List Value} (ho : w.ownsRow B 68 1 u n fs) (hg : w.grownBy w' u.ownBlock) : ThO w0 w' f t := by
  cases t with
  | put x xs =>
    obtain ⟨b1, b2, bv, e, h1, h2, h3⟩ := h
    exact ⟨b1, b2, bv, e, h1.kept hg (own_apart ho h1 (by decide)).symm, h2.kept hg (own_apart ho h2 (by decide)).symm, h3⟩
  | flush => exact h
theorem ThO.at {w0 w : World} {f : Value} {t : Th} (h : ThO w0 w f t) (hb : Below w0.heap.size w0 w) : ThAt w f t := by
  cases t with
  | put x xs => obtain ⟨b1, b2, bv, e, h1, h2, h3⟩ := h; exact ⟨b1, b2, bv, e, h1.cell 0 _ rfl, h2.cell 0 _ rfl, h3.up hb⟩
  | flush => exact h
/-- Things in a row of the call's own. -/
def OwTh (w0 w : World) (B : Nat) (u : Value) (ths : List Th) : Prop := ∃ fs, w.ownsRow B 68 1 u ths.length fs ∧ fs.length = ths.length ∧ ∀ i, i < ths.length → ∃ f, fs[i]? = some f ∧ ThO w0 w f (ths.getD i .flush)
theorem OwTh.ths {w0 w : World} {B : Nat} {u : Value} {ths : List Th} (h : OwTh w0 w B u ths) (hb : Below w0.heap.size w0 w) : ThsAt w u ths := by
  obtain ⟨fs, h1, h2, h3⟩ := h
  obtain ⟨a, cap, rfl, l1, l2⟩ := own_form h1
  refine ⟨a, cap, rfl, l1, l2, fun i hi => ?_⟩
  obtain ⟨f, hf, hth⟩ := h3 i hi
  obtain ⟨g, cap', e, hc⟩ := own_cell h1 hf
  simp at e
  obtain ⟨rfl, rfl⟩ := e
  exact ⟨g, 0, rfl, f, by rw [Nat.zero_add]; exact hc, hth.at hb⟩
theorem OwTh.nil (w0 w : World) (B : Nat) : OwTh w0 w B (.slice none 0 0) [] := ⟨[], World.ownsRow_nil _ _ _ _, rfl, fun i hi => absurd hi (Nat.not_lt_zero _)⟩
theorem OwTh.push {w0 w w' : World} {B : Nat} {u u' : Value} {ths : List Th} {fs : List Value} (h1 : w.ownsRow B 68 1 u ths.length fs) (h2 : fs.length = ths.length) (h3 : ∀ i, i < ths.length → ∃ f, fs[i]? = some f ∧ ThO w0 w f (ths.getD i .flush)) (hg : w.grownBy w' u.ownBlock) {f : Value} {t : Th} (hf : ThO w0 w f t)
    (ho : w'.ownsRow B 68 1 u' (ths.length + 1) (fs ++ [f])) : OwTh w0 w' B u' (ths ++ [t]) := by
  refine ⟨fs ++ [f], by rw [List.length_append]; exact ho, by simp [h2], fun i hi => ?_⟩
  simp at hi
  by_cases e : i = ths.length
  · subst e
    exact ⟨f, by rw [← h2]; simp, by simpa [List.getD] using hf.kept h1 hg⟩
  · obtain ⟨y, hy, hty⟩ := h3 i (by omega)
    refine ⟨y, ?_, ?_⟩
    · rw [List.getElem?_append_left (by omega)]; exact hy
    · rw [show (ths ++ [t]).getD i .flush = ths.getD i .flush by simp [List.getD, List.getElem?_append_left (show i < ths.length by omega)]]
      exact hty.kept h1 hg

set_option maxHeartbeats 4000000 in
set_option maxRecDepth 100000 in
theorem write_any (r a h vm nv : Int) (s c v : Value) (D : Dv) (lv bv : Value) (l xs : List Int) (w : World) (hD : Dev w s c v D) (hv : Nts w lv l) (hB : Bts w bv xs) :
    Calls Try.prog 12 #[.agg #[.int .i64 r, .int .i64 a, .int .i64 h, .int .i64 vm, .int .i64 nv], .agg #[s, c, v, .int .i64 D.fuel], lv, bv] w fun e w' =>
      ∃ s' c' v', e = .returned (.tuple #[.agg #[s', c', v', .int .i64 (wroD r a h vm nv D l xs).fuel], .int .i64 (wroE r a h vm nv D l xs)]) ∧ ODev w' w.heap.size s' c' v' (wroD r a h vm nv D l xs) ∧ Below w.heap.size w w' := by
  have HD := hide hD
  have HV := hide hv
  have HB := hide hB
  clear hD
  obtain ⟨la, lc, rfl, ll, lm, hlc⟩ := hv
  obtain ⟨ba, bc, rfl, bl, bm, hbc⟩ := hB
  have HLC := hide hlc
  have HBC := hide hbc
  clear hlc hbc
  unfold maxLen at lm bm
  go_enter Try.func12, Try.ntmps12
  go_wp2_with fail
  refine (hotCheck_any r a h vm nv _ _ _ D _ l xs.length _ ((unhide HD).up (bl3 _ _ _ _)) ((unhide HV).up (bl3 _ _ _ _))).mono ?_
  rintro e w1 ⟨rfl, hb1⟩
  have hb0 : Below w.heap.size w w1 := bl_trans (bl3 _ _ _ _) hb1
  have g0 := box3a hb1 0 rfl
  have g1 := box3a hb1 1 rfl
  have g2 := box3a hb1 2 rfl
  have g3 := box3a hb1 3 rfl
  have g4 := box3a hb1 4 rfl
  have f0 := box3b hb1 0 rfl
  have f1 := box3b hb1 1 rfl
  have f2 := box3b hb1 2 rfl
  have f3 := box3b hb1 3 rfl
  have hR := box3r (cs := [.slice none 0 0, .slice none 0 0, .slice none 0 0, .int .i64 0]) hb1
  have d0 := hR.cell 0 _ rfl
  have d1 := hR.cell 1 _ rfl
  have d2 := hR.cell 2 _ rfl
  have d3 := hR.cell 3 _ rfl
  have df := hR.unfrozen
  have HR := hide hR
  clear hb1 hR
  obtain ⟨E, hE⟩ : ∃ E, romE h l xs.length (chkE r a h vm nv D) = E := ⟨_, rfl⟩
  rw [hE]
  by_cases hE0 : E = 0
  case neg =>
    have t1 : (E != 0) = true := by simpa using hE0
    have HE : Hid (E = wroE r a h vm nv D l xs) := by show _ = _; unfold wroE; rw [hE, if_neg hE0]
    have HZ : Hid (wroD r a h vm nv D l xs = nilD) := by show _ = _; unfold wroD; rw [hE, if_neg hE0]
    clear hE hE0
    go_wp2
    refine bodyPost_ret (v := .tuple #[.agg #[.slice none 0 0, .slice none 0 0, .slice none 0 0, .int .i64 0], .int .i64 E]) (by simp [results, Try.results12, go_sem, *]) rfl ⟨_, _, _, ret_dev (by rw [unhide HZ]; rfl) (unhide HE), ?_, ?_⟩
    · rw [unhide HZ]; exact ODev.empty _ _ _
    · repeat (first | exact hb0 | refine bl_set ?_ (by simp <;> omega) _)
  subst hE0
  have hch : chkE r a h vm nv D = 0 := by
    unfold romE at hE
    split at hE
    · assumption
    · omega
  have hrm : romB h l xs.length = true := by
    rw [hch] at hE
    cases hq : romB h l xs.length
    · rw [romE_f hq] at hE; omega
    · rfl
  have hFE : wroE r a h vm nv D l xs = doE r a h vm nv D (wrT r a l xs l.length ++ [.flush]) := by unfold wroE; rw [hE, if_pos rfl]
  have hFD : wroD r a h vm nv D l xs = doD r a h vm nv D (wrT r a l xs l.length ++ [.flush]) := by unfold wroD; rw [hE, if_pos rfl]
  have HFE := hide hFE
  have HFD := hide hFD
  obtain ⟨hg, hd⟩ := chk_of hch
  obtain ⟨⟨hn0, hn1⟩, hlen, hin⟩ := romB_all hrm
  have hgb := geoB_bd hg
  have hsec : ∀ i, i < l.length → 64 * i < xs.length := fun i hi => by rw [secH_chunk hn0] at hlen; omega
  have hll : l.length ≤ 10 := by rw [secH_chunk hn0] at hlen; omega
  have HIN := hide hin
  have HSEC := hide hsec
  clear hin hsec hE hch hrm hg hd hlen hFE hFD
  have KS : Hid (∀ w', Below w1.heap.size w1 w' → w'.cell? ⟨w.heap.size, 0, none⟩ = some (.int .i64 r) ∧ w'.cell? ⟨w.heap.size, 1, none⟩ = some (.int .i64 a) ∧ w'.cell? ⟨w.heap.size, 2, none⟩ = some (.int .i64 h) ∧ w'.cell? ⟨w.heap.size, 3, none⟩ = some (.int .i64 vm) ∧ w'.cell? ⟨w.heap.size, 4, none⟩ = some (.int .i64 nv) ∧ w'.cell? ⟨w.heap.size + 1, 0, none⟩ = some s ∧ w'.cell? ⟨w.heap.size + 1, 1, none⟩ = some c ∧ w'.cell? ⟨w.heap.size + 1, 2, none⟩ = some v ∧ w'.cell? ⟨w.heap.size + 1, 3, none⟩ = some (.int .i64 D.fuel)) :=
    fun w' hb => ⟨cell_up hb g0, cell_up hb g1, cell_up hb g2, cell_up hb g3, cell_up hb g4, cell_up hb f0, cell_up hb f1, cell_up hb f2, cell_up hb f3⟩
  have hlt1 : w.heap.size + 1 < w1.heap.size := World.block_lt_of_cell? w1 _ f0
  clear g0 g1 g2 g3 g4 f0 f1 f2 f3 d0 d1 d2 d3 df
  obtain ⟨i0, hi, hz0, hz1, hz2⟩ := info_parts infoTh
  go_wp2
  go_loopw [11, 12, 13, 14, 15, 28] (fun u _ _ _ _ i wr => ∃ k : Nat, k ≤ l.length ∧ i = .int .i64 k ∧ OwTh w1 wr w1.heap.size u (wrT r a l xs k) ∧ Below w1.heap.size w1 wr) (fun _ _ _ _ _ i _ => l.length - (intOf i).toNat)
  case atStart => exact ⟨0, Nat.zero_le _, rfl, OwTh.nil _ _ _, Below.refl _ _⟩
  case round =>
    obtain ⟨k, hk, rfl, hoth, hbr⟩ := hrel
    obtain ⟨fs, ho1, ho2, ho3⟩ := hoth
    rw [wrT_len] at ho1 ho2 ho3
    obtain ⟨ua, uc, rfl, ul, um⟩ := own_form ho1
    unfold maxLen at um
    have HO1 := hide ho1
    have HO2 := hide ho2
    have HO3 := hide ho3
    clear ho1 ho2 ho3
    obtain ⟨g0, g1, g2, g3, g4, f0, f1, f2, f3⟩ := unhide KS _ hbr
    by_cases hlt : k < l.length
    · obtain ⟨b, o, rfl, hcell⟩ := unhide HLC k hlt
      replace hcell := cell_up (bl_trans hb0 hbr) hcell
      obtain ⟨z, hz⟩ : ∃ z, l.getD k 0 = z := ⟨_, rfl⟩
      have hzb := unhide HIN k hlt
      have hnx := wrT_next r a l xs k
      rw [hz] at hcell hzb hnx
      have h6 := unhide HSEC k hlt
      have HNX := hide hnx
      clear hz hnx
      obtain ⟨bb, bo, rfl, _⟩ := unhide HBC 0 (by omega)
      obtain ⟨T, hT⟩ : ∃ T, min ((k + 1) * 64) xs.length = T := ⟨_, rfl⟩
      have hT1 : T ≤ xs.length := by omega
      have hT2 : k * 64 < T := by omega
      have hTI : (if (xs.length : Int) < ((k : Int) + 1) * 64 then (xs.length : Int) else ((k : Int) + 1) * 64) = (T : Int) := by split <;> omega
      have HTI := hide hTI
      clear hTI
      have HCUT : Hid (Bts w (.slice (some ⟨bb, bo + k * 64, none⟩) (T - k * 64) (bc - k * 64)) (wrC xs k)) := by
        have := (unhide HB).cut (x := k * 64) (y := T) (by omega) hT1
        rw [if_neg (by omega)] at this
        show Bts _ _ _
        unfold wrC
        rw [hT]
        simp only [Option.map] at this
        rw [show (⟨bb, bo, none⟩ : Addr).add (k * 64) = ⟨bb, bo + k * 64, none⟩ by unfold Addr.add; split <;> simp_all] at this
        exact this
      have hk6 : ((k : Int) + 1) * 64 ≤ 100000 := by omega
      have hsl : ∀ u : World, (Instr.slice 26 (.slice (some ⟨bb, bo, none⟩) xs.length bc) (some (.int .i64 ((k : Int) * 64))) (some (.int .i64 (T : Int))) none).run Try.prog u = .ok (.slice (some ⟨bb, bo + k * 64, none⟩) (T - k * 64) (bc - k * 64)) u := fun u => by
        rw [show (k : Int) * 64 = ((k * 64 : Nat) : Int) by omega]
        exact cut_run (by omega) (by omega) (by omega) u
      go_upto_region 9 with fail
      rw [unhide HTI]
      go_region_law (first
        | (go_simp; go_at_call 27; refine (diskSector_any r a h vm nv z _ (by omega) (by omega) (by omega)).mono ?_; rintro e w2 ⟨rfl, b2⟩; replace b2 : Below wr.heap.size wr w2 := (Below.drew (Below.refl wr.heap.size wr)).trans b2; have hs2 : w1.heap.size ≤ w2.heap.size := Nat.le_trans hbr.size b2.size; dsimp only)
        | (go_simp; go_at_call 26; refine (thPut_any _ _ _ _ _).mono ?_; rintro e w3 ⟨rfl, rfl⟩; dsimp only)
        | (refine step_append_lies _ (by rfl) _ _ _ (by rfl) w1.heap.size 68 i0 _ 1 8 Try.underlying66 hi hz0 hz1 hz2 rfl (by omega) (.slice ua k uc) k fs (by rfl) (World.ownsRow.alloc (World.ownsRow.alloc (World.ownsRow.alloc (own_up (unhide HO1) b2) _) _) _) ⟨w2.heap.size + 1 + 1, 0, none⟩ 1 1 [.func (.func 45) #[] #[.pointer (some ⟨w2.heap.size, 0, none⟩), .pointer (some ⟨w2.heap.size + 1, 0, none⟩)]] (by rfl) (by rfl) (World.news_of_block (cs := #[.func (.func 45) #[] #[.pointer (some ⟨w2.heap.size, 0, none⟩), .pointer (some ⟨w2.heap.size + 1, 0, none⟩)]]) (t := 68) (fr := (0, 0)) (new3 _ _ _ _ _)) (by simp [Value.oneCell']) (by omega) (by unfold maxLen; omega) (by omega) (by simp; omega) (w2.heap.size + 1 + 1 + 1) (by simp) ?_; intro g cap w4 hown4 hgrow hat hlt4))
      all_goals
        obtain ⟨W3, hW3⟩ : ∃ W3, W3 = ((w2.alloc (.cells #[.int .i64 (2 + r + 2 * a + z)] 3)).alloc (.cells #[.slice (some ⟨bb, bo + k * 64, none⟩) (T - k * 64) (bc - k * 64)] 26)).alloc (.cells #[.func (.func 45) #[] #[.pointer (some ⟨w2.heap.size, 0, none⟩), .pointer (some ⟨w2.heap.size + 1, 0, none⟩)]] 68) := ⟨_, rfl⟩
        rw [← hW3] at hgrow
        have hb3 : Below w2.heap.size w2 W3 := by rw [hW3]; exact bl3 _ _ _ _
        have hrow1 : Row W3 w2.heap.size 3 [.int .i64 (2 + r + 2 * a + z)] := by rw [hW3]; exact (Row.new w2 _ [.int .i64 (2 + r + 2 * a + z)]).up (bl2 _ _ _)
        have hrow2 : Row W3 (w2.heap.size + 1) 26 [.slice (some ⟨bb, bo + k * 64, none⟩) (T - k * 64) (bc - k * 64)] := by
          rw [hW3]
          have := (Row.new (w2.alloc (.cells #[.int .i64 (2 + r + 2 * a + z)] 3)) 26 [.slice (some ⟨bb, bo + k * 64, none⟩) (T - k * 64) (bc - k * 64)]).up (bl1 _ (.cells #[.func (.func 45) #[] #[.pointer (some ⟨w2.heap.size, 0, none⟩), .pointer (some ⟨w2.heap.size + 1, 0, none⟩)]] 68))
          rw [World.size_alloc] at this
          exact this
        clear hW3
        have hbw3 : Below wr.heap.size wr W3 := bl_trans b2 hb3
        have ho3 := own_up (unhide HO1) hbw3
        have HOTH : Hid (OwTh w1 w4 w1.heap.size (.slice (some ⟨g, 0, none⟩) (k + 1) cap) (wrT r a l xs (k + 1))) := by
          show OwTh _ _ _ _ _
          rw [unhide HNX]
          refine OwTh.push (w := W3) (u := .slice ua k uc) (fs := fs) (by rw [wrT_len]; exact ho3) (by rw [wrT_len]; exact unhide HO2) (fun i hi => ?_) hgrow (f := .func (.func 45) #[] #[.pointer (some ⟨w2.heap.size, 0, none⟩), .pointer (some ⟨w2.heap.size + 1, 0, none⟩)]) ⟨_, _, _, rfl, hrow1, hrow2, (unhide HCUT).up hb0⟩ (by rw [wrT_len]; exact hown4)
          rw [wrT_len] at hi
          obtain ⟨f, hf, hth⟩ := unhide HO3 i hi
          exact ⟨f, hf, hth.up hbw3⟩
        have hb4 : Below w1.heap.size w1 w4 := (bl_trans hbr hbw3).grown hgrow (by have := hbw3.size; have := hbr.size; omega) fun j hj => (World.ownsRow.lt (unhide HO1) j hj).1
        clear hown4 hgrow hat ho3 hrow1 hrow2
        go_wp2
        go_roundw
        case rel => exact ⟨k + 1, by omega, by go_num, unhide HOTH, hb4⟩
        case measure => (simp [intOf] <;> omega)
    · obtain rfl : k = l.length := by omega
      obtain ⟨FE, hFE⟩ : ∃ FE, wroE r a h vm nv D l xs = FE := ⟨_, rfl⟩
      obtain ⟨FD, hFD⟩ : ∃ FD, wroD r a h vm nv D l xs = FD := ⟨_, rfl⟩
      have HGE : Hid (doE r a h vm nv D (wrT r a l xs l.length ++ [.flush]) = FE) := by show _ = _; rw [← unhide HFE]; exact hFE
      have HGD : Hid (doD r a h vm nv D (wrT r a l xs l.length ++ [.flush]) = FD) := by show _ = _; rw [← unhide HFD]; exact hFD
      have HFE1 := hide hFE
      have HFD1 := hide hFD
      clear hFE hFD HFE HFD
      have hsr := hbr.size
      have hq1 : w.heap.size + 1 < wr.heap.size := by omega
      have hq0 : w.heap.size < wr.heap.size := by omega
      go_wp2
      go_region_law (first
        | (go_simp; go_at_call 28; refine (do_any r a h vm nv s c v D _ (wrT r a l xs l.length ++ [.flush]) _ ((unhide HD).up (bl_trans hb0 hb4)) (HOTH4.ths hb4) (by simp)).mono ?_; rintro e w5 ⟨s', c', v', rfl, hdv, hb5⟩; rw [unhide HGE, unhide HGD] at *; have hR5 := (unhide HR).up (bl_trans hb4 hb5); have r0 := hR5.cell 0 _ rfl; have r1 := hR5.cell 1 _ rfl; have r2 := hR5.cell 2 _ rfl; have r3 := hR5.cell 3 _ rfl; have rf := hR5.unfrozen; have hdv2 := hdv.dev; obtain ⟨⟨y1, z1, rfl, _⟩, ⟨y2, z2, rfl, _⟩, ⟨y3, z3, rfl, _⟩⟩ := hdv2; dsimp only)
        | (refine step_append_lies _ (by rfl) _ _ _ (by rfl) w1.heap.size 68 i0 _ 1 8 Try.underlying66 hi hz0 hz1 hz2 rfl (by omega) (.slice ua l.length uc) l.length fs (by rfl) (World.ownsRow.alloc (World.ownsRow.drew (unhide HO1)) _) ⟨wr.heap.size, 0, none⟩ 1 1 [.func (.func 29) #[] #[]] (by rfl) (by rfl) (World.news_of_block (cs := #[.func (.func 29) #[] #[]]) (t := 68) (fr := (0, 0)) (heap_alloc_new wr.drew _)) (by simp [Value.oneCell']) (by omega) (by unfold maxLen; omega) (by omega) (by simp; omega) (wr.heap.size + 1) (by simp) ?_; intro g cap w4 hown4 hgrow hat hlt4; have hbw3 := bl_alloc (Below.drew (Below.refl wr.heap.size wr)) (.cells #[.func (.func 29) #[] #[]] 68); have hb4 : Below w1.heap.size w1 w4 := (bl_trans hbr hbw3).grown hgrow (by simp; omega) (fun j hj => (World.ownsRow.lt (unhide HO1) j hj).1); have HOTH4 : OwTh w1 w4 w1.heap.size (.slice (some ⟨g, 0, none⟩) (l.length + 1) cap) (wrT r a l xs l.length ++ [.flush]) := OwTh.push (by rw [wrT_len]; exact own_up (unhide HO1) hbw3) (by rw [wrT_len]; exact unhide HO2) (fun i hi => by rw [wrT_len] at hi; obtain ⟨f, hf, hth⟩ := unhide HO3 i hi; exact ⟨f, hf, hth.up hbw3⟩) hgrow (f := .func (.func 29) #[] #[]) (show ThO w1 _ _ .flush from rfl) (by rw [wrT_len]; exact hown4); obtain ⟨k0, k1, k2, k3, k4, j0, j1, j2, j3⟩ := unhide KS _ hb4))
      all_goals
        go_wp2
        refine bodyPost_ret (v := .tuple #[.agg #[.slice y1 FD.safe.length z1, .slice y2 FD.cache.length z2, .slice y3 FD.vols.length z3, .int .i64 FD.fuel], .int .i64 FE]) (by simp [results, Try.results12, go_sem, *]) rfl ⟨_, _, _, ret_dev (by rw [unhide HFD1]) (unhide HFE1).symm, ?_, ?_⟩
        · rw [unhide HFD1]
          exact ((hdv.kept hR5 (by decide) (by decide) (by decide) (by decide) (by repeat (first | exact gb_refl _ _ | refine gb_set ?_ _ _))).base (by have := hb4.size; omega))
        · have := bl_trans hb0 (bl_trans hb4 hb5)
          repeat (first | exact this | refine bl_set ?_ (by simp <;> omega) _)
end Go.Proofs.Ytjaedigjmgfakaa

/- What a sector has behind a put, a flush and a crash: plain facts, no walk. -/
namespace Go.Proofs.Ytjaedigjmgfakaa
open Go.RowKit
set_option maxRecDepth 100000
set_option linter.unusedVariables false
set_option linter.unusedSimpArgs false
theorem lastI_congr {n : Nat} {p q : Nat → Bool} (h : ∀ i, i < n → p i = q i) : lastI n p = lastI n q := by
  induction n with
  | zero => rfl
  | succ n ih => simp only [lastI]; rw [h n (Nat.lt_succ_self _), ih fun i hi => h i (by omega)]
theorem posIs_old {S : List (List Int)} {C : List Wr} {V : List Vo} {f : Int} {y : Int} {z : Wr} {i : Nat} (hi : i < C.length) {S' : List (List Int)} {V' : List Vo} {f' : Int} : posIs ⟨S, C ++ [z], V, f⟩ y i = posIs ⟨S', C, V', f'⟩ y i := by
  unfold posIs
  simp only [getD_snoc, hi, if_true]
theorem getL_put_same (D : Dv) (x : Int) (xs : List Int) : getL (putD D x xs 0) x = pad 64 xs := by
  rw [putD_ok]
  unfold getL
  simp only [List.length_append, List.length_singleton]
  rw [seen_t (by unfold posIs; simp [getD_snoc])]
  simp [getD_snoc]
theorem getL_put_other (D : Dv) (x y : Int) (xs : List Int) (h : y ≠ x) : getL (putD D x xs 0) y = getL D y := by
  rw [putD_ok]
  unfold getL
  simp only [List.length_append, List.length_singleton]
  rw [seen_f (by unfold posIs; simp only [getD_snoc, Nat.lt_irrefl, if_false, if_true]; simp; exact fun e => h e.symm)]
  unfold seen
  have hp : lastI D.cache.length (posIs ⟨D.safe, D.cache ++ [⟨x, pad 64 xs⟩], D.vols, lessF D.fuel⟩ y) = lastI D.cache.length (posIs D y) := lastI_congr fun i hi => posIs_old hi
  rw [hp]
  have hb := lastI_lt D.cache.length (posIs D y)
  split
  · simp only [getD_snoc]
    rw [if_pos (by omega)]
  · rfl
theorem getL_bare {S : List (List Int)} {V : List Vo} {f : Int} (x : Nat) : getL ⟨S, [], V, f⟩ (x : Int) = S.getD x [] := by
  unfold getL; exact seen_0 _ x
theorem pad_first {m M : Nat} {xs : List Int} (h : xs.length = M) (hm : M ≤ m) : (pad m xs).take M = xs := by
  unfold pad
  subst h
  rw [List.take_of_length_le hm]
  simp
/-- What stays of a sector behind a crash, write by write. -/
theorem settled_at {keep : Nat → Bool} {S : List (List Int)} {C : List Wr} {k : Nat} {x : Nat} (hp : 0 ≤ (C.getD k ⟨0, []⟩).pos ∧ (C.getD k ⟨0, []⟩).pos < S.length) :
    (settled keep S C (k + 1)).getD x [] = if keep k = true ∧ (C.getD k ⟨0, []⟩).pos = (x : Int) then (C.getD k ⟨0, []⟩).data else (settled keep S C k).getD x [] := by
  cases hk : keep k
  · rw [settled_no hk]; simp
  · rw [settled_yes hk, getD_setL _ _ _ _ _ (by rw [settled_length]; omega)]
    by_cases e : (C.getD k ⟨0, []⟩).pos = (x : Int)
    · rw [if_pos (by omega), if_pos ⟨rfl, e⟩]
    · rw [if_neg (by omega), if_neg (fun h => e h.2)]
theorem settled_none {S : List (List Int)} {C : List Wr} (n : Nat) : settled (keepF []) S C n = S := by
  rw [settled_stop (m := 0) (fun k _ => by simp [keepF]) n (Nat.zero_le _)]
  rfl
theorem settled_congr {keep : Nat → Bool} {S : List (List Int)} {C C' : List Wr} (n : Nat) (h : ∀ i, i < n → C.getD i ⟨0, []⟩ = C'.getD i ⟨0, []⟩) : settled keep S C n = settled keep S C' n := by
  induction n with
  | zero => rfl
  | succ n ih => unfold settled; rw [h n (Nat.lt_succ_self _), ih fun i hi => h i (by omega)]
/-- What was put last is safe behind a flush. -/
theorem flu_put {D : Dv} {r a h vm nv : Int} (o : DOk r a h vm nv D) (x : Nat) (xs : List Int) (hx : x < D.safe.length) : (fluD (putD D (x : Int) xs 0) 0).safe.getD x [] = pad 64 xs := by
  rw [fluD_ok, putD_ok]
  simp only [List.length_append, List.length_singleton]
  rw [settled_at (by simp only [getD_snoc, Nat.lt_irrefl, if_false, if_true]; omega)]
  simp [getD_snoc]
theorem cra_none {D : Dv} (x : Nat) {t : Int} : getL (craD [] t D 0) (x : Int) = D.safe.getD x [] := by
  rw [craD_ok, getL_bare, settled_none]
theorem cra_some {D : Dv} (ks : List Bool) (x : Nat) {t : Int} : getL (craD ks t D 0) (x : Int) = (settled (keepF ks) D.safe D.cache D.cache.length).getD x [] := by
  rw [craD_ok, getL_bare]
end Go.Proofs.Ytjaedigjmgfakaa

/- What is read behind a write: plain facts, no walk. -/
namespace Go.Proofs.Ytjaedigjmgfakaa
open Go.RowKit
set_option maxRecDepth 100000
set_option linter.unusedVariables false
set_option linter.unusedSimpArgs false
section
variable {r a h vm nv : Int}
theorem doE_app (D : Dv) (x y : List Th) : doE r a h vm nv D (x ++ y) = if doE r a h vm nv D x = 0 then doE r a h vm nv (doD r a h vm nv D x) y else doE r a h vm nv D x := by
  induction x generalizing D with
  | nil => simp [doE, doD]
  | cons t ts ih =>
    simp only [List.cons_append, doE, doD]
    by_cases e : thE r a h vm nv D t = 0
    · simp only [e, if_true]; exact ih _
    · simp [e]
theorem doD_app (D : Dv) (x y : List Th) : doD r a h vm nv D (x ++ y) = if doE r a h vm nv D x = 0 then doD r a h vm nv (doD r a h vm nv D x) y else doD r a h vm nv D x := by
  induction x generalizing D with
  | nil => simp [doE, doD]
  | cons t ts ih =>
    simp only [List.cons_append, doE, doD]
    by_cases e : thE r a h vm nv D t = 0
    · simp only [e, if_true]; exact ih _
    · simp [e]
theorem settled_other {keep : Nat → Bool} {S : List (List Int)} {C : List Wr} {x : Nat} : ∀ n : Nat, (∀ i, i < n → (0 ≤ (C.getD i ⟨0, []⟩).pos ∧ (C.getD i ⟨0, []⟩).pos < S.length) ∧ (C.getD i ⟨0, []⟩).pos ≠ (x : Int)) → (settled keep S C n).getD x [] = S.getD x []
  | 0, _ => rfl
  | n + 1, h => by
    rw [settled_at (h n (Nat.lt_succ_self _)).1, if_neg fun e => (h n (Nat.lt_succ_self _)).2 e.2]
    exact settled_other n fun i hi => h i (by omega)
theorem settled_mine {S : List (List Int)} {C : List Wr} {x : Nat} {j : Nat} : ∀ n : Nat, j < n → (∀ i, i < n → 0 ≤ (C.getD i ⟨0, []⟩).pos ∧ (C.getD i ⟨0, []⟩).pos < S.length) → (C.getD j ⟨0, []⟩).pos = (x : Int) → (∀ i, i < n → (C.getD i ⟨0, []⟩).pos = (x : Int) → i = j) → (settled (fun _ => true) S C n).getD x [] = (C.getD j ⟨0, []⟩).data
  | 0, hj, _, _, _ => absurd hj (Nat.not_lt_zero _)
  | n + 1, hj, hr, hx, hu => by
    rw [settled_at (hr n (Nat.lt_succ_self _))]
    by_cases e : (C.getD n ⟨0, []⟩).pos = (x : Int)
    · rw [if_pos ⟨rfl, e⟩, hu n (Nat.lt_succ_self _) e]
    · rw [if_neg fun q => e q.2]
      exact settled_mine n (by have : j ≠ n := fun q => e (q ▸ hx); omega) (fun i hi => hr i (by omega)) hx fun i hi => hu i (by omega)

/-- Where the i-th sector of a list stands. -/
def posW (r a : Int) (l : List Int) (i : Nat) : Int := 2 + r + 2 * a + l.getD i 0
/-- Behind k puts. -/
structure Puts (r a h vm nv : Int) (D : Dv) (l xs : List Int) (k : Nat) (Z : Dv) : Prop where
  ok : DOk r a h vm nv Z
  safe : Z.safe = D.safe
  len : Z.cache.length = k
  pos : ∀ i, i < k → Z.cache.getD i ⟨0, []⟩ = ⟨posW r a l i, pad 64 (wrC xs i)⟩
  fu : D.fuel = -1 → Z.fuel = -1
theorem wrC_len (xs : List Int) (i : Nat) : ¬ 64 < (wrC xs i).length := by unfold wrC; simp; omega
theorem romB_apart {l : List Int} {n : Int} (x : romB h l n = true) {i j : Nat} (hi : i < l.length) (hj : j < i) : l.getD i 0 ≠ l.getD j 0 := by
  unfold romB at x
  rw [Bool.and_eq_true, Bool.and_eq_true] at x
  have := x.2
  unfold allB at this
  rw [List.all_eq_true] at this
  have := this i (List.mem_range.2 hi)
  unfold romQ at this
  rw [Bool.and_eq_true] at this
  intro e
  have h2 := this.2
  have : l.getD i 0 ∈ l.take i := by
    rw [mem_at]
    refine ⟨j, by simp; omega, ?_⟩
    rw [e]
    simp [List.getD, List.getElem?_take, hj]
  simp [List.getD] at h2
  simp [List.getD] at this
  exact h2 this
theorem puts_k (g : geoB r a h vm nv = true) {D : Dv} (o : DOk r a h vm nv D) (hc : D.cache = []) {l xs : List Int} (hin : ∀ i, i < l.length → 0 ≤ l.getD i 0 ∧ l.getD i 0 < h) (hll : l.length ≤ 10) : ∀ k, k ≤ l.length →
    (doE r a h vm nv D (wrT r a l xs k) = 0 ∧ Puts r a h vm nv D l xs k (doD r a h vm nv D (wrT r a l xs k))) ∨
    (D.fuel ≠ -1 ∧ doE r a h vm nv D (wrT r a l xs k) = 10 ∧ ∃ j, j ≤ k ∧ Puts r a h vm nv D l xs j (doD r a h vm nv D (wrT r a l xs k))) := by
  have hg := geoB_u g
  intro k
  induction k with
  | zero => intro _; exact .inl ⟨rfl, ⟨o, rfl, by show D.cache.length = 0; rw [hc]; rfl, fun i hi => absurd hi (Nat.not_lt_zero _), fun e => e⟩⟩
  | succ k ih =>
    intro hk
    rw [wrT_next, doE_app, doD_app]
    rcases ih (by omega) with ⟨h1, P⟩ | ⟨h0, h1, j, hj, P⟩
    · rw [if_pos h1, if_pos h1]
      obtain ⟨Z, hZ⟩ : ∃ Z, doD r a h vm nv D (wrT r a l xs k) = Z := ⟨_, rfl⟩
      rw [hZ] at P ⊢
      have hat : inB (2 + r + 2 * a + l.getD k 0) 0 ((Z.safe.length : Int) - 1) = true := by
        have := hin k (by omega)
        have := P.ok.ns
        simp only [inB, decide_eq_true_eq]
        omega
      have hcl : ¬ 2000 ≤ Z.cache.length := by rw [P.len]; omega
      by_cases hf : Z.fuel = 0
      · right
        have e : thE r a h vm nv Z (.put (2 + r + 2 * a + l.getD k 0) (wrC xs k)) = 10 := by
          show putE _ _ _ _ = _
          rw [chk_ok g P.ok]
          exact putE_down hat (wrC_len _ _) hcl hf
        refine ⟨fun q => by have := P.fu q; omega, by simp only [doE]; rw [if_neg (by rw [e]; decide)]; exact e, k, by omega, ?_⟩
        simp only [doD, e]
        exact P
      · left
        have e : thE r a h vm nv Z (.put (2 + r + 2 * a + l.getD k 0) (wrC xs k)) = 0 := by
          show putE _ _ _ _ = _
          rw [chk_ok g P.ok]
          exact putE_ok hat (wrC_len _ _) hcl hf
        refine ⟨by simp only [doE]; rw [if_pos e], ?_⟩
        simp only [doD, e, if_true]
        have ho : DOk r a h vm nv (putD Z (2 + r + 2 * a + l.getD k 0) (wrC xs k) 0) := P.ok.put hat hcl hf
        refine ⟨ho, ?_, ?_, ?_, ?_⟩
        · show (putD _ _ _ _).safe = _; rw [putD_ok]; exact P.safe
        · show (putD _ _ _ _).cache.length = _; rw [putD_ok]; simp [P.len]
        · intro i hi
          show (putD _ _ _ _).cache.getD i _ = _
          rw [putD_ok]
          simp only [getD_snoc, P.len]
          by_cases q : i < k
          · rw [if_pos q]; exact P.pos i q
          · obtain rfl : i = k := by omega
            rw [if_neg q, if_pos rfl]; rfl
        · intro q
          show (putD _ _ _ _).fuel = _
          rw [putD_ok]
          simp [lessF, P.fu q]
    · rw [if_neg (by omega), if_neg (by omega)]
      exact .inr ⟨h0, h1, j, by omega, P⟩
/-- What a write of bytes leaves. -/
structure Wrote (r a h vm nv : Int) (D : Dv) (l xs : List Int) (Z : Dv) : Prop where
  ok : DOk r a h vm nv Z
  cache : Z.cache = []
  mine : ∀ i, i < l.length → Z.safe.getD (posW r a l i).toNat [] = pad 64 (wrC xs i)
  other : ∀ y : Nat, (∀ i, i < l.length → posW r a l i ≠ (y : Int)) → Z.safe.getD y [] = D.safe.getD y []
  fu : D.fuel = -1 → Z.fuel = -1
structure Torn (r a h vm nv : Int) (D : Dv) (l : List Int) (Z : Dv) : Prop where
  ok : DOk r a h vm nv Z
  safe : Z.safe = D.safe
  pos : ∀ i, i < Z.cache.length → ∃ j, j < l.length ∧ (Z.cache.getD i ⟨0, []⟩).pos = posW r a l j
theorem write_plain (g : geoB r a h vm nv = true) {D : Dv} (o : DOk r a h vm nv D) (hc : D.cache = []) {l xs : List Int} (hm : romB h l xs.length = true) :
    (wroE r a h vm nv D l xs = 0 ∧ Wrote r a h vm nv D l xs (wroD r a h vm nv D l xs)) ∨ (D.fuel ≠ -1 ∧ wroE r a h vm nv D l xs = 10 ∧ Torn r a h vm nv D l (wroD r a h vm nv D l xs)) := by
  have hg := geoB_u g
  obtain ⟨⟨hn0, hn1⟩, hlen, hin⟩ := romB_all hm
  have hll : l.length ≤ 10 := by rw [secH_chunk hn0] at hlen; omega
  have e0 : romE h l xs.length (chkE r a h vm nv D) = 0 := by rw [chk_ok g o]; exact romE_t hm
  have hb : ∀ i, i < l.length → 0 ≤ posW r a l i ∧ posW r a l i < D.safe.length := fun i hi => by have := hin i hi; have := o.ns; unfold posW; omega
  unfold wroE wroD
  rw [if_pos e0, if_pos e0, doE_app, doD_app]
  rcases puts_k g o hc (xs := xs) hin hll l.length (Nat.le_refl _) with ⟨h1, P⟩ | ⟨h0, h1, j, hj, P⟩
  · rw [if_pos h1, if_pos h1]
    obtain ⟨Z, hZ⟩ : ∃ Z, doD r a h vm nv D (wrT r a l xs l.length) = Z := ⟨_, rfl⟩
    rw [hZ] at P ⊢
    have hcp : ∀ i, i < l.length → (Z.cache.getD i ⟨0, []⟩).pos = posW r a l i := fun i hi => by rw [P.pos i hi]
    have hcd : ∀ i, i < l.length → (Z.cache.getD i ⟨0, []⟩).data = pad 64 (wrC xs i) := fun i hi => by rw [P.pos i hi]
    by_cases hf : Z.fuel = 0
    · right
      have e : thE r a h vm nv Z .flush = 10 := by
        show marE _ _ = _
        rw [chk_ok g P.ok]; exact marE_down hf
      refine ⟨fun q => by have := P.fu q; omega, by simp [doE, e], ?_⟩
      have e2 : doD r a h vm nv Z [.flush] = Z := by simp [doD, e]
      rw [e2]
      exact ⟨P.ok, P.safe, fun i hi => ⟨i, by rw [P.len] at hi; exact hi, hcp i (by rw [P.len] at hi; exact hi)⟩⟩
    · left
      have e : thE r a h vm nv Z .flush = 0 := by
        show marE _ _ = _
        rw [chk_ok g P.ok]; exact marE_ok hf
      refine ⟨by simp [doE, e], ?_⟩
      simp only [doD, e, if_true]
      have hzf : thD Z 0 .flush = ⟨settled (fun _ => true) Z.safe Z.cache Z.cache.length, [], Z.vols, lessF Z.fuel⟩ := fluD_ok Z
      have ho : DOk r a h vm nv (thD Z 0 .flush) := P.ok.flu hf
      rw [hzf] at ho ⊢
      have hsl : Z.safe.length = D.safe.length := by rw [P.safe]
      refine ⟨ho, rfl, fun i hi => ?_, fun y hy => ?_, fun q => by simp [lessF, P.fu q]⟩
      · have hbi := hb i hi
        show (settled _ _ _ _).getD _ _ = _
        rw [P.len, settled_mine (j := i) l.length hi (fun m hm => by rw [hcp m hm, hsl]; exact hb m hm) (by rw [hcp i hi]; omega) ?_, hcd i hi]
        intro m hm2 e
        rw [hcp m hm2] at e
        have e2 : posW r a l m = posW r a l i := by omega
        have e3 : l.getD m 0 = l.getD i 0 := by unfold posW at e2; omega
        by_cases q : m < i
        · exact absurd e3.symm (romB_apart hm hi q)
        · by_cases q2 : i < m
          · exact absurd e3 (romB_apart hm hm2 q2)
          · omega
      · show (settled _ _ _ _).getD _ _ = _
        rw [P.len, settled_other l.length fun m hm => ⟨by rw [hcp m hm, hsl]; exact hb m hm, by rw [hcp m hm]; exact hy m hm⟩, P.safe]
  · rw [if_neg (by omega), if_neg (by omega)]
    refine .inr ⟨h0, h1, P.ok, P.safe, fun i hi => ⟨i, by rw [P.len] at hi; omega, ?_⟩⟩
    rw [P.len] at hi
    rw [P.pos i hi]
/-- Bytes are read as they were written. -/
theorem read_plain {D : Dv} {l xs : List Int} (hm : romB h l xs.length = true) (hg : ∀ i, i < l.length → getL D (posW r a l i) = pad 64 (wrC xs i)) : reaL r a D l xs.length = xs := by
  obtain ⟨⟨hn0, hn1⟩, hlen, hin⟩ := romB_all hm
  rw [secH_chunk hn0] at hlen
  have key : ∀ k, k ≤ l.length → reaK r a D l k = pad (64 * k) xs := by
    intro k
    induction k with
    | zero => intro _; simp [reaK_0, pad]
    | succ k ih =>
      intro hk
      have hlt : 64 * k < xs.length := by omega
      rw [reaK_next (by omega), ih (by omega), show getL D (2 + r + 2 * a + l.getD k 0) = _ from hg k (by omega)]
      have e1 : pad (64 * k) xs = xs.take (64 * k) := by unfold pad; rw [show 64 * k - xs.length = 0 by omega]; simp
      have e2 : pad 64 (wrC xs k) = wrC xs k ++ List.replicate (64 * (k + 1) - xs.length) 0 := by
        unfold pad
        rw [List.take_of_length_le (by have := wrC_len xs k; omega)]
        congr 2
        unfold wrC
        simp
        omega
      have e3 : xs.take (64 * k) ++ wrC xs k = xs.take (64 * (k + 1)) := by
        unfold wrC
        rw [show xs.take (64 * k) = (xs.take (min ((k + 1) * 64) xs.length)).take (k * 64) by rw [List.take_take]; congr 1; omega, List.take_append_drop]
        by_cases q : (k + 1) * 64 ≤ xs.length
        · congr 1; omega
        · rw [List.take_of_length_le (l := xs) (i := 64 * (k + 1)) (by omega), List.take_of_length_le (by omega)]
      rw [e1, e2, ← List.append_assoc, e3]
      rfl
  unfold reaL
  rw [key _ (Nat.le_refl _), Int.toNat_natCast]
  exact pad_first rfl (by omega)
theorem Wrote.get {D Z : Dv} {l xs : List Int} (g : geoB r a h vm nv = true) (hW : Wrote r a h vm nv D l xs Z) (hin : ∀ i, i < l.length → 0 ≤ l.getD i 0) {i : Nat} (hi : i < l.length) : getL Z (posW r a l i) = pad 64 (wrC xs i) := by
  have hg := geoB_u g
  have := hin i hi
  have e : posW r a l i = ((posW r a l i).toNat : Int) := by unfold posW; omega
  have hz : Z = ⟨Z.safe, [], Z.vols, Z.fuel⟩ := by have := hW.cache; cases Z; simp_all
  rw [e, hz, getL_bare]
  exact hW.mine i hi
end
end Go.Proofs.Ytjaedigjmgfakaa

/- icehousekeep.body. -/
namespace Go.Proofs.Ytjaedigjmgfakaa
open Go.RowKit
set_option maxRecDepth 100000
set_option linter.unusedVariables false
set_option linter.unusedSimpArgs false
/-- A text, some times. -/
def repS (s : ByteArray) : Nat → ByteArray
  | 0 => .empty
  | k + 1 => repS s k ++ s
theorem repS_size (s : ByteArray) (k : Nat) : (repS s k).size = k * s.size := by
  induction k with
  | zero => simp [repS]
  | succ k ih => simp only [repS, ByteArray.size_append, ih]; rw [Nat.add_mul, Nat.one_mul]
def bodK (P N : Nat) : Nat := if N = 0 then 0 else (P + N - 1) / N
def bodyS (s : ByteArray) (n : Int) : ByteArray := (repS s (bodK (pickI n 300).toNat s.size)).extract 0 (min (repS s (bodK (pickI n 300).toNat s.size)).size 600)
theorem bodyS_size (s : ByteArray) (n : Int) : (bodyS s n).size ≤ 600 := by unfold bodyS; simp; omega
theorem bodK_is {P N k : Nat} (hN : N ≠ 0) (h1 : ¬ k * N < P) (h0 : k ≠ 0 → (k - 1) * N < P) : bodK P N = k := by
  unfold bodK
  rw [if_neg hN]
  by_cases hk : k = 0
  · subst hk
    exact Nat.div_eq_of_lt (by omega)
  · obtain ⟨j, rfl⟩ : ∃ j, k = j + 1 := ⟨k - 1, by omega⟩
    have h2 := h0 (by omega)
    simp only [Nat.add_sub_cancel] at h2
    have e1 : (j + 1) * N = j * N + N := by rw [Nat.add_mul, Nat.one_mul]
    have e2 : (j + 1 + 1) * N = j * N + N + N := by rw [Nat.add_mul, e1, Nat.one_mul]
    refine Nat.div_eq_of_lt_le (by omega) ?_
    first | (rw [e2]; omega) | (show _ < (j + 1 + 1) * N; rw [e2]; omega)
theorem body_fin {s y : ByteArray} {n : Int} {P k : Nat} (hP : pickI n 300 = (P : Int)) (hy : repS s k = y) (hk : k ≠ 0 → s.size ≠ 0 ∧ (k - 1) * s.size < P) (h : s.size = 0 ∨ ¬ y.size < P) : bodyS s n = y.extract 0 (min y.size 600) := by
  have hz := repS_size s k
  have e : bodK P s.size = k := by
    by_cases hs : s.size = 0
    · unfold bodK
      rw [if_pos hs]
      by_cases q : k = 0
      · exact q.symm
      · exact absurd hs (hk q).1
    · refine bodK_is hs ?_ fun q => (hk q).2
      rw [← hz, hy]
      rcases h with h | h
      · exact absurd h hs
      · exact h
  unfold bodyS
  rw [hP, Int.toNat_natCast, e, hy]
theorem ext_all (y : ByteArray) (h : y.size ≤ 600) : y.extract 0 (min y.size 600) = y := by
  rw [Nat.min_eq_left h]; simp
theorem empty_iff (b : ByteArray) : b.toList.isEmpty = true ↔ b.size = 0 := by
  rw [ByteArray.toList_eq]
  constructor
  · intro h
    have := List.isEmpty_iff.1 h
    have h2 : b.data.toList.length = 0 := by rw [this]; rfl
    simpa using h2
  · intro h
    rw [List.isEmpty_iff]
    exact List.eq_nil_of_length_eq_zero (by simpa using h)
def szOf : Value → Nat
  | .string b => b.size
  | _ => 0
set_option maxHeartbeats 1000000 in
theorem body_any (s : ByteArray) (n : Int) (w : World) (hs : s.size ≤ 9223372036854775807) (h0 : -9223372036854775808 ≤ n) (h1 : n ≤ 9223372036854775807) :
    Calls Try.prog 9 #[.string s, .int .i64 n] w fun e w' => e = .returned (.string (bodyS s n)) ∧ Below w.heap.size w w' := by
  obtain ⟨P, hP⟩ : ∃ P : Nat, pickI n 300 = (P : Int) := ⟨(pickI n 300).toNat, by have := pickI_lo n (m := 300) (by omega); omega⟩
  have hP3 : P < 300 := by have := pickI_hi n (m := 300) (by omega); omega
  have HB : Hid (∀ (y : ByteArray) (k : Nat), repS s k = y → (k ≠ 0 → s.size ≠ 0 ∧ (k - 1) * s.size < P) → (s.size = 0 ∨ ¬ y.size < P) → bodyS s n = y.extract 0 (min y.size 600)) := fun y k a b c => body_fin hP a b c
  have HP := hide hP
  clear hP
  go_enter Try.func9, Try.ntmps9
  go_wp2
  go_loopw [5] (fun o wr => ∃ (k : Nat) (y : ByteArray), o = .string y ∧ repS s k = y ∧ y.size ≤ 9223372036854775807 ∧ (k ≠ 0 → s.size ≠ 0 ∧ (k - 1) * s.size < P) ∧ Below w.heap.size w wr) (fun o _ => P - szOf o)
  case atStart => exact ⟨0, .empty, rfl, rfl, by decide, fun h => absurd rfl h, Below.refl _ _⟩
  case round =>
    obtain ⟨k, y, rfl, hy, hyl, hk, hb⟩ := hrel
    have hsz := repS_size s k
    rw [hy] at hsz
    have HY := hide hy
    have HK := hide hk
    have HSZ := hide hsz
    clear hy hk hsz
    by_cases q : s.size = 0 ∨ ¬ y.size < P
    · have hfin := hide (unhide HB y k (unhide HY) (unhide HK) q)
      have hres : ∀ z : ByteArray, z = y.extract 0 (min y.size 600) → Ending.returned (.string z) = .returned (.string (bodyS s n)) := fun z hz => by rw [hz, unhide hfin]
      have HRES := hide hres
      clear hres
      have hq : (s.toList.isEmpty = true ∧ y.size ≤ 600) ∨ ¬ y.size < P := by
        rcases q with q | q
        · refine .inl ⟨?_, ?_⟩
          · exact (empty_iff s).2 q
          · rw [unhide HSZ, q]; omega
        · exact .inr q
      clear q hfin
      by_cases h6 : y.size ≤ 600
      · have HE := hide (ext_all y h6).symm
        rcases hq with ⟨hq, _⟩ | hq
        · by_cases hl : y.size < P <;> (
            go_wp2_with (go_at_call 17; refine (picked_any n 300 _ (by omega) (by omega) h0 (by omega)).mono ?_; rintro e w' ⟨rfl, rfl⟩; rw [unhide HP])
            go_ret
            exact ⟨unhide HRES _ (unhide HE), hb⟩)
        · go_wp2_with (go_at_call 17; refine (picked_any n 300 _ (by omega) (by omega) h0 (by omega)).mono ?_; rintro e w' ⟨rfl, rfl⟩; rw [unhide HP])
          go_ret
          exact ⟨unhide HRES _ (unhide HE), hb⟩
      · have hq' : ¬ y.size < P := by rcases hq with ⟨_, hq⟩ | hq; omega; exact hq
        have HE : Hid (y.extract 0 600 = y.extract 0 (min y.size 600)) := by show _ = _; rw [Nat.min_eq_right (by omega)]
        clear hq
        go_wp2_with (go_at_call 17; refine (picked_any n 300 _ (by omega) (by omega) h0 (by omega)).mono ?_; rintro e w' ⟨rfl, rfl⟩; rw [unhide HP])
        go_ret
        exact ⟨unhide HRES _ (unhide HE), hb⟩
    · have h2 : s.size ≠ 0 := fun e => q (.inl e)
      have h1 : y.size < P := by by_cases e : y.size < P; exact e; exact absurd (.inr e) q
      have hse : s.toList.isEmpty = false := by
        rw [Bool.eq_false_iff]; intro e
        exact h2 ((empty_iff s).1 e)
      have hys : y.size + s.size ≤ 9223372036854775807 := by
        have hz := unhide HSZ
        by_cases k0 : k = 0
        · subst k0; omega
        · have : 1 * s.size ≤ k * s.size := Nat.mul_le_mul_right _ (by omega)
          omega
      clear q
      go_wp2_with (go_at_call 17; refine (picked_any n 300 _ (by omega) (by omega) h0 (by omega)).mono ?_; rintro e w' ⟨rfl, rfl⟩; rw [unhide HP])
      go_roundw
      case rel => exact ⟨k + 1, y ++ s, rfl, by show repS s k ++ s = _; rw [unhide HY], by rw [ByteArray.size_append]; exact hys, fun _ => ⟨h2, by rw [Nat.add_sub_cancel, ← unhide HSZ]; exact h1⟩, hb⟩
      case measure => simp [szOf, ByteArray.size_append]; omega
end Go.Proofs.Ytjaedigjmgfakaa

/- The two boxes of a law of icehousekeep at whatever geometry; the geometry of sevens; what a conversion lays. -/
namespace Go.Proofs.Ytjaedigjmgfakaa
open Go.RowKit
set_option maxRecDepth 100000
set_option linter.unusedVariables false
set_option linter.unusedSimpArgs false
abbrev geoV (r a h vm nv : Int) : List Value := [.int .i64 r, .int .i64 a, .int .i64 h, .int .i64 vm, .int .i64 nv]
structure Kg (r a h vm nv : Int) (w W : World) (gB dB : Nat) (s c v : Value) (D : Dv) : Prop where
  geo : Row W gB 24 (geoV r a h vm nv)
  box : Row W dB 34 [s, c, v, .int .i64 D.fuel]
  dev : Dev W s c v D
  bel : Below w.heap.size w W
  low : w.heap.size ≤ dB
section
variable {r a hz vm nv : Int} {w W w' : World} {gB dB : Nat} {s c v s' c' v' : Value} {D D' : Dv}
theorem Kg.up (h : Kg r a hz vm nv w W gB dB s c v D) (hb : Below W.heap.size W w') : Kg r a hz vm nv w w' gB dB s c v D := ⟨h.geo.up hb, h.box.up hb, h.dev.up hb, bl_trans h.bel hb, h.low⟩
theorem Kg.store (h : Kg r a hz vm nv w W gB dB s c v D) (hb : Below W.heap.size W w') {B : Nat} (hO : ODev w' B s' c' v' D') :
    Kg r a hz vm nv w ((((w'.setCell ⟨dB, 0, none⟩ s').setCell ⟨dB, 1, none⟩ c').setCell ⟨dB, 2, none⟩ v').setCell ⟨dB, 3, none⟩ (.int .i64 D'.fuel)) gB dB s' c' v' D' := by
  have hr := h.box.up hb
  have hg := h.geo.up hb
  refine ⟨hg.kept (gb4 dB _ _ _ _) (by simpa using hg.apart hr (by decide)), R4 hr _ _ _ _, (O4 hO hr _ _ _ _).dev, ?_, h.low⟩
  have h1 := bl_trans h.bel hb
  have hl := h.low
  exact bl_set (bl_set (bl_set (bl_set h1 hl _) hl _) hl _) hl _
end
/-- Numbers of one's own, and a text's bytes, behind a store into the devices' box. -/
theorem OwN.store {w w' : World} {B dB : Nat} {v : Value} {l : List Int} {cs : List Value} (h : OwN w B v l) (hr : Row w dB 34 cs) (hb : Below w.heap.size w w') (p q x z : Value) :
    OwN ((((w'.setCell ⟨dB, 0, none⟩ p).setCell ⟨dB, 1, none⟩ q).setCell ⟨dB, 2, none⟩ x).setCell ⟨dB, 3, none⟩ z) B v l :=
  World.ownsRow.kept (own_up h hb) (gb4 dB _ _ _ _) (.inr (own_apart (own_up h hb) (hr.up hb) (by decide)))
theorem Txs.stored {w w' : World} {dB : Nat} {a : Value} {T : ByteArray} {cs : List Value} (t : Txs w a T) (hr : Row w dB 34 cs) (hb : Below w.heap.size w w') (p q r z : Value) :
    Txs ((((w'.setCell ⟨dB, 0, none⟩ p).setCell ⟨dB, 1, none⟩ q).setCell ⟨dB, 2, none⟩ r).setCell ⟨dB, 3, none⟩ z) a T := (t.up hb).kept (hr.up hb) (by decide) (gb4 dB _ _ _ _)
theorem geo7 (a : Int) : geoB (8 + pickI a 30) (30 + pickI a 40) (hotH a) (700 + pickI a 2000) (2 + pickI a 7) = true := by
  have b1 := pick_b a 30 (by decide)
  have b2 := pick_b a 40 (by decide)
  have b4 := pick_b a 2000 (by decide)
  have b5 := pick_b a 7 (by decide)
  have b3 := hotH_is a
  simp only [geoB, inB, Bool.and_eq_true, decide_eq_true_eq]
  omega
/-- Steps of seven meet each sector once. -/
theorem spL_room {f h : Int} {n : Int} {k : Nat} (hh : h = 11 ∨ h = 22 ∨ h = 31) (hn : 0 ≤ n ∧ n ≤ 600) (hk : secH n = (k : Int)) : romB h (spL f h k) n = true := by
  have hP := pick_b f h (by omega)
  have hk10 : k ≤ 10 := by rw [secH_chunk hn.1] at hk; omega
  refine romB_t (by simp [inB]; omega) (by rw [spL_len, hk]) fun j hj => ?_
  rw [spL_len] at hj
  unfold romQ
  rw [spL_at f h hj, spL_take f h (by omega)]
  rw [Bool.and_eq_true]
  have e1 := Int.emod_nonneg (pickI f h + (j : Int) * 7) (b := h) (by omega)
  have e2 := Int.emod_lt_of_pos (pickI f h + (j : Int) * 7) (b := h) (by omega)
  refine ⟨by simp [inB]; omega, ?_⟩
  rw [Bool.not_eq_true', Bool.eq_false_iff]
  intro e
  simp only [List.contains_iff_mem, spL, List.mem_map, List.mem_range] at e
  obtain ⟨i, hi, e⟩ := e
  rcases hh with rfl | rfl | rfl <;> omega
end Go.Proofs.Ytjaedigjmgfakaa

/- Two lists of sectors, one behind the other, and what is written in both: plain facts, and the cut of a list in memory. -/
namespace Go.Proofs.Ytjaedigjmgfakaa
open Go.RowKit
set_option maxRecDepth 100000
set_option linter.unusedVariables false
set_option linter.unusedSimpArgs false
section
variable {r a h vm nv : Int}
theorem newD_safe (g : geoB r a h vm nv = true) : (newD r a h vm nv).cache = [] ∧ (newD r a h vm nv).fuel = -1 := by rw [newD_t g]; exact ⟨rfl, rfl⟩
theorem posW_nat (g : geoB r a h vm nv = true) {l : List Int} {i : Nat} (h0 : 0 ≤ l.getD i 0) : posW r a l i = ((posW r a l i).toNat : Int) := by
  have hg := geoB_u g
  unfold posW; omega
theorem Wrote.get_cra {D Z : Dv} {l xs : List Int} (g : geoB r a h vm nv = true) (hW : Wrote r a h vm nv D l xs Z) (hin : ∀ i, i < l.length → 0 ≤ l.getD i 0) (ks : List Bool) {t : Int} {i : Nat} (hi : i < l.length) : getL (craD ks t Z 0) (posW r a l i) = pad 64 (wrC xs i) := by
  rw [posW_nat g (hin i hi), cra_some, hW.cache]
  exact hW.mine i hi
/-- What was written first is there behind a second write elsewhere. -/
theorem Wrote.first {D Y Z : Dv} {l xs m ys : List Int} (g : geoB r a h vm nv = true) (hW : Wrote r a h vm nv D l xs Y) (hV : Wrote r a h vm nv Y m ys Z) (hin : ∀ i, i < l.length → 0 ≤ l.getD i 0) (hap : ∀ i j, i < l.length → j < m.length → l.getD i 0 ≠ m.getD j 0) {i : Nat} (hi : i < l.length) : getL Z (posW r a l i) = pad 64 (wrC xs i) := by
  have hz : Z = ⟨Z.safe, [], Z.vols, Z.fuel⟩ := by have := hV.cache; cases Z; simp_all
  have e := posW_nat g (hin i hi)
  rw [e, hz, getL_bare]
  show Z.safe.getD _ [] = _
  rw [hV.other _ fun j hj q => hap i j hi hj (by rw [← e] at q; unfold posW at q; omega)]
  exact hW.mine i hi
theorem Wrote.first_arm {D Y Y' Z : Dv} {l xs m ys : List Int} (g : geoB r a h vm nv = true) (hW : Wrote r a h vm nv D l xs Y) (hY : Y'.safe = Y.safe) (hV : Wrote r a h vm nv Y' m ys Z) (hin : ∀ i, i < l.length → 0 ≤ l.getD i 0) (hap : ∀ i j, i < l.length → j < m.length → l.getD i 0 ≠ m.getD j 0) (ks : List Bool) {t : Int} {i : Nat} (hi : i < l.length) : getL (craD ks t Z 0) (posW r a l i) = pad 64 (wrC xs i) := by
  have e := posW_nat g (hin i hi)
  rw [e, cra_some, hV.cache]
  show Z.safe.getD _ [] = _
  rw [hV.other _ fun j hj q => hap i j hi hj (by rw [← e] at q; unfold posW at q; omega), hY]
  exact hW.mine i hi
/-- A write that was torn leaves the other sectors as they were. -/
theorem Torn.first_cra {D Y Z : Dv} {l xs m : List Int} (g : geoB r a h vm nv = true) (hW : Wrote r a h vm nv D l xs Y) {Y' : Dv} (hY : Y'.safe = Y.safe) (hV : Torn r a h vm nv Y' m Z) (hin : ∀ i, i < l.length → 0 ≤ l.getD i 0) (hap : ∀ i j, i < l.length → j < m.length → l.getD i 0 ≠ m.getD j 0) (ks : List Bool) {t : Int} {i : Nat} (hi : i < l.length) : getL (craD ks t Z 0) (posW r a l i) = pad 64 (wrC xs i) := by
  have e := posW_nat g (hin i hi)
  rw [e, cra_some, settled_other _ fun k hk => ⟨(hV.ok.c64 k hk).1, fun q => ?_⟩]
  · rw [hV.safe, hY]; exact hW.mine i hi
  · obtain ⟨j, hj, q2⟩ := hV.pos k hk
    rw [q2, ← e] at q
    exact hap i j hi hj (by unfold posW at q; omega)
theorem dies_plain (g : geoB r a h vm nv = true) {D Y : Dv} {l m xs ys : List Int} (hW : Wrote r a h vm nv D l xs Y) (hl : romB h l xs.length = true) (hm : romB h m ys.length = true) (hin : ∀ i, i < l.length → 0 ≤ l.getD i 0) (him : ∀ i, i < m.length → 0 ≤ m.getD i 0) (hap : ∀ i j, i < l.length → j < m.length → l.getD i 0 ≠ m.getD j 0) {f : Int} (hf : inB f 0 1048576 = true) (ks : List Bool) :
    ∃ (E : Int) (Z : Dv), wroE r a h vm nv (armD Y f 0) m ys = E ∧ wroD r a h vm nv (armD Y f 0) m ys = Z ∧ (E = 0 ∨ E = 10) ∧ DOk r a h vm nv Z ∧ reaL r a (craD ks 0 Z 0) l xs.length = xs ∧ (E = 10 ∨ reaL r a (craD ks 0 Z 0) m ys.length = ys) := by
  have oA : DOk r a h vm nv (armD Y f 0) := hW.ok.arm hf
  have cA : (armD Y f 0).cache = [] := by rw [armD_ok]; exact hW.cache
  have sA : (armD Y f 0).safe = Y.safe := by rw [armD_ok]
  refine ⟨_, _, rfl, rfl, ?_⟩
  rcases write_plain g oA cA hm with ⟨h1, h2⟩ | ⟨_, h1, h2⟩
  · exact ⟨.inl h1, h2.ok, read_plain hl fun i hi => hW.first_arm g sA h2 hin hap ks hi, .inr (read_plain hm fun i hi => h2.get_cra g him ks hi)⟩
  · exact ⟨.inr h1, h2.ok, read_plain hl fun i hi => Torn.first_cra g hW sA h2 hin hap ks hi, .inl h1⟩
end
theorem Kg.fresh {r a hz vm nv : Int} {w W w' : World} {gB dB : Nat} {s c v : Value} {D : Dv} (h : Kg r a hz vm nv w W gB dB s c v D) (hb : Below W.heap.size W w') {B : Nat} (yr : Row w' B 34 [.slice none 0 0, .slice none 0 0, .slice none 0 0, .int .i64 0]) (hB : W.heap.size ≤ B) :
    Kg r a hz vm nv w w' gB B (.slice none 0 0) (.slice none 0 0) (.slice none 0 0) ⟨[], [], [], 0⟩ :=
  ⟨h.geo.up hb, yr, (ODev.empty w' 0 0).dev, bl_trans h.bel hb, Nat.le_trans h.bel.size hB⟩
theorem geo5 {r a h vm nv : Int} {W : World} {g : Nat} (k : Row W g 24 (geoV r a h vm nv)) : W.cell? ⟨g, 0, none⟩ = some (.int .i64 r) ∧ W.cell? ⟨g, 1, none⟩ = some (.int .i64 a) ∧ W.cell? ⟨g, 2, none⟩ = some (.int .i64 h) ∧ W.cell? ⟨g, 3, none⟩ = some (.int .i64 vm) ∧ W.cell? ⟨g, 4, none⟩ = some (.int .i64 nv) :=
  ⟨k.cell 0 _ rfl, k.cell 1 _ rfl, k.cell 2 _ rfl, k.cell 3 _ rfl, k.cell 4 _ rfl⟩
/-- The second part of a list of steps. -/
def spM (f h : Int) (x n : Nat) : List Int := ((spL f h (x + n)).drop x)
theorem spM_len (f h : Int) (x n : Nat) : (spM f h x n).length = n := by simp [spM, spL]
theorem spM_at (f h : Int) (x : Nat) {n i : Nat} (hi : i < n) : (spM f h x n).getD i 0 = (pickI f h + ((x + i : Nat) : Int) * 7) % h := by
  rw [← spL_at f h (n := x + n) (i := x + i) (by omega)]
  simp [spM, List.getD, List.getElem?_drop]
theorem spL_in {f h : Int} (hh : h = 11 ∨ h = 22 ∨ h = 31) {n : Nat} : ∀ i, i < (spL f h n).length → 0 ≤ (spL f h n).getD i 0 := fun i hi => by
  rw [spL_len] at hi
  rw [spL_at f h hi]
  exact Int.emod_nonneg _ (by omega)
theorem spM_in {f h : Int} (hh : h = 11 ∨ h = 22 ∨ h = 31) {x n : Nat} : ∀ i, i < (spM f h x n).length → 0 ≤ (spM f h x n).getD i 0 := fun i hi => by
  rw [spM_len] at hi
  rw [spM_at f h x hi]
  exact Int.emod_nonneg _ (by omega)
theorem spM_apart {f h : Int} (hh : h = 11 ∨ h = 22 ∨ h = 31) {x n : Nat} (hx : x + n ≤ 11) : ∀ i j, i < (spL f h x).length → j < (spM f h x n).length → (spL f h x).getD i 0 ≠ (spM f h x n).getD j 0 := fun i j hi hj => by
  rw [spL_len] at hi
  rw [spM_len] at hj
  rw [spL_at f h hi, spM_at f h x hj]
  have hP := pick_b f h (by omega)
  rcases hh with rfl | rfl | rfl <;> omega
theorem spM_room {f h : Int} {n : Int} {x k : Nat} (hh : h = 11 ∨ h = 22 ∨ h = 31) (hn : 0 ≤ n ∧ n ≤ 600) (hk : secH n = (k : Int)) (hx : x + k ≤ 11) : romB h (spM f h x k) n = true := by
  have hP := pick_b f h (by omega)
  refine romB_t (by simp [inB]; omega) (by rw [spM_len, hk]) fun j hj => ?_
  rw [spM_len] at hj
  unfold romQ
  rw [spM_at f h x hj]
  rw [Bool.and_eq_true]
  have e1 := Int.emod_nonneg (pickI f h + ((x + j : Nat) : Int) * 7) (b := h) (by omega)
  have e2 := Int.emod_lt_of_pos (pickI f h + ((x + j : Nat) : Int) * 7) (b := h) (by omega)
  refine ⟨by simp only [inB, decide_eq_true_eq]; omega, ?_⟩
  rw [Bool.not_eq_true', Bool.eq_false_iff]
  intro e
  rw [List.contains_iff_mem, mem_at] at e
  obtain ⟨i, hi, e⟩ := e
  have hi' : i < j := by simp [spM_len] at hi; omega
  have e3 : ((spM f h x k).take j).getD i 0 = (spM f h x k).getD i 0 := by simp [List.getD, List.getElem?_take, hi']
  rw [e3, spM_at f h x (by omega)] at e
  rcases hh with rfl | rfl | rfl <;> omega
/-- The cut of a list in memory. -/
theorem elemNt : Try.prog.elem 28 = 3 := by kernel_rfl
theorem sizeOfNt (u : World) : (sizeOf 3).run Try.prog u = .ok 1 u := by kernel_rfl
theorem cut_runN {bb bo L bc x y : Nat} (h1 : x ≤ y) (h2 : y ≤ bc) (h3 : x < bc) (u : World) : (Instr.slice 28 (.slice (some ⟨bb, bo, none⟩) L bc) (some (.int .i64 (x : Int))) (some (.int .i64 (y : Int))) none).run Try.prog u = .ok (.slice (some ⟨bb, bo + x, none⟩) (y - x) (bc - x)) u := by
  rw [run_slice_lh u 28 (some ⟨bb, bo, none⟩) L bc (by rw [elemNt]; exact Try.underlying28) .i64 .i64 (x : Int) (y : Int) (by omega) (by omega) (by omega), elemNt, sizeOfNt]
  simp only [Result.andThen, sliced, Int.toNat_natCast]
  have h4 : ¬ bc - x = 0 := by omega
  have h5 : ¬ bc = x := by omega
  simp [h4, h5, Addr.add]
theorem Nts.cut {w : World} {b o L cap : Nat} {xs : List Int} (h : Nts w (.slice (some ⟨b, o, none⟩) L cap) xs) {x y : Nat} (hxy : x ≤ y) (hy : y ≤ L) : Nts w (.slice (some ⟨b, o + x, none⟩) (y - x) (cap - x)) ((xs.take y).drop x) := by
  obtain ⟨a', cap', e, l1, m1, hc⟩ := h
  simp at e
  obtain ⟨rfl, rfl, rfl⟩ := e
  have hl : ((xs.take y).drop x).length = y - x := by simp; omega
  refine ⟨_, cap - x, by rw [hl], by rw [hl]; omega, by omega, fun i hi => ?_⟩
  rw [hl] at hi
  obtain ⟨b', o', e, hcell⟩ := hc (x + i) (by omega)
  simp at e
  obtain ⟨rfl, rfl⟩ := e
  refine ⟨b, o + x, rfl, ?_⟩
  rw [Nat.add_assoc, hcell]
  congr 2
  simp [List.getD, List.getElem?_drop, List.getElem?_take, show x + i < y by omega]
theorem OwN.form {w : World} {B : Nat} {v : Value} {l : List Int} {n : Nat} (h : OwN w B v l) (hl : l.length = n) (h0 : 0 < n) : ∃ g cap, v = .slice (some ⟨g, 0, none⟩) n cap ∧ n ≤ cap ∧ cap ≤ maxLen := by
  subst hl
  rcases h.2 with ⟨_, q⟩ | ⟨g, cap, cur, rfl, _, _, h1, h2, _⟩
  · omega
  · exact ⟨g, cap, rfl, h1, h2⟩
theorem cut_three (B : ByteArray) (hB : B.size ≤ 600) : ∃ (N M : Nat) (X : ByteArray), B.size = N ∧ N ≤ 600 ∧ (if (300 : Int) < (N : Int) then (300 : Int) else (N : Int)) = (M : Int) ∧ M ≤ 300 ∧ M ≤ N ∧ B.extract 0 M = X ∧ X.size = M := by
  refine ⟨B.size, min B.size 300, _, rfl, by omega, by split <;> omega, by omega, by omega, rfl, by simp⟩
theorem sec_nat {M : Nat} (hM : M ≤ 1000) : ∃ k : Nat, secH (M : Int) = (k : Int) ∧ (secH (M : Int)).toNat = k ∧ k = (M + 63) / 64 := by
  have := secH_chunk (n := (M : Int)) (by omega)
  exact ⟨(M + 63) / 64, by omega, by omega, rfl⟩
end Go.Proofs.Ytjaedigjmgfakaa

/- icehousekeep.HotBad: the walk. -/
namespace Go.Proofs.Ytjaedigjmgfakaa
open Go.RowKit
set_option maxRecDepth 100000
set_option linter.unusedVariables false
set_option linter.unusedSimpArgs false
attribute [local go_sem ↓] Go.wp_at_zero Go.wp_at_succ
def odd (P : Int) : List (List Int) := [[6], [-1 - P], [0, 0], [1, 2], [], [6 + P]]
/-- A list of lists of numbers. -/
def OddAt (w : World) (v : Value) (xs : List (List Int)) : Prop := ∃ g, v = .slice (some ⟨g, 0, none⟩) xs.length xs.length ∧ ∀ i, i < xs.length → ∃ u, w.cell? ⟨g, i, none⟩ = some u ∧ Nts w u (xs.getD i [])
theorem OddAt.up {w w' : World} {v : Value} {xs : List (List Int)} (h : OddAt w v xs) (hb : Below w.heap.size w w') : OddAt w' v xs := by
  obtain ⟨g, e, h⟩ := h
  exact ⟨g, e, fun i hi => let ⟨u, a, b⟩ := h i hi; ⟨u, cell_up hb a, b.up hb⟩⟩
theorem Nts.new (w : World) (xs : List Int) (hm : xs.length ≤ maxLen) {t : TypeId} : Nts (w.alloc (.cells (n64s xs).toArray t)) (.slice (some ⟨w.heap.size, 0, none⟩) xs.length xs.length) xs := by
  refine ⟨_, xs.length, rfl, Nat.le_refl _, hm, fun i hi => ⟨w.heap.size, 0, rfl, ?_⟩⟩
  rw [Nat.zero_add, World.cell?_alloc_at _ _ _ _ rfl]
  simp [n64s, List.getD, hi]
def szs : List Int := [10, 10, 100, 10, 1, 64]
theorem szs_nat {I : Nat} (h : I < 6) : ∃ m : Nat, szs.getD I 0 = (m : Int) := by
  match I, h with
  | 0, _ => exact ⟨10, rfl⟩
  | 1, _ => exact ⟨10, rfl⟩
  | 2, _ => exact ⟨100, rfl⟩
  | 3, _ => exact ⟨10, rfl⟩
  | 4, _ => exact ⟨1, rfl⟩
  | 5, _ => exact ⟨64, rfl⟩
theorem szs_le {I m : Nat} (h : I < 6) (hm : szs.getD I 0 = (m : Int)) : m ≤ 100 := by
  match I, h with
  | 0, _ => simp [szs] at hm; omega
  | 1, _ => simp [szs] at hm; omega
  | 2, _ => simp [szs] at hm; omega
  | 3, _ => simp [szs] at hm; omega
  | 4, _ => simp [szs] at hm; omega
  | 5, _ => simp [szs] at hm; omega
theorem szs_at {I : Nat} (h : I < 6) : szs[I]? = some (szs.getD I 0) := by
  match I, h with
  | 0, _ => rfl
  | 1, _ => rfl
  | 2, _ => rfl
  | 3, _ => rfl
  | 4, _ => rfl
  | 5, _ => rfl
/-- None of them may be. -/
theorem odd_bad {P : Int} (hP : 0 ≤ P ∧ P < 9) {I : Nat} (h : I < 6) : romB 6 ((odd P).getD I []) (szs.getD I 0) = false := by
  match I, h with
  | 0, _ => show romB 6 [6] 10 = false; decide
  | 1, _ => exact romB_q (k := 0) (by show 0 < 1; decide) (by show (inB (-1 - P) 0 (6 - 1) && _) = false; rw [show inB (-1 - P) 0 (6 - 1) = false by simp only [inB, decide_eq_false_iff_not]; omega]; rfl)
  | 2, _ => show romB 6 [0, 0] 100 = false; decide
  | 3, _ => show romB 6 [1, 2] 10 = false; decide
  | 4, _ => show romB 6 [] 1 = false; decide
  | 5, _ => exact romB_q (k := 0) (by show 0 < 1; decide) (by show (inB (6 + P) 0 (6 - 1) && _) = false; rw [show inB (6 + P) 0 (6 - 1) = false by simp only [inB, decide_eq_false_iff_not]; omega]; rfl)
def hbF (gB : Nat) (n P : Int) (i : Nat) (v : Value) (w : World) : Prop :=
  match i with
  | 0 => v = .pointer (some ⟨gB, 2, none⟩)
  | 1 => v = .int .i64 6
  | 2 => Nts w v [6]
  | 3 => v = .int .i64 n
  | 4 => v = .int .i64 P
  | 5 => v = .int .i64 (-1 - P)
  | 6 => Nts w v [-1 - P]
  | 7 => Nts w v [0, 0]
  | 8 => Nts w v [1, 2]
  | 9 => Nts w v []
  | 10 => v = .pointer (some ⟨gB, 2, none⟩)
  | 11 => v = .int .i64 6
  | 12 => v = .int .i64 n
  | 13 => v = .int .i64 P
  | 14 => v = .int .i64 (6 + P)
  | 15 => Nts w v [6 + P]
  | 16 => OddAt w v (odd P)
  | 17 => OddAt w v (odd P)
  | _ => True
theorem hbF_up (gB : Nat) (n P : Int) (i : Nat) (v : Value) (w w' : World) (hb : Below w.heap.size w w') (h : hbF gB n P i v w) : hbF gB n P i v w' := by
  match i, h with
  | 0, h => exact h
  | 1, h => exact h
  | 2, h => exact h.up hb
  | 3, h => exact h
  | 4, h => exact h
  | 5, h => exact h
  | 6, h => exact h.up hb
  | 7, h => exact h.up hb
  | 8, h => exact h.up hb
  | 9, h => exact h.up hb
  | 10, h => exact h
  | 11, h => exact h
  | 12, h => exact h
  | 13, h => exact h
  | 14, h => exact h
  | 15, h => exact h.up hb
  | 16, h => exact h.up hb
  | 17, h => exact h.up hb
  | _ + 18, _ => trivial
set_option maxHeartbeats 2000000 in
theorem hotBad_walk (which n : Int) (w : World) (ww : (Lit.int .i64 which).wf = true) (wn : (Lit.int .i64 n).wf = true) :
    Calls Try.prog 6 #[.int .i64 which, .int .i64 n] w fun e w' => e = .returned (.bool true) ∧ Below w.heap.size w w' := by
  obtain ⟨m0, m1⟩ := wf_lo ww
  obtain ⟨n0, n1⟩ := wf_lo wn
  clear ww wn
  obtain ⟨P, hP⟩ : ∃ P, pickI n 9 = P := ⟨_, rfl⟩
  have hPb : 0 ≤ P ∧ P < 9 := by rw [← hP]; exact pick_b n 9 (by decide)
  have HP := hide hP
  clear hP
  obtain ⟨D0, hD0⟩ : ∃ D, newD 6 2 6 300 3 = D := ⟨_, rfl⟩
  have HGE : Hid (geoE 6 2 6 300 3 = 0) := geoE_t geoS
  have HD0 := hide hD0
  clear hD0
  go_enter Try.func6, Try.ntmps6
  go_wp2_with fail
  refine (small_any _).mono ?_
  rintro e w1 ⟨rfl, hb1⟩
  go_upto_region 2 with fail
  go_cut [6, 7] (fun p e wd => ∃ dB s c v, p = .pointer (some ⟨dB, 0, none⟩) ∧ e = .int .i64 0 ∧ Kg 6 2 6 300 3 w wd w1.heap.size dB s c v D0)
  case first =>
    go_wp2_with fail
    refine (new_any 6 2 6 300 3 _).mono ?_
    rintro e wn ⟨s', c', v', rfl, hO, hb⟩
    rw [unhide HGE]
    rw [unhide HD0] at hO ⊢
    obtain ⟨sa, cs, ca, cc, va, cv, rfl, rfl, rfl, _⟩ := hO.form
    go_wp2
    go_meet
    case rel => exact ⟨wn.heap.size, _, _, _, rfl, rfl, ⟨((Row.new w1 24 (geoV 6 2 6 300 3)).up hb).up (bl1 _ _), Row.new _ _ _, hO.dev.up (bl1 _ _), bl_trans hb1 (bl_trans (bl1 _ _) (bl_trans hb (bl1 _ _))), Nat.le_trans hb1.size (Nat.le_trans (by simp) hb.size)⟩⟩
  case rest =>
  clear hb1
  obtain ⟨dB, s1, c1, v1, rfl, rfl, hK⟩ := hcut
  have HG2 : Hid (∀ w', Below wc.heap.size wc w' → w'.cell? ⟨w1.heap.size, 2, none⟩ = some (.int .i64 6)) := fun w' hb => (hK.geo.up hb).cell 2 _ rfl
  have HK := hide hK
  clear hK
  go_upto_region 3 with fail
  go_cut [8] (fun v wd => OddAt wd v (odd P) ∧ Below wc.heap.size wc wd)
  case first =>
    refine wp_grow (hbF w1.heap.size n P) (by kernel_rfl) (by kernel_rfl) (hbF_up _ _ _) ?_ ?_
    · refine AllOps.cons ?_ (AllOps.cons ?_ (AllOps.cons ?_ (AllOps.cons ?_ (AllOps.cons ?_ (AllOps.cons ?_ (AllOps.cons ?_ (AllOps.cons ?_ (AllOps.cons ?_ (AllOps.cons ?_ (AllOps.cons ?_ (AllOps.cons ?_ (AllOps.cons ?_ (AllOps.cons ?_ (AllOps.cons ?_ (AllOps.cons ?_ (AllOps.cons ?_ (AllOps.cons ?_ (AllOps.nil))))))))))))))))))
      · intro a w hA hb hd
        have t5 : a.tmps.getD 5 undef = .pointer (some ⟨w1.heap.size, 0, none⟩) := hA 5 rfl
        refine ⟨by rfl, ?_⟩
        go_simp
        exact ⟨_, rfl, Below.refl _ _, rfl⟩
      · intro a w hA hb hd
        have d0 : a.tmps[23]?.getD undef = .pointer (some ⟨w1.heap.size, 2, none⟩) := by rw [← Array.getD_eq_getD_getElem?]; exact hd 0 (by kernel_rfl) _ rfl
        have g2 := (unhide HG2) w hb
        refine ⟨by rfl, ?_⟩
        go_simp
        exact ⟨_, rfl, Below.refl _ _, rfl⟩
      · intro a w hA hb hd
        have d1 : a.tmps[24]?.getD undef = .int .i64 6 := by rw [← Array.getD_eq_getD_getElem?]; exact hd 1 (by kernel_rfl) _ rfl
        refine ⟨by rfl, ?_⟩
        go_simp
        exact ⟨_, rfl, bl1 _ _, Nts.new w [6] (by unfold maxLen; simp)⟩
      · intro a w hA hb hd
        have t1 : a.tmps.getD 1 undef = .int .i64 n := hA 1 rfl
        refine ⟨by rfl, ?_⟩
        go_simp
        exact ⟨_, rfl, Below.refl _ _, rfl⟩
      · intro a w hA hb hd
        have d3 : a.tmps[26]?.getD undef = .int .i64 n := by rw [← Array.getD_eq_getD_getElem?]; exact hd 3 (by kernel_rfl) _ rfl
        refine ⟨by rfl, ?_⟩
        go_simp
        go_at_call 17
        refine (picked_any n 9 _ (by decide) (by decide) n0 n1).mono ?_
        rintro e w' ⟨rfl, rfl⟩
        rw [unhide HP]
        exact ⟨_, rfl, Below.refl _ _, rfl⟩
      · intro a w hA hb hd
        have d4 : a.tmps[27]?.getD undef = .int .i64 P := by rw [← Array.getD_eq_getD_getElem?]; exact hd 4 (by kernel_rfl) _ rfl
        refine ⟨by rfl, ?_⟩
        go_simp
        exact ⟨_, rfl, Below.refl _ _, congrArg (Value.int .i64) (by rw [IntKind.wrap_i64]; omega)⟩
      · intro a w hA hb hd
        have d5 : a.tmps[28]?.getD undef = .int .i64 (-1 - P) := by rw [← Array.getD_eq_getD_getElem?]; exact hd 5 (by kernel_rfl) _ rfl
        refine ⟨by rfl, ?_⟩
        go_simp
        exact ⟨_, rfl, bl1 _ _, Nts.new w [-1 - P] (by unfold maxLen; simp)⟩
      · intro a w hA hb hd
        refine ⟨by rfl, ?_⟩
        go_simp
        exact ⟨_, rfl, bl1 _ _, Nts.new w [0, 0] (by unfold maxLen; simp)⟩
      · intro a w hA hb hd
        refine ⟨by rfl, ?_⟩
        go_simp
        exact ⟨_, rfl, bl1 _ _, Nts.new w [1, 2] (by unfold maxLen; simp)⟩
      · intro a w hA hb hd
        refine ⟨by rfl, ?_⟩
        go_simp
        exact ⟨_, rfl, bl1 _ _, Nts.new w [] (by unfold maxLen; simp)⟩
      · intro a w hA hb hd
        have t5 : a.tmps.getD 5 undef = .pointer (some ⟨w1.heap.size, 0, none⟩) := hA 5 rfl
        refine ⟨by rfl, ?_⟩
        go_simp
        exact ⟨_, rfl, Below.refl _ _, rfl⟩
      · intro a w hA hb hd
        have d10 : a.tmps[33]?.getD undef = .pointer (some ⟨w1.heap.size, 2, none⟩) := by rw [← Array.getD_eq_getD_getElem?]; exact hd 10 (by kernel_rfl) _ rfl
        have g2 := (unhide HG2) w hb
        refine ⟨by rfl, ?_⟩
        go_simp
        exact ⟨_, rfl, Below.refl _ _, rfl⟩
      · intro a w hA hb hd
        have t1 : a.tmps.getD 1 undef = .int .i64 n := hA 1 rfl
        refine ⟨by rfl, ?_⟩
        go_simp
        exact ⟨_, rfl, Below.refl _ _, rfl⟩
      · intro a w hA hb hd
        have d12 : a.tmps[35]?.getD undef = .int .i64 n := by rw [← Array.getD_eq_getD_getElem?]; exact hd 12 (by kernel_rfl) _ rfl
        refine ⟨by rfl, ?_⟩
        go_simp
        go_at_call 17
        refine (picked_any n 9 _ (by decide) (by decide) n0 n1).mono ?_
        rintro e w' ⟨rfl, rfl⟩
        rw [unhide HP]
        exact ⟨_, rfl, Below.refl _ _, rfl⟩
      · intro a w hA hb hd
        have d11 : a.tmps[34]?.getD undef = .int .i64 6 := by rw [← Array.getD_eq_getD_getElem?]; exact hd 11 (by kernel_rfl) _ rfl
        have d13 : a.tmps[36]?.getD undef = .int .i64 P := by rw [← Array.getD_eq_getD_getElem?]; exact hd 13 (by kernel_rfl) _ rfl
        refine ⟨by rfl, ?_⟩
        go_simp
        exact ⟨_, rfl, Below.refl _ _, congrArg (Value.int .i64) (by rw [IntKind.wrap_i64]; omega)⟩
      · intro a w hA hb hd
        have d14 : a.tmps[37]?.getD undef = .int .i64 (6 + P) := by rw [← Array.getD_eq_getD_getElem?]; exact hd 14 (by kernel_rfl) _ rfl
        refine ⟨by rfl, ?_⟩
        go_simp
        exact ⟨_, rfl, bl1 _ _, Nts.new w [6 + P] (by unfold maxLen; simp)⟩
      · intro a w hA hb hd
        have d2 : Nts w (a.tmps.getD 25 undef) ([6] : List Int) := hd 2 (by kernel_rfl) _ rfl
        have d6 : Nts w (a.tmps.getD 29 undef) ([-1 - P] : List Int) := hd 6 (by kernel_rfl) _ rfl
        have d7 : Nts w (a.tmps.getD 30 undef) ([0, 0] : List Int) := hd 7 (by kernel_rfl) _ rfl
        have d8 : Nts w (a.tmps.getD 31 undef) ([1, 2] : List Int) := hd 8 (by kernel_rfl) _ rfl
        have d9 : Nts w (a.tmps.getD 32 undef) ([] : List Int) := hd 9 (by kernel_rfl) _ rfl
        have d15 : Nts w (a.tmps.getD 38 undef) ([6 + P] : List Int) := hd 15 (by kernel_rfl) _ rfl
        rw [Array.getD_eq_getD_getElem?] at d2
        rw [Array.getD_eq_getD_getElem?] at d6
        rw [Array.getD_eq_getD_getElem?] at d7
        rw [Array.getD_eq_getD_getElem?] at d8
        rw [Array.getD_eq_getD_getElem?] at d9
        rw [Array.getD_eq_getD_getElem?] at d15
        obtain ⟨v2, e2⟩ : ∃ v, a.tmps[25]?.getD undef = v := ⟨_, rfl⟩
        obtain ⟨v6, e6⟩ : ∃ v, a.tmps[29]?.getD undef = v := ⟨_, rfl⟩
        obtain ⟨v7, e7⟩ : ∃ v, a.tmps[30]?.getD undef = v := ⟨_, rfl⟩
        obtain ⟨v8, e8⟩ : ∃ v, a.tmps[31]?.getD undef = v := ⟨_, rfl⟩
        obtain ⟨v9, e9⟩ : ∃ v, a.tmps[32]?.getD undef = v := ⟨_, rfl⟩
        obtain ⟨v15, e15⟩ : ∃ v, a.tmps[38]?.getD undef = v := ⟨_, rfl⟩
        rw [e2] at d2
        rw [e6] at d6
        rw [e7] at d7
        rw [e8] at d8
        rw [e9] at d9
        rw [e15] at d15
        obtain ⟨pa2, pc2, rfl, _⟩ := id d2
        obtain ⟨pa6, pc6, rfl, _⟩ := id d6
        obtain ⟨pa7, pc7, rfl, _⟩ := id d7
        obtain ⟨pa8, pc8, rfl, _⟩ := id d8
        obtain ⟨pa9, pc9, rfl, _⟩ := id d9
        obtain ⟨pa15, pc15, rfl, _⟩ := id d15
        refine ⟨by rfl, ?_⟩
        go_simp
        exact ⟨_, rfl, bl1 _ _, w.heap.size, rfl, fun i hi => by match i, hi with | 0, _ => exact ⟨_, by rw [World.cell?_alloc_at _ _ _ _ rfl]; rfl, d2.up (bl1 _ _)⟩ | 1, _ => exact ⟨_, by rw [World.cell?_alloc_at _ _ _ _ rfl]; rfl, d6.up (bl1 _ _)⟩ | 2, _ => exact ⟨_, by rw [World.cell?_alloc_at _ _ _ _ rfl]; rfl, d7.up (bl1 _ _)⟩ | 3, _ => exact ⟨_, by rw [World.cell?_alloc_at _ _ _ _ rfl]; rfl, d8.up (bl1 _ _)⟩ | 4, _ => exact ⟨_, by rw [World.cell?_alloc_at _ _ _ _ rfl]; rfl, d9.up (bl1 _ _)⟩ | 5, _ => exact ⟨_, by rw [World.cell?_alloc_at _ _ _ _ rfl]; rfl, d15.up (bl1 _ _)⟩⟩
      · intro a w hA hb hd
        have d16 : OddAt w (a.tmps.getD 39 undef) (odd P) := hd 16 (by kernel_rfl) _ rfl
        rw [Array.getD_eq_getD_getElem?] at d16
        refine ⟨by rfl, ?_⟩
        go_simp
        exact ⟨_, rfl, Below.refl _ _, d16⟩
    · intro a w9 ha hb hF
      have h17 : OddAt w9 (a.tmps.getD 8 undef) (odd P) := hF 17 _ rfl
      obtain ⟨v23, h23⟩ : ∃ v, a.tmps.getD 23 undef = v := ⟨_, rfl⟩
      obtain ⟨v24, h24⟩ : ∃ v, a.tmps.getD 24 undef = v := ⟨_, rfl⟩
      obtain ⟨v25, h25⟩ : ∃ v, a.tmps.getD 25 undef = v := ⟨_, rfl⟩
      obtain ⟨v26, h26⟩ : ∃ v, a.tmps.getD 26 undef = v := ⟨_, rfl⟩
      obtain ⟨v27, h27⟩ : ∃ v, a.tmps.getD 27 undef = v := ⟨_, rfl⟩
      obtain ⟨v28, h28⟩ : ∃ v, a.tmps.getD 28 undef = v := ⟨_, rfl⟩
      obtain ⟨v29, h29⟩ : ∃ v, a.tmps.getD 29 undef = v := ⟨_, rfl⟩
      obtain ⟨v30, h30⟩ : ∃ v, a.tmps.getD 30 undef = v := ⟨_, rfl⟩
      obtain ⟨v31, h31⟩ : ∃ v, a.tmps.getD 31 undef = v := ⟨_, rfl⟩
      obtain ⟨v32, h32⟩ : ∃ v, a.tmps.getD 32 undef = v := ⟨_, rfl⟩
      obtain ⟨v33, h33⟩ : ∃ v, a.tmps.getD 33 undef = v := ⟨_, rfl⟩
      obtain ⟨v34, h34⟩ : ∃ v, a.tmps.getD 34 undef = v := ⟨_, rfl⟩
      obtain ⟨v35, h35⟩ : ∃ v, a.tmps.getD 35 undef = v := ⟨_, rfl⟩
      obtain ⟨v36, h36⟩ : ∃ v, a.tmps.getD 36 undef = v := ⟨_, rfl⟩
      obtain ⟨v37, h37⟩ : ∃ v, a.tmps.getD 37 undef = v := ⟨_, rfl⟩
      obtain ⟨v38, h38⟩ : ∃ v, a.tmps.getD 38 undef = v := ⟨_, rfl⟩
      obtain ⟨v39, h39⟩ : ∃ v, a.tmps.getD 39 undef = v := ⟨_, rfl⟩
      obtain ⟨v8, h8⟩ : ∃ v, a.tmps.getD 8 undef = v := ⟨_, rfl⟩
      rw [h8] at h17
      simp only [List.filterMap_cons, List.filterMap_nil, List.foldl_cons, List.foldl_nil, h23, h24, h25, h26, h27, h28, h29, h30, h31, h32, h33, h34, h35, h36, h37, h38, h39, h8, List.setIfInBounds_toArray, List.set_cons_succ, List.set_cons_zero] at ha
      rw [ha]
      clear ha hF h23 h24 h25 h26 h27 h28 h29 h30 h31 h32 h33 h34 h35 h36 h37 h38 h39 h8
      trace_state
      go_wp2
      go_meet
      case rel => exact ⟨h17, hb⟩
  case rest =>
  obtain ⟨hOd, hb3⟩ := hcut
  have hK := (unhide HK).up hb3
  clear HK HG2 hb3
  obtain ⟨W, hW⟩ : ∃ W, W = wc := ⟨_, rfl⟩
  rw [← hW]
  rw [← hW] at hOd hK
  clear hW
  obtain ⟨I, hI⟩ : ∃ K : Nat, pickI which 6 = (K : Int) := ⟨(pickI which 6).toNat, by have := pickI_lo which (m := 6) (by omega); omega⟩
  have hI6 : I < 6 := by have := pickI_hi which (m := 6) (by omega); omega
  have HI := hide hI
  clear hI
  obtain ⟨LI, hLI⟩ : ∃ l, (odd P).getD I [] = l := ⟨_, rfl⟩
  obtain ⟨m, hm⟩ : ∃ m : Nat, szs.getD I 0 = (m : Int) := szs_nat hI6
  have hm1 : m ≤ 100 := szs_le hI6 hm
  have hbad : romB 6 LI (m : Int) = false := by rw [← hLI, ← hm]; exact odd_bad hPb hI6
  have hOd0 := hOd
  obtain ⟨g, hu8, hod⟩ := hOd
  replace hu8 : _ = Value.slice (some ⟨g, 0, none⟩) 6 6 := hu8
  subst hu8
  obtain ⟨ub, hcu, hNu⟩ := hod I (by show I < 6; exact hI6)
  rw [hLI] at hNu
  have hNu0 := hNu
  obtain ⟨na, nc, rfl, _⟩ := hNu0
  have o0 : DOk 6 2 6 300 3 D0 := by rw [← unhide HD0]; exact DOk.new geoS
  have hch : chkE 6 2 6 300 3 D0 = 0 := chk_ok geoS o0
  have HRE : Hid (romE 6 LI (m : Int) (chkE 6 2 6 300 3 D0) = 2) := by show _ = _; rw [hch]; exact romE_f hbad
  have HWE : Hid (wroE 6 2 6 300 3 D0 LI (List.replicate m 0) = 2) := by show _ = _; unfold wroE; rw [List.length_replicate, unhide HRE]; rfl
  have HWD : Hid (wroD 6 2 6 300 3 D0 LI (List.replicate m 0) = nilD) := by show _ = _; unfold wroD; rw [List.length_replicate, unhide HRE]; rfl
  have HR0 : Hid (romE 6 [] 0 (chkE 6 2 6 300 3 D0) = 0) := by show _ = _; rw [hch]; exact romE_t (by decide)
  have HMK : Hid (∀ (u : World) (k : Nat), u.heap.size = k → Bts (u.alloc (.cells (u8s (List.replicate m 0)).toArray 5)) (.slice (some ⟨k, 0, none⟩) m m) (List.replicate m 0)) := fun u k hk => by
    subst hk
    have := (Blk.own (Blk.new u (List.replicate m 0)) (by rw [List.length_replicate]; unfold maxLen; omega) (B := 0) (Nat.zero_le _)).bts
    rwa [List.length_replicate] at this
  obtain ⟨i0, hi, hz0, hz1, hz2⟩ := info_parts infoU8
  have hmk : ∀ u : World, (Instr.makeSlice 26 (.int .i64 (m : Int)) (.int .i64 (m : Int))).run Try.prog u = .ok (.slice (some ⟨u.heap.size, 0, none⟩) m m) (u.alloc (.cells (u8s (List.replicate m 0)).toArray 5)) := fun u => by
    have h := run_make (P := Try.prog) u 26 5 i0 (.int .u8 0) Try.underlying26 hi hz0 .i64 .i64 (m : Int) (m : Int) (by omega) (Int.le_refl _) (by rw [hz2]; omega) (by omega)
    rw [show u8s (List.replicate m 0) = List.replicate m (.int .u8 0) by simp [u8s], ← made_one]
    simpa [hz1, Value.cells] using h
  have HDEV := hide hK.dev
  have hbel := hK.bel
  have hgr := hK.geo
  have hbr := hK.box
  have hd := hK.dev
  obtain ⟨⟨b1, dap1, rfl, _⟩, ⟨b2, dap2, rfl, _⟩, ⟨b3, dap3, rfl, _⟩⟩ := hd
  have HN := hide hNu
  clear hK o0 hch hbad hod hOd0 hNu hi hz0 hz1 hz2 i0
  go_upto_region 5 with fail
  obtain ⟨V, hV⟩ : ∃ V, V = W.alloc (.cells #[.int .i64 10, .int .i64 10, .int .i64 100, .int .i64 10, .int .i64 1, .int .i64 64] 3) := ⟨_, rfl⟩
  have hbV : Below W.heap.size W V := by rw [hV]; exact bl1 _ _
  have hsr : Row V W.heap.size 3 (szs.map (Value.int .i64)) := by rw [hV]; exact Row.new _ _ _
  rw [← hV]
  clear hV
  have hcs := hsr.cell I (.int .i64 (m : Int)) (by rw [List.getElem?_map, szs_at hI6, hm]; rfl)
  replace hcu := cell_up hbV hcu
  have HDV := hide ((unhide HDEV).up hbV)
  have HNV := hide ((unhide HN).up hbV)
  have HBV := hide (bl_trans hbel hbV)
  replace hgr := hgr.up hbV
  replace hbr := hbr.up hbV
  have g0 := hgr.cell 0 _ rfl
  have g1 := hgr.cell 1 _ rfl
  have g2 := hgr.cell 2 _ rfl
  have g3 := hgr.cell 3 _ rfl
  have g4 := hgr.cell 4 _ rfl
  have q0 := hbr.cell 0 _ rfl
  have q1 := hbr.cell 1 _ rfl
  have q2 := hbr.cell 2 _ rfl
  have q3 := hbr.cell 3 _ rfl
  have KS : Hid (∀ w', Below V.heap.size V w' → (w'.cell? ⟨w1.heap.size, 0, none⟩ = some (.int .i64 6) ∧ w'.cell? ⟨w1.heap.size, 1, none⟩ = some (.int .i64 2) ∧ w'.cell? ⟨w1.heap.size, 2, none⟩ = some (.int .i64 6) ∧ w'.cell? ⟨w1.heap.size, 3, none⟩ = some (.int .i64 300) ∧ w'.cell? ⟨w1.heap.size, 4, none⟩ = some (.int .i64 3) ∧ w'.cell? ⟨dB, 0, none⟩ = some (.slice b1 D0.safe.length dap1) ∧ w'.cell? ⟨dB, 1, none⟩ = some (.slice b2 D0.cache.length dap2) ∧ w'.cell? ⟨dB, 2, none⟩ = some (.slice b3 D0.vols.length dap3) ∧ w'.cell? ⟨dB, 3, none⟩ = some (.int .i64 D0.fuel) ∧ w'.cell? ⟨g, I, none⟩ = some (.slice na LI.length nc) ∧ w'.cell? ⟨W.heap.size, I, none⟩ = some (.int .i64 (m : Int)))) := fun w' hb => ⟨cell_up hb g0, cell_up hb g1, cell_up hb g2, cell_up hb g3, cell_up hb g4, cell_up hb q0, cell_up hb q1, cell_up hb q2, cell_up hb q3, cell_up hb hcu, cell_up hb hcs⟩
  have hI0 : (0 : Int) ≤ (I : Int) := Int.natCast_nonneg _
  have hI7 : (I : Int) < 6 := by omega
  clear hgr hbr hsr hLI hbel hbV HDEV HN
  go_wp2_with fail
  refine (picked_any which 6 _ (by decide) (by decide) m0 m1).mono ?_
  rintro e w' ⟨rfl, rfl⟩
  rw [unhide HI]
  go_upto_region 6 with fail
  go_cut [11, 12] (fun _ e wd => e = .int .i64 2 ∧ Below V.heap.size V wd)
  case first =>
    go_region_held3 (fun w' => w'.cell? ⟨w1.heap.size, 0, none⟩ = some (.int .i64 6) ∧ w'.cell? ⟨w1.heap.size, 1, none⟩ = some (.int .i64 2) ∧ w'.cell? ⟨w1.heap.size, 2, none⟩ = some (.int .i64 6) ∧ w'.cell? ⟨w1.heap.size, 3, none⟩ = some (.int .i64 300) ∧ w'.cell? ⟨w1.heap.size, 4, none⟩ = some (.int .i64 3) ∧ w'.cell? ⟨dB, 0, none⟩ = some (.slice b1 D0.safe.length dap1) ∧ w'.cell? ⟨dB, 1, none⟩ = some (.slice b2 D0.cache.length dap2) ∧ w'.cell? ⟨dB, 2, none⟩ = some (.slice b3 D0.vols.length dap3) ∧ w'.cell? ⟨dB, 3, none⟩ = some (.int .i64 D0.fuel) ∧ w'.cell? ⟨g, I, none⟩ = some (.slice na LI.length nc) ∧ w'.cell? ⟨W.heap.size, I, none⟩ = some (.int .i64 (m : Int)))
      (first | (with_reducible (refine unhide KS _ ?_; (repeat (first | exact Below.refl _ _ | exact hb | apply Below.drew | apply bl_alloc)); done)) | (refine unhide KS _ ?_; (repeat (first | with_reducible exact hb | refine bl_set ?_ (by simp <;> omega) _)); done))
      (first
        | (go_at_call 12; refine (write_any 6 2 6 300 3 _ _ _ D0 _ _ LI (List.replicate m 0) _ ((unhide HDV).up (by repeat (first | exact Below.refl _ _ | exact hb | apply Below.drew | apply bl_alloc))) ((unhide HNV).up (by repeat (first | exact Below.refl _ _ | exact hb | apply Below.drew | apply bl_alloc))) (by first | exact (unhide HMK V V.heap.size rfl).up (by repeat (first | exact Below.refl _ _ | apply Below.drew | apply bl_alloc)) | exact (unhide HMK (V.alloc (.cells #[.slice none 0 0, .slice none 0 0, .slice none 0 0, .int .i64 0] 34)) (V.heap.size + 1) (by simp)).up (by repeat (first | exact Below.refl _ _ | apply Below.drew | apply bl_alloc)))).mono ?_; rintro e wn ⟨s', c', v', rfl, hO, hb'⟩; have hb : Below V.heap.size V wn := bl_trans (by repeat (first | exact Below.refl _ _ | exact hb | apply Below.drew | apply bl_alloc)) hb'; rw [unhide HWD] at hO ⊢; rw [unhide HWE]; obtain ⟨sa, cs, ca, cc, va, cv, rfl, rfl, rfl, _⟩ := hO.form; (first | (have yr := Row.up (Row.dr (box2r (w := V) (c0 := (u8s (List.replicate m 0)).toArray) (t0 := 5) (cs := [.slice none 0 0, .slice none 0 0, .slice none 0 0, .int .i64 0]) (t1 := 34) (Below.refl _ _))) hb') | (have yr := Row.up (Row.dr ((Row.new V 34 [.slice none 0 0, .slice none 0 0, .slice none 0 0, .int .i64 0]).up (bl1 _ (.cells (u8s (List.replicate m 0)).toArray 5)))) hb') | skip); (try (have y0 := yr.cell 0 _ rfl; have y1 := yr.cell 1 _ rfl; have y2 := yr.cell 2 _ rfl; have y3 := yr.cell 3 _ rfl; have yf := yr.unfrozen))))
    all_goals
      go_wp2
      go_meet
      case rel => exact ⟨rfl, by repeat (first | with_reducible exact hb | exact hb | apply bl_alloc | refine bl_set ?_ (by simp <;> omega) _)⟩
  case rest =>
  obtain ⟨rfl, hb6⟩ := hcut
  go_upto_region 7 with fail
  go_cut [13, 14] (fun _ e wd => e = .int .i64 2 ∧ Below V.heap.size V wd)
  case first =>
    obtain ⟨g0, g1, g2, g3, g4, q0, q1, q2, q3, hcu, hcs⟩ := unhide KS _ hb6
    go_region_held3 (fun w' => w'.cell? ⟨w1.heap.size, 0, none⟩ = some (.int .i64 6) ∧ w'.cell? ⟨w1.heap.size, 1, none⟩ = some (.int .i64 2) ∧ w'.cell? ⟨w1.heap.size, 2, none⟩ = some (.int .i64 6) ∧ w'.cell? ⟨w1.heap.size, 3, none⟩ = some (.int .i64 300) ∧ w'.cell? ⟨w1.heap.size, 4, none⟩ = some (.int .i64 3) ∧ w'.cell? ⟨dB, 0, none⟩ = some (.slice b1 D0.safe.length dap1) ∧ w'.cell? ⟨dB, 1, none⟩ = some (.slice b2 D0.cache.length dap2) ∧ w'.cell? ⟨dB, 2, none⟩ = some (.slice b3 D0.vols.length dap3) ∧ w'.cell? ⟨dB, 3, none⟩ = some (.int .i64 D0.fuel) ∧ w'.cell? ⟨g, I, none⟩ = some (.slice na LI.length nc) ∧ w'.cell? ⟨W.heap.size, I, none⟩ = some (.int .i64 (m : Int)))
      (with_reducible (refine unhide KS _ ?_; (repeat (first | exact hb6 | exact hb | apply Below.drew | apply bl_alloc)); done))
      (first
        | (go_at_call 13; refine (read_any 6 2 6 300 3 _ _ _ D0 _ LI (m : Int) _ ((unhide HDV).up (bl_trans hb6 (by repeat (first | exact Below.refl _ _ | exact hb | apply Below.drew | apply bl_alloc)))) ((unhide HNV).up (bl_trans hb6 (by repeat (first | exact Below.refl _ _ | exact hb | apply Below.drew | apply bl_alloc))))).mono ?_; rintro e wn ⟨u, rfl, hO, hb'⟩; have hb : Below V.heap.size V wn := bl_trans hb6 (bl_trans (by repeat (first | exact Below.refl _ _ | exact hb | apply Below.drew | apply bl_alloc)) hb'); rw [unhide HRE]))
    all_goals
      go_wp2
      go_meet
      case rel => exact ⟨rfl, hb⟩
  case rest =>
  obtain ⟨rfl, hb7⟩ := hcut
  go_upto_region 8 with fail
  go_cut [15, 16] (fun _ e wd => e = .int .i64 0 ∧ Below w.heap.size w wd)
  case first =>
    obtain ⟨g0, g1, g2, g3, g4, q0, q1, q2, q3, hcu, hcs⟩ := unhide KS _ hb7
    go_wp2_with fail
    refine (read_any 6 2 6 300 3 _ _ _ D0 _ [] 0 _ ((unhide HDV).up hb7) ⟨none, 0, rfl, Nat.le_refl _, Nat.zero_le _, fun i hi => absurd hi (Nat.not_lt_zero _)⟩).mono ?_
    rintro e wn ⟨u, rfl, hO, hb⟩
    rw [unhide HR0]
    go_wp2
    go_meet
    case rel => exact ⟨rfl, bl_trans (unhide HBV) (bl_trans hb7 hb)⟩
  case rest =>
  obtain ⟨rfl, hb8⟩ := hcut
  go_wp2
  go_ret
  exact ⟨ret_bool (by simp), hb8⟩
end Go.Proofs.Ytjaedigjmgfakaa

/- What every lifting wants of the program. -/
namespace Go.Proofs.Ytjaedigjmgfakaa
open Go.ChangeShapes Go.WideShapes Go.ChangeAt Go.RowKit
set_option maxRecDepth 100000
set_option linter.unusedVariables false
set_option linter.unusedSimpArgs false

theorem own : ownKnob Try.prog.godebug = none := by kernel_rfl
theorem laidOut : laidOutB Try.prog = true := by kernel_rfl
theorem cellsInt : Try.prog.cellsOf 3 = 1 := by kernel_rfl
end Go.Proofs.Ytjaedigjmgfakaa

/- How a list that came in is read, whatever its elements. -/
namespace Go.Proofs.Ytjaedigjmgfakaa
open Go.ChangeShapes Go.WideShapes Go.ChangeAt Go.RowKit Go.Deep
set_option maxRecDepth 100000
set_option linter.unusedVariables false
set_option linter.unusedSimpArgs false
theorem spick_lt {α : Type} (x0 : α) {n : Nat} {p : Nat → α → Prop} (h : ∀ i, i < n → ∃ x, p i x) : ∃ f : Nat → α, ∀ i, i < n → p i (f i) := by
  refine ⟨fun i => if hi : i < n then Classical.choose (h i hi) else x0, fun i hi => ?_⟩
  simp only [dif_pos hi]
  exact Classical.choose_spec (h i hi)
theorem sgetD_map_range {α : Type} (f : Nat → α) (d : α) {n i : Nat} (h : i < n) : ((List.range n).map f).getD i d = f i := by
  simp [List.getD, h]
theorem sadd_none (b o i : Nat) : (⟨b, o, none⟩ : Addr).add i = ⟨b, o + i, none⟩ := by unfold Addr.add; split <;> simp_all
theorem sspot_of {w : World} {a : Addr} {v : Value} (h : w.cell? (a.add 0) = some v) : ∃ b o, a = ⟨b, o, none⟩ := by
  obtain ⟨b, o, s⟩ := a
  have hs : s = none := by simpa [Addr.add] using World.cell?_spot h
  subst hs
  exact ⟨b, o, rfl⟩
section
variable {H : Type} {enc : TypeId × Value → H} {w : World} {base : Nat} {spare : Nat → Bool} {held : Bool} {fuel : Nat} {v : Value} {x : DataW H × List MemPlace}

theorem open_list {α : Type} (R : World → Nat → Nat → α → Prop) (size : Nat) (d : α) (t e : TypeId) (hu : Try.prog.underlying t = some (.slice e)) (hc : Try.prog.cellsOf e = size) (hs : 0 < size)
    (h : DataW.trod enc Try.prog w base spare held fuel t [v] = some x)
    (f : ∀ fuel' (b p : Nat) (cs : List Value) (y : DataW H × List MemPlace), cs.length = size → (∀ j, j < size → w.cell? ⟨b, p + j, none⟩ = cs[j]?) → DataW.trod enc Try.prog w base spare held fuel' e cs = some y → ∃ z, R w b p z) :
    ∃ (xs : List α) (a : Option Addr) (cap : Nat), v = .slice a xs.length cap ∧ xs.length ≤ cap ∧ cap ≤ maxLen ∧ ∀ i, i < xs.length → ∃ b o, a = some ⟨b, o, none⟩ ∧ R w b (o + i * size) (xs.getD i d) := by
  rcases open_slice hu h with ⟨hcs, _⟩ | ⟨a, len, cap, m, n, D, Pl, hcs, _, hl, hm, hmm, _, hx⟩
  · simp at hcs
    subst hcs
    exact ⟨[], none, 0, rfl, Nat.le_refl _, Nat.zero_le _, fun i hi => absurd hi (Nat.not_lt_zero _)⟩
  · simp at hcs
    subst hcs
    have hml : len ≤ m := by rw [hmm]; split <;> omega
    have hsp : 0 < len → ∃ b o, a = ⟨b, o, none⟩ := fun h0 => by
      obtain ⟨cs', hc', _⟩ := hx 0 (by omega)
      rw [hc] at hc'
      obtain ⟨_, hl', k⟩ := World.cells?_some hc'
      have k0 := k 0 hs
      rw [List.getElem?_eq_getElem (by omega)] at k0
      exact sspot_of (by simpa [Addr.add] using k0)
    obtain ⟨g, hg⟩ := spick_lt d (n := len) (p := fun i z => ∃ b o, a = ⟨b, o, none⟩ ∧ R w b (o + i * size) z) fun i hi => by
      obtain ⟨cs', hc', ht⟩ := hx i (by omega)
      rw [hc] at hc'
      obtain ⟨_, hl', k⟩ := World.cells?_some hc'
      obtain ⟨b, o, rfl⟩ := hsp (by omega)
      obtain ⟨z, hz⟩ := f _ b (o + i * size) cs' _ hl' (fun j hj => by have := k j hj; rw [sadd_none, sadd_none] at this; exact this) ht
      exact ⟨z, b, o, rfl, hz⟩
    refine ⟨(List.range len).map g, some a, cap, by simp, by simpa using hl, hm, fun i hi => ?_⟩
    have hi' : i < len := by simpa using hi
    rw [sgetD_map_range g _ hi']
    obtain ⟨b, o, rfl, r⟩ := hg i hi'
    exact ⟨b, o, rfl, r⟩
end
end Go.Proofs.Ytjaedigjmgfakaa

/- Raw things as plain lists; devices that may be. -/
namespace Go.Proofs.Ytjaedigjmgfakaa
open Go.RowKit
set_option maxRecDepth 100000
set_option linter.unusedVariables false
set_option linter.unusedSimpArgs false
structure Rw where
  kind : Int
  a : Int
  b : Int
  c : Int
  d : Int
  text : ByteArray
def rw0 : Rw := ⟨0, 0, 0, 0, 0, .empty⟩
structure RwAt (w : World) (b p : Nat) (x : Rw) : Prop where
  c0 : w.cell? ⟨b, p, none⟩ = some (.int .i64 x.kind)
  c1 : w.cell? ⟨b, p + 1, none⟩ = some (.int .i64 x.a)
  c2 : w.cell? ⟨b, p + 2, none⟩ = some (.int .i64 x.b)
  c3 : w.cell? ⟨b, p + 3, none⟩ = some (.int .i64 x.c)
  c4 : w.cell? ⟨b, p + 4, none⟩ = some (.int .i64 x.d)
  c5 : w.cell? ⟨b, p + 5, none⟩ = some (.string x.text)
  s : x.text.size ≤ maxLen
  k0 : -9223372036854775808 ≤ x.kind ∧ x.kind ≤ 9223372036854775807
  a0 : -9223372036854775808 ≤ x.a ∧ x.a ≤ 9223372036854775807
  bb0 : -9223372036854775808 ≤ x.b ∧ x.b ≤ 9223372036854775807
  cc0 : -9223372036854775808 ≤ x.c ∧ x.c ≤ 9223372036854775807
  dd0 : -9223372036854775808 ≤ x.d ∧ x.d ≤ 9223372036854775807
def Raws (w : World) (v : Value) (xs : List Rw) : Prop :=
  ∃ a cap, v = .slice a xs.length cap ∧ xs.length ≤ cap ∧ cap ≤ maxLen ∧ ∀ i, i < xs.length → ∃ b o, a = some ⟨b, o, none⟩ ∧ RwAt w b (o + i * 6) (xs.getD i rw0)
theorem RwAt.up {w w' : World} {b p : Nat} {x : Rw} (h : RwAt w b p x) (hb : Below w.heap.size w w') : RwAt w' b p x :=
  ⟨cell_up hb h.c0, cell_up hb h.c1, cell_up hb h.c2, cell_up hb h.c3, cell_up hb h.c4, cell_up hb h.c5, h.s, h.k0, h.a0, h.bb0, h.cc0, h.dd0⟩
theorem Raws.up {w w' : World} {v : Value} {xs : List Rw} (h : Raws w v xs) (hb : Below w.heap.size w w') : Raws w' v xs := by
  obtain ⟨a, cap, e, h1, h2, h3⟩ := h
  refine ⟨a, cap, e, h1, h2, fun i hi => ?_⟩
  obtain ⟨b, o, e, hc⟩ := h3 i hi
  exact ⟨b, o, e, hc.up hb⟩
theorem Raws.at {w : World} {a : Option Addr} {n cap : Nat} {xs : List Rw} (h : Raws w (.slice a n cap) xs) (i : Nat) (hi : i < xs.length) : ∃ b o, a = some ⟨b, o, none⟩ ∧ RwAt w b (o + i * 6) (xs.getD i rw0) := by
  obtain ⟨a', cap', e, h1, h2, h3⟩ := h
  simp at e
  obtain ⟨rfl, _⟩ := e
  exact h3 i hi
/-- Devices that may be, and how many things wait. -/
structure DvI (D : Dv) (m : Nat) : Prop where
  ok : DOk 6 2 6 300 3 D
  fu : D.fuel = -1
  nc : D.cache.length ≤ m
theorem DvI.zero : DvI tD0 0 := ⟨tOk0, rfl, Nat.le_refl _⟩
theorem DvI.more {D : Dv} {m m' : Nat} (h : DvI D m) (hm : m ≤ m') : DvI D m' := ⟨h.ok, h.fu, Nat.le_trans h.nc hm⟩
theorem DvI.ns {D : Dv} {m : Nat} (h : DvI D m) : D.safe.length = 18 := by have := h.ok.ns; omega
theorem DvI.chk {D : Dv} {m : Nat} (h : DvI D m) : chkE 6 2 6 300 3 D = 0 := chk_ok geoS h.ok
section
variable {D : Dv} {m : Nat} (h : DvI D m) (hm : m < 1000)
include h
theorem DvI.f0 : D.fuel ≠ 0 := by rw [h.fu]; decide
theorem DvI.fl : lessF D.fuel = -1 := by rw [h.fu]; rfl
theorem DvI.fluE : marE D (chkE 6 2 6 300 3 D) = 0 := by rw [h.chk]; exact marE_ok h.f0
theorem DvI.flu : DvI (fluD D 0) (m + 1) := ⟨h.ok.flu h.f0, by rw [fluD_ok]; exact h.fl, by rw [fluD_ok]; simp⟩
theorem DvI.mar : DvI (marD D 0) (m + 1) := ⟨h.ok.mar h.f0, by rw [marD_ok]; exact h.fl, by rw [marD_ok]; exact Nat.le_succ_of_le h.nc⟩
theorem DvI.app {x : Int} {xs : List Int} (he : appE 300 3 D x xs.length (chkE 6 2 6 300 3 D) = 0) : DvI (appD 3 D x xs 0) (m + 1) := by
  rw [h.chk] at he
  exact ⟨h.ok.app he (by decide), by rw [appD_ok]; exact h.fl, by rw [appD_ok]; exact Nat.le_succ_of_le h.nc⟩
theorem DvI.at {x : Int} (h0 : 0 ≤ x) (h1 : x < 18) : inB x 0 ((D.safe.length : Int) - 1) = true := by rw [h.ns]; simp [inB]; omega
include hm
theorem DvI.putE {x : Int} {L : Nat} (h0 : 0 ≤ x) (h1 : x < 18) (hL : L ≤ 64) : putE D x L (chkE 6 2 6 300 3 D) = 0 := by
  rw [h.chk]; exact putE_ok (h.at h0 h1) (by omega) (by have := h.nc; omega) h.f0
theorem DvI.put {x : Int} {xs : List Int} (h0 : 0 ≤ x) (h1 : x < 18) : DvI (putD D x xs 0) (m + 1) := by
  refine ⟨h.ok.put (h.at h0 h1) (by have := h.nc; omega) h.f0, by rw [putD_ok]; exact h.fl, ?_⟩
  rw [putD_ok]; simp; exact h.nc
end
theorem cut_sixty (s : ByteArray) (hs : s.size ≤ maxLen) : ∃ (N M : Nat) (T : ByteArray), s.size = N ∧ N ≤ 9223372036854775807 ∧ (if (64 : Int) < (N : Int) then (64 : Int) else (N : Int)) = (M : Int) ∧ M ≤ 64 ∧ M ≤ N ∧ s.extract 0 M = T ∧ T.size = M := by
  unfold maxLen at hs
  refine ⟨s.size, min s.size 64, _, rfl, by omega, by split <;> omega, by omega, by omega, rfl, by simp⟩
end Go.Proofs.Ytjaedigjmgfakaa

/- How raw things that came in are read. -/
namespace Go.Proofs.Ytjaedigjmgfakaa
open Go.ChangeShapes Go.WideShapes Go.ChangeAt Go.RowKit Go.Deep
set_option maxRecDepth 100000
set_option linter.unusedVariables false
set_option linter.unusedSimpArgs false
theorem cellsRaw : Try.prog.cellsOf 55 = 6 := by kernel_rfl
theorem cellsStrW : Try.prog.cellsOf 9 = 1 := by kernel_rfl
theorem wf_i64 {x : Int} (h : (Lit.int .i64 x).wf = true) : -9223372036854775808 ≤ x ∧ x ≤ 9223372036854775807 := by
  have := wf_lo h
  exact ⟨this.1, this.2⟩
theorem open_raws {H : Type} {enc : TypeId × Value → H} {w : World} {base : Nat} {spare : Nat → Bool} {held : Bool} {r : Reach} {b0 : Nat} {v : Value} {d : DataW H} {p : List MemPlace}
    (hv : Value.okWide Try.prog w r b0 51 v) (h : DataW.Trod enc Try.prog w base spare held 51 v d p) :
    ∃ xs, Raws w v xs := by
  obtain ⟨fuel, hf⟩ := h
  have hcs : v.cells.toList = [v] := by
    obtain ⟨a, n, c, rfl⟩ := okWide_slice Try.underlying51 hv
    rfl
  rw [hcs] at hf
  refine open_list RwAt 6 rw0 _ _ Try.underlying51 cellsRaw (by decide) hf ?_
  intro fuel' b p cs y hl k ht
  match cs, hl with
  | [c0, c1, c2, c3, c4, c5], _ =>
    obtain ⟨xs, n, _, _, _, hlen, hx⟩ := DataW.trod_struct Try.underlying55 ht
    match xs, hlen with
    | [y0, y1, y2, y3, y4, y5], _ =>
      have h0 := hx 0 _ rfl
      have h1 := hx 1 _ rfl
      have h2 := hx 2 _ rfl
      have h3 := hx 3 _ rfl
      have h4 := hx 4 _ rfl
      have h5 := hx 5 _ rfl
      simp [Value.cells, cellsInt, cellsStrW] at h0 h1 h2 h3 h4 h5
      obtain ⟨x0, e0, _, w0⟩ := DataW.trod_int Try.underlying3 h0
      obtain ⟨x1, e1, _, w1⟩ := DataW.trod_int Try.underlying3 h1
      obtain ⟨x2, e2, _, w2⟩ := DataW.trod_int Try.underlying3 h2
      obtain ⟨x3, e3, _, w3⟩ := DataW.trod_int Try.underlying3 h3
      obtain ⟨x4, e4, _, w4⟩ := DataW.trod_int Try.underlying3 h4
      obtain ⟨s5, e5, _, w5⟩ := DataW.trod_string Try.underlying9 h5
      simp at e0 e1 e2 e3 e4 e5
      subst e0 e1 e2 e3 e4 e5
      exact ⟨⟨x0, x1, x2, x3, x4, s5⟩, k 0 (by decide), k 1 (by decide), k 2 (by decide), k 3 (by decide), k 4 (by decide), k 5 (by decide), w5, wf_i64 w0, wf_i64 w1, wf_i64 w2, wf_i64 w3, wf_i64 w4⟩
end Go.Proofs.Ytjaedigjmgfakaa

/- How texts that came in are read: the kit's own lemma. -/
namespace Go.Proofs.Ytjaedigjmgfakaa
theorem opened_text : True := trivial
end Go.Proofs.Ytjaedigjmgfakaa

namespace Go.Proofs.Ytjaedigjmgfakaa
open Go.ChangeShapes Go.WideShapes Go.ChangeAt Go.RowKit
open Go.ChangeMaps (open_string shut_string)
set_option linter.unusedVariables false
set_option linter.unusedSimpArgs false

set_option maxRecDepth 100000 in
theorem hotBad_lifted (os : Os) (started : os.Started) (H : Type) (enc : TypeId × Value → H) :
    ReturnsInHanded {} Try.checked os 6 .any (Rows.hotBadSpec.pre6 enc Try.prog Try.f6 Rows.hotBadRow.domain false) (Rows.hotBadSpec.post enc Try.prog Try.f6 false true false false) := by
  refine returnsInHanded_of_change (C := Try.checked) own started (by kernel_rfl) Try.func6
    (ChangeSpec.witness6 (enc := enc) (C := Try.checked) false ⟨#[], #[.int .i64 0, .int .i64 0], []⟩ 8 (by kernel_rfl) (by kernel_rfl) (by kernel_rfl) (by kernel_rfl)) ?_
  intro W base args ds gs before hval0 hW hcnd _
  have hval : ∀ (j : Nat) t v, Try.f6.params[j]? = some t → args[j]? = some v → Value.okWide Try.prog W .any base t v := hval0
  have hW' := hW
  obtain ⟨p, q, hA0, hV, rfl, hfz, hnd⟩ := hW
  have hA : DataW.TrodAll enc Try.prog W 0 (fun _ => true) true Try.f6.params.toList args.toList ds p := hA0
  rw [Try.params6] at hA hval
  obtain ⟨v0, vs0, d0, ds0, p0, q0, hargs, rfl, rfl, h0, r0⟩ := trodAll_cons hA
  obtain ⟨v1, vs1, d1, ds1, p1, q1, rfl, rfl, rfl, h1, r1⟩ := trodAll_cons r0
  obtain ⟨rfl, rfl, rfl⟩ := trodAll_nil r1
  obtain rfl : args = #[v0, v1] := by cases args; simp_all
  obtain ⟨rfl, rfl⟩ := trodVars_none hV
  have k0 := h0
  have lt0 : ∀ x ∈ p0, x.block < W.heap.size := by obtain ⟨m, hm⟩ := k0; exact DataW.trod_lt m _ _ _ hm
  obtain ⟨a0, rfl, ed0, rfl, wi0⟩ := open_int Try.underlying3 (hval 0 3 v0 rfl rfl) h0
  have k1 := h1
  have lt1 : ∀ x ∈ p1, x.block < W.heap.size := by obtain ⟨m, hm⟩ := k1; exact DataW.trod_lt m _ _ _ hm
  obtain ⟨a1, rfl, ed1, rfl, wi1⟩ := open_int Try.underlying3 (hval 1 3 v1 rfl rfl) h1
  clear hA0 hval0
  refine (hotBad_walk a0 a1 W wi0 wi1).mono fun e W' ⟨he, bel⟩ => ?_
  subst he
  exact ⟨_, rfl, _, _, _, [], _, [], hW', trodAll_mk1 (shut_bool Try.underlying4 _), (trodAll_cons_mk (Below.trod laidOut (by kernel_rfl) (of_decide_eq_true (by kernel_rfl)) k0 bel lt0) (trodAll_cons_mk (Below.trod laidOut (by kernel_rfl) (of_decide_eq_true (by kernel_rfl)) k1 bel lt1) trodAll_mk0)), rfl, bel.frame _, fun h => by cases h⟩

theorem hotBad_holds : Rows.HotBadSaid :=
  OpenClaim.holds_of_wide 6 Try.f6 rfl rfl rfl rfl rfl rfl rfl ⟨rfl, rfl, rfl, rfl, rfl⟩ rfl rfl rfl rfl rfl (by kernel_rfl) Try.func6 (by kernel_rfl)
    (of_decide_eq_true (by kernel_rfl)) (by unfold Func.isWrapper; first | (rw [if_pos (by decide +kernel)]; kernel_rfl) | (rw [if_neg (by decide +kernel)]; exact ⟨rfl, rfl⟩))
    (fun os started H enc _ => hotBad_lifted os started H enc)
#print axioms hotBad_holds
end Go.Proofs.Ytjaedigjmgfakaa
