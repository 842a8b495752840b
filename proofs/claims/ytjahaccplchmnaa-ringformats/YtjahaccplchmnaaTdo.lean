/- Things that are done to devices, one behind the other: things.Do. -/
import Derived.Test.YtjahaccplchmnaaThg
import Derived.Test.YtjahaccplchmnaaR4
import Derived.Deep.DeepCutAuto
namespace Go.Proofs.Ytjahaccplchmnaa
open Go.RowKit
set_option linter.unusedVariables false
set_option linter.unusedSimpArgs false

def doE (r a h vm nv : Int) : Dv → List Th → Int
  | _, [] => 0
  | D, t :: ts => if thE r a h vm nv D t = 0 then doE r a h vm nv (thD D 0 t) ts else thE r a h vm nv D t
def doD (r a h vm nv : Int) : Dv → List Th → Dv
  | D, [] => D
  | D, t :: ts => if thE r a h vm nv D t = 0 then doD r a h vm nv (thD D 0 t) ts else if thE r a h vm nv D t = 10 then D else nilD
theorem drop_at {ths : List Th} {k : Nat} (h : k < ths.length) : ths.drop k = ths.getD k .flush :: ths.drop (k + 1) := by
  rw [List.drop_eq_getElem_cons h]; simp [List.getD, h]
theorem thE_10 {r a h vm nv : Int} {D : Dv} {t : Th} (h10 : thE r a h vm nv D t = 10) : chkE r a h vm nv D = 0 ∧ D.fuel = 0 := by
  have hc : chkE r a h vm nv D = 0 ∨ chkE r a h vm nv D = 9 ∨ chkE r a h vm nv D = 2 := by
    unfold chkE
    split
    · split <;> omega
    · omega
  cases t with
  | put p xs =>
    change putE D p xs.length (chkE r a h vm nv D) = 10 at h10
    unfold putE at h10
    split at h10
    · rename_i hh
      refine ⟨hh, ?_⟩
      split at h10
      · split at h10
        · omega
        · split at h10
          · omega
          · split at h10
            · assumption
            · omega
      · omega
    · omega
  | flush =>
    change marE D (chkE r a h vm nv D) = 10 at h10
    unfold marE at h10
    split at h10
    · rename_i hh
      refine ⟨hh, ?_⟩
      split at h10
      · assumption
      · omega
    · omega

theorem thD_bad {D : Dv} {e : Int} {t : Th} (h : e ≠ 0) : thD D e t = nilD := by
  cases t with
  | put p xs => simp [thD, putD, h]
  | flush => simp [thD, fluD, h]

/-- The value f is a thing. -/
def ThAt (w : World) (f : Value) : Th → Prop
  | .put x xs => ∃ b1 b2 bv, f = .func (.func 77) #[] #[.pointer (some ⟨b1, 0, none⟩), .pointer (some ⟨b2, 0, none⟩)] ∧ w.cell? ⟨b1, 0, none⟩ = some (.int .i64 x) ∧ w.cell? ⟨b2, 0, none⟩ = some bv ∧ Bts w bv xs
  | .flush => f = .func (.func 43) #[] #[]
theorem ThAt.up {w w' : World} {f : Value} {t : Th} (h : ThAt w f t) (hb : Below w.heap.size w w') : ThAt w' f t := by
  cases t with
  | put x xs => obtain ⟨b1, b2, bv, e, h1, h2, h3⟩ := h; exact ⟨b1, b2, bv, e, cell_up hb h1, cell_up hb h2, h3.up hb⟩
  | flush => exact h
def ThsAt (w : World) (v : Value) (ths : List Th) : Prop :=
  ∃ a cap, v = .slice a ths.length cap ∧ ths.length ≤ cap ∧ cap ≤ maxLen ∧ ∀ i, i < ths.length → ∃ b o, a = some ⟨b, o, none⟩ ∧ ∃ f, w.cell? ⟨b, o + i, none⟩ = some f ∧ ThAt w f (ths.getD i .flush)
theorem ThsAt.up {w w' : World} {v : Value} {ths : List Th} (h : ThsAt w v ths) (hb : Below w.heap.size w w') : ThsAt w' v ths := by
  obtain ⟨a, cap, rfl, h1, h2, h3⟩ := h
  refine ⟨a, cap, rfl, h1, h2, fun i hi => ?_⟩
  obtain ⟨b, o, e, f, hc, hf⟩ := h3 i hi
  exact ⟨b, o, e, f, cell_up hb hc, hf.up hb⟩

set_option maxHeartbeats 4000000 in
set_option maxRecDepth 100000 in
theorem do_any (r a h vm nv : Int) (s c v : Value) (D : Dv) (lv : Value) (ths : List Th) (w : World) (hD : Dev w s c v D) (hl : ThsAt w lv ths) (hne : 0 < ths.length) :
    Calls Try.prog 76 #[.agg #[.int .i64 r, .int .i64 a, .int .i64 h, .int .i64 vm, .int .i64 nv], .agg #[s, c, v, .int .i64 D.fuel], lv] w fun e w' =>
      ∃ s' c' v', e = .returned (.tuple #[.agg #[s', c', v', .int .i64 (doD r a h vm nv D ths).fuel], .int .i64 (doE r a h vm nv D ths)]) ∧ ODev w' w.heap.size s' c' v' (doD r a h vm nv D ths) ∧ Below w.heap.size w w' := by
  have HD := hide hD
  have HL := hide hl
  obtain ⟨la, lc, rfl, ll, lm, hlc⟩ := hl
  unfold maxLen at lm
  have HLC := hide hlc
  clear hD hlc
  obtain ⟨FE, hFE⟩ : ∃ FE, doE r a h vm nv D ths = FE := ⟨_, rfl⟩
  obtain ⟨FD, hFD⟩ : ∃ FD, doD r a h vm nv D ths = FD := ⟨_, rfl⟩
  have HFE := hide hFE
  have HFD := hide hFD
  rw [hFE, hFD]
  clear hFE hFD
  go_enter Try.func76, Try.ntmps76
  go_upto_region 1 with fail
  obtain ⟨W0, hW0⟩ : ∃ W0, W0 = ((w.alloc (.cells #[.int .i64 r, .int .i64 a, .int .i64 h, .int .i64 vm, .int .i64 nv] 23)).alloc (.cells #[s, c, v, .int .i64 D.fuel] 28)).alloc (.cells #[.slice none 0 0, .slice none 0 0, .slice none 0 0, .int .i64 0] 28) := ⟨_, rfl⟩
  have hbW : Below w.heap.size w W0 := by rw [hW0]; exact bl3 _ _ _ _
  have hRG : Row W0 w.heap.size 23 [.int .i64 r, .int .i64 a, .int .i64 h, .int .i64 vm, .int .i64 nv] := by rw [hW0]; exact (Row.new w _ [.int .i64 r, .int .i64 a, .int .i64 h, .int .i64 vm, .int .i64 nv]).up (bl2 _ _ _)
  have hRD : Row W0 (w.heap.size + 1) 28 [s, c, v, .int .i64 D.fuel] := by
    rw [hW0]
    have := (Row.new (w.alloc (.cells #[.int .i64 r, .int .i64 a, .int .i64 h, .int .i64 vm, .int .i64 nv] 23)) 28 [s, c, v, .int .i64 D.fuel]).up (bl1 _ (.cells #[.slice none 0 0, .slice none 0 0, .slice none 0 0, .int .i64 0] 28))
    rw [World.size_alloc] at this
    exact this
  have hRR : Row W0 (w.heap.size + 1 + 1) 28 [.slice none 0 0, .slice none 0 0, .slice none 0 0, .int .i64 0] := by rw [hW0]; exact box3r (cs := [.slice none 0 0, .slice none 0 0, .slice none 0 0, .int .i64 0]) (Below.refl _ _)
  rw [← hW0]
  clear hW0
  have HRG := hide hRG
  have HRD := hide hRD
  have HRR := hide hRR
  clear hRG hRD hRR
  go_wp2
  go_loopw [9, 10, 11, 14] (fun _ _ _ i wr => ∃ (k : Nat) (X : Dv) (s c v : Value), k ≤ ths.length ∧ i = .int .i64 k ∧ Row wr w.heap.size 23 [.int .i64 r, .int .i64 a, .int .i64 h, .int .i64 vm, .int .i64 nv] ∧ Row wr (w.heap.size + 1) 28 [s, c, v, .int .i64 X.fuel] ∧
      Row wr (w.heap.size + 1 + 1) 28 [.slice none 0 0, .slice none 0 0, .slice none 0 0, .int .i64 0] ∧ (ODev wr w.heap.size s c v X ∨ k = 0 ∧ Dev w s c v X) ∧ doE r a h vm nv X (ths.drop k) = FE ∧ doD r a h vm nv X (ths.drop k) = FD ∧ Below w.heap.size w wr) (fun _ _ _ i _ => ths.length - (intOf i).toNat)
  case atStart => exact ⟨0, D, s, c, v, Nat.zero_le _, rfl, unhide HRG, unhide HRD, unhide HRR, .inr ⟨rfl, unhide HD⟩, by rw [List.drop_zero]; exact unhide HFE, by rw [List.drop_zero]; exact unhide HFD, hbW⟩
  case round =>
    obtain ⟨k, X, s, c, v, hk, rfl, hG, hRd, hRr, hX, hE, hDD, hb⟩ := hrel
    have hdev : Dev wr s c v X := by
      rcases hX with q | ⟨_, q⟩
      · exact q.dev
      · exact q.up hb
    have g0 := hG.cell 0 _ rfl
    have g1 := hG.cell 1 _ rfl
    have g2 := hG.cell 2 _ rfl
    have g3 := hG.cell 3 _ rfl
    have g4 := hG.cell 4 _ rfl
    have f0 := hRd.cell 0 _ rfl
    have f1 := hRd.cell 1 _ rfl
    have f2 := hRd.cell 2 _ rfl
    have f3 := hRd.cell 3 _ rfl
    have HX := hide hX
    have HE := hide hE
    have HDD := hide hDD
    have HG := hide hG
    have HRd := hide hRd
    have HRr := hide hRr
    have HDEV := hide hdev
    have hl1 := hRr.lt
    clear hX hE hDD hG hRd hRr HFE HFD HRG HRD HRR
    by_cases hlt : k < ths.length
    · obtain ⟨b, o, rfl, f, hf, hth⟩ := unhide HLC k hlt
      replace hf := cell_up hb hf
      replace hth := hth.up hb
      obtain ⟨t, ht⟩ : ∃ t, ths.getD k .flush = t := ⟨_, rfl⟩
      have hdr := drop_at hlt
      rw [ht] at hth hdr
      have HDR := hide hdr
      clear ht hdr
      obtain ⟨E, hEE⟩ : ∃ E, thE r a h vm nv X t = E := ⟨_, rfl⟩
      have HEE := hide hEE
      clear hEE
      obtain ⟨Z, hZ⟩ : ∃ Z, thD X E t = Z := ⟨_, rfl⟩
      have HZ := hide hZ
      clear hZ
      go_upto_region 4 with fail
      go_cut [10, 11] (fun p e wc => ∃ (B : Nat) (s' c' v' : Value), p = .pointer (some ⟨B, 0, none⟩) ∧ e = .int .i64 E ∧ wr.heap.size ≤ B ∧ Row wc B 28 [s', c', v', .int .i64 Z.fuel] ∧ ODev wc wr.heap.size s' c' v' Z ∧ Below wr.heap.size wr wc)
      case first =>
        cases t with
        | put x xs =>
          obtain ⟨b1, b2, bv, rfl, q1, q2, q3⟩ := hth
          have Q3 := hide q3
          clear q3
          go_wp2_with fail
          refine (put1_any r a h vm nv s c v X b1 b2 x bv xs _ (unhide HDEV) q1 q2 (unhide Q3)).mono ?_
          rintro e w2 ⟨s', c', v', rfl, hO, hb2⟩
          have hEp : putE X x xs.length (chkE r a h vm nv X) = E := unhide HEE
          rw [hEp] at hO ⊢
          have hZp : putD X x xs E = Z := unhide HZ
          rw [hZp] at hO ⊢
          have hs2 := hb2.size
          have hod := hO.dev
          obtain ⟨⟨y1, z1, rfl, _⟩, ⟨y2, z2, rfl, _⟩, ⟨y3, z3, rfl, _⟩⟩ := hod
          clear hEp hZp
          go_wp2
          go_meet
          case rel => exact ⟨_, _, _, _, rfl, rfl, hs2, Row.new _ _ _, hO.up (bl1 _ _), bl_trans hb2 (bl1 _ _)⟩
        | flush =>
          obtain rfl := hth
          go_wp2_with fail
          refine (flush_any r a h vm nv s c v X _ (unhide HDEV)).mono ?_
          rintro e w2 ⟨s', c', v', rfl, hO, hb2⟩
          have hEp : marE X (chkE r a h vm nv X) = E := unhide HEE
          rw [hEp] at hO ⊢
          have hZp : fluD X E = Z := unhide HZ
          rw [hZp] at hO ⊢
          have hs2 := hb2.size
          have hod := hO.dev
          obtain ⟨⟨y1, z1, rfl, _⟩, ⟨y2, z2, rfl, _⟩, ⟨y3, z3, rfl, _⟩⟩ := hod
          clear hEp hZp
          go_wp2
          go_meet
          case rel => exact ⟨_, _, _, _, rfl, rfl, hs2, Row.new _ _ _, hO.up (bl1 _ _), bl_trans hb2 (bl1 _ _)⟩
      case rest =>
        obtain ⟨B, s', c', v', rfl, rfl, hBs, hrB, hO, hbc⟩ := hcut
        have hG2 := (unhide HG).up hbc
        have hRd2 := (unhide HRd).up hbc
        have hRr2 := (unhide HRr).up hbc
        have b0 := hrB.cell 0 _ rfl
        have b1 := hrB.cell 1 _ rfl
        have b2 := hrB.cell 2 _ rfl
        have b3 := hrB.cell 3 _ rfl
        have hbw := bl_trans hb hbc
        have hsz := hbc.size
        have hlc := hRr2.lt
        have hdev2 := hO.dev
        obtain ⟨⟨y1, z1, rfl, _⟩, ⟨y2, z2, rfl, _⟩, ⟨y3, z3, rfl, _⟩⟩ := hdev2
        have hne1 : ¬ B = w.heap.size + 1 := by omega
        have hne2 : ¬ B = w.heap.size + 1 + 1 := by omega
        have HO := hide hO
        have HrB := hide hrB
        have HRd2 := hide hRd2
        have HRr2 := hide hRr2
        have HG2 := hide hG2
        clear hO HRd HRr HG
        by_cases hE0 : E = 0
        · subst hE0
          have hE' : doE r a h vm nv Z (ths.drop (k + 1)) = FE := by
            have := unhide HE
            rw [unhide HDR] at this
            simp only [doE, unhide HEE, if_true] at this
            rw [← this, ← unhide HZ]
          have hD' : doD r a h vm nv Z (ths.drop (k + 1)) = FD := by
            have := unhide HDD
            rw [unhide HDR] at this
            simp only [doD, unhide HEE, if_true] at this
            rw [← this, ← unhide HZ]
          have HE' := hide hE'
          have HD' := hide hD'
          have d0 := hRd2.cell 0 _ rfl
          have d1 := hRd2.cell 1 _ rfl
          have d2 := hRd2.cell 2 _ rfl
          have d3 := hRd2.cell 3 _ rfl
          have df := hRd2.unfrozen
          clear hE' hD' hRd2 hRr2 hG2 hrB g0 g1 g2 g3 g4 f0 f1 f2 f3 hf hth
          go_wp2
          go_roundw
          case rel =>
            have hg := gb_set (gb_set (gb_set (gb_set (gb_refl wc (some (w.heap.size + 1))) 0 (.slice y1 Z.safe.length z1)) 1 (.slice y2 Z.cache.length z2)) 2 (.slice y3 Z.vols.length z3)) 3 (.int .i64 Z.fuel)
            refine ⟨k + 1, Z, _, _, _, by omega, by go_num, (unhide HG2).kept hg (by simp), R4 (unhide HRd2) _ _ _ _, (unhide HRr2).kept hg (by simp), .inl ?_, unhide HE', unhide HD', ?_⟩
            · exact ((unhide HO).kept (unhide HRd2) (by decide) (by decide) (by decide) (by decide) hg).base (by omega)
            · exact bl_gb hbw hg (by omega)
          case measure => (simp [intOf] <;> omega)
        have r0 := hRr2.cell 0 _ rfl
        have r1 := hRr2.cell 1 _ rfl
        have r2 := hRr2.cell 2 _ rfl
        have r3 := hRr2.cell 3 _ rfl
        have rf := hRr2.unfrozen
        have t0 : (E != 0) = true := by simpa using hE0
        have hFE : FE = E := by
          have := unhide HE
          rw [unhide HDR] at this
          simp only [doE, unhide HEE, if_neg hE0] at this
          exact this.symm
        by_cases hE10 : E = 10
        · have h10 : thE r a h vm nv X t = 10 := by rw [unhide HEE]; exact hE10
          obtain ⟨hch, hfu⟩ := thE_10 h10
          have hFD : FD = X := by
            have := unhide HDD
            rw [unhide HDR] at this
            simp only [doD, h10, if_true] at this
            exact this.symm
          have hA0 : armE 0 (chkE r a h vm nv X) = 0 := by rw [hch]; exact armE_t (by decide)
          have hA1 : armD X 0 0 = X := by rw [armD_ok]; cases X; simp at hfu; rw [hfu]
          subst hE10
          obtain rfl := hFE
          obtain rfl := hFD
          have HA0 := hide hA0
          have HA1 := hide hA1
          have e0 := hG2.cell 0 _ rfl
          have e1 := hG2.cell 1 _ rfl
          have e2 := hG2.cell 2 _ rfl
          have e3 := hG2.cell 3 _ rfl
          have e4 := hG2.cell 4 _ rfl
          have d0 := hRd2.cell 0 _ rfl
          have d1 := hRd2.cell 1 _ rfl
          have d2 := hRd2.cell 2 _ rfl
          have d3 := hRd2.cell 3 _ rfl
          clear hA0 hA1 hch hfu h10 hRd2 hRr2 hG2 hrB g0 g1 g2 g3 g4 f0 f1 f2 f3 hf hth hE0
          go_wp2_with fail
          refine (arm_any r a h vm nv s c v FD 0 _ ((unhide HDEV).up hbc)).mono ?_
          rintro e w4 ⟨s4, c4, v4, rfl, hO4, hb4⟩
          rw [unhide HA0, unhide HA1] at hO4 ⊢
          have hdev4 := hO4.dev
          obtain ⟨⟨x1, i1, rfl, _⟩, ⟨x2, i2, rfl, _⟩, ⟨x3, i3, rfl, _⟩⟩ := hdev4
          have hrB4 := (unhide HrB).up hb4
          have hRr4 := (unhide HRr2).up hb4
          have b0 := hrB4.cell 0 _ rfl
          have b1 := hrB4.cell 1 _ rfl
          have b2 := hrB4.cell 2 _ rfl
          have b3 := hrB4.cell 3 _ rfl
          have bf := hrB4.unfrozen
          have HO4 := hide hO4
          have HrB4 := hide hrB4
          have HRr4 := hide hRr4
          have hs4 := hb4.size
          clear hrB4 hRr4 hO4 d0 d1 d2 d3 e0 e1 e2 e3 e4 r0 r1 r2 r3 rf
          go_upto_region 7 with fail
          obtain ⟨W5, hW5⟩ : ∃ W5, W5 = (((w4.setCell ⟨B, 0, none⟩ (.slice x1 FD.safe.length i1)).setCell ⟨B, 1, none⟩ (.slice x2 FD.cache.length i2)).setCell ⟨B, 2, none⟩ (.slice x3 FD.vols.length i3)).setCell ⟨B, 3, none⟩ (.int .i64 FD.fuel) := ⟨_, rfl⟩
          have hg5 : w4.grownBy W5 (some B) := by rw [hW5]; exact gb_set (gb_set (gb_set (gb_set (gb_refl _ _) _ _) _ _) _ _) _ _
          have hr5 : Row W5 B 28 [.slice x1 FD.safe.length i1, .slice x2 FD.cache.length i2, .slice x3 FD.vols.length i3, .int .i64 FD.fuel] := by rw [hW5]; exact R4 (unhide HrB4) _ _ _ _
          rw [← hW5]
          clear hW5
          have hO5 := (unhide HO4).kept (unhide HrB4) (by decide) (by decide) (by decide) (by decide) hg5
          have hRr5 := (unhide HRr4).kept hg5 (by simp; omega)
          have b0 := hr5.cell 0 _ rfl
          have b1 := hr5.cell 1 _ rfl
          have b2 := hr5.cell 2 _ rfl
          have b3 := hr5.cell 3 _ rfl
          have r0 := hRr5.cell 0 _ rfl
          have r1 := hRr5.cell 1 _ rfl
          have r2 := hRr5.cell 2 _ rfl
          have r3 := hRr5.cell 3 _ rfl
          have rf := hRr5.unfrozen
          have hb5 : Below w.heap.size w W5 := bl_gb (bl_trans hbw hb4) hg5 (by omega)
          have HO5 := hide hO5
          have HRr5 := hide hRr5
          clear hO5 hRr5 hr5 hg5 HO4 HRr4 HrB4 bf
          go_wp2
          refine bodyPost_ret (v := .tuple #[.agg #[.slice x1 FD.safe.length i1, .slice x2 FD.cache.length i2, .slice x3 FD.vols.length i3, .int .i64 FD.fuel], .int .i64 10]) (by simp [results, Try.results76, go_sem, *]) rfl ⟨_, _, _, rfl, ?_, ?_⟩
          · exact ((unhide HO5).kept (unhide HRr5) (by decide) (by decide) (by decide) (by decide) (by repeat (first | exact gb_refl _ _ | refine gb_set ?_ _ _))).base (by omega)
          · repeat (first | exact hb5 | refine bl_set ?_ (by simp <;> omega) _)
        · have hFD : FD = Z := by
            have := unhide HDD
            rw [unhide HDR] at this
            simp only [doD, unhide HEE, if_neg hE0, if_neg hE10] at this
            rw [← this, ← unhide HZ, thD_bad hE0]
          have t1 : (E == 10) = false := by simpa using hE10
          obtain rfl := hFE
          obtain rfl := hFD
          clear hRd2 hRr2 hG2 hrB g0 g1 g2 g3 g4 f0 f1 f2 f3 hf hth hE0 hE10
          go_wp2
          refine bodyPost_ret (v := .tuple #[.agg #[.slice y1 FD.safe.length z1, .slice y2 FD.cache.length z2, .slice y3 FD.vols.length z3, .int .i64 FD.fuel], .int .i64 FE]) (by simp [results, Try.results76, go_sem, *]) rfl ⟨_, _, _, rfl, ?_, ?_⟩
          · exact ((unhide HO).kept (unhide HRr2) (by decide) (by decide) (by decide) (by decide) (by repeat (first | exact gb_refl _ _ | refine gb_set ?_ _ _))).base (by omega)
          · repeat (first | exact hbw | refine bl_set ?_ (by simp <;> omega) _)
    · have hE := unhide HE
      have hDD := unhide HDD
      rw [List.drop_of_length_le (by omega)] at hE hDD
      obtain rfl : X = FD := hDD
      obtain rfl : 0 = FE := hE
      have hRr := unhide HRr
      have r0 := hRr.cell 0 _ rfl
      have r1 := hRr.cell 1 _ rfl
      have r2 := hRr.cell 2 _ rfl
      have r3 := hRr.cell 3 _ rfl
      have rf := hRr.unfrozen
      clear hRr
      obtain ⟨⟨y1, z1, rfl, _⟩, ⟨y2, z2, rfl, _⟩, ⟨y3, z3, rfl, _⟩⟩ := hdev
      go_wp2
      refine bodyPost_ret (v := .tuple #[.agg #[.slice y1 X.safe.length z1, .slice y2 X.cache.length z2, .slice y3 X.vols.length z3, .int .i64 X.fuel], .int .i64 0]) (by simp [results, Try.results76, go_sem, *]) rfl ⟨_, _, _, rfl, ?_, ?_⟩
      · rcases unhide HX with q | ⟨e0, _⟩
        · exact q.kept (unhide HRr) (by decide) (by decide) (by decide) (by decide) (by repeat (first | exact gb_refl _ _ | refine gb_set ?_ _ _))
        · exfalso; omega
      · repeat (first | exact hb | refine bl_set ?_ (by simp <;> omega) _)
end Go.Proofs.Ytjahaccplchmnaa
