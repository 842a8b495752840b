/- icehouseref.FormatOf. -/
import Derived.Test.YtjahaccplchmnaaFmt
import Derived.Test.YtjahaccplchmnaaFlt
namespace Go.Proofs.Ytjahaccplchmnaa
open Go.RowKit
set_option maxRecDepth 100000
set_option linter.unusedVariables false
set_option linter.unusedSimpArgs false
theorem tds3 {w : World} {u : Value} {xs : List Int} {t : TypeId} (h : Bts w u xs) : TdsAt (w.alloc (.cells #[.bool false, .int .i64 0, .slice none 0 0, .bool false, .int .i64 1, u, .bool true, .int .i64 0, .slice none 0 0] t)) (.slice (some ⟨w.heap.size, 0, none⟩) 3 3) [.put 0 [], .put 1 xs, .flush] := by
  have hr : Row (w.alloc (.cells #[.bool false, .int .i64 0, .slice none 0 0, .bool false, .int .i64 1, u, .bool true, .int .i64 0, .slice none 0 0] t)) w.heap.size t [.bool false, .int .i64 0, .slice none 0 0, .bool false, .int .i64 1, u, .bool true, .int .i64 0, .slice none 0 0] := Row.new _ _ _
  refine ⟨_, 3, rfl, Nat.le_refl _, by decide, fun i hi => ⟨w.heap.size, 0, rfl, ?_⟩⟩
  match i, hi with
  | 0, _ => exact ⟨hr.cell 0 _ rfl, hr.cell 1 _ rfl, _, hr.cell 2 _ rfl, Bts.nil _⟩
  | 1, _ => exact ⟨hr.cell 3 _ rfl, hr.cell 4 _ rfl, _, hr.cell 5 _ rfl, h.up (bl1 _ _)⟩
  | 2, _ => exact hr.cell 6 _ rfl
set_option maxHeartbeats 2000000 in
theorem formatOf_any (r a h vm nv : Int) (s c v : Value) (D : Dv) (w : World) (hD : Dev w s c v D) :
    Calls Try.prog 18 #[.agg #[.int .i64 r, .int .i64 a, .int .i64 h, .int .i64 vm, .int .i64 nv], .agg #[s, c, v, .int .i64 D.fuel]] w fun e w' =>
      ∃ s' c' v', e = .returned (.tuple #[.agg #[s', c', v', .int .i64 (fmD r a h vm nv D).fuel], .agg (jIf (fmE r a h vm nv D) jF), .int .i64 (fmE r a h vm nv D)]) ∧ Dev w' s' c' v' (fmD r a h vm nv D) ∧ Below w.heap.size w w' := by
  have HD := hide hD
  clear hD
  obtain ⟨CE, hCE⟩ : ∃ CE, chkE r a h vm nv D = CE := ⟨_, rfl⟩
  obtain ⟨FE, hFE⟩ : ∃ FE, fmE r a h vm nv D = FE := ⟨_, rfl⟩
  obtain ⟨FD, hFD⟩ : ∃ FD, fmD r a h vm nv D = FD := ⟨_, rfl⟩
  obtain ⟨q0, q1, q2, q3, q4, q5, q6, q7, q8, hJV⟩ := jIf_form FE 1 1 0 0 0 1 0 1 0
  change jIf FE jF = _ at hJV
  rw [hFE, hFD, hJV]
  have HCE := hide hCE
  have HFE := hide hFE
  have HFD := hide hFD
  have HJV := hide hJV
  clear hCE hFE hFD hJV
  go_enter Try.func18, Try.ntmps18
  go_upto_region 1 with fail
  obtain ⟨W0, hW0⟩ : ∃ W0, W0 = (((w.alloc (.cells #[.int .i64 r, .int .i64 a, .int .i64 h, .int .i64 vm, .int .i64 nv] 23)).alloc (.cells #[s, c, v, .int .i64 D.fuel] 28)).alloc (.cells #[.slice none 0 0, .slice none 0 0, .slice none 0 0, .int .i64 0] 28)).alloc (.cells #[.int .i64 0, .int .i64 0, .int .i64 0, .int .i64 0, .int .i64 0, .int .i64 0, .int .i64 0, .int .i64 0, .int .i64 0] 31) := ⟨_, rfl⟩
  have hbW : Below w.heap.size w W0 := by rw [hW0]; exact box4 _ _ _ _ _
  obtain ⟨⟨hRG, hRD⟩, hRR, hRK⟩ := rows4 w [.int .i64 r, .int .i64 a, .int .i64 h, .int .i64 vm, .int .i64 nv] [s, c, v, .int .i64 D.fuel] [.slice none 0 0, .slice none 0 0, .slice none 0 0, .int .i64 0] [.int .i64 0, .int .i64 0, .int .i64 0, .int .i64 0, .int .i64 0, .int .i64 0, .int .i64 0, .int .i64 0, .int .i64 0] 23 28 28 31
  rw [← hW0] at hRG hRD hRR hRK
  rw [← hW0]
  clear hW0
  have HRG := hide hRG
  have HRD := hide hRD
  have HRR := hide hRR
  have HRK := hide hRK
  have g0 := hRG.cell 0 _ rfl
  have g1 := hRG.cell 1 _ rfl
  have g2 := hRG.cell 2 _ rfl
  have g3 := hRG.cell 3 _ rfl
  have g4 := hRG.cell 4 _ rfl
  have f0 := hRD.cell 0 _ rfl
  have f1 := hRD.cell 1 _ rfl
  have f2 := hRD.cell 2 _ rfl
  have f3 := hRD.cell 3 _ rfl
  clear hRG hRD hRR hRK
  go_wp2_with fail
  refine (devFault_any r a h vm nv s c v D _ ((unhide HD).up hbW)).mono ?_
  rintro e w1 ⟨rfl, hb1⟩
  rw [unhide HCE]
  have hb0 := bl_trans hbW hb1
  have hRG1 := (unhide HRG).up hb1
  have hRD1 := (unhide HRD).up hb1
  have hRR1 := (unhide HRR).up hb1
  have hRK1 := (unhide HRK).up hb1
  have hlt := hRK1.lt
  have z0 := hRR1.cell 0 _ rfl
  have z1 := hRR1.cell 1 _ rfl
  have z2 := hRR1.cell 2 _ rfl
  have z3 := hRR1.cell 3 _ rfl
  have zf := hRR1.unfrozen
  have u0 := hRK1.cell 0 _ rfl
  have u1 := hRK1.cell 1 _ rfl
  have u2 := hRK1.cell 2 _ rfl
  have u3 := hRK1.cell 3 _ rfl
  have u4 := hRK1.cell 4 _ rfl
  have u5 := hRK1.cell 5 _ rfl
  have u6 := hRK1.cell 6 _ rfl
  have u7 := hRK1.cell 7 _ rfl
  have u8 := hRK1.cell 8 _ rfl
  have uf := hRK1.unfrozen
  have HRG1 := hide hRG1
  have HRD1 := hide hRD1
  have HRR1 := hide hRR1
  have HRK1 := hide hRK1
  have HB0 := hide hb0
  clear hRG1 hRD1 hRR1 hRK1 hb1 hb0 g0 g1 g2 g3 g4 f0 f1 f2 f3
  by_cases hE : CE = 0
  case neg =>
    have t1 : (CE != 0) = true := by simpa using hE
    have h1 : FE = CE := by rw [← unhide HFE, fmE, unhide HCE, if_neg hE]
    have h2 : FD = nilD := by rw [← unhide HFD, fmD, unhide HCE, if_neg hE]
    have h3 : jz = #[.int .i64 q0, .int .i64 q1, .int .i64 q2, .int .i64 q3, .int .i64 q4, .int .i64 q5, .int .i64 q6, .int .i64 q7, .int .i64 q8] := by rw [← unhide HJV, jIf, h1, if_neg hE]
    have H2 := hide h2
    have H3 := hide h3
    subst h1
    clear hE h2 h3
    go_wp2
    refine bodyPost_ret (v := .tuple #[.agg #[.slice none 0 0, .slice none 0 0, .slice none 0 0, .int .i64 0], .agg jz, .int .i64 FE]) (by simp [results, Try.results18, go_sem, jz, *]) rfl ⟨.slice none 0 0, .slice none 0 0, .slice none 0 0, by rw [unhide H2, unhide H3]; rfl, ?_, ?_⟩
    · rw [unhide H2]; exact (ODev.empty _ 0 _).dev
    · exact bl13 (unhide HB0) (by omega) (by omega)
  subst hE
  have h1 : doE r a h vm nv D fmT = FE := by rw [← unhide HFE, fmE, if_pos (unhide HCE)]
  have h2 : doD r a h vm nv D fmT = FD := by rw [← unhide HFD, fmD, if_pos (unhide HCE)]
  have h3 : (if FE = 0 then jF else jz) = #[.int .i64 q0, .int .i64 q1, .int .i64 q2, .int .i64 q3, .int .i64 q4, .int .i64 q5, .int .i64 q6, .int .i64 q7, .int .i64 q8] := unhide HJV
  have H1 := hide h1
  have H2 := hide h2
  have H3 := hide h3
  clear h1 h2 h3
  go_upto_region 5 with fail
  obtain ⟨W2, hW2⟩ : ∃ W2, W2 = w1.alloc (.cells #[.int .i64 1, .int .i64 1, .int .i64 0, .int .i64 0, .int .i64 0, .int .i64 1, .int .i64 0, .int .i64 1, .int .i64 0] 31) := ⟨_, rfl⟩
  have hb2 : Below w1.heap.size w1 W2 := by rw [hW2]; exact bl1 _ _
  have hrj : Row W2 w1.heap.size 31 [.int .i64 1, .int .i64 1, .int .i64 0, .int .i64 0, .int .i64 0, .int .i64 1, .int .i64 0, .int .i64 1, .int .i64 0] := by rw [hW2]; exact Row.new _ _ _
  rw [← hW2]
  clear hW2
  have HRG2 := hide ((unhide HRG1).up hb2)
  have HRD2 := hide ((unhide HRD1).up hb2)
  have HRR2 := hide ((unhide HRR1).up hb2)
  have HRK2 := hide ((unhide HRK1).up hb2)
  have HRJ2 := hide hrj
  have HB2 := hide (bl_trans (unhide HB0) hb2)
  have KR : Hid (∀ w', Row w' w.heap.size 23 [.int .i64 r, .int .i64 a, .int .i64 h, .int .i64 vm, .int .i64 nv] → Row w' (w.heap.size + 1) 28 [s, c, v, .int .i64 D.fuel] → Row w' w1.heap.size 31 [.int .i64 1, .int .i64 1, .int .i64 0, .int .i64 0, .int .i64 0, .int .i64 1, .int .i64 0, .int .i64 1, .int .i64 0] → (w'.cell? ⟨w.heap.size, 0, none⟩ = some (.int .i64 r) ∧ w'.cell? ⟨w.heap.size, 1, none⟩ = some (.int .i64 a) ∧ w'.cell? ⟨w.heap.size, 2, none⟩ = some (.int .i64 h) ∧ w'.cell? ⟨w.heap.size, 3, none⟩ = some (.int .i64 vm) ∧ w'.cell? ⟨w.heap.size, 4, none⟩ = some (.int .i64 nv) ∧ w'.cell? ⟨w.heap.size + 1, 0, none⟩ = some s ∧ w'.cell? ⟨w.heap.size + 1, 1, none⟩ = some c ∧ w'.cell? ⟨w.heap.size + 1, 2, none⟩ = some v ∧ w'.cell? ⟨w.heap.size + 1, 3, none⟩ = some (.int .i64 D.fuel) ∧ w'.cell? ⟨w1.heap.size, 0, none⟩ = some (.int .i64 1) ∧ w'.cell? ⟨w1.heap.size, 1, none⟩ = some (.int .i64 1) ∧ w'.cell? ⟨w1.heap.size, 2, none⟩ = some (.int .i64 0) ∧ w'.cell? ⟨w1.heap.size, 3, none⟩ = some (.int .i64 0) ∧ w'.cell? ⟨w1.heap.size, 4, none⟩ = some (.int .i64 0) ∧ w'.cell? ⟨w1.heap.size, 5, none⟩ = some (.int .i64 1) ∧ w'.cell? ⟨w1.heap.size, 6, none⟩ = some (.int .i64 0) ∧ w'.cell? ⟨w1.heap.size, 7, none⟩ = some (.int .i64 1) ∧ w'.cell? ⟨w1.heap.size, 8, none⟩ = some (.int .i64 0))) := fun w' x y z => ⟨x.cell 0 _ rfl, x.cell 1 _ rfl, x.cell 2 _ rfl, x.cell 3 _ rfl, x.cell 4 _ rfl, y.cell 0 _ rfl, y.cell 1 _ rfl, y.cell 2 _ rfl, y.cell 3 _ rfl, z.cell 0 _ rfl, z.cell 1 _ rfl, z.cell 2 _ rfl, z.cell 3 _ rfl, z.cell 4 _ rfl, z.cell 5 _ rfl, z.cell 6 _ rfl, z.cell 7 _ rfl, z.cell 8 _ rfl⟩
  have KS : Hid (∀ w', Below W2.heap.size W2 w' → (w'.cell? ⟨w.heap.size, 0, none⟩ = some (.int .i64 r) ∧ w'.cell? ⟨w.heap.size, 1, none⟩ = some (.int .i64 a) ∧ w'.cell? ⟨w.heap.size, 2, none⟩ = some (.int .i64 h) ∧ w'.cell? ⟨w.heap.size, 3, none⟩ = some (.int .i64 vm) ∧ w'.cell? ⟨w.heap.size, 4, none⟩ = some (.int .i64 nv) ∧ w'.cell? ⟨w.heap.size + 1, 0, none⟩ = some s ∧ w'.cell? ⟨w.heap.size + 1, 1, none⟩ = some c ∧ w'.cell? ⟨w.heap.size + 1, 2, none⟩ = some v ∧ w'.cell? ⟨w.heap.size + 1, 3, none⟩ = some (.int .i64 D.fuel) ∧ w'.cell? ⟨w1.heap.size, 0, none⟩ = some (.int .i64 1) ∧ w'.cell? ⟨w1.heap.size, 1, none⟩ = some (.int .i64 1) ∧ w'.cell? ⟨w1.heap.size, 2, none⟩ = some (.int .i64 0) ∧ w'.cell? ⟨w1.heap.size, 3, none⟩ = some (.int .i64 0) ∧ w'.cell? ⟨w1.heap.size, 4, none⟩ = some (.int .i64 0) ∧ w'.cell? ⟨w1.heap.size, 5, none⟩ = some (.int .i64 1) ∧ w'.cell? ⟨w1.heap.size, 6, none⟩ = some (.int .i64 0) ∧ w'.cell? ⟨w1.heap.size, 7, none⟩ = some (.int .i64 1) ∧ w'.cell? ⟨w1.heap.size, 8, none⟩ = some (.int .i64 0))) := fun w' hb => unhide KR w' ((unhide HRG2).up hb) ((unhide HRD2).up hb) ((unhide HRJ2).up hb)
  have hl2 := hrj.lt
  clear hrj z0 z1 z2 z3 zf u0 u1 u2 u3 u4 u5 u6 u7 u8 uf hb2
  go_region_held3 (fun w' => w'.cell? ⟨w.heap.size, 0, none⟩ = some (.int .i64 r) ∧ w'.cell? ⟨w.heap.size, 1, none⟩ = some (.int .i64 a) ∧ w'.cell? ⟨w.heap.size, 2, none⟩ = some (.int .i64 h) ∧ w'.cell? ⟨w.heap.size, 3, none⟩ = some (.int .i64 vm) ∧ w'.cell? ⟨w.heap.size, 4, none⟩ = some (.int .i64 nv) ∧ w'.cell? ⟨w.heap.size + 1, 0, none⟩ = some s ∧ w'.cell? ⟨w.heap.size + 1, 1, none⟩ = some c ∧ w'.cell? ⟨w.heap.size + 1, 2, none⟩ = some v ∧ w'.cell? ⟨w.heap.size + 1, 3, none⟩ = some (.int .i64 D.fuel) ∧ w'.cell? ⟨w1.heap.size, 0, none⟩ = some (.int .i64 1) ∧ w'.cell? ⟨w1.heap.size, 1, none⟩ = some (.int .i64 1) ∧ w'.cell? ⟨w1.heap.size, 2, none⟩ = some (.int .i64 0) ∧ w'.cell? ⟨w1.heap.size, 3, none⟩ = some (.int .i64 0) ∧ w'.cell? ⟨w1.heap.size, 4, none⟩ = some (.int .i64 0) ∧ w'.cell? ⟨w1.heap.size, 5, none⟩ = some (.int .i64 1) ∧ w'.cell? ⟨w1.heap.size, 6, none⟩ = some (.int .i64 0) ∧ w'.cell? ⟨w1.heap.size, 7, none⟩ = some (.int .i64 1) ∧ w'.cell? ⟨w1.heap.size, 8, none⟩ = some (.int .i64 0))
    (first
      | with_reducible exact unhide KR _ ((rG.k4 (by omega))) ((rD.k4 (by omega))) ((rJ.k4 (by omega)))
      | with_reducible exact unhide KR _ ((rG.k13 (by omega) (by omega))) ((rD.k13 (by omega) (by omega))) ((rJ.k13 (by omega) (by omega)))
      | with_reducible exact unhide KR _ ((rG.k9 (by omega))) ((rD.k9 (by omega))) ((rJ.k9 (by omega)))
      | with_reducible exact unhide KR _ ((rG.k13o (by omega) (by omega))) ((rD.k13o (by omega) (by omega))) ((rJ.k13o (by omega) (by omega)))
      | (with_reducible (refine unhide KS _ ?_; (repeat (first | exact Below.refl _ _ | exact hbq | exact hbu | exact hbp | apply Below.drew | apply bl_alloc)); done)))
    (first
      | (go_at_call 46; refine (superOf_any 1 1 0 0 0 1 0 1 0 _ (by decide) (by decide) (by decide) (by decide) (by decide) (by decide)).mono ?_; rintro e wu ⟨u, rfl, hU, bu⟩; have hbu : Below W2.heap.size W2 wu := bl_trans (by repeat (first | exact Below.refl _ _ | exact hbq | exact hbu | exact hbp | apply Below.drew | apply bl_alloc)) bu; have hU0 := hU; obtain ⟨ua, uc, rfl, _, _, _⟩ := hU0)
      | (go_at_call 45; refine (done_any r a h vm nv s c v D _ fmT 1 1 0 0 0 1 0 1 0 _ ((unhide HD).up (bl_trans (unhide HB2) (by repeat (first | exact Below.refl _ _ | exact hbq | exact hbu | exact hbp | apply Below.drew | apply bl_alloc)))) (tds3 hU)).mono ?_; rintro e wq ⟨s', c', v', rfl, hO, bq⟩; have hbq : Below W2.heap.size W2 wq := bl_trans (by repeat (first | exact Below.refl _ _ | exact hbq | exact hbu | exact hbp | apply Below.drew | apply bl_alloc)) bq; rw [unhide H2] at hO ⊢; rw [unhide H1]; have hj3 := unhide H3; unfold jF at hj3; rw [hj3]; clear hj3; have hod : Dev wq s' c' v' FD := (by rcases hO with q | ⟨e1, e2, e3, e4⟩; exact q.dev; rw [e1, e2, e3, e4]; exact (unhide HD).up (bl_trans (unhide HB2) hbq)); obtain ⟨⟨y1, i1, rfl, _⟩, ⟨y2, i2, rfl, _⟩, ⟨y3, i3, rfl, _⟩⟩ := hod; have rG := (unhide HRG2).up hbq; have rD := (unhide HRD2).up hbq; have rJ := (unhide HRJ2).up hbq; have rR := (unhide HRR2).up hbq; have rK := (unhide HRK2).up hbq; have z0 := rR.cell 0 _ rfl; have z1 := rR.cell 1 _ rfl; have z2 := rR.cell 2 _ rfl; have z3 := rR.cell 3 _ rfl; have zf := rR.unfrozen; have u0 := rK.cell 0 _ rfl; have u1 := rK.cell 1 _ rfl; have u2 := rK.cell 2 _ rfl; have u3 := rK.cell 3 _ rfl; have u4 := rK.cell 4 _ rfl; have u5 := rK.cell 5 _ rfl; have u6 := rK.cell 6 _ rfl; have u7 := rK.cell 7 _ rfl; have u8 := rK.cell 8 _ rfl; have uf := rK.unfrozen))
  all_goals
    have hsz : w.heap.size ≤ wu.heap.size := Nat.le_trans (unhide HB2).size hbu.size
    have HO2 := hide hO
    have HB9 := hide (bl_trans (unhide HB2) hbq)
    have RR := hide rR
    have RK := hide rK
    have HBB := hide (unhide HB2)
    clear hO rR rK rG rD rJ hU hbq hbu KS KR
    go_wp2
    refine bodyPost_ret (v := .tuple #[.agg #[.slice y1 FD.safe.length i1, .slice y2 FD.cache.length i2, .slice y3 FD.vols.length i3, .int .i64 FD.fuel], .agg #[.int .i64 q0, .int .i64 q1, .int .i64 q2, .int .i64 q3, .int .i64 q4, .int .i64 q5, .int .i64 q6, .int .i64 q7, .int .i64 q8], .int .i64 FE]) (by simp [results, Try.results18, go_sem, *]) rfl ⟨_, _, _, rfl, ?_, ?_⟩
    · have hfin : ∀ W', Below w.heap.size w W' → (∀ B, ODev wq B (.slice y1 FD.safe.length i1) (.slice y2 FD.cache.length i2) (.slice y3 FD.vols.length i3) FD → ODev W' B (.slice y1 FD.safe.length i1) (.slice y2 FD.cache.length i2) (.slice y3 FD.vols.length i3) FD) → Dev W' (.slice y1 FD.safe.length i1) (.slice y2 FD.cache.length i2) (.slice y3 FD.vols.length i3) FD := fun W' hb hk => by
        rcases unhide HO2 with q | ⟨e1, e2, e3, e4⟩
        · exact (hk _ q).dev
        · rw [e1, e2, e3, e4]; exact (unhide HD).up hb
      refine hfin _ ?_ ?_
      · first | with_reducible exact (bl13 (unhide HB9) (by omega) (by omega)) | with_reducible exact (bl13o (unhide HB9) (by omega) (by omega))
      · intro B q
        first | with_reducible exact (ODev.st13 q (unhide RR) (unhide RK)) | with_reducible exact (ODev.st13o q (unhide RR) (unhide RK))
    · first | with_reducible exact (bl13 (unhide HB9) (by omega) (by omega)) | with_reducible exact (bl13o (unhide HB9) (by omega) (by omega))
end Go.Proofs.Ytjahaccplchmnaa
