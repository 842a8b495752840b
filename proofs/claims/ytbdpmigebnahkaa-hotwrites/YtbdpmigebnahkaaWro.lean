/- icehouseref.WroteOf. -/
import Derived.Test.YtbdpmigebnahkaaChu
import Derived.Test.YtbdpmigebnahkaaRoo
namespace Go.Proofs.Ytbdpmigebnahkaa
open Go.RowKit
set_option linter.unusedVariables false
set_option linter.unusedSimpArgs false

set_option maxHeartbeats 4000000 in
set_option maxRecDepth 100000 in
theorem wroteOf_any (r a h vm nv : Int) (s c v : Value) (D : Dv) (lv bv : Value) (l xs : List Int) (w : World) (hD : Dev w s c v D) (hv : Nts w lv l) (hB : Bts w bv xs) :
    Calls Try.prog 17 #[.agg #[.int .i64 r, .int .i64 a, .int .i64 h, .int .i64 vm, .int .i64 nv], .agg #[s, c, v, .int .i64 D.fuel], lv, bv] w fun e w' =>
      ∃ s' c' v', e = .returned (.tuple #[.agg #[s', c', v', .int .i64 (wroD r a h vm nv D l xs).fuel], .int .i64 (wroE r a h vm nv D l xs)]) ∧ Dev w' s' c' v' (wroD r a h vm nv D l xs) ∧ Below w.heap.size w w' := by
  have HD := hide hD
  have HV := hide hv
  have HB := hide hB
  clear hD
  obtain ⟨la, lc, rfl, ll, lm, hlc⟩ := hv
  obtain ⟨ba, bc, rfl, bl, bm, hbc⟩ := hB
  have HLC := hide hlc
  have HBC := hide hbc
  clear hlc hbc
  unfold maxLen at lm bm
  go_enter Try.func17, Try.ntmps17
  go_wp2_with fail
  refine (devFault_any r a h vm nv _ _ _ D _ ((unhide HD).up (bl3 _ _ _ _))).mono ?_
  rintro e w1 ⟨rfl, hb1⟩
  have hb0 : Below w.heap.size w w1 := bl_trans (bl3 _ _ _ _) hb1
  have g0 := box3a hb1 0 rfl
  have g1 := box3a hb1 1 rfl
  have g2 := box3a hb1 2 rfl
  have g3 := box3a hb1 3 rfl
  have g4 := box3a hb1 4 rfl
  have f0 := box3b hb1 0 rfl
  have f1 := box3b hb1 1 rfl
  have f2 := box3b hb1 2 rfl
  have f3 := box3b hb1 3 rfl
  have hR := box3r (cs := [.slice none 0 0, .slice none 0 0, .slice none 0 0, .int .i64 0]) hb1
  have d0 := hR.cell 0 _ rfl
  have d1 := hR.cell 1 _ rfl
  have d2 := hR.cell 2 _ rfl
  have d3 := hR.cell 3 _ rfl
  have df := hR.unfrozen
  have HR := hide hR
  clear hb1 hR
  obtain ⟨E, hE⟩ : ∃ E, chkE r a h vm nv D = E := ⟨_, rfl⟩
  rw [hE]
  by_cases hE0 : E = 0
  case neg =>
    have t1 : (E != 0) = true := by simpa using hE0
    have t2 : (E == 0) = false := by simpa using hE0
    have hrE : romE h l xs.length (chkE r a h vm nv D) = E := by rw [hE]; exact romE_bad hE0
    have HE : Hid (E = wroE r a h vm nv D l xs) := by show _ = _; unfold wroE; rw [hrE, if_neg hE0]
    have HZ : Hid (wroD r a h vm nv D l xs = nilD) := by show _ = _; unfold wroD; rw [hrE, if_neg hE0]
    clear hE hE0 hrE
    go_wp2
    refine bodyPost_ret (v := .tuple #[.agg #[.slice none 0 0, .slice none 0 0, .slice none 0 0, .int .i64 0], .int .i64 E]) (by simp [results, Try.results17, go_sem, *]) rfl ⟨_, _, _, ret_dev (by rw [unhide HZ]; rfl) (unhide HE), ?_, ?_⟩
    · rw [unhide HZ]; exact (ODev.empty _ 0 _).dev
    · repeat (first | exact hb0 | refine bl_set ?_ (by simp <;> omega) _)
  subst hE0
  have hch := hE
  obtain ⟨hg, hd⟩ := chk_of hch
  have hgb := geoB_bd hg
  cases hrm : romB h l xs.length
  case false =>
    have hrE : romE h l xs.length (chkE r a h vm nv D) = 2 := by rw [hE]; exact romE_f hrm
    have HE : Hid (2 = wroE r a h vm nv D l xs) := by show _ = _; unfold wroE; rw [hrE, if_neg (by decide)]
    have HZ : Hid (wroD r a h vm nv D l xs = nilD) := by show _ = _; unfold wroD; rw [hrE, if_neg (by decide)]
    clear hE hrE
    go_wp2_with (go_at_call 44; refine (roomMay_any r a h vm nv _ l xs.length _ ((unhide HV).up hb0) (by omega) (by omega)).mono ?_; rintro e w2 ⟨rfl, hb2⟩; rw [hrm]; have hR2 := (unhide HR).up hb2; have e0 := hR2.cell 0 _ rfl; have e1 := hR2.cell 1 _ rfl; have e2 := hR2.cell 2 _ rfl; have e3 := hR2.cell 3 _ rfl; have ef := hR2.unfrozen)
    refine bodyPost_ret (v := .tuple #[.agg #[.slice none 0 0, .slice none 0 0, .slice none 0 0, .int .i64 0], .int .i64 2]) (by simp [results, Try.results17, go_sem, *]) rfl ⟨_, _, _, ret_dev (by rw [unhide HZ]; rfl) (unhide HE), ?_, ?_⟩
    · rw [unhide HZ]; exact (ODev.empty _ 0 _).dev
    · have := bl_trans hb0 hb2
      repeat (first | exact this | refine bl_set ?_ (by simp <;> omega) _)
  replace hE : romE h l xs.length (chkE r a h vm nv D) = 0 := by rw [hE]; exact romE_t hrm
  have hFE : wroE r a h vm nv D l xs = doE r a h vm nv D (wrT r a l xs l.length ++ [.flush]) := by unfold wroE; rw [hE, if_pos rfl]
  have hFD : wroD r a h vm nv D l xs = doD r a h vm nv D (wrT r a l xs l.length ++ [.flush]) := by unfold wroD; rw [hE, if_pos rfl]
  have HFE := hide hFE
  have HFD := hide hFD
  obtain ⟨⟨hn0, hn1⟩, hlen, hin⟩ := romB_all hrm
  have HRM := hide hrm
  have hsec : ∀ i, i < l.length → 64 * i < xs.length := fun i hi => by rw [secH_chunk hn0] at hlen; omega
  have hll : l.length ≤ 10 := by rw [secH_chunk hn0] at hlen; omega
  have HIN := hide hin
  have HSEC := hide hsec
  clear hin hsec hE hch hrm hg hd hlen hFE hFD
  have KS : Hid (∀ w', Below w1.heap.size w1 w' → w'.cell? ⟨w.heap.size, 0, none⟩ = some (.int .i64 r) ∧ w'.cell? ⟨w.heap.size, 1, none⟩ = some (.int .i64 a) ∧ w'.cell? ⟨w.heap.size, 2, none⟩ = some (.int .i64 h) ∧ w'.cell? ⟨w.heap.size, 3, none⟩ = some (.int .i64 vm) ∧ w'.cell? ⟨w.heap.size, 4, none⟩ = some (.int .i64 nv) ∧ w'.cell? ⟨w.heap.size + 1, 0, none⟩ = some s ∧ w'.cell? ⟨w.heap.size + 1, 1, none⟩ = some c ∧ w'.cell? ⟨w.heap.size + 1, 2, none⟩ = some v ∧ w'.cell? ⟨w.heap.size + 1, 3, none⟩ = some (.int .i64 D.fuel)) :=
    fun w' hb => ⟨cell_up hb g0, cell_up hb g1, cell_up hb g2, cell_up hb g3, cell_up hb g4, cell_up hb f0, cell_up hb f1, cell_up hb f2, cell_up hb f3⟩
  have hlt1 : w.heap.size + 1 < w1.heap.size := World.block_lt_of_cell? w1 _ f0
  clear g0 g1 g2 g3 g4 f0 f1 f2 f3 d0 d1 d2 d3 df
  obtain ⟨i0, hi, hz0, hz1, hz2⟩ := info_parts infoTd
  obtain ⟨g0, g1, g2, g3, g4, f0, f1, f2, f3⟩ := unhide KS _ (Below.refl _ _)
  go_wp2_with (go_at_call 44; refine (roomMay_any r a h vm nv _ l xs.length _ ((unhide HV).up hb0) (by omega) (by omega)).mono ?_; rintro e w2 ⟨rfl, hb2⟩; rw [unhide HRM])
  clear g0 g1 g2 g3 g4 f0 f1 f2 f3
  go_loopw [11, 12] (fun u i wr => ∃ k : Nat, k ≤ l.length ∧ i = .int .i64 k ∧ OwTd w1 wr w1.heap.size u (wrT r a l xs k) ∧ Below w1.heap.size w1 wr) (fun _ i _ => l.length - (intOf i).toNat)
  case atStart => exact ⟨0, Nat.zero_le _, rfl, OwTd.nil _ _ _, hb2⟩
  case round =>
    obtain ⟨k, hk, rfl, hotd, hbr⟩ := hrel
    obtain ⟨ps, hps, ho1, ho3⟩ := hotd
    have hpl : ps.length = k := by have := congrArg List.length hps; rw [wrT_len] at this; simpa using this
    rw [hpl] at ho1
    obtain ⟨ua, uc, rfl, ul, um⟩ := own_form ho1
    unfold maxLen at um
    have HO1 := hide ho1
    have HPS := hide hps
    have HO3 := hide ho3
    have HPL := hide hpl
    clear ho1 hps ho3 hpl
    have hsr := hbr.size
    by_cases hlt : k < l.length
    · obtain ⟨b, o, rfl, hcell⟩ := unhide HLC k hlt
      replace hcell := cell_up hb0 hcell
      obtain ⟨z, hz⟩ : ∃ z, l.getD k 0 = z := ⟨_, rfl⟩
      have hzb := unhide HIN k hlt
      have hnx := wrT_next r a l xs k
      rw [hz] at hcell hzb hnx
      have h6 := unhide HSEC k hlt
      have HNX := hide hnx
      clear hz hnx
      obtain ⟨bb, bo, rfl, _⟩ := unhide HBC 0 (by omega)
      obtain ⟨T, hT⟩ : ∃ T, min ((k + 1) * 64) xs.length = T := ⟨_, rfl⟩
      have HT := hide hT
      have HCUT : Hid (Bts w (.slice (some ⟨bb, bo + k * 64, none⟩) (T - k * 64) (bc - k * 64)) (wrC xs k)) := by
        have := (unhide HB).cut (x := k * 64) (y := T) (by omega) (by omega)
        rw [if_neg (by omega)] at this
        show Bts _ _ _
        unfold wrC
        rw [hT]
        simp only [Option.map] at this
        rw [show (⟨bb, bo, none⟩ : Addr).add (k * 64) = ⟨bb, bo + k * 64, none⟩ by unfold Addr.add; split <;> simp_all] at this
        exact this
      clear hT
      have HWR : Hid (IntKind.i64.wrap (IntKind.i64.wrap (IntKind.i64.wrap (IntKind.i64.wrap (2 + r) + a) + a) + z) = 2 + r + 2 * a + z) := by show _ = _; simp only [IntKind.wrap_i64]; omega
      have HWS : Hid (2 + r + a + a + z = 2 + r + 2 * a + z) := by show _ = _; omega
      have KZ : Hid (∀ w', Below w1.heap.size w1 w' → (w'.cell? ⟨w.heap.size, 0, none⟩ = some (.int .i64 r) ∧ w'.cell? ⟨w.heap.size, 1, none⟩ = some (.int .i64 a) ∧ w'.cell? ⟨w.heap.size, 2, none⟩ = some (.int .i64 h) ∧ w'.cell? ⟨w.heap.size, 3, none⟩ = some (.int .i64 vm) ∧ w'.cell? ⟨w.heap.size, 4, none⟩ = some (.int .i64 nv) ∧ w'.cell? ⟨w.heap.size + 1, 0, none⟩ = some s ∧ w'.cell? ⟨w.heap.size + 1, 1, none⟩ = some c ∧ w'.cell? ⟨w.heap.size + 1, 2, none⟩ = some v ∧ w'.cell? ⟨w.heap.size + 1, 3, none⟩ = some (.int .i64 D.fuel)) ∧ w'.cell? ⟨b, o + k, none⟩ = some (.int .i64 z)) := fun w' hb => ⟨unhide KS _ hb, cell_up hb hcell⟩
      obtain ⟨⟨g0, g1, g2, g3, g4, f0, f1, f2, f3⟩, hcell'⟩ := unhide KZ _ hbr
      have hq1 : w.heap.size + 1 < wr.heap.size := by omega
      have hq0 : w.heap.size < wr.heap.size := by omega
      go_wp2
      go_region_held3 (fun w' => (w'.cell? ⟨w.heap.size, 0, none⟩ = some (.int .i64 r) ∧ w'.cell? ⟨w.heap.size, 1, none⟩ = some (.int .i64 a) ∧ w'.cell? ⟨w.heap.size, 2, none⟩ = some (.int .i64 h) ∧ w'.cell? ⟨w.heap.size, 3, none⟩ = some (.int .i64 vm) ∧ w'.cell? ⟨w.heap.size, 4, none⟩ = some (.int .i64 nv) ∧ w'.cell? ⟨w.heap.size + 1, 0, none⟩ = some s ∧ w'.cell? ⟨w.heap.size + 1, 1, none⟩ = some c ∧ w'.cell? ⟨w.heap.size + 1, 2, none⟩ = some v ∧ w'.cell? ⟨w.heap.size + 1, 3, none⟩ = some (.int .i64 D.fuel)) ∧ w'.cell? ⟨b, o + k, none⟩ = some (.int .i64 z))
        (exact unhide KZ _ (by repeat (first | exact hbr | exact hb4w | apply Below.drew | apply bl_alloc)))
        (first
          | (go_at_call 45; refine (chunk_any bb bo xs.length bc k T _ (by omega) (unhide HT) (by omega) (by omega)).mono ?_; rintro e w3 ⟨rfl, rfl⟩)
          | (refine step_append_lies _ (by rfl) _ _ _ (by rfl) w1.heap.size 90 i0 _ 3 40 Try.underlying87 hi hz0 hz1 hz2 rfl (by omega) (.slice ua k uc) k (ps.flatMap tdL) (by rfl) (World.ownsRow.drew (World.ownsRow.alloc (unhide HO1) _)) ⟨wr.heap.size, 0, none⟩ 1 1 [.bool false, .int .i64 (IntKind.i64.wrap (IntKind.i64.wrap (IntKind.i64.wrap (IntKind.i64.wrap (2 + r) + a) + a) + z)), .slice (some ⟨bb, bo + k * 64, none⟩) (T - k * 64) (bc - k * 64)] (by rfl) (by rfl) (World.news_of_block (cs := #[.bool false, .int .i64 (IntKind.i64.wrap (IntKind.i64.wrap (IntKind.i64.wrap (IntKind.i64.wrap (2 + r) + a) + a) + z)), .slice (some ⟨bb, bo + k * 64, none⟩) (T - k * 64) (bc - k * 64)]) (t := 90) (fr := (0, 0)) (heap_alloc_new wr _)) (by simp [Value.oneCell']) (by omega) (by unfold maxLen; omega) (by omega) (by simp; omega) (wr.heap.size + 1) (by simp) ?_; intro g cap w4 hown4 hgrow hat hlt4; have hbw3 := Below.drew (bl1 wr (.cells #[.bool false, .int .i64 (IntKind.i64.wrap (IntKind.i64.wrap (IntKind.i64.wrap (IntKind.i64.wrap (2 + r) + a) + a) + z)), .slice (some ⟨bb, bo + k * 64, none⟩) (T - k * 64) (bc - k * 64)] 90)); have hb4w : Below w1.heap.size w1 w4 := (bl_trans hbr hbw3).grown hgrow (by simp; omega) (fun j hj => (World.ownsRow.lt (unhide HO1) j hj).1)))
      all_goals
        have HOTD : Hid (OwTd w1 w4 w1.heap.size (.slice (some ⟨g, 0, none⟩) (k + 1) cap) (wrT r a l xs (k + 1))) := by
          show OwTd _ _ _ _ _
          rw [unhide HNX, ← unhide HPS]
          refine OwTd.push (unhide HO3) (p := (.put (2 + r + 2 * a + z) (wrC xs k), .slice (some ⟨bb, bo + k * 64, none⟩) (T - k * 64) (bc - k * 64))) ((unhide HCUT).up hb0) ?_
          rw [unhide HPL]
          rw [unhide HWR] at hown4
          exact hown4
        clear hown4 hgrow hat hbw3
        go_wp2
        go_roundw
        case rel => exact ⟨k + 1, by omega, by go_num, unhide HOTD, hb4w⟩
        case measure => (simp [intOf] <;> omega)
    · obtain rfl : k = l.length := by omega
      obtain ⟨FE, hFE⟩ : ∃ FE, wroE r a h vm nv D l xs = FE := ⟨_, rfl⟩
      obtain ⟨FD, hFD⟩ : ∃ FD, wroD r a h vm nv D l xs = FD := ⟨_, rfl⟩
      have HGE : Hid (doE r a h vm nv D (wrT r a l xs l.length ++ [.flush]) = FE) := by show _ = _; rw [← unhide HFE]; exact hFE
      have HGD : Hid (doD r a h vm nv D (wrT r a l xs l.length ++ [.flush]) = FD) := by show _ = _; rw [← unhide HFD]; exact hFD
      have HFE1 := hide hFE
      have HFD1 := hide hFD
      clear hFE hFD HFE HFD
      go_wp2_with (at_builtin; refine wpList_append_own _ rfl (.tmp 59) (.tmp 61) 87 rfl w1.heap.size 90 i0 (.agg #[.bool false, .int .i64 0, .slice none 0 0]) 3 40 Try.underlying87 hi hz0 hz1 hz2 rfl (by decide) _ l.length (ps.flatMap tdL) rfl ((unhide HO1).alloc _) ⟨wr.heap.size, 0, none⟩ 1 1 [.bool true, .int .i64 0, .slice none 0 0] rfl rfl ?c1 ?c2 ?c3 ?c4 ?c5 ?_)
      case c1 =>
        intro j u hj
        match j, hj with
        | 0, hj => simp at hj; subst hj; simp [Addr.add]
        | 1, hj => simp at hj; subst hj; simp [Addr.add]
        | 2, hj => simp at hj; subst hj; simp [Addr.add]
      case c2 => intro u hu; simp at hu; rcases hu with rfl | rfl | rfl <;> rfl
      case c3 => unfold maxLen; omega
      case c4 => omega
      case c5 => simp; omega
      intro u4 w4 hown4 hgrow _
      have hb4 : Below w1.heap.size w1 w4 := (bl_trans hbr (bl1 _ _)).grown hgrow (by simp; omega) fun j hj => ((unhide HO1).lt j hj).1
      have HOTD : Hid (OwTd w1 w4 w1.heap.size u4 (wrT r a l xs l.length ++ [.flush])) := by
        show OwTd _ _ _ _ _
        rw [← unhide HPS]
        refine OwTd.push (unhide HO3) (p := (.flush, .slice none 0 0)) trivial ?_
        rw [unhide HPL]
        exact hown4
      clear hown4 hgrow
      obtain ⟨g0, g1, g2, g3, g4, f0, f1, f2, f3⟩ := unhide KS _ hb4
      go_wp2_with fail
      refine (done_any r a h vm nv s c v D _ (wrT r a l xs l.length ++ [.flush]) 0 0 0 0 0 0 0 0 0 _ ((unhide HD).up (bl_trans hb0 hb4)) ((unhide HOTD).tds hb4)).mono ?_
      rintro e w5 ⟨s', c', v', rfl, hdv, hb5⟩
      rw [unhide HGD] at hdv
      rw [unhide HGE, unhide HGD]
      have hj : (if FE = 0 then #[.int .i64 0, .int .i64 0, .int .i64 0, .int .i64 0, .int .i64 0, .int .i64 0, .int .i64 0, .int .i64 0, .int .i64 0] else jz) = jz := by split <;> rfl
      rw [hj]
      unfold jz
      have hR5 := (unhide HR).up (bl_trans hb4 hb5)
      have hdv5 : Dev w5 s' c' v' FD := by
        rcases hdv with q | ⟨e1, e2, e3, e4⟩
        · exact q.dev
        · rw [e1, e2, e3, e4]; exact (unhide HD).up (bl_trans hb0 (bl_trans hb4 hb5))
      have r0 := hR5.cell 0 _ rfl
      have r1 := hR5.cell 1 _ rfl
      have r2 := hR5.cell 2 _ rfl
      have r3 := hR5.cell 3 _ rfl
      have rf := hR5.unfrozen
      have HR5 := hide hR5
      have HDV := hide hdv
      have hlr := hR5.lt
      obtain ⟨⟨y1, z1, rfl, _⟩, ⟨y2, z2, rfl, _⟩, ⟨y3, z3, rfl, _⟩⟩ := hdv5
      have hbw5 := bl_trans hb0 (bl_trans hb4 hb5)
      clear hR5 hdv hj g0 g1 g2 g3 g4 f0 f1 f2 f3
      go_upto_region 13 with fail
      obtain ⟨W6, hW6⟩ : ∃ W6, W6 = (w5.alloc (.cells #[.slice y1 FD.safe.length z1, .slice y2 FD.cache.length z2, .slice y3 FD.vols.length z3, .int .i64 FD.fuel] 28)).alloc (.cells #[.int .i64 0, .int .i64 0, .int .i64 0, .int .i64 0, .int .i64 0, .int .i64 0, .int .i64 0, .int .i64 0, .int .i64 0] 92) := ⟨_, rfl⟩
      have hb6 : Below w5.heap.size w5 W6 := by rw [hW6]; exact bl2 _ _ _
      have hr6 : Row W6 w5.heap.size 28 [.slice y1 FD.safe.length z1, .slice y2 FD.cache.length z2, .slice y3 FD.vols.length z3, .int .i64 FD.fuel] := by rw [hW6]; exact (Row.new w5 _ [.slice y1 FD.safe.length z1, .slice y2 FD.cache.length z2, .slice y3 FD.vols.length z3, .int .i64 FD.fuel]).up (bl1 _ _)
      rw [← hW6]
      clear hW6
      have b0 := hr6.cell 0 _ rfl
      have b1 := hr6.cell 1 _ rfl
      have b2 := hr6.cell 2 _ rfl
      have b3 := hr6.cell 3 _ rfl
      have hR6 := (unhide HR5).up hb6
      have r0 := hR6.cell 0 _ rfl
      have r1 := hR6.cell 1 _ rfl
      have r2 := hR6.cell 2 _ rfl
      have r3 := hR6.cell 3 _ rfl
      have rf := hR6.unfrozen
      have HR6 := hide hR6
      clear hR6 hr6
      go_wp2
      refine bodyPost_ret (v := .tuple #[.agg #[.slice y1 FD.safe.length z1, .slice y2 FD.cache.length z2, .slice y3 FD.vols.length z3, .int .i64 FD.fuel], .int .i64 FE]) (by simp [results, Try.results17, go_sem, *]) rfl ⟨_, _, _, ret_dev (by rw [unhide HFD1]) (unhide HFE1).symm, ?_, ?_⟩
      · rw [unhide HFD1]
        rcases unhide HDV with q | ⟨e1, e2, e3, e4⟩
        · exact ((q.up hb6).kept (unhide HR6) (by decide) (by decide) (by decide) (by decide) (by repeat (first | exact gb_refl _ _ | refine gb_set ?_ _ _))).dev
        · rw [e1, e2, e3, e4]
          refine (unhide HD).up ?_
          have := bl_trans hbw5 hb6
          repeat (first | exact this | refine bl_set ?_ (by simp <;> omega) _)
      · have := bl_trans hbw5 hb6
        repeat (first | exact this | refine bl_set ?_ (by simp <;> omega) _)
end Go.Proofs.Ytbdpmigebnahkaa
