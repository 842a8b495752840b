/- dev.Crash. -/
import Derived.Test.YtjaedigjmgfakaaBol
namespace Go.Proofs.Ytjaedigjmgfakaa
open Go.RowKit
set_option maxRecDepth 100000
set_option linter.unusedVariables false
set_option linter.unusedSimpArgs false
section
variable {w w1 : World} {c0 c1 c2 c3 c4 : List Value} {t0 t1 t2 t3 t4 : TypeId}
theorem b5b (hb : Below (((((w.alloc (.cells c0.toArray t0)).alloc (.cells c1.toArray t1)).alloc (.cells c2.toArray t2)).alloc (.cells c3.toArray t3)).alloc (.cells c4.toArray t4)).heap.size (((((w.alloc (.cells c0.toArray t0)).alloc (.cells c1.toArray t1)).alloc (.cells c2.toArray t2)).alloc (.cells c3.toArray t3)).alloc (.cells c4.toArray t4)) w1) : Row w1 (w.heap.size + 1) t1 c1 :=
  ((Row.newAt (w := w.alloc (.cells c0.toArray t0)) rfl (by simp)).up (bl3 _ _ _ _)).up hb
theorem b5c (hb : Below (((((w.alloc (.cells c0.toArray t0)).alloc (.cells c1.toArray t1)).alloc (.cells c2.toArray t2)).alloc (.cells c3.toArray t3)).alloc (.cells c4.toArray t4)).heap.size (((((w.alloc (.cells c0.toArray t0)).alloc (.cells c1.toArray t1)).alloc (.cells c2.toArray t2)).alloc (.cells c3.toArray t3)).alloc (.cells c4.toArray t4)) w1) : Row w1 (w.heap.size + 1 + 1) t2 c2 :=
  ((Row.newAt (w := (w.alloc (.cells c0.toArray t0)).alloc (.cells c1.toArray t1)) rfl (by simp)).up (bl2 _ _ _)).up hb
theorem b5d (hb : Below (((((w.alloc (.cells c0.toArray t0)).alloc (.cells c1.toArray t1)).alloc (.cells c2.toArray t2)).alloc (.cells c3.toArray t3)).alloc (.cells c4.toArray t4)).heap.size (((((w.alloc (.cells c0.toArray t0)).alloc (.cells c1.toArray t1)).alloc (.cells c2.toArray t2)).alloc (.cells c3.toArray t3)).alloc (.cells c4.toArray t4)) w1) : Row w1 (w.heap.size + 1 + 1 + 1) t3 c3 :=
  ((Row.newAt (w := ((w.alloc (.cells c0.toArray t0)).alloc (.cells c1.toArray t1)).alloc (.cells c2.toArray t2)) rfl (by simp)).up (bl1 _ _)).up hb
theorem b5e (hb : Below (((((w.alloc (.cells c0.toArray t0)).alloc (.cells c1.toArray t1)).alloc (.cells c2.toArray t2)).alloc (.cells c3.toArray t3)).alloc (.cells c4.toArray t4)).heap.size (((((w.alloc (.cells c0.toArray t0)).alloc (.cells c1.toArray t1)).alloc (.cells c2.toArray t2)).alloc (.cells c3.toArray t3)).alloc (.cells c4.toArray t4)) w1) : Row w1 (w.heap.size + 1 + 1 + 1 + 1) t4 c4 :=
  (Row.newAt (w := (((w.alloc (.cells c0.toArray t0)).alloc (.cells c1.toArray t1)).alloc (.cells c2.toArray t2)).alloc (.cells c3.toArray t3)) rfl (by simp)).up hb
theorem b5 (hb : Below (((((w.alloc (.cells c0.toArray t0)).alloc (.cells c1.toArray t1)).alloc (.cells c2.toArray t2)).alloc (.cells c3.toArray t3)).alloc (.cells c4.toArray t4)).heap.size (((((w.alloc (.cells c0.toArray t0)).alloc (.cells c1.toArray t1)).alloc (.cells c2.toArray t2)).alloc (.cells c3.toArray t3)).alloc (.cells c4.toArray t4)) w1) : Below w.heap.size w w1 :=
  bl_trans (bl_trans (bl3 _ _ _ _) (bl2 _ _ _)) hb
end

set_option maxHeartbeats 2000000 in
theorem crash_any (r a h vm nv : Int) (s c v : Value) (D : Dv) (kv : Value) (ks : List Bool) (tail : Int) (w : World) (hD : Dev w s c v D) (hK : Bls w kv ks) :
    Calls Try.prog 14 #[.agg #[.int .i64 r, .int .i64 a, .int .i64 h, .int .i64 vm, .int .i64 nv], .agg #[s, c, v, .int .i64 D.fuel], kv, .int .i64 tail] w fun e w' =>
      ∃ s' c' v', e = .returned (.tuple #[.agg #[s', c', v', .int .i64 (craD ks tail D (craE tail (chkE r a h vm nv D))).fuel], .int .i64 (craE tail (chkE r a h vm nv D))]) ∧ ODev w' w.heap.size s' c' v' (craD ks tail D (craE tail (chkE r a h vm nv D))) ∧ Below w.heap.size w w' := by
  have HD := hide hD
  have HK := hide hK
  obtain ⟨⟨a1, cap1, rfl, l1, m1, hs⟩, ⟨a2, cap2, rfl, l2, m2, hc⟩, ⟨a3, cap3, rfl, l3, m3, hv⟩⟩ := hD
  obtain ⟨ak, capk, hkv, _⟩ := hK
  clear hs hc hv
  unfold maxLen at m1 m2 m3
  obtain ⟨nk, hnk⟩ : ∃ nk, ks.length = nk := ⟨_, rfl⟩
  rw [hnk] at hkv
  subst hkv
  clear hnk
  go_enter Try.func14, Try.ntmps14
  go_wp2_with fail
  refine (check_any r a h vm nv _ _ _ D _ (by exact (unhide HD).up (bl_trans (bl3 _ _ _ _) (bl2 _ _ _)))).mono ?_
  rintro e w1 ⟨rfl, hb1⟩
  have hb0 : Below w.heap.size w w1 := bl_trans (bl_trans (bl3 _ _ _ _) (bl2 _ _ _)) hb1
  have hF := b5b (c0 := [.int .i64 r, .int .i64 a, .int .i64 h, .int .i64 vm, .int .i64 nv]) (c1 := [.slice a1 D.safe.length cap1, .slice a2 D.cache.length cap2, .slice a3 D.vols.length cap3, .int .i64 D.fuel]) (c2 := [.slice ak nk capk]) (c3 := [.int .i64 tail]) (c4 := [.slice none 0 0, .slice none 0 0, .slice none 0 0, .int .i64 0]) hb1
  have hKR := b5c (c0 := [.int .i64 r, .int .i64 a, .int .i64 h, .int .i64 vm, .int .i64 nv]) (c1 := [.slice a1 D.safe.length cap1, .slice a2 D.cache.length cap2, .slice a3 D.vols.length cap3, .int .i64 D.fuel]) (c2 := [.slice ak nk capk]) (c3 := [.int .i64 tail]) (c4 := [.slice none 0 0, .slice none 0 0, .slice none 0 0, .int .i64 0]) hb1
  have hTR := b5d (c0 := [.int .i64 r, .int .i64 a, .int .i64 h, .int .i64 vm, .int .i64 nv]) (c1 := [.slice a1 D.safe.length cap1, .slice a2 D.cache.length cap2, .slice a3 D.vols.length cap3, .int .i64 D.fuel]) (c2 := [.slice ak nk capk]) (c3 := [.int .i64 tail]) (c4 := [.slice none 0 0, .slice none 0 0, .slice none 0 0, .int .i64 0]) hb1
  have hR := b5e (c0 := [.int .i64 r, .int .i64 a, .int .i64 h, .int .i64 vm, .int .i64 nv]) (c1 := [.slice a1 D.safe.length cap1, .slice a2 D.cache.length cap2, .slice a3 D.vols.length cap3, .int .i64 D.fuel]) (c2 := [.slice ak nk capk]) (c3 := [.int .i64 tail]) (c4 := [.slice none 0 0, .slice none 0 0, .slice none 0 0, .int .i64 0]) hb1
  have f0 := hF.cell 0 _ rfl
  have f1 := hF.cell 1 _ rfl
  have f2 := hF.cell 2 _ rfl
  have f3 := hF.cell 3 _ rfl
  have ft := hTR.cell 0 _ rfl
  have d0 := hR.cell 0 _ rfl
  have d1 := hR.cell 1 _ rfl
  have d2 := hR.cell 2 _ rfl
  have d3 := hR.cell 3 _ rfl
  have df := hR.unfrozen
  have HR := hide hR
  have HTR := hide hTR
  have HKR := hide hKR
  clear hb1 hR hF hTR hKR
  obtain ⟨E, hE⟩ : ∃ E, chkE r a h vm nv D = E := ⟨_, rfl⟩
  rw [hE]
  by_cases hE0 : E = 0
  case neg =>
    have t1 : (E != 0) = true := by simpa using hE0
    have HE : Hid (E = craE tail (chkE r a h vm nv D)) := by rw [hE]; exact (craE_bad hE0).symm
    have HE0 := hide hE0
    clear hE hE0
    go_wp2
    refine bodyPost_ret (v := .tuple #[.agg #[.slice none 0 0, .slice none 0 0, .slice none 0 0, .int .i64 0], .int .i64 E]) (by simp [results, Try.results14, go_sem, *]) rfl ⟨_, _, _, ret_dev (by rw [← unhide HE, craD_bad (unhide HE0)]; rfl) (unhide HE), ?_, ?_⟩
    · rw [← unhide HE, craD_bad (unhide HE0)]; exact ODev.empty _ _ _
    · repeat (first | exact hb0 | refine bl_set ?_ (by simp <;> omega) _)
  subst hE0
  obtain ⟨hg, hd⟩ := chk_of hE
  have HFIT := hide (fits_of hg hd)
  have HDV := hide (devB_all hd)
  have HVO := hide (volsOk_of hd)
  have HCH := hide hE
  clear hE hd hg
  by_cases ht : tail < 0
  · have HE : Hid (2 = craE tail (chkE r a h vm nv D)) := by rw [unhide HCH]; exact (craE_no ht).symm
    go_wp2
    refine bodyPost_ret (v := .tuple #[.agg #[.slice none 0 0, .slice none 0 0, .slice none 0 0, .int .i64 0], .int .i64 2]) (by simp [results, Try.results14, go_sem, *]) rfl ⟨_, _, _, ret_dev (by rw [← unhide HE, craD_bad (by decide)]; rfl) (unhide HE), ?_, ?_⟩
    · rw [← unhide HE, craD_bad (by decide)]; exact ODev.empty _ _ _
    · repeat (first | exact hb0 | refine bl_set ?_ (by simp <;> omega) _)
  have HE : Hid (0 = craE tail (chkE r a h vm nv D)) := by rw [unhide HCH]; exact (craE_ok ht).symm
  have HT : Hid (0 ≤ tail) := Int.not_lt.1 ht
  go_wp2_with fail
  refine (copyDevices_any _ _ _ D D.fuel _ ((unhide HD).up hb0) (unhide HFIT)).mono ?_
  rintro e w2 ⟨s', c', v', M, rfl, hO, hb2⟩
  have hsz1 := hb0.size
  have hsz2 := hb2.size
  have hb02 := bl_trans hb0 hb2
  obtain ⟨hle, ⟨gs, us, g, rfl, hgs, hrs, hsec⟩, ⟨gc, uc, rfl, hgc, hrc, hwi⟩, ⟨gv, uv, rfl, hgv, hrv, hvi, _⟩⟩ := hO
  have HRS := hide hrs
  have HSEC := hide hsec
  have HRC := hide hrc
  have HWI := hide hwi
  have HRV := hide hrv
  have HVI := hide hvi
  have F1 := (unhide HFIT).safe
  have F2 := (unhide HFIT).cache
  have F3 := (unhide HFIT).vols
  have HB02 := hide hb02
  have HR2 := hide ((unhide HR).up hb2)
  have HTR2 := hide ((unhide HTR).up hb2)
  have HKR2 := hide ((unhide HKR).up hb2)
  clear d0 d1 d2 d3 df f0 f1 f2 f3 ft hrs hsec hrc hwi hrv hvi hb02 hb2
  go_wp2_with fail
  refine (setC_any (w.heap.size + 1 + 1) gs gc gv us uc uv g w1.heap.size M D D.fuel (keepF ks) _ (unhide HRS) (unhide HSEC) (unhide HRC) (unhide HWI) (unhide HRV) (unhide HVI) (unhide HDV).2.2.2.2.1 (unhide HDV).2.2.2.2.2.1 (unhide HFIT)
    (fun k hk wr hto => crash1_any k _ _ ks wr (by omega) ((hto.row (unhide HKR2) (by decide) (fun j hj => (unhide HSEC).blk j hj)).cell 0 _ rfl) ((unhide HK).up (hto.from (fun j hj => (unhide HSEC).lo j hj) hsz2 (unhide HB02) hsz1)))).mono ?_
  rintro e w3 ⟨rfl, hs3, hsec3, hv3, hvi3, hto⟩
  have hO3 := ODev.ofSec D.fuel hs3 hgs hsec3 (settled_length _ _ _ _) (settled_64 (unhide HDV).2.2.2.2.1 (unhide HDV).2.2.2.2.2.1 _ (Nat.le_refl _)) (by unfold maxLen; omega) hv3 hgv hvi3 rfl (by unfold maxLen; omega) hle
  have HR3 := hide (hto.row (unhide HR2) (by decide) (fun j hj => (unhide HSEC).blk j hj))
  have HTR3 := hide (hto.row (unhide HTR2) (by decide) (fun j hj => (unhide HSEC).blk j hj))
  have HB3 := hide (hto.from (fun j hj => (unhide HSEC).lo j hj) hsz2 (unhide HB02) hsz1)
  have hsz3 := hto.size
  obtain ⟨D', hD'⟩ : ∃ D' : Dv, D' = ⟨settled (keepF ks) D.safe D.cache D.cache.length, [], D.vols, D.fuel⟩ := ⟨_, rfl⟩
  rw [← hD'] at hO3
  have hdv : D'.vols = D.vols := by rw [hD']
  have HO3 := hide hO3
  have HD' := hide hD'
  have HVO' : Hid (∀ i, i < D'.vols.length → 0 ≤ (D'.vols.getD i vo0).synced ∧ (D'.vols.getD i vo0).synced ≤ ((D'.vols.getD i vo0).data.length : Int)) := by rw [hdv]; exact unhide HVO
  have HFV : Hid (∀ i, i < D'.vols.length → (D'.vols.getD i vo0).data.length ≤ 140737488355328) := by rw [hdv]; exact fun i hi => (unhide HFIT).volD hi
  have HTB := hide ((unhide HTR3).up (bl1 w3 (.cells #[.slice (some ⟨gs, 0, none⟩) D.safe.length D.safe.length, .slice none 0 0, .slice (some ⟨gv, 0, none⟩) D.vols.length D.vols.length, .int .i64 D.fuel] 34)))
  have HPP : Hid (∀ k, k < D'.vols.length → ∀ x cap wr, (w3.alloc (.cells #[.slice (some ⟨gs, 0, none⟩) D.safe.length D.safe.length, .slice none 0 0, .slice (some ⟨gv, 0, none⟩) D.vols.length D.vols.length, .int .i64 D.fuel] 34)).grownBy wr (Value.slice (some ⟨gv, 0, none⟩) D.vols.length D.vols.length).ownBlock → Calls Try.prog 36 #[.agg #[.slice x (D'.vols.getD k vo0).data.length cap, .int .i64 (D'.vols.getD k vo0).synced, .bool (D'.vols.getD k vo0).gone], .pointer (some ⟨w.heap.size + 1 + 1 + 1, 0, none⟩)] wr fun e w' => e = .returned (.int .i64 (craN tail (D'.vols.getD k vo0) : Int)) ∧ Below wr.heap.size wr w') := by
    intro k hk x cap wr hg
    rw [craN_int (Int.not_lt.2 (unhide HT)) (unhide HVO' k hk).1 (unhide HVO' k hk).2]
    exact crash2_any x _ cap _ _ tail _ wr (Nat.le_trans (unhide HFV k hk) (by decide)) (unhide HVO' k hk).1 (unhide HVO' k hk).2 (unhide HT) (((unhide HTB).kept hg (own_far (unhide HO3) (unhide HTR3) (by decide))).cell 0 _ rfl)
  clear hO3 hto hs3 hsec3 hv3 hvi3 hD' hdv
  go_wp2_with fail
  refine (cutC_any (w.heap.size + 1 + 1 + 1) _ _ _ D' D.fuel w1.heap.size (craN tail) _ ((unhide HO3).up (bl1 _ _)) (by simp; omega) (fun i hi => Nat.le_trans (craN_le (Int.not_lt.2 (unhide HT)) (unhide HVO' i hi).1 (unhide HVO' i hi).2) (unhide HFV i hi)) (unhide HPP)).mono ?_
  rintro e w5 ⟨rfl, hO5, hg5⟩
  rw [unhide HD'] at hO5
  have hr5 := ((unhide HR3).up (bl1 _ _)).kept hg5 (own_far (unhide HO3) (unhide HR3) (by decide))
  have hout5 := (Row.new w3 34 [.slice (some ⟨gs, 0, none⟩) D.safe.length D.safe.length, .slice none 0 0, .slice (some ⟨gv, 0, none⟩) D.vols.length D.vols.length, .int .i64 D.fuel]).kept hg5 (own_far ((unhide HO3).up (bl1 _ _)) (Row.new w3 34 [.slice (some ⟨gs, 0, none⟩) D.safe.length D.safe.length, .slice none 0 0, .slice (some ⟨gv, 0, none⟩) D.vols.length D.vols.length, .int .i64 D.fuel]) (by decide))
  have HB5 := hide (bl_own (bl_trans (unhide HB3) (bl1 _ _)) hg5 fun j hj => Nat.le_trans hsz1 (own_from (unhide HO3) j hj))
  have o0 := hout5.cell 0 _ rfl
  have o1 := hout5.cell 1 _ rfl
  have o2 := hout5.cell 2 _ rfl
  have o3 := hout5.cell 3 _ rfl
  have hof := hout5.unfrozen
  have hol := hout5.lt
  have d0 := hr5.cell 0 _ rfl
  have d1 := hr5.cell 1 _ rfl
  have d2 := hr5.cell 2 _ rfl
  have d3 := hr5.cell 3 _ rfl
  have df := hr5.unfrozen
  have hrl := hr5.lt
  have hrne : w.heap.size + 1 + 1 + 1 + 1 ≠ w3.heap.size := by have := (unhide HR3).lt; omega
  have HO5 := hide hO5
  have HR5 := hide hr5
  have HOUT5 := hide hout5
  have hwo : w.heap.size ≤ w3.heap.size := by have := (unhide HB3).size; exact this
  obtain ⟨OB, hOB⟩ : ∃ OB, w3.heap.size = OB := ⟨_, rfl⟩
  obtain ⟨RB, hRB⟩ : ∃ RB, w.heap.size + 1 + 1 + 1 + 1 = RB := ⟨_, rfl⟩
  have hwr : w.heap.size ≤ RB := by omega
  rw [hOB] at o0 o1 o2 o3 hof hol hrne HOUT5 hwo ⊢
  rw [hRB] at d0 d1 d2 d3 df hrl hrne HR5 ⊢
  have hrn' := Ne.symm hrne
  clear hO5 hr5 hg5 hout5 hOB hRB HRS HSEC HRC HWI HRV HVI HKR2 HTR2 HTR3 HR2 HR3 HDV HVO HVO' HFV HPP HTB HD HK HFIT HKR HTR HR HB02 HB3 HO3 HD' F1 F2 F3 hsz2 hsz3 hb0 l1 l2 l3 m1 m2 m3 hle hgs hgc hgv
  go_upto_region 8 with fail
  obtain ⟨wq, hwq⟩ : ∃ wq, wq = (((w5.setCell ⟨OB, 0, none⟩ (.slice (some ⟨gs, 0, none⟩) D.safe.length D.safe.length)).setCell ⟨OB, 1, none⟩ (.slice none 0 0)).setCell ⟨OB, 2, none⟩ (.slice (some ⟨gv, 0, none⟩) D.vols.length D.vols.length)).setCell ⟨OB, 3, none⟩ (.int .i64 D.fuel) := ⟨_, rfl⟩
  have hga : w5.grownBy wq (some OB) := by rw [hwq]; exact gb_set (gb_set (gb_set (gb_set (gb_refl _ _) _ _) _ _) _ _) _ _
  have houtq : Row wq OB 34 [.slice (some ⟨gs, 0, none⟩) D.safe.length D.safe.length, .slice none 0 0, .slice (some ⟨gv, 0, none⟩) D.vols.length D.vols.length, .int .i64 D.fuel] := by rw [hwq]; exact ((((unhide HOUT5).set 0 _).set 1 _).set 2 _).set 3 _
  have hresq := (unhide HR5).kept hga (by simpa using hrne)
  have hOq := (unhide HO5).kept (unhide HOUT5) (by decide) (by decide) (by decide) (by decide) hga
  have HBQ : Hid (Below w.heap.size w wq) := by rw [hwq]; exact bl_set (bl_set (bl_set (bl_set (unhide HB5) hwo _) hwo _) hwo _) hwo _
  rw [← hwq]
  clear hwq o0 o1 o2 o3 hof hol d0 d1 d2 d3 df hrl hga
  have o0 := houtq.cell 0 _ rfl
  have o1 := houtq.cell 1 _ rfl
  have o2 := houtq.cell 2 _ rfl
  have o3 := houtq.cell 3 _ rfl
  have hof := houtq.unfrozen
  have hol := houtq.lt
  have d0 := hresq.cell 0 _ rfl
  have d1 := hresq.cell 1 _ rfl
  have d2 := hresq.cell 2 _ rfl
  have d3 := hresq.cell 3 _ rfl
  have df := hresq.unfrozen
  have hrl := hresq.lt
  have HOUTQ := hide houtq
  have HRESQ := hide hresq
  have HOQ := hide hOq
  clear houtq hresq hOq HO5 HR5 HOUT5 HB5
  go_wp2
  refine bodyPost_ret (v := .tuple #[.agg #[.slice (some ⟨gs, 0, none⟩) D.safe.length D.safe.length, .slice none 0 0, .slice (some ⟨gv, 0, none⟩) D.vols.length D.vols.length, .int .i64 (-1)], .int .i64 0]) (by simp [results, Try.results14, go_sem, *]) rfl ⟨_, _, _, ret_dev (by rw [← unhide HE, craD_ok]) (unhide HE), ?_, ?_⟩
  · rw [← unhide HE, craD_ok]
    have hgb := gb_set (gb_refl wq (some OB)) 3 (.int .i64 (-1))
    have hres6 := (unhide HRESQ).kept hgb (by simpa using hrne)
    have k1 := ((unhide HOQ).fuel (-1)).kept (unhide HOUTQ) (by decide) (by decide) (by decide) (by decide) hgb
    exact (k1.kept hres6 (by decide) (by decide) (by decide) (by decide) (gb_set (gb_set (gb_set (gb_set (gb_refl _ _) _ _) _ _) _ _) _ _)).base hsz1
  · exact bl_set (bl_set (bl_set (bl_set (bl_set (unhide HBQ) hwo _) hwr _) hwr _) hwr _) hwr _
end Go.Proofs.Ytjaedigjmgfakaa
