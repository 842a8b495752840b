/- icehousekeep.NullOne: the walk. -/
import Derived.Test.YtbfhkbmcleglaaaGreatW72q
import Derived.Test.YtbfhkbmcleglaaaGreatSopq
import Derived.Test.YtbfhkbmcleglaaaGreatG14
import Derived.Test.YtbfhkbmcleglaaaGreatG17
import Derived.Test.YtbfhkbmcleglaaaGreatKpxq
import Derived.Test.YtbfhkbmcleglaaaGreatKkpq
namespace Go.Proofs.YtbfhkbmcleglaaaGreat
open Go.RowKit Go.Maps
set_option maxRecDepth 100000
set_option linter.unusedVariables false
set_option linter.unusedSimpArgs false
/-- What each operation of the region that makes the version leaves. -/
def noF (s : Nat) (S : St) (ba va ua qa ga : Option Addr) (bc vc uc qc gc : Nat) (na nb NX C SZ : Int) (NM KY : ByteArray) (SE : List Int) (W0 : Nat) (i : Nat) (v : Value) (w : World) : Prop :=
  match i with
  | 0 => v = .pointer (some ⟨s, 0, none⟩)
  | 1 => v = .int .i64 NX
  | 2 => v = .int .i64 na
  | 3 => v = .string NM
  | 4 => v = .int .i64 nb
  | 5 => v = .string KY
  | 6 => v = .pointer (some ⟨s, 1, none⟩)
  | 7 => v = .int .i64 C
  | 8 => v = .int .i64 SZ
  | 9 => v = .agg #[.int .i64 S.next, .int .i64 S.clock, (.slice ba S.bus.length bc), (.slice va S.ves.length vc), (.slice ua S.ups.length uc), (.slice qa S.que.length qc), (.slice ga S.gone.length gc)]
  | 10 => v = .int .i64 SZ
  | 11 => ∃ za zc, v = .slice za SE.length zc ∧ OwI w W0 (.slice za SE.length zc) SE
  | 12 => ∃ za zc, v = .agg #[.int .i64 NX, .string NM, .string KY, .bool true, .bool false, .int .i64 SZ, .int .i64 C, .int .i64 1, (.slice za SE.length zc), .int .i64 0, .int .i64 0, .int .i64 0] ∧ OwI w W0 (.slice za SE.length zc) SE
  | 13 => ∃ g, v = .pointer (some ⟨g, 0, none⟩) ∧ W0 ≤ g ∧ w.heap[g]? = some (.cells #[.int .i64 0, .string em, .string em, .bool false, .bool false, .int .i64 0, .int .i64 0, .int .i64 0, nl, .int .i64 0, .int .i64 0, .int .i64 0] 39 (0, 0))
  | _ => True
theorem noF_up (s : Nat) (S : St) (ba va ua qa ga : Option Addr) (bc vc uc qc gc : Nat) (na nb NX C SZ : Int) (NM KY : ByteArray) (SE : List Int) (W0 : Nat) (i : Nat) (v : Value) (w w' : World) (hb : Below w.heap.size w w') (h : noF s S ba va ua qa ga bc vc uc qc gc na nb NX C SZ NM KY SE W0 i v w) : noF s S ba va ua qa ga bc vc uc qc gc na nb NX C SZ NM KY SE W0 i v w' := by
  match i, h with
  | 0, h => exact h
  | 1, h => exact h
  | 2, h => exact h
  | 3, h => exact h
  | 4, h => exact h
  | 5, h => exact h
  | 6, h => exact h
  | 7, h => exact h
  | 8, h => exact h
  | 9, h => exact h
  | 10, h => exact h
  | 11, h => exact let ⟨a, c, e, h1⟩ := h; ⟨a, c, e, oi_up h1 hb⟩
  | 12, h => exact let ⟨a, c, e, h1⟩ := h; ⟨a, c, e, oi_up h1 hb⟩
  | 13, h => exact let ⟨g, e, h1, h2⟩ := h; ⟨g, e, h1, (hb.block g (Array.getElem?_eq_some_iff.1 h2).1).trans h2⟩
  | _ + 14, _ => trivial
theorem neS {a b : ByteArray} (h : ¬ a = b) : (a.toList == b.toList) = false := by
  cases h2 : (a.toList == b.toList)
  · rfl
  · exact absurd ((eqS_iff a b).1 h2) h
theorem gb12 (w9 : World) (g : Nat) (v0 v1 v2 v3 v4 v5 v6 v7 v8 v9 v10 v11 : Value) : w9.grownBy ((((((((((((w9.setCell ⟨g, 0, none⟩ v0).setCell ⟨g, 1, none⟩ v1).setCell ⟨g, 2, none⟩ v2).setCell ⟨g, 3, none⟩ v3).setCell ⟨g, 4, none⟩ v4).setCell ⟨g, 5, none⟩ v5).setCell ⟨g, 6, none⟩ v6).setCell ⟨g, 7, none⟩ v7).setCell ⟨g, 8, none⟩ v8).setCell ⟨g, 9, none⟩ v9).setCell ⟨g, 10, none⟩ v10).setCell ⟨g, 11, none⟩ v11) (some g) := gb_trans (gb_trans (gb_trans (gb_trans (gb_trans (gb_trans (gb_trans (gb_trans (gb_trans (gb_trans (gb_trans (gb_setCell _ _ _ _) (gb_setCell _ _ _ _)) (gb_setCell _ _ _ _)) (gb_setCell _ _ _ _)) (gb_setCell _ _ _ _)) (gb_setCell _ _ _ _)) (gb_setCell _ _ _ _)) (gb_setCell _ _ _ _)) (gb_setCell _ _ _ _)) (gb_setCell _ _ _ _)) (gb_setCell _ _ _ _)) (gb_setCell _ _ _ _)
theorem stN_next (l : List Rw) : ∀ k : Nat, (stN l k).next ≤ 1 + (k : Int)
  | 0 => by show (1 : Int) ≤ 1 + ((0 : Nat) : Int); decide
  | k + 1 => by
    have ih := stN_next l k
    rw [stN]
    by_cases h0 : appE (stN l k) (recR (stN l k) (rwAt l k)) = 0
    · rw [stp_yes h0]
      obtain ⟨_, h1, _, h2⟩ := app_ok h0
      rw [h2]
      have h3 := (chg_next h1).1
      rw [h3]
      push_cast
      split <;> omega
    · rw [stp_no h0]; push_cast; omega
theorem staL_next (l : List Rw) {most : Nat} (h : most ≤ 40) : (staL l most).next ≤ 43 := by
  have := stN_next l (rnd l most)
  have h2 : rnd l most ≤ 42 := by unfold rnd; omega
  unfold staL
  omega
def rVe (Y : Ve) : Rc := { rcN 4 with ver := Y }
theorem nullCnt {l : List Ve} {Y : Ve} (h : (l ++ [Y]).Pairwise NulPair) (hY : Y.nul = true) : ((l ++ [Y]).filter (fun x => x.nul && (decide (x.bu = Y.bu) && decide (x.ke = Y.ke)))).length = 1 := by
  rw [List.filter_append]
  have h1 : l.filter (fun x => x.nul && (decide (x.bu = Y.bu) && decide (x.ke = Y.ke))) = [] := by
    rw [List.filter_eq_nil_iff]
    intro x hx h2
    simp only [Bool.and_eq_true, decide_eq_true_eq] at h2
    rw [List.pairwise_append] at h
    exact h.2.2 x hx Y (List.mem_singleton.2 rfl) ⟨h2.1, hY, h2.2.1, h2.2.2⟩
  rw [h1, List.filter_cons, if_pos (by simp [hY])]
  rfl
theorem add_cases {S : St} (hc : stC S = true) {Y : Ve} (hid : Y.id = S.next) (hn : S.next ≤ 1000) :
    (appE S (rVe Y) = 8 ∨ appE S (rVe Y) = 4) ∨ (appE S (rVe Y) = 0 ∧ ∃ l, (appS S (rVe Y)).ves = l ++ [Y] ∧ stC (appS S (rVe Y)) = true) := by
  have hce : chgE S (rVe Y) = advE S Y := (chg_4 (r := rVe Y) rfl).1
  have hcs : chgS S (rVe Y) = advS S Y := (chg_4 (r := rVe Y) rfl).2
  have ht : takeE S Y.id = 0 := by unfold takeE; rw [if_pos ⟨hid, by omega⟩]
  have hae : advE S Y = if (advD S Y).ves.length = 40 then 8 else 0 := by unfold advE; rw [ht, if_pos rfl]
  by_cases h40 : (advD S Y).ves.length = 40
  · rw [if_pos h40] at hae
    exact .inl (.inl ((app_c hc (by rw [hce, hae]; decide)).1.trans (hce.trans hae)))
  · rw [if_neg h40] at hae
    cases hT : stC (chgS S (rVe Y))
    · exact .inl (.inr (app_4 hc (hce.trans hae) hT).1)
    · obtain ⟨a1, a2⟩ := app_0 hc (hce.trans hae) hT
      refine .inr ⟨a1, (advD S Y).ves, ?_, by rw [a2]; exact hT⟩
      rw [a2, hcs]
      rfl
theorem lastB_last {n : Nat} {p : Nat → Bool} (h : p n = true) : lastB (n + 1) p = (n : Int) := by
  unfold lastB
  rw [if_pos h]
theorem lat_last {T : St} {l : List Ve} {Y : Ve} (hc : stC T = true) (hl : T.ves = l ++ [Y]) : latB T Y.bu Y.ke = true ∧ latV T Y.bu Y.ke = Y := by
  have hg : T.ves.getD l.length ve0 = Y := by rw [hl]; simp [List.getD]
  have hp : latP T.ves Y.bu Y.ke l.length = true := by
    unfold latP
    rw [hg, (eqS_iff _ _).2 rfl, (eqS_iff _ _).2 rfl]
    rfl
  have hn : T.ves.length = l.length + 1 := by rw [hl]; simp
  have h1 : lastB T.ves.length (latP T.ves Y.bu Y.ke) = (l.length : Int) := by rw [hn]; exact lastB_last hp
  refine ⟨?_, ?_⟩
  · unfold latB
    rw [hc, h1]
    simp
  · unfold latV latK
    rw [if_pos hc, h1, if_neg (by omega), Int.toNat_natCast, hg]
def nuC (l : List Ve) (k : Nat) (nm ky : ByteArray) : Int := (((l.take k).filter (fun x => x.nul && (decide (x.bu = nm) && decide (x.ke = ky)))).length : Nat)
theorem nuC_next {l : List Ve} {k : Nat} (hk : k < l.length) (nm ky : ByteArray) : nuC l (k + 1) nm ky = nuC l k nm ky + if (l.getD k ve0).nul && (decide ((l.getD k ve0).bu = nm) && decide ((l.getD k ve0).ke = ky)) then 1 else 0 := by
  unfold nuC
  rw [take_next l ve0 hk, List.filter_append, List.length_append, List.filter_cons]
  split <;> simp
set_option maxHeartbeats 4000000 in
theorem nullOne_walk (lv : Value) (l : List Rw) (na nb ns : Int) (w : World) (hl : Raws w lv l) (ha : (Lit.int .i64 na).wf = true) (hb : (Lit.int .i64 nb).wf = true) (hs : (Lit.int .i64 ns).wf = true) :
    Calls Tryz.prog 5 #[lv, .int .i64 na, .int .i64 nb, .int .i64 ns] w fun e w' => e = .returned (.bool true) ∧ Below w.heap.size w w' := by
  obtain ⟨la, lc, rfl, hl1, hl2⟩ := hl.form
  unfold maxLen at hl2
  have HL := hide hl
  clear hl
  obtain ⟨ha0, ha1⟩ := wf_lo ha
  obtain ⟨hb0, hb1'⟩ := wf_lo hb
  obtain ⟨hs0, hs1⟩ := wf_lo hs
  clear ha hb hs
  obtain ⟨S, hSS⟩ : ∃ S, staL l 30 = S := ⟨_, rfl⟩
  obtain ⟨n, hnn⟩ : ∃ n, cntN l (rnd l 30) = n := ⟨_, rfl⟩
  have hn2 : 2 ≤ n := by rw [← hnn]; exact cntN_two l _ (by unfold rnd; omega)
  have hok : stC S = true := by rw [← hSS]; exact staL_ok l 30
  have hnx := staL_next l (most := 30) (by decide)
  rw [hSS] at hnx
  have hlo := pickI_lo ns (m := 100) (by decide)
  have hhi := pickI_hi ns (m := 100) (by decide)
  obtain ⟨SZ, hSZ⟩ : ∃ x, pickI ns 100 = x := ⟨_, rfl⟩
  rw [hSZ] at hlo hhi
  have HSZ := hide hSZ
  obtain ⟨NM, hNM⟩ : ∃ x, nmB na = x := ⟨_, rfl⟩
  obtain ⟨KY, hKY⟩ : ∃ x, kyB nb = x := ⟨_, rfl⟩
  have hnm := (nmB_le na).1
  have hky := kyB_le nb
  rw [hNM] at hnm
  rw [hKY] at hky
  have HNP : Hid (∀ W : World, Calls Tryz.prog 27 #[.int .i64 na] W fun e w' => e = .returned (.string NM) ∧ Below W.heap.size W w') := fun W => by
    have := name_any na W ha0 ha1
    rw [hNM] at this; exact this
  have HKP : Hid (∀ W : World, Calls Tryz.prog 28 #[.int .i64 nb] W fun e w' => e = .returned (.string KY) ∧ Below W.heap.size W w') := fun W => by
    have := key_any nb W hb0 hb1'
    rw [hKY] at this; exact this
  have hsl := secF_len S SZ
  have hsw := secF_wf S SZ
  obtain ⟨SE, hSE⟩ : ∃ x, secF S SZ = x := ⟨_, rfl⟩
  rw [hSE] at hsl hsw
  have HSE := hide hSE
  obtain ⟨NX, hNX⟩ : ∃ x, S.next = x := ⟨_, rfl⟩
  obtain ⟨C, hCC⟩ : ∃ x, S.clock = x := ⟨_, rfl⟩
  obtain ⟨Y, hY⟩ : ∃ Y : Ve, Y = ⟨NX, NM, KY, true, false, SZ, C, 1, SE, 0, 0, 0⟩ := ⟨_, rfl⟩
  have hac := add_cases hok (Y := Y) (by rw [hY]; exact hNX.symm) (by omega)
  have HAC := hide hac
  have hc0 := stE_t hok
  have HC := hide hc0
  have HY := hide hY
  have HNX := hide hNX
  have HCC := hide hCC
  have HWR : Hid (WfR (rVe Y) ∧ FitR (rVe Y)) := by
    rw [hY]
    exact ⟨{ rcN_wf 4 with vbu := hnm, vke := hky, vsec := hsw }, { rcN_fit 4 with ver := len_fit hsl }⟩
  clear hac hc0 hSZ hNM hKY hSE hNX hCC hsw hY
  go_enter Tryz.func5, Tryz.ntmps5
  go_wp2_with fail
  refine (kSt _ l 30 _ _ (unhide HL) rfl (by decide)).mono ?_
  rintro e w1 ⟨ba, bc, va, vc, ua, uc, qa, qc, ga, gc, oa, oc, rfl, hS, hb1⟩
  rw [hSS] at hS ⊢
  rw [hnn]
  have HSS := hide hSS
  have HNN := hide hnn
  clear hSS hnn
  go_upto_region 2 with fail
  generalize hWW : w1.alloc _ = W2
  have h2 : BoxS W2 w1.heap.size S (.slice ba S.bus.length bc) (.slice va S.ves.length vc) (.slice ua S.ups.length uc) (.slice qa S.que.length qc) (.slice ga S.gone.length gc) ∧ Below w1.heap.size w1 W2 := by
    rw [← hWW]
    exact ⟨BoxS.new _ _ _ _ _ _ _ _, bl1 _ _⟩
  clear hWW
  obtain ⟨hX, hb2⟩ := h2
  have hw2 := bl_trans hb1 hb2
  have HS := hide (hS.up hb2)
  have HX := hide hX
  clear hS hb1 hb2 hX
  go_wp2_with fail
  refine (picked_any ns 100 _ (by decide) (by decide) hs0 hs1).mono ?_
  rintro e w3 ⟨rfl, rfl⟩
  rw [unhide HSZ]
  go_upto_region 3 with fail
  refine wp_last 14 (noF w1.heap.size S ba va ua qa ga bc vc uc qc gc na nb NX C SZ NM KY SE W2.heap.size) (by kernel_rfl) (by kernel_rfl) (by kernel_rfl) rfl rfl (noF_up _ _ _ _ _ _ _ _ _ _ _ _ _ _ _ _ _ _ _ _ _) ?_ ?_
  · refine AllOps.cons ?_ (AllOps.cons ?_ (AllOps.cons ?_ (AllOps.cons ?_ (AllOps.cons ?_ (AllOps.cons ?_ (AllOps.cons ?_ (AllOps.cons ?_ (AllOps.cons ?_ (AllOps.cons ?_ (AllOps.cons ?_ (AllOps.cons ?_ (AllOps.cons ?_ (AllOps.cons ?_ (AllOps.cons ?_ (AllOps.nil)))))))))))))))
    · intro _ a w9 hA hbw hd
      have t9 : a.tmps.getD 9 undef = .pointer (some ⟨w1.heap.size, 0, none⟩) := hA 9 rfl
      refine ⟨by rfl, ?_⟩
      go_simp
      exact ⟨_, rfl, Below.refl _ _, rfl⟩
    · intro _ a w9 hA hbw hd
      have d0 : a.tmps[28]?.getD undef = .pointer (some ⟨w1.heap.size, 0, none⟩) := by rw [← Array.getD_eq_getD_getElem?]; exact hd 0 (by kernel_rfl) _ rfl
      have g0 := ((unhide HX).up hbw).c0
      rw [unhide HNX] at g0
      refine ⟨by rfl, ?_⟩
      go_simp
      exact ⟨_, rfl, Below.refl _ _, rfl⟩
    · intro _ a w9 hA hbw hd
      have t1 : a.tmps.getD 1 undef = .int .i64 na := hA 1 rfl
      refine ⟨by rfl, ?_⟩
      go_simp
      exact ⟨_, rfl, Below.refl _ _, rfl⟩
    · intro _ a w9 hA hbw hd
      have d2 : a.tmps[30]?.getD undef = .int .i64 na := by rw [← Array.getD_eq_getD_getElem?]; exact hd 2 (by kernel_rfl) _ rfl
      refine ⟨by rfl, ?_⟩
      go_simp
      go_at_call 27
      refine (unhide HNP _).mono ?_
      rintro e w' ⟨rfl, bq⟩
      exact ⟨_, rfl, bq, rfl⟩
    · intro _ a w9 hA hbw hd
      have t2 : a.tmps.getD 2 undef = .int .i64 nb := hA 2 rfl
      refine ⟨by rfl, ?_⟩
      go_simp
      exact ⟨_, rfl, Below.refl _ _, rfl⟩
    · intro _ a w9 hA hbw hd
      have d4 : a.tmps[32]?.getD undef = .int .i64 nb := by rw [← Array.getD_eq_getD_getElem?]; exact hd 4 (by kernel_rfl) _ rfl
      refine ⟨by rfl, ?_⟩
      go_simp
      go_at_call 28
      refine (unhide HKP _).mono ?_
      rintro e w' ⟨rfl, bq⟩
      exact ⟨_, rfl, bq, rfl⟩
    · intro _ a w9 hA hbw hd
      have t9 : a.tmps.getD 9 undef = .pointer (some ⟨w1.heap.size, 0, none⟩) := hA 9 rfl
      refine ⟨by rfl, ?_⟩
      go_simp
      exact ⟨_, rfl, Below.refl _ _, rfl⟩
    · intro _ a w9 hA hbw hd
      have d6 : a.tmps[34]?.getD undef = .pointer (some ⟨w1.heap.size, 1, none⟩) := by rw [← Array.getD_eq_getD_getElem?]; exact hd 6 (by kernel_rfl) _ rfl
      have g1 := ((unhide HX).up hbw).c1
      rw [unhide HCC] at g1
      refine ⟨by rfl, ?_⟩
      go_simp
      exact ⟨_, rfl, Below.refl _ _, rfl⟩
    · intro _ a w9 hA hbw hd
      have t11 : a.tmps.getD 11 undef = .int .i64 SZ := hA 11 rfl
      refine ⟨by rfl, ?_⟩
      go_simp
      exact ⟨_, rfl, Below.refl _ _, rfl⟩
    · intro _ a w9 hA hbw hd
      have t9 : a.tmps.getD 9 undef = .pointer (some ⟨w1.heap.size, 0, none⟩) := hA 9 rfl
      have g0 := ((unhide HX).up hbw).c0
      have g1 := ((unhide HX).up hbw).c1
      have g2 := ((unhide HX).up hbw).c2
      have g3 := ((unhide HX).up hbw).c3
      have g4 := ((unhide HX).up hbw).c4
      have g5 := ((unhide HX).up hbw).c5
      have g6 := ((unhide HX).up hbw).c6
      refine ⟨by rfl, ?_⟩
      go_simp
      exact ⟨_, rfl, Below.refl _ _, rfl⟩
    · intro _ a w9 hA hbw hd
      have t11 : a.tmps.getD 11 undef = .int .i64 SZ := hA 11 rfl
      refine ⟨by rfl, ?_⟩
      go_simp
      exact ⟨_, rfl, Below.refl _ _, rfl⟩
    · intro _ a w9 hA hbw hd
      have d9 : a.tmps[37]?.getD undef = .agg #[.int .i64 S.next, .int .i64 S.clock, (.slice ba S.bus.length bc), (.slice va S.ves.length vc), (.slice ua S.ups.length uc), (.slice qa S.que.length qc), (.slice ga S.gone.length gc)] := by rw [← Array.getD_eq_getD_getElem?]; exact hd 9 (by kernel_rfl) _ rfl
      have d10 : a.tmps[38]?.getD undef = .int .i64 SZ := by rw [← Array.getD_eq_getD_getElem?]; exact hd 10 (by kernel_rfl) _ rfl
      refine ⟨by rfl, ?_⟩
      go_simp
      go_at_call 29
      refine (sectorsO_any S _ _ _ _ _ SZ _ ((unhide HS).up hbw) (by omega) (by omega)).mono ?_
      rintro e w' ⟨oa, oc, rfl, hI, bq⟩
      rw [unhide HSE] at hI
      exact ⟨_, rfl, bq, oa, oc, by rw [unhide HSE], own_base hI hbw.size⟩
    · intro _ a w9 hA hbw hd
      have d1 : a.tmps[29]?.getD undef = .int .i64 NX := by rw [← Array.getD_eq_getD_getElem?]; exact hd 1 (by kernel_rfl) _ rfl
      have d3 : a.tmps[31]?.getD undef = .string NM := by rw [← Array.getD_eq_getD_getElem?]; exact hd 3 (by kernel_rfl) _ rfl
      have d5 : a.tmps[33]?.getD undef = .string KY := by rw [← Array.getD_eq_getD_getElem?]; exact hd 5 (by kernel_rfl) _ rfl
      have d7 : a.tmps[35]?.getD undef = .int .i64 C := by rw [← Array.getD_eq_getD_getElem?]; exact hd 7 (by kernel_rfl) _ rfl
      have d8 : a.tmps[36]?.getD undef = .int .i64 SZ := by rw [← Array.getD_eq_getD_getElem?]; exact hd 8 (by kernel_rfl) _ rfl
      obtain ⟨za, zc, d11, hI⟩ : ∃ za zc, a.tmps.getD 39 undef = .slice za SE.length zc ∧ OwI w9 W2.heap.size (.slice za SE.length zc) SE := hd 11 (by kernel_rfl) _ rfl
      rw [Array.getD_eq_getD_getElem?] at d11
      refine ⟨by rfl, ?_⟩
      go_simp
      exact ⟨_, rfl, Below.refl _ _, za, zc, rfl, hI⟩
    · intro _ a w9 hA hbw hd
      refine ⟨by rfl, ?_⟩
      go_simp
      exact ⟨_, rfl, bl1 _ _, w9.heap.size, rfl, hbw.size, heap_alloc_new _ _⟩
    · intro h
      exact absurd h (by decide)
  intro a w9 ha hbw hF
  obtain ⟨za, zc, f12, hI9⟩ : ∃ za zc, a.tmps.getD 40 undef = .agg #[.int .i64 NX, .string NM, .string KY, .bool true, .bool false, .int .i64 SZ, .int .i64 C, .int .i64 1, (.slice za SE.length zc), .int .i64 0, .int .i64 0, .int .i64 0] ∧ OwI w9 W2.heap.size (.slice za SE.length zc) SE := hF 12 _ (by decide) rfl
  obtain ⟨g, f13, hg0, hrow⟩ : ∃ g, a.tmps.getD 12 undef = .pointer (some ⟨g, 0, none⟩) ∧ W2.heap.size ≤ g ∧ w9.heap[g]? = some (.cells #[.int .i64 0, .string em, .string em, .bool false, .bool false, .int .i64 0, .int .i64 0, .int .i64 0, nl, .int .i64 0, .int .i64 0, .int .i64 0] 39 (0, 0)) := hF 13 _ (by decide) rfl
  have HX9 := hide ((unhide HX).up hbw)
  have HS9 := hide ((unhide HS).up hbw)
  have hw9 := bl_trans hw2 hbw
  have hXl := (unhide HX).lt
  refine ⟨by rfl, ?_⟩
  obtain ⟨v28, h28⟩ : ∃ v, a.tmps.getD 28 undef = v := ⟨_, rfl⟩
  obtain ⟨v29, h29⟩ : ∃ v, a.tmps.getD 29 undef = v := ⟨_, rfl⟩
  obtain ⟨v30, h30⟩ : ∃ v, a.tmps.getD 30 undef = v := ⟨_, rfl⟩
  obtain ⟨v31, h31⟩ : ∃ v, a.tmps.getD 31 undef = v := ⟨_, rfl⟩
  obtain ⟨v32, h32⟩ : ∃ v, a.tmps.getD 32 undef = v := ⟨_, rfl⟩
  obtain ⟨v33, h33⟩ : ∃ v, a.tmps.getD 33 undef = v := ⟨_, rfl⟩
  obtain ⟨v34, h34⟩ : ∃ v, a.tmps.getD 34 undef = v := ⟨_, rfl⟩
  obtain ⟨v35, h35⟩ : ∃ v, a.tmps.getD 35 undef = v := ⟨_, rfl⟩
  obtain ⟨v36, h36⟩ : ∃ v, a.tmps.getD 36 undef = v := ⟨_, rfl⟩
  obtain ⟨v37, h37⟩ : ∃ v, a.tmps.getD 37 undef = v := ⟨_, rfl⟩
  obtain ⟨v38, h38⟩ : ∃ v, a.tmps.getD 38 undef = v := ⟨_, rfl⟩
  obtain ⟨v39, h39⟩ : ∃ v, a.tmps.getD 39 undef = v := ⟨_, rfl⟩
  simp only [List.take_succ_cons, List.take_zero, List.filterMap_cons, List.filterMap_nil, List.foldl_cons, List.foldl_nil, f12, f13, h28, h29, h30, h31, h32, h33, h34, h35, h36, h37, h38, h39, List.setIfInBounds_toArray, List.set_cons_succ, List.set_cons_zero] at ha
  rw [ha]
  clear ha hF f12 f13 h28 h29 h30 h31 h32 h33 h34 h35 h36 h37 h38 h39
  have k0 := cell_of hrow 0 rfl
  have k1 := cell_of hrow 1 rfl
  have k2 := cell_of hrow 2 rfl
  have k3 := cell_of hrow 3 rfl
  have k4 := cell_of hrow 4 rfl
  have k5 := cell_of hrow 5 rfl
  have k6 := cell_of hrow 6 rfl
  have k7 := cell_of hrow 7 rfl
  have k8 := cell_of hrow 8 rfl
  have k9 := cell_of hrow 9 rfl
  have k10 := cell_of hrow 10 rfl
  have k11 := cell_of hrow 11 rfl
  have kf := fun j => fz_of hrow j
  have hgl : g < w9.heap.size := (Array.getElem?_eq_some_iff.1 hrow).1
  have hty := row_typ hrow
  go_simp
  replace hrow := row1q (c' := #[.int .i64 NX, .string em, .string em, .bool false, .bool false, .int .i64 0, .int .i64 0, .int .i64 0, nl, .int .i64 0, .int .i64 0, .int .i64 0]) hrow 0 (.int .i64 NX) rfl
  replace hrow := row1q (c' := #[.int .i64 NX, .string NM, .string em, .bool false, .bool false, .int .i64 0, .int .i64 0, .int .i64 0, nl, .int .i64 0, .int .i64 0, .int .i64 0]) hrow 1 (.string NM) rfl
  replace hrow := row1q (c' := #[.int .i64 NX, .string NM, .string KY, .bool false, .bool false, .int .i64 0, .int .i64 0, .int .i64 0, nl, .int .i64 0, .int .i64 0, .int .i64 0]) hrow 2 (.string KY) rfl
  replace hrow := row1q (c' := #[.int .i64 NX, .string NM, .string KY, .bool true, .bool false, .int .i64 0, .int .i64 0, .int .i64 0, nl, .int .i64 0, .int .i64 0, .int .i64 0]) hrow 3 (.bool true) rfl
  replace hrow := row1q (c' := #[.int .i64 NX, .string NM, .string KY, .bool true, .bool false, .int .i64 0, .int .i64 0, .int .i64 0, nl, .int .i64 0, .int .i64 0, .int .i64 0]) hrow 4 (.bool false) rfl
  replace hrow := row1q (c' := #[.int .i64 NX, .string NM, .string KY, .bool true, .bool false, .int .i64 SZ, .int .i64 0, .int .i64 0, nl, .int .i64 0, .int .i64 0, .int .i64 0]) hrow 5 (.int .i64 SZ) rfl
  replace hrow := row1q (c' := #[.int .i64 NX, .string NM, .string KY, .bool true, .bool false, .int .i64 SZ, .int .i64 C, .int .i64 0, nl, .int .i64 0, .int .i64 0, .int .i64 0]) hrow 6 (.int .i64 C) rfl
  replace hrow := row1q (c' := #[.int .i64 NX, .string NM, .string KY, .bool true, .bool false, .int .i64 SZ, .int .i64 C, .int .i64 1, nl, .int .i64 0, .int .i64 0, .int .i64 0]) hrow 7 (.int .i64 1) rfl
  replace hrow := row1q (c' := #[.int .i64 NX, .string NM, .string KY, .bool true, .bool false, .int .i64 SZ, .int .i64 C, .int .i64 1, (.slice za SE.length zc), .int .i64 0, .int .i64 0, .int .i64 0]) hrow 8 ((.slice za SE.length zc)) rfl
  replace hrow := row1q (c' := #[.int .i64 NX, .string NM, .string KY, .bool true, .bool false, .int .i64 SZ, .int .i64 C, .int .i64 1, (.slice za SE.length zc), .int .i64 0, .int .i64 0, .int .i64 0]) hrow 9 (.int .i64 0) rfl
  replace hrow := row1q (c' := #[.int .i64 NX, .string NM, .string KY, .bool true, .bool false, .int .i64 SZ, .int .i64 C, .int .i64 1, (.slice za SE.length zc), .int .i64 0, .int .i64 0, .int .i64 0]) hrow 10 (.int .i64 0) rfl
  replace hrow := row1q (c' := #[.int .i64 NX, .string NM, .string KY, .bool true, .bool false, .int .i64 SZ, .int .i64 C, .int .i64 1, (.slice za SE.length zc), .int .i64 0, .int .i64 0, .int .i64 0]) hrow 11 (.int .i64 0) rfl
  clear k0 k1 k2 k3 k4 k5 k6 k7 k8 k9 k10 k11 kf
  have hgs := gb12 w9 g (.int .i64 NX) (.string NM) (.string KY) (.bool true) (.bool false) (.int .i64 SZ) (.int .i64 C) (.int .i64 1) (.slice za SE.length zc) (.int .i64 0) (.int .i64 0) (.int .i64 0)
  have hsa := own_kept hI9 hgs hty (by decide)
  revert hrow hgs hsa
  generalize World.setCell _ ⟨g, 11, none⟩ _ = W10
  intro hrow hgs hsa
  have hb10 : Below W2.heap.size W2 W10 := bl_tr hbw (gb_lo hgs hbw.size (fun j e => by injection e with e; omega))
  have HX10 := hide ((unhide HX).up hb10)
  have HS10 := hide ((unhide HS).up hb10)
  have HOS : Hid (OwI W10 W2.heap.size (.slice za SE.length zc) SE) := hsa
  have HSI : Hid (Ints W10 (.slice za SE.length zc) SE) := OwI.ints (unhide HOS) (by rw [← unhide HSE]; exact secF_wf S SZ)
  have hw10 := bl_trans hw2 hb10
  have hl10 : g < W10.heap.size := (Array.getElem?_eq_some_iff.1 hrow).1
  have hl11 := (unhide HX10).lt
  have HRW := hide hrow
  clear HX9 HS9 hw9 hI9 hgs hsa hbw hty hgl
  have x0 := (unhide HX10).c0
  have x1 := (unhide HX10).c1
  have x2 := (unhide HX10).c2
  have x3 := (unhide HX10).c3
  have x4 := (unhide HX10).c4
  have x5 := (unhide HX10).c5
  have x6 := (unhide HX10).c6
  have r0 := cell_of hrow 0 rfl
  have r1 := cell_of hrow 1 rfl
  have r2 := cell_of hrow 2 rfl
  have r3 := cell_of hrow 3 rfl
  have r4 := cell_of hrow 4 rfl
  have r5 := cell_of hrow 5 rfl
  have r6 := cell_of hrow 6 rfl
  have r7 := cell_of hrow 7 rfl
  have r8 := cell_of hrow 8 rfl
  have r9 := cell_of hrow 9 rfl
  have r10 := cell_of hrow 10 rfl
  have r11 := cell_of hrow 11 rfl
  clear hrow
  go_wp2_with fail
  refine (kAp S _ _ _ _ _ (rVe ⟨NX, NM, KY, true, false, SZ, C, 1, SE, 0, 0, 0⟩) (.slice za SE.length zc) nl nl _ (unhide HS10) (by have := (unhide HWR).2; rw [unhide HY] at this; exact this) (by have := (unhide HWR).1; rw [unhide HY] at this; exact this) ⟨unhide HSI, Ints.nil9 _, Ints.nil9 _⟩).mono ?_
  rintro e w11 ⟨ba', bc', va', vc', ua', uc', qa', qc', ga', gc', rfl, hT, hb11⟩
  rw [← unhide HY] at hT ⊢
  obtain ⟨T, hTT⟩ : ∃ T, appS S (rVe Y) = T := ⟨_, rfl⟩
  obtain ⟨E, hE⟩ : ∃ E, appE S (rVe Y) = E := ⟨_, rfl⟩
  rw [hTT, hE] at HAC
  rw [hTT] at hT ⊢
  rw [hE]
  have HX11 := hide ((unhide HX10).up hb11)
  have HS11 := hide ((unhide HS10).up hb11)
  have hr11 := (hb11.block _ hl10).trans (unhide HRW)
  have hw11 := bl_trans hw10 hb11
  clear x0 x1 x2 x3 x4 x5 x6 r0 r1 r2 r3 r4 r5 r6 r7 r8 r9 r10 r11 hb11 hTT hE hl10 hl11
  go_upto_region 5 with fail
  generalize hWW : w11.alloc _ = W12
  have h12 : BoxS W12 w11.heap.size T (.slice ba' T.bus.length bc') (.slice va' T.ves.length vc') (.slice ua' T.ups.length uc') (.slice qa' T.que.length qc') (.slice ga' T.gone.length gc') ∧ Below w11.heap.size w11 W12 := by
    rw [← hWW]
    exact ⟨BoxS.new _ _ _ _ _ _ _ _, bl1 _ _⟩
  clear hWW
  obtain ⟨hY12, hb12⟩ := h12
  have HY12 := hide hY12
  have HX12 := hide ((unhide HX11).up hb12)
  have HS12 := hide ((unhide HS11).up hb12)
  have HT12 := hide (hT.up hb12)
  have hr12 := (hb12.block _ (Array.getElem?_eq_some_iff.1 hr11).1).trans hr11
  have HR12 := hide hr12
  have hw12 := bl_trans hw11 hb12
  clear hT hY12 hb12 hr11 hr12
  have x0 := (unhide HX12).c0
  have x1 := (unhide HX12).c1
  have x2 := (unhide HX12).c2
  have x3 := (unhide HX12).c3
  have x4 := (unhide HX12).c4
  have x5 := (unhide HX12).c5
  have x6 := (unhide HX12).c6
  go_wp2_with fail
  refine (check_any S _ _ _ _ _ _ (unhide HS12)).mono ?_
  rintro e w13 ⟨rfl, hb13⟩
  rw [unhide HC]
  have HY13 := hide ((unhide HY12).up hb13)
  have HT13 := hide ((unhide HT12).up hb13)
  have hr13 := (hb13.block _ (Array.getElem?_eq_some_iff.1 (unhide HR12)).1).trans (unhide HR12)
  have hw13 := bl_trans hw12 hb13
  have hl13 := (unhide HY13).lt
  clear x0 x1 x2 x3 x4 x5 x6 hb13
  rcases unhide HAC with (h8 | h4) | ⟨h0, lv, hlv, hTok⟩
  · subst h8
    go_wp2
    go_ret
    exact ⟨rfl, hw13⟩
  · subst h4
    go_wp2
    go_ret
    exact ⟨rfl, hw13⟩
  · subst h0
    have hTlen := tstC_len hTok
    have hCT := hide (stE_t hTok)
    have hTO := (stOk_iff T).1 hTok
    have HCNT : Hid (nuC T.ves T.ves.length NM KY = 1) := by
      show _ = _
      have hp := hTO.vnul
      unfold nuC
      rw [List.take_length, hlv] at *
      have := nullCnt hp (by rw [unhide HY])
      rw [unhide HY] at this ⊢
      rw [this]; rfl
    have hlat := lat_last hTok hlv
    have HLAT : Hid (latB T NM KY = true ∧ (latV T NM KY) = Y) := by
      have h1 := hlat
      rw [unhide HY] at h1
      rw [unhide HY]
      exact h1
    have HNX2 : Hid (∀ k, k < T.ves.length → nuC T.ves (k + 1) NM KY = nuC T.ves k NM KY + if (T.ves.getD k ve0).nul && (decide ((T.ves.getD k ve0).bu = NM) && decide ((T.ves.getD k ve0).ke = KY)) then 1 else 0) := fun k hk => nuC_next hk NM KY
    have HLE2 : Hid (∀ k, k ≤ T.ves.length → 0 ≤ nuC T.ves k NM KY ∧ nuC T.ves k NM KY ≤ (k : Int)) := fun k hk => by
      unfold nuC
      have h1 := List.length_filter_le (fun x : Ve => x.nul && (decide (x.bu = NM) && decide (x.ke = KY))) (T.ves.take k)
      have h2 := List.length_take_le k T.ves
      omega
    have HV13 := hide (unhide HT13).ves
    have HT14 := hide (unhide HT13)
    have y3 := (unhide HY13).c3
    have q1 := cell_of hr13 1 rfl
    have q2 := cell_of hr13 2 rfl
    have HR13 := hide hr13
    have hl14 : g < w13.heap.size := (Array.getElem?_eq_some_iff.1 hr13).1
    obtain ⟨l9, hl9⟩ : ∃ x, T.ves = x := ⟨_, rfl⟩
    rw [hl9] at HCNT HNX2 HLE2 HV13 y3 hTlen
    obtain ⟨N, hN⟩ : ∃ x, l9.length = x := ⟨_, rfl⟩
    rw [hN] at HCNT HNX2 HLE2 HV13 y3 hTlen
    have HN := hide hN
    clear hr13 hlat hTO hTok hlv hl9 hN
    go_wp2
    go_loopw [15, 17, 62] (fun s _ i wr => ∃ k : Nat, k ≤ N ∧ i = .int .i64 k ∧ s = .int .i64 (nuC l9 k NM KY) ∧ Below w13.heap.size w13 wr) (fun _ _ i _ => N - (intOf i).toNat)
    case atStart => exact ⟨0, Nat.zero_le _, rfl, rfl, Below.refl _ _⟩
    case round =>
      clear y3 q1 q2
      obtain ⟨k, hk, rfl, rfl, hbr⟩ := hrel
      have hr := (hbr.block _ hl14).trans (unhide HR13)
      have hlr : g < wr.heap.size := (Array.getElem?_eq_some_iff.1 hr).1
      by_cases hlt : k < N
      · have q1 := cell_of hr 1 rfl
        have q2 := cell_of hr 2 rfl
        obtain ⟨b8, o8, e8, s0⟩ := Lst.at (unhide HV13) (i := k) (by rw [unhide HN]; exact hlt)
        have HNX := hide (unhide HNX2 k hlt)
        have hle := unhide HLE2 k hk
        obtain ⟨X, hX⟩ : ∃ X, l9.getD k ve0 = X := ⟨_, rfl⟩
        rw [hX] at s0 HNX
        obtain ⟨A, hA⟩ : ∃ A, nuC l9 k NM KY = A := ⟨_, rfl⟩
        rw [hA] at HNX hle ⊢
        subst e8
        have r := RVe.up hbr s0
        obtain ⟨YY, hu, hI8⟩ := r.c8
        obtain ⟨ua8, uc8, rfl, _⟩ := hI8.form
        have c0 := r.c0
        have c1 := r.c1
        have c2 := r.c2
        have c4 := r.c4
        have c5 := r.c5
        have c6 := r.c6
        have c7 := r.c7
        have c9 := r.c9
        have c10 := r.c10
        have c11 := r.c11
        cases hnul : X.nul
        · have c3 : wr.cell? ⟨b8, o8 + k * 12 + 3, none⟩ = some (.bool false) := by rw [← hnul]; exact r.c3
          have HN3 : Hid (nuC l9 (k + 1) NM KY = A) := by show _ = _; rw [unhide HNX, hnul]; simp
          clear r s0 hI8 hX hA hnul hr
          go_wp2
          go_roundw
          case rel => exact ⟨k + 1, by omega, by go_num, by rw [unhide HN3], bl_trans hbr (bl1 _ _)⟩
          case measure => (simp [intOf] <;> omega)
        · have c3 : wr.cell? ⟨b8, o8 + k * 12 + 3, none⟩ = some (.bool true) := by rw [← hnul]; exact r.c3
          by_cases hbu : X.bu = NM
          · by_cases hke : X.ke = KY
            · have HN3 : Hid (nuC l9 (k + 1) NM KY = A + 1) := by show _ = _; rw [unhide HNX, hnul, hbu, hke]; simp
              rw [hbu] at c1
              rw [hke] at c2
              clear r s0 hI8 hX hA hnul hr hbu hke
              go_wp2
              go_roundw
              case rel => exact ⟨k + 1, by omega, by go_num, by rw [unhide HN3], bl_trans hbr (bl1 _ _)⟩
              case measure => (simp [intOf] <;> omega)
            · have HN3 : Hid (nuC l9 (k + 1) NM KY = A) := by show _ = _; rw [unhide HNX, hnul]; simp [hke]
              rw [hbu] at c1
              have hq : (X.ke.toList == KY.toList) = false := neS hke
              clear r s0 hI8 hX hA hnul hr hbu hke
              go_wp2
              go_roundw
              case rel => exact ⟨k + 1, by omega, by go_num, by rw [unhide HN3], bl_trans hbr (bl1 _ _)⟩
              case measure => (simp [intOf] <;> omega)
          · have HN3 : Hid (nuC l9 (k + 1) NM KY = A) := by show _ = _; rw [unhide HNX, hnul]; simp [hbu]
            have hq : (X.bu.toList == NM.toList) = false := neS hbu
            clear r s0 hI8 hX hA hnul hr hbu
            go_wp2
            go_roundw
            case rel => exact ⟨k + 1, by omega, by go_num, by rw [unhide HN3], bl_trans hbr (bl1 _ _)⟩
            case measure => (simp [intOf] <;> omega)
      · obtain rfl : k = N := by omega
        rw [unhide HCNT]
        have HYo := hide ((unhide HY13).up hbr)
        have HTo := hide ((unhide HT14).up hbr)
        have hwo := bl_trans hw13 hbr
        have HRo := hide hr
        clear hlt hbr hl13
        have x0 := (unhide HYo).c0
        have x1 := (unhide HYo).c1
        have x2 := (unhide HYo).c2
        have x3 := (unhide HYo).c3
        have x4 := (unhide HYo).c4
        have x5 := (unhide HYo).c5
        have x6 := (unhide HYo).c6
        have q1 := cell_of hr 1 rfl
        have q2 := cell_of hr 2 rfl
        have hlo := (unhide HYo).lt
        clear hr
        go_wp2_with fail
        refine (latest_any T _ _ _ _ _ NM KY _ (unhide HTo)).mono ?_
        rintro e w15 ⟨o, rfl, hO, hb15⟩
        rw [unhide hCT, (unhide HLAT).1, (unhide HLAT).2]
        obtain ⟨oa9, oc9, rfl, _, _⟩ := (hO.ints (by rw [(unhide HLAT).2, unhide HY, ← unhide HSE]; exact secF_wf S SZ)).form
        have hr15 := (hb15.block _ hlr).trans (unhide HRo)
        have q0 := cell_of hr15 0 rfl
        have hl15 : g < w15.heap.size := (Array.getElem?_eq_some_iff.1 hr15).1
        have hw15 := bl_trans hwo hb15
        have hyid : Y.id = NX := by rw [unhide HY]
        rw [(unhide HLAT).2]
        clear x0 x1 x2 x3 x4 x5 x6 q1 q2 hO hb15 hr15
        have hq : (Y.id == NX) = true := by simpa using hyid
        go_wp2
        go_ret
        exact ⟨by first | rfl | simp [hyid], bl_trans hw15 (bl1 _ _)⟩
end Go.Proofs.YtbfhkbmcleglaaaGreat
