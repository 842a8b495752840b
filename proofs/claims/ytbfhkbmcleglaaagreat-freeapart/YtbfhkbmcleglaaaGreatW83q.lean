/- icehousekeep.FreeApart: the walk. -/
import Derived.Test.YtbfhkbmcleglaaaGreatSopq
import Derived.Test.YtbfhkbmcleglaaaGreatG5
import Derived.Test.YtbfhkbmcleglaaaGreatKkpq
namespace Go.Proofs.YtbfhkbmcleglaaaGreat
open Go.RowKit Go.Maps
set_option maxRecDepth 100000
set_option linter.unusedVariables false
set_option linter.unusedSimpArgs false
def tkL (P : List Int) : List Value := (List.range 200).map (fun i : Nat => Value.bool (decide ((i : Int) ∈ P)))
theorem tk_at (P : List Int) {x : Nat} (hx : x < 200) : (tkL P).toArray[x]? = some (.bool (decide ((x : Int) ∈ P))) := by
  simp [tkL, hx]
theorem tk_set (P : List Int) {x : Nat} (hx : x < 200) : (tkL P).toArray.setIfInBounds x (.bool true) = (tkL (P ++ [(x : Int)])).toArray := by
  apply Array.ext_getElem?
  intro i
  by_cases hi : i < 200
  · rw [tk_at _ hi]
    by_cases e : x = i
    · subst e
      rw [Array.getElem?_setIfInBounds_self_of_lt (by simp [tkL]; omega)]
      simp
    · rw [Array.getElem?_setIfInBounds_ne e, tk_at _ hi]
      have : ((i : Int) ∈ P ++ [(x : Int)]) ↔ (i : Int) ∈ P := by simp; omega
      simp only [this]
  · rw [Array.getElem?_eq_none (by simp [tkL]; omega), Array.getElem?_eq_none (by simp [tkL]; omega)]
/-- What was marked. -/
structure Mk (W0 w : World) (g : Nat) (P : List Int) : Prop where
  bel : Below W0.heap.size W0 w
  row : w.heap[g]? = some (.cells (tkL P).toArray 4 (0, 0))
theorem Mk.lt {W0 w : World} {g : Nat} {P : List Int} (h : Mk W0 w g P) : g < w.heap.size := (Array.getElem?_eq_some_iff.1 h.row).1
theorem Mk.up {W0 w w' : World} {g : Nat} {P : List Int} (h : Mk W0 w g P) (hb : Below w.heap.size w w') : Mk W0 w' g P := ⟨bl_trans h.bel hb, (hb.block _ h.lt).trans h.row⟩
theorem Mk.set {W0 w : World} {g : Nat} {P : List Int} (h : Mk W0 w g P) (hg : W0.heap.size ≤ g) {x : Nat} (hx : x < 200) : Mk W0 (w.setCell ⟨g, x, none⟩ (.bool true)) g (P ++ [(x : Int)]) :=
  ⟨bl_set h.bel hg _, by rw [← tk_set P hx]; exact row1q h.row x _ rfl⟩
theorem freK_pre (S : St) : ∀ n k, ∃ r, freK S (k + n) = freK S k ++ r
  | 0, k => ⟨[], by simp⟩
  | n + 1, k => by
    obtain ⟨r, hr⟩ := freK_pre S n k
    by_cases h : (secs S).count ((k + n : Nat) : Int) = 0
    · exact ⟨r ++ [((k + n : Nat) : Int)], by rw [show k + (n + 1) = k + n + 1 by omega, freK_yes h, hr, List.append_assoc]⟩
    · exact ⟨r, by rw [show k + (n + 1) = k + n + 1 by omega, freK_no h, hr]⟩
theorem freK_at {S : St} {k n : Nat} (hk : k < n) (h : (secs S).count (k : Int) = 0) : (freK S k).length < (freK S n).length ∧ (freK S n).getD (freK S k).length 0 = (k : Int) := by
  obtain ⟨r, hr⟩ := freK_pre S (n - (k + 1)) (k + 1)
  rw [show k + 1 + (n - (k + 1)) = n by omega, freK_yes h] at hr
  rw [hr]
  constructor
  · simp only [List.length_append, List.length_singleton]; omega
  · rw [List.append_assoc]
    simp [List.getD]
theorem count_mem (l : List Int) (x : Int) : l.count x = 0 ↔ x ∉ l := List.count_eq_zero
theorem infoBl : (Tryz.prog.info? 4).map (fun i => (i.zero, i.size, i.bytes)) = some (some (.bool false), 1, 1) := by kernel_rfl
set_option maxHeartbeats 4000000 in
theorem freeApart_walk (lv : Value) (l : List Rw) (m : Int) (w : World) (hl : Raws w lv l) (hm : (Lit.int .i64 m).wf = true) :
    Calls Tryz.prog 7 #[lv, .int .i64 m] w fun e w' => e = .returned (.bool true) ∧ Below w.heap.size w w' := by
  obtain ⟨la, lc, rfl, hl1, hl2⟩ := hl.form
  unfold maxLen at hl2
  have HL := hide hl
  clear hl
  obtain ⟨m0, m1⟩ := wf_lo hm
  clear hm
  obtain ⟨S, hSS⟩ : ∃ S, staL l 40 = S := ⟨_, rfl⟩
  obtain ⟨n, hnn⟩ : ∃ n, cntN l (rnd l 40) = n := ⟨_, rfl⟩
  have hn2 : 2 ≤ n := by rw [← hnn]; exact cntN_two l _ (by unfold rnd; omega)
  have hok : stC S = true := by rw [← hSS]; exact staL_ok l 40
  have hO := (stOk_iff S).1 hok
  have HSR := hide hO.sok
  have hp0 := pickI_lo m (m := 201) (by decide)
  have hp1 := pickI_hi m (m := 201) (by decide)
  obtain ⟨V, hV⟩ : ∃ V : Nat, pickI m 201 = (V : Int) := ⟨(pickI m 201).toNat, by omega⟩
  have hV2 : V ≤ 200 := by omega
  have HV := hide hV
  obtain ⟨f1, f2⟩ := freE_0 (S := S) (m := V) hok (by unfold inB; exact decide_eq_true (by omega))
  obtain ⟨f3, f4⟩ := freE_2 (S := S) (m := 201) hok (by decide)
  have HF1 := hide f1
  have HF2 := hide f2
  have HF3 := hide f3
  have HFW := hide (freK_wf (S := S) (k := V) (by omega))
  have hlen := tstC_len hok
  have hul := (few_of hok).ups
  have HPL := hide (few_of hok).parts
  have HVS : Hid (∀ x ∈ S.ves, x.sec.length ≤ 1000) := fun x hx => by have := veC_sec (hO.vok x hx); omega
  have HUS : Hid (∀ y ∈ S.ups, ∀ p ∈ y.parts, p.sec.length ≤ 1000) := fun y hy p hp => by
    have hs := stC_secs hok
    have h3 : p.sec.length ≤ (secs S).length := by
      have s1 : p.sec.Sublist (y.parts.flatMap (fun q : Pa => q.sec)) := List.sublist_flatten_of_mem (List.mem_map_of_mem hp) |> fun h => by simpa [List.flatMap] using h
      have s2 : (y.parts.flatMap (fun q : Pa => q.sec)).Sublist (S.ups.flatMap (fun u : Up => u.parts.flatMap (fun q : Pa => q.sec))) := List.sublist_flatten_of_mem (List.mem_map_of_mem (f := fun u : Up => u.parts.flatMap (fun q : Pa => q.sec)) hy) |> fun h => by simpa [List.flatMap] using h
      exact ((s1.trans s2).trans (List.sublist_append_right _ _)).length_le
    omega
  have HIN1 : Hid (∀ k j, k < S.ves.length → j < (S.ves.getD k ve0).sec.length → 0 ≤ (S.ves.getD k ve0).sec.getD j 0 ∧ (S.ves.getD k ve0).sec.getD j 0 ≤ 199) := fun k j hk hj => by
    refine hO.sok _ (List.mem_append_left _ ?_)
    rw [List.mem_flatMap]
    exact ⟨_, mem_getD hk, mem_get (d := 0) hj⟩
  have HIN2 : Hid (∀ k i j, k < S.ups.length → i < (S.ups.getD k up0).parts.length → j < ((S.ups.getD k up0).parts.getD i pa0).sec.length → 0 ≤ ((S.ups.getD k up0).parts.getD i pa0).sec.getD j 0 ∧ ((S.ups.getD k up0).parts.getD i pa0).sec.getD j 0 ≤ 199) := fun k i j hk hi hj => by
    refine hO.sok _ (List.mem_append_right _ ?_)
    rw [List.mem_flatMap]
    refine ⟨_, mem_get (d := up0) hk, ?_⟩
    rw [List.mem_flatMap]
    exact ⟨_, mem_get (d := pa0) hi, mem_get (d := 0) hj⟩
  obtain ⟨i0, hi, hz0, hz1, hz2⟩ := info_parts infoBl
  have hmk : ∀ u : World, (Instr.makeSlice 62 (.int .i64 200) (.int .i64 200)).run Tryz.prog u = .ok (.slice (some ⟨u.heap.size, 0, none⟩) 200 200) (u.alloc (.cells (tkL []).toArray 4)) := fun u => by
    have h := run_make (P := Tryz.prog) u 62 4 i0 (.bool false) Tryz.underlying62 hi hz0 .i64 .i64 200 200 (by decide) (Int.le_refl _) (by rw [hz2]; decide) (by decide)
    rw [show (tkL []).toArray = madeCells (Value.bool false).cells 200 from by kernel_rfl]
    simpa [hz1] using h
  have HMK := hide hmk
  clear f1 f2 f3 f4 hO hV hp0 hp1 hi hz0 hz1 hz2 i0 hmk
  go_enter Tryz.func7, Tryz.ntmps7
  go_wp2_with fail
  refine (kSt _ l 40 _ _ (unhide HL) rfl (by decide)).mono ?_
  rintro e w1 ⟨ba, bc, va, vc, ua, uc, qa, qc, ga, gc, oa, oc, rfl, hS, hb1⟩
  rw [hSS] at hS ⊢
  rw [hnn]
  have HSS := hide hSS
  have HNN := hide hnn
  clear hSS hnn
  go_upto_region 2 with fail
  generalize hWW : w1.alloc _ = W2
  have h2 : BoxS W2 w1.heap.size S (.slice ba S.bus.length bc) (.slice va S.ves.length vc) (.slice ua S.ups.length uc) (.slice qa S.que.length qc) (.slice ga S.gone.length gc) ∧ Below w1.heap.size w1 W2 := by
    rw [← hWW]
    exact ⟨BoxS.new _ _ _ _ _ _ _ _, bl1 _ _⟩
  clear hWW
  obtain ⟨hX, hb2⟩ := h2
  have hw2 := bl_trans hb1 hb2
  have HS := hide (hS.up hb2)
  have HX := hide hX
  clear hS hb1 hb2 hX
  go_wp2_with fail
  refine (picked_any m 201 _ (by decide) (by decide) m0 m1).mono ?_
  rintro e w3 ⟨rfl, rfl⟩
  rw [unhide HV]
  have x0 := (unhide HX).c0
  have x1 := (unhide HX).c1
  have x2 := (unhide HX).c2
  have x3 := (unhide HX).c3
  have x4 := (unhide HX).c4
  have x5 := (unhide HX).c5
  have x6 := (unhide HX).c6
  go_wp2_with fail
  refine (free_any S _ _ _ _ _ V _ (unhide HS)).mono ?_
  rintro e w5 ⟨o, rfl, hO5, hb5⟩
  rw [unhide HF1]
  rw [unhide HF2] at hO5
  have HI5 := hide (hO5.ints (unhide HFW))
  obtain ⟨oa5, oc5, rfl, ho1, ho2⟩ := (unhide HI5).form
  unfold maxLen at ho2
  have HX5 := hide ((unhide HX).up hb5)
  have HS5 := hide ((unhide HS).up hb5)
  have hw5 := bl_trans hw2 hb5
  have hl5 := (unhide HX5).lt
  clear x0 x1 x2 x3 x4 x5 x6 hb5 hO5
  obtain ⟨LF, hLF⟩ : ∃ x, (freK S V).length = x := ⟨_, rfl⟩
  have HLF := hide hLF
  rw [hLF] at ho1 ⊢
  have hmk := unhide HMK w5
  have x3 := (unhide HX5).c3
  clear hLF
  go_upto_region 5 with fail
  generalize hWW : w5.alloc _ = W6
  have hM6 : Mk w5 W6 w5.heap.size [] := by
    rw [← hWW]
    exact ⟨bl1 _ _, heap_alloc_new _ _⟩
  clear hWW hmk
  obtain ⟨g, hg⟩ : ∃ x, w5.heap.size = x := ⟨_, rfl⟩
  have HG := hide hg
  rw [hg] at hM6 ⊢
  have hgge : w5.heap.size ≤ g := by omega
  have HX6 := hide ((unhide HX5).up hM6.bel)
  replace x3 := (unhide HX6).c3
  have hl6 := (unhide HX6).lt
  clear hg
  go_wp2
  go_loopw [12, 14, 42, 49] (fun _ _ i _ wr => ∃ k : Nat, k ≤ S.ves.length ∧ i = .int .i64 k ∧ Mk w5 wr g ((S.ves.take k).flatMap (fun x : Ve => x.sec))) (fun _ _ i _ _ => S.ves.length - (intOf i).toNat)
  case atStart => exact ⟨0, Nat.zero_le _, rfl, hM6⟩
  case round =>
    clear x3
    obtain ⟨k, hk, rfl, hM⟩ := hrel
    have HM := hide hM
    have hb := hM.bel
    have x3 := ((unhide HX5).up hb).c3
    have hlz := ((unhide HX5).up hb).lt
    have hlg := hM.lt
    clear hM
    by_cases hlt : k < S.ves.length
    · obtain ⟨b8, o8, e8, r0⟩ := Lst.at (unhide HS5).ves hlt
      have hin := unhide HIN1 k
      have hvl := unhide HVS _ (mem_getD hlt)
      have HFN := hide (flat_next (fun x : Ve => x.sec) S.ves ve0 hlt)
      obtain ⟨X, hX⟩ : ∃ X, S.ves.getD k ve0 = X := ⟨_, rfl⟩
      rw [hX] at r0 hin hvl HFN
      have HIN := hide (fun j hj => hin j hlt hj)
      subst e8
      obtain ⟨Y0, hu0, hI0⟩ := r0.c8
      obtain ⟨ua8, uc8, rfl, hy1, hy2⟩ := hI0.form
      have HI0 := hide hI0
      have r := RVe.up hb r0
      have c8 := scell_up hb hu0
      have c0 := r.c0
      have c1 := r.c1
      have c2 := r.c2
      have c3 := r.c3
      have c4 := r.c4
      have c5 := r.c5
      have c6 := r.c6
      have c7 := r.c7
      have c9 := r.c9
      have c10 := r.c10
      have c11 := r.c11
      clear r r0 hI0 hX hin hu0
      go_upto_region 8 with fail
      generalize hWW : wr.alloc _ = Wv
      have hv2 : Wv.cell? ⟨wr.heap.size, 8, none⟩ = some (.slice ua8 X.sec.length uc8) ∧ Below wr.heap.size wr Wv := by
        rw [← hWW]
        exact ⟨cell_of (heap_alloc_new _ _) 8 rfl, bl1 _ _⟩
      clear hWW c0 c1 c2 c3 c4 c5 c6 c7 c8 c9 c10 c11
      obtain ⟨v8, hbv⟩ := hv2
      have HMv := hide ((unhide HM).up hbv)
      have hlzv : wr.heap.size < Wv.heap.size := World.block_lt_of_cell? Wv _ v8
      clear x3 hbv
      go_wp2
      clear v8
      go_loopw [14, 49] (fun _ j wq => ∃ n : Nat, n ≤ X.sec.length ∧ j = .int .i64 n ∧ Mk w5 wq g ((S.ves.take k).flatMap (fun x : Ve => x.sec) ++ X.sec.take n)) (fun _ j _ => X.sec.length - (intOf j).toNat)
      case atStart => exact ⟨0, Nat.zero_le _, rfl, by simpa using unhide HMv⟩
      case round =>
        obtain ⟨n, hn, rfl, hM⟩ := hrel
        by_cases hjl : n < X.sec.length
        · obtain ⟨b3, o3, hya, r3⟩ := Lst.at ((unhide HI0).up hM.bel) hjl
          subst hya
          have c0 := r3.1
          rw [Nat.mul_one] at c0
          obtain ⟨z0, z1⟩ := unhide HIN n hjl
          have HTN := hide (take_next X.sec 0 hjl)
          obtain ⟨Z, hZ⟩ : ∃ Z, X.sec.getD n 0 = Z := ⟨_, rfl⟩
          rw [hZ] at c0 z0 z1 HTN
          obtain ⟨z, rfl⟩ := Int.eq_ofNat_of_zero_le z0
          have hz : z < 200 := by omega
          have HM2 := hide (hM.set hgge hz)
          have d0 := cell_of hM.row z (tk_at _ hz)
          have df := fun j => fz_of hM.row j
          have hlq := hM.lt
          clear r3 hZ hM
          go_wp2
          go_roundw
          case rel => exact ⟨n + 1, by omega, by go_num, by rw [unhide HTN, ← List.append_assoc]; exact unhide HM2⟩
          case measure => (simp [intOf] <;> omega)
        · have HE : Hid ((S.ves.take (k + 1)).flatMap (fun x : Ve => x.sec) = (S.ves.take k).flatMap (fun x : Ve => x.sec) ++ X.sec.take n) := by
            show _ = _
            have ht : X.sec.take n = X.sec := List.take_of_length_le (by omega)
            rw [unhide HFN, ht]
          have HM2 := hide hM
          clear hM
          go_wp2
          go_roundw
          case rel => exact ⟨k + 1, by omega, by go_num, by rw [unhide HE]; exact unhide HM2⟩
          case measure => (simp [intOf] <;> omega)
    · have HMe : Hid (Mk w5 wr g (S.ves.flatMap (fun x : Ve => x.sec))) := by
        have := unhide HM
        rwa [List.take_of_length_le (by omega)] at this
      have x4 := ((unhide HX5).up hb).c4
      clear x3 hb HM
      go_wp2
      go_loopw [16, 18, 20, 61, 68, 75] (fun _ _ _ i _ _ wr => ∃ k : Nat, k ≤ S.ups.length ∧ i = .int .i64 k ∧ Mk w5 wr g (S.ves.flatMap (fun x : Ve => x.sec) ++ (S.ups.take k).flatMap (fun x : Up => x.parts.flatMap (fun y : Pa => y.sec)))) (fun _ _ _ i _ _ _ => S.ups.length - (intOf i).toNat)
      case atStart => exact ⟨0, Nat.zero_le _, rfl, by simpa using unhide HMe⟩
      case round =>
        clear x4 hlt hk hlz hlg
        obtain ⟨k, hk, rfl, hM⟩ := hrel
        have HM := hide hM
        have hb := hM.bel
        have x4 := ((unhide HX5).up hb).c4
        have hlz := ((unhide HX5).up hb).lt
        have hlg := hM.lt
        clear hM
        by_cases hlt : k < S.ups.length
        · obtain ⟨b8, o8, e8, r0⟩ := Lst.at (unhide HS5).ups hlt
          have hin := unhide HIN2 k
          have hpl := unhide HPL _ (mem_get (d := up0) hlt)
          have hps := unhide HUS _ (mem_get (d := up0) hlt)
          have HFN := hide (flat_next (fun x : Up => x.parts.flatMap (fun y : Pa => y.sec)) S.ups up0 hlt)
          obtain ⟨U, hU⟩ : ∃ X, S.ups.getD k up0 = X := ⟨_, rfl⟩
          rw [hU] at r0 hin hpl hps HFN
          have HIN := hide (fun i j hi hj => hin i j hlt hi hj)
          have HPS := hide hps
          subst e8
          obtain ⟨Y0, hu0, hI0⟩ := r0.c3
          obtain ⟨ua8, uc8, rfl, hy1, hy2⟩ := hI0.form
          have HI0 := hide hI0
          have c0 := scell_up hb r0.c0
          have c1 := scell_up hb r0.c1
          have c2 := scell_up hb r0.c2
          have c3 := scell_up hb hu0
          clear r0 hI0 hU hin hu0 hps
          go_upto_region 17 with fail
          generalize hWW : wr.alloc _ = Wv
          have hv2 : Wv.cell? ⟨wr.heap.size, 3, none⟩ = some (.slice ua8 U.parts.length uc8) ∧ Below wr.heap.size wr Wv := by
            rw [← hWW]
            exact ⟨cell_of (heap_alloc_new _ _) 3 rfl, bl1 _ _⟩
          clear hWW c0 c1 c2 c3
          obtain ⟨v3, hbv⟩ := hv2
          have HMv := hide ((unhide HM).up hbv)
          have hlzv : wr.heap.size < Wv.heap.size := World.block_lt_of_cell? Wv _ v3
          clear x4 hbv
          go_wp2
          clear v3
          go_loopw [18, 20, 68, 75] (fun _ _ i _ wq => ∃ n : Nat, n ≤ U.parts.length ∧ i = .int .i64 n ∧ Mk w5 wq g (S.ves.flatMap (fun x : Ve => x.sec) ++ (S.ups.take k).flatMap (fun x : Up => x.parts.flatMap (fun y : Pa => y.sec)) ++ (U.parts.take n).flatMap (fun y : Pa => y.sec))) (fun _ _ i _ _ => U.parts.length - (intOf i).toNat)
          case atStart => exact ⟨0, Nat.zero_le _, rfl, by simpa using unhide HMv⟩
          case round =>
            obtain ⟨n, hn, rfl, hM⟩ := hrel
            obtain ⟨wo, rfl⟩ : ∃ wo : World, wo = wr := ⟨_, rfl⟩
            by_cases hjl : n < U.parts.length
            · obtain ⟨b3, o3, hya, r3⟩ := Lst.at (unhide HI0) hjl
              have hpsl := unhide HPS _ (mem_get (d := pa0) hjl)
              have HFP := hide (flat_next (fun y : Pa => y.sec) U.parts pa0 hjl)
              have hin2 := unhide HIN n
              obtain ⟨P, hP⟩ : ∃ P, U.parts.getD n pa0 = P := ⟨_, rfl⟩
              rw [hP] at r3 hpsl HFP hin2
              have HIN3 := hide (fun j hj => hin2 j hjl hj)
              subst hya
              obtain ⟨Q0, hq0, hQI⟩ := r3.c2
              obtain ⟨pa8, pc8, rfl, hq1, hq2⟩ := hQI.form
              have HQI := hide hQI
              have hbm := hM.bel
              have c0 := scell_up hbm r3.c0
              have c1 := scell_up hbm r3.c1
              have c2 := scell_up hbm hq0
              have HM := hide hM
              have hlm := hM.lt
              clear r3 hQI hP hin2 hq0 hM
              go_upto_region 20 with fail
              generalize hWW : World.alloc _ _ = Wp
              have hp2 : Wp.cell? ⟨wo.heap.size, 2, none⟩ = some (.slice pa8 P.sec.length pc8) ∧ Below wo.heap.size wo Wp := by
                rw [← hWW]
                exact ⟨cell_of (heap_alloc_new _ _) 2 rfl, bl1 _ _⟩
              clear hWW c0 c1 c2
              obtain ⟨v2, hbp⟩ := hp2
              have HMp := hide ((unhide HM).up hbp)
              have hlzp : wo.heap.size < Wp.heap.size := World.block_lt_of_cell? Wp _ v2
              clear hbp hbm
              go_wp2
              clear v2
              go_loopw [20, 75] (fun _ j wq => ∃ x : Nat, x ≤ P.sec.length ∧ j = .int .i64 x ∧ Mk w5 wq g (S.ves.flatMap (fun x : Ve => x.sec) ++ (S.ups.take k).flatMap (fun x : Up => x.parts.flatMap (fun y : Pa => y.sec)) ++ (U.parts.take n).flatMap (fun y : Pa => y.sec) ++ P.sec.take x)) (fun _ j _ => P.sec.length - (intOf j).toNat)
              case atStart => exact ⟨0, Nat.zero_le _, rfl, by simpa using unhide HMp⟩
              case round =>
                obtain ⟨x, hx, rfl, hM⟩ := hrel
                by_cases hll : x < P.sec.length
                · obtain ⟨b4, o4, hpa, r4⟩ := Lst.at ((unhide HQI).up hM.bel) hll
                  subst hpa
                  have c0 := r4.1
                  rw [Nat.mul_one] at c0
                  obtain ⟨z0, z1⟩ := unhide HIN3 x hll
                  have HTN := hide (take_next P.sec 0 hll)
                  obtain ⟨Z, hZ⟩ : ∃ Z, P.sec.getD x 0 = Z := ⟨_, rfl⟩
                  rw [hZ] at c0 z0 z1 HTN
                  obtain ⟨z, rfl⟩ := Int.eq_ofNat_of_zero_le z0
                  have hz : z < 200 := by omega
                  have HM2 := hide (hM.set hgge hz)
                  have d0 := cell_of hM.row z (tk_at _ hz)
                  have df := fun j => fz_of hM.row j
                  have hlq := hM.lt
                  clear r4 hZ hM
                  go_wp2
                  go_roundw
                  case rel => exact ⟨x + 1, by omega, by go_num, by rw [unhide HTN, ← List.append_assoc]; exact unhide HM2⟩
                  case measure => (simp [intOf] <;> omega)
                · have HE : Hid ((U.parts.take (n + 1)).flatMap (fun y : Pa => y.sec) = (U.parts.take n).flatMap (fun y : Pa => y.sec) ++ P.sec.take x) := by
                    show _ = _
                    have ht : P.sec.take x = P.sec := List.take_of_length_le (by omega)
                    rw [unhide HFP, ht]
                  have HM2 := hide hM
                  clear hM
                  go_wp2
                  go_roundw
                  case rel => exact ⟨n + 1, by omega, by go_num, by rw [unhide HE, ← List.append_assoc]; exact unhide HM2⟩
                  case measure => (simp [intOf] <;> omega)
            · have HE : Hid ((S.ups.take (k + 1)).flatMap (fun x : Up => x.parts.flatMap (fun y : Pa => y.sec)) = (S.ups.take k).flatMap (fun x : Up => x.parts.flatMap (fun y : Pa => y.sec)) ++ (U.parts.take n).flatMap (fun y : Pa => y.sec)) := by
                show _ = _
                have ht : U.parts.take n = U.parts := List.take_of_length_le (by omega)
                rw [unhide HFN, ht]
              have HM2 := hide hM
              clear hM
              go_wp2
              go_roundw
              case rel => exact ⟨k + 1, by omega, by go_num, by rw [unhide HE, ← List.append_assoc]; exact unhide HM2⟩
              case measure => (simp [intOf] <;> omega)
        · have HMe2 : Hid (Mk w5 wr g (secs S)) := by
            have := unhide HM
            rw [List.take_of_length_le (by omega)] at this
            exact this
          clear x4 HM
          have HI6 := hide ((unhide HI5).up hb)
          have HFA : Hid (∀ k, k < V → (secs S).count (k : Int) = 0 → (freK S k).length < LF ∧ (freK S V).getD (freK S k).length 0 = (k : Int) ∧ freK S (k + 1) = freK S k ++ [(k : Int)]) := fun k hk h => by
            obtain ⟨h1, h2⟩ := freK_at hk h
            rw [unhide HLF] at h1
            exact ⟨h1, h2, freK_yes h⟩
          have HFB : Hid (∀ k, (freK S k).length ≤ k) := fun k => freK_len S k
          go_wp2
          go_loopw [21, 22] (fun s i wq => ∃ k : Nat, k ≤ V ∧ i = .int .i64 k ∧ s = .int .i64 ((freK S k).length : Nat) ∧ wr = wq) (fun _ i _ => V - (intOf i).toNat)
          case atStart => exact ⟨0, Nat.zero_le _, rfl, rfl, rfl⟩
          case round =>
            obtain ⟨k, hk, rfl, rfl, rfl⟩ := hrel
            have hkl := unhide HFB k
            by_cases hlt : k < V
            · have d0 := cell_of (unhide HMe2).row k (tk_at _ (by omega))
              by_cases hc : (secs S).count (k : Int) = 0
              · obtain ⟨g1, g2, g3⟩ := unhide HFA k hlt hc
                have hdm : decide ((k : Int) ∈ secs S) = false := decide_eq_false ((count_mem _ _).1 hc)
                rw [hdm] at d0
                obtain ⟨bi, oi, ei, ri⟩ := Lst.at (unhide HI6) (i := (freK S k).length) (by rw [unhide HLF]; exact g1)
                rw [g2, Nat.mul_one] at ri
                have ri1 := ri.1
                have HG3 : Hid ((freK S (k + 1)).length = (freK S k).length + 1) := by show _ = _; rw [g3, List.length_append]; rfl
                obtain ⟨J, hJ⟩ : ∃ x, (freK S k).length = x := ⟨_, rfl⟩
                rw [hJ] at g1 ri1 hkl HG3 ⊢
                subst ei
                have hjn : ((J : Int) == (LF : Int)) = false := by simp; omega
                clear g2 g3 ri hdm hc hJ
                go_wp2
                go_roundw
                case rel => exact ⟨k + 1, by omega, by go_num, by rw [unhide HG3]; go_num, by first | rfl | trivial⟩
                case measure => (simp [intOf] <;> omega)
              · have hdm : decide ((k : Int) ∈ secs S) = true := decide_eq_true (by rw [count_mem] at hc; exact Classical.not_not.1 hc)
                rw [hdm] at d0
                have HG3 : Hid ((freK S (k + 1)).length = (freK S k).length) := by show _ = _; rw [freK_no hc]
                obtain ⟨J, hJ⟩ : ∃ x, (freK S k).length = x := ⟨_, rfl⟩
                rw [hJ] at hkl HG3 ⊢
                clear hdm hc hJ
                go_wp2
                go_roundw
                case rel => exact ⟨k + 1, by omega, by go_num, by rw [unhide HG3], by first | rfl | trivial⟩
                case measure => (simp [intOf] <;> omega)
            · obtain rfl : k = V := by omega
              rw [unhide HLF]
              have x0 := ((unhide HX5).up hb).c0
              have x1 := ((unhide HX5).up hb).c1
              have x2 := ((unhide HX5).up hb).c2
              have x3 := ((unhide HX5).up hb).c3
              have x4 := ((unhide HX5).up hb).c4
              have x5 := ((unhide HX5).up hb).c5
              have x6 := ((unhide HX5).up hb).c6
              have hw9 := bl_trans hw5 hb
              have HS9 := hide ((unhide HS5).up hb)
              clear hlt
              go_wp2_with fail
              refine (free_any S _ _ _ _ _ 201 _ (unhide HS9)).mono ?_
              rintro e w11 ⟨o, rfl, hO11, hb11⟩
              rw [unhide HF3]
              clear x0 x1 x2 x3 x4 x5 x6 hO11
              go_wp2
              go_ret
              exact ⟨rfl, bl_trans hw9 hb11⟩
end Go.Proofs.YtbfhkbmcleglaaaGreat
