/- icehousekeep.PlaceRoom: the walk. -/
import Derived.Test.YtbfhkbmcleglaaaGreatTipq
import Derived.Test.YtbfhkbmcleglaaaGreatGekq
import Derived.Test.YtbfhkbmcleglaaaGreatGrmq
import Derived.Test.YtbfhkbmcleglaaaGreatSopq
import Derived.BigQuiet
import Derived.Deep.QuietTactic
import Derived.Test.YtbfhkbmcleglaaaGreatKkpq
namespace Go.Proofs.YtbfhkbmcleglaaaGreat
open Go.RowKit Go.Maps
set_option maxRecDepth 100000
set_option linter.unusedVariables false
set_option linter.unusedSimpArgs false
/-- What each operation of the region that lengthens the sizes leaves. -/
def prF (mv : Value) (za : Option Addr) (nz cz k b8 o8 gB : Nat) (Z VM PZ : Int) (i : Nat) (v : Value) (w : World) : Prop :=
  match i with
  | 0 => v = mv
  | 1 => v = .slice za nz cz
  | 2 => v = .int .i64 (k : Int)
  | 3 => v = .pointer (some ⟨b8, o8 + k, none⟩)
  | 4 => v = .int .i64 Z
  | 5 => v = .pointer (some ⟨gB, 3, none⟩)
  | 6 => v = .int .i64 VM
  | 7 => v = .int .i64 (VM + 1)
  | 8 => v = .int .i64 PZ
  | 9 => ∃ g, v = .slice (some ⟨g, 0, none⟩) 1 1 ∧ w.cell? ⟨g, 0, none⟩ = some (.int .i64 PZ)
  | _ => True
theorem prF_up (mv : Value) (za : Option Addr) (nz cz k b8 o8 gB : Nat) (Z VM PZ : Int) (i : Nat) (v : Value) (w w' : World) (hb : Below w.heap.size w w') (h : prF mv za nz cz k b8 o8 gB Z VM PZ i v w) : prF mv za nz cz k b8 o8 gB Z VM PZ i v w' := by
  match i, h with
  | 0, h => exact h
  | 1, h => exact h
  | 2, h => exact h
  | 3, h => exact h
  | 4, h => exact h
  | 5, h => exact h
  | 6, h => exact h
  | 7, h => exact h
  | 8, h => exact h
  | 9, h => exact let ⟨g, e, c⟩ := h; ⟨g, e, scell_up hb c⟩
  | _ + 10, _ => trivial
/-- The sizes of raw numbers. -/
def mLs (zs : List Int) (K : Int) (k : Nat) : List Int := (zs.take k).map (fun z => pickI z K)
theorem mLs_next {zs : List Int} {K : Int} {k : Nat} (hk : k < zs.length) : mLs zs K (k + 1) = mLs zs K k ++ [pickI (zs.getD k 0) K] := by
  unfold mLs
  rw [take_next zs 0 hk, List.map_append]
  rfl
theorem mLs_len {zs : List Int} {K : Int} {k : Nat} (hk : k ≤ zs.length) : (mLs zs K k).length = k := by
  unfold mLs
  rw [List.length_map, List.length_take]
  omega
theorem mLs_bd (zs : List Int) {K : Int} (hK : 0 < K) (k : Nat) : ∀ x ∈ mLs zs K k, 0 ≤ x ∧ x < K := fun x hx => by
  unfold mLs at hx
  obtain ⟨z, _, rfl⟩ := List.mem_map.1 hx
  exact ⟨pickI_lo z hK, pickI_hi z hK⟩
theorem plaB_t {M : List Int} {k NV : Nat} {VM SZ : Int} (hm : M.length = k) (hb : ∀ x ∈ M, 0 ≤ x ∧ x < VM + 1) (hk : k ≤ NV) (hn : NV ≤ 8) (hv : VM < 2700) (h0 : 0 ≤ SZ) (h1 : SZ < 606) : plaB M NV SZ = true := by
  unfold plaB sizC
  simp only [Bool.and_eq_true, decide_eq_true_eq]
  refine ⟨⟨by omega, by omega, ?_⟩, by unfold inB; exact decide_eq_true (by omega)⟩
  rw [allB_iff]
  intro j hj
  have := hb _ (mem_get (d := 0) hj)
  unfold inB
  exact decide_eq_true (by omega)
theorem gsB {S : St} {n : Int} (h : isGone S n = false) : ∀ x ∈ S.gone, x ≠ n := fun x hx e => by
  subst e
  unfold isGone at h
  rw [decide_eq_false_iff_not] at h
  rcases firstI_cases S.gone.length (goP S.gone x) with ⟨_, h2⟩ | ⟨k, _, h2, _⟩
  · obtain ⟨k, hk, e2⟩ := mem_at (d := 0) hx
    have := h2 k hk
    unfold goP at this
    rw [e2] at this
    simp at this
  · omega
set_option maxHeartbeats 4000000 in
theorem placeRoom_walk (lv : Value) (l : List Rw) (a : Int) (zv : Value) (zs : List Int) (ns wo : Int) (w : World) (hl : Raws w lv l) (ha : (Lit.int .i64 a).wf = true) (hz : Ints w zv zs) (hns : (Lit.int .i64 ns).wf = true) (hwo : (Lit.int .i64 wo).wf = true) :
    Calls Tryz.prog 21 #[lv, .int .i64 a, zv, .int .i64 ns, .int .i64 wo] w fun e w' => e = .returned (.bool true) ∧ Below w.heap.size w w' := by
  obtain ⟨la, lc, rfl, hl1, hl2⟩ := hl.form
  unfold maxLen at hl2
  have HL := hide hl
  clear hl
  obtain ⟨a0, a1⟩ := wf_lo ha
  obtain ⟨s0, s1⟩ := wf_lo hns
  obtain ⟨k0, k1⟩ := wf_lo hwo
  obtain ⟨za, cz, rfl, hz1, hz2⟩ := hz.form
  unfold maxLen at hz2
  have HZ := hide hz
  clear ha hns hwo hz
  obtain ⟨S, hSS⟩ : ∃ S, staL l 25 = S := ⟨_, rfl⟩
  obtain ⟨n, hnn⟩ : ∃ n, cntN l (rnd l 25) = n := ⟨_, rfl⟩
  have hn2 : 2 ≤ n := by rw [← hnn]; exact cntN_two l _ (by unfold rnd; omega)
  have hok : stC S = true := by rw [← hSS]; exact staL_ok l 25
  have hc0 := stE_t hok
  have HC := hide hc0
  have hgl := (few_of hok).gone
  obtain ⟨P1, hP1⟩ : ∃ x, pickI a 30 = x := ⟨_, rfl⟩
  obtain ⟨P2, hP2⟩ : ∃ x, pickI a 40 = x := ⟨_, rfl⟩
  obtain ⟨P3, hP3⟩ : ∃ x, pickI a 60 = x := ⟨_, rfl⟩
  obtain ⟨VM, hVM⟩ : ∃ x, 700 + pickI a 2000 = x := ⟨_, rfl⟩
  obtain ⟨NV, hNV⟩ : ∃ x : Nat, 2 + pickI a 7 = (x : Int) := ⟨(2 + pickI a 7).toNat, by have := pickI_lo a (m := 7) (by decide); omega⟩
  have hvm0 : 700 ≤ VM := by have := pickI_lo a (m := 2000) (by decide); omega
  have hvm1 : VM < 2700 := by have := pickI_hi a (m := 2000) (by decide); omega
  have hnv0 : 2 ≤ NV := by have := pickI_lo a (m := 7) (by decide); omega
  have hnv1 : NV ≤ 8 := by have := pickI_hi a (m := 7) (by decide); omega
  obtain ⟨SZ, hSZ⟩ : ∃ x, pickI ns 606 = x := ⟨_, rfl⟩
  have hsz0 := pickI_lo ns (m := 606) (by decide)
  have hsz1 := pickI_hi ns (m := 606) (by decide)
  rw [hSZ] at hsz0 hsz1
  obtain ⟨KO, hKO⟩ : ∃ x, pickI wo 9 - 1 = x := ⟨_, rfl⟩
  have hko0 : -1 ≤ KO := by have := pickI_lo wo (m := 9) (by decide); omega
  have hko1 : KO ≤ 7 := by have := pickI_hi wo (m := 9) (by decide); omega
  have HGE : Hid (∀ W : World, Calls Tryz.prog 44 #[.int .i64 a, .int .i64 a, .int .i64 a] W fun e w' => e = .returned (.agg #[.int .i64 (8 + P1), .int .i64 (30 + P2), .int .i64 (10 + P3), .int .i64 VM, .int .i64 (NV : Int)]) ∧ Below W.heap.size W w') := fun W => by
    have := geometry_any a a a W ⟨a0, a1⟩ ⟨a0, a1⟩ ⟨a0, a1⟩
    rw [hP1, hP2, hP3, hVM, hNV] at this
    exact this
  have HSZ := hide hSZ
  have HKP : Hid (pickI wo 9 = KO + 1) := by show _ = _; omega
  clear hc0 hP1 hP2 hP3 hVM hNV hSZ hKO
  obtain ⟨i0, hi, hq0, hq1, hq2⟩ := info_parts infoI
  go_enter Tryz.func21, Tryz.ntmps21
  go_wp2_with fail
  refine (kSt _ l 25 _ _ (unhide HL) rfl (by decide)).mono ?_
  rintro e w1 ⟨ba, bc, va, vc, ua, uc, qa, qc, ga, gc, oa, oc, rfl, hS, hb1⟩
  rw [hSS] at hS ⊢
  rw [hnn]
  have HSS := hide hSS
  have HNN := hide hnn
  clear hSS hnn
  go_upto_region 2 with fail
  generalize hWW : w1.alloc _ = W2
  have h2 : BoxS W2 w1.heap.size S (.slice ba S.bus.length bc) (.slice va S.ves.length vc) (.slice ua S.ups.length uc) (.slice qa S.que.length qc) (.slice ga S.gone.length gc) ∧ Below w1.heap.size w1 W2 := by
    rw [← hWW]
    exact ⟨BoxS.new _ _ _ _ _ _ _ _, bl1 _ _⟩
  clear hWW
  obtain ⟨hX, hb2⟩ := h2
  have hw2 := bl_trans hb1 hb2
  have HS := hide (hS.up hb2)
  have HX := hide hX
  clear hS hb1 hb2 hX
  go_wp2_with fail
  refine (unhide HGE _).mono ?_
  rintro e w3 ⟨rfl, hb3⟩
  have HX3 := hide ((unhide HX).up hb3)
  have HS3 := hide ((unhide HS).up hb3)
  have hw3 := bl_trans hw2 hb3
  clear hb3
  go_upto_region 3 with fail
  generalize hWW : w3.alloc _ = W4
  have h4 : W4.heap[w3.heap.size]? = some (.cells #[.int .i64 (8 + P1), .int .i64 (30 + P2), .int .i64 (10 + P3), .int .i64 VM, .int .i64 (NV : Int)] 87 (0, 0)) ∧ Below w3.heap.size w3 W4 := by
    rw [← hWW]
    exact ⟨heap_alloc_new _ _, bl1 _ _⟩
  clear hWW
  obtain ⟨hg4, hb4⟩ := h4
  have HX4 := hide ((unhide HX3).up hb4)
  have HS4 := hide ((unhide HS3).up hb4)
  have hw4 := bl_trans hw3 hb4
  have HG4 := hide hg4
  have HZ4 := hide ((unhide HZ).up hw4)
  obtain ⟨gB, hgB⟩ : ∃ x, w3.heap.size = x := ⟨_, rfl⟩
  rw [hgB] at HG4 hg4 ⊢
  have hgl4 : gB < W4.heap.size := (Array.getElem?_eq_some_iff.1 hg4).1
  have g4 := cell_of hg4 4 rfl
  obtain ⟨nz, hnz⟩ : ∃ x, zs.length = x := ⟨_, rfl⟩
  rw [hnz] at hz1 HZ4 ⊢
  have HNZ := hide hnz
  clear hg4 hb4 hgB hnz
  go_wp2
  go_loopw [14, 15, 35] (fun o i _ wr => ∃ k : Nat, k ≤ nz ∧ k ≤ NV ∧ i = .int .i64 k ∧ OwI wr W4.heap.size o (mLs zs (VM + 1) k) ∧ Below W4.heap.size W4 wr) (fun _ i _ _ => NV - (intOf i).toNat)
  case atStart => exact ⟨0, Nat.zero_le _, Nat.zero_le _, rfl, OwI.nil _ _, Below.refl _ _⟩
  case round =>
    clear g4
    obtain ⟨k, hk1, hk2, rfl, hO, hbr⟩ := hrel
    have hg := (hbr.block _ hgl4).trans (unhide HG4)
    have g3 := cell_of hg 3 rfl
    have g4 := cell_of hg 4 rfl
    have hglr : gB < wr.heap.size := (Array.getElem?_eq_some_iff.1 hg).1
    have hml : (mLs zs (VM + 1) k).length = k := mLs_len (by rw [unhide HNZ]; exact hk1)
    have HO := hide hO
    have hOf := hO.ints (fun x hx => by have := mLs_bd zs (show (0 : Int) < VM + 1 by omega) k x hx; exact i64_wf (by omega) (by omega))
    obtain ⟨oa6, oc6, rfl, ho1, ho2⟩ := hOf.form
    have HOI := hide hOf
    rw [hml] at ho1 ⊢
    unfold maxLen at ho2
    have HML := hide hml
    clear hml hO hOf hg
    by_cases hcond : k < nz ∧ k < NV
    · obtain ⟨hc1, hc2⟩ := hcond
      obtain ⟨b8, o8, e8, r0⟩ := Lst.at ((unhide HZ4).up hbr) (i := k) (by rw [unhide HNZ]; exact hc1)
      rw [Nat.mul_one] at r0
      have hzl := wf_lo r0.2
      have HNX := hide (mLs_next (zs := zs) (K := VM + 1) (k := k) (by rw [unhide HNZ]; exact hc1))
      obtain ⟨Z, hZ⟩ : ∃ Z, zs.getD k 0 = Z := ⟨_, rfl⟩
      rw [hZ] at r0 hzl HNX
      have hpz0 := pickI_lo Z (m := VM + 1) (by omega)
      have hpz1 := pickI_hi Z (m := VM + 1) (by omega)
      have HPZ := hide (fun W : World => picked_any Z (VM + 1) W (by omega) (by omega) hzl.1 hzl.2)
      obtain ⟨PZ, hPZ⟩ : ∃ x, pickI Z (VM + 1) = x := ⟨_, rfl⟩
      rw [hPZ] at hpz0 hpz1 HPZ HNX
      have HR0 := hide r0.1
      have hlb : b8 < wr.heap.size := World.block_lt_of_cell? wr _ r0.1
      have HGR := hide ((hbr.block _ hgl4).trans (unhide HG4))
      have HW : Hid (IntKind.i64.wrap (VM + 1) = VM + 1) := Go.IntWalk.i64_in _ (by omega)
      obtain rfl := e8
      clear r0 hZ hPZ g3 hzl
      go_upto_region 7 with fail
      refine wp_last2 10 (prF (.slice oa6 k oc6) (some ⟨b8, o8, none⟩) nz cz k b8 o8 gB Z VM PZ) (by kernel_rfl) (by kernel_rfl) (by kernel_rfl) rfl rfl rfl (by kernel_rfl) (by kernel_rfl) (prF_up _ _ _ _ _ _ _ _ _ _ _) ?_ ?_
      · refine AllOps.cons ?_ (AllOps.cons ?_ (AllOps.cons ?_ (AllOps.cons ?_ (AllOps.cons ?_ (AllOps.cons ?_ (AllOps.cons ?_ (AllOps.cons ?_ (AllOps.cons ?_ (AllOps.cons ?_ (AllOps.cons ?_ (AllOps.cons ?_ (AllOps.nil))))))))))))
        · intro _ a w9 hA hbw hd
          have t14 : a.tmps.getD 14 undef = .slice oa6 k oc6 := hA 14 rfl
          refine ⟨by rfl, ?_⟩
          go_simp
          exact ⟨_, rfl, Below.refl _ _, rfl⟩
        · intro _ a w9 hA hbw hd
          have t2 : a.tmps.getD 2 undef = .slice (some ⟨b8, o8, none⟩) nz cz := hA 2 rfl
          refine ⟨by rfl, ?_⟩
          go_simp
          exact ⟨_, rfl, Below.refl _ _, rfl⟩
        · intro _ a w9 hA hbw hd
          have t15 : a.tmps.getD 15 undef = .int .i64 (k : Int) := hA 15 rfl
          refine ⟨by rfl, ?_⟩
          go_simp
          exact ⟨_, rfl, Below.refl _ _, rfl⟩
        · intro _ a w9 hA hbw hd
          have d1 : a.tmps[44]?.getD undef = .slice (some ⟨b8, o8, none⟩) nz cz := by rw [← Array.getD_eq_getD_getElem?]; exact hd 1 (by kernel_rfl) _ rfl
          have d2 : a.tmps[45]?.getD undef = .int .i64 (k : Int) := by rw [← Array.getD_eq_getD_getElem?]; exact hd 2 (by kernel_rfl) _ rfl
          have i0 : (0 : Int) ≤ (k : Int) := Int.natCast_nonneg _
          have i1 : (k : Int) < (nz : Int) := by omega
          refine ⟨by rfl, ?_⟩
          go_simp
          refine ⟨_, rfl, Below.refl _ _, ?_⟩
          first | rfl | (show _ = _; simp [Addr.add])
        · intro _ a w9 hA hbw hd
          have d3 : a.tmps[46]?.getD undef = .pointer (some ⟨b8, o8 + k, none⟩) := by rw [← Array.getD_eq_getD_getElem?]; exact hd 3 (by kernel_rfl) _ rfl
          have c0 := scell_up hbw (unhide HR0)
          refine ⟨by rfl, ?_⟩
          go_simp
          exact ⟨_, rfl, Below.refl _ _, rfl⟩
        · intro _ a w9 hA hbw hd
          have t13 : a.tmps.getD 13 undef = .pointer (some ⟨gB, 0, none⟩) := hA 13 rfl
          refine ⟨by rfl, ?_⟩
          go_simp
          exact ⟨_, rfl, Below.refl _ _, rfl⟩
        · intro _ a w9 hA hbw hd
          have d5 : a.tmps[48]?.getD undef = .pointer (some ⟨gB, 3, none⟩) := by rw [← Array.getD_eq_getD_getElem?]; exact hd 5 (by kernel_rfl) _ rfl
          have c3 := cell_of ((hbw.block _ hglr).trans (unhide HGR)) 3 rfl
          refine ⟨by rfl, ?_⟩
          go_simp
          exact ⟨_, rfl, Below.refl _ _, rfl⟩
        · intro _ a w9 hA hbw hd
          have d6 : a.tmps[49]?.getD undef = .int .i64 VM := by rw [← Array.getD_eq_getD_getElem?]; exact hd 6 (by kernel_rfl) _ rfl
          refine ⟨by rfl, ?_⟩
          go_simp
          exact ⟨_, rfl, Below.refl _ _, congrArg (Value.int .i64) (unhide HW)⟩
        · intro _ a w9 hA hbw hd
          have d4 : a.tmps[47]?.getD undef = .int .i64 Z := by rw [← Array.getD_eq_getD_getElem?]; exact hd 4 (by kernel_rfl) _ rfl
          have d7 : a.tmps[50]?.getD undef = .int .i64 (VM + 1) := by rw [← Array.getD_eq_getD_getElem?]; exact hd 7 (by kernel_rfl) _ rfl
          refine ⟨by rfl, ?_⟩
          go_simp
          go_at_call 26
          refine (unhide HPZ _).mono ?_
          rintro e w' ⟨rfl, rfl⟩
          exact ⟨_, rfl, Below.refl _ _, rfl⟩
        · intro _ a w9 hA hbw hd
          have d8 : a.tmps[51]?.getD undef = .int .i64 PZ := by rw [← Array.getD_eq_getD_getElem?]; exact hd 8 (by kernel_rfl) _ rfl
          refine ⟨by rfl, ?_⟩
          go_simp
          refine ⟨_, rfl, bl1 _ _, w9.heap.size, rfl, ?_⟩
          rw [World.cell?_alloc_at _ _ _ _ rfl]
          rfl
        · intro h
          exact absurd h (by decide)
        · intro h
          exact absurd h (by decide)
      · intro a w9 ha hbw hF
        have f0 : a.tmps.getD 43 undef = .slice oa6 k oc6 := hF 0 _ (by decide) rfl
        obtain ⟨g9, f9, hc9⟩ : ∃ g, a.tmps.getD 52 undef = .slice (some ⟨g, 0, none⟩) 1 1 ∧ w9.cell? ⟨g, 0, none⟩ = some (.int .i64 PZ) := hF 9 _ (by decide) rfl
        have HO9 := hide (oi_up (unhide HO) hbw)
        refine ⟨by rfl, ?_⟩
        obtain ⟨v44, h44⟩ : ∃ v, a.tmps.getD 44 undef = v := ⟨_, rfl⟩
        obtain ⟨v45, h45⟩ : ∃ v, a.tmps.getD 45 undef = v := ⟨_, rfl⟩
        obtain ⟨v46, h46⟩ : ∃ v, a.tmps.getD 46 undef = v := ⟨_, rfl⟩
        obtain ⟨v47, h47⟩ : ∃ v, a.tmps.getD 47 undef = v := ⟨_, rfl⟩
        obtain ⟨v48, h48⟩ : ∃ v, a.tmps.getD 48 undef = v := ⟨_, rfl⟩
        obtain ⟨v49, h49⟩ : ∃ v, a.tmps.getD 49 undef = v := ⟨_, rfl⟩
        obtain ⟨v50, h50⟩ : ∃ v, a.tmps.getD 50 undef = v := ⟨_, rfl⟩
        obtain ⟨v51, h51⟩ : ∃ v, a.tmps.getD 51 undef = v := ⟨_, rfl⟩
        simp only [List.take_succ_cons, List.take_zero, List.filterMap_cons, List.filterMap_nil, List.foldl_cons, List.foldl_nil, f0, f9, h44, h45, h46, h47, h48, h49, h50, h51, List.setIfInBounds_toArray, List.set_cons_succ, List.set_cons_zero] at ha
        rw [ha]
        clear ha hF f0 f9 h44 h45 h46 h47 h48 h49 h50 h51
        have hO9 : w9.ownsRow W4.heap.size 3 1 (.slice oa6 k oc6) k (i64s (mLs zs (VM + 1) k)) := by have h := unhide HO9; unfold OwI at h; rw [unhide HML] at h; exact h
        have hs9 := hbw.size
        have hsr := hbr.size
        refine wp_append_own w9 (.tmp 43) (.tmp 52) 27 rfl W4.heap.size 3 i0 (.int .i64 0) 1 8 Tryz.underlying27 hi hq0 hq1 hq2 rfl (by decide) (.slice oa6 k oc6) k (i64s (mLs zs (VM + 1) k)) rfl hO9 ⟨g9, 0, none⟩ 1 1 [.int .i64 PZ] rfl rfl (fun j u hj => by
          match j, hj with
          | 0, hj => simp at hj; subst hj; rw [sadd_none]; exact hc9) (fun u hu => by simp at hu; subst hu; rfl) (by unfold maxLen; omega) (by omega) (by omega) ?_
        intro v7 w10 hown hgrow _
        refine ⟨by rfl, ?_⟩
        have hbe : Below W4.heap.size W4 w10 := bl_tr (bl_trans hbr (bl_lo hbw (Nat.le_refl _))) (gb_lo hgrow (by omega) (fun j hj => (hO9.lt j hj).1))
        have HOE : Hid (OwI w10 W4.heap.size v7 (mLs zs (VM + 1) (k + 1))) := by
          show OwI _ _ _ _
          unfold OwI
          rw [unhide HNX, List.length_append, unhide HML]
          rw [i64s_snoc] at hown
          exact hown
        clear hown hgrow hc9 hbw hs9 hsr hO9
        go_simp
        go_wp2
        go_roundw
        case rel => exact ⟨k + 1, by omega, by omega, by go_num, unhide HOE, hbe⟩
        case measure => (simp [intOf] <;> omega)
    · have hX := (unhide HX4).up hbr
      have hS := (unhide HS4).up hbr
      have hwr := bl_trans hw4 hbr
      have HXR := hide hX
      have HSR := hide hS
      have x0 := hX.c0
      have x1 := hX.c1
      have x2 := hX.c2
      have x3 := hX.c3
      have x4 := hX.c4
      have x5 := hX.c5
      have x6 := hX.c6
      have hg := (hbr.block _ hgl4).trans (unhide HG4)
      have g0 := cell_of hg 0 rfl
      have g1 := cell_of hg 1 rfl
      have g2 := cell_of hg 2 rfl
      have hlx := hX.lt
      have HGR := hide hg
      clear hX hS hg
      obtain ⟨M, hM⟩ : ∃ x, mLs zs (VM + 1) k = x := ⟨_, rfl⟩
      have hMb := mLs_bd zs (show (0 : Int) < VM + 1 by omega) k
      rw [hM] at HOI HML hMb
      replace HOI : Hid (Ints wr (.slice oa6 k oc6) M) := by
        have h := unhide HOI
        rw [unhide HML] at h
        exact h
      have HMB := hide hMb
      have HE9 : Hid (lasB S M SZ KO VM = true → plaE S M VM NV SZ KO = 0 ∧ plaV S M VM NV SZ KO = (k : Int) - 1) := fun h => ⟨by unfold plaE; rw [if_pos hok, if_pos (plaB_t (unhide HML) (unhide HMB) hk2 hnv1 hvm1 hsz0 hsz1), if_pos h], by unfold plaV; rw [if_pos hok, if_pos (plaB_t (unhide HML) (unhide HMB) hk2 hnv1 hvm1 hsz0 hsz1), if_pos h, unhide HML]⟩
      have HEN : Hid (lasB S M SZ KO VM = false → (k < NV → plaE S M VM NV SZ KO = 0 ∧ plaV S M VM NV SZ KO = (k : Int)) ∧ (¬ k < NV → plaE S M VM NV SZ KO = 8)) := fun h => by
        have hB := plaB_t (unhide HML) (unhide HMB) hk2 hnv1 hvm1 hsz0 hsz1
        refine ⟨fun hk => ?_, fun hk => ?_⟩
        · have hn : newB M NV SZ VM = true := by unfold newB; rw [unhide HML]; simp; omega
          exact ⟨by unfold plaE; rw [if_pos hok, if_pos hB, h, if_neg (by decide), if_pos hn], by unfold plaV; rw [if_pos hok, if_pos hB, h, if_neg (by decide), if_pos hn, unhide HML]⟩
        · have hn : newB M NV SZ VM = false := by unfold newB; rw [unhide HML]; simp; omega
          unfold plaE
          rw [if_pos hok, if_pos hB, h, if_neg (by decide), hn, if_neg (by decide)]
      have HLAS : Hid (lasB S M SZ KO VM = true → 1 ≤ k ∧ (k : Int) - 1 ≠ KO ∧ (∀ x ∈ S.gone, x ≠ (k : Int) - 1) ∧ M.getD (k - 1) 0 + SZ ≤ VM) := fun h => by
        unfold lasB at h
        rw [unhide HML] at h
        simp only [Bool.and_eq_true, decide_eq_true_eq, Bool.not_eq_true', bne_iff_ne] at h
        obtain ⟨⟨⟨h1, h2⟩, h3⟩, h4⟩ := h
        exact ⟨by omega, h2, gsB h3, h4⟩
      clear hM hMb
      rcases (show (k < nz ∧ ¬ k < NV) ∨ ¬ k < nz by omega) with ⟨u1, u2⟩ | u1
      all_goals (
        clear hcond
        go_wp2_with fail
        refine (picked_any ns 606 _ (by decide) (by decide) s0 s1).mono ?_
        rintro e w5 ⟨rfl, rfl⟩
        rw [unhide HSZ]
        go_wp2_with fail
        refine (picked_any wo 9 _ (by decide) (by decide) k0 k1).mono ?_
        rintro e w6 ⟨rfl, rfl⟩
        rw [unhide HKP]
        go_wp2_with fail
        refine (tPlace_any _ _ _ VM NV S _ _ _ _ _ _ M SZ KO _ (unhide HSR) (unhide HOI)).mono ?_
        rintro e w7 ⟨rfl, hb7⟩
        obtain ⟨E, hE⟩ : ∃ E, plaE S M VM NV SZ KO = E := ⟨_, rfl⟩
        obtain ⟨V, hV⟩ : ∃ V, plaV S M VM NV SZ KO = V := ⟨_, rfl⟩
        rw [hE, hV] at HE9 HEN
        rw [hE, hV]
        clear hE hV x0 x1 x2 x3 x4 x5 x6 g0 g1 g2 g3 g4
        have HX7 := hide ((unhide HXR).up hb7)
        have HS7 := hide ((unhide HSR).up hb7)
        have HOI7 := hide ((unhide HOI).up hb7)
        have hg7 := (hb7.block _ hglr).trans (unhide HGR)
        have HG7 := hide hg7
        have hgl7 : gB < w7.heap.size := (Array.getElem?_eq_some_iff.1 hg7).1
        have hw7 := bl_trans hwr hb7
        have x0 := (unhide HX7).c0
        have x1 := (unhide HX7).c1
        have x2 := (unhide HX7).c2
        have x3 := (unhide HX7).c3
        have x4 := (unhide HX7).c4
        have x5 := (unhide HX7).c5
        have x6 := (unhide HX7).c6
        clear hb7 hg7
        go_wp2_with fail
        refine (check_any S _ _ _ _ _ _ (unhide HS7)).mono ?_
        rintro e w8 ⟨rfl, hb8⟩
        rw [unhide HC]
        have HX8 := hide ((unhide HX7).up hb8)
        have HS8 := hide ((unhide HS7).up hb8)
        have HOI8 := hide ((unhide HOI7).up hb8)
        have hg8 := (hb8.block _ hgl7).trans (unhide HG7)
        have g3 := cell_of hg8 3 rfl
        have g4 := cell_of hg8 4 rfl
        have hgl8 : gB < w8.heap.size := (Array.getElem?_eq_some_iff.1 hg8).1
        have hw8 := bl_trans hw7 hb8
        have hl8 := (unhide HX8).lt
        clear x0 x1 x2 x3 x4 x5 x6 hb8 hg8
        cases hl : lasB S M SZ KO VM
        · obtain ⟨h1, h2⟩ := unhide HEN hl
          by_cases hk : k < NV
          · first
            | exact absurd hk u2
            | (obtain ⟨rfl, rfl⟩ := h1 hk
               clear h1 h2 hl HEN HE9
               go_wp2
               go_ret
               exact ⟨by first | rfl | simp [hk], hw8⟩)
          · obtain rfl := h2 hk
            have hkn : ((k : Int) == (NV : Int)) = true := by simp; omega
            clear h1 h2 hl HEN HE9
            go_wp2
            go_ret
            exact ⟨by first | rfl | (simp; omega), hw8⟩
        · obtain ⟨rfl, rfl⟩ := unhide HE9 hl
          obtain ⟨h1, h2, h3, h4⟩ := unhide HLAS hl
          obtain ⟨q, rfl⟩ : ∃ q, k = q + 1 := ⟨k - 1, by omega⟩
          rw [Nat.add_sub_cancel] at h4
          have hvq : ((q + 1 : Nat) : Int) - 1 = (q : Int) := by omega
          rw [hvq] at h2 h3
          rw [hvq]
          have H3 := hide h3
          have hne : ((q : Int) == ((q + 1 : Nat) : Int)) = false := by simp; omega
          have hne2 : ((q : Int) != KO) = true := by simpa using h2
          obtain ⟨b9, o9, e9, r9⟩ := Lst.at (unhide HOI8) (i := q) (by rw [unhide HML]; omega)
          rw [Nat.mul_one] at r9
          have hmq := unhide HMB _ (mem_get (l := M) (d := 0) (k := q) (by rw [unhide HML]; omega))
          obtain ⟨MQ, hMQ⟩ : ∃ x, M.getD q 0 = x := ⟨_, rfl⟩
          rw [hMQ] at r9 h4 hmq
          have r91 := r9.1
          subst e9
          have HGS := hide (unhide HS8).gone
          have x6 := (unhide HX8).c6
          obtain ⟨lg, hlg⟩ : ∃ x, S.gone = x := ⟨_, rfl⟩
          rw [hlg] at HGS x6 H3 hgl
          obtain ⟨NG, hNG⟩ : ∃ x, lg.length = x := ⟨_, rfl⟩
          rw [hNG] at HGS x6 hgl
          have HNG := hide hNG
          clear h1 h2 h3 hl r9 hMQ hlg hNG hvq
          go_wp2
          go_loopw [21, 93] (fun _ i wq => ∃ j : Nat, j ≤ NG ∧ i = .int .i64 j ∧ w8 = wq) (fun _ i _ => NG - (intOf i).toNat)
          case atStart => exact ⟨0, Nat.zero_le _, rfl, rfl⟩
          case round =>
            clear x6
            obtain ⟨j, hj, rfl, rfl⟩ := hrel
            by_cases hlt : j < NG
            · obtain ⟨bg, og, eg, rg⟩ := Lst.at (unhide HGS) (i := j) (by rw [unhide HNG]; exact hlt)
              rw [Nat.mul_one] at rg
              have hxn := unhide H3 _ (mem_get (l := lg) (d := 0) (k := j) (by rw [unhide HNG]; exact hlt))
              obtain ⟨X, hX⟩ : ∃ x, lg.getD j 0 = x := ⟨_, rfl⟩
              rw [hX] at rg hxn
              have c0 := rg.1
              subst eg
              have hq : (X == (q : Int)) = false := by simpa using hxn
              clear rg hX hxn
              go_wp2
              go_roundw
              case rel => exact ⟨j + 1, by omega, by go_num, by first | rfl | trivial⟩
              case measure => (simp [intOf] <;> omega)
            · obtain rfl : j = NG := by omega
              go_upto_region 23 with fail
              have hnel := Later.one w8
              have l0 := fun d : Later w8 => d.cell r91
              have l1 := fun d : Later w8 => d.cell g3
              have hle : MQ + SZ ≤ VM := h4
              have hq1 : ((q + 1 : Nat) : Int) - 1 = (q : Int) := by omega
              refine wp_region_later (by kernel_rfl) (by kernel_rfl) ?_
              repeat (go_big_quiet_step (fail))
              refine wpQuiet_nil ?_
              intro w11 hw'
              obtain ⟨⟨w12, hb12⟩, hw''⟩ := hw'
              subst hw''
              clear hnel l0 l1
              go_wp2
              go_ret
              exact ⟨by first | rfl | (simp [hle, hne2]) | (simp; omega), bl_trans hw8 hb12⟩)
end Go.Proofs.YtbfhkbmcleglaaaGreat
