/- icehousekeep.HalfDead: the walk. -/
import Derived.Test.YtbfhkbmcleglaaaGreatTimq
import Derived.Test.YtbfhkbmcleglaaaGreatTidq
import Derived.Test.YtbfhkbmcleglaaaGreatSopq
import Derived.BigQuiet
import Derived.Deep.QuietTactic
import Derived.Test.YtbfhkbmcleglaaaGreatKkpq
namespace Go.Proofs.YtbfhkbmcleglaaaGreat
open Go.RowKit Go.Maps
set_option maxRecDepth 100000
set_option linter.unusedVariables false
set_option linter.unusedSimpArgs false
/-- The sizes of raw numbers. -/
def hfL (zs : List Int) (k : Nat) : List Int := (zs.take k).map (fun z => pickI z 1500)
theorem hfL_next {zs : List Int} {k : Nat} (hk : k < zs.length) : hfL zs (k + 1) = hfL zs k ++ [pickI (zs.getD k 0) 1500] := by
  unfold hfL
  rw [take_next zs 0 hk, List.map_append]
  rfl
theorem hfL_len {zs : List Int} {k : Nat} (hk : k ≤ zs.length) : (hfL zs k).length = k := by
  unfold hfL
  rw [List.length_map, List.length_take]
  omega
theorem hfL_bd (zs : List Int) (k : Nat) : ∀ x ∈ hfL zs k, 0 ≤ x ∧ x < 1500 := fun x hx => by
  unfold hfL at hx
  obtain ⟨z, _, rfl⟩ := List.mem_map.1 hx
  exact ⟨pickI_lo z (by decide), pickI_hi z (by decide)⟩
/-- What j numbers add of one version. -/
def inn (ids : List Int) (id d : Int) : Nat → Int
  | 0 => 0
  | j + 1 => inn ids id d j + (if id = ids.getD j 0 then d else 0)
theorem inn_at {ids : List Int} {id d : Int} (hn : ids.Nodup) : ∀ j, j ≤ ids.length → inn ids id d j = if id ∈ ids.take j then d else 0
  | 0, _ => by simp [inn]
  | j + 1, h => by
    have ih := inn_at (id := id) (d := d) hn j (by omega)
    have ht := take_next ids 0 (show j < ids.length by omega)
    have hn2 : (ids.take j ++ [ids.getD j 0]).Nodup := by rw [← ht]; exact hn.sublist (List.take_sublist _ _)
    have hx : ids.getD j 0 ∉ ids.take j := fun h => (List.nodup_append.1 hn2).2.2 _ h _ (List.mem_singleton.2 rfl) rfl
    rw [inn, ih, ht]
    by_cases e : id = ids.getD j 0
    · rw [if_pos e, if_neg (by rw [e]; exact hx), if_pos (List.mem_append_right _ (List.mem_singleton.2 e))]
      omega
    · rw [if_neg e]
      by_cases e2 : id ∈ ids.take j
      · rw [if_pos e2, if_pos (List.mem_append_left _ e2)]; omega
      · rw [if_neg e2, if_neg (fun h => (List.mem_append.1 h).elim e2 (fun h => e (List.mem_singleton.1 h)))]; omega
theorem inn_bd {ids : List Int} {id d : Int} (h0 : 0 ≤ d) (h1 : d ≤ 606) : ∀ j : Nat, 0 ≤ inn ids id d j ∧ inn ids id d j ≤ 606 * (j : Int)
  | 0 => by simp [inn]
  | j + 1 => by
    have ih := inn_bd (ids := ids) (id := id) h0 h1 j
    rw [inn]
    push_cast
    split <;> omega
theorem ids_in {S : St} (h : S.ves.Pairwise (fun x y => x.id < y.id)) (p : Ve → Bool) {a : Nat} (ha : a < S.ves.length) : (S.ves.getD a ve0).id ∈ idsK S.ves p S.ves.length ↔ p (S.ves.getD a ve0) = true := by
  unfold idsK
  rw [List.take_of_length_le (Nat.le_refl _)]
  constructor
  · intro hm
    obtain ⟨Y, hY, e⟩ := List.mem_map.1 hm
    obtain ⟨hY1, hY2⟩ := List.mem_filter.1 hY
    obtain ⟨b, hb, e2⟩ := mem_at (d := ve0) hY1
    have h1 := idxV_at h ha
    have h2 := idxV_at h hb
    rw [e2, e, h1] at h2
    obtain rfl : a = b := by omega
    rw [e2]; exact hY2
  · intro hp
    exact List.mem_map.2 ⟨_, List.mem_filter.2 ⟨mem_get ha, hp⟩, rfl⟩
theorem ids_nodup {S : St} (h : S.ves.Pairwise (fun x y => x.id < y.id)) (p : Ve → Bool) : (idsK S.ves p S.ves.length).Nodup := by
  unfold idsK
  exact List.pairwise_map.2 (((h.sublist (List.take_sublist _ _)).sublist List.filter_sublist).imp fun hxy => by omega)
/-- Is it among the first j? -/
def goA (lg : List Int) (n : Int) (j : Nat) : Bool := (lg.take j).any (fun x => x == n)
theorem goA_next {lg : List Int} {n : Int} {j : Nat} (hj : j < lg.length) : goA lg n (j + 1) = (goA lg n j || (lg.getD j 0 == n)) := by
  unfold goA
  rw [take_next lg 0 hj, List.any_append]
  simp
theorem goA_is (S : St) (n : Int) : goA S.gone n S.gone.length = isGone S n := by
  unfold goA isGone
  rw [List.take_of_length_le (Nat.le_refl _)]
  rcases firstI_cases S.gone.length (goP S.gone n) with ⟨h1, h2⟩ | ⟨k, hk, h1, h2, _⟩
  · rw [h1]
    refine List.any_eq_false.2 fun x hx he => ?_
    obtain ⟨k, hk, e⟩ := mem_at (d := 0) hx
    have := h2 k hk
    unfold goP at this
    rw [e] at this
    rw [he] at this
    cases this
  · rw [h1]
    have h3 : S.gone.any (fun x => x == n) = true := List.any_eq_true.2 ⟨_, mem_get (d := 0) hk, h2⟩
    rw [h3]
    exact (decide_eq_true (Int.natCast_nonneg k)).symm
theorem siz8 {M : List Int} (h : M.length ≤ 5) (hb : ∀ x ∈ M, 0 ≤ x ∧ x < 1500) : sizC 8 M = true := by
  unfold sizC
  simp only [Bool.and_eq_true, decide_eq_true_eq]
  refine ⟨by omega, ?_⟩
  rw [allB_iff]
  intro j hj
  have := hb _ (mem_get (d := 0) hj)
  unfold inB
  exact decide_eq_true (by omega)
/-- Nine empty sizes. -/
def z9 : List Int := [0, 0, 0, 0, 0, 0, 0, 0, 0]
theorem z9I (u : World) : Ints (u.alloc (.cells (i64s z9).toArray 3)) (.slice (some ⟨u.heap.size, 0, none⟩) 9 9) z9 := by
  refine ⟨_, _, rfl, by decide, by decide, fun i hi => ⟨_, _, rfl, ?_, ?_⟩⟩
  · have hi : i < 9 := hi
    refine cell_of (heap_alloc_new _ _) (0 + i * 1) ?_
    rw [show 0 + i * 1 = i by omega]
    match i, hi with
    | 0, _ | 1, _ | 2, _ | 3, _ | 4, _ | 5, _ | 6, _ | 7, _ | 8, _ => rfl
  · have hi : i < 9 := hi
    match i, hi with
    | 0, _ | 1, _ | 2, _ | 3, _ | 4, _ | 5, _ | 6, _ | 7, _ | 8, _ => rfl
set_option maxHeartbeats 4000000 in
theorem halfDead_walk (lv : Value) (l : List Rw) (zv : Value) (zs : List Int) (w : World) (hl : Raws w lv l) (hz : Ints w zv zs) :
    Calls Tryz.prog 20 #[lv, zv] w fun e w' => e = .returned (.bool true) ∧ Below w.heap.size w w' := by
  obtain ⟨la, lc, rfl, hl1, hl2⟩ := hl.form
  unfold maxLen at hl2
  have HL := hide hl
  clear hl
  obtain ⟨za, cz, rfl, hz1, hz2⟩ := hz.form
  unfold maxLen at hz2
  have HZ := hide hz
  clear hz
  obtain ⟨S, hSS⟩ : ∃ S, staL l 40 = S := ⟨_, rfl⟩
  obtain ⟨n, hnn⟩ : ∃ n, cntN l (rnd l 40) = n := ⟨_, rfl⟩
  have hn2 : 2 ≤ n := by rw [← hnn]; exact cntN_two l _ (by unfold rnd; omega)
  have hok : stC S = true := by rw [← hSS]; exact staL_ok l 40
  have hc0 := stE_t hok
  have HC := hide hc0
  have hgl := (few_of hok).gone
  have hOK := (stOk_iff S).1 hok
  have hlen := tstC_len hok
  have hlv : livS S = livL S.ves S.ves.length := livS_t hok
  have HLV := hide hlv
  have HEL : Hid (∀ i, i < 8 → (livS S).getD i 0 = livK S.ves S.ves.length i) := fun i hi => by rw [hlv]; exact livL_at _ _ hi
  have HBD : Hid (∀ k, k ≤ S.ves.length → ∀ n, 0 ≤ livK S.ves k n ∧ livK S.ves k n ≤ 606 * (k : Int)) := livK_bd hok
  have HL8 : Hid ((livS S).length = 8) := by show _ = _; rw [hlv]; exact livL_len _ _
  have HVZ : Hid (∀ k, k < S.ves.length → 0 ≤ (S.ves.getD k ve0).size ∧ (S.ves.getD k ve0).size ≤ 600) := fun k hk => veC_size (tstC_at hok (mem_getD hk))
  have HIN : Hid (∀ q d a, a < S.ves.length → inn (idsK S.ves (hlfP q) S.ves.length) (S.ves.getD a ve0).id d (idsK S.ves (hlfP q) S.ves.length).length = if hlfP q (S.ves.getD a ve0) then d else 0) := fun q d a ha => by
    rw [inn_at (ids_nodup hOK.vrise _) _ (Nat.le_refl _), List.take_of_length_le (Nat.le_refl _)]
    by_cases hp : hlfP q (S.ves.getD a ve0) = true
    · rw [if_pos ((ids_in hOK.vrise _ ha).2 hp), if_pos hp]
    · rw [if_neg (fun h => hp ((ids_in hOK.vrise _ ha).1 h)), if_neg hp]
  have HLN : Hid (∀ k, k < S.ves.length → ∀ n, livK S.ves (k + 1) n = livK S.ves k n + (if hlfP (n : Int) (S.ves.getD k ve0) then (S.ves.getD k ve0).size + 6 else 0)) := fun k hk n => livK_next hk n
  have HIL : Hid (∀ q, (idsK S.ves (hlfP q) S.ves.length).length ≤ S.ves.length) := fun q => idsK_len _ _ _
  have HWT : Hid (∀ M, ∀ x ∈ halL S M, (Lit.int .i64 x).wf = true) := fun M x hx => by
    unfold halL at hx
    split at hx
    · have h := idsL_wf S (hlfP (halI S M))
      rw [idsL_t hok] at h
      exact h x hx
    · cases hx
  have HGO : Hid (∀ n, goA S.gone n S.gone.length = isGone S n) := fun n => goA_is S n
  have HST := hide hok
  obtain ⟨i0, hi, hq0, hq1, hq2⟩ := info_parts infoI
  have hmk : ∀ u : World, (Instr.makeSlice 27 (.int .i64 9) (.int .i64 9)).run Tryz.prog u = .ok (.slice (some ⟨u.heap.size, 0, none⟩) 9 9) (u.alloc (.cells (i64s z9).toArray 3)) := fun u => by
    have h := run_make (P := Tryz.prog) u 27 3 i0 (.int .i64 0) Tryz.underlying27 hi hq0 .i64 .i64 9 9 (by decide) (Int.le_refl _) (by rw [hq2]; decide) (by decide)
    rw [show (i64s z9).toArray = madeCells (Value.int .i64 0).cells 9 from by kernel_rfl]
    simpa [hq1] using h
  have HMK := hide hmk
  clear hc0 hlv hOK hmk
  go_enter Tryz.func20, Tryz.ntmps20
  go_wp2_with fail
  refine (kSt _ l 40 _ _ (unhide HL) rfl (by decide)).mono ?_
  rintro e w1 ⟨ba, bc, va, vc, ua, uc, qa, qc, ga, gc, oa, oc, rfl, hS, hb1⟩
  rw [hSS] at hS ⊢
  rw [hnn]
  have HSS := hide hSS
  have HNN := hide hnn
  clear hSS hnn
  go_upto_region 2 with fail
  generalize hWW : w1.alloc _ = W2
  have h2 : BoxS W2 w1.heap.size S (.slice ba S.bus.length bc) (.slice va S.ves.length vc) (.slice ua S.ups.length uc) (.slice qa S.que.length qc) (.slice ga S.gone.length gc) ∧ Below w1.heap.size w1 W2 := by
    rw [← hWW]
    exact ⟨BoxS.new _ _ _ _ _ _ _ _, bl1 _ _⟩
  clear hWW
  obtain ⟨hX, hb2⟩ := h2
  have hw2 := bl_trans hb1 hb2
  have HS := hide (hS.up hb2)
  have HX := hide hX
  clear hS hb1 hb2 hX
  have HZ2 := hide ((unhide HZ).up hw2)
  obtain ⟨nz, hnz⟩ : ∃ x, zs.length = x := ⟨_, rfl⟩
  rw [hnz] at hz1 HZ2 ⊢
  have HNZ := hide hnz
  clear hnz
  go_wp2
  go_loopw [7, 8, 36] (fun o i _ wr => ∃ k : Nat, k ≤ nz ∧ k ≤ 5 ∧ i = .int .i64 k ∧ OwI wr W2.heap.size o (hfL zs k) ∧ Below W2.heap.size W2 wr) (fun _ i _ _ => 5 - (intOf i).toNat)
  case atStart => exact ⟨0, Nat.zero_le _, Nat.zero_le _, rfl, OwI.nil _ _, Below.refl _ _⟩
  case round =>
    obtain ⟨k, hk1, hk2, rfl, hO, hbr⟩ := hrel
    have hml : (hfL zs k).length = k := hfL_len (by rw [unhide HNZ]; exact hk1)
    have HO := hide hO
    have hOf := hO.ints (fun x hx => by have := hfL_bd zs k x hx; exact i64_wf (by omega) (by omega))
    obtain ⟨oa6, oc6, rfl, ho1, ho2⟩ := hOf.form
    have HOI := hide hOf
    unfold maxLen at ho2
    have HML := hide hml
    have hln : (hfL zs k).length ≤ 5 := by omega
    clear hml hO hOf
    by_cases hcond : k < nz ∧ k < 5
    · obtain ⟨hc1, hc2⟩ := hcond
      obtain ⟨b8, o8, e8, r0⟩ := Lst.at ((unhide HZ2).up hbr) (i := k) (by rw [unhide HNZ]; exact hc1)
      rw [Nat.mul_one] at r0
      have hzl := wf_lo r0.2
      have HNX := hide (hfL_next (zs := zs) (k := k) (by rw [unhide HNZ]; exact hc1))
      obtain ⟨Z, hZ⟩ : ∃ Z, zs.getD k 0 = Z := ⟨_, rfl⟩
      rw [hZ] at r0 hzl HNX
      have hpz0 := pickI_lo Z (m := 1500) (by decide)
      have hpz1 := pickI_hi Z (m := 1500) (by decide)
      have HPZ := hide (fun W : World => picked_any Z 1500 W (by decide) (by decide) hzl.1 hzl.2)
      obtain ⟨PZ, hPZ⟩ : ∃ x, pickI Z 1500 = x := ⟨_, rfl⟩
      rw [hPZ] at hpz0 hpz1 HPZ HNX
      have c0 := r0.1
      obtain rfl := e8
      obtain ⟨Q, hQ⟩ : ∃ Q, hfL zs k = Q := ⟨_, rfl⟩
      rw [hQ] at HO HOI HML HNX hln ho1 ⊢
      clear r0 hZ hPZ hzl hQ
      go_wp2_with fail
      refine (unhide HPZ _).mono ?_
      rintro e w9 ⟨rfl, rfl⟩
      go_wp2_with (first
        | (at_builtin; refine wpList_append_own _ rfl _ _ 27 rfl W2.heap.size 3 i0 (.int .i64 0) 1 8 Tryz.underlying27 hi hq0 hq1 hq2 rfl (by decide) _ _ _ rfl ((unhide HO).alloc _) ⟨wr.heap.size, 0, none⟩ 1 1 [.int .i64 PZ] rfl rfl (cell_one_new _ _ _) (oneI _) (by unfold maxLen; omega) (by omega) (by simp; (have := hbr.size); omega) ?_; intro v' w1' hown' hgrow hnil)
        | go_in)
      have hb1 := (bl_alloc hbr _).grown hgrow (bl_alloc hbr _).size (fun j hj => own_blk (unhide HO) j hj)
      rw [i64s_snoc] at hown'
      clear hgrow hnil
      exact ⟨⟨k + 1, by omega, by omega, by go_num, by rw [unhide HNX]; unfold OwI; rw [List.length_append]; exact hown', hb1⟩, by simp [intOf]; omega⟩
    · have hX := (unhide HX).up hbr
      have hS := (unhide HS).up hbr
      have hwr := bl_trans hw2 hbr
      have HXR := hide hX
      have HSR := hide hS
      have x0 := hX.c0
      have x1 := hX.c1
      have x2 := hX.c2
      have x3 := hX.c3
      have x4 := hX.c4
      have x5 := hX.c5
      have x6 := hX.c6
      have hlx := hX.lt
      clear hX hS HO
      have hMb := hfL_bd zs k
      obtain ⟨M, hM⟩ : ∃ x, hfL zs k = x := ⟨_, rfl⟩
      rw [hM] at HOI HML hMb hln ho1 ⊢
      have HSZ := hide (siz8 hln hMb)
      have HMB := hide hMb
      obtain ⟨K, hK⟩ : ∃ K, M.length = K := ⟨_, rfl⟩
      rw [hK] at HOI hln ho1 ⊢
      have HK := hide hK
      have HYES : Hid (∀ q : Nat, q < K → halQ S M q = true → (∀ j, j < q → halQ S M j = false) → halE S M = 0 ∧ halV S M = (q : Int) ∧ halL S M = idsK S.ves (hlfP (q : Int)) S.ves.length) := fun q hq h1 h2 => hal_0 (unhide HST) (unhide HSZ) (by unfold halI; rw [unhide HK]; exact firstI_t hq h1 h2)
      have HNO : Hid ((∀ j, j < K → halQ S M j = false) → halE S M = 14 ∧ halL S M = []) := fun h => by
        have h := hal_14 (unhide HST) (unhide HSZ) (by unfold halI; rw [unhide HK]; exact firstI_f h)
        exact ⟨h.1, h.2.2⟩
      have HHQ : Hid (∀ q : Nat, q < 8 → halQ S M q = ((decide (0 < M.getD q 0) && !isGone S (q : Int)) && decide (2 * livK S.ves S.ves.length q ≤ M.getD q 0))) := fun q hq => by unfold halQ; rw [livL_at _ _ hq]
      clear hM hMb hK
      rcases (show (k < nz ∧ ¬ k < 5) ∨ ¬ k < nz by omega) with ⟨u1, u2⟩ | u1
      all_goals (
        clear hcond
        go_wp2_with fail
        refine (tLive_any S _ _ _ _ _ _ (unhide HSR)).mono ?_
        rintro e w5 ⟨oL, rfl, hO5, hb5⟩
        rw [unhide HC]
        have HI5 := hide (hO5.ints (fun x hx => by
          obtain ⟨n, hn, rfl⟩ := mem_at (d := 0) hx
          rw [unhide HL8] at hn
          rw [unhide HEL n hn]
          have := unhide HBD _ (Nat.le_refl _) n
          exact i64_wf (by omega) (by omega)))
        obtain ⟨ya, yc, rfl, hy1, hy2⟩ := (unhide HI5).form
        rw [unhide HL8] at HI5 hy1 ⊢
        unfold maxLen at hy2
        have HX5 := hide ((unhide HXR).up hb5)
        have HS5 := hide ((unhide HSR).up hb5)
        have HOI5 := hide ((unhide HOI).up hb5)
        have hw5 := bl_trans hwr hb5
        have hl5 := (unhide HX5).lt
        clear x0 x1 x2 x3 x4 x5 x6 hb5 hO5 u1
        have x0 := (unhide HX5).c0
        have x1 := (unhide HX5).c1
        have x2 := (unhide HX5).c2
        have x3 := (unhide HX5).c3
        have x4 := (unhide HX5).c4
        have x5 := (unhide HX5).c5
        have x6 := (unhide HX5).c6
        go_wp2_with fail
        refine (tHalf_any S _ _ _ _ _ _ M _ (unhide HS5) (unhide HOI5)).mono ?_
        rintro e w6 ⟨oH, rfl, hO6, hb6⟩
        have HI6 := hide (hO6.ints (unhide HWT M))
        obtain ⟨ia, ic, rfl, hi1, hi2⟩ := (unhide HI6).form
        unfold maxLen at hi2
        obtain ⟨E, hE⟩ : ∃ E, halE S M = E := ⟨_, rfl⟩
        obtain ⟨V, hV⟩ : ∃ V, halV S M = V := ⟨_, rfl⟩
        obtain ⟨LL, hLL⟩ : ∃ LL, halL S M = LL := ⟨_, rfl⟩
        rw [hE, hV, hLL] at HYES
        rw [hE, hLL] at HNO
        rw [hLL] at HI6 hi1
        rw [hE, hV, hLL]
        clear hE hV hLL x0 x1 x2 x3 x4 x5 x6 hO6
        have HX6 := hide ((unhide HX5).up hb6)
        have HS6 := hide ((unhide HS5).up hb6)
        have HOI6 := hide ((unhide HOI5).up hb6)
        have HL6 := hide ((unhide HI5).up hb6)
        have hw6 := bl_trans hw5 hb6
        have hl6 := (unhide HX6).lt
        clear hb6
        go_wp2
        go_loopw [66] (fun i wr => ∃ q : Nat, q ≤ K ∧ i = .int .i64 q ∧ w6 = wr ∧ ∀ j, j < q → halQ S M j = false) (fun i _ => K - (intOf i).toNat)
        case atStart => exact ⟨0, Nat.zero_le _, rfl, rfl, fun j hj => absurd hj (Nat.not_lt_zero _)⟩
        case round =>
          obtain ⟨q, hq, rfl, rfl, hall⟩ := hrel
          have HA := hide hall
          clear hall
          by_cases hlt : q < K
          · have hq8 : q < 8 := by omega
            obtain ⟨b7, o7, e7, r7⟩ := Lst.at (unhide HOI6) (i := q) (by rw [unhide HK]; exact hlt)
            obtain ⟨b6, o6, e6, r6⟩ := Lst.at (unhide HL6) (i := q) (by rw [unhide HL8]; exact hq8)
            rw [unhide HEL q hq8] at r6
            have HQ := hide (unhide HHQ q hq8)
            have hzb := unhide HMB _ (mem_get (l := M) (d := 0) (k := q) (by rw [unhide HK]; exact hlt))
            have hyb := unhide HBD _ (Nat.le_refl _) q
            obtain ⟨Z, hZ⟩ : ∃ Z, M.getD q 0 = Z := ⟨_, rfl⟩
            obtain ⟨Y, hY⟩ : ∃ Y, livK S.ves S.ves.length q = Y := ⟨_, rfl⟩
            rw [hZ] at r7 HQ hzb
            rw [hY] at r6 HQ hyb
            rw [Nat.mul_one] at r7 r6
            have hy40 : Y ≤ 606 * 40 := by omega
            have hy00 : 0 ≤ Y := hyb.1
            have HY := hide hY
            have c7 := r7.1
            have c6 := r6.1
            have HC6 := hide c6
            subst e7 e6
            have HGS := hide (unhide HS6).gone
            have x6 := (unhide HX6).c6
            have HGQ := hide (unhide HGO (q : Int))
            obtain ⟨lg, hlg⟩ : ∃ x, S.gone = x := ⟨_, rfl⟩
            rw [hlg] at HGS x6 HGQ hgl
            obtain ⟨NG, hNG⟩ : ∃ x, lg.length = x := ⟨_, rfl⟩
            rw [hNG] at HGS x6 hgl HGQ
            have HNG := hide hNG
            clear r6 r7 hZ hY hlg hNG
            go_wp2
            go_loopw [16, 74] (fun g i wq => ∃ j : Nat, j ≤ NG ∧ i = .int .i64 j ∧ g = .bool (goA lg (q : Int) j) ∧ w6 = wq) (fun _ i _ => NG - (intOf i).toNat)
            case atStart => exact ⟨0, Nat.zero_le _, rfl, rfl, rfl⟩
            case round =>
              clear x6
              obtain ⟨j, hj, rfl, rfl, rfl⟩ := hrel
              by_cases hjl : j < NG
              · obtain ⟨bg, og, eg, rg⟩ := Lst.at (unhide HGS) (i := j) (by rw [unhide HNG]; exact hjl)
                rw [Nat.mul_one] at rg
                have HNX := hide (goA_next (lg := lg) (n := (q : Int)) (j := j) (by rw [unhide HNG]; exact hjl))
                obtain ⟨X, hX⟩ : ∃ X, lg.getD j 0 = X := ⟨_, rfl⟩
                rw [hX] at rg HNX
                have c0 := rg.1
                subst eg
                clear rg hX
                obtain ⟨G, hG⟩ : ∃ G, goA lg (q : Int) j = G := ⟨_, rfl⟩
                rw [hG] at HNX ⊢
                clear hG
                cases hB : (X == (q : Int)) <;> cases G
                all_goals (
                  rw [hB] at HNX
                  go_wp2
                  go_roundw
                  case rel => exact ⟨j + 1, by omega, by go_num, by rw [unhide HNX]; rfl, by first | rfl | trivial⟩
                  case measure => (simp [intOf] <;> omega))
              · obtain rfl : j = NG := by omega
                rw [unhide HGQ]
                obtain ⟨G, hG⟩ : ∃ G, isGone S (q : Int) = G := ⟨_, rfl⟩
                rw [hG] at HQ ⊢
                clear hG HGQ
                by_cases hz : Z = 0
                · subst hz
                  have HQ' : Hid (halQ S M q = false) := by show _ = _; rw [unhide HQ]; simp
                  clear HQ hyb
                  go_wp2
                  go_roundw
                  case rel => exact ⟨q + 1, by omega, by go_num, by first | rfl | trivial, fun j hj => if e : j < q then unhide HA j e else (show j = q by omega) ▸ unhide HQ'⟩
                  case measure => (simp [intOf] <;> omega)
                · have hzq : (Z == 0) = false := by simpa using hz
                  cases G
                  · by_cases hy : 2 * Y ≤ Z
                    · have hz0 : 0 < Z := by omega
                      have HQ' : halQ S M q = true := by rw [unhide HQ]; simp; omega
                      obtain ⟨e1, e2, e3⟩ := unhide HYES q hlt HQ' (unhide HA)
                      have HIQ : Hid (∀ d a, a < S.ves.length → inn LL (S.ves.getD a ve0).id d LL.length = if hlfP (q : Int) (S.ves.getD a ve0) then d else 0) := fun d a ha => by rw [e3]; exact unhide HIN _ d a ha
                      have hil : LL.length ≤ S.ves.length := by rw [e3]; exact unhide HIL _
                      subst e1 e2
                      clear HYES HNO HQ HQ' HA e3
                      obtain ⟨NI, hNI⟩ : ∃ NI, LL.length = NI := ⟨_, rfl⟩
                      rw [hNI] at HI6 hi1 HIQ hil ⊢
                      have HNI := hide hNI
                      have x3 := (unhide HX6).c3
                      have HVV := hide (unhide HS6).ves
                      have HLQ : Hid (∀ k, k < S.ves.length → livK S.ves (k + 1) q = livK S.ves k q + (if hlfP (q : Int) (S.ves.getD k ve0) then (S.ves.getD k ve0).size + 6 else 0)) := fun k hk => unhide HLN k hk q
                      have HBQ : Hid (∀ k, k ≤ S.ves.length → 0 ≤ livK S.ves k q ∧ livK S.ves k q ≤ 606 * (k : Int)) := fun k hk => unhide HBD k hk q
                      obtain ⟨l9, hl9⟩ : ∃ x, S.ves = x := ⟨_, rfl⟩
                      rw [hl9] at x3 HVV HLQ HBQ HIQ HVZ hil hlen HY
                      obtain ⟨N, hN⟩ : ∃ N, l9.length = N := ⟨_, rfl⟩
                      rw [hN] at x3 HVV HLQ HBQ HIQ HVZ hil hlen HY
                      have HN := hide hN
                      clear hl9 hN hNI
                      go_wp2
                      go_loopw [19, 102] (fun t i wr => ∃ a : Nat, a ≤ N ∧ i = .int .i64 a ∧ t = .int .i64 (livK l9 a q) ∧ Below w6.heap.size w6 wr) (fun _ i _ => N - (intOf i).toNat)
                      case atStart => exact ⟨0, Nat.zero_le _, rfl, by simp [livK], Below.refl _ _⟩
                      case round =>
                        clear x3
                        obtain ⟨a, ha, rfl, rfl, hbr⟩ := hrel
                        by_cases hal : a < N
                        · have hal' : a < l9.length := by rw [unhide HN]; exact hal
                          obtain ⟨b8, o8, e8, r0⟩ := Lst.at (unhide HVV) hal'
                          subst e8
                          have hvz := unhide HVZ a hal
                          have hbd := unhide HBQ a ha
                          have HNX := hide (unhide HLQ a hal)
                          have HIA : Hid (∀ d, inn LL (l9.getD a ve0).id d NI = if hlfP (q : Int) (l9.getD a ve0) then d else 0) := fun d => unhide HIQ d a hal
                          have r := RVe.up hbr r0
                          obtain ⟨X, hX⟩ : ∃ X, l9.getD a ve0 = X := ⟨_, rfl⟩
                          rw [hX] at r hvz HNX HIA
                          obtain ⟨A, hA⟩ : ∃ A, livK l9 a q = A := ⟨_, rfl⟩
                          rw [hA] at HNX hbd ⊢
                          obtain ⟨U, hu, hI8⟩ := r.c8
                          obtain ⟨ua', uc', rfl, _⟩ := hI8.form
                          have c0 := r.c0
                          have c1 := r.c1
                          have c2 := r.c2
                          have c3 := r.c3
                          have c4 := r.c4
                          have c5 := r.c5
                          have c6 := r.c6
                          have c7 := r.c7
                          have c9 := r.c9
                          have c10 := r.c10
                          have c11 := r.c11
                          clear r r0 hI8 hX hA
                          go_upto_region 25 with fail
                          generalize hWW : wr.alloc _ = W8
                          have h8 : W8.cell? ⟨wr.heap.size, 0, none⟩ = some (.int .i64 X.id) ∧ W8.cell? ⟨wr.heap.size, 5, none⟩ = some (.int .i64 X.size) ∧ Below wr.heap.size wr W8 := by
                            rw [← hWW]
                            exact ⟨cell_of (heap_alloc_new _ _) 0 rfl, cell_of (heap_alloc_new _ _) 5 rfl, bl1 _ _⟩
                          clear hWW hu c0 c1 c2 c3 c4 c5 c6 c7 c9 c10 c11
                          obtain ⟨k0, k5, hb8⟩ := h8
                          have hl8 : wr.heap.size < W8.heap.size := World.block_lt_of_cell? _ _ k0
                          have hb9 := bl_trans hbr hb8
                          have HIW := hide (Ints.up hb9 (unhide HI6))
                          have HIB : Hid (∀ j : Nat, 0 ≤ inn LL X.id (6 + X.size) j ∧ inn LL X.id (6 + X.size) j ≤ 606 * (j : Int)) := inn_bd (by omega) (by omega)
                          have HIE := hide (unhide HIA (6 + X.size))
                          clear HIA hb8
                          go_wp2
                          go_loopw [19, 108] (fun t i wq => ∃ j : Nat, j ≤ NI ∧ i = .int .i64 j ∧ t = .int .i64 (A + inn LL X.id (6 + X.size) j) ∧ W8 = wq) (fun _ i _ => NI - (intOf i).toNat)
                          case atStart => exact ⟨0, Nat.zero_le _, rfl, by simp [inn], rfl⟩
                          case round =>
                            obtain ⟨j, hj, rfl, rfl, rfl⟩ := hrel
                            by_cases hjl : j < NI
                            · obtain ⟨bi, oi, ei, ri⟩ := Lst.at (unhide HIW) (i := j) (by rw [unhide HNI]; exact hjl)
                              rw [Nat.mul_one] at ri
                              have hib := unhide HIB j
                              have HNJ : Hid (inn LL X.id (6 + X.size) (j + 1) = inn LL X.id (6 + X.size) j + (if X.id = LL.getD j 0 then 6 + X.size else 0)) := rfl
                              obtain ⟨J, hJ⟩ : ∃ J, LL.getD j 0 = J := ⟨_, rfl⟩
                              rw [hJ] at ri HNJ
                              obtain ⟨I, hI⟩ : ∃ I, inn LL X.id (6 + X.size) j = I := ⟨_, rfl⟩
                              rw [hI] at hib HNJ ⊢
                              have c0 := ri.1
                              subst ei
                              clear ri hJ hI
                              by_cases he : X.id = J
                              · have hq : (X.id == J) = true := by simpa using he
                                have HN2 : Hid (inn LL X.id (6 + X.size) (j + 1) = I + (6 + X.size)) := by show _ = _; rw [unhide HNJ, if_pos he]
                                clear he
                                go_wp2
                                go_roundw
                                case rel => exact ⟨j + 1, by omega, by go_num, by rw [unhide HN2]; (first | rfl | (congr 1; omega)), by first | rfl | trivial⟩
                                case measure => (simp [intOf] <;> omega)
                              · have hq : (X.id == J) = false := by simpa using he
                                have HN2 : Hid (inn LL X.id (6 + X.size) (j + 1) = I) := by show _ = _; rw [unhide HNJ, if_neg he]; exact Int.add_zero _
                                clear he
                                go_wp2
                                go_roundw
                                case rel => exact ⟨j + 1, by omega, by go_num, by rw [unhide HN2], by first | rfl | trivial⟩
                                case measure => (simp [intOf] <;> omega)
                            · obtain rfl : j = NI := by omega
                              have e9 : A + inn LL X.id (6 + X.size) j = livK l9 (a + 1) q := by rw [unhide HNX, unhide HIE]; split <;> omega
                              rw [e9]
                              clear e9
                              go_wp2
                              go_roundw
                              case rel => exact ⟨a + 1, by omega, by go_num, rfl, hb9⟩
                              case measure => (simp [intOf] <;> omega)
                        · obtain rfl : a = N := by omega
                          have e9 : livK l9 a q = Y := unhide HY
                          rw [e9]
                          have c6 := scell_up hbr (unhide HC6)
                          clear e9 c7
                          go_wp2
                          go_ret
                          exact ⟨by first | rfl | simp, bl_trans hw6 hbr⟩
                    · have HQ' : Hid (halQ S M q = false) := by show _ = _; rw [unhide HQ]; simp; omega
                      clear HQ hyb
                      go_wp2
                      go_roundw
                      case rel => exact ⟨q + 1, by omega, by go_num, by first | rfl | trivial, fun j hj => if e : j < q then unhide HA j e else (show j = q by omega) ▸ unhide HQ'⟩
                      case measure => (simp [intOf] <;> omega)
                  · have HQ' : Hid (halQ S M q = false) := by show _ = _; rw [unhide HQ]; simp
                    clear HQ hyb
                    go_wp2
                    go_roundw
                    case rel => exact ⟨q + 1, by omega, by go_num, by first | rfl | trivial, fun j hj => if e : j < q then unhide HA j e else (show j = q by omega) ▸ unhide HQ'⟩
                    case measure => (simp [intOf] <;> omega)
          · obtain rfl : q = K := by omega
            obtain ⟨rfl, rfl⟩ := unhide HNO (unhide HA)
            clear HYES HNO HA
            have hmk := unhide HMK
            have hz9 : halE S z9 = 2 := (hal_2 (unhide HST) (by rfl)).1
            have x0 := (unhide HX6).c0
            have x1 := (unhide HX6).c1
            have x2 := (unhide HX6).c2
            have x3 := (unhide HX6).c3
            have x4 := (unhide HX6).c4
            have x5 := (unhide HX6).c5
            have x6 := (unhide HX6).c6
            go_upto_region 34 with fail
            go_region_with (go_at_call 43; refine (tHalf_any S _ _ _ _ _ _ z9 _ ((unhide HS6).up (bl_alloc (Below.drew (Below.refl _ _)) _)) (z9I _)).mono ?_; rintro e w7 ⟨o7, rfl, _, hb7⟩; rw [hz9]; have hw7 := bl_trans (bl_alloc (Below.drew hw6) _) hb7)
            all_goals (
              clear hmk hz9 x0 x1 x2 x3 x4 x5 x6
              go_wp2
              go_ret
              exact ⟨rfl, hw7⟩))
end Go.Proofs.YtbfhkbmcleglaaaGreat
