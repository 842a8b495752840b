/- icehousekeep.GoneEmpty: the walk. -/
import Derived.Test.YtbfhkbmcleglaaaGreatSopq
import Derived.Test.YtbfhkbmcleglaaaGreatKkpq
namespace Go.Proofs.YtbfhkbmcleglaaaGreat
open Go.RowKit Go.Maps
set_option maxRecDepth 100000
set_option linter.unusedVariables false
set_option linter.unusedSimpArgs false
theorem idxG_cases (S : St) (n : Int) : (idxG S n = -1 ∧ n ∉ S.gone) ∨ ∃ k : Nat, k < S.gone.length ∧ idxG S n = (k : Int) ∧ n ∈ S.gone := by
  rcases firstI_cases S.gone.length (goP S.gone n) with ⟨h1, h2⟩ | ⟨k, h1, h2, h3, _⟩
  · refine .inl ⟨h1, fun hx => ?_⟩
    obtain ⟨k, hk, e2⟩ := mem_at (d := 0) hx
    have := h2 k hk
    unfold goP at this
    rw [e2] at this
    simp at this
  · refine .inr ⟨k, h1, h2, ?_⟩
    unfold goP at h3
    have : S.gone.getD k 0 = n := by simpa using h3
    rw [← this]
    exact mem_get h1
theorem isGone_iff (S : St) (n : Int) : isGone S n = true ↔ n ∈ S.gone := by
  unfold isGone
  rw [decide_eq_true_eq]
  rcases idxG_cases S n with ⟨h1, h2⟩ | ⟨k, h1, h2, h3⟩
  · unfold idxG at h1
    constructor
    · intro h; omega
    · intro h; exact absurd h h2
  · unfold idxG at h2
    constructor
    · intro _; exact h3
    · intro _; omega
theorem gone_iff (g : List Int) : goneC g = true ↔ g.length ≤ 8 ∧ g.Pairwise (fun x y => x < y) ∧ ∀ x ∈ g, 0 ≤ x ∧ x ≤ 7 := by
  unfold goneC
  simp only [Bool.and_eq_true, decide_eq_true_eq]
  rw [show allB (g.length - 1) (goneP g) = allB (g.length - 1) (fun i => decide ((fun x : Int => x) (g.getD i 0) < (fun x : Int => x) (g.getD (i + 1) 0))) from rfl, rise_iff (fun x : Int => x) 0 g,
    show allB g.length (goneQ g) = allB g.length (fun i => (fun x => inB x 0 7) (g.getD i 0)) from rfl, all_getD (fun x => inB x 0 7) 0]
  constructor
  · rintro ⟨⟨h1, h2⟩, h3⟩
    exact ⟨by omega, h2, fun x hx => inB_t (h3 x hx)⟩
  · rintro ⟨h1, h2, h3⟩
    exact ⟨⟨by omega, h2⟩, fun x hx => by unfold inB; exact decide_eq_true (h3 x hx)⟩
theorem put_rise {g : List Int} {n : Int} (h : g.Pairwise (fun x y => x < y)) (hn : n ∉ g) : (putA g n (fun i => decide (n < g.getD i 0))).Pairwise (fun x y => x < y) := by
  unfold putA
  rcases firstI_cases g.length (fun i => decide (n < g.getD i 0)) with ⟨h1, h2⟩ | ⟨k, h1, h2, h3, h4⟩
  · rw [h1, if_pos (by decide), List.pairwise_append]
    refine ⟨h, List.pairwise_singleton _ _, fun a ha b hb => ?_⟩
    obtain rfl := List.mem_singleton.1 hb
    obtain ⟨j, hj, e⟩ := mem_at (d := 0) ha
    have := h2 j hj
    rw [e] at this
    have h5 : ¬ b < a := by simpa using this
    have h6 : a ≠ b := fun e => hn (e ▸ ha)
    omega
  · rw [h2, if_neg (by omega), Int.toNat_natCast]
    have h3' : n < g.getD k 0 := by simpa using h3
    rw [getD_eq h1] at h3'
    have hr := List.pairwise_iff_getElem.1 h
    rw [List.pairwise_append]
    refine ⟨h.sublist (List.take_sublist _ _), ?_, ?_⟩
    · rw [List.pairwise_cons]
      refine ⟨fun b hb => ?_, h.sublist (List.drop_sublist _ _)⟩
      obtain ⟨j, hj, rfl⟩ := List.mem_drop_iff_getElem.1 hb
      by_cases e : j = 0
      · subst e; simpa using h3'
      · have := hr k (k + j) h1 (by omega) (by omega)
        omega
    · intro a ha b hb
      obtain ⟨j, hj, rfl⟩ := List.mem_take_iff_getElem.1 ha
      have h5 := h4 j (by omega)
      rw [getD_eq (by omega)] at h5
      have h5' : ¬ n < g[j] := by simpa using h5
      have h6 : g[j] ≠ n := fun e => hn (e ▸ List.getElem_mem _)
      rcases List.mem_cons.1 hb with rfl | hb
      · omega
      · obtain ⟨i, hi, rfl⟩ := List.mem_drop_iff_getElem.1 hb
        exact hr j (k + i) (by omega) (by omega) (by omega)
theorem mem_put {g : List Int} {n x : Int} {p : Nat → Bool} : x ∈ putA g n p ↔ x = n ∨ x ∈ g := by
  constructor
  · exact mem_putA
  · intro h
    unfold putA
    split
    · rcases h with rfl | h
      · exact List.mem_append_right _ (List.mem_singleton.2 rfl)
      · exact List.mem_append_left _ h
    · rw [List.mem_append, List.mem_cons]
      rcases h with rfl | h
      · exact .inr (.inl rfl)
      · rw [← List.take_append_drop (firstI g.length p).toNat g] at h
        rcases List.mem_append.1 h with h | h
        · exact .inl h
        · exact .inr (.inr h)
theorem put_len8 {g : List Int} (h : g.Pairwise (fun x y => x < y)) (hb : ∀ x ∈ g, 0 ≤ x ∧ x ≤ 7) : g.length ≤ 8 := by
  have := rise_len (f := fun i => g.getD i 0) (n := g.length) (lo := 0) (hi := 7) (fun i hi => by
    show g.getD i 0 < g.getD (i + 1) 0
    rw [getD_eq (by omega), getD_eq hi]
    exact List.pairwise_iff_getElem.1 h i (i + 1) (by omega) hi (by omega)) (fun i hi => hb _ (mem_get hi)) (by decide)
  omega
theorem veC_tape {S : St} {x : Ve} (h : veC S x = true) (ht : 2 ≤ x.tier) : onC S x = true := by
  unfold veC at h
  simp only [Bool.and_eq_true] at h
  obtain ⟨_, h⟩ := h
  split at h
  · simp only [Bool.and_eq_true, beq_iff_eq] at h
    have := h.1.1.1.2
    omega
  · simp only [Bool.and_eq_true] at h
    obtain ⟨_, h⟩ := h
    rw [if_neg (by omega)] at h
    split at h
    · simp only [Bool.and_eq_true] at h; exact h.1.2
    · split at h
      · simp only [Bool.and_eq_true] at h; exact h.1.2
      · cases h
theorem veC_off {S T : St} {x : Ve} (h1 : T.next = S.next) (h2 : T.clock = S.clock) (h3 : ∀ b, hasB T b = hasB S b) (h4 : 2 ≤ x.tier → isGone T x.vol = isGone S x.vol) : veC T x = veC S x := by
  unfold veC namC onC
  rw [h1, h2, h3]
  by_cases t2 : x.tier = 2
  · rw [h4 (by omega)]
  · by_cases t3 : x.tier = 3
    · rw [h4 (by omega)]
    · simp only [if_neg t2, if_neg t3]
theorem StOk.give {S : St} {n : Int} (h : StOk S) (hn : n ∉ S.gone) (h0 : 0 ≤ n ∧ n ≤ 7) (hl : ∀ x ∈ S.ves, 2 ≤ x.tier → x.vol ≠ n) : StOk (givS S n) := by
  obtain ⟨_, g2, g3⟩ := (gone_iff _).1 h.g
  have hr := put_rise g2 hn
  have hb : ∀ x ∈ (givS S n).gone, 0 ≤ x ∧ x ≤ 7 := fun x hx => by
    rcases mem_put.1 hx with rfl | hx
    · exact h0
    · exact g3 x hx
  refine ⟨h.n0, h.n1, h.c0, h.c1, (gone_iff _).2 ⟨put_len8 hr hb, hr, hb⟩, h.b, h.vlen, h.vrise, fun x hx => ?_, h.vnul, h.ulen, h.urise, h.uok, h.qlen, h.qok, h.qdis, h.sok, h.sdis⟩
  have e : veC (givS S n) x = veC S x := by
    refine veC_off rfl rfl (fun _ => rfl) (fun ht => ?_)
    have hne := hl x hx ht
    rw [Bool.eq_iff_iff, isGone_iff, isGone_iff]
    constructor
    · intro hm
      rcases mem_put.1 (show x.vol ∈ putA S.gone n _ from hm) with e | e
      · exact absurd e hne
      · exact e
    · intro hm
      exact mem_put.2 (.inr hm)
  rw [e]
  exact h.vok x hx
def rGi (v : Int) : Rc := { rcN 14 with vol := v }
theorem give_cases {S : St} (hc : stC S = true) {v : Int} (h0 : 0 ≤ v ∧ v ≤ 7) :
    (v ∈ S.gone → appE S (rGi v) = 7) ∧ (v ∉ S.gone → (∃ x ∈ S.ves, 2 ≤ x.tier ∧ x.vol = v) → appE S (rGi v) = 4) ∧
    (v ∉ S.gone → (¬ ∃ x ∈ S.ves, 2 ≤ x.tier ∧ x.vol = v) → appE S (rGi v) = 0 ∧ (appS S (rGi v)).gone.length = S.gone.length + 1) := by
  have hO := (stOk_iff S).1 hc
  have hce : chgE S (rGi v) = givE S v := (chg_14 (r := rGi v) rfl).1
  have hcs : chgS S (rGi v) = givS S v := (chg_14 (r := rGi v) rfl).2
  have hno : v ∉ S.gone → chgE S (rGi v) = 0 := fun h => by
    rw [hce]
    unfold givE
    rcases idxG_cases S v with ⟨h1, _⟩ | ⟨k, _, _, h3⟩
    · rw [if_neg (by omega)]
    · exact absurd h3 h
  refine ⟨fun h => ?_, fun h hl => ?_, fun h hl => ?_⟩
  · have e : chgE S (rGi v) = 7 := by
      rw [hce]
      unfold givE
      rcases idxG_cases S v with ⟨_, h2⟩ | ⟨k, _, h2, _⟩
      · exact absurd h h2
      · rw [if_pos (by omega)]
    exact (app_c hc (by rw [e]; decide)).1.trans e
  · obtain ⟨x, hx, ht, hv⟩ := hl
    refine (app_4 hc (hno h) ?_).1
    rw [hcs]
    cases hT : stC (givS S v)
    · rfl
    · exfalso
      have h1 := veC_tape (((stOk_iff _).1 hT).vok x hx) ht
      unfold onC at h1
      simp only [Bool.and_eq_true, Bool.not_eq_true'] at h1
      have h2 := (isGone_iff (givS S v) x.vol).2 (mem_put.2 (.inl hv))
      rw [h1.1.2] at h2
      cases h2
  · have hT := hO.give h h0 (fun x hx ht hv => hl ⟨x, hx, ht, hv⟩)
    obtain ⟨a1, a2⟩ := app_0 hc (hno h) (by rw [hcs]; exact (stOk_iff _).2 hT)
    refine ⟨a1, ?_⟩
    rw [a2, hcs]
    exact putA_len _ _ _
def livB (l : List Ve) (k : Nat) (v : Int) : Bool := (l.take k).any (fun x => decide (2 ≤ x.tier) && x.vol == v)
def goB (l : List Int) (k : Nat) (v : Int) : Bool := (l.take k).any (fun x => x == v)
theorem livB_next {l : List Ve} {k : Nat} (hk : k < l.length) (v : Int) : livB l (k + 1) v = (livB l k v || (decide (2 ≤ (l.getD k ve0).tier) && (l.getD k ve0).vol == v)) := by
  unfold livB
  rw [take_next l ve0 hk, List.any_append]
  simp
theorem goB_next {l : List Int} {k : Nat} (hk : k < l.length) (v : Int) : goB l (k + 1) v = (goB l k v || (l.getD k 0 == v)) := by
  unfold goB
  rw [take_next l 0 hk, List.any_append]
  simp
set_option maxHeartbeats 4000000 in
theorem goneEmpty_walk (lv : Value) (l : List Rw) (m : Int) (w : World) (hl : Raws w lv l) (hm : (Lit.int .i64 m).wf = true) :
    Calls Tryz.prog 10 #[lv, .int .i64 m] w fun e w' => e = .returned (.bool true) ∧ Below w.heap.size w w' := by
  obtain ⟨la, lc, rfl, hl1, hl2⟩ := hl.form
  unfold maxLen at hl2
  have HL := hide hl
  clear hl
  obtain ⟨m0, m1⟩ := wf_lo hm
  clear hm
  obtain ⟨S, hSS⟩ : ∃ S, staL l 40 = S := ⟨_, rfl⟩
  obtain ⟨n, hnn⟩ : ∃ n, cntN l (rnd l 40) = n := ⟨_, rfl⟩
  have hn2 : 2 ≤ n := by rw [← hnn]; exact cntN_two l _ (by unfold rnd; omega)
  have hok : stC S = true := by rw [← hSS]; exact staL_ok l 40
  have hc0 := stE_t hok
  have HC := hide hc0
  have hp0 := pickI_lo m (m := 8) (by decide)
  have hp1 := pickI_hi m (m := 8) (by decide)
  obtain ⟨V, hV⟩ : ∃ V, pickI m 8 = V := ⟨_, rfl⟩
  rw [hV] at hp0 hp1
  have HV := hide hV
  have hcs := give_cases hok (v := V) ⟨hp0, by omega⟩
  have HL1 : Hid (livB S.ves S.ves.length V = true ↔ ∃ x ∈ S.ves, 2 ≤ x.tier ∧ x.vol = V) := by
    show _ ↔ _
    unfold livB
    rw [List.take_length, List.any_eq_true]
    simp
  have HG1 : Hid (goB S.gone S.gone.length V = true ↔ V ∈ S.gone) := by
    show _ ↔ _
    unfold goB
    rw [List.take_length, List.any_eq_true]
    simp
  have hlen := tstC_len hok
  have hgl := (few_of hok).gone
  have HGB : Hid (S.gone.length ≤ 1000) := hgl
  clear hc0 hV
  go_enter Tryz.func10, Tryz.ntmps10
  go_wp2_with fail
  refine (kSt _ l 40 _ _ (unhide HL) rfl (by decide)).mono ?_
  rintro e w1 ⟨ba, bc, va, vc, ua, uc, qa, qc, ga, gc, oa, oc, rfl, hS, hb1⟩
  rw [hSS] at hS ⊢
  rw [hnn]
  have HSS := hide hSS
  have HNN := hide hnn
  clear hSS hnn
  go_upto_region 2 with fail
  generalize hWW : w1.alloc _ = W2
  have h2 : BoxS W2 w1.heap.size S (.slice ba S.bus.length bc) (.slice va S.ves.length vc) (.slice ua S.ups.length uc) (.slice qa S.que.length qc) (.slice ga S.gone.length gc) ∧ Below w1.heap.size w1 W2 := by
    rw [← hWW]
    exact ⟨BoxS.new _ _ _ _ _ _ _ _, bl1 _ _⟩
  clear hWW
  obtain ⟨hX, hb2⟩ := h2
  have hw2 := bl_trans hb1 hb2
  have HS := hide (hS.up hb2)
  have HX := hide hX
  clear hS hb1 hb2 hX
  go_wp2_with fail
  refine (picked_any m 8 _ (by decide) (by decide) m0 m1).mono ?_
  rintro e w3 ⟨rfl, rfl⟩
  rw [unhide HV]
  have x0 := (unhide HX).c0
  have x1 := (unhide HX).c1
  have x2 := (unhide HX).c2
  have x3 := (unhide HX).c3
  have x4 := (unhide HX).c4
  have x5 := (unhide HX).c5
  have x6 := (unhide HX).c6
  have hl2 := (unhide HX).lt
  go_wp2_with fail
  refine (kAp S _ _ _ _ _ (rGi V) nl nl nl _ (unhide HS) { rcN_fit 14 with } { rcN_wf 14 with vol := i64_wf (by show _ ≤ V; omega) (by show V ≤ _; omega) } (RcI.none _ _ rfl rfl rfl)).mono ?_
  rintro e w5 ⟨ba', bc', va', vc', ua', uc', qa', qc', ga', gc', rfl, hT, hb5⟩
  obtain ⟨T, hTT⟩ : ∃ T, appS S (rGi V) = T := ⟨_, rfl⟩
  obtain ⟨E, hE⟩ : ∃ E, appE S (rGi V) = E := ⟨_, rfl⟩
  rw [hTT] at hcs hT ⊢
  rw [hE] at hcs ⊢
  have HCS := hide hcs
  have HX5 := hide ((unhide HX).up hb5)
  have HS5 := hide ((unhide HS).up hb5)
  have hw5 := bl_trans hw2 hb5
  have hl5 := (unhide HX5).lt
  clear x0 x1 x2 x3 x4 x5 x6 hb5 hTT hE hl2 hcs
  go_upto_region 4 with fail
  generalize hWW : w5.alloc _ = W6
  have h6 : BoxS W6 w5.heap.size T (.slice ba' T.bus.length bc') (.slice va' T.ves.length vc') (.slice ua' T.ups.length uc') (.slice qa' T.que.length qc') (.slice ga' T.gone.length gc') ∧ Below w5.heap.size w5 W6 := by
    rw [← hWW]
    exact ⟨BoxS.new _ _ _ _ _ _ _ _, bl1 _ _⟩
  clear hWW
  obtain ⟨hX6, hb6⟩ := h6
  have HY6 := hide hX6
  have HX6 := hide ((unhide HX5).up hb6)
  have HS6 := hide ((unhide HS5).up hb6)
  have hw6 := bl_trans hw5 hb6
  have hl6 := (unhide HX6).lt
  have hl7 := hX6.lt
  clear hT hX6 hb6 hl5
  have HVS := hide (unhide HS6).ves
  have x3 := (unhide HX6).c3
  obtain ⟨lv, hlv⟩ : ∃ x, S.ves = x := ⟨_, rfl⟩
  rw [hlv] at x3 HVS HL1 hlen
  obtain ⟨N, hN⟩ : ∃ x, lv.length = x := ⟨_, rfl⟩
  rw [hN] at x3 HVS HL1 hlen
  have HN := hide hN
  have HLV := hide hlv
  clear hlv hN
  go_wp2
  go_loopw [10, 13, 33] (fun s _ i wr => ∃ k : Nat, k ≤ N ∧ i = .int .i64 k ∧ s = .bool (livB lv k V) ∧ Below W6.heap.size W6 wr) (fun _ _ i _ => N - (intOf i).toNat)
  case atStart => exact ⟨0, Nat.zero_le _, rfl, rfl, Below.refl _ _⟩
  case round =>
    clear x3
    obtain ⟨k, hk, rfl, rfl, hbr⟩ := hrel
    by_cases hlt : k < N
    · have hlt' : k < lv.length := by rw [unhide HN]; exact hlt
      obtain ⟨b8, o8, e8, r0⟩ := Lst.at (unhide HVS) hlt'
      have HNX := hide (livB_next hlt' V)
      obtain ⟨X, hX⟩ : ∃ X, lv.getD k ve0 = X := ⟨_, rfl⟩
      rw [hX] at r0 HNX
      obtain ⟨A, hA⟩ : ∃ A, livB lv k V = A := ⟨_, rfl⟩
      rw [hA] at HNX ⊢
      subst e8
      have r := RVe.up hbr r0
      obtain ⟨Y, hu, hI8⟩ := r.c8
      obtain ⟨ua8, uc8, rfl, _⟩ := hI8.form
      have c0 := r.c0
      have c1 := r.c1
      have c2 := r.c2
      have c3 := r.c3
      have c4 := r.c4
      have c5 := r.c5
      have c6 := r.c6
      have c7 := r.c7
      have c9 := r.c9
      have c10 := r.c10
      have c11 := r.c11
      clear r r0 hI8 hX hA
      cases A
      · by_cases ht : 2 ≤ X.tier
        · have hd : decide (2 ≤ X.tier) = true := by simpa using ht
          cases hq : (X.vol == V)
          · have HN2 : Hid (livB lv (k + 1) V = false) := (unhide HNX).trans (by simp only [hd, hq, Bool.false_or, Bool.and_false, Bool.and_true, Bool.true_and])
            clear hd
            go_wp2
            go_roundw
            case rel => exact ⟨k + 1, by omega, by go_num, by rw [unhide HN2], bl_trans hbr (bl1 _ _)⟩
            case measure => (simp [intOf] <;> omega)
          · have HN2 : Hid (livB lv (k + 1) V = true) := (unhide HNX).trans (by simp only [hd, hq, Bool.false_or, Bool.and_false, Bool.and_true, Bool.true_and])
            clear hd
            go_wp2
            go_roundw
            case rel => exact ⟨k + 1, by omega, by go_num, by rw [unhide HN2], bl_trans hbr (bl1 _ _)⟩
            case measure => (simp [intOf] <;> omega)
        · have hd : decide (2 ≤ X.tier) = false := by simpa using ht
          have HN2 : Hid (livB lv (k + 1) V = false) := (unhide HNX).trans (by simp only [hd, Bool.false_or, Bool.false_and])
          clear hd
          go_wp2
          go_roundw
          case rel => exact ⟨k + 1, by omega, by go_num, by rw [unhide HN2], bl_trans hbr (bl1 _ _)⟩
          case measure => (simp [intOf] <;> omega)
      · have HN2 : Hid (livB lv (k + 1) V = true) := (unhide HNX).trans (by simp only [Bool.true_or])
        go_wp2
        go_roundw
        case rel => exact ⟨k + 1, by omega, by go_num, by rw [unhide HN2], bl_trans hbr (bl1 _ _)⟩
        case measure => (simp [intOf] <;> omega)
    · obtain rfl : k = N := by omega
      obtain ⟨LB, hLB⟩ : ∃ x, livB lv k V = x := ⟨_, rfl⟩
      rw [hLB] at HL1 ⊢
      obtain ⟨wo, rfl⟩ : ∃ wo : World, wo = wr := ⟨_, rfl⟩
      have HYo := hide ((unhide HY6).up hbr)
      have HXo := hide ((unhide HX6).up hbr)
      have HSo := hide ((unhide HS6).up hbr)
      have HGS := hide (unhide HSo).gone
      have hwo := bl_trans hw6 hbr
      have x6 := (unhide HXo).c6
      have hlo := (unhide HXo).lt
      obtain ⟨lg, hlg⟩ : ∃ x, S.gone = x := ⟨_, rfl⟩
      rw [hlg] at x6 HGS HG1 hgl
      obtain ⟨NG, hNG⟩ : ∃ x, lg.length = x := ⟨_, rfl⟩
      rw [hNG] at x6 HGS HG1 hgl
      have HNG := hide hNG
      have HLG := hide hlg
      clear hLB hlt hlg hNG hbr
      go_wp2
      go_loopw [11, 15, 53] (fun s _ i wr => ∃ j : Nat, j ≤ NG ∧ i = .int .i64 j ∧ s = .bool (goB lg j V) ∧ wo = wr) (fun _ _ i _ => NG - (intOf i).toNat)
      case atStart => exact ⟨0, Nat.zero_le _, rfl, rfl, rfl⟩
      case round =>
        clear x6
        obtain ⟨j, hj, rfl, rfl, rfl⟩ := hrel
        by_cases hlt : j < NG
        · have hlt' : j < lg.length := by rw [unhide HNG]; exact hlt
          obtain ⟨b8, o8, e8, r0⟩ := Lst.at (unhide HGS) hlt'
          have HNX := hide (goB_next hlt' V)
          rw [Nat.mul_one] at r0
          obtain ⟨X, hX⟩ : ∃ X, lg.getD j 0 = X := ⟨_, rfl⟩
          rw [hX] at r0 HNX
          obtain ⟨A, hA⟩ : ∃ A, goB lg j V = A := ⟨_, rfl⟩
          rw [hA] at HNX ⊢
          subst e8
          have c0 := r0.1
          clear r0 hX hA
          cases A
          · cases hq : (X == V)
            · have HN2 : Hid (goB lg (j + 1) V = false) := (unhide HNX).trans (by simp only [hq, Bool.false_or])
              go_wp2
              go_roundw
              case rel => exact ⟨j + 1, by omega, by go_num, by rw [unhide HN2], by first | rfl | trivial⟩
              case measure => (simp [intOf] <;> omega)
            · have HN2 : Hid (goB lg (j + 1) V = true) := (unhide HNX).trans (by simp only [hq, Bool.false_or])
              go_wp2
              go_roundw
              case rel => exact ⟨j + 1, by omega, by go_num, by rw [unhide HN2], by first | rfl | trivial⟩
              case measure => (simp [intOf] <;> omega)
          · have HN2 : Hid (goB lg (j + 1) V = true) := (unhide HNX).trans (by simp only [Bool.true_or])
            go_wp2
            go_roundw
            case rel => exact ⟨j + 1, by omega, by go_num, by rw [unhide HN2], by first | rfl | trivial⟩
            case measure => (simp [intOf] <;> omega)
        · obtain rfl : j = NG := by omega
          obtain ⟨GB, hGB⟩ : ∃ x, goB lg j V = x := ⟨_, rfl⟩
          rw [hGB] at HG1 ⊢
          clear hGB hlt
          have x0 := (unhide HXo).c0
          have x1 := (unhide HXo).c1
          have x2 := (unhide HXo).c2
          have x3 := (unhide HXo).c3
          have x4 := (unhide HXo).c4
          have x5 := (unhide HXo).c5
          have x6 := (unhide HXo).c6
          go_wp2_with fail
          refine (check_any S _ _ _ _ _ _ (unhide HSo)).mono ?_
          rintro e w7 ⟨rfl, hb7⟩
          rw [unhide HC]
          have HX7 := hide ((unhide HXo).up hb7)
          have HY7 := hide ((unhide HYo).up hb7)
          have hw7 := bl_trans hwo hb7
          have hl8 := (unhide HX7).lt
          have hl9 := (unhide HY7).lt
          have y6 := (unhide HY7).c6
          clear x0 x1 x2 x3 x4 x5 x6 hb7
          obtain ⟨a7, a4, a0⟩ := unhide HCS
          cases GB
          · have hng : V ∉ S.gone := fun h => by
              rw [unhide HLG] at h
              have := (unhide HG1).2 h
              cases this
            cases LB
            · have hnl : ¬ ∃ x ∈ S.ves, 2 ≤ x.tier ∧ x.vol = V := fun h => by
                rw [unhide HLV] at h
                have := (unhide HL1).2 h
                cases this
              obtain ⟨rfl, hg⟩ := a0 hng hnl
              have q6 := (unhide HX7).c6
              have HGL := hide hg
              have hgb : S.gone.length ≤ 1000 := unhide HGB
              clear a7 a4 a0 hng hnl hg
              go_wp2
              go_ret
              exact ⟨by have hg := unhide HGL; first | rfl | (simp [hg]) | (simp; omega), hw7⟩
            · obtain rfl := a4 hng (by rw [unhide HLV]; exact (unhide HL1).1 rfl)
              clear a7 a4 a0 hng
              go_wp2
              go_ret
              exact ⟨rfl, hw7⟩
          · obtain rfl := a7 (by rw [unhide HLG]; exact (unhide HG1).1 rfl)
            clear a7 a4 a0
            go_wp2
            go_ret
            exact ⟨rfl, hw7⟩
end Go.Proofs.YtbfhkbmcleglaaaGreat
