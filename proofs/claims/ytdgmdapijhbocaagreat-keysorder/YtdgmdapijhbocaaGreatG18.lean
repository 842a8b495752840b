/- tier.isFor, tier.ids, Freeze, Drop, Chill. -/
import Derived.Test.YtdgmdapijhbocaaGreatG17
import Derived.Test.YtdgmdapijhbocaaGreatG16
import Derived.Test.YtdgmdapijhbocaaGreatG15
namespace Go.Proofs.YtdgmdapijhbocaaGreat
open Go.RowKit Go.Maps
set_option maxRecDepth 100000
set_option linter.unusedVariables false
set_option linter.unusedSimpArgs false
theorem oi_up {w w' : World} {B : Nat} {v : Value} {xs : List Int} (h : OwI w B v xs) (hb : Below w.heap.size w w') : OwI w' B v xs := World.ownsRow.kept h (gb_below (r := none) hb) (Classical.em _)
/-- The numbers of those of the first k versions for which it holds. -/
def idsK (l : List Ve) (p : Ve → Bool) (k : Nat) : List Int := ((l.take k).filter p).map (·.id)
theorem idsK_yes {l : List Ve} {p : Ve → Bool} {k : Nat} (hk : k < l.length) (h : p (l.getD k ve0) = true) : idsK l p (k + 1) = idsK l p k ++ [(l.getD k ve0).id] := by
  unfold idsK
  rw [take_next l ve0 hk, List.filter_append, List.map_append, show List.filter p [l.getD k ve0] = [l.getD k ve0] by rw [List.filter_cons, if_pos h]; rfl]
  rfl
theorem idsK_no {l : List Ve} {p : Ve → Bool} {k : Nat} (hk : k < l.length) (h : p (l.getD k ve0) = false) : idsK l p (k + 1) = idsK l p k := by
  unfold idsK
  rw [take_next l ve0 hk, List.filter_append, List.map_append, show List.filter p [l.getD k ve0] = [] by rw [List.filter_cons, if_neg (by rw [h]; decide)]; rfl]
  exact List.append_nil _
theorem idsK_len (l : List Ve) (p : Ve → Bool) (k : Nat) : (idsK l p k).length ≤ k := by
  unfold idsK
  have := List.length_filter_le p (l.take k)
  rw [List.length_map]
  have h2 := List.length_take_le k l
  omega
theorem idsK_congr {l : List Ve} {p q : Ve → Bool} (k : Nat) (h : ∀ x ∈ l, p x = q x) : idsK l p k = idsK l q k := by
  unfold idsK
  congr 1
  exact List.filter_congr fun x hx => h x (List.mem_of_mem_take hx)
theorem mem_ids {l : List Ve} {p : Ve → Bool} {k : Nat} {n : Int} (h : n ∈ idsK l p k) : ∃ x ∈ l, x.id = n := by
  unfold idsK at h
  obtain ⟨x, hx, rfl⟩ := List.mem_map.1 h
  exact ⟨x, List.mem_of_mem_take (List.mem_filter.1 hx).1, rfl⟩
theorem tstC_ves {S : St} (h : stC S = true) : vesC S = true := by
  unfold stC at h
  simp only [Bool.and_eq_true] at h
  exact h.1.1.1.2
theorem tstC_clock {S : St} (h : stC S = true) : 0 ≤ S.clock ∧ S.clock ≤ 1073741824 := by
  unfold stC at h
  simp only [Bool.and_eq_true] at h
  exact inB_t h.1.1.1.1.1.1.2
theorem tstC_next {S : St} (h : stC S = true) : 1 ≤ S.next ∧ S.next ≤ 1048576 := by
  unfold stC at h
  simp only [Bool.and_eq_true] at h
  exact inB_t h.1.1.1.1.1.1.1
theorem tstC_at {S : St} (h : stC S = true) {x : Ve} (hx : x ∈ S.ves) : veC S x = true := by
  have h1 := tstC_ves h
  unfold vesC at h1
  simp only [Bool.and_eq_true] at h1
  obtain ⟨k, hk, e⟩ := mem_at (d := ve0) hx
  have := allB_iff.1 h1.1.2 k hk
  unfold vesQ at this
  rwa [e] at this
theorem tstC_len {S : St} (h : stC S = true) : S.ves.length ≤ 40 := by
  have h1 := tstC_ves h
  unfold vesC at h1
  simp only [Bool.and_eq_true, decide_eq_true_eq] at h1
  have := h1.1.1.1
  omega
theorem tveC_id {S : St} {x : Ve} (h : veC S x = true) : 1 ≤ x.id ∧ x.id ≤ S.next - 1 := by
  unfold veC namC at h
  simp only [Bool.and_eq_true] at h
  exact inB_t h.1.1.1.1
theorem tveC_time {S : St} {x : Ve} (h : veC S x = true) : 0 ≤ x.time ∧ x.time ≤ S.clock := by
  unfold veC namC at h
  simp only [Bool.and_eq_true] at h
  exact inB_t h.1.2
theorem mem_getD {l : List Ve} {k : Nat} (hk : k < l.length) : l.getD k ve0 ∈ l := by
  rw [List.getD_eq_getElem?_getD, List.getElem?_eq_getElem hk]
  exact List.getElem_mem hk
theorem ids_wf {S : St} (h : stC S = true) (p : Ve → Bool) (k : Nat) : ∀ x ∈ idsK S.ves p k, (Lit.int .i64 x).wf = true := by
  intro n hn
  obtain ⟨x, hx, rfl⟩ := mem_ids hn
  have h1 := tveC_id (tstC_at h hx)
  have h2 := tstC_next h
  obtain ⟨m, hm⟩ := Int.eq_ofNat_of_zero_le (show 0 ≤ x.id by omega)
  rw [hm]
  exact wfNat (by omega)
set_option maxHeartbeats 1000000 in
theorem index_isFor (C1 C2 C3 : Value) (a : Option Addr) (cap : Nat) (xs : List Bu) (p : Nat → Bool) (w : World) (hL : Lst RBu 5 bu0 w (.slice a xs.length cap) xs) (hn : xs.length ≤ 9223372036854775807)
    (hst : ∀ (k : Nat) (wr : World) (X : Bu), k < xs.length → xs.getD k bu0 = X → X.pre.size ≤ maxLen → Below w.heap.size w wr → Calls Tryz.prog 115 #[buV X, C1, C2, C3] wr fun e w' => e = .returned (.bool (p k)) ∧ Below wr.heap.size wr w') :
    Calls Tryz.prog 152 #[.slice a xs.length cap, .func (.func 115) #[] #[C1, C2, C3]] w fun e w' => e = .returned (.int .i64 (firstI xs.length p)) ∧ Below w.heap.size w w' := by
  have HL := hide hL
  have HST := hide hst
  clear hL hst
  obtain ⟨N, hN⟩ : ∃ N, xs.length = N := ⟨_, rfl⟩
  have HN := hide hN
  rw [hN] at hn HL HST ⊢
  clear hN
  go_enter Tryz.func152, Tryz.ntmps152
  go_wp2
  go_loopw [5, 8] (fun _ i wr => ∃ k : Nat, k ≤ N ∧ i = .int .i64 k ∧ Below w.heap.size w wr ∧ ∀ j, j < k → p j = false) (fun _ i _ => N - (intOf i).toNat)
  case atStart => exact ⟨0, Nat.zero_le _, rfl, Below.refl _ _, fun j hj => absurd hj (Nat.not_lt_zero _)⟩
  case round =>
    obtain ⟨k, hk, rfl, hb, hall⟩ := hrel
    have HA := hide hall
    clear hall
    by_cases hlt : k < N
    · obtain ⟨b, o, rfl, r0⟩ := Lst.at (unhide HL) (i := k) (by rw [unhide HN]; exact hlt)
      obtain ⟨X, hX⟩ : ∃ X, xs.getD k bu0 = X := ⟨_, rfl⟩
      rw [hX] at r0
      have r := RBu.up hb r0
      have HX := hide hX
      clear hX r0
      have hI := hb
      have c0 := r.c0
      have c1 := r.c1
      have c2 := r.c2
      have c3 := r.c3
      have c4 := r.c4
      have HZ := hide r.s2
      have HI := hide hI
      clear r hI
      go_wp2_with fail
      refine (unhide HST k _ X hlt (unhide HX) (unhide HZ) (unhide HI)).mono ?_
      rintro e w1 ⟨rfl, hb1⟩
      cases hpk : p k
      · go_wp2
        go_roundw
        case rel => exact ⟨k + 1, by omega, by go_num, bl_trans hb hb1, fun j hj => if e : j < k then unhide HA j e else (show j = k by omega) ▸ hpk⟩
        case measure => simp [intOf]; omega
      · go_wp2
        go_ret
        exact ⟨ret_int (firstI_t hlt hpk (unhide HA)).symm, bl_trans hb hb1⟩
    · obtain rfl : k = N := by omega
      go_wp2
      go_ret
      exact ⟨ret_int (firstI_f (unhide HA)).symm, hb⟩
theorem contains_isFor (C1 C2 C3 : Value) (a : Option Addr) (cap : Nat) (xs : List Bu) (p : Nat → Bool) (w : World) (hL : Lst RBu 5 bu0 w (.slice a xs.length cap) xs) (hn : xs.length ≤ 9223372036854775807)
    (hst : ∀ (k : Nat) (wr : World) (X : Bu), k < xs.length → xs.getD k bu0 = X → X.pre.size ≤ maxLen → Below w.heap.size w wr → Calls Tryz.prog 115 #[buV X, C1, C2, C3] wr fun e w' => e = .returned (.bool (p k)) ∧ Below wr.heap.size wr w') :
    Calls Tryz.prog 104 #[.slice a xs.length cap, .func (.func 115) #[] #[C1, C2, C3]] w fun e w' => e = .returned (.bool (decide (0 ≤ firstI xs.length p))) ∧ Below w.heap.size w w' := by
  have HL := hide hL
  have HST := hide hst
  have HN := hide hn
  clear hL hst hn
  go_enter Tryz.func104, Tryz.ntmps104
  go_wp2_with fail
  refine (index_isFor C1 C2 C3 a cap xs p w (unhide HL) (unhide HN) (unhide HST)).mono ?_
  rintro e w1 ⟨rfl, hb⟩
  go_wp2
  go_ret
  exact ⟨rfl, hb⟩
def ageE (S : St) (X : Ve) (dr : Bool) : Bool := decide (0 ≤ firstI S.bus.length (fun i => ageP S X dr (S.bus.getD i bu0)))
theorem isFor_fre (S : St) (X : Ve) (b v u q g : Value) (ua : Option Addr) (un uc : Nat) (w : World) (hS : Sta w b v u q g S)
    (hc0 : 0 ≤ S.clock) (hc1 : S.clock ≤ 1073741824) (ht0 : 0 ≤ X.time) (ht1 : X.time ≤ 1073741824) (hk : X.ke.size ≤ maxLen) :
    Calls Tryz.prog 48 #[stV S b v u q g, veV X (.slice ua un uc), .func (.func 49) #[] #[]] w fun e w' => e = .returned (.bool (ageE S X false)) ∧ Below w.heap.size w w' := by
  obtain ⟨ba, bc, rfl, hb1, hb2⟩ := hS.bus.form
  unfold maxLen at hb2
  have HS := hide hS
  have HK := hide hk
  have H1 := hide (And.intro hc0 (And.intro hc1 (And.intro ht0 ht1)))
  obtain ⟨R, hR⟩ : ∃ R, ageE S X false = R := ⟨_, rfl⟩
  rw [hR]
  have HR := hide hR
  clear hS hk hc0 hc1 ht0 ht1 hR
  go_enter Tryz.func48, Tryz.ntmps48
  go_wp2_with fail
  have hw3 := bl_alloc (bl_alloc (bl1 w (.cells #[.int .i64 S.next, .int .i64 S.clock, .slice ba S.bus.length bc, v, u, q, g] 29)) (.cells (veB X (.slice ua un uc)) 36)) (.cells #[.func (.func 49) #[] #[]] 95)
  refine (contains_isFor _ _ _ ba bc S.bus (fun i => ageP S X false (S.bus.getD i bu0)) _ ((unhide HS).up hw3).bus (by omega) ?_).mono ?_
  · intro k wr Y hk hY hp hbr
    subst hY
    obtain ⟨k0, k1, k2, k3⟩ := unhide H1
    exact isFor_1_fre S X _ v u q g _ _ _ _ _ wr (scell_up hbr (by rw [World.cell?_alloc_at _ _ _ _ (by simp)]; rfl)) (((BoxV.at _ X _ _ (by simp)).up (bl1 _ _)).up hbr) (((BoxS.new w S _ v u q g _).up (bl_alloc (bl1 _ _) _)).up hbr) k0 k1 k2 k3 (unhide HK) hp
  rintro e w1 ⟨rfl, hb⟩
  go_wp2
  go_ret
  exact ⟨ret_bool (unhide HR), bl_trans hw3 hb⟩
theorem isFor_dro (S : St) (X : Ve) (b v u q g : Value) (ua : Option Addr) (un uc : Nat) (w : World) (hS : Sta w b v u q g S)
    (hc0 : 0 ≤ S.clock) (hc1 : S.clock ≤ 1073741824) (ht0 : 0 ≤ X.time) (ht1 : X.time ≤ 1073741824) (hk : X.ke.size ≤ maxLen) :
    Calls Tryz.prog 48 #[stV S b v u q g, veV X (.slice ua un uc), .func (.func 51) #[] #[]] w fun e w' => e = .returned (.bool (ageE S X true)) ∧ Below w.heap.size w w' := by
  obtain ⟨ba, bc, rfl, hb1, hb2⟩ := hS.bus.form
  unfold maxLen at hb2
  have HS := hide hS
  have HK := hide hk
  have H1 := hide (And.intro hc0 (And.intro hc1 (And.intro ht0 ht1)))
  obtain ⟨R, hR⟩ : ∃ R, ageE S X true = R := ⟨_, rfl⟩
  rw [hR]
  have HR := hide hR
  clear hS hk hc0 hc1 ht0 ht1 hR
  go_enter Tryz.func48, Tryz.ntmps48
  go_wp2_with fail
  have hw3 := bl_alloc (bl_alloc (bl1 w (.cells #[.int .i64 S.next, .int .i64 S.clock, .slice ba S.bus.length bc, v, u, q, g] 29)) (.cells (veB X (.slice ua un uc)) 36)) (.cells #[.func (.func 51) #[] #[]] 95)
  refine (contains_isFor _ _ _ ba bc S.bus (fun i => ageP S X true (S.bus.getD i bu0)) _ ((unhide HS).up hw3).bus (by omega) ?_).mono ?_
  · intro k wr Y hk hY hp hbr
    subst hY
    obtain ⟨k0, k1, k2, k3⟩ := unhide H1
    exact isFor_1_dro S X _ v u q g _ _ _ _ _ wr (scell_up hbr (by rw [World.cell?_alloc_at _ _ _ _ (by simp)]; rfl)) (((BoxV.at _ X _ _ (by simp)).up (bl1 _ _)).up hbr) (((BoxS.new w S _ v u q g _).up (bl_alloc (bl1 _ _) _)).up hbr) k0 k1 k2 k3 (unhide HK) hp
  rintro e w1 ⟨rfl, hb⟩
  go_wp2
  go_ret
  exact ⟨ret_bool (unhide HR), bl_trans hw3 hb⟩
end Go.Proofs.YtdgmdapijhbocaaGreat

/- Lists of numbers that stay, whatever is written to older blocks. -/
namespace Go.Proofs.YtdgmdapijhbocaaGreat
open Go.RowKit Go.Maps
set_option linter.unusedVariables false
set_option linter.unusedSimpArgs false
def Kpt (w : World) (B : Nat) (v : Value) (xs : List Int) : Prop := ∀ W, Agr w W B none → Ints W v xs
theorem Kpt.ints {w : World} {B : Nat} {v : Value} {xs : List Int} (h : Kpt w B v xs) : Ints w v xs := h w fun _ _ _ _ => rfl
theorem Kpt.next {w w' : World} {B j : Nat} {v : Value} {xs : List Int} (h : Kpt w B v xs) (hg : w.grownBy w' (some j)) (hj : j < B) : Kpt w' B v xs := fun W ha => h W fun k h1 h2 _ => by
  rw [ha k h1 (Nat.lt_of_lt_of_le h2 hg.size) (by simp)]
  exact hg.block k h2 (fun e => by injection e with e; omega)
theorem Kpt.up {w w' : World} {B : Nat} {v : Value} {xs : List Int} (h : Kpt w B v xs) (hb : Below w.heap.size w w') : Kpt w' B v xs := fun W ha => h W fun k h1 h2 _ => by
  rw [ha k h1 (Nat.lt_of_lt_of_le h2 hb.size) (by simp)]
  exact hb.block k h2
theorem Kpt.lo {w : World} {B B' : Nat} {v : Value} {xs : List Int} (h : Kpt w B v xs) (hB : B' ≤ B) : Kpt w B' v xs := fun W ha => h W fun k h1 h2 h3 => ha k (by omega) h2 h3
theorem Kpt.nil (w : World) (B : Nat) : Kpt w B (.slice none 0 0) [] := fun W _ => Ints.nil9 W
theorem veC_size {S : St} {x : Ve} (h : veC S x = true) : 0 ≤ x.size ∧ x.size ≤ 600 := by
  unfold veC at h
  simp only [Bool.and_eq_true] at h
  obtain ⟨_, h⟩ := h
  split at h
  · simp only [Bool.and_eq_true, beq_iff_eq] at h
    have := h.1.1.1.1
    omega
  · simp only [Bool.and_eq_true] at h
    exact inB_t h.1
end Go.Proofs.YtdgmdapijhbocaaGreat

/- icehousekeep.Record, kind by kind. -/
namespace Go.Proofs.YtdgmdapijhbocaaGreat
open Go.RowKit Go.Maps
set_option maxRecDepth 100000
set_option linter.unusedVariables false
set_option linter.unusedSimpArgs false
def avF (s : Nat) (x : Rw) (NX : Int) (NM KY : ByteArray) (D3 C PC : Int) (i : Nat) (v : Value) : Prop :=
  match i with
  | 0 => v = .pointer (some ⟨s, 0, none⟩)
  | 1 => v = .int .i64 NX
  | 2 => v = .pointer (some ⟨s + 1, 1, none⟩)
  | 3 => v = .int .i64 x.a
  | 4 => v = .string NM
  | 5 => v = .pointer (some ⟨s + 1, 2, none⟩)
  | 6 => v = .int .i64 x.b
  | 7 => v = .string KY
  | 8 => v = .pointer (some ⟨s + 1, 4, none⟩)
  | 9 => v = .int .i64 x.d
  | 10 => v = .int .i64 D3
  | 11 => v = .bool (D3 == 0)
  | 12 => v = .pointer (some ⟨s + 1, 3, none⟩)
  | 13 => v = .int .i64 x.c
  | 14 => v = .pointer (some ⟨s, 1, none⟩)
  | 15 => v = .int .i64 C
  | 16 => v = .int .i64 (C + 1)
  | 17 => v = .int .i64 PC
  | 18 => v = .agg #[.int .i64 NX, .string NM, .string KY, .bool (D3 == 0), .bool false, .int .i64 0, .int .i64 PC, .int .i64 0, .slice none 0 0, .int .i64 0, .int .i64 0, .int .i64 0]
  | 19 => v = .pointer (some ⟨s + 1 + 1 + 1, 8, none⟩)
  | _ => True
set_option maxHeartbeats 2000000 in
theorem record_3B (S : St) (b v u q g : Value) (x : Rw) (w : World) (hS : Sta w b v u q g S) (hc : stC S = true) (hx : WfW x) (hk : pickI x.kind 14 = 3) (hm : ¬ pickI x.d 5 = 0) :
    Calls Tryz.prog 25 #[stV S b v u q g, rwV x] w fun e w' => ∃ vv pv sv, e = .returned (rcV (recR S x) vv pv sv) ∧ RcI w' (recR S x) vv pv sv ∧ Below w.heap.size w w' := by
  have HS := hide hS
  obtain ⟨hk0, ha0, hb0, hc0, hd0⟩ := hx
  have HQ : Hid (recR S x = { rcN 4 with ver := verR S x }) := by show _ = _; unfold recR; simp [hk]
  obtain ⟨Q, hQ⟩ : ∃ Q, recR S x = Q := ⟨_, rfl⟩
  rw [hQ] at HQ ⊢
  clear hQ hS
  have HK : Hid (∀ W : World, Calls Tryz.prog 10 #[.int .i64 x.kind, .int .i64 14] W fun e w' => e = .returned (.int .i64 3) ∧ W = w') := fun W => by
    have := picked_any x.kind 14 W (by decide) (by decide) hk0.1 hk0.2
    rw [hk] at this; exact this
  clear hk
  have hVR : verR S x = ⟨S.next, nmB x.a, kyB x.b, pickI x.d 3 == 0, false, pickI x.c 200, pickI x.c (S.clock + 1), 1, secF S (pickI x.c 200), 0, 0, 0⟩ := by unfold verR; rw [if_neg hm]
  have hfew := few_of hc
  have hf0 := hfew.c0
  have hf1 := hfew.c1
  clear hfew
  have hlo2 := pickI_lo x.c (m := 200) (by decide)
  have hhi2 := pickI_hi x.c (m := 200) (by decide)
  obtain ⟨NM, hNM⟩ : ∃ n, nmB x.a = n := ⟨_, rfl⟩
  obtain ⟨KY, hKY⟩ : ∃ n, kyB x.b = n := ⟨_, rfl⟩
  obtain ⟨D3, hD3⟩ : ∃ n, pickI x.d 3 = n := ⟨_, rfl⟩
  obtain ⟨SZ, hSZ⟩ : ∃ n, pickI x.c 200 = n := ⟨_, rfl⟩
  obtain ⟨PC, hPC⟩ : ∃ n, pickI x.c (S.clock + 1) = n := ⟨_, rfl⟩
  obtain ⟨M, hM⟩ : ∃ M, pickI x.d 5 = M := ⟨_, rfl⟩
  obtain ⟨SE, hSE⟩ : ∃ M, secF S SZ = M := ⟨_, rfl⟩
  obtain ⟨NX, hNX⟩ : ∃ M, S.next = M := ⟨_, rfl⟩
  obtain ⟨C, hC⟩ : ∃ M, S.clock = M := ⟨_, rfl⟩
  rw [hVR, hNM, hKY, hD3, hSZ, hPC, hSE, hNX] at HQ
  rw [hSZ] at hlo2 hhi2
  rw [hM] at hm
  have hm2 : (M == 0) = false := by simpa using hm
  have HPC : Hid (∀ W : World, Calls Tryz.prog 10 #[.int .i64 x.c, .int .i64 (C + 1)] W fun e w' => e = .returned (.int .i64 PC) ∧ W = w') := fun W => by
    have := picked_any x.c (S.clock + 1) W (by omega) (by omega) hc0.1 hc0.2
    rw [hPC, hC] at this
    exact this
  have HMP : Hid (∀ W : World, Calls Tryz.prog 10 #[.int .i64 x.d, .int .i64 5] W fun e w' => e = .returned (.int .i64 M) ∧ W = w') := fun W => by
    have := picked_any x.d 5 W (by decide) (by decide) hd0.1 hd0.2
    rw [hM] at this; exact this
  have HSP : Hid (∀ W : World, Calls Tryz.prog 10 #[.int .i64 x.c, .int .i64 200] W fun e w' => e = .returned (.int .i64 SZ) ∧ W = w') := fun W => by
    have := picked_any x.c 200 W (by decide) (by decide) hc0.1 hc0.2
    rw [hSZ] at this; exact this
  have HDP : Hid (∀ W : World, Calls Tryz.prog 10 #[.int .i64 x.d, .int .i64 3] W fun e w' => e = .returned (.int .i64 D3) ∧ W = w') := fun W => by
    have := picked_any x.d 3 W (by decide) (by decide) hd0.1 hd0.2
    rw [hD3] at this; exact this
  have HNP : Hid (∀ W : World, Calls Tryz.prog 18 #[.int .i64 x.a] W fun e w' => e = .returned (.string NM) ∧ Below W.heap.size W w') := fun W => by
    have := name_any x.a W ha0.1 ha0.2
    rw [hNM] at this; exact this
  have HKP : Hid (∀ W : World, Calls Tryz.prog 19 #[.int .i64 x.b] W fun e w' => e = .returned (.string KY) ∧ Below W.heap.size W w') := fun W => by
    have := key_any x.b W hb0.1 hb0.2
    rw [hKY] at this; exact this
  rw [hC] at hf0 hf1
  have HW : Hid (IntKind.i64.wrap (C + 1) = C + 1) := Go.IntWalk.i64_in _ (by omega)
  have HSE := hide hSE
  have HNX := hide hNX
  have HC := hide hC
  clear hm hVR hNM hKY hD3 hSZ hPC hM hSE hNX hC
  go_enter Tryz.func25, Tryz.ntmps25
  go_wp2_with fail
  refine (unhide HK _).mono ?_
  rintro e w1 ⟨rfl, rfl⟩
  simp only []
  rename_i hK0
  refine hK0 _ _ ?_
  clear hK0
  refine wpList_plain rfl (fun K hK => ?_)
  go_simp
  refine hK _ _ ?_
  clear hK
  refine wpList_plain rfl (fun K hK => ?_)
  go_simp
  refine hK _ _ ?_
  clear hK
  refine wpList_plain rfl (fun K hK => ?_)
  go_simp
  refine hK _ _ ?_
  clear hK
  rw [show IntKind.wrap .i64 4 = 4 by decide]
  refine wpList_store_mid rfl 47 (.tmp 5) (.tmp 14) rfl (w.heap.size + 1 + 1 + 1) 0 (rcA (rcN 4) nl nl nl) rfl rfl (there_of (c := rcA (rcN 0) nl nl nl) (t := 47) (rec_new _ _ _ _ _)) (by kernel_rfl) (by simp [Value.oneCell']) ?_
  generalize hWW : World.setCells _ (w.heap.size + 1 + 1 + 1) 0 _ = W1
  have hrr : W1.heap[w.heap.size]? = some (.cells #[.int .i64 S.next, .int .i64 S.clock, b, v, u, q, g] 29 (0, 0)) ∧ W1.heap[w.heap.size + 1]? = some (.cells #[.int .i64 x.kind, .int .i64 x.a, .int .i64 x.b, .int .i64 x.c, .int .i64 x.d, .string x.text] 72 (0, 0)) ∧ W1.heap[w.heap.size + 1 + 1]? = some (.cells (rcA (rcN 0) nl nl nl) 47 (0, 0)) ∧ W1.heap[w.heap.size + 1 + 1 + 1]? = some (.cells (rcA (rcN 4) nl nl nl) 47 (0, 0)) ∧ Below w.heap.size w W1 := by
    rw [← hWW]
    exact rec_rows w (.cells #[.int .i64 S.next, .int .i64 S.clock, b, v, u, q, g] 29) (.cells #[.int .i64 x.kind, .int .i64 x.a, .int .i64 x.b, .int .i64 x.c, .int .i64 x.d, .string x.text] 72) (.cells (rcA (rcN 0) nl nl nl) 47) (rcA (rcN 0) nl nl nl) (rcA (rcN 4) nl nl nl) rfl
  clear hWW
  obtain ⟨r0, r1, r2, r3, hw1⟩ := hrr
  have HRR0 : Hid (RR w W1 #[.int .i64 S.next, .int .i64 S.clock, b, v, u, q, g] x (rcA (rcN 4) nl nl nl)) := ⟨r0, r1, r2, r3, hw1⟩
  have k0 : W1.cell? ⟨w.heap.size + 1 + 1 + 1, 0, none⟩ = some (.int .i64 4) := cell_of r3 0 rfl
  clear r0 r1 r2 r3
  have xa0_0 := cell_of (unhide HRR0).r1 0 rfl
  have xa1_0 := cell_of (unhide HRR0).r1 1 rfl
  have xa2_0 := cell_of (unhide HRR0).r1 2 rfl
  have xa3_0 := cell_of (unhide HRR0).r1 3 rfl
  have xa4_0 := cell_of (unhide HRR0).r1 4 rfl
  have sa0_0 := cell_of (unhide HRR0).r0 0 rfl
  have sa1_0 := cell_of (unhide HRR0).r0 1 rfl
  have sa2_0 := cell_of (unhide HRR0).r0 2 rfl
  have sa3_0 := cell_of (unhide HRR0).r0 3 rfl
  have sa4_0 := cell_of (unhide HRR0).r0 4 rfl
  have sa5_0 := cell_of (unhide HRR0).r0 5 rfl
  have sa6_0 := cell_of (unhide HRR0).r0 6 rfl
  have pa1_0 := cell_of (unhide HRR0).r3 1 rfl
  have pa2_0 := cell_of (unhide HRR0).r3 2 rfl
  have pa3_0 := cell_of (unhide HRR0).r3 3 rfl
  have pa4_0 := cell_of (unhide HRR0).r3 4 rfl
  have pa27_0 := cell_of (unhide HRR0).r3 27 rfl
  have pa28_0 := cell_of (unhide HRR0).r3 28 rfl
  have pf0 := fun j => fz_of (unhide HRR0).r3 j
  have pl0 := (unhide HRR0).lt
  have ql0 := (unhide HRR0).lt0
  have qm0 := (unhide HRR0).lt1
  go_upto_region 14 with (first
    | (with_reducible refine (unhide HSP _).mono ?_; rintro e w3 ⟨rfl, rfl⟩)
    | fail)
  clear xa0_0 xa1_0 xa2_0 xa3_0 xa4_0 sa0_0 sa1_0 sa2_0 sa3_0 sa4_0 sa5_0 sa6_0 pa1_0 pa2_0 pa3_0 pa4_0 pa27_0 pa28_0 pf0 pl0 ql0 qm0
  refine wp_last 20 (fun i v _ => avF w.heap.size x NX NM KY D3 C PC i v) (by kernel_rfl) (by kernel_rfl) (by kernel_rfl) rfl rfl (fun _ _ _ _ _ h => h) ?_ ?_
  · refine AllOps.cons ?_ (AllOps.cons ?_ (AllOps.cons ?_ (AllOps.cons ?_ (AllOps.cons ?_ (AllOps.cons ?_ (AllOps.cons ?_ (AllOps.cons ?_ (AllOps.cons ?_ (AllOps.cons ?_ (AllOps.cons ?_ (AllOps.cons ?_ (AllOps.cons ?_ (AllOps.cons ?_ (AllOps.cons ?_ (AllOps.cons ?_ (AllOps.cons ?_ (AllOps.cons ?_ (AllOps.cons ?_ (AllOps.cons ?_ (AllOps.cons ?_ (AllOps.nil)))))))))))))))))))))
    · intro _ a w9 hA hb hd
      have t2 : a.tmps.getD 2 undef = .pointer (some ⟨w.heap.size, 0, none⟩) := hA 2 rfl
      refine ⟨by rfl, ?_⟩
      go_simp
      exact ⟨_, rfl, Below.refl _ _, rfl⟩
    · intro _ a w9 hA hb hd
      have d0 : a.tmps[65]?.getD undef = .pointer (some ⟨w.heap.size, 0, none⟩) := by rw [← Array.getD_eq_getD_getElem?]; exact hd 0 (by kernel_rfl) _ rfl
      have g1 := cell_of ((unhide HRR0).up hb).r0 0 rfl
      rw [unhide HNX] at g1
      refine ⟨by rfl, ?_⟩
      go_simp
      exact ⟨_, rfl, Below.refl _ _, rfl⟩
    · intro _ a w9 hA hb hd
      have t3 : a.tmps.getD 3 undef = .pointer (some ⟨w.heap.size + 1, 0, none⟩) := hA 3 rfl
      refine ⟨by rfl, ?_⟩
      go_simp
      exact ⟨_, rfl, Below.refl _ _, rfl⟩
    · intro _ a w9 hA hb hd
      have d2 : a.tmps[67]?.getD undef = .pointer (some ⟨w.heap.size + 1, 1, none⟩) := by rw [← Array.getD_eq_getD_getElem?]; exact hd 2 (by kernel_rfl) _ rfl
      have g1 := cell_of ((unhide HRR0).up hb).r1 1 rfl
      refine ⟨by rfl, ?_⟩
      go_simp
      exact ⟨_, rfl, Below.refl _ _, rfl⟩
    · intro _ a w9 hA hb hd
      have d3 : a.tmps[68]?.getD undef = .int .i64 x.a := by rw [← Array.getD_eq_getD_getElem?]; exact hd 3 (by kernel_rfl) _ rfl
      refine ⟨by rfl, ?_⟩
      go_simp
      go_at_call 18
      refine (unhide HNP _).mono ?_
      rintro e w' ⟨rfl, bq⟩
      exact ⟨_, rfl, bq, rfl⟩
    · intro _ a w9 hA hb hd
      have t3 : a.tmps.getD 3 undef = .pointer (some ⟨w.heap.size + 1, 0, none⟩) := hA 3 rfl
      refine ⟨by rfl, ?_⟩
      go_simp
      exact ⟨_, rfl, Below.refl _ _, rfl⟩
    · intro _ a w9 hA hb hd
      have d5 : a.tmps[70]?.getD undef = .pointer (some ⟨w.heap.size + 1, 2, none⟩) := by rw [← Array.getD_eq_getD_getElem?]; exact hd 5 (by kernel_rfl) _ rfl
      have g1 := cell_of ((unhide HRR0).up hb).r1 2 rfl
      refine ⟨by rfl, ?_⟩
      go_simp
      exact ⟨_, rfl, Below.refl _ _, rfl⟩
    · intro _ a w9 hA hb hd
      have d6 : a.tmps[71]?.getD undef = .int .i64 x.b := by rw [← Array.getD_eq_getD_getElem?]; exact hd 6 (by kernel_rfl) _ rfl
      refine ⟨by rfl, ?_⟩
      go_simp
      go_at_call 19
      refine (unhide HKP _).mono ?_
      rintro e w' ⟨rfl, bq⟩
      exact ⟨_, rfl, bq, rfl⟩
    · intro _ a w9 hA hb hd
      have t3 : a.tmps.getD 3 undef = .pointer (some ⟨w.heap.size + 1, 0, none⟩) := hA 3 rfl
      refine ⟨by rfl, ?_⟩
      go_simp
      exact ⟨_, rfl, Below.refl _ _, rfl⟩
    · intro _ a w9 hA hb hd
      have d8 : a.tmps[73]?.getD undef = .pointer (some ⟨w.heap.size + 1, 4, none⟩) := by rw [← Array.getD_eq_getD_getElem?]; exact hd 8 (by kernel_rfl) _ rfl
      have g1 := cell_of ((unhide HRR0).up hb).r1 4 rfl
      refine ⟨by rfl, ?_⟩
      go_simp
      exact ⟨_, rfl, Below.refl _ _, rfl⟩
    · intro _ a w9 hA hb hd
      have d9 : a.tmps[74]?.getD undef = .int .i64 x.d := by rw [← Array.getD_eq_getD_getElem?]; exact hd 9 (by kernel_rfl) _ rfl
      refine ⟨by rfl, ?_⟩
      go_simp
      go_at_call 10
      refine (unhide HDP _).mono ?_
      rintro e w' ⟨rfl, rfl⟩
      exact ⟨_, rfl, Below.refl _ _, rfl⟩
    · intro _ a w9 hA hb hd
      have d10 : a.tmps[75]?.getD undef = .int .i64 D3 := by rw [← Array.getD_eq_getD_getElem?]; exact hd 10 (by kernel_rfl) _ rfl
      refine ⟨by rfl, ?_⟩
      go_simp
      exact ⟨_, rfl, Below.refl _ _, rfl⟩
    · intro _ a w9 hA hb hd
      have t3 : a.tmps.getD 3 undef = .pointer (some ⟨w.heap.size + 1, 0, none⟩) := hA 3 rfl
      refine ⟨by rfl, ?_⟩
      go_simp
      exact ⟨_, rfl, Below.refl _ _, rfl⟩
    · intro _ a w9 hA hb hd
      have d12 : a.tmps[77]?.getD undef = .pointer (some ⟨w.heap.size + 1, 3, none⟩) := by rw [← Array.getD_eq_getD_getElem?]; exact hd 12 (by kernel_rfl) _ rfl
      have g1 := cell_of ((unhide HRR0).up hb).r1 3 rfl
      refine ⟨by rfl, ?_⟩
      go_simp
      exact ⟨_, rfl, Below.refl _ _, rfl⟩
    · intro _ a w9 hA hb hd
      have t2 : a.tmps.getD 2 undef = .pointer (some ⟨w.heap.size, 0, none⟩) := hA 2 rfl
      refine ⟨by rfl, ?_⟩
      go_simp
      exact ⟨_, rfl, Below.refl _ _, rfl⟩
    · intro _ a w9 hA hb hd
      have d14 : a.tmps[79]?.getD undef = .pointer (some ⟨w.heap.size, 1, none⟩) := by rw [← Array.getD_eq_getD_getElem?]; exact hd 14 (by kernel_rfl) _ rfl
      have g1 := cell_of ((unhide HRR0).up hb).r0 1 rfl
      rw [unhide HC] at g1
      refine ⟨by rfl, ?_⟩
      go_simp
      exact ⟨_, rfl, Below.refl _ _, rfl⟩
    · intro _ a w9 hA hb hd
      have d15 : a.tmps[80]?.getD undef = .int .i64 C := by rw [← Array.getD_eq_getD_getElem?]; exact hd 15 (by kernel_rfl) _ rfl
      refine ⟨by rfl, ?_⟩
      go_simp
      exact ⟨_, rfl, Below.refl _ _, congrArg (Value.int .i64) (unhide HW)⟩
    · intro _ a w9 hA hb hd
      have d13 : a.tmps[78]?.getD undef = .int .i64 x.c := by rw [← Array.getD_eq_getD_getElem?]; exact hd 13 (by kernel_rfl) _ rfl
      have d16 : a.tmps[81]?.getD undef = .int .i64 (C + 1) := by rw [← Array.getD_eq_getD_getElem?]; exact hd 16 (by kernel_rfl) _ rfl
      refine ⟨by rfl, ?_⟩
      go_simp
      go_at_call 10
      refine (unhide HPC _).mono ?_
      rintro e w' ⟨rfl, rfl⟩
      exact ⟨_, rfl, Below.refl _ _, rfl⟩
    · intro _ a w9 hA hb hd
      have d1 : a.tmps[66]?.getD undef = .int .i64 NX := by rw [← Array.getD_eq_getD_getElem?]; exact hd 1 (by kernel_rfl) _ rfl
      have d4 : a.tmps[69]?.getD undef = .string NM := by rw [← Array.getD_eq_getD_getElem?]; exact hd 4 (by kernel_rfl) _ rfl
      have d7 : a.tmps[72]?.getD undef = .string KY := by rw [← Array.getD_eq_getD_getElem?]; exact hd 7 (by kernel_rfl) _ rfl
      have d11 : a.tmps[76]?.getD undef = .bool (D3 == 0) := by rw [← Array.getD_eq_getD_getElem?]; exact hd 11 (by kernel_rfl) _ rfl
      have d17 : a.tmps[82]?.getD undef = .int .i64 PC := by rw [← Array.getD_eq_getD_getElem?]; exact hd 17 (by kernel_rfl) _ rfl
      refine ⟨by rfl, ?_⟩
      go_simp
      exact ⟨_, rfl, Below.refl _ _, rfl⟩
    · intro _ a w9 hA hb hd
      have t5 : a.tmps.getD 5 undef = .pointer (some ⟨w.heap.size + 1 + 1 + 1, 0, none⟩) := hA 5 rfl
      refine ⟨by rfl, ?_⟩
      go_simp
      exact ⟨_, rfl, Below.refl _ _, rfl⟩
    · intro h
      exact absurd h (by decide)
  intro a w9 ha hb hF
  have f18 : a.tmps.getD 83 undef = .agg #[.int .i64 NX, .string NM, .string KY, .bool (D3 == 0), .bool false, .int .i64 0, .int .i64 PC, .int .i64 0, .slice none 0 0, .int .i64 0, .int .i64 0, .int .i64 0] := hF 18 _ (by decide) rfl
  have f19 : a.tmps.getD 84 undef = .pointer (some ⟨w.heap.size + 1 + 1 + 1, 8, none⟩) := hF 19 _ (by decide) rfl
  have HR9 := hide ((unhide HRR0).up hb)
  refine ⟨by rfl, ?_⟩
  obtain ⟨v65, h65⟩ : ∃ v, a.tmps.getD 65 undef = v := ⟨_, rfl⟩
  obtain ⟨v66, h66⟩ : ∃ v, a.tmps.getD 66 undef = v := ⟨_, rfl⟩
  obtain ⟨v67, h67⟩ : ∃ v, a.tmps.getD 67 undef = v := ⟨_, rfl⟩
  obtain ⟨v68, h68⟩ : ∃ v, a.tmps.getD 68 undef = v := ⟨_, rfl⟩
  obtain ⟨v69, h69⟩ : ∃ v, a.tmps.getD 69 undef = v := ⟨_, rfl⟩
  obtain ⟨v70, h70⟩ : ∃ v, a.tmps.getD 70 undef = v := ⟨_, rfl⟩
  obtain ⟨v71, h71⟩ : ∃ v, a.tmps.getD 71 undef = v := ⟨_, rfl⟩
  obtain ⟨v72, h72⟩ : ∃ v, a.tmps.getD 72 undef = v := ⟨_, rfl⟩
  obtain ⟨v73, h73⟩ : ∃ v, a.tmps.getD 73 undef = v := ⟨_, rfl⟩
  obtain ⟨v74, h74⟩ : ∃ v, a.tmps.getD 74 undef = v := ⟨_, rfl⟩
  obtain ⟨v75, h75⟩ : ∃ v, a.tmps.getD 75 undef = v := ⟨_, rfl⟩
  obtain ⟨v76, h76⟩ : ∃ v, a.tmps.getD 76 undef = v := ⟨_, rfl⟩
  obtain ⟨v77, h77⟩ : ∃ v, a.tmps.getD 77 undef = v := ⟨_, rfl⟩
  obtain ⟨v78, h78⟩ : ∃ v, a.tmps.getD 78 undef = v := ⟨_, rfl⟩
  obtain ⟨v79, h79⟩ : ∃ v, a.tmps.getD 79 undef = v := ⟨_, rfl⟩
  obtain ⟨v80, h80⟩ : ∃ v, a.tmps.getD 80 undef = v := ⟨_, rfl⟩
  obtain ⟨v81, h81⟩ : ∃ v, a.tmps.getD 81 undef = v := ⟨_, rfl⟩
  obtain ⟨v82, h82⟩ : ∃ v, a.tmps.getD 82 undef = v := ⟨_, rfl⟩
  simp only [List.take_succ_cons, List.take_zero, List.filterMap_cons, List.filterMap_nil, List.foldl_cons, List.foldl_nil, f18, f19, h65, h66, h67, h68, h69, h70, h71, h72, h73, h74, h75, h76, h77, h78, h79, h80, h81, h82, List.setIfInBounds_toArray, List.set_cons_succ, List.set_cons_zero] at ha
  rw [ha]
  clear ha hF f18 f19 h65 h66 h67 h68 h69 h70 h71 h72 h73 h74 h75 h76 h77 h78 h79 h80 h81 h82
  have y8 := cell_of (unhide HR9).r3 8 rfl
  have y9 := cell_of (unhide HR9).r3 9 rfl
  have y10 := cell_of (unhide HR9).r3 10 rfl
  have y11 := cell_of (unhide HR9).r3 11 rfl
  have y12 := cell_of (unhide HR9).r3 12 rfl
  have y13 := cell_of (unhide HR9).r3 13 rfl
  have y14 := cell_of (unhide HR9).r3 14 rfl
  have y15 := cell_of (unhide HR9).r3 15 rfl
  have y16 := cell_of (unhide HR9).r3 16 rfl
  have y17 := cell_of (unhide HR9).r3 17 rfl
  have y18 := cell_of (unhide HR9).r3 18 rfl
  have y19 := cell_of (unhide HR9).r3 19 rfl
  have qf := fun j => fz_of (unhide HR9).r3 j
  have ql := (unhide HR9).lt
  go_simp
  have hrr4 := RR.set (c' := rcA { rcN 4 with ver := ⟨NX, NM, KY, D3 == 0, false, 0, PC, 0, [], 0, 0, 0⟩ } nl nl nl) (RR.set (c' := #[.int .i64 4, .int .i64 0, .int .i64 0, .string em, .string em, .string em, .int .i64 0, .int .i64 0, .int .i64 NX, .string NM, .string KY, .bool (D3 == 0), .bool false, .int .i64 0, .int .i64 PC, .int .i64 0, .slice none 0 0, .int .i64 0, .int .i64 0, .int .i64 0, .int .i64 0, .int .i64 0, .int .i64 0, .int .i64 0, .int .i64 0, nl, nl, .int .i64 0, .int .i64 0]) (RR.set (c' := #[.int .i64 4, .int .i64 0, .int .i64 0, .string em, .string em, .string em, .int .i64 0, .int .i64 0, .int .i64 NX, .string NM, .string KY, .bool (D3 == 0), .bool false, .int .i64 0, .int .i64 PC, .int .i64 0, .slice none 0 0, .int .i64 0, .int .i64 0, .int .i64 0, .int .i64 0, .int .i64 0, .int .i64 0, .int .i64 0, .int .i64 0, nl, nl, .int .i64 0, .int .i64 0]) (RR.set (c' := #[.int .i64 4, .int .i64 0, .int .i64 0, .string em, .string em, .string em, .int .i64 0, .int .i64 0, .int .i64 NX, .string NM, .string KY, .bool (D3 == 0), .bool false, .int .i64 0, .int .i64 PC, .int .i64 0, .slice none 0 0, .int .i64 0, .int .i64 0, .int .i64 0, .int .i64 0, .int .i64 0, .int .i64 0, .int .i64 0, .int .i64 0, nl, nl, .int .i64 0, .int .i64 0]) (RR.set (c' := #[.int .i64 4, .int .i64 0, .int .i64 0, .string em, .string em, .string em, .int .i64 0, .int .i64 0, .int .i64 NX, .string NM, .string KY, .bool (D3 == 0), .bool false, .int .i64 0, .int .i64 PC, .int .i64 0, nl, .int .i64 0, .int .i64 0, .int .i64 0, .int .i64 0, .int .i64 0, .int .i64 0, .int .i64 0, .int .i64 0, nl, nl, .int .i64 0, .int .i64 0]) (RR.set (c' := #[.int .i64 4, .int .i64 0, .int .i64 0, .string em, .string em, .string em, .int .i64 0, .int .i64 0, .int .i64 NX, .string NM, .string KY, .bool (D3 == 0), .bool false, .int .i64 0, .int .i64 PC, .int .i64 0, nl, .int .i64 0, .int .i64 0, .int .i64 0, .int .i64 0, .int .i64 0, .int .i64 0, .int .i64 0, .int .i64 0, nl, nl, .int .i64 0, .int .i64 0]) (RR.set (c' := #[.int .i64 4, .int .i64 0, .int .i64 0, .string em, .string em, .string em, .int .i64 0, .int .i64 0, .int .i64 NX, .string NM, .string KY, .bool (D3 == 0), .bool false, .int .i64 0, .int .i64 0, .int .i64 0, nl, .int .i64 0, .int .i64 0, .int .i64 0, .int .i64 0, .int .i64 0, .int .i64 0, .int .i64 0, .int .i64 0, nl, nl, .int .i64 0, .int .i64 0]) (RR.set (c' := #[.int .i64 4, .int .i64 0, .int .i64 0, .string em, .string em, .string em, .int .i64 0, .int .i64 0, .int .i64 NX, .string NM, .string KY, .bool (D3 == 0), .bool false, .int .i64 0, .int .i64 0, .int .i64 0, nl, .int .i64 0, .int .i64 0, .int .i64 0, .int .i64 0, .int .i64 0, .int .i64 0, .int .i64 0, .int .i64 0, nl, nl, .int .i64 0, .int .i64 0]) (RR.set (c' := #[.int .i64 4, .int .i64 0, .int .i64 0, .string em, .string em, .string em, .int .i64 0, .int .i64 0, .int .i64 NX, .string NM, .string KY, .bool (D3 == 0), .bool false, .int .i64 0, .int .i64 0, .int .i64 0, nl, .int .i64 0, .int .i64 0, .int .i64 0, .int .i64 0, .int .i64 0, .int .i64 0, .int .i64 0, .int .i64 0, nl, nl, .int .i64 0, .int .i64 0]) (RR.set (c' := #[.int .i64 4, .int .i64 0, .int .i64 0, .string em, .string em, .string em, .int .i64 0, .int .i64 0, .int .i64 NX, .string NM, .string KY, .bool false, .bool false, .int .i64 0, .int .i64 0, .int .i64 0, nl, .int .i64 0, .int .i64 0, .int .i64 0, .int .i64 0, .int .i64 0, .int .i64 0, .int .i64 0, .int .i64 0, nl, nl, .int .i64 0, .int .i64 0]) (RR.set (c' := #[.int .i64 4, .int .i64 0, .int .i64 0, .string em, .string em, .string em, .int .i64 0, .int .i64 0, .int .i64 NX, .string NM, .string em, .bool false, .bool false, .int .i64 0, .int .i64 0, .int .i64 0, nl, .int .i64 0, .int .i64 0, .int .i64 0, .int .i64 0, .int .i64 0, .int .i64 0, .int .i64 0, .int .i64 0, nl, nl, .int .i64 0, .int .i64 0]) (RR.set (c' := #[.int .i64 4, .int .i64 0, .int .i64 0, .string em, .string em, .string em, .int .i64 0, .int .i64 0, .int .i64 NX, .string em, .string em, .bool false, .bool false, .int .i64 0, .int .i64 0, .int .i64 0, nl, .int .i64 0, .int .i64 0, .int .i64 0, .int .i64 0, .int .i64 0, .int .i64 0, .int .i64 0, .int .i64 0, nl, nl, .int .i64 0, .int .i64 0]) (unhide HR9) 8 (.int .i64 NX) rfl) 9 (.string NM) rfl) 10 (.string KY) rfl) 11 (.bool (D3 == 0)) rfl) 12 (.bool false) rfl) 13 (.int .i64 0) rfl) 14 (.int .i64 PC) rfl) 15 (.int .i64 0) rfl) 16 (.slice none 0 0) rfl) 17 (.int .i64 0) rfl) 18 (.int .i64 0) rfl) 19 (.int .i64 0) rfl
  clear y8 y9 y10 y11 y12 y13 y14 y15 y16 y17 y18 y19 qf ql HR9 hb HRR0 k0
  revert hrr4
  generalize World.setCell _ ⟨w.heap.size + 1 + 1 + 1, 19, none⟩ _ = U
  intro hrr4
  have HR4 := hide hrr4
  clear hrr4
  have xa0_4 := cell_of (unhide HR4).r1 0 rfl
  have xa1_4 := cell_of (unhide HR4).r1 1 rfl
  have xa2_4 := cell_of (unhide HR4).r1 2 rfl
  have xa3_4 := cell_of (unhide HR4).r1 3 rfl
  have xa4_4 := cell_of (unhide HR4).r1 4 rfl
  have sa0_4 := cell_of (unhide HR4).r0 0 rfl
  have sa1_4 := cell_of (unhide HR4).r0 1 rfl
  have sa2_4 := cell_of (unhide HR4).r0 2 rfl
  have sa3_4 := cell_of (unhide HR4).r0 3 rfl
  have sa4_4 := cell_of (unhide HR4).r0 4 rfl
  have sa5_4 := cell_of (unhide HR4).r0 5 rfl
  have sa6_4 := cell_of (unhide HR4).r0 6 rfl
  have pa1_4 := cell_of (unhide HR4).r3 1 rfl
  have pa2_4 := cell_of (unhide HR4).r3 2 rfl
  have pa3_4 := cell_of (unhide HR4).r3 3 rfl
  have pa4_4 := cell_of (unhide HR4).r3 4 rfl
  have pa27_4 := cell_of (unhide HR4).r3 27 rfl
  have pa28_4 := cell_of (unhide HR4).r3 28 rfl
  have pf4 := fun j => fz_of (unhide HR4).r3 j
  have pl4 := (unhide HR4).lt
  have ql4 := (unhide HR4).lt0
  have qm4 := (unhide HR4).lt1
  have pv13 := cell_of (unhide HR4).r3 13 rfl
  have pv15 := cell_of (unhide HR4).r3 15 rfl
  go_upto_region 19 with (first
    | (with_reducible refine (unhide HMP _).mono ?_; rintro e w5 ⟨rfl, rfl⟩)
    | fail)
  have hrr5 := RR.set (c' := rcA { rcN 4 with ver := ⟨NX, NM, KY, D3 == 0, false, SZ, PC, 1, [], 0, 0, 0⟩ } nl nl nl) (RR.set (c' := rcA { rcN 4 with ver := ⟨NX, NM, KY, D3 == 0, false, SZ, PC, 0, [], 0, 0, 0⟩ } nl nl nl) (unhide HR4) 13 (.int .i64 SZ) rfl) 15 (.int .i64 1) rfl
  clear xa0_4 xa1_4 xa2_4 xa3_4 xa4_4 sa0_4 sa1_4 sa2_4 sa3_4 sa4_4 sa5_4 sa6_4 pa1_4 pa2_4 pa3_4 pa4_4 pa27_4 pa28_4 pf4 pl4 ql4 qm4 pv13 pv15
  revert hrr5
  generalize World.setCell _ ⟨w.heap.size + 1 + 1 + 1, 15, none⟩ _ = X5
  intro hrr5
  have HRR5 := hide hrr5
  clear hrr5 HR4
  have xa0_5 := cell_of (unhide HRR5).r1 0 rfl
  have xa1_5 := cell_of (unhide HRR5).r1 1 rfl
  have xa2_5 := cell_of (unhide HRR5).r1 2 rfl
  have xa3_5 := cell_of (unhide HRR5).r1 3 rfl
  have xa4_5 := cell_of (unhide HRR5).r1 4 rfl
  have sa0_5 := cell_of (unhide HRR5).r0 0 rfl
  have sa1_5 := cell_of (unhide HRR5).r0 1 rfl
  have sa2_5 := cell_of (unhide HRR5).r0 2 rfl
  have sa3_5 := cell_of (unhide HRR5).r0 3 rfl
  have sa4_5 := cell_of (unhide HRR5).r0 4 rfl
  have sa5_5 := cell_of (unhide HRR5).r0 5 rfl
  have sa6_5 := cell_of (unhide HRR5).r0 6 rfl
  have pa1_5 := cell_of (unhide HRR5).r3 1 rfl
  have pa2_5 := cell_of (unhide HRR5).r3 2 rfl
  have pa3_5 := cell_of (unhide HRR5).r3 3 rfl
  have pa4_5 := cell_of (unhide HRR5).r3 4 rfl
  have pa27_5 := cell_of (unhide HRR5).r3 27 rfl
  have pa28_5 := cell_of (unhide HRR5).r3 28 rfl
  have pf5 := fun j => fz_of (unhide HRR5).r3 j
  have pl5 := (unhide HRR5).lt
  have ql5 := (unhide HRR5).lt0
  have qm5 := (unhide HRR5).lt1
  go_upto_region 50 with (first
    | (refine (sectorsK_any S b v u q g SZ _ ((unhide HS).up (unhide HRR5).bl) (by omega) (by omega)).mono ?_; rintro e w6 ⟨o, rfl, hI, hKP, b6⟩; rw [unhide HSE] at hI hKP; obtain ⟨oa, oc, rfl, _, _⟩ := hI.form; have HKP2 : Hid (Kpt w6 X5.heap.size (.slice oa SE.length oc) SE) := hKP; clear hI hKP; have HRR6 := hide (RR.up (unhide HRR5) b6); have z16 := cell_of (unhide HRR6).r3 16 rfl; have zf := fun j => fz_of (unhide HRR6).r3 j; have zl := (unhide HRR6).lt)
    | fail)
  have hlo5 := (unhide HRR5).lt
  have HF := hide (RR.set (c' := rcA { rcN 4 with ver := ⟨NX, NM, KY, D3 == 0, false, SZ, PC, 1, SE, 0, 0, 0⟩ } (.slice oa SE.length oc) nl nl) (unhide HRR6) 16 (.slice oa SE.length oc) rfl)
  have HKF := hide (Kpt.next (unhide HKP2) (gb_setCell w6 (w.heap.size + 1 + 1 + 1) 16 (.slice oa SE.length oc)) (by omega))
  have hP := (unhide HF).r3
  have hR := (unhide HF).r2
  have hbl := (unhide HF).bl
  refine wp_region_lit ?_
  refine wpList_load_mid rfl 47 (.tmp 5) rfl (w.heap.size + 1 + 1 + 1) 0 rfl (rcA ({ rcN 4 with ver := ⟨NX, NM, KY, D3 == 0, false, SZ, PC, 1, SE, 0, 0, 0⟩ }) (.slice oa SE.length oc) nl nl).toList _ (fun j v hv => by rw [Nat.zero_add]; exact cell_of hP j (by simpa using hv)) Tryz.underlying47 rfl (by kernel_rfl) ?_
  refine wpList_store_mid rfl 47 (.tmp 4) (.tmp 217) rfl (w.heap.size + 1 + 1) 0 (rcA ({ rcN 4 with ver := ⟨NX, NM, KY, D3 == 0, false, SZ, PC, 1, SE, 0, 0, 0⟩ }) (.slice oa SE.length oc) nl nl) rfl rfl (there_of (c := rcA (rcN 0) nl nl nl) (t := 47) hR) (by kernel_rfl) (by simp [Value.oneCell']) ?_
  have hrr := rec_end (c' := (rcA ({ rcN 4 with ver := ⟨NX, NM, KY, D3 == 0, false, SZ, PC, 1, SE, 0, 0, 0⟩ }) (.slice oa SE.length oc) nl nl)) hR rfl
  revert hrr
  generalize World.setCells _ (w.heap.size + 1 + 1) 0 _ = W9
  intro hrr
  obtain ⟨r9, hg9⟩ := hrr
  clear hP hR
  go_wp2
  refine bodyPost_ret (v := rcV ({ rcN 4 with ver := ⟨NX, NM, KY, D3 == 0, false, SZ, PC, 1, SE, 0, 0, 0⟩ }) (.slice oa SE.length oc) nl nl) (rec_res r9 rfl rfl) rfl ⟨(.slice oa SE.length oc), nl, nl, by rw [unhide HQ], ?_, ?_⟩
  · rw [unhide HQ]
    exact ⟨(Kpt.next (unhide HKF) hg9 (by omega)).ints, Ints.nil9 _, Ints.nil9 _⟩
  · exact bl_tr hbl (gb_lo hg9 (by have := hbl.size; omega) (fun j e => by injection e with e; omega))
end Go.Proofs.YtdgmdapijhbocaaGreat

/- icehousekeep.Record, kind by kind. -/
namespace Go.Proofs.YtdgmdapijhbocaaGreat
open Go.RowKit Go.Maps
set_option maxRecDepth 100000
set_option linter.unusedVariables false
set_option linter.unusedSimpArgs false
def thF (s : Nat) (x : Rw) (C P : Int) (i : Nat) (v : Value) : Prop :=
  match i with
  | 0 => v = .pointer (some ⟨s, 1, none⟩)
  | 1 => v = .int .i64 C
  | 2 => v = .pointer (some ⟨s + 1, 2, none⟩)
  | 3 => v = .int .i64 x.b
  | 4 => v = .int .i64 P
  | 5 => v = .int .i64 (C + P)
  | 6 => v = .pointer (some ⟨s + 1 + 1 + 1, 2, none⟩)
  | _ => True
set_option maxHeartbeats 2000000 in
theorem record_7 (S : St) (b v u q g : Value) (x : Rw) (w : World) (hS : Sta w b v u q g S) (hc : stC S = true) (hx : WfW x) (hk : pickI x.kind 14 = 7) :
    Calls Tryz.prog 25 #[stV S b v u q g, rwV x] w fun e w' => ∃ vv pv sv, e = .returned (rcV (recR S x) vv pv sv) ∧ RcI w' (recR S x) vv pv sv ∧ Below w.heap.size w w' := by
  obtain ⟨va, vc, rfl, hv1, hv2⟩ := hS.ves.form
  unfold maxLen at hv2
  obtain ⟨N, hN⟩ : ∃ N, S.ves.length = N := ⟨_, rfl⟩
  rw [hN] at hS hv1 ⊢
  have hlen : N ≤ 40 := by rw [← hN]; exact tstC_len hc
  have HVC : Hid (∀ k, k < N → 0 ≤ (S.ves.getD k ve0).size ∧ (S.ves.getD k ve0).size ≤ 600) := fun k hk => veC_size (tstC_at hc (mem_getD (by omega)))
  have hfew := few_of hc
  have hc0' := hfew.c0
  have hc1' := hfew.c1
  clear hfew
  have HN := hide hN
  clear hN
  have HS := hide hS
  obtain ⟨hk0, ha0, hb0, hc0, hd0⟩ := hx
  have HQ : Hid (recR S x = { rcN 8 with id := idN S x.a, n := S.clock + pickI x.b 9, sec := thwK S (idN S x.a) S.ves.length }) := by show _ = _; unfold recR; simp [hk]
  obtain ⟨Q, hQ⟩ : ∃ Q, recR S x = Q := ⟨_, rfl⟩
  rw [hQ] at HQ ⊢
  clear hQ hS
  have HK : Hid (∀ W : World, Calls Tryz.prog 10 #[.int .i64 x.kind, .int .i64 14] W fun e w' => e = .returned (.int .i64 7) ∧ W = w') := fun W => by
    have := picked_any x.kind 14 W (by decide) (by decide) hk0.1 hk0.2
    rw [hk] at this; exact this
  clear hk
  obtain ⟨ID, hID⟩ : ∃ n, idN S x.a = n := ⟨_, rfl⟩
  rw [hID] at HQ
  have HID := hide hID
  clear hID
  have hlo := pickI_lo x.b (m := 9) (by decide)
  have hhi := pickI_hi x.b (m := 9) (by decide)
  obtain ⟨P, hP9⟩ : ∃ n, pickI x.b 9 = n := ⟨_, rfl⟩
  rw [hP9] at HQ hlo hhi
  have HP9 := hide hP9
  clear hP9
  go_enter Tryz.func25, Tryz.ntmps25
  go_wp2_with fail
  refine (unhide HK _).mono ?_
  rintro e w1 ⟨rfl, rfl⟩
  simp only []
  rename_i hK0
  refine hK0 _ _ ?_
  clear hK0
  refine wpList_plain rfl (fun K hK => ?_)
  go_simp
  refine hK _ _ ?_
  clear hK
  refine wpList_plain rfl (fun K hK => ?_)
  go_simp
  refine hK _ _ ?_
  clear hK
  refine wpList_plain rfl (fun K hK => ?_)
  go_simp
  refine hK _ _ ?_
  clear hK
  rw [show IntKind.wrap .i64 8 = 8 by decide]
  refine wpList_store_mid rfl 47 (.tmp 5) (.tmp 14) rfl (w.heap.size + 1 + 1 + 1) 0 (rcA (rcN 8) nl nl nl) rfl rfl (there_of (c := rcA (rcN 0) nl nl nl) (t := 47) (rec_new _ _ _ _ _)) (by kernel_rfl) (by simp [Value.oneCell']) ?_
  generalize hWW : World.setCells _ (w.heap.size + 1 + 1 + 1) 0 _ = W1
  have hrr : W1.heap[w.heap.size]? = some (.cells #[.int .i64 S.next, .int .i64 S.clock, b, (.slice va N vc), u, q, g] 29 (0, 0)) ∧ W1.heap[w.heap.size + 1]? = some (.cells #[.int .i64 x.kind, .int .i64 x.a, .int .i64 x.b, .int .i64 x.c, .int .i64 x.d, .string x.text] 72 (0, 0)) ∧ W1.heap[w.heap.size + 1 + 1]? = some (.cells (rcA (rcN 0) nl nl nl) 47 (0, 0)) ∧ W1.heap[w.heap.size + 1 + 1 + 1]? = some (.cells (rcA (rcN 8) nl nl nl) 47 (0, 0)) ∧ Below w.heap.size w W1 := by
    rw [← hWW]
    exact rec_rows w (.cells #[.int .i64 S.next, .int .i64 S.clock, b, (.slice va N vc), u, q, g] 29) (.cells #[.int .i64 x.kind, .int .i64 x.a, .int .i64 x.b, .int .i64 x.c, .int .i64 x.d, .string x.text] 72) (.cells (rcA (rcN 0) nl nl nl) 47) (rcA (rcN 0) nl nl nl) (rcA (rcN 8) nl nl nl) rfl
  clear hWW
  obtain ⟨r0, r1, r2, r3, hw1⟩ := hrr
  have HRR0 : Hid (RR w W1 #[.int .i64 S.next, .int .i64 S.clock, b, (.slice va N vc), u, q, g] x (rcA (rcN 8) nl nl nl)) := ⟨r0, r1, r2, r3, hw1⟩
  have k0 : W1.cell? ⟨w.heap.size + 1 + 1 + 1, 0, none⟩ = some (.int .i64 8) := cell_of r3 0 rfl
  clear r0 r1 r2 r3
  have xa0_0 := cell_of (unhide HRR0).r1 0 rfl
  have xa1_0 := cell_of (unhide HRR0).r1 1 rfl
  have xa2_0 := cell_of (unhide HRR0).r1 2 rfl
  have xa3_0 := cell_of (unhide HRR0).r1 3 rfl
  have xa4_0 := cell_of (unhide HRR0).r1 4 rfl
  have sa0_0 := cell_of (unhide HRR0).r0 0 rfl
  have sa1_0 := cell_of (unhide HRR0).r0 1 rfl
  have sa2_0 := cell_of (unhide HRR0).r0 2 rfl
  have sa3_0 := cell_of (unhide HRR0).r0 3 rfl
  have sa4_0 := cell_of (unhide HRR0).r0 4 rfl
  have sa5_0 := cell_of (unhide HRR0).r0 5 rfl
  have sa6_0 := cell_of (unhide HRR0).r0 6 rfl
  have pa1_0 := cell_of (unhide HRR0).r3 1 rfl
  have pa2_0 := cell_of (unhide HRR0).r3 2 rfl
  have pa3_0 := cell_of (unhide HRR0).r3 3 rfl
  have pa4_0 := cell_of (unhide HRR0).r3 4 rfl
  have pa27_0 := cell_of (unhide HRR0).r3 27 rfl
  have pa28_0 := cell_of (unhide HRR0).r3 28 rfl
  have pf0 := fun j => fz_of (unhide HRR0).r3 j
  have pl0 := (unhide HRR0).lt
  have ql0 := (unhide HRR0).lt0
  have qm0 := (unhide HRR0).lt1
  go_upto_region 31 with (first
    | (refine (k_id_any S b (.slice va N vc) u q g x.a _ ((unhide HS).up (unhide HRR0).bl) ha0.1 ha0.2).mono ?_; rintro e w2 ⟨rfl, b2⟩; rw [unhide HID]; have HRR2 := hide ((unhide HRR0).up b2); have xa0_2 := cell_of (unhide HRR2).r1 0 rfl; have xa1_2 := cell_of (unhide HRR2).r1 1 rfl; have xa2_2 := cell_of (unhide HRR2).r1 2 rfl; have xa3_2 := cell_of (unhide HRR2).r1 3 rfl; have xa4_2 := cell_of (unhide HRR2).r1 4 rfl; have sa0_2 := cell_of (unhide HRR2).r0 0 rfl; have sa1_2 := cell_of (unhide HRR2).r0 1 rfl; have sa2_2 := cell_of (unhide HRR2).r0 2 rfl; have sa3_2 := cell_of (unhide HRR2).r0 3 rfl; have sa4_2 := cell_of (unhide HRR2).r0 4 rfl; have sa5_2 := cell_of (unhide HRR2).r0 5 rfl; have sa6_2 := cell_of (unhide HRR2).r0 6 rfl; have pa1_2 := cell_of (unhide HRR2).r3 1 rfl; have pa2_2 := cell_of (unhide HRR2).r3 2 rfl; have pa3_2 := cell_of (unhide HRR2).r3 3 rfl; have pa4_2 := cell_of (unhide HRR2).r3 4 rfl; have pa27_2 := cell_of (unhide HRR2).r3 27 rfl; have pa28_2 := cell_of (unhide HRR2).r3 28 rfl; have pf2 := fun j => fz_of (unhide HRR2).r3 j; have pl2 := (unhide HRR2).lt; have ql2 := (unhide HRR2).lt0; have qm2 := (unhide HRR2).lt1)
    | fail)
  have hrr3 := RR.set (c' := rcA { rcN 8 with id := ID } nl nl nl) (unhide HRR2) 1 (.int .i64 ID) rfl
  clear xa0_2 xa1_2 xa2_2 xa3_2 xa4_2 sa0_2 sa1_2 sa2_2 sa3_2 sa4_2 sa5_2 sa6_2 pa1_2 pa2_2 pa3_2 pa4_2 pa27_2 pa28_2 pf2 pl2 ql2 qm2
  revert hrr3
  generalize World.setCell w2 _ _ = V
  intro hrr3
  have HRR3 := hide hrr3
  clear hrr3
  obtain ⟨C, hC⟩ : ∃ n, S.clock = n := ⟨_, rfl⟩
  rw [hC] at hc0' hc1'
  have HC := hide hC
  clear hC
  have HW : Hid (IntKind.i64.wrap (C + P) = C + P) := Go.IntWalk.i64_in _ (by omega)
  refine wp_last 7 (fun i v _ => thF w.heap.size x C P i v) (by kernel_rfl) (by kernel_rfl) (by kernel_rfl) rfl rfl (fun _ _ _ _ _ h => h) ?_ ?_
  · refine AllOps.cons ?_ (AllOps.cons ?_ (AllOps.cons ?_ (AllOps.cons ?_ (AllOps.cons ?_ (AllOps.cons ?_ (AllOps.cons ?_ (AllOps.cons ?_ (AllOps.nil))))))))
    · intro _ a w9 hA hb hd
      have t2 : a.tmps.getD 2 undef = .pointer (some ⟨w.heap.size, 0, none⟩) := hA 2 rfl
      refine ⟨by rfl, ?_⟩
      go_simp
      exact ⟨_, rfl, Below.refl _ _, rfl⟩
    · intro _ a w9 hA hb hd
      have d0 : a.tmps[146]?.getD undef = .pointer (some ⟨w.heap.size, 1, none⟩) := by rw [← Array.getD_eq_getD_getElem?]; exact hd 0 (by kernel_rfl) _ rfl
      have g1 := cell_of ((unhide HRR3).up hb).r0 1 rfl
      rw [unhide HC] at g1
      refine ⟨by rfl, ?_⟩
      go_simp
      exact ⟨_, rfl, Below.refl _ _, rfl⟩
    · intro _ a w9 hA hb hd
      have t3 : a.tmps.getD 3 undef = .pointer (some ⟨w.heap.size + 1, 0, none⟩) := hA 3 rfl
      refine ⟨by rfl, ?_⟩
      go_simp
      exact ⟨_, rfl, Below.refl _ _, rfl⟩
    · intro _ a w9 hA hb hd
      have d2 : a.tmps[148]?.getD undef = .pointer (some ⟨w.heap.size + 1, 2, none⟩) := by rw [← Array.getD_eq_getD_getElem?]; exact hd 2 (by kernel_rfl) _ rfl
      have g2 := cell_of ((unhide HRR3).up hb).r1 2 rfl
      refine ⟨by rfl, ?_⟩
      go_simp
      exact ⟨_, rfl, Below.refl _ _, rfl⟩
    · intro _ a w9 hA hb hd
      have d3 : a.tmps[149]?.getD undef = .int .i64 x.b := by rw [← Array.getD_eq_getD_getElem?]; exact hd 3 (by kernel_rfl) _ rfl
      refine ⟨by rfl, ?_⟩
      go_simp
      go_at_call 10
      refine (picked_any x.b 9 _ (by decide) (by decide) hb0.1 hb0.2).mono ?_
      rintro e w' ⟨rfl, rfl⟩
      rw [unhide HP9]
      exact ⟨_, rfl, Below.refl _ _, rfl⟩
    · intro _ a w9 hA hb hd
      have d1 : a.tmps[147]?.getD undef = .int .i64 C := by rw [← Array.getD_eq_getD_getElem?]; exact hd 1 (by kernel_rfl) _ rfl
      have d4 : a.tmps[150]?.getD undef = .int .i64 P := by rw [← Array.getD_eq_getD_getElem?]; exact hd 4 (by kernel_rfl) _ rfl
      refine ⟨by rfl, ?_⟩
      go_simp
      exact ⟨_, rfl, Below.refl _ _, congrArg (Value.int .i64) (unhide HW)⟩
    · intro _ a w9 hA hb hd
      have t5 : a.tmps.getD 5 undef = .pointer (some ⟨w.heap.size + 1 + 1 + 1, 0, none⟩) := hA 5 rfl
      refine ⟨by rfl, ?_⟩
      go_simp
      exact ⟨_, rfl, Below.refl _ _, rfl⟩
    · intro h
      exact absurd h (by decide)
  intro a w9 ha hb hF
  have f5 : a.tmps.getD 151 undef = .int .i64 (C + P) := hF 5 _ (by decide) rfl
  have f6 : a.tmps.getD 152 undef = .pointer (some ⟨w.heap.size + 1 + 1 + 1, 2, none⟩) := hF 6 _ (by decide) rfl
  have HR9 := hide ((unhide HRR3).up hb)
  refine ⟨by rfl, ?_⟩
  obtain ⟨v146, h146⟩ : ∃ v, a.tmps.getD 146 undef = v := ⟨_, rfl⟩
  obtain ⟨v147, h147⟩ : ∃ v, a.tmps.getD 147 undef = v := ⟨_, rfl⟩
  obtain ⟨v148, h148⟩ : ∃ v, a.tmps.getD 148 undef = v := ⟨_, rfl⟩
  obtain ⟨v149, h149⟩ : ∃ v, a.tmps.getD 149 undef = v := ⟨_, rfl⟩
  obtain ⟨v150, h150⟩ : ∃ v, a.tmps.getD 150 undef = v := ⟨_, rfl⟩
  simp only [List.take_succ_cons, List.take_zero, List.filterMap_cons, List.filterMap_nil, List.foldl_cons, List.foldl_nil, f5, f6, h146, h147, h148, h149, h150, List.setIfInBounds_toArray, List.set_cons_succ, List.set_cons_zero] at ha
  rw [ha]
  clear ha hF f5 f6 h146 h147 h148 h149 h150
  have q2 := cell_of (unhide HR9).r3 2 rfl
  have qf := fun j => fz_of (unhide HR9).r3 j
  have ql := (unhide HR9).lt
  go_simp
  have hrr4 := RR.set (c' := rcA { rcN 8 with id := ID, n := C + P } nl nl nl) (unhide HR9) 2 (.int .i64 (C + P)) rfl
  clear q2 qf ql HR9 HRR3 HRR2 HRR0 hb
  revert hrr4
  generalize World.setCell w9 _ _ = U
  intro hrr4
  have HR4 := hide hrr4
  have s3 := cell_of hrr4.r0 3 rfl
  have hz4 := hrr4.lt
  have hzl : w.heap.size < U.heap.size := by omega
  clear hrr4
  go_wp2
  go_loopw [8, 156] (fun _ i wr => ∃ (k : Nat) (sv : Value), k ≤ N ∧ i = .int .i64 k ∧ RR w wr #[.int .i64 S.next, .int .i64 S.clock, b, (.slice va N vc), u, q, g] x (rcA { rcN 8 with id := ID, n := C + P, sec := thwK S ID k } nl nl sv) ∧ Kpt wr (w.heap.size + 1 + 1 + 1 + 1) sv (thwK S ID k)) (fun _ i _ => N - (intOf i).toNat)
  case atStart => exact ⟨0, nl, Nat.zero_le _, rfl, unhide HR4, Kpt.nil _ _⟩
  case round =>
    clear s3
    obtain ⟨k, sv, hk, rfl, hR, hKP⟩ := hrel
    have HR := hide hR
    have HKP := hide hKP
    have hbl := hR.bl
    have hz5 := hR.lt
    have k0 := cell_of hR.r3 0 rfl
    have k1 := cell_of hR.r3 1 rfl
    clear hR hKP
    by_cases hlt : k < N
    · obtain ⟨b8, o8, e8, r0⟩ := Lst.at (unhide HS).ves (i := k) (by rw [unhide HN]; exact hlt)
      obtain ⟨z0, z1⟩ := unhide HVC k hlt
      have HTH : Hid (thwK S ID (k + 1) = if (S.ves.getD k ve0).id = ID then secF S (S.ves.getD k ve0).size else thwK S ID k) := rfl
      obtain ⟨X, hX⟩ : ∃ X, S.ves.getD k ve0 = X := ⟨_, rfl⟩
      rw [hX] at r0 z0 z1 HTH
      clear hX
      subst e8
      have r := RVe.up hbl r0
      obtain ⟨Y, hu, hI⟩ := r.c8
      obtain ⟨ua, uc, rfl, _⟩ := hI.form
      have c0 := r.c0
      have c1 := r.c1
      have c2 := r.c2
      have c3 := r.c3
      have c4 := r.c4
      have c5 := r.c5
      have c6 := r.c6
      have c7 := r.c7
      have c9 := r.c9
      have c10 := r.c10
      have c11 := r.c11
      clear r r0 hI
      go_upto_region 35 with fail
      have hrA := RR.up (unhide HR) (bl1 _ (.cells #[.int .i64 X.id, .string X.bu, .string X.ke, .bool X.nul, .bool X.mar, .int .i64 X.size, .int .i64 X.time, .int .i64 X.tier, .slice ua X.sec.length uc, .int .i64 X.vol, .int .i64 X.pos, .int .i64 X.til] 36))
      have hkA := Kpt.up (unhide HKP) (bl1 _ (.cells #[.int .i64 X.id, .string X.bu, .string X.ke, .bool X.nul, .bool X.mar, .int .i64 X.size, .int .i64 X.time, .int .i64 X.tier, .slice ua X.sec.length uc, .int .i64 X.vol, .int .i64 X.pos, .int .i64 X.til] 36))
      have y0 := cell_of (heap_alloc_new wr (.cells #[.int .i64 X.id, .string X.bu, .string X.ke, .bool X.nul, .bool X.mar, .int .i64 X.size, .int .i64 X.time, .int .i64 X.tier, .slice ua X.sec.length uc, .int .i64 X.vol, .int .i64 X.pos, .int .i64 X.til] 36)) 0 rfl
      have y5 := cell_of (heap_alloc_new wr (.cells #[.int .i64 X.id, .string X.bu, .string X.ke, .bool X.nul, .bool X.mar, .int .i64 X.size, .int .i64 X.time, .int .i64 X.tier, .slice ua X.sec.length uc, .int .i64 X.vol, .int .i64 X.pos, .int .i64 X.til] 36)) 5 rfl
      clear c0 c1 c2 c3 c4 c5 c6 c7 c9 c10 c11 hu k0 k1 HR HKP
      revert hrA hkA y0 y5
      generalize wr.alloc _ = wq
      intro hrA hkA y0 y5
      have HRA := hide hrA
      have HKA := hide hkA
      have k0 := cell_of hrA.r3 0 rfl
      have k1 := cell_of hrA.r3 1 rfl
      have s0 := cell_of hrA.r0 0 rfl
      have s1 := cell_of hrA.r0 1 rfl
      have s2 := cell_of hrA.r0 2 rfl
      have s3 := cell_of hrA.r0 3 rfl
      have s4 := cell_of hrA.r0 4 rfl
      have s5 := cell_of hrA.r0 5 rfl
      have s6 := cell_of hrA.r0 6 rfl
      have hz6 := hrA.lt
      have hz7 := hrA.lt0
      clear hrA hkA
      by_cases hid : X.id = ID
      · have hb1 : (X.id == ID) = true := by simpa using hid
        rw [if_pos hid] at HTH
        clear hid
        go_wp2_with fail
        refine (sectorsK_any S b (.slice (some ⟨b8, o8, none⟩) N vc) u q g X.size _ ((unhide HS).up (unhide HRA).bl) (by omega) (by omega)).mono ?_
        rintro e w6 ⟨o, rfl, _, hkp, b6⟩
        have HR6 := hide (RR.up (unhide HRA) b6)
        have hkp6 : Kpt w6 (w.heap.size + 1 + 1 + 1 + 1) o (secF S X.size) := Kpt.lo hkp (by omega)
        have HK6 : Hid (Kpt w6 (w.heap.size + 1 + 1 + 1 + 1) o (thwK S ID (k + 1))) := by show Kpt _ _ _ _; rw [unhide HTH]; exact hkp6
        obtain ⟨oa, oc, rfl, _, _⟩ := hkp6.ints.form
        have k26 := cell_of (unhide HR6).r3 26 rfl
        have kf := fun j => fz_of (unhide HR6).r3 j
        have hz8 := (unhide HR6).lt
        have HR7 := hide (RR.set (c' := rcA { rcN 8 with id := ID, n := C + P, sec := thwK S ID (k + 1) } nl nl (.slice oa (secF S X.size).length oc)) (unhide HR6) 26 (.slice oa (secF S X.size).length oc) rfl)
        have HK7 := hide (Kpt.next (unhide HK6) (gb_setCell w6 (w.heap.size + 1 + 1 + 1) 26 (.slice oa (secF S X.size).length oc)) (by omega))
        clear hkp hkp6 y0 y5 k0 k1 s0 s1 s2 s3 s4 s5 s6
        go_wp2
        go_roundw
        case rel => exact ⟨k + 1, _, by omega, by go_num, unhide HR7, unhide HK7⟩
        case measure => (simp [intOf] <;> omega)
      · have hb1 : (X.id == ID) = false := by simpa using hid
        rw [if_neg hid] at HTH
        clear hid
        have HR7 : Hid (RR w wq #[.int .i64 S.next, .int .i64 S.clock, b, (.slice (some ⟨b8, o8, none⟩) N vc), u, q, g] x (rcA { rcN 8 with id := ID, n := C + P, sec := thwK S ID (k + 1) } nl nl sv)) := unhide HRA
        have HK7 : Hid (Kpt wq (w.heap.size + 1 + 1 + 1 + 1) sv (thwK S ID (k + 1))) := by show Kpt _ _ _ _; rw [unhide HTH]; exact unhide HKA
        go_wp2
        go_roundw
        case rel => exact ⟨k + 1, _, by omega, by go_num, unhide HR7, unhide HK7⟩
        case measure => (simp [intOf] <;> omega)
    · obtain rfl : k = N := by omega
      have HQ2 : Hid (Q = { rcN 8 with id := ID, n := C + P, sec := thwK S ID k }) := by
        show _ = _
        rw [unhide HQ, unhide HC, unhide HN]
      obtain ⟨Z, hZ⟩ : ∃ Z, thwK S ID k = Z := ⟨_, rfl⟩
      rw [hZ] at HR HKP HQ2
      clear hZ HQ
      obtain ⟨sa, sc, rfl, _, _⟩ := (unhide HKP).ints.form
      go_upto_region 50 with fail
      have hP := (unhide HR).r3
      have hR := (unhide HR).r2
      refine wp_region_lit ?_
      refine wpList_load_mid rfl 47 (.tmp 5) rfl (w.heap.size + 1 + 1 + 1) 0 rfl (rcA ({ rcN 8 with id := ID, n := C + P, sec := Z }) nl nl (.slice sa Z.length sc)).toList _ (fun j v hv => by rw [Nat.zero_add]; exact cell_of hP j (by simpa using hv)) Tryz.underlying47 rfl (by kernel_rfl) ?_
      refine wpList_store_mid rfl 47 (.tmp 4) (.tmp 217) rfl (w.heap.size + 1 + 1) 0 (rcA ({ rcN 8 with id := ID, n := C + P, sec := Z }) nl nl (.slice sa Z.length sc)) rfl rfl (there_of (c := rcA (rcN 0) nl nl nl) (t := 47) hR) (by kernel_rfl) (by simp [Value.oneCell']) ?_
      have hrr := rec_end (c' := (rcA ({ rcN 8 with id := ID, n := C + P, sec := Z }) nl nl (.slice sa Z.length sc))) hR rfl
      revert hrr
      generalize World.setCells _ (w.heap.size + 1 + 1) 0 _ = W9
      intro hrr
      obtain ⟨r9, hg9⟩ := hrr
      clear hP hR
      go_wp2
      refine bodyPost_ret (v := rcV ({ rcN 8 with id := ID, n := C + P, sec := Z }) nl nl (.slice sa Z.length sc)) (rec_res r9 rfl rfl) rfl ⟨nl, nl, (.slice sa Z.length sc), by rw [unhide HQ2], ?_, ?_⟩
      · rw [unhide HQ2]
        exact ⟨Ints.nil9 _, Ints.nil9 _, (Kpt.next (unhide HKP) hg9 (by omega)).ints⟩
      · exact bl_tr hbl (gb_lo hg9 (by have := hbl.size; omega) (fun j e => by injection e with e; omega))
end Go.Proofs.YtdgmdapijhbocaaGreat
