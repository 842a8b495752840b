/- list.Keys and list.Versions. -/
import Derived.Test.YtdgmdapijhbocaaGreatLroq
import Derived.Test.YtdgmdapijhbocaaGreatLshq
namespace Go.Proofs.YtdgmdapijhbocaaGreat
open Go.RowKit Go.Maps
set_option maxRecDepth 100000
set_option linter.unusedVariables false
set_option linter.unusedSimpArgs false
theorem ro_cut {w : World} {B : Nat} {a : Option Addr} {L cap : Nat} {xs : List Ro} (h : OwRo w B (.slice a L cap) xs) {k : Nat} (hk : k ≤ L) : OwRo w B (.slice a k cap) (xs.take k) := by
  have hl : xs.length = L := by
    rcases h.2 with ⟨e, h0⟩ | ⟨g, c, cur, e, _⟩
    · simp at e; omega
    · simp at e; omega
  subst hl
  have hk2 : (xs.take k).length = k := by simp; omega
  refine ⟨flat_len2 roL 7 (fun _ => rfl) _, ?_⟩
  rcases h.2 with ⟨e, h0⟩ | ⟨g, c, cur, e, hB, hg, hn, hc, hs, ht⟩
  · simp at e
    obtain ⟨rfl, h1, rfl⟩ := e
    refine .inl ⟨?_, by rw [hk2]; omega⟩
    rw [show k = 0 by omega]
  · simp at e
    obtain ⟨rfl, rfl⟩ := e
    refine .inr ⟨g, cap, cur, by rw [hk2], hB, hg, by rw [hk2]; omega, hc, hs, ?_⟩
    rw [hk2, ← flat_take roL 7 (fun _ => rfl) xs k hk, ← ht, List.take_take, Nat.min_eq_left (Nat.mul_le_mul_right _ hk)]
def pagR (E : Int) (R : List Ro) (m : Int) : List Ro := if E = 0 then R.take m.toNat else []
def morB (E : Int) (R : List Ro) (m : Int) : Bool := decide (E = 0 ∧ m < R.length)
theorem lch_ok {S : St} {nm pre : ByteArray} {m : Int} (h : lchE S nm pre m = 0) : stC S = true ∧ hasB S nm = true ∧ pre.size ≤ 16 ∧ 1 ≤ m ∧ m ≤ 50 := by
  unfold lchE at h
  by_cases h1 : stE S = 0
  · rw [if_pos h1] at h
    cases h2 : hasB S nm
    · rw [h2] at h; simp at h
    · rw [h2, if_pos rfl] at h
      by_cases h3 : rulE pre 0 0 = 0
      · rw [if_pos h3] at h
        cases h4 : inB m 1 50
        · rw [h4] at h; simp at h
        · refine ⟨?_, rfl, ?_, (inB_t h4).1, (inB_t h4).2⟩
          · cases k : stC S
            · rw [stE_f k] at h1; exact absurd h1 (by decide)
            · rfl
          · unfold rulE at h3
            split at h3
            · omega
            · exact absurd h3 (by decide)
      · rw [if_neg h3] at h; exact absurd h h3
  · rw [if_neg h1] at h; exact absurd h h1
theorem sv_mem {S : St} {nm pre : ByteArray} {x : Ve} (h : x ∈ sv S nm pre) : x ∈ S.ves ∧ selP nm pre x = true := by
  have := (srt_perm _).mem_iff.1 h
  exact List.mem_filter.1 this
theorem pfB_le {s t : ByteArray} (h : pfB s t = true) : t.size ≤ s.size := by
  unfold pfB at h
  split at h
  · assumption
  · cases h
theorem veC_key {S : St} {x : Ve} (h : veC S x = true) : 1 ≤ x.ke.size ∧ x.ke.size ≤ 16 := by
  unfold veC namC at h
  simp only [Bool.and_eq_true, beq_iff_eq] at h
  have hw := h.1.1.2
  unfold worE at hw
  split at hw
  · next q => have := inB_t q; omega
  · exact absurd hw (by decide)
theorem rows_key {S : St} (hok : stC S = true) (nm pre : ByteArray) {k : Nat} (hk : k < (rowsL (sv S nm pre)).length) : pre.size ≤ ((rowsL (sv S nm pre)).getD k ro0).key.size ∧ ((rowsL (sv S nm pre)).getD k ro0).key.size ≤ 16 := by
  have hl : (rowsL (sv S nm pre)).length = (sv S nm pre).length := rowsK_len _ _
  have hm : (sv S nm pre).getD k ve0 ∈ sv S nm pre := mem_get (by omega)
  obtain ⟨h1, h2⟩ := sv_mem hm
  have e : (rowsL (sv S nm pre)).getD k ro0 = roOf ((sv S nm pre).getD k ve0) (latAt (sv S nm pre) k) := rowsK_at _ (by omega)
  rw [e]
  have h3 := veC_key (tstC_at hok h1)
  unfold selP at h2
  rw [Bool.and_eq_true] at h2
  exact ⟨pfB_le h2.2, h3.2⟩
theorem rows_len {S : St} (hok : stC S = true) (nm pre : ByteArray) : (rowsL (sv S nm pre)).length ≤ 40 := by
  have hl : (rowsL (sv S nm pre)).length = (sv S nm pre).length := rowsK_len _ _
  rw [hl, sv_len]
  have := List.length_filter_le (selP nm pre) S.ves
  have h2 := tstC_len hok
  unfold selV
  omega
theorem take_min9 {α : Type} (R : List α) {n k : Nat} (hn : R.length = n) : R.take k = R.take (min n k) := by rw [← hn, Nat.min_comm, ← List.take_eq_take_min]
set_option maxHeartbeats 1000000 in
theorem versions_any (S : St) (b v u q g : Value) (nm pre : ByteArray) (m : Int) (w : World) (hS : Sta w b v u q g S) (hp : pre.size ≤ maxLen) :
    Calls Tryz.prog 21 #[stV S b v u q g, .string nm, .string pre, .int .i64 m] w fun e w' => ∃ o, e = .returned (.tuple #[o, .bool (morB (lchE S nm pre m) (versL S nm pre) m), .int .i64 (lchE S nm pre m)]) ∧ OwRo w' w.heap.size o (pagR (lchE S nm pre m) (versL S nm pre) m) ∧ Below w.heap.size w w' := by
  have HS := hide hS
  have HP := hide hp
  have HOK : Hid (lchE S nm pre m = 0 → stC S = true ∧ hasB S nm = true ∧ pre.size ≤ 16 ∧ 1 ≤ m ∧ m ≤ 50) := lch_ok
  have HCK := hide (fun W (hW : Sta W b v u q g S) => lcheck_any S b v u q g nm pre m W hW hp)
  obtain ⟨E, hE⟩ : ∃ E, lchE S nm pre m = E := ⟨_, rfl⟩
  rw [hE] at HOK HCK ⊢
  clear hS hp hE
  go_enter Tryz.func21, Tryz.ntmps21
  go_wp2_with fail
  refine (unhide HCK _ ((unhide HS).up (bl1 _ _))).mono ?_
  rintro e w1 ⟨rfl, hb⟩
  have hX := (BoxS.new w S b v u q g 29).up hb
  have hw1 := bl_trans (bl1 w _) hb
  have x0 := hX.c0
  have x1 := hX.c1
  have x2 := hX.c2
  have x3 := hX.c3
  have x4 := hX.c4
  have x5 := hX.c5
  have x6 := hX.c6
  clear hX hb HCK
  by_cases h0 : E = 0
  case neg =>
    have hm : morB E (versL S nm pre) m = false := by unfold morB; simp [h0]
    have hpg : pagR E (versL S nm pre) m = [] := by unfold pagR; rw [if_neg h0]
    have HM := hide hm
    have HPG := hide hpg
    clear hm hpg
    go_wp2
    refine bodyPost_ret (v := .tuple #[.slice none 0 0, .bool false, .int .i64 E]) (by simp [results, Tryz.results21, go_sem, *]) rfl ⟨.slice none 0 0, ?_, ?_, hw1⟩
    · rw [unhide HM]
    · rw [unhide HPG]; exact ro_nil _ _
  subst h0
  obtain ⟨hok, hhas, hps, hm1, hm2⟩ := unhide HOK rfl
  have HRL := hide (rows_len hok nm pre)
  have HRO := hide (fun W (hW : Sta W b v u q g S) => rowsOf_any S b v u q g nm pre W hW hok (unhide HP))
  have HPG : Hid (pagR 0 (versL S nm pre) m = (rowsL (sv S nm pre)).take m.toNat) := by show _ = _; unfold pagR; rw [if_pos rfl]; rfl
  have HMO : Hid (morB 0 (versL S nm pre) m = decide (m < (rowsL (sv S nm pre)).length)) := by show _ = _; unfold morB; simp; rfl
  obtain ⟨R, hR⟩ : ∃ R, rowsL (sv S nm pre) = R := ⟨_, rfl⟩
  rw [hR] at HRL HRO HPG HMO
  clear hok hhas hR HOK
  go_wp2_with fail
  refine (unhide HRO _ ((unhide HS).up hw1)).mono ?_
  rintro e w2 ⟨o, rfl, hO, hb⟩
  have hw2 := bl_trans hw1 hb
  have HO := hide (ro_lo hO hw1.size)
  obtain ⟨oa, oc, rfl, ho1, ho2⟩ := ro_form hO
  unfold maxLen at ho2
  have hrl := unhide HRL
  obtain ⟨n, hn⟩ : ∃ n, R.length = n := ⟨_, rfl⟩
  have HN := hide hn
  obtain ⟨k, rfl⟩ := Int.eq_ofNat_of_zero_le (show 0 ≤ m by omega)
  rw [hn] at HO HMO ho1 hrl ⊢
  have HPA := hide (fun W => page_any oa n oc k W ho1 (by omega) (by omega))
  clear hO hb hn x0 x1 x2 x3 x4 x5 x6
  go_wp2_with fail
  refine (unhide HPA _).mono ?_
  rintro e w3 ⟨rfl, rfl⟩
  have HC := hide (ro_cut (unhide HO) (k := min n k) (Nat.min_le_left _ _))
  have HT : Hid (pagR 0 (versL S nm pre) (k : Int) = R.take (min n k)) := by show _ = _; rw [unhide HPG, Int.toNat_natCast]; exact take_min9 R (unhide HN)
  have HD : Hid (morB 0 (versL S nm pre) (k : Int) = decide (k < n)) := by show _ = _; rw [unhide HMO]; exact decide_eq_decide.2 (by omega)
  clear HPG HMO
  go_wp2
  refine bodyPost_ret (v := .tuple #[.slice oa (min n k) oc, .bool (decide (k < n)), .int .i64 0]) (by simp [results, Tryz.results21, go_sem, *]) rfl ⟨.slice oa (min n k) oc, ?_, ?_, hw2⟩
  · rw [unhide HD]
  · rw [unhide HT]; exact unhide HC
theorem compact_none (a : Option Addr) (c : Nat) (w : World) : Calls Tryz.prog 44 #[.slice a 0 c] w fun e w' => e = .returned (.slice a 0 c) ∧ w = w' := by
  go_enter Tryz.func44, Tryz.ntmps44
  go_wp2
  go_ret
  exact ⟨rfl, rfl⟩
def keyE (S : St) (nm pre dl : ByteArray) (m : Int) : Int := if lchE S nm pre m = 0 then (if 1 < dl.size then 1 else 0) else lchE S nm pre m
theorem ap_next {pre dl af : ByteArray} {R : List Ro} {k : Nat} (hk : k < R.length) : apL pre dl af (R.take (k + 1)) = apL pre dl af (R.take k) ++ (stepR pre dl af (R.getD k ro0)).toList := by
  unfold apL
  rw [take_next R ro0 hk, List.filterMap_append, List.filterMap_cons]
  cases stepR pre dl af (R.getD k ro0) <;> rfl
theorem ap_len (pre dl af : ByteArray) (R : List Ro) (k : Nat) : (apL pre dl af (R.take k)).length ≤ k := by
  unfold apL
  have := List.length_filterMap_le (stepR pre dl af) (R.take k)
  have h2 := List.length_take_le k R
  omega
theorem roA_set (w : World) (B : Nat) (T : TypeId) (r r' : Ro) (h : w.heap[B]? = some (.cells (roA r) T (0, 0))) : (w.setCells B 0 (roL r')).heap[B]? = some (.cells (roA r') T (0, 0)) := by
  have h1 := row_setCells (roL r') 0 w (roL r) h (by simp)
  simpa using h1
set_option maxHeartbeats 4000000 in
theorem keys_any (S : St) (b v u q g : Value) (nm pre dl af : ByteArray) (m : Int) (w : World) (hS : Sta w b v u q g S) (hp : pre.size ≤ maxLen) (hd : dl.size ≤ maxLen) :
    Calls Tryz.prog 17 #[stV S b v u q g, .string nm, .string pre, .string dl, .string af, .int .i64 m] w fun e w' => ∃ o, e = .returned (.tuple #[o, .bool (morB (keyE S nm pre dl m) (keysL S nm pre dl af) m), .int .i64 (keyE S nm pre dl m)]) ∧ OwRo w' w.heap.size o (pagR (keyE S nm pre dl m) (keysL S nm pre dl af) m) ∧ Below w.heap.size w w' := by
  have HS := hide hS
  have HP := hide hp
  have HOK : Hid (lchE S nm pre m = 0 → stC S = true ∧ hasB S nm = true ∧ pre.size ≤ 16 ∧ 1 ≤ m ∧ m ≤ 50) := lch_ok
  have HCK := hide (fun W (hW : Sta W b v u q g S) => lcheck_any S b v u q g nm pre m W hW hp)
  have HKE : Hid (keyE S nm pre dl m = if lchE S nm pre m = 0 then (if 1 < dl.size then 1 else 0) else lchE S nm pre m) := rfl
  obtain ⟨E, hE⟩ : ∃ E, lchE S nm pre m = E := ⟨_, rfl⟩
  obtain ⟨F, hF⟩ : ∃ F, keyE S nm pre dl m = F := ⟨_, rfl⟩
  rw [hE] at HOK HCK HKE
  rw [hF] at HKE ⊢
  unfold maxLen at hd
  clear hS hp hE hF
  go_enter Tryz.func17, Tryz.ntmps17
  go_wp2_with fail
  refine (unhide HCK _ ((unhide HS).up (bl1 _ _))).mono ?_
  rintro e w1 ⟨rfl, hb⟩
  have hX := (BoxS.new w S b v u q g 29).up hb
  have hw1 := bl_trans (bl1 w _) hb
  have x0 := hX.c0
  have x1 := hX.c1
  have x2 := hX.c2
  have x3 := hX.c3
  have x4 := hX.c4
  have x5 := hX.c5
  have x6 := hX.c6
  clear hX hb HCK
  by_cases h0 : E = 0
  case neg =>
    have HF : Hid (F = E) := by show _ = _; rw [unhide HKE, if_neg h0]
    have HM : Hid (morB E (keysL S nm pre dl af) m = false) := by show _ = _; unfold morB; simp [h0]
    have HPG : Hid (pagR E (keysL S nm pre dl af) m = []) := by show _ = _; unfold pagR; rw [if_neg h0]
    go_wp2
    refine bodyPost_ret (v := .tuple #[.slice none 0 0, .bool false, .int .i64 E]) (by simp [results, Tryz.results17, go_sem, *]) rfl ⟨.slice none 0 0, ?_, ?_, hw1⟩
    · rw [unhide HF, unhide HM]
    · rw [unhide HF, unhide HPG]; exact ro_nil _ _
  subst h0
  rw [if_pos rfl] at HKE
  by_cases h1 : 1 < dl.size
  · have HF : Hid (F = 1) := by show _ = _; rw [unhide HKE, if_pos h1]
    have HM : Hid (morB 1 (keysL S nm pre dl af) m = false) := by show _ = _; unfold morB; simp
    have HPG : Hid (pagR 1 (keysL S nm pre dl af) m = []) := by show _ = _; unfold pagR; rw [if_neg (by decide)]
    go_wp2
    refine bodyPost_ret (v := .tuple #[.slice none 0 0, .bool false, .int .i64 1]) (by simp [results, Tryz.results17, go_sem, *]) rfl ⟨.slice none 0 0, ?_, ?_, hw1⟩
    · rw [unhide HF, unhide HM]
    · rw [unhide HF, unhide HPG]; exact ro_nil _ _
  have HF : Hid (F = 0) := by show _ = _; rw [unhide HKE, if_neg h1]
  obtain ⟨hok, hhas, hps, hm1, hm2⟩ := unhide HOK rfl
  have HRL := hide (rows_len hok nm pre)
  have HRK : Hid (∀ k, k < (rowsL (sv S nm pre)).length → pre.size ≤ ((rowsL (sv S nm pre)).getD k ro0).key.size ∧ ((rowsL (sv S nm pre)).getD k ro0).key.size ≤ 16) := fun k hk => rows_key hok nm pre hk
  have HRO := hide (fun W (hW : Sta W b v u q g S) => rowsOf_any S b v u q g nm pre W hW hok (unhide HP))
  have HKL : Hid (keysL S nm pre dl af = cmpL (apL pre dl af (rowsL (sv S nm pre)))) := rfl
  obtain ⟨R, hR⟩ : ∃ R, rowsL (sv S nm pre) = R := ⟨_, rfl⟩
  rw [hR] at HRL HRO HKL HRK
  obtain ⟨KL, hKL⟩ : ∃ KL, keysL S nm pre dl af = KL := ⟨_, rfl⟩
  have HKK := hide hKL
  rw [hKL] at HKL
  clear hok hhas hR HOK HKE hKL
  go_wp2_with fail
  refine (unhide HRO _ ((unhide HS).up hw1)).mono ?_
  rintro e w2 ⟨o, rfl, hO, hb⟩
  have hw2 := bl_trans hw1 hb
  have HLS := hide (ro_lst hO)
  obtain ⟨oa, oc, rfl, ho1, ho2⟩ := ro_form hO
  unfold maxLen at ho2
  have hrl := unhide HRL
  obtain ⟨n, hn⟩ : ∃ n, R.length = n := ⟨_, rfl⟩
  have HN := hide hn
  rw [hn] at HLS ho1 hrl HRK ⊢
  obtain ⟨i0, hi, hz0, hz1, hz2⟩ := info_parts infoRo
  have HD : Hid (dl.size ≤ 1) := by show _ ≤ _; omega
  clear hO hb hn x0 x1 x2 x3 x4 x5 x6 HRO HS
  go_wp2
  go_loopw [16, 18, 36] (fun o _ i wr => ∃ k : Nat, k ≤ n ∧ i = .int .i64 k ∧ OwRo wr w2.heap.size o (apL pre dl af (R.take k)) ∧ Below w2.heap.size w2 wr) (fun _ _ i _ => n - (intOf i).toNat)
  case atStart => exact ⟨0, Nat.zero_le _, rfl, ro_nil _ _, Below.refl _ _⟩
  case round =>
    obtain ⟨k, hk, rfl, hO, hbr⟩ := hrel
    have HOQ := hide hO
    obtain ⟨qa, qc, rfl, hq1, hq2⟩ := ro_form hO
    unfold maxLen at hq2
    clear hO
    by_cases hlt : k < n
    · have hlt' : k < R.length := by rw [unhide HN]; exact hlt
      obtain ⟨b8, o8, e8, r0⟩ := Lst.at (unhide HLS) hlt'
      obtain ⟨hx1, hx2⟩ := unhide HRK k hlt
      have HAP := hide (ap_next (pre := pre) (dl := dl) (af := af) hlt')
      obtain ⟨X, hX⟩ : ∃ X, R.getD k ro0 = X := ⟨_, rfl⟩
      rw [hX] at r0 hx1 hx2 HAP
      have HSH := hide (fun W => shared_any X pre dl W (by unfold maxLen; omega) hx1 (unhide HD))
      subst e8
      have r := RRo.up hbr r0
      have c0 := r.c0
      have c1 := r.c1
      have c2 := r.c2
      have c3 := r.c3
      have c4 := r.c4
      have c5 := r.c5
      have c6 := r.c6
      clear r r0 hX
      have hln := ap_len pre dl af R k
      have hWq := hbr.size
      go_upto_region 10 with fail
      generalize hWW : wr.alloc _ = W8
      have h8 : W8.heap[wr.heap.size]? = some (.cells (roA X) 61 (0, 0)) ∧ Below wr.heap.size wr W8 := by
        rw [← hWW]
        exact ⟨heap_alloc_new _ _, bl1 _ _⟩
      clear hWW c0 c1 c2 c3 c4 c5 c6
      obtain ⟨hr8, hb8⟩ := h8
      have z0 : W8.cell? ⟨wr.heap.size, 0, none⟩ = some (.string X.key) := cell_of hr8 0 rfl
      have z1 : W8.cell? ⟨wr.heap.size, 1, none⟩ = some (.bool X.com) := cell_of hr8 1 rfl
      have z2 : W8.cell? ⟨wr.heap.size, 2, none⟩ = some (.int .i64 X.id) := cell_of hr8 2 rfl
      have z3 : W8.cell? ⟨wr.heap.size, 3, none⟩ = some (.bool X.mar) := cell_of hr8 3 rfl
      have z4 : W8.cell? ⟨wr.heap.size, 4, none⟩ = some (.bool X.lat) := cell_of hr8 4 rfl
      have z5 : W8.cell? ⟨wr.heap.size, 5, none⟩ = some (.int .i64 X.size) := cell_of hr8 5 rfl
      have z6 : W8.cell? ⟨wr.heap.size, 6, none⟩ = some (.int .i64 X.tier) := cell_of hr8 6 rfl
      have HR8 := hide hr8
      have hl8 : wr.heap.size < W8.heap.size := (Array.getElem?_eq_some_iff.1 hr8).1
      have hw8 := bl_trans hbr hb8
      have HO1 := hide (ro_up (unhide HOQ) hb8)
      have hW8 := hw8.size
      have HNB : Hid ((Value.slice qa (apL pre dl af (R.take k)).length qc).ownBlock = none ∨ (Value.slice qa (apL pre dl af (R.take k)).length qc).ownBlock ≠ some wr.heap.size) := by
        cases hq : (Value.slice qa (apL pre dl af (R.take k)).length qc).ownBlock with
        | none => exact .inl rfl
        | some j =>
          have := ((unhide HOQ).lt j hq).2
          exact .inr (fun e => by injection e with e; omega)
      obtain ⟨B8, hB8⟩ : ∃ x, wr.heap.size = x := ⟨_, rfl⟩
      have hB8w : w2.heap.size ≤ B8 := by omega
      rw [hB8] at z0 z1 z2 z3 z4 z5 z6 HR8 hl8 HNB ⊢
      clear hr8 hb8 hB8 HOQ
      have HST : Hid (stepR pre dl af X = if X.mar || !X.lat then none else if gtB (shR X pre dl).key af then some (shR X pre dl) else none) := rfl
      cases hmar : X.mar
      case true =>
        have HZ : Hid (apL pre dl af (R.take (k + 1)) = apL pre dl af (R.take k)) := by show _ = _; rw [unhide HAP, unhide HST, hmar]; simp
        rw [hmar] at z3
        go_wp2
        go_roundw
        case rel => exact ⟨k + 1, by omega, by go_num, by rw [unhide HZ]; exact unhide HO1, hw8⟩
        case measure => (simp [intOf] <;> omega)
      cases hlat : X.lat
      case false =>
        have HZ : Hid (apL pre dl af (R.take (k + 1)) = apL pre dl af (R.take k)) := by show _ = _; rw [unhide HAP, unhide HST, hmar, hlat]; simp
        rw [hmar] at z3
        rw [hlat] at z4
        go_wp2
        go_roundw
        case rel => exact ⟨k + 1, by omega, by go_num, by rw [unhide HZ]; exact unhide HO1, hw8⟩
        case measure => (simp [intOf] <;> omega)
      rw [hmar, hlat] at HST
      have HST2 : Hid (stepR pre dl af X = if gtB (shR X pre dl).key af then some (shR X pre dl) else none) := unhide HST
      have HMA := hide hmar
      have HLA := hide hlat
      rw [hmar] at z3
      rw [hlat] at z4
      clear HST hmar hlat
      obtain ⟨Y, hY⟩ : ∃ Y, shR X pre dl = Y := ⟨_, rfl⟩
      rw [hY] at HSH HST2
      clear hY
      go_wp2_with fail
      have HXE : Hid (roV X = .agg #[.string X.key, .bool X.com, .int .i64 X.id, .bool false, .bool true, .int .i64 X.size, .int .i64 X.tier]) := by show _ = _; rw [← unhide HMA, ← unhide HLA]
      have HSH2 : Hid (∀ W : World, Calls Tryz.prog 42 #[.agg #[.string X.key, .bool X.com, .int .i64 X.id, .bool false, .bool true, .int .i64 X.size, .int .i64 X.tier], .string pre, .string dl] W fun e w' => e = .returned (roV Y) ∧ Below W.heap.size W w') := fun W => by
        have h := unhide HSH W
        rw [unhide HXE] at h
        exact h
      refine (unhide HSH2 _).mono ?_
      rintro e w9 ⟨rfl, hb9⟩
      have hr9 := (hb9.block _ hl8).trans (unhide HR8)
      have y0 : w9.cell? ⟨B8, 0, none⟩ = some (.string X.key) := cell_of hr9 0 rfl
      have y1 : w9.cell? ⟨B8, 1, none⟩ = some (.bool X.com) := cell_of hr9 1 rfl
      have y2 : w9.cell? ⟨B8, 2, none⟩ = some (.int .i64 X.id) := cell_of hr9 2 rfl
      have y3 : w9.cell? ⟨B8, 3, none⟩ = some (.bool X.mar) := cell_of hr9 3 rfl
      have y4 : w9.cell? ⟨B8, 4, none⟩ = some (.bool X.lat) := cell_of hr9 4 rfl
      have y5 : w9.cell? ⟨B8, 5, none⟩ = some (.int .i64 X.size) := cell_of hr9 5 rfl
      have y6 : w9.cell? ⟨B8, 6, none⟩ = some (.int .i64 X.tier) := cell_of hr9 6 rfl
      have hfz := fun i => fz_of hr9 i
      have HR9 := hide hr9
      have HO9 := hide (ro_up (unhide HO1) hb9)
      have hw9 := bl_trans hw8 hb9
      clear hr9 hb9 HO1 HSH HSH2 HXE z0 z1 z2 z3 z4 z5 z6 hw8 hW8
      go_upto_region 12 with fail
      generalize hWW : World.setCell _ _ _ = W10
      have h10 : W10.heap[B8]? = some (.cells (roA Y) 61 (0, 0)) ∧ OwRo W10 w2.heap.size (.slice qa (apL pre dl af (R.take k)).length qc) (apL pre dl af (R.take k)) ∧ Below w2.heap.size w2 W10 := by
        rw [← hWW]
        have hgb := gb_setCells B8 (roL Y) 0 w9
        exact ⟨roA_set w9 B8 _ X Y (unhide HR9), World.ownsRow.kept (unhide HO9) hgb (unhide HNB), bl_tr hw9 (gb_lo hgb hw9.size (fun j e => by injection e with e; omega))⟩
      obtain ⟨hr10, hO10, hw10⟩ := h10
      clear hWW y0 y1 y2 y3 y4 y5 y6 hfz HR9 HO9 hw9
      have y0 : W10.cell? ⟨B8, 0, none⟩ = some (.string Y.key) := cell_of hr10 0 rfl
      have y1 : W10.cell? ⟨B8, 1, none⟩ = some (.bool Y.com) := cell_of hr10 1 rfl
      have y2 : W10.cell? ⟨B8, 2, none⟩ = some (.int .i64 Y.id) := cell_of hr10 2 rfl
      have y3 : W10.cell? ⟨B8, 3, none⟩ = some (.bool Y.mar) := cell_of hr10 3 rfl
      have y4 : W10.cell? ⟨B8, 4, none⟩ = some (.bool Y.lat) := cell_of hr10 4 rfl
      have y5 : W10.cell? ⟨B8, 5, none⟩ = some (.int .i64 Y.size) := cell_of hr10 5 rfl
      have y6 : W10.cell? ⟨B8, 6, none⟩ = some (.int .i64 Y.tier) := cell_of hr10 6 rfl
      have HOT := hide hO10
      have hs10 := hw10.size
      have hl10 : B8 < W10.heap.size := (Array.getElem?_eq_some_iff.1 hr10).1
      clear hr10 hO10
      cases ha : Op.bytesLess Y.key.toList af.toList
      · cases hb : (Y.key.toList == af.toList)
        · have HZ : Hid (apL pre dl af (R.take (k + 1)) = apL pre dl af (R.take k) ++ [Y]) := by show _ = _; rw [unhide HAP, unhide HST2, show gtB Y.key af = true by unfold gtB; simp [ha, hb]]; simp
          clear HST2
          obtain ⟨Q, hQ⟩ : ∃ Q, apL pre dl af (R.take k) = Q := ⟨_, rfl⟩
          rw [hQ] at HOT HZ hln ⊢
          clear hQ
          go_wp2_with (first
            | (at_builtin; refine wpList_append_own _ rfl _ _ 56 rfl w2.heap.size 61 i0 (.agg zeroRo) 7 56 Tryz.underlying56 hi hz0 hz1 hz2 rfl (by decide) _ _ _ rfl ((unhide HOT).alloc _) ⟨W10.heap.size, 0, none⟩ 1 1 [.string Y.key, .bool Y.com, .int .i64 Y.id, .bool Y.mar, .bool Y.lat, .int .i64 Y.size, .int .i64 Y.tier] rfl rfl (fun j u hj => by rw [addI, Nat.zero_add]; exact cell_of (heap_alloc_new _ _) j (by simpa using hj)) (by simp [Value.oneCell']) (by unfold maxLen; omega) (by omega) (by simp; omega) ?_; intro v' w1' hown' hgrow hnil)
            | go_in)
          have hb1 := (bl_alloc hw10 _).grown hgrow (bl_alloc hw10 _).size (fun j hj => ((unhide HOT).lt j hj).1)
          clear hgrow hnil
          exact ⟨⟨k + 1, by omega, by go_num, by rw [unhide HZ]; unfold OwRo; rw [List.length_append, List.flatMap_append]; show World.ownsRow _ _ _ _ _ (Q.length + 1) (Q.flatMap roL ++ (roL Y ++ [])); rw [List.append_nil]; exact hown', hb1⟩, by simp [intOf]; omega⟩
        · skip
          have HZ : Hid (apL pre dl af (R.take (k + 1)) = apL pre dl af (R.take k)) := by show _ = _; rw [unhide HAP, unhide HST2, show gtB Y.key af = false by unfold gtB; simp [ha, hb]]; simp
          go_wp2
          go_roundw
          case rel => exact ⟨k + 1, by omega, by go_num, by rw [unhide HZ]; exact unhide HOT, hw10⟩
          case measure => (simp [intOf] <;> omega)
      · skip
        have HZ : Hid (apL pre dl af (R.take (k + 1)) = apL pre dl af (R.take k)) := by show _ = _; rw [unhide HAP, unhide HST2, show gtB Y.key af = false by unfold gtB; simp [ha]]; simp
        go_wp2
        go_roundw
        case rel => exact ⟨k + 1, by omega, by go_num, by rw [unhide HZ]; exact unhide HOT, hw10⟩
        case measure => (simp [intOf] <;> omega)
    · obtain rfl : k = n := by omega
      have hw3 := bl_trans hw2 hbr
      have HTK : Hid (R.take k = R) := List.take_of_length_le (by rw [unhide HN]; exact Nat.le_refl _)
      have hln := ap_len pre dl af R k
      obtain ⟨A, hA⟩ : ∃ A, apL pre dl af (R.take k) = A := ⟨_, rfl⟩
      have HKA : Hid (KL = cmpL A) := by show _ = _; rw [unhide HKL, ← hA, unhide HTK]
      rw [hA] at HOQ hq1 hln ⊢
      obtain ⟨mk, rfl⟩ := Int.eq_ofNat_of_zero_le (show 0 ≤ m by omega)
      have hw2s := hw2.size
      clear hA HKL HTK
      by_cases hne : A = []
      · subst hne
        have HOC : Hid (OwRo wr w.heap.size (.slice qa 0 qc) KL) := by
          have h := ro_lo (unhide HOQ) hw2s
          rw [unhide HKA]
          exact h
        have HN9 : Hid (KL.length = 0) := by show _ = _; rw [unhide HKA]; rfl
        have hnn : 0 ≤ qc := Nat.zero_le _
        have hcc : qc ≤ 9223372036854775807 := by omega
        have hz : ([] : List Ro).length = 0 := rfl
        rw [hz] at HOQ ⊢
        clear hz HOQ
        go_wp2_with fail
        refine (compact_none _ _ _).mono ?_
        rintro e w4 ⟨rfl, rfl⟩
        have HPA := hide (fun W => page_any qa 0 qc mk W hnn hcc (by omega))
        have HC := hide (ro_cut (unhide HOC) (k := min 0 mk) (Nat.min_le_left _ _))
        have HT : Hid (pagR 0 KL (mk : Int) = KL.take (min 0 mk)) := by show _ = _; unfold pagR; rw [if_pos rfl, Int.toNat_natCast]; exact take_min9 KL (unhide HN9)
        have HD2 : Hid (morB 0 KL (mk : Int) = decide (mk < 0)) := by show _ = _; unfold morB; rw [unhide HN9]; exact decide_eq_decide.2 (by omega)
        go_wp2_with fail
        refine (unhide HPA _).mono ?_
        rintro e w5 ⟨rfl, rfl⟩
        go_wp2
        refine bodyPost_ret (v := .tuple #[.slice qa (min 0 mk) qc, .bool (decide (mk < 0)), .int .i64 0]) (by simp [results, Tryz.results17, go_sem, *]) rfl ⟨.slice qa (min 0 mk) qc, ?_, ?_, hw3⟩
        · rw [unhide HF, unhide HKK, unhide HD2]
        · rw [unhide HF, unhide HKK, unhide HT]; exact unhide HC
      · obtain ⟨gr, cap, hsl, hgB, hR, hcap, hnc⟩ := ro_row (unhide HOQ) hne
        simp only [Value.slice.injEq] at hsl
        obtain ⟨rfl, _, rfl⟩ := hsl
        have HCO := hide (compact_any gr qc A wr hR hnc hcap)
        have hcl : (cmpL A).length ≤ A.length := by
          have h := cmp_len A A.length (Nat.le_refl _)
          rwa [List.take_of_length_le (Nat.le_refl _)] at h
        rw [← unhide HKA] at HCO hcl
        obtain ⟨n9, hn9⟩ : ∃ n9, KL.length = n9 := ⟨_, rfl⟩
        have HN9 := hide hn9
        rw [hn9] at HCO hcl
        clear hR hn9 HOQ hne
        go_wp2_with fail
        refine (unhide HCO).mono ?_
        rintro e w4 ⟨rfl, hR4, hg4⟩
        have hw4 : Below w.heap.size w w4 := bl_tr hw3 (gb_lo hg4 hw3.size (fun j e => by injection e with e; omega))
        have hnn : n9 ≤ qc := by omega
        have hcc : qc ≤ 9223372036854775807 := by omega
        have HOC : Hid (OwRo w4 w.heap.size (.slice (some ⟨gr, 0, none⟩) n9 qc) KL) := by
          have h := ro_of (B := w.heap.size) hR4 (by omega) (by rw [unhide HN9]; exact hnn) hcap
          rw [unhide HN9] at h
          exact h
        clear hR4 hg4 HCO
        have HPA := hide (fun W => page_any (some ⟨gr, 0, none⟩) n9 qc mk W hnn hcc (by omega))
        have HC := hide (ro_cut (unhide HOC) (k := min n9 mk) (Nat.min_le_left _ _))
        have HT : Hid (pagR 0 KL (mk : Int) = KL.take (min n9 mk)) := by show _ = _; unfold pagR; rw [if_pos rfl, Int.toNat_natCast]; exact take_min9 KL (unhide HN9)
        have HD2 : Hid (morB 0 KL (mk : Int) = decide (mk < n9)) := by show _ = _; unfold morB; rw [unhide HN9]; exact decide_eq_decide.2 (by omega)
        go_wp2_with fail
        refine (unhide HPA _).mono ?_
        rintro e w5 ⟨rfl, rfl⟩
        go_wp2
        refine bodyPost_ret (v := .tuple #[.slice (some ⟨gr, 0, none⟩) (min n9 mk) qc, .bool (decide (mk < n9)), .int .i64 0]) (by simp [results, Tryz.results17, go_sem, *]) rfl ⟨.slice (some ⟨gr, 0, none⟩) (min n9 mk) qc, ?_, ?_, hw4⟩
        · rw [unhide HF, unhide HKK, unhide HD2]
        · rw [unhide HF, unhide HKK, unhide HT]; exact unhide HC
end Go.Proofs.YtdgmdapijhbocaaGreat
