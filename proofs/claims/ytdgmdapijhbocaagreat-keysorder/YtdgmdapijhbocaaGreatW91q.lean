/- icehousekeep.KeysOrder: the walk. -/
import Derived.Test.YtdgmdapijhbocaaGreatLk7q
import Derived.Test.YtdgmdapijhbocaaGreatG14
import Derived.BigQuiet
import Derived.BigRegion
import Derived.Deep.QuietTactic
import Derived.Deep.RegionHeld3
import Derived.Test.YtdgmdapijhbocaaGreatKkpq
namespace Go.Proofs.YtdgmdapijhbocaaGreat
open Go.RowKit Go.Maps
set_option maxRecDepth 100000
set_option linter.unusedVariables false
set_option linter.unusedSimpArgs false
/-- The five keys as a raw number makes them. -/
def L5 : List ByteArray := [kx, kY1, kY2, kz, kY]
theorem L5_at (k : Nat) (hk : k < 5) : kyB (k : Int) = L5.getD k ⟨#[]⟩ := by
  match k, hk with
  | 0, _ => rfl
  | 1, _ => rfl
  | 2, _ => rfl
  | 3, _ => rfl
  | 4, _ => rfl
theorem L5_perm : L5.Perm K5 := by
  unfold L5 K5
  refine List.Perm.cons _ ?_
  exact (List.perm_middle (l₁ := [kY1, kY2, kz]) (l₂ := []) (a := kY))
def VZ : List Value := [.int .i64 0, .string ⟨#[]⟩, .string ⟨#[]⟩, .bool false, .bool false, .int .i64 0, .int .i64 0, .int .i64 0, .slice none 0 0, .int .i64 0, .int .i64 0, .int .i64 0]
theorem bl_ad (W : World) (o : Obj) : Below W.drew.heap.size W.drew (W.alloc o).drew := bl_alloc (Below.refl W.drew.heap.size W.drew) o
theorem bl_s3 {W w w3 : World} (h3 : Below W.drew.heap.size W.drew w3) (h : Below W.drew.heap.size W.drew w) (j : Nat) (v : Value) : Below W.drew.heap.size W.drew (w.setCell ⟨w3.heap.size, j, none⟩ v) := bl_set h h3.size v
theorem bl_s0 {W w : World} (h : Below W.drew.heap.size W.drew w) (j : Nat) (v : Value) : Below W.drew.heap.size W.drew (w.setCell ⟨W.heap.size, j, none⟩ v) := bl_set h (Nat.le_refl _) v
theorem vz_cell {w : World} {g : Nat} (h : w.heap[g]? = some (.cells VZ.toArray 36 (0, 0))) : (∀ j, w.frozen? ⟨g, j, none⟩ = false) ∧ w.cell? ⟨g, 0, none⟩ = some (.int .i64 0) ∧ w.cell? ⟨g, 1, none⟩ = some (.string ⟨#[]⟩) ∧ w.cell? ⟨g, 2, none⟩ = some (.string ⟨#[]⟩) ∧ w.cell? ⟨g, 3, none⟩ = some (.bool false) ∧ w.cell? ⟨g, 4, none⟩ = some (.bool false) ∧ w.cell? ⟨g, 5, none⟩ = some (.int .i64 0) ∧ w.cell? ⟨g, 6, none⟩ = some (.int .i64 0) ∧ w.cell? ⟨g, 7, none⟩ = some (.int .i64 0) ∧ w.cell? ⟨g, 8, none⟩ = some (.slice none 0 0) ∧ w.cell? ⟨g, 9, none⟩ = some (.int .i64 0) ∧ w.cell? ⟨g, 10, none⟩ = some (.int .i64 0) ∧ w.cell? ⟨g, 11, none⟩ = some (.int .i64 0) :=
  ⟨fun j => by simp [World.frozen?, h], cell_of h 0 rfl, cell_of h 1 rfl, cell_of h 2 rfl, cell_of h 3 rfl, cell_of h 4 rfl, cell_of h 5 rfl, cell_of h 6 rfl, cell_of h 7 rfl, cell_of h 8 rfl, cell_of h 9 rfl, cell_of h 10 rfl, cell_of h 11 rfl⟩
theorem r1q {w : World} {g : Nat} {t : TypeId} {c c' : Array Value} (h : w.heap[g]? = some (.cells c t (0, 0))) (i : Nat) (v : Value) (hc : c.setIfInBounds i v = c') : (w.setCell ⟨g, i, none⟩ v).heap[g]? = some (.cells c' t (0, 0)) := by
  rw [← hc]; exact heap_setCell_same w g i c t v h
theorem v12 {w : World} {g : Nat} {v0 v1 v2 v3 v4 v5 v6 v7 v8 v9 v10 v11 : Value} (h0 : w.heap[g]? = some (.cells VZ.toArray 36 (0, 0))) : ((((((((((((w.setCell ⟨g, 0, none⟩ v0).setCell ⟨g, 1, none⟩ v1).setCell ⟨g, 2, none⟩ v2).setCell ⟨g, 3, none⟩ v3).setCell ⟨g, 4, none⟩ v4).setCell ⟨g, 5, none⟩ v5).setCell ⟨g, 6, none⟩ v6).setCell ⟨g, 7, none⟩ v7).setCell ⟨g, 8, none⟩ v8).setCell ⟨g, 9, none⟩ v9).setCell ⟨g, 10, none⟩ v10).setCell ⟨g, 11, none⟩ v11).cell? ⟨g, 0, none⟩ = some v0 ∧ ((((((((((((w.setCell ⟨g, 0, none⟩ v0).setCell ⟨g, 1, none⟩ v1).setCell ⟨g, 2, none⟩ v2).setCell ⟨g, 3, none⟩ v3).setCell ⟨g, 4, none⟩ v4).setCell ⟨g, 5, none⟩ v5).setCell ⟨g, 6, none⟩ v6).setCell ⟨g, 7, none⟩ v7).setCell ⟨g, 8, none⟩ v8).setCell ⟨g, 9, none⟩ v9).setCell ⟨g, 10, none⟩ v10).setCell ⟨g, 11, none⟩ v11).cell? ⟨g, 4, none⟩ = some v4 ∧ ((((((((((((w.setCell ⟨g, 0, none⟩ v0).setCell ⟨g, 1, none⟩ v1).setCell ⟨g, 2, none⟩ v2).setCell ⟨g, 3, none⟩ v3).setCell ⟨g, 4, none⟩ v4).setCell ⟨g, 5, none⟩ v5).setCell ⟨g, 6, none⟩ v6).setCell ⟨g, 7, none⟩ v7).setCell ⟨g, 8, none⟩ v8).setCell ⟨g, 9, none⟩ v9).setCell ⟨g, 10, none⟩ v10).setCell ⟨g, 11, none⟩ v11).cell? ⟨g, 5, none⟩ = some v5 := by
  have h1 := r1q (c' := #[v0, .string ⟨#[]⟩, .string ⟨#[]⟩, .bool false, .bool false, .int .i64 0, .int .i64 0, .int .i64 0, .slice none 0 0, .int .i64 0, .int .i64 0, .int .i64 0]) h0 0 v0 rfl
  have h2 := r1q (c' := #[v0, v1, .string ⟨#[]⟩, .bool false, .bool false, .int .i64 0, .int .i64 0, .int .i64 0, .slice none 0 0, .int .i64 0, .int .i64 0, .int .i64 0]) h1 1 v1 rfl
  have h3 := r1q (c' := #[v0, v1, v2, .bool false, .bool false, .int .i64 0, .int .i64 0, .int .i64 0, .slice none 0 0, .int .i64 0, .int .i64 0, .int .i64 0]) h2 2 v2 rfl
  have h4 := r1q (c' := #[v0, v1, v2, v3, .bool false, .int .i64 0, .int .i64 0, .int .i64 0, .slice none 0 0, .int .i64 0, .int .i64 0, .int .i64 0]) h3 3 v3 rfl
  have h5 := r1q (c' := #[v0, v1, v2, v3, v4, .int .i64 0, .int .i64 0, .int .i64 0, .slice none 0 0, .int .i64 0, .int .i64 0, .int .i64 0]) h4 4 v4 rfl
  have h6 := r1q (c' := #[v0, v1, v2, v3, v4, v5, .int .i64 0, .int .i64 0, .slice none 0 0, .int .i64 0, .int .i64 0, .int .i64 0]) h5 5 v5 rfl
  have h7 := r1q (c' := #[v0, v1, v2, v3, v4, v5, v6, .int .i64 0, .slice none 0 0, .int .i64 0, .int .i64 0, .int .i64 0]) h6 6 v6 rfl
  have h8 := r1q (c' := #[v0, v1, v2, v3, v4, v5, v6, v7, .slice none 0 0, .int .i64 0, .int .i64 0, .int .i64 0]) h7 7 v7 rfl
  have h9 := r1q (c' := #[v0, v1, v2, v3, v4, v5, v6, v7, v8, .int .i64 0, .int .i64 0, .int .i64 0]) h8 8 v8 rfl
  have h10 := r1q (c' := #[v0, v1, v2, v3, v4, v5, v6, v7, v8, v9, .int .i64 0, .int .i64 0]) h9 9 v9 rfl
  have h11 := r1q (c' := #[v0, v1, v2, v3, v4, v5, v6, v7, v8, v9, v10, .int .i64 0]) h10 10 v10 rfl
  have h12 := r1q (c' := #[v0, v1, v2, v3, v4, v5, v6, v7, v8, v9, v10, v11]) h11 11 v11 rfl
  exact ⟨cell_of h12 0 rfl, cell_of h12 4 rfl, cell_of h12 5 rfl⟩
theorem v12a {v0 v1 v2 v3 v4 v5 v6 v7 v8 v9 v10 v11 : Value} (w : World) : (w.alloc (.cells #[v0, v1, v2, v3, v4, v5, v6, v7, v8, v9, v10, v11] 36)).cell? ⟨w.heap.size, 0, none⟩ = some v0 ∧ (w.alloc (.cells #[v0, v1, v2, v3, v4, v5, v6, v7, v8, v9, v10, v11] 36)).cell? ⟨w.heap.size, 4, none⟩ = some v4 ∧ (w.alloc (.cells #[v0, v1, v2, v3, v4, v5, v6, v7, v8, v9, v10, v11] 36)).cell? ⟨w.heap.size, 5, none⟩ = some v5 :=
  ⟨cell_of (heap_alloc_new _ _) 0 rfl, cell_of (heap_alloc_new _ _) 4 rfl, cell_of (heap_alloc_new _ _) 5 rfl⟩
def tolP (S : St) (nm p k : ByteArray) : Bool := (latB S nm k && !(latV S nm k).mar) && pfB k p
def cntL (S : St) (nm p : ByteArray) (k : Nat) : Nat := ((L5.take k).filter (tolP S nm p)).length
theorem cntL_next (S : St) (nm p : ByteArray) {k : Nat} (hk : k < 5) : cntL S nm p (k + 1) = cntL S nm p k + if tolP S nm p (kyB (k : Int)) then 1 else 0 := by
  have h5 : L5.length = 5 := rfl
  unfold cntL
  rw [take_next L5 ⟨#[]⟩ (by omega), List.filter_append, List.length_append, List.filter_cons, L5_at k hk]
  split <;> simp
theorem cntL_le (S : St) (nm p : ByteArray) (k : Nat) : cntL S nm p k ≤ k := by
  unfold cntL
  have := List.length_filter_le (tolP S nm p) (L5.take k)
  have h2 := List.length_take_le k L5
  omega
theorem fm_len {α β : Type} (p : α → Bool) (o : α → Option β) : ∀ l : List α, ((l.filter p).filterMap o).length = (l.filter (fun k => (o k).isSome && p k)).length
  | [] => rfl
  | x :: l => by
    have ih := fm_len p o l
    rw [List.filter_cons, List.filter_cons]
    cases hp : p x
    · simpa [hp] using ih
    · cases ho : o x
      · simpa [hp, ho] using ih
      · simpa [hp, ho] using ih
theorem plain_cnt {S : St} (hok : stC S = true) (hk : ∀ v ∈ S.ves, v.ke ∈ K5) (nm p : ByteArray) : (plain S nm p).length = cntL S nm p 5 := by
  rw [plain_is hok hk, fm_len]
  unfold cntL
  rw [List.take_of_length_le (show L5.length ≤ 5 by decide)]
  refine ((L5_perm.filter _).length_eq.trans ?_).symm
  congr 1
  refine List.filter_congr fun k _ => ?_
  unfold tolP oneR
  split <;> simp_all
theorem pre_rul (n : Int) : rulE (preB n) 0 0 = 0 ∧ (preB n).size ≤ 2 := by
  unfold preB
  split
  · exact ⟨by kernel_rfl, by decide⟩
  · split
    · exact ⟨by kernel_rfl, by decide⟩
    · exact ⟨by kernel_rfl, by decide⟩
theorem K5_size {k : ByteArray} (h : k ∈ K5) : k.size ≤ 5 := by
  unfold K5 at h
  simp only [List.mem_cons, List.not_mem_nil, or_false] at h
  rcases h with rfl | rfl | rfl | rfl | rfl <;> decide
theorem pf_cut {s t : ByteArray} (h : pfB s t = true) : t.size ≤ s.size ∧ ((s.extract 0 t.size).toList == t.toList) = true := by
  unfold pfB at h
  split at h
  · next q => exact ⟨q, h⟩
  · cases h
/-- What stands in a row that is told. -/
theorem plain_at {S : St} (hok : stC S = true) (hk : ∀ v ∈ S.ves, v.ke ∈ K5) {nm p : ByteArray} {r : Ro} (h : r ∈ plain S nm p) : r = roOf (latV S nm r.key) true ∧ latB S nm r.key = true ∧ (latV S nm r.key).mar = false ∧ pfB r.key p = true ∧ r.key ∈ K5 := by
  rw [plain_is hok hk] at h
  obtain ⟨ky, h1, h2⟩ := List.mem_filterMap.1 h
  obtain ⟨h3, h4⟩ := List.mem_filter.1 h1
  obtain ⟨g1, g2, g3, g4⟩ := oneR_key hok h2
  rw [g4]
  exact ⟨g3, g1, g2, h4, h3⟩
set_option maxHeartbeats 4000000 in
theorem keysOrder_walk (lv : Value) (l : List Rw) (na nb : Int) (w : World) (hl : Raws w lv l) (ha : (Lit.int .i64 na).wf = true) (hb : (Lit.int .i64 nb).wf = true) :
    Calls Tryz.prog 4 #[lv, .int .i64 na, .int .i64 nb] w fun e w' => e = .returned (.bool true) ∧ Below w.heap.size w w' := by
  obtain ⟨la, lc, rfl, hl1, hl2⟩ := hl.form
  unfold maxLen at hl2
  have HL := hide hl
  clear hl
  obtain ⟨ha0, ha1⟩ := wf_lo ha
  obtain ⟨hb0, hb1'⟩ := wf_lo hb
  clear ha hb
  obtain ⟨S, hSS⟩ : ∃ S, staL l 40 = S := ⟨_, rfl⟩
  obtain ⟨n, hnn⟩ : ∃ n, cntN l (rnd l 40) = n := ⟨_, rfl⟩
  have hn2 : 2 ≤ n := by rw [← hnn]; exact cntN_two l _ (by unfold rnd; omega)
  have hok : stC S = true := by rw [← hSS]; exact staL_ok l 40
  obtain ⟨NM, hNM⟩ : ∃ x, nmB na = x := ⟨_, rfl⟩
  obtain ⟨P, hP⟩ : ∃ x, preB nb = x := ⟨_, rfl⟩
  have HNP : Hid (∀ W : World, Calls Tryz.prog 18 #[.int .i64 na] W fun e w' => e = .returned (.string NM) ∧ Below W.heap.size W w') := fun W => by
    have := name_any na W ha0 ha1
    rwa [hNM] at this
  have hbn : bnm S = [⟨#[97]⟩, ⟨#[98]⟩] := by rw [← hSS]; exact staL_names l 40
  have hhas : hasB S NM = true := hasB_in (by rw [hbn, ← hNM]; rcases (nmB_le na).2 with h | h <;> rw [h] <;> simp)
  have hnoc : hasB S ⟨#[99]⟩ = false := hasB_out (by rw [hbn]; intro h; simp only [List.mem_cons, List.not_mem_nil, or_false] at h; rcases h with h | h <;> exact absurd (congrArg ByteArray.data h) (by decide))
  have hke : ∀ v ∈ S.ves, v.ke ∈ K5 := by rw [← hSS]; exact staL_keys l 40
  obtain ⟨hpr, hps⟩ := pre_rul nb
  rw [hP] at hpr hps
  obtain ⟨I3, hI3, hpk⟩ : ∃ i : Nat, i < 3 ∧ pickI nb 3 = (i : Int) := pick_nat nb (L := 3) (by decide)
  have HPI : Hid ((I3 = 0 ∧ P = ⟨#[]⟩) ∨ (I3 = 1 ∧ P = ⟨#[121]⟩) ∨ (I3 = 2 ∧ P = ⟨#[122, 47]⟩)) := by
    show _ ∨ _
    rw [← hP]
    unfold preB
    rw [hpk]
    rcases (show I3 = 0 ∨ I3 = 1 ∨ I3 = 2 by omega) with h | h | h <;> subst h
    · exact .inl ⟨rfl, rfl⟩
    · exact .inr (.inl ⟨rfl, rfl⟩)
    · exact .inr (.inr ⟨rfl, rfl⟩)
  have HPK := hide hpk
  obtain ⟨R, hR⟩ : ∃ R, plain S NM P = R := ⟨_, rfl⟩
  have h5 := plain_len hok hke NM P
  have HKS : Hid (∀ (W : World) (b v u q g : Value), Sta W b v u q g S → Calls Tryz.prog 17 #[stV S b v u q g, .string NM, .string P, .string ⟨#[]⟩, .string ⟨#[]⟩, .int .i64 50] W fun e w' => ∃ a d, e = .returned (.tuple #[.slice a R.length d, .bool false, .int .i64 0]) ∧ OwRo w' W.heap.size (.slice a R.length d) R ∧ Below W.heap.size W w') := fun W b v u q g hS => by
    have hl := lch_0 hok hhas (pre := P) hpr (m := 50) (by decide) (by decide)
    have he : keyE S NM P ⟨#[]⟩ 50 = 0 := by unfold keyE; rw [hl, if_pos rfl, if_neg (by decide)]
    refine (keys_any S b v u q g NM P ⟨#[]⟩ ⟨#[]⟩ 50 W hS (by unfold maxLen; omega) (by decide)).mono ?_
    rintro e w' ⟨o, rfl, hO, hb⟩
    rw [he, keys_plain hok hke, hR] at hO ⊢
    rw [hR] at h5
    have e1 : pagR 0 R 50 = R := by
      unfold pagR
      rw [if_pos rfl]
      exact List.take_of_length_le (by show R.length ≤ 50; omega)
    have e2 : morB 0 R 50 = false := by
      unfold morB
      exact decide_eq_false (by omega)
    rw [e1] at hO
    rw [e2]
    obtain ⟨a, d, rfl, _, _⟩ := ro_form hO
    exact ⟨a, d, rfl, hO, hb⟩
  have HKC : Hid (∀ (W : World) (b v u q g : Value), Sta W b v u q g S → Calls Tryz.prog 17 #[stV S b v u q g, .string ⟨#[99]⟩, .string P, .string ⟨#[]⟩, .string ⟨#[]⟩, .int .i64 1] W fun e w' => ∃ o, e = .returned (.tuple #[o, .bool false, .int .i64 6]) ∧ Below W.heap.size W w') := fun W b v u q g hS => by
    have hl : lchE S ⟨#[99]⟩ P 1 = 6 := by unfold lchE; rw [stE_t hok, if_pos rfl, hnoc]; rfl
    have he : keyE S ⟨#[99]⟩ P ⟨#[]⟩ 1 = 6 := by unfold keyE; rw [hl, if_neg (by decide)]
    refine (keys_any S b v u q g ⟨#[99]⟩ P ⟨#[]⟩ ⟨#[]⟩ 1 W hS (by unfold maxLen; omega) (by decide)).mono ?_
    rintro e w' ⟨o, rfl, hO, hb⟩
    refine ⟨o, ?_, hb⟩
    rw [he]
    unfold morB
    simp
  have HLT : Hid (∀ (W : World) (b v u q g : Value) (ky : ByteArray), Sta W b v u q g S → Calls Tryz.prog 15 #[stV S b v u q g, .string NM, .string ky] W fun e w' => ∃ a d, e = .returned (.tuple #[veV (latV S NM ky) (.slice a (latV S NM ky).sec.length d), .bool (latB S NM ky), .int .i64 0]) ∧ Below W.heap.size W w') := fun W b v u q g ky hS => by
    refine (latest_any S b v u q g NM ky W hS).mono ?_
    rintro e w' ⟨o, rfl, hO, hb⟩
    obtain ⟨a, d, rfl, _, _⟩ := OwI.form hO
    rw [stE_t hok]
    exact ⟨a, d, rfl, hb⟩
  have HAT : Hid (∀ k, k < R.length → R.getD k ro0 = roOf (latV S NM (R.getD k ro0).key) true ∧ latB S NM (R.getD k ro0).key = true ∧ (latV S NM (R.getD k ro0).key).mar = false ∧ pfB (R.getD k ro0).key P = true ∧ (R.getD k ro0).key ∈ K5) := fun k hk => plain_at hok hke (by rw [hR]; exact mem_get hk)
  have HPW : Hid (∀ m, m + 1 < R.length → ltS (R.getD m ro0).key (R.getD (m + 1) ro0).key = true) := fun m hm => by
    have := List.pairwise_iff_getElem.1 (plain_sorted hok NM P) m (m + 1) (by rw [hR]; omega) (by rw [hR]; exact hm) (by omega)
    rw [getD_eq (by omega), getD_eq hm]
    simpa [hR] using this
  have HCT : Hid (R.length = cntL S NM P 5) := by show _ = _; rw [← hR]; exact plain_cnt hok hke NM P
  rw [hR] at h5
  obtain ⟨NR, hNR⟩ : ∃ x, R.length = x := ⟨_, rfl⟩
  rw [hNR] at HKS HAT HPW HCT h5
  have HNR := hide hNR
  clear hNM hbn hhas hnoc hke hP hpr hpk hR hNR
  go_enter Tryz.func4, Tryz.ntmps4
  go_wp2_with fail
  refine (kSt _ l 40 _ _ (unhide HL) rfl (by decide)).mono ?_
  rintro e w1 ⟨ba, bc, va, vc, ua, uc, qa, qc, ga, gc, oa, oc, rfl, hS, hb1⟩
  rw [hSS] at hS ⊢
  rw [hnn]
  have HSS := hide hSS
  have HNN := hide hnn
  clear hSS hnn
  go_upto_region 2 with fail
  generalize hWW : w1.alloc _ = W2
  have h2 : BoxS W2 w1.heap.size S (.slice ba S.bus.length bc) (.slice va S.ves.length vc) (.slice ua S.ups.length uc) (.slice qa S.que.length qc) (.slice ga S.gone.length gc) ∧ Below w1.heap.size w1 W2 := by
    rw [← hWW]
    exact ⟨BoxS.new _ _ _ _ _ _ _ _, bl1 _ _⟩
  clear hWW
  obtain ⟨hX, hb2⟩ := h2
  have hw2 := bl_trans hb1 hb2
  have HS := hide (hS.up hb2)
  have HX := hide hX
  clear hS hb1 hb2 hX
  have hbx := (unhide HX).lt
  obtain ⟨BX, hBX⟩ : ∃ x, w1.heap.size = x := ⟨_, rfl⟩
  rw [hBX] at HX hbx ⊢
  clear hBX
  go_wp2_with fail
  refine (picked_any nb 3 _ (by decide) (by decide) hb0 hb1').mono ?_
  rintro e w9 ⟨rfl, rfl⟩
  rw [unhide HPK]
  generalize hWW : W2.alloc _ = W3
  have h3 : W3.cell? ⟨W2.heap.size, I3, none⟩ = some (.string P) ∧ Below W2.heap.size W2 W3 := by
    rw [← hWW]
    refine ⟨?_, bl1 _ _⟩
    rcases unhide HPI with ⟨rfl, rfl⟩ | ⟨rfl, rfl⟩ | ⟨rfl, rfl⟩
    · exact cell_of (heap_alloc_new _ _) 0 rfl
    · exact cell_of (heap_alloc_new _ _) 1 rfl
    · exact cell_of (heap_alloc_new _ _) 2 rfl
  clear hWW
  obtain ⟨hc3, hb3⟩ := h3
  have hw3 := bl_trans hw2 hb3
  have HXD := hide ((unhide HX).up (bl_trans hb3 (bl_dr _)))
  have HSC := hide ((unhide HS).up (bl_trans hb3 (bl_dr _)))
  have hwc := bl_trans hw3 (bl_dr _)
  have hi30 : (0 : Int) ≤ (I3 : Int) := Int.natCast_nonneg _
  have hi31 : (I3 : Int) < 3 := by omega
  clear hb3
  go_upto_region 3 with fail
  have hS0 := boxS_cells (unhide HXD)
  go_region_held3 (fun W' => W'.cell? ⟨BX, 0, none⟩ = some (.int .i64 S.next) ∧ W'.cell? ⟨BX, 1, none⟩ = some (.int .i64 S.clock) ∧ W'.cell? ⟨BX, 2, none⟩ = some (.slice ba S.bus.length bc) ∧ W'.cell? ⟨BX, 3, none⟩ = some (.slice va S.ves.length vc) ∧ W'.cell? ⟨BX, 4, none⟩ = some (.slice ua S.ups.length uc) ∧ W'.cell? ⟨BX, 5, none⟩ = some (.slice qa S.que.length qc) ∧ W'.cell? ⟨BX, 6, none⟩ = some (.slice ga S.gone.length gc))
    (first | exact hS0 | exact hS3 | exact hS4 | fail)
    (first
      | (go_at_call 18; refine (unhide HNP _).mono ?_; rintro e w13 ⟨rfl, hb13⟩; have HX13 := hide ((unhide HXD).up hb13); have HS13 := hide ((unhide HSC).up hb13); have hw13 := bl_trans hwc hb13; have hS3 := boxS_cells (unhide HX13))
      | (go_at_call 17; refine (unhide HKS _ _ _ _ _ _ (unhide HS13)).mono ?_; rintro e w14 ⟨oa4, oc4, rfl, hO4, hb14⟩; have HO4 := hide hO4; clear hO4; have HX4 := hide ((unhide HX13).up hb14); have HS4 := hide ((unhide HS13).up hb14); have hw4 := bl_trans hw13 hb14; have hS4 := boxS_cells (unhide HX4))
      | fail)
  clear hS0 hS3 hS4 hc3
  have HR4 := hide (ro_lst (unhide HO4))
  obtain ⟨hqa1, hqa2⟩ : NR ≤ oc4 ∧ oc4 ≤ maxLen := by obtain ⟨_, _, e9, h1, h2⟩ := ro_form (unhide HO4); simp at e9; obtain ⟨_, _, rfl⟩ := e9; rw [unhide HNR] at h1; exact ⟨h1, h2⟩
  unfold maxLen at hqa2
  clear HO4 hb13 hb14
  go_wp2
  go_loopw [13, 14, 15, 16, 17, 47] (fun _ _ _ _ _ i wr => ∃ k : Nat, k ≤ NR ∧ i = .int .i64 k ∧ Below w14.heap.size w14 wr) (fun _ _ _ _ _ i _ => NR - (intOf i).toNat)
  case atStart => exact ⟨0, Nat.zero_le _, rfl, Below.refl _ _⟩
  case round =>
    obtain ⟨k, hk, rfl, hbr⟩ := hrel
    by_cases hlt : k < NR
    · have hlt' : k < R.length := by rw [unhide HNR]; exact hlt
      obtain ⟨b8, o8, e8, r0⟩ := Lst.at (unhide HR4) hlt'
      obtain ⟨g1, g2, g3, g4, g5⟩ := unhide HAT k hlt
      obtain ⟨KY, hKY⟩ : ∃ x, (R.getD k ro0).key = x := ⟨_, rfl⟩
      rw [hKY] at g1 g2 g3 g4 g5
      have HLK := hide (fun W b v u q g => unhide HLT W b v u q g KY)
      have hks := K5_size g5
      obtain ⟨V, hV⟩ : ∃ x, latV S NM KY = x := ⟨_, rfl⟩
      rw [g2] at HLK
      rw [hV] at g1 g3 HLK
      have hvk : V.ke = KY := by rw [← hKY, g1]; rfl
      have e9 : R.getD k ro0 = ⟨KY, false, V.id, V.mar, true, V.size, V.tier⟩ := by rw [g1]; unfold roOf; rw [hvk]
      rw [e9] at r0
      obtain ⟨hpc1, hpc2⟩ := pf_cut g4
      obtain ⟨ns, hns⟩ : ∃ x, V.sec.length = x := ⟨_, rfl⟩
      rw [hns] at HLK
      subst e8
      have r := RRo.up hbr r0
      have c0 : wr.cell? _ = some (.string KY) := r.c0
      have c1 : wr.cell? _ = some (.bool false) := r.c1
      have c2 : wr.cell? _ = some (.int .i64 V.id) := r.c2
      have c3 : wr.cell? _ = some (.bool V.mar) := r.c3
      have c4 : wr.cell? _ = some (.bool true) := r.c4
      have c5 : wr.cell? _ = some (.int .i64 V.size) := r.c5
      have c6 : wr.cell? _ = some (.int .i64 V.tier) := r.c6
      have HKY := hide hKY
      have HG3 := hide g3
      have HPC2 := hide hpc2
      clear r r0 g1 g2 g3 g4 g5 hKY hV hvk e9 hns hpc2
      go_upto_region 7 with fail
      generalize hWW : wr.alloc _ = W8
      have h8 : W8.heap[wr.heap.size]? = some (.cells #[.string KY, .bool false, .int .i64 V.id, .bool V.mar, .bool true, .int .i64 V.size, .int .i64 V.tier] 61 (0, 0)) ∧ Below wr.heap.size wr W8 := by
        rw [← hWW]
        exact ⟨heap_alloc_new _ _, bl1 _ _⟩
      clear hWW c0 c1 c2 c3 c4 c5 c6
      obtain ⟨hr8, hb8⟩ := h8
      have hl8 : wr.heap.size < W8.heap.size := (Array.getElem?_eq_some_iff.1 hr8).1
      have hb9 := bl_trans hbr hb8
      obtain ⟨rB, hrB⟩ : ∃ x, wr.heap.size = x := ⟨_, rfl⟩
      rw [hrB] at hr8 hl8 ⊢
      have HX8 := hide ((unhide HX4).up (bl_trans hb9 (bl_dr _)))
      have HS8 := hide ((unhide HS4).up (bl_trans hb9 (bl_dr _)))
      have HW8 : Hid (Below w14.heap.size w14 W8.drew) := bl_trans hb9 (bl_dr _)
      have HR8 := hide (((bl_dr W8).block _ hl8).trans hr8)
      clear hr8 hb8 hrB hb9
      have hlx8 := (unhide HX8).lt
      have hS0 := boxS_cells (unhide HX8)
      have hK0 := cell_of (unhide HR8) 0 rfl
      have hU := hide (fun (W' : World) (hb' : Below W8.drew.heap.size W8.drew W') => And.intro (boxS_cells ((unhide HX8).up hb')) (cell_of ((hb'.block _ hl8).trans (unhide HR8)) 0 rfl))
      have hT := hide (fun (W' : World) (hb' : Below W8.drew.heap.size W8.drew W') => (unhide HS8).up hb')
      have hB0 := Below.refl W8.drew.heap.size W8.drew
      clear hS0 hK0
      go_cut [15, 16, 17] (fun p t f wc => ∃ vB, p = .pointer (some ⟨vB, 0, none⟩) ∧ t = .bool true ∧ f = .int .i64 0 ∧ (wc.cell? ⟨vB, 0, none⟩ = some (.int .i64 V.id) ∧ wc.cell? ⟨vB, 4, none⟩ = some (.bool V.mar) ∧ wc.cell? ⟨vB, 5, none⟩ = some (.int .i64 V.size)) ∧ Below W8.drew.heap.size W8.drew wc)
      case first =>
        go_region_held3 (fun W' => ((fun W' => W'.cell? ⟨BX, 0, none⟩ = some (.int .i64 S.next) ∧ W'.cell? ⟨BX, 1, none⟩ = some (.int .i64 S.clock) ∧ W'.cell? ⟨BX, 2, none⟩ = some (.slice ba S.bus.length bc) ∧ W'.cell? ⟨BX, 3, none⟩ = some (.slice va S.ves.length vc) ∧ W'.cell? ⟨BX, 4, none⟩ = some (.slice ua S.ups.length uc) ∧ W'.cell? ⟨BX, 5, none⟩ = some (.slice qa S.que.length qc) ∧ W'.cell? ⟨BX, 6, none⟩ = some (.slice ga S.gone.length gc))) W' ∧ W'.cell? ⟨rB, 0, none⟩ = some (.string KY))
          (first | (refine unhide hU _ ?_; repeat (with_reducible first | exact hB0 | exact hB3 | exact hB5 | exact bl_ad _ _ | refine bl_alloc ?_ _ | refine bl_s3 hB3 ?_ _ _ | refine bl_s3 hB5 ?_ _ _ | refine bl_s0 ?_ _ _)) | fail)
          (first
            | (go_at_call 18; refine (unhide HNP _).mono ?_; rintro e w3 ⟨rfl, hb3⟩; have hB3 : Below W8.drew.heap.size W8.drew w3 := bl_trans (by with_reducible first | exact hB0 | exact bl_ad _ _) hb3; (first | (have hY : w3.heap[W8.heap.size]? = some (.cells VZ.toArray 36 (0, 0)) := (hb3.block _ (by simp)).trans (heap_alloc_new W8.drew _)) | skip); clear hb3)
            | (go_at_call 15; refine (unhide HLK _ _ _ _ _ _ (unhide hT _ (by with_reducible first | exact hB3 | exact bl_alloc hB3 _))).mono ?_; rintro e w5 ⟨ga5, gc5, rfl, hb5⟩; have hB5 : Below W8.drew.heap.size W8.drew w5 := bl_trans (by with_reducible first | exact hB3 | exact bl_alloc hB3 _) hb5; (first | (have hY5 : w5.heap[w3.heap.size]? = some (.cells VZ.toArray 36 (0, 0)) := (hb5.block _ (by simp)).trans (heap_alloc_new w3 _); obtain ⟨hfz, yc0, yc1, yc2, yc3, yc4, yc5, yc6, yc7, yc8, yc9, yc10, yc11⟩ := vz_cell hY5) | (have hY5 : w5.heap[W8.heap.size]? = some (.cells VZ.toArray 36 (0, 0)) := (hb5.block _ (Array.getElem?_eq_some_iff.1 hY).1).trans hY; obtain ⟨hfz, yc0, yc1, yc2, yc3, yc4, yc5, yc6, yc7, yc8, yc9, yc10, yc11⟩ := vz_cell hY5) | skip); clear hb5)
            | fail)
        all_goals
          go_wp2
          go_meet
          case rel =>
            refine ⟨_, rfl, rfl, rfl, ?_, ?_⟩
            · with_reducible first | exact v12 hY5 | exact v12a _
            · repeat (with_reducible first | exact hB0 | exact hB3 | exact hB5 | exact bl_ad _ _ | refine bl_alloc ?_ _ | refine bl_s3 hB3 ?_ _ _ | refine bl_s3 hB5 ?_ _ _ | refine bl_s0 ?_ _ _)
      case rest =>
        obtain ⟨vB, rfl, rfl, rfl, ⟨y0, y4, y5⟩, hbv⟩ := hcut
        rw [unhide HG3] at y4
        have hr9 := (hbv.block _ hl8).trans (unhide HR8)
        rw [unhide HG3] at hr9
        have x0 := cell_of hr9 0 rfl
        have x1 := cell_of hr9 1 rfl
        have x2 := cell_of hr9 2 rfl
        have x4 := cell_of hr9 4 rfl
        have x5 := cell_of hr9 5 rfl
        have hwq := bl_trans (unhide HW8) hbv
        have hpc2 := unhide HPC2
        have hpc3 : (P.size : Int) ≤ (KY.size : Int) := by omega
        have hpc4 : (0 : Int) ≤ (P.size : Int) := Int.natCast_nonneg _
        clear hr9 hbv hbr HPC2
        cases k with
        | zero =>
          go_upto_region 8 with fail
          have hnel := Later.one wc
          have l0 := fun d : Later wc => d.cell x0
          have l1 := fun d : Later wc => d.cell x1
          have l2 := fun d : Later wc => d.cell x2
          have l3 := fun d : Later wc => d.cell x4
          have l4 := fun d : Later wc => d.cell x5
          have l5 := fun d : Later wc => d.cell y0
          have l6 := fun d : Later wc => d.cell y4
          have l7 := fun d : Later wc => d.cell y5
          clear x0 x1 x2 x4 x5 y0 y4 y5
          refine wp_region_later (by kernel_rfl) (by kernel_rfl) ?_
          repeat (go_big_quiet_step (fail))
          refine wpQuiet_nil ?_
          intro w11 hw'
          obtain ⟨⟨w13, hb13⟩, hw''⟩ := hw'
          subst hw''
          clear hnel l0 l1 l2 l3 l4 l5 l6 l7
          go_wp2
          go_roundw
          case rel => exact ⟨1, by omega, by go_num, bl_trans hwq hb13⟩
          case measure => (simp [intOf] <;> omega)
        | succ m =>
          have hmr : m < R.length := by rw [unhide HNR]; omega
          obtain ⟨b7, o7, e7, s0⟩ := Lst.at (unhide HR4) hmr
          simp at e7
          obtain ⟨rfl, rfl⟩ := e7
          have hpw := unhide HPW m (by omega)
          rw [unhide HKY] at hpw
          obtain ⟨Y, hY⟩ : ∃ Y, R.getD m ro0 = Y := ⟨_, rfl⟩
          rw [hY] at s0 hpw
          have hless : Op.bytesLess Y.key.toList KY.toList = true := hpw
          have d0 : wc.cell? _ = some (.string Y.key) := (RRo.up hwq s0).c0
          have hm0 : (m : Int) < (NR : Int) := by omega
          have hm1 : (m : Int) + 1 < (NR : Int) := by omega
          have hm3 : (0 : Int) < (m : Int) + 1 := by omega
          have hm4 : (0 : Int) ≤ (m : Int) := by omega
          have hcast : ((m + 1 : Nat) : Int) = (m : Int) + 1 := by omega
          rw [hcast]
          go_upto_region 8 with fail
          have hnel := Later.one wc
          have l0 := fun d : Later wc => d.cell x0
          have l1 := fun d : Later wc => d.cell x1
          have l2 := fun d : Later wc => d.cell x2
          have l3 := fun d : Later wc => d.cell x4
          have l4 := fun d : Later wc => d.cell x5
          have l5 := fun d : Later wc => d.cell y0
          have l6 := fun d : Later wc => d.cell y4
          have l7 := fun d : Later wc => d.cell y5
          have l8 := fun d : Later wc => d.cell d0
          clear x0 x1 x2 x4 x5 y0 y4 y5 d0 s0 hpw hY hcast
          refine wp_region_later (by kernel_rfl) (by kernel_rfl) ?_
          repeat (go_big_quiet_step (fail))
          refine wpQuiet_nil ?_
          intro w11 hw'
          obtain ⟨⟨w13, hb13⟩, hw''⟩ := hw'
          subst hw''
          clear hnel l0 l1 l2 l3 l4 l5 l6 l7 l8
          go_wp2
          go_roundw
          case rel => exact ⟨m + 1 + 1, by omega, by go_num, bl_trans hwq hb13⟩
          case measure => (simp [intOf] <;> omega)
    · obtain rfl : k = NR := by omega
      have hw5 := bl_trans hw4 hbr
      have HX5 := hide ((unhide HX4).up hbr)
      have HS5 := hide ((unhide HS4).up hbr)
      have HKEY : Hid (∀ j : Nat, j < 5 → ∀ W : World, Calls Tryz.prog 19 #[.int .i64 (j : Int)] W fun e w' => e = .returned (.string (kyB (j : Int))) ∧ Below W.heap.size W w') := fun j hj W => key_any (j : Int) W (by omega) (by omega)
      have HKZ : Hid (∀ j : Nat, j < 5 → (kyB (j : Int)).size ≤ 5) := fun j hj => by
        rw [L5_at j hj]
        exact K5_size (L5_perm.subset (mem_get (l := L5) (d := (⟨#[]⟩ : ByteArray)) hj))
      clear hbr HR4 HPW HAT
      go_wp2
      go_loopw [18, 19, 20, 21, 22] (fun n i _ _ _ wq => ∃ j : Nat, j ≤ 5 ∧ i = .int .i64 j ∧ n = .int .i64 (cntL S NM P j : Nat) ∧ Below wr.heap.size wr wq) (fun _ i _ _ _ _ => 5 - (intOf i).toNat)
      case atStart => exact ⟨0, Nat.zero_le _, rfl, rfl, Below.refl _ _⟩
      case round =>
        obtain ⟨j, hj, rfl, rfl, hbj⟩ := hrel
        have hcl := cntL_le S NM P j
        by_cases hjl : j < 5
        · have HKJ := hide (fun W => unhide HKEY j hjl W)
          have hkz := unhide HKZ j hjl
          have HCJ := hide (cntL_next S NM P hjl)
          obtain ⟨KJ, hKJ⟩ : ∃ x, kyB (j : Int) = x := ⟨_, rfl⟩
          rw [hKJ] at HKJ hkz HCJ
          have HLJ := hide (fun W b v u q g => unhide HLT W b v u q g KJ)
          obtain ⟨V, hV⟩ : ∃ x, latV S NM KJ = x := ⟨_, rfl⟩
          have HTJ : Hid (tolP S NM P KJ = ((latB S NM KJ && !V.mar) && pfB KJ P)) := by show _ = _; rw [← hV]; rfl
          obtain ⟨ns, hns⟩ : ∃ x, V.sec.length = x := ⟨_, rfl⟩
          rw [hV] at HLJ
          rw [hns] at HLJ
          obtain ⟨TH, hTH⟩ : ∃ x, latB S NM KJ = x := ⟨_, rfl⟩
          rw [hTH] at HLJ HTJ
          obtain ⟨CJ, hCJ⟩ : ∃ x, cntL S NM P j = x := ⟨_, rfl⟩
          rw [hCJ] at HCJ hcl ⊢
          clear hKJ hV hns hTH hCJ HKEY HKZ HLT
          go_upto_region 15 with fail
          have hw8 := bl_trans hw5 hbj
          have HX8 := hide ((unhide HX5).up (bl_trans hbj (bl_dr _)))
          have HS8 := hide ((unhide HS5).up (bl_trans hbj (bl_dr _)))
          obtain ⟨W8, hW8⟩ : ∃ x, wr = x := ⟨_, rfl⟩
          rw [hW8] at HX8 HS8 hbj ⊢
          have hU := hide (fun (W' : World) (hb' : Below W8.drew.heap.size W8.drew W') => boxS_cells ((unhide HX8).up hb'))
          have hT := hide (fun (W' : World) (hb' : Below W8.drew.heap.size W8.drew W') => (unhide HS8).up hb')
          have hB0 := Below.refl W8.drew.heap.size W8.drew
          clear hW8
          go_cut [20, 21, 22] (fun p t f wc => ∃ vB, p = .pointer (some ⟨vB, 0, none⟩) ∧ t = .bool TH ∧ f = .int .i64 0 ∧ (wc.cell? ⟨vB, 0, none⟩ = some (.int .i64 V.id) ∧ wc.cell? ⟨vB, 4, none⟩ = some (.bool V.mar) ∧ wc.cell? ⟨vB, 5, none⟩ = some (.int .i64 V.size)) ∧ Below W8.drew.heap.size W8.drew wc)
          case first =>
            go_region_held3 (fun W' => W'.cell? ⟨BX, 0, none⟩ = some (.int .i64 S.next) ∧ W'.cell? ⟨BX, 1, none⟩ = some (.int .i64 S.clock) ∧ W'.cell? ⟨BX, 2, none⟩ = some (.slice ba S.bus.length bc) ∧ W'.cell? ⟨BX, 3, none⟩ = some (.slice va S.ves.length vc) ∧ W'.cell? ⟨BX, 4, none⟩ = some (.slice ua S.ups.length uc) ∧ W'.cell? ⟨BX, 5, none⟩ = some (.slice qa S.que.length qc) ∧ W'.cell? ⟨BX, 6, none⟩ = some (.slice ga S.gone.length gc))
              (first | (refine unhide hU _ ?_; repeat (with_reducible first | exact hB0 | exact hBn | exact hBk | exact hB5 | exact bl_ad _ _ | refine bl_alloc ?_ _ | refine bl_s3 hBn ?_ _ _ | refine bl_s3 hBk ?_ _ _ | refine bl_s3 hB5 ?_ _ _ | refine bl_s0 ?_ _ _)) | fail)
              (first
                | (go_at_call 18; refine (unhide HNP _).mono ?_; rintro e wn ⟨rfl, hbn⟩; have hBn : Below W8.drew.heap.size W8.drew wn := bl_trans (by with_reducible first | exact hB0 | exact hBk | exact bl_ad _ _ | exact bl_alloc hBk _) hbn; (first | (have hYn : wn.heap[W8.heap.size]? = some (.cells VZ.toArray 36 (0, 0)) := (hbn.block _ (by simp)).trans (heap_alloc_new W8.drew _)) | (have hYn : wn.heap[wk.heap.size]? = some (.cells VZ.toArray 36 (0, 0)) := (hbn.block _ (by simp)).trans (heap_alloc_new wk _)) | (have hYn := (hbn.block _ (Array.getElem?_eq_some_iff.1 hYk).1).trans hYk) | skip); clear hbn)
                | (go_at_call 19; refine (unhide HKJ _).mono ?_; rintro e wk ⟨rfl, hbk⟩; have hBk : Below W8.drew.heap.size W8.drew wk := bl_trans (by with_reducible first | exact hB0 | exact hBn | exact bl_ad _ _ | exact bl_alloc hBn _) hbk; (first | (have hYk : wk.heap[W8.heap.size]? = some (.cells VZ.toArray 36 (0, 0)) := (hbk.block _ (by simp)).trans (heap_alloc_new W8.drew _)) | (have hYk : wk.heap[wn.heap.size]? = some (.cells VZ.toArray 36 (0, 0)) := (hbk.block _ (by simp)).trans (heap_alloc_new wn _)) | (have hYk := (hbk.block _ (Array.getElem?_eq_some_iff.1 hYn).1).trans hYn) | skip); clear hbk)
                | (go_at_call 15; refine (unhide HLJ _ _ _ _ _ _ (unhide hT _ (by with_reducible first | exact hBn | exact hBk | exact bl_alloc hBn _ | exact bl_alloc hBk _))).mono ?_; rintro e w5 ⟨ga5, gc5, rfl, hb5⟩; have hB5 : Below W8.drew.heap.size W8.drew w5 := bl_trans (by with_reducible first | exact hBn | exact hBk | exact bl_alloc hBn _ | exact bl_alloc hBk _) hb5; (first | (have hY5 : w5.heap[wn.heap.size]? = some (.cells VZ.toArray 36 (0, 0)) := (hb5.block _ (by simp)).trans (heap_alloc_new wn _); obtain ⟨hfz, yc0, yc1, yc2, yc3, yc4, yc5, yc6, yc7, yc8, yc9, yc10, yc11⟩ := vz_cell hY5) | (have hY5 : w5.heap[wk.heap.size]? = some (.cells VZ.toArray 36 (0, 0)) := (hb5.block _ (by simp)).trans (heap_alloc_new wk _); obtain ⟨hfz, yc0, yc1, yc2, yc3, yc4, yc5, yc6, yc7, yc8, yc9, yc10, yc11⟩ := vz_cell hY5) | (have hY5 := (hb5.block _ (Array.getElem?_eq_some_iff.1 hYn).1).trans hYn; obtain ⟨hfz, yc0, yc1, yc2, yc3, yc4, yc5, yc6, yc7, yc8, yc9, yc10, yc11⟩ := vz_cell hY5) | (have hY5 := (hb5.block _ (Array.getElem?_eq_some_iff.1 hYk).1).trans hYk; obtain ⟨hfz, yc0, yc1, yc2, yc3, yc4, yc5, yc6, yc7, yc8, yc9, yc10, yc11⟩ := vz_cell hY5) | skip); clear hb5)
                | fail)
            all_goals
              go_wp2
              go_meet
              case rel =>
                refine ⟨_, rfl, rfl, rfl, ?_, ?_⟩
                · with_reducible first | exact v12 hY5 | exact v12a _
                · repeat (with_reducible first | exact hB0 | exact hBn | exact hBk | exact hB5 | exact bl_ad _ _ | refine bl_alloc ?_ _ | refine bl_s3 hBn ?_ _ _ | refine bl_s3 hBk ?_ _ _ | refine bl_s3 hB5 ?_ _ _ | refine bl_s0 ?_ _ _)
          case rest =>
            obtain ⟨vB, rfl, rfl, rfl, ⟨y0, y4, y5⟩, hbv⟩ := hcut
            clear y0 y5
            have hwq := bl_trans hbj (bl_trans (bl_dr W8) hbv)
            clear hbv hbj hU hT hB0
            have hs0 : (0 : Int) ≤ (P.size : Int) := Int.natCast_nonneg _
            have hs1 : (KJ.size : Int) ≤ 5 := by omega
            cases TH with
            | false =>
              have HC2 : Hid (cntL S NM P (j + 1) = CJ) := by show _ = _; rw [unhide HCJ, unhide HTJ]; simp
              go_wp2
              go_roundw
              case rel => exact ⟨j + 1, by omega, by go_num, by rw [unhide HC2], hwq⟩
              case measure => (simp [intOf] <;> omega)
            | true =>
              obtain ⟨MA, hMA⟩ : ∃ x, V.mar = x := ⟨_, rfl⟩
              rw [hMA] at y4 HTJ
              clear hMA
              cases MA with
              | true =>
                have HC2 : Hid (cntL S NM P (j + 1) = CJ) := by show _ = _; rw [unhide HCJ, unhide HTJ]; simp
                go_wp2
                go_roundw
                case rel => exact ⟨j + 1, by omega, by go_num, by rw [unhide HC2], hwq⟩
                case measure => (simp [intOf] <;> omega)
              | false =>
                by_cases hsz : P.size ≤ KJ.size
                · have hsz1 : (P.size : Int) ≤ (KJ.size : Int) := by omega
                  have HPB : Hid (pfB KJ P = ((KJ.extract 0 P.size).toList == P.toList)) := by show _ = _; unfold pfB; rw [if_pos hsz]
                  cases hpx : ((KJ.extract 0 P.size).toList == P.toList)
                  · have HC2 : Hid (cntL S NM P (j + 1) = CJ) := by show _ = _; rw [unhide HCJ, unhide HTJ, unhide HPB, hpx]; simp
                    go_wp2_with fail
                    refine (unhide HKJ _).mono ?_
                    rintro e wk1 ⟨rfl, hbk1⟩
                    go_wp2_with fail
                    refine (unhide HKJ _).mono ?_
                    rintro e wk2 ⟨rfl, hbk2⟩
                    go_wp2
                    go_roundw
                    case rel => exact ⟨j + 1, by omega, by go_num, by rw [unhide HC2], (bl_trans (bl_trans hwq hbk1) hbk2)⟩
                    case measure => (simp [intOf] <;> omega)
                  · have HC2 : Hid (cntL S NM P (j + 1) = CJ + 1) := by show _ = _; rw [unhide HCJ, unhide HTJ, unhide HPB, hpx]; simp
                    go_wp2_with fail
                    refine (unhide HKJ _).mono ?_
                    rintro e wk1 ⟨rfl, hbk1⟩
                    go_wp2_with fail
                    refine (unhide HKJ _).mono ?_
                    rintro e wk2 ⟨rfl, hbk2⟩
                    go_wp2
                    go_roundw
                    case rel => exact ⟨j + 1, by omega, by go_num, by rw [unhide HC2]; go_num, (bl_trans (bl_trans hwq hbk1) hbk2)⟩
                    case measure => (simp [intOf] <;> omega)
                · have hsz1 : (KJ.size : Int) < (P.size : Int) := by omega
                  have HC2 : Hid (cntL S NM P (j + 1) = CJ) := by show _ = _; rw [unhide HCJ, unhide HTJ]; unfold pfB; rw [if_neg hsz]; simp
                  go_wp2_with fail
                  refine (unhide HKJ _).mono ?_
                  rintro e wk1 ⟨rfl, hbk1⟩
                  go_wp2
                  go_roundw
                  case rel => exact ⟨j + 1, by omega, by go_num, by rw [unhide HC2], (bl_trans hwq hbk1)⟩
                  case measure => (simp [intOf] <;> omega)
        · obtain rfl : j = 5 := by omega
          rw [← unhide HCT]
          have hw9 := bl_trans hw5 hbj
          have HX9 := (unhide HX5).up hbj
          have HS9 := hide ((unhide HS5).up hbj)
          obtain ⟨q0, q1, q2, q3, q4, q5, q6⟩ := boxS_cells HX9
          clear hbj hcl
          go_wp2_with fail
          refine (unhide HKC _ _ _ _ _ _ (unhide HS9)).mono ?_
          rintro e w24 ⟨o9, rfl, hb24⟩
          have hw94 := bl_trans hw9 hb24
          clear hb24 HX9 q0 q1 q2 q3 q4 q5 q6
          go_wp2
          go_ret
          exact ⟨rfl, hw94⟩
end Go.Proofs.YtdgmdapijhbocaaGreat
