/- icehousekeep.KeysCommon: the walk. -/
import Derived.Test.YtdgmdapijhbocaaGreatLk7q
import Derived.BigQuiet
import Derived.Deep.QuietTactic
import Derived.Deep.RegionHeld3
import Derived.Test.YtdgmdapijhbocaaGreatKkpq
namespace Go.Proofs.YtdgmdapijhbocaaGreat
open Go.RowKit Go.Maps
set_option maxRecDepth 100000
set_option linter.unusedVariables false
set_option linter.unusedSimpArgs false
def matR (r p : Ro) : Bool := ((r.com && decide (r.key.size < p.key.size)) && ((p.key.extract 0 r.key.size).toList == r.key.toList)) || eqR r p
def cntM (A : List Ro) (p : Ro) (k : Nat) : Nat := ((A.take k).filter (fun r => matR r p)).length
theorem cntM_next {A : List Ro} {p : Ro} {k : Nat} (hk : k < A.length) : cntM A p (k + 1) = cntM A p k + if matR (A.getD k ro0) p then 1 else 0 := by
  unfold cntM
  rw [take_next A ro0 hk, List.filter_append, List.length_append, List.filter_cons]
  split <;> simp
theorem cntM_le (A : List Ro) (p : Ro) (k : Nat) : cntM A p k ≤ k := by
  unfold cntM
  have := List.length_filter_le (fun r => matR r p) (A.take k)
  have h2 := List.length_take_le k A
  omega
theorem eqR_ne {a b : Ro} (h : a.com ≠ b.com) : eqR a b = false := by
  cases k : eqR a b
  · rfl
  · exact absurd (by rw [eqR_iff.1 k]) h
theorem eqR_nk {a b : Ro} (h : ltS a.key b.key = true ∨ ltS b.key a.key = true) : eqR a b = false := by
  cases k : eqR a b
  · rfl
  · rw [eqR_iff.1 k, ltS_irr] at h
    rcases h with h | h <;> cases h
theorem ifR6 {α : Type} {Y X : Ro} (h : Y.com = X.com) (a b : α) : (if Y.key.toList = X.key.toList then if Y.id = X.id then if Y.mar = X.mar then if Y.lat = X.lat then if Y.size = X.size then if Y.tier = X.tier then a else b else b else b else b else b else b) = if eqR Y X = true then a else b := by
  rw [← ifR]
  rw [if_pos h]
theorem mat_one {S : St} (hok : stC S = true) (hk : ∀ v ∈ S.ves, v.ke ∈ K5) (nm : ByteArray) {p : Ro} (hp : p ∈ plain S nm ⟨#[]⟩) {r : Ro} (hr : r ∈ allK S nm true) : matR r p = true ↔ r = shR p ⟨#[]⟩ sl := by
  obtain ⟨p1, p2, _, _⟩ := plain_key hok hk hp
  obtain ⟨q, hq, rfl⟩ : ∃ q, q ∈ plain S nm ⟨#[]⟩ ∧ shR q ⟨#[]⟩ sl = r := by
    have h := cmp_mem.1 hr
    exact List.mem_map.1 h
  obtain ⟨q1, q2, _, _⟩ := plain_key hok hk hq
  have hone : ∀ {a b : Ro}, a ∈ plain S nm ⟨#[]⟩ → b ∈ plain S nm ⟨#[]⟩ → a.key = b.key → a = b := fun {a b} ha hb e => by
    obtain ⟨i, hi, rfl⟩ := mem_at (d := ro0) ha
    obtain ⟨j, hj, rfl⟩ := mem_at (d := ro0) hb
    have hpw := List.pairwise_iff_getElem.1 (plain_sorted hok nm ⟨#[]⟩)
    rcases Nat.lt_trichotomy i j with h | h | h
    · have := hpw i j hi hj h
      rw [getD_eq hi, getD_eq hj] at e
      rw [e, ltS_irr] at this; cases this
    · rw [h]
    · have := hpw j i hj hi h
      rw [getD_eq hi, getD_eq hj] at e
      rw [e, ltS_irr] at this; cases this
  rcases sh_is q1 with ⟨hqk, eq⟩ | ⟨hqk, eq⟩ | ⟨hqk, eq⟩ <;> rw [eq]
  · -- a row of its own: it is p, or it is not
    have e1 : matR q p = eqR q p := by unfold matR; rw [q2]; rfl
    rw [e1, eqR_iff]
    rcases sh_is p1 with ⟨hpk, ep⟩ | ⟨hpk, ep⟩ | ⟨hpk, ep⟩ <;> rw [ep]
    · constructor
      · rintro rfl
        exfalso
        rcases hqk with h | h <;> rcases hpk with h' | h' <;> rw [h'] at h <;> exact absurd (congrArg ByteArray.data h) (by decide)
      · rintro rfl
        exact absurd q2 (by decide)
    · constructor
      · rintro rfl
        exfalso
        rcases hqk with h | h <;> rw [hpk] at h <;> exact absurd (congrArg ByteArray.data h) (by decide)
      · rintro rfl
        exact absurd q2 (by decide)
  · have e0 : eqR cY p = false := eqR_ne (by rw [p2]; decide)
    have e1 : matR cY p = (decide (cY.key.size < p.key.size) && ((p.key.extract 0 cY.key.size).toList == cY.key.toList)) := by unfold matR; rw [e0, Bool.or_false]; rfl
    rw [e1]
    rcases sh_is p1 with ⟨hpk, ep⟩ | ⟨hpk, ep⟩ | ⟨hpk, ep⟩ <;> rw [ep]
    · constructor
      · intro h
        exfalso
        rcases hpk with h' | h' <;> rw [h'] at h <;> exact absurd h (by decide)
      · rintro rfl
        exact absurd p2 (by decide)
    · refine ⟨fun _ => rfl, fun _ => ?_⟩
      rcases hpk with h' | h' <;> rw [h'] <;> kernel_rfl
    · constructor
      · intro h
        exfalso
        rw [hpk, show (decide (cY.key.size < kz.size) && ((kz.extract 0 cY.key.size).toList == cY.key.toList)) = false by kernel_rfl] at h
        cases h
      · intro h
        exact absurd (congrArg (fun x : Ro => x.key.data) h) (by decide)
  · have e0 : eqR cz p = false := eqR_ne (by rw [p2]; decide)
    have e1 : matR cz p = (decide (cz.key.size < p.key.size) && ((p.key.extract 0 cz.key.size).toList == cz.key.toList)) := by unfold matR; rw [e0, Bool.or_false]; rfl
    rw [e1]
    rcases sh_is p1 with ⟨hpk, ep⟩ | ⟨hpk, ep⟩ | ⟨hpk, ep⟩ <;> rw [ep]
    · constructor
      · intro h
        exfalso
        rcases hpk with h' | h' <;> rw [h'] at h <;> exact absurd h (by decide)
      · rintro rfl
        exact absurd p2 (by decide)
    · constructor
      · intro h
        exfalso
        rcases hpk with h' | h' <;> rw [h'] at h
        · rw [show (decide (cz.key.size < kY1.size) && ((kY1.extract 0 cz.key.size).toList == cz.key.toList)) = false by kernel_rfl] at h
          cases h
        · rw [show (decide (cz.key.size < kY2.size) && ((kY2.extract 0 cz.key.size).toList == cz.key.toList)) = false by kernel_rfl] at h
          cases h
      · intro h
        exact absurd (congrArg (fun x : Ro => x.key.data) h) (by decide)
    · refine ⟨fun _ => rfl, fun _ => ?_⟩
      rw [hpk]
      kernel_rfl
theorem mat_cnt {S : St} (hok : stC S = true) (hk : ∀ v ∈ S.ves, v.ke ∈ K5) (nm : ByteArray) {p : Ro} (hp : p ∈ plain S nm ⟨#[]⟩) : cntM (allK S nm true) p (allK S nm true).length = 1 := by
  have hin : shR p ⟨#[]⟩ sl ∈ allK S nm true := cmp_mem.2 (List.mem_map.2 ⟨p, hp, rfl⟩)
  unfold cntM
  rw [List.take_of_length_le (Nat.le_refl _)]
  have : (allK S nm true).filter (fun r => matR r p) = [shR p ⟨#[]⟩ sl] := SK_ext ((allK_SK hok hk nm true).filter _) (List.pairwise_singleton _ _) fun x => by
    rw [List.mem_filter, List.mem_singleton]
    constructor
    · rintro ⟨h1, h2⟩
      exact (mat_one hok hk nm hp h1).1 h2
    · rintro rfl
      exact ⟨hin, (mat_one hok hk nm hp hin).2 rfl⟩
  rw [this]
  rfl
theorem com_row {S : St} (hok : stC S = true) (hk : ∀ v ∈ S.ves, v.ke ∈ K5) (nm : ByteArray) {r : Ro} (hr : r ∈ allK S nm true) (hc : r.com = true) : r.key.size = 2 ∧ Go.PlainAid.bt r.key 1 = 47 ∧ r.id = 0 := by
  obtain ⟨q, hq, rfl⟩ : ∃ q, q ∈ plain S nm ⟨#[]⟩ ∧ shR q ⟨#[]⟩ sl = r := by
    have h := cmp_mem.1 hr
    exact List.mem_map.1 h
  obtain ⟨q1, q2, _, _⟩ := plain_key hok hk hq
  rcases sh_is q1 with ⟨hqk, eq⟩ | ⟨hqk, eq⟩ | ⟨hqk, eq⟩ <;> rw [eq] at hc ⊢
  · rw [q2] at hc; cases hc
  · exact ⟨rfl, by kernel_rfl, rfl⟩
  · exact ⟨rfl, by kernel_rfl, rfl⟩
theorem row_size {S : St} (hok : stC S = true) (hk : ∀ v ∈ S.ves, v.ke ∈ K5) (nm : ByteArray) (b : Bool) {r : Ro} (hr : r ∈ allK S nm b) : r.key.size ≤ 5 := by
  obtain ⟨q, hq, rfl⟩ : ∃ q, q ∈ plain S nm ⟨#[]⟩ ∧ shR q ⟨#[]⟩ (dlB b) = r := by
    have h := cmp_mem.1 hr
    exact List.mem_map.1 h
  obtain ⟨q1, _, _, _⟩ := plain_key hok hk hq
  have hq5 : q.key.size ≤ 5 := by
    unfold K5 at q1
    simp only [List.mem_cons, List.not_mem_nil, or_false] at q1
    rcases q1 with h | h | h | h | h <;> rw [h] <;> decide
  cases b
  · show (shR q ⟨#[]⟩ ⟨#[]⟩).key.size ≤ 5
    rw [sh_em]; exact hq5
  · show (shR q ⟨#[]⟩ sl).key.size ≤ 5
    rcases sh_is q1 with ⟨_, e⟩ | ⟨_, e⟩ | ⟨_, e⟩ <;> rw [e]
    · exact hq5
    · decide
    · decide
/-- What Keys answers a keep that asks for all. -/
theorem keys_all {S : St} (hok : stC S = true) (hk : ∀ v ∈ S.ves, v.ke ∈ K5) {nm : ByteArray} (hb : hasB S nm = true) (c : Bool) (W : World) (b v u q g : Value) (hS : Sta W b v u q g S) : Calls Tryz.prog 17 #[stV S b v u q g, .string nm, .string ⟨#[]⟩, .string (dlB c), .string ⟨#[]⟩, .int .i64 50] W fun e w' => ∃ a d, e = .returned (.tuple #[.slice a (allK S nm c).length d, .bool false, .int .i64 0]) ∧ OwRo w' W.heap.size (.slice a (allK S nm c).length d) (allK S nm c) ∧ Below W.heap.size W w' := by
  have hl := lch_0 hok hb (pre := ⟨#[]⟩) rfl (m := 50) (by decide) (by decide)
  have hd : (dlB c).size ≤ 1 := by cases c <;> decide
  have he : keyE S nm ⟨#[]⟩ (dlB c) 50 = 0 := by unfold keyE; rw [hl, if_pos rfl, if_neg (by omega)]
  have h5 := allK_len hok hk nm c
  refine (keys_any S b v u q g nm ⟨#[]⟩ (dlB c) ⟨#[]⟩ 50 W hS (by decide) (by unfold maxLen; omega)).mono ?_
  rintro e w' ⟨o, rfl, hO, hb⟩
  rw [he, allK_is hok hk nm c] at hO ⊢
  have e1 : pagR 0 (allK S nm c) 50 = allK S nm c := by
    unfold pagR
    rw [if_pos rfl]
    exact List.take_of_length_le (by show (allK S nm c).length ≤ 50; omega)
  have e2 : morB 0 (allK S nm c) 50 = false := by
    unfold morB
    exact decide_eq_false (by omega)
  rw [e1] at hO
  rw [e2]
  obtain ⟨a, d, rfl, _, _⟩ := ro_form hO
  exact ⟨a, d, rfl, hO, hb⟩
theorem allK_f {S : St} (hok : stC S = true) (nm : ByteArray) : allK S nm false = plain S nm ⟨#[]⟩ := by
  unfold allK
  show cmpL (partT S nm ⟨#[]⟩ ⟨#[]⟩) = _
  rw [part_em]
  exact cmp_sorted (plain_sorted hok nm _)
set_option maxHeartbeats 4000000 in
theorem keysCommon_walk (lv : Value) (l : List Rw) (na : Int) (w : World) (hl : Raws w lv l) (ha : (Lit.int .i64 na).wf = true) :
    Calls Tryz.prog 6 #[lv, .int .i64 na] w fun e w' => e = .returned (.bool true) ∧ Below w.heap.size w w' := by
  obtain ⟨la, lc, rfl, hl1, hl2⟩ := hl.form
  unfold maxLen at hl2
  have HL := hide hl
  clear hl
  obtain ⟨ha0, ha1⟩ := wf_lo ha
  clear ha
  obtain ⟨S, hSS⟩ : ∃ S, staL l 40 = S := ⟨_, rfl⟩
  obtain ⟨n, hnn⟩ : ∃ n, cntN l (rnd l 40) = n := ⟨_, rfl⟩
  have hn2 : 2 ≤ n := by rw [← hnn]; exact cntN_two l _ (by unfold rnd; omega)
  have hok : stC S = true := by rw [← hSS]; exact staL_ok l 40
  obtain ⟨NM, hNM⟩ : ∃ x, nmB na = x := ⟨_, rfl⟩
  have HNP : Hid (∀ W : World, Calls Tryz.prog 18 #[.int .i64 na] W fun e w' => e = .returned (.string NM) ∧ Below W.heap.size W w') := fun W => by
    have := name_any na W ha0 ha1
    rwa [hNM] at this
  have hbn : bnm S = [⟨#[97]⟩, ⟨#[98]⟩] := by rw [← hSS]; exact staL_names l 40
  have hhas : hasB S NM = true := hasB_in (by rw [hbn, ← hNM]; rcases (nmB_le na).2 with h | h <;> rw [h] <;> simp)
  have hke : ∀ v ∈ S.ves, v.ke ∈ K5 := by rw [← hSS]; exact staL_keys l 40
  obtain ⟨A, hA⟩ : ∃ A, allK S NM true = A := ⟨_, rfl⟩
  obtain ⟨P, hP⟩ : ∃ P, allK S NM false = P := ⟨_, rfl⟩
  have HK1 : Hid (∀ (W : World) (b v u q g : Value), Sta W b v u q g S → Calls Tryz.prog 17 #[stV S b v u q g, .string NM, .string ⟨#[]⟩, .string ⟨#[47]⟩, .string ⟨#[]⟩, .int .i64 50] W fun e w' => ∃ a d, e = .returned (.tuple #[.slice a A.length d, .bool false, .int .i64 0]) ∧ OwRo w' W.heap.size (.slice a A.length d) A ∧ Below W.heap.size W w') := fun W b v u q g hS => by
    have := keys_all hok hke hhas true W b v u q g hS
    rw [hA] at this
    exact this
  have HK2 : Hid (∀ (W : World) (b v u q g : Value), Sta W b v u q g S → Calls Tryz.prog 17 #[stV S b v u q g, .string NM, .string ⟨#[]⟩, .string ⟨#[]⟩, .string ⟨#[]⟩, .int .i64 50] W fun e w' => ∃ a d, e = .returned (.tuple #[.slice a P.length d, .bool false, .int .i64 0]) ∧ OwRo w' W.heap.size (.slice a P.length d) P ∧ Below W.heap.size W w') := fun W b v u q g hS => by
    have := keys_all hok hke hhas false W b v u q g hS
    rw [hP] at this
    exact this
  have HK3 : Hid (∀ (W : World) (b v u q g : Value), Sta W b v u q g S → Calls Tryz.prog 17 #[stV S b v u q g, .string NM, .string ⟨#[]⟩, .string ⟨#[47, 47]⟩, .string ⟨#[]⟩, .int .i64 50] W fun e w' => ∃ a d, e = .returned (.tuple #[.slice a 0 d, .bool false, .int .i64 1]) ∧ OwRo w' W.heap.size (.slice a 0 d) [] ∧ Below W.heap.size W w') := fun W b v u q g hS => by
    have hl := lch_0 hok hhas (pre := ⟨#[]⟩) rfl (m := 50) (by decide) (by decide)
    have he : keyE S NM ⟨#[]⟩ ⟨#[47, 47]⟩ 50 = 1 := by unfold keyE; rw [hl, if_pos rfl, if_pos (by decide)]
    refine (keys_any S b v u q g NM ⟨#[]⟩ ⟨#[47, 47]⟩ ⟨#[]⟩ 50 W hS (by decide) (by decide)).mono ?_
    rintro e w' ⟨o, rfl, hO, hb⟩
    rw [he] at hO ⊢
    have e1 : pagR 1 (keysL S NM ⟨#[]⟩ ⟨#[47, 47]⟩ ⟨#[]⟩) 50 = [] := rfl
    have e2 : morB 1 (keysL S NM ⟨#[]⟩ ⟨#[47, 47]⟩ ⟨#[]⟩) 50 = false := by unfold morB; simp
    rw [e1] at hO
    rw [e2]
    obtain ⟨a, d, rfl, _, _⟩ := ro_form hO
    exact ⟨a, d, rfl, hO, hb⟩
  have HCM : Hid (∀ k, k < P.length → cntM A (P.getD k ro0) A.length = 1) := fun k hk => by
    have hm : P.getD k ro0 ∈ P := mem_get hk
    rw [← hP, allK_f hok] at hm
    have := mat_cnt hok hke NM hm
    rw [hA, ← allK_f hok NM, hP] at this
    exact this
  have HCO : Hid (∀ k, k < A.length → (A.getD k ro0).com = true → (A.getD k ro0).key.size = 2 ∧ Go.PlainAid.bt (A.getD k ro0).key 1 = 47 ∧ (A.getD k ro0).id = 0) := fun k hk hc => com_row hok hke NM (by rw [hA]; exact mem_get hk) hc
  have HSA : Hid (∀ k, k < A.length → (A.getD k ro0).key.size ≤ 5) := fun k hk => row_size hok hke NM true (by rw [hA]; exact mem_get hk)
  have HSP : Hid (∀ k, k < P.length → (P.getD k ro0).key.size ≤ 5) := fun k hk => row_size hok hke NM false (by rw [hP]; exact mem_get hk)
  have HPC : Hid (∀ k, k < P.length → (P.getD k ro0).com = false) := fun k hk => (plain_key hok hke (nm := NM) (pre := ⟨#[]⟩) (by rw [← allK_f hok, hP]; exact mem_get hk)).2.1
  have hA5 := allK_len hok hke NM true
  have hP5 := allK_len hok hke NM false
  rw [hA] at hA5
  rw [hP] at hP5
  obtain ⟨NA, hNA⟩ : ∃ x, A.length = x := ⟨_, rfl⟩
  obtain ⟨NP, hNP⟩ : ∃ x, P.length = x := ⟨_, rfl⟩
  rw [hNA] at HK1 HCM HCO HSA hA5
  rw [hNP] at HK2 HCM HSP HPC hP5
  have HNA := hide hNA
  have HNPP := hide hNP
  clear hNM hbn hhas hke hA hP hNA hNP
  go_enter Tryz.func6, Tryz.ntmps6
  go_wp2_with fail
  refine (kSt _ l 40 _ _ (unhide HL) rfl (by decide)).mono ?_
  rintro e w1 ⟨ba, bc, va, vc, ua, uc, qa, qc, ga, gc, oa, oc, rfl, hS, hb1⟩
  rw [hSS] at hS ⊢
  rw [hnn]
  have HSS := hide hSS
  have HNN := hide hnn
  clear hSS hnn
  go_upto_region 2 with fail
  generalize hWW : w1.alloc _ = W2
  have h2 : BoxS W2 w1.heap.size S (.slice ba S.bus.length bc) (.slice va S.ves.length vc) (.slice ua S.ups.length uc) (.slice qa S.que.length qc) (.slice ga S.gone.length gc) ∧ Below w1.heap.size w1 W2 := by
    rw [← hWW]
    exact ⟨BoxS.new _ _ _ _ _ _ _ _, bl1 _ _⟩
  clear hWW
  obtain ⟨hX, hb2⟩ := h2
  have hw2 := bl_trans hb1 hb2
  have HS := hide (hS.up hb2)
  have HX := hide hX
  clear hS hb1 hb2 hX
  have hbx := (unhide HX).lt
  obtain ⟨BX, hBX⟩ : ∃ x, w1.heap.size = x := ⟨_, rfl⟩
  rw [hBX] at HX hbx ⊢
  clear hBX
  have HXD1 := hide ((unhide HX).up (bl_dr _))
  have hS10 := boxS_cells (unhide HXD1)
  go_region_held3 (fun W' => W'.cell? ⟨BX, 0, none⟩ = some (.int .i64 S.next) ∧ W'.cell? ⟨BX, 1, none⟩ = some (.int .i64 S.clock) ∧ W'.cell? ⟨BX, 2, none⟩ = some (.slice ba S.bus.length bc) ∧ W'.cell? ⟨BX, 3, none⟩ = some (.slice va S.ves.length vc) ∧ W'.cell? ⟨BX, 4, none⟩ = some (.slice ua S.ups.length uc) ∧ W'.cell? ⟨BX, 5, none⟩ = some (.slice qa S.que.length qc) ∧ W'.cell? ⟨BX, 6, none⟩ = some (.slice ga S.gone.length gc))
    (first | exact hS10 | exact hS13 | exact hS14 | fail)
    (first
      | (go_at_call 18; refine (unhide HNP _).mono ?_; rintro e w13 ⟨rfl, hb13⟩; have HX13 := hide ((unhide HXD1).up hb13); have HS13 := hide ((unhide HS).up (bl_trans (bl_dr _) hb13)); have hg13 := bl_trans (bl_dr _) hb13; have hS13 := boxS_cells (unhide HX13))
      | (go_at_call 17; refine (unhide HK1 _ _ _ _ _ _ (unhide HS13)).mono ?_; rintro e w14 ⟨oa1, oc1, rfl, hO1, hb14⟩; have HO1 := hide hO1; clear hO1; have HX14 := hide ((unhide HX13).up hb14); have HS14 := hide ((unhide HS13).up hb14); have hg1 := bl_trans hg13 hb14; have hS14 := boxS_cells (unhide HX14))
      | fail)
  clear hS10 hS13 hS14 hg13 hb13 hb14
  have hlx1 := (unhide HX14).lt
  go_upto_region 3 with fail
  have HXD2 := hide ((unhide HX14).up (bl_dr _))
  have hS20 := boxS_cells (unhide HXD2)
  go_region_held3 (fun W' => W'.cell? ⟨BX, 0, none⟩ = some (.int .i64 S.next) ∧ W'.cell? ⟨BX, 1, none⟩ = some (.int .i64 S.clock) ∧ W'.cell? ⟨BX, 2, none⟩ = some (.slice ba S.bus.length bc) ∧ W'.cell? ⟨BX, 3, none⟩ = some (.slice va S.ves.length vc) ∧ W'.cell? ⟨BX, 4, none⟩ = some (.slice ua S.ups.length uc) ∧ W'.cell? ⟨BX, 5, none⟩ = some (.slice qa S.que.length qc) ∧ W'.cell? ⟨BX, 6, none⟩ = some (.slice ga S.gone.length gc))
    (first | exact hS20 | exact hS23 | exact hS24 | fail)
    (first
      | (go_at_call 18; refine (unhide HNP _).mono ?_; rintro e w23 ⟨rfl, hb23⟩; have HX23 := hide ((unhide HXD2).up hb23); have HS23 := hide ((unhide HS14).up (bl_trans (bl_dr _) hb23)); have hg23 := bl_trans (bl_dr _) hb23; have hS23 := boxS_cells (unhide HX23))
      | (go_at_call 17; refine (unhide HK2 _ _ _ _ _ _ (unhide HS23)).mono ?_; rintro e w24 ⟨oa2, oc2, rfl, hO2, hb24⟩; have HO2 := hide hO2; clear hO2; have HX24 := hide ((unhide HX23).up hb24); have HS24 := hide ((unhide HS23).up hb24); have hg2 := bl_trans hg23 hb24; have hS24 := boxS_cells (unhide HX24))
      | fail)
  clear hS20 hS23 hS24 hg23 hb23 hb24
  have hlx2 := (unhide HX24).lt
  have HO12 := hide ((ro_lst (unhide HO1)).imp fun _ _ _ r => RRo.up hg2 r)
  go_upto_region 4 with fail
  have HXD3 := hide ((unhide HX24).up (bl_dr _))
  have hS30 := boxS_cells (unhide HXD3)
  go_region_held3 (fun W' => W'.cell? ⟨BX, 0, none⟩ = some (.int .i64 S.next) ∧ W'.cell? ⟨BX, 1, none⟩ = some (.int .i64 S.clock) ∧ W'.cell? ⟨BX, 2, none⟩ = some (.slice ba S.bus.length bc) ∧ W'.cell? ⟨BX, 3, none⟩ = some (.slice va S.ves.length vc) ∧ W'.cell? ⟨BX, 4, none⟩ = some (.slice ua S.ups.length uc) ∧ W'.cell? ⟨BX, 5, none⟩ = some (.slice qa S.que.length qc) ∧ W'.cell? ⟨BX, 6, none⟩ = some (.slice ga S.gone.length gc))
    (first | exact hS30 | exact hS33 | exact hS34 | fail)
    (first
      | (go_at_call 18; refine (unhide HNP _).mono ?_; rintro e w33 ⟨rfl, hb33⟩; have HX33 := hide ((unhide HXD3).up hb33); have HS33 := hide ((unhide HS24).up (bl_trans (bl_dr _) hb33)); have hg33 := bl_trans (bl_dr _) hb33; have hS33 := boxS_cells (unhide HX33))
      | (go_at_call 17; refine (unhide HK3 _ _ _ _ _ _ (unhide HS33)).mono ?_; rintro e w34 ⟨oa3, oc3, rfl, hO3, hb34⟩; have HO3 := hide hO3; clear hO3; have HX34 := hide ((unhide HX33).up hb34); have HS34 := hide ((unhide HS33).up hb34); have hg3 := bl_trans hg33 hb34; have hS34 := boxS_cells (unhide HX34))
      | fail)
  clear hS30 hS33 hS34 hg33 hb33 hb34
  have HA3 := hide ((unhide HO12).imp fun _ _ _ r => RRo.up hg3 r)
  have HP3 := hide ((ro_lst (unhide HO2)).imp fun _ _ _ r => RRo.up hg3 r)
  obtain ⟨hqa1, hqa2⟩ : NA ≤ oc1 ∧ oc1 ≤ maxLen := by obtain ⟨_, _, e9, h1, h2⟩ := ro_form (unhide HO1); simp at e9; obtain ⟨_, _, rfl⟩ := e9; rw [unhide HNA] at h1; exact ⟨h1, h2⟩
  obtain ⟨hqp1, hqp2⟩ : NP ≤ oc2 ∧ oc2 ≤ maxLen := by obtain ⟨_, _, e9, h1, h2⟩ := ro_form (unhide HO2); simp at e9; obtain ⟨_, _, rfl⟩ := e9; rw [unhide HNPP] at h1; exact ⟨h1, h2⟩
  have hw3 := bl_trans hw2 (bl_trans hg1 (bl_trans hg2 hg3))
  unfold maxLen at hqa2 hqp2
  clear HO1 HO12 HO2 HO3 hg1 hg2 hg3
  go_wp2
  go_loopw [17, 18, 20, 64, 70] (fun _ _ _ i _ wr => ∃ k : Nat, k ≤ NP ∧ i = .int .i64 k ∧ Below w34.heap.size w34 wr) (fun _ _ _ i _ _ => NP - (intOf i).toNat)
  case atStart => exact ⟨0, Nat.zero_le _, rfl, Below.refl _ _⟩
  case round =>
    obtain ⟨k, hk, rfl, hbr⟩ := hrel
    by_cases hlt : k < NP
    · have hlt' : k < P.length := by rw [unhide HNPP]; exact hlt
      obtain ⟨b8, o8, e8, r0⟩ := Lst.at (unhide HP3) hlt'
      have hsp := unhide HSP k hlt
      have hpc := unhide HPC k hlt
      have HC1 := hide (unhide HCM k hlt)
      have HC0 : Hid (∀ j, j < NA → cntM A (P.getD k ro0) (j + 1) = cntM A (P.getD k ro0) j + if matR (A.getD j ro0) (P.getD k ro0) then 1 else 0) := fun j hj => cntM_next (by rw [unhide HNA]; exact hj)
      obtain ⟨X, hX⟩ : ∃ X, P.getD k ro0 = X := ⟨_, rfl⟩
      rw [hX] at r0 hsp hpc HC1 HC0
      have HPX := hide hpc
      subst e8
      have r := RRo.up hbr r0
      have c0 := r.c0
      have c1 := r.c1
      have c2 := r.c2
      have c3 := r.c3
      have c4 := r.c4
      have c5 := r.c5
      have c6 := r.c6
      clear r r0 hX hpc
      go_upto_region 10 with fail
      generalize hWW : wr.alloc _ = W8
      have h8 : W8.heap[wr.heap.size]? = some (.cells (roA X) 61 (0, 0)) ∧ Below wr.heap.size wr W8 := by
        rw [← hWW]
        exact ⟨heap_alloc_new _ _, bl1 _ _⟩
      clear hWW c0 c1 c2 c3 c4 c5 c6
      obtain ⟨hr8, hb8⟩ := h8
      have hl8 : wr.heap.size < W8.heap.size := (Array.getElem?_eq_some_iff.1 hr8).1
      have hb9 := bl_trans hbr hb8
      obtain ⟨pB, hpB⟩ : ∃ x, wr.heap.size = x := ⟨_, rfl⟩
      rw [hpB] at hr8 hl8 ⊢
      have HR8 := hide hr8
      clear hr8 hb8 hpB
      go_wp2
      go_loopw [18, 20, 70] (fun n _ i wq => ∃ j : Nat, j ≤ NA ∧ i = .int .i64 j ∧ n = .int .i64 (cntM A X j : Nat) ∧ Below W8.heap.size W8 wq) (fun _ _ i _ => NA - (intOf i).toNat)
      case atStart => exact ⟨0, Nat.zero_le _, rfl, rfl, Below.refl _ _⟩
      case round =>
        obtain ⟨j, hj, rfl, rfl, hbj⟩ := hrel
        have hcl := cntM_le A X j
        by_cases hjl : j < NA
        · have hjl' : j < A.length := by rw [unhide HNA]; exact hjl
          obtain ⟨b9, o9, e9, r0⟩ := Lst.at (unhide HA3) hjl'
          have hsa := unhide HSA j hjl
          have HCJ := hide (unhide HC0 j hjl)
          obtain ⟨Y, hY⟩ : ∃ Y, A.getD j ro0 = Y := ⟨_, rfl⟩
          obtain ⟨J, hJ⟩ : ∃ x, cntM A X j = x := ⟨_, rfl⟩
          rw [hY] at r0 hsa HCJ
          rw [hJ] at HCJ hcl ⊢
          subst e9
          have r := RRo.up (bl_trans hb9 hbj) r0
          have c0 := r.c0
          have c1 := r.c1
          have c2 := r.c2
          have c3 := r.c3
          have c4 := r.c4
          have c5 := r.c5
          have c6 := r.c6
          clear r r0 hY hJ
          go_upto_region 14 with fail
          generalize hWW : wr.alloc _ = W9
          have h9 : W9.heap[wr.heap.size]? = some (.cells (roA Y) 61 (0, 0)) ∧ Below wr.heap.size wr W9 := by
            rw [← hWW]
            exact ⟨heap_alloc_new _ _, bl1 _ _⟩
          clear hWW c0 c1 c2 c3 c4 c5 c6
          obtain ⟨hr9, hb9a⟩ := h9
          have hl9 : wr.heap.size < W9.heap.size := (Array.getElem?_eq_some_iff.1 hr9).1
          have hbk := bl_trans hbj hb9a
          have hrp := (hbk.block _ hl8).trans (unhide HR8)
          obtain ⟨rB, hrB⟩ : ∃ x, wr.heap.size = x := ⟨_, rfl⟩
          rw [hrB] at hr9 hl9 ⊢
          have hlp9 : pB < W9.heap.size := (Array.getElem?_eq_some_iff.1 hrp).1
          have y0 : W9.cell? ⟨rB, 0, none⟩ = some (.string Y.key) := cell_of hr9 0 rfl
          have z0 : W9.cell? ⟨pB, 0, none⟩ = some (.string X.key) := cell_of hrp 0 rfl
          have y1 : W9.cell? ⟨rB, 1, none⟩ = some (.bool Y.com) := cell_of hr9 1 rfl
          have z1 : W9.cell? ⟨pB, 1, none⟩ = some (.bool X.com) := cell_of hrp 1 rfl
          have y2 : W9.cell? ⟨rB, 2, none⟩ = some (.int .i64 Y.id) := cell_of hr9 2 rfl
          have z2 : W9.cell? ⟨pB, 2, none⟩ = some (.int .i64 X.id) := cell_of hrp 2 rfl
          have y3 : W9.cell? ⟨rB, 3, none⟩ = some (.bool Y.mar) := cell_of hr9 3 rfl
          have z3 : W9.cell? ⟨pB, 3, none⟩ = some (.bool X.mar) := cell_of hrp 3 rfl
          have y4 : W9.cell? ⟨rB, 4, none⟩ = some (.bool Y.lat) := cell_of hr9 4 rfl
          have z4 : W9.cell? ⟨pB, 4, none⟩ = some (.bool X.lat) := cell_of hrp 4 rfl
          have y5 : W9.cell? ⟨rB, 5, none⟩ = some (.int .i64 Y.size) := cell_of hr9 5 rfl
          have z5 : W9.cell? ⟨pB, 5, none⟩ = some (.int .i64 X.size) := cell_of hrp 5 rfl
          have y6 : W9.cell? ⟨rB, 6, none⟩ = some (.int .i64 Y.tier) := cell_of hr9 6 rfl
          have z6 : W9.cell? ⟨pB, 6, none⟩ = some (.int .i64 X.tier) := cell_of hrp 6 rfl
          have HMA : Hid (matR Y X = (((Y.com && decide (Y.key.size < X.key.size)) && ((X.key.extract 0 Y.key.size).toList == Y.key.toList)) || eqR Y X)) := rfl
          clear hr9 hrp hb9a hrB
          have hnel := Later.one W9
          have hpc := unhide HPX
          rw [hpc] at z1
          cases hcom : Y.com
          · rw [hcom] at y1
            have HCC : Hid (Y.com = X.com) := hcom.trans hpc.symm
            cases hq : eqR Y X
            · have HC2 : Hid (cntM A X (j + 1) = J) := by show _ = _; rw [unhide HCJ, unhide HMA, hcom, hq]; simp
              have l0 := fun d : Later W9 => d.cell y0
              have m0 := fun d : Later W9 => d.cell z0
              have l1 := fun d : Later W9 => d.cell y1
              have m1 := fun d : Later W9 => d.cell z1
              have l2 := fun d : Later W9 => d.cell y2
              have m2 := fun d : Later W9 => d.cell z2
              have l3 := fun d : Later W9 => d.cell y3
              have m3 := fun d : Later W9 => d.cell z3
              have l4 := fun d : Later W9 => d.cell y4
              have m4 := fun d : Later W9 => d.cell z4
              have l5 := fun d : Later W9 => d.cell y5
              have m5 := fun d : Later W9 => d.cell z5
              have l6 := fun d : Later W9 => d.cell y6
              have m6 := fun d : Later W9 => d.cell z6
              clear hpc hcom
              refine wp_region_later (by kernel_rfl) (by kernel_rfl) ?_
              repeat (go_big_quiet_step (fail))
              refine wpQuiet_step (fun K hK => ?_)
              clear l0 m0 l1 m1 l2 m2 l3 m3 l4 m4 l5 m5 l6 m6
              go_simp
              refine ⟨.bool false, fun d9 => ?_, hK _ ?_⟩
              · simp only [ifR6 (unhide HCC)]
                rw [hq]
                exact ⟨rfl, rfl⟩
              clear hK K
              repeat (go_big_quiet_step (fail))
              refine wpQuiet_nil ?_
              intro w11 hw'
              obtain ⟨⟨w13, hb13⟩, hw''⟩ := hw'
              subst hw''
              clear hnel
              go_wp2
              go_roundw
              case rel => exact ⟨j + 1, by omega, by go_num, by (rw [unhide HC2]; try go_num), bl_trans hbk hb13⟩
              case measure => (simp [intOf] <;> omega)
            · have HC2 : Hid (cntM A X (j + 1) = J + 1) := by show _ = _; rw [unhide HCJ, unhide HMA, hcom, hq]; simp
              have l0 := fun d : Later W9 => d.cell y0
              have m0 := fun d : Later W9 => d.cell z0
              have l1 := fun d : Later W9 => d.cell y1
              have m1 := fun d : Later W9 => d.cell z1
              have l2 := fun d : Later W9 => d.cell y2
              have m2 := fun d : Later W9 => d.cell z2
              have l3 := fun d : Later W9 => d.cell y3
              have m3 := fun d : Later W9 => d.cell z3
              have l4 := fun d : Later W9 => d.cell y4
              have m4 := fun d : Later W9 => d.cell z4
              have l5 := fun d : Later W9 => d.cell y5
              have m5 := fun d : Later W9 => d.cell z5
              have l6 := fun d : Later W9 => d.cell y6
              have m6 := fun d : Later W9 => d.cell z6
              clear hpc hcom
              refine wp_region_later (by kernel_rfl) (by kernel_rfl) ?_
              repeat (go_big_quiet_step (fail))
              refine wpQuiet_step (fun K hK => ?_)
              clear l0 m0 l1 m1 l2 m2 l3 m3 l4 m4 l5 m5 l6 m6
              go_simp
              refine ⟨.bool true, fun d9 => ?_, hK _ ?_⟩
              · simp only [ifR6 (unhide HCC)]
                rw [hq]
                exact ⟨rfl, rfl⟩
              clear hK K
              repeat (go_big_quiet_step (fail))
              refine wpQuiet_nil ?_
              intro w11 hw'
              obtain ⟨⟨w13, hb13⟩, hw''⟩ := hw'
              subst hw''
              clear hnel
              go_wp2
              go_roundw
              case rel => exact ⟨j + 1, by omega, by go_num, by (rw [unhide HC2]; try go_num), bl_trans hbk hb13⟩
              case measure => (simp [intOf] <;> omega)
          · have hq : eqR Y X = false := eqR_ne (by rw [hcom, hpc]; decide)
            rw [hcom] at y1
            by_cases hsz : Y.key.size < X.key.size
            · cases hpe : ((X.key.extract 0 Y.key.size).toList == Y.key.toList)
              · have HC2 : Hid (cntM A X (j + 1) = J) := by show _ = _; rw [unhide HCJ, unhide HMA, hcom, hq, hpe]; simp
                have l0 := fun d : Later W9 => d.cell y0
                have m0 := fun d : Later W9 => d.cell z0
                have l1 := fun d : Later W9 => d.cell y1
                have m1 := fun d : Later W9 => d.cell z1
                have l2 := fun d : Later W9 => d.cell y2
                have m2 := fun d : Later W9 => d.cell z2
                have l3 := fun d : Later W9 => d.cell y3
                have m3 := fun d : Later W9 => d.cell z3
                have l4 := fun d : Later W9 => d.cell y4
                have m4 := fun d : Later W9 => d.cell z4
                have l5 := fun d : Later W9 => d.cell y5
                have m5 := fun d : Later W9 => d.cell z5
                have l6 := fun d : Later W9 => d.cell y6
                have m6 := fun d : Later W9 => d.cell z6
                refine wp_region_later (by kernel_rfl) (by kernel_rfl) ?_
                repeat (go_big_quiet_step (fail))
                refine wpQuiet_nil ?_
                intro w11 hw'
                obtain ⟨⟨w13, hb13⟩, hw''⟩ := hw'
                subst hw''
                clear hnel l0 m0 l1 m1 l2 m2 l3 m3 l4 m4 l5 m5 l6 m6
                go_wp2
                go_roundw
                case rel => exact ⟨j + 1, by omega, by go_num, by (rw [unhide HC2]; try go_num), bl_trans hbk hb13⟩
                case measure => (simp [intOf] <;> omega)
              · have HC2 : Hid (cntM A X (j + 1) = J + 1) := by show _ = _; rw [unhide HCJ, unhide HMA, hcom, hq, hpe, decide_eq_true hsz]; simp
                have l0 := fun d : Later W9 => d.cell y0
                have m0 := fun d : Later W9 => d.cell z0
                have l1 := fun d : Later W9 => d.cell y1
                have m1 := fun d : Later W9 => d.cell z1
                have l2 := fun d : Later W9 => d.cell y2
                have m2 := fun d : Later W9 => d.cell z2
                have l3 := fun d : Later W9 => d.cell y3
                have m3 := fun d : Later W9 => d.cell z3
                have l4 := fun d : Later W9 => d.cell y4
                have m4 := fun d : Later W9 => d.cell z4
                have l5 := fun d : Later W9 => d.cell y5
                have m5 := fun d : Later W9 => d.cell z5
                have l6 := fun d : Later W9 => d.cell y6
                have m6 := fun d : Later W9 => d.cell z6
                refine wp_region_later (by kernel_rfl) (by kernel_rfl) ?_
                repeat (go_big_quiet_step (fail))
                refine wpQuiet_nil ?_
                intro w11 hw'
                obtain ⟨⟨w13, hb13⟩, hw''⟩ := hw'
                subst hw''
                clear hnel l0 m0 l1 m1 l2 m2 l3 m3 l4 m4 l5 m5 l6 m6
                go_wp2
                go_roundw
                case rel => exact ⟨j + 1, by omega, by go_num, by (rw [unhide HC2]; try go_num), bl_trans hbk hb13⟩
                case measure => (simp [intOf] <;> omega)
            · have HC2 : Hid (cntM A X (j + 1) = J) := by show _ = _; rw [unhide HCJ, unhide HMA, hcom, hq, decide_eq_false hsz]; simp
              have l0 := fun d : Later W9 => d.cell y0
              have m0 := fun d : Later W9 => d.cell z0
              have l1 := fun d : Later W9 => d.cell y1
              have m1 := fun d : Later W9 => d.cell z1
              have l2 := fun d : Later W9 => d.cell y2
              have m2 := fun d : Later W9 => d.cell z2
              have l3 := fun d : Later W9 => d.cell y3
              have m3 := fun d : Later W9 => d.cell z3
              have l4 := fun d : Later W9 => d.cell y4
              have m4 := fun d : Later W9 => d.cell z4
              have l5 := fun d : Later W9 => d.cell y5
              have m5 := fun d : Later W9 => d.cell z5
              have l6 := fun d : Later W9 => d.cell y6
              have m6 := fun d : Later W9 => d.cell z6
              refine wp_region_later (by kernel_rfl) (by kernel_rfl) ?_
              repeat (go_big_quiet_step (fail))
              refine wpQuiet_nil ?_
              intro w11 hw'
              obtain ⟨⟨w13, hb13⟩, hw''⟩ := hw'
              subst hw''
              clear hnel l0 m0 l1 m1 l2 m2 l3 m3 l4 m4 l5 m5 l6 m6
              go_wp2
              go_roundw
              case rel => exact ⟨j + 1, by omega, by go_num, by (rw [unhide HC2]; try go_num), bl_trans hbk hb13⟩
              case measure => (simp [intOf] <;> omega)
        · obtain rfl : j = NA := by omega
          rw [unhide HC1]
          go_wp2
          go_roundw
          case rel => exact ⟨k + 1, by omega, by go_num, bl_trans hb9 hbj⟩
          case measure => (simp [intOf] <;> omega)
    · obtain rfl : k = NP := by omega
      have hw5 := bl_trans hw3 hbr
      have HA5 := hide ((unhide HA3).imp fun _ _ _ r => RRo.up hbr r)
      go_wp2
      go_loopw [22, 109] (fun _ i wq => ∃ j : Nat, j ≤ NA ∧ i = .int .i64 j ∧ Below wr.heap.size wr wq) (fun _ i _ => NA - (intOf i).toNat)
      case atStart => exact ⟨0, Nat.zero_le _, rfl, Below.refl _ _⟩
      case round =>
        obtain ⟨j, hj, rfl, hbj⟩ := hrel
        by_cases hjl : j < NA
        · have hjl' : j < A.length := by rw [unhide HNA]; exact hjl
          obtain ⟨b9, o9, e9, r0⟩ := Lst.at (unhide HA5) hjl'
          have HCO9 := hide (unhide HCO j hjl)
          have hsa := unhide HSA j hjl
          obtain ⟨Y, hY⟩ : ∃ Y, A.getD j ro0 = Y := ⟨_, rfl⟩
          rw [hY] at r0 HCO9 hsa
          subst e9
          have r := RRo.up hbj r0
          have c0 := r.c0
          have c1 := r.c1
          have c2 := r.c2
          have c3 := r.c3
          have c4 := r.c4
          have c5 := r.c5
          have c6 := r.c6
          clear r r0 hY
          go_upto_region 23 with fail
          generalize hWW : wr.alloc _ = W9
          have h9 : W9.heap[wr.heap.size]? = some (.cells (roA Y) 61 (0, 0)) ∧ Below wr.heap.size wr W9 := by
            rw [← hWW]
            exact ⟨heap_alloc_new _ _, bl1 _ _⟩
          clear hWW c0 c1 c2 c3 c4 c5 c6
          obtain ⟨hr9, hb9a⟩ := h9
          have hl9 : wr.heap.size < W9.heap.size := (Array.getElem?_eq_some_iff.1 hr9).1
          have hbk := bl_trans hbj hb9a
          obtain ⟨rB, hrB⟩ : ∃ x, wr.heap.size = x := ⟨_, rfl⟩
          rw [hrB] at hr9 hl9 ⊢
          have y0 : W9.cell? ⟨rB, 0, none⟩ = some (.string Y.key) := cell_of hr9 0 rfl
          have y1 : W9.cell? ⟨rB, 1, none⟩ = some (.bool Y.com) := cell_of hr9 1 rfl
          have y2 : W9.cell? ⟨rB, 2, none⟩ = some (.int .i64 Y.id) := cell_of hr9 2 rfl
          clear hr9 hb9a hrB
          cases hcom : Y.com
          · rw [hcom] at y1
            go_wp2
            go_roundw
            case rel => exact ⟨j + 1, by omega, by go_num, hbk⟩
            case measure => (simp [intOf] <;> omega)
          · rw [hcom] at y1
            obtain ⟨g1, g2, g3⟩ := unhide HCO9 hcom
            have hgb := Go.PlainAid.get_bt Y.key 1 (by omega)
            rw [g2] at hgb
            rw [g3] at y2
            have g4 : (Y.key.size : Int) = 2 := by omega
            clear g2 g3 HCO9
            go_wp2
            go_roundw
            case rel => exact ⟨j + 1, by omega, by go_num, hbk⟩
            case measure => (simp [intOf] <;> omega)
        · obtain rfl : j = NA := by omega
          go_wp2
          go_ret
          exact ⟨rfl, bl_trans hw5 hbj⟩
end Go.Proofs.YtdgmdapijhbocaaGreat
