/- What a record changes keeps a state one that may be. -/
import Derived.Test.YtdgmdapijhbocaaGreatSokq
namespace Go.Proofs.YtdgmdapijhbocaaGreat
open Go.RowKit Go.Maps
set_option maxRecDepth 100000
set_option linter.unusedVariables false
set_option linter.unusedSimpArgs false
theorem set_nam {l : List Bu} {i : Nat} {y : Bu} (hn : i < l.length → y.nam = (l.getD i bu0).nam) (j : Nat) : ((l.set i y).getD j bu0).nam = (l.getD j bu0).nam := by
  simp only [List.getD, List.getElem?_set]
  by_cases e : i = j
  · subst e
    rw [if_pos rfl]
    by_cases hi : i < l.length
    · rw [if_pos hi]
      have := hn hi
      simpa [List.getD] using this
    · rw [if_neg hi, List.getElem?_eq_none (by omega)]
  · rw [if_neg e]
theorem hasB_set {S : St} {i : Nat} {y : Bu} (hn : i < S.bus.length → y.nam = (S.bus.getD i bu0).nam) (b : ByteArray) : hasB { S with bus := S.bus.set i y } b = hasB S b := by
  unfold hasB
  have : buP (S.bus.set i y) b = buP S.bus b := funext fun j => by unfold buP; rw [set_nam hn]
  show decide (0 ≤ firstI (S.bus.set i y).length (buP (S.bus.set i y) b)) = _
  rw [this, List.length_set]
theorem busC_set {l : List Bu} {i : Nat} {y : Bu} (h : busC l = true) (hn : i < l.length → y.nam = (l.getD i bu0).nam) (hy : buC y = true) : busC (l.set i y) = true := by
  unfold busC at h ⊢
  simp only [Bool.and_eq_true, decide_eq_true_eq] at h ⊢
  obtain ⟨⟨h1, h2⟩, h3⟩ := h
  rw [List.length_set]
  refine ⟨⟨h1, ?_⟩, ?_⟩
  · rw [show busP (l.set i y) = busP l from funext fun j => by unfold busP; rw [set_nam hn, set_nam hn]]
    exact h2
  · rw [allB_iff] at h3 ⊢
    intro j hj
    have := h3 j hj
    unfold busQ at this ⊢
    simp only [List.getD, List.getElem?_set]
    by_cases e : i = j
    · subst e
      rw [if_pos rfl, if_pos hj]
      exact hy
    · rw [if_neg e]; simpa [List.getD] using this
theorem StOk.bus {S : St} {i : Nat} {y : Bu} (h : StOk S) (hn : i < S.bus.length → y.nam = (S.bus.getD i bu0).nam) (hy : buC y = true) : StOk { S with bus := S.bus.set i y } := by
  have hL : Like S { S with bus := S.bus.set i y } := ⟨rfl, rfl, hasB_set hn, fun _ => rfl⟩
  exact ⟨h.n0, h.n1, h.c0, h.c1, h.g, busC_set h.b hn hy, h.vlen, h.vrise, fun x hx => by rw [hL.ve]; exact h.vok x hx, h.vnul, h.ulen, h.urise, fun x hx => by rw [hL.up]; exact h.uok x hx, h.qlen, h.qok, h.qdis, h.sok, h.sdis⟩
theorem veC_later {S : St} {n : Int} {x : Ve} (h : veC S x = true) (hn : 0 ≤ n) : veC { S with clock := S.clock + n } x = true := by
  unfold veC at h ⊢
  simp only [Bool.and_eq_true] at h ⊢
  refine ⟨⟨h.1.1, ?_⟩, h.2⟩
  have := inB_t h.1.2
  unfold inB
  exact decide_eq_true ⟨this.1, by show x.time ≤ S.clock + n; omega⟩
theorem StOk.pass {S : St} {n : Int} (h : StOk S) (h0 : 0 ≤ n) (h1 : S.clock + n ≤ 1073741824) : StOk (pasS S n) :=
  ⟨h.n0, h.n1, by have := h.c0; show 0 ≤ S.clock + n; omega, h1, h.g, h.b, h.vlen, h.vrise, fun x hx => veC_later (h.vok x hx) h0, h.vnul, h.ulen, h.urise, h.uok, h.qlen, h.qok, h.qdis, h.sok, h.sdis⟩
theorem cut_sub {α : Type} (l : List α) (k : Nat) : (l.take k ++ l.drop (k + 1)).Sublist l := by
  rw [← List.eraseIdx_eq_take_drop_succ]
  exact List.eraseIdx_sublist l k
theorem mem_cut {α : Type} {l : List α} {k : Nat} {d x : α} (hx : x ∈ l) (hne : x ≠ l.getD k d) : x ∈ l.take k ++ l.drop (k + 1) := by
  obtain ⟨j, hj, rfl⟩ := List.getElem_of_mem hx
  rw [List.mem_append]
  rcases Nat.lt_trichotomy j k with h | h | h
  · exact .inl (List.mem_take_iff_getElem.2 ⟨j, by omega, rfl⟩)
  · subst h
    exact absurd (getD_eq hj).symm hne
  · refine .inr (List.mem_drop_iff_getElem.2 ⟨j - (k + 1), by omega, ?_⟩)
    congr 1
    omega
theorem sub_flat {α β : Type} (f : α → List β) {l m : List α} (h : l.Sublist m) : (l.flatMap f).Sublist (m.flatMap f) := by
  induction h with
  | slnil => exact List.Sublist.refl _
  | cons a _ ih => rw [List.flatMap_cons]; exact ih.trans (List.sublist_append_right _ _)
  | cons_cons a _ ih => rw [List.flatMap_cons, List.flatMap_cons]; exact List.Sublist.append (List.Sublist.refl _) ih
theorem StOk.drop {S : St} {k : Nat} (h : StOk S) (hk : k < S.ves.length) : StOk (drpS S k) := by
  have hL : Like S (drpS S k) := ⟨rfl, rfl, fun _ => rfl, fun _ => rfl⟩
  have hsub : (drpS S k).ves.Sublist S.ves := cut_sub S.ves k
  have hr : (drpS S k).ves.Pairwise (fun x y => x.id < y.id) := h.vrise.sublist hsub
  have hss : (secs (drpS S k)).Sublist (secs S) := List.Sublist.append (sub_flat _ hsub) (List.Sublist.refl _)
  refine ⟨h.n0, h.n1, h.c0, h.c1, h.g, h.b, Nat.le_trans hsub.length_le h.vlen, hr, fun x hx => by rw [hL.ve]; exact h.vok x (hsub.subset hx), h.vnul.sublist hsub, h.ulen, h.urise, fun x hx => by rw [hL.up]; exact h.uok x hx, Nat.le_trans (List.length_filter_le _ _) h.qlen, fun a ha => ?_, h.qdis.sublist (List.Sublist.map _ List.filter_sublist), fun x hx => h.sok x (hss.subset hx), h.sdis.sublist hss⟩
  have hm := List.mem_filter.1 ha
  have hne : a.ver ≠ (S.ves.getD k ve0).id := by have := hm.2; simpa using this
  obtain ⟨h1, h2⟩ := h.qok a hm.1
  refine ⟨?_, h2⟩
  rw [cold_iff h.vrise] at h1
  rw [cold_iff hr]
  obtain ⟨x, hx, e1, e2⟩ := h1
  exact ⟨x, mem_cut (d := ve0) hx (fun e => hne (by rw [← e1, e])), e1, e2⟩
theorem StOk.ask {S : St} {a : Ak} (h : StOk S) (hl : S.que.length < 10) (hc : coldB S a.ver = true) (ha : askB a = true) (hn : ∀ x ∈ S.que, x.ver ≠ a.ver) : StOk (adaS S a) := by
  refine ⟨h.n0, h.n1, h.c0, h.c1, h.g, h.b, h.vlen, h.vrise, h.vok, h.vnul, h.ulen, h.urise, h.uok, by show (S.que ++ [a]).length ≤ 10; rw [List.length_append]; simp; omega, fun x hx => ?_, ?_, h.sok, h.sdis⟩
  · rcases List.mem_append.1 hx with hx | hx
    · exact h.qok x hx
    · obtain rfl := List.mem_singleton.1 hx
      exact ⟨hc, ha⟩
  · show ((S.que ++ [a]).map (·.ver)).Nodup
    rw [List.map_append, List.nodup_append]
    refine ⟨h.qdis, by simp, ?_⟩
    intro x hx y hy
    obtain ⟨z, hz, rfl⟩ := List.mem_map.1 hx
    simp at hy
    subst hy
    exact hn z hz
/-- The buckets' names. -/
def bnm (S : St) : List ByteArray := S.bus.map (·.nam)
theorem bnm_set {S : St} {i : Nat} {y : Bu} (hn : i < S.bus.length → y.nam = (S.bus.getD i bu0).nam) : (S.bus.set i y).map (·.nam) = S.bus.map (·.nam) := by
  apply List.ext_getElem
  · simp
  · intro j h1 h2
    have := set_nam hn j
    simp only [List.length_map, List.length_set] at h1 h2
    rw [getD_eq (show j < (S.bus.set i y).length by simpa using h1), getD_eq (by simpa using h1)] at this
    rw [List.getElem_map, List.getElem_map]
    exact this
theorem idxB_in {S : St} {nm : ByteArray} (h : nm ∈ bnm S) : 0 ≤ idxB S nm := by
  rcases firstI_cases S.bus.length (buP S.bus nm) with ⟨h1, h2⟩ | ⟨k, _, h2, _⟩
  · exfalso
    obtain ⟨x, hx, e⟩ := List.mem_map.1 h
    obtain ⟨k, hk, e2⟩ := mem_at (d := bu0) hx
    have := h2 k hk
    unfold buP at this
    rw [e2, e, (eqS_iff nm nm).2 rfl] at this
    cases this
  · unfold idxB; omega
theorem chg_names {S : St} {r : Rc} (h0 : chgE S r = 0) (hn : r.kind = 1 → r.nam ∈ bnm S) : bnm (chgS S r) = bnm S := by
  by_cases k1 : r.kind = 1
  · exfalso
    rw [(chg_1 k1).1] at h0
    have := idxB_in (hn k1)
    unfold adbE at h0
    split at h0
    · first | omega | (rw [if_pos this] at h0; omega)
    · contradiction
  by_cases k2 : r.kind = 2
  · rw [(chg_2 k2).2]
    exact bnm_set (fun _ => rfl)
  by_cases k3 : r.kind = 3
  · rw [(chg_3 k3).2]
    exact bnm_set (fun _ => rfl)
  by_cases k4 : r.kind = 4
  · rw [(chg_4 k4).2]
    show (advD S r.ver).bus.map _ = _
    unfold advD
    split <;> rfl
  by_cases k5 : r.kind = 5
  · rw [(chg_5 k5).2]; rfl
  by_cases k6 : r.kind = 6
  · rw [(chg_6 k6).2]; rfl
  by_cases k7 : r.kind = 7
  · rw [(chg_7 k7).2]; rfl
  by_cases k8 : r.kind = 8
  · rw [(chg_8 k8).2]; rfl
  by_cases k9 : r.kind = 9
  · rw [(chg_9 k9).2]; rfl
  by_cases k10 : r.kind = 10
  · rw [(chg_10 k10).2]; rfl
  by_cases k11 : r.kind = 11
  · rw [(chg_11 k11).2]; rfl
  by_cases k12 : r.kind = 12
  · rw [(chg_12 k12).2]; rfl
  by_cases k13 : r.kind = 13
  · rw [(chg_13 k13).2]; rfl
  by_cases k14 : r.kind = 14
  · rw [(chg_14 k14).2]; rfl
  rw [chg_x k1 k2 k3 k4 k5 k6 k7 k8 k9 k10 k11 k12 k13 k14] at h0
  cases h0
theorem recR_kind (S : St) (x : Rw) : (recR S x).kind = pickI x.kind 14 + 1 := by
  have h0 := pickI_lo x.kind (m := 14) (by decide)
  have h1 := pickI_hi x.kind (m := 14) (by decide)
  unfold recR
  by_cases k0 : pickI x.kind 14 = 0
  · rw [if_pos k0, k0]; rfl
  rw [if_neg k0]
  by_cases k1 : pickI x.kind 14 = 1
  · rw [if_pos k1, k1]; rfl
  rw [if_neg k1]
  by_cases k2 : pickI x.kind 14 = 2
  · rw [if_pos k2, k2]; rfl
  rw [if_neg k2]
  by_cases k3 : pickI x.kind 14 = 3
  · rw [if_pos k3, k3]; rfl
  rw [if_neg k3]
  by_cases k4 : pickI x.kind 14 = 4
  · rw [if_pos k4, k4]; rfl
  rw [if_neg k4]
  by_cases k5 : pickI x.kind 14 = 5
  · rw [if_pos k5, k5]; rfl
  rw [if_neg k5]
  by_cases k6 : pickI x.kind 14 = 6
  · rw [if_pos k6, k6]; rfl
  rw [if_neg k6]
  by_cases k7 : pickI x.kind 14 = 7
  · rw [if_pos k7, k7]; rfl
  rw [if_neg k7]
  by_cases k8 : pickI x.kind 14 = 8
  · rw [if_pos k8, k8]; rfl
  rw [if_neg k8]
  by_cases k9 : pickI x.kind 14 = 9
  · rw [if_pos k9, k9]; rfl
  rw [if_neg k9]
  by_cases k10 : pickI x.kind 14 = 10
  · rw [if_pos k10, k10]; rfl
  rw [if_neg k10]
  by_cases k11 : pickI x.kind 14 = 11
  · rw [if_pos k11, k11]; rfl
  rw [if_neg k11]
  by_cases k12 : pickI x.kind 14 = 12
  · rw [if_pos k12, k12]; rfl
  rw [if_neg k12]
  show (14 : Int) = _
  omega
theorem recR_nam {S : St} {x : Rw} (h : (recR S x).kind = 1) : (recR S x).nam = nmB x.a := by
  rw [recR_kind] at h
  unfold recR
  rw [if_pos (by omega)]
/-- Every state behind the first two records has the buckets a and b. -/
theorem stN_names (l : List Rw) : ∀ k, 2 ≤ k → bnm (stN l k) = [⟨#[97]⟩, ⟨#[98]⟩]
  | 0, h => absurd h (by decide)
  | 1, h => absurd h (by decide)
  | 2, _ => by rw [(stN_two l).1]; rfl
  | k + 3, _ => by
    have ih := stN_names l (k + 2) (by omega)
    rw [stN]
    by_cases h0 : appE (stN l (k + 2)) (recR (stN l (k + 2)) (rwAt l (k + 2))) = 0
    · rw [stp_yes h0]
      obtain ⟨_, h1, _, h2⟩ := app_ok h0
      rw [h2, chg_names h1 ?_, ih]
      intro hk
      rw [recR_nam hk, ih]
      rcases (nmB_le (rwAt l (k + 2)).a).2 with e | e <;> rw [e] <;> simp
    · rw [stp_no h0]; exact ih
theorem staL_names (l : List Rw) (most : Nat) : bnm (staL l most) = [⟨#[97]⟩, ⟨#[98]⟩] := stN_names l _ (by unfold rnd; omega)
theorem bus_two {S : St} (h : bnm S = [⟨#[97]⟩, ⟨#[98]⟩]) : ∃ x y, S.bus = [x, y] ∧ x.nam = ⟨#[97]⟩ ∧ y.nam = ⟨#[98]⟩ := by
  unfold bnm at h
  match hb : S.bus, h with
  | [x, y], h => simp at h; exact ⟨x, y, rfl, h.1, h.2⟩
  | [], h => simp at h
  | [_], h => simp at h
  | _ :: _ :: _ :: _, h => simp at h
theorem mem_bus {S : St} (h : StOk S) {x : Bu} (hx : x ∈ S.bus) : buC x = true := by
  have := h.b
  unfold busC at this
  simp only [Bool.and_eq_true] at this
  obtain ⟨k, hk, e⟩ := mem_at (d := bu0) hx
  have := allB_iff.1 this.2 k hk
  unfold busQ at this
  rw [e] at this
  exact this
end Go.Proofs.YtdgmdapijhbocaaGreat
