/- How bytes and devices that came in are read, and how long they are at the most. -/
import Derived.Test.YtdalkkjojflakaaOpen2
import Derived.Test.YtdalkkjojflakaaFit
import Derived.SizedLaws
namespace Go.Proofs.Ytdalkkjojflakaa
open Go.ChangeShapes Go.WideShapes Go.ChangeAt Go.RowKit Go.Deep
set_option maxRecDepth 100000
set_option linter.unusedVariables false
set_option linter.unusedSimpArgs false

theorem bytesU8 : Try.prog.bytesOf 5 = 1 := by kernel_rfl
theorem bytesBts : Try.prog.bytesOf 24 = 24 := by kernel_rfl
theorem bytesWr : Try.prog.bytesOf 94 = 32 := by kernel_rfl
theorem bytesVo : Try.prog.bytesOf 79 = 40 := by kernel_rfl
theorem reach_num : reachBytes ≤ 140737488355328 := by decide

theorem weights_all {H : Type} {P : Program} {e : TypeId} {n : Nat} : ∀ {l : List (DataW H)} {d : DataW H}, d ∈ l → n ∈ d.weights P e → n ∈ DataW.weightsAll P e l
  | d0 :: l, d, hd, hn => by
    simp only [DataW.weightsAll, List.mem_append]
    rcases List.mem_cons.1 hd with rfl | h
    · exact .inl hn
    · exact .inr (weights_all h hn)

section
variable {H : Type} {enc : TypeId × Value → H} {w : World} {base : Nat} {spare : Nat → Bool} {held : Bool} {fuel : Nat} {v : Value} {x : DataW H × List MemPlace}

theorem open_btsS (h : DataW.trod enc Try.prog w base spare held fuel 24 [v] = some x) (hw : ∀ n ∈ x.1.weights Try.prog 24, n ≤ reachBytes) : ∃ xs, Bts w v xs ∧ xs.length ≤ 140737488355328 := by
  obtain ⟨xs, hx⟩ := open_bts h
  refine ⟨xs, hx, ?_⟩
  rcases open_ints Try.underlying24 Try.underlying5 cellsU8 h with ⟨hcs, _⟩ | ⟨a, len, cap, zs, hcs, _, hl, hm, hz, hxx, _, _⟩
  · obtain ⟨a, cap, e, _⟩ := hx
    simp [e] at hcs
    omega
  · obtain ⟨a', cap', e, _⟩ := hx
    simp [e] at hcs
    have hzl : len ≤ zs.length := by rw [hz]; split <;> omega
    have := hw ((zs.take len).length + (zs.drop len).length) (by rw [hxx]; simp [DataW.weights, Try.underlying24, lits, bytesU8])
    have hr := reach_num
    simp at this
    omega

theorem open_rowsS (h : DataW.trod enc Try.prog w base spare held fuel 23 [v] = some x) (hw : ∀ n ∈ x.1.weights Try.prog 23, n ≤ reachBytes) :
    ∃ xs, RowsAt w v xs ∧ xs.length * 24 ≤ 140737488355328 ∧ ∀ i, i < xs.length → (xs.getD i []).length ≤ 140737488355328 := by
  have hr := reach_num
  rcases open_slice1 Try.underlying23 cellsBts h with ⟨hcs, _⟩ | ⟨a, len, cap, m, n, V, D, Pl, hcs, _, hl, hm, hmm, hxx, hx⟩
  · simp at hcs
    subst hcs
    exact ⟨[], ⟨none, 0, rfl, Nat.le_refl _, Nat.zero_le _, fun i hi => absurd hi (Nat.not_lt_zero _)⟩, by simp, fun i hi => absurd hi (Nat.not_lt_zero _)⟩
  · simp at hcs
    subst hcs
    have hml : len ≤ m := by rw [hmm]; split <;> omega
    have hwt : ∀ i, i < len → ∀ k ∈ (D i).weights Try.prog 24, k ≤ reachBytes := fun i hi k hk => hw k (by
      rw [hxx]
      simp only [DataW.weights, Try.underlying23, List.mem_cons, List.mem_append]
      exact .inr (.inl (weights_all (List.mem_map.2 ⟨i, by simpa using hi, rfl⟩) hk)))
    obtain ⟨f, hf⟩ := pick_lt ([] : List Int) (p := fun i xs => Bts w (V i) xs ∧ xs.length ≤ 140737488355328) (n := len) fun i hi => open_btsS (hx i (by omega)).2 (hwt i hi)
    have htop := hw ((len + (m - len)) * 24) (by rw [hxx]; simp [DataW.weights, Try.underlying23, bytesBts])
    refine ⟨(List.range len).map f, ⟨some a, cap, by simp, by simpa using hl, hm, fun i hi => ?_⟩, by simp; omega, fun i hi => ?_⟩
    · have hi' : i < len := by simpa using hi
      obtain ⟨b, o, rfl⟩ := spot_of (hx 0 (by omega)).1
      have hc := (hx i (by omega)).1
      rw [add_none] at hc
      exact ⟨b, o, rfl, V i, hc, by rw [getD_map_range f _ hi']; exact (hf i hi').1⟩
    · have hi' : i < len := by simpa using hi
      rw [getD_map_range f _ hi']; exact (hf i hi').2

theorem open_wrsS (h : DataW.trod enc Try.prog w base spare held fuel 34 [v] = some x) (hw : ∀ n ∈ x.1.weights Try.prog 34, n ≤ reachBytes) :
    ∃ xs, WrsAt w v xs ∧ xs.length * 32 ≤ 140737488355328 ∧ ∀ i, i < xs.length → (xs.getD i ⟨0, []⟩).data.length ≤ 140737488355328 := by
  have hr := reach_num
  rcases open_slice Try.underlying34 h with ⟨hcs, _⟩ | ⟨a, len, cap, m, n, D, Pl, hcs, _, hl, hm, hmm, hxx, hx⟩
  · simp at hcs
    subst hcs
    exact ⟨[], ⟨none, 0, rfl, Nat.le_refl _, Nat.zero_le _, fun i hi => absurd hi (Nat.not_lt_zero _)⟩, by simp, fun i hi => absurd hi (Nat.not_lt_zero _)⟩
  · simp at hcs
    subst hcs
    have hml : len ≤ m := by rw [hmm]; split <;> omega
    have hwt : ∀ i, i < len → ∀ k ∈ (D i).weights Try.prog 94, k ≤ reachBytes := fun i hi k hk => hw k (by
      rw [hxx]
      simp only [DataW.weights, Try.underlying34, List.mem_cons, List.mem_append]
      exact .inr (.inl (weights_all (List.mem_map.2 ⟨i, by simpa using hi, rfl⟩) hk)))
    have htop := hw ((len + (m - len)) * 32) (by rw [hxx]; simp [DataW.weights, Try.underlying34, bytesWr])
    have hsp : 0 < len → ∃ b o, a = ⟨b, o, none⟩ := fun h0 => by
      obtain ⟨cs', hc, _⟩ := hx 0 (by omega)
      rw [cellsWr] at hc
      obtain ⟨c0, c1, _, k0, _⟩ := two_cells hc
      exact spot_of (by simpa [Addr.add] using k0)
    obtain ⟨f, hf⟩ := pick_lt (⟨0, []⟩ : Wr) (n := len) (p := fun i r => (∃ b o, a = ⟨b, o, none⟩ ∧ w.cell? ⟨b, o + i * 2, none⟩ = some (.int .i64 r.pos) ∧ ∃ u, w.cell? ⟨b, o + i * 2 + 1, none⟩ = some u ∧ Bts w u r.data) ∧ r.data.length ≤ 140737488355328) fun i hi => by
      obtain ⟨cs', hc, ht⟩ := hx i (by omega)
      rw [cellsWr] at hc
      obtain ⟨c0, c1, rfl, k0, k1⟩ := two_cells hc
      obtain ⟨xs, n', _, hagg, _, hlen, hy⟩ := DataW.trod_struct Try.underlying94 ht
      match xs, hlen with
      | [y0, y1], _ =>
        have h0 := hy 0 _ rfl
        have h1 := hy 1 _ rfl
        simp [cellsInt, cellsBts] at h0 h1
        obtain ⟨p, e0, _, _⟩ := DataW.trod_int Try.underlying3 h0
        simp at e0
        subst e0
        have hwy : ∀ k ∈ y1.1.weights Try.prog 24, k ≤ reachBytes := fun k hk => hwt i hi k (by
          have e1 : D i = .agg [y0.1, y1.1] := by simpa using congrArg Prod.fst hagg
          rw [e1]
          simp only [DataW.weights, Try.underlying94]
          exact DataW.weights_mem_each (j := 1) (t := 24) rfl rfl k hk)
        obtain ⟨ys, hys, hyl⟩ := open_btsS h1 hwy
        obtain ⟨b, o, rfl⟩ := hsp (by omega)
        rw [add_none, add_none] at k0 k1
        exact ⟨⟨p, ys⟩, ⟨b, o, rfl, k0, c1, k1, hys⟩, hyl⟩
    refine ⟨(List.range len).map f, ⟨some a, cap, by simp, by simpa using hl, hm, fun i hi => ?_⟩, by simp; omega, fun i hi => ?_⟩
    · have hi' : i < len := by simpa using hi
      rw [getD_map_range f _ hi']
      obtain ⟨⟨b, o, rfl, r⟩, _⟩ := hf i hi'
      exact ⟨b, o, rfl, r⟩
    · have hi' : i < len := by simpa using hi
      rw [getD_map_range f _ hi']; exact (hf i hi').2

theorem open_vosS (h : DataW.trod enc Try.prog w base spare held fuel 35 [v] = some x) (hw : ∀ n ∈ x.1.weights Try.prog 35, n ≤ reachBytes) :
    ∃ xs, VosAt w v xs ∧ xs.length * 40 ≤ 140737488355328 ∧ ∀ i, i < xs.length → (xs.getD i ⟨[], 0, false⟩).data.length ≤ 140737488355328 := by
  have hr := reach_num
  rcases open_slice Try.underlying35 h with ⟨hcs, _⟩ | ⟨a, len, cap, m, n, D, Pl, hcs, _, hl, hm, hmm, hxx, hx⟩
  · simp at hcs
    subst hcs
    exact ⟨[], ⟨none, 0, rfl, Nat.le_refl _, Nat.zero_le _, fun i hi => absurd hi (Nat.not_lt_zero _)⟩, by simp, fun i hi => absurd hi (Nat.not_lt_zero _)⟩
  · simp at hcs
    subst hcs
    have hml : len ≤ m := by rw [hmm]; split <;> omega
    have hwt : ∀ i, i < len → ∀ k ∈ (D i).weights Try.prog 79, k ≤ reachBytes := fun i hi k hk => hw k (by
      rw [hxx]
      simp only [DataW.weights, Try.underlying35, List.mem_cons, List.mem_append]
      exact .inr (.inl (weights_all (List.mem_map.2 ⟨i, by simpa using hi, rfl⟩) hk)))
    have htop := hw ((len + (m - len)) * 40) (by rw [hxx]; simp [DataW.weights, Try.underlying35, bytesVo])
    have hsp : 0 < len → ∃ b o, a = ⟨b, o, none⟩ := fun h0 => by
      obtain ⟨cs', hc, _⟩ := hx 0 (by omega)
      rw [cellsVo] at hc
      obtain ⟨c0, c1, c2, _, k0, _⟩ := three_cells hc
      exact spot_of (by simpa [Addr.add] using k0)
    obtain ⟨f, hf⟩ := pick_lt (⟨[], 0, false⟩ : Vo) (n := len) (p := fun i r => (∃ b o, a = ⟨b, o, none⟩ ∧ (∃ u, w.cell? ⟨b, o + i * 3, none⟩ = some u ∧ Bts w u r.data) ∧ w.cell? ⟨b, o + i * 3 + 1, none⟩ = some (.int .i64 r.synced) ∧ w.cell? ⟨b, o + i * 3 + 2, none⟩ = some (.bool r.gone)) ∧ r.data.length ≤ 140737488355328) fun i hi => by
      obtain ⟨cs', hc, ht⟩ := hx i (by omega)
      rw [cellsVo] at hc
      obtain ⟨c0, c1, c2, rfl, k0, k1, k2⟩ := three_cells hc
      obtain ⟨xs, n', _, hagg, _, hlen, hy⟩ := DataW.trod_struct Try.underlying79 ht
      match xs, hlen with
      | [y0, y1, y2], _ =>
        have h0 := hy 0 _ rfl
        have h1 := hy 1 _ rfl
        have h2 := hy 2 _ rfl
        simp [cellsInt, cellsBts, cellsBool] at h0 h1 h2
        obtain ⟨p, e0, _, _⟩ := DataW.trod_int Try.underlying3 h1
        obtain ⟨g, e1, _⟩ := DataW.trod_bool Try.underlying4 h2
        simp at e0 e1
        subst e0 e1
        have hwy : ∀ k ∈ y0.1.weights Try.prog 24, k ≤ reachBytes := fun k hk => hwt i hi k (by
          have e1 : D i = .agg [y0.1, y1.1, y2.1] := by simpa using congrArg Prod.fst hagg
          rw [e1]
          simp only [DataW.weights, Try.underlying79]
          exact DataW.weights_mem_each (j := 0) (t := 24) rfl rfl k hk)
        obtain ⟨ys, hys, hyl⟩ := open_btsS h0 hwy
        obtain ⟨b, o, rfl⟩ := hsp (by omega)
        rw [add_none, add_none] at k0 k1 k2
        exact ⟨⟨ys, p, g⟩, ⟨b, o, rfl, ⟨c0, k0, hys⟩, k1, k2⟩, hyl⟩
    refine ⟨(List.range len).map f, ⟨some a, cap, by simp, by simpa using hl, hm, fun i hi => ?_⟩, by simp; omega, fun i hi => ?_⟩
    · have hi' : i < len := by simpa using hi
      rw [getD_map_range f _ hi']
      obtain ⟨⟨b, o, rfl, r⟩, _⟩ := hf i hi'
      exact ⟨b, o, rfl, r⟩
    · have hi' : i < len := by simpa using hi
      rw [getD_map_range f _ hi']; exact (hf i hi').2

theorem open_devS {r : Reach} {b0 : Nat} {d : DataW H} {p : List MemPlace}
    (hv : Value.okWide Try.prog w r b0 37 v) (h : DataW.Trod enc Try.prog w base spare held 37 v d p) (hw : ∀ n ∈ d.weights Try.prog 37, n ≤ reachBytes) :
    ∃ (s c z : Value) (D : Dv), v = .agg #[s, c, z, .int .i64 D.fuel] ∧ Dev w s c z D ∧ Fits D := by
  obtain ⟨cs, rfl, hsz⟩ := okWide_struct Try.underlying37 hv
  obtain ⟨c0, c1, c2, c3, rfl⟩ := array4 (hsz.trans cellsDev)
  obtain ⟨fuel, hf⟩ := h
  obtain ⟨xs, n, _, hagg, _, hlen, hx⟩ := DataW.trod_struct Try.underlying37 hf
  match xs, hlen with
  | [y0, y1, y2, y3], _ =>
    have e1 : d = .agg [y0.1, y1.1, y2.1, y3.1] := by simpa using congrArg Prod.fst hagg
    have hW : ∀ (j : Nat) t y, (([23, 34, 35, 3] : List TypeId))[j]? = some t → ([y0.1, y1.1, y2.1, y3.1] : List (DataW H))[j]? = some y → ∀ k ∈ y.weights Try.prog t, k ≤ reachBytes := fun j t y ht hy k hk => hw k (by
      rw [e1]
      simp only [DataW.weights, Try.underlying37]
      exact DataW.weights_mem_each ht hy k hk)
    have h0 := hx 0 _ rfl
    have h1 := hx 1 _ rfl
    have h2 := hx 2 _ rfl
    have h3 := hx 3 _ rfl
    simp [Value.cells, cellsInt, cellsRows, cellsWrs, cellsVos] at h0 h1 h2 h3
    obtain ⟨x3, e3, _, w3⟩ := DataW.trod_int Try.underlying3 h3
    simp at e3
    subst e3
    obtain ⟨S, hS, s1, s2⟩ := open_rowsS h0 (hW 0 _ _ rfl rfl)
    obtain ⟨C, hC, c1', c2'⟩ := open_wrsS h1 (hW 1 _ _ rfl rfl)
    obtain ⟨V, hV, v1, v2⟩ := open_vosS h2 (hW 2 _ _ rfl rfl)
    exact ⟨c0, c1, c2, ⟨S, C, V, x3⟩, rfl, ⟨hS, hC, hV⟩, ⟨s1, c1', v1, s2, c2', v2⟩⟩
end
end Go.Proofs.Ytdalkkjojflakaa
