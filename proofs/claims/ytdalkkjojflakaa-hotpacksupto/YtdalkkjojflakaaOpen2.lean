/- How bytes and devices that came in are read. -/
import Derived.Test.YtdalkkjojflakaaOpen
import Derived.Test.YtdalkkjojflakaaData
import Derived.Deep.Slices
namespace Go.Proofs.Ytdalkkjojflakaa
open Go.ChangeShapes Go.WideShapes Go.ChangeAt Go.RowKit Go.Deep
set_option maxRecDepth 100000
set_option linter.unusedVariables false
set_option linter.unusedSimpArgs false

theorem cellsU8 : Try.prog.cellsOf 5 = 1 := by kernel_rfl
theorem cellsBool : Try.prog.cellsOf 4 = 1 := by kernel_rfl
theorem cellsBts : Try.prog.cellsOf 24 = 1 := by kernel_rfl
theorem cellsRows : Try.prog.cellsOf 23 = 1 := by kernel_rfl
theorem cellsWrs : Try.prog.cellsOf 34 = 1 := by kernel_rfl
theorem cellsVos : Try.prog.cellsOf 35 = 1 := by kernel_rfl
theorem cellsWr : Try.prog.cellsOf 94 = 2 := by kernel_rfl
theorem cellsVo : Try.prog.cellsOf 79 = 3 := by kernel_rfl
theorem cellsDev : Try.prog.cellsOf 37 = 4 := by kernel_rfl

theorem pick_lt {α : Type} (x0 : α) {n : Nat} {p : Nat → α → Prop} (h : ∀ i, i < n → ∃ x, p i x) : ∃ f : Nat → α, ∀ i, i < n → p i (f i) := by
  refine ⟨fun i => if hi : i < n then Classical.choose (h i hi) else x0, fun i hi => ?_⟩
  simp only [dif_pos hi]
  exact Classical.choose_spec (h i hi)
theorem getD_map_range {α : Type} (f : Nat → α) (d : α) {n i : Nat} (h : i < n) : ((List.range n).map f).getD i d = f i := by
  simp [List.getD, h]
theorem add_none (b o i : Nat) : (⟨b, o, none⟩ : Addr).add i = ⟨b, o + i, none⟩ := by unfold Addr.add; split <;> simp_all
theorem spot_of {w : World} {a : Addr} {v : Value} (h : w.cell? (a.add 0) = some v) : ∃ b o, a = ⟨b, o, none⟩ := by
  obtain ⟨b, o, s⟩ := a
  have hs : s = none := by simpa [Addr.add] using World.cell?_spot h
  subst hs
  exact ⟨b, o, rfl⟩

section
variable {H : Type} {enc : TypeId × Value → H} {w : World} {base : Nat} {spare : Nat → Bool} {held : Bool} {fuel : Nat} {v : Value} {x : DataW H × List MemPlace}

theorem open_bts (h : DataW.trod enc Try.prog w base spare held fuel 24 [v] = some x) : ∃ xs, Bts w v xs := by
  rcases open_ints Try.underlying24 Try.underlying5 cellsU8 h with ⟨hcs, _⟩ | ⟨a, len, cap, zs, hcs, _, hl, hm, hz, _, hcell, _⟩
  · simp at hcs
    subst hcs
    exact ⟨[], none, 0, rfl, Nat.le_refl _, Nat.zero_le _, fun i hi => absurd hi (Nat.not_lt_zero _)⟩
  · simp at hcs
    subst hcs
    have hzl : len ≤ zs.length := by rw [hz]; split <;> omega
    have hl' : (zs.take len).length = len := by simp; omega
    refine ⟨zs.take len, some a, cap, by rw [hl'], by rw [hl']; exact hl, hm, fun i hi => ?_⟩
    rw [hl'] at hi
    obtain ⟨b, o, rfl⟩ := spot_of (hcell 0 (by omega))
    have hc := hcell i (by omega)
    rw [add_none] at hc
    exact ⟨b, o, rfl, by rw [hc]; simp [List.getD, hi]⟩

theorem open_rows (h : DataW.trod enc Try.prog w base spare held fuel 23 [v] = some x) : ∃ xs, RowsAt w v xs := by
  rcases open_slice1 Try.underlying23 cellsBts h with ⟨hcs, _⟩ | ⟨a, len, cap, m, n, V, D, Pl, hcs, _, hl, hm, hmm, _, hx⟩
  · simp at hcs
    subst hcs
    exact ⟨[], none, 0, rfl, Nat.le_refl _, Nat.zero_le _, fun i hi => absurd hi (Nat.not_lt_zero _)⟩
  · simp at hcs
    subst hcs
    have hml : len ≤ m := by rw [hmm]; split <;> omega
    obtain ⟨f, hf⟩ := pick_lt ([] : List Int) (p := fun i xs => Bts w (V i) xs) (n := len) fun i hi => open_bts (hx i (by omega)).2
    refine ⟨(List.range len).map f, some a, cap, by simp, by simpa using hl, hm, fun i hi => ?_⟩
    have hi' : i < len := by simpa using hi
    obtain ⟨b, o, rfl⟩ := spot_of (hx 0 (by omega)).1
    have hc := (hx i (by omega)).1
    rw [add_none] at hc
    exact ⟨b, o, rfl, V i, hc, by rw [getD_map_range f _ hi']; exact hf i hi'⟩

theorem two_cells {a : Addr} {cs : List Value} (h : w.cells? base a 2 = some cs) : ∃ c0 c1, cs = [c0, c1] ∧ w.cell? (a.add 0) = some c0 ∧ w.cell? (a.add 1) = some c1 := by
  unfold World.cells? at h
  split at h
  · cases h0 : w.cell? (a.add 0) with
    | none => simp [List.range_succ, h0] at h
    | some c0 =>
      cases h1 : w.cell? (a.add 1) with
      | none => simp [List.range_succ, h0, h1] at h
      | some c1 =>
        simp [List.range_succ, h0, h1] at h
        exact ⟨c0, c1, h.symm, rfl, rfl⟩
  · cases h
theorem three_cells {a : Addr} {cs : List Value} (h : w.cells? base a 3 = some cs) : ∃ c0 c1 c2, cs = [c0, c1, c2] ∧ w.cell? (a.add 0) = some c0 ∧ w.cell? (a.add 1) = some c1 ∧ w.cell? (a.add 2) = some c2 := by
  unfold World.cells? at h
  split at h
  · cases h0 : w.cell? (a.add 0) with
    | none => simp [List.range_succ, h0] at h
    | some c0 =>
      cases h1 : w.cell? (a.add 1) with
      | none => simp [List.range_succ, h0, h1] at h
      | some c1 =>
        cases h2 : w.cell? (a.add 2) with
        | none => simp [List.range_succ, h0, h1, h2] at h
        | some c2 =>
          simp [List.range_succ, h0, h1, h2] at h
          exact ⟨c0, c1, c2, h.symm, rfl, rfl, rfl⟩
  · cases h

theorem open_wrs (h : DataW.trod enc Try.prog w base spare held fuel 34 [v] = some x) : ∃ xs, WrsAt w v xs := by
  rcases open_slice Try.underlying34 h with ⟨hcs, _⟩ | ⟨a, len, cap, m, n, D, Pl, hcs, _, hl, hm, hmm, _, hx⟩
  · simp at hcs
    subst hcs
    exact ⟨[], none, 0, rfl, Nat.le_refl _, Nat.zero_le _, fun i hi => absurd hi (Nat.not_lt_zero _)⟩
  · simp at hcs
    subst hcs
    have hml : len ≤ m := by rw [hmm]; split <;> omega
    have hsp : 0 < len → ∃ b o, a = ⟨b, o, none⟩ := fun h0 => by
      obtain ⟨cs', hc, _⟩ := hx 0 (by omega)
      rw [cellsWr] at hc
      obtain ⟨c0, c1, _, k0, _⟩ := two_cells hc
      exact spot_of (by simpa [Addr.add] using k0)
    obtain ⟨f, hf⟩ := pick_lt (⟨0, []⟩ : Wr) (n := len) (p := fun i r => ∃ b o, a = ⟨b, o, none⟩ ∧ w.cell? ⟨b, o + i * 2, none⟩ = some (.int .i64 r.pos) ∧ ∃ u, w.cell? ⟨b, o + i * 2 + 1, none⟩ = some u ∧ Bts w u r.data) fun i hi => by
      obtain ⟨cs', hc, ht⟩ := hx i (by omega)
      rw [cellsWr] at hc
      obtain ⟨c0, c1, rfl, k0, k1⟩ := two_cells hc
      obtain ⟨xs, n', _, _, _, hlen, hy⟩ := DataW.trod_struct Try.underlying94 ht
      match xs, hlen with
      | [y0, y1], _ =>
        have h0 := hy 0 _ rfl
        have h1 := hy 1 _ rfl
        simp [cellsInt, cellsBts] at h0 h1
        obtain ⟨p, e0, _, _⟩ := DataW.trod_int Try.underlying3 h0
        simp at e0
        subst e0
        obtain ⟨ys, hys⟩ := open_bts h1
        obtain ⟨b, o, rfl⟩ := hsp (by omega)
        rw [add_none, add_none] at k0 k1
        exact ⟨⟨p, ys⟩, b, o, rfl, k0, c1, k1, hys⟩
    refine ⟨(List.range len).map f, some a, cap, by simp, by simpa using hl, hm, fun i hi => ?_⟩
    have hi' : i < len := by simpa using hi
    rw [getD_map_range f _ hi']
    obtain ⟨b, o, rfl, r⟩ := hf i hi'
    exact ⟨b, o, rfl, r⟩

theorem open_vos (h : DataW.trod enc Try.prog w base spare held fuel 35 [v] = some x) : ∃ xs, VosAt w v xs := by
  rcases open_slice Try.underlying35 h with ⟨hcs, _⟩ | ⟨a, len, cap, m, n, D, Pl, hcs, _, hl, hm, hmm, _, hx⟩
  · simp at hcs
    subst hcs
    exact ⟨[], none, 0, rfl, Nat.le_refl _, Nat.zero_le _, fun i hi => absurd hi (Nat.not_lt_zero _)⟩
  · simp at hcs
    subst hcs
    have hml : len ≤ m := by rw [hmm]; split <;> omega
    have hsp : 0 < len → ∃ b o, a = ⟨b, o, none⟩ := fun h0 => by
      obtain ⟨cs', hc, _⟩ := hx 0 (by omega)
      rw [cellsVo] at hc
      obtain ⟨c0, c1, c2, _, k0, _⟩ := three_cells hc
      exact spot_of (by simpa [Addr.add] using k0)
    obtain ⟨f, hf⟩ := pick_lt (⟨[], 0, false⟩ : Vo) (n := len) (p := fun i r => ∃ b o, a = ⟨b, o, none⟩ ∧ (∃ u, w.cell? ⟨b, o + i * 3, none⟩ = some u ∧ Bts w u r.data) ∧ w.cell? ⟨b, o + i * 3 + 1, none⟩ = some (.int .i64 r.synced) ∧ w.cell? ⟨b, o + i * 3 + 2, none⟩ = some (.bool r.gone)) fun i hi => by
      obtain ⟨cs', hc, ht⟩ := hx i (by omega)
      rw [cellsVo] at hc
      obtain ⟨c0, c1, c2, rfl, k0, k1, k2⟩ := three_cells hc
      obtain ⟨xs, n', _, _, _, hlen, hy⟩ := DataW.trod_struct Try.underlying79 ht
      match xs, hlen with
      | [y0, y1, y2], _ =>
        have h0 := hy 0 _ rfl
        have h1 := hy 1 _ rfl
        have h2 := hy 2 _ rfl
        simp [cellsInt, cellsBts, cellsBool] at h0 h1 h2
        obtain ⟨p, e0, _, _⟩ := DataW.trod_int Try.underlying3 h1
        obtain ⟨g, e1, _⟩ := DataW.trod_bool Try.underlying4 h2
        simp at e0 e1
        subst e0 e1
        obtain ⟨ys, hys⟩ := open_bts h0
        obtain ⟨b, o, rfl⟩ := hsp (by omega)
        rw [add_none, add_none] at k0 k1 k2
        exact ⟨⟨ys, p, g⟩, b, o, rfl, ⟨c0, k0, hys⟩, k1, k2⟩
    refine ⟨(List.range len).map f, some a, cap, by simp, by simpa using hl, hm, fun i hi => ?_⟩
    have hi' : i < len := by simpa using hi
    rw [getD_map_range f _ hi']
    obtain ⟨b, o, rfl, r⟩ := hf i hi'
    exact ⟨b, o, rfl, r⟩

theorem array4 {α : Type} {cs : Array α} (h : cs.size = 4) : ∃ c0 c1 c2 c3, cs = #[c0, c1, c2, c3] := by
  obtain ⟨l⟩ := cs
  match l, h with
  | [c0, c1, c2, c3], _ => exact ⟨c0, c1, c2, c3, rfl⟩

theorem open_dev {r : Reach} {b0 : Nat} {d : DataW H} {p : List MemPlace}
    (hv : Value.okWide Try.prog w r b0 37 v) (h : DataW.Trod enc Try.prog w base spare held 37 v d p) :
    ∃ (s c z : Value) (D : Dv), v = .agg #[s, c, z, .int .i64 D.fuel] ∧ Dev w s c z D := by
  obtain ⟨cs, rfl, hsz⟩ := okWide_struct Try.underlying37 hv
  obtain ⟨c0, c1, c2, c3, rfl⟩ := array4 (hsz.trans cellsDev)
  obtain ⟨fuel, hf⟩ := h
  obtain ⟨xs, n, _, _, _, hlen, hx⟩ := DataW.trod_struct Try.underlying37 hf
  match xs, hlen with
  | [y0, y1, y2, y3], _ =>
    have h0 := hx 0 _ rfl
    have h1 := hx 1 _ rfl
    have h2 := hx 2 _ rfl
    have h3 := hx 3 _ rfl
    simp [Value.cells, cellsInt, cellsRows, cellsWrs, cellsVos] at h0 h1 h2 h3
    obtain ⟨x3, e3, _, w3⟩ := DataW.trod_int Try.underlying3 h3
    simp at e3
    subst e3
    obtain ⟨S, hS⟩ := open_rows h0
    obtain ⟨C, hC⟩ := open_wrs h1
    obtain ⟨V, hV⟩ := open_vos h2
    exact ⟨c0, c1, c2, ⟨S, C, V, x3⟩, rfl, hS, hC, hV⟩
end
end Go.Proofs.Ytdalkkjojflakaa
