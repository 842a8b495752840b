/- HotWrites: whatever comes in, the law answers true: what the code answers is what the document's answer is. No condition. -/
import Derived.Test.YtbdpmigebnahkaaBase
import Derived.ProofKit
import Derived.OpenShut
import Derived.ChangeOld
import Derived.Test.YtbdpmigebnahkaaData
import Derived.Deep.Slices
import Derived.Test.YtbdpmigebnahkaaFit
import Derived.SizedLaws
import Derived.Test.YtbdpmigebnahkaaRom
import Derived.Test.YtbdpmigebnahkaaW33
/- What every lifting wants of the program. -/
namespace Go.Proofs.Ytbdpmigebnahkaa
open Go.ChangeShapes Go.WideShapes Go.ChangeAt Go.RowKit
set_option maxRecDepth 100000
set_option linter.unusedVariables false
set_option linter.unusedSimpArgs false

theorem own : ownKnob Try.prog.godebug = none := by kernel_rfl
theorem laidOut : laidOutB Try.prog = true := by kernel_rfl
theorem cellsInt : Try.prog.cellsOf 3 = 1 := by kernel_rfl
end Go.Proofs.Ytbdpmigebnahkaa

/- How a geometry that came in is read. -/
namespace Go.Proofs.Ytbdpmigebnahkaa
open Go.ChangeShapes Go.WideShapes Go.ChangeAt Go.RowKit
set_option maxRecDepth 100000
set_option linter.unusedVariables false
set_option linter.unusedSimpArgs false

theorem cellsGeo : Try.prog.cellsOf 23 = 5 := by kernel_rfl

theorem array5 {α : Type} {cs : Array α} (h : cs.size = 5) : ∃ c0 c1 c2 c3 c4, cs = #[c0, c1, c2, c3, c4] := by
  obtain ⟨l⟩ := cs
  match l, h with
  | [c0, c1, c2, c3, c4], _ => exact ⟨c0, c1, c2, c3, c4, rfl⟩

theorem open_geo {H : Type} {enc : TypeId × Value → H} {w : World} {base : Nat} {spare : Nat → Bool} {held : Bool} {r : Reach} {b0 : Nat} {v : Value} {d : DataW H} {p : List MemPlace}
    (hv : Value.okWide Try.prog w r b0 23 v) (h : DataW.Trod enc Try.prog w base spare held 23 v d p) :
    ∃ x0 x1 x2 x3 x4 : Int, v = .agg #[.int .i64 x0, .int .i64 x1, .int .i64 x2, .int .i64 x3, .int .i64 x4] ∧
      ((Lit.int .i64 x0).wf = true ∧ (Lit.int .i64 x1).wf = true ∧ (Lit.int .i64 x2).wf = true ∧ (Lit.int .i64 x3).wf = true ∧ (Lit.int .i64 x4).wf = true) := by
  obtain ⟨cs, rfl, hsz⟩ := okWide_struct Try.underlying23 hv
  obtain ⟨c0, c1, c2, c3, c4, rfl⟩ := array5 (hsz.trans cellsGeo)
  obtain ⟨fuel, hf⟩ := h
  obtain ⟨xs, n, _, _, _, hlen, hx⟩ := DataW.trod_struct Try.underlying23 hf
  match xs, hlen with
  | [y0, y1, y2, y3, y4], _ =>
    have h0 := hx 0 _ rfl
    have h1 := hx 1 _ rfl
    have h2 := hx 2 _ rfl
    have h3 := hx 3 _ rfl
    have h4 := hx 4 _ rfl
    simp [Value.cells, cellsInt] at h0 h1 h2 h3 h4
    obtain ⟨x0, e0, _, w0⟩ := DataW.trod_int Try.underlying3 h0
    obtain ⟨x1, e1, _, w1⟩ := DataW.trod_int Try.underlying3 h1
    obtain ⟨x2, e2, _, w2⟩ := DataW.trod_int Try.underlying3 h2
    obtain ⟨x3, e3, _, w3⟩ := DataW.trod_int Try.underlying3 h3
    obtain ⟨x4, e4, _, w4⟩ := DataW.trod_int Try.underlying3 h4
    simp at e0 e1 e2 e3 e4
    subst e0 e1 e2 e3 e4
    exact ⟨x0, x1, x2, x3, x4, rfl, w0, w1, w2, w3, w4⟩
end Go.Proofs.Ytbdpmigebnahkaa

/- How bytes and devices that came in are read. -/
namespace Go.Proofs.Ytbdpmigebnahkaa
open Go.ChangeShapes Go.WideShapes Go.ChangeAt Go.RowKit Go.Deep
set_option maxRecDepth 100000
set_option linter.unusedVariables false
set_option linter.unusedSimpArgs false

theorem cellsU8 : Try.prog.cellsOf 5 = 1 := by kernel_rfl
theorem cellsBool : Try.prog.cellsOf 4 = 1 := by kernel_rfl
theorem cellsBts : Try.prog.cellsOf 30 = 1 := by kernel_rfl
theorem cellsRows : Try.prog.cellsOf 24 = 1 := by kernel_rfl
theorem cellsWrs : Try.prog.cellsOf 25 = 1 := by kernel_rfl
theorem cellsVos : Try.prog.cellsOf 26 = 1 := by kernel_rfl
theorem cellsWr : Try.prog.cellsOf 75 = 2 := by kernel_rfl
theorem cellsVo : Try.prog.cellsOf 77 = 3 := by kernel_rfl
theorem cellsDev : Try.prog.cellsOf 28 = 4 := by kernel_rfl

theorem pick_lt {α : Type} (x0 : α) {n : Nat} {p : Nat → α → Prop} (h : ∀ i, i < n → ∃ x, p i x) : ∃ f : Nat → α, ∀ i, i < n → p i (f i) := by
  refine ⟨fun i => if hi : i < n then Classical.choose (h i hi) else x0, fun i hi => ?_⟩
  simp only [dif_pos hi]
  exact Classical.choose_spec (h i hi)
theorem getD_map_range {α : Type} (f : Nat → α) (d : α) {n i : Nat} (h : i < n) : ((List.range n).map f).getD i d = f i := by
  simp [List.getD, h]
theorem add_none (b o i : Nat) : (⟨b, o, none⟩ : Addr).add i = ⟨b, o + i, none⟩ := by unfold Addr.add; split <;> simp_all
theorem spot_of {w : World} {a : Addr} {v : Value} (h : w.cell? (a.add 0) = some v) : ∃ b o, a = ⟨b, o, none⟩ := by
  obtain ⟨b, o, s⟩ := a
  have hs : s = none := by simpa [Addr.add] using World.cell?_spot h
  subst hs
  exact ⟨b, o, rfl⟩

section
variable {H : Type} {enc : TypeId × Value → H} {w : World} {base : Nat} {spare : Nat → Bool} {held : Bool} {fuel : Nat} {v : Value} {x : DataW H × List MemPlace}

theorem open_bts (h : DataW.trod enc Try.prog w base spare held fuel 30 [v] = some x) : ∃ xs, Bts w v xs := by
  rcases open_ints Try.underlying30 Try.underlying5 cellsU8 h with ⟨hcs, _⟩ | ⟨a, len, cap, zs, hcs, _, hl, hm, hz, _, hcell, _⟩
  · simp at hcs
    subst hcs
    exact ⟨[], none, 0, rfl, Nat.le_refl _, Nat.zero_le _, fun i hi => absurd hi (Nat.not_lt_zero _)⟩
  · simp at hcs
    subst hcs
    have hzl : len ≤ zs.length := by rw [hz]; split <;> omega
    have hl' : (zs.take len).length = len := by simp; omega
    refine ⟨zs.take len, some a, cap, by rw [hl'], by rw [hl']; exact hl, hm, fun i hi => ?_⟩
    rw [hl'] at hi
    obtain ⟨b, o, rfl⟩ := spot_of (hcell 0 (by omega))
    have hc := hcell i (by omega)
    rw [add_none] at hc
    exact ⟨b, o, rfl, by rw [hc]; simp [List.getD, hi]⟩

theorem open_rows (h : DataW.trod enc Try.prog w base spare held fuel 24 [v] = some x) : ∃ xs, RowsAt w v xs := by
  rcases open_slice1 Try.underlying24 cellsBts h with ⟨hcs, _⟩ | ⟨a, len, cap, m, n, V, D, Pl, hcs, _, hl, hm, hmm, _, hx⟩
  · simp at hcs
    subst hcs
    exact ⟨[], none, 0, rfl, Nat.le_refl _, Nat.zero_le _, fun i hi => absurd hi (Nat.not_lt_zero _)⟩
  · simp at hcs
    subst hcs
    have hml : len ≤ m := by rw [hmm]; split <;> omega
    obtain ⟨f, hf⟩ := pick_lt ([] : List Int) (p := fun i xs => Bts w (V i) xs) (n := len) fun i hi => open_bts (hx i (by omega)).2
    refine ⟨(List.range len).map f, some a, cap, by simp, by simpa using hl, hm, fun i hi => ?_⟩
    have hi' : i < len := by simpa using hi
    obtain ⟨b, o, rfl⟩ := spot_of (hx 0 (by omega)).1
    have hc := (hx i (by omega)).1
    rw [add_none] at hc
    exact ⟨b, o, rfl, V i, hc, by rw [getD_map_range f _ hi']; exact hf i hi'⟩

theorem two_cells {a : Addr} {cs : List Value} (h : w.cells? base a 2 = some cs) : ∃ c0 c1, cs = [c0, c1] ∧ w.cell? (a.add 0) = some c0 ∧ w.cell? (a.add 1) = some c1 := by
  unfold World.cells? at h
  split at h
  · cases h0 : w.cell? (a.add 0) with
    | none => simp [List.range_succ, h0] at h
    | some c0 =>
      cases h1 : w.cell? (a.add 1) with
      | none => simp [List.range_succ, h0, h1] at h
      | some c1 =>
        simp [List.range_succ, h0, h1] at h
        exact ⟨c0, c1, h.symm, rfl, rfl⟩
  · cases h
theorem three_cells {a : Addr} {cs : List Value} (h : w.cells? base a 3 = some cs) : ∃ c0 c1 c2, cs = [c0, c1, c2] ∧ w.cell? (a.add 0) = some c0 ∧ w.cell? (a.add 1) = some c1 ∧ w.cell? (a.add 2) = some c2 := by
  unfold World.cells? at h
  split at h
  · cases h0 : w.cell? (a.add 0) with
    | none => simp [List.range_succ, h0] at h
    | some c0 =>
      cases h1 : w.cell? (a.add 1) with
      | none => simp [List.range_succ, h0, h1] at h
      | some c1 =>
        cases h2 : w.cell? (a.add 2) with
        | none => simp [List.range_succ, h0, h1, h2] at h
        | some c2 =>
          simp [List.range_succ, h0, h1, h2] at h
          exact ⟨c0, c1, c2, h.symm, rfl, rfl, rfl⟩
  · cases h

theorem open_wrs (h : DataW.trod enc Try.prog w base spare held fuel 25 [v] = some x) : ∃ xs, WrsAt w v xs := by
  rcases open_slice Try.underlying25 h with ⟨hcs, _⟩ | ⟨a, len, cap, m, n, D, Pl, hcs, _, hl, hm, hmm, _, hx⟩
  · simp at hcs
    subst hcs
    exact ⟨[], none, 0, rfl, Nat.le_refl _, Nat.zero_le _, fun i hi => absurd hi (Nat.not_lt_zero _)⟩
  · simp at hcs
    subst hcs
    have hml : len ≤ m := by rw [hmm]; split <;> omega
    have hsp : 0 < len → ∃ b o, a = ⟨b, o, none⟩ := fun h0 => by
      obtain ⟨cs', hc, _⟩ := hx 0 (by omega)
      rw [cellsWr] at hc
      obtain ⟨c0, c1, _, k0, _⟩ := two_cells hc
      exact spot_of (by simpa [Addr.add] using k0)
    obtain ⟨f, hf⟩ := pick_lt (⟨0, []⟩ : Wr) (n := len) (p := fun i r => ∃ b o, a = ⟨b, o, none⟩ ∧ w.cell? ⟨b, o + i * 2, none⟩ = some (.int .i64 r.pos) ∧ ∃ u, w.cell? ⟨b, o + i * 2 + 1, none⟩ = some u ∧ Bts w u r.data) fun i hi => by
      obtain ⟨cs', hc, ht⟩ := hx i (by omega)
      rw [cellsWr] at hc
      obtain ⟨c0, c1, rfl, k0, k1⟩ := two_cells hc
      obtain ⟨xs, n', _, _, _, hlen, hy⟩ := DataW.trod_struct Try.underlying75 ht
      match xs, hlen with
      | [y0, y1], _ =>
        have h0 := hy 0 _ rfl
        have h1 := hy 1 _ rfl
        simp [cellsInt, cellsBts] at h0 h1
        obtain ⟨p, e0, _, _⟩ := DataW.trod_int Try.underlying3 h0
        simp at e0
        subst e0
        obtain ⟨ys, hys⟩ := open_bts h1
        obtain ⟨b, o, rfl⟩ := hsp (by omega)
        rw [add_none, add_none] at k0 k1
        exact ⟨⟨p, ys⟩, b, o, rfl, k0, c1, k1, hys⟩
    refine ⟨(List.range len).map f, some a, cap, by simp, by simpa using hl, hm, fun i hi => ?_⟩
    have hi' : i < len := by simpa using hi
    rw [getD_map_range f _ hi']
    obtain ⟨b, o, rfl, r⟩ := hf i hi'
    exact ⟨b, o, rfl, r⟩

theorem open_vos (h : DataW.trod enc Try.prog w base spare held fuel 26 [v] = some x) : ∃ xs, VosAt w v xs := by
  rcases open_slice Try.underlying26 h with ⟨hcs, _⟩ | ⟨a, len, cap, m, n, D, Pl, hcs, _, hl, hm, hmm, _, hx⟩
  · simp at hcs
    subst hcs
    exact ⟨[], none, 0, rfl, Nat.le_refl _, Nat.zero_le _, fun i hi => absurd hi (Nat.not_lt_zero _)⟩
  · simp at hcs
    subst hcs
    have hml : len ≤ m := by rw [hmm]; split <;> omega
    have hsp : 0 < len → ∃ b o, a = ⟨b, o, none⟩ := fun h0 => by
      obtain ⟨cs', hc, _⟩ := hx 0 (by omega)
      rw [cellsVo] at hc
      obtain ⟨c0, c1, c2, _, k0, _⟩ := three_cells hc
      exact spot_of (by simpa [Addr.add] using k0)
    obtain ⟨f, hf⟩ := pick_lt (⟨[], 0, false⟩ : Vo) (n := len) (p := fun i r => ∃ b o, a = ⟨b, o, none⟩ ∧ (∃ u, w.cell? ⟨b, o + i * 3, none⟩ = some u ∧ Bts w u r.data) ∧ w.cell? ⟨b, o + i * 3 + 1, none⟩ = some (.int .i64 r.synced) ∧ w.cell? ⟨b, o + i * 3 + 2, none⟩ = some (.bool r.gone)) fun i hi => by
      obtain ⟨cs', hc, ht⟩ := hx i (by omega)
      rw [cellsVo] at hc
      obtain ⟨c0, c1, c2, rfl, k0, k1, k2⟩ := three_cells hc
      obtain ⟨xs, n', _, _, _, hlen, hy⟩ := DataW.trod_struct Try.underlying77 ht
      match xs, hlen with
      | [y0, y1, y2], _ =>
        have h0 := hy 0 _ rfl
        have h1 := hy 1 _ rfl
        have h2 := hy 2 _ rfl
        simp [cellsInt, cellsBts, cellsBool] at h0 h1 h2
        obtain ⟨p, e0, _, _⟩ := DataW.trod_int Try.underlying3 h1
        obtain ⟨g, e1, _⟩ := DataW.trod_bool Try.underlying4 h2
        simp at e0 e1
        subst e0 e1
        obtain ⟨ys, hys⟩ := open_bts h0
        obtain ⟨b, o, rfl⟩ := hsp (by omega)
        rw [add_none, add_none] at k0 k1 k2
        exact ⟨⟨ys, p, g⟩, b, o, rfl, ⟨c0, k0, hys⟩, k1, k2⟩
    refine ⟨(List.range len).map f, some a, cap, by simp, by simpa using hl, hm, fun i hi => ?_⟩
    have hi' : i < len := by simpa using hi
    rw [getD_map_range f _ hi']
    obtain ⟨b, o, rfl, r⟩ := hf i hi'
    exact ⟨b, o, rfl, r⟩

theorem array4 {α : Type} {cs : Array α} (h : cs.size = 4) : ∃ c0 c1 c2 c3, cs = #[c0, c1, c2, c3] := by
  obtain ⟨l⟩ := cs
  match l, h with
  | [c0, c1, c2, c3], _ => exact ⟨c0, c1, c2, c3, rfl⟩

theorem open_dev {r : Reach} {b0 : Nat} {d : DataW H} {p : List MemPlace}
    (hv : Value.okWide Try.prog w r b0 28 v) (h : DataW.Trod enc Try.prog w base spare held 28 v d p) :
    ∃ (s c z : Value) (D : Dv), v = .agg #[s, c, z, .int .i64 D.fuel] ∧ Dev w s c z D := by
  obtain ⟨cs, rfl, hsz⟩ := okWide_struct Try.underlying28 hv
  obtain ⟨c0, c1, c2, c3, rfl⟩ := array4 (hsz.trans cellsDev)
  obtain ⟨fuel, hf⟩ := h
  obtain ⟨xs, n, _, _, _, hlen, hx⟩ := DataW.trod_struct Try.underlying28 hf
  match xs, hlen with
  | [y0, y1, y2, y3], _ =>
    have h0 := hx 0 _ rfl
    have h1 := hx 1 _ rfl
    have h2 := hx 2 _ rfl
    have h3 := hx 3 _ rfl
    simp [Value.cells, cellsInt, cellsRows, cellsWrs, cellsVos] at h0 h1 h2 h3
    obtain ⟨x3, e3, _, w3⟩ := DataW.trod_int Try.underlying3 h3
    simp at e3
    subst e3
    obtain ⟨S, hS⟩ := open_rows h0
    obtain ⟨C, hC⟩ := open_wrs h1
    obtain ⟨V, hV⟩ := open_vos h2
    exact ⟨c0, c1, c2, ⟨S, C, V, x3⟩, rfl, hS, hC, hV⟩
end
end Go.Proofs.Ytbdpmigebnahkaa

/- How bytes and devices that came in are read, and how long they are at the most. -/
namespace Go.Proofs.Ytbdpmigebnahkaa
open Go.ChangeShapes Go.WideShapes Go.ChangeAt Go.RowKit Go.Deep
set_option maxRecDepth 100000
set_option linter.unusedVariables false
set_option linter.unusedSimpArgs false

theorem bytesU8 : Try.prog.bytesOf 5 = 1 := by kernel_rfl
theorem bytesBts : Try.prog.bytesOf 30 = 24 := by kernel_rfl
theorem bytesWr : Try.prog.bytesOf 75 = 32 := by kernel_rfl
theorem bytesVo : Try.prog.bytesOf 77 = 40 := by kernel_rfl
theorem reach_num : reachBytes ≤ 140737488355328 := by decide

theorem weights_all {H : Type} {P : Program} {e : TypeId} {n : Nat} : ∀ {l : List (DataW H)} {d : DataW H}, d ∈ l → n ∈ d.weights P e → n ∈ DataW.weightsAll P e l
  | d0 :: l, d, hd, hn => by
    simp only [DataW.weightsAll, List.mem_append]
    rcases List.mem_cons.1 hd with rfl | h
    · exact .inl hn
    · exact .inr (weights_all h hn)

section
variable {H : Type} {enc : TypeId × Value → H} {w : World} {base : Nat} {spare : Nat → Bool} {held : Bool} {fuel : Nat} {v : Value} {x : DataW H × List MemPlace}

theorem open_btsS (h : DataW.trod enc Try.prog w base spare held fuel 30 [v] = some x) (hw : ∀ n ∈ x.1.weights Try.prog 30, n ≤ reachBytes) : ∃ xs, Bts w v xs ∧ xs.length ≤ 140737488355328 := by
  obtain ⟨xs, hx⟩ := open_bts h
  refine ⟨xs, hx, ?_⟩
  rcases open_ints Try.underlying30 Try.underlying5 cellsU8 h with ⟨hcs, _⟩ | ⟨a, len, cap, zs, hcs, _, hl, hm, hz, hxx, _, _⟩
  · obtain ⟨a, cap, e, _⟩ := hx
    simp [e] at hcs
    omega
  · obtain ⟨a', cap', e, _⟩ := hx
    simp [e] at hcs
    have hzl : len ≤ zs.length := by rw [hz]; split <;> omega
    have := hw ((zs.take len).length + (zs.drop len).length) (by rw [hxx]; simp [DataW.weights, Try.underlying30, lits, bytesU8])
    have hr := reach_num
    simp at this
    omega

theorem open_rowsS (h : DataW.trod enc Try.prog w base spare held fuel 24 [v] = some x) (hw : ∀ n ∈ x.1.weights Try.prog 24, n ≤ reachBytes) :
    ∃ xs, RowsAt w v xs ∧ xs.length * 24 ≤ 140737488355328 ∧ ∀ i, i < xs.length → (xs.getD i []).length ≤ 140737488355328 := by
  have hr := reach_num
  rcases open_slice1 Try.underlying24 cellsBts h with ⟨hcs, _⟩ | ⟨a, len, cap, m, n, V, D, Pl, hcs, _, hl, hm, hmm, hxx, hx⟩
  · simp at hcs
    subst hcs
    exact ⟨[], ⟨none, 0, rfl, Nat.le_refl _, Nat.zero_le _, fun i hi => absurd hi (Nat.not_lt_zero _)⟩, by simp, fun i hi => absurd hi (Nat.not_lt_zero _)⟩
  · simp at hcs
    subst hcs
    have hml : len ≤ m := by rw [hmm]; split <;> omega
    have hwt : ∀ i, i < len → ∀ k ∈ (D i).weights Try.prog 30, k ≤ reachBytes := fun i hi k hk => hw k (by
      rw [hxx]
      simp only [DataW.weights, Try.underlying24, List.mem_cons, List.mem_append]
      exact .inr (.inl (weights_all (List.mem_map.2 ⟨i, by simpa using hi, rfl⟩) hk)))
    obtain ⟨f, hf⟩ := pick_lt ([] : List Int) (p := fun i xs => Bts w (V i) xs ∧ xs.length ≤ 140737488355328) (n := len) fun i hi => open_btsS (hx i (by omega)).2 (hwt i hi)
    have htop := hw ((len + (m - len)) * 24) (by rw [hxx]; simp [DataW.weights, Try.underlying24, bytesBts])
    refine ⟨(List.range len).map f, ⟨some a, cap, by simp, by simpa using hl, hm, fun i hi => ?_⟩, by simp; omega, fun i hi => ?_⟩
    · have hi' : i < len := by simpa using hi
      obtain ⟨b, o, rfl⟩ := spot_of (hx 0 (by omega)).1
      have hc := (hx i (by omega)).1
      rw [add_none] at hc
      exact ⟨b, o, rfl, V i, hc, by rw [getD_map_range f _ hi']; exact (hf i hi').1⟩
    · have hi' : i < len := by simpa using hi
      rw [getD_map_range f _ hi']; exact (hf i hi').2

theorem open_wrsS (h : DataW.trod enc Try.prog w base spare held fuel 25 [v] = some x) (hw : ∀ n ∈ x.1.weights Try.prog 25, n ≤ reachBytes) :
    ∃ xs, WrsAt w v xs ∧ xs.length * 32 ≤ 140737488355328 ∧ ∀ i, i < xs.length → (xs.getD i ⟨0, []⟩).data.length ≤ 140737488355328 := by
  have hr := reach_num
  rcases open_slice Try.underlying25 h with ⟨hcs, _⟩ | ⟨a, len, cap, m, n, D, Pl, hcs, _, hl, hm, hmm, hxx, hx⟩
  · simp at hcs
    subst hcs
    exact ⟨[], ⟨none, 0, rfl, Nat.le_refl _, Nat.zero_le _, fun i hi => absurd hi (Nat.not_lt_zero _)⟩, by simp, fun i hi => absurd hi (Nat.not_lt_zero _)⟩
  · simp at hcs
    subst hcs
    have hml : len ≤ m := by rw [hmm]; split <;> omega
    have hwt : ∀ i, i < len → ∀ k ∈ (D i).weights Try.prog 75, k ≤ reachBytes := fun i hi k hk => hw k (by
      rw [hxx]
      simp only [DataW.weights, Try.underlying25, List.mem_cons, List.mem_append]
      exact .inr (.inl (weights_all (List.mem_map.2 ⟨i, by simpa using hi, rfl⟩) hk)))
    have htop := hw ((len + (m - len)) * 32) (by rw [hxx]; simp [DataW.weights, Try.underlying25, bytesWr])
    have hsp : 0 < len → ∃ b o, a = ⟨b, o, none⟩ := fun h0 => by
      obtain ⟨cs', hc, _⟩ := hx 0 (by omega)
      rw [cellsWr] at hc
      obtain ⟨c0, c1, _, k0, _⟩ := two_cells hc
      exact spot_of (by simpa [Addr.add] using k0)
    obtain ⟨f, hf⟩ := pick_lt (⟨0, []⟩ : Wr) (n := len) (p := fun i r => (∃ b o, a = ⟨b, o, none⟩ ∧ w.cell? ⟨b, o + i * 2, none⟩ = some (.int .i64 r.pos) ∧ ∃ u, w.cell? ⟨b, o + i * 2 + 1, none⟩ = some u ∧ Bts w u r.data) ∧ r.data.length ≤ 140737488355328) fun i hi => by
      obtain ⟨cs', hc, ht⟩ := hx i (by omega)
      rw [cellsWr] at hc
      obtain ⟨c0, c1, rfl, k0, k1⟩ := two_cells hc
      obtain ⟨xs, n', _, hagg, _, hlen, hy⟩ := DataW.trod_struct Try.underlying75 ht
      match xs, hlen with
      | [y0, y1], _ =>
        have h0 := hy 0 _ rfl
        have h1 := hy 1 _ rfl
        simp [cellsInt, cellsBts] at h0 h1
        obtain ⟨p, e0, _, _⟩ := DataW.trod_int Try.underlying3 h0
        simp at e0
        subst e0
        have hwy : ∀ k ∈ y1.1.weights Try.prog 30, k ≤ reachBytes := fun k hk => hwt i hi k (by
          have e1 : D i = .agg [y0.1, y1.1] := by simpa using congrArg Prod.fst hagg
          rw [e1]
          simp only [DataW.weights, Try.underlying75]
          exact DataW.weights_mem_each (j := 1) (t := 30) rfl rfl k hk)
        obtain ⟨ys, hys, hyl⟩ := open_btsS h1 hwy
        obtain ⟨b, o, rfl⟩ := hsp (by omega)
        rw [add_none, add_none] at k0 k1
        exact ⟨⟨p, ys⟩, ⟨b, o, rfl, k0, c1, k1, hys⟩, hyl⟩
    refine ⟨(List.range len).map f, ⟨some a, cap, by simp, by simpa using hl, hm, fun i hi => ?_⟩, by simp; omega, fun i hi => ?_⟩
    · have hi' : i < len := by simpa using hi
      rw [getD_map_range f _ hi']
      obtain ⟨⟨b, o, rfl, r⟩, _⟩ := hf i hi'
      exact ⟨b, o, rfl, r⟩
    · have hi' : i < len := by simpa using hi
      rw [getD_map_range f _ hi']; exact (hf i hi').2

theorem open_vosS (h : DataW.trod enc Try.prog w base spare held fuel 26 [v] = some x) (hw : ∀ n ∈ x.1.weights Try.prog 26, n ≤ reachBytes) :
    ∃ xs, VosAt w v xs ∧ xs.length * 40 ≤ 140737488355328 ∧ ∀ i, i < xs.length → (xs.getD i ⟨[], 0, false⟩).data.length ≤ 140737488355328 := by
  have hr := reach_num
  rcases open_slice Try.underlying26 h with ⟨hcs, _⟩ | ⟨a, len, cap, m, n, D, Pl, hcs, _, hl, hm, hmm, hxx, hx⟩
  · simp at hcs
    subst hcs
    exact ⟨[], ⟨none, 0, rfl, Nat.le_refl _, Nat.zero_le _, fun i hi => absurd hi (Nat.not_lt_zero _)⟩, by simp, fun i hi => absurd hi (Nat.not_lt_zero _)⟩
  · simp at hcs
    subst hcs
    have hml : len ≤ m := by rw [hmm]; split <;> omega
    have hwt : ∀ i, i < len → ∀ k ∈ (D i).weights Try.prog 77, k ≤ reachBytes := fun i hi k hk => hw k (by
      rw [hxx]
      simp only [DataW.weights, Try.underlying26, List.mem_cons, List.mem_append]
      exact .inr (.inl (weights_all (List.mem_map.2 ⟨i, by simpa using hi, rfl⟩) hk)))
    have htop := hw ((len + (m - len)) * 40) (by rw [hxx]; simp [DataW.weights, Try.underlying26, bytesVo])
    have hsp : 0 < len → ∃ b o, a = ⟨b, o, none⟩ := fun h0 => by
      obtain ⟨cs', hc, _⟩ := hx 0 (by omega)
      rw [cellsVo] at hc
      obtain ⟨c0, c1, c2, _, k0, _⟩ := three_cells hc
      exact spot_of (by simpa [Addr.add] using k0)
    obtain ⟨f, hf⟩ := pick_lt (⟨[], 0, false⟩ : Vo) (n := len) (p := fun i r => (∃ b o, a = ⟨b, o, none⟩ ∧ (∃ u, w.cell? ⟨b, o + i * 3, none⟩ = some u ∧ Bts w u r.data) ∧ w.cell? ⟨b, o + i * 3 + 1, none⟩ = some (.int .i64 r.synced) ∧ w.cell? ⟨b, o + i * 3 + 2, none⟩ = some (.bool r.gone)) ∧ r.data.length ≤ 140737488355328) fun i hi => by
      obtain ⟨cs', hc, ht⟩ := hx i (by omega)
      rw [cellsVo] at hc
      obtain ⟨c0, c1, c2, rfl, k0, k1, k2⟩ := three_cells hc
      obtain ⟨xs, n', _, hagg, _, hlen, hy⟩ := DataW.trod_struct Try.underlying77 ht
      match xs, hlen with
      | [y0, y1, y2], _ =>
        have h0 := hy 0 _ rfl
        have h1 := hy 1 _ rfl
        have h2 := hy 2 _ rfl
        simp [cellsInt, cellsBts, cellsBool] at h0 h1 h2
        obtain ⟨p, e0, _, _⟩ := DataW.trod_int Try.underlying3 h1
        obtain ⟨g, e1, _⟩ := DataW.trod_bool Try.underlying4 h2
        simp at e0 e1
        subst e0 e1
        have hwy : ∀ k ∈ y0.1.weights Try.prog 30, k ≤ reachBytes := fun k hk => hwt i hi k (by
          have e1 : D i = .agg [y0.1, y1.1, y2.1] := by simpa using congrArg Prod.fst hagg
          rw [e1]
          simp only [DataW.weights, Try.underlying77]
          exact DataW.weights_mem_each (j := 0) (t := 30) rfl rfl k hk)
        obtain ⟨ys, hys, hyl⟩ := open_btsS h0 hwy
        obtain ⟨b, o, rfl⟩ := hsp (by omega)
        rw [add_none, add_none] at k0 k1 k2
        exact ⟨⟨ys, p, g⟩, ⟨b, o, rfl, ⟨c0, k0, hys⟩, k1, k2⟩, hyl⟩
    refine ⟨(List.range len).map f, ⟨some a, cap, by simp, by simpa using hl, hm, fun i hi => ?_⟩, by simp; omega, fun i hi => ?_⟩
    · have hi' : i < len := by simpa using hi
      rw [getD_map_range f _ hi']
      obtain ⟨⟨b, o, rfl, r⟩, _⟩ := hf i hi'
      exact ⟨b, o, rfl, r⟩
    · have hi' : i < len := by simpa using hi
      rw [getD_map_range f _ hi']; exact (hf i hi').2

theorem open_devS {r : Reach} {b0 : Nat} {d : DataW H} {p : List MemPlace}
    (hv : Value.okWide Try.prog w r b0 28 v) (h : DataW.Trod enc Try.prog w base spare held 28 v d p) (hw : ∀ n ∈ d.weights Try.prog 28, n ≤ reachBytes) :
    ∃ (s c z : Value) (D : Dv), v = .agg #[s, c, z, .int .i64 D.fuel] ∧ Dev w s c z D ∧ Fits D := by
  obtain ⟨cs, rfl, hsz⟩ := okWide_struct Try.underlying28 hv
  obtain ⟨c0, c1, c2, c3, rfl⟩ := array4 (hsz.trans cellsDev)
  obtain ⟨fuel, hf⟩ := h
  obtain ⟨xs, n, _, hagg, _, hlen, hx⟩ := DataW.trod_struct Try.underlying28 hf
  match xs, hlen with
  | [y0, y1, y2, y3], _ =>
    have e1 : d = .agg [y0.1, y1.1, y2.1, y3.1] := by simpa using congrArg Prod.fst hagg
    have hW : ∀ (j : Nat) t y, (([24, 25, 26, 3] : List TypeId))[j]? = some t → ([y0.1, y1.1, y2.1, y3.1] : List (DataW H))[j]? = some y → ∀ k ∈ y.weights Try.prog t, k ≤ reachBytes := fun j t y ht hy k hk => hw k (by
      rw [e1]
      simp only [DataW.weights, Try.underlying28]
      exact DataW.weights_mem_each ht hy k hk)
    have h0 := hx 0 _ rfl
    have h1 := hx 1 _ rfl
    have h2 := hx 2 _ rfl
    have h3 := hx 3 _ rfl
    simp [Value.cells, cellsInt, cellsRows, cellsWrs, cellsVos] at h0 h1 h2 h3
    obtain ⟨x3, e3, _, w3⟩ := DataW.trod_int Try.underlying3 h3
    simp at e3
    subst e3
    obtain ⟨S, hS, s1, s2⟩ := open_rowsS h0 (hW 0 _ _ rfl rfl)
    obtain ⟨C, hC, c1', c2'⟩ := open_wrsS h1 (hW 1 _ _ rfl rfl)
    obtain ⟨V, hV, v1, v2⟩ := open_vosS h2 (hW 2 _ _ rfl rfl)
    exact ⟨c0, c1, c2, ⟨S, C, V, x3⟩, rfl, ⟨hS, hC, hV⟩, ⟨s1, c1', v1, s2, c2', v2⟩⟩
end
end Go.Proofs.Ytbdpmigebnahkaa

/- A list of bytes that comes in, with its size. -/
namespace Go.Proofs.Ytbdpmigebnahkaa
open Go.ChangeShapes Go.WideShapes Go.ChangeAt Go.RowKit
set_option maxRecDepth 100000
set_option linter.unusedVariables false
theorem open_bytesS {H : Type} {enc : TypeId × Value → H} {w : World} {base : Nat} {spare : Nat → Bool} {held : Bool} {v : Value} {d : DataW H} {p : List MemPlace} {r : Reach} {b0 : Nat}
    (hv : Value.okWide Try.prog w r b0 30 v) (h : DataW.Trod enc Try.prog w base spare held 30 v d p) (hw : ∀ n ∈ d.weights Try.prog 30, n ≤ reachBytes) :
    ∃ xs, Bts w v xs ∧ xs.length ≤ 140737488355328 := by
  obtain ⟨a, l, c, rfl⟩ := okWide_slice Try.underlying30 hv
  obtain ⟨fuel, hf⟩ := h
  exact open_btsS (x := (d, p)) hf hw
end Go.Proofs.Ytbdpmigebnahkaa

/- How a list of numbers that came in is read, and how long it is at the most. -/
namespace Go.Proofs.Ytbdpmigebnahkaa
open Go.ChangeShapes Go.WideShapes Go.ChangeAt Go.RowKit Go.Deep
set_option maxRecDepth 100000
set_option linter.unusedVariables false
set_option linter.unusedSimpArgs false
theorem bytesI64 : Try.prog.bytesOf 3 = 8 := by kernel_rfl
theorem open_intsS {H : Type} {enc : TypeId × Value → H} {w : World} {base : Nat} {spare : Nat → Bool} {held : Bool} {v : Value} {d : DataW H} {p : List MemPlace} {r : Reach} {b0 : Nat}
    (hv : Value.okWide Try.prog w r b0 29 v) (h : DataW.Trod enc Try.prog w base spare held 29 v d p) (hw : ∀ n ∈ d.weights Try.prog 29, n ≤ reachBytes) :
    ∃ xs, Nts w v xs ∧ xs.length * 8 ≤ 140737488355328 := by
  obtain ⟨a, l, c, rfl⟩ := okWide_slice Try.underlying29 hv
  obtain ⟨fuel, h0⟩ := h
  have h : DataW.trod enc Try.prog w base spare held fuel 29 [.slice a l c] = some (d, p) := h0
  rcases open_ints Try.underlying29 Try.underlying3 cellsInt h with ⟨hcs, _⟩ | ⟨a, len, cap, zs, hcs, _, hl, hm, hz, hxx, hcell, _⟩
  · simp at hcs
    obtain ⟨rfl, rfl, rfl⟩ := hcs
    exact ⟨[], ⟨none, 0, rfl, Nat.le_refl _, Nat.zero_le _, fun i hi => absurd hi (Nat.not_lt_zero _)⟩, by simp⟩
  · simp at hcs
    obtain ⟨rfl, rfl, rfl⟩ := hcs
    have hzl : l ≤ zs.length := by rw [hz]; split <;> omega
    have hl' : (zs.take l).length = l := by simp; omega
    refine ⟨zs.take l, ⟨some a, c, by rw [hl'], by rw [hl']; exact hl, hm, fun i hi => ?_⟩, ?_⟩
    · rw [hl'] at hi
      obtain ⟨b, o, rfl⟩ := spot_of (hcell 0 (by omega))
      have hc := hcell i (by omega)
      rw [add_none] at hc
      exact ⟨b, o, rfl, by rw [hc]; simp [List.getD, hi]⟩
    · have hx1 : d = _ := congrArg Prod.fst hxx
      have := hw (((zs.take l).length + (zs.drop l).length) * 8) (by rw [hx1]; simp [DataW.weights, Try.underlying29, lits, bytesI64])
      have hr := reach_num
      simp at this
      omega
end Go.Proofs.Ytbdpmigebnahkaa

namespace Go.Proofs.Ytbdpmigebnahkaa
open Go.ChangeShapes Go.WideShapes Go.ChangeAt Go.RowKit
open Go.ChangeMaps (open_string shut_string)
set_option linter.unusedVariables false
set_option linter.unusedSimpArgs false

set_option maxRecDepth 100000 in
theorem hotWrites_lifted (os : Os) (started : os.Started) (H : Type) (enc : TypeId × Value → H) :
    ReturnsInHanded {} Try.checked os 3 .any (Rows.hotWritesSpec.pre6 enc Try.prog Try.f3 Rows.hotWritesRow.domain false) (Rows.hotWritesSpec.post enc Try.prog Try.f3 false true false false) := by
  refine returnsInHanded_of_change_sized (C := Try.checked) own started (by kernel_rfl) Try.func3
    (ChangeSpec.witness6 (enc := enc) (C := Try.checked) false ⟨#[], #[.agg #[.int .i64 0, .int .i64 0, .int .i64 0, .int .i64 0, .int .i64 0], .agg #[.slice none 0 0, .slice none 0 0, .slice none 0 0, .int .i64 0], .slice none 0 0, .slice none 0 0], []⟩ 8 (by kernel_rfl) (by kernel_rfl) (by kernel_rfl) (by kernel_rfl)) ?_
  intro W base args ds gs before hval0 hW hcnd hsz _
  have hval : ∀ (j : Nat) t v, Try.f3.params[j]? = some t → args[j]? = some v → Value.okWide Try.prog W .any base t v := hval0
  have hW' := hW
  obtain ⟨p, q, hA0, hV, rfl, hfz, hnd⟩ := hW
  have hA : DataW.TrodAll enc Try.prog W 0 (fun _ => true) true Try.f3.params.toList args.toList ds p := hA0
  rw [Try.params3] at hA hval
  obtain ⟨v0, vs0, d0, ds0, p0, q0, hargs, rfl, rfl, h0, r0⟩ := trodAll_cons hA
  obtain ⟨v1, vs1, d1, ds1, p1, q1, rfl, rfl, rfl, h1, r1⟩ := trodAll_cons r0
  obtain ⟨v2, vs2, d2, ds2, p2, q2, rfl, rfl, rfl, h2, r2⟩ := trodAll_cons r1
  obtain ⟨v3, vs3, d3, ds3, p3, q3, rfl, rfl, rfl, h3, r3⟩ := trodAll_cons r2
  obtain ⟨rfl, rfl, rfl⟩ := trodAll_nil r3
  obtain rfl : args = #[v0, v1, v2, v3] := by cases args; simp_all
  obtain ⟨rfl, rfl⟩ := trodVars_none hV
  have hszl := List.all_eq_true.1 hsz
  have k0 := h0
  have lt0 : ∀ x ∈ p0, x.block < W.heap.size := by obtain ⟨m, hm⟩ := k0; exact DataW.trod_lt m _ _ _ hm
  obtain ⟨x00, x01, x02, x03, x04, rfl, wg0⟩ := open_geo (hval 0 23 v0 rfl rfl) h0
  have k1 := h1
  have lt1 : ∀ x ∈ p1, x.block < W.heap.size := by obtain ⟨m, hm⟩ := k1; exact DataW.trod_lt m _ _ _ hm
  obtain ⟨s1, c1, z1, D1, rfl, hD1, hF1⟩ := open_devS (hval 1 28 v1 rfl rfl) h1 (fun n hn => by simpa using hszl n (DataW.weights_mem_each (j := 1) (t := 28) (by rw [Try.params3]; rfl) rfl n hn))
  have k2 := h2
  have lt2 : ∀ x ∈ p2, x.block < W.heap.size := by obtain ⟨m, hm⟩ := k2; exact DataW.trod_lt m _ _ _ hm
  obtain ⟨xs2, hB2, hL2⟩ := open_intsS (hval 2 29 v2 rfl rfl) h2 (fun n hn => by simpa using hszl n (DataW.weights_mem_each (j := 2) (t := 29) (by rw [Try.params3]; rfl) rfl n hn))
  have k3 := h3
  have lt3 : ∀ x ∈ p3, x.block < W.heap.size := by obtain ⟨m, hm⟩ := k3; exact DataW.trod_lt m _ _ _ hm
  obtain ⟨xs3, hB3, hL3⟩ := open_bytesS (hval 3 30 v3 rfl rfl) h3 (fun n hn => by simpa using hszl n (DataW.weights_mem_each (j := 3) (t := 30) (by rw [Try.params3]; rfl) rfl n hn))
  clear hA0 hval0
  refine (hotWrites_walk x00 x01 x02 x03 x04 s1 c1 z1 D1 v2 xs2 v3 xs3 W hD1 hF1 hB2 hL2 hB3 hL3).mono fun e W' ⟨he, bel⟩ => ?_
  subst he
  exact ⟨_, rfl, _, _, _, [], _, [], hW', trodAll_mk1 (shut_bool Try.underlying4 _), (trodAll_cons_mk (Below.trod laidOut (by kernel_rfl) (of_decide_eq_true (by kernel_rfl)) k0 bel lt0) (trodAll_cons_mk (Below.trod laidOut (by kernel_rfl) (of_decide_eq_true (by kernel_rfl)) k1 bel lt1) (trodAll_cons_mk (Below.trod laidOut (by kernel_rfl) (of_decide_eq_true (by kernel_rfl)) k2 bel lt2) (trodAll_cons_mk (Below.trod laidOut (by kernel_rfl) (of_decide_eq_true (by kernel_rfl)) k3 bel lt3) trodAll_mk0)))), rfl, bel.frame _, fun h => by cases h⟩

theorem hotWrites_holds : Rows.HotWritesSaid :=
  OpenClaim.holds_of_wide 3 Try.f3 rfl rfl rfl rfl rfl rfl rfl ⟨rfl, rfl, rfl, rfl, rfl⟩ rfl rfl rfl rfl rfl (by kernel_rfl) Try.func3 (by kernel_rfl)
    (of_decide_eq_true (by kernel_rfl)) (by unfold Func.isWrapper; first | (rw [if_pos (by decide +kernel)]; kernel_rfl) | (rw [if_neg (by decide +kernel)]; exact ⟨rfl, rfl⟩))
    (fun os started H enc _ => hotWrites_lifted os started H enc)
#print axioms hotWrites_holds
end Go.Proofs.Ytbdpmigebnahkaa
