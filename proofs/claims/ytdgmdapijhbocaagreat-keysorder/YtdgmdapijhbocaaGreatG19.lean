/- icehousekeep.Record, whatever the kind. -/
import Derived.Test.YtdgmdapijhbocaaGreatG15
import Derived.Test.YtdgmdapijhbocaaGreatG16
import Derived.Test.YtdgmdapijhbocaaGreatG17
import Derived.Test.YtdgmdapijhbocaaGreatG18
import Derived.Test.YtdgmdapijhbocaaGreatG5
import Derived.ChangeMaps5
import Derived.Deep.Slices
import Derived.Test.YtdgmdapijhbocaaGreatG2
namespace Go.Proofs.YtdgmdapijhbocaaGreat
open Go.RowKit
theorem record_any (S : St) (b v u q g : Value) (x : Rw) (w : World) (hS : Sta w b v u q g S) (hc : stC S = true) (hx : WfW x) :
    Calls Tryz.prog 25 #[stV S b v u q g, rwV x] w fun e w' => ∃ vv pv sv, e = .returned (rcV (recR S x) vv pv sv) ∧ RcI w' (recR S x) vv pv sv ∧ Below w.heap.size w w' := by
  have h0 := pickI_lo x.kind (m := 14) (by decide)
  have h1 := pickI_hi x.kind (m := 14) (by decide)
  rcases (show pickI x.kind 14 = 0 ∨ pickI x.kind 14 = 1 ∨ pickI x.kind 14 = 2 ∨ pickI x.kind 14 = 3 ∨ pickI x.kind 14 = 4 ∨ pickI x.kind 14 = 5 ∨ pickI x.kind 14 = 6 ∨ pickI x.kind 14 = 7 ∨ pickI x.kind 14 = 8 ∨ pickI x.kind 14 = 9 ∨ pickI x.kind 14 = 10 ∨ pickI x.kind 14 = 11 ∨ pickI x.kind 14 = 12 ∨ pickI x.kind 14 = 13 by omega) with hk | hk | hk | hk | hk | hk | hk | hk | hk | hk | hk | hk | hk | hk
  · exact record_0 S b v u q g x w hS hc hx hk
  · exact record_1 S b v u q g x w hS hc hx hk
  · exact record_2 S b v u q g x w hS hc hx hk
  · by_cases hm : pickI x.d 5 = 0
    · exact record_3A S b v u q g x w hS hc hx hk hm
    · exact record_3B S b v u q g x w hS hc hx hk hm
  · exact record_4 S b v u q g x w hS hc hx hk
  · exact record_5 S b v u q g x w hS hc hx hk
  · exact record_6 S b v u q g x w hS hc hx hk
  · exact record_7 S b v u q g x w hS hc hx hk
  · exact record_8 S b v u q g x w hS hc hx hk
  · exact record_9 S b v u q g x w hS hc hx hk
  · exact record_10 S b v u q g x w hS hc hx hk
  · exact record_11 S b v u q g x w hS hc hx hk
  · exact record_12 S b v u q g x w hS hc hx hk
  · exact record_13 S b v u q g x w hS hc hx hk
end Go.Proofs.YtdgmdapijhbocaaGreat

/- How a list that came in is read, whatever its elements. -/
namespace Go.Proofs.YtdgmdapijhbocaaGreat
open Go.ChangeShapes Go.WideShapes Go.ChangeAt Go.RowKit Go.Deep
set_option maxRecDepth 100000
set_option linter.unusedVariables false
set_option linter.unusedSimpArgs false
theorem spick_lt {α : Type} (x0 : α) {n : Nat} {p : Nat → α → Prop} (h : ∀ i, i < n → ∃ x, p i x) : ∃ f : Nat → α, ∀ i, i < n → p i (f i) := by
  refine ⟨fun i => if hi : i < n then Classical.choose (h i hi) else x0, fun i hi => ?_⟩
  simp only [dif_pos hi]
  exact Classical.choose_spec (h i hi)
theorem sgetD_map_range {α : Type} (f : Nat → α) (d : α) {n i : Nat} (h : i < n) : ((List.range n).map f).getD i d = f i := by
  simp [List.getD, h]
theorem sadd_none (b o i : Nat) : (⟨b, o, none⟩ : Addr).add i = ⟨b, o + i, none⟩ := by unfold Addr.add; split <;> simp_all
theorem sspot_of {w : World} {a : Addr} {v : Value} (h : w.cell? (a.add 0) = some v) : ∃ b o, a = ⟨b, o, none⟩ := by
  obtain ⟨b, o, s⟩ := a
  have hs : s = none := by simpa [Addr.add] using World.cell?_spot h
  subst hs
  exact ⟨b, o, rfl⟩
section
variable {H : Type} {enc : TypeId × Value → H} {w : World} {base : Nat} {spare : Nat → Bool} {held : Bool} {fuel : Nat} {v : Value} {x : DataW H × List MemPlace}

theorem open_list {α : Type} (R : World → Nat → Nat → α → Prop) (size : Nat) (d : α) (t e : TypeId) (hu : Tryz.prog.underlying t = some (.slice e)) (hc : Tryz.prog.cellsOf e = size) (hs : 0 < size)
    (h : DataW.trod enc Tryz.prog w base spare held fuel t [v] = some x)
    (f : ∀ fuel' (b p : Nat) (cs : List Value) (y : DataW H × List MemPlace), cs.length = size → (∀ j, j < size → w.cell? ⟨b, p + j, none⟩ = cs[j]?) → DataW.trod enc Tryz.prog w base spare held fuel' e cs = some y → ∃ z, R w b p z) :
    ∃ (xs : List α) (a : Option Addr) (cap : Nat), v = .slice a xs.length cap ∧ xs.length ≤ cap ∧ cap ≤ maxLen ∧ ∀ i, i < xs.length → ∃ b o, a = some ⟨b, o, none⟩ ∧ R w b (o + i * size) (xs.getD i d) := by
  rcases open_slice hu h with ⟨hcs, _⟩ | ⟨a, len, cap, m, n, D, Pl, hcs, _, hl, hm, hmm, _, hx⟩
  · simp at hcs
    subst hcs
    exact ⟨[], none, 0, rfl, Nat.le_refl _, Nat.zero_le _, fun i hi => absurd hi (Nat.not_lt_zero _)⟩
  · simp at hcs
    subst hcs
    have hml : len ≤ m := by rw [hmm]; split <;> omega
    have hsp : 0 < len → ∃ b o, a = ⟨b, o, none⟩ := fun h0 => by
      obtain ⟨cs', hc', _⟩ := hx 0 (by omega)
      rw [hc] at hc'
      obtain ⟨_, hl', k⟩ := World.cells?_some hc'
      have k0 := k 0 hs
      rw [List.getElem?_eq_getElem (by omega)] at k0
      exact sspot_of (by simpa [Addr.add] using k0)
    obtain ⟨g, hg⟩ := spick_lt d (n := len) (p := fun i z => ∃ b o, a = ⟨b, o, none⟩ ∧ R w b (o + i * size) z) fun i hi => by
      obtain ⟨cs', hc', ht⟩ := hx i (by omega)
      rw [hc] at hc'
      obtain ⟨_, hl', k⟩ := World.cells?_some hc'
      obtain ⟨b, o, rfl⟩ := hsp (by omega)
      obtain ⟨z, hz⟩ := f _ b (o + i * size) cs' _ hl' (fun j hj => by have := k j hj; rw [sadd_none, sadd_none] at this; exact this) ht
      exact ⟨z, b, o, rfl, hz⟩
    refine ⟨(List.range len).map g, some a, cap, by simp, by simpa using hl, hm, fun i hi => ?_⟩
    have hi' : i < len := by simpa using hi
    rw [sgetD_map_range g _ hi']
    obtain ⟨b, o, rfl, r⟩ := hg i hi'
    exact ⟨b, o, rfl, r⟩
end
end Go.Proofs.YtdgmdapijhbocaaGreat

/- How a state that came in is read. -/
namespace Go.Proofs.YtdgmdapijhbocaaGreat
open Go.ChangeShapes Go.WideShapes Go.ChangeAt Go.RowKit Go.Deep
set_option maxRecDepth 100000
set_option linter.unusedVariables false
set_option linter.unusedSimpArgs false
theorem sInt : Tryz.prog.cellsOf 3 = 1 := by kernel_rfl
theorem sBool : Tryz.prog.cellsOf 4 = 1 := by kernel_rfl
theorem sStr : Tryz.prog.cellsOf 9 = 1 := by kernel_rfl
theorem sInts : Tryz.prog.cellsOf 27 = 1 := by kernel_rfl
theorem sRule : Tryz.prog.cellsOf 41 = 3 := by kernel_rfl
theorem sBu : Tryz.prog.cellsOf 69 = 5 := by kernel_rfl
theorem sVe : Tryz.prog.cellsOf 36 = 12 := by kernel_rfl
theorem sPa : Tryz.prog.cellsOf 45 = 3 := by kernel_rfl
theorem sUp : Tryz.prog.cellsOf 102 = 4 := by kernel_rfl
theorem sAk : Tryz.prog.cellsOf 43 = 3 := by kernel_rfl
theorem sBus : Tryz.prog.cellsOf 23 = 1 := by kernel_rfl
theorem sVes : Tryz.prog.cellsOf 24 = 1 := by kernel_rfl
theorem sPas : Tryz.prog.cellsOf 100 = 1 := by kernel_rfl
theorem sUps : Tryz.prog.cellsOf 25 = 1 := by kernel_rfl
theorem sAks : Tryz.prog.cellsOf 26 = 1 := by kernel_rfl
theorem sSta : Tryz.prog.cellsOf 29 = 7 := by kernel_rfl
section
variable {H : Type} {enc : TypeId × Value → H} {w : World} {base : Nat} {spare : Nat → Bool} {held : Bool} {fuel : Nat} {v : Value} {x : DataW H × List MemPlace}
theorem open_ints (h : DataW.trod enc Tryz.prog w base spare held fuel 27 [v] = some x) : ∃ xs, Lst RInt 1 0 w v xs := by
  refine open_list RInt 1 0 _ _ Tryz.underlying27 sInt (by decide) h ?_
  intro fuel' b p cs y hl k ht
  match cs, hl with
  | [c0], _ =>
    obtain ⟨g, e1, _, w1⟩ := DataW.trod_int Tryz.underlying3 ht
    simp at e1
    subst e1
    exact ⟨g, k 0 (by decide), w1⟩
theorem open_aks (h : DataW.trod enc Tryz.prog w base spare held fuel 26 [v] = some x) : ∃ xs, Lst RAk 3 ak0 w v xs := by
  refine open_list RAk 3 ak0 _ _ Tryz.underlying26 sAk (by decide) h ?_
  intro fuel' b p cs y hl k ht
  match cs, hl with
  | [c0, c1, c2], _ =>
    obtain ⟨xs, n, _, _, _, hlen, hx⟩ := DataW.trod_struct Tryz.underlying43 ht
    match xs, hlen with
    | [y0, y1, y2], _ =>
      have h0 := hx 0 _ rfl
      have h1 := hx 1 _ rfl
      have h2 := hx 2 _ rfl
      simp [Value.cells, sInt, sBool, sStr, sInts, sRule, sBu, sVe, sPa, sUp, sAk, sBus, sVes, sPas, sUps, sAks] at h0 h1 h2
      obtain ⟨x0, e0, _, w0⟩ := DataW.trod_int Tryz.underlying3 h0
      simp at e0
      subst e0
      obtain ⟨x1, e1, _, w1⟩ := DataW.trod_int Tryz.underlying3 h1
      simp at e1
      subst e1
      obtain ⟨x2, e2, _, w2⟩ := DataW.trod_int Tryz.underlying3 h2
      simp at e2
      subst e2
      exact ⟨⟨x0, x1, x2⟩, k 0 (by decide), k 1 (by decide), k 2 (by decide), w0⟩
theorem open_pas (h : DataW.trod enc Tryz.prog w base spare held fuel 100 [v] = some x) : ∃ xs, Lst RPa 3 pa0 w v xs := by
  refine open_list RPa 3 pa0 _ _ Tryz.underlying100 sPa (by decide) h ?_
  intro fuel' b p cs y hl k ht
  match cs, hl with
  | [c0, c1, c2], _ =>
    obtain ⟨xs, n, _, _, _, hlen, hx⟩ := DataW.trod_struct Tryz.underlying45 ht
    match xs, hlen with
    | [y0, y1, y2], _ =>
      have h0 := hx 0 _ rfl
      have h1 := hx 1 _ rfl
      have h2 := hx 2 _ rfl
      simp [Value.cells, sInt, sBool, sStr, sInts, sRule, sBu, sVe, sPa, sUp, sAk, sBus, sVes, sPas, sUps, sAks] at h0 h1 h2
      obtain ⟨x0, e0, _, w0⟩ := DataW.trod_int Tryz.underlying3 h0
      simp at e0
      subst e0
      obtain ⟨x1, e1, _, w1⟩ := DataW.trod_int Tryz.underlying3 h1
      simp at e1
      subst e1
      obtain ⟨x2, r2⟩ := open_ints h2
      exact ⟨⟨x0, x1, x2⟩, k 0 (by decide), k 1 (by decide), ⟨_, k 2 (by decide), r2⟩⟩
theorem open_ups (h : DataW.trod enc Tryz.prog w base spare held fuel 25 [v] = some x) : ∃ xs, Lst RUp 4 up0 w v xs := by
  refine open_list RUp 4 up0 _ _ Tryz.underlying25 sUp (by decide) h ?_
  intro fuel' b p cs y hl k ht
  match cs, hl with
  | [c0, c1, c2, c3], _ =>
    obtain ⟨xs, n, _, _, _, hlen, hx⟩ := DataW.trod_struct Tryz.underlying102 ht
    match xs, hlen with
    | [y0, y1, y2, y3], _ =>
      have h0 := hx 0 _ rfl
      have h1 := hx 1 _ rfl
      have h2 := hx 2 _ rfl
      have h3 := hx 3 _ rfl
      simp [Value.cells, sInt, sBool, sStr, sInts, sRule, sBu, sVe, sPa, sUp, sAk, sBus, sVes, sPas, sUps, sAks] at h0 h1 h2 h3
      obtain ⟨x0, e0, _, w0⟩ := DataW.trod_int Tryz.underlying3 h0
      simp at e0
      subst e0
      obtain ⟨x1, e1, _, w1⟩ := DataW.trod_string Tryz.underlying9 h1
      simp at e1
      subst e1
      obtain ⟨x2, e2, _, w2⟩ := DataW.trod_string Tryz.underlying9 h2
      simp at e2
      subst e2
      obtain ⟨x3, r3⟩ := open_pas h3
      exact ⟨⟨x0, x1, x2, x3⟩, k 0 (by decide), k 1 (by decide), k 2 (by decide), ⟨_, k 3 (by decide), r3⟩, w1, w2⟩
theorem open_ves (h : DataW.trod enc Tryz.prog w base spare held fuel 24 [v] = some x) : ∃ xs, Lst RVe 12 ve0 w v xs := by
  refine open_list RVe 12 ve0 _ _ Tryz.underlying24 sVe (by decide) h ?_
  intro fuel' b p cs y hl k ht
  match cs, hl with
  | [c0, c1, c2, c3, c4, c5, c6, c7, c8, c9, c10, c11], _ =>
    obtain ⟨xs, n, _, _, _, hlen, hx⟩ := DataW.trod_struct Tryz.underlying36 ht
    match xs, hlen with
    | [y0, y1, y2, y3, y4, y5, y6, y7, y8, y9, y10, y11], _ =>
      have h0 := hx 0 _ rfl
      have h1 := hx 1 _ rfl
      have h2 := hx 2 _ rfl
      have h3 := hx 3 _ rfl
      have h4 := hx 4 _ rfl
      have h5 := hx 5 _ rfl
      have h6 := hx 6 _ rfl
      have h7 := hx 7 _ rfl
      have h8 := hx 8 _ rfl
      have h9 := hx 9 _ rfl
      have h10 := hx 10 _ rfl
      have h11 := hx 11 _ rfl
      simp [Value.cells, sInt, sBool, sStr, sInts, sRule, sBu, sVe, sPa, sUp, sAk, sBus, sVes, sPas, sUps, sAks] at h0 h1 h2 h3 h4 h5 h6 h7 h8 h9 h10 h11
      obtain ⟨x0, e0, _, w0⟩ := DataW.trod_int Tryz.underlying3 h0
      simp at e0
      subst e0
      obtain ⟨x1, e1, _, w1⟩ := DataW.trod_string Tryz.underlying9 h1
      simp at e1
      subst e1
      obtain ⟨x2, e2, _, w2⟩ := DataW.trod_string Tryz.underlying9 h2
      simp at e2
      subst e2
      obtain ⟨x3, e3, _⟩ := DataW.trod_bool Tryz.underlying4 h3
      simp at e3
      subst e3
      obtain ⟨x4, e4, _⟩ := DataW.trod_bool Tryz.underlying4 h4
      simp at e4
      subst e4
      obtain ⟨x5, e5, _, w5⟩ := DataW.trod_int Tryz.underlying3 h5
      simp at e5
      subst e5
      obtain ⟨x6, e6, _, w6⟩ := DataW.trod_int Tryz.underlying3 h6
      simp at e6
      subst e6
      obtain ⟨x7, e7, _, w7⟩ := DataW.trod_int Tryz.underlying3 h7
      simp at e7
      subst e7
      obtain ⟨x8, r8⟩ := open_ints h8
      obtain ⟨x9, e9, _, w9⟩ := DataW.trod_int Tryz.underlying3 h9
      simp at e9
      subst e9
      obtain ⟨x10, e10, _, w10⟩ := DataW.trod_int Tryz.underlying3 h10
      simp at e10
      subst e10
      obtain ⟨x11, e11, _, w11⟩ := DataW.trod_int Tryz.underlying3 h11
      simp at e11
      subst e11
      exact ⟨⟨x0, x1, x2, x3, x4, x5, x6, x7, x8, x9, x10, x11⟩, k 0 (by decide), k 1 (by decide), k 2 (by decide), k 3 (by decide), k 4 (by decide), k 5 (by decide), k 6 (by decide), k 7 (by decide), ⟨_, k 8 (by decide), r8⟩, k 9 (by decide), k 10 (by decide), k 11 (by decide), w1, w2⟩
theorem open_bus (h : DataW.trod enc Tryz.prog w base spare held fuel 23 [v] = some x) : ∃ xs, Lst RBu 5 bu0 w v xs := by
  refine open_list RBu 5 bu0 _ _ Tryz.underlying23 sBu (by decide) h ?_
  intro fuel' b p cs y hl k ht
  match cs, hl with
  | [c0, c1, c2, c3, c4], _ =>
    obtain ⟨xs, n, _, _, _, hlen, hx⟩ := DataW.trod_struct Tryz.underlying69 ht
    match xs, hlen with
    | [y0, y1, y2], _ =>
      have h0 := hx 0 _ rfl
      have h1 := hx 1 _ rfl
      have h2 := hx 2 _ rfl
      simp [Value.cells, sInt, sBool, sStr, sInts, sRule, sBu, sVe, sPa, sUp, sAk, sBus, sVes, sPas, sUps, sAks] at h0 h1 h2
      obtain ⟨x0, e0, _, w0⟩ := DataW.trod_string Tryz.underlying9 h0
      simp at e0
      subst e0
      obtain ⟨x1, e1, _, w1⟩ := DataW.trod_int Tryz.underlying3 h1
      simp at e1
      subst e1
      obtain ⟨zs, n', _, _, _, hlen', hx'⟩ := DataW.trod_struct Tryz.underlying41 h2
      match zs, hlen' with
      | [z0, z1, z2], _ =>
      have g0 := hx' 0 _ rfl
      have g1 := hx' 1 _ rfl
      have g2 := hx' 2 _ rfl
      simp [Value.cells, sInt, sBool, sStr, sInts, sRule, sBu, sVe, sPa, sUp, sAk, sBus, sVes, sPas, sUps, sAks] at g0 g1 g2
      obtain ⟨q0, i0, _, v0⟩ := DataW.trod_string Tryz.underlying9 g0
      obtain ⟨q1, i1, _, v1⟩ := DataW.trod_int Tryz.underlying3 g1
      obtain ⟨q2, i2, _, v2⟩ := DataW.trod_int Tryz.underlying3 g2
      simp at i0 i1 i2
      subst i0 i1 i2
      exact ⟨⟨x0, x1, q0, q1, q2⟩, k 0 (by decide), k 1 (by decide), k 2 (by decide), k 3 (by decide), k 4 (by decide), w0, v0⟩
end
theorem array7 {α : Type} {cs : Array α} (h : cs.size = 7) : ∃ c0 c1 c2 c3 c4 c5 c6, cs = #[c0, c1, c2, c3, c4, c5, c6] := by
  obtain ⟨l⟩ := cs
  match l, h with
  | [c0, c1, c2, c3, c4, c5, c6], _ => exact ⟨c0, c1, c2, c3, c4, c5, c6, rfl⟩
theorem open_state {H : Type} {enc : TypeId × Value → H} {w : World} {base : Nat} {spare : Nat → Bool} {held : Bool} {r : Reach} {b0 : Nat} {v : Value} {d : DataW H} {p : List MemPlace}
    (hv : Value.okWide Tryz.prog w r b0 29 v) (h : DataW.Trod enc Tryz.prog w base spare held 29 v d p) :
    ∃ (b z u q g : Value) (S : St), v = .agg #[.int .i64 S.next, .int .i64 S.clock, b, z, u, q, g] ∧ Sta w b z u q g S ∧ (Lit.int .i64 S.next).wf = true ∧ (Lit.int .i64 S.clock).wf = true := by
  obtain ⟨cs, rfl, hsz⟩ := okWide_struct Tryz.underlying29 hv
  obtain ⟨c0, c1, c2, c3, c4, c5, c6, rfl⟩ := array7 (hsz.trans sSta)
  obtain ⟨fuel, hf⟩ := h
  obtain ⟨xs, n, _, _, _, hlen, hx⟩ := DataW.trod_struct Tryz.underlying29 hf
  match xs, hlen with
  | [y0, y1, y2, y3, y4, y5, y6], _ =>
    have h0 := hx 0 _ rfl
    have h1 := hx 1 _ rfl
    have h2 := hx 2 _ rfl
    have h3 := hx 3 _ rfl
    have h4 := hx 4 _ rfl
    have h5 := hx 5 _ rfl
    have h6 := hx 6 _ rfl
    simp [Value.cells, sInt, sBool, sStr, sInts, sRule, sBu, sVe, sPa, sUp, sAk, sBus, sVes, sPas, sUps, sAks] at h0 h1 h2 h3 h4 h5 h6
    obtain ⟨x0, e0, _, w0⟩ := DataW.trod_int Tryz.underlying3 h0
    obtain ⟨x1, e1, _, w1⟩ := DataW.trod_int Tryz.underlying3 h1
    simp at e0 e1
    subst e0 e1
    obtain ⟨x2, r2⟩ := open_bus h2
    obtain ⟨x3, r3⟩ := open_ves h3
    obtain ⟨x4, r4⟩ := open_ups h4
    obtain ⟨x5, r5⟩ := open_aks h5
    obtain ⟨x6, r6⟩ := open_ints h6
    exact ⟨_, _, _, _, _, ⟨x0, x1, x2, x3, x4, x5, x6⟩, rfl, ⟨r2, r3, r4, r5, r6⟩, w0, w1⟩
end Go.Proofs.YtdgmdapijhbocaaGreat

/- How raw things that came in are read (over a state's seat). -/
namespace Go.Proofs.YtdgmdapijhbocaaGreat
open Go.ChangeShapes Go.WideShapes Go.ChangeAt Go.RowKit Go.Deep
set_option maxRecDepth 100000
set_option linter.unusedVariables false
set_option linter.unusedSimpArgs false
structure RRw (w : World) (b p : Nat) (x : Rw) : Prop where
  c0 : w.cell? ⟨b, p, none⟩ = some (.int .i64 x.kind)
  c1 : w.cell? ⟨b, p + 1, none⟩ = some (.int .i64 x.a)
  c2 : w.cell? ⟨b, p + 2, none⟩ = some (.int .i64 x.b)
  c3 : w.cell? ⟨b, p + 3, none⟩ = some (.int .i64 x.c)
  c4 : w.cell? ⟨b, p + 4, none⟩ = some (.int .i64 x.d)
  c5 : w.cell? ⟨b, p + 5, none⟩ = some (.string x.text)
  s : x.text.size ≤ maxLen
  wf : WfW x
abbrev Raws (w : World) (v : Value) (xs : List Rw) : Prop := Lst RRw 6 rw0 w v xs
theorem RRw.up {w w' : World} (hb : Below w.heap.size w w') {b p : Nat} {x : Rw} (h : RRw w b p x) : RRw w' b p x :=
  ⟨scell_up hb h.c0, scell_up hb h.c1, scell_up hb h.c2, scell_up hb h.c3, scell_up hb h.c4, scell_up hb h.c5, h.s, h.wf⟩
theorem Raws.up {w w' : World} {v : Value} {xs : List Rw} (h : Raws w v xs) (hb : Below w.heap.size w w') : Raws w' v xs := h.imp fun _ _ _ r => r.up hb
theorem rawCells : Tryz.prog.cellsOf 72 = 6 := by kernel_rfl
theorem open_raws {H : Type} {enc : TypeId × Value → H} {w : World} {base : Nat} {spare : Nat → Bool} {held : Bool} {r : Reach} {b0 : Nat} {v : Value} {d : DataW H} {p : List MemPlace}
    (hv : Value.okWide Tryz.prog w r b0 22 v) (h : DataW.Trod enc Tryz.prog w base spare held 22 v d p) :
    ∃ xs, Raws w v xs := by
  obtain ⟨fuel, hf⟩ := h
  have hcs : v.cells.toList = [v] := by
    obtain ⟨a, n, c, rfl⟩ := okWide_slice Tryz.underlying22 hv
    rfl
  rw [hcs] at hf
  refine open_list RRw 6 rw0 _ _ Tryz.underlying22 rawCells (by decide) hf ?_
  intro fuel' b p cs y hl k ht
  match cs, hl with
  | [c0, c1, c2, c3, c4, c5], _ =>
    obtain ⟨xs, n, _, _, _, hlen, hx⟩ := DataW.trod_struct Tryz.underlying72 ht
    match xs, hlen with
    | [y0, y1, y2, y3, y4, y5], _ =>
      have h0 := hx 0 _ rfl
      have h1 := hx 1 _ rfl
      have h2 := hx 2 _ rfl
      have h3 := hx 3 _ rfl
      have h4 := hx 4 _ rfl
      have h5 := hx 5 _ rfl
      simp [Value.cells, sInt, sStr] at h0 h1 h2 h3 h4 h5
      obtain ⟨x0, e0, _, w0⟩ := DataW.trod_int Tryz.underlying3 h0
      obtain ⟨x1, e1, _, w1⟩ := DataW.trod_int Tryz.underlying3 h1
      obtain ⟨x2, e2, _, w2⟩ := DataW.trod_int Tryz.underlying3 h2
      obtain ⟨x3, e3, _, w3⟩ := DataW.trod_int Tryz.underlying3 h3
      obtain ⟨x4, e4, _, w4⟩ := DataW.trod_int Tryz.underlying3 h4
      obtain ⟨s5, e5, _, w5⟩ := DataW.trod_string Tryz.underlying9 h5
      simp at e0 e1 e2 e3 e4 e5
      subst e0 e1 e2 e3 e4 e5
      exact ⟨⟨x0, x1, x2, x3, x4, s5⟩, k 0 (by decide), k 1 (by decide), k 2 (by decide), k 3 (by decide), k 4 (by decide), k 5 (by decide), w5, ⟨wf_lo w0, wf_lo w1, wf_lo w2, wf_lo w3, wf_lo w4⟩⟩
end Go.Proofs.YtdgmdapijhbocaaGreat

/- icehousekeep.State: the states that it makes. -/
namespace Go.Proofs.YtdgmdapijhbocaaGreat
open Go.RowKit Go.Maps
set_option maxRecDepth 100000
set_option linter.unusedVariables false
set_option linter.unusedSimpArgs false
def rwA (a : Int) : Rw := ⟨0, a, 0, 0, 0, em⟩
/-- Nothing was done. -/
def s00 : St := ⟨1, 0, [], [], [], [], []⟩
/-- Behind a record of a raw thing; one that is refused changes nothing. -/
def stp (S : St) (x : Rw) : St := if appE S (recR S x) = 0 then appS S (recR S x) else S
def rwAt (l : List Rw) (k : Nat) : Rw := if k < 2 then rwA k else l.getD (k - 2) rw0
def stN (l : List Rw) : Nat → St
  | 0 => s00
  | k + 1 => stp (stN l k) (rwAt l k)
def cntN (l : List Rw) : Nat → Nat
  | 0 => 0
  | k + 1 => cntN l k + if appE (stN l k) (recR (stN l k) (rwAt l k)) = 0 then 1 else 0
/-- As many rounds. -/
def rnd (l : List Rw) (most : Nat) : Nat := 2 + min l.length most
def staL (l : List Rw) (most : Nat) : St := stN l (rnd l most)
theorem app_ok {S : St} {r : Rc} (h : appE S r = 0) : stC S = true ∧ chgE S r = 0 ∧ stC (chgS S r) = true ∧ appS S r = chgS S r := by
  have h' := h
  unfold appE at h'
  split at h'
  · rename_i h1
    split at h'
    · rename_i h2
      split at h'
      · rename_i h3
        exact ⟨h1, h2, h3, by unfold appS; rw [if_pos h]⟩
      · cases h'
    · rename_i h2; exact absurd h' h2
  · cases h'
theorem stC_s00 : stC s00 = true := by kernel_rfl
theorem stp_ok {S : St} (h : stC S = true) (x : Rw) : stC (stp S x) = true := by
  unfold stp
  split
  · rename_i h0
    obtain ⟨_, _, h3, h4⟩ := app_ok h0
    rw [h4]; exact h3
  · exact h
theorem stN_ok (l : List Rw) : ∀ k, stC (stN l k) = true
  | 0 => stC_s00
  | k + 1 => stp_ok (stN_ok l k) _
theorem stp_yes {S : St} {x : Rw} (h : appE S (recR S x) = 0) : stp S x = appS S (recR S x) := by unfold stp; rw [if_pos h]
theorem stp_no {S : St} {x : Rw} (h : ¬ appE S (recR S x) = 0) : stp S x = S := by unfold stp; rw [if_neg h]
theorem i64_wf {n : Int} (h0 : -9223372036854775808 ≤ n) (h1 : n ≤ 9223372036854775807) : (Lit.int .i64 n).wf = true := by
  rw [Lit.wf_int_iff, show IntKind.i64.min = -9223372036854775808 by decide, show IntKind.i64.max = 9223372036854775807 by decide]
  exact ⟨h0, h1⟩
theorem secF_wf (S : St) (n : Int) : ∀ y ∈ secF S n, (Lit.int .i64 y).wf = true := fun y hy => fre_wf S 200 y (List.mem_of_mem_take hy)
theorem thwK_wf (S : St) (id : Int) : ∀ k, ∀ y ∈ thwK S id k, (Lit.int .i64 y).wf = true
  | 0, y, hy => by cases hy
  | k + 1, y, hy => by
    unfold thwK at hy
    split at hy
    · exact secF_wf _ _ y hy
    · exact thwK_wf S id k y hy
theorem thwK_len (S : St) (id : Int) : ∀ k, (thwK S id k).length ≤ 200
  | 0 => Nat.zero_le _
  | k + 1 => by
    unfold thwK
    split
    · exact secF_len _ _
    · exact thwK_len S id k
theorem idN_b {S : St} (h : stC S = true) (n : Int) : 1 ≤ idN S n ∧ idN S n ≤ 1048576 := by
  unfold idN
  split
  · have := pickI_lo n (m := 9) (by decide)
    have := pickI_hi n (m := 9) (by decide)
    omega
  · rename_i hl
    obtain ⟨k, hk, e⟩ := pick_nat n (L := S.ves.length) (by omega)
    rw [e, Int.toNat_natCast]
    have h1 := tveC_id (tstC_at h (mem_getD (k := k) hk))
    have h2 := tstC_next h
    omega
theorem preB_le (n : Int) : (preB n).size ≤ maxLen := by
  unfold preB
  repeat (first | (split; · decide) | decide)
theorem rcN_wf (k : Int) : WfR (rcN k) := ⟨by show em.size ≤ _; decide, by show em.size ≤ _; decide, by show em.size ≤ _; decide, by show em.size ≤ _; decide, by show em.size ≤ _; decide, (fun n hn => by cases hn), by show (Lit.int .i64 0).wf = true; decide, (fun n hn => by cases hn), (fun n hn => by cases hn), by show (Lit.int .i64 0).wf = true; decide⟩
theorem rcN_fit (k : Int) : FitR (rcN k) := ⟨by show em.size ≤ _; decide, by show em.size ≤ _; decide, by show 0 * 8 ≤ _; decide, by show 0 * 8 ≤ _; decide, by show 0 * 8 ≤ _; decide⟩
theorem verR_wf (S : St) (x : Rw) : (verR S x).bu.size ≤ maxLen ∧ (verR S x).ke.size ≤ maxLen ∧ (∀ n ∈ (verR S x).sec, (Lit.int .i64 n).wf = true) ∧ (verR S x).sec.length ≤ 200 := by
  unfold verR
  split
  · exact ⟨(nmB_le _).1, kyB_le _, (fun n hn => by cases hn), Nat.zero_le _⟩
  · exact ⟨(nmB_le _).1, kyB_le _, secF_wf _ _, secF_len _ _⟩
theorem pick_wf (n : Int) {m : Int} (h0 : 0 < m) (h1 : m ≤ 1000000) : (Lit.int .i64 (pickI n m)).wf = true := by
  have h2 := pickI_lo n h0
  have h3 := pickI_hi n h0
  exact i64_wf (by omega) (by omega)
theorem id_wf {S : St} (h : stC S = true) (n : Int) : (Lit.int .i64 (idN S n)).wf = true := by
  have h2 := idN_b h n
  exact i64_wf (by omega) (by omega)
theorem len_fit {l : List Int} (h : l.length ≤ 200) : l.length * 8 ≤ 281474976710656 := by omega
theorem recR_wf {S : St} (h : stC S = true) (x : Rw) : WfR (recR S x) := by
  have hz := fun k => rcN_wf k
  unfold recR
  by_cases k0 : pickI x.kind 14 = 0
  · rw [if_pos k0]
    exact { hz 1 with nam := (nmB_le _).1 }
  rw [if_neg k0]
  by_cases k1 : pickI x.kind 14 = 1
  · rw [if_pos k1]
    exact { hz 2 with nam := (nmB_le _).1 }
  rw [if_neg k1]
  by_cases k2 : pickI x.kind 14 = 2
  · rw [if_pos k2]
    exact { hz 3 with nam := (nmB_le _).1, pre := preB_le _ }
  rw [if_neg k2]
  by_cases k3 : pickI x.kind 14 = 3
  · rw [if_pos k3]
    exact { hz 4 with vbu := (verR_wf S x).1, vke := (verR_wf S x).2.1, vsec := (verR_wf S x).2.2.1 }
  rw [if_neg k3]
  by_cases k4 : pickI x.kind 14 = 4
  · rw [if_pos k4]
    exact { hz 5 with }
  rw [if_neg k4]
  by_cases k5 : pickI x.kind 14 = 5
  · rw [if_pos k5]
    exact { hz 6 with vol := pick_wf x.b (by decide) (by decide) }
  rw [if_neg k5]
  by_cases k6 : pickI x.kind 14 = 6
  · rw [if_pos k6]
    exact { hz 7 with ask := id_wf h x.a }
  rw [if_neg k6]
  by_cases k7 : pickI x.kind 14 = 7
  · rw [if_pos k7]
    exact { hz 8 with sec := thwK_wf _ _ _ }
  rw [if_neg k7]
  by_cases k8 : pickI x.kind 14 = 8
  · rw [if_pos k8]
    exact { hz 9 with }
  rw [if_neg k8]
  by_cases k9 : pickI x.kind 14 = 9
  · rw [if_pos k9]
    exact { hz 10 with nam := (nmB_le _).1, key := kyB_le _ }
  rw [if_neg k9]
  by_cases k10 : pickI x.kind 14 = 10
  · rw [if_pos k10]
    exact { hz 11 with psec := secF_wf _ _ }
  rw [if_neg k10]
  by_cases k11 : pickI x.kind 14 = 11
  · rw [if_pos k11]
    exact { hz 12 with }
  rw [if_neg k11]
  by_cases k12 : pickI x.kind 14 = 12
  · rw [if_pos k12]
    exact { hz 13 with }
  rw [if_neg k12]
  exact { hz 14 with vol := pick_wf x.a (by decide) (by decide) }
theorem recR_fit (S : St) (x : Rw) : FitR (recR S x) := by
  have hz := fun k => rcN_fit k
  unfold recR
  by_cases k0 : pickI x.kind 14 = 0
  · rw [if_pos k0]
    exact { hz 1 with nam := (nmB_le _).1 }
  rw [if_neg k0]
  by_cases k1 : pickI x.kind 14 = 1
  · rw [if_pos k1]
    exact { hz 2 with nam := (nmB_le _).1 }
  rw [if_neg k1]
  by_cases k2 : pickI x.kind 14 = 2
  · rw [if_pos k2]
    exact { hz 3 with nam := (nmB_le _).1, pre := preB_le _ }
  rw [if_neg k2]
  by_cases k3 : pickI x.kind 14 = 3
  · rw [if_pos k3]
    exact { hz 4 with ver := len_fit (verR_wf S x).2.2.2 }
  rw [if_neg k3]
  by_cases k4 : pickI x.kind 14 = 4
  · rw [if_pos k4]
    exact { hz 5 with }
  rw [if_neg k4]
  by_cases k5 : pickI x.kind 14 = 5
  · rw [if_pos k5]
    exact { hz 6 with }
  rw [if_neg k5]
  by_cases k6 : pickI x.kind 14 = 6
  · rw [if_pos k6]
    exact { hz 7 with }
  rw [if_neg k6]
  by_cases k7 : pickI x.kind 14 = 7
  · rw [if_pos k7]
    exact { hz 8 with sec := len_fit (thwK_len S (idN S x.a) S.ves.length) }
  rw [if_neg k7]
  by_cases k8 : pickI x.kind 14 = 8
  · rw [if_pos k8]
    exact { hz 9 with }
  rw [if_neg k8]
  by_cases k9 : pickI x.kind 14 = 9
  · rw [if_pos k9]
    exact { hz 10 with nam := (nmB_le _).1 }
  rw [if_neg k9]
  by_cases k10 : pickI x.kind 14 = 10
  · rw [if_pos k10]
    exact { hz 11 with part := len_fit (secF_len S (pickI x.c 200)) }
  rw [if_neg k10]
  by_cases k11 : pickI x.kind 14 = 11
  · rw [if_pos k11]
    exact { hz 12 with }
  rw [if_neg k11]
  by_cases k12 : pickI x.kind 14 = 12
  · rw [if_pos k12]
    exact { hz 13 with }
  rw [if_neg k12]
  exact { hz 14 with }
theorem rwAt_wf {w : World} {v : Value} {l : List Rw} (h : Raws w v l) (k : Nat) : WfW (rwAt l k) := by
  have h0 : WfW rw0 := ⟨by decide, by decide, by decide, by decide, by decide⟩
  unfold rwAt
  split
  · exact ⟨by show _ ≤ (0 : Int) ∧ (0 : Int) ≤ _; decide, by show _ ≤ (k : Int) ∧ (k : Int) ≤ _; omega, by show _ ≤ (0 : Int) ∧ (0 : Int) ≤ _; decide, by show _ ≤ (0 : Int) ∧ (0 : Int) ≤ _; decide, by show _ ≤ (0 : Int) ∧ (0 : Int) ≤ _; decide⟩
  · obtain ⟨a, cap, e, _, _, h3⟩ := h
    rcases Nat.lt_or_ge (k - 2) l.length with hk | hk
    · obtain ⟨b, o, _, r⟩ := h3 _ hk
      exact r.wf
    · rw [show l.getD (k - 2) rw0 = rw0 by simp [List.getD, hk]]
      exact h0
/-- The first two records make the buckets a and b. -/
theorem stN_two (l : List Rw) : stN l 2 = ⟨1, 0, [⟨⟨#[97]⟩, 0, ⟨#[]⟩, -1, -1⟩, ⟨⟨#[98]⟩, 0, ⟨#[]⟩, -1, -1⟩], [], [], [], []⟩ ∧ cntN l 2 = 2 := by
  have e0 : rwAt l 0 = rwA 0 := by simp [rwAt]
  have e1 : rwAt l 1 = rwA 1 := by simp [rwAt]
  have h1 : appE s00 (recR s00 (rwA 0)) = 0 := by kernel_rfl
  have h2 : stp s00 (rwA 0) = ⟨1, 0, [⟨⟨#[97]⟩, 0, ⟨#[]⟩, -1, -1⟩], [], [], [], []⟩ := by rw [stp_yes h1]; kernel_rfl
  have h3 : appE ⟨1, 0, [⟨⟨#[97]⟩, 0, ⟨#[]⟩, -1, -1⟩], [], [], [], []⟩ (recR ⟨1, 0, [⟨⟨#[97]⟩, 0, ⟨#[]⟩, -1, -1⟩], [], [], [], []⟩ (rwA 1)) = 0 := by kernel_rfl
  have h4 : stp ⟨1, 0, [⟨⟨#[97]⟩, 0, ⟨#[]⟩, -1, -1⟩], [], [], [], []⟩ (rwA 1) = ⟨1, 0, [⟨⟨#[97]⟩, 0, ⟨#[]⟩, -1, -1⟩, ⟨⟨#[98]⟩, 0, ⟨#[]⟩, -1, -1⟩], [], [], [], []⟩ := by rw [stp_yes h3]; kernel_rfl
  have g1 : stN l 1 = ⟨1, 0, [⟨⟨#[97]⟩, 0, ⟨#[]⟩, -1, -1⟩], [], [], [], []⟩ := by rw [stN, e0]; exact h2
  refine ⟨by rw [stN, g1, e1]; exact h4, ?_⟩
  simp only [cntN]
  rw [g1, e0, e1, show stN l 0 = s00 from rfl, if_pos h1, if_pos h3]
theorem cntN_two (l : List Rw) : ∀ k, 2 ≤ k → 2 ≤ cntN l k
  | 0, h => absurd h (by decide)
  | 1, h => absurd h (by decide)
  | 2, _ => by rw [(stN_two l).2]; decide
  | k + 3, _ => by
    have := cntN_two l (k + 2) (by omega)
    rw [cntN]
    omega
theorem cntN_le (l : List Rw) : ∀ k, cntN l k ≤ k
  | 0 => Nat.le_refl _
  | k + 1 => by
    have := cntN_le l k
    rw [cntN]
    split <;> omega
end Go.Proofs.YtdgmdapijhbocaaGreat
