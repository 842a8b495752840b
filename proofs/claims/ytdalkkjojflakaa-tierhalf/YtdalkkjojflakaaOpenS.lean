/- How a state that came in is read. -/
import Derived.Test.YtdalkkjojflakaaOpenL
import Derived.Test.YtdalkkjojflakaaSta
namespace Go.Proofs.Ytdalkkjojflakaa
open Go.ChangeShapes Go.WideShapes Go.ChangeAt Go.RowKit Go.Deep
set_option maxRecDepth 100000
set_option linter.unusedVariables false
set_option linter.unusedSimpArgs false
theorem sInt : Try.prog.cellsOf 3 = 1 := by kernel_rfl
theorem sBool : Try.prog.cellsOf 4 = 1 := by kernel_rfl
theorem sStr : Try.prog.cellsOf 9 = 1 := by kernel_rfl
theorem sInts : Try.prog.cellsOf 22 = 1 := by kernel_rfl
theorem sRule : Try.prog.cellsOf 100 = 3 := by kernel_rfl
theorem sBu : Try.prog.cellsOf 102 = 5 := by kernel_rfl
theorem sVe : Try.prog.cellsOf 83 = 12 := by kernel_rfl
theorem sPa : Try.prog.cellsOf 111 = 3 := by kernel_rfl
theorem sUp : Try.prog.cellsOf 108 = 4 := by kernel_rfl
theorem sAk : Try.prog.cellsOf 113 = 3 := by kernel_rfl
theorem sBus : Try.prog.cellsOf 54 = 1 := by kernel_rfl
theorem sVes : Try.prog.cellsOf 55 = 1 := by kernel_rfl
theorem sPas : Try.prog.cellsOf 106 = 1 := by kernel_rfl
theorem sUps : Try.prog.cellsOf 56 = 1 := by kernel_rfl
theorem sAks : Try.prog.cellsOf 57 = 1 := by kernel_rfl
theorem sSta : Try.prog.cellsOf 59 = 7 := by kernel_rfl
section
variable {H : Type} {enc : TypeId × Value → H} {w : World} {base : Nat} {spare : Nat → Bool} {held : Bool} {fuel : Nat} {v : Value} {x : DataW H × List MemPlace}
theorem open_ints (h : DataW.trod enc Try.prog w base spare held fuel 22 [v] = some x) : ∃ xs, Lst RInt 1 0 w v xs := by
  refine open_list RInt 1 0 _ _ Try.underlying22 sInt (by decide) h ?_
  intro fuel' b p cs y hl k ht
  match cs, hl with
  | [c0], _ =>
    obtain ⟨g, e1, _, w1⟩ := DataW.trod_int Try.underlying3 ht
    simp at e1
    subst e1
    exact ⟨g, k 0 (by decide), w1⟩
theorem open_aks (h : DataW.trod enc Try.prog w base spare held fuel 57 [v] = some x) : ∃ xs, Lst RAk 3 ak0 w v xs := by
  refine open_list RAk 3 ak0 _ _ Try.underlying57 sAk (by decide) h ?_
  intro fuel' b p cs y hl k ht
  match cs, hl with
  | [c0, c1, c2], _ =>
    obtain ⟨xs, n, _, _, _, hlen, hx⟩ := DataW.trod_struct Try.underlying113 ht
    match xs, hlen with
    | [y0, y1, y2], _ =>
      have h0 := hx 0 _ rfl
      have h1 := hx 1 _ rfl
      have h2 := hx 2 _ rfl
      simp [Value.cells, sInt, sBool, sStr, sInts, sRule, sBu, sVe, sPa, sUp, sAk, sBus, sVes, sPas, sUps, sAks] at h0 h1 h2
      obtain ⟨x0, e0, _, w0⟩ := DataW.trod_int Try.underlying3 h0
      simp at e0
      subst e0
      obtain ⟨x1, e1, _, w1⟩ := DataW.trod_int Try.underlying3 h1
      simp at e1
      subst e1
      obtain ⟨x2, e2, _, w2⟩ := DataW.trod_int Try.underlying3 h2
      simp at e2
      subst e2
      exact ⟨⟨x0, x1, x2⟩, k 0 (by decide), k 1 (by decide), k 2 (by decide), w0⟩
theorem open_pas (h : DataW.trod enc Try.prog w base spare held fuel 106 [v] = some x) : ∃ xs, Lst RPa 3 pa0 w v xs := by
  refine open_list RPa 3 pa0 _ _ Try.underlying106 sPa (by decide) h ?_
  intro fuel' b p cs y hl k ht
  match cs, hl with
  | [c0, c1, c2], _ =>
    obtain ⟨xs, n, _, _, _, hlen, hx⟩ := DataW.trod_struct Try.underlying111 ht
    match xs, hlen with
    | [y0, y1, y2], _ =>
      have h0 := hx 0 _ rfl
      have h1 := hx 1 _ rfl
      have h2 := hx 2 _ rfl
      simp [Value.cells, sInt, sBool, sStr, sInts, sRule, sBu, sVe, sPa, sUp, sAk, sBus, sVes, sPas, sUps, sAks] at h0 h1 h2
      obtain ⟨x0, e0, _, w0⟩ := DataW.trod_int Try.underlying3 h0
      simp at e0
      subst e0
      obtain ⟨x1, e1, _, w1⟩ := DataW.trod_int Try.underlying3 h1
      simp at e1
      subst e1
      obtain ⟨x2, r2⟩ := open_ints h2
      exact ⟨⟨x0, x1, x2⟩, k 0 (by decide), k 1 (by decide), ⟨_, k 2 (by decide), r2⟩⟩
theorem open_ups (h : DataW.trod enc Try.prog w base spare held fuel 56 [v] = some x) : ∃ xs, Lst RUp 4 up0 w v xs := by
  refine open_list RUp 4 up0 _ _ Try.underlying56 sUp (by decide) h ?_
  intro fuel' b p cs y hl k ht
  match cs, hl with
  | [c0, c1, c2, c3], _ =>
    obtain ⟨xs, n, _, _, _, hlen, hx⟩ := DataW.trod_struct Try.underlying108 ht
    match xs, hlen with
    | [y0, y1, y2, y3], _ =>
      have h0 := hx 0 _ rfl
      have h1 := hx 1 _ rfl
      have h2 := hx 2 _ rfl
      have h3 := hx 3 _ rfl
      simp [Value.cells, sInt, sBool, sStr, sInts, sRule, sBu, sVe, sPa, sUp, sAk, sBus, sVes, sPas, sUps, sAks] at h0 h1 h2 h3
      obtain ⟨x0, e0, _, w0⟩ := DataW.trod_int Try.underlying3 h0
      simp at e0
      subst e0
      obtain ⟨x1, e1, _, w1⟩ := DataW.trod_string Try.underlying9 h1
      simp at e1
      subst e1
      obtain ⟨x2, e2, _, w2⟩ := DataW.trod_string Try.underlying9 h2
      simp at e2
      subst e2
      obtain ⟨x3, r3⟩ := open_pas h3
      exact ⟨⟨x0, x1, x2, x3⟩, k 0 (by decide), k 1 (by decide), k 2 (by decide), ⟨_, k 3 (by decide), r3⟩, w1, w2⟩
theorem open_ves (h : DataW.trod enc Try.prog w base spare held fuel 55 [v] = some x) : ∃ xs, Lst RVe 12 ve0 w v xs := by
  refine open_list RVe 12 ve0 _ _ Try.underlying55 sVe (by decide) h ?_
  intro fuel' b p cs y hl k ht
  match cs, hl with
  | [c0, c1, c2, c3, c4, c5, c6, c7, c8, c9, c10, c11], _ =>
    obtain ⟨xs, n, _, _, _, hlen, hx⟩ := DataW.trod_struct Try.underlying83 ht
    match xs, hlen with
    | [y0, y1, y2, y3, y4, y5, y6, y7, y8, y9, y10, y11], _ =>
      have h0 := hx 0 _ rfl
      have h1 := hx 1 _ rfl
      have h2 := hx 2 _ rfl
      have h3 := hx 3 _ rfl
      have h4 := hx 4 _ rfl
      have h5 := hx 5 _ rfl
      have h6 := hx 6 _ rfl
      have h7 := hx 7 _ rfl
      have h8 := hx 8 _ rfl
      have h9 := hx 9 _ rfl
      have h10 := hx 10 _ rfl
      have h11 := hx 11 _ rfl
      simp [Value.cells, sInt, sBool, sStr, sInts, sRule, sBu, sVe, sPa, sUp, sAk, sBus, sVes, sPas, sUps, sAks] at h0 h1 h2 h3 h4 h5 h6 h7 h8 h9 h10 h11
      obtain ⟨x0, e0, _, w0⟩ := DataW.trod_int Try.underlying3 h0
      simp at e0
      subst e0
      obtain ⟨x1, e1, _, w1⟩ := DataW.trod_string Try.underlying9 h1
      simp at e1
      subst e1
      obtain ⟨x2, e2, _, w2⟩ := DataW.trod_string Try.underlying9 h2
      simp at e2
      subst e2
      obtain ⟨x3, e3, _⟩ := DataW.trod_bool Try.underlying4 h3
      simp at e3
      subst e3
      obtain ⟨x4, e4, _⟩ := DataW.trod_bool Try.underlying4 h4
      simp at e4
      subst e4
      obtain ⟨x5, e5, _, w5⟩ := DataW.trod_int Try.underlying3 h5
      simp at e5
      subst e5
      obtain ⟨x6, e6, _, w6⟩ := DataW.trod_int Try.underlying3 h6
      simp at e6
      subst e6
      obtain ⟨x7, e7, _, w7⟩ := DataW.trod_int Try.underlying3 h7
      simp at e7
      subst e7
      obtain ⟨x8, r8⟩ := open_ints h8
      obtain ⟨x9, e9, _, w9⟩ := DataW.trod_int Try.underlying3 h9
      simp at e9
      subst e9
      obtain ⟨x10, e10, _, w10⟩ := DataW.trod_int Try.underlying3 h10
      simp at e10
      subst e10
      obtain ⟨x11, e11, _, w11⟩ := DataW.trod_int Try.underlying3 h11
      simp at e11
      subst e11
      exact ⟨⟨x0, x1, x2, x3, x4, x5, x6, x7, x8, x9, x10, x11⟩, k 0 (by decide), k 1 (by decide), k 2 (by decide), k 3 (by decide), k 4 (by decide), k 5 (by decide), k 6 (by decide), k 7 (by decide), ⟨_, k 8 (by decide), r8⟩, k 9 (by decide), k 10 (by decide), k 11 (by decide), w1, w2⟩
theorem open_bus (h : DataW.trod enc Try.prog w base spare held fuel 54 [v] = some x) : ∃ xs, Lst RBu 5 bu0 w v xs := by
  refine open_list RBu 5 bu0 _ _ Try.underlying54 sBu (by decide) h ?_
  intro fuel' b p cs y hl k ht
  match cs, hl with
  | [c0, c1, c2, c3, c4], _ =>
    obtain ⟨xs, n, _, _, _, hlen, hx⟩ := DataW.trod_struct Try.underlying102 ht
    match xs, hlen with
    | [y0, y1, y2], _ =>
      have h0 := hx 0 _ rfl
      have h1 := hx 1 _ rfl
      have h2 := hx 2 _ rfl
      simp [Value.cells, sInt, sBool, sStr, sInts, sRule, sBu, sVe, sPa, sUp, sAk, sBus, sVes, sPas, sUps, sAks] at h0 h1 h2
      obtain ⟨x0, e0, _, w0⟩ := DataW.trod_string Try.underlying9 h0
      simp at e0
      subst e0
      obtain ⟨x1, e1, _, w1⟩ := DataW.trod_int Try.underlying3 h1
      simp at e1
      subst e1
      obtain ⟨zs, n', _, _, _, hlen', hx'⟩ := DataW.trod_struct Try.underlying100 h2
      match zs, hlen' with
      | [z0, z1, z2], _ =>
      have g0 := hx' 0 _ rfl
      have g1 := hx' 1 _ rfl
      have g2 := hx' 2 _ rfl
      simp [Value.cells, sInt, sBool, sStr, sInts, sRule, sBu, sVe, sPa, sUp, sAk, sBus, sVes, sPas, sUps, sAks] at g0 g1 g2
      obtain ⟨q0, i0, _, v0⟩ := DataW.trod_string Try.underlying9 g0
      obtain ⟨q1, i1, _, v1⟩ := DataW.trod_int Try.underlying3 g1
      obtain ⟨q2, i2, _, v2⟩ := DataW.trod_int Try.underlying3 g2
      simp at i0 i1 i2
      subst i0 i1 i2
      exact ⟨⟨x0, x1, q0, q1, q2⟩, k 0 (by decide), k 1 (by decide), k 2 (by decide), k 3 (by decide), k 4 (by decide), w0, v0⟩
end
theorem array7 {α : Type} {cs : Array α} (h : cs.size = 7) : ∃ c0 c1 c2 c3 c4 c5 c6, cs = #[c0, c1, c2, c3, c4, c5, c6] := by
  obtain ⟨l⟩ := cs
  match l, h with
  | [c0, c1, c2, c3, c4, c5, c6], _ => exact ⟨c0, c1, c2, c3, c4, c5, c6, rfl⟩
theorem open_state {H : Type} {enc : TypeId × Value → H} {w : World} {base : Nat} {spare : Nat → Bool} {held : Bool} {r : Reach} {b0 : Nat} {v : Value} {d : DataW H} {p : List MemPlace}
    (hv : Value.okWide Try.prog w r b0 59 v) (h : DataW.Trod enc Try.prog w base spare held 59 v d p) :
    ∃ (b z u q g : Value) (S : St), v = .agg #[.int .i64 S.next, .int .i64 S.clock, b, z, u, q, g] ∧ Sta w b z u q g S ∧ (Lit.int .i64 S.next).wf = true ∧ (Lit.int .i64 S.clock).wf = true := by
  obtain ⟨cs, rfl, hsz⟩ := okWide_struct Try.underlying59 hv
  obtain ⟨c0, c1, c2, c3, c4, c5, c6, rfl⟩ := array7 (hsz.trans sSta)
  obtain ⟨fuel, hf⟩ := h
  obtain ⟨xs, n, _, _, _, hlen, hx⟩ := DataW.trod_struct Try.underlying59 hf
  match xs, hlen with
  | [y0, y1, y2, y3, y4, y5, y6], _ =>
    have h0 := hx 0 _ rfl
    have h1 := hx 1 _ rfl
    have h2 := hx 2 _ rfl
    have h3 := hx 3 _ rfl
    have h4 := hx 4 _ rfl
    have h5 := hx 5 _ rfl
    have h6 := hx 6 _ rfl
    simp [Value.cells, sInt, sBool, sStr, sInts, sRule, sBu, sVe, sPa, sUp, sAk, sBus, sVes, sPas, sUps, sAks] at h0 h1 h2 h3 h4 h5 h6
    obtain ⟨x0, e0, _, w0⟩ := DataW.trod_int Try.underlying3 h0
    obtain ⟨x1, e1, _, w1⟩ := DataW.trod_int Try.underlying3 h1
    simp at e0 e1
    subst e0 e1
    obtain ⟨x2, r2⟩ := open_bus h2
    obtain ⟨x3, r3⟩ := open_ves h3
    obtain ⟨x4, r4⟩ := open_ups h4
    obtain ⟨x5, r5⟩ := open_aks h5
    obtain ⟨x6, r6⟩ := open_ints h6
    exact ⟨_, _, _, _, _, ⟨x0, x1, x2, x3, x4, x5, x6⟩, rfl, ⟨r2, r3, r4, r5, r6⟩, w0, w1⟩
end Go.Proofs.Ytdalkkjojflakaa
