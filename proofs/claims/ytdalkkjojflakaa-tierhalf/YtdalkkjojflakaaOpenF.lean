/- How a state that came in is read, with the sizes of its lists. -/
import Derived.Test.YtdalkkjojflakaaOpenS
import Derived.Test.YtdalkkjojflakaaFts
import Derived.SizedLaws
namespace Go.Proofs.Ytdalkkjojflakaa
open Go.ChangeShapes Go.WideShapes Go.ChangeAt Go.RowKit Go.Deep
set_option maxRecDepth 100000
set_option linter.unusedVariables false
set_option linter.unusedSimpArgs false
theorem sreach : reachBytes ≤ 140737488355328 := by decide
theorem sweights_all {H : Type} {P : Program} {e : TypeId} {n : Nat} : ∀ {ds : List (DataW H)} {d : DataW H}, d ∈ ds → n ∈ d.weights P e → n ∈ DataW.weightsAll P e ds
  | d :: r, d', hd, hn => by
    simp only [DataW.weightsAll, List.mem_append]
    rcases List.mem_cons.1 hd with rfl | hd
    · exact .inl hn
    · exact .inr (sweights_all hd hn)
theorem szInt : Try.prog.bytesOf 3 = 8 := by kernel_rfl
theorem szBu : Try.prog.bytesOf 102 = 56 := by kernel_rfl
theorem szVe : Try.prog.bytesOf 83 = 120 := by kernel_rfl
theorem szPa : Try.prog.bytesOf 111 = 40 := by kernel_rfl
theorem szUp : Try.prog.bytesOf 108 = 64 := by kernel_rfl
theorem szAk : Try.prog.bytesOf 113 = 24 := by kernel_rfl
section
variable {H : Type} {enc : TypeId × Value → H} {w : World} {base : Nat} {spare : Nat → Bool} {held : Bool} {fuel : Nat} {v : Value} {x : DataW H × List MemPlace}
theorem open_listF {α : Type} (R : World → Nat → Nat → α → Prop) (F : α → Prop) (size bytes : Nat) (d : α) (t e : TypeId) (hu : Try.prog.underlying t = some (.slice e)) (hc : Try.prog.cellsOf e = size) (hs : 0 < size) (hby : Try.prog.bytesOf e = bytes)
    (h : DataW.trod enc Try.prog w base spare held fuel t [v] = some x) (hw : ∀ n ∈ x.1.weights Try.prog t, n ≤ reachBytes)
    (f : ∀ fuel' (b p : Nat) (cs : List Value) (y : DataW H × List MemPlace), cs.length = size → (∀ j, j < size → w.cell? ⟨b, p + j, none⟩ = cs[j]?) → DataW.trod enc Try.prog w base spare held fuel' e cs = some y → (∀ n ∈ y.1.weights Try.prog e, n ≤ reachBytes) → ∃ z, R w b p z ∧ F z) :
    ∃ xs : List α, Lst R size d w v xs ∧ xs.length * bytes ≤ 140737488355328 ∧ ∀ z ∈ xs, F z := by
  rcases open_slice hu h with ⟨hcs, _⟩ | ⟨a, len, cap, m, n, D, Pl, hcs, _, hl, hm, hmm, hxx, hx⟩
  · simp at hcs
    subst hcs
    exact ⟨[], ⟨none, 0, rfl, Nat.le_refl _, Nat.zero_le _, fun i hi => absurd hi (Nat.not_lt_zero _)⟩, by simp, fun z hz => by cases hz⟩
  · simp at hcs
    subst hcs
    have hml : len ≤ m := by rw [hmm]; split <;> omega
    have hwt : ∀ i, i < len → ∀ k ∈ (D i).weights Try.prog e, k ≤ reachBytes := fun i hi k hk => hw k (by
      rw [hxx]
      simp only [DataW.weights, hu, List.mem_cons, List.mem_append]
      exact .inr (.inl (sweights_all (List.mem_map.2 ⟨i, by simpa using hi, rfl⟩) hk)))
    have htop := hw ((len + (m - len)) * bytes) (by rw [hxx]; simp [DataW.weights, hu, hby])
    replace htop := Nat.le_trans htop sreach
    have htop' : len * bytes ≤ 140737488355328 := Nat.le_trans (Nat.mul_le_mul_right _ (by omega)) htop
    have hsp : 0 < len → ∃ b o, a = ⟨b, o, none⟩ := fun h0 => by
      obtain ⟨cs', hc', _⟩ := hx 0 (by omega)
      rw [hc] at hc'
      obtain ⟨_, hl', k⟩ := World.cells?_some hc'
      have k0 := k 0 hs
      rw [List.getElem?_eq_getElem (by omega)] at k0
      exact sspot_of (by simpa [Addr.add] using k0)
    obtain ⟨g, hg⟩ := spick_lt d (n := len) (p := fun i z => (∃ b o, a = ⟨b, o, none⟩ ∧ R w b (o + i * size) z) ∧ F z) fun i hi => by
      obtain ⟨cs', hc', ht⟩ := hx i (by omega)
      rw [hc] at hc'
      obtain ⟨_, hl', k⟩ := World.cells?_some hc'
      obtain ⟨b, o, rfl⟩ := hsp (by omega)
      obtain ⟨z, hz, hF⟩ := f _ b (o + i * size) cs' _ hl' (fun j hj => by have := k j hj; rw [sadd_none, sadd_none] at this; exact this) ht (hwt i hi)
      exact ⟨z, ⟨b, o, rfl, hz⟩, hF⟩
    refine ⟨(List.range len).map g, ⟨some a, cap, by simp, by simpa using hl, hm, fun i hi => ?_⟩, by simpa using htop', fun z hz => ?_⟩
    · have hi' : i < len := by simpa using hi
      rw [sgetD_map_range g _ hi']
      obtain ⟨⟨b, o, rfl, r⟩, _⟩ := hg i hi'
      exact ⟨b, o, rfl, r⟩
    · obtain ⟨i, hi, rfl⟩ := List.mem_map.1 hz
      exact (hg i (by simpa using hi)).2
theorem open_intsF (h : DataW.trod enc Try.prog w base spare held fuel 22 [v] = some x) (hw : ∀ n ∈ x.1.weights Try.prog 22, n ≤ reachBytes) : ∃ xs, Ints w v xs ∧ FitI xs := by
  obtain ⟨xs, hl, hf, hF⟩ := open_listF RInt (fun _ => True) 1 8 0 _ _ Try.underlying22 sInt (by decide) szInt h hw (by
    intro fuel' b p cs y hl k ht hwy
    match cs, hl with
    | [c0], _ =>
      obtain ⟨g, e1, _, w1⟩ := DataW.trod_int Try.underlying3 ht
      simp at e1
      subst e1
      exact ⟨g, ⟨k 0 (by decide), w1⟩, trivial⟩)
  exact ⟨xs, hl, hf⟩
theorem open_aksF (h : DataW.trod enc Try.prog w base spare held fuel 57 [v] = some x) (hw : ∀ n ∈ x.1.weights Try.prog 57, n ≤ reachBytes) : ∃ xs, Lst RAk 3 ak0 w v xs ∧ xs.length * 24 ≤ 140737488355328 := by
  obtain ⟨xs, hl, hf, hF⟩ := open_listF RAk (fun _ => True) 3 24 ak0 _ _ Try.underlying57 sAk (by decide) szAk h hw (by
    intro fuel' b p cs y hl k ht hwy
    match cs, hl with
    | [c0, c1, c2], _ =>
      obtain ⟨xs, n, _, hagg, _, hlen, hx⟩ := DataW.trod_struct Try.underlying113 ht
      match xs, hlen with
      | [y0, y1, y2], _ =>
        have h0 := hx 0 _ rfl
        have h1 := hx 1 _ rfl
        have h2 := hx 2 _ rfl
        simp [Value.cells, sInt, sBool, sStr, sInts, sRule, sBu, sVe, sPa, sUp, sAk, sBus, sVes, sPas, sUps, sAks] at h0 h1 h2
        obtain ⟨x0, e0, _, w0⟩ := DataW.trod_int Try.underlying3 h0
        simp at e0
        subst e0
        obtain ⟨x1, e1, _, w1⟩ := DataW.trod_int Try.underlying3 h1
        simp at e1
        subst e1
        obtain ⟨x2, e2, _, w2⟩ := DataW.trod_int Try.underlying3 h2
        simp at e2
        subst e2
        exact ⟨⟨x0, x1, x2⟩, ⟨k 0 (by decide), k 1 (by decide), k 2 (by decide), w0⟩, trivial⟩)
  exact ⟨xs, hl, hf⟩
theorem open_pasF (h : DataW.trod enc Try.prog w base spare held fuel 106 [v] = some x) (hw : ∀ n ∈ x.1.weights Try.prog 106, n ≤ reachBytes) : ∃ xs, Lst RPa 3 pa0 w v xs ∧ FitP xs := by
  obtain ⟨xs, hl, hf, hF⟩ := open_listF RPa (fun z => FitI z.sec) 3 40 pa0 _ _ Try.underlying106 sPa (by decide) szPa h hw (by
    intro fuel' b p cs y hl k ht hwy
    match cs, hl with
    | [c0, c1, c2], _ =>
      obtain ⟨xs, n, _, hagg, _, hlen, hx⟩ := DataW.trod_struct Try.underlying111 ht
      match xs, hlen with
      | [y0, y1, y2], _ =>
        have e1 : y.1 = .agg [y0.1, y1.1, y2.1] := by simpa using congrArg Prod.fst hagg
        have hW : ∀ (j : Nat) t z, ([3, 3, 22] : List TypeId)[j]? = some t → ([y0.1, y1.1, y2.1] : List (DataW H))[j]? = some z → ∀ k ∈ z.weights Try.prog t, k ≤ reachBytes := fun j t z ht hz k hk => hwy k (by
          rw [e1]
          simp only [DataW.weights, Try.underlying111]
          exact DataW.weights_mem_each ht hz k hk)
        have h0 := hx 0 _ rfl
        have h1 := hx 1 _ rfl
        have h2 := hx 2 _ rfl
        simp [Value.cells, sInt, sBool, sStr, sInts, sRule, sBu, sVe, sPa, sUp, sAk, sBus, sVes, sPas, sUps, sAks] at h0 h1 h2
        obtain ⟨x0, e0, _, w0⟩ := DataW.trod_int Try.underlying3 h0
        simp at e0
        subst e0
        obtain ⟨x1, e1, _, w1⟩ := DataW.trod_int Try.underlying3 h1
        simp at e1
        subst e1
        obtain ⟨x2, r2, f2⟩ := open_intsF h2 (hW 2 _ _ rfl rfl)
        exact ⟨⟨x0, x1, x2⟩, ⟨k 0 (by decide), k 1 (by decide), ⟨_, k 2 (by decide), r2⟩⟩, f2⟩)
  exact ⟨xs, hl, hf, hF⟩
theorem open_upsF (h : DataW.trod enc Try.prog w base spare held fuel 56 [v] = some x) (hw : ∀ n ∈ x.1.weights Try.prog 56, n ≤ reachBytes) : ∃ xs, Lst RUp 4 up0 w v xs ∧ xs.length * 64 ≤ 140737488355328 ∧ ∀ z ∈ xs, FitP z.parts := by
  obtain ⟨xs, hl, hf, hF⟩ := open_listF RUp (fun z => FitP z.parts) 4 64 up0 _ _ Try.underlying56 sUp (by decide) szUp h hw (by
    intro fuel' b p cs y hl k ht hwy
    match cs, hl with
    | [c0, c1, c2, c3], _ =>
      obtain ⟨xs, n, _, hagg, _, hlen, hx⟩ := DataW.trod_struct Try.underlying108 ht
      match xs, hlen with
      | [y0, y1, y2, y3], _ =>
        have e1 : y.1 = .agg [y0.1, y1.1, y2.1, y3.1] := by simpa using congrArg Prod.fst hagg
        have hW : ∀ (j : Nat) t z, ([3, 9, 9, 106] : List TypeId)[j]? = some t → ([y0.1, y1.1, y2.1, y3.1] : List (DataW H))[j]? = some z → ∀ k ∈ z.weights Try.prog t, k ≤ reachBytes := fun j t z ht hz k hk => hwy k (by
          rw [e1]
          simp only [DataW.weights, Try.underlying108]
          exact DataW.weights_mem_each ht hz k hk)
        have h0 := hx 0 _ rfl
        have h1 := hx 1 _ rfl
        have h2 := hx 2 _ rfl
        have h3 := hx 3 _ rfl
        simp [Value.cells, sInt, sBool, sStr, sInts, sRule, sBu, sVe, sPa, sUp, sAk, sBus, sVes, sPas, sUps, sAks] at h0 h1 h2 h3
        obtain ⟨x0, e0, _, w0⟩ := DataW.trod_int Try.underlying3 h0
        simp at e0
        subst e0
        obtain ⟨x1, e1, _, w1⟩ := DataW.trod_string Try.underlying9 h1
        simp at e1
        subst e1
        obtain ⟨x2, e2, _, w2⟩ := DataW.trod_string Try.underlying9 h2
        simp at e2
        subst e2
        obtain ⟨x3, r3, f3⟩ := open_pasF h3 (hW 3 _ _ rfl rfl)
        exact ⟨⟨x0, x1, x2, x3⟩, ⟨k 0 (by decide), k 1 (by decide), k 2 (by decide), ⟨_, k 3 (by decide), r3⟩, w1, w2⟩, f3⟩)
  exact ⟨xs, hl, hf, hF⟩
theorem open_vesF (h : DataW.trod enc Try.prog w base spare held fuel 55 [v] = some x) (hw : ∀ n ∈ x.1.weights Try.prog 55, n ≤ reachBytes) : ∃ xs, Lst RVe 12 ve0 w v xs ∧ xs.length * 120 ≤ 140737488355328 ∧ ∀ z ∈ xs, FitI z.sec := by
  obtain ⟨xs, hl, hf, hF⟩ := open_listF RVe (fun z => FitI z.sec) 12 120 ve0 _ _ Try.underlying55 sVe (by decide) szVe h hw (by
    intro fuel' b p cs y hl k ht hwy
    match cs, hl with
    | [c0, c1, c2, c3, c4, c5, c6, c7, c8, c9, c10, c11], _ =>
      obtain ⟨xs, n, _, hagg, _, hlen, hx⟩ := DataW.trod_struct Try.underlying83 ht
      match xs, hlen with
      | [y0, y1, y2, y3, y4, y5, y6, y7, y8, y9, y10, y11], _ =>
        have e1 : y.1 = .agg [y0.1, y1.1, y2.1, y3.1, y4.1, y5.1, y6.1, y7.1, y8.1, y9.1, y10.1, y11.1] := by simpa using congrArg Prod.fst hagg
        have hW : ∀ (j : Nat) t z, ([3, 9, 9, 4, 4, 3, 3, 3, 22, 3, 3, 3] : List TypeId)[j]? = some t → ([y0.1, y1.1, y2.1, y3.1, y4.1, y5.1, y6.1, y7.1, y8.1, y9.1, y10.1, y11.1] : List (DataW H))[j]? = some z → ∀ k ∈ z.weights Try.prog t, k ≤ reachBytes := fun j t z ht hz k hk => hwy k (by
          rw [e1]
          simp only [DataW.weights, Try.underlying83]
          exact DataW.weights_mem_each ht hz k hk)
        have h0 := hx 0 _ rfl
        have h1 := hx 1 _ rfl
        have h2 := hx 2 _ rfl
        have h3 := hx 3 _ rfl
        have h4 := hx 4 _ rfl
        have h5 := hx 5 _ rfl
        have h6 := hx 6 _ rfl
        have h7 := hx 7 _ rfl
        have h8 := hx 8 _ rfl
        have h9 := hx 9 _ rfl
        have h10 := hx 10 _ rfl
        have h11 := hx 11 _ rfl
        simp [Value.cells, sInt, sBool, sStr, sInts, sRule, sBu, sVe, sPa, sUp, sAk, sBus, sVes, sPas, sUps, sAks] at h0 h1 h2 h3 h4 h5 h6 h7 h8 h9 h10 h11
        obtain ⟨x0, e0, _, w0⟩ := DataW.trod_int Try.underlying3 h0
        simp at e0
        subst e0
        obtain ⟨x1, e1, _, w1⟩ := DataW.trod_string Try.underlying9 h1
        simp at e1
        subst e1
        obtain ⟨x2, e2, _, w2⟩ := DataW.trod_string Try.underlying9 h2
        simp at e2
        subst e2
        obtain ⟨x3, e3, _⟩ := DataW.trod_bool Try.underlying4 h3
        simp at e3
        subst e3
        obtain ⟨x4, e4, _⟩ := DataW.trod_bool Try.underlying4 h4
        simp at e4
        subst e4
        obtain ⟨x5, e5, _, w5⟩ := DataW.trod_int Try.underlying3 h5
        simp at e5
        subst e5
        obtain ⟨x6, e6, _, w6⟩ := DataW.trod_int Try.underlying3 h6
        simp at e6
        subst e6
        obtain ⟨x7, e7, _, w7⟩ := DataW.trod_int Try.underlying3 h7
        simp at e7
        subst e7
        obtain ⟨x8, r8, f8⟩ := open_intsF h8 (hW 8 _ _ rfl rfl)
        obtain ⟨x9, e9, _, w9⟩ := DataW.trod_int Try.underlying3 h9
        simp at e9
        subst e9
        obtain ⟨x10, e10, _, w10⟩ := DataW.trod_int Try.underlying3 h10
        simp at e10
        subst e10
        obtain ⟨x11, e11, _, w11⟩ := DataW.trod_int Try.underlying3 h11
        simp at e11
        subst e11
        exact ⟨⟨x0, x1, x2, x3, x4, x5, x6, x7, x8, x9, x10, x11⟩, ⟨k 0 (by decide), k 1 (by decide), k 2 (by decide), k 3 (by decide), k 4 (by decide), k 5 (by decide), k 6 (by decide), k 7 (by decide), ⟨_, k 8 (by decide), r8⟩, k 9 (by decide), k 10 (by decide), k 11 (by decide), w1, w2⟩, f8⟩)
  exact ⟨xs, hl, hf, hF⟩
theorem open_busF (h : DataW.trod enc Try.prog w base spare held fuel 54 [v] = some x) (hw : ∀ n ∈ x.1.weights Try.prog 54, n ≤ reachBytes) : ∃ xs, Lst RBu 5 bu0 w v xs ∧ xs.length * 56 ≤ 140737488355328 := by
  obtain ⟨xs, hl, hf, hF⟩ := open_listF RBu (fun _ => True) 5 56 bu0 _ _ Try.underlying54 sBu (by decide) szBu h hw (by
    intro fuel' b p cs y hl k ht hwy
    match cs, hl with
    | [c0, c1, c2, c3, c4], _ =>
      obtain ⟨xs, n, _, hagg, _, hlen, hx⟩ := DataW.trod_struct Try.underlying102 ht
      match xs, hlen with
      | [y0, y1, y2], _ =>
        have h0 := hx 0 _ rfl
        have h1 := hx 1 _ rfl
        have h2 := hx 2 _ rfl
        simp [Value.cells, sInt, sBool, sStr, sInts, sRule, sBu, sVe, sPa, sUp, sAk, sBus, sVes, sPas, sUps, sAks] at h0 h1 h2
        obtain ⟨x0, e0, _, w0⟩ := DataW.trod_string Try.underlying9 h0
        simp at e0
        subst e0
        obtain ⟨x1, e1, _, w1⟩ := DataW.trod_int Try.underlying3 h1
        simp at e1
        subst e1
        obtain ⟨zs, n', _, _, _, hlen', hx'⟩ := DataW.trod_struct Try.underlying100 h2
        match zs, hlen' with
        | [z0, z1, z2], _ =>
        have g0 := hx' 0 _ rfl
        have g1 := hx' 1 _ rfl
        have g2 := hx' 2 _ rfl
        simp [Value.cells, sInt, sBool, sStr, sInts, sRule, sBu, sVe, sPa, sUp, sAk, sBus, sVes, sPas, sUps, sAks] at g0 g1 g2
        obtain ⟨q0, i0, _, v0⟩ := DataW.trod_string Try.underlying9 g0
        obtain ⟨q1, i1, _, v1⟩ := DataW.trod_int Try.underlying3 g1
        obtain ⟨q2, i2, _, v2⟩ := DataW.trod_int Try.underlying3 g2
        simp at i0 i1 i2
        subst i0 i1 i2
        exact ⟨⟨x0, x1, q0, q1, q2⟩, ⟨k 0 (by decide), k 1 (by decide), k 2 (by decide), k 3 (by decide), k 4 (by decide), w0, v0⟩, trivial⟩)
  exact ⟨xs, hl, hf⟩
end
theorem open_stateF {H : Type} {enc : TypeId × Value → H} {w : World} {base : Nat} {spare : Nat → Bool} {held : Bool} {r : Reach} {b0 : Nat} {v : Value} {d : DataW H} {p : List MemPlace}
    (hv : Value.okWide Try.prog w r b0 59 v) (h : DataW.Trod enc Try.prog w base spare held 59 v d p) (hw : ∀ n ∈ d.weights Try.prog 59, n ≤ reachBytes) :
    ∃ (b z u q g : Value) (S : St), v = .agg #[.int .i64 S.next, .int .i64 S.clock, b, z, u, q, g] ∧ Sta w b z u q g S ∧ FitS S ∧ (Lit.int .i64 S.next).wf = true ∧ (Lit.int .i64 S.clock).wf = true := by
  obtain ⟨cs, rfl, hsz⟩ := okWide_struct Try.underlying59 hv
  obtain ⟨c0, c1, c2, c3, c4, c5, c6, rfl⟩ := array7 (hsz.trans sSta)
  obtain ⟨fuel, hf⟩ := h
  obtain ⟨xs, n, _, hagg, _, hlen, hx⟩ := DataW.trod_struct Try.underlying59 hf
  match xs, hlen with
  | [y0, y1, y2, y3, y4, y5, y6], _ =>
    have e1 : d = .agg [y0.1, y1.1, y2.1, y3.1, y4.1, y5.1, y6.1] := by simpa using congrArg Prod.fst hagg
    have hW : ∀ (j : Nat) t z, ([3, 3, 54, 55, 56, 57, 22] : List TypeId)[j]? = some t → ([y0.1, y1.1, y2.1, y3.1, y4.1, y5.1, y6.1] : List (DataW H))[j]? = some z → ∀ k ∈ z.weights Try.prog t, k ≤ reachBytes := fun j t z ht hz k hk => hw k (by
      rw [e1]
      simp only [DataW.weights, Try.underlying59]
      exact DataW.weights_mem_each ht hz k hk)
    have h0 := hx 0 _ rfl
    have h1 := hx 1 _ rfl
    have h2 := hx 2 _ rfl
    have h3 := hx 3 _ rfl
    have h4 := hx 4 _ rfl
    have h5 := hx 5 _ rfl
    have h6 := hx 6 _ rfl
    simp [Value.cells, sInt, sBool, sStr, sInts, sRule, sBu, sVe, sPa, sUp, sAk, sBus, sVes, sPas, sUps, sAks] at h0 h1 h2 h3 h4 h5 h6
    obtain ⟨x0, e0, _, w0⟩ := DataW.trod_int Try.underlying3 h0
    obtain ⟨x1, e1, _, w1⟩ := DataW.trod_int Try.underlying3 h1
    simp at e0 e1
    subst e0 e1
    obtain ⟨x2, r2, f2⟩ := open_busF h2 (hW 2 _ _ rfl rfl)
    obtain ⟨x3, r3, f3, g3⟩ := open_vesF h3 (hW 3 _ _ rfl rfl)
    obtain ⟨x4, r4, f4, g4⟩ := open_upsF h4 (hW 4 _ _ rfl rfl)
    obtain ⟨x5, r5, f5⟩ := open_aksF h5 (hW 5 _ _ rfl rfl)
    obtain ⟨x6, r6, f6⟩ := open_intsF h6 (hW 6 _ _ rfl rfl)
    exact ⟨_, _, _, _, _, ⟨x0, x1, x2, x3, x4, x5, x6⟩, rfl, ⟨r2, r3, r4, r5, r6⟩, ⟨f2, f3, f4, f5, f6, g3, g4⟩, w0, w1⟩
end Go.Proofs.Ytdalkkjojflakaa
