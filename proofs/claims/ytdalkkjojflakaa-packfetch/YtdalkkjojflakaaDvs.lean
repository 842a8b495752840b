/- Devices in memory of the call's own. -/
import Derived.Test.YtdalkkjojflakaaJoi
import Derived.Test.YtdalkkjojflakaaBase2
import Derived.Lib.SmallJoins
namespace Go.Proofs.Ytdalkkjojflakaa
open Go.RowKit
set_option linter.unusedVariables false
set_option linter.unusedSimpArgs false

/-- Block g is a row of values of type t, the call's own. -/
def Row (w : World) (g : Nat) (t : TypeId) (cs : List Value) : Prop := w.heap[g]? = some (.cells cs.toArray t (0, 0))
theorem Row.lt {w : World} {g : Nat} {t : TypeId} {cs : List Value} (h : Row w g t cs) : g < w.heap.size := (Array.getElem?_eq_some_iff.1 h).1
theorem Row.up {w w' : World} {g : Nat} {t : TypeId} {cs : List Value} (h : Row w g t cs) (hb : Below w.heap.size w w') : Row w' g t cs := (hb.block g h.lt).trans h
theorem Row.cell {w : World} {g : Nat} {t : TypeId} {cs : List Value} (h : Row w g t cs) (i : Nat) (v : Value) (hi : cs[i]? = some v) : w.cell? ⟨g, i, none⟩ = some v := by
  rw [cell_of_row w g i _ _ _ h]; simpa using hi
theorem Row.unfrozen {w : World} {g : Nat} {t : TypeId} {cs : List Value} (h : Row w g t cs) (i : Nat) : w.frozen? ⟨g, i, none⟩ = false := by
  simp only [Row] at h
  simp [World.frozen?, h]
theorem Row.set {w : World} {g : Nat} {t : TypeId} {cs : List Value} (h : Row w g t cs) (i : Nat) (v : Value) : Row (w.setCell ⟨g, i, none⟩ v) g t (cs.set i v) := by
  unfold Row at *
  rw [Joins.block_setCell h]
  simp
theorem Row.apart {w : World} {g g' : Nat} {t t' : TypeId} {cs cs' : List Value} (h : Row w g t cs) (h' : Row w g' t' cs') (ht : t ≠ t') : g ≠ g' := by
  intro e
  subst e
  unfold Row at *
  rw [h] at h'
  simp at h'
  exact ht h'.2
theorem Row.new (w : World) (t : TypeId) (cs : List Value) : Row (w.alloc (.cells cs.toArray t)) w.heap.size t cs := heap_alloc_new _ _
theorem Blk.new (w : World) (xs : List Int) : Blk (w.alloc (.cells (u8s xs).toArray 5)) w.heap.size xs := heap_alloc_new _ _

/-! Worlds that have grown, with writes to one block alone. -/
theorem gb_refl (w : World) (r : Option Nat) : w.grownBy w r := ⟨rfl, rfl, rfl, Nat.le_refl _, fun _ _ _ => rfl⟩
theorem gb_trans {a b c : World} {r : Option Nat} (h : a.grownBy b r) (k : b.grownBy c r) : a.grownBy c r :=
  ⟨k.os.trans h.os, k.tape.trans h.tape, k.output.trans h.output, Nat.le_trans h.size k.size, fun i hi hne => (k.block i (Nat.lt_of_lt_of_le hi h.size) hne).trans (h.block i hi hne)⟩
theorem gb_set {a w : World} {g : Nat} (h : a.grownBy w (some g)) (i : Nat) (v : Value) : a.grownBy (w.setCell ⟨g, i, none⟩ v) (some g) :=
  gb_trans h ⟨rfl, rfl, rfl, by simp [World.setCell], fun k hk hne => Below.heap_setCell _ _ _ _ (fun e => hne (by rw [e]))⟩
theorem gb_alloc {a w : World} {r : Option Nat} (h : a.grownBy w r) (o : Obj) : a.grownBy (w.alloc o) r := gb_trans h (World.grownBy_alloc w o r)
theorem gb_drew {a w : World} {r : Option Nat} (h : a.grownBy w r) : a.grownBy w.drew r := ⟨h.os, h.tape, h.output, h.size, h.block⟩
theorem gb_below {a w : World} {r : Option Nat} (h : Below a.heap.size a w) : a.grownBy w r := ⟨h.os, h.tape, h.output, h.size, fun k hk _ => h.block k hk⟩
theorem bl_gb {a b c : World} (h : Below a.heap.size a b) {g : Nat} (k : b.grownBy c (some g)) (hg : a.heap.size ≤ g) : Below a.heap.size a c :=
  h.trans ⟨k.os, k.tape, k.output, k.size, fun i hi => k.block i (Nat.lt_of_lt_of_le hi h.size) (by simp; omega)⟩
theorem Row.kept {w w' : World} {g : Nat} {t : TypeId} {cs : List Value} (h : Row w g t cs) {r : Option Nat} (hg : w.grownBy w' r) (hne : some g ≠ r) : Row w' g t cs := (hg.block g h.lt hne).trans h

/-- Which block a value owns bears its tag. -/
theorem own_tag {w : World} {B : Nat} {e : TypeId} {size : Nat} {v : Value} {n : Nat} {xs : List Value} (h : w.ownsRow B e size v n xs) {g : Nat} (hv : v.ownBlock = some g) : ∃ cur, w.heap[g]? = some (.cells cur e (0, 0)) := by
  rcases h.2 with ⟨rfl, _⟩ | ⟨g', cap, cur, rfl, _, hg, _⟩
  · simp [Value.ownBlock] at hv
  · simp [Value.ownBlock] at hv
    subst hv
    exact ⟨cur, hg⟩
theorem own_apart {w : World} {B : Nat} {e : TypeId} {size : Nat} {v : Value} {n : Nat} {xs : List Value} (h : w.ownsRow B e size v n xs) {g : Nat} {t : TypeId} {cs : List Value} (hr : Row w g t cs) (ht : e ≠ t) : v.ownBlock ≠ some g := by
  intro hv
  obtain ⟨cur, hc⟩ := own_tag h hv
  unfold Row at hr
  rw [hr] at hc
  simp at hc
  exact ht hc.2.symm
theorem own_up {w w' : World} {B : Nat} {e : TypeId} {size : Nat} {v : Value} {n : Nat} {xs : List Value} (h : w.ownsRow B e size v n xs) (hb : Below w.heap.size w w') : w'.ownsRow B e size v n xs :=
  h.kept (row := Option.none) (gb_below hb) (by cases v.ownBlock <;> simp)
theorem own_base {w : World} {B B' : Nat} {e : TypeId} {size : Nat} {v : Value} {n : Nat} {xs : List Value} (h : w.ownsRow B e size v n xs) (hB : B' ≤ B) : w.ownsRow B' e size v n xs := by
  refine ⟨h.1, ?_⟩
  rcases h.2 with h0 | ⟨g, cap, cur, e1, hb, r⟩
  · exact .inl h0
  · exact .inr ⟨g, cap, cur, e1, Nat.le_trans hB hb, r⟩
/-- A block that is known whole, as a row that is owned. -/
theorem own_row {w : World} {g : Nat} {t : TypeId} {cs : List Value} {size n : Nat} (h : Row w g t cs) (hn : cs.length = n * size) (hm : n ≤ maxLen) {B : Nat} (hB : B ≤ g) : w.ownsRow B t size (.slice (some ⟨g, 0, none⟩) n n) n cs :=
  ⟨hn, .inr ⟨g, n, cs.toArray, rfl, hB, h, Nat.le_refl _, hm, by simpa using hn, by rw [← hn]; simp⟩⟩
theorem own_cell {w : World} {B : Nat} {e : TypeId} {size : Nat} {v : Value} {n : Nat} {xs : List Value} (h : w.ownsRow B e size v n xs) {j : Nat} {u : Value} (hj : xs[j]? = some u) : ∃ g cap, v = .slice (some ⟨g, 0, none⟩) n cap ∧ w.cell? ⟨g, j, none⟩ = some u := by
  have h' := h
  rcases h.2 with ⟨rfl, h0⟩ | ⟨g, cap, cur, rfl, _, hg, _⟩
  · have h1 := h.1
    rw [h0, Nat.zero_mul] at h1
    rw [List.eq_nil_of_length_eq_zero h1] at hj
    simp at hj
  · have := h'.cells (g := g) rfl j u hj
    rw [show (⟨g, 0, none⟩ : Addr).add j = ⟨g, j, none⟩ by unfold Addr.add; split <;> simp_all] at this
    exact ⟨g, cap, rfl, this⟩
theorem own_form {w : World} {B : Nat} {e : TypeId} {size : Nat} {v : Value} {n : Nat} {xs : List Value} (h : w.ownsRow B e size v n xs) : ∃ a cap, v = .slice a n cap ∧ n ≤ cap ∧ cap ≤ maxLen := by
  rcases h.2 with ⟨rfl, rfl⟩ | ⟨g, cap, cur, rfl, _, _, h1, h2, _⟩
  · exact ⟨_, 0, rfl, Nat.le_refl _, Nat.zero_le _⟩
  · exact ⟨_, cap, rfl, h1, h2⟩

theorem Own.kept {w w' : World} {B : Nat} {v : Value} {xs : List Int} (h : Own w B v xs) {g : Nat} {t : TypeId} {cs : List Value} (hr : Row w g t cs) (ht : 5 ≠ t) (hg : w.grownBy w' (some g)) : Own w' B v xs :=
  World.ownsRow.kept h hg (.inr (own_apart h hr ht))
theorem Own.up {w w' : World} {B : Nat} {v : Value} {xs : List Int} (h : Own w B v xs) (hb : Below w.heap.size w w') : Own w' B v xs := own_up h hb
theorem Own.base {w : World} {B B' : Nat} {v : Value} {xs : List Int} (h : Own w B v xs) (hB : B' ≤ B) : Own w B' v xs := own_base h hB
theorem Blk.own {w : World} {g : Nat} {xs : List Int} (h : Blk w g xs) (hm : xs.length ≤ maxLen) {B : Nat} (hB : B ≤ g) : Own w B (.slice (some ⟨g, 0, none⟩) xs.length xs.length) xs :=
  own_row (size := 1) (cs := u8s xs) h (by simp [u8s]) hm hB

/-! The three lists, in memory of the call's own: 'us': the cells. -/
def RowsIn (w : World) (B : Nat) (us : List Value) (xs : List (List Int)) : Prop := us.length = xs.length ∧ ∀ i, i < xs.length → ∃ u, us[i]? = some u ∧ Own w B u (xs.getD i [])
def WrsIn (w : World) (B : Nat) (us : List Value) (xs : List Wr) : Prop := us.length = xs.length * 2 ∧ ∀ i, i < xs.length → us[i * 2]? = some (.int .i64 (xs.getD i ⟨0, []⟩).pos) ∧ ∃ u, us[i * 2 + 1]? = some u ∧ Own w B u (xs.getD i ⟨0, []⟩).data
def VosIn (w : World) (B : Nat) (us : List Value) (xs : List Vo) : Prop := us.length = xs.length * 3 ∧ ∀ i, i < xs.length → (∃ u, us[i * 3]? = some u ∧ Own w B u (xs.getD i ⟨[], 0, false⟩).data) ∧ us[i * 3 + 1]? = some (.int .i64 (xs.getD i ⟨[], 0, false⟩).synced) ∧ us[i * 3 + 2]? = some (.bool (xs.getD i ⟨[], 0, false⟩).gone)

structure ODev (w : World) (B : Nat) (s c v : Value) (D : Dv) : Prop where
  safe : ∃ us, w.ownsRow B 24 1 s D.safe.length us ∧ RowsIn w B us D.safe
  cache : ∃ us, w.ownsRow B 94 2 c D.cache.length us ∧ WrsIn w B us D.cache
  vols : ∃ us, w.ownsRow B 79 3 v D.vols.length us ∧ VosIn w B us D.vols

section
variable {w w' : World} {B : Nat} {us : List Value}
theorem RowsIn.imp {xs : List (List Int)} {B' : Nat} (h : RowsIn w B us xs) (f : ∀ u ys, Own w B u ys → Own w' B' u ys) : RowsIn w' B' us xs :=
  ⟨h.1, fun i hi => let ⟨u, h1, h2⟩ := h.2 i hi; ⟨u, h1, f _ _ h2⟩⟩
theorem WrsIn.imp {xs : List Wr} {B' : Nat} (h : WrsIn w B us xs) (f : ∀ u ys, Own w B u ys → Own w' B' u ys) : WrsIn w' B' us xs :=
  ⟨h.1, fun i hi => let ⟨h0, u, h1, h2⟩ := h.2 i hi; ⟨h0, u, h1, f _ _ h2⟩⟩
theorem VosIn.imp {xs : List Vo} {B' : Nat} (h : VosIn w B us xs) (f : ∀ u ys, Own w B u ys → Own w' B' u ys) : VosIn w' B' us xs :=
  ⟨h.1, fun i hi => let ⟨⟨u, h1, h2⟩, h3⟩ := h.2 i hi; ⟨⟨u, h1, f _ _ h2⟩, h3⟩⟩
end

theorem ODev.up {w w' : World} {B : Nat} {s c v : Value} {D : Dv} (h : ODev w B s c v D) (hb : Below w.heap.size w w') : ODev w' B s c v D :=
  ⟨let ⟨us, h1, h2⟩ := h.safe; ⟨us, own_up h1 hb, h2.imp fun _ _ k => k.up hb⟩, let ⟨us, h1, h2⟩ := h.cache; ⟨us, own_up h1 hb, h2.imp fun _ _ k => k.up hb⟩, let ⟨us, h1, h2⟩ := h.vols; ⟨us, own_up h1 hb, h2.imp fun _ _ k => k.up hb⟩⟩
theorem ODev.base {w : World} {B B' : Nat} {s c v : Value} {D : Dv} (h : ODev w B s c v D) (hB : B' ≤ B) : ODev w B' s c v D :=
  ⟨let ⟨us, h1, h2⟩ := h.safe; ⟨us, own_base h1 hB, h2.imp fun _ _ k => k.base hB⟩, let ⟨us, h1, h2⟩ := h.cache; ⟨us, own_base h1 hB, h2.imp fun _ _ k => k.base hB⟩, let ⟨us, h1, h2⟩ := h.vols; ⟨us, own_base h1 hB, h2.imp fun _ _ k => k.base hB⟩⟩
/-- Writes to a box: a block of another kind. -/
theorem ODev.kept {w w' : World} {B : Nat} {s c v : Value} {D : Dv} (h : ODev w B s c v D) {g : Nat} {t : TypeId} {cs : List Value} (hr : Row w g t cs) (h1 : 5 ≠ t) (h2 : 24 ≠ t) (h3 : 94 ≠ t) (h4 : 79 ≠ t) (hg : w.grownBy w' (some g)) : ODev w' B s c v D :=
  ⟨let ⟨us, a, b⟩ := h.safe; ⟨us, a.kept hg (.inr (own_apart a hr h2)), b.imp fun _ _ k => k.kept hr h1 hg⟩, let ⟨us, a, b⟩ := h.cache; ⟨us, a.kept hg (.inr (own_apart a hr h3)), b.imp fun _ _ k => k.kept hr h1 hg⟩,
   let ⟨us, a, b⟩ := h.vols; ⟨us, a.kept hg (.inr (own_apart a hr h4)), b.imp fun _ _ k => k.kept hr h1 hg⟩⟩

theorem ODev.dev {w : World} {B : Nat} {s c v : Value} {D : Dv} (h : ODev w B s c v D) : Dev w s c v D := by
  obtain ⟨⟨us, a1, b1, c1⟩, ⟨us2, a2, b2, c2⟩, ⟨us3, a3, b3, c3⟩⟩ := h
  refine ⟨?_, ?_, ?_⟩
  · obtain ⟨a, cap, rfl, h1, h2⟩ := own_form a1
    refine ⟨a, cap, rfl, h1, h2, fun i hi => ?_⟩
    obtain ⟨u, e1, e2⟩ := c1 i hi
    obtain ⟨g, cap', e, hc⟩ := own_cell a1 e1
    simp at e
    obtain ⟨rfl, rfl⟩ := e
    exact ⟨g, 0, rfl, u, by rw [Nat.zero_add]; exact hc, e2.bts⟩
  · obtain ⟨a, cap, rfl, h1, h2⟩ := own_form a2
    refine ⟨a, cap, rfl, h1, h2, fun i hi => ?_⟩
    obtain ⟨e0, u, e1, e2⟩ := c2 i hi
    obtain ⟨g, cap', e, hc⟩ := own_cell a2 e0
    obtain ⟨g', cap'', e', hc'⟩ := own_cell a2 e1
    simp at e
    obtain ⟨rfl, rfl⟩ := e
    simp at e'
    obtain ⟨rfl, rfl⟩ := e'
    exact ⟨g, 0, rfl, by rw [Nat.zero_add]; exact hc, u, by rw [Nat.zero_add]; exact hc', e2.bts⟩
  · obtain ⟨a, cap, rfl, h1, h2⟩ := own_form a3
    refine ⟨a, cap, rfl, h1, h2, fun i hi => ?_⟩
    obtain ⟨⟨u, e1, e2⟩, e3, e4⟩ := c3 i hi
    obtain ⟨g, cap', e, hc⟩ := own_cell a3 e1
    obtain ⟨g', cap'', e', hc'⟩ := own_cell a3 e3
    obtain ⟨g'', cap3, e'', hc''⟩ := own_cell a3 e4
    simp at e
    obtain ⟨rfl, rfl⟩ := e
    simp at e'
    obtain ⟨rfl, rfl⟩ := e'
    simp at e''
    obtain ⟨rfl, rfl⟩ := e''
    exact ⟨g, 0, rfl, ⟨u, by rw [Nat.zero_add]; exact hc, e2.bts⟩, by rw [Nat.zero_add]; exact hc', by rw [Nat.zero_add]; exact hc''⟩
theorem ODev.empty (w : World) (B : Nat) (f : Int) : ODev w B (.slice none 0 0) (.slice none 0 0) (.slice none 0 0) ⟨[], [], [], f⟩ :=
  ⟨⟨[], World.ownsRow_nil _ _ _ _, rfl, fun i hi => absurd hi (Nat.not_lt_zero _)⟩, ⟨[], World.ownsRow_nil _ _ _ _, rfl, fun i hi => absurd hi (Nat.not_lt_zero _)⟩, ⟨[], World.ownsRow_nil _ _ _ _, rfl, fun i hi => absurd hi (Nat.not_lt_zero _)⟩⟩
theorem ret_dev {s c v : Value} {f f' e e' : Int} (hf : f = f') (he : e = e') : Ending.returned (.tuple #[.agg #[s, c, v, .int .i64 f], .int .i64 e]) = .returned (.tuple #[.agg #[s, c, v, .int .i64 f'], .int .i64 e']) := by rw [hf, he]
theorem made_one (z : Value) (m : Nat) : madeCells #[z] m = (List.replicate m z).toArray := by
  apply Array.ext
  · simp [madeCells]
  · intro i h1 h2
    simp [madeCells, Nat.mod_one]
end Go.Proofs.Ytdalkkjojflakaa
