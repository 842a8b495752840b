/- The two boxes of a law of icehousekeep: the geometry's and the devices', and what a call's answer stored into the second leaves of the others. -/
import Derived.Test.YtdalkkjojflakaaTpD
import Derived.DataShut
import Derived.Test.YtdalkkjojflakaaR4
namespace Go.Proofs.Ytdalkkjojflakaa
open Go.RowKit
set_option maxRecDepth 100000
set_option linter.unusedVariables false
set_option linter.unusedSimpArgs false
abbrev geoL : List Value := [.int .i64 6, .int .i64 2, .int .i64 6, .int .i64 300, .int .i64 3]
structure Kd (w W : World) (gB dB : Nat) (s c v : Value) (D : Dv) : Prop where
  geo : Row W gB 33 geoL
  box : Row W dB 37 [s, c, v, .int .i64 D.fuel]
  dev : Dev W s c v D
  bel : Below w.heap.size w W
  low : w.heap.size ≤ dB
section
variable {w W w' : World} {gB dB : Nat} {s c v s' c' v' : Value} {D D' : Dv}
theorem Kd.up (h : Kd w W gB dB s c v D) (hb : Below W.heap.size W w') : Kd w w' gB dB s c v D := ⟨h.geo.up hb, h.box.up hb, h.dev.up hb, bl_trans h.bel hb, h.low⟩
theorem gb4 (g : Nat) (a b x d : Value) : w'.grownBy ((((w'.setCell ⟨g, 0, none⟩ a).setCell ⟨g, 1, none⟩ b).setCell ⟨g, 2, none⟩ x).setCell ⟨g, 3, none⟩ d) (some g) := gb_set (gb_set (gb_set (gb_set (gb_refl _ _) _ _) _ _) _ _) _ _
theorem Kd.store (h : Kd w W gB dB s c v D) (hb : Below W.heap.size W w') {B : Nat} (hO : ODev w' B s' c' v' D') :
    Kd w ((((w'.setCell ⟨dB, 0, none⟩ s').setCell ⟨dB, 1, none⟩ c').setCell ⟨dB, 2, none⟩ v').setCell ⟨dB, 3, none⟩ (.int .i64 D'.fuel)) gB dB s' c' v' D' := by
  have hr := h.box.up hb
  have hg := h.geo.up hb
  refine ⟨hg.kept (gb4 dB _ _ _ _) (by simpa using hg.apart hr (by decide)), R4 hr _ _ _ _, (O4 hO hr _ _ _ _).dev, ?_, h.low⟩
  have h1 := bl_trans h.bel hb
  have hl := h.low
  exact bl_set (bl_set (bl_set (bl_set h1 hl _) hl _) hl _) hl _
theorem Txs.store {a : Value} {T : ByteArray} (t : Txs W a T) (h : Kd w W gB dB s c v D) (hb : Below W.heap.size W w') (p q r z : Value) :
    Txs ((((w'.setCell ⟨dB, 0, none⟩ p).setCell ⟨dB, 1, none⟩ q).setCell ⟨dB, 2, none⟩ r).setCell ⟨dB, 3, none⟩ z) a T := (t.up hb).kept (h.box.up hb) (by decide) (gb4 dB _ _ _ _)
end
theorem Txs.newAt (u : World) (t : ByteArray) (c : Nat) (fr : Nat × Nat) (h1 : t.size ≤ c) (h2 : c ≤ maxLen) {g m : Nat} (hg : u.heap.size = g) (hm : t.size = m) : Txs (u.alloc (.cells (bytesRow t c) 5 fr)) (.slice (some ⟨g, 0, none⟩) m c) t := by
  subst hg hm
  exact Txs.new u t c fr h1 h2
/-- The value of a text's bytes, written out. -/
theorem Txs.form {w : World} {v : Value} {t : ByteArray} {m : Nat} (h : Txs w v t) (hm : t.size = m) : ∃ g cap, v = .slice (some ⟨g, 0, none⟩) m cap ∧ m ≤ cap ∧ cap ≤ maxLen := by
  obtain ⟨g, cap, fr, rfl, h1, h2, _⟩ := h
  subst hm
  exact ⟨g, cap, rfl, h1, h2⟩
/-- The first bytes of some, as a text. -/
theorem Bts.first {w : World} {a : Option Addr} {n cap : Nat} {xs : List Int} (h : Bts w (.slice a n cap) xs) {m : Nat} (hm : m ≤ n) : Bts w (.slice a m cap) (xs.take m) := by
  obtain ⟨a', cap', e, h1, h2, h3⟩ := h
  simp at e
  obtain ⟨rfl, rfl, rfl⟩ := e
  have hl : (xs.take m).length = m := by simp; omega
  refine ⟨_, _, by rw [hl], by rw [hl]; omega, h2, fun i hi => ?_⟩
  rw [hl] at hi
  obtain ⟨b, o, e, hc⟩ := h3 i (by omega)
  exact ⟨b, o, e, by rw [hc]; simp [List.getD, hi]⟩
theorem bls_none (w : World) : Bls w (.slice none 0 0) [] := ⟨none, 0, rfl, Nat.le_refl _, Nat.zero_le _, fun i hi => absurd hi (Nat.not_lt_zero _)⟩
theorem wf_lo {n : Int} (h : (Lit.int .i64 n).wf = true) : -9223372036854775808 ≤ n ∧ n ≤ 9223372036854775807 := by
  have e := (Lit.wf_int_iff .i64 n).1 h
  have a : IntKind.i64.min = -9223372036854775808 := by decide
  have b : IntKind.i64.max = 9223372036854775807 := by decide
  rw [a, b] at e
  exact e
end Go.Proofs.Ytdalkkjojflakaa
