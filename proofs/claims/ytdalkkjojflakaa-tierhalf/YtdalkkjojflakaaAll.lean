/- What holds at all places of a list; the values of a state's parts. -/
import Derived.Test.YtdalkkjojflakaaSta
import Derived.DataShut
namespace Go.Proofs.Ytdalkkjojflakaa
open Go.RowKit
set_option linter.unusedVariables false
set_option linter.unusedSimpArgs false
/-- All of the first n places. -/
def allB (n : Nat) (p : Nat → Bool) : Bool := (List.range n).all p
theorem allB_t {n : Nat} {p : Nat → Bool} (h : ∀ j, j < n → p j = true) : allB n p = true := by simp [allB]; exact h
theorem allB_f {n k : Nat} {p : Nat → Bool} (hk : k < n) (h : p k = false) : allB n p = false := by simp [allB]; exact ⟨k, hk, h⟩
theorem allB_iff {n : Nat} {p : Nat → Bool} : allB n p = true ↔ ∀ j, j < n → p j = true := by simp [allB]
theorem allB_congr {n : Nat} {p q : Nat → Bool} (h : ∀ j, j < n → p j = q j) : allB n p = allB n q := by
  cases e : allB n q
  · obtain ⟨k, hk, hq⟩ : ∃ k, k < n ∧ q k = false := by simpa [allB] using e
    exact allB_f hk ((h k hk).trans hq)
  · exact allB_t fun j hj => (h j hj).trans (allB_iff.1 e j hj)
abbrev buV (x : Bu) : Value := .agg #[.string x.nam, .int .i64 x.mode, .string x.pre, .int .i64 x.fre, .int .i64 x.dro]
abbrev veV (x : Ve) (u : Value) : Value := .agg #[.int .i64 x.id, .string x.bu, .string x.ke, .bool x.nul, .bool x.mar, .int .i64 x.size, .int .i64 x.time, .int .i64 x.tier, u, .int .i64 x.vol, .int .i64 x.pos, .int .i64 x.til]
abbrev paV (x : Pa) (u : Value) : Value := .agg #[.int .i64 x.n, .int .i64 x.size, u]
abbrev upV (x : Up) (u : Value) : Value := .agg #[.int .i64 x.id, .string x.bu, .string x.ke, u]
abbrev akV (x : Ak) : Value := .agg #[.int .i64 x.ver, .int .i64 x.days, .int .i64 x.cls]
abbrev stV (S : St) (b v u q g : Value) : Value := .agg #[.int .i64 S.next, .int .i64 S.clock, b, v, u, q, g]
theorem Lst.form {α : Type} {R : World → Nat → Nat → α → Prop} {size : Nat} {d : α} {w : World} {v : Value} {xs : List α} (h : Lst R size d w v xs) : ∃ a cap, v = .slice a xs.length cap ∧ xs.length ≤ cap ∧ cap ≤ maxLen := by
  obtain ⟨a, cap, e, h1, h2, _⟩ := h; exact ⟨a, cap, e, h1, h2⟩
theorem Lst.at {α : Type} {R : World → Nat → Nat → α → Prop} {size : Nat} {d : α} {w : World} {a : Option Addr} {n cap : Nat} {xs : List α} (h : Lst R size d w (.slice a n cap) xs) {i : Nat} (hi : i < xs.length) : ∃ b o, a = some ⟨b, o, none⟩ ∧ R w b (o + i * size) (xs.getD i d) := by
  obtain ⟨a', cap', e, h1, h2, h3⟩ := h
  simp at e
  obtain ⟨rfl, _⟩ := e
  exact h3 i hi
theorem Lst.len {α : Type} {R : World → Nat → Nat → α → Prop} {size : Nat} {d : α} {w : World} {a : Option Addr} {n cap : Nat} {xs : List α} (h : Lst R size d w (.slice a n cap) xs) : n = xs.length ∧ n ≤ cap ∧ cap ≤ maxLen := by
  obtain ⟨a', cap', e, h1, h2, h3⟩ := h
  simp at e
  obtain ⟨rfl, rfl, rfl⟩ := e
  exact ⟨rfl, h1, h2⟩
theorem wf_lo {n : Int} (h : (Lit.int .i64 n).wf = true) : -9223372036854775808 ≤ n ∧ n ≤ 9223372036854775807 := by
  have e := (Lit.wf_int_iff .i64 n).1 h
  have a : IntKind.i64.min = -9223372036854775808 := by decide
  have b : IntKind.i64.max = 9223372036854775807 := by decide
  rw [a, b] at e
  exact e
theorem bl1 (w : World) (o : Obj) : Below w.heap.size w (w.alloc o) := bl_alloc (Below.refl _ _) o
end Go.Proofs.Ytdalkkjojflakaa
