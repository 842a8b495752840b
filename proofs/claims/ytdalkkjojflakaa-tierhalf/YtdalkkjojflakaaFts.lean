/- Lists of a state that are not too long, and whose texts and numbers can be read. -/
import Derived.Test.YtdalkkjojflakaaSta
namespace Go.Proofs.Ytdalkkjojflakaa
open Go.RowKit
set_option linter.unusedVariables false
def FitI (l : List Int) : Prop := l.length * 8 ≤ 140737488355328
def FitP (l : List Pa) : Prop := l.length * 40 ≤ 140737488355328 ∧ ∀ x ∈ l, FitI x.sec
structure FitS (S : St) : Prop where
  bus : S.bus.length * 56 ≤ 140737488355328
  ves : S.ves.length * 120 ≤ 140737488355328
  ups : S.ups.length * 64 ≤ 140737488355328
  que : S.que.length * 24 ≤ 140737488355328
  gone : FitI S.gone
  vsec : ∀ x ∈ S.ves, FitI x.sec
  upar : ∀ x ∈ S.ups, FitP x.parts
theorem Lst.all {α : Type} {R : World → Nat → Nat → α → Prop} {size : Nat} {d : α} {w : World} {v : Value} {xs : List α} {p : α → Prop} (h : Lst R size d w v xs) (f : ∀ b q x, R w b q x → p x) : ∀ x ∈ xs, p x := by
  intro x hx
  obtain ⟨k, hk, e⟩ := List.mem_iff_getElem.1 hx
  obtain ⟨_, _, _, _, _, h3⟩ := h
  obtain ⟨_, _, _, r⟩ := h3 k hk
  have e2 : xs.getD k d = x := by rw [List.getD_eq_getElem?_getD, List.getElem?_eq_getElem hk]; exact e
  rw [e2] at r
  exact f _ _ _ r
theorem Ints.wfs {w : World} {v : Value} {xs : List Int} (h : Ints w v xs) : ∀ x ∈ xs, (Lit.int .i64 x).wf = true := h.all fun _ _ _ r => r.2
structure WfS (S : St) : Prop where
  bus : ∀ x ∈ S.bus, x.nam.size ≤ maxLen ∧ x.pre.size ≤ maxLen
  ves : ∀ x ∈ S.ves, (x.bu.size ≤ maxLen ∧ x.ke.size ≤ maxLen) ∧ ∀ n ∈ x.sec, (Lit.int .i64 n).wf = true
  ups : ∀ x ∈ S.ups, (x.bu.size ≤ maxLen ∧ x.ke.size ≤ maxLen) ∧ ∀ p ∈ x.parts, ∀ n ∈ p.sec, (Lit.int .i64 n).wf = true
  que : ∀ x ∈ S.que, (Lit.int .i64 x.ver).wf = true
  gone : ∀ n ∈ S.gone, (Lit.int .i64 n).wf = true
theorem RPa.wfs {w : World} {b p : Nat} {x : Pa} (h : RPa w b p x) : ∀ n ∈ x.sec, (Lit.int .i64 n).wf = true := by
  obtain ⟨_, _, hi⟩ := h.c2
  exact Ints.wfs hi
theorem Sta.wfs {w : World} {b v u q g : Value} {S : St} (h : Sta w b v u q g S) : WfS S where
  bus := h.bus.all fun _ _ _ r => ⟨r.s0, r.s2⟩
  ves := h.ves.all fun _ _ _ r => ⟨⟨r.s1, r.s2⟩, by obtain ⟨_, _, hi⟩ := r.c8; exact Ints.wfs hi⟩
  ups := h.ups.all fun _ _ _ r => ⟨⟨r.s1, r.s2⟩, by obtain ⟨_, _, hi⟩ := r.c3; exact hi.all fun _ _ _ r => r.wfs⟩
  que := h.que.all fun _ _ _ r => r.wv
  gone := Ints.wfs h.gone
end Go.Proofs.Ytdalkkjojflakaa
