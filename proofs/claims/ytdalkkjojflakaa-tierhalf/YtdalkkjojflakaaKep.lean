/- Worlds in which every cell still has what it had; maps that count. -/
import Derived.Test.YtdalkkjojflakaaCke
import Derived.Maps.OwnOps
import Derived.Maps.Views
namespace Go.Proofs.Ytdalkkjojflakaa
open Go.RowKit Go.Maps
set_option maxRecDepth 100000
set_option linter.unusedVariables false
set_option linter.unusedSimpArgs false
def Keeps (w w' : World) : Prop := ∀ a v, w.cell? a = some v → w'.cell? a = some v
theorem Keeps.of {w w' : World} (h : Below w.heap.size w w') : Keeps w w' := fun _ _ k => scell_up h k
theorem gb_refl (w : World) (r : Option Nat) : w.grownBy w r := ⟨rfl, rfl, rfl, Nat.le_refl _, fun _ _ _ => rfl⟩
theorem gb_trans {a b c : World} {r : Option Nat} (h : a.grownBy b r) (k : b.grownBy c r) : a.grownBy c r :=
  ⟨k.os.trans h.os, k.tape.trans h.tape, k.output.trans h.output, Nat.le_trans h.size k.size, fun i hi hne => (k.block i (Nat.lt_of_lt_of_le hi h.size) hne).trans (h.block i hi hne)⟩
theorem gb_below {a w : World} {r : Option Nat} (h : Below a.heap.size a w) : a.grownBy w r := ⟨h.os, h.tape, h.output, h.size, fun k hk _ => h.block k hk⟩
theorem bl_gb {a b c : World} (h : Below a.heap.size a b) {g : Nat} (k : b.grownBy c (some g)) (hg : a.heap.size ≤ g) : Below a.heap.size a c :=
  h.trans ⟨k.os, k.tape, k.output, k.size, fun i hi => k.block i (Nat.lt_of_lt_of_le hi h.size) (by simp; omega)⟩
/-- Block M is a map. -/
def MapAt (w : World) (M : Nat) : Prop := ∃ es c, w.heap[M]? = some (.map es c)
theorem MapAt.cell {w : World} {M : Nat} (h : MapAt w M) (o : Nat) (s : Option Nat) : w.cell? ⟨M, o, none⟩ = none := by
  obtain ⟨es, c, h⟩ := h
  simp [World.cell?, h]
theorem Keeps.map {w w' : World} {M : Nat} (h : MapAt w M) (hg : w.grownBy w' (some M)) : Keeps w w' := fun a v k => by
  have hb := World.block_lt_of_cell? w a k
  have hs : a.spot = none := World.cell?_spot k
  have hne : a.block ≠ M := by
    intro e
    obtain ⟨b, o, s⟩ := a
    simp only at hs e
    subst hs e
    rw [h.cell o none] at k
    cases k
  have hh := hg.block a.block hb (by simpa using hne)
  rw [← k]
  simp only [World.cell?, hh]
section
variable {w w' : World} (hb : Keeps w w')
include hb
theorem RInt.keep {b p : Nat} {x : Int} (h : RInt w b p x) : RInt w' b p x := ⟨hb _ _ h.1, h.2⟩
theorem Ints.keep {v : Value} {xs : List Int} (h : Ints w v xs) : Ints w' v xs := h.imp fun _ _ _ r => RInt.keep hb r
theorem RBu.keep {b p : Nat} {x : Bu} (h : RBu w b p x) : RBu w' b p x := ⟨hb _ _ h.c0, hb _ _ h.c1, hb _ _ h.c2, hb _ _ h.c3, hb _ _ h.c4, h.s0, h.s2⟩
theorem RVe.keep {b p : Nat} {x : Ve} (h : RVe w b p x) : RVe w' b p x := by
  obtain ⟨u, k, hu⟩ := h.c8
  exact ⟨hb _ _ h.c0, hb _ _ h.c1, hb _ _ h.c2, hb _ _ h.c3, hb _ _ h.c4, hb _ _ h.c5, hb _ _ h.c6, hb _ _ h.c7, ⟨u, hb _ _ k, Ints.keep hb hu⟩, hb _ _ h.c9, hb _ _ h.c10, hb _ _ h.c11, h.s1, h.s2⟩
theorem RPa.keep {b p : Nat} {x : Pa} (h : RPa w b p x) : RPa w' b p x := by
  obtain ⟨u, k, hu⟩ := h.c2
  exact ⟨hb _ _ h.c0, hb _ _ h.c1, ⟨u, hb _ _ k, Ints.keep hb hu⟩⟩
theorem Pas.keep {v : Value} {xs : List Pa} (h : Lst RPa 3 pa0 w v xs) : Lst RPa 3 pa0 w' v xs := h.imp fun _ _ _ r => RPa.keep hb r
theorem RUp.keep {b p : Nat} {x : Up} (h : RUp w b p x) : RUp w' b p x := by
  obtain ⟨u, k, hu⟩ := h.c3
  exact ⟨hb _ _ h.c0, hb _ _ h.c1, hb _ _ h.c2, ⟨u, hb _ _ k, Pas.keep hb hu⟩, h.s1, h.s2⟩
theorem RAk.keep {b p : Nat} {x : Ak} (h : RAk w b p x) : RAk w' b p x := ⟨hb _ _ h.c0, hb _ _ h.c1, hb _ _ h.c2, h.wv⟩
theorem Sta.keep {b v u q g : Value} {S : St} (h : Sta w b v u q g S) : Sta w' b v u q g S :=
  ⟨h.bus.imp fun _ _ _ r => RBu.keep hb r, h.ves.imp fun _ _ _ r => RVe.keep hb r, h.ups.imp fun _ _ _ r => RUp.keep hb r, h.que.imp fun _ _ _ r => RAk.keep hb r, Ints.keep hb h.gone⟩
theorem BoxS.keep {B : Nat} {S : St} {b v u q g : Value} (h : BoxS w B S b v u q g) : BoxS w' B S b v u q g := ⟨hb _ _ h.c0, hb _ _ h.c1, hb _ _ h.c2, hb _ _ h.c3, hb _ _ h.c4, hb _ _ h.c5, hb _ _ h.c6⟩
end
theorem Keeps.trans {a b c : World} (h : Keeps a b) (k : Keeps b c) : Keeps a c := fun x v e => k _ _ (h _ _ e)
/-- Block M is a map that counts numbers. -/
def Cnt (w : World) (M n : Nat) (f : Int → Nat) : Prop :=
  ∃ D : DataW Unit, w.ownsMap Try.prog 3 (plainElem Try.prog 3) M n D ∧ IsMap D ∧ (∀ x, D.atKey (.int .i64 x) (.lit (.int .i64 0)) = .lit (.int .i64 (f x))) ∧ ∀ x, f x ≤ n
theorem law3 : Keyed Try.prog 3 := int_keyed Try.underlying3
theorem zero3 (w : World) : (zeroValue 3).run Try.prog w = .ok (.int .i64 0) w := by kernel_rfl
section
variable {w w' : World} {M n : Nat} {f : Int → Nat}
theorem Cnt.made (w : World) : Cnt (w.alloc (.map #[] 0)) w.heap.size 0 (fun _ => 0) := ⟨.map [], World.ownsMap_made _ _ _ _, ⟨[], rfl⟩, fun x => rfl, fun _ => Nat.le_refl _⟩
theorem Cnt.mapAt (h : Cnt w M n f) : MapAt w M := by
  obtain ⟨D, ⟨es, c, h, _⟩, _⟩ := h
  exact ⟨es, c, h⟩
theorem Cnt.up (h : Cnt w M n f) (hb : Below w.heap.size w w') : Cnt w' M n f := by
  obtain ⟨D, h1, h2⟩ := h
  exact ⟨D, h1.kept (gb_below (r := none) hb) (by simp), h2⟩
theorem Cnt.look (h : Cnt w M n f) {x : Int} (hx : (Lit.int .i64 x).wf = true) : (Instr.lookup 133 (.map (some M)) (.int .i64 x) false).run Try.prog w = .ok (.int .i64 (f x)) w := by
  obtain ⟨D, h1, h2, h3, h4⟩ := h
  obtain ⟨c, hrun, hat, hwc⟩ := h1.lookup_int law3 Try.underlying133 Try.underlying3 (zero3 _) (keyOf_int_mk Try.underlying3 hx)
  rw [h3 x] at hat
  simp at hat
  rw [hrun, hat]
theorem Cnt.tick (h : Cnt w M n f) (hn : n < 1000000000) {x : Int} (hx : (Lit.int .i64 x).wf = true) : ∃ w', (Instr.mapUpdate 133 (.map (some M)) (.int .i64 x) (.int .i64 ((f x : Int) + 1))).run Try.prog w = .ok () w' ∧ Cnt w' M (n + 1) (fun y => if y = x then f y + 1 else f y) ∧ w.grownBy w' (some M) := by
  obtain ⟨D, h1, h2, h3, h4⟩ := h
  have hfx := h4 x
  have hlo : IntKind.i64.min = -9223372036854775808 := by decide
  have hhi : IntKind.i64.max = 9223372036854775807 := by decide
  have hwf : (Lit.int .i64 ((f x : Int) + 1)).wf = true := (Lit.wf_int_iff .i64 _).2 ⟨by omega, by omega⟩
  obtain ⟨w', hrun, r1, r2⟩ := h1.update law3 Try.underlying133 (by unfold maxLen; omega) (keyOf_int_mk Try.underlying3 hx) (plainElem_int Try.underlying3 hwf)
  refine ⟨w', hrun, ⟨_, r1, ?_, fun y => ?_, fun y => ?_⟩, r2⟩
  · obtain ⟨_, _, _, _, _, e⟩ := r1
    exact ⟨_, e⟩
  · by_cases e : y = x
    · subst e
      rw [atKey_put_same h2 (k := .int .i64 y) (by trivial)]
      simp
    · rw [atKey_put_other (by simpa using e), h3 y]
      simp [e]
  · have := h4 y
    simp only
    split <;> omega
end
end Go.Proofs.Ytdalkkjojflakaa
