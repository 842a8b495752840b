/- icehouseref.In. -/
import Derived.Test.YtdgmdapijhbocaaGreatG1
import Derived.DataShut
import Derived.BigQuiet
import Derived.Deep.QuietTactic
import Derived.Deep.DeepCutAuto
namespace Go.Proofs.YtdgmdapijhbocaaGreat
open Go.RowKit
set_option linter.unusedVariables false
set_option linter.unusedSimpArgs false

/-- icehouseref.In. -/
def inB (n lo hi : Int) : Bool := decide (lo ≤ n ∧ n ≤ hi)
theorem inB_t {n lo hi : Int} (h : inB n lo hi = true) : lo ≤ n ∧ n ≤ hi := by simpa [inB] using h
theorem inB_f {n lo hi : Int} (h : inB n lo hi = false) : ¬ (lo ≤ n ∧ n ≤ hi) := by simpa [inB] using h

end Go.Proofs.YtdgmdapijhbocaaGreat

/- What a state in memory is, as plain lists. -/
namespace Go.Proofs.YtdgmdapijhbocaaGreat
open Go.RowKit
set_option linter.unusedVariables false
set_option linter.unusedSimpArgs false

structure Bu where
  nam : ByteArray
  mode : Int
  pre : ByteArray
  fre : Int
  dro : Int
structure Ve where
  id : Int
  bu : ByteArray
  ke : ByteArray
  nul : Bool
  mar : Bool
  size : Int
  time : Int
  tier : Int
  sec : List Int
  vol : Int
  pos : Int
  til : Int
structure Pa where
  n : Int
  size : Int
  sec : List Int
structure Up where
  id : Int
  bu : ByteArray
  ke : ByteArray
  parts : List Pa
structure Ak where
  ver : Int
  days : Int
  cls : Int
structure St where
  next : Int
  clock : Int
  bus : List Bu
  ves : List Ve
  ups : List Up
  que : List Ak
  gone : List Int
def bu0 : Bu := ⟨.empty, 0, .empty, 0, 0⟩
def ve0 : Ve := ⟨0, .empty, .empty, false, false, 0, 0, 0, [], 0, 0, 0⟩
def pa0 : Pa := ⟨0, 0, []⟩
def up0 : Up := ⟨0, .empty, .empty, []⟩
def ak0 : Ak := ⟨0, 0, 0⟩

/-- A slice value whose elements, each so many cells, are told by R. -/
def Lst {α : Type} (R : World → Nat → Nat → α → Prop) (size : Nat) (d : α) (w : World) (v : Value) (xs : List α) : Prop :=
  ∃ a cap, v = .slice a xs.length cap ∧ xs.length ≤ cap ∧ cap ≤ maxLen ∧ ∀ i, i < xs.length → ∃ b o, a = some ⟨b, o, none⟩ ∧ R w b (o + i * size) (xs.getD i d)
def RInt (w : World) (b p : Nat) (x : Int) : Prop := w.cell? ⟨b, p, none⟩ = some (.int .i64 x) ∧ (Lit.int .i64 x).wf = true
abbrev Ints (w : World) (v : Value) (xs : List Int) : Prop := Lst RInt 1 0 w v xs
structure RBu (w : World) (b p : Nat) (x : Bu) : Prop where
  c0 : w.cell? ⟨b, p, none⟩ = some (.string x.nam)
  c1 : w.cell? ⟨b, p + 1, none⟩ = some (.int .i64 x.mode)
  c2 : w.cell? ⟨b, p + 2, none⟩ = some (.string x.pre)
  c3 : w.cell? ⟨b, p + 3, none⟩ = some (.int .i64 x.fre)
  c4 : w.cell? ⟨b, p + 4, none⟩ = some (.int .i64 x.dro)
  s0 : x.nam.size ≤ maxLen
  s2 : x.pre.size ≤ maxLen
structure RVe (w : World) (b p : Nat) (x : Ve) : Prop where
  c0 : w.cell? ⟨b, p, none⟩ = some (.int .i64 x.id)
  c1 : w.cell? ⟨b, p + 1, none⟩ = some (.string x.bu)
  c2 : w.cell? ⟨b, p + 2, none⟩ = some (.string x.ke)
  c3 : w.cell? ⟨b, p + 3, none⟩ = some (.bool x.nul)
  c4 : w.cell? ⟨b, p + 4, none⟩ = some (.bool x.mar)
  c5 : w.cell? ⟨b, p + 5, none⟩ = some (.int .i64 x.size)
  c6 : w.cell? ⟨b, p + 6, none⟩ = some (.int .i64 x.time)
  c7 : w.cell? ⟨b, p + 7, none⟩ = some (.int .i64 x.tier)
  c8 : ∃ u, w.cell? ⟨b, p + 8, none⟩ = some u ∧ Ints w u x.sec
  c9 : w.cell? ⟨b, p + 9, none⟩ = some (.int .i64 x.vol)
  c10 : w.cell? ⟨b, p + 10, none⟩ = some (.int .i64 x.pos)
  c11 : w.cell? ⟨b, p + 11, none⟩ = some (.int .i64 x.til)
  s1 : x.bu.size ≤ maxLen
  s2 : x.ke.size ≤ maxLen
structure RPa (w : World) (b p : Nat) (x : Pa) : Prop where
  c0 : w.cell? ⟨b, p, none⟩ = some (.int .i64 x.n)
  c1 : w.cell? ⟨b, p + 1, none⟩ = some (.int .i64 x.size)
  c2 : ∃ u, w.cell? ⟨b, p + 2, none⟩ = some u ∧ Ints w u x.sec
structure RUp (w : World) (b p : Nat) (x : Up) : Prop where
  c0 : w.cell? ⟨b, p, none⟩ = some (.int .i64 x.id)
  c1 : w.cell? ⟨b, p + 1, none⟩ = some (.string x.bu)
  c2 : w.cell? ⟨b, p + 2, none⟩ = some (.string x.ke)
  c3 : ∃ u, w.cell? ⟨b, p + 3, none⟩ = some u ∧ Lst RPa 3 pa0 w u x.parts
  s1 : x.bu.size ≤ maxLen
  s2 : x.ke.size ≤ maxLen
structure RAk (w : World) (b p : Nat) (x : Ak) : Prop where
  c0 : w.cell? ⟨b, p, none⟩ = some (.int .i64 x.ver)
  c1 : w.cell? ⟨b, p + 1, none⟩ = some (.int .i64 x.days)
  c2 : w.cell? ⟨b, p + 2, none⟩ = some (.int .i64 x.cls)
  wv : (Lit.int .i64 x.ver).wf = true
structure Sta (w : World) (b v u q g : Value) (S : St) : Prop where
  bus : Lst RBu 5 bu0 w b S.bus
  ves : Lst RVe 12 ve0 w v S.ves
  ups : Lst RUp 4 up0 w u S.ups
  que : Lst RAk 3 ak0 w q S.que
  gone : Ints w g S.gone

theorem scell_up {w w' : World} (hb : Below w.heap.size w w') {p : Addr} {v : Value} (h : w.cell? p = some v) : w'.cell? p = some v :=
  (hb.cell (World.block_lt_of_cell? w p h)).trans h
theorem Lst.imp {α : Type} {R R' : World → Nat → Nat → α → Prop} {size : Nat} {d : α} {w w' : World} {v : Value} {xs : List α} (h : Lst R size d w v xs) (f : ∀ b p x, R w b p x → R' w' b p x) : Lst R' size d w' v xs := by
  obtain ⟨a, cap, e, h1, h2, h3⟩ := h
  refine ⟨a, cap, e, h1, h2, fun i hi => ?_⟩
  obtain ⟨b, o, e, hc⟩ := h3 i hi
  exact ⟨b, o, e, f _ _ _ hc⟩
section
variable {w w' : World} (hb : Below w.heap.size w w')
include hb
theorem Ints.up {v : Value} {xs : List Int} (h : Ints w v xs) : Ints w' v xs := h.imp fun _ _ _ r => ⟨scell_up hb r.1, r.2⟩
theorem RBu.up {b p : Nat} {x : Bu} (h : RBu w b p x) : RBu w' b p x := ⟨scell_up hb h.c0, scell_up hb h.c1, scell_up hb h.c2, scell_up hb h.c3, scell_up hb h.c4, h.s0, h.s2⟩
theorem RVe.up {b p : Nat} {x : Ve} (h : RVe w b p x) : RVe w' b p x := by
  obtain ⟨u, k, hu⟩ := h.c8
  exact ⟨scell_up hb h.c0, scell_up hb h.c1, scell_up hb h.c2, scell_up hb h.c3, scell_up hb h.c4, scell_up hb h.c5, scell_up hb h.c6, scell_up hb h.c7, ⟨u, scell_up hb k, Ints.up hb hu⟩, scell_up hb h.c9, scell_up hb h.c10, scell_up hb h.c11, h.s1, h.s2⟩
theorem RPa.up {b p : Nat} {x : Pa} (h : RPa w b p x) : RPa w' b p x := by
  obtain ⟨u, k, hu⟩ := h.c2
  exact ⟨scell_up hb h.c0, scell_up hb h.c1, ⟨u, scell_up hb k, Ints.up hb hu⟩⟩
theorem RUp.up {b p : Nat} {x : Up} (h : RUp w b p x) : RUp w' b p x := by
  obtain ⟨u, k, hu⟩ := h.c3
  exact ⟨scell_up hb h.c0, scell_up hb h.c1, scell_up hb h.c2, ⟨u, scell_up hb k, hu.imp fun _ _ _ r => RPa.up hb r⟩, h.s1, h.s2⟩
theorem RAk.up {b p : Nat} {x : Ak} (h : RAk w b p x) : RAk w' b p x := ⟨scell_up hb h.c0, scell_up hb h.c1, scell_up hb h.c2, h.wv⟩
theorem Sta.up {b v u q g : Value} {S : St} (h : Sta w b v u q g S) : Sta w' b v u q g S :=
  ⟨h.bus.imp fun _ _ _ r => RBu.up hb r, h.ves.imp fun _ _ _ r => RVe.up hb r, h.ups.imp fun _ _ _ r => RUp.up hb r, h.que.imp fun _ _ _ r => RAk.up hb r, Ints.up hb h.gone⟩
end
end Go.Proofs.YtdgmdapijhbocaaGreat

/- What holds at all places of a list; the values of a state's parts. -/
namespace Go.Proofs.YtdgmdapijhbocaaGreat
open Go.RowKit
set_option linter.unusedVariables false
set_option linter.unusedSimpArgs false
/-- All of the first n places. -/
def allB (n : Nat) (p : Nat → Bool) : Bool := (List.range n).all p
theorem allB_t {n : Nat} {p : Nat → Bool} (h : ∀ j, j < n → p j = true) : allB n p = true := by simp [allB]; exact h
theorem allB_f {n k : Nat} {p : Nat → Bool} (hk : k < n) (h : p k = false) : allB n p = false := by simp [allB]; exact ⟨k, hk, h⟩
theorem allB_iff {n : Nat} {p : Nat → Bool} : allB n p = true ↔ ∀ j, j < n → p j = true := by simp [allB]
theorem allB_congr {n : Nat} {p q : Nat → Bool} (h : ∀ j, j < n → p j = q j) : allB n p = allB n q := by
  cases e : allB n q
  · obtain ⟨k, hk, hq⟩ : ∃ k, k < n ∧ q k = false := by simpa [allB] using e
    exact allB_f hk ((h k hk).trans hq)
  · exact allB_t fun j hj => (h j hj).trans (allB_iff.1 e j hj)
abbrev buV (x : Bu) : Value := .agg #[.string x.nam, .int .i64 x.mode, .string x.pre, .int .i64 x.fre, .int .i64 x.dro]
abbrev veV (x : Ve) (u : Value) : Value := .agg #[.int .i64 x.id, .string x.bu, .string x.ke, .bool x.nul, .bool x.mar, .int .i64 x.size, .int .i64 x.time, .int .i64 x.tier, u, .int .i64 x.vol, .int .i64 x.pos, .int .i64 x.til]
abbrev paV (x : Pa) (u : Value) : Value := .agg #[.int .i64 x.n, .int .i64 x.size, u]
abbrev upV (x : Up) (u : Value) : Value := .agg #[.int .i64 x.id, .string x.bu, .string x.ke, u]
abbrev akV (x : Ak) : Value := .agg #[.int .i64 x.ver, .int .i64 x.days, .int .i64 x.cls]
abbrev stV (S : St) (b v u q g : Value) : Value := .agg #[.int .i64 S.next, .int .i64 S.clock, b, v, u, q, g]
theorem Lst.form {α : Type} {R : World → Nat → Nat → α → Prop} {size : Nat} {d : α} {w : World} {v : Value} {xs : List α} (h : Lst R size d w v xs) : ∃ a cap, v = .slice a xs.length cap ∧ xs.length ≤ cap ∧ cap ≤ maxLen := by
  obtain ⟨a, cap, e, h1, h2, _⟩ := h; exact ⟨a, cap, e, h1, h2⟩
theorem Lst.at {α : Type} {R : World → Nat → Nat → α → Prop} {size : Nat} {d : α} {w : World} {a : Option Addr} {n cap : Nat} {xs : List α} (h : Lst R size d w (.slice a n cap) xs) {i : Nat} (hi : i < xs.length) : ∃ b o, a = some ⟨b, o, none⟩ ∧ R w b (o + i * size) (xs.getD i d) := by
  obtain ⟨a', cap', e, h1, h2, h3⟩ := h
  simp at e
  obtain ⟨rfl, _⟩ := e
  exact h3 i hi
theorem Lst.len {α : Type} {R : World → Nat → Nat → α → Prop} {size : Nat} {d : α} {w : World} {a : Option Addr} {n cap : Nat} {xs : List α} (h : Lst R size d w (.slice a n cap) xs) : n = xs.length ∧ n ≤ cap ∧ cap ≤ maxLen := by
  obtain ⟨a', cap', e, h1, h2, h3⟩ := h
  simp at e
  obtain ⟨rfl, rfl, rfl⟩ := e
  exact ⟨rfl, h1, h2⟩
theorem wf_lo {n : Int} (h : (Lit.int .i64 n).wf = true) : -9223372036854775808 ≤ n ∧ n ≤ 9223372036854775807 := by
  have e := (Lit.wf_int_iff .i64 n).1 h
  have a : IntKind.i64.min = -9223372036854775808 := by decide
  have b : IntKind.i64.max = 9223372036854775807 := by decide
  rw [a, b] at e
  exact e
theorem bl1 (w : World) (o : Obj) : Below w.heap.size w (w.alloc o) := bl_alloc (Below.refl _ _) o
end Go.Proofs.YtdgmdapijhbocaaGreat

/- slices.IndexFunc, of whatever is asked of each. -/
namespace Go.Proofs.YtdgmdapijhbocaaGreat
open Go.RowKit
set_option maxRecDepth 100000
set_option linter.unusedVariables false
set_option linter.unusedSimpArgs false
/-- The first of n places where it holds; -1: there is none. -/
def firstI : Nat → (Nat → Bool) → Int
  | 0, _ => -1
  | n + 1, p => if p 0 then 0 else (let r := firstI n (fun i => p (i + 1)); if r < 0 then -1 else r + 1)
theorem firstI_f {n : Nat} {p : Nat → Bool} (h : ∀ j, j < n → p j = false) : firstI n p = -1 := by
  induction n generalizing p with
  | zero => rfl
  | succ n ih => simp [firstI, h 0 (by omega), ih (p := fun i => p (i + 1)) fun j hj => h (j + 1) (by omega)]
theorem firstI_t {n k : Nat} {p : Nat → Bool} (hk : k < n) (hp : p k = true) (h : ∀ j, j < k → p j = false) : firstI n p = k := by
  induction n generalizing p k with
  | zero => omega
  | succ n ih =>
    cases k with
    | zero => simp [firstI, hp]
    | succ k =>
      have e := ih (p := fun i => p (i + 1)) (k := k) (by omega) hp fun j hj => h (j + 1) (by omega)
      simp only [firstI, h 0 (by omega), e]
      have : ¬ (k : Int) < 0 := by omega
      simp [this]
theorem firstI_cases (n : Nat) (p : Nat → Bool) : (firstI n p = -1 ∧ ∀ j, j < n → p j = false) ∨ ∃ k, k < n ∧ firstI n p = (k : Int) ∧ p k = true ∧ ∀ j, j < k → p j = false := by
  by_cases h : ∀ j, j < n → p j = false
  · exact .inl ⟨firstI_f h, h⟩
  · right
    have ⟨k, hk⟩ : ∃ k, (k < n ∧ p k = true) ∧ ∀ j, j < k → ¬ (j < n ∧ p j = true) := by
      have ⟨k, hk⟩ : ∃ k, k < n ∧ p k = true := by
        refine Classical.byContradiction fun e => h fun j hj => ?_
        cases hp : p j
        · rfl
        · exact absurd ⟨j, hj, hp⟩ e
      induction k using Nat.strongRecOn with
      | _ k ih =>
        by_cases hm : ∃ m, m < k ∧ m < n ∧ p m = true
        · obtain ⟨m, h1, h2⟩ := hm; exact ih m h1 h2
        · exact ⟨k, hk, fun j hj e => hm ⟨j, hj, e⟩⟩
    have hf : ∀ j, j < k → p j = false := fun j hj => by
      cases hp : p j
      · rfl
      · exact absurd ⟨by omega, hp⟩ (hk.2 j hj)
    exact ⟨k, hk.1.1, firstI_t hk.1.1 hk.1.2 hf, hk.1.2, hf⟩
theorem RInt.up {w w' : World} (hb : Below w.heap.size w w') {b p : Nat} {x : Int} (h : RInt w b p x) : RInt w' b p x := ⟨scell_up hb h.1, h.2⟩
set_option maxHeartbeats 1000000 in
theorem index_findBucket_1 (C1 : Value) (a : Option Addr) (cap : Nat) (xs : List Bu) (p : Nat → Bool) (w : World) (hL : Lst RBu 5 bu0 w (.slice a xs.length cap) xs) (hn : xs.length ≤ 9223372036854775807)
    (hst : ∀ (k : Nat) (wr : World) (X : Bu), k < xs.length → xs.getD k bu0 = X → Below w.heap.size w wr → Calls Tryz.prog 159 #[buV X, C1] wr fun e w' => e = .returned (.bool (p k)) ∧ Below wr.heap.size wr w') :
    Calls Tryz.prog 152 #[.slice a xs.length cap, .func (.func 159) #[] #[C1]] w fun e w' => e = .returned (.int .i64 (firstI xs.length p)) ∧ Below w.heap.size w w' := by
  have HL := hide hL
  have HST := hide hst
  clear hL hst
  obtain ⟨N, hN⟩ : ∃ N, xs.length = N := ⟨_, rfl⟩
  have HN := hide hN
  rw [hN] at hn HL HST ⊢
  clear hN
  go_enter Tryz.func152, Tryz.ntmps152
  go_wp2
  go_loopw [5, 8] (fun _ i wr => ∃ k : Nat, k ≤ N ∧ i = .int .i64 k ∧ Below w.heap.size w wr ∧ ∀ j, j < k → p j = false) (fun _ i _ => N - (intOf i).toNat)
  case atStart => exact ⟨0, Nat.zero_le _, rfl, Below.refl _ _, fun j hj => absurd hj (Nat.not_lt_zero _)⟩
  case round =>
    obtain ⟨k, hk, rfl, hb, hall⟩ := hrel
    have HA := hide hall
    clear hall
    by_cases hlt : k < N
    · obtain ⟨b, o, rfl, r0⟩ := Lst.at (unhide HL) (i := k) (by rw [unhide HN]; exact hlt)
      obtain ⟨X, hX⟩ : ∃ X, xs.getD k bu0 = X := ⟨_, rfl⟩
      rw [hX] at r0
      have r := RBu.up hb r0
      have HX := hide hX
      clear hX r0
      have hI := hb
      have c0 := r.c0
      have c1 := r.c1
      have c2 := r.c2
      have c3 := r.c3
      have c4 := r.c4
      have HI := hide hI
      clear r hI
      go_wp2_with fail
      refine (unhide HST k _ X hlt (unhide HX) (unhide HI)).mono ?_
      rintro e w1 ⟨rfl, hb1⟩
      cases hpk : p k
      · go_wp2
        go_roundw
        case rel => exact ⟨k + 1, by omega, by go_num, bl_trans hb hb1, fun j hj => if e : j < k then unhide HA j e else (show j = k by omega) ▸ hpk⟩
        case measure => simp [intOf]; omega
      · go_wp2
        go_ret
        exact ⟨ret_int (firstI_t hlt hpk (unhide HA)).symm, bl_trans hb hb1⟩
    · obtain rfl : k = N := by omega
      go_wp2
      go_ret
      exact ⟨ret_int (firstI_f (unhide HA)).symm, hb⟩
set_option maxHeartbeats 1000000 in
theorem index_findVersion_1 (C1 : Value) (a : Option Addr) (cap : Nat) (xs : List Ve) (p : Nat → Bool) (w : World) (hL : Lst RVe 12 ve0 w (.slice a xs.length cap) xs) (hn : xs.length ≤ 9223372036854775807)
    (hst : ∀ (k : Nat) (wr : World) (X : Ve) (ua : Option Addr) (un uc : Nat), k < xs.length → xs.getD k ve0 = X → Below w.heap.size w wr → Ints wr (.slice ua un uc) X.sec → Calls Tryz.prog 148 #[veV X (.slice ua un uc), C1] wr fun e w' => e = .returned (.bool (p k)) ∧ Below wr.heap.size wr w') :
    Calls Tryz.prog 147 #[.slice a xs.length cap, .func (.func 148) #[] #[C1]] w fun e w' => e = .returned (.int .i64 (firstI xs.length p)) ∧ Below w.heap.size w w' := by
  have HL := hide hL
  have HST := hide hst
  clear hL hst
  obtain ⟨N, hN⟩ : ∃ N, xs.length = N := ⟨_, rfl⟩
  have HN := hide hN
  rw [hN] at hn HL HST ⊢
  clear hN
  go_enter Tryz.func147, Tryz.ntmps147
  go_wp2
  go_loopw [5, 8] (fun _ i wr => ∃ k : Nat, k ≤ N ∧ i = .int .i64 k ∧ Below w.heap.size w wr ∧ ∀ j, j < k → p j = false) (fun _ i _ => N - (intOf i).toNat)
  case atStart => exact ⟨0, Nat.zero_le _, rfl, Below.refl _ _, fun j hj => absurd hj (Nat.not_lt_zero _)⟩
  case round =>
    obtain ⟨k, hk, rfl, hb, hall⟩ := hrel
    have HA := hide hall
    clear hall
    by_cases hlt : k < N
    · obtain ⟨b, o, rfl, r0⟩ := Lst.at (unhide HL) (i := k) (by rw [unhide HN]; exact hlt)
      obtain ⟨X, hX⟩ : ∃ X, xs.getD k ve0 = X := ⟨_, rfl⟩
      rw [hX] at r0
      have r := RVe.up hb r0
      have HX := hide hX
      clear hX r0
      have hI := hb
      obtain ⟨U, hu, hi⟩ := r.c8
      obtain ⟨ua, uc, rfl, _⟩ := hi.form
      have HII := hide hi
      have c0 := r.c0
      have c1 := r.c1
      have c2 := r.c2
      have c3 := r.c3
      have c4 := r.c4
      have c5 := r.c5
      have c6 := r.c6
      have c7 := r.c7
      have c8 := r.c9
      have c9 := r.c10
      have c10 := r.c11
      have HI := hide hI
      clear r hI hi
      go_wp2_with fail
      refine (unhide HST k _ X _ _ _ hlt (unhide HX) (unhide HI) (unhide HII)).mono ?_
      rintro e w1 ⟨rfl, hb1⟩
      cases hpk : p k
      · go_wp2
        go_roundw
        case rel => exact ⟨k + 1, by omega, by go_num, bl_trans hb hb1, fun j hj => if e : j < k then unhide HA j e else (show j = k by omega) ▸ hpk⟩
        case measure => simp [intOf]; omega
      · go_wp2
        go_ret
        exact ⟨ret_int (firstI_t hlt hpk (unhide HA)).symm, bl_trans hb hb1⟩
    · obtain rfl : k = N := by omega
      go_wp2
      go_ret
      exact ⟨ret_int (firstI_f (unhide HA)).symm, hb⟩
set_option maxHeartbeats 1000000 in
theorem index_findGone_1 (C1 : Value) (a : Option Addr) (cap : Nat) (xs : List Int) (p : Nat → Bool) (w : World) (hL : Lst RInt 1 0 w (.slice a xs.length cap) xs) (hn : xs.length ≤ 9223372036854775807)
    (hst : ∀ (k : Nat) (wr : World) (X : Int), k < xs.length → xs.getD k 0 = X → Below w.heap.size w wr → (Lit.int .i64 X).wf = true → Calls Tryz.prog 172 #[.int .i64 X, C1] wr fun e w' => e = .returned (.bool (p k)) ∧ Below wr.heap.size wr w') :
    Calls Tryz.prog 171 #[.slice a xs.length cap, .func (.func 172) #[] #[C1]] w fun e w' => e = .returned (.int .i64 (firstI xs.length p)) ∧ Below w.heap.size w w' := by
  have HL := hide hL
  have HST := hide hst
  clear hL hst
  obtain ⟨N, hN⟩ : ∃ N, xs.length = N := ⟨_, rfl⟩
  have HN := hide hN
  rw [hN] at hn HL HST ⊢
  clear hN
  go_enter Tryz.func171, Tryz.ntmps171
  go_wp2
  go_loopw [5, 8] (fun _ i wr => ∃ k : Nat, k ≤ N ∧ i = .int .i64 k ∧ Below w.heap.size w wr ∧ ∀ j, j < k → p j = false) (fun _ i _ => N - (intOf i).toNat)
  case atStart => exact ⟨0, Nat.zero_le _, rfl, Below.refl _ _, fun j hj => absurd hj (Nat.not_lt_zero _)⟩
  case round =>
    obtain ⟨k, hk, rfl, hb, hall⟩ := hrel
    have HA := hide hall
    clear hall
    by_cases hlt : k < N
    · obtain ⟨b, o, rfl, r0⟩ := Lst.at (unhide HL) (i := k) (by rw [unhide HN]; exact hlt)
      obtain ⟨X, hX⟩ : ∃ X, xs.getD k 0 = X := ⟨_, rfl⟩
      rw [hX] at r0
      have r := RInt.up hb r0
      have HX := hide hX
      clear hX r0
      have hI := hb
      have c0 := r.1
      rw [Nat.mul_one] at c0
      have HW := hide r.2
      have HI := hide hI
      clear r hI
      go_wp2_with fail
      refine (unhide HST k _ X hlt (unhide HX) (unhide HI) (unhide HW)).mono ?_
      rintro e w1 ⟨rfl, hb1⟩
      cases hpk : p k
      · go_wp2
        go_roundw
        case rel => exact ⟨k + 1, by omega, by go_num, bl_trans hb hb1, fun j hj => if e : j < k then unhide HA j e else (show j = k by omega) ▸ hpk⟩
        case measure => simp [intOf]; omega
      · go_wp2
        go_ret
        exact ⟨ret_int (firstI_t hlt hpk (unhide HA)).symm, bl_trans hb hb1⟩
    · obtain rfl : k = N := by omega
      go_wp2
      go_ret
      exact ⟨ret_int (firstI_f (unhide HA)).symm, hb⟩
end Go.Proofs.YtdgmdapijhbocaaGreat

/- state.rise, of whatever is asked of two neighbours. -/
namespace Go.Proofs.YtdgmdapijhbocaaGreat
open Go.RowKit
set_option maxRecDepth 100000
set_option linter.unusedVariables false
set_option linter.unusedSimpArgs false
set_option maxHeartbeats 1000000 in
theorem rise_goneMayBe_1 (a : Option Addr) (cap : Nat) (xs : List Int) (p : Nat → Bool) (w : World) (hL : Lst RInt 1 0 w (.slice a xs.length cap) xs) (hn : xs.length ≤ 9223372036854775807)
    (hst : ∀ (k : Nat) (wr : World) (X Y : Int) , k + 1 < xs.length → xs.getD k 0 = X → xs.getD (k + 1) 0 = Y → Calls Tryz.prog 75 #[.int .i64 X, .int .i64 Y] wr fun e w' => e = .returned (.bool (p k)) ∧ Below wr.heap.size wr w') :
    Calls Tryz.prog 74 #[.slice a xs.length cap, .func (.func 75) #[] #[]] w fun e w' => e = .returned (.bool (allB (xs.length - 1) p)) ∧ Below w.heap.size w w' := by
  have HL := hide hL
  have HST := hide hst
  clear hL hst
  obtain ⟨N, hN⟩ : ∃ N, xs.length = N := ⟨_, rfl⟩
  have HN := hide hN
  rw [hN] at hn HL HST ⊢
  clear hN
  go_enter Tryz.func74, Tryz.ntmps74
  go_wp2
  go_loopw [5] (fun i wr => ∃ k : Nat, k ≤ N - 1 ∧ i = .int .i64 ((k : Int) + 1) ∧ Below w.heap.size w wr ∧ ∀ j, j < k → p j = true) (fun i _ => N - (intOf i).toNat)
  case atStart => exact ⟨0, Nat.zero_le _, rfl, Below.refl _ _, fun j hj => absurd hj (Nat.not_lt_zero _)⟩
  case round =>
    obtain ⟨k, hk, rfl, hb, hall⟩ := hrel
    have HA := hide hall
    clear hall
    by_cases hlt : k + 1 < N
    · have hlt' : (k : Int) + 1 < (N : Int) := by omega
      have hl0 : (k : Int) < (N : Int) := by omega
      obtain ⟨b, o, rfl, r0⟩ := Lst.at (unhide HL) (i := k) (by rw [unhide HN]; omega)
      obtain ⟨b', o', e', s0⟩ := Lst.at (unhide HL) (i := k + 1) (by rw [unhide HN]; omega)
      simp at e'
      obtain ⟨rfl, rfl⟩ := e'
      obtain ⟨X, hX⟩ : ∃ X, xs.getD k 0 = X := ⟨_, rfl⟩
      obtain ⟨Y, hY⟩ : ∃ X, xs.getD (k + 1) 0 = X := ⟨_, rfl⟩
      rw [hX] at r0
      rw [hY] at s0
      have r := RInt.up hb r0
      have s := RInt.up hb s0
      have HX := hide hX
      have HY := hide hY
      clear hX hY r0 s0
      have cX0 := r.1
      rw [Nat.mul_one] at cX0
      have dX0 := fun d : Later wr => d.cell cX0
      have cY0 := s.1
      rw [Nat.mul_one] at cY0
      have dY0 := fun d : Later wr => d.cell cY0
      clear r s
      have hne := Later.one wr
      go_wp2
      refine wp_region_later (by kernel_rfl) (by kernel_rfl) ?_
      repeat (go_big_quiet_step ((go_at_call 75; exact Calls.later (unhide HST k _ X Y hlt (unhide HX) (unhide HY)))))
      refine wpQuiet_nil ?_
      intro w9 hw'
      obtain ⟨⟨w8, hb2⟩, hw''⟩ := hw'
      subst hw''
      cases hpk : p k
      · go_wp2
        go_ret
        exact ⟨ret_bool (allB_f (show k < N - 1 by omega) hpk).symm, bl_trans hb hb2⟩
      · go_wp2
        go_roundw
        case rel => exact ⟨k + 1, by omega, by go_num, bl_trans hb hb2, fun j hj => if e : j < k then unhide HA j e else (show j = k by omega) ▸ hpk⟩
        case measure => simp [intOf]; omega
    · have hlt' : ¬ (k : Int) + 1 < (N : Int) := by omega
      have hkk : k = N - 1 := by omega
      have HA2 : Hid (allB (N - 1) p = true) := allB_t fun j hj => unhide HA j (by omega)
      clear hkk
      go_wp2
      go_ret
      exact ⟨ret_bool (unhide HA2).symm, hb⟩
set_option maxHeartbeats 1000000 in
theorem rise_bucketsMayBe_1 (a : Option Addr) (cap : Nat) (xs : List Bu) (p : Nat → Bool) (w : World) (hL : Lst RBu 5 bu0 w (.slice a xs.length cap) xs) (hn : xs.length ≤ 9223372036854775807)
    (hst : ∀ (k : Nat) (wr : World) (X Y : Bu) , k + 1 < xs.length → xs.getD k bu0 = X → xs.getD (k + 1) bu0 = Y → Calls Tryz.prog 79 #[buV X, buV Y] wr fun e w' => e = .returned (.bool (p k)) ∧ Below wr.heap.size wr w') :
    Calls Tryz.prog 78 #[.slice a xs.length cap, .func (.func 79) #[] #[]] w fun e w' => e = .returned (.bool (allB (xs.length - 1) p)) ∧ Below w.heap.size w w' := by
  have HL := hide hL
  have HST := hide hst
  clear hL hst
  obtain ⟨N, hN⟩ : ∃ N, xs.length = N := ⟨_, rfl⟩
  have HN := hide hN
  rw [hN] at hn HL HST ⊢
  clear hN
  go_enter Tryz.func78, Tryz.ntmps78
  go_wp2
  go_loopw [5] (fun i wr => ∃ k : Nat, k ≤ N - 1 ∧ i = .int .i64 ((k : Int) + 1) ∧ Below w.heap.size w wr ∧ ∀ j, j < k → p j = true) (fun i _ => N - (intOf i).toNat)
  case atStart => exact ⟨0, Nat.zero_le _, rfl, Below.refl _ _, fun j hj => absurd hj (Nat.not_lt_zero _)⟩
  case round =>
    obtain ⟨k, hk, rfl, hb, hall⟩ := hrel
    have HA := hide hall
    clear hall
    by_cases hlt : k + 1 < N
    · have hlt' : (k : Int) + 1 < (N : Int) := by omega
      have hl0 : (k : Int) < (N : Int) := by omega
      obtain ⟨b, o, rfl, r0⟩ := Lst.at (unhide HL) (i := k) (by rw [unhide HN]; omega)
      obtain ⟨b', o', e', s0⟩ := Lst.at (unhide HL) (i := k + 1) (by rw [unhide HN]; omega)
      simp at e'
      obtain ⟨rfl, rfl⟩ := e'
      obtain ⟨X, hX⟩ : ∃ X, xs.getD k bu0 = X := ⟨_, rfl⟩
      obtain ⟨Y, hY⟩ : ∃ X, xs.getD (k + 1) bu0 = X := ⟨_, rfl⟩
      rw [hX] at r0
      rw [hY] at s0
      have r := RBu.up hb r0
      have s := RBu.up hb s0
      have HX := hide hX
      have HY := hide hY
      clear hX hY r0 s0
      have dX0 := fun d : Later wr => d.cell r.c0
      have dX1 := fun d : Later wr => d.cell r.c1
      have dX2 := fun d : Later wr => d.cell r.c2
      have dX3 := fun d : Later wr => d.cell r.c3
      have dX4 := fun d : Later wr => d.cell r.c4
      have dY0 := fun d : Later wr => d.cell s.c0
      have dY1 := fun d : Later wr => d.cell s.c1
      have dY2 := fun d : Later wr => d.cell s.c2
      have dY3 := fun d : Later wr => d.cell s.c3
      have dY4 := fun d : Later wr => d.cell s.c4
      clear r s
      have hne := Later.one wr
      go_wp2
      refine wp_region_later (by kernel_rfl) (by kernel_rfl) ?_
      repeat (go_big_quiet_step ((go_at_call 79; exact Calls.later (unhide HST k _ X Y hlt (unhide HX) (unhide HY)))))
      refine wpQuiet_nil ?_
      intro w9 hw'
      obtain ⟨⟨w8, hb2⟩, hw''⟩ := hw'
      subst hw''
      cases hpk : p k
      · go_wp2
        go_ret
        exact ⟨ret_bool (allB_f (show k < N - 1 by omega) hpk).symm, bl_trans hb hb2⟩
      · go_wp2
        go_roundw
        case rel => exact ⟨k + 1, by omega, by go_num, bl_trans hb hb2, fun j hj => if e : j < k then unhide HA j e else (show j = k by omega) ▸ hpk⟩
        case measure => simp [intOf]; omega
    · have hlt' : ¬ (k : Int) + 1 < (N : Int) := by omega
      have hkk : k = N - 1 := by omega
      have HA2 : Hid (allB (N - 1) p = true) := allB_t fun j hj => unhide HA j (by omega)
      clear hkk
      go_wp2
      go_ret
      exact ⟨ret_bool (unhide HA2).symm, hb⟩
set_option maxHeartbeats 1000000 in
theorem rise_versionsMayBe_1 (a : Option Addr) (cap : Nat) (xs : List Ve) (p : Nat → Bool) (w : World) (hL : Lst RVe 12 ve0 w (.slice a xs.length cap) xs) (hn : xs.length ≤ 9223372036854775807)
    (hst : ∀ (k : Nat) (wr : World) (X Y : Ve) (ua : Option Addr) (un uc : Nat) (ua' : Option Addr) (un' uc' : Nat) , k + 1 < xs.length → xs.getD k ve0 = X → xs.getD (k + 1) ve0 = Y → Calls Tryz.prog 86 #[veV X (.slice ua un uc), veV Y (.slice ua' un' uc')] wr fun e w' => e = .returned (.bool (p k)) ∧ Below wr.heap.size wr w') :
    Calls Tryz.prog 85 #[.slice a xs.length cap, .func (.func 86) #[] #[]] w fun e w' => e = .returned (.bool (allB (xs.length - 1) p)) ∧ Below w.heap.size w w' := by
  have HL := hide hL
  have HST := hide hst
  clear hL hst
  obtain ⟨N, hN⟩ : ∃ N, xs.length = N := ⟨_, rfl⟩
  have HN := hide hN
  rw [hN] at hn HL HST ⊢
  clear hN
  go_enter Tryz.func85, Tryz.ntmps85
  go_wp2
  go_loopw [5] (fun i wr => ∃ k : Nat, k ≤ N - 1 ∧ i = .int .i64 ((k : Int) + 1) ∧ Below w.heap.size w wr ∧ ∀ j, j < k → p j = true) (fun i _ => N - (intOf i).toNat)
  case atStart => exact ⟨0, Nat.zero_le _, rfl, Below.refl _ _, fun j hj => absurd hj (Nat.not_lt_zero _)⟩
  case round =>
    obtain ⟨k, hk, rfl, hb, hall⟩ := hrel
    have HA := hide hall
    clear hall
    by_cases hlt : k + 1 < N
    · have hlt' : (k : Int) + 1 < (N : Int) := by omega
      have hl0 : (k : Int) < (N : Int) := by omega
      obtain ⟨b, o, rfl, r0⟩ := Lst.at (unhide HL) (i := k) (by rw [unhide HN]; omega)
      obtain ⟨b', o', e', s0⟩ := Lst.at (unhide HL) (i := k + 1) (by rw [unhide HN]; omega)
      simp at e'
      obtain ⟨rfl, rfl⟩ := e'
      obtain ⟨X, hX⟩ : ∃ X, xs.getD k ve0 = X := ⟨_, rfl⟩
      obtain ⟨Y, hY⟩ : ∃ X, xs.getD (k + 1) ve0 = X := ⟨_, rfl⟩
      rw [hX] at r0
      rw [hY] at s0
      have r := RVe.up hb r0
      have s := RVe.up hb s0
      have HX := hide hX
      have HY := hide hY
      clear hX hY r0 s0
      obtain ⟨UX, huX, hiX⟩ := r.c8
      obtain ⟨uaX, ucX, rfl, _⟩ := hiX.form
      have HIX := hide hiX
      clear hiX
      have kX := fun d : Later wr => d.cell huX
      have dX0 := fun d : Later wr => d.cell r.c0
      have dX1 := fun d : Later wr => d.cell r.c1
      have dX2 := fun d : Later wr => d.cell r.c2
      have dX3 := fun d : Later wr => d.cell r.c3
      have dX4 := fun d : Later wr => d.cell r.c4
      have dX5 := fun d : Later wr => d.cell r.c5
      have dX6 := fun d : Later wr => d.cell r.c6
      have dX7 := fun d : Later wr => d.cell r.c7
      have dX8 := fun d : Later wr => d.cell r.c9
      have dX9 := fun d : Later wr => d.cell r.c10
      have dX10 := fun d : Later wr => d.cell r.c11
      obtain ⟨UY, huY, hiY⟩ := s.c8
      obtain ⟨uaY, ucY, rfl, _⟩ := hiY.form
      have HIY := hide hiY
      clear hiY
      have kY := fun d : Later wr => d.cell huY
      have dY0 := fun d : Later wr => d.cell s.c0
      have dY1 := fun d : Later wr => d.cell s.c1
      have dY2 := fun d : Later wr => d.cell s.c2
      have dY3 := fun d : Later wr => d.cell s.c3
      have dY4 := fun d : Later wr => d.cell s.c4
      have dY5 := fun d : Later wr => d.cell s.c5
      have dY6 := fun d : Later wr => d.cell s.c6
      have dY7 := fun d : Later wr => d.cell s.c7
      have dY8 := fun d : Later wr => d.cell s.c9
      have dY9 := fun d : Later wr => d.cell s.c10
      have dY10 := fun d : Later wr => d.cell s.c11
      clear r s
      have hne := Later.one wr
      go_wp2
      refine wp_region_later (by kernel_rfl) (by kernel_rfl) ?_
      repeat (go_big_quiet_step ((go_at_call 86; exact Calls.later (unhide HST k _ X Y _ _ _ _ _ _ hlt (unhide HX) (unhide HY)))))
      refine wpQuiet_nil ?_
      intro w9 hw'
      obtain ⟨⟨w8, hb2⟩, hw''⟩ := hw'
      subst hw''
      cases hpk : p k
      · go_wp2
        go_ret
        exact ⟨ret_bool (allB_f (show k < N - 1 by omega) hpk).symm, bl_trans hb hb2⟩
      · go_wp2
        go_roundw
        case rel => exact ⟨k + 1, by omega, by go_num, bl_trans hb hb2, fun j hj => if e : j < k then unhide HA j e else (show j = k by omega) ▸ hpk⟩
        case measure => simp [intOf]; omega
    · have hlt' : ¬ (k : Int) + 1 < (N : Int) := by omega
      have hkk : k = N - 1 := by omega
      have HA2 : Hid (allB (N - 1) p = true) := allB_t fun j hj => unhide HA j (by omega)
      clear hkk
      go_wp2
      go_ret
      exact ⟨ret_bool (unhide HA2).symm, hb⟩
set_option maxHeartbeats 1000000 in
theorem rise_uploadsMayBe_1 (a : Option Addr) (cap : Nat) (xs : List Up) (p : Nat → Bool) (w : World) (hL : Lst RUp 4 up0 w (.slice a xs.length cap) xs) (hn : xs.length ≤ 9223372036854775807)
    (hst : ∀ (k : Nat) (wr : World) (X Y : Up) (ua : Option Addr) (un uc : Nat) (ua' : Option Addr) (un' uc' : Nat) , k + 1 < xs.length → xs.getD k up0 = X → xs.getD (k + 1) up0 = Y → Calls Tryz.prog 92 #[upV X (.slice ua un uc), upV Y (.slice ua' un' uc')] wr fun e w' => e = .returned (.bool (p k)) ∧ Below wr.heap.size wr w') :
    Calls Tryz.prog 91 #[.slice a xs.length cap, .func (.func 92) #[] #[]] w fun e w' => e = .returned (.bool (allB (xs.length - 1) p)) ∧ Below w.heap.size w w' := by
  have HL := hide hL
  have HST := hide hst
  clear hL hst
  obtain ⟨N, hN⟩ : ∃ N, xs.length = N := ⟨_, rfl⟩
  have HN := hide hN
  rw [hN] at hn HL HST ⊢
  clear hN
  go_enter Tryz.func91, Tryz.ntmps91
  go_wp2
  go_loopw [5] (fun i wr => ∃ k : Nat, k ≤ N - 1 ∧ i = .int .i64 ((k : Int) + 1) ∧ Below w.heap.size w wr ∧ ∀ j, j < k → p j = true) (fun i _ => N - (intOf i).toNat)
  case atStart => exact ⟨0, Nat.zero_le _, rfl, Below.refl _ _, fun j hj => absurd hj (Nat.not_lt_zero _)⟩
  case round =>
    obtain ⟨k, hk, rfl, hb, hall⟩ := hrel
    have HA := hide hall
    clear hall
    by_cases hlt : k + 1 < N
    · have hlt' : (k : Int) + 1 < (N : Int) := by omega
      have hl0 : (k : Int) < (N : Int) := by omega
      obtain ⟨b, o, rfl, r0⟩ := Lst.at (unhide HL) (i := k) (by rw [unhide HN]; omega)
      obtain ⟨b', o', e', s0⟩ := Lst.at (unhide HL) (i := k + 1) (by rw [unhide HN]; omega)
      simp at e'
      obtain ⟨rfl, rfl⟩ := e'
      obtain ⟨X, hX⟩ : ∃ X, xs.getD k up0 = X := ⟨_, rfl⟩
      obtain ⟨Y, hY⟩ : ∃ X, xs.getD (k + 1) up0 = X := ⟨_, rfl⟩
      rw [hX] at r0
      rw [hY] at s0
      have r := RUp.up hb r0
      have s := RUp.up hb s0
      have HX := hide hX
      have HY := hide hY
      clear hX hY r0 s0
      obtain ⟨UX, huX, hiX⟩ := r.c3
      obtain ⟨uaX, ucX, rfl, _⟩ := hiX.form
      have HIX := hide hiX
      clear hiX
      have kX := fun d : Later wr => d.cell huX
      have dX0 := fun d : Later wr => d.cell r.c0
      have dX1 := fun d : Later wr => d.cell r.c1
      have dX2 := fun d : Later wr => d.cell r.c2
      obtain ⟨UY, huY, hiY⟩ := s.c3
      obtain ⟨uaY, ucY, rfl, _⟩ := hiY.form
      have HIY := hide hiY
      clear hiY
      have kY := fun d : Later wr => d.cell huY
      have dY0 := fun d : Later wr => d.cell s.c0
      have dY1 := fun d : Later wr => d.cell s.c1
      have dY2 := fun d : Later wr => d.cell s.c2
      clear r s
      have hne := Later.one wr
      go_wp2
      refine wp_region_later (by kernel_rfl) (by kernel_rfl) ?_
      repeat (go_big_quiet_step ((go_at_call 92; exact Calls.later (unhide HST k _ X Y _ _ _ _ _ _ hlt (unhide HX) (unhide HY)))))
      refine wpQuiet_nil ?_
      intro w9 hw'
      obtain ⟨⟨w8, hb2⟩, hw''⟩ := hw'
      subst hw''
      cases hpk : p k
      · go_wp2
        go_ret
        exact ⟨ret_bool (allB_f (show k < N - 1 by omega) hpk).symm, bl_trans hb hb2⟩
      · go_wp2
        go_roundw
        case rel => exact ⟨k + 1, by omega, by go_num, bl_trans hb hb2, fun j hj => if e : j < k then unhide HA j e else (show j = k by omega) ▸ hpk⟩
        case measure => simp [intOf]; omega
    · have hlt' : ¬ (k : Int) + 1 < (N : Int) := by omega
      have hkk : k = N - 1 := by omega
      have HA2 : Hid (allB (N - 1) p = true) := allB_t fun j hj => unhide HA j (by omega)
      clear hkk
      go_wp2
      go_ret
      exact ⟨ret_bool (unhide HA2).symm, hb⟩
set_option maxHeartbeats 1000000 in
theorem rise_partsMayBe_1 (a : Option Addr) (cap : Nat) (xs : List Pa) (p : Nat → Bool) (w : World) (hL : Lst RPa 3 pa0 w (.slice a xs.length cap) xs) (hn : xs.length ≤ 9223372036854775807)
    (hst : ∀ (k : Nat) (wr : World) (X Y : Pa) (ua : Option Addr) (un uc : Nat) (ua' : Option Addr) (un' uc' : Nat) , k + 1 < xs.length → xs.getD k pa0 = X → xs.getD (k + 1) pa0 = Y → Calls Tryz.prog 144 #[paV X (.slice ua un uc), paV Y (.slice ua' un' uc')] wr fun e w' => e = .returned (.bool (p k)) ∧ Below wr.heap.size wr w') :
    Calls Tryz.prog 143 #[.slice a xs.length cap, .func (.func 144) #[] #[]] w fun e w' => e = .returned (.bool (allB (xs.length - 1) p)) ∧ Below w.heap.size w w' := by
  have HL := hide hL
  have HST := hide hst
  clear hL hst
  obtain ⟨N, hN⟩ : ∃ N, xs.length = N := ⟨_, rfl⟩
  have HN := hide hN
  rw [hN] at hn HL HST ⊢
  clear hN
  go_enter Tryz.func143, Tryz.ntmps143
  go_wp2
  go_loopw [5] (fun i wr => ∃ k : Nat, k ≤ N - 1 ∧ i = .int .i64 ((k : Int) + 1) ∧ Below w.heap.size w wr ∧ ∀ j, j < k → p j = true) (fun i _ => N - (intOf i).toNat)
  case atStart => exact ⟨0, Nat.zero_le _, rfl, Below.refl _ _, fun j hj => absurd hj (Nat.not_lt_zero _)⟩
  case round =>
    obtain ⟨k, hk, rfl, hb, hall⟩ := hrel
    have HA := hide hall
    clear hall
    by_cases hlt : k + 1 < N
    · have hlt' : (k : Int) + 1 < (N : Int) := by omega
      have hl0 : (k : Int) < (N : Int) := by omega
      obtain ⟨b, o, rfl, r0⟩ := Lst.at (unhide HL) (i := k) (by rw [unhide HN]; omega)
      obtain ⟨b', o', e', s0⟩ := Lst.at (unhide HL) (i := k + 1) (by rw [unhide HN]; omega)
      simp at e'
      obtain ⟨rfl, rfl⟩ := e'
      obtain ⟨X, hX⟩ : ∃ X, xs.getD k pa0 = X := ⟨_, rfl⟩
      obtain ⟨Y, hY⟩ : ∃ X, xs.getD (k + 1) pa0 = X := ⟨_, rfl⟩
      rw [hX] at r0
      rw [hY] at s0
      have r := RPa.up hb r0
      have s := RPa.up hb s0
      have HX := hide hX
      have HY := hide hY
      clear hX hY r0 s0
      obtain ⟨UX, huX, hiX⟩ := r.c2
      obtain ⟨uaX, ucX, rfl, _⟩ := hiX.form
      have HIX := hide hiX
      clear hiX
      have kX := fun d : Later wr => d.cell huX
      have dX0 := fun d : Later wr => d.cell r.c0
      have dX1 := fun d : Later wr => d.cell r.c1
      obtain ⟨UY, huY, hiY⟩ := s.c2
      obtain ⟨uaY, ucY, rfl, _⟩ := hiY.form
      have HIY := hide hiY
      clear hiY
      have kY := fun d : Later wr => d.cell huY
      have dY0 := fun d : Later wr => d.cell s.c0
      have dY1 := fun d : Later wr => d.cell s.c1
      clear r s
      have hne := Later.one wr
      go_wp2
      refine wp_region_later (by kernel_rfl) (by kernel_rfl) ?_
      repeat (go_big_quiet_step ((go_at_call 144; exact Calls.later (unhide HST k _ X Y _ _ _ _ _ _ hlt (unhide HX) (unhide HY)))))
      refine wpQuiet_nil ?_
      intro w9 hw'
      obtain ⟨⟨w8, hb2⟩, hw''⟩ := hw'
      subst hw''
      cases hpk : p k
      · go_wp2
        go_ret
        exact ⟨ret_bool (allB_f (show k < N - 1 by omega) hpk).symm, bl_trans hb hb2⟩
      · go_wp2
        go_roundw
        case rel => exact ⟨k + 1, by omega, by go_num, bl_trans hb hb2, fun j hj => if e : j < k then unhide HA j e else (show j = k by omega) ▸ hpk⟩
        case measure => simp [intOf]; omega
    · have hlt' : ¬ (k : Int) + 1 < (N : Int) := by omega
      have hkk : k = N - 1 := by omega
      have HA2 : Hid (allB (N - 1) p = true) := allB_t fun j hj => unhide HA j (by omega)
      clear hkk
      go_wp2
      go_ret
      exact ⟨ret_bool (unhide HA2).symm, hb⟩
end Go.Proofs.YtdgmdapijhbocaaGreat
