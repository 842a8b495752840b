/- icehousekeep.Record: what it makes. -/
import Derived.Test.YtdgmdapijhbocaaGreatG14
import Derived.Deep.MidRow
namespace Go.Proofs.YtdgmdapijhbocaaGreat
open Go.RowKit Go.Maps
set_option maxRecDepth 100000
set_option linter.unusedVariables false
set_option linter.unusedSimpArgs false
structure Rw where
  kind : Int
  a : Int
  b : Int
  c : Int
  d : Int
  text : ByteArray
def rw0 : Rw := ⟨0, 0, 0, 0, 0, .empty⟩
structure WfW (x : Rw) : Prop where
  k0 : -9223372036854775808 ≤ x.kind ∧ x.kind ≤ 9223372036854775807
  a0 : -9223372036854775808 ≤ x.a ∧ x.a ≤ 9223372036854775807
  b0 : -9223372036854775808 ≤ x.b ∧ x.b ≤ 9223372036854775807
  c0 : -9223372036854775808 ≤ x.c ∧ x.c ≤ 9223372036854775807
  d0 : -9223372036854775808 ≤ x.d ∧ x.d ≤ 9223372036854775807
abbrev rwV (x : Rw) : Value := .agg #[.int .i64 x.kind, .int .i64 x.a, .int .i64 x.b, .int .i64 x.c, .int .i64 x.d, .string x.text]
abbrev em : ByteArray := ⟨#[]⟩
def veN : Ve := ⟨0, em, em, false, false, 0, 0, 0, [], 0, 0, 0⟩
def preB (n : Int) : ByteArray := if pickI n 3 = 0 then em else if pickI n 3 = 1 then ⟨#[121]⟩ else ⟨#[122, 47]⟩
/-- A record of a kind that has nothing yet. -/
def rcN (k : Int) : Rc := ⟨k, 0, 0, em, em, em, 0, 0, veN, ak0, pa0, [], 0, 0⟩
/-- The sectors that a thaw asks for: those of the last version of that number. -/
def thwK (S : St) (id : Int) : Nat → List Int
  | 0 => []
  | k + 1 => if (S.ves.getD k ve0).id = id then secF S (S.ves.getD k ve0).size else thwK S id k
def verR (S : St) (x : Rw) : Ve :=
  if pickI x.d 5 = 0 then ⟨S.next, nmB x.a, kyB x.b, pickI x.d 3 == 0, true, 0, pickI x.c (S.clock + 1), 0, [], 0, 0, 0⟩
  else ⟨S.next, nmB x.a, kyB x.b, pickI x.d 3 == 0, false, pickI x.c 200, pickI x.c (S.clock + 1), 1, secF S (pickI x.c 200), 0, 0, 0⟩
def recR (S : St) (x : Rw) : Rc :=
  if pickI x.kind 14 = 0 then { rcN 1 with nam := nmB x.a }
  else if pickI x.kind 14 = 1 then { rcN 2 with nam := nmB x.a, n := 1 + pickI x.b 2 }
  else if pickI x.kind 14 = 2 then { rcN 3 with nam := nmB x.a, pre := preB x.b, fre := pickI x.c 12 - 1, dro := pickI x.d 30 - 1 }
  else if pickI x.kind 14 = 3 then { rcN 4 with ver := verR S x }
  else if pickI x.kind 14 = 4 then { rcN 5 with id := idN S x.a }
  else if pickI x.kind 14 = 5 then { rcN 6 with id := idN S x.a, vol := pickI x.b 3, pos := pickI x.c 1000 }
  else if pickI x.kind 14 = 6 then { rcN 7 with ask := ⟨idN S x.a, 1 + pickI x.b 9, pickI x.c 3⟩ }
  else if pickI x.kind 14 = 7 then { rcN 8 with id := idN S x.a, n := S.clock + pickI x.b 9, sec := thwK S (idN S x.a) S.ves.length }
  else if pickI x.kind 14 = 8 then { rcN 9 with id := idN S x.a }
  else if pickI x.kind 14 = 9 then { rcN 10 with id := S.next, nam := nmB x.a, key := kyB x.b }
  else if pickI x.kind 14 = 10 then { rcN 11 with id := upN S x.a, part := ⟨1 + pickI x.b 5, pickI x.c 200, secF S (pickI x.c 200)⟩ }
  else if pickI x.kind 14 = 11 then { rcN 12 with id := upN S x.a }
  else if pickI x.kind 14 = 12 then { rcN 13 with n := pickI x.a 12 }
  else { rcN 14 with vol := pickI x.a 4 }
theorem there_of {w : World} {g : Nat} {c : Array Value} {t : TypeId} (h : w.heap[g]? = some (.cells c t (0, 0))) : w.there g 0 c.size := fun j hj => by
  rw [Nat.zero_add]
  exact ⟨by rw [cell_of h j (v := c[j]) (by simp [hj])]; rfl, fz_of h j⟩
theorem rec_new (w : World) (o0 o1 o2 : Obj) (c : Array Value) : ((((w.alloc o0).alloc o1).alloc o2).alloc (.cells c 47)).heap[w.heap.size + 1 + 1 + 1]? = some (.cells c 47 (0, 0)) := by
  simpa using heap_alloc_new (((w.alloc o0).alloc o1).alloc o2) (.cells c 47)
/-- What lies where when the record's box was filled. -/
theorem rec_rows (w : World) (o0 o1 o2 : Obj) (c c' : Array Value) (hc : c'.size = c.size) :
    (((((w.alloc o0).alloc o1).alloc o2).alloc (.cells c 47)).setCells (w.heap.size + 1 + 1 + 1) 0 c'.toList).heap[w.heap.size]? = some o0 ∧
    (((((w.alloc o0).alloc o1).alloc o2).alloc (.cells c 47)).setCells (w.heap.size + 1 + 1 + 1) 0 c'.toList).heap[w.heap.size + 1]? = some o1 ∧
    (((((w.alloc o0).alloc o1).alloc o2).alloc (.cells c 47)).setCells (w.heap.size + 1 + 1 + 1) 0 c'.toList).heap[w.heap.size + 1 + 1]? = some o2 ∧
    (((((w.alloc o0).alloc o1).alloc o2).alloc (.cells c 47)).setCells (w.heap.size + 1 + 1 + 1) 0 c'.toList).heap[w.heap.size + 1 + 1 + 1]? = some (.cells c' 47 (0, 0)) ∧
    Below w.heap.size w (((((w.alloc o0).alloc o1).alloc o2).alloc (.cells c 47)).setCells (w.heap.size + 1 + 1 + 1) 0 c'.toList) := by
  have hg := gb_setCells (w.heap.size + 1 + 1 + 1) c'.toList 0 ((((w.alloc o0).alloc o1).alloc o2).alloc (.cells c 47))
  obtain ⟨h0, h1, h2, _⟩ := rows4 (Below.refl ((((w.alloc o0).alloc o1).alloc o2).alloc (.cells c 47)).heap.size _)
  have hs : ((((w.alloc o0).alloc o1).alloc o2).alloc (.cells c 47)).heap.size = w.heap.size + 1 + 1 + 1 + 1 := by simp
  refine ⟨(hg.block _ (by omega) (fun e => by injection e with e; omega)).trans h0, (hg.block _ (by omega) (fun e => by injection e with e; omega)).trans h1, (hg.block _ (by omega) (fun e => by injection e with e; omega)).trans h2, ?_, ?_⟩
  · have := row_setCells (g := w.heap.size + 1 + 1 + 1) (t := 47) c'.toList 0 _ c.toList (rec_new w o0 o1 o2 c) (by simp [hc])
    rw [this, List.take_zero, List.nil_append, List.drop_of_length_le (by simp [hc]), List.append_nil]
  · exact bl_tr (bl_alloc (bl_alloc (bl_alloc (bl1 _ _) _) _) _) (gb_lo hg (by omega) (fun j e => by injection e with e; omega))
theorem rec_end {w : World} {g : Nat} {c c' : Array Value} (h : w.heap[g]? = some (.cells c 47 (0, 0))) (hc : c'.size = c.size) :
    (w.setCells g 0 c'.toList).heap[g]? = some (.cells c' 47 (0, 0)) ∧ w.grownBy (w.setCells g 0 c'.toList) (some g) := by
  refine ⟨?_, gb_setCells _ _ _ _⟩
  have := row_setCells (g := g) (t := 47) c'.toList 0 w c.toList (by simpa using h) (by simp [hc])
  rw [this, List.take_zero, List.nil_append, List.drop_of_length_le (by simp [hc]), List.append_nil]
theorem res_cell1 {P : Program} {fn : Func} {a : Tmp} {t : TypeId} (h : fn.results = #[.cell a t]) {tmps : Array Value} {g : Nat} {w : World} {v : Value} (hx : tmps.getD a undef = .pointer (some ⟨g, 0, none⟩)) (hl : (loadVar t ⟨g, 0, none⟩).run P w = .ok v w) :
    (results fn tmps).run P w = .ok v w := by
  have hx' : tmps[a]?.getD undef = .pointer (some ⟨g, 0, none⟩) := by simpa using hx
  simp only [results, h]
  simp [Sem.run_bind, hx', asAddr, hl]
theorem rec_res {tmps : Array Value} {w : World} {g : Nat} {c : Array Value} (h : w.heap[g]? = some (.cells c 47 (0, 0))) (hc : c.size = 29) (hx : tmps.getD 4 undef = .pointer (some ⟨g, 0, none⟩)) :
    (results Tryz.f25 tmps).run Tryz.prog w = .ok (.agg c) w := by
  refine res_cell1 Tryz.results25 hx ?_
  have := run_loadVar_mid (P := Tryz.prog) w g 0 47 c.toList _ (fun j v hv => by rw [Nat.zero_add]; exact cell_of h j (by simpa using hv)) Tryz.underlying47 rfl (by rw [Array.length_toList, hc]; kernel_rfl)
  simpa using this
abbrev xsA (x : Rw) : Array Value := #[.int .i64 x.kind, .int .i64 x.a, .int .i64 x.b, .int .i64 x.c, .int .i64 x.d, .string x.text]
/-- The four boxes of Record: the state, the raw thing, the result, the record. -/
structure RR (w W : World) (sb : Array Value) (x : Rw) (c : Array Value) : Prop where
  r0 : W.heap[w.heap.size]? = some (.cells sb 29 (0, 0))
  r1 : W.heap[w.heap.size + 1]? = some (.cells (xsA x) 72 (0, 0))
  r2 : W.heap[w.heap.size + 1 + 1]? = some (.cells (rcA (rcN 0) nl nl nl) 47 (0, 0))
  r3 : W.heap[w.heap.size + 1 + 1 + 1]? = some (.cells c 47 (0, 0))
  bl : Below w.heap.size w W
theorem RR.lt {w W : World} {sb : Array Value} {x : Rw} {c : Array Value} (h : RR w W sb x c) : w.heap.size + 1 + 1 + 1 < W.heap.size := (Array.getElem?_eq_some_iff.1 h.r3).1
theorem RR.lt0 {w W : World} {sb : Array Value} {x : Rw} {c : Array Value} (h : RR w W sb x c) : w.heap.size < W.heap.size := by have := h.lt; omega
theorem RR.lt1 {w W : World} {sb : Array Value} {x : Rw} {c : Array Value} (h : RR w W sb x c) : w.heap.size + 1 < W.heap.size := by have := h.lt; omega
theorem RR.up {w W W' : World} {sb : Array Value} {x : Rw} {c : Array Value} (h : RR w W sb x c) (hb : Below W.heap.size W W') : RR w W' sb x c := by
  have hl := h.lt
  exact ⟨(hb.block _ (by omega)).trans h.r0, (hb.block _ (by omega)).trans h.r1, (hb.block _ (by omega)).trans h.r2, (hb.block _ hl).trans h.r3, bl_tr h.bl (bl_lo hb (by omega))⟩
theorem RR.set {w W : World} {sb : Array Value} {x : Rw} {c c' : Array Value} (h : RR w W sb x c) (i : Nat) (v : Value) (hc : c.setIfInBounds i v = c') : RR w (W.setCell ⟨w.heap.size + 1 + 1 + 1, i, none⟩ v) sb x c' := by
  have hl := h.lt
  have hg := gb_setCell W (w.heap.size + 1 + 1 + 1) i v
  exact ⟨(hg.block _ (by omega) (fun e => by injection e with e; omega)).trans h.r0, (hg.block _ (by omega) (fun e => by injection e with e; omega)).trans h.r1, (hg.block _ (by omega) (fun e => by injection e with e; omega)).trans h.r2, row1q h.r3 i v hc, bl_tr h.bl (gb_lo hg (by omega) (fun j e => by injection e with e; omega))⟩
theorem Ints.nil9 (w : World) : Ints w (.slice none 0 0) [] := ⟨none, 0, rfl, Nat.le_refl _, Nat.zero_le _, fun i hi => absurd hi (Nat.not_lt_zero _)⟩
end Go.Proofs.YtdgmdapijhbocaaGreat

/- icehousekeep.Record, kind by kind. -/
namespace Go.Proofs.YtdgmdapijhbocaaGreat
open Go.RowKit Go.Maps
set_option maxRecDepth 100000
set_option linter.unusedVariables false
set_option linter.unusedSimpArgs false
set_option maxHeartbeats 2000000 in
theorem record_0 (S : St) (b v u q g : Value) (x : Rw) (w : World) (hS : Sta w b v u q g S) (hc : stC S = true) (hx : WfW x) (hk : pickI x.kind 14 = 0) :
    Calls Tryz.prog 25 #[stV S b v u q g, rwV x] w fun e w' => ∃ vv pv sv, e = .returned (rcV (recR S x) vv pv sv) ∧ RcI w' (recR S x) vv pv sv ∧ Below w.heap.size w w' := by
  have HS := hide hS
  obtain ⟨hk0, ha0, hb0, hc0, hd0⟩ := hx
  have HQ : Hid (recR S x = { rcN 1 with nam := nmB x.a }) := by show _ = _; unfold recR; simp [hk]
  obtain ⟨Q, hQ⟩ : ∃ Q, recR S x = Q := ⟨_, rfl⟩
  rw [hQ] at HQ ⊢
  clear hQ hS
  have HK : Hid (∀ W : World, Calls Tryz.prog 10 #[.int .i64 x.kind, .int .i64 14] W fun e w' => e = .returned (.int .i64 0) ∧ W = w') := fun W => by
    have := picked_any x.kind 14 W (by decide) (by decide) hk0.1 hk0.2
    rw [hk] at this; exact this
  clear hk
  go_enter Tryz.func25, Tryz.ntmps25
  go_wp2_with fail
  refine (unhide HK _).mono ?_
  rintro e w1 ⟨rfl, rfl⟩
  simp only []
  rename_i hK0
  refine hK0 _ _ ?_
  clear hK0
  refine wpList_plain rfl (fun K hK => ?_)
  go_simp
  refine hK _ _ ?_
  clear hK
  refine wpList_plain rfl (fun K hK => ?_)
  go_simp
  refine hK _ _ ?_
  clear hK
  refine wpList_plain rfl (fun K hK => ?_)
  go_simp
  refine hK _ _ ?_
  clear hK
  rw [show IntKind.wrap .i64 1 = 1 by decide]
  refine wpList_store_mid rfl 47 (.tmp 5) (.tmp 14) rfl (w.heap.size + 1 + 1 + 1) 0 (rcA (rcN 1) nl nl nl) rfl rfl (there_of (c := rcA (rcN 0) nl nl nl) (t := 47) (rec_new _ _ _ _ _)) (by kernel_rfl) (by simp [Value.oneCell']) ?_
  generalize hWW : World.setCells _ (w.heap.size + 1 + 1 + 1) 0 _ = W1
  have hrr : W1.heap[w.heap.size]? = some (.cells #[.int .i64 S.next, .int .i64 S.clock, b, v, u, q, g] 29 (0, 0)) ∧ W1.heap[w.heap.size + 1]? = some (.cells #[.int .i64 x.kind, .int .i64 x.a, .int .i64 x.b, .int .i64 x.c, .int .i64 x.d, .string x.text] 72 (0, 0)) ∧ W1.heap[w.heap.size + 1 + 1]? = some (.cells (rcA (rcN 0) nl nl nl) 47 (0, 0)) ∧ W1.heap[w.heap.size + 1 + 1 + 1]? = some (.cells (rcA (rcN 1) nl nl nl) 47 (0, 0)) ∧ Below w.heap.size w W1 := by
    rw [← hWW]
    exact rec_rows w (.cells #[.int .i64 S.next, .int .i64 S.clock, b, v, u, q, g] 29) (.cells #[.int .i64 x.kind, .int .i64 x.a, .int .i64 x.b, .int .i64 x.c, .int .i64 x.d, .string x.text] 72) (.cells (rcA (rcN 0) nl nl nl) 47) (rcA (rcN 0) nl nl nl) (rcA (rcN 1) nl nl nl) rfl
  clear hWW
  obtain ⟨r0, r1, r2, r3, hw1⟩ := hrr
  have HRR0 : Hid (RR w W1 #[.int .i64 S.next, .int .i64 S.clock, b, v, u, q, g] x (rcA (rcN 1) nl nl nl)) := ⟨r0, r1, r2, r3, hw1⟩
  have k0 : W1.cell? ⟨w.heap.size + 1 + 1 + 1, 0, none⟩ = some (.int .i64 1) := cell_of r3 0 rfl
  clear r0 r1 r2 r3
  have xa0_0 := cell_of (unhide HRR0).r1 0 rfl
  have xa1_0 := cell_of (unhide HRR0).r1 1 rfl
  have xa2_0 := cell_of (unhide HRR0).r1 2 rfl
  have xa3_0 := cell_of (unhide HRR0).r1 3 rfl
  have xa4_0 := cell_of (unhide HRR0).r1 4 rfl
  have sa0_0 := cell_of (unhide HRR0).r0 0 rfl
  have sa1_0 := cell_of (unhide HRR0).r0 1 rfl
  have sa2_0 := cell_of (unhide HRR0).r0 2 rfl
  have sa3_0 := cell_of (unhide HRR0).r0 3 rfl
  have sa4_0 := cell_of (unhide HRR0).r0 4 rfl
  have sa5_0 := cell_of (unhide HRR0).r0 5 rfl
  have sa6_0 := cell_of (unhide HRR0).r0 6 rfl
  have pa1_0 := cell_of (unhide HRR0).r3 1 rfl
  have pa2_0 := cell_of (unhide HRR0).r3 2 rfl
  have pa3_0 := cell_of (unhide HRR0).r3 3 rfl
  have pa4_0 := cell_of (unhide HRR0).r3 4 rfl
  have pa27_0 := cell_of (unhide HRR0).r3 27 rfl
  have pa28_0 := cell_of (unhide HRR0).r3 28 rfl
  have pf0 := fun j => fz_of (unhide HRR0).r3 j
  have pl0 := (unhide HRR0).lt
  have ql0 := (unhide HRR0).lt0
  have qm0 := (unhide HRR0).lt1
  go_upto_region 50 with (first
    | (refine (name_any x.a _ ha0.1 ha0.2).mono ?_; rintro e w2 ⟨rfl, b2⟩; have HRR2 := hide ((unhide HRR0).up b2); have xa0_2 := cell_of (unhide HRR2).r1 0 rfl; have xa1_2 := cell_of (unhide HRR2).r1 1 rfl; have xa2_2 := cell_of (unhide HRR2).r1 2 rfl; have xa3_2 := cell_of (unhide HRR2).r1 3 rfl; have xa4_2 := cell_of (unhide HRR2).r1 4 rfl; have sa0_2 := cell_of (unhide HRR2).r0 0 rfl; have sa1_2 := cell_of (unhide HRR2).r0 1 rfl; have sa2_2 := cell_of (unhide HRR2).r0 2 rfl; have sa3_2 := cell_of (unhide HRR2).r0 3 rfl; have sa4_2 := cell_of (unhide HRR2).r0 4 rfl; have sa5_2 := cell_of (unhide HRR2).r0 5 rfl; have sa6_2 := cell_of (unhide HRR2).r0 6 rfl; have pa1_2 := cell_of (unhide HRR2).r3 1 rfl; have pa2_2 := cell_of (unhide HRR2).r3 2 rfl; have pa3_2 := cell_of (unhide HRR2).r3 3 rfl; have pa4_2 := cell_of (unhide HRR2).r3 4 rfl; have pa27_2 := cell_of (unhide HRR2).r3 27 rfl; have pa28_2 := cell_of (unhide HRR2).r3 28 rfl; have pf2 := fun j => fz_of (unhide HRR2).r3 j; have pl2 := (unhide HRR2).lt; have ql2 := (unhide HRR2).lt0; have qm2 := (unhide HRR2).lt1)
    | fail)
  have HF := hide (RR.set (c' := rcA { rcN 1 with nam := nmB x.a } nl nl nl) (unhide HRR2) 3 (.string (nmB x.a)) rfl)
  have hP := (unhide HF).r3
  have hR := (unhide HF).r2
  have hbl := (unhide HF).bl
  refine wp_region_lit ?_
  refine wpList_load_mid rfl 47 (.tmp 5) rfl (w.heap.size + 1 + 1 + 1) 0 rfl (rcA ({ rcN 1 with nam := nmB x.a }) nl nl nl).toList _ (fun j v hv => by rw [Nat.zero_add]; exact cell_of hP j (by simpa using hv)) Tryz.underlying47 rfl (by kernel_rfl) ?_
  refine wpList_store_mid rfl 47 (.tmp 4) (.tmp 217) rfl (w.heap.size + 1 + 1) 0 (rcA ({ rcN 1 with nam := nmB x.a }) nl nl nl) rfl rfl (there_of (c := rcA (rcN 0) nl nl nl) (t := 47) hR) (by kernel_rfl) (by simp [Value.oneCell']) ?_
  have hrr := rec_end (c' := (rcA ({ rcN 1 with nam := nmB x.a }) nl nl nl)) hR rfl
  revert hrr
  generalize World.setCells _ (w.heap.size + 1 + 1) 0 _ = W9
  intro hrr
  obtain ⟨r9, hg9⟩ := hrr
  clear hP hR
  go_wp2
  refine bodyPost_ret (v := rcV ({ rcN 1 with nam := nmB x.a }) nl nl nl) (rec_res r9 rfl rfl) rfl ⟨nl, nl, nl, by rw [unhide HQ], ?_, ?_⟩
  · rw [unhide HQ]
    exact ⟨Ints.nil9 _, Ints.nil9 _, Ints.nil9 _⟩
  · exact bl_tr hbl (gb_lo hg9 (by have := hbl.size; omega) (fun j e => by injection e with e; omega))
set_option maxHeartbeats 2000000 in
theorem record_1 (S : St) (b v u q g : Value) (x : Rw) (w : World) (hS : Sta w b v u q g S) (hc : stC S = true) (hx : WfW x) (hk : pickI x.kind 14 = 1) :
    Calls Tryz.prog 25 #[stV S b v u q g, rwV x] w fun e w' => ∃ vv pv sv, e = .returned (rcV (recR S x) vv pv sv) ∧ RcI w' (recR S x) vv pv sv ∧ Below w.heap.size w w' := by
  have HS := hide hS
  obtain ⟨hk0, ha0, hb0, hc0, hd0⟩ := hx
  have HQ : Hid (recR S x = { rcN 2 with nam := nmB x.a, n := 1 + pickI x.b 2 }) := by show _ = _; unfold recR; simp [hk]
  obtain ⟨Q, hQ⟩ : ∃ Q, recR S x = Q := ⟨_, rfl⟩
  rw [hQ] at HQ ⊢
  clear hQ hS
  have HK : Hid (∀ W : World, Calls Tryz.prog 10 #[.int .i64 x.kind, .int .i64 14] W fun e w' => e = .returned (.int .i64 1) ∧ W = w') := fun W => by
    have := picked_any x.kind 14 W (by decide) (by decide) hk0.1 hk0.2
    rw [hk] at this; exact this
  clear hk
  go_enter Tryz.func25, Tryz.ntmps25
  go_wp2_with fail
  refine (unhide HK _).mono ?_
  rintro e w1 ⟨rfl, rfl⟩
  simp only []
  rename_i hK0
  refine hK0 _ _ ?_
  clear hK0
  refine wpList_plain rfl (fun K hK => ?_)
  go_simp
  refine hK _ _ ?_
  clear hK
  refine wpList_plain rfl (fun K hK => ?_)
  go_simp
  refine hK _ _ ?_
  clear hK
  refine wpList_plain rfl (fun K hK => ?_)
  go_simp
  refine hK _ _ ?_
  clear hK
  rw [show IntKind.wrap .i64 2 = 2 by decide]
  refine wpList_store_mid rfl 47 (.tmp 5) (.tmp 14) rfl (w.heap.size + 1 + 1 + 1) 0 (rcA (rcN 2) nl nl nl) rfl rfl (there_of (c := rcA (rcN 0) nl nl nl) (t := 47) (rec_new _ _ _ _ _)) (by kernel_rfl) (by simp [Value.oneCell']) ?_
  generalize hWW : World.setCells _ (w.heap.size + 1 + 1 + 1) 0 _ = W1
  have hrr : W1.heap[w.heap.size]? = some (.cells #[.int .i64 S.next, .int .i64 S.clock, b, v, u, q, g] 29 (0, 0)) ∧ W1.heap[w.heap.size + 1]? = some (.cells #[.int .i64 x.kind, .int .i64 x.a, .int .i64 x.b, .int .i64 x.c, .int .i64 x.d, .string x.text] 72 (0, 0)) ∧ W1.heap[w.heap.size + 1 + 1]? = some (.cells (rcA (rcN 0) nl nl nl) 47 (0, 0)) ∧ W1.heap[w.heap.size + 1 + 1 + 1]? = some (.cells (rcA (rcN 2) nl nl nl) 47 (0, 0)) ∧ Below w.heap.size w W1 := by
    rw [← hWW]
    exact rec_rows w (.cells #[.int .i64 S.next, .int .i64 S.clock, b, v, u, q, g] 29) (.cells #[.int .i64 x.kind, .int .i64 x.a, .int .i64 x.b, .int .i64 x.c, .int .i64 x.d, .string x.text] 72) (.cells (rcA (rcN 0) nl nl nl) 47) (rcA (rcN 0) nl nl nl) (rcA (rcN 2) nl nl nl) rfl
  clear hWW
  obtain ⟨r0, r1, r2, r3, hw1⟩ := hrr
  have HRR0 : Hid (RR w W1 #[.int .i64 S.next, .int .i64 S.clock, b, v, u, q, g] x (rcA (rcN 2) nl nl nl)) := ⟨r0, r1, r2, r3, hw1⟩
  have k0 : W1.cell? ⟨w.heap.size + 1 + 1 + 1, 0, none⟩ = some (.int .i64 2) := cell_of r3 0 rfl
  clear r0 r1 r2 r3
  have xa0_0 := cell_of (unhide HRR0).r1 0 rfl
  have xa1_0 := cell_of (unhide HRR0).r1 1 rfl
  have xa2_0 := cell_of (unhide HRR0).r1 2 rfl
  have xa3_0 := cell_of (unhide HRR0).r1 3 rfl
  have xa4_0 := cell_of (unhide HRR0).r1 4 rfl
  have sa0_0 := cell_of (unhide HRR0).r0 0 rfl
  have sa1_0 := cell_of (unhide HRR0).r0 1 rfl
  have sa2_0 := cell_of (unhide HRR0).r0 2 rfl
  have sa3_0 := cell_of (unhide HRR0).r0 3 rfl
  have sa4_0 := cell_of (unhide HRR0).r0 4 rfl
  have sa5_0 := cell_of (unhide HRR0).r0 5 rfl
  have sa6_0 := cell_of (unhide HRR0).r0 6 rfl
  have pa1_0 := cell_of (unhide HRR0).r3 1 rfl
  have pa2_0 := cell_of (unhide HRR0).r3 2 rfl
  have pa3_0 := cell_of (unhide HRR0).r3 3 rfl
  have pa4_0 := cell_of (unhide HRR0).r3 4 rfl
  have pa27_0 := cell_of (unhide HRR0).r3 27 rfl
  have pa28_0 := cell_of (unhide HRR0).r3 28 rfl
  have pf0 := fun j => fz_of (unhide HRR0).r3 j
  have pl0 := (unhide HRR0).lt
  have ql0 := (unhide HRR0).lt0
  have qm0 := (unhide HRR0).lt1
  go_upto_region 50 with (first
    | (refine (name_any x.a _ ha0.1 ha0.2).mono ?_; rintro e w2 ⟨rfl, b2⟩; have HRR2 := hide ((unhide HRR0).up b2); have xa0_2 := cell_of (unhide HRR2).r1 0 rfl; have xa1_2 := cell_of (unhide HRR2).r1 1 rfl; have xa2_2 := cell_of (unhide HRR2).r1 2 rfl; have xa3_2 := cell_of (unhide HRR2).r1 3 rfl; have xa4_2 := cell_of (unhide HRR2).r1 4 rfl; have sa0_2 := cell_of (unhide HRR2).r0 0 rfl; have sa1_2 := cell_of (unhide HRR2).r0 1 rfl; have sa2_2 := cell_of (unhide HRR2).r0 2 rfl; have sa3_2 := cell_of (unhide HRR2).r0 3 rfl; have sa4_2 := cell_of (unhide HRR2).r0 4 rfl; have sa5_2 := cell_of (unhide HRR2).r0 5 rfl; have sa6_2 := cell_of (unhide HRR2).r0 6 rfl; have pa1_2 := cell_of (unhide HRR2).r3 1 rfl; have pa2_2 := cell_of (unhide HRR2).r3 2 rfl; have pa3_2 := cell_of (unhide HRR2).r3 3 rfl; have pa4_2 := cell_of (unhide HRR2).r3 4 rfl; have pa27_2 := cell_of (unhide HRR2).r3 27 rfl; have pa28_2 := cell_of (unhide HRR2).r3 28 rfl; have pf2 := fun j => fz_of (unhide HRR2).r3 j; have pl2 := (unhide HRR2).lt; have ql2 := (unhide HRR2).lt0; have qm2 := (unhide HRR2).lt1)
    | (with_reducible refine (picked_any x.b 2 _ (by decide) (by decide) hb0.1 hb0.2).mono ?_; rintro e w3 ⟨rfl, rfl⟩; have hlo := pickI_lo x.b (m := 2) (by decide); have hhi := pickI_hi x.b (m := 2) (by decide))
    | fail)
  have HF := hide (RR.set (c' := rcA { rcN 2 with nam := nmB x.a, n := 1 + pickI x.b 2 } nl nl nl) (RR.set (c' := rcA { rcN 2 with nam := nmB x.a } nl nl nl) (unhide HRR2) 3 (.string (nmB x.a)) rfl) 2 (.int .i64 (1 + pickI x.b 2)) rfl)
  have hP := (unhide HF).r3
  have hR := (unhide HF).r2
  have hbl := (unhide HF).bl
  refine wp_region_lit ?_
  refine wpList_load_mid rfl 47 (.tmp 5) rfl (w.heap.size + 1 + 1 + 1) 0 rfl (rcA ({ rcN 2 with nam := nmB x.a, n := 1 + pickI x.b 2 }) nl nl nl).toList _ (fun j v hv => by rw [Nat.zero_add]; exact cell_of hP j (by simpa using hv)) Tryz.underlying47 rfl (by kernel_rfl) ?_
  refine wpList_store_mid rfl 47 (.tmp 4) (.tmp 217) rfl (w.heap.size + 1 + 1) 0 (rcA ({ rcN 2 with nam := nmB x.a, n := 1 + pickI x.b 2 }) nl nl nl) rfl rfl (there_of (c := rcA (rcN 0) nl nl nl) (t := 47) hR) (by kernel_rfl) (by simp [Value.oneCell']) ?_
  have hrr := rec_end (c' := (rcA ({ rcN 2 with nam := nmB x.a, n := 1 + pickI x.b 2 }) nl nl nl)) hR rfl
  revert hrr
  generalize World.setCells _ (w.heap.size + 1 + 1) 0 _ = W9
  intro hrr
  obtain ⟨r9, hg9⟩ := hrr
  clear hP hR
  go_wp2
  refine bodyPost_ret (v := rcV ({ rcN 2 with nam := nmB x.a, n := 1 + pickI x.b 2 }) nl nl nl) (rec_res r9 rfl rfl) rfl ⟨nl, nl, nl, by rw [unhide HQ], ?_, ?_⟩
  · rw [unhide HQ]
    exact ⟨Ints.nil9 _, Ints.nil9 _, Ints.nil9 _⟩
  · exact bl_tr hbl (gb_lo hg9 (by have := hbl.size; omega) (fun j e => by injection e with e; omega))
set_option maxHeartbeats 2000000 in
theorem record_9 (S : St) (b v u q g : Value) (x : Rw) (w : World) (hS : Sta w b v u q g S) (hc : stC S = true) (hx : WfW x) (hk : pickI x.kind 14 = 9) :
    Calls Tryz.prog 25 #[stV S b v u q g, rwV x] w fun e w' => ∃ vv pv sv, e = .returned (rcV (recR S x) vv pv sv) ∧ RcI w' (recR S x) vv pv sv ∧ Below w.heap.size w w' := by
  have HS := hide hS
  obtain ⟨hk0, ha0, hb0, hc0, hd0⟩ := hx
  have HQ : Hid (recR S x = { rcN 10 with id := S.next, nam := nmB x.a, key := kyB x.b }) := by show _ = _; unfold recR; simp [hk]
  obtain ⟨Q, hQ⟩ : ∃ Q, recR S x = Q := ⟨_, rfl⟩
  rw [hQ] at HQ ⊢
  clear hQ hS
  have HK : Hid (∀ W : World, Calls Tryz.prog 10 #[.int .i64 x.kind, .int .i64 14] W fun e w' => e = .returned (.int .i64 9) ∧ W = w') := fun W => by
    have := picked_any x.kind 14 W (by decide) (by decide) hk0.1 hk0.2
    rw [hk] at this; exact this
  clear hk
  go_enter Tryz.func25, Tryz.ntmps25
  go_wp2_with fail
  refine (unhide HK _).mono ?_
  rintro e w1 ⟨rfl, rfl⟩
  simp only []
  rename_i hK0
  refine hK0 _ _ ?_
  clear hK0
  refine wpList_plain rfl (fun K hK => ?_)
  go_simp
  refine hK _ _ ?_
  clear hK
  refine wpList_plain rfl (fun K hK => ?_)
  go_simp
  refine hK _ _ ?_
  clear hK
  refine wpList_plain rfl (fun K hK => ?_)
  go_simp
  refine hK _ _ ?_
  clear hK
  rw [show IntKind.wrap .i64 10 = 10 by decide]
  refine wpList_store_mid rfl 47 (.tmp 5) (.tmp 14) rfl (w.heap.size + 1 + 1 + 1) 0 (rcA (rcN 10) nl nl nl) rfl rfl (there_of (c := rcA (rcN 0) nl nl nl) (t := 47) (rec_new _ _ _ _ _)) (by kernel_rfl) (by simp [Value.oneCell']) ?_
  generalize hWW : World.setCells _ (w.heap.size + 1 + 1 + 1) 0 _ = W1
  have hrr : W1.heap[w.heap.size]? = some (.cells #[.int .i64 S.next, .int .i64 S.clock, b, v, u, q, g] 29 (0, 0)) ∧ W1.heap[w.heap.size + 1]? = some (.cells #[.int .i64 x.kind, .int .i64 x.a, .int .i64 x.b, .int .i64 x.c, .int .i64 x.d, .string x.text] 72 (0, 0)) ∧ W1.heap[w.heap.size + 1 + 1]? = some (.cells (rcA (rcN 0) nl nl nl) 47 (0, 0)) ∧ W1.heap[w.heap.size + 1 + 1 + 1]? = some (.cells (rcA (rcN 10) nl nl nl) 47 (0, 0)) ∧ Below w.heap.size w W1 := by
    rw [← hWW]
    exact rec_rows w (.cells #[.int .i64 S.next, .int .i64 S.clock, b, v, u, q, g] 29) (.cells #[.int .i64 x.kind, .int .i64 x.a, .int .i64 x.b, .int .i64 x.c, .int .i64 x.d, .string x.text] 72) (.cells (rcA (rcN 0) nl nl nl) 47) (rcA (rcN 0) nl nl nl) (rcA (rcN 10) nl nl nl) rfl
  clear hWW
  obtain ⟨r0, r1, r2, r3, hw1⟩ := hrr
  have HRR0 : Hid (RR w W1 #[.int .i64 S.next, .int .i64 S.clock, b, v, u, q, g] x (rcA (rcN 10) nl nl nl)) := ⟨r0, r1, r2, r3, hw1⟩
  have k0 : W1.cell? ⟨w.heap.size + 1 + 1 + 1, 0, none⟩ = some (.int .i64 10) := cell_of r3 0 rfl
  clear r0 r1 r2 r3
  have xa0_0 := cell_of (unhide HRR0).r1 0 rfl
  have xa1_0 := cell_of (unhide HRR0).r1 1 rfl
  have xa2_0 := cell_of (unhide HRR0).r1 2 rfl
  have xa3_0 := cell_of (unhide HRR0).r1 3 rfl
  have xa4_0 := cell_of (unhide HRR0).r1 4 rfl
  have sa0_0 := cell_of (unhide HRR0).r0 0 rfl
  have sa1_0 := cell_of (unhide HRR0).r0 1 rfl
  have sa2_0 := cell_of (unhide HRR0).r0 2 rfl
  have sa3_0 := cell_of (unhide HRR0).r0 3 rfl
  have sa4_0 := cell_of (unhide HRR0).r0 4 rfl
  have sa5_0 := cell_of (unhide HRR0).r0 5 rfl
  have sa6_0 := cell_of (unhide HRR0).r0 6 rfl
  have pa1_0 := cell_of (unhide HRR0).r3 1 rfl
  have pa2_0 := cell_of (unhide HRR0).r3 2 rfl
  have pa3_0 := cell_of (unhide HRR0).r3 3 rfl
  have pa4_0 := cell_of (unhide HRR0).r3 4 rfl
  have pa27_0 := cell_of (unhide HRR0).r3 27 rfl
  have pa28_0 := cell_of (unhide HRR0).r3 28 rfl
  have pf0 := fun j => fz_of (unhide HRR0).r3 j
  have pl0 := (unhide HRR0).lt
  have ql0 := (unhide HRR0).lt0
  have qm0 := (unhide HRR0).lt1
  go_upto_region 50 with (first
    | (refine (name_any x.a _ ha0.1 ha0.2).mono ?_; rintro e w2 ⟨rfl, b2⟩; have HRR2 := hide ((RR.set (c' := rcA { rcN 10 with id := S.next } nl nl nl) (unhide HRR0) 1 (.int .i64 S.next) rfl).up b2); have xa0_2 := cell_of (unhide HRR2).r1 0 rfl; have xa1_2 := cell_of (unhide HRR2).r1 1 rfl; have xa2_2 := cell_of (unhide HRR2).r1 2 rfl; have xa3_2 := cell_of (unhide HRR2).r1 3 rfl; have xa4_2 := cell_of (unhide HRR2).r1 4 rfl; have sa0_2 := cell_of (unhide HRR2).r0 0 rfl; have sa1_2 := cell_of (unhide HRR2).r0 1 rfl; have sa2_2 := cell_of (unhide HRR2).r0 2 rfl; have sa3_2 := cell_of (unhide HRR2).r0 3 rfl; have sa4_2 := cell_of (unhide HRR2).r0 4 rfl; have sa5_2 := cell_of (unhide HRR2).r0 5 rfl; have sa6_2 := cell_of (unhide HRR2).r0 6 rfl; have pa1_2 := cell_of (unhide HRR2).r3 1 rfl; have pa2_2 := cell_of (unhide HRR2).r3 2 rfl; have pa3_2 := cell_of (unhide HRR2).r3 3 rfl; have pa4_2 := cell_of (unhide HRR2).r3 4 rfl; have pa27_2 := cell_of (unhide HRR2).r3 27 rfl; have pa28_2 := cell_of (unhide HRR2).r3 28 rfl; have pf2 := fun j => fz_of (unhide HRR2).r3 j; have pl2 := (unhide HRR2).lt; have ql2 := (unhide HRR2).lt0; have qm2 := (unhide HRR2).lt1)
    | (refine (key_any x.b _ hb0.1 hb0.2).mono ?_; rintro e w3 ⟨rfl, b3⟩; have HRR3 := hide ((RR.set (c' := rcA { rcN 10 with id := S.next, nam := nmB x.a } nl nl nl) (unhide HRR2) 3 (.string (nmB x.a)) rfl).up b3); have xa0_3 := cell_of (unhide HRR3).r1 0 rfl; have xa1_3 := cell_of (unhide HRR3).r1 1 rfl; have xa2_3 := cell_of (unhide HRR3).r1 2 rfl; have xa3_3 := cell_of (unhide HRR3).r1 3 rfl; have xa4_3 := cell_of (unhide HRR3).r1 4 rfl; have sa0_3 := cell_of (unhide HRR3).r0 0 rfl; have sa1_3 := cell_of (unhide HRR3).r0 1 rfl; have sa2_3 := cell_of (unhide HRR3).r0 2 rfl; have sa3_3 := cell_of (unhide HRR3).r0 3 rfl; have sa4_3 := cell_of (unhide HRR3).r0 4 rfl; have sa5_3 := cell_of (unhide HRR3).r0 5 rfl; have sa6_3 := cell_of (unhide HRR3).r0 6 rfl; have pa1_3 := cell_of (unhide HRR3).r3 1 rfl; have pa2_3 := cell_of (unhide HRR3).r3 2 rfl; have pa3_3 := cell_of (unhide HRR3).r3 3 rfl; have pa4_3 := cell_of (unhide HRR3).r3 4 rfl; have pa27_3 := cell_of (unhide HRR3).r3 27 rfl; have pa28_3 := cell_of (unhide HRR3).r3 28 rfl; have pf3 := fun j => fz_of (unhide HRR3).r3 j; have pl3 := (unhide HRR3).lt; have ql3 := (unhide HRR3).lt0; have qm3 := (unhide HRR3).lt1)
    | fail)
  have HF := hide (RR.set (c' := rcA { rcN 10 with id := S.next, nam := nmB x.a, key := kyB x.b } nl nl nl) (unhide HRR3) 4 (.string (kyB x.b)) rfl)
  have hP := (unhide HF).r3
  have hR := (unhide HF).r2
  have hbl := (unhide HF).bl
  refine wp_region_lit ?_
  refine wpList_load_mid rfl 47 (.tmp 5) rfl (w.heap.size + 1 + 1 + 1) 0 rfl (rcA ({ rcN 10 with id := S.next, nam := nmB x.a, key := kyB x.b }) nl nl nl).toList _ (fun j v hv => by rw [Nat.zero_add]; exact cell_of hP j (by simpa using hv)) Tryz.underlying47 rfl (by kernel_rfl) ?_
  refine wpList_store_mid rfl 47 (.tmp 4) (.tmp 217) rfl (w.heap.size + 1 + 1) 0 (rcA ({ rcN 10 with id := S.next, nam := nmB x.a, key := kyB x.b }) nl nl nl) rfl rfl (there_of (c := rcA (rcN 0) nl nl nl) (t := 47) hR) (by kernel_rfl) (by simp [Value.oneCell']) ?_
  have hrr := rec_end (c' := (rcA ({ rcN 10 with id := S.next, nam := nmB x.a, key := kyB x.b }) nl nl nl)) hR rfl
  revert hrr
  generalize World.setCells _ (w.heap.size + 1 + 1) 0 _ = W9
  intro hrr
  obtain ⟨r9, hg9⟩ := hrr
  clear hP hR
  go_wp2
  refine bodyPost_ret (v := rcV ({ rcN 10 with id := S.next, nam := nmB x.a, key := kyB x.b }) nl nl nl) (rec_res r9 rfl rfl) rfl ⟨nl, nl, nl, by rw [unhide HQ], ?_, ?_⟩
  · rw [unhide HQ]
    exact ⟨Ints.nil9 _, Ints.nil9 _, Ints.nil9 _⟩
  · exact bl_tr hbl (gb_lo hg9 (by have := hbl.size; omega) (fun j e => by injection e with e; omega))
set_option maxHeartbeats 2000000 in
theorem record_11 (S : St) (b v u q g : Value) (x : Rw) (w : World) (hS : Sta w b v u q g S) (hc : stC S = true) (hx : WfW x) (hk : pickI x.kind 14 = 11) :
    Calls Tryz.prog 25 #[stV S b v u q g, rwV x] w fun e w' => ∃ vv pv sv, e = .returned (rcV (recR S x) vv pv sv) ∧ RcI w' (recR S x) vv pv sv ∧ Below w.heap.size w w' := by
  have HS := hide hS
  obtain ⟨hk0, ha0, hb0, hc0, hd0⟩ := hx
  have HQ : Hid (recR S x = { rcN 12 with id := upN S x.a }) := by show _ = _; unfold recR; simp [hk]
  obtain ⟨Q, hQ⟩ : ∃ Q, recR S x = Q := ⟨_, rfl⟩
  rw [hQ] at HQ ⊢
  clear hQ hS
  have HK : Hid (∀ W : World, Calls Tryz.prog 10 #[.int .i64 x.kind, .int .i64 14] W fun e w' => e = .returned (.int .i64 11) ∧ W = w') := fun W => by
    have := picked_any x.kind 14 W (by decide) (by decide) hk0.1 hk0.2
    rw [hk] at this; exact this
  clear hk
  go_enter Tryz.func25, Tryz.ntmps25
  go_wp2_with fail
  refine (unhide HK _).mono ?_
  rintro e w1 ⟨rfl, rfl⟩
  simp only []
  rename_i hK0
  refine hK0 _ _ ?_
  clear hK0
  refine wpList_plain rfl (fun K hK => ?_)
  go_simp
  refine hK _ _ ?_
  clear hK
  refine wpList_plain rfl (fun K hK => ?_)
  go_simp
  refine hK _ _ ?_
  clear hK
  refine wpList_plain rfl (fun K hK => ?_)
  go_simp
  refine hK _ _ ?_
  clear hK
  rw [show IntKind.wrap .i64 12 = 12 by decide]
  refine wpList_store_mid rfl 47 (.tmp 5) (.tmp 14) rfl (w.heap.size + 1 + 1 + 1) 0 (rcA (rcN 12) nl nl nl) rfl rfl (there_of (c := rcA (rcN 0) nl nl nl) (t := 47) (rec_new _ _ _ _ _)) (by kernel_rfl) (by simp [Value.oneCell']) ?_
  generalize hWW : World.setCells _ (w.heap.size + 1 + 1 + 1) 0 _ = W1
  have hrr : W1.heap[w.heap.size]? = some (.cells #[.int .i64 S.next, .int .i64 S.clock, b, v, u, q, g] 29 (0, 0)) ∧ W1.heap[w.heap.size + 1]? = some (.cells #[.int .i64 x.kind, .int .i64 x.a, .int .i64 x.b, .int .i64 x.c, .int .i64 x.d, .string x.text] 72 (0, 0)) ∧ W1.heap[w.heap.size + 1 + 1]? = some (.cells (rcA (rcN 0) nl nl nl) 47 (0, 0)) ∧ W1.heap[w.heap.size + 1 + 1 + 1]? = some (.cells (rcA (rcN 12) nl nl nl) 47 (0, 0)) ∧ Below w.heap.size w W1 := by
    rw [← hWW]
    exact rec_rows w (.cells #[.int .i64 S.next, .int .i64 S.clock, b, v, u, q, g] 29) (.cells #[.int .i64 x.kind, .int .i64 x.a, .int .i64 x.b, .int .i64 x.c, .int .i64 x.d, .string x.text] 72) (.cells (rcA (rcN 0) nl nl nl) 47) (rcA (rcN 0) nl nl nl) (rcA (rcN 12) nl nl nl) rfl
  clear hWW
  obtain ⟨r0, r1, r2, r3, hw1⟩ := hrr
  have HRR0 : Hid (RR w W1 #[.int .i64 S.next, .int .i64 S.clock, b, v, u, q, g] x (rcA (rcN 12) nl nl nl)) := ⟨r0, r1, r2, r3, hw1⟩
  have k0 : W1.cell? ⟨w.heap.size + 1 + 1 + 1, 0, none⟩ = some (.int .i64 12) := cell_of r3 0 rfl
  clear r0 r1 r2 r3
  have xa0_0 := cell_of (unhide HRR0).r1 0 rfl
  have xa1_0 := cell_of (unhide HRR0).r1 1 rfl
  have xa2_0 := cell_of (unhide HRR0).r1 2 rfl
  have xa3_0 := cell_of (unhide HRR0).r1 3 rfl
  have xa4_0 := cell_of (unhide HRR0).r1 4 rfl
  have sa0_0 := cell_of (unhide HRR0).r0 0 rfl
  have sa1_0 := cell_of (unhide HRR0).r0 1 rfl
  have sa2_0 := cell_of (unhide HRR0).r0 2 rfl
  have sa3_0 := cell_of (unhide HRR0).r0 3 rfl
  have sa4_0 := cell_of (unhide HRR0).r0 4 rfl
  have sa5_0 := cell_of (unhide HRR0).r0 5 rfl
  have sa6_0 := cell_of (unhide HRR0).r0 6 rfl
  have pa1_0 := cell_of (unhide HRR0).r3 1 rfl
  have pa2_0 := cell_of (unhide HRR0).r3 2 rfl
  have pa3_0 := cell_of (unhide HRR0).r3 3 rfl
  have pa4_0 := cell_of (unhide HRR0).r3 4 rfl
  have pa27_0 := cell_of (unhide HRR0).r3 27 rfl
  have pa28_0 := cell_of (unhide HRR0).r3 28 rfl
  have pf0 := fun j => fz_of (unhide HRR0).r3 j
  have pl0 := (unhide HRR0).lt
  have ql0 := (unhide HRR0).lt0
  have qm0 := (unhide HRR0).lt1
  go_upto_region 50 with (first
    | (refine (k_upload_any S b v u q g x.a _ ((unhide HS).up (unhide HRR0).bl) ha0.1 ha0.2).mono ?_; rintro e w2 ⟨rfl, b2⟩; have HRR2 := hide ((unhide HRR0).up b2); have xa0_2 := cell_of (unhide HRR2).r1 0 rfl; have xa1_2 := cell_of (unhide HRR2).r1 1 rfl; have xa2_2 := cell_of (unhide HRR2).r1 2 rfl; have xa3_2 := cell_of (unhide HRR2).r1 3 rfl; have xa4_2 := cell_of (unhide HRR2).r1 4 rfl; have sa0_2 := cell_of (unhide HRR2).r0 0 rfl; have sa1_2 := cell_of (unhide HRR2).r0 1 rfl; have sa2_2 := cell_of (unhide HRR2).r0 2 rfl; have sa3_2 := cell_of (unhide HRR2).r0 3 rfl; have sa4_2 := cell_of (unhide HRR2).r0 4 rfl; have sa5_2 := cell_of (unhide HRR2).r0 5 rfl; have sa6_2 := cell_of (unhide HRR2).r0 6 rfl; have pa1_2 := cell_of (unhide HRR2).r3 1 rfl; have pa2_2 := cell_of (unhide HRR2).r3 2 rfl; have pa3_2 := cell_of (unhide HRR2).r3 3 rfl; have pa4_2 := cell_of (unhide HRR2).r3 4 rfl; have pa27_2 := cell_of (unhide HRR2).r3 27 rfl; have pa28_2 := cell_of (unhide HRR2).r3 28 rfl; have pf2 := fun j => fz_of (unhide HRR2).r3 j; have pl2 := (unhide HRR2).lt; have ql2 := (unhide HRR2).lt0; have qm2 := (unhide HRR2).lt1)
    | fail)
  have HF := hide (RR.set (c' := rcA { rcN 12 with id := upN S x.a } nl nl nl) (unhide HRR2) 1 (.int .i64 (upN S x.a)) rfl)
  have hP := (unhide HF).r3
  have hR := (unhide HF).r2
  have hbl := (unhide HF).bl
  refine wp_region_lit ?_
  refine wpList_load_mid rfl 47 (.tmp 5) rfl (w.heap.size + 1 + 1 + 1) 0 rfl (rcA ({ rcN 12 with id := upN S x.a }) nl nl nl).toList _ (fun j v hv => by rw [Nat.zero_add]; exact cell_of hP j (by simpa using hv)) Tryz.underlying47 rfl (by kernel_rfl) ?_
  refine wpList_store_mid rfl 47 (.tmp 4) (.tmp 217) rfl (w.heap.size + 1 + 1) 0 (rcA ({ rcN 12 with id := upN S x.a }) nl nl nl) rfl rfl (there_of (c := rcA (rcN 0) nl nl nl) (t := 47) hR) (by kernel_rfl) (by simp [Value.oneCell']) ?_
  have hrr := rec_end (c' := (rcA ({ rcN 12 with id := upN S x.a }) nl nl nl)) hR rfl
  revert hrr
  generalize World.setCells _ (w.heap.size + 1 + 1) 0 _ = W9
  intro hrr
  obtain ⟨r9, hg9⟩ := hrr
  clear hP hR
  go_wp2
  refine bodyPost_ret (v := rcV ({ rcN 12 with id := upN S x.a }) nl nl nl) (rec_res r9 rfl rfl) rfl ⟨nl, nl, nl, by rw [unhide HQ], ?_, ?_⟩
  · rw [unhide HQ]
    exact ⟨Ints.nil9 _, Ints.nil9 _, Ints.nil9 _⟩
  · exact bl_tr hbl (gb_lo hg9 (by have := hbl.size; omega) (fun j e => by injection e with e; omega))
set_option maxHeartbeats 2000000 in
theorem record_12 (S : St) (b v u q g : Value) (x : Rw) (w : World) (hS : Sta w b v u q g S) (hc : stC S = true) (hx : WfW x) (hk : pickI x.kind 14 = 12) :
    Calls Tryz.prog 25 #[stV S b v u q g, rwV x] w fun e w' => ∃ vv pv sv, e = .returned (rcV (recR S x) vv pv sv) ∧ RcI w' (recR S x) vv pv sv ∧ Below w.heap.size w w' := by
  have HS := hide hS
  obtain ⟨hk0, ha0, hb0, hc0, hd0⟩ := hx
  have HQ : Hid (recR S x = { rcN 13 with n := pickI x.a 12 }) := by show _ = _; unfold recR; simp [hk]
  obtain ⟨Q, hQ⟩ : ∃ Q, recR S x = Q := ⟨_, rfl⟩
  rw [hQ] at HQ ⊢
  clear hQ hS
  have HK : Hid (∀ W : World, Calls Tryz.prog 10 #[.int .i64 x.kind, .int .i64 14] W fun e w' => e = .returned (.int .i64 12) ∧ W = w') := fun W => by
    have := picked_any x.kind 14 W (by decide) (by decide) hk0.1 hk0.2
    rw [hk] at this; exact this
  clear hk
  go_enter Tryz.func25, Tryz.ntmps25
  go_wp2_with fail
  refine (unhide HK _).mono ?_
  rintro e w1 ⟨rfl, rfl⟩
  simp only []
  rename_i hK0
  refine hK0 _ _ ?_
  clear hK0
  refine wpList_plain rfl (fun K hK => ?_)
  go_simp
  refine hK _ _ ?_
  clear hK
  refine wpList_plain rfl (fun K hK => ?_)
  go_simp
  refine hK _ _ ?_
  clear hK
  refine wpList_plain rfl (fun K hK => ?_)
  go_simp
  refine hK _ _ ?_
  clear hK
  rw [show IntKind.wrap .i64 13 = 13 by decide]
  refine wpList_store_mid rfl 47 (.tmp 5) (.tmp 14) rfl (w.heap.size + 1 + 1 + 1) 0 (rcA (rcN 13) nl nl nl) rfl rfl (there_of (c := rcA (rcN 0) nl nl nl) (t := 47) (rec_new _ _ _ _ _)) (by kernel_rfl) (by simp [Value.oneCell']) ?_
  generalize hWW : World.setCells _ (w.heap.size + 1 + 1 + 1) 0 _ = W1
  have hrr : W1.heap[w.heap.size]? = some (.cells #[.int .i64 S.next, .int .i64 S.clock, b, v, u, q, g] 29 (0, 0)) ∧ W1.heap[w.heap.size + 1]? = some (.cells #[.int .i64 x.kind, .int .i64 x.a, .int .i64 x.b, .int .i64 x.c, .int .i64 x.d, .string x.text] 72 (0, 0)) ∧ W1.heap[w.heap.size + 1 + 1]? = some (.cells (rcA (rcN 0) nl nl nl) 47 (0, 0)) ∧ W1.heap[w.heap.size + 1 + 1 + 1]? = some (.cells (rcA (rcN 13) nl nl nl) 47 (0, 0)) ∧ Below w.heap.size w W1 := by
    rw [← hWW]
    exact rec_rows w (.cells #[.int .i64 S.next, .int .i64 S.clock, b, v, u, q, g] 29) (.cells #[.int .i64 x.kind, .int .i64 x.a, .int .i64 x.b, .int .i64 x.c, .int .i64 x.d, .string x.text] 72) (.cells (rcA (rcN 0) nl nl nl) 47) (rcA (rcN 0) nl nl nl) (rcA (rcN 13) nl nl nl) rfl
  clear hWW
  obtain ⟨r0, r1, r2, r3, hw1⟩ := hrr
  have HRR0 : Hid (RR w W1 #[.int .i64 S.next, .int .i64 S.clock, b, v, u, q, g] x (rcA (rcN 13) nl nl nl)) := ⟨r0, r1, r2, r3, hw1⟩
  have k0 : W1.cell? ⟨w.heap.size + 1 + 1 + 1, 0, none⟩ = some (.int .i64 13) := cell_of r3 0 rfl
  clear r0 r1 r2 r3
  have xa0_0 := cell_of (unhide HRR0).r1 0 rfl
  have xa1_0 := cell_of (unhide HRR0).r1 1 rfl
  have xa2_0 := cell_of (unhide HRR0).r1 2 rfl
  have xa3_0 := cell_of (unhide HRR0).r1 3 rfl
  have xa4_0 := cell_of (unhide HRR0).r1 4 rfl
  have sa0_0 := cell_of (unhide HRR0).r0 0 rfl
  have sa1_0 := cell_of (unhide HRR0).r0 1 rfl
  have sa2_0 := cell_of (unhide HRR0).r0 2 rfl
  have sa3_0 := cell_of (unhide HRR0).r0 3 rfl
  have sa4_0 := cell_of (unhide HRR0).r0 4 rfl
  have sa5_0 := cell_of (unhide HRR0).r0 5 rfl
  have sa6_0 := cell_of (unhide HRR0).r0 6 rfl
  have pa1_0 := cell_of (unhide HRR0).r3 1 rfl
  have pa2_0 := cell_of (unhide HRR0).r3 2 rfl
  have pa3_0 := cell_of (unhide HRR0).r3 3 rfl
  have pa4_0 := cell_of (unhide HRR0).r3 4 rfl
  have pa27_0 := cell_of (unhide HRR0).r3 27 rfl
  have pa28_0 := cell_of (unhide HRR0).r3 28 rfl
  have pf0 := fun j => fz_of (unhide HRR0).r3 j
  have pl0 := (unhide HRR0).lt
  have ql0 := (unhide HRR0).lt0
  have qm0 := (unhide HRR0).lt1
  go_upto_region 50 with (first
    | (with_reducible refine (picked_any x.a 12 _ (by decide) (by decide) ha0.1 ha0.2).mono ?_; rintro e w2 ⟨rfl, rfl⟩)
    | fail)
  have HF := hide (RR.set (c' := rcA { rcN 13 with n := pickI x.a 12 } nl nl nl) (unhide HRR0) 2 (.int .i64 (pickI x.a 12)) rfl)
  have hP := (unhide HF).r3
  have hR := (unhide HF).r2
  have hbl := (unhide HF).bl
  refine wp_region_lit ?_
  refine wpList_load_mid rfl 47 (.tmp 5) rfl (w.heap.size + 1 + 1 + 1) 0 rfl (rcA ({ rcN 13 with n := pickI x.a 12 }) nl nl nl).toList _ (fun j v hv => by rw [Nat.zero_add]; exact cell_of hP j (by simpa using hv)) Tryz.underlying47 rfl (by kernel_rfl) ?_
  refine wpList_store_mid rfl 47 (.tmp 4) (.tmp 217) rfl (w.heap.size + 1 + 1) 0 (rcA ({ rcN 13 with n := pickI x.a 12 }) nl nl nl) rfl rfl (there_of (c := rcA (rcN 0) nl nl nl) (t := 47) hR) (by kernel_rfl) (by simp [Value.oneCell']) ?_
  have hrr := rec_end (c' := (rcA ({ rcN 13 with n := pickI x.a 12 }) nl nl nl)) hR rfl
  revert hrr
  generalize World.setCells _ (w.heap.size + 1 + 1) 0 _ = W9
  intro hrr
  obtain ⟨r9, hg9⟩ := hrr
  clear hP hR
  go_wp2
  refine bodyPost_ret (v := rcV ({ rcN 13 with n := pickI x.a 12 }) nl nl nl) (rec_res r9 rfl rfl) rfl ⟨nl, nl, nl, by rw [unhide HQ], ?_, ?_⟩
  · rw [unhide HQ]
    exact ⟨Ints.nil9 _, Ints.nil9 _, Ints.nil9 _⟩
  · exact bl_tr hbl (gb_lo hg9 (by have := hbl.size; omega) (fun j e => by injection e with e; omega))
set_option maxHeartbeats 2000000 in
theorem record_13 (S : St) (b v u q g : Value) (x : Rw) (w : World) (hS : Sta w b v u q g S) (hc : stC S = true) (hx : WfW x) (hk : pickI x.kind 14 = 13) :
    Calls Tryz.prog 25 #[stV S b v u q g, rwV x] w fun e w' => ∃ vv pv sv, e = .returned (rcV (recR S x) vv pv sv) ∧ RcI w' (recR S x) vv pv sv ∧ Below w.heap.size w w' := by
  have HS := hide hS
  obtain ⟨hk0, ha0, hb0, hc0, hd0⟩ := hx
  have HQ : Hid (recR S x = { rcN 14 with vol := pickI x.a 4 }) := by show _ = _; unfold recR; simp [hk]
  obtain ⟨Q, hQ⟩ : ∃ Q, recR S x = Q := ⟨_, rfl⟩
  rw [hQ] at HQ ⊢
  clear hQ hS
  have HK : Hid (∀ W : World, Calls Tryz.prog 10 #[.int .i64 x.kind, .int .i64 14] W fun e w' => e = .returned (.int .i64 13) ∧ W = w') := fun W => by
    have := picked_any x.kind 14 W (by decide) (by decide) hk0.1 hk0.2
    rw [hk] at this; exact this
  clear hk
  go_enter Tryz.func25, Tryz.ntmps25
  go_wp2_with fail
  refine (unhide HK _).mono ?_
  rintro e w1 ⟨rfl, rfl⟩
  simp only []
  rename_i hK0
  refine hK0 _ _ ?_
  clear hK0
  refine wpList_plain rfl (fun K hK => ?_)
  go_simp
  refine hK _ _ ?_
  clear hK
  refine wpList_plain rfl (fun K hK => ?_)
  go_simp
  refine hK _ _ ?_
  clear hK
  refine wpList_plain rfl (fun K hK => ?_)
  go_simp
  refine hK _ _ ?_
  clear hK
  rw [show IntKind.wrap .i64 14 = 14 by decide]
  refine wpList_store_mid rfl 47 (.tmp 5) (.tmp 14) rfl (w.heap.size + 1 + 1 + 1) 0 (rcA (rcN 14) nl nl nl) rfl rfl (there_of (c := rcA (rcN 0) nl nl nl) (t := 47) (rec_new _ _ _ _ _)) (by kernel_rfl) (by simp [Value.oneCell']) ?_
  generalize hWW : World.setCells _ (w.heap.size + 1 + 1 + 1) 0 _ = W1
  have hrr : W1.heap[w.heap.size]? = some (.cells #[.int .i64 S.next, .int .i64 S.clock, b, v, u, q, g] 29 (0, 0)) ∧ W1.heap[w.heap.size + 1]? = some (.cells #[.int .i64 x.kind, .int .i64 x.a, .int .i64 x.b, .int .i64 x.c, .int .i64 x.d, .string x.text] 72 (0, 0)) ∧ W1.heap[w.heap.size + 1 + 1]? = some (.cells (rcA (rcN 0) nl nl nl) 47 (0, 0)) ∧ W1.heap[w.heap.size + 1 + 1 + 1]? = some (.cells (rcA (rcN 14) nl nl nl) 47 (0, 0)) ∧ Below w.heap.size w W1 := by
    rw [← hWW]
    exact rec_rows w (.cells #[.int .i64 S.next, .int .i64 S.clock, b, v, u, q, g] 29) (.cells #[.int .i64 x.kind, .int .i64 x.a, .int .i64 x.b, .int .i64 x.c, .int .i64 x.d, .string x.text] 72) (.cells (rcA (rcN 0) nl nl nl) 47) (rcA (rcN 0) nl nl nl) (rcA (rcN 14) nl nl nl) rfl
  clear hWW
  obtain ⟨r0, r1, r2, r3, hw1⟩ := hrr
  have HRR0 : Hid (RR w W1 #[.int .i64 S.next, .int .i64 S.clock, b, v, u, q, g] x (rcA (rcN 14) nl nl nl)) := ⟨r0, r1, r2, r3, hw1⟩
  have k0 : W1.cell? ⟨w.heap.size + 1 + 1 + 1, 0, none⟩ = some (.int .i64 14) := cell_of r3 0 rfl
  clear r0 r1 r2 r3
  have xa0_0 := cell_of (unhide HRR0).r1 0 rfl
  have xa1_0 := cell_of (unhide HRR0).r1 1 rfl
  have xa2_0 := cell_of (unhide HRR0).r1 2 rfl
  have xa3_0 := cell_of (unhide HRR0).r1 3 rfl
  have xa4_0 := cell_of (unhide HRR0).r1 4 rfl
  have sa0_0 := cell_of (unhide HRR0).r0 0 rfl
  have sa1_0 := cell_of (unhide HRR0).r0 1 rfl
  have sa2_0 := cell_of (unhide HRR0).r0 2 rfl
  have sa3_0 := cell_of (unhide HRR0).r0 3 rfl
  have sa4_0 := cell_of (unhide HRR0).r0 4 rfl
  have sa5_0 := cell_of (unhide HRR0).r0 5 rfl
  have sa6_0 := cell_of (unhide HRR0).r0 6 rfl
  have pa1_0 := cell_of (unhide HRR0).r3 1 rfl
  have pa2_0 := cell_of (unhide HRR0).r3 2 rfl
  have pa3_0 := cell_of (unhide HRR0).r3 3 rfl
  have pa4_0 := cell_of (unhide HRR0).r3 4 rfl
  have pa27_0 := cell_of (unhide HRR0).r3 27 rfl
  have pa28_0 := cell_of (unhide HRR0).r3 28 rfl
  have pf0 := fun j => fz_of (unhide HRR0).r3 j
  have pl0 := (unhide HRR0).lt
  have ql0 := (unhide HRR0).lt0
  have qm0 := (unhide HRR0).lt1
  go_upto_region 50 with (first
    | (with_reducible refine (picked_any x.a 4 _ (by decide) (by decide) ha0.1 ha0.2).mono ?_; rintro e w2 ⟨rfl, rfl⟩)
    | fail)
  have HF := hide (RR.set (c' := rcA { rcN 14 with vol := pickI x.a 4 } nl nl nl) (unhide HRR0) 27 (.int .i64 (pickI x.a 4)) rfl)
  have hP := (unhide HF).r3
  have hR := (unhide HF).r2
  have hbl := (unhide HF).bl
  refine wp_region_lit ?_
  refine wpList_load_mid rfl 47 (.tmp 5) rfl (w.heap.size + 1 + 1 + 1) 0 rfl (rcA ({ rcN 14 with vol := pickI x.a 4 }) nl nl nl).toList _ (fun j v hv => by rw [Nat.zero_add]; exact cell_of hP j (by simpa using hv)) Tryz.underlying47 rfl (by kernel_rfl) ?_
  refine wpList_store_mid rfl 47 (.tmp 4) (.tmp 217) rfl (w.heap.size + 1 + 1) 0 (rcA ({ rcN 14 with vol := pickI x.a 4 }) nl nl nl) rfl rfl (there_of (c := rcA (rcN 0) nl nl nl) (t := 47) hR) (by kernel_rfl) (by simp [Value.oneCell']) ?_
  have hrr := rec_end (c' := (rcA ({ rcN 14 with vol := pickI x.a 4 }) nl nl nl)) hR rfl
  revert hrr
  generalize World.setCells _ (w.heap.size + 1 + 1) 0 _ = W9
  intro hrr
  obtain ⟨r9, hg9⟩ := hrr
  clear hP hR
  go_wp2
  refine bodyPost_ret (v := rcV ({ rcN 14 with vol := pickI x.a 4 }) nl nl nl) (rec_res r9 rfl rfl) rfl ⟨nl, nl, nl, by rw [unhide HQ], ?_, ?_⟩
  · rw [unhide HQ]
    exact ⟨Ints.nil9 _, Ints.nil9 _, Ints.nil9 _⟩
  · exact bl_tr hbl (gb_lo hg9 (by have := hbl.size; omega) (fun j e => by injection e with e; omega))
end Go.Proofs.YtdgmdapijhbocaaGreat
