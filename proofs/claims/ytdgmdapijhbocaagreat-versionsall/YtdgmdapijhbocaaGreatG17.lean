/- icehousekeep.Record: what it makes. -/
import Derived.Test.YtdgmdapijhbocaaGreatG16
import Derived.Deep.MidRow
import Derived.Test.YtdgmdapijhbocaaGreatG13
import Derived.Test.YtdgmdapijhbocaaGreatG6
import Derived.Test.YtdgmdapijhbocaaGreatG12
import Derived.Shelf.SlSortCmp.NoneTotal
namespace Go.Proofs.YtdgmdapijhbocaaGreat
open Go.RowKit Go.Maps
set_option maxRecDepth 100000
set_option linter.unusedVariables false
set_option linter.unusedSimpArgs false
structure Rw where
  kind : Int
  a : Int
  b : Int
  c : Int
  d : Int
  text : ByteArray
def rw0 : Rw := ⟨0, 0, 0, 0, 0, .empty⟩
structure WfW (x : Rw) : Prop where
  k0 : -9223372036854775808 ≤ x.kind ∧ x.kind ≤ 9223372036854775807
  a0 : -9223372036854775808 ≤ x.a ∧ x.a ≤ 9223372036854775807
  b0 : -9223372036854775808 ≤ x.b ∧ x.b ≤ 9223372036854775807
  c0 : -9223372036854775808 ≤ x.c ∧ x.c ≤ 9223372036854775807
  d0 : -9223372036854775808 ≤ x.d ∧ x.d ≤ 9223372036854775807
abbrev rwV (x : Rw) : Value := .agg #[.int .i64 x.kind, .int .i64 x.a, .int .i64 x.b, .int .i64 x.c, .int .i64 x.d, .string x.text]
abbrev em : ByteArray := ⟨#[]⟩
def veN : Ve := ⟨0, em, em, false, false, 0, 0, 0, [], 0, 0, 0⟩
def preB (n : Int) : ByteArray := if pickI n 3 = 0 then em else if pickI n 3 = 1 then ⟨#[121]⟩ else ⟨#[122, 47]⟩
/-- A record of a kind that has nothing yet. -/
def rcN (k : Int) : Rc := ⟨k, 0, 0, em, em, em, 0, 0, veN, ak0, pa0, [], 0, 0⟩
/-- The sectors that a thaw asks for: those of the last version of that number. -/
def thwK (S : St) (id : Int) : Nat → List Int
  | 0 => []
  | k + 1 => if (S.ves.getD k ve0).id = id then secF S (S.ves.getD k ve0).size else thwK S id k
def verR (S : St) (x : Rw) : Ve :=
  if pickI x.d 5 = 0 then ⟨S.next, nmB x.a, kyB x.b, pickI x.d 3 == 0, true, 0, pickI x.c (S.clock + 1), 0, [], 0, 0, 0⟩
  else ⟨S.next, nmB x.a, kyB x.b, pickI x.d 3 == 0, false, pickI x.c 200, pickI x.c (S.clock + 1), 1, secF S (pickI x.c 200), 0, 0, 0⟩
def recR (S : St) (x : Rw) : Rc :=
  if pickI x.kind 14 = 0 then { rcN 1 with nam := nmB x.a }
  else if pickI x.kind 14 = 1 then { rcN 2 with nam := nmB x.a, n := 1 + pickI x.b 2 }
  else if pickI x.kind 14 = 2 then { rcN 3 with nam := nmB x.a, pre := preB x.b, fre := pickI x.c 12 - 1, dro := pickI x.d 30 - 1 }
  else if pickI x.kind 14 = 3 then { rcN 4 with ver := verR S x }
  else if pickI x.kind 14 = 4 then { rcN 5 with id := idN S x.a }
  else if pickI x.kind 14 = 5 then { rcN 6 with id := idN S x.a, vol := pickI x.b 3, pos := pickI x.c 1000 }
  else if pickI x.kind 14 = 6 then { rcN 7 with ask := ⟨idN S x.a, 1 + pickI x.b 9, pickI x.c 3⟩ }
  else if pickI x.kind 14 = 7 then { rcN 8 with id := idN S x.a, n := S.clock + pickI x.b 9, sec := thwK S (idN S x.a) S.ves.length }
  else if pickI x.kind 14 = 8 then { rcN 9 with id := idN S x.a }
  else if pickI x.kind 14 = 9 then { rcN 10 with id := S.next, nam := nmB x.a, key := kyB x.b }
  else if pickI x.kind 14 = 10 then { rcN 11 with id := upN S x.a, part := ⟨1 + pickI x.b 5, pickI x.c 200, secF S (pickI x.c 200)⟩ }
  else if pickI x.kind 14 = 11 then { rcN 12 with id := upN S x.a }
  else if pickI x.kind 14 = 12 then { rcN 13 with n := pickI x.a 12 }
  else { rcN 14 with vol := pickI x.a 4 }
theorem there_of {w : World} {g : Nat} {c : Array Value} {t : TypeId} (h : w.heap[g]? = some (.cells c t (0, 0))) : w.there g 0 c.size := fun j hj => by
  rw [Nat.zero_add]
  exact ⟨by rw [cell_of h j (v := c[j]) (by simp [hj])]; rfl, fz_of h j⟩
theorem rec_new (w : World) (o0 o1 o2 : Obj) (c : Array Value) : ((((w.alloc o0).alloc o1).alloc o2).alloc (.cells c 47)).heap[w.heap.size + 1 + 1 + 1]? = some (.cells c 47 (0, 0)) := by
  simpa using heap_alloc_new (((w.alloc o0).alloc o1).alloc o2) (.cells c 47)
/-- What lies where when the record's box was filled. -/
theorem rec_rows (w : World) (o0 o1 o2 : Obj) (c c' : Array Value) (hc : c'.size = c.size) :
    (((((w.alloc o0).alloc o1).alloc o2).alloc (.cells c 47)).setCells (w.heap.size + 1 + 1 + 1) 0 c'.toList).heap[w.heap.size]? = some o0 ∧
    (((((w.alloc o0).alloc o1).alloc o2).alloc (.cells c 47)).setCells (w.heap.size + 1 + 1 + 1) 0 c'.toList).heap[w.heap.size + 1]? = some o1 ∧
    (((((w.alloc o0).alloc o1).alloc o2).alloc (.cells c 47)).setCells (w.heap.size + 1 + 1 + 1) 0 c'.toList).heap[w.heap.size + 1 + 1]? = some o2 ∧
    (((((w.alloc o0).alloc o1).alloc o2).alloc (.cells c 47)).setCells (w.heap.size + 1 + 1 + 1) 0 c'.toList).heap[w.heap.size + 1 + 1 + 1]? = some (.cells c' 47 (0, 0)) ∧
    Below w.heap.size w (((((w.alloc o0).alloc o1).alloc o2).alloc (.cells c 47)).setCells (w.heap.size + 1 + 1 + 1) 0 c'.toList) := by
  have hg := gb_setCells (w.heap.size + 1 + 1 + 1) c'.toList 0 ((((w.alloc o0).alloc o1).alloc o2).alloc (.cells c 47))
  obtain ⟨h0, h1, h2, _⟩ := rows4 (Below.refl ((((w.alloc o0).alloc o1).alloc o2).alloc (.cells c 47)).heap.size _)
  have hs : ((((w.alloc o0).alloc o1).alloc o2).alloc (.cells c 47)).heap.size = w.heap.size + 1 + 1 + 1 + 1 := by simp
  refine ⟨(hg.block _ (by omega) (fun e => by injection e with e; omega)).trans h0, (hg.block _ (by omega) (fun e => by injection e with e; omega)).trans h1, (hg.block _ (by omega) (fun e => by injection e with e; omega)).trans h2, ?_, ?_⟩
  · have := row_setCells (g := w.heap.size + 1 + 1 + 1) (t := 47) c'.toList 0 _ c.toList (rec_new w o0 o1 o2 c) (by simp [hc])
    rw [this, List.take_zero, List.nil_append, List.drop_of_length_le (by simp [hc]), List.append_nil]
  · exact bl_tr (bl_alloc (bl_alloc (bl_alloc (bl1 _ _) _) _) _) (gb_lo hg (by omega) (fun j e => by injection e with e; omega))
theorem rec_end {w : World} {g : Nat} {c c' : Array Value} (h : w.heap[g]? = some (.cells c 47 (0, 0))) (hc : c'.size = c.size) :
    (w.setCells g 0 c'.toList).heap[g]? = some (.cells c' 47 (0, 0)) ∧ w.grownBy (w.setCells g 0 c'.toList) (some g) := by
  refine ⟨?_, gb_setCells _ _ _ _⟩
  have := row_setCells (g := g) (t := 47) c'.toList 0 w c.toList (by simpa using h) (by simp [hc])
  rw [this, List.take_zero, List.nil_append, List.drop_of_length_le (by simp [hc]), List.append_nil]
theorem res_cell1 {P : Program} {fn : Func} {a : Tmp} {t : TypeId} (h : fn.results = #[.cell a t]) {tmps : Array Value} {g : Nat} {w : World} {v : Value} (hx : tmps.getD a undef = .pointer (some ⟨g, 0, none⟩)) (hl : (loadVar t ⟨g, 0, none⟩).run P w = .ok v w) :
    (results fn tmps).run P w = .ok v w := by
  have hx' : tmps[a]?.getD undef = .pointer (some ⟨g, 0, none⟩) := by simpa using hx
  simp only [results, h]
  simp [Sem.run_bind, hx', asAddr, hl]
theorem rec_res {tmps : Array Value} {w : World} {g : Nat} {c : Array Value} (h : w.heap[g]? = some (.cells c 47 (0, 0))) (hc : c.size = 29) (hx : tmps.getD 4 undef = .pointer (some ⟨g, 0, none⟩)) :
    (results Tryz.f25 tmps).run Tryz.prog w = .ok (.agg c) w := by
  refine res_cell1 Tryz.results25 hx ?_
  have := run_loadVar_mid (P := Tryz.prog) w g 0 47 c.toList _ (fun j v hv => by rw [Nat.zero_add]; exact cell_of h j (by simpa using hv)) Tryz.underlying47 rfl (by rw [Array.length_toList, hc]; kernel_rfl)
  simpa using this
abbrev xsA (x : Rw) : Array Value := #[.int .i64 x.kind, .int .i64 x.a, .int .i64 x.b, .int .i64 x.c, .int .i64 x.d, .string x.text]
/-- The four boxes of Record: the state, the raw thing, the result, the record. -/
structure RR (w W : World) (sb : Array Value) (x : Rw) (c : Array Value) : Prop where
  r0 : W.heap[w.heap.size]? = some (.cells sb 29 (0, 0))
  r1 : W.heap[w.heap.size + 1]? = some (.cells (xsA x) 72 (0, 0))
  r2 : W.heap[w.heap.size + 1 + 1]? = some (.cells (rcA (rcN 0) nl nl nl) 47 (0, 0))
  r3 : W.heap[w.heap.size + 1 + 1 + 1]? = some (.cells c 47 (0, 0))
  bl : Below w.heap.size w W
theorem RR.lt {w W : World} {sb : Array Value} {x : Rw} {c : Array Value} (h : RR w W sb x c) : w.heap.size + 1 + 1 + 1 < W.heap.size := (Array.getElem?_eq_some_iff.1 h.r3).1
theorem RR.lt0 {w W : World} {sb : Array Value} {x : Rw} {c : Array Value} (h : RR w W sb x c) : w.heap.size < W.heap.size := by have := h.lt; omega
theorem RR.lt1 {w W : World} {sb : Array Value} {x : Rw} {c : Array Value} (h : RR w W sb x c) : w.heap.size + 1 < W.heap.size := by have := h.lt; omega
theorem RR.up {w W W' : World} {sb : Array Value} {x : Rw} {c : Array Value} (h : RR w W sb x c) (hb : Below W.heap.size W W') : RR w W' sb x c := by
  have hl := h.lt
  exact ⟨(hb.block _ (by omega)).trans h.r0, (hb.block _ (by omega)).trans h.r1, (hb.block _ (by omega)).trans h.r2, (hb.block _ hl).trans h.r3, bl_tr h.bl (bl_lo hb (by omega))⟩
theorem RR.set {w W : World} {sb : Array Value} {x : Rw} {c c' : Array Value} (h : RR w W sb x c) (i : Nat) (v : Value) (hc : c.setIfInBounds i v = c') : RR w (W.setCell ⟨w.heap.size + 1 + 1 + 1, i, none⟩ v) sb x c' := by
  have hl := h.lt
  have hg := gb_setCell W (w.heap.size + 1 + 1 + 1) i v
  exact ⟨(hg.block _ (by omega) (fun e => by injection e with e; omega)).trans h.r0, (hg.block _ (by omega) (fun e => by injection e with e; omega)).trans h.r1, (hg.block _ (by omega) (fun e => by injection e with e; omega)).trans h.r2, row1q h.r3 i v hc, bl_tr h.bl (gb_lo hg (by omega) (fun j e => by injection e with e; omega))⟩
theorem Ints.nil9 (w : World) : Ints w (.slice none 0 0) [] := ⟨none, 0, rfl, Nat.le_refl _, Nat.zero_le _, fun i hi => absurd hi (Nat.not_lt_zero _)⟩
end Go.Proofs.YtdgmdapijhbocaaGreat

/- How raw things that came in are read (over a state's seat). -/
namespace Go.Proofs.YtdgmdapijhbocaaGreat
open Go.ChangeShapes Go.WideShapes Go.ChangeAt Go.RowKit Go.Deep
set_option maxRecDepth 100000
set_option linter.unusedVariables false
set_option linter.unusedSimpArgs false
structure RRw (w : World) (b p : Nat) (x : Rw) : Prop where
  c0 : w.cell? ⟨b, p, none⟩ = some (.int .i64 x.kind)
  c1 : w.cell? ⟨b, p + 1, none⟩ = some (.int .i64 x.a)
  c2 : w.cell? ⟨b, p + 2, none⟩ = some (.int .i64 x.b)
  c3 : w.cell? ⟨b, p + 3, none⟩ = some (.int .i64 x.c)
  c4 : w.cell? ⟨b, p + 4, none⟩ = some (.int .i64 x.d)
  c5 : w.cell? ⟨b, p + 5, none⟩ = some (.string x.text)
  s : x.text.size ≤ maxLen
  wf : WfW x
abbrev Raws (w : World) (v : Value) (xs : List Rw) : Prop := Lst RRw 6 rw0 w v xs
theorem RRw.up {w w' : World} (hb : Below w.heap.size w w') {b p : Nat} {x : Rw} (h : RRw w b p x) : RRw w' b p x :=
  ⟨scell_up hb h.c0, scell_up hb h.c1, scell_up hb h.c2, scell_up hb h.c3, scell_up hb h.c4, scell_up hb h.c5, h.s, h.wf⟩
theorem Raws.up {w w' : World} {v : Value} {xs : List Rw} (h : Raws w v xs) (hb : Below w.heap.size w w') : Raws w' v xs := h.imp fun _ _ _ r => r.up hb
theorem rawCells : Tryz.prog.cellsOf 72 = 6 := by kernel_rfl
theorem open_raws {H : Type} {enc : TypeId × Value → H} {w : World} {base : Nat} {spare : Nat → Bool} {held : Bool} {r : Reach} {b0 : Nat} {v : Value} {d : DataW H} {p : List MemPlace}
    (hv : Value.okWide Tryz.prog w r b0 22 v) (h : DataW.Trod enc Tryz.prog w base spare held 22 v d p) :
    ∃ xs, Raws w v xs := by
  obtain ⟨fuel, hf⟩ := h
  have hcs : v.cells.toList = [v] := by
    obtain ⟨a, n, c, rfl⟩ := okWide_slice Tryz.underlying22 hv
    rfl
  rw [hcs] at hf
  refine open_list RRw 6 rw0 _ _ Tryz.underlying22 rawCells (by decide) hf ?_
  intro fuel' b p cs y hl k ht
  match cs, hl with
  | [c0, c1, c2, c3, c4, c5], _ =>
    obtain ⟨xs, n, _, _, _, hlen, hx⟩ := DataW.trod_struct Tryz.underlying72 ht
    match xs, hlen with
    | [y0, y1, y2, y3, y4, y5], _ =>
      have h0 := hx 0 _ rfl
      have h1 := hx 1 _ rfl
      have h2 := hx 2 _ rfl
      have h3 := hx 3 _ rfl
      have h4 := hx 4 _ rfl
      have h5 := hx 5 _ rfl
      simp [Value.cells, sInt, sStr] at h0 h1 h2 h3 h4 h5
      obtain ⟨x0, e0, _, w0⟩ := DataW.trod_int Tryz.underlying3 h0
      obtain ⟨x1, e1, _, w1⟩ := DataW.trod_int Tryz.underlying3 h1
      obtain ⟨x2, e2, _, w2⟩ := DataW.trod_int Tryz.underlying3 h2
      obtain ⟨x3, e3, _, w3⟩ := DataW.trod_int Tryz.underlying3 h3
      obtain ⟨x4, e4, _, w4⟩ := DataW.trod_int Tryz.underlying3 h4
      obtain ⟨s5, e5, _, w5⟩ := DataW.trod_string Tryz.underlying9 h5
      simp at e0 e1 e2 e3 e4 e5
      subst e0 e1 e2 e3 e4 e5
      exact ⟨⟨x0, x1, x2, x3, x4, s5⟩, k 0 (by decide), k 1 (by decide), k 2 (by decide), k 3 (by decide), k 4 (by decide), k 5 (by decide), w5, ⟨wf_lo w0, wf_lo w1, wf_lo w2, wf_lo w3, wf_lo w4⟩⟩
end Go.Proofs.YtdgmdapijhbocaaGreat

/- tier.isFor, tier.ids, Freeze, Drop, Chill. -/
namespace Go.Proofs.YtdgmdapijhbocaaGreat
open Go.RowKit Go.Maps
set_option maxRecDepth 100000
set_option linter.unusedVariables false
set_option linter.unusedSimpArgs false
theorem oi_up {w w' : World} {B : Nat} {v : Value} {xs : List Int} (h : OwI w B v xs) (hb : Below w.heap.size w w') : OwI w' B v xs := World.ownsRow.kept h (gb_below (r := none) hb) (Classical.em _)
/-- The numbers of those of the first k versions for which it holds. -/
def idsK (l : List Ve) (p : Ve → Bool) (k : Nat) : List Int := ((l.take k).filter p).map (·.id)
theorem idsK_yes {l : List Ve} {p : Ve → Bool} {k : Nat} (hk : k < l.length) (h : p (l.getD k ve0) = true) : idsK l p (k + 1) = idsK l p k ++ [(l.getD k ve0).id] := by
  unfold idsK
  rw [take_next l ve0 hk, List.filter_append, List.map_append, show List.filter p [l.getD k ve0] = [l.getD k ve0] by rw [List.filter_cons, if_pos h]; rfl]
  rfl
theorem idsK_no {l : List Ve} {p : Ve → Bool} {k : Nat} (hk : k < l.length) (h : p (l.getD k ve0) = false) : idsK l p (k + 1) = idsK l p k := by
  unfold idsK
  rw [take_next l ve0 hk, List.filter_append, List.map_append, show List.filter p [l.getD k ve0] = [] by rw [List.filter_cons, if_neg (by rw [h]; decide)]; rfl]
  exact List.append_nil _
theorem idsK_len (l : List Ve) (p : Ve → Bool) (k : Nat) : (idsK l p k).length ≤ k := by
  unfold idsK
  have := List.length_filter_le p (l.take k)
  rw [List.length_map]
  have h2 := List.length_take_le k l
  omega
theorem idsK_congr {l : List Ve} {p q : Ve → Bool} (k : Nat) (h : ∀ x ∈ l, p x = q x) : idsK l p k = idsK l q k := by
  unfold idsK
  congr 1
  exact List.filter_congr fun x hx => h x (List.mem_of_mem_take hx)
theorem mem_ids {l : List Ve} {p : Ve → Bool} {k : Nat} {n : Int} (h : n ∈ idsK l p k) : ∃ x ∈ l, x.id = n := by
  unfold idsK at h
  obtain ⟨x, hx, rfl⟩ := List.mem_map.1 h
  exact ⟨x, List.mem_of_mem_take (List.mem_filter.1 hx).1, rfl⟩
theorem tstC_ves {S : St} (h : stC S = true) : vesC S = true := by
  unfold stC at h
  simp only [Bool.and_eq_true] at h
  exact h.1.1.1.2
theorem tstC_clock {S : St} (h : stC S = true) : 0 ≤ S.clock ∧ S.clock ≤ 1073741824 := by
  unfold stC at h
  simp only [Bool.and_eq_true] at h
  exact inB_t h.1.1.1.1.1.1.2
theorem tstC_next {S : St} (h : stC S = true) : 1 ≤ S.next ∧ S.next ≤ 1048576 := by
  unfold stC at h
  simp only [Bool.and_eq_true] at h
  exact inB_t h.1.1.1.1.1.1.1
theorem tstC_at {S : St} (h : stC S = true) {x : Ve} (hx : x ∈ S.ves) : veC S x = true := by
  have h1 := tstC_ves h
  unfold vesC at h1
  simp only [Bool.and_eq_true] at h1
  obtain ⟨k, hk, e⟩ := mem_at (d := ve0) hx
  have := allB_iff.1 h1.1.2 k hk
  unfold vesQ at this
  rwa [e] at this
theorem tstC_len {S : St} (h : stC S = true) : S.ves.length ≤ 40 := by
  have h1 := tstC_ves h
  unfold vesC at h1
  simp only [Bool.and_eq_true, decide_eq_true_eq] at h1
  have := h1.1.1.1
  omega
theorem tveC_id {S : St} {x : Ve} (h : veC S x = true) : 1 ≤ x.id ∧ x.id ≤ S.next - 1 := by
  unfold veC namC at h
  simp only [Bool.and_eq_true] at h
  exact inB_t h.1.1.1.1
theorem tveC_time {S : St} {x : Ve} (h : veC S x = true) : 0 ≤ x.time ∧ x.time ≤ S.clock := by
  unfold veC namC at h
  simp only [Bool.and_eq_true] at h
  exact inB_t h.1.2
theorem mem_getD {l : List Ve} {k : Nat} (hk : k < l.length) : l.getD k ve0 ∈ l := by
  rw [List.getD_eq_getElem?_getD, List.getElem?_eq_getElem hk]
  exact List.getElem_mem hk
theorem ids_wf {S : St} (h : stC S = true) (p : Ve → Bool) (k : Nat) : ∀ x ∈ idsK S.ves p k, (Lit.int .i64 x).wf = true := by
  intro n hn
  obtain ⟨x, hx, rfl⟩ := mem_ids hn
  have h1 := tveC_id (tstC_at h hx)
  have h2 := tstC_next h
  obtain ⟨m, hm⟩ := Int.eq_ofNat_of_zero_le (show 0 ≤ x.id by omega)
  rw [hm]
  exact wfNat (by omega)
set_option maxHeartbeats 1000000 in
theorem index_isFor (C1 C2 C3 : Value) (a : Option Addr) (cap : Nat) (xs : List Bu) (p : Nat → Bool) (w : World) (hL : Lst RBu 5 bu0 w (.slice a xs.length cap) xs) (hn : xs.length ≤ 9223372036854775807)
    (hst : ∀ (k : Nat) (wr : World) (X : Bu), k < xs.length → xs.getD k bu0 = X → X.pre.size ≤ maxLen → Below w.heap.size w wr → Calls Tryz.prog 115 #[buV X, C1, C2, C3] wr fun e w' => e = .returned (.bool (p k)) ∧ Below wr.heap.size wr w') :
    Calls Tryz.prog 152 #[.slice a xs.length cap, .func (.func 115) #[] #[C1, C2, C3]] w fun e w' => e = .returned (.int .i64 (firstI xs.length p)) ∧ Below w.heap.size w w' := by
  have HL := hide hL
  have HST := hide hst
  clear hL hst
  obtain ⟨N, hN⟩ : ∃ N, xs.length = N := ⟨_, rfl⟩
  have HN := hide hN
  rw [hN] at hn HL HST ⊢
  clear hN
  go_enter Tryz.func152, Tryz.ntmps152
  go_wp2
  go_loopw [5, 8] (fun _ i wr => ∃ k : Nat, k ≤ N ∧ i = .int .i64 k ∧ Below w.heap.size w wr ∧ ∀ j, j < k → p j = false) (fun _ i _ => N - (intOf i).toNat)
  case atStart => exact ⟨0, Nat.zero_le _, rfl, Below.refl _ _, fun j hj => absurd hj (Nat.not_lt_zero _)⟩
  case round =>
    obtain ⟨k, hk, rfl, hb, hall⟩ := hrel
    have HA := hide hall
    clear hall
    by_cases hlt : k < N
    · obtain ⟨b, o, rfl, r0⟩ := Lst.at (unhide HL) (i := k) (by rw [unhide HN]; exact hlt)
      obtain ⟨X, hX⟩ : ∃ X, xs.getD k bu0 = X := ⟨_, rfl⟩
      rw [hX] at r0
      have r := RBu.up hb r0
      have HX := hide hX
      clear hX r0
      have hI := hb
      have c0 := r.c0
      have c1 := r.c1
      have c2 := r.c2
      have c3 := r.c3
      have c4 := r.c4
      have HZ := hide r.s2
      have HI := hide hI
      clear r hI
      go_wp2_with fail
      refine (unhide HST k _ X hlt (unhide HX) (unhide HZ) (unhide HI)).mono ?_
      rintro e w1 ⟨rfl, hb1⟩
      cases hpk : p k
      · go_wp2
        go_roundw
        case rel => exact ⟨k + 1, by omega, by go_num, bl_trans hb hb1, fun j hj => if e : j < k then unhide HA j e else (show j = k by omega) ▸ hpk⟩
        case measure => simp [intOf]; omega
      · go_wp2
        go_ret
        exact ⟨ret_int (firstI_t hlt hpk (unhide HA)).symm, bl_trans hb hb1⟩
    · obtain rfl : k = N := by omega
      go_wp2
      go_ret
      exact ⟨ret_int (firstI_f (unhide HA)).symm, hb⟩
theorem contains_isFor (C1 C2 C3 : Value) (a : Option Addr) (cap : Nat) (xs : List Bu) (p : Nat → Bool) (w : World) (hL : Lst RBu 5 bu0 w (.slice a xs.length cap) xs) (hn : xs.length ≤ 9223372036854775807)
    (hst : ∀ (k : Nat) (wr : World) (X : Bu), k < xs.length → xs.getD k bu0 = X → X.pre.size ≤ maxLen → Below w.heap.size w wr → Calls Tryz.prog 115 #[buV X, C1, C2, C3] wr fun e w' => e = .returned (.bool (p k)) ∧ Below wr.heap.size wr w') :
    Calls Tryz.prog 104 #[.slice a xs.length cap, .func (.func 115) #[] #[C1, C2, C3]] w fun e w' => e = .returned (.bool (decide (0 ≤ firstI xs.length p))) ∧ Below w.heap.size w w' := by
  have HL := hide hL
  have HST := hide hst
  have HN := hide hn
  clear hL hst hn
  go_enter Tryz.func104, Tryz.ntmps104
  go_wp2_with fail
  refine (index_isFor C1 C2 C3 a cap xs p w (unhide HL) (unhide HN) (unhide HST)).mono ?_
  rintro e w1 ⟨rfl, hb⟩
  go_wp2
  go_ret
  exact ⟨rfl, hb⟩
def ageE (S : St) (X : Ve) (dr : Bool) : Bool := decide (0 ≤ firstI S.bus.length (fun i => ageP S X dr (S.bus.getD i bu0)))
theorem isFor_fre (S : St) (X : Ve) (b v u q g : Value) (ua : Option Addr) (un uc : Nat) (w : World) (hS : Sta w b v u q g S)
    (hc0 : 0 ≤ S.clock) (hc1 : S.clock ≤ 1073741824) (ht0 : 0 ≤ X.time) (ht1 : X.time ≤ 1073741824) (hk : X.ke.size ≤ maxLen) :
    Calls Tryz.prog 48 #[stV S b v u q g, veV X (.slice ua un uc), .func (.func 49) #[] #[]] w fun e w' => e = .returned (.bool (ageE S X false)) ∧ Below w.heap.size w w' := by
  obtain ⟨ba, bc, rfl, hb1, hb2⟩ := hS.bus.form
  unfold maxLen at hb2
  have HS := hide hS
  have HK := hide hk
  have H1 := hide (And.intro hc0 (And.intro hc1 (And.intro ht0 ht1)))
  obtain ⟨R, hR⟩ : ∃ R, ageE S X false = R := ⟨_, rfl⟩
  rw [hR]
  have HR := hide hR
  clear hS hk hc0 hc1 ht0 ht1 hR
  go_enter Tryz.func48, Tryz.ntmps48
  go_wp2_with fail
  have hw3 := bl_alloc (bl_alloc (bl1 w (.cells #[.int .i64 S.next, .int .i64 S.clock, .slice ba S.bus.length bc, v, u, q, g] 29)) (.cells (veB X (.slice ua un uc)) 36)) (.cells #[.func (.func 49) #[] #[]] 95)
  refine (contains_isFor _ _ _ ba bc S.bus (fun i => ageP S X false (S.bus.getD i bu0)) _ ((unhide HS).up hw3).bus (by omega) ?_).mono ?_
  · intro k wr Y hk hY hp hbr
    subst hY
    obtain ⟨k0, k1, k2, k3⟩ := unhide H1
    exact isFor_1_fre S X _ v u q g _ _ _ _ _ wr (scell_up hbr (by rw [World.cell?_alloc_at _ _ _ _ (by simp)]; rfl)) (((BoxV.at _ X _ _ (by simp)).up (bl1 _ _)).up hbr) (((BoxS.new w S _ v u q g _).up (bl_alloc (bl1 _ _) _)).up hbr) k0 k1 k2 k3 (unhide HK) hp
  rintro e w1 ⟨rfl, hb⟩
  go_wp2
  go_ret
  exact ⟨ret_bool (unhide HR), bl_trans hw3 hb⟩
theorem isFor_dro (S : St) (X : Ve) (b v u q g : Value) (ua : Option Addr) (un uc : Nat) (w : World) (hS : Sta w b v u q g S)
    (hc0 : 0 ≤ S.clock) (hc1 : S.clock ≤ 1073741824) (ht0 : 0 ≤ X.time) (ht1 : X.time ≤ 1073741824) (hk : X.ke.size ≤ maxLen) :
    Calls Tryz.prog 48 #[stV S b v u q g, veV X (.slice ua un uc), .func (.func 51) #[] #[]] w fun e w' => e = .returned (.bool (ageE S X true)) ∧ Below w.heap.size w w' := by
  obtain ⟨ba, bc, rfl, hb1, hb2⟩ := hS.bus.form
  unfold maxLen at hb2
  have HS := hide hS
  have HK := hide hk
  have H1 := hide (And.intro hc0 (And.intro hc1 (And.intro ht0 ht1)))
  obtain ⟨R, hR⟩ : ∃ R, ageE S X true = R := ⟨_, rfl⟩
  rw [hR]
  have HR := hide hR
  clear hS hk hc0 hc1 ht0 ht1 hR
  go_enter Tryz.func48, Tryz.ntmps48
  go_wp2_with fail
  have hw3 := bl_alloc (bl_alloc (bl1 w (.cells #[.int .i64 S.next, .int .i64 S.clock, .slice ba S.bus.length bc, v, u, q, g] 29)) (.cells (veB X (.slice ua un uc)) 36)) (.cells #[.func (.func 51) #[] #[]] 95)
  refine (contains_isFor _ _ _ ba bc S.bus (fun i => ageP S X true (S.bus.getD i bu0)) _ ((unhide HS).up hw3).bus (by omega) ?_).mono ?_
  · intro k wr Y hk hY hp hbr
    subst hY
    obtain ⟨k0, k1, k2, k3⟩ := unhide H1
    exact isFor_1_dro S X _ v u q g _ _ _ _ _ wr (scell_up hbr (by rw [World.cell?_alloc_at _ _ _ _ (by simp)]; rfl)) (((BoxV.at _ X _ _ (by simp)).up (bl1 _ _)).up hbr) (((BoxS.new w S _ v u q g _).up (bl_alloc (bl1 _ _) _)).up hbr) k0 k1 k2 k3 (unhide HK) hp
  rintro e w1 ⟨rfl, hb⟩
  go_wp2
  go_ret
  exact ⟨ret_bool (unhide HR), bl_trans hw3 hb⟩
end Go.Proofs.YtdgmdapijhbocaaGreat

/- icehousekeep.State: the states that it makes. -/
namespace Go.Proofs.YtdgmdapijhbocaaGreat
open Go.RowKit Go.Maps
set_option maxRecDepth 100000
set_option linter.unusedVariables false
set_option linter.unusedSimpArgs false
def rwA (a : Int) : Rw := ⟨0, a, 0, 0, 0, em⟩
/-- Nothing was done. -/
def s00 : St := ⟨1, 0, [], [], [], [], []⟩
/-- Behind a record of a raw thing; one that is refused changes nothing. -/
def stp (S : St) (x : Rw) : St := if appE S (recR S x) = 0 then appS S (recR S x) else S
def rwAt (l : List Rw) (k : Nat) : Rw := if k < 2 then rwA k else l.getD (k - 2) rw0
def stN (l : List Rw) : Nat → St
  | 0 => s00
  | k + 1 => stp (stN l k) (rwAt l k)
def cntN (l : List Rw) : Nat → Nat
  | 0 => 0
  | k + 1 => cntN l k + if appE (stN l k) (recR (stN l k) (rwAt l k)) = 0 then 1 else 0
/-- As many rounds. -/
def rnd (l : List Rw) (most : Nat) : Nat := 2 + min l.length most
def staL (l : List Rw) (most : Nat) : St := stN l (rnd l most)
theorem app_ok {S : St} {r : Rc} (h : appE S r = 0) : stC S = true ∧ chgE S r = 0 ∧ stC (chgS S r) = true ∧ appS S r = chgS S r := by
  have h' := h
  unfold appE at h'
  split at h'
  · rename_i h1
    split at h'
    · rename_i h2
      split at h'
      · rename_i h3
        exact ⟨h1, h2, h3, by unfold appS; rw [if_pos h]⟩
      · cases h'
    · rename_i h2; exact absurd h' h2
  · cases h'
theorem stC_s00 : stC s00 = true := by kernel_rfl
theorem stp_ok {S : St} (h : stC S = true) (x : Rw) : stC (stp S x) = true := by
  unfold stp
  split
  · rename_i h0
    obtain ⟨_, _, h3, h4⟩ := app_ok h0
    rw [h4]; exact h3
  · exact h
theorem stN_ok (l : List Rw) : ∀ k, stC (stN l k) = true
  | 0 => stC_s00
  | k + 1 => stp_ok (stN_ok l k) _
theorem stp_yes {S : St} {x : Rw} (h : appE S (recR S x) = 0) : stp S x = appS S (recR S x) := by unfold stp; rw [if_pos h]
theorem stp_no {S : St} {x : Rw} (h : ¬ appE S (recR S x) = 0) : stp S x = S := by unfold stp; rw [if_neg h]
theorem i64_wf {n : Int} (h0 : -9223372036854775808 ≤ n) (h1 : n ≤ 9223372036854775807) : (Lit.int .i64 n).wf = true := by
  rw [Lit.wf_int_iff, show IntKind.i64.min = -9223372036854775808 by decide, show IntKind.i64.max = 9223372036854775807 by decide]
  exact ⟨h0, h1⟩
theorem secF_wf (S : St) (n : Int) : ∀ y ∈ secF S n, (Lit.int .i64 y).wf = true := fun y hy => fre_wf S 200 y (List.mem_of_mem_take hy)
theorem thwK_wf (S : St) (id : Int) : ∀ k, ∀ y ∈ thwK S id k, (Lit.int .i64 y).wf = true
  | 0, y, hy => by cases hy
  | k + 1, y, hy => by
    unfold thwK at hy
    split at hy
    · exact secF_wf _ _ y hy
    · exact thwK_wf S id k y hy
theorem thwK_len (S : St) (id : Int) : ∀ k, (thwK S id k).length ≤ 200
  | 0 => Nat.zero_le _
  | k + 1 => by
    unfold thwK
    split
    · exact secF_len _ _
    · exact thwK_len S id k
theorem idN_b {S : St} (h : stC S = true) (n : Int) : 1 ≤ idN S n ∧ idN S n ≤ 1048576 := by
  unfold idN
  split
  · have := pickI_lo n (m := 9) (by decide)
    have := pickI_hi n (m := 9) (by decide)
    omega
  · rename_i hl
    obtain ⟨k, hk, e⟩ := pick_nat n (L := S.ves.length) (by omega)
    rw [e, Int.toNat_natCast]
    have h1 := tveC_id (tstC_at h (mem_getD (k := k) hk))
    have h2 := tstC_next h
    omega
theorem preB_le (n : Int) : (preB n).size ≤ maxLen := by
  unfold preB
  repeat (first | (split; · decide) | decide)
theorem rcN_wf (k : Int) : WfR (rcN k) := ⟨by show em.size ≤ _; decide, by show em.size ≤ _; decide, by show em.size ≤ _; decide, by show em.size ≤ _; decide, by show em.size ≤ _; decide, (fun n hn => by cases hn), by show (Lit.int .i64 0).wf = true; decide, (fun n hn => by cases hn), (fun n hn => by cases hn), by show (Lit.int .i64 0).wf = true; decide⟩
theorem rcN_fit (k : Int) : FitR (rcN k) := ⟨by show em.size ≤ _; decide, by show em.size ≤ _; decide, by show 0 * 8 ≤ _; decide, by show 0 * 8 ≤ _; decide, by show 0 * 8 ≤ _; decide⟩
theorem verR_wf (S : St) (x : Rw) : (verR S x).bu.size ≤ maxLen ∧ (verR S x).ke.size ≤ maxLen ∧ (∀ n ∈ (verR S x).sec, (Lit.int .i64 n).wf = true) ∧ (verR S x).sec.length ≤ 200 := by
  unfold verR
  split
  · exact ⟨(nmB_le _).1, kyB_le _, (fun n hn => by cases hn), Nat.zero_le _⟩
  · exact ⟨(nmB_le _).1, kyB_le _, secF_wf _ _, secF_len _ _⟩
theorem pick_wf (n : Int) {m : Int} (h0 : 0 < m) (h1 : m ≤ 1000000) : (Lit.int .i64 (pickI n m)).wf = true := by
  have h2 := pickI_lo n h0
  have h3 := pickI_hi n h0
  exact i64_wf (by omega) (by omega)
theorem id_wf {S : St} (h : stC S = true) (n : Int) : (Lit.int .i64 (idN S n)).wf = true := by
  have h2 := idN_b h n
  exact i64_wf (by omega) (by omega)
theorem len_fit {l : List Int} (h : l.length ≤ 200) : l.length * 8 ≤ 281474976710656 := by omega
theorem recR_wf {S : St} (h : stC S = true) (x : Rw) : WfR (recR S x) := by
  have hz := fun k => rcN_wf k
  unfold recR
  by_cases k0 : pickI x.kind 14 = 0
  · rw [if_pos k0]
    exact { hz 1 with nam := (nmB_le _).1 }
  rw [if_neg k0]
  by_cases k1 : pickI x.kind 14 = 1
  · rw [if_pos k1]
    exact { hz 2 with nam := (nmB_le _).1 }
  rw [if_neg k1]
  by_cases k2 : pickI x.kind 14 = 2
  · rw [if_pos k2]
    exact { hz 3 with nam := (nmB_le _).1, pre := preB_le _ }
  rw [if_neg k2]
  by_cases k3 : pickI x.kind 14 = 3
  · rw [if_pos k3]
    exact { hz 4 with vbu := (verR_wf S x).1, vke := (verR_wf S x).2.1, vsec := (verR_wf S x).2.2.1 }
  rw [if_neg k3]
  by_cases k4 : pickI x.kind 14 = 4
  · rw [if_pos k4]
    exact { hz 5 with }
  rw [if_neg k4]
  by_cases k5 : pickI x.kind 14 = 5
  · rw [if_pos k5]
    exact { hz 6 with vol := pick_wf x.b (by decide) (by decide) }
  rw [if_neg k5]
  by_cases k6 : pickI x.kind 14 = 6
  · rw [if_pos k6]
    exact { hz 7 with ask := id_wf h x.a }
  rw [if_neg k6]
  by_cases k7 : pickI x.kind 14 = 7
  · rw [if_pos k7]
    exact { hz 8 with sec := thwK_wf _ _ _ }
  rw [if_neg k7]
  by_cases k8 : pickI x.kind 14 = 8
  · rw [if_pos k8]
    exact { hz 9 with }
  rw [if_neg k8]
  by_cases k9 : pickI x.kind 14 = 9
  · rw [if_pos k9]
    exact { hz 10 with nam := (nmB_le _).1, key := kyB_le _ }
  rw [if_neg k9]
  by_cases k10 : pickI x.kind 14 = 10
  · rw [if_pos k10]
    exact { hz 11 with psec := secF_wf _ _ }
  rw [if_neg k10]
  by_cases k11 : pickI x.kind 14 = 11
  · rw [if_pos k11]
    exact { hz 12 with }
  rw [if_neg k11]
  by_cases k12 : pickI x.kind 14 = 12
  · rw [if_pos k12]
    exact { hz 13 with }
  rw [if_neg k12]
  exact { hz 14 with vol := pick_wf x.a (by decide) (by decide) }
theorem recR_fit (S : St) (x : Rw) : FitR (recR S x) := by
  have hz := fun k => rcN_fit k
  unfold recR
  by_cases k0 : pickI x.kind 14 = 0
  · rw [if_pos k0]
    exact { hz 1 with nam := (nmB_le _).1 }
  rw [if_neg k0]
  by_cases k1 : pickI x.kind 14 = 1
  · rw [if_pos k1]
    exact { hz 2 with nam := (nmB_le _).1 }
  rw [if_neg k1]
  by_cases k2 : pickI x.kind 14 = 2
  · rw [if_pos k2]
    exact { hz 3 with nam := (nmB_le _).1, pre := preB_le _ }
  rw [if_neg k2]
  by_cases k3 : pickI x.kind 14 = 3
  · rw [if_pos k3]
    exact { hz 4 with ver := len_fit (verR_wf S x).2.2.2 }
  rw [if_neg k3]
  by_cases k4 : pickI x.kind 14 = 4
  · rw [if_pos k4]
    exact { hz 5 with }
  rw [if_neg k4]
  by_cases k5 : pickI x.kind 14 = 5
  · rw [if_pos k5]
    exact { hz 6 with }
  rw [if_neg k5]
  by_cases k6 : pickI x.kind 14 = 6
  · rw [if_pos k6]
    exact { hz 7 with }
  rw [if_neg k6]
  by_cases k7 : pickI x.kind 14 = 7
  · rw [if_pos k7]
    exact { hz 8 with sec := len_fit (thwK_len S (idN S x.a) S.ves.length) }
  rw [if_neg k7]
  by_cases k8 : pickI x.kind 14 = 8
  · rw [if_pos k8]
    exact { hz 9 with }
  rw [if_neg k8]
  by_cases k9 : pickI x.kind 14 = 9
  · rw [if_pos k9]
    exact { hz 10 with nam := (nmB_le _).1 }
  rw [if_neg k9]
  by_cases k10 : pickI x.kind 14 = 10
  · rw [if_pos k10]
    exact { hz 11 with part := len_fit (secF_len S (pickI x.c 200)) }
  rw [if_neg k10]
  by_cases k11 : pickI x.kind 14 = 11
  · rw [if_pos k11]
    exact { hz 12 with }
  rw [if_neg k11]
  by_cases k12 : pickI x.kind 14 = 12
  · rw [if_pos k12]
    exact { hz 13 with }
  rw [if_neg k12]
  exact { hz 14 with }
theorem rwAt_wf {w : World} {v : Value} {l : List Rw} (h : Raws w v l) (k : Nat) : WfW (rwAt l k) := by
  have h0 : WfW rw0 := ⟨by decide, by decide, by decide, by decide, by decide⟩
  unfold rwAt
  split
  · exact ⟨by show _ ≤ (0 : Int) ∧ (0 : Int) ≤ _; decide, by show _ ≤ (k : Int) ∧ (k : Int) ≤ _; omega, by show _ ≤ (0 : Int) ∧ (0 : Int) ≤ _; decide, by show _ ≤ (0 : Int) ∧ (0 : Int) ≤ _; decide, by show _ ≤ (0 : Int) ∧ (0 : Int) ≤ _; decide⟩
  · obtain ⟨a, cap, e, _, _, h3⟩ := h
    rcases Nat.lt_or_ge (k - 2) l.length with hk | hk
    · obtain ⟨b, o, _, r⟩ := h3 _ hk
      exact r.wf
    · rw [show l.getD (k - 2) rw0 = rw0 by simp [List.getD, hk]]
      exact h0
/-- The first two records make the buckets a and b. -/
theorem stN_two (l : List Rw) : stN l 2 = ⟨1, 0, [⟨⟨#[97]⟩, 0, ⟨#[]⟩, -1, -1⟩, ⟨⟨#[98]⟩, 0, ⟨#[]⟩, -1, -1⟩], [], [], [], []⟩ ∧ cntN l 2 = 2 := by
  have e0 : rwAt l 0 = rwA 0 := by simp [rwAt]
  have e1 : rwAt l 1 = rwA 1 := by simp [rwAt]
  have h1 : appE s00 (recR s00 (rwA 0)) = 0 := by kernel_rfl
  have h2 : stp s00 (rwA 0) = ⟨1, 0, [⟨⟨#[97]⟩, 0, ⟨#[]⟩, -1, -1⟩], [], [], [], []⟩ := by rw [stp_yes h1]; kernel_rfl
  have h3 : appE ⟨1, 0, [⟨⟨#[97]⟩, 0, ⟨#[]⟩, -1, -1⟩], [], [], [], []⟩ (recR ⟨1, 0, [⟨⟨#[97]⟩, 0, ⟨#[]⟩, -1, -1⟩], [], [], [], []⟩ (rwA 1)) = 0 := by kernel_rfl
  have h4 : stp ⟨1, 0, [⟨⟨#[97]⟩, 0, ⟨#[]⟩, -1, -1⟩], [], [], [], []⟩ (rwA 1) = ⟨1, 0, [⟨⟨#[97]⟩, 0, ⟨#[]⟩, -1, -1⟩, ⟨⟨#[98]⟩, 0, ⟨#[]⟩, -1, -1⟩], [], [], [], []⟩ := by rw [stp_yes h3]; kernel_rfl
  have g1 : stN l 1 = ⟨1, 0, [⟨⟨#[97]⟩, 0, ⟨#[]⟩, -1, -1⟩], [], [], [], []⟩ := by rw [stN, e0]; exact h2
  refine ⟨by rw [stN, g1, e1]; exact h4, ?_⟩
  simp only [cntN]
  rw [g1, e0, e1, show stN l 0 = s00 from rfl, if_pos h1, if_pos h3]
theorem cntN_two (l : List Rw) : ∀ k, 2 ≤ k → 2 ≤ cntN l k
  | 0, h => absurd h (by decide)
  | 1, h => absurd h (by decide)
  | 2, _ => by rw [(stN_two l).2]; decide
  | k + 3, _ => by
    have := cntN_two l (k + 2) (by omega)
    rw [cntN]
    omega
theorem cntN_le (l : List Rw) : ∀ k, cntN l k ≤ k
  | 0 => Nat.le_refl _
  | k + 1 => by
    have := cntN_le l k
    rw [cntN]
    split <;> omega
end Go.Proofs.YtdgmdapijhbocaaGreat

/- What a state that may be is, in plain words. -/
namespace Go.Proofs.YtdgmdapijhbocaaGreat
open Go.RowKit Go.Maps
set_option maxRecDepth 100000
set_option linter.unusedVariables false
set_option linter.unusedSimpArgs false
theorem getD_eq {α : Type} {l : List α} {d : α} {k : Nat} (hk : k < l.length) : l.getD k d = l[k] := by simp [List.getD, hk]
theorem mem_get {α : Type} {l : List α} {d : α} {k : Nat} (hk : k < l.length) : l.getD k d ∈ l := by rw [getD_eq hk]; exact List.getElem_mem hk
theorem adj_all {α : Type} (f : α → Int) (d : α) (l : List α) (h : ∀ i, i < l.length - 1 → f (l.getD i d) < f (l.getD (i + 1) d)) : ∀ n i, i + n + 1 < l.length → f (l.getD i d) < f (l.getD (i + n + 1) d)
  | 0, i, hi => h i (by omega)
  | n + 1, i, hi => Int.lt_trans (adj_all f d l h n i (by omega)) (h (i + n + 1) (by omega))
theorem rise_iff {α : Type} (f : α → Int) (d : α) (l : List α) : allB (l.length - 1) (fun i => decide (f (l.getD i d) < f (l.getD (i + 1) d))) = true ↔ l.Pairwise (fun x y => f x < f y) := by
  rw [allB_iff, List.pairwise_iff_getElem]
  simp only [decide_eq_true_eq]
  constructor
  · intro h i j hi hj hij
    have := adj_all f d l h (j - i - 1) i (by omega)
    rw [show i + (j - i - 1) + 1 = j by omega, getD_eq hi, getD_eq hj] at this
    exact this
  · intro h i hi
    rw [getD_eq (show i < l.length by omega), getD_eq (show i + 1 < l.length by omega)]
    exact h i (i + 1) (by omega) (by omega) (by omega)
theorem all_getD {α : Type} (p : α → Bool) (d : α) (l : List α) : allB l.length (fun i => p (l.getD i d)) = true ↔ ∀ x ∈ l, p x = true := by
  rw [allB_iff]
  constructor
  · intro h x hx
    obtain ⟨k, hk, e⟩ := mem_at (d := d) hx
    rw [← e]; exact h k hk
  · intro h k hk
    exact h _ (mem_get hk)
def NulPair (x y : Ve) : Prop := ¬ (x.nul = true ∧ y.nul = true ∧ x.bu = y.bu ∧ x.ke = y.ke)
theorem nul_iff (l : List Ve) : nulC l = true ↔ l.Pairwise NulPair := by
  unfold nulC
  rw [allB_iff, List.pairwise_iff_getElem]
  constructor
  · intro h i j hi hj hij
    have := h j hj
    unfold nulQ at this
    rw [getD_eq hj] at this
    intro ⟨h1, h2, h3, h4⟩
    rw [h2] at this
    simp only [Bool.not_true, Bool.false_or, beq_iff_eq] at this
    have hc : nulF l j l[j].bu l[j].ke = 0 := by omega
    unfold nulF at hc
    rw [List.countP_eq_zero] at hc
    have hm : l[i] ∈ l.take j := by
      rw [List.mem_take_iff_getElem]
      exact ⟨i, by omega, rfl⟩
    have := hc _ hm
    simp [h1, h3, h4] at this
  · intro h j hj
    unfold nulQ
    rw [getD_eq hj]
    cases hn : l[j].nul
    · rfl
    · simp only [Bool.not_true, Bool.false_or, beq_iff_eq]
      have : nulF l j l[j].bu l[j].ke = 0 := by
        unfold nulF
        rw [List.countP_eq_zero]
        intro x hx
        rw [List.mem_take_iff_getElem] at hx
        obtain ⟨i, hi, rfl⟩ := hx
        have h1 := h i j (by omega) hj (by omega)
        intro h2
        simp only [Bool.and_eq_true, decide_eq_true_eq] at h2
        exact h1 ⟨h2.1.1, hn, h2.1.2, h2.2⟩
      omega
theorem count_nodup (l : List Int) : (∀ x ∈ l, (l.count x : Int) = 1) ↔ l.Nodup := by
  rw [List.nodup_iff_count]
  constructor
  · intro h a
    by_cases ha : a ∈ l
    · have := h a ha; omega
    · rw [List.count_eq_zero_of_not_mem ha]; omega
  · intro h x hx
    have := h x
    have := List.count_pos_iff.2 hx
    omega
theorem pre_nodup (l : List Int) : (∀ k, k < l.length → (((l.take k ++ [l.getD k 0]).count (l.getD k 0) : Nat) : Int) = 1) ↔ l.Nodup := by
  unfold List.Nodup
  rw [List.pairwise_iff_getElem]
  constructor
  · intro h i j hi hj hij e
    have := h j hj
    rw [List.count_append, getD_eq hj] at this
    have hm : l[i] ∈ l.take j := by
      rw [List.mem_take_iff_getElem]
      exact ⟨i, by omega, rfl⟩
    rw [e] at hm
    have h7 := List.count_pos_iff.2 hm
    have h8 : [l[j]].count l[j] = 1 := by simp
    rw [h8] at this
    omega
  · intro h k hk
    rw [List.count_append, getD_eq hk]
    have : (l.take k).count l[k] = 0 := by
      rw [List.count_eq_zero]
      intro hm
      rw [List.mem_take_iff_getElem] at hm
      obtain ⟨i, hi, e⟩ := hm
      exact h i k (by omega) hk (by omega) e
    rw [this]
    simp
structure StOk (S : St) : Prop where
  n0 : 1 ≤ S.next
  n1 : S.next ≤ 1048576
  c0 : 0 ≤ S.clock
  c1 : S.clock ≤ 1073741824
  g : goneC S.gone = true
  b : busC S.bus = true
  vlen : S.ves.length ≤ 40
  vrise : S.ves.Pairwise (fun x y => x.id < y.id)
  vok : ∀ x ∈ S.ves, veC S x = true
  vnul : S.ves.Pairwise NulPair
  ulen : S.ups.length ≤ 4
  urise : S.ups.Pairwise (fun x y => x.id < y.id)
  uok : ∀ x ∈ S.ups, upC S x = true
  qlen : S.que.length ≤ 10
  qok : ∀ a ∈ S.que, coldB S a.ver = true ∧ askB a = true
  qdis : (S.que.map (·.ver)).Nodup
  sok : ∀ x ∈ secs S, 0 ≤ x ∧ x ≤ 199
  sdis : (secs S).Nodup
theorem ves_iff (S : St) : vesC S = true ↔ S.ves.length ≤ 40 ∧ S.ves.Pairwise (fun x y => x.id < y.id) ∧ (∀ x ∈ S.ves, veC S x = true) ∧ S.ves.Pairwise NulPair := by
  unfold vesC
  simp only [Bool.and_eq_true, decide_eq_true_eq]
  rw [show allB (S.ves.length - 1) (vesP S.ves) = allB (S.ves.length - 1) (fun i => decide ((fun x : Ve => x.id) (S.ves.getD i ve0) < (fun x : Ve => x.id) (S.ves.getD (i + 1) ve0))) from rfl, rise_iff,
    show allB S.ves.length (vesQ S) = allB S.ves.length (fun i => veC S (S.ves.getD i ve0)) from rfl, all_getD (veC S) ve0, nul_iff]
  constructor
  · rintro ⟨⟨⟨h1, h2⟩, h3⟩, h4⟩
    exact ⟨by omega, h2, h3, h4⟩
  · rintro ⟨h1, h2, h3, h4⟩
    exact ⟨⟨⟨by omega, h2⟩, h3⟩, h4⟩
theorem ups_iff (S : St) : upsC S = true ↔ S.ups.length ≤ 4 ∧ S.ups.Pairwise (fun x y => x.id < y.id) ∧ (∀ x ∈ S.ups, upC S x = true) := by
  unfold upsC
  simp only [Bool.and_eq_true, decide_eq_true_eq]
  rw [show allB (S.ups.length - 1) (upsP S.ups) = allB (S.ups.length - 1) (fun i => decide ((fun x : Up => x.id) (S.ups.getD i up0) < (fun x : Up => x.id) (S.ups.getD (i + 1) up0))) from rfl, rise_iff,
    show allB S.ups.length (upsQ S) = allB S.ups.length (fun i => upC S (S.ups.getD i up0)) from rfl, all_getD (upC S) up0]
  constructor
  · rintro ⟨⟨h1, h2⟩, h3⟩
    exact ⟨by omega, h2, h3⟩
  · rintro ⟨h1, h2, h3⟩
    exact ⟨⟨by omega, h2⟩, h3⟩
theorem que_iff (S : St) : queC S = true ↔ S.que.length ≤ 10 ∧ (∀ a ∈ S.que, coldB S a.ver = true ∧ askB a = true) ∧ (S.que.map (·.ver)).Nodup := by
  unfold queC
  simp only [Bool.and_eq_true, decide_eq_true_eq]
  rw [allB_iff]
  have hq : ∀ k, k < S.que.length → ((S.que.map (·.ver)).take k ++ [(S.que.map (·.ver)).getD k 0]) = (vers S k ++ [(S.que.getD k ak0).ver]) := fun k hk => by
    unfold vers
    rw [List.map_take, getD_eq (l := S.que.map (·.ver)) (by simpa using hk), getD_eq hk, List.getElem_map]
  have hv : ∀ k, k < S.que.length → (S.que.map (·.ver)).getD k 0 = (S.que.getD k ak0).ver := fun k hk => by
    rw [getD_eq (l := S.que.map (·.ver)) (by simpa using hk), getD_eq hk, List.getElem_map]
  rw [← pre_nodup]
  constructor
  · rintro ⟨h1, h2⟩
    refine ⟨by omega, fun a ha => ?_, fun k hk => ?_⟩
    · obtain ⟨k, hk, e⟩ := mem_at (d := ak0) ha
      have := h2 k hk
      unfold queQ queB at this
      simp only [Bool.and_eq_true] at this
      rw [e] at this
      exact ⟨this.1.1, this.2⟩
    · have hk' : k < S.que.length := by simpa using hk
      rw [hq k hk', hv k hk']
      have := h2 k hk'
      unfold queQ queB at this
      simp only [Bool.and_eq_true, beq_iff_eq] at this
      exact this.1.2
  · rintro ⟨h1, h2, h3⟩
    refine ⟨by omega, fun k hk => ?_⟩
    unfold queQ queB
    simp only [Bool.and_eq_true, beq_iff_eq]
    have h4 := h2 _ (mem_get (d := ak0) hk)
    have h5 := h3 k (by simpa using hk)
    rw [hq k hk, hv k hk] at h5
    exact ⟨⟨h4.1, h5⟩, h4.2⟩
theorem sec_iff (S : St) : secC S = true ↔ (∀ x ∈ secs S, 0 ≤ x ∧ x ≤ 199) ∧ (secs S).Nodup := by
  unfold secC
  rw [List.all_eq_true, ← count_nodup]
  constructor
  · intro h
    refine ⟨fun x hx => ?_, fun x hx => ?_⟩
    · have := h x hx
      simp only [Bool.and_eq_true] at this
      exact inB_t this.1
    · have := h x hx
      simp only [Bool.and_eq_true, beq_iff_eq] at this
      exact this.2
  · rintro ⟨h1, h2⟩ x hx
    simp only [Bool.and_eq_true, beq_iff_eq]
    exact ⟨by unfold inB; exact decide_eq_true (h1 x hx), h2 x hx⟩
theorem stOk_iff (S : St) : stC S = true ↔ StOk S := by
  unfold stC
  simp only [Bool.and_eq_true]
  rw [ves_iff, ups_iff, que_iff, sec_iff]
  constructor
  · rintro ⟨⟨⟨⟨⟨⟨⟨h1, h2⟩, h3⟩, h4⟩, v1, v2, v3, v4⟩, u1, u2, u3⟩, q1, q2, q3⟩, s1, s2⟩
    exact ⟨(inB_t h1).1, (inB_t h1).2, (inB_t h2).1, (inB_t h2).2, h3, h4, v1, v2, v3, v4, u1, u2, u3, q1, q2, q3, s1, s2⟩
  · intro h
    exact ⟨⟨⟨⟨⟨⟨⟨by unfold inB; exact decide_eq_true ⟨h.n0, h.n1⟩, by unfold inB; exact decide_eq_true ⟨h.c0, h.c1⟩⟩, h.g⟩, h.b⟩, h.vlen, h.vrise, h.vok, h.vnul⟩, h.ulen, h.urise, h.uok⟩, h.qlen, h.qok, h.qdis⟩, h.sok, h.sdis⟩
/-- What a version's, an upload's own test asks of the state: the next number, the clock, the buckets' names, the volumes that were given up. -/
structure Like (S T : St) : Prop where
  next : T.next = S.next
  clock : T.clock = S.clock
  has : ∀ b, hasB T b = hasB S b
  gone : ∀ n, isGone T n = isGone S n
theorem Like.ve {S T : St} (h : Like S T) (x : Ve) : veC T x = veC S x := by
  unfold veC namC onC
  rw [h.next, h.clock, h.has, h.gone]
theorem Like.up {S T : St} (h : Like S T) (x : Up) : upC T x = upC S x := by
  unfold upC namC
  rw [h.next, h.has]
/-- The first of a number, where numbers rise, is the one. -/
theorem idxV_at {S : St} (h : S.ves.Pairwise (fun x y => x.id < y.id)) {k : Nat} (hk : k < S.ves.length) : idxV S (S.ves.getD k ve0).id = (k : Int) := by
  unfold idxV
  refine firstI_t hk (by unfold veP; simp) fun j hj => ?_
  rw [List.pairwise_iff_getElem] at h
  have := h j k (by omega) hk hj
  unfold veP
  rw [getD_eq (show j < S.ves.length by omega), getD_eq hk]
  simp; omega
theorem idxV_cases (S : St) (n : Int) : (idxV S n = -1 ∧ ∀ x ∈ S.ves, x.id ≠ n) ∨ ∃ k, k < S.ves.length ∧ idxV S n = (k : Int) ∧ (S.ves.getD k ve0).id = n := by
  rcases firstI_cases S.ves.length (veP S.ves n) with ⟨h1, h2⟩ | ⟨k, h1, h2, h3, _⟩
  · refine .inl ⟨h1, fun x hx e => ?_⟩
    obtain ⟨k, hk, e2⟩ := mem_at (d := ve0) hx
    have := h2 k hk
    unfold veP at this
    rw [e2, e] at this
    simp at this
  · exact .inr ⟨k, h1, h2, by unfold veP at h3; simpa using h3⟩
theorem cold_iff {S : St} (h : S.ves.Pairwise (fun x y => x.id < y.id)) (n : Int) : coldB S n = true ↔ ∃ x ∈ S.ves, x.id = n ∧ x.tier = 2 := by
  unfold coldB
  rw [Bool.and_eq_true, decide_eq_true_eq, beq_iff_eq]
  constructor
  · rintro ⟨h1, h2⟩
    rcases idxV_cases S n with ⟨e, _⟩ | ⟨k, hk, e, e2⟩
    · unfold idxV at e; omega
    · unfold idxV at e
      rw [e, Int.toNat_natCast] at h2
      exact ⟨_, mem_getD hk, e2, h2⟩
  · rintro ⟨x, hx, rfl, h2⟩
    obtain ⟨k, hk, e⟩ := mem_at (d := ve0) hx
    have h3 := idxV_at h hk
    unfold idxV at h3
    rw [e] at h3
    rw [h3, Int.toNat_natCast, e]
    exact ⟨by omega, h2⟩
end Go.Proofs.YtdgmdapijhbocaaGreat

/- list.rowsOf: what its loops do, in plain words. -/
namespace Go.Proofs.YtdgmdapijhbocaaGreat
open Go.RowKit Go.Maps Go.Sort
set_option maxRecDepth 100000
set_option linter.unusedVariables false
set_option linter.unusedSimpArgs false
def roF (v : Ve) : Ro := roOf v false
/-- The rows of those of the first k versions that are asked for. -/
def l0K (S : St) (nm pre : ByteArray) (k : Nat) : List Ro := ((S.ves.take k).filter (selP nm pre)).map roF
theorem l0_yes {S : St} {nm pre : ByteArray} {k : Nat} (hk : k < S.ves.length) (h : selP nm pre (S.ves.getD k ve0) = true) : l0K S nm pre (k + 1) = l0K S nm pre k ++ [roF (S.ves.getD k ve0)] := by
  unfold l0K
  rw [take_next S.ves ve0 hk, List.filter_append, List.map_append, show List.filter (selP nm pre) [S.ves.getD k ve0] = [S.ves.getD k ve0] by rw [List.filter_cons, if_pos h]; rfl]
  rfl
theorem l0_no {S : St} {nm pre : ByteArray} {k : Nat} (hk : k < S.ves.length) (h : selP nm pre (S.ves.getD k ve0) = false) : l0K S nm pre (k + 1) = l0K S nm pre k := by
  unfold l0K
  rw [take_next S.ves ve0 hk, List.filter_append, List.map_append, show List.filter (selP nm pre) [S.ves.getD k ve0] = [] by rw [List.filter_cons, if_neg (by rw [h]; decide)]; rfl]
  exact List.append_nil _
theorem l0_len (S : St) (nm pre : ByteArray) (k : Nat) : (l0K S nm pre k).length ≤ k := by
  unfold l0K
  have := List.length_filter_le (selP nm pre) (S.ves.take k)
  rw [List.length_map]
  have h2 := List.length_take_le k S.ves
  omega
theorem l0_all (S : St) (nm pre : ByteArray) : l0K S nm pre S.ves.length = (selV S nm pre).map roF := by unfold l0K selV; rw [List.take_of_length_le (Nat.le_refl _)]
theorem rowLt_key (x y : Ve) : rowLt (roF x) (roF y) = keyLt x y := rfl
theorem sel_rise {S : St} (h : stC S = true) (nm pre : ByteArray) : (selV S nm pre).Pairwise (fun x y => x.id < y.id) := ((stOk_iff S).1 h).vrise.filter _
theorem sv_len (S : St) (nm pre : ByteArray) : (sv S nm pre).length = (selV S nm pre).length := (srt_perm _).length_eq
theorem sort_is {S : St} (h : stC S = true) (nm pre : ByteArray) {F : List Ro} (hp : F.Perm ((selV S nm pre).map roF)) (hs : F.Pairwise (fun x y => rowLt y x = false)) : F = (sv S nm pre).map roF := by
  have hr := sel_rise h nm pre
  have h1 : ((sv S nm pre).map roF).Perm ((selV S nm pre).map roF) := (srt_perm _).map _
  have h2 : ((sv S nm pre).map roF).Pairwise (fun x y => rowLt x y = true) := List.pairwise_map.2 ((srt_sorted hr).imp fun {x y} q => by rw [rowLt_key]; exact q)
  have h3 : F.Pairwise (fun x y => x.id ≠ y.id) := by
    have e : ((selV S nm pre).map roF).Pairwise (fun x y => x.id ≠ y.id) := List.pairwise_map.2 (hr.imp fun {x y} q => by show x.id ≠ y.id; omega)
    exact (hp.pairwise_iff (fun {x y} q => Ne.symm q)).2 e
  have h4 : F.Pairwise (fun x y => rowLt x y = true) := (hs.and h3).imp fun {x y} q => by
    obtain ⟨q1, q2⟩ := q
    cases k : rowLt x y
    · exfalso
      have n1 : ¬ rowLt x y = true := by rw [k]; decide
      have n2 : ¬ rowLt y x = true := by rw [q1]; decide
      rw [rowLt_iff] at n1 n2
      have a1 : ltS x.key y.key = false := by simpa using fun z => n1 (.inl z)
      have a2 : ltS y.key x.key = false := by simpa using fun z => n2 (.inl z)
      have e : x.key = y.key := by
        cases z : eqS x.key y.key
        · rw [ltS_tot a1 z] at a2; cases a2
        · exact eqS_to z
      have b1 : ¬ y.id < x.id := fun z => n1 (.inr ⟨e, z⟩)
      have b2 : ¬ x.id < y.id := fun z => n2 (.inr ⟨e.symm, z⟩)
      exact q2 (by omega)
    · rfl
  refine perm_one (fun x y a b => ?_) (hp.trans h1.symm) h4 h2
  have t := rowSwo.trans x y x (by rw [rowC_lt]; exact a) (by rw [rowC_lt]; exact b)
  rw [rowSwo.irrefl] at t
  cases t
/-- The rows while it is told, one by one, which are the latest. -/
def mixL (l : List Ve) (k : Nat) : List Ro := rowsK l k ++ (l.drop k).map roF
theorem mixL_len {l : List Ve} {k : Nat} (h : k ≤ l.length) : (mixL l k).length = l.length := by unfold mixL; rw [List.length_append, rowsK_len, List.length_map, List.length_drop]; omega
theorem mixL_0 (l : List Ve) : mixL l 0 = l.map roF := rfl
theorem mixL_n (l : List Ve) : mixL l l.length = rowsL l := by unfold mixL rowsL; rw [List.drop_of_length_le (Nat.le_refl _)]; simp
theorem mixL_lo {l : List Ve} {k i : Nat} (h : i < k) : (mixL l k).getD i ro0 = roOf (l.getD i ve0) (latAt l i) := by
  rw [← rowsK_at l h]
  unfold mixL
  simp [List.getD, List.getElem?_append_left (show i < (rowsK l k).length by rw [rowsK_len]; exact h)]
theorem mixL_hi {l : List Ve} {k i : Nat} (h : k ≤ i) (hi : i < l.length) : (mixL l k).getD i ro0 = roF (l.getD i ve0) := by
  unfold mixL
  have hl : (rowsK l k).length ≤ i := by rw [rowsK_len]; exact h
  simp only [List.getD, List.getElem?_append_right hl, rowsK_len, List.getElem?_map, List.getElem?_drop]
  rw [show k + (i - k) = i by omega, List.getElem?_eq_getElem hi]
  rfl
theorem mixL_key {l : List Ve} {k i : Nat} (hi : i < l.length) : ((mixL l k).getD i ro0).key = (l.getD i ve0).ke := by
  by_cases h : i < k
  · rw [mixL_lo h]; rfl
  · rw [mixL_hi (by omega) hi]; rfl
theorem mixL_set {l : List Ve} {k : Nat} (hk : k < l.length) : mixL l (k + 1) = (mixL l k).set k (roOf (l.getD k ve0) (latAt l k)) := by
  unfold mixL
  have hl : (rowsK l k).length = k := rowsK_len l k
  rw [rowsK_next, List.set_append_right _ _ (by omega), hl, Nat.sub_self]
  rw [List.drop_eq_getElem_cons hk, List.map_cons, List.set_cons_zero]
  simp
theorem latAt_0 (l : List Ve) : latAt l 0 = true := rfl
theorem latAt_s (l : List Ve) (m : Nat) : latAt l (m + 1) = !eqS (l.getD m ve0).ke (l.getD (m + 1) ve0).ke := by
  unfold latAt
  simp
/-- One cell of a row is set. -/
theorem rw_put1 {α : Type} (C : α → List Value) (k : Nat) (hk : ∀ x, (C x).length = k) (d : α) {w : World} {g i j : Nat} {T : TypeId} {E : List α} {sp : List Value} (x : α) (v : Value) (hr : w.heap[g]? = some (.cells (E.flatMap C ++ sp).toArray T (0, 0))) (hi : i < E.length) (hj : j < k) (hx : C x = (C (E.getD i d)).set j v) :
    (w.setCell ⟨g, i * k + j, none⟩ v).heap[g]? = some (.cells ((E.set i x).flatMap C ++ sp).toArray T (0, 0)) := by
  have hf := flat_len2 C k hk E
  have h2 : (i + 1) * k ≤ E.length * k := Nat.mul_le_mul_right _ hi
  have h3 : (i + 1) * k = i * k + k := Nat.succ_mul i k
  have hlt : i * k + j < (E.flatMap C ++ sp).length := by rw [List.length_append, hf]; omega
  obtain ⟨P, a, Q, e, hp⟩ : ∃ P a Q, E.flatMap C ++ sp = P ++ a :: Q ∧ P.length = i * k + j := ⟨(E.flatMap C ++ sp).take (i * k + j), (E.flatMap C ++ sp)[i * k + j], (E.flatMap C ++ sp).drop (i * k + j + 1), by rw [List.getElem_cons_drop]; simp, by rw [List.length_take]; omega⟩
  rw [e] at hr
  rw [putOne hr hp v]
  congr 2
  have e2 : (P ++ [v]) ++ Q = (E.flatMap C ++ sp).set (i * k + j) v := by
    rw [e, List.set_append_right _ _ (by omega), hp, Nat.sub_self]
    simp
  rw [e2, List.set_append_left _ _ (by rw [hf]; omega)]
  congr 1
  have hf' := flat_len2 C k hk (E.set i x)
  rw [List.length_set] at hf'
  refine congrArg (· ++ sp) (List.ext_getElem? fun t => ?_)
  by_cases ht : t < E.length * k
  · have k0 : 0 < k := by omega
    have hd : t / k < E.length := Nat.div_lt_of_lt_mul (by rw [Nat.mul_comm]; exact ht)
    have hm := Nat.mod_lt t k0
    have h1 := flat_at C k hk d (E.set i x) (t / k) (t % k) (by rw [List.length_set]; exact hd) hm
    rw [Nat.mul_comm, Nat.div_add_mod] at h1
    have h4 := flat_at C k hk d E (t / k) (t % k) hd hm
    rw [Nat.mul_comm, Nat.div_add_mod] at h4
    rw [h1, List.getElem?_set]
    by_cases q : i = t / k
    · subst q
      have e3 : (E.set (t / k) x).getD (t / k) d = x := by simp [List.getD, hd]
      rw [e3, hx, List.getElem?_set]
      have e4 : t / k * k + t % k = t := by rw [Nat.mul_comm]; exact Nat.div_add_mod t k
      by_cases z : j = t % k
      · subst z
        rw [if_pos e4, if_pos rfl, if_pos (by rw [hf]; omega), if_pos (by rw [hk]; exact hm)]
      · rw [if_neg (by omega), if_neg z, h4]
    · have e3 : (E.set i x).getD (t / k) d = E.getD (t / k) d := by simp [List.getD, List.getElem?_set_ne q]
      rw [e3, if_neg ?_, h4]
      intro z
      have : (i * k + j) / k = i := by rw [Nat.mul_comm, Nat.mul_add_div k0, Nat.div_eq_of_lt hj]; omega
      rw [z] at this
      exact q this.symm
  · rw [List.getElem?_eq_none (by rw [List.length_set, hf]; omega), List.getElem?_eq_none (by rw [hf']; omega)]
end Go.Proofs.YtdgmdapijhbocaaGreat

/- The library's sort of nothing. -/
namespace Go.Proofs.YtdgmdapijhbocaaGreat
theorem sort_none (a : Option Addr) (c : Nat) (w : World) : Calls Tryz.prog 107 #[.slice a 0 c, .func (.func 108) #[] #[]] w fun e w' => e = .returned (.tuple #[]) ∧ w' = w :=
  AnyF.slices_SortFunc_none sortRow a c (.func (.func 108) #[] #[]) w
end Go.Proofs.YtdgmdapijhbocaaGreat
