/- dev.settle, of the two ways in which it is called. -/
import Derived.Test.YtjaedigjmgfakaaCpb
import Derived.Deep.DrawnRows
import Derived.Deep.RegionHeld3
namespace Go.Proofs.Ytjaedigjmgfakaa
open Go.RowKit
set_option maxRecDepth 100000
set_option linter.unusedVariables false
set_option linter.unusedSimpArgs false
attribute [local go_sem ↓] Go.wp_at_zero Go.wp_at_succ

/-- Nothing that was there has changed but in the blocks of the sectors. -/
structure Touch (g : Nat → Nat) (n : Nat) (w w' : World) : Prop where
  os : w'.os = w.os
  tape : w'.tape = w.tape
  output : w'.output = w.output
  size : w.heap.size ≤ w'.heap.size
  block : ∀ i, i < w.heap.size → (∀ j, j < n → g j ≠ i) → w'.heap[i]? = w.heap[i]?
section
variable {g : Nat → Nat} {n : Nat} {a b c : World}
theorem Touch.refl (a : World) : Touch g n a a := ⟨rfl, rfl, rfl, Nat.le_refl _, fun _ _ _ => rfl⟩
theorem Touch.trans (h : Touch g n a b) (k : Touch g n b c) : Touch g n a c :=
  ⟨k.os.trans h.os, k.tape.trans h.tape, k.output.trans h.output, Nat.le_trans h.size k.size, fun i hi hj => (k.block i (Nat.lt_of_lt_of_le hi h.size) hj).trans (h.block i hi hj)⟩
theorem Touch.below (h : Below a.heap.size a b) : Touch g n a b := ⟨h.os, h.tape, h.output, h.size, fun i hi _ => h.block i hi⟩
theorem Touch.one (j : Nat) (hj : j < n) (h : a.grownBy b (some (g j))) : Touch g n a b := ⟨h.os, h.tape, h.output, h.size, fun i hi hne => h.block i hi (by simpa using Ne.symm (hne j hj))⟩
theorem Touch.row (h : Touch g n a b) {t : TypeId} {i : Nat} {cs : List Value} (hr : Row a i t cs) (ht : 5 ≠ t) {xs : Nat → List Int} (hb : ∀ j, j < n → Blk a (g j) (xs j)) : Row b i t cs :=
  (h.block i hr.lt fun j hj => Row.apart (w := a) (hb j hj) hr ht).trans hr
theorem Touch.from {B : Nat} (h : Touch g n a b) (hB : ∀ j, j < n → B ≤ g j) (hs : B ≤ a.heap.size) {z : World} (hz : Below z.heap.size z a) (hzB : z.heap.size ≤ B) : Below z.heap.size z b :=
  ⟨h.os.trans hz.os, h.tape.trans hz.tape, h.output.trans hz.output, Nat.le_trans hz.size h.size, fun i hi => (h.block i (Nat.lt_of_lt_of_le hi hz.size) (fun j hj e => by have := hB j hj; omega)).trans (hz.block i hi)⟩
end
theorem Own.low {w w' : World} {M q : Nat} {u : Value} {ys : List Int} (h : Own w M u ys) (hg : w.grownBy w' (some q)) (hq : q < M) : Own w' M u ys :=
  World.ownsRow.kept h hg (.inr fun e => by have := (World.ownsRow.lt h q e).1; omega)
theorem Sec.put {w w' : World} {B M : Nat} {us : List Value} {xs : List (List Int)} {g : Nat → Nat} (h : Sec w B M us xs g xs.length) {p : Nat} (hp : p < xs.length) {ys : List Int} (hy : Blk w' (g p) ys) (hg : w.grownBy w' (some (g p))) (hl : ys.length = (xs.getD p []).length) :
    Sec w' B M us (xs.set p ys) g (xs.set p ys).length := by
  have hd : ∀ i, i ≠ p → i < xs.length → g i ≠ g p := fun i hi hx => by
    rcases Nat.lt_or_gt_of_ne hi with e | e
    · exact Nat.ne_of_lt (h.inc i p e hp)
    · exact (Nat.ne_of_lt (h.inc p i e hx)).symm
  have hs : (xs.set p ys).length = xs.length := by simp
  refine ⟨by simpa using h.len, fun i hi => ?_, fun i hi => ?_, fun i hi => h.lo i (by omega), fun i hi => h.hi i (by omega), fun i j hij hj => h.inc i j hij (by omega)⟩
  · rw [hs] at hi
    rw [getD_setL _ _ _ _ _ hp]
    by_cases e : i = p
    · subst e; rw [if_pos rfl, hl]; exact h.pos i hi
    · rw [if_neg e]; exact h.pos i hi
  · rw [hs] at hi
    rw [getD_setL _ _ _ _ _ hp]
    by_cases e : i = p
    · subst e; rw [if_pos rfl]; exact hy
    · rw [if_neg e]; exact (hg.block _ (h.blk i hi).lt (by simpa using hd i e hi)).trans (h.blk i hi)
theorem settled_64 {keep : Nat → Bool} {S : List (List Int)} {C : List Wr} (h1 : ∀ i, i < S.length → (S.getD i []).length = 64) (h2 : ∀ i, i < C.length → (0 ≤ (C.getD i ⟨0, []⟩).pos ∧ (C.getD i ⟨0, []⟩).pos < S.length) ∧ (C.getD i ⟨0, []⟩).data.length = 64) :
    ∀ k, k ≤ C.length → ∀ i, i < S.length → ((settled keep S C k).getD i []).length = 64 := by
  intro k
  induction k with
  | zero => intro _ i hi; exact h1 i hi
  | succ k ih =>
    intro hk i hi
    cases hkk : keep k
    · rw [settled_no hkk]; exact ih (by omega) i hi
    · rw [settled_yes hkk, getD_setL _ _ _ _ _ (by rw [settled_length]; have := (h2 k (by omega)).1; omega)]
      split
      · exact (h2 k (by omega)).2
      · exact ih (by omega) i hi

set_option maxHeartbeats 2000000 in
theorem setF_any (u0 : Unit) (gs gc gv : Nat) (us uc uv : List Value) (g : Nat → Nat) (B M : Nat) (D : Dv) (F : Int) (keep : Nat → Bool) (w : World)
    (hs : Row w gs 26 us) (hsec : Sec w B M us D.safe g D.safe.length) (hc : Row w gc 90 uc) (hwi : WrsIn w M uc D.cache) (hv : Row w gv 79 uv) (hvi : VosIn w M uv D.vols)
    (h64 : ∀ i, i < D.safe.length → (D.safe.getD i []).length = 64) (hC64 : ∀ i, i < D.cache.length → (0 ≤ (D.cache.getD i ⟨0, []⟩).pos ∧ (D.cache.getD i ⟨0, []⟩).pos < D.safe.length) ∧ (D.cache.getD i ⟨0, []⟩).data.length = 64) (hfit : Fits D)
    (hp : ∀ k, k < D.cache.length → ∀ wr, Touch g D.safe.length w wr → Calls Try.prog 47 #[.int .i64 (k : Int)] wr fun e w' => e = .returned (.bool (keep k)) ∧ Below wr.heap.size wr w') :
    Calls Try.prog 32 #[.agg #[.slice (some ⟨gs, 0, none⟩) D.safe.length D.safe.length, .slice (some ⟨gc, 0, none⟩) D.cache.length D.cache.length, .slice (some ⟨gv, 0, none⟩) D.vols.length D.vols.length, .int .i64 F], .func (.func 47) #[] #[]] w fun e w' =>
      e = .returned (.agg #[.slice (some ⟨gs, 0, none⟩) D.safe.length D.safe.length, .slice none 0 0, .slice (some ⟨gv, 0, none⟩) D.vols.length D.vols.length, .int .i64 F]) ∧ Row w' gs 26 us ∧ Sec w' B M us (settled keep D.safe D.cache D.cache.length) g D.safe.length ∧ Row w' gv 79 uv ∧ VosIn w' M uv D.vols ∧ Touch g D.safe.length w w' := by
  have HP := hide hp
  have H64 := hide h64
  have HC64 := hide hC64
  have F1 := hfit.safe
  have F2 := hfit.cache
  have HS := hide hs
  have HSEC := hide hsec
  have HC := hide hc
  have HWI := hide hwi
  have HV := hide hv
  have HVI := hide hvi
  obtain ⟨S, hS⟩ : ∃ S, D.safe.length = S := ⟨_, rfl⟩
  obtain ⟨N, hN⟩ : ∃ N, D.cache.length = N := ⟨_, rfl⟩
  rw [hS] at F1 ⊢
  rw [hN] at F2 ⊢
  have HNS := hide hS
  have HN := hide hN
  clear hS hN hp h64 hC64 hfit hs hsec hc hwi hv hvi
  go_enter Try.func32, Try.ntmps32
  go_wp2
  obtain ⟨W1, hW1⟩ : ∃ W1, W1 = (w.alloc (.cells #[.slice (some ⟨gs, 0, none⟩) S S, .slice (some ⟨gc, 0, none⟩) N N, .slice (some ⟨gv, 0, none⟩) D.vols.length D.vols.length, .int .i64 F] 34)).alloc (.cells #[.slice none 0 0, .slice none 0 0, .slice none 0 0, .int .i64 0] 34) := ⟨_, rfl⟩
  have h01 : Below w.heap.size w W1 := by rw [hW1]; exact bl2 _ _ _
  have hbox : Row W1 w.heap.size 34 [.slice (some ⟨gs, 0, none⟩) S S, .slice (some ⟨gc, 0, none⟩) N N, .slice (some ⟨gv, 0, none⟩) D.vols.length D.vols.length, .int .i64 F] := by rw [hW1]; exact (Row.new _ _ _).up (bl1 _ _)
  have hres : Row W1 (w.heap.size + 1) 34 [.slice none 0 0, .slice none 0 0, .slice none 0 0, .int .i64 0] := by
    rw [hW1]
    have := Row.new (w.alloc (.cells #[.slice (some ⟨gs, 0, none⟩) S S, .slice (some ⟨gc, 0, none⟩) N N, .slice (some ⟨gv, 0, none⟩) D.vols.length D.vols.length, .int .i64 F] 34)) 34 [.slice none 0 0, .slice none 0 0, .slice none 0 0, .int .i64 0]
    simpa using this
  rw [← hW1]
  clear hW1
  have HBOX := hide hbox
  have HRES := hide hres
  clear hbox hres
  go_loopw [5, 6, 10] (fun _ _ i wr => ∃ k : Nat, k ≤ N ∧ i = .int .i64 k ∧ Row wr w.heap.size 34 [.slice (some ⟨gs, 0, none⟩) S S, .slice (some ⟨gc, 0, none⟩) N N, .slice (some ⟨gv, 0, none⟩) D.vols.length D.vols.length, .int .i64 F] ∧ Row wr (w.heap.size + 1) 34 [.slice none 0 0, .slice none 0 0, .slice none 0 0, .int .i64 0] ∧ Row wr gs 26 us ∧ Sec wr B M us (settled keep D.safe D.cache k) g (settled keep D.safe D.cache k).length ∧ Row wr gc 90 uc ∧ WrsIn wr M uc D.cache ∧ Row wr gv 79 uv ∧ VosIn wr M uv D.vols ∧ Touch g S w wr) (fun _ _ i _ => N - (intOf i).toNat)
  case atStart => exact ⟨0, Nat.zero_le _, rfl, unhide HBOX, unhide HRES, (unhide HS).up h01, (unhide HSEC).up h01 (Nat.le_refl _), (unhide HC).up h01, (unhide HWI).imp fun _ _ q => q.up h01, (unhide HV).up h01, (unhide HVI).imp fun _ _ q => q.up h01, Touch.below h01⟩
  case round =>
    obtain ⟨k, hk, rfl, hbox, hres, hs, hsec, hc, hwi, hv, hvi, hto⟩ := hrel
    have o0 := hbox.cell 0 _ rfl
    have hol := hbox.lt
    have hsr := hto.size
    by_cases hlt : k < N
    · have hx : k < D.cache.length := by rw [unhide HN]; exact hlt
      obtain ⟨⟨p0, p1⟩, hdl⟩ := unhide HC64 k hx
      rw [unhide HNS] at p1
      obtain ⟨q0, u, q1, hou⟩ := hwi.2 k hx
      have hpos := hc.cell _ _ q0
      have hu := hc.cell _ _ q1
      obtain ⟨P, hP⟩ : ∃ P : Nat, (D.cache.getD k ⟨0, []⟩).pos = (P : Int) := ⟨(D.cache.getD k ⟨0, []⟩).pos.toNat, by omega⟩
      rw [hP] at hpos p0 p1
      have hPS : P < S := by omega
      have hPL : P < (settled keep D.safe D.cache k).length := by rw [settled_length, unhide HNS]; exact hPS
      have hxl : ((settled keep D.safe D.cache k).getD P []).length = 64 := settled_64 (unhide H64) (unhide HC64) k (by omega) P (by rw [unhide HNS]; exact hPS)
      have hsp := hs.cell _ _ (hsec.pos P hPL)
      rw [hxl] at hsp
      have hblk := hsec.blk P hPL
      obtain ⟨au, cu, rfl, lu, mu⟩ := own_form hou
      rw [hdl] at hu
      have hbts := hou.bts
      rw [hdl] at hbts
      have HP2 := hide hP
      have HBX := hide hbox
      have HRS := hide hres
      have HS1 := hide hs
      have HSEC1 := hide hsec
      have HC1 := hide hc
      have HWI1 := hide hwi
      have HV1 := hide hv
      have HVI1 := hide hvi
      have HTO := hide hto
      have HBLK := hide hblk
      have HBTS := hide hbts
      have HXL := hide hxl
      have HDL := hide hdl
      have hgl := hs.lt
      have hcl := hc.lt
      have hk0 : (0 : Int) ≤ (k : Int) := Int.natCast_nonneg _
      have hk1 : (k : Int) < (N : Int) := by omega
      clear hP hbox hres hs hsec hc hwi hv hvi hto hblk hbts hxl hdl hou q0 q1
      go_wp2_with fail
      refine (unhide HP k hx _ (by rw [unhide HNS]; exact (unhide HTO).trans (Touch.below (bl1 _ _)))).mono ?_
      rintro e w3 ⟨rfl, hb3⟩
      have v0 := box1 hb3 0 rfl
      have v1 := box1 hb3 1 rfl
      have hb13 : Below wr.heap.size wr w3 := bl_trans (bl1 _ _) hb3
      have hrw : Row w3 wr.heap.size 90 [.int .i64 (P : Int), .slice au 64 cu] := (Row.new wr 90 [.int .i64 (P : Int), .slice au 64 cu]).up hb3
      replace o0 := cell_up hb13 o0
      replace hsp := cell_up hb13 hsp
      have hs3 := hb13.size
      have hB3 := (unhide HBLK).up hb13
      have n1 : g P ≠ w.heap.size := Row.apart (w := w3) hB3 ((unhide HBX).up hb13) (by decide)
      have n2 : g P ≠ w.heap.size + 1 := Row.apart (w := w3) hB3 ((unhide HRS).up hb13) (by decide)
      have n3 : g P ≠ wr.heap.size := Row.apart (w := w3) hB3 hrw (by decide)
      have n4 : g P ≠ gs := Row.apart (w := w3) hB3 ((unhide HS1).up hb13) (by decide)
      have n5 : g P ≠ gc := Row.apart (w := w3) hB3 ((unhide HC1).up hb13) (by decide)
      have n6 : g P ≠ gv := Row.apart (w := w3) hB3 ((unhide HV1).up hb13) (by decide)
      have hrl := hrw.lt
      have HB3 := hide hB3
      have HBTS3 := hide ((unhide HBTS).up hb13)
      have HB13 := hide hb13
      clear hb3 hB3 hrw hpos hu hb13
      cases hkk : keep k
      case false =>
        have HKK := hide hkk
        clear hkk
        go_wp2
        go_roundw
        case rel =>
          have hb := unhide HB13
          exact ⟨k + 1, by omega, by go_num, (unhide HBX).up hb, (unhide HRS).up hb, (unhide HS1).up hb, (by rw [settled_no (unhide HKK)]; exact (unhide HSEC1).up hb (Nat.le_refl _)), (unhide HC1).up hb, (unhide HWI1).imp fun _ _ q => q.up hb, (unhide HV1).up hb, (unhide HVI1).imp fun _ _ q => q.up hb, (unhide HTO).trans (Touch.below hb)⟩
        case measure => simp [intOf]; omega
      have HKK := hide hkk
      clear hkk
      go_wp2
      go_region_held3 (fun w' => w'.cell? ⟨w.heap.size, 0, none⟩ = some (.slice (some ⟨gs, 0, none⟩) S S) ∧ w'.cell? ⟨wr.heap.size, 0, none⟩ = some (.int .i64 (P : Int)) ∧ w'.cell? ⟨wr.heap.size, 1, none⟩ = some (.slice au 64 cu) ∧ w'.cell? ⟨gs, P, none⟩ = some (.slice (some ⟨g P, 0, none⟩) 64 64))
        (first | exact ⟨o0, v0, v1, hsp⟩ | exact ⟨(hg4.cell_far ⟨w.heap.size, 0, none⟩ (by simp <;> omega) (by simp <;> omega)).trans o0, (hg4.cell_far ⟨wr.heap.size, 0, none⟩ (by simp <;> omega) (by simp <;> omega)).trans v0, (hg4.cell_far ⟨wr.heap.size, 1, none⟩ (by simp <;> omega) (by simp <;> omega)).trans v1, (hg4.cell_far ⟨gs, P, none⟩ (by simp <;> omega) (by simp <;> omega)).trans hsp⟩)
        ((refine step_copy_blk _ (by rfl) _ _ (by rfl) (g P) 64 cu au _ _ (by rfl) (by rfl) (by exact unhide HB3) (unhide HXL) (by exact unhide HBTS3) (unhide HDL) (by decide) ?_; intro w4 hb4 hg4))
      all_goals
        have HB4 := hide hb4
        have HG4 := hide hg4
        clear hb4 hg4
        go_wp2
        go_roundw
        case rel =>
          have hb := unhide HB13
          have hg : w3.grownBy w4 (some (g P)) := (let q := unhide HG4; ⟨q.os, q.tape, q.output, q.size, q.block⟩)
          have hMP : g P < M := (unhide HSEC1).hi P hPL
          have hnew := ((unhide HSEC1).up hb (Nat.le_refl _)).put hPL (unhide HB4) hg (by rw [unhide HDL, unhide HXL])
          rw [show (settled keep D.safe D.cache k).set P (D.cache.getD k ⟨0, []⟩).data = settled keep D.safe D.cache (k + 1) by rw [settled_yes (unhide HKK), unhide HP2]; rfl] at hnew
          exact ⟨k + 1, by omega, by go_num, ((unhide HBX).up hb).kept hg (by simpa using Ne.symm n1), ((unhide HRS).up hb).kept hg (by simpa using Ne.symm n2), ((unhide HS1).up hb).kept hg (by simpa using Ne.symm n4), hnew, ((unhide HC1).up hb).kept hg (by simpa using Ne.symm n5), (unhide HWI1).imp fun _ _ q => (q.up hb).low hg hMP, ((unhide HV1).up hb).kept hg (by simpa using Ne.symm n6), (unhide HVI1).imp fun _ _ q => (q.up hb).low hg hMP, ((unhide HTO).trans (Touch.below hb)).trans (Touch.one P hPS hg)⟩
        case measure => simp [intOf]; omega
    · obtain rfl : k = N := by omega
      have e1 := hbox.cell 1 _ rfl
      have e2 := hbox.cell 2 _ rfl
      have e3 := hbox.cell 3 _ rfl
      have ef := hbox.unfrozen
      have d0 := hres.cell 0 _ rfl
      have d1 := hres.cell 1 _ rfl
      have d2 := hres.cell 2 _ rfl
      have d3 := hres.cell 3 _ rfl
      have df := hres.unfrozen
      have hrl := hres.lt
      have HBX := hide hbox
      have HRS := hide hres
      have HS1 := hide hs
      have HSEC1 := hide hsec
      have HV1 := hide hv
      have HVI1 := hide hvi
      have HTO := hide hto
      clear hbox hres hs hsec hc hwi hv hvi hto
      go_wp2
      refine bodyPost_ret (v := .agg #[.slice (some ⟨gs, 0, none⟩) S S, .slice none 0 0, .slice (some ⟨gv, 0, none⟩) D.vols.length D.vols.length, .int .i64 F]) (by simp [results, Try.results32, go_sem, *]) rfl ⟨rfl, ?_⟩
      have hg1 := gb_set (gb_refl wr (some w.heap.size)) 1 (.slice none 0 0)
      have hrs1 := (unhide HRS).kept hg1 (by simp)
      have hg2 : (wr.setCell ⟨w.heap.size, 1, none⟩ (.slice none 0 0)).grownBy (((((wr.setCell ⟨w.heap.size, 1, none⟩ (.slice none 0 0)).setCell ⟨w.heap.size + 1, 0, none⟩ (.slice (some ⟨gs, 0, none⟩) S S)).setCell ⟨w.heap.size + 1, 1, none⟩ (.slice none 0 0)).setCell ⟨w.heap.size + 1, 2, none⟩ (.slice (some ⟨gv, 0, none⟩) D.vols.length D.vols.length)).setCell ⟨w.heap.size + 1, 3, none⟩ (.int .i64 F)) (some (w.heap.size + 1)) := gb_set (gb_set (gb_set (gb_set (gb_refl _ _) _ _) _ _) _ _) _ _
      have hsec' := unhide HSEC1
      rw [settled_length, unhide HNS] at hsec'
      have hs1 := (unhide HS1).kept hg1 (by have := (unhide HS1).apart (unhide HBX) (by decide); simpa using this)
      have hv1 := (unhide HV1).kept hg1 (by have := (unhide HV1).apart (unhide HBX) (by decide); simpa using this)
      refine ⟨hs1.kept hg2 (by have := hs1.apart hrs1 (by decide); simpa using this), (hsec'.kept (unhide HBX) (by decide) hg1).kept hrs1 (by decide) hg2, hv1.kept hg2 (by have := hv1.apart hrs1 (by decide); simpa using this), ((unhide HVI1).imp fun _ _ q => q.kept (unhide HBX) (by decide) hg1).imp fun _ _ q => q.kept hrs1 (by decide) hg2, ?_⟩
      have ht := unhide HTO
      refine ⟨ht.os, ht.tape, ht.output, by simpa [World.setCell] using ht.size, fun i hi hj => ?_⟩
      exact (hg2.block i (by simp [World.setCell]; omega) (by simp; omega)).trans ((hg1.block i (by omega) (by simp; omega)).trans (ht.block i hi hj))
set_option maxHeartbeats 2000000 in
theorem setC_any (T : Nat) (gs gc gv : Nat) (us uc uv : List Value) (g : Nat → Nat) (B M : Nat) (D : Dv) (F : Int) (keep : Nat → Bool) (w : World)
    (hs : Row w gs 26 us) (hsec : Sec w B M us D.safe g D.safe.length) (hc : Row w gc 90 uc) (hwi : WrsIn w M uc D.cache) (hv : Row w gv 79 uv) (hvi : VosIn w M uv D.vols)
    (h64 : ∀ i, i < D.safe.length → (D.safe.getD i []).length = 64) (hC64 : ∀ i, i < D.cache.length → (0 ≤ (D.cache.getD i ⟨0, []⟩).pos ∧ (D.cache.getD i ⟨0, []⟩).pos < D.safe.length) ∧ (D.cache.getD i ⟨0, []⟩).data.length = 64) (hfit : Fits D)
    (hp : ∀ k, k < D.cache.length → ∀ wr, Touch g D.safe.length w wr → Calls Try.prog 34 #[.int .i64 (k : Int), .pointer (some ⟨T, 0, none⟩)] wr fun e w' => e = .returned (.bool (keep k)) ∧ Below wr.heap.size wr w') :
    Calls Try.prog 32 #[.agg #[.slice (some ⟨gs, 0, none⟩) D.safe.length D.safe.length, .slice (some ⟨gc, 0, none⟩) D.cache.length D.cache.length, .slice (some ⟨gv, 0, none⟩) D.vols.length D.vols.length, .int .i64 F], .func (.func 34) #[] #[.pointer (some ⟨T, 0, none⟩)]] w fun e w' =>
      e = .returned (.agg #[.slice (some ⟨gs, 0, none⟩) D.safe.length D.safe.length, .slice none 0 0, .slice (some ⟨gv, 0, none⟩) D.vols.length D.vols.length, .int .i64 F]) ∧ Row w' gs 26 us ∧ Sec w' B M us (settled keep D.safe D.cache D.cache.length) g D.safe.length ∧ Row w' gv 79 uv ∧ VosIn w' M uv D.vols ∧ Touch g D.safe.length w w' := by
  have HP := hide hp
  have H64 := hide h64
  have HC64 := hide hC64
  have F1 := hfit.safe
  have F2 := hfit.cache
  have HS := hide hs
  have HSEC := hide hsec
  have HC := hide hc
  have HWI := hide hwi
  have HV := hide hv
  have HVI := hide hvi
  obtain ⟨S, hS⟩ : ∃ S, D.safe.length = S := ⟨_, rfl⟩
  obtain ⟨N, hN⟩ : ∃ N, D.cache.length = N := ⟨_, rfl⟩
  rw [hS] at F1 ⊢
  rw [hN] at F2 ⊢
  have HNS := hide hS
  have HN := hide hN
  clear hS hN hp h64 hC64 hfit hs hsec hc hwi hv hvi
  go_enter Try.func32, Try.ntmps32
  go_wp2
  obtain ⟨W1, hW1⟩ : ∃ W1, W1 = (w.alloc (.cells #[.slice (some ⟨gs, 0, none⟩) S S, .slice (some ⟨gc, 0, none⟩) N N, .slice (some ⟨gv, 0, none⟩) D.vols.length D.vols.length, .int .i64 F] 34)).alloc (.cells #[.slice none 0 0, .slice none 0 0, .slice none 0 0, .int .i64 0] 34) := ⟨_, rfl⟩
  have h01 : Below w.heap.size w W1 := by rw [hW1]; exact bl2 _ _ _
  have hbox : Row W1 w.heap.size 34 [.slice (some ⟨gs, 0, none⟩) S S, .slice (some ⟨gc, 0, none⟩) N N, .slice (some ⟨gv, 0, none⟩) D.vols.length D.vols.length, .int .i64 F] := by rw [hW1]; exact (Row.new _ _ _).up (bl1 _ _)
  have hres : Row W1 (w.heap.size + 1) 34 [.slice none 0 0, .slice none 0 0, .slice none 0 0, .int .i64 0] := by
    rw [hW1]
    have := Row.new (w.alloc (.cells #[.slice (some ⟨gs, 0, none⟩) S S, .slice (some ⟨gc, 0, none⟩) N N, .slice (some ⟨gv, 0, none⟩) D.vols.length D.vols.length, .int .i64 F] 34)) 34 [.slice none 0 0, .slice none 0 0, .slice none 0 0, .int .i64 0]
    simpa using this
  rw [← hW1]
  clear hW1
  have HBOX := hide hbox
  have HRES := hide hres
  clear hbox hres
  go_loopw [5, 6, 10] (fun _ _ i wr => ∃ k : Nat, k ≤ N ∧ i = .int .i64 k ∧ Row wr w.heap.size 34 [.slice (some ⟨gs, 0, none⟩) S S, .slice (some ⟨gc, 0, none⟩) N N, .slice (some ⟨gv, 0, none⟩) D.vols.length D.vols.length, .int .i64 F] ∧ Row wr (w.heap.size + 1) 34 [.slice none 0 0, .slice none 0 0, .slice none 0 0, .int .i64 0] ∧ Row wr gs 26 us ∧ Sec wr B M us (settled keep D.safe D.cache k) g (settled keep D.safe D.cache k).length ∧ Row wr gc 90 uc ∧ WrsIn wr M uc D.cache ∧ Row wr gv 79 uv ∧ VosIn wr M uv D.vols ∧ Touch g S w wr) (fun _ _ i _ => N - (intOf i).toNat)
  case atStart => exact ⟨0, Nat.zero_le _, rfl, unhide HBOX, unhide HRES, (unhide HS).up h01, (unhide HSEC).up h01 (Nat.le_refl _), (unhide HC).up h01, (unhide HWI).imp fun _ _ q => q.up h01, (unhide HV).up h01, (unhide HVI).imp fun _ _ q => q.up h01, Touch.below h01⟩
  case round =>
    obtain ⟨k, hk, rfl, hbox, hres, hs, hsec, hc, hwi, hv, hvi, hto⟩ := hrel
    have o0 := hbox.cell 0 _ rfl
    have hol := hbox.lt
    have hsr := hto.size
    by_cases hlt : k < N
    · have hx : k < D.cache.length := by rw [unhide HN]; exact hlt
      obtain ⟨⟨p0, p1⟩, hdl⟩ := unhide HC64 k hx
      rw [unhide HNS] at p1
      obtain ⟨q0, u, q1, hou⟩ := hwi.2 k hx
      have hpos := hc.cell _ _ q0
      have hu := hc.cell _ _ q1
      obtain ⟨P, hP⟩ : ∃ P : Nat, (D.cache.getD k ⟨0, []⟩).pos = (P : Int) := ⟨(D.cache.getD k ⟨0, []⟩).pos.toNat, by omega⟩
      rw [hP] at hpos p0 p1
      have hPS : P < S := by omega
      have hPL : P < (settled keep D.safe D.cache k).length := by rw [settled_length, unhide HNS]; exact hPS
      have hxl : ((settled keep D.safe D.cache k).getD P []).length = 64 := settled_64 (unhide H64) (unhide HC64) k (by omega) P (by rw [unhide HNS]; exact hPS)
      have hsp := hs.cell _ _ (hsec.pos P hPL)
      rw [hxl] at hsp
      have hblk := hsec.blk P hPL
      obtain ⟨au, cu, rfl, lu, mu⟩ := own_form hou
      rw [hdl] at hu
      have hbts := hou.bts
      rw [hdl] at hbts
      have HP2 := hide hP
      have HBX := hide hbox
      have HRS := hide hres
      have HS1 := hide hs
      have HSEC1 := hide hsec
      have HC1 := hide hc
      have HWI1 := hide hwi
      have HV1 := hide hv
      have HVI1 := hide hvi
      have HTO := hide hto
      have HBLK := hide hblk
      have HBTS := hide hbts
      have HXL := hide hxl
      have HDL := hide hdl
      have hgl := hs.lt
      have hcl := hc.lt
      have hk0 : (0 : Int) ≤ (k : Int) := Int.natCast_nonneg _
      have hk1 : (k : Int) < (N : Int) := by omega
      clear hP hbox hres hs hsec hc hwi hv hvi hto hblk hbts hxl hdl hou q0 q1
      go_wp2_with fail
      refine (unhide HP k hx _ (by rw [unhide HNS]; exact (unhide HTO).trans (Touch.below (bl1 _ _)))).mono ?_
      rintro e w3 ⟨rfl, hb3⟩
      have v0 := box1 hb3 0 rfl
      have v1 := box1 hb3 1 rfl
      have hb13 : Below wr.heap.size wr w3 := bl_trans (bl1 _ _) hb3
      have hrw : Row w3 wr.heap.size 90 [.int .i64 (P : Int), .slice au 64 cu] := (Row.new wr 90 [.int .i64 (P : Int), .slice au 64 cu]).up hb3
      replace o0 := cell_up hb13 o0
      replace hsp := cell_up hb13 hsp
      have hs3 := hb13.size
      have hB3 := (unhide HBLK).up hb13
      have n1 : g P ≠ w.heap.size := Row.apart (w := w3) hB3 ((unhide HBX).up hb13) (by decide)
      have n2 : g P ≠ w.heap.size + 1 := Row.apart (w := w3) hB3 ((unhide HRS).up hb13) (by decide)
      have n3 : g P ≠ wr.heap.size := Row.apart (w := w3) hB3 hrw (by decide)
      have n4 : g P ≠ gs := Row.apart (w := w3) hB3 ((unhide HS1).up hb13) (by decide)
      have n5 : g P ≠ gc := Row.apart (w := w3) hB3 ((unhide HC1).up hb13) (by decide)
      have n6 : g P ≠ gv := Row.apart (w := w3) hB3 ((unhide HV1).up hb13) (by decide)
      have hrl := hrw.lt
      have HB3 := hide hB3
      have HBTS3 := hide ((unhide HBTS).up hb13)
      have HB13 := hide hb13
      clear hb3 hB3 hrw hpos hu hb13
      cases hkk : keep k
      case false =>
        have HKK := hide hkk
        clear hkk
        go_wp2
        go_roundw
        case rel =>
          have hb := unhide HB13
          exact ⟨k + 1, by omega, by go_num, (unhide HBX).up hb, (unhide HRS).up hb, (unhide HS1).up hb, (by rw [settled_no (unhide HKK)]; exact (unhide HSEC1).up hb (Nat.le_refl _)), (unhide HC1).up hb, (unhide HWI1).imp fun _ _ q => q.up hb, (unhide HV1).up hb, (unhide HVI1).imp fun _ _ q => q.up hb, (unhide HTO).trans (Touch.below hb)⟩
        case measure => simp [intOf]; omega
      have HKK := hide hkk
      clear hkk
      go_wp2
      go_region_held3 (fun w' => w'.cell? ⟨w.heap.size, 0, none⟩ = some (.slice (some ⟨gs, 0, none⟩) S S) ∧ w'.cell? ⟨wr.heap.size, 0, none⟩ = some (.int .i64 (P : Int)) ∧ w'.cell? ⟨wr.heap.size, 1, none⟩ = some (.slice au 64 cu) ∧ w'.cell? ⟨gs, P, none⟩ = some (.slice (some ⟨g P, 0, none⟩) 64 64))
        (first | exact ⟨o0, v0, v1, hsp⟩ | exact ⟨(hg4.cell_far ⟨w.heap.size, 0, none⟩ (by simp <;> omega) (by simp <;> omega)).trans o0, (hg4.cell_far ⟨wr.heap.size, 0, none⟩ (by simp <;> omega) (by simp <;> omega)).trans v0, (hg4.cell_far ⟨wr.heap.size, 1, none⟩ (by simp <;> omega) (by simp <;> omega)).trans v1, (hg4.cell_far ⟨gs, P, none⟩ (by simp <;> omega) (by simp <;> omega)).trans hsp⟩)
        ((refine step_copy_blk _ (by rfl) _ _ (by rfl) (g P) 64 cu au _ _ (by rfl) (by rfl) (by exact unhide HB3) (unhide HXL) (by exact unhide HBTS3) (unhide HDL) (by decide) ?_; intro w4 hb4 hg4))
      all_goals
        have HB4 := hide hb4
        have HG4 := hide hg4
        clear hb4 hg4
        go_wp2
        go_roundw
        case rel =>
          have hb := unhide HB13
          have hg : w3.grownBy w4 (some (g P)) := (let q := unhide HG4; ⟨q.os, q.tape, q.output, q.size, q.block⟩)
          have hMP : g P < M := (unhide HSEC1).hi P hPL
          have hnew := ((unhide HSEC1).up hb (Nat.le_refl _)).put hPL (unhide HB4) hg (by rw [unhide HDL, unhide HXL])
          rw [show (settled keep D.safe D.cache k).set P (D.cache.getD k ⟨0, []⟩).data = settled keep D.safe D.cache (k + 1) by rw [settled_yes (unhide HKK), unhide HP2]; rfl] at hnew
          exact ⟨k + 1, by omega, by go_num, ((unhide HBX).up hb).kept hg (by simpa using Ne.symm n1), ((unhide HRS).up hb).kept hg (by simpa using Ne.symm n2), ((unhide HS1).up hb).kept hg (by simpa using Ne.symm n4), hnew, ((unhide HC1).up hb).kept hg (by simpa using Ne.symm n5), (unhide HWI1).imp fun _ _ q => (q.up hb).low hg hMP, ((unhide HV1).up hb).kept hg (by simpa using Ne.symm n6), (unhide HVI1).imp fun _ _ q => (q.up hb).low hg hMP, ((unhide HTO).trans (Touch.below hb)).trans (Touch.one P hPS hg)⟩
        case measure => simp [intOf]; omega
    · obtain rfl : k = N := by omega
      have e1 := hbox.cell 1 _ rfl
      have e2 := hbox.cell 2 _ rfl
      have e3 := hbox.cell 3 _ rfl
      have ef := hbox.unfrozen
      have d0 := hres.cell 0 _ rfl
      have d1 := hres.cell 1 _ rfl
      have d2 := hres.cell 2 _ rfl
      have d3 := hres.cell 3 _ rfl
      have df := hres.unfrozen
      have hrl := hres.lt
      have HBX := hide hbox
      have HRS := hide hres
      have HS1 := hide hs
      have HSEC1 := hide hsec
      have HV1 := hide hv
      have HVI1 := hide hvi
      have HTO := hide hto
      clear hbox hres hs hsec hc hwi hv hvi hto
      go_wp2
      refine bodyPost_ret (v := .agg #[.slice (some ⟨gs, 0, none⟩) S S, .slice none 0 0, .slice (some ⟨gv, 0, none⟩) D.vols.length D.vols.length, .int .i64 F]) (by simp [results, Try.results32, go_sem, *]) rfl ⟨rfl, ?_⟩
      have hg1 := gb_set (gb_refl wr (some w.heap.size)) 1 (.slice none 0 0)
      have hrs1 := (unhide HRS).kept hg1 (by simp)
      have hg2 : (wr.setCell ⟨w.heap.size, 1, none⟩ (.slice none 0 0)).grownBy (((((wr.setCell ⟨w.heap.size, 1, none⟩ (.slice none 0 0)).setCell ⟨w.heap.size + 1, 0, none⟩ (.slice (some ⟨gs, 0, none⟩) S S)).setCell ⟨w.heap.size + 1, 1, none⟩ (.slice none 0 0)).setCell ⟨w.heap.size + 1, 2, none⟩ (.slice (some ⟨gv, 0, none⟩) D.vols.length D.vols.length)).setCell ⟨w.heap.size + 1, 3, none⟩ (.int .i64 F)) (some (w.heap.size + 1)) := gb_set (gb_set (gb_set (gb_set (gb_refl _ _) _ _) _ _) _ _) _ _
      have hsec' := unhide HSEC1
      rw [settled_length, unhide HNS] at hsec'
      have hs1 := (unhide HS1).kept hg1 (by have := (unhide HS1).apart (unhide HBX) (by decide); simpa using this)
      have hv1 := (unhide HV1).kept hg1 (by have := (unhide HV1).apart (unhide HBX) (by decide); simpa using this)
      refine ⟨hs1.kept hg2 (by have := hs1.apart hrs1 (by decide); simpa using this), (hsec'.kept (unhide HBX) (by decide) hg1).kept hrs1 (by decide) hg2, hv1.kept hg2 (by have := hv1.apart hrs1 (by decide); simpa using this), ((unhide HVI1).imp fun _ _ q => q.kept (unhide HBX) (by decide) hg1).imp fun _ _ q => q.kept hrs1 (by decide) hg2, ?_⟩
      have ht := unhide HTO
      refine ⟨ht.os, ht.tape, ht.output, by simpa [World.setCell] using ht.size, fun i hi hj => ?_⟩
      exact (hg2.block i (by simp [World.setCell]; omega) (by simp; omega)).trans ((hg1.block i (by omega) (by simp; omega)).trans (ht.block i hi hj))
end Go.Proofs.Ytjaedigjmgfakaa
