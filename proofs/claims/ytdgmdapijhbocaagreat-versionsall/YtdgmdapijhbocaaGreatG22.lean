/- icehousekeep.Record, kind by kind. -/
import Derived.Test.YtdgmdapijhbocaaGreatG21
import Derived.Test.YtdgmdapijhbocaaGreatG17
namespace Go.Proofs.YtdgmdapijhbocaaGreat
open Go.RowKit Go.Maps
set_option maxRecDepth 100000
set_option linter.unusedVariables false
set_option linter.unusedSimpArgs false
/-- The texts of prefixes. -/
def preT : List ByteArray := [⟨#[]⟩, ⟨#[121]⟩, ⟨#[122, 47]⟩]
def slF (s : Nat) (x : Rw) (I : Nat) (T : ByteArray) (i : Nat) (v : Value) (w : World) : Prop :=
  match i with
  | 0 => ∃ g, v = .slice (some ⟨g, 0, none⟩) 3 3 ∧ w.cell? ⟨g, I, none⟩ = some (.string T)
  | 4 => ∃ g, v = .pointer (some ⟨g, I, none⟩) ∧ w.cell? ⟨g, I, none⟩ = some (.string T)
  | 1 => v = .pointer (some ⟨s + 1, 2, none⟩)
  | 2 => v = .int .i64 x.b
  | 3 => v = .int .i64 (I : Int)
  | 5 => v = .string T
  | 6 => v = .pointer (some ⟨s + 1, 3, none⟩)
  | 7 => v = .int .i64 x.c
  | 8 => v = .int .i64 (pickI x.c 12)
  | 9 => v = .int .i64 (pickI x.c 12 - 1)
  | 10 => v = .pointer (some ⟨s + 1, 4, none⟩)
  | 11 => v = .int .i64 x.d
  | 12 => v = .int .i64 (pickI x.d 30)
  | 13 => v = .int .i64 (pickI x.d 30 - 1)
  | 14 => v = .agg #[.string T, .int .i64 (pickI x.c 12 - 1), .int .i64 (pickI x.d 30 - 1)]
  | 15 => v = .pointer (some ⟨s + 1 + 1 + 1, 5, none⟩)
  | _ => True
theorem slF_up (s : Nat) (x : Rw) (I : Nat) (T : ByteArray) (i : Nat) (v : Value) (w w' : World) (hb : Below w.heap.size w w') (h : slF s x I T i v w) : slF s x I T i v w' := by
  match i, h with
  | 0, h => exact let ⟨g, e, c⟩ := h; ⟨g, e, scell_up hb c⟩
  | 1, h => exact h
  | 2, h => exact h
  | 3, h => exact h
  | 4, h => exact let ⟨g, e, c⟩ := h; ⟨g, e, scell_up hb c⟩
  | 5, h => exact h
  | 6, h => exact h
  | 7, h => exact h
  | 8, h => exact h
  | 9, h => exact h
  | 10, h => exact h
  | 11, h => exact h
  | 12, h => exact h
  | 13, h => exact h
  | 14, h => exact h
  | 15, h => exact h
  | _ + 16, _ => trivial
set_option maxHeartbeats 2000000 in
theorem record_2 (S : St) (b v u q g : Value) (x : Rw) (w : World) (hS : Sta w b v u q g S) (hc : stC S = true) (hx : WfW x) (hk : pickI x.kind 14 = 2) :
    Calls Tryz.prog 25 #[stV S b v u q g, rwV x] w fun e w' => ∃ vv pv sv, e = .returned (rcV (recR S x) vv pv sv) ∧ RcI w' (recR S x) vv pv sv ∧ Below w.heap.size w w' := by
  have HS := hide hS
  obtain ⟨hk0, ha0, hb0, hc0, hd0⟩ := hx
  have HQ : Hid (recR S x = { rcN 3 with nam := nmB x.a, pre := preB x.b, fre := pickI x.c 12 - 1, dro := pickI x.d 30 - 1 }) := by show _ = _; unfold recR; simp [hk]
  obtain ⟨Q, hQ⟩ : ∃ Q, recR S x = Q := ⟨_, rfl⟩
  rw [hQ] at HQ ⊢
  clear hQ hS
  have HK : Hid (∀ W : World, Calls Tryz.prog 10 #[.int .i64 x.kind, .int .i64 14] W fun e w' => e = .returned (.int .i64 2) ∧ W = w') := fun W => by
    have := picked_any x.kind 14 W (by decide) (by decide) hk0.1 hk0.2
    rw [hk] at this; exact this
  obtain ⟨I, hI⟩ : ∃ K : Nat, pickI x.b 3 = (K : Int) := ⟨(pickI x.b 3).toNat, by have := pickI_lo x.b (m := 3) (by decide); omega⟩
  have hI3 : I < 3 := by have := pickI_hi x.b (m := 3) (by decide); omega
  obtain ⟨T, hT⟩ : ∃ T, preB x.b = T := ⟨_, rfl⟩
  have HAT : Hid ((#[Value.string ⟨#[]⟩, .string ⟨#[121]⟩, .string ⟨#[122, 47]⟩] : Array Value)[I]? = some (.string T)) := by
    show _ = _
    rw [← hT]
    unfold preB
    match I, hI3 with
    | 0, _ => rw [if_pos (by simpa using hI)]; rfl
    | 1, _ => rw [if_neg (by rw [hI]; decide), if_pos (by simpa using hI)]; rfl
    | 2, _ => rw [if_neg (by rw [hI]; decide), if_neg (by rw [hI]; decide)]; rfl
  rw [hT] at HQ
  have HI := hide hI
  clear hI hT
  clear hk
  go_enter Tryz.func25, Tryz.ntmps25
  go_wp2_with fail
  refine (unhide HK _).mono ?_
  rintro e w1 ⟨rfl, rfl⟩
  simp only []
  rename_i hK0
  refine hK0 _ _ ?_
  clear hK0
  refine wpList_plain rfl (fun K hK => ?_)
  go_simp
  refine hK _ _ ?_
  clear hK
  refine wpList_plain rfl (fun K hK => ?_)
  go_simp
  refine hK _ _ ?_
  clear hK
  refine wpList_plain rfl (fun K hK => ?_)
  go_simp
  refine hK _ _ ?_
  clear hK
  rw [show IntKind.wrap .i64 3 = 3 by decide]
  refine wpList_store_mid rfl 47 (.tmp 5) (.tmp 14) rfl (w.heap.size + 1 + 1 + 1) 0 (rcA (rcN 3) nl nl nl) rfl rfl (there_of (c := rcA (rcN 0) nl nl nl) (t := 47) (rec_new _ _ _ _ _)) (by kernel_rfl) (by simp [Value.oneCell']) ?_
  generalize hWW : World.setCells _ (w.heap.size + 1 + 1 + 1) 0 _ = W1
  have hrr : W1.heap[w.heap.size]? = some (.cells #[.int .i64 S.next, .int .i64 S.clock, b, v, u, q, g] 29 (0, 0)) ∧ W1.heap[w.heap.size + 1]? = some (.cells #[.int .i64 x.kind, .int .i64 x.a, .int .i64 x.b, .int .i64 x.c, .int .i64 x.d, .string x.text] 72 (0, 0)) ∧ W1.heap[w.heap.size + 1 + 1]? = some (.cells (rcA (rcN 0) nl nl nl) 47 (0, 0)) ∧ W1.heap[w.heap.size + 1 + 1 + 1]? = some (.cells (rcA (rcN 3) nl nl nl) 47 (0, 0)) ∧ Below w.heap.size w W1 := by
    rw [← hWW]
    exact rec_rows w (.cells #[.int .i64 S.next, .int .i64 S.clock, b, v, u, q, g] 29) (.cells #[.int .i64 x.kind, .int .i64 x.a, .int .i64 x.b, .int .i64 x.c, .int .i64 x.d, .string x.text] 72) (.cells (rcA (rcN 0) nl nl nl) 47) (rcA (rcN 0) nl nl nl) (rcA (rcN 3) nl nl nl) rfl
  clear hWW
  obtain ⟨r0, r1, r2, r3, hw1⟩ := hrr
  have HRR0 : Hid (RR w W1 #[.int .i64 S.next, .int .i64 S.clock, b, v, u, q, g] x (rcA (rcN 3) nl nl nl)) := ⟨r0, r1, r2, r3, hw1⟩
  have k0 : W1.cell? ⟨w.heap.size + 1 + 1 + 1, 0, none⟩ = some (.int .i64 3) := cell_of r3 0 rfl
  clear r0 r1 r2 r3
  have xa0_0 := cell_of (unhide HRR0).r1 0 rfl
  have xa1_0 := cell_of (unhide HRR0).r1 1 rfl
  have xa2_0 := cell_of (unhide HRR0).r1 2 rfl
  have xa3_0 := cell_of (unhide HRR0).r1 3 rfl
  have xa4_0 := cell_of (unhide HRR0).r1 4 rfl
  have sa0_0 := cell_of (unhide HRR0).r0 0 rfl
  have sa1_0 := cell_of (unhide HRR0).r0 1 rfl
  have sa2_0 := cell_of (unhide HRR0).r0 2 rfl
  have sa3_0 := cell_of (unhide HRR0).r0 3 rfl
  have sa4_0 := cell_of (unhide HRR0).r0 4 rfl
  have sa5_0 := cell_of (unhide HRR0).r0 5 rfl
  have sa6_0 := cell_of (unhide HRR0).r0 6 rfl
  have pa1_0 := cell_of (unhide HRR0).r3 1 rfl
  have pa2_0 := cell_of (unhide HRR0).r3 2 rfl
  have pa3_0 := cell_of (unhide HRR0).r3 3 rfl
  have pa4_0 := cell_of (unhide HRR0).r3 4 rfl
  have pa27_0 := cell_of (unhide HRR0).r3 27 rfl
  have pa28_0 := cell_of (unhide HRR0).r3 28 rfl
  have pf0 := fun j => fz_of (unhide HRR0).r3 j
  have pl0 := (unhide HRR0).lt
  have ql0 := (unhide HRR0).lt0
  have qm0 := (unhide HRR0).lt1
  have hlo := pickI_lo x.c (m := 12) (by decide)
  have hhi := pickI_hi x.c (m := 12) (by decide)
  have hlo2 := pickI_lo x.d (m := 30) (by decide)
  have hhi2 := pickI_hi x.d (m := 30) (by decide)
  have HWC : Hid (IntKind.i64.wrap (pickI x.c 12 - 1) = pickI x.c 12 - 1) := Go.IntWalk.i64_in _ (by omega)
  have HWD : Hid (IntKind.i64.wrap (pickI x.d 30 - 1) = pickI x.d 30 - 1) := Go.IntWalk.i64_in _ (by omega)
  go_upto_region 11 with (first
    | (refine (name_any x.a _ ha0.1 ha0.2).mono ?_; rintro e w2 ⟨rfl, b2⟩; have HRR2 := hide ((unhide HRR0).up b2); have xa0_2 := cell_of (unhide HRR2).r1 0 rfl; have xa1_2 := cell_of (unhide HRR2).r1 1 rfl; have xa2_2 := cell_of (unhide HRR2).r1 2 rfl; have xa3_2 := cell_of (unhide HRR2).r1 3 rfl; have xa4_2 := cell_of (unhide HRR2).r1 4 rfl; have sa0_2 := cell_of (unhide HRR2).r0 0 rfl; have sa1_2 := cell_of (unhide HRR2).r0 1 rfl; have sa2_2 := cell_of (unhide HRR2).r0 2 rfl; have sa3_2 := cell_of (unhide HRR2).r0 3 rfl; have sa4_2 := cell_of (unhide HRR2).r0 4 rfl; have sa5_2 := cell_of (unhide HRR2).r0 5 rfl; have sa6_2 := cell_of (unhide HRR2).r0 6 rfl; have pa1_2 := cell_of (unhide HRR2).r3 1 rfl; have pa2_2 := cell_of (unhide HRR2).r3 2 rfl; have pa3_2 := cell_of (unhide HRR2).r3 3 rfl; have pa4_2 := cell_of (unhide HRR2).r3 4 rfl; have pa27_2 := cell_of (unhide HRR2).r3 27 rfl; have pa28_2 := cell_of (unhide HRR2).r3 28 rfl; have pf2 := fun j => fz_of (unhide HRR2).r3 j; have pl2 := (unhide HRR2).lt; have ql2 := (unhide HRR2).lt0; have qm2 := (unhide HRR2).lt1)
    | fail)
  have hrr3 := RR.set (c' := rcA { rcN 3 with nam := nmB x.a } nl nl nl) (unhide HRR2) 3 (.string (nmB x.a)) rfl
  clear xa0_2 xa1_2 xa2_2 xa3_2 xa4_2 sa0_2 sa1_2 sa2_2 sa3_2 sa4_2 sa5_2 sa6_2 pa1_2 pa2_2 pa3_2 pa4_2 pa27_2 pa28_2 pf2 pl2 ql2 qm2
  revert hrr3
  generalize World.setCell w2 _ _ = V
  intro hrr3
  have HRR3 := hide hrr3
  clear hrr3
  refine wp_last 16 (slF w.heap.size x I T) (by kernel_rfl) (by kernel_rfl) (by kernel_rfl) rfl rfl (slF_up _ _ _ _) ?_ ?_
  · refine AllOps.cons ?_ (AllOps.cons ?_ (AllOps.cons ?_ (AllOps.cons ?_ (AllOps.cons ?_ (AllOps.cons ?_ (AllOps.cons ?_ (AllOps.cons ?_ (AllOps.cons ?_ (AllOps.cons ?_ (AllOps.cons ?_ (AllOps.cons ?_ (AllOps.cons ?_ (AllOps.cons ?_ (AllOps.cons ?_ (AllOps.cons ?_ (AllOps.cons ?_ (AllOps.nil)))))))))))))))))
    · intro _ a w9 hA hb hd
      refine ⟨by rfl, ?_⟩
      go_simp
      refine ⟨_, rfl, bl1 _ _, w9.heap.size, rfl, ?_⟩
      rw [World.cell?_alloc_at _ _ _ _ rfl]
      exact unhide HAT
    · intro _ a w9 hA hb hd
      have t3 : a.tmps.getD 3 undef = .pointer (some ⟨w.heap.size + 1, 0, none⟩) := hA 3 rfl
      refine ⟨by rfl, ?_⟩
      go_simp
      exact ⟨_, rfl, Below.refl _ _, rfl⟩
    · intro _ a w9 hA hb hd
      have d1 : a.tmps[45]?.getD undef = .pointer (some ⟨w.heap.size + 1, 2, none⟩) := by rw [← Array.getD_eq_getD_getElem?]; exact hd 1 (by kernel_rfl) _ rfl
      have g2 := cell_of ((unhide HRR3).up hb).r1 2 rfl
      refine ⟨by rfl, ?_⟩
      go_simp
      exact ⟨_, rfl, Below.refl _ _, rfl⟩
    · intro _ a w9 hA hb hd
      have d2 : a.tmps[46]?.getD undef = .int .i64 x.b := by rw [← Array.getD_eq_getD_getElem?]; exact hd 2 (by kernel_rfl) _ rfl
      refine ⟨by rfl, ?_⟩
      go_simp
      go_at_call 10
      refine (picked_any x.b 3 _ (by decide) (by decide) hb0.1 hb0.2).mono ?_
      rintro e w' ⟨rfl, rfl⟩
      rw [unhide HI]
      exact ⟨_, rfl, Below.refl _ _, rfl⟩
    · intro _ a w9 hA hb hd
      obtain ⟨gg, d0, c0⟩ : ∃ g, a.tmps.getD 44 undef = .slice (some ⟨g, 0, none⟩) 3 3 ∧ w9.cell? ⟨g, I, none⟩ = some (.string T) := hd 0 (by kernel_rfl) _ rfl
      rw [Array.getD_eq_getD_getElem?] at d0
      have d3 : a.tmps[47]?.getD undef = .int .i64 (I : Int) := by rw [← Array.getD_eq_getD_getElem?]; exact hd 3 (by kernel_rfl) _ rfl
      have i0 : (0 : Int) ≤ (I : Int) := Int.natCast_nonneg _
      have i1 : (I : Int) < 3 := by omega
      refine ⟨by rfl, ?_⟩
      go_simp
      refine ⟨_, rfl, Below.refl _ _, gg, ?_, c0⟩
      simp [Addr.add]
    · intro _ a w9 hA hb hd
      obtain ⟨gg, d4, c4⟩ : ∃ g, a.tmps.getD 48 undef = .pointer (some ⟨g, I, none⟩) ∧ w9.cell? ⟨g, I, none⟩ = some (.string T) := hd 4 (by kernel_rfl) _ rfl
      rw [Array.getD_eq_getD_getElem?] at d4
      refine ⟨by rfl, ?_⟩
      go_simp
      exact ⟨_, rfl, Below.refl _ _, rfl⟩
    · intro _ a w9 hA hb hd
      have t3 : a.tmps.getD 3 undef = .pointer (some ⟨w.heap.size + 1, 0, none⟩) := hA 3 rfl
      refine ⟨by rfl, ?_⟩
      go_simp
      exact ⟨_, rfl, Below.refl _ _, rfl⟩
    · intro _ a w9 hA hb hd
      have d6 : a.tmps[50]?.getD undef = .pointer (some ⟨w.heap.size + 1, 3, none⟩) := by rw [← Array.getD_eq_getD_getElem?]; exact hd 6 (by kernel_rfl) _ rfl
      have g3 := cell_of ((unhide HRR3).up hb).r1 3 rfl
      refine ⟨by rfl, ?_⟩
      go_simp
      exact ⟨_, rfl, Below.refl _ _, rfl⟩
    · intro _ a w9 hA hb hd
      have d7 : a.tmps[51]?.getD undef = .int .i64 x.c := by rw [← Array.getD_eq_getD_getElem?]; exact hd 7 (by kernel_rfl) _ rfl
      refine ⟨by rfl, ?_⟩
      go_simp
      go_at_call 10
      refine (picked_any x.c 12 _ (by decide) (by decide) hc0.1 hc0.2).mono ?_
      rintro e w' ⟨rfl, rfl⟩
      exact ⟨_, rfl, Below.refl _ _, rfl⟩
    · intro _ a w9 hA hb hd
      have d8 : a.tmps[52]?.getD undef = .int .i64 (pickI x.c 12) := by rw [← Array.getD_eq_getD_getElem?]; exact hd 8 (by kernel_rfl) _ rfl
      refine ⟨by rfl, ?_⟩
      go_simp
      exact ⟨_, rfl, Below.refl _ _, congrArg (Value.int .i64) (unhide HWC)⟩
    · intro _ a w9 hA hb hd
      have t3 : a.tmps.getD 3 undef = .pointer (some ⟨w.heap.size + 1, 0, none⟩) := hA 3 rfl
      refine ⟨by rfl, ?_⟩
      go_simp
      exact ⟨_, rfl, Below.refl _ _, rfl⟩
    · intro _ a w9 hA hb hd
      have d10 : a.tmps[54]?.getD undef = .pointer (some ⟨w.heap.size + 1, 4, none⟩) := by rw [← Array.getD_eq_getD_getElem?]; exact hd 10 (by kernel_rfl) _ rfl
      have g4 := cell_of ((unhide HRR3).up hb).r1 4 rfl
      refine ⟨by rfl, ?_⟩
      go_simp
      exact ⟨_, rfl, Below.refl _ _, rfl⟩
    · intro _ a w9 hA hb hd
      have d11 : a.tmps[55]?.getD undef = .int .i64 x.d := by rw [← Array.getD_eq_getD_getElem?]; exact hd 11 (by kernel_rfl) _ rfl
      refine ⟨by rfl, ?_⟩
      go_simp
      go_at_call 10
      refine (picked_any x.d 30 _ (by decide) (by decide) hd0.1 hd0.2).mono ?_
      rintro e w' ⟨rfl, rfl⟩
      exact ⟨_, rfl, Below.refl _ _, rfl⟩
    · intro _ a w9 hA hb hd
      have d12 : a.tmps[56]?.getD undef = .int .i64 (pickI x.d 30) := by rw [← Array.getD_eq_getD_getElem?]; exact hd 12 (by kernel_rfl) _ rfl
      refine ⟨by rfl, ?_⟩
      go_simp
      exact ⟨_, rfl, Below.refl _ _, congrArg (Value.int .i64) (unhide HWD)⟩
    · intro _ a w9 hA hb hd
      have d5 : a.tmps[49]?.getD undef = .string T := by rw [← Array.getD_eq_getD_getElem?]; exact hd 5 (by kernel_rfl) _ rfl
      have d9 : a.tmps[53]?.getD undef = .int .i64 (pickI x.c 12 - 1) := by rw [← Array.getD_eq_getD_getElem?]; exact hd 9 (by kernel_rfl) _ rfl
      have d13 : a.tmps[57]?.getD undef = .int .i64 (pickI x.d 30 - 1) := by rw [← Array.getD_eq_getD_getElem?]; exact hd 13 (by kernel_rfl) _ rfl
      refine ⟨by rfl, ?_⟩
      go_simp
      exact ⟨_, rfl, Below.refl _ _, rfl⟩
    · intro _ a w9 hA hb hd
      have t5 : a.tmps.getD 5 undef = .pointer (some ⟨w.heap.size + 1 + 1 + 1, 0, none⟩) := hA 5 rfl
      refine ⟨by rfl, ?_⟩
      go_simp
      exact ⟨_, rfl, Below.refl _ _, rfl⟩
    · intro h
      exact absurd h (by decide)
  · intro a w9 ha hb hF
    have f14 : a.tmps.getD 58 undef = .agg #[.string T, .int .i64 (pickI x.c 12 - 1), .int .i64 (pickI x.d 30 - 1)] := hF 14 _ (by decide) rfl
    have f15 : a.tmps.getD 59 undef = .pointer (some ⟨w.heap.size + 1 + 1 + 1, 5, none⟩) := hF 15 _ (by decide) rfl
    have HR9 := hide ((unhide HRR3).up hb)
    refine ⟨by rfl, ?_⟩
    obtain ⟨v44, h44⟩ : ∃ v, a.tmps.getD 44 undef = v := ⟨_, rfl⟩
    obtain ⟨v45, h45⟩ : ∃ v, a.tmps.getD 45 undef = v := ⟨_, rfl⟩
    obtain ⟨v46, h46⟩ : ∃ v, a.tmps.getD 46 undef = v := ⟨_, rfl⟩
    obtain ⟨v47, h47⟩ : ∃ v, a.tmps.getD 47 undef = v := ⟨_, rfl⟩
    obtain ⟨v48, h48⟩ : ∃ v, a.tmps.getD 48 undef = v := ⟨_, rfl⟩
    obtain ⟨v49, h49⟩ : ∃ v, a.tmps.getD 49 undef = v := ⟨_, rfl⟩
    obtain ⟨v50, h50⟩ : ∃ v, a.tmps.getD 50 undef = v := ⟨_, rfl⟩
    obtain ⟨v51, h51⟩ : ∃ v, a.tmps.getD 51 undef = v := ⟨_, rfl⟩
    obtain ⟨v52, h52⟩ : ∃ v, a.tmps.getD 52 undef = v := ⟨_, rfl⟩
    obtain ⟨v53, h53⟩ : ∃ v, a.tmps.getD 53 undef = v := ⟨_, rfl⟩
    obtain ⟨v54, h54⟩ : ∃ v, a.tmps.getD 54 undef = v := ⟨_, rfl⟩
    obtain ⟨v55, h55⟩ : ∃ v, a.tmps.getD 55 undef = v := ⟨_, rfl⟩
    obtain ⟨v56, h56⟩ : ∃ v, a.tmps.getD 56 undef = v := ⟨_, rfl⟩
    obtain ⟨v57, h57⟩ : ∃ v, a.tmps.getD 57 undef = v := ⟨_, rfl⟩
    simp only [List.take_succ_cons, List.take_zero, List.filterMap_cons, List.filterMap_nil, List.foldl_cons, List.foldl_nil, f14, f15, h44, h45, h46, h47, h48, h49, h50, h51, h52, h53, h54, h55, h56, h57, List.setIfInBounds_toArray, List.set_cons_succ, List.set_cons_zero] at ha
    rw [ha]
    clear ha hF f14 f15 h44 h45 h46 h47 h48 h49 h50 h51 h52 h53 h54 h55 h56 h57
    have q5 := cell_of (unhide HR9).r3 5 rfl
    have q6 := cell_of (unhide HR9).r3 6 rfl
    have q7 := cell_of (unhide HR9).r3 7 rfl
    have qf := fun j => fz_of (unhide HR9).r3 j
    have ql := (unhide HR9).lt
    go_simp
    have HF := hide (RR.set (c' := rcA { rcN 3 with nam := nmB x.a, pre := T, fre := pickI x.c 12 - 1, dro := pickI x.d 30 - 1 } nl nl nl) (RR.set (c' := rcA { rcN 3 with nam := nmB x.a, pre := T, fre := pickI x.c 12 - 1 } nl nl nl) (RR.set (c' := rcA { rcN 3 with nam := nmB x.a, pre := T } nl nl nl) (unhide HR9) 5 (.string T) rfl) 6 (.int .i64 (pickI x.c 12 - 1)) rfl) 7 (.int .i64 (pickI x.d 30 - 1)) rfl)
    clear q5 q6 q7 qf ql
    have k9 := cell_of (unhide HF).r3 0 rfl
    go_upto_region 50 with fail
    have hP := (unhide HF).r3
    have hR := (unhide HF).r2
    have hbl := (unhide HF).bl
    refine wp_region_lit ?_
    refine wpList_load_mid rfl 47 (.tmp 5) rfl (w.heap.size + 1 + 1 + 1) 0 rfl (rcA ({ rcN 3 with nam := nmB x.a, pre := T, fre := pickI x.c 12 - 1, dro := pickI x.d 30 - 1 }) nl nl nl).toList _ (fun j v hv => by rw [Nat.zero_add]; exact cell_of hP j (by simpa using hv)) Tryz.underlying47 rfl (by kernel_rfl) ?_
    refine wpList_store_mid rfl 47 (.tmp 4) (.tmp 217) rfl (w.heap.size + 1 + 1) 0 (rcA ({ rcN 3 with nam := nmB x.a, pre := T, fre := pickI x.c 12 - 1, dro := pickI x.d 30 - 1 }) nl nl nl) rfl rfl (there_of (c := rcA (rcN 0) nl nl nl) (t := 47) hR) (by kernel_rfl) (by simp [Value.oneCell']) ?_
    have hrr := rec_end (c' := (rcA ({ rcN 3 with nam := nmB x.a, pre := T, fre := pickI x.c 12 - 1, dro := pickI x.d 30 - 1 }) nl nl nl)) hR rfl
    revert hrr
    generalize World.setCells _ (w.heap.size + 1 + 1) 0 _ = W9
    intro hrr
    obtain ⟨r9, hg9⟩ := hrr
    clear hP hR
    go_wp2
    refine bodyPost_ret (v := rcV ({ rcN 3 with nam := nmB x.a, pre := T, fre := pickI x.c 12 - 1, dro := pickI x.d 30 - 1 }) nl nl nl) (rec_res r9 rfl rfl) rfl ⟨nl, nl, nl, by rw [unhide HQ], ?_, ?_⟩
    · rw [unhide HQ]
      exact ⟨Ints.nil9 _, Ints.nil9 _, Ints.nil9 _⟩
    · exact bl_tr hbl (gb_lo hg9 (by have := hbl.size; omega) (fun j e => by injection e with e; omega))
end Go.Proofs.YtdgmdapijhbocaaGreat

/- icehousekeep.Record, kind by kind. -/
namespace Go.Proofs.YtdgmdapijhbocaaGreat
open Go.RowKit Go.Maps
set_option maxRecDepth 100000
set_option linter.unusedVariables false
set_option linter.unusedSimpArgs false
set_option maxHeartbeats 2000000 in
theorem record_3A (S : St) (b v u q g : Value) (x : Rw) (w : World) (hS : Sta w b v u q g S) (hc : stC S = true) (hx : WfW x) (hk : pickI x.kind 14 = 3) (hm : pickI x.d 5 = 0) :
    Calls Tryz.prog 25 #[stV S b v u q g, rwV x] w fun e w' => ∃ vv pv sv, e = .returned (rcV (recR S x) vv pv sv) ∧ RcI w' (recR S x) vv pv sv ∧ Below w.heap.size w w' := by
  have HS := hide hS
  obtain ⟨hk0, ha0, hb0, hc0, hd0⟩ := hx
  have HQ : Hid (recR S x = { rcN 4 with ver := verR S x }) := by show _ = _; unfold recR; simp [hk]
  obtain ⟨Q, hQ⟩ : ∃ Q, recR S x = Q := ⟨_, rfl⟩
  rw [hQ] at HQ ⊢
  clear hQ hS
  have HK : Hid (∀ W : World, Calls Tryz.prog 10 #[.int .i64 x.kind, .int .i64 14] W fun e w' => e = .returned (.int .i64 3) ∧ W = w') := fun W => by
    have := picked_any x.kind 14 W (by decide) (by decide) hk0.1 hk0.2
    rw [hk] at this; exact this
  clear hk
  go_enter Tryz.func25, Tryz.ntmps25
  go_wp2_with fail
  refine (unhide HK _).mono ?_
  rintro e w1 ⟨rfl, rfl⟩
  simp only []
  rename_i hK0
  refine hK0 _ _ ?_
  clear hK0
  refine wpList_plain rfl (fun K hK => ?_)
  go_simp
  refine hK _ _ ?_
  clear hK
  refine wpList_plain rfl (fun K hK => ?_)
  go_simp
  refine hK _ _ ?_
  clear hK
  refine wpList_plain rfl (fun K hK => ?_)
  go_simp
  refine hK _ _ ?_
  clear hK
  rw [show IntKind.wrap .i64 4 = 4 by decide]
  refine wpList_store_mid rfl 47 (.tmp 5) (.tmp 14) rfl (w.heap.size + 1 + 1 + 1) 0 (rcA (rcN 4) nl nl nl) rfl rfl (there_of (c := rcA (rcN 0) nl nl nl) (t := 47) (rec_new _ _ _ _ _)) (by kernel_rfl) (by simp [Value.oneCell']) ?_
  generalize hWW : World.setCells _ (w.heap.size + 1 + 1 + 1) 0 _ = W1
  have hrr : W1.heap[w.heap.size]? = some (.cells #[.int .i64 S.next, .int .i64 S.clock, b, v, u, q, g] 29 (0, 0)) ∧ W1.heap[w.heap.size + 1]? = some (.cells #[.int .i64 x.kind, .int .i64 x.a, .int .i64 x.b, .int .i64 x.c, .int .i64 x.d, .string x.text] 72 (0, 0)) ∧ W1.heap[w.heap.size + 1 + 1]? = some (.cells (rcA (rcN 0) nl nl nl) 47 (0, 0)) ∧ W1.heap[w.heap.size + 1 + 1 + 1]? = some (.cells (rcA (rcN 4) nl nl nl) 47 (0, 0)) ∧ Below w.heap.size w W1 := by
    rw [← hWW]
    exact rec_rows w (.cells #[.int .i64 S.next, .int .i64 S.clock, b, v, u, q, g] 29) (.cells #[.int .i64 x.kind, .int .i64 x.a, .int .i64 x.b, .int .i64 x.c, .int .i64 x.d, .string x.text] 72) (.cells (rcA (rcN 0) nl nl nl) 47) (rcA (rcN 0) nl nl nl) (rcA (rcN 4) nl nl nl) rfl
  clear hWW
  obtain ⟨r0, r1, r2, r3, hw1⟩ := hrr
  have hVR : verR S x = ⟨S.next, nmB x.a, kyB x.b, pickI x.d 3 == 0, true, 0, pickI x.c (S.clock + 1), 0, [], 0, 0, 0⟩ := by unfold verR; rw [if_pos hm]
  have hfew := few_of hc
  have hf0 := hfew.c0
  have hf1 := hfew.c1
  clear hfew
  have HCP : Hid (∀ W : World, Calls Tryz.prog 10 #[.int .i64 x.c, .int .i64 (S.clock + 1)] W fun e w' => e = .returned (.int .i64 (pickI x.c (S.clock + 1))) ∧ W = w') := fun W => picked_any x.c (S.clock + 1) W (by omega) (by omega) hc0.1 hc0.2
  have HCQ : Hid (∀ W : World, Calls Tryz.prog 10 #[.int .i64 x.c, .int .i64 (IntKind.i64.wrap (S.clock + 1))] W fun e w' => e = .returned (.int .i64 (pickI x.c (S.clock + 1))) ∧ W = w') := fun W => by
    rw [Go.IntWalk.i64_in (S.clock + 1) (by omega)]
    exact unhide HCP W
  obtain ⟨M, hM⟩ : ∃ M, pickI x.d 5 = M := ⟨_, rfl⟩
  have HMP : Hid (∀ W : World, Calls Tryz.prog 10 #[.int .i64 x.d, .int .i64 5] W fun e w' => e = .returned (.int .i64 M) ∧ W = w') := fun W => by
    have := picked_any x.d 5 W (by decide) (by decide) hd0.1 hd0.2
    rw [hM] at this; exact this
  rw [hM] at hm
  clear hM
  have HVR := hide hVR
  clear hVR
  subst hm
  have HRR0 : Hid (RR w W1 #[.int .i64 S.next, .int .i64 S.clock, b, v, u, q, g] x (rcA (rcN 4) nl nl nl)) := ⟨r0, r1, r2, r3, hw1⟩
  have k0 : W1.cell? ⟨w.heap.size + 1 + 1 + 1, 0, none⟩ = some (.int .i64 4) := cell_of r3 0 rfl
  clear r0 r1 r2 r3
  have xa0_0 := cell_of (unhide HRR0).r1 0 rfl
  have xa1_0 := cell_of (unhide HRR0).r1 1 rfl
  have xa2_0 := cell_of (unhide HRR0).r1 2 rfl
  have xa3_0 := cell_of (unhide HRR0).r1 3 rfl
  have xa4_0 := cell_of (unhide HRR0).r1 4 rfl
  have sa0_0 := cell_of (unhide HRR0).r0 0 rfl
  have sa1_0 := cell_of (unhide HRR0).r0 1 rfl
  have sa2_0 := cell_of (unhide HRR0).r0 2 rfl
  have sa3_0 := cell_of (unhide HRR0).r0 3 rfl
  have sa4_0 := cell_of (unhide HRR0).r0 4 rfl
  have sa5_0 := cell_of (unhide HRR0).r0 5 rfl
  have sa6_0 := cell_of (unhide HRR0).r0 6 rfl
  have pa1_0 := cell_of (unhide HRR0).r3 1 rfl
  have pa2_0 := cell_of (unhide HRR0).r3 2 rfl
  have pa3_0 := cell_of (unhide HRR0).r3 3 rfl
  have pa4_0 := cell_of (unhide HRR0).r3 4 rfl
  have pa27_0 := cell_of (unhide HRR0).r3 27 rfl
  have pa28_0 := cell_of (unhide HRR0).r3 28 rfl
  have pf0 := fun j => fz_of (unhide HRR0).r3 j
  have pl0 := (unhide HRR0).lt
  have ql0 := (unhide HRR0).lt0
  have qm0 := (unhide HRR0).lt1
  have KZ : Hid (∀ (W' : World) (c : Array Value), RR w W' #[.int .i64 S.next, .int .i64 S.clock, b, v, u, q, g] x c → (W'.cell? ⟨w.heap.size, 0, none⟩ = some (.int .i64 S.next) ∧ W'.cell? ⟨w.heap.size, 1, none⟩ = some (.int .i64 S.clock) ∧ W'.cell? ⟨w.heap.size, 2, none⟩ = some (b) ∧ W'.cell? ⟨w.heap.size, 3, none⟩ = some (v) ∧ W'.cell? ⟨w.heap.size, 4, none⟩ = some (u) ∧ W'.cell? ⟨w.heap.size, 5, none⟩ = some (q) ∧ W'.cell? ⟨w.heap.size, 6, none⟩ = some (g) ∧ W'.cell? ⟨w.heap.size + 1, 0, none⟩ = some (.int .i64 x.kind) ∧ W'.cell? ⟨w.heap.size + 1, 1, none⟩ = some (.int .i64 x.a) ∧ W'.cell? ⟨w.heap.size + 1, 2, none⟩ = some (.int .i64 x.b) ∧ W'.cell? ⟨w.heap.size + 1, 3, none⟩ = some (.int .i64 x.c) ∧ W'.cell? ⟨w.heap.size + 1, 4, none⟩ = some (.int .i64 x.d))) := fun W' c h => ⟨cell_of h.r0 0 rfl, cell_of h.r0 1 rfl, cell_of h.r0 2 rfl, cell_of h.r0 3 rfl, cell_of h.r0 4 rfl, cell_of h.r0 5 rfl, cell_of h.r0 6 rfl, cell_of h.r1 0 rfl, cell_of h.r1 1 rfl, cell_of h.r1 2 rfl, cell_of h.r1 3 rfl, cell_of h.r1 4 rfl⟩
  have hlo2 := pickI_lo x.c (m := 200) (by decide)
  have hhi2 := pickI_hi x.c (m := 200) (by decide)
  have hS0 := unhide KZ _ _ (RR.drew (unhide HRR0))
  go_upto_region 14 with (first
    | (with_reducible refine (picked_any x.c 200 _ (by decide) (by decide) hc0.1 hc0.2).mono ?_; rintro e w3 ⟨rfl, rfl⟩)
    | fail)
  go_region_held3 (fun W' => W'.cell? ⟨w.heap.size, 0, none⟩ = some (.int .i64 S.next) ∧ W'.cell? ⟨w.heap.size, 1, none⟩ = some (.int .i64 S.clock) ∧ W'.cell? ⟨w.heap.size, 2, none⟩ = some (b) ∧ W'.cell? ⟨w.heap.size, 3, none⟩ = some (v) ∧ W'.cell? ⟨w.heap.size, 4, none⟩ = some (u) ∧ W'.cell? ⟨w.heap.size, 5, none⟩ = some (q) ∧ W'.cell? ⟨w.heap.size, 6, none⟩ = some (g) ∧ W'.cell? ⟨w.heap.size + 1, 0, none⟩ = some (.int .i64 x.kind) ∧ W'.cell? ⟨w.heap.size + 1, 1, none⟩ = some (.int .i64 x.a) ∧ W'.cell? ⟨w.heap.size + 1, 2, none⟩ = some (.int .i64 x.b) ∧ W'.cell? ⟨w.heap.size + 1, 3, none⟩ = some (.int .i64 x.c) ∧ W'.cell? ⟨w.heap.size + 1, 4, none⟩ = some (.int .i64 x.d))
    (first | with_reducible exact hS0 | with_reducible exact hS2 | with_reducible exact hS3 | with_reducible exact hS4 | fail)
    (first
      | (go_at_call 18; refine (name_any x.a _ ha0.1 ha0.2).mono ?_; rintro e w2 ⟨rfl, b2⟩; have HRR2 := hide (RR.up (RR.drew (unhide HRR0)) b2); have hS2 := unhide KZ _ _ (unhide HRR2))
      | (go_at_call 19; refine (key_any x.b _ hb0.1 hb0.2).mono ?_; rintro e w3 ⟨rfl, b3⟩; have HRR3 := hide (RR.up (unhide HRR2) b3); have hS3 := unhide KZ _ _ (unhide HRR3); have y8 := cell_of (unhide HRR3).r3 8 rfl; have y9 := cell_of (unhide HRR3).r3 9 rfl; have y10 := cell_of (unhide HRR3).r3 10 rfl; have y11 := cell_of (unhide HRR3).r3 11 rfl; have y12 := cell_of (unhide HRR3).r3 12 rfl; have y13 := cell_of (unhide HRR3).r3 13 rfl; have y14 := cell_of (unhide HRR3).r3 14 rfl; have y15 := cell_of (unhide HRR3).r3 15 rfl; have y16 := cell_of (unhide HRR3).r3 16 rfl; have y17 := cell_of (unhide HRR3).r3 17 rfl; have y18 := cell_of (unhide HRR3).r3 18 rfl; have y19 := cell_of (unhide HRR3).r3 19 rfl; have yf := fun j => fz_of (unhide HRR3).r3 j; have yl := (unhide HRR3).lt; have yl0 := (unhide HRR3).lt0; have yl1 := (unhide HRR3).lt1; have HRR4 := hide (RR.set (c' := rcA { rcN 4 with ver := ⟨S.next, nmB x.a, kyB x.b, pickI x.d 3 == 0, false, 0, pickI x.c (S.clock + 1), 0, [], 0, 0, 0⟩ } nl nl nl) (RR.set (c' := #[.int .i64 4, .int .i64 0, .int .i64 0, .string em, .string em, .string em, .int .i64 0, .int .i64 0, .int .i64 S.next, .string (nmB x.a), .string (kyB x.b), .bool (pickI x.d 3 == 0), .bool false, .int .i64 0, .int .i64 (pickI x.c (S.clock + 1)), .int .i64 0, .slice none 0 0, .int .i64 0, .int .i64 0, .int .i64 0, .int .i64 0, .int .i64 0, .int .i64 0, .int .i64 0, .int .i64 0, nl, nl, .int .i64 0, .int .i64 0]) (RR.set (c' := #[.int .i64 4, .int .i64 0, .int .i64 0, .string em, .string em, .string em, .int .i64 0, .int .i64 0, .int .i64 S.next, .string (nmB x.a), .string (kyB x.b), .bool (pickI x.d 3 == 0), .bool false, .int .i64 0, .int .i64 (pickI x.c (S.clock + 1)), .int .i64 0, .slice none 0 0, .int .i64 0, .int .i64 0, .int .i64 0, .int .i64 0, .int .i64 0, .int .i64 0, .int .i64 0, .int .i64 0, nl, nl, .int .i64 0, .int .i64 0]) (RR.set (c' := #[.int .i64 4, .int .i64 0, .int .i64 0, .string em, .string em, .string em, .int .i64 0, .int .i64 0, .int .i64 S.next, .string (nmB x.a), .string (kyB x.b), .bool (pickI x.d 3 == 0), .bool false, .int .i64 0, .int .i64 (pickI x.c (S.clock + 1)), .int .i64 0, .slice none 0 0, .int .i64 0, .int .i64 0, .int .i64 0, .int .i64 0, .int .i64 0, .int .i64 0, .int .i64 0, .int .i64 0, nl, nl, .int .i64 0, .int .i64 0]) (RR.set (c' := #[.int .i64 4, .int .i64 0, .int .i64 0, .string em, .string em, .string em, .int .i64 0, .int .i64 0, .int .i64 S.next, .string (nmB x.a), .string (kyB x.b), .bool (pickI x.d 3 == 0), .bool false, .int .i64 0, .int .i64 (pickI x.c (S.clock + 1)), .int .i64 0, nl, .int .i64 0, .int .i64 0, .int .i64 0, .int .i64 0, .int .i64 0, .int .i64 0, .int .i64 0, .int .i64 0, nl, nl, .int .i64 0, .int .i64 0]) (RR.set (c' := #[.int .i64 4, .int .i64 0, .int .i64 0, .string em, .string em, .string em, .int .i64 0, .int .i64 0, .int .i64 S.next, .string (nmB x.a), .string (kyB x.b), .bool (pickI x.d 3 == 0), .bool false, .int .i64 0, .int .i64 (pickI x.c (S.clock + 1)), .int .i64 0, nl, .int .i64 0, .int .i64 0, .int .i64 0, .int .i64 0, .int .i64 0, .int .i64 0, .int .i64 0, .int .i64 0, nl, nl, .int .i64 0, .int .i64 0]) (RR.set (c' := #[.int .i64 4, .int .i64 0, .int .i64 0, .string em, .string em, .string em, .int .i64 0, .int .i64 0, .int .i64 S.next, .string (nmB x.a), .string (kyB x.b), .bool (pickI x.d 3 == 0), .bool false, .int .i64 0, .int .i64 0, .int .i64 0, nl, .int .i64 0, .int .i64 0, .int .i64 0, .int .i64 0, .int .i64 0, .int .i64 0, .int .i64 0, .int .i64 0, nl, nl, .int .i64 0, .int .i64 0]) (RR.set (c' := #[.int .i64 4, .int .i64 0, .int .i64 0, .string em, .string em, .string em, .int .i64 0, .int .i64 0, .int .i64 S.next, .string (nmB x.a), .string (kyB x.b), .bool (pickI x.d 3 == 0), .bool false, .int .i64 0, .int .i64 0, .int .i64 0, nl, .int .i64 0, .int .i64 0, .int .i64 0, .int .i64 0, .int .i64 0, .int .i64 0, .int .i64 0, .int .i64 0, nl, nl, .int .i64 0, .int .i64 0]) (RR.set (c' := #[.int .i64 4, .int .i64 0, .int .i64 0, .string em, .string em, .string em, .int .i64 0, .int .i64 0, .int .i64 S.next, .string (nmB x.a), .string (kyB x.b), .bool (pickI x.d 3 == 0), .bool false, .int .i64 0, .int .i64 0, .int .i64 0, nl, .int .i64 0, .int .i64 0, .int .i64 0, .int .i64 0, .int .i64 0, .int .i64 0, .int .i64 0, .int .i64 0, nl, nl, .int .i64 0, .int .i64 0]) (RR.set (c' := #[.int .i64 4, .int .i64 0, .int .i64 0, .string em, .string em, .string em, .int .i64 0, .int .i64 0, .int .i64 S.next, .string (nmB x.a), .string (kyB x.b), .bool false, .bool false, .int .i64 0, .int .i64 0, .int .i64 0, nl, .int .i64 0, .int .i64 0, .int .i64 0, .int .i64 0, .int .i64 0, .int .i64 0, .int .i64 0, .int .i64 0, nl, nl, .int .i64 0, .int .i64 0]) (RR.set (c' := #[.int .i64 4, .int .i64 0, .int .i64 0, .string em, .string em, .string em, .int .i64 0, .int .i64 0, .int .i64 S.next, .string (nmB x.a), .string em, .bool false, .bool false, .int .i64 0, .int .i64 0, .int .i64 0, nl, .int .i64 0, .int .i64 0, .int .i64 0, .int .i64 0, .int .i64 0, .int .i64 0, .int .i64 0, .int .i64 0, nl, nl, .int .i64 0, .int .i64 0]) (RR.set (c' := #[.int .i64 4, .int .i64 0, .int .i64 0, .string em, .string em, .string em, .int .i64 0, .int .i64 0, .int .i64 S.next, .string em, .string em, .bool false, .bool false, .int .i64 0, .int .i64 0, .int .i64 0, nl, .int .i64 0, .int .i64 0, .int .i64 0, .int .i64 0, .int .i64 0, .int .i64 0, .int .i64 0, .int .i64 0, nl, nl, .int .i64 0, .int .i64 0]) (unhide HRR3) 8 (.int .i64 S.next) rfl) 9 (.string (nmB x.a)) rfl) 10 (.string (kyB x.b)) rfl) 11 (.bool (pickI x.d 3 == 0)) rfl) 12 (.bool false) rfl) 13 (.int .i64 0) rfl) 14 (.int .i64 (pickI x.c (S.clock + 1))) rfl) 15 (.int .i64 0) rfl) 16 (.slice none 0 0) rfl) 17 (.int .i64 0) rfl) 18 (.int .i64 0) rfl) 19 (.int .i64 0) rfl); have hS4 := unhide KZ _ _ (unhide HRR4))
      | (go_at_call 10; with_reducible refine (picked_any x.d 3 _ (by decide) (by decide) hd0.1 hd0.2).mono ?_; rintro e w4 ⟨rfl, rfl⟩)
      | (go_at_call 10; with_reducible refine (unhide HCP _).mono ?_; rintro e w4 ⟨rfl, rfl⟩)
      | (go_at_call 10; with_reducible refine (unhide HCQ _).mono ?_; rintro e w4 ⟨rfl, rfl⟩)
      | fail)
  all_goals (
    clear y8 y9 y10 y11 y12 y13 y14 y15 y16 y17 y18 y19 yf hS4 hS3 hS2 hS0
    have xa0_4 := cell_of (unhide HRR4).r1 0 rfl
    have xa1_4 := cell_of (unhide HRR4).r1 1 rfl
    have xa2_4 := cell_of (unhide HRR4).r1 2 rfl
    have xa3_4 := cell_of (unhide HRR4).r1 3 rfl
    have xa4_4 := cell_of (unhide HRR4).r1 4 rfl
    have sa0_4 := cell_of (unhide HRR4).r0 0 rfl
    have sa1_4 := cell_of (unhide HRR4).r0 1 rfl
    have sa2_4 := cell_of (unhide HRR4).r0 2 rfl
    have sa3_4 := cell_of (unhide HRR4).r0 3 rfl
    have sa4_4 := cell_of (unhide HRR4).r0 4 rfl
    have sa5_4 := cell_of (unhide HRR4).r0 5 rfl
    have sa6_4 := cell_of (unhide HRR4).r0 6 rfl
    have pa1_4 := cell_of (unhide HRR4).r3 1 rfl
    have pa2_4 := cell_of (unhide HRR4).r3 2 rfl
    have pa3_4 := cell_of (unhide HRR4).r3 3 rfl
    have pa4_4 := cell_of (unhide HRR4).r3 4 rfl
    have pa27_4 := cell_of (unhide HRR4).r3 27 rfl
    have pa28_4 := cell_of (unhide HRR4).r3 28 rfl
    have pf4 := fun j => fz_of (unhide HRR4).r3 j
    have pl4 := (unhide HRR4).lt
    have ql4 := (unhide HRR4).lt0
    have qm4 := (unhide HRR4).lt1
    have pv12_4 := cell_of (unhide HRR4).r3 12 rfl
    have pv13_4 := cell_of (unhide HRR4).r3 13 rfl
    have pv15_4 := cell_of (unhide HRR4).r3 15 rfl
    have pv16_4 := cell_of (unhide HRR4).r3 16 rfl
    go_upto_region 50 with (first
      | (with_reducible refine (unhide HMP _).mono ?_; rintro e w5 ⟨rfl, rfl⟩)
      | fail)
    have HF := hide (RR.set (c' := rcA { rcN 4 with ver := verR S x } nl nl nl) (unhide HRR4) 12 (.bool true) (by rw [unhide HVR]; rfl))
    have hP := (unhide HF).r3
    have hR := (unhide HF).r2
    have hbl := (unhide HF).bl
    refine wp_region_lit ?_
    refine wpList_load_mid rfl 47 (.tmp 5) rfl (w.heap.size + 1 + 1 + 1) 0 rfl (rcA ({ rcN 4 with ver := verR S x }) nl nl nl).toList _ (fun j v hv => by rw [Nat.zero_add]; exact cell_of hP j (by simpa using hv)) Tryz.underlying47 rfl (by kernel_rfl) ?_
    refine wpList_store_mid rfl 47 (.tmp 4) (.tmp 217) rfl (w.heap.size + 1 + 1) 0 (rcA ({ rcN 4 with ver := verR S x }) nl nl nl) rfl rfl (there_of (c := rcA (rcN 0) nl nl nl) (t := 47) hR) (by kernel_rfl) (by simp [Value.oneCell']) ?_
    have hrr := rec_end (c' := (rcA ({ rcN 4 with ver := verR S x }) nl nl nl)) hR rfl
    revert hrr
    generalize World.setCells _ (w.heap.size + 1 + 1) 0 _ = W9
    intro hrr
    obtain ⟨r9, hg9⟩ := hrr
    clear hP hR
    go_wp2
    refine bodyPost_ret (v := rcV ({ rcN 4 with ver := verR S x }) nl nl nl) (rec_res r9 rfl rfl) rfl ⟨nl, nl, nl, by rw [unhide HQ], ?_, ?_⟩
    · rw [unhide HQ]
      exact ⟨by rw [unhide HVR]; exact Ints.nil9 _, Ints.nil9 _, Ints.nil9 _⟩
    · exact bl_tr hbl (gb_lo hg9 (by have := hbl.size; omega) (fun j e => by injection e with e; omega)))
end Go.Proofs.YtdgmdapijhbocaaGreat

/- Lists of numbers that stay, whatever is written to older blocks. -/
namespace Go.Proofs.YtdgmdapijhbocaaGreat
open Go.RowKit Go.Maps
set_option linter.unusedVariables false
set_option linter.unusedSimpArgs false
def Kpt (w : World) (B : Nat) (v : Value) (xs : List Int) : Prop := ∀ W, Agr w W B none → Ints W v xs
theorem Kpt.ints {w : World} {B : Nat} {v : Value} {xs : List Int} (h : Kpt w B v xs) : Ints w v xs := h w fun _ _ _ _ => rfl
theorem Kpt.next {w w' : World} {B j : Nat} {v : Value} {xs : List Int} (h : Kpt w B v xs) (hg : w.grownBy w' (some j)) (hj : j < B) : Kpt w' B v xs := fun W ha => h W fun k h1 h2 _ => by
  rw [ha k h1 (Nat.lt_of_lt_of_le h2 hg.size) (by simp)]
  exact hg.block k h2 (fun e => by injection e with e; omega)
theorem Kpt.up {w w' : World} {B : Nat} {v : Value} {xs : List Int} (h : Kpt w B v xs) (hb : Below w.heap.size w w') : Kpt w' B v xs := fun W ha => h W fun k h1 h2 _ => by
  rw [ha k h1 (Nat.lt_of_lt_of_le h2 hb.size) (by simp)]
  exact hb.block k h2
theorem Kpt.lo {w : World} {B B' : Nat} {v : Value} {xs : List Int} (h : Kpt w B v xs) (hB : B' ≤ B) : Kpt w B' v xs := fun W ha => h W fun k h1 h2 h3 => ha k (by omega) h2 h3
theorem Kpt.nil (w : World) (B : Nat) : Kpt w B (.slice none 0 0) [] := fun W _ => Ints.nil9 W
theorem veC_size {S : St} {x : Ve} (h : veC S x = true) : 0 ≤ x.size ∧ x.size ≤ 600 := by
  unfold veC at h
  simp only [Bool.and_eq_true] at h
  obtain ⟨_, h⟩ := h
  split at h
  · simp only [Bool.and_eq_true, beq_iff_eq] at h
    have := h.1.1.1.1
    omega
  · simp only [Bool.and_eq_true] at h
    exact inB_t h.1
end Go.Proofs.YtdgmdapijhbocaaGreat
