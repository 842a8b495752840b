/- icehousekeep.Record, kind by kind. -/
import Derived.Test.YtdgmdapijhbocaaGreatG17
namespace Go.Proofs.YtdgmdapijhbocaaGreat
open Go.RowKit Go.Maps
set_option maxRecDepth 100000
set_option linter.unusedVariables false
set_option linter.unusedSimpArgs false
set_option maxHeartbeats 2000000 in
theorem record_0 (S : St) (b v u q g : Value) (x : Rw) (w : World) (hS : Sta w b v u q g S) (hc : stC S = true) (hx : WfW x) (hk : pickI x.kind 14 = 0) :
    Calls Tryz.prog 25 #[stV S b v u q g, rwV x] w fun e w' => ∃ vv pv sv, e = .returned (rcV (recR S x) vv pv sv) ∧ RcI w' (recR S x) vv pv sv ∧ Below w.heap.size w w' := by
  have HS := hide hS
  obtain ⟨hk0, ha0, hb0, hc0, hd0⟩ := hx
  have HQ : Hid (recR S x = { rcN 1 with nam := nmB x.a }) := by show _ = _; unfold recR; simp [hk]
  obtain ⟨Q, hQ⟩ : ∃ Q, recR S x = Q := ⟨_, rfl⟩
  rw [hQ] at HQ ⊢
  clear hQ hS
  have HK : Hid (∀ W : World, Calls Tryz.prog 10 #[.int .i64 x.kind, .int .i64 14] W fun e w' => e = .returned (.int .i64 0) ∧ W = w') := fun W => by
    have := picked_any x.kind 14 W (by decide) (by decide) hk0.1 hk0.2
    rw [hk] at this; exact this
  clear hk
  go_enter Tryz.func25, Tryz.ntmps25
  go_wp2_with fail
  refine (unhide HK _).mono ?_
  rintro e w1 ⟨rfl, rfl⟩
  simp only []
  rename_i hK0
  refine hK0 _ _ ?_
  clear hK0
  refine wpList_plain rfl (fun K hK => ?_)
  go_simp
  refine hK _ _ ?_
  clear hK
  refine wpList_plain rfl (fun K hK => ?_)
  go_simp
  refine hK _ _ ?_
  clear hK
  refine wpList_plain rfl (fun K hK => ?_)
  go_simp
  refine hK _ _ ?_
  clear hK
  rw [show IntKind.wrap .i64 1 = 1 by decide]
  refine wpList_store_mid rfl 47 (.tmp 5) (.tmp 14) rfl (w.heap.size + 1 + 1 + 1) 0 (rcA (rcN 1) nl nl nl) rfl rfl (there_of (c := rcA (rcN 0) nl nl nl) (t := 47) (rec_new _ _ _ _ _)) (by kernel_rfl) (by simp [Value.oneCell']) ?_
  generalize hWW : World.setCells _ (w.heap.size + 1 + 1 + 1) 0 _ = W1
  have hrr : W1.heap[w.heap.size]? = some (.cells #[.int .i64 S.next, .int .i64 S.clock, b, v, u, q, g] 29 (0, 0)) ∧ W1.heap[w.heap.size + 1]? = some (.cells #[.int .i64 x.kind, .int .i64 x.a, .int .i64 x.b, .int .i64 x.c, .int .i64 x.d, .string x.text] 72 (0, 0)) ∧ W1.heap[w.heap.size + 1 + 1]? = some (.cells (rcA (rcN 0) nl nl nl) 47 (0, 0)) ∧ W1.heap[w.heap.size + 1 + 1 + 1]? = some (.cells (rcA (rcN 1) nl nl nl) 47 (0, 0)) ∧ Below w.heap.size w W1 := by
    rw [← hWW]
    exact rec_rows w (.cells #[.int .i64 S.next, .int .i64 S.clock, b, v, u, q, g] 29) (.cells #[.int .i64 x.kind, .int .i64 x.a, .int .i64 x.b, .int .i64 x.c, .int .i64 x.d, .string x.text] 72) (.cells (rcA (rcN 0) nl nl nl) 47) (rcA (rcN 0) nl nl nl) (rcA (rcN 1) nl nl nl) rfl
  clear hWW
  obtain ⟨r0, r1, r2, r3, hw1⟩ := hrr
  have HRR0 : Hid (RR w W1 #[.int .i64 S.next, .int .i64 S.clock, b, v, u, q, g] x (rcA (rcN 1) nl nl nl)) := ⟨r0, r1, r2, r3, hw1⟩
  have k0 : W1.cell? ⟨w.heap.size + 1 + 1 + 1, 0, none⟩ = some (.int .i64 1) := cell_of r3 0 rfl
  clear r0 r1 r2 r3
  have xa0_0 := cell_of (unhide HRR0).r1 0 rfl
  have xa1_0 := cell_of (unhide HRR0).r1 1 rfl
  have xa2_0 := cell_of (unhide HRR0).r1 2 rfl
  have xa3_0 := cell_of (unhide HRR0).r1 3 rfl
  have xa4_0 := cell_of (unhide HRR0).r1 4 rfl
  have sa0_0 := cell_of (unhide HRR0).r0 0 rfl
  have sa1_0 := cell_of (unhide HRR0).r0 1 rfl
  have sa2_0 := cell_of (unhide HRR0).r0 2 rfl
  have sa3_0 := cell_of (unhide HRR0).r0 3 rfl
  have sa4_0 := cell_of (unhide HRR0).r0 4 rfl
  have sa5_0 := cell_of (unhide HRR0).r0 5 rfl
  have sa6_0 := cell_of (unhide HRR0).r0 6 rfl
  have pa1_0 := cell_of (unhide HRR0).r3 1 rfl
  have pa2_0 := cell_of (unhide HRR0).r3 2 rfl
  have pa3_0 := cell_of (unhide HRR0).r3 3 rfl
  have pa4_0 := cell_of (unhide HRR0).r3 4 rfl
  have pa27_0 := cell_of (unhide HRR0).r3 27 rfl
  have pa28_0 := cell_of (unhide HRR0).r3 28 rfl
  have pf0 := fun j => fz_of (unhide HRR0).r3 j
  have pl0 := (unhide HRR0).lt
  have ql0 := (unhide HRR0).lt0
  have qm0 := (unhide HRR0).lt1
  go_upto_region 50 with (first
    | (refine (name_any x.a _ ha0.1 ha0.2).mono ?_; rintro e w2 ⟨rfl, b2⟩; have HRR2 := hide ((unhide HRR0).up b2); have xa0_2 := cell_of (unhide HRR2).r1 0 rfl; have xa1_2 := cell_of (unhide HRR2).r1 1 rfl; have xa2_2 := cell_of (unhide HRR2).r1 2 rfl; have xa3_2 := cell_of (unhide HRR2).r1 3 rfl; have xa4_2 := cell_of (unhide HRR2).r1 4 rfl; have sa0_2 := cell_of (unhide HRR2).r0 0 rfl; have sa1_2 := cell_of (unhide HRR2).r0 1 rfl; have sa2_2 := cell_of (unhide HRR2).r0 2 rfl; have sa3_2 := cell_of (unhide HRR2).r0 3 rfl; have sa4_2 := cell_of (unhide HRR2).r0 4 rfl; have sa5_2 := cell_of (unhide HRR2).r0 5 rfl; have sa6_2 := cell_of (unhide HRR2).r0 6 rfl; have pa1_2 := cell_of (unhide HRR2).r3 1 rfl; have pa2_2 := cell_of (unhide HRR2).r3 2 rfl; have pa3_2 := cell_of (unhide HRR2).r3 3 rfl; have pa4_2 := cell_of (unhide HRR2).r3 4 rfl; have pa27_2 := cell_of (unhide HRR2).r3 27 rfl; have pa28_2 := cell_of (unhide HRR2).r3 28 rfl; have pf2 := fun j => fz_of (unhide HRR2).r3 j; have pl2 := (unhide HRR2).lt; have ql2 := (unhide HRR2).lt0; have qm2 := (unhide HRR2).lt1)
    | fail)
  have HF := hide (RR.set (c' := rcA { rcN 1 with nam := nmB x.a } nl nl nl) (unhide HRR2) 3 (.string (nmB x.a)) rfl)
  have hP := (unhide HF).r3
  have hR := (unhide HF).r2
  have hbl := (unhide HF).bl
  refine wp_region_lit ?_
  refine wpList_load_mid rfl 47 (.tmp 5) rfl (w.heap.size + 1 + 1 + 1) 0 rfl (rcA ({ rcN 1 with nam := nmB x.a }) nl nl nl).toList _ (fun j v hv => by rw [Nat.zero_add]; exact cell_of hP j (by simpa using hv)) Tryz.underlying47 rfl (by kernel_rfl) ?_
  refine wpList_store_mid rfl 47 (.tmp 4) (.tmp 217) rfl (w.heap.size + 1 + 1) 0 (rcA ({ rcN 1 with nam := nmB x.a }) nl nl nl) rfl rfl (there_of (c := rcA (rcN 0) nl nl nl) (t := 47) hR) (by kernel_rfl) (by simp [Value.oneCell']) ?_
  have hrr := rec_end (c' := (rcA ({ rcN 1 with nam := nmB x.a }) nl nl nl)) hR rfl
  revert hrr
  generalize World.setCells _ (w.heap.size + 1 + 1) 0 _ = W9
  intro hrr
  obtain ⟨r9, hg9⟩ := hrr
  clear hP hR
  go_wp2
  refine bodyPost_ret (v := rcV ({ rcN 1 with nam := nmB x.a }) nl nl nl) (rec_res r9 rfl rfl) rfl ⟨nl, nl, nl, by rw [unhide HQ], ?_, ?_⟩
  · rw [unhide HQ]
    exact ⟨Ints.nil9 _, Ints.nil9 _, Ints.nil9 _⟩
  · exact bl_tr hbl (gb_lo hg9 (by have := hbl.size; omega) (fun j e => by injection e with e; omega))
set_option maxHeartbeats 2000000 in
theorem record_1 (S : St) (b v u q g : Value) (x : Rw) (w : World) (hS : Sta w b v u q g S) (hc : stC S = true) (hx : WfW x) (hk : pickI x.kind 14 = 1) :
    Calls Tryz.prog 25 #[stV S b v u q g, rwV x] w fun e w' => ∃ vv pv sv, e = .returned (rcV (recR S x) vv pv sv) ∧ RcI w' (recR S x) vv pv sv ∧ Below w.heap.size w w' := by
  have HS := hide hS
  obtain ⟨hk0, ha0, hb0, hc0, hd0⟩ := hx
  have HQ : Hid (recR S x = { rcN 2 with nam := nmB x.a, n := 1 + pickI x.b 2 }) := by show _ = _; unfold recR; simp [hk]
  obtain ⟨Q, hQ⟩ : ∃ Q, recR S x = Q := ⟨_, rfl⟩
  rw [hQ] at HQ ⊢
  clear hQ hS
  have HK : Hid (∀ W : World, Calls Tryz.prog 10 #[.int .i64 x.kind, .int .i64 14] W fun e w' => e = .returned (.int .i64 1) ∧ W = w') := fun W => by
    have := picked_any x.kind 14 W (by decide) (by decide) hk0.1 hk0.2
    rw [hk] at this; exact this
  clear hk
  go_enter Tryz.func25, Tryz.ntmps25
  go_wp2_with fail
  refine (unhide HK _).mono ?_
  rintro e w1 ⟨rfl, rfl⟩
  simp only []
  rename_i hK0
  refine hK0 _ _ ?_
  clear hK0
  refine wpList_plain rfl (fun K hK => ?_)
  go_simp
  refine hK _ _ ?_
  clear hK
  refine wpList_plain rfl (fun K hK => ?_)
  go_simp
  refine hK _ _ ?_
  clear hK
  refine wpList_plain rfl (fun K hK => ?_)
  go_simp
  refine hK _ _ ?_
  clear hK
  rw [show IntKind.wrap .i64 2 = 2 by decide]
  refine wpList_store_mid rfl 47 (.tmp 5) (.tmp 14) rfl (w.heap.size + 1 + 1 + 1) 0 (rcA (rcN 2) nl nl nl) rfl rfl (there_of (c := rcA (rcN 0) nl nl nl) (t := 47) (rec_new _ _ _ _ _)) (by kernel_rfl) (by simp [Value.oneCell']) ?_
  generalize hWW : World.setCells _ (w.heap.size + 1 + 1 + 1) 0 _ = W1
  have hrr : W1.heap[w.heap.size]? = some (.cells #[.int .i64 S.next, .int .i64 S.clock, b, v, u, q, g] 29 (0, 0)) ∧ W1.heap[w.heap.size + 1]? = some (.cells #[.int .i64 x.kind, .int .i64 x.a, .int .i64 x.b, .int .i64 x.c, .int .i64 x.d, .string x.text] 72 (0, 0)) ∧ W1.heap[w.heap.size + 1 + 1]? = some (.cells (rcA (rcN 0) nl nl nl) 47 (0, 0)) ∧ W1.heap[w.heap.size + 1 + 1 + 1]? = some (.cells (rcA (rcN 2) nl nl nl) 47 (0, 0)) ∧ Below w.heap.size w W1 := by
    rw [← hWW]
    exact rec_rows w (.cells #[.int .i64 S.next, .int .i64 S.clock, b, v, u, q, g] 29) (.cells #[.int .i64 x.kind, .int .i64 x.a, .int .i64 x.b, .int .i64 x.c, .int .i64 x.d, .string x.text] 72) (.cells (rcA (rcN 0) nl nl nl) 47) (rcA (rcN 0) nl nl nl) (rcA (rcN 2) nl nl nl) rfl
  clear hWW
  obtain ⟨r0, r1, r2, r3, hw1⟩ := hrr
  have HRR0 : Hid (RR w W1 #[.int .i64 S.next, .int .i64 S.clock, b, v, u, q, g] x (rcA (rcN 2) nl nl nl)) := ⟨r0, r1, r2, r3, hw1⟩
  have k0 : W1.cell? ⟨w.heap.size + 1 + 1 + 1, 0, none⟩ = some (.int .i64 2) := cell_of r3 0 rfl
  clear r0 r1 r2 r3
  have xa0_0 := cell_of (unhide HRR0).r1 0 rfl
  have xa1_0 := cell_of (unhide HRR0).r1 1 rfl
  have xa2_0 := cell_of (unhide HRR0).r1 2 rfl
  have xa3_0 := cell_of (unhide HRR0).r1 3 rfl
  have xa4_0 := cell_of (unhide HRR0).r1 4 rfl
  have sa0_0 := cell_of (unhide HRR0).r0 0 rfl
  have sa1_0 := cell_of (unhide HRR0).r0 1 rfl
  have sa2_0 := cell_of (unhide HRR0).r0 2 rfl
  have sa3_0 := cell_of (unhide HRR0).r0 3 rfl
  have sa4_0 := cell_of (unhide HRR0).r0 4 rfl
  have sa5_0 := cell_of (unhide HRR0).r0 5 rfl
  have sa6_0 := cell_of (unhide HRR0).r0 6 rfl
  have pa1_0 := cell_of (unhide HRR0).r3 1 rfl
  have pa2_0 := cell_of (unhide HRR0).r3 2 rfl
  have pa3_0 := cell_of (unhide HRR0).r3 3 rfl
  have pa4_0 := cell_of (unhide HRR0).r3 4 rfl
  have pa27_0 := cell_of (unhide HRR0).r3 27 rfl
  have pa28_0 := cell_of (unhide HRR0).r3 28 rfl
  have pf0 := fun j => fz_of (unhide HRR0).r3 j
  have pl0 := (unhide HRR0).lt
  have ql0 := (unhide HRR0).lt0
  have qm0 := (unhide HRR0).lt1
  go_upto_region 50 with (first
    | (refine (name_any x.a _ ha0.1 ha0.2).mono ?_; rintro e w2 ⟨rfl, b2⟩; have HRR2 := hide ((unhide HRR0).up b2); have xa0_2 := cell_of (unhide HRR2).r1 0 rfl; have xa1_2 := cell_of (unhide HRR2).r1 1 rfl; have xa2_2 := cell_of (unhide HRR2).r1 2 rfl; have xa3_2 := cell_of (unhide HRR2).r1 3 rfl; have xa4_2 := cell_of (unhide HRR2).r1 4 rfl; have sa0_2 := cell_of (unhide HRR2).r0 0 rfl; have sa1_2 := cell_of (unhide HRR2).r0 1 rfl; have sa2_2 := cell_of (unhide HRR2).r0 2 rfl; have sa3_2 := cell_of (unhide HRR2).r0 3 rfl; have sa4_2 := cell_of (unhide HRR2).r0 4 rfl; have sa5_2 := cell_of (unhide HRR2).r0 5 rfl; have sa6_2 := cell_of (unhide HRR2).r0 6 rfl; have pa1_2 := cell_of (unhide HRR2).r3 1 rfl; have pa2_2 := cell_of (unhide HRR2).r3 2 rfl; have pa3_2 := cell_of (unhide HRR2).r3 3 rfl; have pa4_2 := cell_of (unhide HRR2).r3 4 rfl; have pa27_2 := cell_of (unhide HRR2).r3 27 rfl; have pa28_2 := cell_of (unhide HRR2).r3 28 rfl; have pf2 := fun j => fz_of (unhide HRR2).r3 j; have pl2 := (unhide HRR2).lt; have ql2 := (unhide HRR2).lt0; have qm2 := (unhide HRR2).lt1)
    | (with_reducible refine (picked_any x.b 2 _ (by decide) (by decide) hb0.1 hb0.2).mono ?_; rintro e w3 ⟨rfl, rfl⟩; have hlo := pickI_lo x.b (m := 2) (by decide); have hhi := pickI_hi x.b (m := 2) (by decide))
    | fail)
  have HF := hide (RR.set (c' := rcA { rcN 2 with nam := nmB x.a, n := 1 + pickI x.b 2 } nl nl nl) (RR.set (c' := rcA { rcN 2 with nam := nmB x.a } nl nl nl) (unhide HRR2) 3 (.string (nmB x.a)) rfl) 2 (.int .i64 (1 + pickI x.b 2)) rfl)
  have hP := (unhide HF).r3
  have hR := (unhide HF).r2
  have hbl := (unhide HF).bl
  refine wp_region_lit ?_
  refine wpList_load_mid rfl 47 (.tmp 5) rfl (w.heap.size + 1 + 1 + 1) 0 rfl (rcA ({ rcN 2 with nam := nmB x.a, n := 1 + pickI x.b 2 }) nl nl nl).toList _ (fun j v hv => by rw [Nat.zero_add]; exact cell_of hP j (by simpa using hv)) Tryz.underlying47 rfl (by kernel_rfl) ?_
  refine wpList_store_mid rfl 47 (.tmp 4) (.tmp 217) rfl (w.heap.size + 1 + 1) 0 (rcA ({ rcN 2 with nam := nmB x.a, n := 1 + pickI x.b 2 }) nl nl nl) rfl rfl (there_of (c := rcA (rcN 0) nl nl nl) (t := 47) hR) (by kernel_rfl) (by simp [Value.oneCell']) ?_
  have hrr := rec_end (c' := (rcA ({ rcN 2 with nam := nmB x.a, n := 1 + pickI x.b 2 }) nl nl nl)) hR rfl
  revert hrr
  generalize World.setCells _ (w.heap.size + 1 + 1) 0 _ = W9
  intro hrr
  obtain ⟨r9, hg9⟩ := hrr
  clear hP hR
  go_wp2
  refine bodyPost_ret (v := rcV ({ rcN 2 with nam := nmB x.a, n := 1 + pickI x.b 2 }) nl nl nl) (rec_res r9 rfl rfl) rfl ⟨nl, nl, nl, by rw [unhide HQ], ?_, ?_⟩
  · rw [unhide HQ]
    exact ⟨Ints.nil9 _, Ints.nil9 _, Ints.nil9 _⟩
  · exact bl_tr hbl (gb_lo hg9 (by have := hbl.size; omega) (fun j e => by injection e with e; omega))
set_option maxHeartbeats 2000000 in
theorem record_9 (S : St) (b v u q g : Value) (x : Rw) (w : World) (hS : Sta w b v u q g S) (hc : stC S = true) (hx : WfW x) (hk : pickI x.kind 14 = 9) :
    Calls Tryz.prog 25 #[stV S b v u q g, rwV x] w fun e w' => ∃ vv pv sv, e = .returned (rcV (recR S x) vv pv sv) ∧ RcI w' (recR S x) vv pv sv ∧ Below w.heap.size w w' := by
  have HS := hide hS
  obtain ⟨hk0, ha0, hb0, hc0, hd0⟩ := hx
  have HQ : Hid (recR S x = { rcN 10 with id := S.next, nam := nmB x.a, key := kyB x.b }) := by show _ = _; unfold recR; simp [hk]
  obtain ⟨Q, hQ⟩ : ∃ Q, recR S x = Q := ⟨_, rfl⟩
  rw [hQ] at HQ ⊢
  clear hQ hS
  have HK : Hid (∀ W : World, Calls Tryz.prog 10 #[.int .i64 x.kind, .int .i64 14] W fun e w' => e = .returned (.int .i64 9) ∧ W = w') := fun W => by
    have := picked_any x.kind 14 W (by decide) (by decide) hk0.1 hk0.2
    rw [hk] at this; exact this
  clear hk
  go_enter Tryz.func25, Tryz.ntmps25
  go_wp2_with fail
  refine (unhide HK _).mono ?_
  rintro e w1 ⟨rfl, rfl⟩
  simp only []
  rename_i hK0
  refine hK0 _ _ ?_
  clear hK0
  refine wpList_plain rfl (fun K hK => ?_)
  go_simp
  refine hK _ _ ?_
  clear hK
  refine wpList_plain rfl (fun K hK => ?_)
  go_simp
  refine hK _ _ ?_
  clear hK
  refine wpList_plain rfl (fun K hK => ?_)
  go_simp
  refine hK _ _ ?_
  clear hK
  rw [show IntKind.wrap .i64 10 = 10 by decide]
  refine wpList_store_mid rfl 47 (.tmp 5) (.tmp 14) rfl (w.heap.size + 1 + 1 + 1) 0 (rcA (rcN 10) nl nl nl) rfl rfl (there_of (c := rcA (rcN 0) nl nl nl) (t := 47) (rec_new _ _ _ _ _)) (by kernel_rfl) (by simp [Value.oneCell']) ?_
  generalize hWW : World.setCells _ (w.heap.size + 1 + 1 + 1) 0 _ = W1
  have hrr : W1.heap[w.heap.size]? = some (.cells #[.int .i64 S.next, .int .i64 S.clock, b, v, u, q, g] 29 (0, 0)) ∧ W1.heap[w.heap.size + 1]? = some (.cells #[.int .i64 x.kind, .int .i64 x.a, .int .i64 x.b, .int .i64 x.c, .int .i64 x.d, .string x.text] 72 (0, 0)) ∧ W1.heap[w.heap.size + 1 + 1]? = some (.cells (rcA (rcN 0) nl nl nl) 47 (0, 0)) ∧ W1.heap[w.heap.size + 1 + 1 + 1]? = some (.cells (rcA (rcN 10) nl nl nl) 47 (0, 0)) ∧ Below w.heap.size w W1 := by
    rw [← hWW]
    exact rec_rows w (.cells #[.int .i64 S.next, .int .i64 S.clock, b, v, u, q, g] 29) (.cells #[.int .i64 x.kind, .int .i64 x.a, .int .i64 x.b, .int .i64 x.c, .int .i64 x.d, .string x.text] 72) (.cells (rcA (rcN 0) nl nl nl) 47) (rcA (rcN 0) nl nl nl) (rcA (rcN 10) nl nl nl) rfl
  clear hWW
  obtain ⟨r0, r1, r2, r3, hw1⟩ := hrr
  have HRR0 : Hid (RR w W1 #[.int .i64 S.next, .int .i64 S.clock, b, v, u, q, g] x (rcA (rcN 10) nl nl nl)) := ⟨r0, r1, r2, r3, hw1⟩
  have k0 : W1.cell? ⟨w.heap.size + 1 + 1 + 1, 0, none⟩ = some (.int .i64 10) := cell_of r3 0 rfl
  clear r0 r1 r2 r3
  have xa0_0 := cell_of (unhide HRR0).r1 0 rfl
  have xa1_0 := cell_of (unhide HRR0).r1 1 rfl
  have xa2_0 := cell_of (unhide HRR0).r1 2 rfl
  have xa3_0 := cell_of (unhide HRR0).r1 3 rfl
  have xa4_0 := cell_of (unhide HRR0).r1 4 rfl
  have sa0_0 := cell_of (unhide HRR0).r0 0 rfl
  have sa1_0 := cell_of (unhide HRR0).r0 1 rfl
  have sa2_0 := cell_of (unhide HRR0).r0 2 rfl
  have sa3_0 := cell_of (unhide HRR0).r0 3 rfl
  have sa4_0 := cell_of (unhide HRR0).r0 4 rfl
  have sa5_0 := cell_of (unhide HRR0).r0 5 rfl
  have sa6_0 := cell_of (unhide HRR0).r0 6 rfl
  have pa1_0 := cell_of (unhide HRR0).r3 1 rfl
  have pa2_0 := cell_of (unhide HRR0).r3 2 rfl
  have pa3_0 := cell_of (unhide HRR0).r3 3 rfl
  have pa4_0 := cell_of (unhide HRR0).r3 4 rfl
  have pa27_0 := cell_of (unhide HRR0).r3 27 rfl
  have pa28_0 := cell_of (unhide HRR0).r3 28 rfl
  have pf0 := fun j => fz_of (unhide HRR0).r3 j
  have pl0 := (unhide HRR0).lt
  have ql0 := (unhide HRR0).lt0
  have qm0 := (unhide HRR0).lt1
  go_upto_region 50 with (first
    | (refine (name_any x.a _ ha0.1 ha0.2).mono ?_; rintro e w2 ⟨rfl, b2⟩; have HRR2 := hide ((RR.set (c' := rcA { rcN 10 with id := S.next } nl nl nl) (unhide HRR0) 1 (.int .i64 S.next) rfl).up b2); have xa0_2 := cell_of (unhide HRR2).r1 0 rfl; have xa1_2 := cell_of (unhide HRR2).r1 1 rfl; have xa2_2 := cell_of (unhide HRR2).r1 2 rfl; have xa3_2 := cell_of (unhide HRR2).r1 3 rfl; have xa4_2 := cell_of (unhide HRR2).r1 4 rfl; have sa0_2 := cell_of (unhide HRR2).r0 0 rfl; have sa1_2 := cell_of (unhide HRR2).r0 1 rfl; have sa2_2 := cell_of (unhide HRR2).r0 2 rfl; have sa3_2 := cell_of (unhide HRR2).r0 3 rfl; have sa4_2 := cell_of (unhide HRR2).r0 4 rfl; have sa5_2 := cell_of (unhide HRR2).r0 5 rfl; have sa6_2 := cell_of (unhide HRR2).r0 6 rfl; have pa1_2 := cell_of (unhide HRR2).r3 1 rfl; have pa2_2 := cell_of (unhide HRR2).r3 2 rfl; have pa3_2 := cell_of (unhide HRR2).r3 3 rfl; have pa4_2 := cell_of (unhide HRR2).r3 4 rfl; have pa27_2 := cell_of (unhide HRR2).r3 27 rfl; have pa28_2 := cell_of (unhide HRR2).r3 28 rfl; have pf2 := fun j => fz_of (unhide HRR2).r3 j; have pl2 := (unhide HRR2).lt; have ql2 := (unhide HRR2).lt0; have qm2 := (unhide HRR2).lt1)
    | (refine (key_any x.b _ hb0.1 hb0.2).mono ?_; rintro e w3 ⟨rfl, b3⟩; have HRR3 := hide ((RR.set (c' := rcA { rcN 10 with id := S.next, nam := nmB x.a } nl nl nl) (unhide HRR2) 3 (.string (nmB x.a)) rfl).up b3); have xa0_3 := cell_of (unhide HRR3).r1 0 rfl; have xa1_3 := cell_of (unhide HRR3).r1 1 rfl; have xa2_3 := cell_of (unhide HRR3).r1 2 rfl; have xa3_3 := cell_of (unhide HRR3).r1 3 rfl; have xa4_3 := cell_of (unhide HRR3).r1 4 rfl; have sa0_3 := cell_of (unhide HRR3).r0 0 rfl; have sa1_3 := cell_of (unhide HRR3).r0 1 rfl; have sa2_3 := cell_of (unhide HRR3).r0 2 rfl; have sa3_3 := cell_of (unhide HRR3).r0 3 rfl; have sa4_3 := cell_of (unhide HRR3).r0 4 rfl; have sa5_3 := cell_of (unhide HRR3).r0 5 rfl; have sa6_3 := cell_of (unhide HRR3).r0 6 rfl; have pa1_3 := cell_of (unhide HRR3).r3 1 rfl; have pa2_3 := cell_of (unhide HRR3).r3 2 rfl; have pa3_3 := cell_of (unhide HRR3).r3 3 rfl; have pa4_3 := cell_of (unhide HRR3).r3 4 rfl; have pa27_3 := cell_of (unhide HRR3).r3 27 rfl; have pa28_3 := cell_of (unhide HRR3).r3 28 rfl; have pf3 := fun j => fz_of (unhide HRR3).r3 j; have pl3 := (unhide HRR3).lt; have ql3 := (unhide HRR3).lt0; have qm3 := (unhide HRR3).lt1)
    | fail)
  have HF := hide (RR.set (c' := rcA { rcN 10 with id := S.next, nam := nmB x.a, key := kyB x.b } nl nl nl) (unhide HRR3) 4 (.string (kyB x.b)) rfl)
  have hP := (unhide HF).r3
  have hR := (unhide HF).r2
  have hbl := (unhide HF).bl
  refine wp_region_lit ?_
  refine wpList_load_mid rfl 47 (.tmp 5) rfl (w.heap.size + 1 + 1 + 1) 0 rfl (rcA ({ rcN 10 with id := S.next, nam := nmB x.a, key := kyB x.b }) nl nl nl).toList _ (fun j v hv => by rw [Nat.zero_add]; exact cell_of hP j (by simpa using hv)) Tryz.underlying47 rfl (by kernel_rfl) ?_
  refine wpList_store_mid rfl 47 (.tmp 4) (.tmp 217) rfl (w.heap.size + 1 + 1) 0 (rcA ({ rcN 10 with id := S.next, nam := nmB x.a, key := kyB x.b }) nl nl nl) rfl rfl (there_of (c := rcA (rcN 0) nl nl nl) (t := 47) hR) (by kernel_rfl) (by simp [Value.oneCell']) ?_
  have hrr := rec_end (c' := (rcA ({ rcN 10 with id := S.next, nam := nmB x.a, key := kyB x.b }) nl nl nl)) hR rfl
  revert hrr
  generalize World.setCells _ (w.heap.size + 1 + 1) 0 _ = W9
  intro hrr
  obtain ⟨r9, hg9⟩ := hrr
  clear hP hR
  go_wp2
  refine bodyPost_ret (v := rcV ({ rcN 10 with id := S.next, nam := nmB x.a, key := kyB x.b }) nl nl nl) (rec_res r9 rfl rfl) rfl ⟨nl, nl, nl, by rw [unhide HQ], ?_, ?_⟩
  · rw [unhide HQ]
    exact ⟨Ints.nil9 _, Ints.nil9 _, Ints.nil9 _⟩
  · exact bl_tr hbl (gb_lo hg9 (by have := hbl.size; omega) (fun j e => by injection e with e; omega))
set_option maxHeartbeats 2000000 in
theorem record_11 (S : St) (b v u q g : Value) (x : Rw) (w : World) (hS : Sta w b v u q g S) (hc : stC S = true) (hx : WfW x) (hk : pickI x.kind 14 = 11) :
    Calls Tryz.prog 25 #[stV S b v u q g, rwV x] w fun e w' => ∃ vv pv sv, e = .returned (rcV (recR S x) vv pv sv) ∧ RcI w' (recR S x) vv pv sv ∧ Below w.heap.size w w' := by
  have HS := hide hS
  obtain ⟨hk0, ha0, hb0, hc0, hd0⟩ := hx
  have HQ : Hid (recR S x = { rcN 12 with id := upN S x.a }) := by show _ = _; unfold recR; simp [hk]
  obtain ⟨Q, hQ⟩ : ∃ Q, recR S x = Q := ⟨_, rfl⟩
  rw [hQ] at HQ ⊢
  clear hQ hS
  have HK : Hid (∀ W : World, Calls Tryz.prog 10 #[.int .i64 x.kind, .int .i64 14] W fun e w' => e = .returned (.int .i64 11) ∧ W = w') := fun W => by
    have := picked_any x.kind 14 W (by decide) (by decide) hk0.1 hk0.2
    rw [hk] at this; exact this
  clear hk
  go_enter Tryz.func25, Tryz.ntmps25
  go_wp2_with fail
  refine (unhide HK _).mono ?_
  rintro e w1 ⟨rfl, rfl⟩
  simp only []
  rename_i hK0
  refine hK0 _ _ ?_
  clear hK0
  refine wpList_plain rfl (fun K hK => ?_)
  go_simp
  refine hK _ _ ?_
  clear hK
  refine wpList_plain rfl (fun K hK => ?_)
  go_simp
  refine hK _ _ ?_
  clear hK
  refine wpList_plain rfl (fun K hK => ?_)
  go_simp
  refine hK _ _ ?_
  clear hK
  rw [show IntKind.wrap .i64 12 = 12 by decide]
  refine wpList_store_mid rfl 47 (.tmp 5) (.tmp 14) rfl (w.heap.size + 1 + 1 + 1) 0 (rcA (rcN 12) nl nl nl) rfl rfl (there_of (c := rcA (rcN 0) nl nl nl) (t := 47) (rec_new _ _ _ _ _)) (by kernel_rfl) (by simp [Value.oneCell']) ?_
  generalize hWW : World.setCells _ (w.heap.size + 1 + 1 + 1) 0 _ = W1
  have hrr : W1.heap[w.heap.size]? = some (.cells #[.int .i64 S.next, .int .i64 S.clock, b, v, u, q, g] 29 (0, 0)) ∧ W1.heap[w.heap.size + 1]? = some (.cells #[.int .i64 x.kind, .int .i64 x.a, .int .i64 x.b, .int .i64 x.c, .int .i64 x.d, .string x.text] 72 (0, 0)) ∧ W1.heap[w.heap.size + 1 + 1]? = some (.cells (rcA (rcN 0) nl nl nl) 47 (0, 0)) ∧ W1.heap[w.heap.size + 1 + 1 + 1]? = some (.cells (rcA (rcN 12) nl nl nl) 47 (0, 0)) ∧ Below w.heap.size w W1 := by
    rw [← hWW]
    exact rec_rows w (.cells #[.int .i64 S.next, .int .i64 S.clock, b, v, u, q, g] 29) (.cells #[.int .i64 x.kind, .int .i64 x.a, .int .i64 x.b, .int .i64 x.c, .int .i64 x.d, .string x.text] 72) (.cells (rcA (rcN 0) nl nl nl) 47) (rcA (rcN 0) nl nl nl) (rcA (rcN 12) nl nl nl) rfl
  clear hWW
  obtain ⟨r0, r1, r2, r3, hw1⟩ := hrr
  have HRR0 : Hid (RR w W1 #[.int .i64 S.next, .int .i64 S.clock, b, v, u, q, g] x (rcA (rcN 12) nl nl nl)) := ⟨r0, r1, r2, r3, hw1⟩
  have k0 : W1.cell? ⟨w.heap.size + 1 + 1 + 1, 0, none⟩ = some (.int .i64 12) := cell_of r3 0 rfl
  clear r0 r1 r2 r3
  have xa0_0 := cell_of (unhide HRR0).r1 0 rfl
  have xa1_0 := cell_of (unhide HRR0).r1 1 rfl
  have xa2_0 := cell_of (unhide HRR0).r1 2 rfl
  have xa3_0 := cell_of (unhide HRR0).r1 3 rfl
  have xa4_0 := cell_of (unhide HRR0).r1 4 rfl
  have sa0_0 := cell_of (unhide HRR0).r0 0 rfl
  have sa1_0 := cell_of (unhide HRR0).r0 1 rfl
  have sa2_0 := cell_of (unhide HRR0).r0 2 rfl
  have sa3_0 := cell_of (unhide HRR0).r0 3 rfl
  have sa4_0 := cell_of (unhide HRR0).r0 4 rfl
  have sa5_0 := cell_of (unhide HRR0).r0 5 rfl
  have sa6_0 := cell_of (unhide HRR0).r0 6 rfl
  have pa1_0 := cell_of (unhide HRR0).r3 1 rfl
  have pa2_0 := cell_of (unhide HRR0).r3 2 rfl
  have pa3_0 := cell_of (unhide HRR0).r3 3 rfl
  have pa4_0 := cell_of (unhide HRR0).r3 4 rfl
  have pa27_0 := cell_of (unhide HRR0).r3 27 rfl
  have pa28_0 := cell_of (unhide HRR0).r3 28 rfl
  have pf0 := fun j => fz_of (unhide HRR0).r3 j
  have pl0 := (unhide HRR0).lt
  have ql0 := (unhide HRR0).lt0
  have qm0 := (unhide HRR0).lt1
  go_upto_region 50 with (first
    | (refine (k_upload_any S b v u q g x.a _ ((unhide HS).up (unhide HRR0).bl) ha0.1 ha0.2).mono ?_; rintro e w2 ⟨rfl, b2⟩; have HRR2 := hide ((unhide HRR0).up b2); have xa0_2 := cell_of (unhide HRR2).r1 0 rfl; have xa1_2 := cell_of (unhide HRR2).r1 1 rfl; have xa2_2 := cell_of (unhide HRR2).r1 2 rfl; have xa3_2 := cell_of (unhide HRR2).r1 3 rfl; have xa4_2 := cell_of (unhide HRR2).r1 4 rfl; have sa0_2 := cell_of (unhide HRR2).r0 0 rfl; have sa1_2 := cell_of (unhide HRR2).r0 1 rfl; have sa2_2 := cell_of (unhide HRR2).r0 2 rfl; have sa3_2 := cell_of (unhide HRR2).r0 3 rfl; have sa4_2 := cell_of (unhide HRR2).r0 4 rfl; have sa5_2 := cell_of (unhide HRR2).r0 5 rfl; have sa6_2 := cell_of (unhide HRR2).r0 6 rfl; have pa1_2 := cell_of (unhide HRR2).r3 1 rfl; have pa2_2 := cell_of (unhide HRR2).r3 2 rfl; have pa3_2 := cell_of (unhide HRR2).r3 3 rfl; have pa4_2 := cell_of (unhide HRR2).r3 4 rfl; have pa27_2 := cell_of (unhide HRR2).r3 27 rfl; have pa28_2 := cell_of (unhide HRR2).r3 28 rfl; have pf2 := fun j => fz_of (unhide HRR2).r3 j; have pl2 := (unhide HRR2).lt; have ql2 := (unhide HRR2).lt0; have qm2 := (unhide HRR2).lt1)
    | fail)
  have HF := hide (RR.set (c' := rcA { rcN 12 with id := upN S x.a } nl nl nl) (unhide HRR2) 1 (.int .i64 (upN S x.a)) rfl)
  have hP := (unhide HF).r3
  have hR := (unhide HF).r2
  have hbl := (unhide HF).bl
  refine wp_region_lit ?_
  refine wpList_load_mid rfl 47 (.tmp 5) rfl (w.heap.size + 1 + 1 + 1) 0 rfl (rcA ({ rcN 12 with id := upN S x.a }) nl nl nl).toList _ (fun j v hv => by rw [Nat.zero_add]; exact cell_of hP j (by simpa using hv)) Tryz.underlying47 rfl (by kernel_rfl) ?_
  refine wpList_store_mid rfl 47 (.tmp 4) (.tmp 217) rfl (w.heap.size + 1 + 1) 0 (rcA ({ rcN 12 with id := upN S x.a }) nl nl nl) rfl rfl (there_of (c := rcA (rcN 0) nl nl nl) (t := 47) hR) (by kernel_rfl) (by simp [Value.oneCell']) ?_
  have hrr := rec_end (c' := (rcA ({ rcN 12 with id := upN S x.a }) nl nl nl)) hR rfl
  revert hrr
  generalize World.setCells _ (w.heap.size + 1 + 1) 0 _ = W9
  intro hrr
  obtain ⟨r9, hg9⟩ := hrr
  clear hP hR
  go_wp2
  refine bodyPost_ret (v := rcV ({ rcN 12 with id := upN S x.a }) nl nl nl) (rec_res r9 rfl rfl) rfl ⟨nl, nl, nl, by rw [unhide HQ], ?_, ?_⟩
  · rw [unhide HQ]
    exact ⟨Ints.nil9 _, Ints.nil9 _, Ints.nil9 _⟩
  · exact bl_tr hbl (gb_lo hg9 (by have := hbl.size; omega) (fun j e => by injection e with e; omega))
set_option maxHeartbeats 2000000 in
theorem record_12 (S : St) (b v u q g : Value) (x : Rw) (w : World) (hS : Sta w b v u q g S) (hc : stC S = true) (hx : WfW x) (hk : pickI x.kind 14 = 12) :
    Calls Tryz.prog 25 #[stV S b v u q g, rwV x] w fun e w' => ∃ vv pv sv, e = .returned (rcV (recR S x) vv pv sv) ∧ RcI w' (recR S x) vv pv sv ∧ Below w.heap.size w w' := by
  have HS := hide hS
  obtain ⟨hk0, ha0, hb0, hc0, hd0⟩ := hx
  have HQ : Hid (recR S x = { rcN 13 with n := pickI x.a 12 }) := by show _ = _; unfold recR; simp [hk]
  obtain ⟨Q, hQ⟩ : ∃ Q, recR S x = Q := ⟨_, rfl⟩
  rw [hQ] at HQ ⊢
  clear hQ hS
  have HK : Hid (∀ W : World, Calls Tryz.prog 10 #[.int .i64 x.kind, .int .i64 14] W fun e w' => e = .returned (.int .i64 12) ∧ W = w') := fun W => by
    have := picked_any x.kind 14 W (by decide) (by decide) hk0.1 hk0.2
    rw [hk] at this; exact this
  clear hk
  go_enter Tryz.func25, Tryz.ntmps25
  go_wp2_with fail
  refine (unhide HK _).mono ?_
  rintro e w1 ⟨rfl, rfl⟩
  simp only []
  rename_i hK0
  refine hK0 _ _ ?_
  clear hK0
  refine wpList_plain rfl (fun K hK => ?_)
  go_simp
  refine hK _ _ ?_
  clear hK
  refine wpList_plain rfl (fun K hK => ?_)
  go_simp
  refine hK _ _ ?_
  clear hK
  refine wpList_plain rfl (fun K hK => ?_)
  go_simp
  refine hK _ _ ?_
  clear hK
  rw [show IntKind.wrap .i64 13 = 13 by decide]
  refine wpList_store_mid rfl 47 (.tmp 5) (.tmp 14) rfl (w.heap.size + 1 + 1 + 1) 0 (rcA (rcN 13) nl nl nl) rfl rfl (there_of (c := rcA (rcN 0) nl nl nl) (t := 47) (rec_new _ _ _ _ _)) (by kernel_rfl) (by simp [Value.oneCell']) ?_
  generalize hWW : World.setCells _ (w.heap.size + 1 + 1 + 1) 0 _ = W1
  have hrr : W1.heap[w.heap.size]? = some (.cells #[.int .i64 S.next, .int .i64 S.clock, b, v, u, q, g] 29 (0, 0)) ∧ W1.heap[w.heap.size + 1]? = some (.cells #[.int .i64 x.kind, .int .i64 x.a, .int .i64 x.b, .int .i64 x.c, .int .i64 x.d, .string x.text] 72 (0, 0)) ∧ W1.heap[w.heap.size + 1 + 1]? = some (.cells (rcA (rcN 0) nl nl nl) 47 (0, 0)) ∧ W1.heap[w.heap.size + 1 + 1 + 1]? = some (.cells (rcA (rcN 13) nl nl nl) 47 (0, 0)) ∧ Below w.heap.size w W1 := by
    rw [← hWW]
    exact rec_rows w (.cells #[.int .i64 S.next, .int .i64 S.clock, b, v, u, q, g] 29) (.cells #[.int .i64 x.kind, .int .i64 x.a, .int .i64 x.b, .int .i64 x.c, .int .i64 x.d, .string x.text] 72) (.cells (rcA (rcN 0) nl nl nl) 47) (rcA (rcN 0) nl nl nl) (rcA (rcN 13) nl nl nl) rfl
  clear hWW
  obtain ⟨r0, r1, r2, r3, hw1⟩ := hrr
  have HRR0 : Hid (RR w W1 #[.int .i64 S.next, .int .i64 S.clock, b, v, u, q, g] x (rcA (rcN 13) nl nl nl)) := ⟨r0, r1, r2, r3, hw1⟩
  have k0 : W1.cell? ⟨w.heap.size + 1 + 1 + 1, 0, none⟩ = some (.int .i64 13) := cell_of r3 0 rfl
  clear r0 r1 r2 r3
  have xa0_0 := cell_of (unhide HRR0).r1 0 rfl
  have xa1_0 := cell_of (unhide HRR0).r1 1 rfl
  have xa2_0 := cell_of (unhide HRR0).r1 2 rfl
  have xa3_0 := cell_of (unhide HRR0).r1 3 rfl
  have xa4_0 := cell_of (unhide HRR0).r1 4 rfl
  have sa0_0 := cell_of (unhide HRR0).r0 0 rfl
  have sa1_0 := cell_of (unhide HRR0).r0 1 rfl
  have sa2_0 := cell_of (unhide HRR0).r0 2 rfl
  have sa3_0 := cell_of (unhide HRR0).r0 3 rfl
  have sa4_0 := cell_of (unhide HRR0).r0 4 rfl
  have sa5_0 := cell_of (unhide HRR0).r0 5 rfl
  have sa6_0 := cell_of (unhide HRR0).r0 6 rfl
  have pa1_0 := cell_of (unhide HRR0).r3 1 rfl
  have pa2_0 := cell_of (unhide HRR0).r3 2 rfl
  have pa3_0 := cell_of (unhide HRR0).r3 3 rfl
  have pa4_0 := cell_of (unhide HRR0).r3 4 rfl
  have pa27_0 := cell_of (unhide HRR0).r3 27 rfl
  have pa28_0 := cell_of (unhide HRR0).r3 28 rfl
  have pf0 := fun j => fz_of (unhide HRR0).r3 j
  have pl0 := (unhide HRR0).lt
  have ql0 := (unhide HRR0).lt0
  have qm0 := (unhide HRR0).lt1
  go_upto_region 50 with (first
    | (with_reducible refine (picked_any x.a 12 _ (by decide) (by decide) ha0.1 ha0.2).mono ?_; rintro e w2 ⟨rfl, rfl⟩)
    | fail)
  have HF := hide (RR.set (c' := rcA { rcN 13 with n := pickI x.a 12 } nl nl nl) (unhide HRR0) 2 (.int .i64 (pickI x.a 12)) rfl)
  have hP := (unhide HF).r3
  have hR := (unhide HF).r2
  have hbl := (unhide HF).bl
  refine wp_region_lit ?_
  refine wpList_load_mid rfl 47 (.tmp 5) rfl (w.heap.size + 1 + 1 + 1) 0 rfl (rcA ({ rcN 13 with n := pickI x.a 12 }) nl nl nl).toList _ (fun j v hv => by rw [Nat.zero_add]; exact cell_of hP j (by simpa using hv)) Tryz.underlying47 rfl (by kernel_rfl) ?_
  refine wpList_store_mid rfl 47 (.tmp 4) (.tmp 217) rfl (w.heap.size + 1 + 1) 0 (rcA ({ rcN 13 with n := pickI x.a 12 }) nl nl nl) rfl rfl (there_of (c := rcA (rcN 0) nl nl nl) (t := 47) hR) (by kernel_rfl) (by simp [Value.oneCell']) ?_
  have hrr := rec_end (c' := (rcA ({ rcN 13 with n := pickI x.a 12 }) nl nl nl)) hR rfl
  revert hrr
  generalize World.setCells _ (w.heap.size + 1 + 1) 0 _ = W9
  intro hrr
  obtain ⟨r9, hg9⟩ := hrr
  clear hP hR
  go_wp2
  refine bodyPost_ret (v := rcV ({ rcN 13 with n := pickI x.a 12 }) nl nl nl) (rec_res r9 rfl rfl) rfl ⟨nl, nl, nl, by rw [unhide HQ], ?_, ?_⟩
  · rw [unhide HQ]
    exact ⟨Ints.nil9 _, Ints.nil9 _, Ints.nil9 _⟩
  · exact bl_tr hbl (gb_lo hg9 (by have := hbl.size; omega) (fun j e => by injection e with e; omega))
set_option maxHeartbeats 2000000 in
theorem record_13 (S : St) (b v u q g : Value) (x : Rw) (w : World) (hS : Sta w b v u q g S) (hc : stC S = true) (hx : WfW x) (hk : pickI x.kind 14 = 13) :
    Calls Tryz.prog 25 #[stV S b v u q g, rwV x] w fun e w' => ∃ vv pv sv, e = .returned (rcV (recR S x) vv pv sv) ∧ RcI w' (recR S x) vv pv sv ∧ Below w.heap.size w w' := by
  have HS := hide hS
  obtain ⟨hk0, ha0, hb0, hc0, hd0⟩ := hx
  have HQ : Hid (recR S x = { rcN 14 with vol := pickI x.a 4 }) := by show _ = _; unfold recR; simp [hk]
  obtain ⟨Q, hQ⟩ : ∃ Q, recR S x = Q := ⟨_, rfl⟩
  rw [hQ] at HQ ⊢
  clear hQ hS
  have HK : Hid (∀ W : World, Calls Tryz.prog 10 #[.int .i64 x.kind, .int .i64 14] W fun e w' => e = .returned (.int .i64 13) ∧ W = w') := fun W => by
    have := picked_any x.kind 14 W (by decide) (by decide) hk0.1 hk0.2
    rw [hk] at this; exact this
  clear hk
  go_enter Tryz.func25, Tryz.ntmps25
  go_wp2_with fail
  refine (unhide HK _).mono ?_
  rintro e w1 ⟨rfl, rfl⟩
  simp only []
  rename_i hK0
  refine hK0 _ _ ?_
  clear hK0
  refine wpList_plain rfl (fun K hK => ?_)
  go_simp
  refine hK _ _ ?_
  clear hK
  refine wpList_plain rfl (fun K hK => ?_)
  go_simp
  refine hK _ _ ?_
  clear hK
  refine wpList_plain rfl (fun K hK => ?_)
  go_simp
  refine hK _ _ ?_
  clear hK
  rw [show IntKind.wrap .i64 14 = 14 by decide]
  refine wpList_store_mid rfl 47 (.tmp 5) (.tmp 14) rfl (w.heap.size + 1 + 1 + 1) 0 (rcA (rcN 14) nl nl nl) rfl rfl (there_of (c := rcA (rcN 0) nl nl nl) (t := 47) (rec_new _ _ _ _ _)) (by kernel_rfl) (by simp [Value.oneCell']) ?_
  generalize hWW : World.setCells _ (w.heap.size + 1 + 1 + 1) 0 _ = W1
  have hrr : W1.heap[w.heap.size]? = some (.cells #[.int .i64 S.next, .int .i64 S.clock, b, v, u, q, g] 29 (0, 0)) ∧ W1.heap[w.heap.size + 1]? = some (.cells #[.int .i64 x.kind, .int .i64 x.a, .int .i64 x.b, .int .i64 x.c, .int .i64 x.d, .string x.text] 72 (0, 0)) ∧ W1.heap[w.heap.size + 1 + 1]? = some (.cells (rcA (rcN 0) nl nl nl) 47 (0, 0)) ∧ W1.heap[w.heap.size + 1 + 1 + 1]? = some (.cells (rcA (rcN 14) nl nl nl) 47 (0, 0)) ∧ Below w.heap.size w W1 := by
    rw [← hWW]
    exact rec_rows w (.cells #[.int .i64 S.next, .int .i64 S.clock, b, v, u, q, g] 29) (.cells #[.int .i64 x.kind, .int .i64 x.a, .int .i64 x.b, .int .i64 x.c, .int .i64 x.d, .string x.text] 72) (.cells (rcA (rcN 0) nl nl nl) 47) (rcA (rcN 0) nl nl nl) (rcA (rcN 14) nl nl nl) rfl
  clear hWW
  obtain ⟨r0, r1, r2, r3, hw1⟩ := hrr
  have HRR0 : Hid (RR w W1 #[.int .i64 S.next, .int .i64 S.clock, b, v, u, q, g] x (rcA (rcN 14) nl nl nl)) := ⟨r0, r1, r2, r3, hw1⟩
  have k0 : W1.cell? ⟨w.heap.size + 1 + 1 + 1, 0, none⟩ = some (.int .i64 14) := cell_of r3 0 rfl
  clear r0 r1 r2 r3
  have xa0_0 := cell_of (unhide HRR0).r1 0 rfl
  have xa1_0 := cell_of (unhide HRR0).r1 1 rfl
  have xa2_0 := cell_of (unhide HRR0).r1 2 rfl
  have xa3_0 := cell_of (unhide HRR0).r1 3 rfl
  have xa4_0 := cell_of (unhide HRR0).r1 4 rfl
  have sa0_0 := cell_of (unhide HRR0).r0 0 rfl
  have sa1_0 := cell_of (unhide HRR0).r0 1 rfl
  have sa2_0 := cell_of (unhide HRR0).r0 2 rfl
  have sa3_0 := cell_of (unhide HRR0).r0 3 rfl
  have sa4_0 := cell_of (unhide HRR0).r0 4 rfl
  have sa5_0 := cell_of (unhide HRR0).r0 5 rfl
  have sa6_0 := cell_of (unhide HRR0).r0 6 rfl
  have pa1_0 := cell_of (unhide HRR0).r3 1 rfl
  have pa2_0 := cell_of (unhide HRR0).r3 2 rfl
  have pa3_0 := cell_of (unhide HRR0).r3 3 rfl
  have pa4_0 := cell_of (unhide HRR0).r3 4 rfl
  have pa27_0 := cell_of (unhide HRR0).r3 27 rfl
  have pa28_0 := cell_of (unhide HRR0).r3 28 rfl
  have pf0 := fun j => fz_of (unhide HRR0).r3 j
  have pl0 := (unhide HRR0).lt
  have ql0 := (unhide HRR0).lt0
  have qm0 := (unhide HRR0).lt1
  go_upto_region 50 with (first
    | (with_reducible refine (picked_any x.a 4 _ (by decide) (by decide) ha0.1 ha0.2).mono ?_; rintro e w2 ⟨rfl, rfl⟩)
    | fail)
  have HF := hide (RR.set (c' := rcA { rcN 14 with vol := pickI x.a 4 } nl nl nl) (unhide HRR0) 27 (.int .i64 (pickI x.a 4)) rfl)
  have hP := (unhide HF).r3
  have hR := (unhide HF).r2
  have hbl := (unhide HF).bl
  refine wp_region_lit ?_
  refine wpList_load_mid rfl 47 (.tmp 5) rfl (w.heap.size + 1 + 1 + 1) 0 rfl (rcA ({ rcN 14 with vol := pickI x.a 4 }) nl nl nl).toList _ (fun j v hv => by rw [Nat.zero_add]; exact cell_of hP j (by simpa using hv)) Tryz.underlying47 rfl (by kernel_rfl) ?_
  refine wpList_store_mid rfl 47 (.tmp 4) (.tmp 217) rfl (w.heap.size + 1 + 1) 0 (rcA ({ rcN 14 with vol := pickI x.a 4 }) nl nl nl) rfl rfl (there_of (c := rcA (rcN 0) nl nl nl) (t := 47) hR) (by kernel_rfl) (by simp [Value.oneCell']) ?_
  have hrr := rec_end (c' := (rcA ({ rcN 14 with vol := pickI x.a 4 }) nl nl nl)) hR rfl
  revert hrr
  generalize World.setCells _ (w.heap.size + 1 + 1) 0 _ = W9
  intro hrr
  obtain ⟨r9, hg9⟩ := hrr
  clear hP hR
  go_wp2
  refine bodyPost_ret (v := rcV ({ rcN 14 with vol := pickI x.a 4 }) nl nl nl) (rec_res r9 rfl rfl) rfl ⟨nl, nl, nl, by rw [unhide HQ], ?_, ?_⟩
  · rw [unhide HQ]
    exact ⟨Ints.nil9 _, Ints.nil9 _, Ints.nil9 _⟩
  · exact bl_tr hbl (gb_lo hg9 (by have := hbl.size; omega) (fun j e => by injection e with e; omega))
end Go.Proofs.YtdgmdapijhbocaaGreat

/- icehousekeep.Record, kind by kind. -/
namespace Go.Proofs.YtdgmdapijhbocaaGreat
open Go.RowKit Go.Maps
set_option maxRecDepth 100000
set_option linter.unusedVariables false
set_option linter.unusedSimpArgs false
set_option maxHeartbeats 2000000 in
theorem record_4 (S : St) (b v u q g : Value) (x : Rw) (w : World) (hS : Sta w b v u q g S) (hc : stC S = true) (hx : WfW x) (hk : pickI x.kind 14 = 4) :
    Calls Tryz.prog 25 #[stV S b v u q g, rwV x] w fun e w' => ∃ vv pv sv, e = .returned (rcV (recR S x) vv pv sv) ∧ RcI w' (recR S x) vv pv sv ∧ Below w.heap.size w w' := by
  have HS := hide hS
  obtain ⟨hk0, ha0, hb0, hc0, hd0⟩ := hx
  have HQ : Hid (recR S x = { rcN 5 with id := idN S x.a }) := by show _ = _; unfold recR; simp [hk]
  obtain ⟨Q, hQ⟩ : ∃ Q, recR S x = Q := ⟨_, rfl⟩
  rw [hQ] at HQ ⊢
  clear hQ hS
  have HK : Hid (∀ W : World, Calls Tryz.prog 10 #[.int .i64 x.kind, .int .i64 14] W fun e w' => e = .returned (.int .i64 4) ∧ W = w') := fun W => by
    have := picked_any x.kind 14 W (by decide) (by decide) hk0.1 hk0.2
    rw [hk] at this; exact this
  clear hk
  go_enter Tryz.func25, Tryz.ntmps25
  go_wp2_with fail
  refine (unhide HK _).mono ?_
  rintro e w1 ⟨rfl, rfl⟩
  simp only []
  rename_i hK0
  refine hK0 _ _ ?_
  clear hK0
  refine wpList_plain rfl (fun K hK => ?_)
  go_simp
  refine hK _ _ ?_
  clear hK
  refine wpList_plain rfl (fun K hK => ?_)
  go_simp
  refine hK _ _ ?_
  clear hK
  refine wpList_plain rfl (fun K hK => ?_)
  go_simp
  refine hK _ _ ?_
  clear hK
  rw [show IntKind.wrap .i64 5 = 5 by decide]
  refine wpList_store_mid rfl 47 (.tmp 5) (.tmp 14) rfl (w.heap.size + 1 + 1 + 1) 0 (rcA (rcN 5) nl nl nl) rfl rfl (there_of (c := rcA (rcN 0) nl nl nl) (t := 47) (rec_new _ _ _ _ _)) (by kernel_rfl) (by simp [Value.oneCell']) ?_
  generalize hWW : World.setCells _ (w.heap.size + 1 + 1 + 1) 0 _ = W1
  have hrr : W1.heap[w.heap.size]? = some (.cells #[.int .i64 S.next, .int .i64 S.clock, b, v, u, q, g] 29 (0, 0)) ∧ W1.heap[w.heap.size + 1]? = some (.cells #[.int .i64 x.kind, .int .i64 x.a, .int .i64 x.b, .int .i64 x.c, .int .i64 x.d, .string x.text] 72 (0, 0)) ∧ W1.heap[w.heap.size + 1 + 1]? = some (.cells (rcA (rcN 0) nl nl nl) 47 (0, 0)) ∧ W1.heap[w.heap.size + 1 + 1 + 1]? = some (.cells (rcA (rcN 5) nl nl nl) 47 (0, 0)) ∧ Below w.heap.size w W1 := by
    rw [← hWW]
    exact rec_rows w (.cells #[.int .i64 S.next, .int .i64 S.clock, b, v, u, q, g] 29) (.cells #[.int .i64 x.kind, .int .i64 x.a, .int .i64 x.b, .int .i64 x.c, .int .i64 x.d, .string x.text] 72) (.cells (rcA (rcN 0) nl nl nl) 47) (rcA (rcN 0) nl nl nl) (rcA (rcN 5) nl nl nl) rfl
  clear hWW
  obtain ⟨r0, r1, r2, r3, hw1⟩ := hrr
  have HRR0 : Hid (RR w W1 #[.int .i64 S.next, .int .i64 S.clock, b, v, u, q, g] x (rcA (rcN 5) nl nl nl)) := ⟨r0, r1, r2, r3, hw1⟩
  have k0 : W1.cell? ⟨w.heap.size + 1 + 1 + 1, 0, none⟩ = some (.int .i64 5) := cell_of r3 0 rfl
  clear r0 r1 r2 r3
  have xa0_0 := cell_of (unhide HRR0).r1 0 rfl
  have xa1_0 := cell_of (unhide HRR0).r1 1 rfl
  have xa2_0 := cell_of (unhide HRR0).r1 2 rfl
  have xa3_0 := cell_of (unhide HRR0).r1 3 rfl
  have xa4_0 := cell_of (unhide HRR0).r1 4 rfl
  have sa0_0 := cell_of (unhide HRR0).r0 0 rfl
  have sa1_0 := cell_of (unhide HRR0).r0 1 rfl
  have sa2_0 := cell_of (unhide HRR0).r0 2 rfl
  have sa3_0 := cell_of (unhide HRR0).r0 3 rfl
  have sa4_0 := cell_of (unhide HRR0).r0 4 rfl
  have sa5_0 := cell_of (unhide HRR0).r0 5 rfl
  have sa6_0 := cell_of (unhide HRR0).r0 6 rfl
  have pa1_0 := cell_of (unhide HRR0).r3 1 rfl
  have pa2_0 := cell_of (unhide HRR0).r3 2 rfl
  have pa3_0 := cell_of (unhide HRR0).r3 3 rfl
  have pa4_0 := cell_of (unhide HRR0).r3 4 rfl
  have pa27_0 := cell_of (unhide HRR0).r3 27 rfl
  have pa28_0 := cell_of (unhide HRR0).r3 28 rfl
  have pf0 := fun j => fz_of (unhide HRR0).r3 j
  have pl0 := (unhide HRR0).lt
  have ql0 := (unhide HRR0).lt0
  have qm0 := (unhide HRR0).lt1
  go_upto_region 50 with (first
    | (refine (k_id_any S b v u q g x.a _ ((unhide HS).up (unhide HRR0).bl) ha0.1 ha0.2).mono ?_; rintro e w2 ⟨rfl, b2⟩; have HRR2 := hide ((unhide HRR0).up b2); have xa0_2 := cell_of (unhide HRR2).r1 0 rfl; have xa1_2 := cell_of (unhide HRR2).r1 1 rfl; have xa2_2 := cell_of (unhide HRR2).r1 2 rfl; have xa3_2 := cell_of (unhide HRR2).r1 3 rfl; have xa4_2 := cell_of (unhide HRR2).r1 4 rfl; have sa0_2 := cell_of (unhide HRR2).r0 0 rfl; have sa1_2 := cell_of (unhide HRR2).r0 1 rfl; have sa2_2 := cell_of (unhide HRR2).r0 2 rfl; have sa3_2 := cell_of (unhide HRR2).r0 3 rfl; have sa4_2 := cell_of (unhide HRR2).r0 4 rfl; have sa5_2 := cell_of (unhide HRR2).r0 5 rfl; have sa6_2 := cell_of (unhide HRR2).r0 6 rfl; have pa1_2 := cell_of (unhide HRR2).r3 1 rfl; have pa2_2 := cell_of (unhide HRR2).r3 2 rfl; have pa3_2 := cell_of (unhide HRR2).r3 3 rfl; have pa4_2 := cell_of (unhide HRR2).r3 4 rfl; have pa27_2 := cell_of (unhide HRR2).r3 27 rfl; have pa28_2 := cell_of (unhide HRR2).r3 28 rfl; have pf2 := fun j => fz_of (unhide HRR2).r3 j; have pl2 := (unhide HRR2).lt; have ql2 := (unhide HRR2).lt0; have qm2 := (unhide HRR2).lt1)
    | fail)
  have HF := hide (RR.set (c' := rcA { rcN 5 with id := idN S x.a } nl nl nl) (unhide HRR2) 1 (.int .i64 (idN S x.a)) rfl)
  have hP := (unhide HF).r3
  have hR := (unhide HF).r2
  have hbl := (unhide HF).bl
  refine wp_region_lit ?_
  refine wpList_load_mid rfl 47 (.tmp 5) rfl (w.heap.size + 1 + 1 + 1) 0 rfl (rcA ({ rcN 5 with id := idN S x.a }) nl nl nl).toList _ (fun j v hv => by rw [Nat.zero_add]; exact cell_of hP j (by simpa using hv)) Tryz.underlying47 rfl (by kernel_rfl) ?_
  refine wpList_store_mid rfl 47 (.tmp 4) (.tmp 217) rfl (w.heap.size + 1 + 1) 0 (rcA ({ rcN 5 with id := idN S x.a }) nl nl nl) rfl rfl (there_of (c := rcA (rcN 0) nl nl nl) (t := 47) hR) (by kernel_rfl) (by simp [Value.oneCell']) ?_
  have hrr := rec_end (c' := (rcA ({ rcN 5 with id := idN S x.a }) nl nl nl)) hR rfl
  revert hrr
  generalize World.setCells _ (w.heap.size + 1 + 1) 0 _ = W9
  intro hrr
  obtain ⟨r9, hg9⟩ := hrr
  clear hP hR
  go_wp2
  refine bodyPost_ret (v := rcV ({ rcN 5 with id := idN S x.a }) nl nl nl) (rec_res r9 rfl rfl) rfl ⟨nl, nl, nl, by rw [unhide HQ], ?_, ?_⟩
  · rw [unhide HQ]
    exact ⟨Ints.nil9 _, Ints.nil9 _, Ints.nil9 _⟩
  · exact bl_tr hbl (gb_lo hg9 (by have := hbl.size; omega) (fun j e => by injection e with e; omega))
set_option maxHeartbeats 2000000 in
theorem record_5 (S : St) (b v u q g : Value) (x : Rw) (w : World) (hS : Sta w b v u q g S) (hc : stC S = true) (hx : WfW x) (hk : pickI x.kind 14 = 5) :
    Calls Tryz.prog 25 #[stV S b v u q g, rwV x] w fun e w' => ∃ vv pv sv, e = .returned (rcV (recR S x) vv pv sv) ∧ RcI w' (recR S x) vv pv sv ∧ Below w.heap.size w w' := by
  have HS := hide hS
  obtain ⟨hk0, ha0, hb0, hc0, hd0⟩ := hx
  have HQ : Hid (recR S x = { rcN 6 with id := idN S x.a, vol := pickI x.b 3, pos := pickI x.c 1000 }) := by show _ = _; unfold recR; simp [hk]
  obtain ⟨Q, hQ⟩ : ∃ Q, recR S x = Q := ⟨_, rfl⟩
  rw [hQ] at HQ ⊢
  clear hQ hS
  have HK : Hid (∀ W : World, Calls Tryz.prog 10 #[.int .i64 x.kind, .int .i64 14] W fun e w' => e = .returned (.int .i64 5) ∧ W = w') := fun W => by
    have := picked_any x.kind 14 W (by decide) (by decide) hk0.1 hk0.2
    rw [hk] at this; exact this
  clear hk
  go_enter Tryz.func25, Tryz.ntmps25
  go_wp2_with fail
  refine (unhide HK _).mono ?_
  rintro e w1 ⟨rfl, rfl⟩
  simp only []
  rename_i hK0
  refine hK0 _ _ ?_
  clear hK0
  refine wpList_plain rfl (fun K hK => ?_)
  go_simp
  refine hK _ _ ?_
  clear hK
  refine wpList_plain rfl (fun K hK => ?_)
  go_simp
  refine hK _ _ ?_
  clear hK
  refine wpList_plain rfl (fun K hK => ?_)
  go_simp
  refine hK _ _ ?_
  clear hK
  rw [show IntKind.wrap .i64 6 = 6 by decide]
  refine wpList_store_mid rfl 47 (.tmp 5) (.tmp 14) rfl (w.heap.size + 1 + 1 + 1) 0 (rcA (rcN 6) nl nl nl) rfl rfl (there_of (c := rcA (rcN 0) nl nl nl) (t := 47) (rec_new _ _ _ _ _)) (by kernel_rfl) (by simp [Value.oneCell']) ?_
  generalize hWW : World.setCells _ (w.heap.size + 1 + 1 + 1) 0 _ = W1
  have hrr : W1.heap[w.heap.size]? = some (.cells #[.int .i64 S.next, .int .i64 S.clock, b, v, u, q, g] 29 (0, 0)) ∧ W1.heap[w.heap.size + 1]? = some (.cells #[.int .i64 x.kind, .int .i64 x.a, .int .i64 x.b, .int .i64 x.c, .int .i64 x.d, .string x.text] 72 (0, 0)) ∧ W1.heap[w.heap.size + 1 + 1]? = some (.cells (rcA (rcN 0) nl nl nl) 47 (0, 0)) ∧ W1.heap[w.heap.size + 1 + 1 + 1]? = some (.cells (rcA (rcN 6) nl nl nl) 47 (0, 0)) ∧ Below w.heap.size w W1 := by
    rw [← hWW]
    exact rec_rows w (.cells #[.int .i64 S.next, .int .i64 S.clock, b, v, u, q, g] 29) (.cells #[.int .i64 x.kind, .int .i64 x.a, .int .i64 x.b, .int .i64 x.c, .int .i64 x.d, .string x.text] 72) (.cells (rcA (rcN 0) nl nl nl) 47) (rcA (rcN 0) nl nl nl) (rcA (rcN 6) nl nl nl) rfl
  clear hWW
  obtain ⟨r0, r1, r2, r3, hw1⟩ := hrr
  have HRR0 : Hid (RR w W1 #[.int .i64 S.next, .int .i64 S.clock, b, v, u, q, g] x (rcA (rcN 6) nl nl nl)) := ⟨r0, r1, r2, r3, hw1⟩
  have k0 : W1.cell? ⟨w.heap.size + 1 + 1 + 1, 0, none⟩ = some (.int .i64 6) := cell_of r3 0 rfl
  clear r0 r1 r2 r3
  have xa0_0 := cell_of (unhide HRR0).r1 0 rfl
  have xa1_0 := cell_of (unhide HRR0).r1 1 rfl
  have xa2_0 := cell_of (unhide HRR0).r1 2 rfl
  have xa3_0 := cell_of (unhide HRR0).r1 3 rfl
  have xa4_0 := cell_of (unhide HRR0).r1 4 rfl
  have sa0_0 := cell_of (unhide HRR0).r0 0 rfl
  have sa1_0 := cell_of (unhide HRR0).r0 1 rfl
  have sa2_0 := cell_of (unhide HRR0).r0 2 rfl
  have sa3_0 := cell_of (unhide HRR0).r0 3 rfl
  have sa4_0 := cell_of (unhide HRR0).r0 4 rfl
  have sa5_0 := cell_of (unhide HRR0).r0 5 rfl
  have sa6_0 := cell_of (unhide HRR0).r0 6 rfl
  have pa1_0 := cell_of (unhide HRR0).r3 1 rfl
  have pa2_0 := cell_of (unhide HRR0).r3 2 rfl
  have pa3_0 := cell_of (unhide HRR0).r3 3 rfl
  have pa4_0 := cell_of (unhide HRR0).r3 4 rfl
  have pa27_0 := cell_of (unhide HRR0).r3 27 rfl
  have pa28_0 := cell_of (unhide HRR0).r3 28 rfl
  have pf0 := fun j => fz_of (unhide HRR0).r3 j
  have pl0 := (unhide HRR0).lt
  have ql0 := (unhide HRR0).lt0
  have qm0 := (unhide HRR0).lt1
  go_upto_region 50 with (first
    | (refine (k_id_any S b v u q g x.a _ ((unhide HS).up (unhide HRR0).bl) ha0.1 ha0.2).mono ?_; rintro e w2 ⟨rfl, b2⟩; have HRR2 := hide ((unhide HRR0).up b2); have xa0_2 := cell_of (unhide HRR2).r1 0 rfl; have xa1_2 := cell_of (unhide HRR2).r1 1 rfl; have xa2_2 := cell_of (unhide HRR2).r1 2 rfl; have xa3_2 := cell_of (unhide HRR2).r1 3 rfl; have xa4_2 := cell_of (unhide HRR2).r1 4 rfl; have sa0_2 := cell_of (unhide HRR2).r0 0 rfl; have sa1_2 := cell_of (unhide HRR2).r0 1 rfl; have sa2_2 := cell_of (unhide HRR2).r0 2 rfl; have sa3_2 := cell_of (unhide HRR2).r0 3 rfl; have sa4_2 := cell_of (unhide HRR2).r0 4 rfl; have sa5_2 := cell_of (unhide HRR2).r0 5 rfl; have sa6_2 := cell_of (unhide HRR2).r0 6 rfl; have pa1_2 := cell_of (unhide HRR2).r3 1 rfl; have pa2_2 := cell_of (unhide HRR2).r3 2 rfl; have pa3_2 := cell_of (unhide HRR2).r3 3 rfl; have pa4_2 := cell_of (unhide HRR2).r3 4 rfl; have pa27_2 := cell_of (unhide HRR2).r3 27 rfl; have pa28_2 := cell_of (unhide HRR2).r3 28 rfl; have pf2 := fun j => fz_of (unhide HRR2).r3 j; have pl2 := (unhide HRR2).lt; have ql2 := (unhide HRR2).lt0; have qm2 := (unhide HRR2).lt1)
    | (with_reducible refine (picked_any x.b 3 _ (by decide) (by decide) hb0.1 hb0.2).mono ?_; rintro e w3 ⟨rfl, rfl⟩)
    | (with_reducible refine (picked_any x.c 1000 _ (by decide) (by decide) hc0.1 hc0.2).mono ?_; rintro e w3 ⟨rfl, rfl⟩)
    | fail)
  have HF := hide (RR.set (c' := rcA { rcN 6 with id := idN S x.a, vol := pickI x.b 3, pos := pickI x.c 1000 } nl nl nl) (RR.set (c' := rcA { rcN 6 with id := idN S x.a, vol := pickI x.b 3 } nl nl nl) (RR.set (c' := rcA { rcN 6 with id := idN S x.a } nl nl nl) (unhide HRR2) 1 (.int .i64 (idN S x.a)) rfl) 27 (.int .i64 (pickI x.b 3)) rfl) 28 (.int .i64 (pickI x.c 1000)) rfl)
  have hP := (unhide HF).r3
  have hR := (unhide HF).r2
  have hbl := (unhide HF).bl
  refine wp_region_lit ?_
  refine wpList_load_mid rfl 47 (.tmp 5) rfl (w.heap.size + 1 + 1 + 1) 0 rfl (rcA ({ rcN 6 with id := idN S x.a, vol := pickI x.b 3, pos := pickI x.c 1000 }) nl nl nl).toList _ (fun j v hv => by rw [Nat.zero_add]; exact cell_of hP j (by simpa using hv)) Tryz.underlying47 rfl (by kernel_rfl) ?_
  refine wpList_store_mid rfl 47 (.tmp 4) (.tmp 217) rfl (w.heap.size + 1 + 1) 0 (rcA ({ rcN 6 with id := idN S x.a, vol := pickI x.b 3, pos := pickI x.c 1000 }) nl nl nl) rfl rfl (there_of (c := rcA (rcN 0) nl nl nl) (t := 47) hR) (by kernel_rfl) (by simp [Value.oneCell']) ?_
  have hrr := rec_end (c' := (rcA ({ rcN 6 with id := idN S x.a, vol := pickI x.b 3, pos := pickI x.c 1000 }) nl nl nl)) hR rfl
  revert hrr
  generalize World.setCells _ (w.heap.size + 1 + 1) 0 _ = W9
  intro hrr
  obtain ⟨r9, hg9⟩ := hrr
  clear hP hR
  go_wp2
  refine bodyPost_ret (v := rcV ({ rcN 6 with id := idN S x.a, vol := pickI x.b 3, pos := pickI x.c 1000 }) nl nl nl) (rec_res r9 rfl rfl) rfl ⟨nl, nl, nl, by rw [unhide HQ], ?_, ?_⟩
  · rw [unhide HQ]
    exact ⟨Ints.nil9 _, Ints.nil9 _, Ints.nil9 _⟩
  · exact bl_tr hbl (gb_lo hg9 (by have := hbl.size; omega) (fun j e => by injection e with e; omega))
set_option maxHeartbeats 2000000 in
theorem record_8 (S : St) (b v u q g : Value) (x : Rw) (w : World) (hS : Sta w b v u q g S) (hc : stC S = true) (hx : WfW x) (hk : pickI x.kind 14 = 8) :
    Calls Tryz.prog 25 #[stV S b v u q g, rwV x] w fun e w' => ∃ vv pv sv, e = .returned (rcV (recR S x) vv pv sv) ∧ RcI w' (recR S x) vv pv sv ∧ Below w.heap.size w w' := by
  have HS := hide hS
  obtain ⟨hk0, ha0, hb0, hc0, hd0⟩ := hx
  have HQ : Hid (recR S x = { rcN 9 with id := idN S x.a }) := by show _ = _; unfold recR; simp [hk]
  obtain ⟨Q, hQ⟩ : ∃ Q, recR S x = Q := ⟨_, rfl⟩
  rw [hQ] at HQ ⊢
  clear hQ hS
  have HK : Hid (∀ W : World, Calls Tryz.prog 10 #[.int .i64 x.kind, .int .i64 14] W fun e w' => e = .returned (.int .i64 8) ∧ W = w') := fun W => by
    have := picked_any x.kind 14 W (by decide) (by decide) hk0.1 hk0.2
    rw [hk] at this; exact this
  clear hk
  go_enter Tryz.func25, Tryz.ntmps25
  go_wp2_with fail
  refine (unhide HK _).mono ?_
  rintro e w1 ⟨rfl, rfl⟩
  simp only []
  rename_i hK0
  refine hK0 _ _ ?_
  clear hK0
  refine wpList_plain rfl (fun K hK => ?_)
  go_simp
  refine hK _ _ ?_
  clear hK
  refine wpList_plain rfl (fun K hK => ?_)
  go_simp
  refine hK _ _ ?_
  clear hK
  refine wpList_plain rfl (fun K hK => ?_)
  go_simp
  refine hK _ _ ?_
  clear hK
  rw [show IntKind.wrap .i64 9 = 9 by decide]
  refine wpList_store_mid rfl 47 (.tmp 5) (.tmp 14) rfl (w.heap.size + 1 + 1 + 1) 0 (rcA (rcN 9) nl nl nl) rfl rfl (there_of (c := rcA (rcN 0) nl nl nl) (t := 47) (rec_new _ _ _ _ _)) (by kernel_rfl) (by simp [Value.oneCell']) ?_
  generalize hWW : World.setCells _ (w.heap.size + 1 + 1 + 1) 0 _ = W1
  have hrr : W1.heap[w.heap.size]? = some (.cells #[.int .i64 S.next, .int .i64 S.clock, b, v, u, q, g] 29 (0, 0)) ∧ W1.heap[w.heap.size + 1]? = some (.cells #[.int .i64 x.kind, .int .i64 x.a, .int .i64 x.b, .int .i64 x.c, .int .i64 x.d, .string x.text] 72 (0, 0)) ∧ W1.heap[w.heap.size + 1 + 1]? = some (.cells (rcA (rcN 0) nl nl nl) 47 (0, 0)) ∧ W1.heap[w.heap.size + 1 + 1 + 1]? = some (.cells (rcA (rcN 9) nl nl nl) 47 (0, 0)) ∧ Below w.heap.size w W1 := by
    rw [← hWW]
    exact rec_rows w (.cells #[.int .i64 S.next, .int .i64 S.clock, b, v, u, q, g] 29) (.cells #[.int .i64 x.kind, .int .i64 x.a, .int .i64 x.b, .int .i64 x.c, .int .i64 x.d, .string x.text] 72) (.cells (rcA (rcN 0) nl nl nl) 47) (rcA (rcN 0) nl nl nl) (rcA (rcN 9) nl nl nl) rfl
  clear hWW
  obtain ⟨r0, r1, r2, r3, hw1⟩ := hrr
  have HRR0 : Hid (RR w W1 #[.int .i64 S.next, .int .i64 S.clock, b, v, u, q, g] x (rcA (rcN 9) nl nl nl)) := ⟨r0, r1, r2, r3, hw1⟩
  have k0 : W1.cell? ⟨w.heap.size + 1 + 1 + 1, 0, none⟩ = some (.int .i64 9) := cell_of r3 0 rfl
  clear r0 r1 r2 r3
  have xa0_0 := cell_of (unhide HRR0).r1 0 rfl
  have xa1_0 := cell_of (unhide HRR0).r1 1 rfl
  have xa2_0 := cell_of (unhide HRR0).r1 2 rfl
  have xa3_0 := cell_of (unhide HRR0).r1 3 rfl
  have xa4_0 := cell_of (unhide HRR0).r1 4 rfl
  have sa0_0 := cell_of (unhide HRR0).r0 0 rfl
  have sa1_0 := cell_of (unhide HRR0).r0 1 rfl
  have sa2_0 := cell_of (unhide HRR0).r0 2 rfl
  have sa3_0 := cell_of (unhide HRR0).r0 3 rfl
  have sa4_0 := cell_of (unhide HRR0).r0 4 rfl
  have sa5_0 := cell_of (unhide HRR0).r0 5 rfl
  have sa6_0 := cell_of (unhide HRR0).r0 6 rfl
  have pa1_0 := cell_of (unhide HRR0).r3 1 rfl
  have pa2_0 := cell_of (unhide HRR0).r3 2 rfl
  have pa3_0 := cell_of (unhide HRR0).r3 3 rfl
  have pa4_0 := cell_of (unhide HRR0).r3 4 rfl
  have pa27_0 := cell_of (unhide HRR0).r3 27 rfl
  have pa28_0 := cell_of (unhide HRR0).r3 28 rfl
  have pf0 := fun j => fz_of (unhide HRR0).r3 j
  have pl0 := (unhide HRR0).lt
  have ql0 := (unhide HRR0).lt0
  have qm0 := (unhide HRR0).lt1
  go_upto_region 50 with (first
    | (refine (k_id_any S b v u q g x.a _ ((unhide HS).up (unhide HRR0).bl) ha0.1 ha0.2).mono ?_; rintro e w2 ⟨rfl, b2⟩; have HRR2 := hide ((unhide HRR0).up b2); have xa0_2 := cell_of (unhide HRR2).r1 0 rfl; have xa1_2 := cell_of (unhide HRR2).r1 1 rfl; have xa2_2 := cell_of (unhide HRR2).r1 2 rfl; have xa3_2 := cell_of (unhide HRR2).r1 3 rfl; have xa4_2 := cell_of (unhide HRR2).r1 4 rfl; have sa0_2 := cell_of (unhide HRR2).r0 0 rfl; have sa1_2 := cell_of (unhide HRR2).r0 1 rfl; have sa2_2 := cell_of (unhide HRR2).r0 2 rfl; have sa3_2 := cell_of (unhide HRR2).r0 3 rfl; have sa4_2 := cell_of (unhide HRR2).r0 4 rfl; have sa5_2 := cell_of (unhide HRR2).r0 5 rfl; have sa6_2 := cell_of (unhide HRR2).r0 6 rfl; have pa1_2 := cell_of (unhide HRR2).r3 1 rfl; have pa2_2 := cell_of (unhide HRR2).r3 2 rfl; have pa3_2 := cell_of (unhide HRR2).r3 3 rfl; have pa4_2 := cell_of (unhide HRR2).r3 4 rfl; have pa27_2 := cell_of (unhide HRR2).r3 27 rfl; have pa28_2 := cell_of (unhide HRR2).r3 28 rfl; have pf2 := fun j => fz_of (unhide HRR2).r3 j; have pl2 := (unhide HRR2).lt; have ql2 := (unhide HRR2).lt0; have qm2 := (unhide HRR2).lt1)
    | fail)
  have HF := hide (RR.set (c' := rcA { rcN 9 with id := idN S x.a } nl nl nl) (unhide HRR2) 1 (.int .i64 (idN S x.a)) rfl)
  have hP := (unhide HF).r3
  have hR := (unhide HF).r2
  have hbl := (unhide HF).bl
  refine wp_region_lit ?_
  refine wpList_load_mid rfl 47 (.tmp 5) rfl (w.heap.size + 1 + 1 + 1) 0 rfl (rcA ({ rcN 9 with id := idN S x.a }) nl nl nl).toList _ (fun j v hv => by rw [Nat.zero_add]; exact cell_of hP j (by simpa using hv)) Tryz.underlying47 rfl (by kernel_rfl) ?_
  refine wpList_store_mid rfl 47 (.tmp 4) (.tmp 217) rfl (w.heap.size + 1 + 1) 0 (rcA ({ rcN 9 with id := idN S x.a }) nl nl nl) rfl rfl (there_of (c := rcA (rcN 0) nl nl nl) (t := 47) hR) (by kernel_rfl) (by simp [Value.oneCell']) ?_
  have hrr := rec_end (c' := (rcA ({ rcN 9 with id := idN S x.a }) nl nl nl)) hR rfl
  revert hrr
  generalize World.setCells _ (w.heap.size + 1 + 1) 0 _ = W9
  intro hrr
  obtain ⟨r9, hg9⟩ := hrr
  clear hP hR
  go_wp2
  refine bodyPost_ret (v := rcV ({ rcN 9 with id := idN S x.a }) nl nl nl) (rec_res r9 rfl rfl) rfl ⟨nl, nl, nl, by rw [unhide HQ], ?_, ?_⟩
  · rw [unhide HQ]
    exact ⟨Ints.nil9 _, Ints.nil9 _, Ints.nil9 _⟩
  · exact bl_tr hbl (gb_lo hg9 (by have := hbl.size; omega) (fun j e => by injection e with e; omega))
end Go.Proofs.YtdgmdapijhbocaaGreat
