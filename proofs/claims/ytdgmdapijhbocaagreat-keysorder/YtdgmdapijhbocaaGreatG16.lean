/- icehousekeep.Record, kind by kind. -/
import Derived.Test.YtdgmdapijhbocaaGreatG15
import Derived.Deep.RegionHeld3
import Derived.Test.YtdgmdapijhbocaaGreatG14
import Derived.Test.YtdgmdapijhbocaaGreatG1
import Derived.Orders
namespace Go.Proofs.YtdgmdapijhbocaaGreat
open Go.RowKit Go.Maps
set_option maxRecDepth 100000
set_option linter.unusedVariables false
set_option linter.unusedSimpArgs false
set_option maxHeartbeats 2000000 in
theorem record_4 (S : St) (b v u q g : Value) (x : Rw) (w : World) (hS : Sta w b v u q g S) (hc : stC S = true) (hx : WfW x) (hk : pickI x.kind 14 = 4) :
    Calls Tryz.prog 25 #[stV S b v u q g, rwV x] w fun e w' => ∃ vv pv sv, e = .returned (rcV (recR S x) vv pv sv) ∧ RcI w' (recR S x) vv pv sv ∧ Below w.heap.size w w' := by
  have HS := hide hS
  obtain ⟨hk0, ha0, hb0, hc0, hd0⟩ := hx
  have HQ : Hid (recR S x = { rcN 5 with id := idN S x.a }) := by show _ = _; unfold recR; simp [hk]
  obtain ⟨Q, hQ⟩ : ∃ Q, recR S x = Q := ⟨_, rfl⟩
  rw [hQ] at HQ ⊢
  clear hQ hS
  have HK : Hid (∀ W : World, Calls Tryz.prog 10 #[.int .i64 x.kind, .int .i64 14] W fun e w' => e = .returned (.int .i64 4) ∧ W = w') := fun W => by
    have := picked_any x.kind 14 W (by decide) (by decide) hk0.1 hk0.2
    rw [hk] at this; exact this
  clear hk
  go_enter Tryz.func25, Tryz.ntmps25
  go_wp2_with fail
  refine (unhide HK _).mono ?_
  rintro e w1 ⟨rfl, rfl⟩
  simp only []
  rename_i hK0
  refine hK0 _ _ ?_
  clear hK0
  refine wpList_plain rfl (fun K hK => ?_)
  go_simp
  refine hK _ _ ?_
  clear hK
  refine wpList_plain rfl (fun K hK => ?_)
  go_simp
  refine hK _ _ ?_
  clear hK
  refine wpList_plain rfl (fun K hK => ?_)
  go_simp
  refine hK _ _ ?_
  clear hK
  rw [show IntKind.wrap .i64 5 = 5 by decide]
  refine wpList_store_mid rfl 47 (.tmp 5) (.tmp 14) rfl (w.heap.size + 1 + 1 + 1) 0 (rcA (rcN 5) nl nl nl) rfl rfl (there_of (c := rcA (rcN 0) nl nl nl) (t := 47) (rec_new _ _ _ _ _)) (by kernel_rfl) (by simp [Value.oneCell']) ?_
  generalize hWW : World.setCells _ (w.heap.size + 1 + 1 + 1) 0 _ = W1
  have hrr : W1.heap[w.heap.size]? = some (.cells #[.int .i64 S.next, .int .i64 S.clock, b, v, u, q, g] 29 (0, 0)) ∧ W1.heap[w.heap.size + 1]? = some (.cells #[.int .i64 x.kind, .int .i64 x.a, .int .i64 x.b, .int .i64 x.c, .int .i64 x.d, .string x.text] 72 (0, 0)) ∧ W1.heap[w.heap.size + 1 + 1]? = some (.cells (rcA (rcN 0) nl nl nl) 47 (0, 0)) ∧ W1.heap[w.heap.size + 1 + 1 + 1]? = some (.cells (rcA (rcN 5) nl nl nl) 47 (0, 0)) ∧ Below w.heap.size w W1 := by
    rw [← hWW]
    exact rec_rows w (.cells #[.int .i64 S.next, .int .i64 S.clock, b, v, u, q, g] 29) (.cells #[.int .i64 x.kind, .int .i64 x.a, .int .i64 x.b, .int .i64 x.c, .int .i64 x.d, .string x.text] 72) (.cells (rcA (rcN 0) nl nl nl) 47) (rcA (rcN 0) nl nl nl) (rcA (rcN 5) nl nl nl) rfl
  clear hWW
  obtain ⟨r0, r1, r2, r3, hw1⟩ := hrr
  have HRR0 : Hid (RR w W1 #[.int .i64 S.next, .int .i64 S.clock, b, v, u, q, g] x (rcA (rcN 5) nl nl nl)) := ⟨r0, r1, r2, r3, hw1⟩
  have k0 : W1.cell? ⟨w.heap.size + 1 + 1 + 1, 0, none⟩ = some (.int .i64 5) := cell_of r3 0 rfl
  clear r0 r1 r2 r3
  have xa0_0 := cell_of (unhide HRR0).r1 0 rfl
  have xa1_0 := cell_of (unhide HRR0).r1 1 rfl
  have xa2_0 := cell_of (unhide HRR0).r1 2 rfl
  have xa3_0 := cell_of (unhide HRR0).r1 3 rfl
  have xa4_0 := cell_of (unhide HRR0).r1 4 rfl
  have sa0_0 := cell_of (unhide HRR0).r0 0 rfl
  have sa1_0 := cell_of (unhide HRR0).r0 1 rfl
  have sa2_0 := cell_of (unhide HRR0).r0 2 rfl
  have sa3_0 := cell_of (unhide HRR0).r0 3 rfl
  have sa4_0 := cell_of (unhide HRR0).r0 4 rfl
  have sa5_0 := cell_of (unhide HRR0).r0 5 rfl
  have sa6_0 := cell_of (unhide HRR0).r0 6 rfl
  have pa1_0 := cell_of (unhide HRR0).r3 1 rfl
  have pa2_0 := cell_of (unhide HRR0).r3 2 rfl
  have pa3_0 := cell_of (unhide HRR0).r3 3 rfl
  have pa4_0 := cell_of (unhide HRR0).r3 4 rfl
  have pa27_0 := cell_of (unhide HRR0).r3 27 rfl
  have pa28_0 := cell_of (unhide HRR0).r3 28 rfl
  have pf0 := fun j => fz_of (unhide HRR0).r3 j
  have pl0 := (unhide HRR0).lt
  have ql0 := (unhide HRR0).lt0
  have qm0 := (unhide HRR0).lt1
  go_upto_region 50 with (first
    | (refine (k_id_any S b v u q g x.a _ ((unhide HS).up (unhide HRR0).bl) ha0.1 ha0.2).mono ?_; rintro e w2 ⟨rfl, b2⟩; have HRR2 := hide ((unhide HRR0).up b2); have xa0_2 := cell_of (unhide HRR2).r1 0 rfl; have xa1_2 := cell_of (unhide HRR2).r1 1 rfl; have xa2_2 := cell_of (unhide HRR2).r1 2 rfl; have xa3_2 := cell_of (unhide HRR2).r1 3 rfl; have xa4_2 := cell_of (unhide HRR2).r1 4 rfl; have sa0_2 := cell_of (unhide HRR2).r0 0 rfl; have sa1_2 := cell_of (unhide HRR2).r0 1 rfl; have sa2_2 := cell_of (unhide HRR2).r0 2 rfl; have sa3_2 := cell_of (unhide HRR2).r0 3 rfl; have sa4_2 := cell_of (unhide HRR2).r0 4 rfl; have sa5_2 := cell_of (unhide HRR2).r0 5 rfl; have sa6_2 := cell_of (unhide HRR2).r0 6 rfl; have pa1_2 := cell_of (unhide HRR2).r3 1 rfl; have pa2_2 := cell_of (unhide HRR2).r3 2 rfl; have pa3_2 := cell_of (unhide HRR2).r3 3 rfl; have pa4_2 := cell_of (unhide HRR2).r3 4 rfl; have pa27_2 := cell_of (unhide HRR2).r3 27 rfl; have pa28_2 := cell_of (unhide HRR2).r3 28 rfl; have pf2 := fun j => fz_of (unhide HRR2).r3 j; have pl2 := (unhide HRR2).lt; have ql2 := (unhide HRR2).lt0; have qm2 := (unhide HRR2).lt1)
    | fail)
  have HF := hide (RR.set (c' := rcA { rcN 5 with id := idN S x.a } nl nl nl) (unhide HRR2) 1 (.int .i64 (idN S x.a)) rfl)
  have hP := (unhide HF).r3
  have hR := (unhide HF).r2
  have hbl := (unhide HF).bl
  refine wp_region_lit ?_
  refine wpList_load_mid rfl 47 (.tmp 5) rfl (w.heap.size + 1 + 1 + 1) 0 rfl (rcA ({ rcN 5 with id := idN S x.a }) nl nl nl).toList _ (fun j v hv => by rw [Nat.zero_add]; exact cell_of hP j (by simpa using hv)) Tryz.underlying47 rfl (by kernel_rfl) ?_
  refine wpList_store_mid rfl 47 (.tmp 4) (.tmp 217) rfl (w.heap.size + 1 + 1) 0 (rcA ({ rcN 5 with id := idN S x.a }) nl nl nl) rfl rfl (there_of (c := rcA (rcN 0) nl nl nl) (t := 47) hR) (by kernel_rfl) (by simp [Value.oneCell']) ?_
  have hrr := rec_end (c' := (rcA ({ rcN 5 with id := idN S x.a }) nl nl nl)) hR rfl
  revert hrr
  generalize World.setCells _ (w.heap.size + 1 + 1) 0 _ = W9
  intro hrr
  obtain ⟨r9, hg9⟩ := hrr
  clear hP hR
  go_wp2
  refine bodyPost_ret (v := rcV ({ rcN 5 with id := idN S x.a }) nl nl nl) (rec_res r9 rfl rfl) rfl ⟨nl, nl, nl, by rw [unhide HQ], ?_, ?_⟩
  · rw [unhide HQ]
    exact ⟨Ints.nil9 _, Ints.nil9 _, Ints.nil9 _⟩
  · exact bl_tr hbl (gb_lo hg9 (by have := hbl.size; omega) (fun j e => by injection e with e; omega))
set_option maxHeartbeats 2000000 in
theorem record_5 (S : St) (b v u q g : Value) (x : Rw) (w : World) (hS : Sta w b v u q g S) (hc : stC S = true) (hx : WfW x) (hk : pickI x.kind 14 = 5) :
    Calls Tryz.prog 25 #[stV S b v u q g, rwV x] w fun e w' => ∃ vv pv sv, e = .returned (rcV (recR S x) vv pv sv) ∧ RcI w' (recR S x) vv pv sv ∧ Below w.heap.size w w' := by
  have HS := hide hS
  obtain ⟨hk0, ha0, hb0, hc0, hd0⟩ := hx
  have HQ : Hid (recR S x = { rcN 6 with id := idN S x.a, vol := pickI x.b 3, pos := pickI x.c 1000 }) := by show _ = _; unfold recR; simp [hk]
  obtain ⟨Q, hQ⟩ : ∃ Q, recR S x = Q := ⟨_, rfl⟩
  rw [hQ] at HQ ⊢
  clear hQ hS
  have HK : Hid (∀ W : World, Calls Tryz.prog 10 #[.int .i64 x.kind, .int .i64 14] W fun e w' => e = .returned (.int .i64 5) ∧ W = w') := fun W => by
    have := picked_any x.kind 14 W (by decide) (by decide) hk0.1 hk0.2
    rw [hk] at this; exact this
  clear hk
  go_enter Tryz.func25, Tryz.ntmps25
  go_wp2_with fail
  refine (unhide HK _).mono ?_
  rintro e w1 ⟨rfl, rfl⟩
  simp only []
  rename_i hK0
  refine hK0 _ _ ?_
  clear hK0
  refine wpList_plain rfl (fun K hK => ?_)
  go_simp
  refine hK _ _ ?_
  clear hK
  refine wpList_plain rfl (fun K hK => ?_)
  go_simp
  refine hK _ _ ?_
  clear hK
  refine wpList_plain rfl (fun K hK => ?_)
  go_simp
  refine hK _ _ ?_
  clear hK
  rw [show IntKind.wrap .i64 6 = 6 by decide]
  refine wpList_store_mid rfl 47 (.tmp 5) (.tmp 14) rfl (w.heap.size + 1 + 1 + 1) 0 (rcA (rcN 6) nl nl nl) rfl rfl (there_of (c := rcA (rcN 0) nl nl nl) (t := 47) (rec_new _ _ _ _ _)) (by kernel_rfl) (by simp [Value.oneCell']) ?_
  generalize hWW : World.setCells _ (w.heap.size + 1 + 1 + 1) 0 _ = W1
  have hrr : W1.heap[w.heap.size]? = some (.cells #[.int .i64 S.next, .int .i64 S.clock, b, v, u, q, g] 29 (0, 0)) ∧ W1.heap[w.heap.size + 1]? = some (.cells #[.int .i64 x.kind, .int .i64 x.a, .int .i64 x.b, .int .i64 x.c, .int .i64 x.d, .string x.text] 72 (0, 0)) ∧ W1.heap[w.heap.size + 1 + 1]? = some (.cells (rcA (rcN 0) nl nl nl) 47 (0, 0)) ∧ W1.heap[w.heap.size + 1 + 1 + 1]? = some (.cells (rcA (rcN 6) nl nl nl) 47 (0, 0)) ∧ Below w.heap.size w W1 := by
    rw [← hWW]
    exact rec_rows w (.cells #[.int .i64 S.next, .int .i64 S.clock, b, v, u, q, g] 29) (.cells #[.int .i64 x.kind, .int .i64 x.a, .int .i64 x.b, .int .i64 x.c, .int .i64 x.d, .string x.text] 72) (.cells (rcA (rcN 0) nl nl nl) 47) (rcA (rcN 0) nl nl nl) (rcA (rcN 6) nl nl nl) rfl
  clear hWW
  obtain ⟨r0, r1, r2, r3, hw1⟩ := hrr
  have HRR0 : Hid (RR w W1 #[.int .i64 S.next, .int .i64 S.clock, b, v, u, q, g] x (rcA (rcN 6) nl nl nl)) := ⟨r0, r1, r2, r3, hw1⟩
  have k0 : W1.cell? ⟨w.heap.size + 1 + 1 + 1, 0, none⟩ = some (.int .i64 6) := cell_of r3 0 rfl
  clear r0 r1 r2 r3
  have xa0_0 := cell_of (unhide HRR0).r1 0 rfl
  have xa1_0 := cell_of (unhide HRR0).r1 1 rfl
  have xa2_0 := cell_of (unhide HRR0).r1 2 rfl
  have xa3_0 := cell_of (unhide HRR0).r1 3 rfl
  have xa4_0 := cell_of (unhide HRR0).r1 4 rfl
  have sa0_0 := cell_of (unhide HRR0).r0 0 rfl
  have sa1_0 := cell_of (unhide HRR0).r0 1 rfl
  have sa2_0 := cell_of (unhide HRR0).r0 2 rfl
  have sa3_0 := cell_of (unhide HRR0).r0 3 rfl
  have sa4_0 := cell_of (unhide HRR0).r0 4 rfl
  have sa5_0 := cell_of (unhide HRR0).r0 5 rfl
  have sa6_0 := cell_of (unhide HRR0).r0 6 rfl
  have pa1_0 := cell_of (unhide HRR0).r3 1 rfl
  have pa2_0 := cell_of (unhide HRR0).r3 2 rfl
  have pa3_0 := cell_of (unhide HRR0).r3 3 rfl
  have pa4_0 := cell_of (unhide HRR0).r3 4 rfl
  have pa27_0 := cell_of (unhide HRR0).r3 27 rfl
  have pa28_0 := cell_of (unhide HRR0).r3 28 rfl
  have pf0 := fun j => fz_of (unhide HRR0).r3 j
  have pl0 := (unhide HRR0).lt
  have ql0 := (unhide HRR0).lt0
  have qm0 := (unhide HRR0).lt1
  go_upto_region 50 with (first
    | (refine (k_id_any S b v u q g x.a _ ((unhide HS).up (unhide HRR0).bl) ha0.1 ha0.2).mono ?_; rintro e w2 ⟨rfl, b2⟩; have HRR2 := hide ((unhide HRR0).up b2); have xa0_2 := cell_of (unhide HRR2).r1 0 rfl; have xa1_2 := cell_of (unhide HRR2).r1 1 rfl; have xa2_2 := cell_of (unhide HRR2).r1 2 rfl; have xa3_2 := cell_of (unhide HRR2).r1 3 rfl; have xa4_2 := cell_of (unhide HRR2).r1 4 rfl; have sa0_2 := cell_of (unhide HRR2).r0 0 rfl; have sa1_2 := cell_of (unhide HRR2).r0 1 rfl; have sa2_2 := cell_of (unhide HRR2).r0 2 rfl; have sa3_2 := cell_of (unhide HRR2).r0 3 rfl; have sa4_2 := cell_of (unhide HRR2).r0 4 rfl; have sa5_2 := cell_of (unhide HRR2).r0 5 rfl; have sa6_2 := cell_of (unhide HRR2).r0 6 rfl; have pa1_2 := cell_of (unhide HRR2).r3 1 rfl; have pa2_2 := cell_of (unhide HRR2).r3 2 rfl; have pa3_2 := cell_of (unhide HRR2).r3 3 rfl; have pa4_2 := cell_of (unhide HRR2).r3 4 rfl; have pa27_2 := cell_of (unhide HRR2).r3 27 rfl; have pa28_2 := cell_of (unhide HRR2).r3 28 rfl; have pf2 := fun j => fz_of (unhide HRR2).r3 j; have pl2 := (unhide HRR2).lt; have ql2 := (unhide HRR2).lt0; have qm2 := (unhide HRR2).lt1)
    | (with_reducible refine (picked_any x.b 3 _ (by decide) (by decide) hb0.1 hb0.2).mono ?_; rintro e w3 ⟨rfl, rfl⟩)
    | (with_reducible refine (picked_any x.c 1000 _ (by decide) (by decide) hc0.1 hc0.2).mono ?_; rintro e w3 ⟨rfl, rfl⟩)
    | fail)
  have HF := hide (RR.set (c' := rcA { rcN 6 with id := idN S x.a, vol := pickI x.b 3, pos := pickI x.c 1000 } nl nl nl) (RR.set (c' := rcA { rcN 6 with id := idN S x.a, vol := pickI x.b 3 } nl nl nl) (RR.set (c' := rcA { rcN 6 with id := idN S x.a } nl nl nl) (unhide HRR2) 1 (.int .i64 (idN S x.a)) rfl) 27 (.int .i64 (pickI x.b 3)) rfl) 28 (.int .i64 (pickI x.c 1000)) rfl)
  have hP := (unhide HF).r3
  have hR := (unhide HF).r2
  have hbl := (unhide HF).bl
  refine wp_region_lit ?_
  refine wpList_load_mid rfl 47 (.tmp 5) rfl (w.heap.size + 1 + 1 + 1) 0 rfl (rcA ({ rcN 6 with id := idN S x.a, vol := pickI x.b 3, pos := pickI x.c 1000 }) nl nl nl).toList _ (fun j v hv => by rw [Nat.zero_add]; exact cell_of hP j (by simpa using hv)) Tryz.underlying47 rfl (by kernel_rfl) ?_
  refine wpList_store_mid rfl 47 (.tmp 4) (.tmp 217) rfl (w.heap.size + 1 + 1) 0 (rcA ({ rcN 6 with id := idN S x.a, vol := pickI x.b 3, pos := pickI x.c 1000 }) nl nl nl) rfl rfl (there_of (c := rcA (rcN 0) nl nl nl) (t := 47) hR) (by kernel_rfl) (by simp [Value.oneCell']) ?_
  have hrr := rec_end (c' := (rcA ({ rcN 6 with id := idN S x.a, vol := pickI x.b 3, pos := pickI x.c 1000 }) nl nl nl)) hR rfl
  revert hrr
  generalize World.setCells _ (w.heap.size + 1 + 1) 0 _ = W9
  intro hrr
  obtain ⟨r9, hg9⟩ := hrr
  clear hP hR
  go_wp2
  refine bodyPost_ret (v := rcV ({ rcN 6 with id := idN S x.a, vol := pickI x.b 3, pos := pickI x.c 1000 }) nl nl nl) (rec_res r9 rfl rfl) rfl ⟨nl, nl, nl, by rw [unhide HQ], ?_, ?_⟩
  · rw [unhide HQ]
    exact ⟨Ints.nil9 _, Ints.nil9 _, Ints.nil9 _⟩
  · exact bl_tr hbl (gb_lo hg9 (by have := hbl.size; omega) (fun j e => by injection e with e; omega))
set_option maxHeartbeats 2000000 in
theorem record_8 (S : St) (b v u q g : Value) (x : Rw) (w : World) (hS : Sta w b v u q g S) (hc : stC S = true) (hx : WfW x) (hk : pickI x.kind 14 = 8) :
    Calls Tryz.prog 25 #[stV S b v u q g, rwV x] w fun e w' => ∃ vv pv sv, e = .returned (rcV (recR S x) vv pv sv) ∧ RcI w' (recR S x) vv pv sv ∧ Below w.heap.size w w' := by
  have HS := hide hS
  obtain ⟨hk0, ha0, hb0, hc0, hd0⟩ := hx
  have HQ : Hid (recR S x = { rcN 9 with id := idN S x.a }) := by show _ = _; unfold recR; simp [hk]
  obtain ⟨Q, hQ⟩ : ∃ Q, recR S x = Q := ⟨_, rfl⟩
  rw [hQ] at HQ ⊢
  clear hQ hS
  have HK : Hid (∀ W : World, Calls Tryz.prog 10 #[.int .i64 x.kind, .int .i64 14] W fun e w' => e = .returned (.int .i64 8) ∧ W = w') := fun W => by
    have := picked_any x.kind 14 W (by decide) (by decide) hk0.1 hk0.2
    rw [hk] at this; exact this
  clear hk
  go_enter Tryz.func25, Tryz.ntmps25
  go_wp2_with fail
  refine (unhide HK _).mono ?_
  rintro e w1 ⟨rfl, rfl⟩
  simp only []
  rename_i hK0
  refine hK0 _ _ ?_
  clear hK0
  refine wpList_plain rfl (fun K hK => ?_)
  go_simp
  refine hK _ _ ?_
  clear hK
  refine wpList_plain rfl (fun K hK => ?_)
  go_simp
  refine hK _ _ ?_
  clear hK
  refine wpList_plain rfl (fun K hK => ?_)
  go_simp
  refine hK _ _ ?_
  clear hK
  rw [show IntKind.wrap .i64 9 = 9 by decide]
  refine wpList_store_mid rfl 47 (.tmp 5) (.tmp 14) rfl (w.heap.size + 1 + 1 + 1) 0 (rcA (rcN 9) nl nl nl) rfl rfl (there_of (c := rcA (rcN 0) nl nl nl) (t := 47) (rec_new _ _ _ _ _)) (by kernel_rfl) (by simp [Value.oneCell']) ?_
  generalize hWW : World.setCells _ (w.heap.size + 1 + 1 + 1) 0 _ = W1
  have hrr : W1.heap[w.heap.size]? = some (.cells #[.int .i64 S.next, .int .i64 S.clock, b, v, u, q, g] 29 (0, 0)) ∧ W1.heap[w.heap.size + 1]? = some (.cells #[.int .i64 x.kind, .int .i64 x.a, .int .i64 x.b, .int .i64 x.c, .int .i64 x.d, .string x.text] 72 (0, 0)) ∧ W1.heap[w.heap.size + 1 + 1]? = some (.cells (rcA (rcN 0) nl nl nl) 47 (0, 0)) ∧ W1.heap[w.heap.size + 1 + 1 + 1]? = some (.cells (rcA (rcN 9) nl nl nl) 47 (0, 0)) ∧ Below w.heap.size w W1 := by
    rw [← hWW]
    exact rec_rows w (.cells #[.int .i64 S.next, .int .i64 S.clock, b, v, u, q, g] 29) (.cells #[.int .i64 x.kind, .int .i64 x.a, .int .i64 x.b, .int .i64 x.c, .int .i64 x.d, .string x.text] 72) (.cells (rcA (rcN 0) nl nl nl) 47) (rcA (rcN 0) nl nl nl) (rcA (rcN 9) nl nl nl) rfl
  clear hWW
  obtain ⟨r0, r1, r2, r3, hw1⟩ := hrr
  have HRR0 : Hid (RR w W1 #[.int .i64 S.next, .int .i64 S.clock, b, v, u, q, g] x (rcA (rcN 9) nl nl nl)) := ⟨r0, r1, r2, r3, hw1⟩
  have k0 : W1.cell? ⟨w.heap.size + 1 + 1 + 1, 0, none⟩ = some (.int .i64 9) := cell_of r3 0 rfl
  clear r0 r1 r2 r3
  have xa0_0 := cell_of (unhide HRR0).r1 0 rfl
  have xa1_0 := cell_of (unhide HRR0).r1 1 rfl
  have xa2_0 := cell_of (unhide HRR0).r1 2 rfl
  have xa3_0 := cell_of (unhide HRR0).r1 3 rfl
  have xa4_0 := cell_of (unhide HRR0).r1 4 rfl
  have sa0_0 := cell_of (unhide HRR0).r0 0 rfl
  have sa1_0 := cell_of (unhide HRR0).r0 1 rfl
  have sa2_0 := cell_of (unhide HRR0).r0 2 rfl
  have sa3_0 := cell_of (unhide HRR0).r0 3 rfl
  have sa4_0 := cell_of (unhide HRR0).r0 4 rfl
  have sa5_0 := cell_of (unhide HRR0).r0 5 rfl
  have sa6_0 := cell_of (unhide HRR0).r0 6 rfl
  have pa1_0 := cell_of (unhide HRR0).r3 1 rfl
  have pa2_0 := cell_of (unhide HRR0).r3 2 rfl
  have pa3_0 := cell_of (unhide HRR0).r3 3 rfl
  have pa4_0 := cell_of (unhide HRR0).r3 4 rfl
  have pa27_0 := cell_of (unhide HRR0).r3 27 rfl
  have pa28_0 := cell_of (unhide HRR0).r3 28 rfl
  have pf0 := fun j => fz_of (unhide HRR0).r3 j
  have pl0 := (unhide HRR0).lt
  have ql0 := (unhide HRR0).lt0
  have qm0 := (unhide HRR0).lt1
  go_upto_region 50 with (first
    | (refine (k_id_any S b v u q g x.a _ ((unhide HS).up (unhide HRR0).bl) ha0.1 ha0.2).mono ?_; rintro e w2 ⟨rfl, b2⟩; have HRR2 := hide ((unhide HRR0).up b2); have xa0_2 := cell_of (unhide HRR2).r1 0 rfl; have xa1_2 := cell_of (unhide HRR2).r1 1 rfl; have xa2_2 := cell_of (unhide HRR2).r1 2 rfl; have xa3_2 := cell_of (unhide HRR2).r1 3 rfl; have xa4_2 := cell_of (unhide HRR2).r1 4 rfl; have sa0_2 := cell_of (unhide HRR2).r0 0 rfl; have sa1_2 := cell_of (unhide HRR2).r0 1 rfl; have sa2_2 := cell_of (unhide HRR2).r0 2 rfl; have sa3_2 := cell_of (unhide HRR2).r0 3 rfl; have sa4_2 := cell_of (unhide HRR2).r0 4 rfl; have sa5_2 := cell_of (unhide HRR2).r0 5 rfl; have sa6_2 := cell_of (unhide HRR2).r0 6 rfl; have pa1_2 := cell_of (unhide HRR2).r3 1 rfl; have pa2_2 := cell_of (unhide HRR2).r3 2 rfl; have pa3_2 := cell_of (unhide HRR2).r3 3 rfl; have pa4_2 := cell_of (unhide HRR2).r3 4 rfl; have pa27_2 := cell_of (unhide HRR2).r3 27 rfl; have pa28_2 := cell_of (unhide HRR2).r3 28 rfl; have pf2 := fun j => fz_of (unhide HRR2).r3 j; have pl2 := (unhide HRR2).lt; have ql2 := (unhide HRR2).lt0; have qm2 := (unhide HRR2).lt1)
    | fail)
  have HF := hide (RR.set (c' := rcA { rcN 9 with id := idN S x.a } nl nl nl) (unhide HRR2) 1 (.int .i64 (idN S x.a)) rfl)
  have hP := (unhide HF).r3
  have hR := (unhide HF).r2
  have hbl := (unhide HF).bl
  refine wp_region_lit ?_
  refine wpList_load_mid rfl 47 (.tmp 5) rfl (w.heap.size + 1 + 1 + 1) 0 rfl (rcA ({ rcN 9 with id := idN S x.a }) nl nl nl).toList _ (fun j v hv => by rw [Nat.zero_add]; exact cell_of hP j (by simpa using hv)) Tryz.underlying47 rfl (by kernel_rfl) ?_
  refine wpList_store_mid rfl 47 (.tmp 4) (.tmp 217) rfl (w.heap.size + 1 + 1) 0 (rcA ({ rcN 9 with id := idN S x.a }) nl nl nl) rfl rfl (there_of (c := rcA (rcN 0) nl nl nl) (t := 47) hR) (by kernel_rfl) (by simp [Value.oneCell']) ?_
  have hrr := rec_end (c' := (rcA ({ rcN 9 with id := idN S x.a }) nl nl nl)) hR rfl
  revert hrr
  generalize World.setCells _ (w.heap.size + 1 + 1) 0 _ = W9
  intro hrr
  obtain ⟨r9, hg9⟩ := hrr
  clear hP hR
  go_wp2
  refine bodyPost_ret (v := rcV ({ rcN 9 with id := idN S x.a }) nl nl nl) (rec_res r9 rfl rfl) rfl ⟨nl, nl, nl, by rw [unhide HQ], ?_, ?_⟩
  · rw [unhide HQ]
    exact ⟨Ints.nil9 _, Ints.nil9 _, Ints.nil9 _⟩
  · exact bl_tr hbl (gb_lo hg9 (by have := hbl.size; omega) (fun j e => by injection e with e; omega))
end Go.Proofs.YtdgmdapijhbocaaGreat

/- icehousekeep.Record, kind by kind. -/
namespace Go.Proofs.YtdgmdapijhbocaaGreat
open Go.RowKit Go.Maps
set_option maxRecDepth 100000
set_option linter.unusedVariables false
set_option linter.unusedSimpArgs false
theorem RR.drew {w W : World} {sb : Array Value} {x : Rw} {c : Array Value} (h : RR w W sb x c) : RR w W.drew sb x c := ⟨h.r0, h.r1, h.r2, h.r3, h.bl.drew⟩
set_option maxHeartbeats 2000000 in
theorem record_6 (S : St) (b v u q g : Value) (x : Rw) (w : World) (hS : Sta w b v u q g S) (hc : stC S = true) (hx : WfW x) (hk : pickI x.kind 14 = 6) :
    Calls Tryz.prog 25 #[stV S b v u q g, rwV x] w fun e w' => ∃ vv pv sv, e = .returned (rcV (recR S x) vv pv sv) ∧ RcI w' (recR S x) vv pv sv ∧ Below w.heap.size w w' := by
  have HS := hide hS
  obtain ⟨hk0, ha0, hb0, hc0, hd0⟩ := hx
  have HQ : Hid (recR S x = { rcN 7 with ask := ⟨idN S x.a, 1 + pickI x.b 9, pickI x.c 3⟩ }) := by show _ = _; unfold recR; simp [hk]
  obtain ⟨Q, hQ⟩ : ∃ Q, recR S x = Q := ⟨_, rfl⟩
  rw [hQ] at HQ ⊢
  clear hQ hS
  have HK : Hid (∀ W : World, Calls Tryz.prog 10 #[.int .i64 x.kind, .int .i64 14] W fun e w' => e = .returned (.int .i64 6) ∧ W = w') := fun W => by
    have := picked_any x.kind 14 W (by decide) (by decide) hk0.1 hk0.2
    rw [hk] at this; exact this
  clear hk
  go_enter Tryz.func25, Tryz.ntmps25
  go_wp2_with fail
  refine (unhide HK _).mono ?_
  rintro e w1 ⟨rfl, rfl⟩
  simp only []
  rename_i hK0
  refine hK0 _ _ ?_
  clear hK0
  refine wpList_plain rfl (fun K hK => ?_)
  go_simp
  refine hK _ _ ?_
  clear hK
  refine wpList_plain rfl (fun K hK => ?_)
  go_simp
  refine hK _ _ ?_
  clear hK
  refine wpList_plain rfl (fun K hK => ?_)
  go_simp
  refine hK _ _ ?_
  clear hK
  rw [show IntKind.wrap .i64 7 = 7 by decide]
  refine wpList_store_mid rfl 47 (.tmp 5) (.tmp 14) rfl (w.heap.size + 1 + 1 + 1) 0 (rcA (rcN 7) nl nl nl) rfl rfl (there_of (c := rcA (rcN 0) nl nl nl) (t := 47) (rec_new _ _ _ _ _)) (by kernel_rfl) (by simp [Value.oneCell']) ?_
  generalize hWW : World.setCells _ (w.heap.size + 1 + 1 + 1) 0 _ = W1
  have hrr : W1.heap[w.heap.size]? = some (.cells #[.int .i64 S.next, .int .i64 S.clock, b, v, u, q, g] 29 (0, 0)) ∧ W1.heap[w.heap.size + 1]? = some (.cells #[.int .i64 x.kind, .int .i64 x.a, .int .i64 x.b, .int .i64 x.c, .int .i64 x.d, .string x.text] 72 (0, 0)) ∧ W1.heap[w.heap.size + 1 + 1]? = some (.cells (rcA (rcN 0) nl nl nl) 47 (0, 0)) ∧ W1.heap[w.heap.size + 1 + 1 + 1]? = some (.cells (rcA (rcN 7) nl nl nl) 47 (0, 0)) ∧ Below w.heap.size w W1 := by
    rw [← hWW]
    exact rec_rows w (.cells #[.int .i64 S.next, .int .i64 S.clock, b, v, u, q, g] 29) (.cells #[.int .i64 x.kind, .int .i64 x.a, .int .i64 x.b, .int .i64 x.c, .int .i64 x.d, .string x.text] 72) (.cells (rcA (rcN 0) nl nl nl) 47) (rcA (rcN 0) nl nl nl) (rcA (rcN 7) nl nl nl) rfl
  clear hWW
  obtain ⟨r0, r1, r2, r3, hw1⟩ := hrr
  have HRR0 : Hid (RR w W1 #[.int .i64 S.next, .int .i64 S.clock, b, v, u, q, g] x (rcA (rcN 7) nl nl nl)) := ⟨r0, r1, r2, r3, hw1⟩
  have k0 : W1.cell? ⟨w.heap.size + 1 + 1 + 1, 0, none⟩ = some (.int .i64 7) := cell_of r3 0 rfl
  clear r0 r1 r2 r3
  have xa0_0 := cell_of (unhide HRR0).r1 0 rfl
  have xa1_0 := cell_of (unhide HRR0).r1 1 rfl
  have xa2_0 := cell_of (unhide HRR0).r1 2 rfl
  have xa3_0 := cell_of (unhide HRR0).r1 3 rfl
  have xa4_0 := cell_of (unhide HRR0).r1 4 rfl
  have sa0_0 := cell_of (unhide HRR0).r0 0 rfl
  have sa1_0 := cell_of (unhide HRR0).r0 1 rfl
  have sa2_0 := cell_of (unhide HRR0).r0 2 rfl
  have sa3_0 := cell_of (unhide HRR0).r0 3 rfl
  have sa4_0 := cell_of (unhide HRR0).r0 4 rfl
  have sa5_0 := cell_of (unhide HRR0).r0 5 rfl
  have sa6_0 := cell_of (unhide HRR0).r0 6 rfl
  have pa1_0 := cell_of (unhide HRR0).r3 1 rfl
  have pa2_0 := cell_of (unhide HRR0).r3 2 rfl
  have pa3_0 := cell_of (unhide HRR0).r3 3 rfl
  have pa4_0 := cell_of (unhide HRR0).r3 4 rfl
  have pa27_0 := cell_of (unhide HRR0).r3 27 rfl
  have pa28_0 := cell_of (unhide HRR0).r3 28 rfl
  have pf0 := fun j => fz_of (unhide HRR0).r3 j
  have pl0 := (unhide HRR0).lt
  have ql0 := (unhide HRR0).lt0
  have qm0 := (unhide HRR0).lt1
  have KZ : Hid (∀ (W' : World) (c : Array Value), RR w W' #[.int .i64 S.next, .int .i64 S.clock, b, v, u, q, g] x c → (W'.cell? ⟨w.heap.size, 0, none⟩ = some (.int .i64 S.next) ∧ W'.cell? ⟨w.heap.size, 1, none⟩ = some (.int .i64 S.clock) ∧ W'.cell? ⟨w.heap.size, 2, none⟩ = some (b) ∧ W'.cell? ⟨w.heap.size, 3, none⟩ = some (v) ∧ W'.cell? ⟨w.heap.size, 4, none⟩ = some (u) ∧ W'.cell? ⟨w.heap.size, 5, none⟩ = some (q) ∧ W'.cell? ⟨w.heap.size, 6, none⟩ = some (g) ∧ W'.cell? ⟨w.heap.size + 1, 0, none⟩ = some (.int .i64 x.kind) ∧ W'.cell? ⟨w.heap.size + 1, 1, none⟩ = some (.int .i64 x.a) ∧ W'.cell? ⟨w.heap.size + 1, 2, none⟩ = some (.int .i64 x.b) ∧ W'.cell? ⟨w.heap.size + 1, 3, none⟩ = some (.int .i64 x.c) ∧ W'.cell? ⟨w.heap.size + 1, 4, none⟩ = some (.int .i64 x.d))) := fun W' c h => ⟨cell_of h.r0 0 rfl, cell_of h.r0 1 rfl, cell_of h.r0 2 rfl, cell_of h.r0 3 rfl, cell_of h.r0 4 rfl, cell_of h.r0 5 rfl, cell_of h.r0 6 rfl, cell_of h.r1 0 rfl, cell_of h.r1 1 rfl, cell_of h.r1 2 rfl, cell_of h.r1 3 rfl, cell_of h.r1 4 rfl⟩
  have p20 := cell_of (unhide HRR0).r3 20 rfl
  have p21 := cell_of (unhide HRR0).r3 21 rfl
  have p22 := cell_of (unhide HRR0).r3 22 rfl
  have hlo := pickI_lo x.b (m := 9) (by decide)
  have hhi := pickI_hi x.b (m := 9) (by decide)
  have hwr : IntKind.i64.wrap (1 + pickI x.b 9) = 1 + pickI x.b 9 := Go.IntWalk.i64_in _ (by omega)
  have HWR := hide hwr
  clear hwr
  have hD0 : Below w.heap.size w W1.drew := (RR.drew (unhide HRR0)).bl
  have hS0 := unhide KZ _ _ (RR.drew (unhide HRR0))
  go_upto_region 28 with fail
  go_region_held3 (fun W' => W'.cell? ⟨w.heap.size, 0, none⟩ = some (.int .i64 S.next) ∧ W'.cell? ⟨w.heap.size, 1, none⟩ = some (.int .i64 S.clock) ∧ W'.cell? ⟨w.heap.size, 2, none⟩ = some (b) ∧ W'.cell? ⟨w.heap.size, 3, none⟩ = some (v) ∧ W'.cell? ⟨w.heap.size, 4, none⟩ = some (u) ∧ W'.cell? ⟨w.heap.size, 5, none⟩ = some (q) ∧ W'.cell? ⟨w.heap.size, 6, none⟩ = some (g) ∧ W'.cell? ⟨w.heap.size + 1, 0, none⟩ = some (.int .i64 x.kind) ∧ W'.cell? ⟨w.heap.size + 1, 1, none⟩ = some (.int .i64 x.a) ∧ W'.cell? ⟨w.heap.size + 1, 2, none⟩ = some (.int .i64 x.b) ∧ W'.cell? ⟨w.heap.size + 1, 3, none⟩ = some (.int .i64 x.c) ∧ W'.cell? ⟨w.heap.size + 1, 4, none⟩ = some (.int .i64 x.d))
    (first | exact hS0 | exact hS2 | exact hS3 | fail)
    (first
      | (go_at_call 52; refine (k_id_any S b v u q g x.a _ ((unhide HS).up hD0) ha0.1 ha0.2).mono ?_; rintro e w2 ⟨rfl, b2⟩; have HRR2 := hide (RR.up (RR.drew (unhide HRR0)) b2); have y20 := cell_of (unhide HRR2).r3 20 rfl; have y21 := cell_of (unhide HRR2).r3 21 rfl; have y22 := cell_of (unhide HRR2).r3 22 rfl; have yf := fun j => fz_of (unhide HRR2).r3 j; have yl := (unhide HRR2).lt; have yl0 := (unhide HRR2).lt0; have yl1 := (unhide HRR2).lt1; have hS2 := unhide KZ _ _ (unhide HRR2); have HRR3 := hide (RR.set (c' := rcA { rcN 7 with ask := ⟨idN S x.a, 1 + pickI x.b 9, pickI x.c 3⟩ } nl nl nl) (RR.set (c' := rcA { rcN 7 with ask := ⟨idN S x.a, 1 + pickI x.b 9, 0⟩ } nl nl nl) (RR.set (c' := rcA { rcN 7 with ask := ⟨idN S x.a, 0, 0⟩ } nl nl nl) (unhide HRR2) 20 (.int .i64 (idN S x.a)) rfl) 21 (.int .i64 (IntKind.i64.wrap (1 + pickI x.b 9))) (by rw [unhide HWR]; rfl)) 22 (.int .i64 (pickI x.c 3)) rfl); have hS3 := unhide KZ _ _ (unhide HRR3))
      | (go_at_call 10; with_reducible refine (picked_any x.b 9 _ (by decide) (by decide) hb0.1 hb0.2).mono ?_; rintro e w3 ⟨rfl, rfl⟩)
      | (go_at_call 10; with_reducible refine (picked_any x.c 3 _ (by decide) (by decide) hc0.1 hc0.2).mono ?_; rintro e w3 ⟨rfl, rfl⟩)
      | fail)
  all_goals (
    clear y20 y21 y22 yf
    go_upto_region 50 with fail
    have hP := (unhide HRR3).r3
    have hR := (unhide HRR3).r2
    have hbl := (unhide HRR3).bl
    refine wp_region_lit ?_
    refine wpList_load_mid rfl 47 (.tmp 5) rfl (w.heap.size + 1 + 1 + 1) 0 rfl (rcA ({ rcN 7 with ask := ⟨idN S x.a, 1 + pickI x.b 9, pickI x.c 3⟩ }) nl nl nl).toList _ (fun j v hv => by rw [Nat.zero_add]; exact cell_of hP j (by simpa using hv)) Tryz.underlying47 rfl (by kernel_rfl) ?_
    refine wpList_store_mid rfl 47 (.tmp 4) (.tmp 217) rfl (w.heap.size + 1 + 1) 0 (rcA ({ rcN 7 with ask := ⟨idN S x.a, 1 + pickI x.b 9, pickI x.c 3⟩ }) nl nl nl) rfl rfl (there_of (c := rcA (rcN 0) nl nl nl) (t := 47) hR) (by kernel_rfl) (by simp [Value.oneCell']) ?_
    have hrr := rec_end (c' := (rcA ({ rcN 7 with ask := ⟨idN S x.a, 1 + pickI x.b 9, pickI x.c 3⟩ }) nl nl nl)) hR rfl
    revert hrr
    generalize World.setCells _ (w.heap.size + 1 + 1) 0 _ = W9
    intro hrr
    obtain ⟨r9, hg9⟩ := hrr
    clear hP hR
    go_wp2
    refine bodyPost_ret (v := rcV ({ rcN 7 with ask := ⟨idN S x.a, 1 + pickI x.b 9, pickI x.c 3⟩ }) nl nl nl) (rec_res r9 rfl rfl) rfl ⟨nl, nl, nl, by rw [unhide HQ], ?_, ?_⟩
    · rw [unhide HQ]
      exact ⟨Ints.nil9 _, Ints.nil9 _, Ints.nil9 _⟩
    · exact bl_tr hbl (gb_lo hg9 (by have := hbl.size; omega) (fun j e => by injection e with e; omega)))
end Go.Proofs.YtdgmdapijhbocaaGreat

/- icehousekeep.sectors: the list stays, whatever is written to an older block. -/
namespace Go.Proofs.YtdgmdapijhbocaaGreat
open Go.RowKit Go.Maps
set_option maxRecDepth 100000
set_option linter.unusedVariables false
set_option linter.unusedSimpArgs false
theorem sectorsK_any (S : St) (b v u q g : Value) (n : Int) (w : World) (hS : Sta w b v u q g S) (h0 : 0 ≤ n) (h1 : n ≤ 1000000) :
    Calls Tryz.prog 11 #[stV S b v u q g, .int .i64 n] w fun e w' => ∃ o, e = .returned o ∧ Ints w' o (secF S n) ∧ (∀ W, Agr w' W w.heap.size none → Ints W o (secF S n)) ∧ Below w.heap.size w w' := by
  have HS := hide hS
  clear hS
  have hlen : (freL S 200).length ≤ 200 := by
    unfold freL
    split
    · exact freK_len S _
    · simp
  have hsn : 0 ≤ secN n := by unfold secN; split <;> omega
  go_enter Tryz.func11, Tryz.ntmps11
  go_wp2_with fail
  refine (free_any S b v u q g 200 _ ((unhide HS).up (bl1 _ _))).mono ?_
  rintro e w1 ⟨o, rfl, hO, hb⟩
  have hw1 := bl_trans (bl1 w _) hb
  have HI := hide (hO.ints (fre_wf S 200))
  obtain ⟨oa, oc, rfl, ol, om⟩ := hO.form
  unfold maxLen at om
  have HKP : Hid (∀ W, Agr w1 W w.heap.size none → Ints W (.slice oa (freL S 200).length oc) (freL S 200)) := fun W ha =>
    OwI.ints (own_agr (own_lo hO (by simp)) ha) (fre_wf S 200)
  clear hO hb
  obtain ⟨F, hF⟩ : ∃ F, freL S 200 = F := ⟨_, rfl⟩
  have HF : Hid (secF S n = F.take (min (secN n).toNat F.length)) := by show _ = _; unfold secF; rw [hF]
  rw [hF] at HI hlen ol HKP ⊢
  clear hF
  obtain ⟨L, hL⟩ : ∃ L, F.length = L := ⟨_, rfl⟩
  rw [hL] at HI hlen ol HF HKP ⊢
  clear hL
  go_wp2_with fail
  refine (sectorsN_any n _ (by omega) (by omega)).mono ?_
  rintro e w2 ⟨rfl, rfl⟩
  obtain ⟨k, hk⟩ := Int.eq_ofNat_of_zero_le hsn
  rw [hk] at HF ⊢
  clear hk hsn
  rw [Int.toNat_natCast] at HF
  by_cases hkl : k ≤ L
  · rw [Nat.min_eq_left (by omega)] at HF
    have hI := hide ((unhide HI).cut (k := k) (by omega))
    go_wp2
    go_ret
    exact ⟨_, rfl, by rw [unhide HF]; exact unhide hI, fun W ha => by rw [unhide HF]; exact (unhide HKP W ha).cut (by omega), hw1⟩
  · rw [Nat.min_eq_right (by omega)] at HF
    have hI := hide ((unhide HI).cut (k := L) (by omega))
    go_wp2
    go_ret
    exact ⟨_, rfl, by rw [unhide HF]; exact unhide hI, fun W ha => by rw [unhide HF]; exact (unhide HKP W ha).cut (by omega), hw1⟩
end Go.Proofs.YtdgmdapijhbocaaGreat

/- icehousekeep.Record, kind by kind. -/
namespace Go.Proofs.YtdgmdapijhbocaaGreat
open Go.RowKit Go.Maps
set_option maxRecDepth 100000
set_option linter.unusedVariables false
set_option linter.unusedSimpArgs false
set_option maxHeartbeats 2000000 in
theorem record_10 (S : St) (b v u q g : Value) (x : Rw) (w : World) (hS : Sta w b v u q g S) (hc : stC S = true) (hx : WfW x) (hk : pickI x.kind 14 = 10) :
    Calls Tryz.prog 25 #[stV S b v u q g, rwV x] w fun e w' => ∃ vv pv sv, e = .returned (rcV (recR S x) vv pv sv) ∧ RcI w' (recR S x) vv pv sv ∧ Below w.heap.size w w' := by
  have HS := hide hS
  obtain ⟨hk0, ha0, hb0, hc0, hd0⟩ := hx
  have HQ : Hid (recR S x = { rcN 11 with id := upN S x.a, part := ⟨1 + pickI x.b 5, pickI x.c 200, secF S (pickI x.c 200)⟩ }) := by show _ = _; unfold recR; simp [hk]
  obtain ⟨Q, hQ⟩ : ∃ Q, recR S x = Q := ⟨_, rfl⟩
  rw [hQ] at HQ ⊢
  clear hQ hS
  have HK : Hid (∀ W : World, Calls Tryz.prog 10 #[.int .i64 x.kind, .int .i64 14] W fun e w' => e = .returned (.int .i64 10) ∧ W = w') := fun W => by
    have := picked_any x.kind 14 W (by decide) (by decide) hk0.1 hk0.2
    rw [hk] at this; exact this
  clear hk
  go_enter Tryz.func25, Tryz.ntmps25
  go_wp2_with fail
  refine (unhide HK _).mono ?_
  rintro e w1 ⟨rfl, rfl⟩
  simp only []
  rename_i hK0
  refine hK0 _ _ ?_
  clear hK0
  refine wpList_plain rfl (fun K hK => ?_)
  go_simp
  refine hK _ _ ?_
  clear hK
  refine wpList_plain rfl (fun K hK => ?_)
  go_simp
  refine hK _ _ ?_
  clear hK
  refine wpList_plain rfl (fun K hK => ?_)
  go_simp
  refine hK _ _ ?_
  clear hK
  rw [show IntKind.wrap .i64 11 = 11 by decide]
  refine wpList_store_mid rfl 47 (.tmp 5) (.tmp 14) rfl (w.heap.size + 1 + 1 + 1) 0 (rcA (rcN 11) nl nl nl) rfl rfl (there_of (c := rcA (rcN 0) nl nl nl) (t := 47) (rec_new _ _ _ _ _)) (by kernel_rfl) (by simp [Value.oneCell']) ?_
  generalize hWW : World.setCells _ (w.heap.size + 1 + 1 + 1) 0 _ = W1
  have hrr : W1.heap[w.heap.size]? = some (.cells #[.int .i64 S.next, .int .i64 S.clock, b, v, u, q, g] 29 (0, 0)) ∧ W1.heap[w.heap.size + 1]? = some (.cells #[.int .i64 x.kind, .int .i64 x.a, .int .i64 x.b, .int .i64 x.c, .int .i64 x.d, .string x.text] 72 (0, 0)) ∧ W1.heap[w.heap.size + 1 + 1]? = some (.cells (rcA (rcN 0) nl nl nl) 47 (0, 0)) ∧ W1.heap[w.heap.size + 1 + 1 + 1]? = some (.cells (rcA (rcN 11) nl nl nl) 47 (0, 0)) ∧ Below w.heap.size w W1 := by
    rw [← hWW]
    exact rec_rows w (.cells #[.int .i64 S.next, .int .i64 S.clock, b, v, u, q, g] 29) (.cells #[.int .i64 x.kind, .int .i64 x.a, .int .i64 x.b, .int .i64 x.c, .int .i64 x.d, .string x.text] 72) (.cells (rcA (rcN 0) nl nl nl) 47) (rcA (rcN 0) nl nl nl) (rcA (rcN 11) nl nl nl) rfl
  clear hWW
  obtain ⟨r0, r1, r2, r3, hw1⟩ := hrr
  have HRR0 : Hid (RR w W1 #[.int .i64 S.next, .int .i64 S.clock, b, v, u, q, g] x (rcA (rcN 11) nl nl nl)) := ⟨r0, r1, r2, r3, hw1⟩
  have k0 : W1.cell? ⟨w.heap.size + 1 + 1 + 1, 0, none⟩ = some (.int .i64 11) := cell_of r3 0 rfl
  clear r0 r1 r2 r3
  have xa0_0 := cell_of (unhide HRR0).r1 0 rfl
  have xa1_0 := cell_of (unhide HRR0).r1 1 rfl
  have xa2_0 := cell_of (unhide HRR0).r1 2 rfl
  have xa3_0 := cell_of (unhide HRR0).r1 3 rfl
  have xa4_0 := cell_of (unhide HRR0).r1 4 rfl
  have sa0_0 := cell_of (unhide HRR0).r0 0 rfl
  have sa1_0 := cell_of (unhide HRR0).r0 1 rfl
  have sa2_0 := cell_of (unhide HRR0).r0 2 rfl
  have sa3_0 := cell_of (unhide HRR0).r0 3 rfl
  have sa4_0 := cell_of (unhide HRR0).r0 4 rfl
  have sa5_0 := cell_of (unhide HRR0).r0 5 rfl
  have sa6_0 := cell_of (unhide HRR0).r0 6 rfl
  have pa1_0 := cell_of (unhide HRR0).r3 1 rfl
  have pa2_0 := cell_of (unhide HRR0).r3 2 rfl
  have pa3_0 := cell_of (unhide HRR0).r3 3 rfl
  have pa4_0 := cell_of (unhide HRR0).r3 4 rfl
  have pa27_0 := cell_of (unhide HRR0).r3 27 rfl
  have pa28_0 := cell_of (unhide HRR0).r3 28 rfl
  have pf0 := fun j => fz_of (unhide HRR0).r3 j
  have pl0 := (unhide HRR0).lt
  have ql0 := (unhide HRR0).lt0
  have qm0 := (unhide HRR0).lt1
  have KZ : Hid (∀ (W' : World) (c : Array Value), RR w W' #[.int .i64 S.next, .int .i64 S.clock, b, v, u, q, g] x c → (W'.cell? ⟨w.heap.size, 0, none⟩ = some (.int .i64 S.next) ∧ W'.cell? ⟨w.heap.size, 1, none⟩ = some (.int .i64 S.clock) ∧ W'.cell? ⟨w.heap.size, 2, none⟩ = some (b) ∧ W'.cell? ⟨w.heap.size, 3, none⟩ = some (v) ∧ W'.cell? ⟨w.heap.size, 4, none⟩ = some (u) ∧ W'.cell? ⟨w.heap.size, 5, none⟩ = some (q) ∧ W'.cell? ⟨w.heap.size, 6, none⟩ = some (g) ∧ W'.cell? ⟨w.heap.size + 1, 0, none⟩ = some (.int .i64 x.kind) ∧ W'.cell? ⟨w.heap.size + 1, 1, none⟩ = some (.int .i64 x.a) ∧ W'.cell? ⟨w.heap.size + 1, 2, none⟩ = some (.int .i64 x.b) ∧ W'.cell? ⟨w.heap.size + 1, 3, none⟩ = some (.int .i64 x.c) ∧ W'.cell? ⟨w.heap.size + 1, 4, none⟩ = some (.int .i64 x.d))) := fun W' c h => ⟨cell_of h.r0 0 rfl, cell_of h.r0 1 rfl, cell_of h.r0 2 rfl, cell_of h.r0 3 rfl, cell_of h.r0 4 rfl, cell_of h.r0 5 rfl, cell_of h.r0 6 rfl, cell_of h.r1 0 rfl, cell_of h.r1 1 rfl, cell_of h.r1 2 rfl, cell_of h.r1 3 rfl, cell_of h.r1 4 rfl⟩
  have hlo := pickI_lo x.b (m := 5) (by decide)
  have hhi := pickI_hi x.b (m := 5) (by decide)
  have hlo2 := pickI_lo x.c (m := 200) (by decide)
  have hhi2 := pickI_hi x.c (m := 200) (by decide)
  have HWR : Hid (IntKind.i64.wrap (1 + pickI x.b 5) = 1 + pickI x.b 5) := Go.IntWalk.i64_in _ (by omega)
  have hD0 : Below w.heap.size w W1.drew := (RR.drew (unhide HRR0)).bl
  have hS0 := unhide KZ _ _ (RR.drew (unhide HRR0))
  go_upto_region 44 with (first
    | (with_reducible refine (picked_any x.c 200 _ (by decide) (by decide) hc0.1 hc0.2).mono ?_; rintro e w3 ⟨rfl, rfl⟩)
    | fail)
  go_region_held3 (fun W' => W'.cell? ⟨w.heap.size, 0, none⟩ = some (.int .i64 S.next) ∧ W'.cell? ⟨w.heap.size, 1, none⟩ = some (.int .i64 S.clock) ∧ W'.cell? ⟨w.heap.size, 2, none⟩ = some (b) ∧ W'.cell? ⟨w.heap.size, 3, none⟩ = some (v) ∧ W'.cell? ⟨w.heap.size, 4, none⟩ = some (u) ∧ W'.cell? ⟨w.heap.size, 5, none⟩ = some (q) ∧ W'.cell? ⟨w.heap.size, 6, none⟩ = some (g) ∧ W'.cell? ⟨w.heap.size + 1, 0, none⟩ = some (.int .i64 x.kind) ∧ W'.cell? ⟨w.heap.size + 1, 1, none⟩ = some (.int .i64 x.a) ∧ W'.cell? ⟨w.heap.size + 1, 2, none⟩ = some (.int .i64 x.b) ∧ W'.cell? ⟨w.heap.size + 1, 3, none⟩ = some (.int .i64 x.c) ∧ W'.cell? ⟨w.heap.size + 1, 4, none⟩ = some (.int .i64 x.d))
    (first | exact hS0 | exact hS2 | exact hS3 | fail)
    (first
      | (go_at_call 11; refine (sectorsK_any S b v u q g (pickI x.c 200) _ ((unhide HS).up hD0) (by omega) (by omega)).mono ?_; rintro e w2 ⟨o, rfl, hI, hKP, b2⟩; obtain ⟨oa, oc, rfl, _, _⟩ := hI.form; have HKP := hide hKP; have HRR2 := hide (RR.up (RR.drew (unhide HRR0)) b2); clear hI hKP; have y23 := cell_of (unhide HRR2).r3 23 rfl; have y24 := cell_of (unhide HRR2).r3 24 rfl; have y25 := cell_of (unhide HRR2).r3 25 rfl; have yf := fun j => fz_of (unhide HRR2).r3 j; have yl := (unhide HRR2).lt; have yl0 := (unhide HRR2).lt0; have yl1 := (unhide HRR2).lt1; have hS2 := unhide KZ _ _ (unhide HRR2); have HRR3 := hide (RR.set (c' := rcA { rcN 11 with part := ⟨1 + pickI x.b 5, pickI x.c 200, secF S (pickI x.c 200)⟩ } nl (.slice oa (secF S (pickI x.c 200)).length oc) nl) (RR.set (c' := rcA { rcN 11 with part := ⟨1 + pickI x.b 5, pickI x.c 200, []⟩ } nl nl nl) (RR.set (c' := rcA { rcN 11 with part := ⟨1 + pickI x.b 5, 0, []⟩ } nl nl nl) (unhide HRR2) 23 (.int .i64 (IntKind.i64.wrap (1 + pickI x.b 5))) (by rw [unhide HWR]; rfl)) 24 (.int .i64 (pickI x.c 200)) rfl) 25 (.slice oa (secF S (pickI x.c 200)).length oc) rfl); have hS3 := unhide KZ _ _ (unhide HRR3))
      | (go_at_call 10; with_reducible refine (picked_any x.b 5 _ (by decide) (by decide) hb0.1 hb0.2).mono ?_; rintro e w3 ⟨rfl, rfl⟩)
      | fail)
  all_goals (
    clear y23 y24 y25 yf hS3 HRR3
    have HRR3 := hide (RR.set (c' := rcA { rcN 11 with part := ⟨1 + pickI x.b 5, pickI x.c 200, secF S (pickI x.c 200)⟩ } nl (.slice oa (secF S (pickI x.c 200)).length oc) nl) (RR.set (c' := rcA { rcN 11 with part := ⟨1 + pickI x.b 5, pickI x.c 200, []⟩ } nl nl nl) (RR.set (c' := rcA { rcN 11 with part := ⟨1 + pickI x.b 5, 0, []⟩ } nl nl nl) (unhide HRR2) 23 (.int .i64 (1 + pickI x.b 5)) rfl) 24 (.int .i64 (pickI x.c 200)) rfl) 25 (.slice oa (secF S (pickI x.c 200)).length oc) rfl)
    have xa0_3 := cell_of (unhide HRR3).r1 0 rfl
    have xa1_3 := cell_of (unhide HRR3).r1 1 rfl
    have xa2_3 := cell_of (unhide HRR3).r1 2 rfl
    have xa3_3 := cell_of (unhide HRR3).r1 3 rfl
    have xa4_3 := cell_of (unhide HRR3).r1 4 rfl
    have sa0_3 := cell_of (unhide HRR3).r0 0 rfl
    have sa1_3 := cell_of (unhide HRR3).r0 1 rfl
    have sa2_3 := cell_of (unhide HRR3).r0 2 rfl
    have sa3_3 := cell_of (unhide HRR3).r0 3 rfl
    have sa4_3 := cell_of (unhide HRR3).r0 4 rfl
    have sa5_3 := cell_of (unhide HRR3).r0 5 rfl
    have sa6_3 := cell_of (unhide HRR3).r0 6 rfl
    have pa1_3 := cell_of (unhide HRR3).r3 1 rfl
    have pa2_3 := cell_of (unhide HRR3).r3 2 rfl
    have pa3_3 := cell_of (unhide HRR3).r3 3 rfl
    have pa4_3 := cell_of (unhide HRR3).r3 4 rfl
    have pa27_3 := cell_of (unhide HRR3).r3 27 rfl
    have pa28_3 := cell_of (unhide HRR3).r3 28 rfl
    have pf3 := fun j => fz_of (unhide HRR3).r3 j
    have pl3 := (unhide HRR3).lt
    have ql3 := (unhide HRR3).lt0
    have qm3 := (unhide HRR3).lt1
    go_upto_region 50 with (first
      | (refine (k_upload_any S b v u q g x.a _ ((unhide HS).up (unhide HRR3).bl) ha0.1 ha0.2).mono ?_; rintro e w4 ⟨rfl, b4⟩; have HRR4 := hide ((unhide HRR3).up b4); have pa1_4 := cell_of (unhide HRR4).r3 1 rfl; have pf_4 := fun j => fz_of (unhide HRR4).r3 j; have pl_4 := (unhide HRR4).lt)
      | fail)
    have HF := hide (RR.set (c' := rcA { rcN 11 with id := upN S x.a, part := ⟨1 + pickI x.b 5, pickI x.c 200, secF S (pickI x.c 200)⟩ } nl (.slice oa (secF S (pickI x.c 200)).length oc) nl) (unhide HRR4) 1 (.int .i64 (upN S x.a)) rfl)
    have hP := (unhide HF).r3
    have hR := (unhide HF).r2
    have hbl := (unhide HF).bl
    refine wp_region_lit ?_
    refine wpList_load_mid rfl 47 (.tmp 5) rfl (w.heap.size + 1 + 1 + 1) 0 rfl (rcA ({ rcN 11 with id := upN S x.a, part := ⟨1 + pickI x.b 5, pickI x.c 200, secF S (pickI x.c 200)⟩ }) nl (.slice oa (secF S (pickI x.c 200)).length oc) nl).toList _ (fun j v hv => by rw [Nat.zero_add]; exact cell_of hP j (by simpa using hv)) Tryz.underlying47 rfl (by kernel_rfl) ?_
    refine wpList_store_mid rfl 47 (.tmp 4) (.tmp 217) rfl (w.heap.size + 1 + 1) 0 (rcA ({ rcN 11 with id := upN S x.a, part := ⟨1 + pickI x.b 5, pickI x.c 200, secF S (pickI x.c 200)⟩ }) nl (.slice oa (secF S (pickI x.c 200)).length oc) nl) rfl rfl (there_of (c := rcA (rcN 0) nl nl nl) (t := 47) hR) (by kernel_rfl) (by simp [Value.oneCell']) ?_
    have hrr := rec_end (c' := (rcA ({ rcN 11 with id := upN S x.a, part := ⟨1 + pickI x.b 5, pickI x.c 200, secF S (pickI x.c 200)⟩ }) nl (.slice oa (secF S (pickI x.c 200)).length oc) nl)) hR rfl
    revert hrr
    generalize World.setCells _ (w.heap.size + 1 + 1) 0 _ = W9
    intro hrr
    obtain ⟨r9, hg9⟩ := hrr
    clear hP hR
    go_wp2
    refine bodyPost_ret (v := rcV ({ rcN 11 with id := upN S x.a, part := ⟨1 + pickI x.b 5, pickI x.c 200, secF S (pickI x.c 200)⟩ }) nl (.slice oa (secF S (pickI x.c 200)).length oc) nl) (rec_res r9 rfl rfl) rfl ⟨nl, (.slice oa (secF S (pickI x.c 200)).length oc), nl, by rw [unhide HQ], ?_, ?_⟩
    · rw [unhide HQ]
      exact ⟨Ints.nil9 _, unhide HKP _ (fun k h1 h2 _ => (hg9.block k (by have := (unhide HRR3).lt; have := b4.size; simp at h1 h2; have := (unhide HRR0).lt; simp [World.setCell] at *; omega) (fun e => by injection e with e; have := (unhide HRR0).lt; simp at h1; omega)).trans (((gb_setCell _ (w.heap.size + 1 + 1 + 1) 1 _).block k (by have := b4.size; simp [World.setCell] at *; omega) (fun e => by injection e with e; have := (unhide HRR0).lt; simp at h1; omega)).trans ((b4.block k (by simp [World.setCell]; exact h2)).trans ((gb_trans (gb_trans (gb_setCell w2 (w.heap.size + 1 + 1 + 1) 23 _) (gb_setCell _ _ 24 _)) (gb_setCell _ _ 25 _)).block k h2 (fun e => by injection e with e; have := (unhide HRR0).lt; simp at h1; omega))))), Ints.nil9 _⟩
    · exact bl_tr hbl (gb_lo hg9 (by have := hbl.size; omega) (fun j e => by injection e with e; omega)))
end Go.Proofs.YtdgmdapijhbocaaGreat

/- A region that draws its order and only makes new memory: one fact for each operation, in every world that has grown, serves every order. -/
namespace Go.Proofs.YtdgmdapijhbocaaGreat
open Go.RowKit
set_option linter.unusedVariables false
set_option linter.unusedSimpArgs false
/-- How many have not come up yet. -/
def openN (listed : Array Bool) : Nat := listed.toList.count false
theorem count_set (l : List Bool) {i : Nat} (hi : l[i]? = some false) : (l.set i true).count false + 1 = l.count false := by
  induction l generalizing i with
  | nil => simp at hi
  | cons b l ih =>
    cases i with
    | zero => simp at hi; subst hi; simp
    | succ i =>
      simp at hi
      simp only [List.set_cons_succ, List.count_cons]
      have := ih hi
      omega
theorem openN_set {listed : Array Bool} {i : Nat} (hi : listed.getD i true = false) : openN (listed.setIfInBounds i true) + 1 = openN listed := by
  have hlt : i < listed.size := by
    rcases Nat.lt_or_ge i listed.size with h | h
    · exact h
    · simp [Array.getD, Nat.not_lt.2 h] at hi
  unfold openN
  rw [Array.toList_setIfInBounds]
  refine count_set _ ?_
  rw [Array.getElem?_toList, Array.getElem?_eq_getElem hlt]
  simpa [Array.getD, hlt] using hi
theorem openN_zero {listed : Array Bool} (h : openN listed = 0) (i : Nat) : listed.getD i true = true := by
  rcases Nat.lt_or_ge i listed.size with hlt | hge
  · unfold openN at h
    rw [List.count_eq_zero] at h
    cases hb : listed.getD i true
    · exfalso
      apply h
      have : listed[i] = false := by simpa [Array.getD, hlt] using hb
      rw [← this]
      simp
    · rfl
  · simp [Array.getD, Nat.not_lt.2 hge]
section
variable {P : Program} {ops : Array Oper} {Q : Exit → Act → World → Prop} {md : Region.Mode}
/-- An invariant of the operations that have come up, the frame and the world serves every order. -/
theorem wpAny_inv (I : Array Bool → Act → World → Prop) (hs : ∀ listed a w, I listed a w → ∀ i ∈ Region.ready md ops listed, wpOp P ops Q i (I (listed.setIfInBounds i true)) a w)
    (he : ∀ listed a w, I listed a w → Region.ready md ops listed = [] → Q .normal a w) : ∀ (fuel : Nat) (listed : Array Bool) (a : Act) (w : World), openN listed ≤ fuel → I listed a w → wpAny P md ops Q fuel listed a w
  | 0, listed, a, w, hn, hI => by
    have hr : Region.ready md ops listed = [] := by
      rw [List.eq_nil_iff_forall_not_mem]
      intro i hi
      have := (mem_ready.1 hi).1
      rw [openN_zero (by omega)] at this
      cases this
    exact ⟨hr, he _ _ _ hI hr⟩
  | fuel + 1, listed, a, w, hn, hI => by
    refine ⟨he _ _ _ hI, fun i hi => wpOp_mono (fun a' w' h => wpAny_inv I hs he fuel _ a' w' ?_ h) (hs _ _ _ hI i hi)⟩
    have := openN_set (mem_ready.1 hi).1
    omega
/-- What the frame has in the slot of an operation. -/
def slotV (a : Act) (o : Oper) : Value := a.tmps.getD (o.dst.getD 0) undef
/-- Slots that no operation of the region writes. -/
def Else (ops : Array Oper) (a0 a : Act) : Prop := a.tmps.size = a0.tmps.size ∧ a.defers = a0.defers ∧ ∀ t, (∀ o ∈ ops, o.dst ≠ some t) → a.tmps.getD t undef = a0.tmps.getD t undef
structure GrowI (ops : Array Oper) (F : Nat → Value → World → Prop) (w0 : World) (a0 : Act) (listed : Array Bool) (a : Act) (w : World) : Prop where
  size : listed.size = ops.size
  els : Else ops a0 a
  bel : Below w0.heap.size w0 w
  got : ∀ i o, ops[i]? = some o → listed.getD i true = true → F i (slotV a o) w
theorem ready_nil_all (hops : ∀ (i : Nat) (o : Oper), ops[i]? = some o → ∀ e ∈ o.after, e.on < i) {listed : Array Bool} (hsz : listed.size = ops.size) (hr : Region.ready md ops listed = []) : ∀ i, i < ops.size → listed.getD i true = true := by
  intro i
  induction i using Nat.strongRecOn with
  | ind i ih =>
    intro hi
    cases hb : listed.getD i true
    · exfalso
      have : i ∈ Region.ready md ops listed := mem_ready.2 ⟨hb, ops[i], Array.getElem?_eq_getElem hi, fun e he _ => by
        have hlt := hops i ops[i] (Array.getElem?_eq_getElem hi) e he
        have := ih e.on hlt (by omega)
        simpa [Array.getD, show e.on < listed.size by omega] using this⟩
      rw [hr] at this
      cases this
    · rfl
/-- **One fact for each operation.** F i v w: the value v that operation number i has left is good in the world w. -/
theorem wp_region_grow {id : Nat} {a0 : Act} {w0 : World} (F : Nat → Value → World → Prop) (hm : P.follows .mixedOrders = true)
    (hup : ∀ i v w w', Below w.heap.size w w' → F i v w → F i v w')
    (hdst : ∀ (i : Nat) (o : Oper), ops[i]? = some o → ∃ t, o.dst = some t ∧ t < a0.tmps.size ∧ o.guard = none ∧ ∀ (j : Nat) (o' : Oper), ops[j]? = some o' → o'.dst = some t → j = i)
    (hops : ∀ (i : Nat) (o : Oper), ops[i]? = some o → ∀ e ∈ o.after, e.on < i)
    (hstep : ∀ (i : Nat) (o : Oper) (a : Act) (w : World), ops[i]? = some o → Else ops a0 a → Below w0.heap.size w0 w → (∀ e ∈ o.after, Region.binds .any e = true → ∀ o', ops[e.on]? = some o' → F e.on (slotV a o') w) → Region.wanted o (yielded ops a.tmps) = true ∧ Oper.wp P o a w (fun a' w' => ∃ v, a' = a.put o.dst v ∧ Below w.heap.size w w' ∧ F i v w') Q)
    (hend : ∀ a w, Else ops a0 a → Below w0.heap.size w0 w → (∀ i o, ops[i]? = some o → F i (slotV a o) w) → Q .normal a w) : (Code.region id ops true).wp P Q a0 w0 := by
  refine wp_region_any hm (wpAny_inv (GrowI ops F w0 a0) ?_ ?_ _ _ _ _ ?_ ⟨by simp, ⟨rfl, rfl, fun t _ => rfl⟩, (Below.refl _ _).drew, fun i o ho hl => ?_⟩)
  · intro listed a w hI i hi
    obtain ⟨hun, o, ho, hall⟩ := mem_ready.1 hi
    obtain ⟨t, ht, hts, hg, huniq⟩ := hdst i o ho
    obtain ⟨hwant, hwp⟩ := hstep i o a w ho hI.els hI.bel fun e he hb o' ho' => by
      refine hI.got _ _ ho' ?_
      have := hall e he hb
      have hlt := hops i o ho e he
      have hes : e.on < ops.size := (Array.getElem?_eq_some_iff.1 ho').1
      have hls := hI.size
      simpa [Array.getD, show e.on < listed.size by omega] using this
    unfold wpOp
    rw [ho]
    simp only [hwant, if_true]
    refine .inl (Oper.wp_mono (fun a' w' hh => ?_) hwp)
    obtain ⟨v, rfl, hb, hf⟩ := hh
    have hself : slotV (a.put o.dst v) o = v := by
      unfold slotV
      rw [ht]
      simp only [Act.put, Option.getD_some]
      have : t < a.tmps.size := by rw [hI.els.1]; exact hts
      simp [Array.getD, this]
    have hother : ∀ (j : Nat) (o' : Oper), ops[j]? = some o' → j ≠ i → slotV (a.put o.dst v) o' = slotV a o' := fun j o' ho' hj => by
      obtain ⟨t', ht', _, _, _⟩ := hdst j o' ho'
      have hne : t ≠ t' := fun e => hj (huniq j o' ho' (by rw [ht', e]))
      unfold slotV
      rw [ht, ht']
      simp only [Act.put, Option.getD_some]
      simp [Array.getD_eq_getD_getElem?, Array.getElem?_setIfInBounds_ne hne]
    refine ⟨by simp [hI.size], ⟨?_, ?_, fun s hsn => ?_⟩, hI.bel.trans (hb.mono hI.bel.size), fun j o' ho' hl => ?_⟩
    · rw [ht]; simp [Act.put, hI.els.1]
    · rw [ht]; exact hI.els.2.1
    · have hne : t ≠ s := fun e => hsn o (Array.mem_of_getElem? ho) (by rw [ht, e])
      rw [ht, ← hI.els.2.2 s hsn]
      simp [Act.put, Array.getD_eq_getD_getElem?, Array.getElem?_setIfInBounds_ne hne]
    · by_cases hj : j = i
      · subst hj
        rw [ho] at ho'
        simp at ho'
        subst ho'
        rw [hself]; exact hf
      · rw [hother j o' ho' hj]
        refine hup _ _ _ _ hb (hI.got j o' ho' ?_)
        simpa [Array.getD_eq_getD_getElem?, Array.getElem?_setIfInBounds_ne (Ne.symm hj)] using hl
  · intro listed a w hI hr
    refine hend a w hI.els hI.bel fun i o ho => hI.got i o ho ?_
    exact ready_nil_all hops hI.size hr i (Array.getElem?_eq_some_iff.1 ho).1
  · unfold openN
    rw [show (Array.replicate ops.size false).toList = List.replicate ops.size false by simp, List.count_replicate]
    simp
  · exfalso
    have hlt : i < ops.size := (Array.getElem?_eq_some_iff.1 ho).1
    simp [Array.getD, hlt] at hl
/-- A property of each operation, one by one. -/
def AllOps (R : Nat → Oper → Prop) : Nat → List Oper → Prop
  | _, [] => True
  | k, o :: l => R k o ∧ AllOps R (k + 1) l
theorem AllOps.cons {R : Nat → Oper → Prop} {k : Nat} {o : Oper} {l : List Oper} (h : R k o) (t : AllOps R (k + 1) l) : AllOps R k (o :: l) := ⟨h, t⟩
theorem AllOps.nil {R : Nat → Oper → Prop} {k : Nat} : AllOps R k [] := trivial
theorem AllOps.at {R : Nat → Oper → Prop} : ∀ {l : List Oper} {k : Nat}, AllOps R k l → ∀ (i : Nat) (o : Oper), l[i]? = some o → R (k + i) o
  | [], _, _, i, o, h => by simp at h
  | _ :: _, k, h, 0, o, e => by simp at e; subst e; exact h.1
  | _ :: _, k, h, i + 1, o, e => by
    have := AllOps.at h.2 i o (by simpa using e)
    rwa [show k + 1 + i = k + (i + 1) by omega] at this
/-- Each operation has a slot of its own, and no guard; it waits for earlier ones alone. -/
def dstB (l : List Oper) (n : Nat) : Bool := (List.range l.length).all fun i => (l[i]?).any fun o => (o.dst.any fun t => decide (t < n) && (List.range l.length).all fun j => j == i || (l[j]?).all fun o' => o'.dst != some t) && o.guard.isNone && o.after.all fun e => decide (e.on < i)
theorem dstB_all {l : List Oper} {n : Nat} (h : dstB l n = true) {i : Nat} {o : Oper} (ho : l[i]? = some o) : (∃ t, o.dst = some t ∧ t < n ∧ o.guard = none ∧ ∀ (j : Nat) (o' : Oper), l[j]? = some o' → o'.dst = some t → j = i) ∧ ∀ e ∈ o.after, e.on < i := by
  unfold dstB at h
  rw [List.all_eq_true] at h
  have h1 := h i (List.mem_range.2 (List.getElem?_eq_some_iff.1 ho).1)
  rw [ho] at h1
  simp only [Option.any_some, Bool.and_eq_true] at h1
  obtain ⟨⟨h1, h2⟩, h3⟩ := h1
  rw [Array.all_eq_true_iff_forall_mem] at h3
  refine ⟨?_, fun e he => by simpa using h3 e he⟩
  cases hd : o.dst with
  | none => rw [hd] at h1; simp at h1
  | some t =>
    rw [hd] at h1
    simp only [Option.any_some, Bool.and_eq_true, decide_eq_true_eq, List.all_eq_true, List.mem_range, Bool.or_eq_true, beq_iff_eq] at h1
    refine ⟨t, rfl, h1.1, by simpa using h2, fun j o' ho' hd' => ?_⟩
    rcases h1.2 j (List.getElem?_eq_some_iff.1 ho').1 with e | e
    · exact e
    · rw [ho'] at e
      simp [hd'] at e
def StepR (P : Program) (Q : Exit → Act → World → Prop) (l : List Oper) (F : Nat → Value → World → Prop) (w0 : World) (a0 : Act) (i : Nat) (o : Oper) : Prop :=
  ∀ a w, (∀ t, (l.all fun o => o.dst != some t) = true → a.tmps.getD t undef = a0.tmps.getD t undef) → Below w0.heap.size w0 w → (∀ k, (o.after.any fun e => e.on == k && Region.binds .any e) = true → ∀ o', l[k]? = some o' → F k (slotV a o') w) →
    Region.wanted o (yielded l.toArray a.tmps) = true ∧ Oper.wp P o a w (fun a' w' => ∃ v, a' = a.put o.dst v ∧ Below w.heap.size w w' ∧ F i v w') Q
theorem else_of {l : List Oper} {a0 a : Act} (h : Else l.toArray a0 a) {t : Nat} (ht : (l.all fun o => o.dst != some t) = true) : a.tmps.getD t undef = a0.tmps.getD t undef := by
  refine h.2.2 t fun o ho e => ?_
  rw [List.all_eq_true] at ht
  have := ht o (by simpa using ho)
  simp [e] at this
theorem rebuild_at (x : Array Value) : ∀ (ds : List Nat) (y : Array Value), (ds.foldl (fun t d => t.setIfInBounds d (x.getD d undef)) y).size = y.size ∧ ∀ i, (ds.foldl (fun t d => t.setIfInBounds d (x.getD d undef)) y).getD i undef = if i ∈ ds ∧ i < y.size then x.getD i undef else y.getD i undef
  | [], y => ⟨rfl, fun i => by simp⟩
  | d :: ds, y => by
    obtain ⟨h1, h2⟩ := rebuild_at x ds (y.setIfInBounds d (x.getD d undef))
    refine ⟨by simpa using h1, fun i => ?_⟩
    rw [List.foldl_cons, h2]
    by_cases hi : i ∈ ds ∧ i < y.size
    · rw [if_pos (by simpa using hi), if_pos ⟨List.mem_cons_of_mem _ hi.1, hi.2⟩]
    · rw [if_neg (by simpa using hi)]
      by_cases e : d = i
      · subst e
        by_cases hl : d < y.size
        · rw [if_pos ⟨List.mem_cons_self, hl⟩]
          simp only [Array.getD_eq_getD_getElem?]
          rw [Array.getElem?_setIfInBounds_self_of_lt hl]
          rfl
        · rw [if_neg (fun q => hl q.2)]
          simp only [Array.getD_eq_getD_getElem?]
          rw [Array.getElem?_eq_none (by simp; omega), Array.getElem?_eq_none (by omega)]
      · have e2 : ¬ (i ∈ d :: ds ∧ i < y.size) := fun q => by
          rcases List.mem_cons.1 q.1 with h | h
          · exact e h.symm
          · exact hi ⟨h, q.2⟩
        rw [if_neg e2]
        simp only [Array.getD_eq_getD_getElem?]
        rw [Array.getElem?_setIfInBounds_ne e]
/-- A frame that parts from another one in some slots alone, written out. -/
theorem rebuild {x y : Array Value} (hs : x.size = y.size) {ds : List Nat} (h : ∀ t, t ∉ ds → x.getD t undef = y.getD t undef) : x = ds.foldl (fun t d => t.setIfInBounds d (x.getD d undef)) y := by
  obtain ⟨h1, h2⟩ := rebuild_at x ds y
  refine Array.ext (by rw [h1, hs]) fun i hi hi' => ?_
  have hgen : ∀ (z : Array Value) (hz : i < z.size), z.getD i undef = z[i] := fun z hz => by simp [Array.getD, hz]
  have h3 := h2 i
  rw [hgen _ hi'] at h3
  rw [h3, ← hgen x hi]
  by_cases q : i ∈ ds ∧ i < y.size
  · rw [if_pos q]
  · rw [if_neg q]
    exact h i fun m => q ⟨m, by omega⟩
/-- The law, as it is used. -/
theorem wp_grow {l : List Oper} {id : Nat} {a0 : Act} {w0 : World} {Q : Exit → Act → World → Prop} (F : Nat → Value → World → Prop) (hm : P.follows .mixedOrders = true) (hd : dstB l a0.tmps.size = true)
    (hup : ∀ i v w w', Below w.heap.size w w' → F i v w → F i v w')
    (hstep : AllOps (StepR P Q l F w0 a0) 0 l)
    (hend : ∀ a w, a = { tmps := (l.filterMap (·.dst)).foldl (fun t d => t.setIfInBounds d (a.tmps.getD d undef)) a0.tmps, defers := a0.defers } → Below w0.heap.size w0 w → (∀ i o, l[i]? = some o → F i (slotV a o) w) → Q .normal a w) : (Code.region id l.toArray true).wp P Q a0 w0 := by
  refine wp_region_grow F hm hup (fun i o ho => let ⟨t, e1, e2, e3, e4⟩ := (dstB_all hd (by simpa using ho)).1; ⟨t, e1, e2, e3, fun j o' ho' => e4 j o' (by simpa using ho')⟩) (fun i o ho => (dstB_all hd (by simpa using ho)).2) ?_ ?_
  · intro i o a w ho hE hb hdep
    have hs := hstep.at i o (by simpa using ho)
    rw [Nat.zero_add] at hs
    refine hs a w (fun t ht => else_of hE ht) hb fun k hk o' ho' => ?_
    rw [Array.any_eq_true'] at hk
    obtain ⟨e, he, hk⟩ := hk
    rw [Bool.and_eq_true, beq_iff_eq] at hk
    obtain ⟨rfl, hk⟩ := hk
    exact hdep e he hk o' (by simpa using ho')
  · intro a w hE hb hF
    refine hend a w ?_ hb fun i o ho => hF i o (by simpa using ho)
    have := rebuild (x := a.tmps) (y := a0.tmps) hE.1 (ds := l.filterMap (·.dst)) fun t ht => hE.2.2 t fun o ho e => ht (List.mem_filterMap.2 ⟨o, by simpa using ho, e⟩)
    cases a
    simp only [Act.mk.injEq]
    exact ⟨this, hE.2.1⟩
end
end Go.Proofs.YtdgmdapijhbocaaGreat
