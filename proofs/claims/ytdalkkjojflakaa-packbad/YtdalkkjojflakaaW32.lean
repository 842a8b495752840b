/- Bad pieces: the walk. -/
import Derived.Test.YtdalkkjojflakaaPak
import Derived.Test.YtdalkkjojflakaaKp1
import Derived.DataShut
namespace Go.Proofs.Ytdalkkjojflakaa
open Go.RowKit
set_option linter.unusedVariables false
set_option linter.unusedSimpArgs false

theorem Nts.nil (w : World) : Nts w (.slice none 0 0) [] := ⟨none, 0, rfl, Nat.le_refl _, Nat.zero_le _, fun i hi => absurd hi (Nat.not_lt_zero _)⟩
theorem RowsAt.nil (w : World) : RowsAt w (.slice none 0 0) [] := ⟨none, 0, rfl, Nat.le_refl _, Nat.zero_le _, fun i hi => absurd hi (Nat.not_lt_zero _)⟩
theorem Nts.one (w : World) (x : Int) (t : TypeId) : Nts (w.alloc (.cells #[.int .i64 x] t)) (.slice (some ⟨w.heap.size, 0, none⟩) 1 1) [x] := by
  refine ⟨_, 1, rfl, Nat.le_refl _, by decide, fun i hi => ⟨w.heap.size, 0, rfl, ?_⟩⟩
  obtain rfl : i = 0 := by simp at hi; omega
  rw [World.cell?_alloc_at _ _ _ _ rfl]; rfl
theorem wf_p {n : Int} (h : (Lit.int .i64 n).wf = true) : -9223372036854775808 ≤ n ∧ n ≤ 9223372036854775807 := by
  have e := (Lit.wf_int_iff .i64 n).1 h
  have a : IntKind.i64.min = -9223372036854775808 := by decide
  have b : IntKind.i64.max = 9223372036854775807 := by decide
  rw [a, b] at e
  exact e
theorem RowsAt.one2 {w : World} {o : Obj} {u : Value} {xs : List Int} {t : TypeId} (h : Bts (w.alloc o) u xs) : RowsAt ((w.alloc o).alloc (.cells #[u] t)) (.slice (some ⟨w.heap.size + 1, 0, none⟩) 1 1) [xs] := by
  have := RowsAt.one (t := t) h
  rwa [World.size_alloc] at this
theorem RowsAt.one3 {w : World} {o o' : Obj} {u : Value} {xs : List Int} {t : TypeId} (h : Bts ((w.alloc o).alloc o') u xs) : RowsAt (((w.alloc o).alloc o').alloc (.cells #[u] t)) (.slice (some ⟨w.heap.size + 1 + 1, 0, none⟩) 1 1) [xs] := by
  have := RowsAt.one (t := t) h
  rwa [World.size_alloc, World.size_alloc] at this
theorem pkE_1 : pkE 0 [1] [] = 4 := by decide
theorem pkE_2 {p x : Int} (hp : inB p 0 4000 = true) (h : inB x 1 1048576 = false) : pkE p [x] [[]] = 2 := by
  simp [pkE, pkF, pkQ, hp, h]
theorem pkE_3 {xs : List Int} (h : 600 < xs.length) : pkE 0 [1] [xs] = 1 := by
  have e : inB (xs.length : Int) 0 600 = false := by simp [inB]; omega
  simp [pkE, pkF, pkQ, bdL, e]
  simp [inB]
theorem pkE_4 {p : Int} (h : inB p 0 4000 = false) : pkE p [] [] = 2 := by simp [pkE, h]
theorem pkE_5 {k : Int} (h : 0 ≤ k) (h' : k < 9) : pkE k [] [] = 0 := by
  have e : inB k 0 4000 = true := by simp [inB]; omega
  simp [pkE, e, pkF]

set_option maxHeartbeats 2000000 in
set_option maxRecDepth 100000 in
theorem packBad_walk (n : Int) (w : World) (hw : (Lit.int .i64 n).wf = true) :
    Calls Try.prog 6 #[.int .i64 n] w fun e w' => e = .returned (.bool true) ∧ Below w.heap.size w w' := by
  have hn : -9223372036854775808 ≤ n ∧ n ≤ 9223372036854775807 := wf_p hw
  obtain ⟨k, hk⟩ : ∃ k, pickI n 9 = k := ⟨_, rfl⟩
  have hk0 : 0 ≤ k := by rw [← hk]; exact pickI_lo n (by decide)
  have hk1 : k < 9 := by rw [← hk]; exact pickI_hi n (by decide)
  have HK := hide hk
  clear hk
  obtain ⟨K, rfl⟩ := Int.eq_ofNat_of_zero_le hk0
  obtain ⟨i0, hi, hz0, hz1, hz2⟩ := info_parts infoU8
  have hmk : ∀ u : World, (Instr.makeSlice 24 (.int .i64 (601 + (K : Int))) (.int .i64 (601 + (K : Int)))).run Try.prog u =
      .ok (.slice (some ⟨u.heap.size, 0, none⟩) (601 + K) (601 + K)) (u.alloc (.cells (u8s (List.replicate (601 + K) 0)).toArray 5)) := fun u => by
    have h := run_make (P := Try.prog) u 24 5 i0 (.int .u8 0) Try.underlying24 hi hz0 .i64 .i64 (601 + (K : Int)) (601 + (K : Int)) (by omega) (Int.le_refl _) (by rw [hz2]; omega) (by omega)
    rw [show u8s (List.replicate (601 + K) 0) = List.replicate (601 + K) (.int .u8 0) by simp [u8s], ← made_u8]
    have e : (601 + (K : Int)).toNat = 601 + K := by omega
    simpa [hz1, Value.cells, e] using h
  go_enter Try.func6, Try.ntmps6
  go_wp2_with fail
  refine (picked_any n 9 _ (by decide) (by decide) hn.1 hn.2).mono ?_
  rintro e w0 ⟨rfl, rfl⟩
  rw [unhide HK]
  go_wp2_with fail
  refine (pack_any _ _ _ _ _ _ (Nts.one _ _ _) (RowsAt.nil _) (by simp)).mono ?_
  rintro e w1 ⟨u1, q1, rfl, _, _, hb1⟩
  rw [pkE_1]
  have HB1 := hide (bl_trans (bl1 w _) hb1)
  clear hb1
  go_wp2_with fail
  refine (pack_any _ _ _ _ _ _ ((Nts.one _ _ _).up (bl1 _ _)) (RowsAt.one2 (Bts.nil _)) (by simp)).mono ?_
  rintro e w2 ⟨u2, q2, rfl, _, _, hb2⟩
  rw [pkE_2 (by decide) (by simp [inB]; omega)]
  have HB2 := hide (bl_trans (bl_trans (unhide HB1) (bl2 _ _ _)) hb2)
  clear hb2
  go_wp2_with fail
  refine (pack_any _ _ _ _ [List.replicate (601 + K) 0] _ ((Nts.one _ _ _).up (bl2 _ _ _)) (RowsAt.one3 ?_) (by simp)).mono ?_
  · have := (Blk.new (w2.alloc (.cells #[.int .i64 1] 3)) (List.replicate (601 + K) 0)).bts (cap := 601 + K) (by simp) (by unfold maxLen; omega)
    rw [World.size_alloc, List.length_replicate] at this
    exact this
  rintro e w3 ⟨u3, q3, rfl, _, _, hb3⟩
  rw [pkE_3 (by rw [List.length_replicate]; omega)]
  have HB3 := hide (bl_trans (bl_trans (unhide HB2) (bl3 _ _ _ _)) hb3)
  clear hb3
  go_wp2_with fail
  refine (pack_any _ _ _ _ _ _ (Nts.nil _) (RowsAt.nil _) (by simp)).mono ?_
  rintro e w4 ⟨u4, q4, rfl, _, _, hb4⟩
  rw [pkE_4 (by simp [inB]; omega)]
  have HB4 := hide (bl_trans (unhide HB3) hb4)
  clear hb4
  go_wp2_with fail
  refine (pack_any _ _ _ _ _ _ (Nts.nil _) (RowsAt.nil _) (by simp)).mono ?_
  rintro e w5 ⟨u5, q5, rfl, h5, h5', hb5⟩
  rw [pkE_5 hk0 hk1] at h5 h5' ⊢
  have HB5 := hide (bl_trans (unhide HB4) hb5)
  clear hb5
  obtain ⟨a5, c5, rfl, _, _⟩ := own_form h5
  obtain ⟨d5, f5, rfl, _, _⟩ := own_form h5'
  clear h5 h5'
  have z1 : (okL 0 (pkO [] [] ([] : List Int).length)).length = 0 := rfl
  have z2 : (okP 0 (pkP (K : Int) [] [] ([] : List Int).length)).length = 0 := rfl
  rw [z1, z2]
  go_wp2
  go_ret
  exact ⟨rfl, unhide HB5⟩
end Go.Proofs.Ytdalkkjojflakaa
