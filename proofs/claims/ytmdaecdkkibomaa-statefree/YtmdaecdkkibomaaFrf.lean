/- The document's FreeOf. -/
import Derived.Test.YtmdaecdkkibomaaFre
import Derived.Test.YtmdaecdkkibomaaRfc
namespace Go.Proofs.Ytmdaecdkkibomaa
open Go.RowKit Go.Maps
set_option maxRecDepth 100000
set_option linter.unusedVariables false
set_option linter.unusedSimpArgs false
theorem any_count (l : List Int) (n : Int) : (l.any (fun x => x == n)) = decide (l.count n ≠ 0) := by
  rw [Bool.eq_iff_iff, List.any_eq_true, decide_eq_true_eq]
  constructor
  · rintro ⟨x, hx, e⟩
    have : x = n := by simpa using e
    subst this
    have := List.count_pos_iff.2 hx
    omega
  · intro h
    have : n ∈ l := List.count_pos_iff.1 (by omega)
    exact ⟨n, this, by simp⟩
set_option maxHeartbeats 2000000 in
theorem freeOf_any (S : St) (b v u q g : Value) (m : Int) (w : World) (hS : Sta w b v u q g S) :
    Calls Try.prog 21 #[stV S b v u q g, .int .i64 m] w fun e w' => ∃ o, e = .returned (.tuple #[o, .int .i64 (freE S m)]) ∧ OwI w' w.heap.size o (freL S m) ∧ Below w.heap.size w w' := by
  have HS := hide hS
  clear hS
  obtain ⟨i0, hi, hz0, hz1, hz2⟩ := info_parts infoI
  obtain ⟨E, hE⟩ : ∃ E, freE S m = E := ⟨_, rfl⟩
  obtain ⟨L, hL⟩ : ∃ L, freL S m = L := ⟨_, rfl⟩
  rw [hE, hL]
  have HE := hide hE
  have HL := hide hL
  clear hE hL
  go_enter Try.func21, Try.ntmps21
  go_wp2_with fail
  refine (stateMay_any S b v u q g _ ((unhide HS).up (bl1 _ _))).mono ?_
  rintro e w1 ⟨rfl, hb⟩
  have hX := (BoxS.new w S b v u q g 35).up hb
  have hw1 := bl_trans (bl1 w _) hb
  have x0 := hX.c0
  have x1 := hX.c1
  have x2 := hX.c2
  have x3 := hX.c3
  have x4 := hX.c4
  have x5 := hX.c5
  have x6 := hX.c6
  clear hX hb
  rw [st_eq]
  cases hc : stC S
  · obtain ⟨k1, k2⟩ := freE_9 (m := m) hc
    have HE' : Hid (E = 9) := by rw [← unhide HE]; exact k1
    have HL' : Hid (L = []) := by rw [← unhide HL]; exact k2
    clear k1 k2 hc
    go_wp2
    go_ret2
    exact ⟨_, ret_tup (unhide HE').symm, by rw [unhide HL']; exact OwI.nil _ _, hw1⟩
  have hsl := stC_secs hc
  have HC := hide hc
  clear hc
  go_wp2_with fail
  refine (in_any _ _ _ _).mono ?_
  rintro e w2 ⟨rfl, rfl⟩
  cases h2 : inB m 0 200
  · obtain ⟨k1, k2⟩ := freE_2 (unhide HC) h2
    have HE' : Hid (E = 2) := by rw [← unhide HE]; exact k1
    have HL' : Hid (L = []) := by rw [← unhide HL]; exact k2
    clear k1 k2 h2
    go_wp2
    go_ret2
    exact ⟨_, ret_tup (unhide HE').symm, by rw [unhide HL']; exact OwI.nil _ _, hw1⟩
  obtain ⟨m0, m1⟩ := inB_t h2
  obtain ⟨n, rfl⟩ := Int.eq_ofNat_of_zero_le m0
  obtain ⟨k1, k2⟩ := freE_0 (unhide HC) h2
  have HE' : Hid (E = 0) := by rw [← unhide HE]; exact k1
  have HL' : Hid (L = freK S n) := by rw [← unhide HL]; exact k2
  clear k1 k2 h2
  go_wp2_with fail
  refine (allSectors_any S b v u q g _ ((unhide HS).up hw1) (by omega)).mono ?_
  rintro e W ⟨ov, rfl, hov, hbt⟩
  have hwW := bl_trans hw1 hbt
  have HOI := hide (hov.ints (secs_wf (unhide HS)))
  obtain ⟨oa, oc, rfl, ol, om⟩ := hov.form
  unfold maxLen at om
  clear hov hbt x0 x1 x2 x3 x4 x5 x6
  obtain ⟨A, hA⟩ : ∃ A, secs S = A := ⟨_, rfl⟩
  rw [hA] at HOI ol hsl ⊢
  have HA := hide hA
  clear hA
  go_wp2
  go_loopw [7, 8, 9, 10] (fun o i _ _ wr => ∃ k : Nat, k ≤ n ∧ i = .int .i64 k ∧ Below W.heap.size W wr ∧ OwI wr W.heap.size o (freK S k)) (fun _ i _ _ _ => n - (intOf i).toNat)
  case atStart => exact ⟨0, Nat.zero_le _, rfl, Below.refl _ _, OwI.nil _ _⟩
  case round =>
    obtain ⟨k, hk, rfl, hbq, hO⟩ := hrel
    have HOQ := hide hO
    clear hO
    by_cases hlt : k < n
    · have HBQ := hide hbq
      go_wp2
      go_loopw [9, 10] (fun t i wp => ∃ j : Nat, j ≤ A.length ∧ i = .int .i64 j ∧ t = .bool ((A.take j).any (fun x => x == (k : Int))) ∧ Below W.heap.size W wp ∧ OwI wp W.heap.size u7 (freK S k)) (fun _ i _ => A.length - (intOf i).toNat)
      case atStart => exact ⟨0, Nat.zero_le _, rfl, rfl, hbq, unhide HOQ⟩
      case round =>
        clear hbq HBQ HOQ
        obtain ⟨j, hj, rfl, rfl, hbq, hO⟩ := hrel
        have HOQ := hide hO
        clear hO
        by_cases hjl : j < A.length
        · obtain ⟨b5, o5, e5, r⟩ := Lst.at (Ints.up hbq (unhide HOI)) hjl
          subst e5
          have c0 := r.1
          rw [Nat.mul_one] at c0
          have HT : Hid ((A.take (j + 1)).any (fun x => x == (k : Int)) = ((A.take j).any (fun x => x == (k : Int)) || A.getD j 0 == (k : Int))) := by
            show _ = _
            rw [take_next A 0 hjl, List.any_append]; simp
          obtain ⟨Z, hZ⟩ : ∃ Z, A.getD j 0 = Z := ⟨_, rfl⟩
          rw [hZ] at c0 HT
          obtain ⟨B, hB⟩ : ∃ B, (A.take j).any (fun x => x == (k : Int)) = B := ⟨_, rfl⟩
          rw [hB] at HT ⊢
          clear r hZ hB
          cases B
          · go_wp2
            go_roundw
            case rel => exact ⟨j + 1, by omega, by go_num, by rw [unhide HT]; rfl, hbq, unhide HOQ⟩
            case measure => (simp [intOf] <;> omega)
          · go_wp2
            go_roundw
            case rel => exact ⟨j + 1, by omega, by go_num, by rw [unhide HT]; rfl, hbq, unhide HOQ⟩
            case measure => (simp [intOf] <;> omega)
        · have hA2 : A.take j = A := List.take_of_length_le (by omega)
          rw [hA2, any_count]
          clear hA2
          obtain ⟨c, hcc⟩ : ∃ c : Nat, A.count (k : Int) = c := ⟨_, rfl⟩
          have hcc2 : (secs S).count (k : Int) = c := by rw [unhide HA]; exact hcc
          rw [hcc]
          clear hcc
          have hln := freK_len S k
          have hWq := hbq.size
          by_cases h0 : c = 0
          · have HZ : Hid (freK S (k + 1) = freK S k ++ [(k : Int)]) := freK_yes (hcc2.trans h0)
            clear hcc2
            subst h0
            rw [show decide ((0 : Nat) ≠ 0) = false from rfl]
            obtain ⟨Q, hQ⟩ : ∃ Q, freK S k = Q := ⟨_, rfl⟩
            rw [hQ] at HOQ HZ hln
            clear hQ
            go_wp2_with (first
              | (at_builtin; refine wpList_append_own _ rfl _ _ 33 rfl W.heap.size 3 i0 (.int .i64 0) 1 8 Try.underlying33 hi hz0 hz1 hz2 rfl (by decide) _ _ _ rfl ((unhide HOQ).alloc _) ⟨wr.heap.size, 0, none⟩ 1 1 [.int .i64 (k : Int)] rfl rfl (cell_one_new _ _ _) (oneI _) (by unfold maxLen; omega) (by omega) (by simp; omega) ?_; intro v' w1' hown' hgrow hnil)
              | go_in)
            have hb1 := (bl_alloc hbq _).grown hgrow (bl_alloc hbq _).size (fun j hj => own_blk (unhide HOQ) j hj)
            rw [i64s_snoc] at hown'
            clear hgrow hnil
            first
              | exact ⟨⟨k + 1, by omega, by go_num, hb1, by rw [unhide HZ]; unfold OwI; rw [List.length_append]; exact hown'⟩, by simp [intOf]; omega⟩
              | (go_roundw
                 case rel => exact ⟨k + 1, by omega, by go_num, hb1, by rw [unhide HZ]; unfold OwI; rw [List.length_append]; exact hown'⟩
                 case measure => (simp [intOf] <;> omega))
          · have HZ : Hid (freK S (k + 1) = freK S k) := freK_no (by rw [hcc2]; exact h0)
            rw [show decide (c ≠ 0) = true from decide_eq_true h0]
            clear hcc2 h0
            go_wp2
            go_roundw
            case rel => exact ⟨k + 1, by omega, by go_num, hbq, by rw [unhide HZ]; exact unhide HOQ⟩
            case measure => (simp [intOf] <;> omega)
    · obtain rfl : k = n := by omega
      go_wp2
      go_ret2
      exact ⟨_, ret_tup (unhide HE').symm, by rw [unhide HL']; exact own_lo (unhide HOQ) hwW.size, bl_trans hwW hbq⟩
end Go.Proofs.Ytmdaecdkkibomaa
