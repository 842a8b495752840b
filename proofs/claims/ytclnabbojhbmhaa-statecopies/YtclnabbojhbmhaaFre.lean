/- state.Free, the document's FreeOf, and lists of numbers that are held against each other. -/
import Derived.Test.YtclnabbojhbmhaaRfq
import Derived.BigQuiet
import Derived.Deep.QuietTactic
namespace Go.Proofs.Ytclnabbojhbmhaa
open Go.RowKit Go.Maps
set_option maxRecDepth 100000
set_option linter.unusedVariables false
set_option linter.unusedSimpArgs false
theorem sameInts_any (x y : Value) (l : List Int) (w : World) (hx : Ints w x l) (hy : Ints w y l) : Calls Try.prog 22 #[x, y] w fun e w' => e = .returned (.bool true) ∧ Below w.heap.size w w' := by
  obtain ⟨a, ac, rfl, a1, a2⟩ := hx.form
  obtain ⟨b, bc, rfl, b1, b2⟩ := hy.form
  unfold maxLen at a2 b2
  have HX := hide hx
  have HY := hide hy
  clear hx hy
  go_enter Try.func22, Try.ntmps22
  go_wp2
  go_loopw [5] (fun i wr => ∃ k : Nat, k ≤ l.length ∧ i = .int .i64 k ∧ Below w.heap.size w wr) (fun i _ => l.length - (intOf i).toNat)
  case atStart => exact ⟨0, Nat.zero_le _, rfl, Below.refl _ _⟩
  case round =>
    obtain ⟨k, hk, rfl, hb⟩ := hrel
    by_cases hlt : k < l.length
    · obtain ⟨b1', o1, e1, r1⟩ := Lst.at (Ints.up hb (unhide HX)) hlt
      obtain ⟨b2', o2, e2, r2⟩ := Lst.at (Ints.up hb (unhide HY)) hlt
      subst e1 e2
      obtain ⟨Z, hZ⟩ : ∃ Z, l.getD k 0 = Z := ⟨_, rfl⟩
      have c1 := r1.1
      have c2 := r2.1
      rw [Nat.mul_one, hZ] at c1 c2
      clear r1 r2 hZ
      go_wp2
      have hne := Later.one wr
      have l1 := fun d : Later wr => d.cell c1
      have l2 := fun d : Later wr => d.cell c2
      refine wp_region_later (by kernel_rfl) (by kernel_rfl) ?_
      repeat (go_big_quiet_step (fail))
      refine wpQuiet_nil ?_
      intro w9 hw'
      obtain ⟨⟨w8, hb9⟩, hw''⟩ := hw'
      subst hw''
      clear hne l1 l2
      go_wp2
      go_roundw
      case rel => exact ⟨k + 1, by omega, by go_num, bl_trans hb hb9⟩
      case measure => (simp [intOf] <;> omega)
    · go_wp2
      go_ret
      exact ⟨rfl, hb⟩
theorem ret_tup {o : Value} {a b : Int} (h : a = b) : Ending.returned (.tuple #[o, .int .i64 a]) = .returned (.tuple #[o, .int .i64 b]) := by rw [h]
def freK (S : St) (k : Nat) : List Int := ((List.range k).map (fun n : Nat => (n : Int))).filter (fun x => decide ((secs S).count x = 0))
theorem freK_yes {S : St} {k : Nat} (h : (secs S).count (k : Int) = 0) : freK S (k + 1) = freK S k ++ [(k : Int)] := by
  unfold freK
  rw [List.range_succ, List.map_append, List.filter_append]
  simp [h]
theorem freK_no {S : St} {k : Nat} (h : (secs S).count (k : Int) ≠ 0) : freK S (k + 1) = freK S k := by
  unfold freK
  rw [List.range_succ, List.map_append, List.filter_append]
  simp [h]
theorem freK_len (S : St) (k : Nat) : (freK S k).length ≤ k := by
  unfold freK
  have := List.length_filter_le (fun x => decide ((secs S).count x = 0)) ((List.range k).map (fun n : Nat => (n : Int)))
  simpa using this
theorem freK_wf {S : St} {k : Nat} (hk : k ≤ 1000) : ∀ x ∈ freK S k, (Lit.int .i64 x).wf = true := by
  intro x hx
  unfold freK at hx
  obtain ⟨n, hn, rfl⟩ := List.mem_map.1 (List.mem_filter.1 hx).1
  have := List.mem_range.1 hn
  exact wfNat (by omega)
def freE (S : St) (m : Int) : Int := if stC S then (if inB m 0 200 then 0 else 2) else 9
def freL (S : St) (m : Int) : List Int := if freE S m = 0 then freK S m.toNat else []
theorem freE_9 {S : St} {m : Int} (h : stC S = false) : freE S m = 9 ∧ freL S m = [] := by simp [freE, freL, h]
theorem freE_2 {S : St} {m : Int} (h : stC S = true) (h2 : inB m 0 200 = false) : freE S m = 2 ∧ freL S m = [] := by simp [freE, freL, h, h2]
theorem freE_0 {S : St} {m : Nat} (h : stC S = true) (h2 : inB (m : Int) 0 200 = true) : freE S m = 0 ∧ freL S m = freK S m := by simp [freE, freL, h, h2]
theorem stC_secs {S : St} (h : stC S = true) : (secs S).length ≤ 1000 := by
  unfold stC at h
  simp only [Bool.and_eq_true] at h
  exact secs_le h.1.1.1.2 h.1.1.2
set_option maxHeartbeats 2000000 in
theorem free_any (S : St) (b v u q g : Value) (m : Int) (w : World) (hS : Sta w b v u q g S) :
    Calls Try.prog 20 #[stV S b v u q g, .int .i64 m] w fun e w' => ∃ o, e = .returned (.tuple #[o, .int .i64 (freE S m)]) ∧ OwI w' w.heap.size o (freL S m) ∧ Below w.heap.size w w' := by
  have HS := hide hS
  clear hS
  obtain ⟨i0, hi, hz0, hz1, hz2⟩ := info_parts infoI
  obtain ⟨E, hE⟩ : ∃ E, freE S m = E := ⟨_, rfl⟩
  obtain ⟨L, hL⟩ : ∃ L, freL S m = L := ⟨_, rfl⟩
  rw [hE, hL]
  have HE := hide hE
  have HL := hide hL
  clear hE hL
  go_enter Try.func20, Try.ntmps20
  go_wp2_with fail
  refine (check_any S b v u q g _ ((unhide HS).up (bl1 _ _))).mono ?_
  rintro e w1 ⟨rfl, hb⟩
  have hX := (BoxS.new w S b v u q g 35).up hb
  have hw1 := bl_trans (bl1 w _) hb
  have x0 := hX.c0
  have x1 := hX.c1
  have x2 := hX.c2
  have x3 := hX.c3
  have x4 := hX.c4
  have x5 := hX.c5
  have x6 := hX.c6
  clear hX hb
  obtain ⟨F, hF⟩ : ∃ F, stE S = F := ⟨_, rfl⟩
  rw [hF]
  have HF := hide hF
  clear hF
  cases hc : stC S
  · obtain ⟨k1, k2⟩ := freE_9 (m := m) hc
    have hf : F = 9 := by rw [← unhide HF]; exact stE_f hc
    have HE' : Hid (E = 9) := by rw [← unhide HE]; exact k1
    have HL' : Hid (L = []) := by rw [← unhide HL]; exact k2
    clear k1 k2 hc
    subst hf
    go_wp2
    go_ret2
    exact ⟨_, ret_tup (unhide HE').symm, by rw [unhide HL']; exact OwI.nil _ _, hw1⟩
  have hf : F = 0 := by rw [← unhide HF]; exact stE_t hc
  have hsl := stC_secs hc
  have HC := hide hc
  clear hc
  subst hf
  go_wp2_with fail
  refine (within_any _ _ _ _).mono ?_
  rintro e w2 ⟨rfl, rfl⟩
  cases h2 : inB m 0 200
  · obtain ⟨k1, k2⟩ := freE_2 (unhide HC) h2
    have HE' : Hid (E = 2) := by rw [← unhide HE]; exact k1
    have HL' : Hid (L = []) := by rw [← unhide HL]; exact k2
    clear k1 k2 h2
    go_wp2
    go_ret2
    exact ⟨_, ret_tup (unhide HE').symm, by rw [unhide HL']; exact OwI.nil _ _, hw1⟩
  obtain ⟨m0, m1⟩ := inB_t h2
  obtain ⟨n, rfl⟩ := Int.eq_ofNat_of_zero_le m0
  obtain ⟨k1, k2⟩ := freE_0 (unhide HC) h2
  have HE' : Hid (E = 0) := by rw [← unhide HE]; exact k1
  have HL' : Hid (L = freK S n) := by rw [← unhide HL]; exact k2
  clear k1 k2 h2
  go_wp2_with fail
  refine (takersOf_any S b v u q g _ ((unhide HS).up hw1) (by omega)).mono ?_
  rintro e W ⟨M, rfl, hle, hC, hbt⟩
  have HCN := hide hC
  have hwW := bl_trans hw1 hbt
  clear hC hbt x0 x1 x2 x3 x4 x5 x6
  go_wp2
  go_loopw [7, 9, 21] (fun o _ i wr => ∃ k : Nat, k ≤ n ∧ i = .int .i64 k ∧ Below W.heap.size W wr ∧ OwI wr W.heap.size o (freK S k)) (fun _ _ i _ => n - (intOf i).toNat)
  case atStart => exact ⟨0, Nat.zero_le _, rfl, Below.refl _ _, OwI.nil _ _⟩
  case round =>
    obtain ⟨k, hk, rfl, hbq, hO⟩ := hrel
    have HOQ := hide hO
    clear hO
    by_cases hlt : k < n
    · have hlk := ((unhide HCN).up hbq).look (x := (k : Int)) (wfNat (by omega))
      obtain ⟨c, hcc⟩ : ∃ c : Nat, (secs S).count (k : Int) = c := ⟨_, rfl⟩
      rw [hcc] at hlk
      have hln := freK_len S k
      have hWq := hbq.size
      by_cases h0 : c = 0
      · have HZ : Hid (freK S (k + 1) = freK S k ++ [(k : Int)]) := freK_yes (hcc.trans h0)
        clear hcc
        subst h0
        obtain ⟨Q, hQ⟩ : ∃ Q, freK S k = Q := ⟨_, rfl⟩
        rw [hQ] at HOQ HZ hln
        clear hQ
        go_wp2_with (first
          | (at_builtin; refine wpList_append_own _ rfl _ _ 33 rfl W.heap.size 3 i0 (.int .i64 0) 1 8 Try.underlying33 hi hz0 hz1 hz2 rfl (by decide) _ _ _ rfl ((unhide HOQ).alloc _) ⟨wr.heap.size, 0, none⟩ 1 1 [.int .i64 (k : Int)] rfl rfl (cell_one_new _ _ _) (oneI _) (by unfold maxLen; omega) (by omega) (by simp; omega) ?_; intro v' w1' hown' hgrow hnil)
          | go_in)
        have hb1 := (bl_alloc hbq _).grown hgrow (bl_alloc hbq _).size (fun j hj => own_blk (unhide HOQ) j hj)
        rw [i64s_snoc] at hown'
        clear hgrow hnil
        exact ⟨⟨k + 1, by omega, by go_num, hb1, by rw [unhide HZ]; unfold OwI; rw [List.length_append]; exact hown'⟩, by simp [intOf]; omega⟩
      · have HZ : Hid (freK S (k + 1) = freK S k) := freK_no (by rw [hcc]; exact h0)
        have hc0 : ((c : Int) == 0) = false := by simp; omega
        clear hcc
        go_wp2
        go_roundw
        case rel => exact ⟨k + 1, by omega, by go_num, hbq, by rw [unhide HZ]; exact unhide HOQ⟩
        case measure => (simp [intOf] <;> omega)
    · obtain rfl : k = n := by omega
      go_wp2
      go_ret2
      exact ⟨_, ret_tup (unhide HE').symm, by rw [unhide HL']; exact own_lo (unhide HOQ) hwW.size, bl_trans hwW hbq⟩
end Go.Proofs.Ytclnabbojhbmhaa
