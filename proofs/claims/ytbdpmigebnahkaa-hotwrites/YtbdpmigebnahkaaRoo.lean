/- icehouseref.chunks and roomMay. -/
import Derived.Test.YtbdpmigebnahkaaRom
namespace Go.Proofs.Ytbdpmigebnahkaa
open Go.RowKit
set_option linter.unusedVariables false
set_option linter.unusedSimpArgs false

theorem chunks64_any (n : Int) (w : World) (h0 : 0 ≤ n) (h1 : n ≤ 4611686018427387904) : Calls Try.prog 74 #[.int .i64 n, .int .i64 64] w fun e w' => e = .returned (.int .i64 (secH n)) ∧ w = w' := by
  rw [secH_chunk h0]
  go_enter Try.func74, Try.ntmps74
  go_wp2
  go_ret
  exact ⟨ret_int (by omega), rfl⟩

theorem cont_f {l : List Int} {k : Nat} {z : Int} (hk : k ≤ l.length) (h : ∀ j, j < k → ¬ l.getD j 0 = z) : (l.take k).contains z = false := by
  rw [← Bool.not_eq_true, List.contains_iff_mem]
  intro hm
  obtain ⟨j, hj, e⟩ := mem_at.1 hm
  have hjk : j < k := by simp at hj; omega
  refine h j hjk ?_
  rw [← e]
  simp [List.getD, List.getElem?_take, hjk]
theorem cont_t {l : List Int} {k j : Nat} {z : Int} (hk : k ≤ l.length) (hj : j < k) (h : l.getD j 0 = z) : (l.take k).contains z = true := by
  rw [List.contains_iff_mem]
  refine mem_at.2 ⟨j, by simp; omega, ?_⟩
  rw [← h]
  simp [List.getD, List.getElem?_take, hj]

set_option maxHeartbeats 1000000 in
theorem roomMay_any (r a h vm nv : Int) (v : Value) (l : List Int) (n : Int) (w : World) (hv : Nts w v l) (hh0 : 0 ≤ h) (hh1 : h ≤ 1000) :
    Calls Try.prog 44 #[.agg #[.int .i64 r, .int .i64 a, .int .i64 h, .int .i64 vm, .int .i64 nv], v, .int .i64 n] w fun e w' => e = .returned (.bool (romB h l n)) ∧ Below w.heap.size w w' := by
  have HV := hide hv
  obtain ⟨va, cap, rfl, l1, m1, hc⟩ := hv
  unfold maxLen at m1
  have HC := hide hc
  clear hc
  cases hn : inB n 0 600
  case false =>
    have HE := hide (romB_n (h := h) (l := l) hn)
    go_enter Try.func44, Try.ntmps44
    go_wp2_with (go_at_call 53; refine (in_any _ _ _ _).mono ?_; rintro e w' ⟨rfl, rfl⟩)
    go_ret
    exact ⟨ret_bool (unhide HE).symm, bl1 _ _⟩
  have hnb := inB_t hn
  obtain ⟨K, hK⟩ : ∃ K, secH n = K := ⟨_, rfl⟩
  by_cases hl : (l.length : Int) = K
  case neg =>
    have HE := hide (romB_l (h := h) (l := l) (n := n) (by rw [hK]; exact hl))
    have HK := hide hK
    have hl' : ((l.length : Int) != K) = true := by simpa using hl
    clear hK
    go_enter Try.func44, Try.ntmps44
    go_wp2_with (first | (go_at_call 53; refine (in_any _ _ _ _).mono ?_; rintro e w' ⟨rfl, rfl⟩) | (go_at_call 74; refine (chunks64_any _ _ (by omega) (by omega)).mono ?_; rintro e w' ⟨rfl, rfl⟩; rw [unhide HK]))
    go_ret
    exact ⟨ret_bool (unhide HE).symm, bl1 _ _⟩
  have HQ : Hid (∀ k, k < l.length → romQ h l k = false → romB h l n = false) := fun k hk x => romB_q hk x
  have HT : Hid ((∀ j, j < l.length → romQ h l j = true) → romB h l n = true) := fun z => romB_t hn (by rw [hK]; exact hl) z
  have HK := hide hK
  subst hl
  clear hK
  go_enter Try.func44, Try.ntmps44
  go_wp2_with (first | (go_at_call 53; refine (in_any _ _ _ _).mono ?_; rintro e w' ⟨rfl, rfl⟩) | (go_at_call 74; refine (chunks64_any _ _ (by omega) (by omega)).mono ?_; rintro e w' ⟨rfl, rfl⟩; rw [unhide HK]))
  clear hn hnb HK
  obtain ⟨W0, hW0⟩ : ∃ W0, W0 = w.alloc (.cells #[.int .i64 r, .int .i64 a, .int .i64 h, .int .i64 vm, .int .i64 nv] 23) := ⟨_, rfl⟩
  have g2 : W0.cell? ⟨w.heap.size, 2, none⟩ = some (.int .i64 h) := by rw [hW0]; simp
  have hb0 : Below w.heap.size w W0 := by rw [hW0]; exact bl1 _ _
  rw [← hW0]
  clear hW0
  go_loopw [7, 8] (fun i _ wr => ∃ k : Nat, k ≤ l.length ∧ i = .int .i64 k ∧ (∀ j, j < k → romQ h l j = true) ∧ Below W0.heap.size W0 wr) (fun i _ _ => l.length - (intOf i).toNat)
  case atStart => exact ⟨0, Nat.zero_le _, rfl, fun j hj => absurd hj (Nat.not_lt_zero _), Below.refl _ _⟩
  case round =>
    obtain ⟨k, hk, rfl, hall, hbr⟩ := hrel
    have HA := hide hall
    clear hall
    have hb1 := bl_trans hb0 hbr
    replace g2 := cell_up hbr g2
    by_cases hlt : k < l.length
    · obtain ⟨b, o, rfl, hcell⟩ := unhide HC k hlt
      replace hcell := cell_up hb1 hcell
      obtain ⟨z, hz⟩ : ∃ z, l.getD k 0 = z := ⟨_, rfl⟩
      have HZ : Hid (romQ h l k = (inB z 0 (h - 1) && !(l.take k).contains z)) := by show _ = _; unfold romQ; rw [hz]
      rw [hz] at hcell
      clear hz
      go_wp2
      have hne := Later.one wr
      have l1 := fun d : Later wr => d.cell hcell
      have l2 := fun d : Later wr => d.cell g2
      refine wp_region_later (by kernel_rfl) (by kernel_rfl) ?_
      cases hi : inB z 0 (h - 1)
      · have HE := hide (unhide HQ k hlt (by rw [unhide HZ, hi]; rfl))
        repeat (go_big_quiet_step ((go_at_call 53; exact Calls.later_same (in_any _ _ _ _))))
        refine wpQuiet_nil ?_
        intro w4 hw'
        obtain ⟨⟨w5, hb4⟩, hw''⟩ := hw'
        subst hw''
        go_wp2
        go_ret
        exact ⟨ret_bool (unhide HE).symm, bl_trans hb1 hb4⟩
      rw [hi] at HZ
      repeat (go_big_quiet_step ((go_at_call 53; exact Calls.later_same (in_any _ _ _ _))))
      refine wpQuiet_nil ?_
      intro w4 hw'
      obtain ⟨⟨w5, hb4⟩, hw''⟩ := hw'
      subst hw''
      clear l1 l2 hne hi
      go_wp2
      go_loopw [8] (fun i wx => ∃ j : Nat, j ≤ k ∧ i = .int .i64 j ∧ (∀ x, x < j → ¬ l.getD x 0 = z) ∧ Below wr.heap.size wr wx) (fun i _ => k - (intOf i).toNat)
      case atStart => exact ⟨0, Nat.zero_le _, rfl, fun j hj => absurd hj (Nat.not_lt_zero _), hb4⟩
      case round =>
        obtain ⟨j, hj, rfl, hno, hb5⟩ := hrel
        have HNO := hide hno
        clear hno
        replace hcell := cell_up hb5 hcell
        replace hb1 := bl_trans hb1 hb5
        replace hbr := bl_trans hbr hb5
        have hb5' := hb5
        clear hb4 hb5
        by_cases hjk : j < k
        · obtain ⟨b', o', e, hc2⟩ := unhide HC j (by omega)
          simp at e
          obtain ⟨rfl, rfl⟩ := e
          replace hc2 := cell_up hb1 hc2
          obtain ⟨y, hy⟩ : ∃ y, l.getD j 0 = y := ⟨_, rfl⟩
          rw [hy] at hc2
          have HY := hide hy
          clear hy
          go_wp2
          have hne := Later.one wr
          have l1 := fun d : Later wr => d.cell hcell
          have l2 := fun d : Later wr => d.cell hc2
          refine wp_region_later (by kernel_rfl) (by kernel_rfl) ?_
          by_cases hyz : y = z
          · have HE := hide (unhide HQ k hlt (by rw [unhide HZ, cont_t hk hjk (by rw [unhide HY, hyz])]; rfl))
            repeat (go_big_quiet_step (fail))
            refine wpQuiet_nil ?_
            intro w4 hw'
            obtain ⟨⟨w5, hb4⟩, hw''⟩ := hw'
            subst hw''
            go_wp2
            go_ret
            exact ⟨ret_bool (unhide HE).symm, bl_trans hb1 hb4⟩
          · have hyz' : (y == z) = false := by simpa using hyz
            repeat (go_big_quiet_step (fail))
            refine wpQuiet_nil ?_
            intro w4 hw'
            obtain ⟨⟨w5, hb4⟩, hw''⟩ := hw'
            subst hw''
            clear l1 l2 hne
            go_wp2
            go_roundw
            case rel => exact ⟨j + 1, by omega, by go_num, fun x hx => if e : x = j then by rw [e, unhide HY]; exact hyz else unhide HNO x (by omega), bl_trans hb5' hb4⟩
            case measure => (simp [intOf] <;> omega)
        · obtain rfl : j = k := by omega
          have HR : Hid (romQ h l j = true) := by show _ = _; rw [unhide HZ, cont_f hk (unhide HNO)]; rfl
          go_wp2
          go_roundw
          case rel => exact ⟨j + 1, by omega, by go_num, fun x hx => if e : x = j then by rw [e]; exact unhide HR else unhide HA x (by omega), hbr⟩
          case measure => (simp [intOf] <;> omega)
    · have HE := hide (unhide HT fun j hj => unhide HA j (by omega))
      go_wp2
      go_ret
      exact ⟨ret_bool (unhide HE).symm, hb1⟩
end Go.Proofs.Ytbdpmigebnahkaa
