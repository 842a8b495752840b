import Derived.Test.YtbdpmigebnahkaaGet2
namespace Go.Proofs.Ytbdpmigebnahkaa
open Go.RowKit
set_option linter.unusedVariables false
set_option linter.unusedSimpArgs false

theorem seen_t {D : Dv} {x : Int} {k : Nat} (h : posIs D x k = true) : seen D x (k + 1) = (D.cache.getD k ⟨0, []⟩).data := by
  unfold seen; rw [lastI_t h, if_pos (by omega)]; rfl
theorem seen_f {D : Dv} {x : Int} {k : Nat} (h : posIs D x k = false) : seen D x (k + 1) = seen D x k := by
  unfold seen; rw [lastI_f h]
theorem seen_0 (D : Dv) (x : Nat) : seen D (x : Int) 0 = D.safe.getD x [] := by
  unfold seen; rw [if_neg (by simp [lastI])]; rfl

set_option maxHeartbeats 1000000 in
theorem getOf_any (r a h vm nv : Int) (s c v : Value) (D : Dv) (x : Int) (w : World) (hD : Dev w s c v D) :
    Calls Try.prog 49 #[.agg #[.int .i64 r, .int .i64 a, .int .i64 h, .int .i64 vm, .int .i64 nv], .agg #[s, c, v, .int .i64 D.fuel], .int .i64 x] w fun e w' =>
      ∃ u, e = .returned (.tuple #[u, .int .i64 (atE D x (chkE r a h vm nv D))]) ∧ Bts w' u (okL (atE D x (chkE r a h vm nv D)) (getL D x)) ∧ Below w.heap.size w w' := by
  have HD := hide hD
  obtain ⟨⟨a1, cap1, rfl, l1, m1, hs⟩, ⟨a2, cap2, rfl, l2, m2, hc⟩, ⟨a3, cap3, rfl, l3, m3, hv⟩⟩ := hD
  unfold maxLen at m1 m2 m3
  have HS := hide hs
  have HC := hide hc
  clear hs hc hv
  go_enter Try.func49, Try.ntmps49
  go_wp2_with fail
  refine (devFault_any r a h vm nv _ _ _ D _ ((unhide HD).up (bl2 _ _ _))).mono ?_
  rintro e w1 ⟨rfl, hb1⟩
  have hb0 : Below w.heap.size w w1 := bl_trans (bl2 _ _ _) hb1
  have f0 := box2b hb1 0 rfl
  have f1 := box2b hb1 1 rfl
  clear hb1
  obtain ⟨E, hE⟩ : ∃ E, chkE r a h vm nv D = E := ⟨_, rfl⟩
  rw [hE]
  by_cases hE0 : E = 0
  case neg =>
    have t1 : (E != 0) = true := by simpa using hE0
    have t2 : (E == 0) = false := by simpa using hE0
    have HE : Hid (E = atE D x (chkE r a h vm nv D)) := by rw [hE]; exact (atE_bad hE0).symm
    have HE0 := hide hE0
    clear hE hE0
    go_wp2
    go_ret2
    exact ⟨_, ret_pair (unhide HE), by rw [← unhide HE, okLn (unhide HE0)]; exact Bts.nil _, hb0⟩
  subst hE0
  obtain ⟨hg, hd⟩ := chk_of hE
  have HDV := hide hd
  have HCH := hide hE
  clear hE hd hg
  cases hin : inB x 0 ((D.safe.length : Int) - 1)
  case false =>
    have HE : Hid (2 = atE D x (chkE r a h vm nv D)) := by rw [unhide HCH]; exact (atE_f hin).symm
    go_wp2_with (go_at_call 53; refine (in_any _ _ _ _).mono ?_; rintro e w' ⟨rfl, rfl⟩)
    go_ret2
    exact ⟨_, ret_pair (unhide HE), by rw [← unhide HE]; exact Bts.nil _, hb0⟩
  have HE : Hid (0 = atE D x (chkE r a h vm nv D)) := by rw [unhide HCH]; exact (atE_t hin).symm
  obtain ⟨hx0, hx1⟩ := inB_t hin
  obtain ⟨xn, rfl⟩ := Int.eq_ofNat_of_zero_le hx0
  have hxl : xn < D.safe.length := by omega
  obtain ⟨b, o, rfl, u, hu, hbu⟩ := unhide HS xn hxl
  replace hu := cell_up hb0 hu
  have HB := hide hbu
  obtain ⟨y, cp, rfl, lx, mx, _⟩ := hbu
  obtain ⟨L, hL⟩ : ∃ L : Nat, (D.safe.getD xn []).length = L := ⟨_, rfl⟩
  rw [hL] at hu lx HB
  have HL := hide hL
  clear hL
  go_wp2_with (go_at_call 53; refine (in_any _ _ _ _).mono ?_; rintro e w' ⟨rfl, rfl⟩)
  clear hin
  go_loop [9, 10] (fun u i => ∃ k : Nat, k ≤ D.cache.length ∧ i = .int .i64 k ∧ Bts w u (seen D (xn : Int) k)) (fun _ i => D.cache.length - (intOf i).toNat)
  case atStart => exact ⟨0, Nat.zero_le _, rfl, by rw [seen_0]; exact unhide HB⟩
  case round =>
    obtain ⟨k, hk, rfl, hbt⟩ := hrel
    have HBT := hide hbt
    clear hbt
    by_cases hlt : k < D.cache.length
    · obtain ⟨b', o', rfl, hp, u', hu', hbu'⟩ := unhide HC k hlt
      replace hp := cell_up hb0 hp
      replace hu' := cell_up hb0 hu'
      have HB' := hide hbu'
      obtain ⟨y', cp', rfl, lx', mx', _⟩ := hbu'
      obtain ⟨L', hL'⟩ : ∃ L : Nat, (D.cache.getD k ⟨0, []⟩).data.length = L := ⟨_, rfl⟩
      obtain ⟨X, hX⟩ : ∃ X : Int, (D.cache.getD k ⟨0, []⟩).pos = X := ⟨_, rfl⟩
      rw [hL'] at hu' lx' HB'
      rw [hX] at hp
      have HL' := hide hL'
      clear hL'
      cases hq : (X == (xn : Int))
      · have F : Hid (seen D (xn : Int) (k + 1) = seen D (xn : Int) k) := seen_f (by unfold posIs; rw [hX]; exact hq)
        clear hX
        go_wp2
        go_round
        case rel => exact ⟨k + 1, by omega, by go_num, by rw [unhide F]; exact unhide HBT⟩
        case measure => simp [intOf]; omega
      · have F : Hid (seen D (xn : Int) (k + 1) = (D.cache.getD k ⟨0, []⟩).data) := seen_t (by unfold posIs; rw [hX]; exact hq)
        clear hX
        go_wp2
        go_round
        case rel => exact ⟨k + 1, by omega, by go_num, by rw [unhide F]; exact unhide HB'⟩
        case measure => simp [intOf]; omega
    · obtain rfl : k = D.cache.length := by omega
      have HSE := hide (seen_length (unhide HDV) (x := (xn : Int)) (by omega) (Nat.le_refl D.cache.length))
      have HB2 := hide ((unhide HBT).up hb0)
      obtain ⟨z, cz, hz, lz, mz, _⟩ := unhide HBT
      obtain ⟨LL, hLL⟩ : ∃ LL : Nat, (seen D (xn : Int) D.cache.length).length = LL := ⟨_, rfl⟩
      rw [hLL] at hz
      subst hz
      have HLL := hide hLL
      clear hLL
      go_wp2_with fail
      refine (joined_any _ [seen D (xn : Int) D.cache.length] _ (RowsAt.one (unhide HB2)) (by simp [unhide HSE])).mono ?_
      rintro e w4 ⟨u, rfl, hown, hb4⟩
      go_wp2
      go_ret2
      refine ⟨_, ret_pair (unhide HE), ?_, bl_trans (bl_trans hb0 (bl1 _ _)) hb4⟩
      rw [← unhide HE, okL0]
      simpa [getL] using hown.bts
end Go.Proofs.Ytbdpmigebnahkaa
