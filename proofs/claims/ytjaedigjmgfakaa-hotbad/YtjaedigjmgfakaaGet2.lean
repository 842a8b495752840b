import Derived.Test.YtjaedigjmgfakaaGet
import Derived.Test.YtjaedigjmgfakaaBase2
namespace Go.Proofs.Ytjaedigjmgfakaa
open Go.RowKit
set_option linter.unusedVariables false
set_option linter.unusedSimpArgs false

def okL (e : Int) (l : List Int) : List Int := if e = 0 then l else []
theorem okL0 (l : List Int) : okL 0 l = l := by simp [okL]
theorem okLn {e : Int} (h : e ≠ 0) (l : List Int) : okL e l = [] := by simp [okL, h]
theorem ret_pair {u : Value} {a b : Int} (h : a = b) : Ending.returned (.tuple #[u, .int .i64 a]) = .returned (.tuple #[u, .int .i64 b]) := by rw [h]
theorem atE_bad {D : Dv} {x e : Int} (h : e ≠ 0) : atE D x e = e := by simp [atE, h]
theorem atE_f {D : Dv} {x : Int} (h : inB x 0 ((D.safe.length : Int) - 1) = false) : atE D x 0 = 2 := by simp [atE, h]
theorem atE_t {D : Dv} {x : Int} (h : inB x 0 ((D.safe.length : Int) - 1) = true) : atE D x 0 = 0 := by simp [atE, h]

/-- Devices that may be: every sector and every write has 64 bytes. -/
theorem devB_all {r a h vm nv : Int} {D : Dv} (x : devB r a h vm nv D = true) :
    (D.safe.length : Int) = 2 + r + 2 * a + h ∧ (D.cache.length : Int) ≤ 2000 ∧ (D.vols.length : Int) ≤ nv ∧ inB D.fuel (-1) 1048576 = true ∧ (∀ i, i < D.safe.length → (D.safe.getD i []).length = 64) ∧
    (∀ i, i < D.cache.length → (0 ≤ (D.cache.getD i ⟨0, []⟩).pos ∧ (D.cache.getD i ⟨0, []⟩).pos < D.safe.length) ∧ (D.cache.getD i ⟨0, []⟩).data.length = 64) ∧
    (∀ i, i < D.vols.length → volB vm (D.vols.getD i ⟨[], 0, false⟩).data.length (D.vols.getD i ⟨[], 0, false⟩).synced (D.vols.getD i ⟨[], 0, false⟩).gone = true) := by
  unfold devB at x
  simp only [Bool.and_eq_true, decide_eq_true_eq] at x
  obtain ⟨⟨⟨⟨⟨⟨x1, x2⟩, x3⟩, x4⟩, x5⟩, x6⟩, x7⟩ := x
  refine ⟨x1, x2, x3, x4, fun i hi => ?_, fun i hi => ?_, fun i hi => ?_⟩
  · have := List.all_eq_true.1 x5 i (by simpa using hi)
    have := beq_iff_eq.1 this
    omega
  · have := List.all_eq_true.1 x6 i (by simpa using hi)
    rw [Bool.and_eq_true] at this
    have h1 := inB_t this.1
    have h2 := beq_iff_eq.1 this.2
    exact ⟨⟨h1.1, by omega⟩, by omega⟩
  · exact List.all_eq_true.1 x7 i (by simpa using hi)

theorem seen_length {r a h vm nv : Int} {D : Dv} (hd : devB r a h vm nv D = true) {x : Int} (hx : 0 ≤ x ∧ x < D.safe.length) {k : Nat} (hk : k ≤ D.cache.length) : (seen D x k).length = 64 := by
  obtain ⟨_, _, _, _, h5, h6, _⟩ := devB_all hd
  have hl := lastI_lt k (posIs D x)
  unfold seen
  split
  · exact (h6 _ (by omega)).2
  · exact h5 _ (by omega)
theorem pad_self {m : Nat} {xs : List Int} (h : xs.length = m) : pad m xs = xs := by subst h; simp [pad]

set_option maxHeartbeats 2000000 in
theorem get_any (r a h vm nv : Int) (s c v : Value) (D : Dv) (x : Int) (w : World) (hD : Dev w s c v D) :
    Calls Try.prog 30 #[.agg #[.int .i64 r, .int .i64 a, .int .i64 h, .int .i64 vm, .int .i64 nv], .agg #[s, c, v, .int .i64 D.fuel], .int .i64 x] w fun e w' =>
      ∃ u, e = .returned (.tuple #[u, .int .i64 (atE D x (chkE r a h vm nv D))]) ∧ Bts w' u (okL (atE D x (chkE r a h vm nv D)) (getL D x)) ∧ Below w.heap.size w w' := by
  have HD := hide hD
  obtain ⟨⟨a1, cap1, rfl, l1, m1, hs⟩, ⟨a2, cap2, rfl, l2, m2, hc⟩, ⟨a3, cap3, rfl, l3, m3, hv⟩⟩ := hD
  unfold maxLen at m1 m2 m3
  have HS := hide hs
  have HC := hide hc
  clear hs hc hv
  go_enter Try.func30, Try.ntmps30
  go_wp2_with fail
  refine (check_any r a h vm nv _ _ _ D _ ((unhide HD).up (bl3 _ _ _ _))).mono ?_
  rintro e w1 ⟨rfl, hb1⟩
  have hb0 : Below w.heap.size w w1 := bl_trans (bl3 _ _ _ _) hb1
  have f0 := box3b hb1 0 rfl
  have f1 := box3b hb1 1 rfl
  have f2 := box3b hb1 2 rfl
  have f3 := box3b hb1 3 rfl
  have q0 := box3c hb1 0 rfl
  clear hb1
  obtain ⟨E, hE⟩ : ∃ E, chkE r a h vm nv D = E := ⟨_, rfl⟩
  rw [hE]
  by_cases hE0 : E = 0
  case neg =>
    have t1 : (E != 0) = true := by simpa using hE0
    have HE : Hid (E = atE D x (chkE r a h vm nv D)) := by rw [hE]; exact (atE_bad hE0).symm
    have HE0 := hide hE0
    clear hE hE0
    go_wp2
    go_ret2
    exact ⟨_, ret_pair (unhide HE), by rw [← unhide HE, okLn (unhide HE0)]; exact Bts.nil _, hb0⟩
  subst hE0
  obtain ⟨hg, hd⟩ := chk_of hE
  have HDV := hide hd
  have HCH := hide hE
  clear hE hd hg
  go_wp2_with fail
  refine (isSector_any _ _ _ _ _ _ D.safe.length _ _ rfl (by omega)).mono ?_
  rintro e w2 ⟨rfl, hb2⟩
  replace hb0 := bl_trans hb0 hb2
  replace f0 := cell_up hb2 f0
  replace f1 := cell_up hb2 f1
  replace f2 := cell_up hb2 f2
  replace f3 := cell_up hb2 f3
  replace q0 := cell_up hb2 q0
  clear hb2
  cases hin : inB x 0 ((D.safe.length : Int) - 1)
  case false =>
    have HE : Hid (2 = atE D x (chkE r a h vm nv D)) := by rw [unhide HCH]; exact (atE_f hin).symm
    clear hin
    go_wp2
    go_ret2
    exact ⟨_, ret_pair (unhide HE), by rw [← unhide HE]; exact Bts.nil _, hb0⟩
  have HE : Hid (0 = atE D x (chkE r a h vm nv D)) := by rw [unhide HCH]; exact (atE_t hin).symm
  obtain ⟨hx0, hx1⟩ := inB_t hin
  clear hin
  obtain ⟨xn, rfl⟩ := Int.eq_ofNat_of_zero_le hx0
  have hxl : xn < D.safe.length := by omega
  obtain ⟨b, o, rfl, u, hu, hbu⟩ := unhide HS xn hxl
  replace hu := cell_up hb0 hu
  have HB := hide hbu
  obtain ⟨y, cp, rfl, lx, mx, _⟩ := hbu
  obtain ⟨L, hL⟩ : ∃ L : Nat, (D.safe.getD xn []).length = L := ⟨_, rfl⟩
  rw [hL] at hu lx HB
  have HL := hide hL
  clear hL
  have hmf : ∀ (fn : Fn) (first cap : Array Value) (w : World), (Instr.makeFunc fn first cap).run Try.prog w = .ok (.func fn first cap) w := fun _ _ _ _ => rfl
  go_wp2_with fail
  refine (last_any D.cache.length _ _ (posIs D (xn : Int)) _ (by omega) ?_).mono ?_
  · intro k hk wr hbr
    obtain ⟨b', o', rfl, hp, _⟩ := unhide HC k hk
    exact get1_any _ _ b' o' _ _ k _ _ wr hk (by omega) (cell_up hbr f1) (cell_up (bl_trans hb0 hbr) hp) (cell_up hbr q0)
  rintro e w3 ⟨rfl, hb3⟩
  replace hb0 := bl_trans hb0 hb3
  replace f0 := cell_up hb3 f0
  replace f1 := cell_up hb3 f1
  clear hb3
  have hll := lastI_lt D.cache.length (posIs D (xn : Int))
  have HSE := hide (seen_length (unhide HDV) (x := (xn : Int)) (by omega) (Nat.le_refl D.cache.length))
  by_cases hi0 : 0 ≤ lastI D.cache.length (posIs D (xn : Int))
  · obtain ⟨i, hi⟩ := Int.eq_ofNat_of_zero_le hi0
    have hsee : seen D (xn : Int) D.cache.length = (D.cache.getD i ⟨0, []⟩).data := by unfold seen; rw [if_pos hi0, hi]; rfl
    rw [hi]
    rw [hi] at hll
    obtain ⟨b', o', rfl, _, u', hu', hbu'⟩ := unhide HC i (by omega)
    replace hu' := cell_up hb0 hu'
    have HB' := hide (hbu'.up hb0)
    obtain ⟨y', cp', rfl, lx', mx', _⟩ := hbu'
    obtain ⟨L', hL'⟩ : ∃ L : Nat, (D.cache.getD i ⟨0, []⟩).data.length = L := ⟨_, rfl⟩
    rw [hL'] at hu' lx' HB'
    have HL' := hide hL'
    clear hL'
    rw [hsee] at HSE
    have HSEE := hide hsee
    clear hsee hi hi0
    go_wp2_with fail
    refine (copyBytes_any _ _ 64 _ (unhide HB') (by omega)).mono ?_
    rintro e w4 ⟨rfl, hblk, hb4⟩
    go_wp2
    go_ret2
    refine ⟨_, ret_pair (unhide HE), ?_, bl_trans hb0 hb4⟩
    rw [← unhide HE, okL0]
    rw [pad_self (unhide HSE)] at hblk
    unfold getL
    rw [unhide HSEE]
    have := hblk.bts (cap := 64) (by rw [unhide HSE]; decide) (by decide)
    rw [unhide HSE] at this
    exact this
  · have hi1 : lastI D.cache.length (posIs D (xn : Int)) = -1 := by omega
    have hsee : seen D (xn : Int) D.cache.length = D.safe.getD xn [] := by unfold seen; rw [if_neg hi0]; rfl
    rw [hi1]
    have HB' := hide ((unhide HB).up hb0)
    rw [hsee] at HSE
    have HSEE := hide hsee
    clear hsee hi1 hi0 hll
    go_wp2_with fail
    refine (copyBytes_any _ _ 64 _ (unhide HB') (by omega)).mono ?_
    rintro e w4 ⟨rfl, hblk, hb4⟩
    go_wp2
    go_ret2
    refine ⟨_, ret_pair (unhide HE), ?_, bl_trans hb0 hb4⟩
    rw [← unhide HE, okL0]
    rw [pad_self (unhide HSE)] at hblk
    unfold getL
    rw [unhide HSEE]
    have := hblk.bts (cap := 64) (by rw [unhide HSE]; decide) (by decide)
    rw [unhide HSE] at this
    exact this
end Go.Proofs.Ytjaedigjmgfakaa
