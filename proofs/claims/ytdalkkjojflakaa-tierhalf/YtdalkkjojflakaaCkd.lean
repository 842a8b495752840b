/- state.versionMayBe, partsMayBe and what uploads ask. -/
import Derived.Test.YtdalkkjojflakaaCkc
namespace Go.Proofs.Ytdalkkjojflakaa
open Go.RowKit
set_option maxRecDepth 100000
set_option linter.unusedVariables false
set_option linter.unusedSimpArgs false
/-- The two boxes of a state and a version. -/
theorem boxes {w w1 : World} {c0 c1 : Array Value} {t0 t1 : TypeId} (hb : Below ((w.alloc (.cells c0 t0)).alloc (.cells c1 t1)).heap.size ((w.alloc (.cells c0 t0)).alloc (.cells c1 t1)) w1) : (∀ j v, c0[j]? = some v → w1.cell? ⟨w.heap.size, j, none⟩ = some v) ∧ (∀ j v, c1[j]? = some v → w1.cell? ⟨w.heap.size + 1, j, none⟩ = some v) :=
  ⟨fun j v h => box2a hb j h, fun j v h => box2b hb j h⟩
set_option maxHeartbeats 4000000 in
theorem versionMayBe_any (S : St) (b v u q g : Value) (X : Ve) (ua : Option Addr) (un uc : Nat) (w : World) (hB : Lst RBu 5 bu0 w b S.bus) (hG : Ints w g S.gone) (hI : Ints w (.slice ua un uc) X.sec) (hk : X.ke.size ≤ maxLen) (hx : 1 ≤ S.next) (hx2 : S.next ≤ 1048576) :
    Calls Try.prog 97 #[stV S b v u q g, veV X (.slice ua un uc)] w fun e w' => e = .returned (.bool (veC S X)) ∧ Below w.heap.size w w' := by
  obtain ⟨hn, hc, hm⟩ := hI.len
  have HN := hide hn
  unfold maxLen at hm
  have hnn : un ≤ 9223372036854775807 := by omega
  have HB := hide hB
  have HG := hide hG
  clear hB hG hI hn hc hm
  obtain ⟨V, hV⟩ : ∃ V, veC S X = V := ⟨_, rfl⟩
  rw [hV]
  have HV := hide hV
  clear hV
  go_enter Try.func97, Try.ntmps97
  go_wp2_with fail
  refine (namesMayBe_any S b v u q g _ _ _ _ ((unhide HB).imp fun _ _ _ r => RBu.up (bl_alloc (bl1 _ _) _) r) hk hx hx2).mono ?_
  rintro e w1 ⟨rfl, hb1⟩
  have hw : Below w.heap.size w w1 := bl_trans (bl_alloc (bl1 _ _) _) hb1
  obtain ⟨cS, cX⟩ := boxes hb1
  have s0 := cS 0 _ rfl
  have s1 := cS 1 _ rfl
  have s2 := cS 2 _ rfl
  have s3 := cS 3 _ rfl
  have s4 := cS 4 _ rfl
  have s5 := cS 5 _ rfl
  have s6 := cS 6 _ rfl
  have x0 := cX 0 _ rfl
  have x1 := cX 1 _ rfl
  have x2 := cX 2 _ rfl
  have x3 := cX 3 _ rfl
  have x4 := cX 4 _ rfl
  have x5 := cX 5 _ rfl
  have x6 := cX 6 _ rfl
  have x7 := cX 7 _ rfl
  have x8 := cX 8 _ rfl
  have x9 := cX 9 _ rfl
  have x10 := cX 10 _ rfl
  have x11 := cX 11 _ rfl

  clear cS cX hb1
  cases h1 : namC S X.id X.bu X.ke
  · have HE : Hid (V = false) := by rw [← unhide HV]; exact veC_n h1
    clear h1
    go_wp2
    go_ret
    exact ⟨ret_bool (unhide HE).symm, hw⟩
  have HN1 := hide h1
  clear h1
  go_wp2_with fail
  refine (within_any _ _ _ _).mono ?_
  rintro e w2 ⟨rfl, rfl⟩
  cases h2 : inB X.time 0 S.clock
  · have HE : Hid (V = false) := by rw [← unhide HV]; exact veC_t h2
    clear h2
    go_wp2
    go_ret
    exact ⟨ret_bool (unhide HE).symm, hw⟩
  have HN2 := hide h2
  clear h2
  cases hM : X.mar
  · rw [hM] at x4
    have HM := hide hM
    clear hM
    go_wp2_with fail
    refine (within_any _ _ _ _).mono ?_
    rintro e w2 ⟨rfl, rfl⟩
    cases hS : inB X.size 0 600
    · have HE : Hid (V = false) := by rw [← unhide HV]; exact veC_s (unhide HM) hS
      clear hS
      go_wp2
      go_ret
      exact ⟨ret_bool (unhide HE).symm, hw⟩
    have HS := hide hS
    obtain ⟨z0, z1⟩ := inB_t hS
    clear hS
    by_cases t1 : X.tier = 1
    · have HE : Hid (V = ((un : Int) == secN X.size && (X.vol == 0 && X.pos == 0) && X.til == 0)) := by rw [← unhide HV, unhide HN]; exact veC_1 (unhide HN1) (unhide HN2) (unhide HM) (unhide HS) t1
      rw [t1] at x7
      clear t1
      go_wp2_with fail
      refine (rightMany_any _ _ _ _ _ hnn (by omega) (by omega)).mono ?_
      rintro e w2 ⟨rfl, rfl⟩
      cases r1 : ((un : Int) == secN X.size)
      · rw [r1] at HE
        clear r1
        go_wp2
        go_ret
        exact ⟨ret_bool (by rw [unhide HE]; first | rfl | simp), hw⟩
      rw [r1] at HE
      clear r1
      go_wp2_with fail
      refine (offTape_any { X with mar := false, tier := 1 } _ _).mono ?_
      rintro e w2 ⟨he, hb2⟩
      have he2 : e = .returned (.bool (X.vol == 0 && X.pos == 0)) := he
      clear he
      subst he2
      have xa11 := scell_up hb2 x11
      clear s0 s1 s2 s3 s4 s5 s6 x0 x1 x2 x3 x4 x5 x6 x7 x8 x9 x10 x11
      cases r2 : (X.vol == 0 && X.pos == 0)
      · rw [r2] at HE
        clear r2
        go_wp2
        go_ret
        exact ⟨ret_bool (by rw [unhide HE]; first | rfl | simp), bl_trans hw hb2⟩
      rw [r2] at HE
      clear r2
      go_wp2
      go_ret
      exact ⟨ret_bool (by rw [unhide HE]; first | rfl | simp), bl_trans hw hb2⟩
    have nt1 : (X.tier == 1) = false := by simp [t1]
    by_cases t2 : X.tier = 2
    · have HE : Hid (V = ((un : Int) == 0 && onC S X && X.til == 0)) := by rw [← unhide HV, unhide HN]; exact veC_2 (unhide HN1) (unhide HN2) (unhide HM) (unhide HS) t2
      rw [t2] at x7
      clear t1 t2 nt1
      go_wp2_with fail
      refine (offDisk_any { X with mar := false, tier := 2 } _ _ _ _ hnn).mono ?_
      rintro e w2 ⟨rfl, hb2⟩
      have sa0 := scell_up hb2 s0
      have sa1 := scell_up hb2 s1
      have sa2 := scell_up hb2 s2
      have sa3 := scell_up hb2 s3
      have sa4 := scell_up hb2 s4
      have sa5 := scell_up hb2 s5
      have sa6 := scell_up hb2 s6
      have xa0 := scell_up hb2 x0
      have xa1 := scell_up hb2 x1
      have xa2 := scell_up hb2 x2
      have xa3 := scell_up hb2 x3
      have xa4 := scell_up hb2 x4
      have xa5 := scell_up hb2 x5
      have xa6 := scell_up hb2 x6
      have xa7 := scell_up hb2 x7
      have xa8 := scell_up hb2 x8
      have xa9 := scell_up hb2 x9
      have xa10 := scell_up hb2 x10
      have xa11 := scell_up hb2 x11
      clear s0 s1 s2 s3 s4 s5 s6 x0 x1 x2 x3 x4 x5 x6 x7 x8 x9 x10 x11
      cases r1 : ((un : Int) == 0)
      · rw [r1] at HE
        clear r1
        go_wp2
        go_ret
        exact ⟨ret_bool (by rw [unhide HE]; first | rfl | simp), bl_trans hw hb2⟩
      rw [r1] at HE
      clear r1
      go_wp2_with fail
      refine (onTape_any S b v u q g { X with mar := false, tier := 2 } _ _ (Ints.up (bl_trans hw hb2) (unhide HG))).mono ?_
      rintro e w3 ⟨he, hb3⟩
      have he2 : e = .returned (.bool (onC S X)) := he
      clear he
      subst he2
      have xb11 := scell_up hb3 xa11
      clear sa0 sa1 sa2 sa3 sa4 sa5 sa6 xa0 xa1 xa2 xa3 xa4 xa5 xa6 xa7 xa8 xa9 xa10 xa11
      cases r2 : onC S X
      · rw [r2] at HE
        clear r2
        go_wp2
        go_ret
        exact ⟨ret_bool (by rw [unhide HE]; first | rfl | simp), bl_trans hw (bl_trans hb2 hb3)⟩
      rw [r2] at HE
      clear r2
      go_wp2
      go_ret
      exact ⟨ret_bool (by rw [unhide HE]; first | rfl | simp), bl_trans hw (bl_trans hb2 hb3)⟩
    have nt2 : (X.tier == 2) = false := by simp [t2]
    by_cases t3 : X.tier = 3
    · have HE : Hid (V = ((un : Int) == secN X.size && onC S X && inB X.til 0 1073742824)) := by rw [← unhide HV, unhide HN]; exact veC_3 (unhide HN1) (unhide HN2) (unhide HM) (unhide HS) t3
      rw [t3] at x7
      clear t1 t2 t3 nt1 nt2
      go_wp2_with fail
      refine (rightMany_any _ _ _ _ _ hnn (by omega) (by omega)).mono ?_
      rintro e w2 ⟨rfl, rfl⟩
      cases r1 : ((un : Int) == secN X.size)
      · rw [r1] at HE
        clear r1
        go_wp2
        go_ret
        exact ⟨ret_bool (by rw [unhide HE]; first | rfl | simp), hw⟩
      rw [r1] at HE
      clear r1
      go_wp2_with fail
      refine (onTape_any S b v u q g { X with mar := false, tier := 3 } _ _ (Ints.up hw (unhide HG))).mono ?_
      rintro e w3 ⟨he, hb3⟩
      have he2 : e = .returned (.bool (onC S X)) := he
      clear he
      subst he2
      have xb11 := scell_up hb3 x11
      clear s0 s1 s2 s3 s4 s5 s6 x0 x1 x2 x3 x4 x5 x6 x7 x8 x9 x10 x11
      cases r2 : onC S X
      · rw [r2] at HE
        clear r2
        go_wp2
        go_ret
        exact ⟨ret_bool (by rw [unhide HE]; first | rfl | simp), bl_trans hw hb3⟩
      rw [r2] at HE
      clear r2
      go_wp2_with fail
      refine (within_any _ _ _ _).mono ?_
      rintro e w2 ⟨rfl, rfl⟩
      go_wp2
      go_ret
      exact ⟨ret_bool (by rw [unhide HE]; first | rfl | simp), bl_trans hw hb3⟩
    have nt3 : (X.tier == 3) = false := by simp [t3]
    have HE : Hid (V = false) := by rw [← unhide HV]; exact veC_0 (unhide HM) t1 t2 t3
    clear t1 t2 t3
    go_wp2
    go_ret
    exact ⟨ret_bool (unhide HE).symm, hw⟩
  · have HE : Hid (V = (X.size == 0 && X.tier == 0 && (un : Int) == 0 && (X.vol == 0 && X.pos == 0) && X.til == 0)) := by rw [← unhide HV, unhide HN]; exact veC_m (unhide HN1) (unhide HN2) hM
    rw [hM] at x4
    clear hM
    cases r1 : (X.size == 0)
    · rw [r1] at HE
      go_wp2
      go_ret
      exact ⟨ret_bool (by rw [unhide HE]; first | rfl | simp), hw⟩
    rw [r1] at HE
    cases r2 : (X.tier == 0)
    · rw [r2] at HE
      go_wp2
      go_ret
      exact ⟨ret_bool (by rw [unhide HE]; first | rfl | simp), hw⟩
    rw [r2] at HE
    go_wp2_with fail
    refine (offDisk_any { X with mar := true } _ _ _ _ hnn).mono ?_
    rintro e w2 ⟨rfl, hb2⟩
    have sa0 := scell_up hb2 s0
    have sa1 := scell_up hb2 s1
    have sa2 := scell_up hb2 s2
    have sa3 := scell_up hb2 s3
    have sa4 := scell_up hb2 s4
    have sa5 := scell_up hb2 s5
    have sa6 := scell_up hb2 s6
    have xa0 := scell_up hb2 x0
    have xa1 := scell_up hb2 x1
    have xa2 := scell_up hb2 x2
    have xa3 := scell_up hb2 x3
    have xa4 := scell_up hb2 x4
    have xa5 := scell_up hb2 x5
    have xa6 := scell_up hb2 x6
    have xa7 := scell_up hb2 x7
    have xa8 := scell_up hb2 x8
    have xa9 := scell_up hb2 x9
    have xa10 := scell_up hb2 x10
    have xa11 := scell_up hb2 x11
    clear s0 s1 s2 s3 s4 s5 s6 x0 x1 x2 x3 x4 x5 x6 x7 x8 x9 x10 x11
    cases r3 : ((un : Int) == 0)
    · rw [r3] at HE
      clear r3
      go_wp2
      go_ret
      exact ⟨ret_bool (by rw [unhide HE]; first | rfl | simp), bl_trans hw hb2⟩
    rw [r3] at HE
    clear r3
    go_wp2_with fail
    refine (offTape_any { X with mar := true } _ _).mono ?_
    rintro e w3 ⟨he, hb3⟩
    have he2 : e = .returned (.bool (X.vol == 0 && X.pos == 0)) := he
    clear he
    subst he2
    have xb11 := scell_up hb3 xa11
    clear sa0 sa1 sa2 sa3 sa4 sa5 sa6 xa0 xa1 xa2 xa3 xa4 xa5 xa6 xa7 xa8 xa9 xa10 xa11
    cases r4 : (X.vol == 0 && X.pos == 0)
    · rw [r4] at HE
      clear r4
      go_wp2
      go_ret
      exact ⟨ret_bool (by rw [unhide HE]; first | rfl | simp), bl_trans hw (bl_trans hb2 hb3)⟩
    rw [r4] at HE
    clear r4
    go_wp2
    go_ret
    exact ⟨ret_bool (by rw [unhide HE]; first | rfl | simp), bl_trans hw (bl_trans hb2 hb3)⟩
end Go.Proofs.Ytdalkkjojflakaa
