/- The document's VersionMay. -/
import Derived.Test.YtdalkkjojflakaaRfa
namespace Go.Proofs.Ytdalkkjojflakaa
open Go.RowKit Go.Maps
set_option maxRecDepth 100000
set_option linter.unusedVariables false
set_option linter.unusedSimpArgs false
theorem veC_i {S : St} {x : Ve} (h : inB x.tier 1 3 = false) (hm : x.mar = false) : veC S x = false := by
  have := inB_f h
  exact veC_0 hm (by omega) (by omega) (by omega)
set_option maxHeartbeats 4000000 in
theorem versionMay_any (S : St) (b v u q g : Value) (X : Ve) (ua : Option Addr) (un uc : Nat) (w : World) (hB : Lst RBu 5 bu0 w b S.bus) (hG : Ints w g S.gone) (hI : Ints w (.slice ua un uc) X.sec) (hk : X.ke.size ≤ maxLen) (hx : 1 ≤ S.next) (hx2 : S.next ≤ 1048576) :
    Calls Try.prog 70 #[stV S b v u q g, veV X (.slice ua un uc)] w fun e w' => e = .returned (.bool (veC S X)) ∧ Below w.heap.size w w' := by
  obtain ⟨hn, hc, hm⟩ := hI.len
  have HN := hide hn
  unfold maxLen at hm
  have hnn : un ≤ 9223372036854775807 := by omega
  have HB := hide hB
  have HG := hide hG
  clear hB hG hI hn hc hm
  obtain ⟨V, hV⟩ : ∃ V, veC S X = V := ⟨_, rfl⟩
  rw [hV]
  have HV := hide hV
  clear hV
  have HNM : Hid (namC S X.id X.bu X.ke = (inB X.id 1 (S.next - 1) && hasB S X.bu && worE X.ke 16 == 0)) := rfl
  have HHB : Hid (hasB S X.bu = decide (0 ≤ firstI S.bus.length (buP S.bus X.bu))) := rfl
  go_enter Try.func70, Try.ntmps70
  go_wp2_with fail
  refine (bucketAt_any S b v u q g _ _ ((unhide HB).imp fun _ _ _ r => RBu.up (bl_alloc (bl1 _ _) _) r)).mono ?_
  rintro e w1 ⟨rfl, hb1⟩
  have hw : Below w.heap.size w w1 := bl_trans (bl_alloc (bl1 _ _) _) hb1
  obtain ⟨cS, cX⟩ := boxes hb1
  have s0 := cS 0 _ rfl
  have s1 := cS 1 _ rfl
  have s2 := cS 2 _ rfl
  have s3 := cS 3 _ rfl
  have s4 := cS 4 _ rfl
  have s5 := cS 5 _ rfl
  have s6 := cS 6 _ rfl
  have x0 := cX 0 _ rfl
  have x1 := cX 1 _ rfl
  have x2 := cX 2 _ rfl
  have x3 := cX 3 _ rfl
  have x4 := cX 4 _ rfl
  have x5 := cX 5 _ rfl
  have x6 := cX 6 _ rfl
  have x7 := cX 7 _ rfl
  have x8 := cX 8 _ rfl
  have x9 := cX 9 _ rfl
  have x10 := cX 10 _ rfl
  have x11 := cX 11 _ rfl

  clear cS cX hb1
  obtain ⟨J, hJ⟩ : ∃ J, firstI S.bus.length (buP S.bus X.bu) = J := ⟨_, rfl⟩
  rw [hJ] at HHB ⊢
  clear hJ
  by_cases hj : J < 0
  · have HE : Hid (V = false) := by rw [← unhide HV]; exact veC_n (by rw [unhide HNM, unhide HHB, decide_eq_false (by omega)]; simp)
    go_wp2
    go_ret
    exact ⟨ret_bool (unhide HE).symm, hw⟩
  have HH : Hid (hasB S X.bu = true) := by show _ = _; rw [unhide HHB]; exact decide_eq_true (by omega)
  have hj0 : 0 ≤ J := by omega
  rw [unhide HH] at HNM
  clear hj
  go_wp2_with fail
  refine (keyFault_any _ _ hk).mono ?_
  rintro e w2 ⟨rfl, hb2⟩
  have sa0 := scell_up hb2 s0
  have sa1 := scell_up hb2 s1
  have sa2 := scell_up hb2 s2
  have sa3 := scell_up hb2 s3
  have sa4 := scell_up hb2 s4
  have sa5 := scell_up hb2 s5
  have sa6 := scell_up hb2 s6
  have xa0 := scell_up hb2 x0
  have xa1 := scell_up hb2 x1
  have xa2 := scell_up hb2 x2
  have xa3 := scell_up hb2 x3
  have xa4 := scell_up hb2 x4
  have xa5 := scell_up hb2 x5
  have xa6 := scell_up hb2 x6
  have xa7 := scell_up hb2 x7
  have xa8 := scell_up hb2 x8
  have xa9 := scell_up hb2 x9
  have xa10 := scell_up hb2 x10
  have xa11 := scell_up hb2 x11
  clear s0 s1 s2 s3 s4 s5 s6 x0 x1 x2 x3 x4 x5 x6 x7 x8 x9 x10 x11
  replace hw := bl_trans hw hb2
  clear hb2
  obtain ⟨E, hE⟩ : ∃ E, worE X.ke 16 = E := ⟨_, rfl⟩
  rw [hE] at HNM ⊢
  clear hE
  by_cases he : E = 0
  case neg =>
    have he' : (E == 0) = false := by simp [he]
    have he2 : (E != 0) = true := by simp [he]
    have HE : Hid (V = false) := by rw [← unhide HV]; exact veC_n (by rw [unhide HNM, he']; simp)
    clear he he'
    go_wp2
    go_ret
    exact ⟨ret_bool (unhide HE).symm, hw⟩
  subst he
  go_wp2_with fail
  refine (in_any _ _ _ _).mono ?_
  rintro e w3 ⟨rfl, rfl⟩
  cases h1 : inB X.id 1 (S.next - 1)
  · have HE : Hid (V = false) := by rw [← unhide HV]; exact veC_n (by rw [unhide HNM, h1]; rfl)
    go_wp2
    go_ret
    exact ⟨ret_bool (unhide HE).symm, hw⟩
  have HN1 : Hid (namC S X.id X.bu X.ke = true) := by show _ = _; rw [unhide HNM, h1]; rfl
  clear h1
  go_wp2_with fail
  refine (in_any _ _ _ _).mono ?_
  rintro e w3 ⟨rfl, rfl⟩
  cases h2 : inB X.time 0 S.clock
  · have HE : Hid (V = false) := by rw [← unhide HV]; exact veC_t h2
    go_wp2
    go_ret
    exact ⟨ret_bool (unhide HE).symm, hw⟩
  have HN2 := hide h2
  clear h2
  cases hM : X.mar
  case true =>
    have HE : Hid (V = (X.size == 0 && X.tier == 0 && (un : Int) == 0 && (X.vol == 0 && X.pos == 0) && X.til == 0)) := by rw [← unhide HV, unhide HN]; exact veC_m (unhide HN1) (unhide HN2) hM
    rw [hM] at xa4
    clear hM
    cases r0 : (X.size == 0)
    · rw [r0] at HE
      go_wp2
      go_ret
      exact ⟨ret_bool (by rw [unhide HE]; simp), hw⟩
    rw [r0] at HE
    cases r1 : (X.tier == 0)
    · rw [r1] at HE
      go_wp2
      go_ret
      exact ⟨ret_bool (by rw [unhide HE]; simp), hw⟩
    rw [r1] at HE
    cases r2 : ((un : Int) == 0)
    · rw [r2] at HE
      go_wp2
      go_ret
      exact ⟨ret_bool (by rw [unhide HE]; simp), hw⟩
    rw [r2] at HE
    cases r3 : (X.vol == 0)
    · rw [r3] at HE
      go_wp2
      go_ret
      exact ⟨ret_bool (by rw [unhide HE]; simp), hw⟩
    rw [r3] at HE
    cases r4 : (X.pos == 0)
    · rw [r4] at HE
      go_wp2
      go_ret
      exact ⟨ret_bool (by rw [unhide HE]; simp), hw⟩
    rw [r4] at HE
    go_wp2
    go_ret
    exact ⟨ret_bool (by rw [unhide HE]; simp), hw⟩
  rw [hM] at xa4
  have HM := hide hM
  clear hM
  go_wp2_with fail
  refine (in_any _ _ _ _).mono ?_
  rintro e w3 ⟨rfl, rfl⟩
  cases hS : inB X.size 0 600
  · have HE : Hid (V = false) := by rw [← unhide HV]; exact veC_s (unhide HM) hS
    go_wp2
    go_ret
    exact ⟨ret_bool (unhide HE).symm, hw⟩
  have HS := hide hS
  obtain ⟨z0, z1⟩ := inB_t hS
  clear hS
  go_wp2_with fail
  refine (in_any _ _ _ _).mono ?_
  rintro e w3 ⟨rfl, rfl⟩
  cases hT : inB X.tier 1 3
  · have HE : Hid (V = false) := by rw [← unhide HV]; exact veC_i hT (unhide HM)
    go_wp2
    go_ret
    exact ⟨ret_bool (unhide HE).symm, hw⟩
  obtain ⟨t0, t1⟩ := inB_t hT
  clear hT
  go_wp2_with fail
  refine (chunks_any _ _ z0 (by omega)).mono ?_
  rintro e w3 ⟨rfl, rfl⟩
  by_cases h1 : X.tier = 1
  · have HE : Hid (V = ((un : Int) == secN X.size && (X.vol == 0 && X.pos == 0) && X.til == 0)) := by rw [← unhide HV, unhide HN]; exact veC_1 (unhide HN1) (unhide HN2) (unhide HM) (unhide HS) h1
    rw [h1] at xa7
    clear h1 t0 t1
    cases r0 : ((un : Int) == secN X.size)
    · rw [r0] at HE
      have r0_ : ((un : Int) != secN X.size) = true := by simpa using r0
      go_wp2
      go_ret
      exact ⟨ret_bool (by rw [unhide HE]; simp), hw⟩
    rw [r0] at HE
    have r0_ : ((un : Int) != secN X.size) = false := by simpa using r0
    cases r1 : (X.vol == 0)
    · rw [r1] at HE
      go_wp2
      go_ret
      exact ⟨ret_bool (by rw [unhide HE]; simp), hw⟩
    rw [r1] at HE
    cases r2 : (X.pos == 0)
    · rw [r2] at HE
      go_wp2
      go_ret
      exact ⟨ret_bool (by rw [unhide HE]; simp), hw⟩
    rw [r2] at HE
    go_wp2
    go_ret
    exact ⟨ret_bool (by rw [unhide HE]; simp), hw⟩
  have n1 : (X.tier == 1) = false := by simp [h1]
  by_cases h2 : X.tier = 2
  · have HE : Hid (V = ((un : Int) == 0 && (inB X.vol 0 7 && !isGone S X.vol && inB X.pos 0 4000) && X.til == 0)) := by rw [← unhide HV, unhide HN]; exact veC_2 (unhide HN1) (unhide HN2) (unhide HM) (unhide HS) h2
    rw [h2] at xa7
    clear h1 h2 t0 t1 n1
    cases r0 : ((un : Int) == 0)
    · rw [r0] at HE
      have r0_ : ((un : Int) != 0) = true := by simpa using r0
      go_wp2
      go_ret
      exact ⟨ret_bool (by rw [unhide HE]; simp), hw⟩
    rw [r0] at HE
    have r0_ : ((un : Int) != 0) = false := by simpa using r0
    go_wp2_with fail
    refine (in_any _ _ _ _).mono ?_
    rintro e w3 ⟨rfl, rfl⟩
    cases r1 : inB X.vol 0 7
    · rw [r1] at HE
      go_wp2
      go_ret
      exact ⟨ret_bool (by rw [unhide HE]; simp), hw⟩
    rw [r1] at HE
    go_wp2_with fail
    refine (in_any _ _ _ _).mono ?_
    rintro e w3 ⟨rfl, rfl⟩
    cases r2 : inB X.pos 0 4000
    · rw [r2] at HE
      go_wp2
      go_ret
      exact ⟨ret_bool (by rw [unhide HE]; simp), hw⟩
    rw [r2] at HE
    go_wp2_with fail
    refine (goneIs_any S b v u q g _ _ (Ints.up hw (unhide HG))).mono ?_
    rintro e w3 ⟨rfl, hb3⟩
    have xb7 := scell_up hb3 xa7
    have xb11 := scell_up hb3 xa11
    clear sa0 sa1 sa2 sa3 sa4 sa5 sa6 xa0 xa1 xa2 xa3 xa4 xa5 xa6 xa7 xa8 xa9 xa10 xa11
    replace hw := bl_trans hw hb3
    clear hb3
    cases r3 : isGone S X.vol
    case true =>
      rw [r3] at HE
      go_wp2
      go_ret
      exact ⟨ret_bool (by rw [unhide HE]; simp), hw⟩
    rw [r3] at HE
    go_wp2
    go_ret
    exact ⟨ret_bool (by rw [unhide HE]; simp), hw⟩
  have h3 : X.tier = 3 := by omega
  have HE : Hid (V = ((un : Int) == secN X.size && (inB X.vol 0 7 && !isGone S X.vol && inB X.pos 0 4000) && inB X.til 0 1073742824)) := by rw [← unhide HV, unhide HN]; exact veC_3 (unhide HN1) (unhide HN2) (unhide HM) (unhide HS) h3
  rw [h3] at xa7
  clear h1 h2 h3 t0 t1 n1
  cases r0 : ((un : Int) == secN X.size)
  · rw [r0] at HE
    have r0_ : ((un : Int) != secN X.size) = true := by simpa using r0
    go_wp2
    go_ret
    exact ⟨ret_bool (by rw [unhide HE]; simp), hw⟩
  rw [r0] at HE
  have r0_ : ((un : Int) != secN X.size) = false := by simpa using r0
  go_wp2_with fail
  refine (in_any _ _ _ _).mono ?_
  rintro e w3 ⟨rfl, rfl⟩
  cases r1 : inB X.vol 0 7
  · rw [r1] at HE
    go_wp2
    go_ret
    exact ⟨ret_bool (by rw [unhide HE]; simp), hw⟩
  rw [r1] at HE
  go_wp2_with fail
  refine (in_any _ _ _ _).mono ?_
  rintro e w3 ⟨rfl, rfl⟩
  cases r2 : inB X.pos 0 4000
  · rw [r2] at HE
    go_wp2
    go_ret
    exact ⟨ret_bool (by rw [unhide HE]; simp), hw⟩
  rw [r2] at HE
  go_wp2_with fail
  refine (goneIs_any S b v u q g _ _ (Ints.up hw (unhide HG))).mono ?_
  rintro e w3 ⟨rfl, hb3⟩
  have xb7 := scell_up hb3 xa7
  have xb11 := scell_up hb3 xa11
  clear sa0 sa1 sa2 sa3 sa4 sa5 sa6 xa0 xa1 xa2 xa3 xa4 xa5 xa6 xa7 xa8 xa9 xa10 xa11
  replace hw := bl_trans hw hb3
  clear hb3
  cases r3 : isGone S X.vol
  case true =>
    rw [r3] at HE
    go_wp2
    go_ret
    exact ⟨ret_bool (by rw [unhide HE]; simp), hw⟩
  rw [r3] at HE
  go_wp2_with fail
  refine (in_any _ _ _ _).mono ?_
  rintro e w4 ⟨rfl, rfl⟩
  go_wp2
  go_ret
  exact ⟨ret_bool (by rw [unhide HE]; simp), hw⟩
end Go.Proofs.Ytdalkkjojflakaa
