/- icehousekeep.Geometry, sevens, spots and body. -/
import Derived.Test.YtjaedigjmgfakaaKp1
import Derived.Test.YtjaedigjmgfakaaNap
import Derived.Test.YtjaedigjmgfakaaRom
import Derived.Deep.RegionHeld3
namespace Go.Proofs.Ytjaedigjmgfakaa
open Go.RowKit
set_option maxRecDepth 100000
set_option linter.unusedVariables false
set_option linter.unusedSimpArgs false
theorem pick_b (n : Int) (m : Int) (hm : 0 < m) : 0 ≤ pickI n m ∧ pickI n m < m := ⟨pickI_lo n hm, pickI_hi n hm⟩
set_option maxHeartbeats 1000000 in
theorem geometry_any (a b c : Int) (w : World) (ha : -9223372036854775808 ≤ a ∧ a ≤ 9223372036854775807) (hb : -9223372036854775808 ≤ b ∧ b ≤ 9223372036854775807) (hc : -9223372036854775808 ≤ c ∧ c ≤ 9223372036854775807) :
    Calls Try.prog 19 #[.int .i64 a, .int .i64 b, .int .i64 c] w fun e w' => e = .returned (.agg #[.int .i64 (8 + pickI a 30), .int .i64 (30 + pickI a 40), .int .i64 (10 + pickI b 60), .int .i64 (700 + pickI c 2000), .int .i64 (2 + pickI c 7)]) ∧ Below w.heap.size w w' := by
  obtain ⟨P1, h1⟩ : ∃ P, pickI a 30 = P := ⟨_, rfl⟩
  obtain ⟨P2, h2⟩ : ∃ P, pickI a 40 = P := ⟨_, rfl⟩
  obtain ⟨P3, h3⟩ : ∃ P, pickI b 60 = P := ⟨_, rfl⟩
  obtain ⟨P4, h4⟩ : ∃ P, pickI c 2000 = P := ⟨_, rfl⟩
  obtain ⟨P5, h5⟩ : ∃ P, pickI c 7 = P := ⟨_, rfl⟩
  have b1 := pick_b a 30 (by decide)
  have b2 := pick_b a 40 (by decide)
  have b3 := pick_b b 60 (by decide)
  have b4 := pick_b c 2000 (by decide)
  have b5 := pick_b c 7 (by decide)
  rw [h1] at b1 ⊢
  rw [h2] at b2 ⊢
  rw [h3] at b3 ⊢
  rw [h4] at b4 ⊢
  rw [h5] at b5 ⊢
  have H1 := hide h1
  have H2 := hide h2
  have H3 := hide h3
  have H4 := hide h4
  have H5 := hide h5
  clear h1 h2 h3 h4 h5
  go_enter Try.func19, Try.ntmps19
  go_wp2_with fail
  refine (picked_any a 30 _ (by decide) (by decide) (by omega) (by omega)).mono ?_
  rintro e w' ⟨rfl, rfl⟩
  rw [unhide H1]
  go_wp2_with fail
  refine (picked_any a 40 _ (by decide) (by decide) (by omega) (by omega)).mono ?_
  rintro e w' ⟨rfl, rfl⟩
  rw [unhide H2]
  go_wp2_with fail
  refine (picked_any b 60 _ (by decide) (by decide) (by omega) (by omega)).mono ?_
  rintro e w' ⟨rfl, rfl⟩
  rw [unhide H3]
  go_wp2_with fail
  refine (picked_any c 2000 _ (by decide) (by decide) (by omega) (by omega)).mono ?_
  rintro e w' ⟨rfl, rfl⟩
  rw [unhide H4]
  go_wp2_with fail
  refine (picked_any c 7 _ (by decide) (by decide) (by omega) (by omega)).mono ?_
  rintro e w' ⟨rfl, rfl⟩
  rw [unhide H5]
  go_wp2
  refine bodyPost_ret (v := .agg #[.int .i64 (8 + P1), .int .i64 (30 + P2), .int .i64 (10 + P3), .int .i64 (700 + P4), .int .i64 (2 + P5)]) (by simp [results, Try.results19, go_sem, *]) rfl ⟨rfl, ?_⟩
  repeat (first | exact bl1 _ _ | refine bl_set ?_ (by simp <;> omega) _)
/-- One of three. -/
def hotH (a : Int) : Int := if pickI a 3 = 0 then 11 else if pickI a 3 = 1 then 22 else 31
theorem hotH_is (a : Int) : hotH a = 11 ∨ hotH a = 22 ∨ hotH a = 31 := by unfold hotH; split; exact .inl rfl; split; exact .inr (.inl rfl); exact .inr (.inr rfl)
set_option maxHeartbeats 1000000 in
theorem sevens_any (a : Int) (w : World) (ha : -9223372036854775808 ≤ a ∧ a ≤ 9223372036854775807) :
    Calls Try.prog 8 #[.int .i64 a] w fun e w' => e = .returned (.agg #[.int .i64 (8 + pickI a 30), .int .i64 (30 + pickI a 40), .int .i64 (hotH a), .int .i64 (700 + pickI a 2000), .int .i64 (2 + pickI a 7)]) ∧ Below w.heap.size w w' := by
  have b0 := pick_b a 3 (by decide)
  obtain ⟨P1, h1⟩ : ∃ P, 8 + pickI a 30 = P := ⟨_, rfl⟩
  obtain ⟨P2, h2⟩ : ∃ P, 30 + pickI a 40 = P := ⟨_, rfl⟩
  obtain ⟨P3, h3⟩ : ∃ P, 10 + pickI a 60 = P := ⟨_, rfl⟩
  obtain ⟨P4, h4⟩ : ∃ P, 700 + pickI a 2000 = P := ⟨_, rfl⟩
  obtain ⟨P5, h5⟩ : ∃ P, 2 + pickI a 7 = P := ⟨_, rfl⟩
  have HG := hide (geometry_any a a a)
  rw [h1, h2, h3, h4, h5] at HG
  rw [h1, h2, h4, h5]
  clear h1 h2 h3 h4 h5
  obtain ⟨H, hH⟩ : ∃ H, hotH a = H := ⟨_, rfl⟩
  obtain ⟨K, hK⟩ : ∃ K, pickI a 3 = K := ⟨_, rfl⟩
  rw [hH]
  rw [hK] at b0
  have hc : (K = 0 ∧ H = 11) ∨ (K = 1 ∧ H = 22) ∨ (K = 2 ∧ H = 31) := by
    unfold hotH at hH
    rw [hK] at hH
    split at hH
    · exact .inl ⟨by assumption, hH.symm⟩
    · split at hH
      · exact .inr (.inl ⟨by assumption, hH.symm⟩)
      · exact .inr (.inr ⟨by omega, hH.symm⟩)
  have HK := hide hK
  clear hH hK
  go_enter Try.func8, Try.ntmps8
  go_wp2_with fail
  refine (unhide HG _ ha ha ha).mono ?_
  rintro e w1 ⟨rfl, hb1⟩
  have hr2 := (Row.new w 24 [.int .i64 0, .int .i64 0, .int .i64 0, .int .i64 0, .int .i64 0]).up hb1
  have hb0 : Below w.heap.size w w1 := bl_trans (bl1 _ _) hb1
  have HR2 := hide hr2
  clear hb1 hr2
  go_upto_region 2 with fail
  go_cut [8] (fun _ wd => Row wd w1.heap.size 24 [.int .i64 P1, .int .i64 P2, .int .i64 H, .int .i64 P4, .int .i64 P5] ∧ Row wd w.heap.size 24 [.int .i64 0, .int .i64 0, .int .i64 0, .int .i64 0, .int .i64 0] ∧ Below w.heap.size w wd)
  case first =>
    rcases hc with ⟨rfl, rfl⟩ | ⟨rfl, rfl⟩ | ⟨rfl, rfl⟩ <;> (
      go_wp2_with (go_at_call 17; refine (picked_any a 3 _ (by decide) (by decide) (by omega) (by omega)).mono ?_; rintro e w' ⟨rfl, rfl⟩; rw [unhide HK])
      go_meet
      case rel =>
        exact ⟨(Row.new w1 24 [.int .i64 P1, .int .i64 P2, .int .i64 _, .int .i64 P4, .int .i64 P5]).up (bl1 _ _), ((unhide HR2).up (bl1 _ _)).up (bl1 _ _), bl_trans hb0 (bl_trans (bl1 _ _) (bl1 _ _))⟩)
  case rest =>
  clear hb0 hc
  obtain ⟨hr1, hr2, hb0⟩ := hcut
  have c0 := hr1.cell 0 _ rfl
  have c1 := hr1.cell 1 _ rfl
  have c2 := hr1.cell 2 _ rfl
  have c3 := hr1.cell 3 _ rfl
  have c4 := hr1.cell 4 _ rfl
  have d0 := hr2.cell 0 _ rfl
  have d1 := hr2.cell 1 _ rfl
  have d2 := hr2.cell 2 _ rfl
  have d3 := hr2.cell 3 _ rfl
  have d4 := hr2.cell 4 _ rfl
  have df := hr2.unfrozen
  clear hr1 hr2
  go_wp2
  refine bodyPost_ret (v := .agg #[.int .i64 P1, .int .i64 P2, .int .i64 H, .int .i64 P4, .int .i64 P5]) (by simp [results, Try.results8, go_sem, *]) rfl ⟨rfl, ?_⟩
  repeat (first | exact hb0 | refine bl_set ?_ (by simp <;> omega) _)
/-- Sectors for so many bytes. -/
def spL (f h : Int) (n : Nat) : List Int := (List.range n).map fun (i : Nat) => (pickI f h + (i : Int) * 7) % h
theorem spL_len (f h : Int) (n : Nat) : (spL f h n).length = n := by simp [spL]
theorem spL_at (f h : Int) {n i : Nat} (hi : i < n) : (spL f h n).getD i 0 = (pickI f h + (i : Int) * 7) % h := by simp [spL, List.getD, hi]
theorem spL_next (f h : Int) (n : Nat) : spL f h (n + 1) = spL f h n ++ [(pickI f h + (n : Int) * 7) % h] := by simp [spL, List.range_succ]
theorem spL_take (f h : Int) {n k : Nat} (hk : k ≤ n) : (spL f h n).take k = spL f h k := by unfold spL; rw [← List.map_take, List.take_range, Nat.min_eq_left hk]
set_option maxHeartbeats 1000000 in
theorem spots_any (r a h vm nv : Int) (size f : Int) (w : World) (hh : 0 < h ∧ h ≤ 1000) (hf : -9223372036854775808 ≤ f ∧ f ≤ 9223372036854775807) (hs : 0 ≤ size ∧ size ≤ 10000) :
    Calls Try.prog 10 #[.agg #[.int .i64 r, .int .i64 a, .int .i64 h, .int .i64 vm, .int .i64 nv], .int .i64 size, .int .i64 f] w fun e w' => ∃ u, e = .returned u ∧ OwN w' w.heap.size u (spL f h (secH size).toNat) ∧ Below w.heap.size w w' := by
  obtain ⟨n, hn⟩ : ∃ n, (secH size).toNat = n := ⟨_, rfl⟩
  have hn1 : secH size = (n : Int) := by have := secH_chunk hs.1; omega
  have hn2 : n ≤ 1000 := by have := secH_chunk hs.1; omega
  rw [hn]
  have HN := hide hn1
  clear hn hn1
  have hP := pick_b f h hh.1
  obtain ⟨P, hPP⟩ : ∃ P, pickI f h = P := ⟨_, rfl⟩
  rw [hPP] at hP
  have HP := hide hPP
  clear hPP
  have hz : ¬ h = 0 := by omega
  obtain ⟨i0, hi, hz0, hz1, hz2⟩ := info_parts infoN
  go_enter Try.func10, Try.ntmps10
  go_wp2_with (go_at_call 15; refine (sectorsH_any _ _ (by omega) (by omega)).mono ?_; rintro e w' ⟨rfl, rfl⟩; rw [unhide HN])
  obtain ⟨W, hW⟩ : ∃ W, W = w.alloc (.cells #[.int .i64 r, .int .i64 a, .int .i64 h, .int .i64 vm, .int .i64 nv] 24) := ⟨_, rfl⟩
  have hb0 : Below w.heap.size w W := by rw [hW]; exact bl1 _ _
  have HRW : Hid (Row W w.heap.size 24 [.int .i64 r, .int .i64 a, .int .i64 h, .int .i64 vm, .int .i64 nv]) := by show Row _ _ _ _; rw [hW]; exact Row.new _ _ _
  rw [← hW]
  clear hW
  go_loopw [7, 9] (fun u i wr => ∃ k : Nat, k ≤ n ∧ i = .int .i64 k ∧ OwN wr W.heap.size u (spL f h k) ∧ Below W.heap.size W wr) (fun _ i _ => n - (intOf i).toNat)
  case atStart => exact ⟨0, Nat.zero_le _, rfl, OwN.nil _ _, Below.refl _ _⟩
  case round =>
    obtain ⟨k, hk, rfl, ho, hbr⟩ := hrel
    have hq2 := ((unhide HRW).up hbr).cell 2 _ rfl
    have hsr := hbr.size
    by_cases hlt : k < n
    · have HX : Hid ((P + (k : Int) * 7) % h = (pickI f h + (k : Int) * 7) % h) := by show _ = _; rw [unhide HP]
      obtain ⟨X, hX⟩ : ∃ X, (P + (k : Int) * 7) % h = X := ⟨_, rfl⟩
      rw [hX] at HX
      have hw7 : IntKind.i64.wrap ((k : Int) * 7) = (k : Int) * 7 := by rw [IntKind.wrap_i64]; omega
      have HRAW : Hid (((IntKind.i64.wrap (P + IntKind.i64.wrap ((k : Int) * 7))).tmod h) = X) := by show _ = _; rw [hw7, show IntKind.i64.wrap (P + (k : Int) * 7) = P + (k : Int) * 7 by rw [IntKind.wrap_i64]; omega, Int.tmod_eq_emod_of_nonneg (by omega)]; exact hX
      clear hw7 hX
      have hkk : (0 : Int) ≤ P + (k : Int) * 7 := by omega
      have ho' := ho
      unfold OwN at ho'
      rw [spL_len] at ho'
      obtain ⟨ua, uc, rfl, ul, um⟩ := own_form ho'
      unfold maxLen at um
      have HO := hide ho'
      clear ho ho'
      have hq3 : ∀ u : World, Below wr.heap.size wr u → u.cell? ⟨w.heap.size, 2, none⟩ = some (.int .i64 h) := fun u hu => cell_up hu hq2
      go_wp2
      go_region_law (first
        | (go_simp; go_at_call 17; refine (picked_any f h _ (by omega) (by omega) (by omega) (by omega)).mono ?_; rintro e w' ⟨rfl, rfl⟩; rw [unhide HP]; dsimp only)
        | (refine step_append_lies _ (by rfl) _ _ _ (by rfl) W.heap.size 3 i0 _ 1 8 Try.underlying28 hi hz0 hz1 hz2 rfl (by omega) (.slice ua k uc) k (n64s (spL f h k)) (by rfl) (World.ownsRow.drew (World.ownsRow.alloc (unhide HO) _)) ⟨wr.heap.size, 0, none⟩ 1 1 [.int .i64 ((IntKind.i64.wrap (P + IntKind.i64.wrap ((k : Int) * 7))).tmod h)] (by rfl) (by rfl) (World.news_of_block (cs := #[.int .i64 ((IntKind.i64.wrap (P + IntKind.i64.wrap ((k : Int) * 7))).tmod h)]) (t := 3) (fr := (0, 0)) (heap_alloc_new wr _)) (by simp [Value.oneCell']) (by omega) (by unfold maxLen; omega) (by omega) (by simp; omega) (wr.heap.size + 1) (by simp) ?_; intro g cap w4 hown4 hgrow hat hlt4))
      all_goals
        have hb4 : Below W.heap.size W w4 := (Below.drew (bl_alloc hbr (.cells #[.int .i64 ((IntKind.i64.wrap (P + IntKind.i64.wrap ((k : Int) * 7))).tmod h)] 3))).grown hgrow (by simp; omega) (fun j hj => (World.ownsRow.lt (unhide HO) j hj).1)
        have HO4 : Hid (OwN w4 W.heap.size (.slice (some ⟨g, 0, none⟩) (k + 1) cap) (spL f h (k + 1))) := by
          show World.ownsRow _ _ _ _ _ _ _
          rw [spL_len, spL_next, ← unhide HX, ← unhide HRAW, n64s_append]
          exact hown4
        clear hown4 hgrow hat
        go_wp2
        go_roundw
        case rel => exact ⟨k + 1, by omega, by go_num, unhide HO4, hb4⟩
        case measure => (simp [intOf] <;> omega)
    · obtain rfl : k = n := by omega
      go_wp2
      go_ret
      exact ⟨_, rfl, own_base ho hb0.size, bl_trans hb0 hbr⟩
end Go.Proofs.Ytjaedigjmgfakaa
