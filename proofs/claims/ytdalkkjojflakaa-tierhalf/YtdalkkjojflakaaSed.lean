/- state.everySector, takersOf, sectorsMayBe. -/
import Derived.Test.YtdalkkjojflakaaSec
namespace Go.Proofs.Ytdalkkjojflakaa
open Go.RowKit Go.Maps
set_option maxRecDepth 100000
set_option linter.unusedVariables false
set_option linter.unusedSimpArgs false
set_option maxHeartbeats 2000000 in
theorem everySector_tak {C : Value} {M : Nat} {p : Int → Bool} {I : List Int → World → Prop} (S : St) (b v u q g : Value) (hs : Stp 130 C M (secs S) p I) (w : World) (hI : I [] w) (hS : Sta w b v u q g S) :
    Calls Try.prog 110 #[stV S b v u q g, .func (.func 130) #[] #[C]] w fun e w' => e = .returned (.bool ((secs S).all p)) ∧ w.grownBy w' (some M) ∧ ((secs S).all p = true → I (secs S) w') := by
  obtain ⟨va, vc, rfl, hv1, hv2⟩ := hS.ves.form
  obtain ⟨ua, uc, rfl, hu1, hu2⟩ := hS.ups.form
  unfold maxLen at hv2 hu2
  have HS := hide hS
  have HI := hide hI
  have he : (secs S).all p = (S.ves.all (fun x => x.sec.all p) && S.ups.all (fun x => (x.parts.flatMap (·.sec)).all p)) := by
    unfold secs; rw [List.all_append, List.all_flatMap, List.all_flatMap]
  have HE := hide he
  clear hS hI he
  go_enter Try.func110, Try.ntmps110
  go_wp2_with fail
  obtain ⟨w2, hw2⟩ : ∃ w2, (w.alloc (.cells #[.int .i64 S.next, .int .i64 S.clock, b, .slice va S.ves.length vc, .slice ua S.ups.length uc, q, g] 59)).alloc (.cells #[.func (.func 130) #[] #[C]] 53) = w2 := ⟨_, rfl⟩
  have hb2 : Below w.heap.size w w2 := by rw [← hw2]; exact bl_alloc (bl1 _ _) _
  have hI2 := hs.up _ _ _ (unhide HI) hb2
  have hM2 := hs.mp _ _ hI2
  have hS2 := (unhide HS).up hb2
  have hX2 : BoxS w2 w.heap.size S b (.slice va S.ves.length vc) (.slice ua S.ups.length uc) q g := by rw [← hw2]; exact (BoxS.new w S b _ _ q g _).up (bl1 _ _)
  have hH2 : w2.cell? ⟨w.heap.size + 1, 0, none⟩ = some (.func (.func 130) #[] #[C]) := by rw [← hw2]; rw [World.cell?_alloc_at _ _ _ _ (by simp)]; rfl
  rw [hw2]
  clear hw2
  refine (every_everySector_1 _ va vc S.ves (fun k => (S.ves.getD k ve0).sec.all p) (fun k wr => I ((S.ves.take k).flatMap (fun x : Ve => x.sec)) wr ∧ w2.grownBy wr (some M)) (fun wr => w2.grownBy wr (some M)) _ (by omega) (fun k wr hk h => Lst.at (hS2.keep (Keeps.map hM2 h.2)).ves hk) (fun k wr wr' h hb => ⟨hs.up _ _ _ h.1 hb, gb_trans h.2 (gb_below hb)⟩) ⟨hI2, gb_refl _ _⟩ (fun k wr Y ya yn yc hk e h hi => ?_)).mono ?_
  · subst e
    refine (es1_tak hs _ _ ya yn yc (w.heap.size + 1) wr h.1 hi ?_ (Keeps.map hM2 h.2 _ _ hH2)).mono ?_
    · exact (flat_pre _ _ ve0 hk).trans (List.prefix_append _ _)
    · rintro e w' ⟨rfl, hg, hy⟩
      refine ⟨rfl, fun hpk => ⟨?_, gb_trans h.2 hg⟩, fun _ => gb_trans h.2 hg⟩
      rw [flat_next _ _ ve0 hk]
      exact hy hpk
  · rintro e w1 ⟨rfl, hy, hn⟩
    rw [allB_all (fun x : Ve => x.sec.all p)] at *
    have hg1 : w2.grownBy w1 (some M) := both_ways (fun h => (hy h).2) hn
    have x4 := (hX2.keep (Keeps.map hM2 hg1)).c4
    have HX2 := hide hX2
    have HS2 := hide hS2
    have HH2 := hide hH2
    have HY := hide hy
    clear hy hn hX2 hS2 hH2 hI2
    cases ha : S.ves.all (fun x => x.sec.all p)
    · have HF : Hid ((secs S).all p = false) := by show _ = _; rw [unhide HE, ha]; rfl
      clear ha
      go_wp2
      go_ret
      exact ⟨ret_bool (unhide HF).symm, gb_trans (gb_below hb2) hg1, fun h => absurd ((unhide HF).symm.trans h) (by decide)⟩
    · have HF : Hid ((secs S).all p = S.ups.all (fun x => (x.parts.flatMap (·.sec)).all p)) := by show _ = _; rw [unhide HE, ha]; rfl
      have HI1 : Hid (I (S.ves.flatMap (fun x : Ve => x.sec)) w1) := by
        have := (unhide HY ha).1
        rwa [List.take_of_length_le (Nat.le_refl _)] at this
      clear ha HY
      go_wp2_with fail
      refine (every_everySector_2 _ ua uc S.ups (fun k => ((S.ups.getD k up0).parts.flatMap (·.sec)).all p) (fun k wr => I (S.ves.flatMap (fun x : Ve => x.sec) ++ (S.ups.take k).flatMap (fun x : Up => x.parts.flatMap (·.sec))) wr ∧ w2.grownBy wr (some M)) (fun wr => w2.grownBy wr (some M)) _ (by omega) (fun k wr hk h => Lst.at ((unhide HS2).keep (Keeps.map hM2 h.2)).ups hk) (fun k wr wr' h hb => ⟨hs.up _ _ _ h.1 hb, gb_trans h.2 (gb_below hb)⟩) ⟨by simpa using unhide HI1, hg1⟩ (fun k wr Y ya yn yc hk e h hi => ?_)).mono ?_
      · subst e
        refine (es2_tak hs _ _ ya yn yc (w.heap.size + 1) wr h.1 hi ?_ (Keeps.map hM2 h.2 _ _ (unhide HH2))).mono ?_
        · rw [List.append_assoc]
          exact pre_app (List.prefix_refl _) (flat_pre (fun x : Up => x.parts.flatMap (·.sec)) _ up0 hk)
        · rintro e w' ⟨rfl, hg, hy⟩
          refine ⟨rfl, fun hpk => ⟨?_, gb_trans h.2 hg⟩, fun _ => gb_trans h.2 hg⟩
          rw [flat_next (fun x : Up => x.parts.flatMap (·.sec)) _ up0 hk, ← List.append_assoc]
          exact hy hpk
      · rintro e w3 ⟨rfl, hy, hn⟩
        rw [allB_all (fun x : Up => (x.parts.flatMap (·.sec)).all p)] at *
        have HR : Hid (w.grownBy w3 (some M) ∧ ((secs S).all p = true → I (secs S) w3)) := ⟨gb_trans (gb_below hb2) (both_ways (fun h => (hy h).2) hn), fun h => by
          have := (hy (unhide HF ▸ h)).1
          rwa [List.take_of_length_le (Nat.le_refl _)] at this⟩
        clear hy hn
        go_wp2
        go_ret
        exact ⟨ret_bool (by rw [unhide HF]; simp [List.all_flatMap]), (unhide HR).1, (unhide HR).2⟩
set_option maxHeartbeats 2000000 in
theorem everySector_may {C : Value} {M : Nat} {p : Int → Bool} {I : List Int → World → Prop} (S : St) (b v u q g : Value) (hs : Stp 111 C M (secs S) p I) (w : World) (hI : I [] w) (hS : Sta w b v u q g S) :
    Calls Try.prog 110 #[stV S b v u q g, .func (.func 111) #[] #[C]] w fun e w' => e = .returned (.bool ((secs S).all p)) ∧ w.grownBy w' (some M) ∧ ((secs S).all p = true → I (secs S) w') := by
  obtain ⟨va, vc, rfl, hv1, hv2⟩ := hS.ves.form
  obtain ⟨ua, uc, rfl, hu1, hu2⟩ := hS.ups.form
  unfold maxLen at hv2 hu2
  have HS := hide hS
  have HI := hide hI
  have he : (secs S).all p = (S.ves.all (fun x => x.sec.all p) && S.ups.all (fun x => (x.parts.flatMap (·.sec)).all p)) := by
    unfold secs; rw [List.all_append, List.all_flatMap, List.all_flatMap]
  have HE := hide he
  clear hS hI he
  go_enter Try.func110, Try.ntmps110
  go_wp2_with fail
  obtain ⟨w2, hw2⟩ : ∃ w2, (w.alloc (.cells #[.int .i64 S.next, .int .i64 S.clock, b, .slice va S.ves.length vc, .slice ua S.ups.length uc, q, g] 59)).alloc (.cells #[.func (.func 111) #[] #[C]] 53) = w2 := ⟨_, rfl⟩
  have hb2 : Below w.heap.size w w2 := by rw [← hw2]; exact bl_alloc (bl1 _ _) _
  have hI2 := hs.up _ _ _ (unhide HI) hb2
  have hM2 := hs.mp _ _ hI2
  have hS2 := (unhide HS).up hb2
  have hX2 : BoxS w2 w.heap.size S b (.slice va S.ves.length vc) (.slice ua S.ups.length uc) q g := by rw [← hw2]; exact (BoxS.new w S b _ _ q g _).up (bl1 _ _)
  have hH2 : w2.cell? ⟨w.heap.size + 1, 0, none⟩ = some (.func (.func 111) #[] #[C]) := by rw [← hw2]; rw [World.cell?_alloc_at _ _ _ _ (by simp)]; rfl
  rw [hw2]
  clear hw2
  refine (every_everySector_1 _ va vc S.ves (fun k => (S.ves.getD k ve0).sec.all p) (fun k wr => I ((S.ves.take k).flatMap (fun x : Ve => x.sec)) wr ∧ w2.grownBy wr (some M)) (fun wr => w2.grownBy wr (some M)) _ (by omega) (fun k wr hk h => Lst.at (hS2.keep (Keeps.map hM2 h.2)).ves hk) (fun k wr wr' h hb => ⟨hs.up _ _ _ h.1 hb, gb_trans h.2 (gb_below hb)⟩) ⟨hI2, gb_refl _ _⟩ (fun k wr Y ya yn yc hk e h hi => ?_)).mono ?_
  · subst e
    refine (es1_may hs _ _ ya yn yc (w.heap.size + 1) wr h.1 hi ?_ (Keeps.map hM2 h.2 _ _ hH2)).mono ?_
    · exact (flat_pre _ _ ve0 hk).trans (List.prefix_append _ _)
    · rintro e w' ⟨rfl, hg, hy⟩
      refine ⟨rfl, fun hpk => ⟨?_, gb_trans h.2 hg⟩, fun _ => gb_trans h.2 hg⟩
      rw [flat_next _ _ ve0 hk]
      exact hy hpk
  · rintro e w1 ⟨rfl, hy, hn⟩
    rw [allB_all (fun x : Ve => x.sec.all p)] at *
    have hg1 : w2.grownBy w1 (some M) := both_ways (fun h => (hy h).2) hn
    have x4 := (hX2.keep (Keeps.map hM2 hg1)).c4
    have HX2 := hide hX2
    have HS2 := hide hS2
    have HH2 := hide hH2
    have HY := hide hy
    clear hy hn hX2 hS2 hH2 hI2
    cases ha : S.ves.all (fun x => x.sec.all p)
    · have HF : Hid ((secs S).all p = false) := by show _ = _; rw [unhide HE, ha]; rfl
      clear ha
      go_wp2
      go_ret
      exact ⟨ret_bool (unhide HF).symm, gb_trans (gb_below hb2) hg1, fun h => absurd ((unhide HF).symm.trans h) (by decide)⟩
    · have HF : Hid ((secs S).all p = S.ups.all (fun x => (x.parts.flatMap (·.sec)).all p)) := by show _ = _; rw [unhide HE, ha]; rfl
      have HI1 : Hid (I (S.ves.flatMap (fun x : Ve => x.sec)) w1) := by
        have := (unhide HY ha).1
        rwa [List.take_of_length_le (Nat.le_refl _)] at this
      clear ha HY
      go_wp2_with fail
      refine (every_everySector_2 _ ua uc S.ups (fun k => ((S.ups.getD k up0).parts.flatMap (·.sec)).all p) (fun k wr => I (S.ves.flatMap (fun x : Ve => x.sec) ++ (S.ups.take k).flatMap (fun x : Up => x.parts.flatMap (·.sec))) wr ∧ w2.grownBy wr (some M)) (fun wr => w2.grownBy wr (some M)) _ (by omega) (fun k wr hk h => Lst.at ((unhide HS2).keep (Keeps.map hM2 h.2)).ups hk) (fun k wr wr' h hb => ⟨hs.up _ _ _ h.1 hb, gb_trans h.2 (gb_below hb)⟩) ⟨by simpa using unhide HI1, hg1⟩ (fun k wr Y ya yn yc hk e h hi => ?_)).mono ?_
      · subst e
        refine (es2_may hs _ _ ya yn yc (w.heap.size + 1) wr h.1 hi ?_ (Keeps.map hM2 h.2 _ _ (unhide HH2))).mono ?_
        · rw [List.append_assoc]
          exact pre_app (List.prefix_refl _) (flat_pre (fun x : Up => x.parts.flatMap (·.sec)) _ up0 hk)
        · rintro e w' ⟨rfl, hg, hy⟩
          refine ⟨rfl, fun hpk => ⟨?_, gb_trans h.2 hg⟩, fun _ => gb_trans h.2 hg⟩
          rw [flat_next (fun x : Up => x.parts.flatMap (·.sec)) _ up0 hk, ← List.append_assoc]
          exact hy hpk
      · rintro e w3 ⟨rfl, hy, hn⟩
        rw [allB_all (fun x : Up => (x.parts.flatMap (·.sec)).all p)] at *
        have HR : Hid (w.grownBy w3 (some M) ∧ ((secs S).all p = true → I (secs S) w3)) := ⟨gb_trans (gb_below hb2) (both_ways (fun h => (hy h).2) hn), fun h => by
          have := (hy (unhide HF ▸ h)).1
          rwa [List.take_of_length_le (Nat.le_refl _)] at this⟩
        clear hy hn
        go_wp2
        go_ret
        exact ⟨ret_bool (by rw [unhide HF]; simp [List.all_flatMap]), (unhide HR).1, (unhide HR).2⟩
theorem count_next (pre : List Int) (X : Int) : (fun y => if y = X then pre.count y + 1 else pre.count y) = fun y => (pre ++ [X]).count y := by
  funext y
  rw [List.count_append]
  by_cases e : y = X
  · subst e; simp
  · rw [if_neg e, List.count_eq_zero_of_not_mem (l := [X]) (by simp [e])]; rfl
theorem takersOf_1 (pre : List Int) (X : Int) (K M : Nat) (w : World) (hC : Cnt w M pre.length (fun y => pre.count y)) (hK : w.cell? ⟨K, 0, none⟩ = some (.map (some M))) (hX : (Lit.int .i64 X).wf = true) (hn : pre.length < 1000000000) :
    Calls Try.prog 130 #[.int .i64 X, .pointer (some ⟨K, 0, none⟩)] w fun e w' => e = .returned (.bool true) ∧ w.grownBy w' (some M) ∧ Cnt w' M (pre ++ [X]).length (fun y => (pre ++ [X]).count y) := by
  obtain ⟨c, hc⟩ : ∃ c : Nat, pre.count X = c := ⟨_, rfl⟩
  have hlk := hC.look hX
  obtain ⟨w1, hup, hC1, hg⟩ := hC.tick hn hX
  have hcl : c ≤ pre.length := by rw [← hc]; exact List.count_le_length
  rw [hc] at hlk hup
  rw [count_next] at hC1
  have HC1 : Hid (Cnt w1 M (pre ++ [X]).length (fun y => (pre ++ [X]).count y)) := by
    rw [List.length_append]; exact hC1
  clear hC1 hC hc hX
  have hc0 : (0 : Int) ≤ (c : Int) := Int.natCast_nonneg _
  have hc1 : (c : Int) ≤ 1000000000 := by omega
  go_enter Try.func130, Try.ntmps130
  go_wp2
  go_ret
  exact ⟨rfl, hg, unhide HC1⟩
theorem takersOf_any (S : St) (b v u q g : Value) (w : World) (hS : Sta w b v u q g S) (hn : (secs S).length < 1000000000) :
    Calls Try.prog 109 #[stV S b v u q g] w fun e w' => ∃ M, e = .returned (.map (some M)) ∧ w.heap.size ≤ M ∧ Cnt w' M (secs S).length (fun y => (secs S).count y) ∧ Below w.heap.size w w' := by
  have hmm := @run_makeMap Try.prog
  have HS := hide hS
  clear hS
  go_enter Try.func109, Try.ntmps109
  go_wp2_with fail
  obtain ⟨w1, hw1⟩ : ∃ w1, w.alloc (.cells #[.int .i64 S.next, .int .i64 S.clock, b, v, u, q, g] 59) = w1 := ⟨_, rfl⟩
  obtain ⟨M, hM⟩ : ∃ M, w.heap.size + 1 = M := ⟨_, rfl⟩
  have hz1 : M = w1.heap.size := by rw [← hw1, ← hM]; simp
  have hb1 : Below w.heap.size w w1 := by rw [← hw1]; exact bl1 _ _
  rw [hw1, hM]
  obtain ⟨w2, hw2⟩ : ∃ w2, (w1.alloc (.map #[] 0)).alloc (.cells #[.map (some M)] 133) = w2 := ⟨_, rfl⟩
  have hb2 : Below w.heap.size w w2 := by rw [← hw2]; exact bl_trans hb1 (bl_alloc (bl1 _ _) _)
  have hC : Cnt w2 M 0 (fun _ => 0) := by rw [← hw2, hz1]; exact (Cnt.made w1).up (bl1 _ _)
  have hK : w2.cell? ⟨M + 1, 0, none⟩ = some (.map (some M)) := by rw [← hw2, hz1, World.cell?_alloc_at _ _ _ _ (by simp)]; rfl
  rw [hw2]
  have hle : w.heap.size ≤ M := by omega
  clear hw1 hw2 hz1 hM
  refine (everySector_tak (C := .pointer (some ⟨M + 1, 0, none⟩)) (M := M) (p := fun _ => true) (I := fun pre wr => Cnt wr M pre.length (fun y => pre.count y) ∧ wr.cell? ⟨M + 1, 0, none⟩ = some (.map (some M))) S b v u q g ⟨fun pre wr wr' h hb => ⟨h.1.up hb, scell_up hb h.2⟩, fun pre wr h => h.1.mapAt, fun pre X wr h hX hp => ?_⟩ w2 ⟨hC, hK⟩ ((unhide HS).up hb2)).mono ?_
  · have hl : pre.length < 1000000000 := by
      have := hp.length_le
      simp at this
      omega
    refine (takersOf_1 pre X (M + 1) M wr h.1 h.2 hX hl).mono ?_
    rintro e w' ⟨rfl, hg, hc⟩
    exact ⟨rfl, hg, fun _ => ⟨hc, Keeps.map h.1.mapAt hg _ _ h.2⟩⟩
  · rintro e w3 ⟨rfl, hg, hy⟩
    obtain ⟨hc3, hk3⟩ := hy (by simp)
    have HC3 := hide hc3
    clear hy hc3 hC hK
    go_wp2
    go_ret
    exact ⟨M, rfl, hle, unhide HC3, bl_gb hb2 hg hle⟩
theorem sectorsMayBe_1 (n : Nat) (f : Int → Nat) (X : Int) (K M : Nat) (w : World) (hC : Cnt w M n f) (hK : w.cell? ⟨K, 0, none⟩ = some (.map (some M))) (hX : (Lit.int .i64 X).wf = true) :
    Calls Try.prog 111 #[.int .i64 X, .pointer (some ⟨K, 0, none⟩)] w fun e w' => e = .returned (.bool (inB X 0 199 && (f X : Int) == 1)) ∧ w = w' := by
  have hlk := hC.look hX
  obtain ⟨c, hc⟩ : ∃ c : Nat, f X = c := ⟨_, rfl⟩
  rw [hc] at hlk ⊢
  clear hc hC hX
  go_enter Try.func111, Try.ntmps111
  go_wp2_with fail
  refine (within_any _ _ _ _).mono ?_
  rintro e w1 ⟨rfl, rfl⟩
  cases h1 : inB X 0 199
  · go_wp2
    go_ret
    exact ⟨ret_bool (by rw [h1]; rfl), rfl⟩
  · go_wp2
    go_ret
    exact ⟨ret_bool (by rw [h1]; rfl), rfl⟩
/-- All sectors are there, and no two are one. -/
def secC (S : St) : Bool := (secs S).all (fun x => inB x 0 199 && ((secs S).count x : Int) == 1)
theorem sectorsMayBe_any (S : St) (b v u q g : Value) (w : World) (hS : Sta w b v u q g S) (hn : (secs S).length < 1000000000) :
    Calls Try.prog 67 #[stV S b v u q g] w fun e w' => e = .returned (.bool (secC S)) ∧ Below w.heap.size w w' := by
  have HS := hide hS
  have HE : Hid (secC S = (secs S).all (fun x => inB x 0 199 && ((secs S).count x : Int) == 1)) := rfl
  clear hS
  go_enter Try.func67, Try.ntmps67
  go_wp2_with fail
  refine (takersOf_any S b v u q g _ ((unhide HS).up (bl1 _ _)) hn).mono ?_
  rintro e w1 ⟨M, rfl, hle, hC, hb⟩
  have hX := (BoxS.new w S b v u q g 59).up hb
  have hlt := hX.lt
  have x0 := hX.c0
  have x1 := hX.c1
  have x2 := hX.c2
  have x3 := hX.c3
  have x4 := hX.c4
  have x5 := hX.c5
  have x6 := hX.c6
  have HC := hide hC
  clear hX hC
  go_wp2_with fail
  refine (everySector_may (C := .pointer (some ⟨w1.heap.size, 0, none⟩)) (M := M) (p := fun x => inB x 0 199 && ((secs S).count x : Int) == 1) (I := fun pre wr => Cnt wr M (secs S).length (fun y => (secs S).count y) ∧ wr.cell? ⟨w1.heap.size, 0, none⟩ = some (.map (some M))) S b v u q g ⟨fun pre wr wr' h hb => ⟨h.1.up hb, scell_up hb h.2⟩, fun pre wr h => h.1.mapAt, fun pre X wr h hX hp => ?_⟩ _ ⟨(unhide HC).up (bl1 _ _), by rw [World.cell?_alloc_at _ _ _ _ rfl]; rfl⟩ ((unhide HS).up (bl_trans (bl_trans (bl1 _ _) hb) (bl1 _ _)))).mono ?_
  · refine (sectorsMayBe_1 _ _ X _ M wr h.1 h.2 hX).mono ?_
    rintro e w' ⟨rfl, rfl⟩
    exact ⟨rfl, gb_refl _ _, fun _ => h⟩
  · rintro e w3 ⟨rfl, hg, _⟩
    have hbe := bl_gb (bl_trans (bl_trans (bl1 w _) hb) (bl1 _ _)) hg (Nat.le_trans (by simp) hle)
    go_wp2
    go_ret
    exact ⟨ret_bool (by rw [unhide HE]), hbe⟩
end Go.Proofs.Ytdalkkjojflakaa
