/- state.takersOf, everySector, sectorsMayBe. -/
import Derived.Test.YtdalkkjojflakaaKep
namespace Go.Proofs.Ytdalkkjojflakaa
open Go.RowKit Go.Maps
set_option maxRecDepth 100000
set_option linter.unusedVariables false
set_option linter.unusedSimpArgs false
def secs (S : St) : List Int := S.ves.flatMap (·.sec) ++ S.ups.flatMap (fun u => u.parts.flatMap (·.sec))
theorem allB_all {α : Type} (p : α → Bool) (d : α) (xs : List α) : allB xs.length (fun k => p (xs.getD k d)) = xs.all p := by
  cases e : xs.all p
  · rw [List.all_eq_false] at e
    obtain ⟨x, hx, hp⟩ := e
    obtain ⟨k, hk, rfl⟩ := List.getElem_of_mem hx
    exact allB_f hk (by simpa [List.getD, hk] using hp)
  · rw [List.all_eq_true] at e
    exact allB_t fun j hj => by
      have := e _ (List.getElem_mem hj)
      simpa [List.getD, hj] using this
theorem take_next {α : Type} (xs : List α) (d : α) {k : Nat} (hk : k < xs.length) : xs.take (k + 1) = xs.take k ++ [xs.getD k d] := by
  rw [List.take_succ_eq_append_getElem hk]; simp [List.getD, hk]
theorem flat_next {α : Type} (f : α → List Int) (xs : List α) (d : α) {k : Nat} (hk : k < xs.length) : (xs.take (k + 1)).flatMap f = (xs.take k).flatMap f ++ f (xs.getD k d) := by
  rw [take_next xs d hk]; simp
theorem flat_pre {α : Type} (f : α → List Int) (xs : List α) (d : α) {k : Nat} (hk : k < xs.length) : (xs.take k).flatMap f ++ f (xs.getD k d) <+: xs.flatMap f := by
  rw [← flat_next f xs d hk]
  conv => rhs; rw [← List.take_append_drop (k + 1) xs, List.flatMap_append]
  exact List.prefix_append _ _
theorem pre_app {A B C L : List Int} (h : A ++ B <+: L) (k : C <+: B) : A ++ C <+: L := (List.prefix_append_right_inj A |>.2 k).trans h
/-- What is asked of each sector, one behind the other. -/
structure Stp (F : FuncId) (C : Value) (M : Nat) (L : List Int) (p : Int → Bool) (I : List Int → World → Prop) : Prop where
  up : ∀ pre wr wr', I pre wr → Below wr.heap.size wr wr' → I pre wr'
  mp : ∀ pre wr, I pre wr → MapAt wr M
  st : ∀ pre X wr, I pre wr → (Lit.int .i64 X).wf = true → pre ++ [X] <+: L → Calls Try.prog F #[.int .i64 X, C] wr fun e w' => e = .returned (.bool (p X)) ∧ wr.grownBy w' (some M) ∧ (p X = true → I (pre ++ [X]) w')
theorem evI_tak {C : Value} {M : Nat} {L : List Int} {p : Int → Bool} {I : List Int → World → Prop} (hs : Stp 130 C M L p I) (pre : List Int) (a : Option Addr) (cap : Nat) (xs : List Int) (w : World) (hI : I pre w) (hL : Ints w (.slice a xs.length cap) xs) (hp : pre ++ xs <+: L) :
    Calls Try.prog 84 #[.slice a xs.length cap, .func (.func 130) #[] #[C]] w fun e w' => e = .returned (.bool (xs.all p)) ∧ w.grownBy w' (some M) ∧ (xs.all p = true → I (pre ++ xs) w') := by
  have hn := hL.len.2
  unfold maxLen at hn
  refine (every_takersOf_1 C a cap xs (fun k => p (xs.getD k 0)) (fun k wr => I (pre ++ xs.take k) wr ∧ w.grownBy wr (some M) ∧ Ints wr (.slice a xs.length cap) xs) (fun wr => w.grownBy wr (some M)) w (by omega) (fun k wr hk h => Lst.at h.2.2 hk) (fun k wr wr' h hb => ⟨hs.up _ _ _ h.1 hb, gb_trans h.2.1 (gb_below hb), Ints.up hb h.2.2⟩) ⟨by simpa using hI, gb_refl _ _, hL⟩ (fun k wr X hk e h hw => ?_)).mono ?_
  · subst e
    refine (hs.st _ _ _ h.1 hw ?_).mono ?_
    · rw [List.append_assoc, ← take_next xs 0 hk]
      exact pre_app hp (List.take_prefix _ _)
    · rintro e w' ⟨rfl, hg, hy⟩
      refine ⟨rfl, fun hpk => ⟨?_, gb_trans h.2.1 hg, Ints.keep (Keeps.map (hs.mp _ _ h.1) hg) h.2.2⟩, fun _ => gb_trans h.2.1 hg⟩
      rw [take_next xs 0 hk, ← List.append_assoc]
      exact hy hpk
  · rintro e w' ⟨rfl, hy, hn⟩
    rw [allB_all] at *
    refine ⟨rfl, both_ways (fun h => (hy h).2.1) hn, fun h => ?_⟩
    have := (hy h).1
    rwa [List.take_of_length_le (Nat.le_refl _)] at this
set_option maxHeartbeats 1000000 in
theorem es1_tak {C : Value} {M : Nat} {L : List Int} {p : Int → Bool} {I : List Int → World → Prop} (hs : Stp 130 C M L p I) (pre : List Int) (X : Ve) (ua : Option Addr) (un uc H : Nat) (w : World) (hI : I pre w) (hL : Ints w (.slice ua un uc) X.sec) (hp : pre ++ X.sec <+: L) (hH : w.cell? ⟨H, 0, none⟩ = some (.func (.func 130) #[] #[C])) :
    Calls Try.prog 131 #[veV X (.slice ua un uc), .pointer (some ⟨H, 0, none⟩)] w fun e w' => e = .returned (.bool (X.sec.all p)) ∧ w.grownBy w' (some M) ∧ (X.sec.all p = true → I (pre ++ X.sec) w') := by
  have hlt := World.block_lt_of_cell? w _ hH
  simp at hlt
  obtain ⟨rfl, _, _⟩ := hL.len
  have HL := hide hL
  have HI := hide hI
  have HP := hide hp
  clear hL hI hp
  go_enter Try.func131, Try.ntmps131
  go_wp2_with fail
  refine (evI_tak hs pre ua uc X.sec _ (hs.up _ _ _ (unhide HI) (bl1 _ _)) (Ints.up (bl1 _ _) (unhide HL)) (unhide HP)).mono ?_
  rintro e w1 ⟨rfl, hg, hy⟩
  have HY := hide hy
  clear hy
  go_wp2
  go_ret
  exact ⟨rfl, gb_trans (gb_below (bl1 _ _)) hg, unhide HY⟩
set_option maxHeartbeats 1000000 in
theorem es21_tak {C : Value} {M : Nat} {L : List Int} {p : Int → Bool} {I : List Int → World → Prop} (hs : Stp 130 C M L p I) (pre : List Int) (X : Pa) (ua : Option Addr) (un uc H : Nat) (w : World) (hI : I pre w) (hL : Ints w (.slice ua un uc) X.sec) (hp : pre ++ X.sec <+: L) (hH : w.cell? ⟨H, 0, none⟩ = some (.func (.func 130) #[] #[C])) :
    Calls Try.prog 133 #[paV X (.slice ua un uc), .pointer (some ⟨H, 0, none⟩)] w fun e w' => e = .returned (.bool (X.sec.all p)) ∧ w.grownBy w' (some M) ∧ (X.sec.all p = true → I (pre ++ X.sec) w') := by
  have hlt := World.block_lt_of_cell? w _ hH
  simp at hlt
  obtain ⟨rfl, _, _⟩ := hL.len
  have HL := hide hL
  have HI := hide hI
  have HP := hide hp
  clear hL hI hp
  go_enter Try.func133, Try.ntmps133
  go_wp2_with fail
  refine (evI_tak hs pre ua uc X.sec _ (hs.up _ _ _ (unhide HI) (bl1 _ _)) (Ints.up (bl1 _ _) (unhide HL)) (unhide HP)).mono ?_
  rintro e w1 ⟨rfl, hg, hy⟩
  have HY := hide hy
  clear hy
  go_wp2
  go_ret
  exact ⟨rfl, gb_trans (gb_below (bl1 _ _)) hg, unhide HY⟩
set_option maxHeartbeats 1000000 in
theorem es2_tak {C : Value} {M : Nat} {L : List Int} {p : Int → Bool} {I : List Int → World → Prop} (hs : Stp 130 C M L p I) (pre : List Int) (X : Up) (ua : Option Addr) (un uc H : Nat) (w : World) (hI : I pre w) (hL : Lst RPa 3 pa0 w (.slice ua un uc) X.parts) (hp : pre ++ X.parts.flatMap (·.sec) <+: L) (hH : w.cell? ⟨H, 0, none⟩ = some (.func (.func 130) #[] #[C])) :
    Calls Try.prog 132 #[upV X (.slice ua un uc), .pointer (some ⟨H, 0, none⟩)] w fun e w' => e = .returned (.bool ((X.parts.flatMap (·.sec)).all p)) ∧ w.grownBy w' (some M) ∧ ((X.parts.flatMap (·.sec)).all p = true → I (pre ++ X.parts.flatMap (·.sec)) w') := by
  obtain ⟨rfl, hn1, hn2⟩ := hL.len
  unfold maxLen at hn2
  have HL := hide hL
  have HI := hide hI
  have HP := hide hp
  have HH := hide hH
  clear hL hI hp hH
  go_enter Try.func132, Try.ntmps132
  go_wp2_with fail
  refine (every_everySector_2_1 _ ua uc X.parts (fun k => (X.parts.getD k pa0).sec.all p) (fun k wr => I (pre ++ (X.parts.take k).flatMap (·.sec)) wr ∧ w.grownBy wr (some M) ∧ Lst RPa 3 pa0 wr (.slice ua X.parts.length uc) X.parts ∧ wr.cell? ⟨H, 0, none⟩ = some (.func (.func 130) #[] #[C])) (fun wr => w.grownBy wr (some M)) _ (by omega) (fun k wr hk h => Lst.at h.2.2.1 hk) (fun k wr wr' h hb => ⟨hs.up _ _ _ h.1 hb, gb_trans h.2.1 (gb_below hb), Pas.up hb h.2.2.1, scell_up hb h.2.2.2⟩) ⟨by simpa using hs.up _ _ _ (unhide HI) (bl1 _ _), gb_below (bl1 _ _), Pas.up (bl1 _ _) (unhide HL), scell_up (bl1 _ _) (unhide HH)⟩ (fun k wr Y ya yn yc hk e h hi => ?_)).mono ?_
  · subst e
    refine (es21_tak hs _ _ ya yn yc H wr h.1 hi ?_ h.2.2.2).mono ?_
    · rw [List.append_assoc]
      exact pre_app (unhide HP) (flat_pre _ _ pa0 hk)
    · rintro e w' ⟨rfl, hg, hy⟩
      refine ⟨rfl, fun hpk => ⟨?_, gb_trans h.2.1 hg, Pas.keep (Keeps.map (hs.mp _ _ h.1) hg) h.2.2.1, (Keeps.map (hs.mp _ _ h.1) hg) _ _ h.2.2.2⟩, fun _ => gb_trans h.2.1 hg⟩
      rw [flat_next _ _ pa0 hk, ← List.append_assoc]
      exact hy hpk
  · rintro e w1 ⟨rfl, hy, hn⟩
    rw [allB_all (fun x : Pa => x.sec.all p)] at *
    have he : (X.parts.flatMap (·.sec)).all p = X.parts.all (fun x => x.sec.all p) := List.all_flatMap
    have HR : Hid (w.grownBy w1 (some M) ∧ ((X.parts.flatMap (·.sec)).all p = true → I (pre ++ X.parts.flatMap (·.sec)) w1)) := ⟨both_ways (fun h => (hy h).2.1) hn, fun h => by
      have := (hy (he ▸ h)).1
      rwa [List.take_of_length_le (Nat.le_refl _)] at this⟩
    have HE := hide he
    clear hy hn he
    go_wp2
    go_ret
    exact ⟨ret_bool (unhide HE).symm, (unhide HR).1, (unhide HR).2⟩
theorem evI_may {C : Value} {M : Nat} {L : List Int} {p : Int → Bool} {I : List Int → World → Prop} (hs : Stp 111 C M L p I) (pre : List Int) (a : Option Addr) (cap : Nat) (xs : List Int) (w : World) (hI : I pre w) (hL : Ints w (.slice a xs.length cap) xs) (hp : pre ++ xs <+: L) :
    Calls Try.prog 84 #[.slice a xs.length cap, .func (.func 111) #[] #[C]] w fun e w' => e = .returned (.bool (xs.all p)) ∧ w.grownBy w' (some M) ∧ (xs.all p = true → I (pre ++ xs) w') := by
  have hn := hL.len.2
  unfold maxLen at hn
  refine (every_sectorsMayBe_1 C a cap xs (fun k => p (xs.getD k 0)) (fun k wr => I (pre ++ xs.take k) wr ∧ w.grownBy wr (some M) ∧ Ints wr (.slice a xs.length cap) xs) (fun wr => w.grownBy wr (some M)) w (by omega) (fun k wr hk h => Lst.at h.2.2 hk) (fun k wr wr' h hb => ⟨hs.up _ _ _ h.1 hb, gb_trans h.2.1 (gb_below hb), Ints.up hb h.2.2⟩) ⟨by simpa using hI, gb_refl _ _, hL⟩ (fun k wr X hk e h hw => ?_)).mono ?_
  · subst e
    refine (hs.st _ _ _ h.1 hw ?_).mono ?_
    · rw [List.append_assoc, ← take_next xs 0 hk]
      exact pre_app hp (List.take_prefix _ _)
    · rintro e w' ⟨rfl, hg, hy⟩
      refine ⟨rfl, fun hpk => ⟨?_, gb_trans h.2.1 hg, Ints.keep (Keeps.map (hs.mp _ _ h.1) hg) h.2.2⟩, fun _ => gb_trans h.2.1 hg⟩
      rw [take_next xs 0 hk, ← List.append_assoc]
      exact hy hpk
  · rintro e w' ⟨rfl, hy, hn⟩
    rw [allB_all] at *
    refine ⟨rfl, both_ways (fun h => (hy h).2.1) hn, fun h => ?_⟩
    have := (hy h).1
    rwa [List.take_of_length_le (Nat.le_refl _)] at this
set_option maxHeartbeats 1000000 in
theorem es1_may {C : Value} {M : Nat} {L : List Int} {p : Int → Bool} {I : List Int → World → Prop} (hs : Stp 111 C M L p I) (pre : List Int) (X : Ve) (ua : Option Addr) (un uc H : Nat) (w : World) (hI : I pre w) (hL : Ints w (.slice ua un uc) X.sec) (hp : pre ++ X.sec <+: L) (hH : w.cell? ⟨H, 0, none⟩ = some (.func (.func 111) #[] #[C])) :
    Calls Try.prog 131 #[veV X (.slice ua un uc), .pointer (some ⟨H, 0, none⟩)] w fun e w' => e = .returned (.bool (X.sec.all p)) ∧ w.grownBy w' (some M) ∧ (X.sec.all p = true → I (pre ++ X.sec) w') := by
  have hlt := World.block_lt_of_cell? w _ hH
  simp at hlt
  obtain ⟨rfl, _, _⟩ := hL.len
  have HL := hide hL
  have HI := hide hI
  have HP := hide hp
  clear hL hI hp
  go_enter Try.func131, Try.ntmps131
  go_wp2_with fail
  refine (evI_may hs pre ua uc X.sec _ (hs.up _ _ _ (unhide HI) (bl1 _ _)) (Ints.up (bl1 _ _) (unhide HL)) (unhide HP)).mono ?_
  rintro e w1 ⟨rfl, hg, hy⟩
  have HY := hide hy
  clear hy
  go_wp2
  go_ret
  exact ⟨rfl, gb_trans (gb_below (bl1 _ _)) hg, unhide HY⟩
set_option maxHeartbeats 1000000 in
theorem es21_may {C : Value} {M : Nat} {L : List Int} {p : Int → Bool} {I : List Int → World → Prop} (hs : Stp 111 C M L p I) (pre : List Int) (X : Pa) (ua : Option Addr) (un uc H : Nat) (w : World) (hI : I pre w) (hL : Ints w (.slice ua un uc) X.sec) (hp : pre ++ X.sec <+: L) (hH : w.cell? ⟨H, 0, none⟩ = some (.func (.func 111) #[] #[C])) :
    Calls Try.prog 133 #[paV X (.slice ua un uc), .pointer (some ⟨H, 0, none⟩)] w fun e w' => e = .returned (.bool (X.sec.all p)) ∧ w.grownBy w' (some M) ∧ (X.sec.all p = true → I (pre ++ X.sec) w') := by
  have hlt := World.block_lt_of_cell? w _ hH
  simp at hlt
  obtain ⟨rfl, _, _⟩ := hL.len
  have HL := hide hL
  have HI := hide hI
  have HP := hide hp
  clear hL hI hp
  go_enter Try.func133, Try.ntmps133
  go_wp2_with fail
  refine (evI_may hs pre ua uc X.sec _ (hs.up _ _ _ (unhide HI) (bl1 _ _)) (Ints.up (bl1 _ _) (unhide HL)) (unhide HP)).mono ?_
  rintro e w1 ⟨rfl, hg, hy⟩
  have HY := hide hy
  clear hy
  go_wp2
  go_ret
  exact ⟨rfl, gb_trans (gb_below (bl1 _ _)) hg, unhide HY⟩
set_option maxHeartbeats 1000000 in
theorem es2_may {C : Value} {M : Nat} {L : List Int} {p : Int → Bool} {I : List Int → World → Prop} (hs : Stp 111 C M L p I) (pre : List Int) (X : Up) (ua : Option Addr) (un uc H : Nat) (w : World) (hI : I pre w) (hL : Lst RPa 3 pa0 w (.slice ua un uc) X.parts) (hp : pre ++ X.parts.flatMap (·.sec) <+: L) (hH : w.cell? ⟨H, 0, none⟩ = some (.func (.func 111) #[] #[C])) :
    Calls Try.prog 132 #[upV X (.slice ua un uc), .pointer (some ⟨H, 0, none⟩)] w fun e w' => e = .returned (.bool ((X.parts.flatMap (·.sec)).all p)) ∧ w.grownBy w' (some M) ∧ ((X.parts.flatMap (·.sec)).all p = true → I (pre ++ X.parts.flatMap (·.sec)) w') := by
  obtain ⟨rfl, hn1, hn2⟩ := hL.len
  unfold maxLen at hn2
  have HL := hide hL
  have HI := hide hI
  have HP := hide hp
  have HH := hide hH
  clear hL hI hp hH
  go_enter Try.func132, Try.ntmps132
  go_wp2_with fail
  refine (every_everySector_2_1 _ ua uc X.parts (fun k => (X.parts.getD k pa0).sec.all p) (fun k wr => I (pre ++ (X.parts.take k).flatMap (·.sec)) wr ∧ w.grownBy wr (some M) ∧ Lst RPa 3 pa0 wr (.slice ua X.parts.length uc) X.parts ∧ wr.cell? ⟨H, 0, none⟩ = some (.func (.func 111) #[] #[C])) (fun wr => w.grownBy wr (some M)) _ (by omega) (fun k wr hk h => Lst.at h.2.2.1 hk) (fun k wr wr' h hb => ⟨hs.up _ _ _ h.1 hb, gb_trans h.2.1 (gb_below hb), Pas.up hb h.2.2.1, scell_up hb h.2.2.2⟩) ⟨by simpa using hs.up _ _ _ (unhide HI) (bl1 _ _), gb_below (bl1 _ _), Pas.up (bl1 _ _) (unhide HL), scell_up (bl1 _ _) (unhide HH)⟩ (fun k wr Y ya yn yc hk e h hi => ?_)).mono ?_
  · subst e
    refine (es21_may hs _ _ ya yn yc H wr h.1 hi ?_ h.2.2.2).mono ?_
    · rw [List.append_assoc]
      exact pre_app (unhide HP) (flat_pre _ _ pa0 hk)
    · rintro e w' ⟨rfl, hg, hy⟩
      refine ⟨rfl, fun hpk => ⟨?_, gb_trans h.2.1 hg, Pas.keep (Keeps.map (hs.mp _ _ h.1) hg) h.2.2.1, (Keeps.map (hs.mp _ _ h.1) hg) _ _ h.2.2.2⟩, fun _ => gb_trans h.2.1 hg⟩
      rw [flat_next _ _ pa0 hk, ← List.append_assoc]
      exact hy hpk
  · rintro e w1 ⟨rfl, hy, hn⟩
    rw [allB_all (fun x : Pa => x.sec.all p)] at *
    have he : (X.parts.flatMap (·.sec)).all p = X.parts.all (fun x => x.sec.all p) := List.all_flatMap
    have HR : Hid (w.grownBy w1 (some M) ∧ ((X.parts.flatMap (·.sec)).all p = true → I (pre ++ X.parts.flatMap (·.sec)) w1)) := ⟨both_ways (fun h => (hy h).2.1) hn, fun h => by
      have := (hy (he ▸ h)).1
      rwa [List.take_of_length_le (Nat.le_refl _)] at this⟩
    have HE := hide he
    clear hy hn he
    go_wp2
    go_ret
    exact ⟨ret_bool (unhide HE).symm, (unhide HR).1, (unhide HR).2⟩
end Go.Proofs.Ytdalkkjojflakaa
