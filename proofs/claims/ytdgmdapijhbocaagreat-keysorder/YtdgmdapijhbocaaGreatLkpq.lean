/- What the keeps over list share. -/
import Derived.Test.YtdgmdapijhbocaaGreatLkeq
import Derived.Test.YtdgmdapijhbocaaGreatTllq
import Derived.Test.YtdgmdapijhbocaaGreatSopq
namespace Go.Proofs.YtdgmdapijhbocaaGreat
open Go.RowKit Go.Maps
set_option maxRecDepth 100000
set_option linter.unusedVariables false
set_option linter.unusedSimpArgs false
theorem s00_sta (w' : World) : Sta w' nl nl nl nl nl s00 :=
  ⟨⟨none, 0, rfl, Nat.le_refl _, Nat.zero_le _, fun i hi => absurd hi (Nat.not_lt_zero _)⟩, ⟨none, 0, rfl, Nat.le_refl _, Nat.zero_le _, fun i hi => absurd hi (Nat.not_lt_zero _)⟩, ⟨none, 0, rfl, Nat.le_refl _, Nat.zero_le _, fun i hi => absurd hi (Nat.not_lt_zero _)⟩, ⟨none, 0, rfl, Nat.le_refl _, Nat.zero_le _, fun i hi => absurd hi (Nat.not_lt_zero _)⟩, Ints.nil9 _⟩
theorem s00_lch (nm pre : ByteArray) (m : Int) : lchE s00 nm pre m = 6 := by
  unfold lchE
  rw [stE_t stC_s00, if_pos rfl]
  have : hasB s00 nm = false := rfl
  rw [this]
  rfl
set_option maxHeartbeats 1000000 in
theorem listTells_any (w : World) : Calls Tryz.prog 20 #[] w fun e w' => e = .returned (.bool true) ∧ Below w.heap.size w w' := by
  have HK : Hid (∀ W : World, Calls Tryz.prog 17 #[stV s00 nl nl nl nl nl, .string ⟨#[110, 111, 98, 111, 100, 121]⟩, .string ⟨#[]⟩, .string ⟨#[]⟩, .string ⟨#[]⟩, .int .i64 5] W fun e w' => ∃ o, e = .returned (.tuple #[o, .bool false, .int .i64 6]) ∧ Below W.heap.size W w') := fun W => by
    have he : keyE s00 ⟨#[110, 111, 98, 111, 100, 121]⟩ ⟨#[]⟩ ⟨#[]⟩ 5 = 6 := by unfold keyE; rw [s00_lch, if_neg (by decide)]
    refine (keys_any s00 nl nl nl nl nl ⟨#[110, 111, 98, 111, 100, 121]⟩ ⟨#[]⟩ ⟨#[]⟩ ⟨#[]⟩ 5 W (s00_sta W) (by decide) (by decide)).mono ?_
    rintro e w' ⟨o, rfl, _, hb⟩
    refine ⟨o, ?_, hb⟩
    rw [he]
    rfl
  have HV : Hid (∀ W : World, Calls Tryz.prog 21 #[stV s00 nl nl nl nl nl, .string ⟨#[110, 111, 98, 111, 100, 121]⟩, .string ⟨#[]⟩, .int .i64 5] W fun e w' => ∃ o, e = .returned (.tuple #[o, .bool false, .int .i64 6]) ∧ Below W.heap.size W w') := fun W => by
    refine (versions_any s00 nl nl nl nl nl ⟨#[110, 111, 98, 111, 100, 121]⟩ ⟨#[]⟩ 5 W (s00_sta W) (by decide)).mono ?_
    rintro e w' ⟨o, rfl, _, hb⟩
    refine ⟨o, ?_, hb⟩
    rw [s00_lch]
    rfl
  go_enter Tryz.func20, Tryz.ntmps20
  go_wp2_with fail
  refine (unhide HK _).mono ?_
  rintro e w1 ⟨o, rfl, hb1⟩
  go_wp2_with fail
  refine (unhide HV _).mono ?_
  rintro e w2 ⟨o2, rfl, hb2⟩
  go_wp2
  go_ret
  exact ⟨rfl, bl_trans hb1 hb2⟩
/-- Its buckets are a and b. -/
theorem hasB_in {S : St} {nm : ByteArray} (h : nm ∈ bnm S) : hasB S nm = true := by
  unfold hasB
  exact decide_eq_true (idxB_in h)
theorem hasB_out {S : St} {nm : ByteArray} (h : nm ∉ bnm S) : hasB S nm = false := by
  unfold hasB
  rcases firstI_cases S.bus.length (buP S.bus nm) with ⟨h1, _⟩ | ⟨k, hk, _, h2, _⟩
  · rw [h1]; rfl
  · exfalso
    unfold buP at h2
    have e := eqS_to h2
    refine h (List.mem_map.2 ⟨_, mem_get (d := bu0) hk, e⟩)
theorem lch_0 {S : St} (hok : stC S = true) {nm pre : ByteArray} {m : Int} (hb : hasB S nm = true) (hr : rulE pre 0 0 = 0) (h1 : 1 ≤ m) (h2 : m ≤ 50) : lchE S nm pre m = 0 := by
  unfold lchE
  rw [stE_t hok, if_pos rfl, hb, if_pos rfl, if_pos hr]
  unfold inB
  rw [if_pos (decide_eq_true ⟨h1, h2⟩)]
theorem boxS_cells {w : World} {B : Nat} {S : St} {b v u q g : Value} (h : BoxS w B S b v u q g) : w.cell? ⟨B, 0, none⟩ = some (.int .i64 S.next) ∧ w.cell? ⟨B, 1, none⟩ = some (.int .i64 S.clock) ∧ w.cell? ⟨B, 2, none⟩ = some b ∧ w.cell? ⟨B, 3, none⟩ = some v ∧ w.cell? ⟨B, 4, none⟩ = some u ∧ w.cell? ⟨B, 5, none⟩ = some q ∧ w.cell? ⟨B, 6, none⟩ = some g := ⟨h.c0, h.c1, h.c2, h.c3, h.c4, h.c5, h.c6⟩
theorem bl_dr (w : World) : Below w.heap.size w w.drew := Below.drew (Below.refl _ _)
theorem sv_at {S : St} (h : stC S = true) (nm pre : ByteArray) {m : Nat} (hm : m + 1 < (sv S nm pre).length) : keyLt ((sv S nm pre).getD m ve0) ((sv S nm pre).getD (m + 1) ve0) = true := by
  have := List.pairwise_iff_getElem.1 (srt_sorted (sel_rise h nm pre)) m (m + 1) (by show m < (sv S nm pre).length; omega) hm (by omega)
  rw [getD_eq (by omega), getD_eq hm]
  exact this
end Go.Proofs.YtdgmdapijhbocaaGreat
