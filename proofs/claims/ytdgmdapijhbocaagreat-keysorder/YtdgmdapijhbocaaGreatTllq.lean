/- icehousekeep.tierTells; the clock of a state that records made. -/
import Derived.Test.YtdgmdapijhbocaaGreatTijq
import Derived.Test.YtdgmdapijhbocaaGreatKkpq
import Derived.Test.YtdgmdapijhbocaaGreatSopq
namespace Go.Proofs.YtdgmdapijhbocaaGreat
open Go.RowKit Go.Maps
set_option maxRecDepth 100000
set_option linter.unusedVariables false
set_option linter.unusedSimpArgs false
set_option maxHeartbeats 1000000 in
theorem tierTells_any (w : World) : Calls Tryz.prog 22 #[] w fun e w' => e = .returned (.bool true) ∧ Below w.heap.size w w' := by
  have HC : Hid (stE s00 = 0) := stE_t stC_s00
  have HL8 : Hid ((livS s00).length = 8) := by show _ = _; rw [livS_t stC_s00, livL_len]
  have hS : ∀ w' : World, Sta w' nl nl nl nl nl s00 := fun w' => (KS.start w' []).sta.sta (KS.start w' []).wf |> fun h => by
    exact ⟨⟨none, 0, rfl, Nat.le_refl _, Nat.zero_le _, fun i hi => absurd hi (Nat.not_lt_zero _)⟩, ⟨none, 0, rfl, Nat.le_refl _, Nat.zero_le _, fun i hi => absurd hi (Nat.not_lt_zero _)⟩, ⟨none, 0, rfl, Nat.le_refl _, Nat.zero_le _, fun i hi => absurd hi (Nat.not_lt_zero _)⟩, ⟨none, 0, rfl, Nat.le_refl _, Nat.zero_le _, fun i hi => absurd hi (Nat.not_lt_zero _)⟩, Ints.nil9 _⟩
  have HS := hide hS
  clear hS
  go_enter Tryz.func22, Tryz.ntmps22
  go_wp2_with fail
  refine (tLive_any s00 nl nl nl nl nl _ (unhide HS _)).mono ?_
  rintro e w1 ⟨o, rfl, hO, hb⟩
  rw [unhide HC]
  obtain ⟨oa, oc, rfl, _, _⟩ := (hO.ints (fun x hx => by
    rw [livS_t stC_s00] at hx
    obtain ⟨k, hk, rfl⟩ := mem_at (d := 0) hx
    rw [livL_len] at hk
    rw [livL_at _ _ hk]
    have := livK_bd stC_s00 0 (Nat.le_refl _) k
    exact i64_wf (by show _ ≤ livK s00.ves 0 k; omega) (by show livK s00.ves 0 k ≤ _; omega))).form
  rw [unhide HL8]
  clear hO
  go_wp2
  go_ret
  exact ⟨rfl, hb⟩
theorem chg_clock {S : St} {r : Rc} (h0 : chgE S r = 0) : (chgS S r).clock = S.clock ∨ (r.kind = 13 ∧ (chgS S r).clock = S.clock + r.n) := by
  by_cases k1 : r.kind = 1
  · rw [(chg_1 k1).2]; exact .inl rfl
  by_cases k2 : r.kind = 2
  · rw [(chg_2 k2).2]; exact .inl rfl
  by_cases k3 : r.kind = 3
  · rw [(chg_3 k3).2]; exact .inl rfl
  by_cases k4 : r.kind = 4
  · rw [(chg_4 k4).2]
    refine .inl ?_
    show (advD S r.ver).clock = _
    unfold advD
    split <;> rfl
  by_cases k5 : r.kind = 5
  · rw [(chg_5 k5).2]; exact .inl rfl
  by_cases k6 : r.kind = 6
  · rw [(chg_6 k6).2]; exact .inl rfl
  by_cases k7 : r.kind = 7
  · rw [(chg_7 k7).2]; exact .inl rfl
  by_cases k8 : r.kind = 8
  · rw [(chg_8 k8).2]; exact .inl rfl
  by_cases k9 : r.kind = 9
  · rw [(chg_9 k9).2]; exact .inl rfl
  by_cases k10 : r.kind = 10
  · rw [(chg_10 k10).2]; exact .inl rfl
  by_cases k11 : r.kind = 11
  · rw [(chg_11 k11).2]; exact .inl rfl
  by_cases k12 : r.kind = 12
  · rw [(chg_12 k12).2]; exact .inl rfl
  by_cases k13 : r.kind = 13
  · rw [(chg_13 k13).2]; exact .inr ⟨k13, rfl⟩
  by_cases k14 : r.kind = 14
  · rw [(chg_14 k14).2]; exact .inl rfl
  rw [chg_x k1 k2 k3 k4 k5 k6 k7 k8 k9 k10 k11 k12 k13 k14] at h0
  cases h0
theorem recR_13 {S : St} {x : Rw} (h : (recR S x).kind = 13) : (recR S x).n = pickI x.a 12 := by
  rw [recR_kind] at h
  unfold recR
  rw [if_neg (by omega), if_neg (by omega), if_neg (by omega), if_neg (by omega), if_neg (by omega), if_neg (by omega), if_neg (by omega), if_neg (by omega), if_neg (by omega), if_neg (by omega), if_neg (by omega), if_neg (by omega), if_pos (by omega)]
theorem stN_clock (l : List Rw) : ∀ k, (stN l k).clock ≤ 11 * (k : Int)
  | 0 => by show (0 : Int) ≤ 11 * ((0 : Nat) : Int); decide
  | k + 1 => by
    have ih := stN_clock l k
    rw [stN]
    by_cases h0 : appE (stN l k) (recR (stN l k) (rwAt l k)) = 0
    · rw [stp_yes h0]
      obtain ⟨_, h1, _, h2⟩ := app_ok h0
      rw [h2]
      rcases chg_clock h1 with e | ⟨e1, e2⟩
      · rw [e]; push_cast; omega
      · rw [e2, recR_13 e1]
        have := pickI_hi (rwAt l k).a (m := 12) (by decide)
        push_cast; omega
    · rw [stp_no h0]; push_cast; omega
theorem staL_clock (l : List Rw) {most : Nat} (h : most ≤ 40) : (staL l most).clock ≤ 462 := by
  have := stN_clock l (rnd l most)
  have h2 : rnd l most ≤ 42 := by unfold rnd; omega
  unfold staL
  omega
end Go.Proofs.YtdgmdapijhbocaaGreat
