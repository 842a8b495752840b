/- state.nullsMayBe: the walk. -/
import Derived.Test.YtdalkkjojflakaaNul
import Derived.Deep.DeepCutAuto
import Derived.Deep.RegionHeldLaw
namespace Go.Proofs.Ytdalkkjojflakaa
open Go.RowKit Go.Maps
set_option maxRecDepth 100000
set_option linter.unusedVariables false
set_option linter.unusedSimpArgs false
set_option maxHeartbeats 1000000 in
theorem nullsMayBe_1 (X : Ve) (ua : Option Addr) (un uc K M n : Nat) (f : ByteArray → ByteArray → Nat) (w : World) (hC : OwC w M n f) (hn : n < 1000) (hK : w.cell? ⟨K, 0, none⟩ = some (.map (some M))) (hb : X.bu.size ≤ maxLen) (hk : X.ke.size ≤ maxLen) (hX : X.nul = true) :
    Calls Try.prog 121 #[veV X (.slice ua un uc), .pointer (some ⟨K, 0, none⟩)] w fun e w' => e = .returned (.bool (((f X.bu X.ke : Int) + 1) == 1)) ∧ w.grownBy w' (some M) ∧ OwC w' M (n + 1) (fun b' k' => if b' = X.bu ∧ k' = X.ke then f X.bu X.ke + 1 else f b' k') := by
  obtain ⟨c, hc⟩ : ∃ c : Nat, f X.bu X.ke = c := ⟨_, rfl⟩
  rw [hc]
  have HC := hide hc
  clear hc
  have hKl := World.block_lt_of_cell? w _ hK
  simp at hKl
  go_enter Try.func121, Try.ntmps121
  go_upto_region 4 with fail
  rw [show (X.nul : Bool) = true from hX] at *
  obtain ⟨W0, hW0⟩ : ∃ W0, (w.alloc (.cells #[.int .i64 X.id, .string X.bu, .string X.ke, .bool true, .bool X.mar, .int .i64 X.size, .int .i64 X.time, .int .i64 X.tier, .slice ua un uc, .int .i64 X.vol, .int .i64 X.pos, .int .i64 X.til] 83)).alloc (.cells #[.string X.bu, .string X.ke] 144) = W0 := ⟨_, rfl⟩
  have hb0 : Below w.heap.size w W0 := by rw [← hW0]; exact bl_alloc (bl1 _ _) _
  have hK0 := scell_up hb0 hK
  have k0 : W0.cell? ⟨w.heap.size + 1, 0, none⟩ = some (.string X.bu) := by rw [← hW0, World.cell?_alloc_at _ _ _ _ (by simp)]; rfl
  have k1 : W0.cell? ⟨w.heap.size + 1, 1, none⟩ = some (.string X.ke) := by rw [← hW0, World.cell?_alloc_at _ _ _ _ (by simp)]; rfl
  rw [hW0]
  obtain ⟨s, hs⟩ : ∃ s, w.heap.size + 1 = s := ⟨_, rfl⟩
  rw [hs] at k0 k1 ⊢
  clear hW0 hs
  have hC0 : OwC W0.drew M n f := hC.up (hb0.drew)
  have hlk := hC0.look hb hk
  obtain ⟨st, w1, w2, e1, e2, e3, o1, g1, o2, g2⟩ := hC0.tick (by omega) hb hk
  have hc := unhide HC
  have hcn : c ≤ n := by obtain ⟨_, _, _, _, h4⟩ := hC; rw [← hc]; exact h4 _ _
  have hkp : Keeps W0.drew w2 := Keeps.map hC0.mapAt g2
  have hk2 := hkp ⟨K, 0, none⟩ _ hK0
  have k02 := hkp ⟨s, 0, none⟩ _ k0
  have k12 := hkp ⟨s, 1, none⟩ _ k1
  have hlk2 := o2.look hb hk
  simp only [and_self, if_true] at hlk2
  rw [hc] at hlk e1 e2 e3 o2 hlk2
  clear hc
  have HG : Hid (w.grownBy w2 (some M)) := gb_trans (gb_below hb0.drew) g2
  have HO := hide o2
  clear hC hC0 o1 o2 g1 g2 hkp hK hb0 hX
  have hc0 : (0 : Int) ≤ (c : Int) := Int.natCast_nonneg _
  have hc1 : (c : Int) ≤ 1000000000 := by omega
  go_region
  all_goals
    go_wp2
    go_ret
    exact ⟨rfl, unhide HG, unhide HO⟩
end Go.Proofs.Ytdalkkjojflakaa
