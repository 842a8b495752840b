/- icehouselaw.sameLists and sameDevices: true of two things that read alike. -/
import Derived.Test.YtjahaccplchmnaaStr
namespace Go.Proofs.Ytjahaccplchmnaa
open Go.RowKit
set_option linter.unusedVariables false
set_option linter.unusedSimpArgs false

set_option maxHeartbeats 1000000 in
theorem sameLists_true (v v' : Value) (xs : List (List Int)) (w : World) (h : RowsAt w v xs) (h' : RowsAt w v' xs) :
    Calls Try.prog 27 #[v, v'] w fun e w' => e = .returned (.bool true) ∧ Below w.heap.size w w' := by
  obtain ⟨a1, cap1, rfl, l1, m1, hs⟩ := h
  obtain ⟨a2, cap2, rfl, l2, m2, hs'⟩ := h'
  unfold maxLen at m1 m2
  have H1 := hide hs
  have H2 := hide hs'
  clear hs hs'
  go_enter Try.func27, Try.ntmps27
  go_wp2
  go_loopw [5] (fun i wr => ∃ k : Nat, k ≤ xs.length ∧ i = .int .i64 k ∧ Below w.heap.size w wr) (fun i _ => xs.length - (intOf i).toNat)
  case atStart => exact ⟨0, Nat.zero_le _, rfl, Below.refl _ _⟩
  case round =>
    obtain ⟨k, hk, rfl, hb⟩ := hrel
    by_cases hlt : k < xs.length
    · obtain ⟨b, o, rfl, u, hu, hbu⟩ := unhide H1 k hlt
      obtain ⟨b', o', rfl, u', hu', hbu'⟩ := unhide H2 k hlt
      replace hu := cell_up hb hu
      replace hu' := cell_up hb hu'
      have s1 := fun d : Later wr => ((hbu.up hb).up d.below).str
      have s2 := fun d : Later wr => ((hbu'.up hb).up d.below).str
      obtain ⟨S, hS⟩ : ∃ S, strOfNums (xs.getD k []) = S := ⟨_, rfl⟩
      rw [hS] at s1 s2
      clear hS
      obtain ⟨y, cp, rfl, lx, mx, _⟩ := hbu
      obtain ⟨y', cp', rfl, lx', mx', _⟩ := hbu'
      obtain ⟨L, hL⟩ : ∃ L : Nat, (xs.getD k []).length = L := ⟨_, rfl⟩
      rw [hL] at hu hu' s1 s2
      clear hL lx lx' mx mx'
      have hne := Later.one wr
      have q1 := fun d : Later wr => d.cell hu
      have q2 := fun d : Later wr => d.cell hu'
      go_wp2
      refine wp_region_later (by kernel_rfl) (by kernel_rfl) ?_
      repeat (go_big_quiet_step (fail))
      refine wpQuiet_nil ?_
      intro w1 hw'
      obtain ⟨⟨w2, hb2⟩, hw''⟩ := hw'
      subst hw''
      clear hne q1 q2 s1 s2
      go_wp2
      go_roundw
      case rel => exact ⟨k + 1, by omega, by go_num, bl_trans hb hb2⟩
      case measure => simp [intOf]; omega
    · go_wp2
      go_ret
      exact ⟨rfl, hb⟩
end Go.Proofs.Ytjahaccplchmnaa
