/- icehouselaw.sameDevices: true of two devices that read alike. -/
import Derived.Test.YtjahaccplchmnaaSame
namespace Go.Proofs.Ytjahaccplchmnaa
open Go.RowKit
set_option linter.unusedVariables false
set_option linter.unusedSimpArgs false

set_option maxHeartbeats 2000000 in
theorem sameDevices_true (s c v s' c' v' : Value) (D : Dv) (w : World) (hD : Dev w s c v D) (hD' : Dev w s' c' v' D) :
    Calls Try.prog 19 #[.agg #[s, c, v, .int .i64 D.fuel], .agg #[s', c', v', .int .i64 D.fuel]] w fun e w' => e = .returned (.bool true) ∧ Below w.heap.size w w' := by
  obtain ⟨r1, ⟨a2, cap2, rfl, l2, m2, hc⟩, ⟨a3, cap3, rfl, l3, m3, hv⟩⟩ := hD
  obtain ⟨r1', ⟨a2', cap2', rfl, l2', m2', hc'⟩, ⟨a3', cap3', rfl, l3', m3', hv'⟩⟩ := hD'
  have R1 := hide r1
  have R2 := hide r1'
  obtain ⟨a1, cap1, rfl, l1, m1, _⟩ := r1
  obtain ⟨a1', cap1', rfl, l1', m1', _⟩ := r1'
  unfold maxLen at m1 m2 m3 m1' m2' m3'
  have HC := hide hc
  have HV := hide hv
  have HC' := hide hc'
  have HV' := hide hv'
  clear hc hv hc' hv'
  go_enter Try.func19, Try.ntmps19
  go_wp2_with fail
  refine (sameLists_true _ _ D.safe _ ((unhide R1).up (bl2 _ _ _)) ((unhide R2).up (bl2 _ _ _))).mono ?_
  rintro e w1 ⟨rfl, hb1⟩
  have hb0 : Below w.heap.size w w1 := bl_trans (bl2 _ _ _) hb1
  have f1 := box2a hb1 1 rfl
  have f2 := box2a hb1 2 rfl
  have g1 := box2b hb1 1 rfl
  have g2 := box2b hb1 2 rfl
  clear hb1 R1 R2
  go_wp2
  go_loopw [5] (fun i wr => ∃ k : Nat, k ≤ D.cache.length ∧ i = .int .i64 k ∧ Below w1.heap.size w1 wr) (fun i _ => D.cache.length - (intOf i).toNat)
  case atStart => exact ⟨0, Nat.zero_le _, rfl, Below.refl _ _⟩
  case round =>
    obtain ⟨k, hk, rfl, hbr⟩ := hrel
    have hb := bl_trans hb0 hbr
    replace f1 := cell_up hbr f1
    replace f2 := cell_up hbr f2
    replace g1 := cell_up hbr g1
    replace g2 := cell_up hbr g2
    by_cases hlt : k < D.cache.length
    · obtain ⟨b, o, rfl, hp, u, hu, hbu⟩ := unhide HC k hlt
      obtain ⟨b', o', rfl, hp', u', hu', hbu'⟩ := unhide HC' k hlt
      replace hu := cell_up hb hu
      replace hu' := cell_up hb hu'
      replace hp := cell_up hb hp
      replace hp' := cell_up hb hp'
      have s1 := fun d : Later wr => ((hbu.up hb).up d.below).str
      have s2 := fun d : Later wr => ((hbu'.up hb).up d.below).str
      obtain ⟨S, hS⟩ : ∃ S, strOfNums (D.cache.getD k ⟨0, []⟩).data = S := ⟨_, rfl⟩
      obtain ⟨X, hX⟩ : ∃ X, (D.cache.getD k ⟨0, []⟩).pos = X := ⟨_, rfl⟩
      rw [hS] at s1 s2
      rw [hX] at hp hp'
      clear hS hX
      obtain ⟨y, cp, rfl, lx, mx, _⟩ := hbu
      obtain ⟨y', cp', rfl, lx', mx', _⟩ := hbu'
      obtain ⟨L, hL⟩ : ∃ L : Nat, (D.cache.getD k ⟨0, []⟩).data.length = L := ⟨_, rfl⟩
      rw [hL] at hu hu' s1 s2
      clear hL lx lx' mx mx'
      have hne := Later.one wr
      have q1 := fun d : Later wr => d.cell hu
      have q2 := fun d : Later wr => d.cell hu'
      have q3 := fun d : Later wr => d.cell hp
      have q4 := fun d : Later wr => d.cell hp'
      have q5 := fun d : Later wr => d.cell f1
      have q6 := fun d : Later wr => d.cell g1
      go_wp2
      refine wp_region_later (by kernel_rfl) (by kernel_rfl) ?_
      repeat (go_big_quiet_step (fail))
      refine wpQuiet_nil ?_
      intro w2 hw'
      obtain ⟨⟨w3, hb2⟩, hw''⟩ := hw'
      subst hw''
      clear hne q1 q2 q3 q4 q5 q6 s1 s2
      go_wp2
      go_roundw
      case rel => exact ⟨k + 1, by omega, by go_num, bl_trans hbr hb2⟩
      case measure => simp [intOf]; omega
    go_wp2
    go_loopw [6] (fun i wx => ∃ k : Nat, k ≤ D.vols.length ∧ i = .int .i64 k ∧ Below wr.heap.size wr wx) (fun i _ => D.vols.length - (intOf i).toNat)
    case atStart => exact ⟨0, Nat.zero_le _, rfl, Below.refl _ _⟩
    case round =>
      obtain ⟨k, hk, rfl, hbx⟩ := hrel
      replace hb := bl_trans hb hbx
      replace f2 := cell_up hbx f2
      replace g2 := cell_up hbx g2
      clear f1 g1
      by_cases hlt : k < D.vols.length
      · obtain ⟨b, o, rfl, ⟨u, hu, hbu⟩, hp, hq⟩ := unhide HV k hlt
        obtain ⟨b', o', rfl, ⟨u', hu', hbu'⟩, hp', hq'⟩ := unhide HV' k hlt
        replace hu := cell_up hb hu
        replace hu' := cell_up hb hu'
        replace hp := cell_up hb hp
        replace hp' := cell_up hb hp'
        replace hq := cell_up hb hq
        replace hq' := cell_up hb hq'
        have s1 := fun d : Later wr => ((hbu.up hb).up d.below).str
        have s2 := fun d : Later wr => ((hbu'.up hb).up d.below).str
        obtain ⟨S, hS⟩ : ∃ S, strOfNums (D.vols.getD k ⟨[], 0, false⟩).data = S := ⟨_, rfl⟩
        obtain ⟨X, hX⟩ : ∃ X, (D.vols.getD k ⟨[], 0, false⟩).synced = X := ⟨_, rfl⟩
        obtain ⟨G, hG⟩ : ∃ G, (D.vols.getD k ⟨[], 0, false⟩).gone = G := ⟨_, rfl⟩
        rw [hS] at s1 s2
        rw [hX] at hp hp'
        rw [hG] at hq hq'
        clear hS hX hG
        obtain ⟨y, cp, rfl, lx, mx, _⟩ := hbu
        obtain ⟨y', cp', rfl, lx', mx', _⟩ := hbu'
        obtain ⟨L, hL⟩ : ∃ L : Nat, (D.vols.getD k ⟨[], 0, false⟩).data.length = L := ⟨_, rfl⟩
        rw [hL] at hu hu' s1 s2
        clear hL lx lx' mx mx'
        have hne := Later.one wr
        have q1 := fun d : Later wr => d.cell hu
        have q2 := fun d : Later wr => d.cell hu'
        have q3 := fun d : Later wr => d.cell hp
        have q4 := fun d : Later wr => d.cell hp'
        have q5 := fun d : Later wr => d.cell f2
        have q6 := fun d : Later wr => d.cell g2
        have q7 := fun d : Later wr => d.cell hq
        have q8 := fun d : Later wr => d.cell hq'
        go_wp2
        refine wp_region_later (by kernel_rfl) (by kernel_rfl) ?_
        repeat (go_big_quiet_step (fail))
        refine wpQuiet_nil ?_
        intro w2 hw'
        obtain ⟨⟨w3, hb2⟩, hw''⟩ := hw'
        subst hw''
        clear hne q1 q2 q3 q4 q5 q6 q7 q8 s1 s2
        go_wp2
        go_roundw
        case rel => exact ⟨k + 1, by omega, by go_num, bl_trans hbx hb2⟩
        case measure => simp [intOf]; omega
      · go_wp2
        go_ret
        exact ⟨rfl, hb⟩
theorem sameDevices_f (s c v s' c' v' : Value) (D : Dv) (F : Int) (w : World) (hD : Dev w s c v D) (hD' : Dev w s' c' v' D) :
    Calls Try.prog 19 #[.agg #[s, c, v, .int .i64 F], .agg #[s', c', v', .int .i64 F]] w fun e w' => e = .returned (.bool true) ∧ Below w.heap.size w w' :=
  sameDevices_true s c v s' c' v' ⟨D.safe, D.cache, D.vols, F⟩ w hD hD'
end Go.Proofs.Ytjahaccplchmnaa
