/- icehouseref.ReadOf. -/
import Derived.Test.YtbdpmigebnahkaaRea
import Derived.Deep.RegionHeld3
namespace Go.Proofs.Ytbdpmigebnahkaa
open Go.RowKit
set_option linter.unusedVariables false
set_option linter.unusedSimpArgs false

set_option maxHeartbeats 2000000 in
set_option maxRecDepth 100000 in
theorem readOf_any (r a h vm nv : Int) (s c v : Value) (D : Dv) (lv : Value) (l : List Int) (n : Int) (w : World) (hD : Dev w s c v D) (hv : Nts w lv l) :
    Calls Try.prog 20 #[.agg #[.int .i64 r, .int .i64 a, .int .i64 h, .int .i64 vm, .int .i64 nv], .agg #[s, c, v, .int .i64 D.fuel], lv, .int .i64 n] w fun e w' =>
      ∃ u, e = .returned (.tuple #[u, .int .i64 (romE h l n (chkE r a h vm nv D))]) ∧ Bts w' u (okL (romE h l n (chkE r a h vm nv D)) (reaL r a D l n)) ∧ Below w.heap.size w w' := by
  have HD := hide hD
  have HV := hide hv
  clear hD
  obtain ⟨la, lc, rfl, ll, lm, hlc⟩ := hv
  have HLC := hide hlc
  clear hlc
  unfold maxLen at lm
  go_enter Try.func20, Try.ntmps20
  go_wp2_with fail
  refine (devFault_any r a h vm nv _ _ _ D _ ((unhide HD).up (bl2 _ _ _))).mono ?_
  rintro e w1 ⟨rfl, hb1⟩
  have hb0 : Below w.heap.size w w1 := bl_trans (bl2 _ _ _) hb1
  have g0 := box2a hb1 0 rfl
  have g1 := box2a hb1 1 rfl
  have g2 := box2a hb1 2 rfl
  have g3 := box2a hb1 3 rfl
  have g4 := box2a hb1 4 rfl
  have f0 := box2b hb1 0 rfl
  have f1 := box2b hb1 1 rfl
  have f2 := box2b hb1 2 rfl
  have f3 := box2b hb1 3 rfl
  clear hb1
  obtain ⟨E, hE⟩ : ∃ E, chkE r a h vm nv D = E := ⟨_, rfl⟩
  rw [hE]
  by_cases hE0 : E = 0
  case neg =>
    have t1 : (E != 0) = true := by simpa using hE0
    have t2 : (E == 0) = false := by simpa using hE0
    have HE0 := hide hE0
    have HE : Hid (E = romE h l n (chkE r a h vm nv D)) := by rw [hE]; exact (romE_bad hE0).symm
    clear hE hE0
    go_wp2
    go_ret2
    exact ⟨_, ret_pair (unhide HE), by rw [← unhide HE, okLn (unhide HE0)]; exact Bts.nil _, hb0⟩
  subst hE0
  have hch := hE
  obtain ⟨hg, hd⟩ := chk_of hch
  have hgb := geoB_bd hg
  cases hrm : romB h l n
  case false =>
    have HE : Hid (2 = romE h l n (chkE r a h vm nv D)) := by rw [hE]; exact (romE_f hrm).symm
    clear hE
    go_wp2_with (go_at_call 44; refine (roomMay_any r a h vm nv _ l n _ ((unhide HV).up hb0) (by omega) (by omega)).mono ?_; rintro e w2 ⟨rfl, hb2⟩; rw [hrm])
    go_ret2
    exact ⟨_, ret_pair (unhide HE), by rw [← unhide HE]; exact Bts.nil _, bl_trans hb0 hb2⟩
  replace hE : romE h l n (chkE r a h vm nv D) = 0 := by rw [hE]; exact romE_t hrm
  obtain ⟨⟨hn0, hn1⟩, hlen, hin⟩ := romB_all hrm
  obtain ⟨N, rfl⟩ := Int.eq_ofNat_of_zero_le hn0
  have HRM := hide hrm
  clear hrm
  have hsf := (devB_all hd).1
  have h64 : ∀ i, i < l.length → (getL D (2 + r + 2 * a + l.getD i 0)).length = 64 := fun i hi => by
    have := hin i hi
    exact seen_length hd (by omega) (Nat.le_refl _)
  have hat : ∀ i, i < l.length → atE D (2 + r + 2 * a + l.getD i 0) (chkE r a h vm nv D) = 0 := fun i hi => by
    have := hin i hi
    rw [hch]
    refine atE_t ?_
    generalize l.getD i 0 = z at this
    simp [inB]; omega
  have hsec : ∀ i, i < l.length → 64 * i < N := fun i hi => by rw [secH_chunk hn0] at hlen; omega
  have hll : l.length ≤ 10 := by rw [secH_chunk hn0] at hlen; omega
  have hfull : N ≤ 64 * l.length := by rw [secH_chunk hn0] at hlen; omega
  have H64 := hide h64
  have HAT := hide hat
  have HIN := hide hin
  have HSEC := hide hsec
  have HLEN := hide (fun k => reaK_len (k := k) h64)
  have HFULL := hide hfull
  have HE00 := hide hE
  clear h64 hat hin hsec hE hch hg hd hlen hsf hfull
  have KS : Hid (∀ w', Below w1.heap.size w1 w' → w'.cell? ⟨w.heap.size, 0, none⟩ = some (.int .i64 r) ∧ w'.cell? ⟨w.heap.size, 1, none⟩ = some (.int .i64 a) ∧ w'.cell? ⟨w.heap.size, 2, none⟩ = some (.int .i64 h) ∧ w'.cell? ⟨w.heap.size, 3, none⟩ = some (.int .i64 vm) ∧ w'.cell? ⟨w.heap.size, 4, none⟩ = some (.int .i64 nv) ∧ w'.cell? ⟨w.heap.size + 1, 0, none⟩ = some s ∧ w'.cell? ⟨w.heap.size + 1, 1, none⟩ = some c ∧ w'.cell? ⟨w.heap.size + 1, 2, none⟩ = some v ∧ w'.cell? ⟨w.heap.size + 1, 3, none⟩ = some (.int .i64 D.fuel)) :=
    fun w' hb => ⟨cell_up hb g0, cell_up hb g1, cell_up hb g2, cell_up hb g3, cell_up hb g4, cell_up hb f0, cell_up hb f1, cell_up hb f2, cell_up hb f3⟩
  have hlt1 : w.heap.size + 1 < w1.heap.size := World.block_lt_of_cell? w1 _ f0
  clear g0 g1 g2 g3 g4 f0 f1 f2 f3
  obtain ⟨g0, g1, g2, g3, g4, f0, f1, f2, f3⟩ := unhide KS _ (Below.refl _ _)
  go_wp2_with (go_at_call 44; refine (roomMay_any r a h vm nv _ l N _ ((unhide HV).up hb0) (by omega) (by omega)).mono ?_; rintro e w2 ⟨rfl, hb2⟩; rw [unhide HRM])
  clear g0 g1 g2 g3 g4 f0 f1 f2 f3
  go_loopw [11, 12, 13, 14] (fun u i _ _ wr => ∃ k : Nat, k ≤ l.length ∧ i = .int .i64 k ∧ Own wr w1.heap.size u (reaK r a D l k) ∧ Below w1.heap.size w1 wr) (fun _ i _ _ _ => l.length - (intOf i).toNat)
  case atStart => exact ⟨0, Nat.zero_le _, rfl, by rw [reaK_0]; exact own0 _ _, hb2⟩
  case round =>
    obtain ⟨k, hk, rfl, hown, hbr⟩ := hrel
    have HOWN := hide hown
    obtain ⟨ua, uc, rfl, ul, um⟩ := own_form hown
    unfold maxLen at um
    have hkl := unhide HLEN k hk
    clear hown
    by_cases hlt : k < l.length
    · obtain ⟨b, o, rfl, hcell⟩ := unhide HLC k hlt
      replace hcell := cell_up (bl_trans hb0 hbr) hcell
      obtain ⟨z, hz⟩ : ∃ z, l.getD k 0 = z := ⟨_, rfl⟩
      have hzb := unhide HIN k hlt
      have h64 := unhide H64 k hlt
      have hat := unhide HAT k hlt
      have hnx := reaK_next (r := r) (a := a) (D := D) hlt
      rw [hz] at hcell hzb h64 hat hnx
      have HH64 := hide h64
      have HHAT := hide hat
      have HNX := hide hnx
      have HKL := hide hkl
      clear hz h64 hat hnx hkl
      obtain ⟨g0, g1, g2, g3, g4, f0, f1, f2, f3⟩ := unhide KS _ hbr
      go_wp2
      have HWR : Hid (IntKind.i64.wrap (IntKind.i64.wrap (IntKind.i64.wrap (IntKind.i64.wrap (2 + r) + a) + a) + z) = 2 + r + 2 * a + z) := by show _ = _; simp only [IntKind.wrap_i64]; omega
      have HWS : Hid (2 + r + a + a + z = 2 + r + 2 * a + z) := by show _ = _; omega
      have KZ : Hid (∀ w', Below wr.heap.size wr w' → w'.cell? ⟨w.heap.size, 0, none⟩ = some (.int .i64 r) ∧ w'.cell? ⟨w.heap.size, 1, none⟩ = some (.int .i64 a) ∧ w'.cell? ⟨w.heap.size, 2, none⟩ = some (.int .i64 h) ∧ w'.cell? ⟨w.heap.size, 3, none⟩ = some (.int .i64 vm) ∧ w'.cell? ⟨w.heap.size, 4, none⟩ = some (.int .i64 nv) ∧ w'.cell? ⟨w.heap.size + 1, 0, none⟩ = some s ∧ w'.cell? ⟨w.heap.size + 1, 1, none⟩ = some c ∧ w'.cell? ⟨w.heap.size + 1, 2, none⟩ = some v ∧ w'.cell? ⟨w.heap.size + 1, 3, none⟩ = some (.int .i64 D.fuel) ∧ w'.cell? ⟨b, o + k, none⟩ = some (.int .i64 z)) := fun w' hb => by obtain ⟨a0, a1, a2, a3, a4, a5, a6, a7, a8⟩ := unhide KS _ (bl_trans hbr hb); exact ⟨a0, a1, a2, a3, a4, a5, a6, a7, a8, cell_up hb hcell⟩
      go_cut [13, 14] (fun u _ wc => Bts wc u (getL D (2 + r + 2 * a + z)) ∧ Below wr.heap.size wr wc)
      case first =>
        go_region_held3 (fun w' => w'.cell? ⟨w.heap.size, 0, none⟩ = some (.int .i64 r) ∧ w'.cell? ⟨w.heap.size, 1, none⟩ = some (.int .i64 a) ∧ w'.cell? ⟨w.heap.size, 2, none⟩ = some (.int .i64 h) ∧ w'.cell? ⟨w.heap.size, 3, none⟩ = some (.int .i64 vm) ∧ w'.cell? ⟨w.heap.size, 4, none⟩ = some (.int .i64 nv) ∧ w'.cell? ⟨w.heap.size + 1, 0, none⟩ = some s ∧ w'.cell? ⟨w.heap.size + 1, 1, none⟩ = some c ∧ w'.cell? ⟨w.heap.size + 1, 2, none⟩ = some v ∧ w'.cell? ⟨w.heap.size + 1, 3, none⟩ = some (.int .i64 D.fuel) ∧ w'.cell? ⟨b, o + k, none⟩ = some (.int .i64 z))
          (exact unhide KZ _ (by repeat (first | exact Below.refl _ _ | exact b3' | apply Below.drew)))
          (first
            | (go_at_call 49; (try rw [unhide HWR]); (try rw [unhide HWS]); refine (getOf_any r a h vm nv s c v D _ _ (((unhide HD).up (bl_trans hb0 hbr)).up (by repeat (first | exact Below.refl _ _ | apply Below.drew)))).mono ?_; rintro e w3 ⟨u3, rfl, hB3, b3⟩; rw [unhide HHAT] at hB3; have b3' : Below wr.heap.size wr w3 := Below.trans (by repeat (first | exact Below.refl _ _ | apply Below.drew)) b3))
        all_goals
          go_wp2
          go_meet
          case rel => exact ⟨hB3, b3'⟩
      case rest =>
        obtain ⟨hB3, hbc⟩ := hcut
        have HB3 := hide hB3
        obtain ⟨ya, yc, rfl, yl, ym, hyc⟩ := hB3
        clear hyc
        go_wp2_with fail
        refine (joined_any _ [reaK r a D l k, getL D (2 + r + 2 * a + z)] _ (RowsAt.two ((unhide HOWN).bts.up hbc) (unhide HB3)) (by simp [unhide HKL, unhide HH64]; omega)).mono ?_
        rintro e w5 ⟨u5, rfl, h5, b5⟩
        have hb5 : Below w1.heap.size w1 w5 := bl_trans (bl_trans (bl_trans hbr hbc) (bl1 _ _)) b5
        have H5 : Hid (Own w5 w1.heap.size u5 (reaK r a D l (k + 1))) := by
          show Own _ _ _ _
          rw [unhide HNX]
          have h5' := Own.base (B' := w1.heap.size) h5 (by have := (bl_trans hbr hbc).size; simp; omega)
          simpa using h5'
        clear h5
        go_wp2
        go_roundw
        case rel => exact ⟨k + 1, by omega, by go_num, unhide H5, hb5⟩
        case measure => (simp [intOf] <;> omega)
    · obtain rfl : k = l.length := by omega
      have HE : Hid (romE h l (N : Int) (chkE r a h vm nv D) = 0) := HE00
      have hNk := unhide HFULL
      rw [hkl] at ul ⊢
      have HBT : Hid (Bts wr (.slice ua N uc) (reaL r a D l (N : Int))) := by
        have := (unhide HOWN).bts
        rw [hkl] at this
        have := this.pre hNk
        unfold reaL
        rw [Int.toNat_natCast]
        exact this
      have HKL := hide hkl
      clear hkl
      go_wp2
      go_ret2
      exact ⟨_, ret_pair (unhide HE).symm, by rw [unhide HE, okL0]; exact unhide HBT, bl_trans hb0 hbr⟩
end Go.Proofs.Ytbdpmigebnahkaa
