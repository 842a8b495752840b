/- hot.Read. -/
import Derived.Test.YtbdpmigebnahkaaRoo
import Derived.Test.YtbdpmigebnahkaaGet3
import Derived.Deep.DeepCutAuto
namespace Go.Proofs.Ytbdpmigebnahkaa
open Go.RowKit
set_option linter.unusedVariables false
set_option linter.unusedSimpArgs false

theorem diskSector_any (r a h vm nv n : Int) (w : World) (hr : 0 ≤ r ∧ r ≤ 1000) (ha : 0 ≤ a ∧ a ≤ 1000) (hn : 0 ≤ n ∧ n ≤ 1000) :
    Calls Try.prog 40 #[.agg #[.int .i64 r, .int .i64 a, .int .i64 h, .int .i64 vm, .int .i64 nv], .int .i64 n] w fun e w' => e = .returned (.int .i64 (2 + r + 2 * a + n)) ∧ Below w.heap.size w w' := by
  go_enter Try.func40, Try.ntmps40
  go_wp2
  go_ret
  exact ⟨rfl, bl1 _ _⟩

/-- What stands in the first k sectors of a list. -/
def reaK (r a : Int) (D : Dv) (l : List Int) (k : Nat) : List Int := ((l.take k).map fun x => getL D (2 + r + 2 * a + x)).flatten
theorem reaK_0 (r a : Int) (D : Dv) (l : List Int) : reaK r a D l 0 = [] := by simp [reaK]
theorem reaK_next {r a : Int} {D : Dv} {l : List Int} {k : Nat} (hk : k < l.length) : reaK r a D l (k + 1) = reaK r a D l k ++ getL D (2 + r + 2 * a + l.getD k 0) := by
  unfold reaK
  rw [List.take_add_one, List.map_append, List.flatten_append, List.getElem?_eq_getElem hk]
  simp [List.getD, List.getElem?_eq_getElem hk]
theorem reaK_len {r a : Int} {D : Dv} {l : List Int} (h : ∀ i, i < l.length → (getL D (2 + r + 2 * a + l.getD i 0)).length = 64) : ∀ {k : Nat}, k ≤ l.length → (reaK r a D l k).length = 64 * k := by
  intro k
  induction k with
  | zero => intro _; simp [reaK_0]
  | succ k ih => intro hk; rw [reaK_next (by omega), List.length_append, ih (by omega), h k (by omega)]; omega
theorem splice_rea {F G : List Int} {N q : Nat} (hF : F.length = q) (hG : G.length = 64) (hq : q ≤ N) : splice (u8s (pad N F)) q (u8s (G.take (N - q))) = u8s (pad N (F ++ G)) := by
  have e1 : pad N F = F ++ List.replicate (N - q) 0 := by unfold pad; rw [List.take_of_length_le (by omega), hF]
  have e2 : pad N (F ++ G) = F ++ (G.take (N - q) ++ List.replicate (N - (q + 64)) 0) := by
    unfold pad
    rw [List.take_append, List.take_of_length_le (l := F) (by omega), hF, List.length_append, hF, hG, List.append_assoc]
  have e3 : u8s (F ++ List.replicate (N - q) 0) = u8s F ++ List.replicate (N - q) (.int .u8 0) := by simp [u8s]
  rw [e1, e2, e3]
  unfold splice
  have hl : (u8s F).length = q := by rw [u8s_length]; exact hF
  rw [List.take_append, List.take_of_length_le (by omega), hl, Nat.sub_self, List.take_zero, List.append_nil]
  rw [List.drop_append, List.drop_of_length_le (by rw [hl]; omega), List.nil_append, hl, List.drop_replicate]
  have e4 : N - q - (q + (u8s (G.take (N - q))).length - q) = N - (q + 64) := by rw [u8s_length, List.length_take, hG]; omega
  rw [e4]
  simp [u8s]

theorem romB_all {h : Int} {l : List Int} {n : Int} (x : romB h l n = true) : (0 ≤ n ∧ n ≤ 600) ∧ (l.length : Int) = secH n ∧ ∀ i, i < l.length → 0 ≤ l.getD i 0 ∧ l.getD i 0 < h := by
  unfold romB at x
  rw [Bool.and_eq_true, Bool.and_eq_true] at x
  refine ⟨inB_t x.1.1, by simpa using x.1.2, fun i hi => ?_⟩
  have := x.2
  unfold allB at this
  rw [List.all_eq_true] at this
  have := this i (List.mem_range.2 hi)
  unfold romQ at this
  rw [Bool.and_eq_true] at this
  have := inB_t this.1
  omega
def reaL (r a : Int) (D : Dv) (l : List Int) (n : Int) : List Int := (reaK r a D l l.length).take n.toNat

set_option maxHeartbeats 2000000 in
set_option maxRecDepth 100000 in
theorem read_any (r a h vm nv : Int) (s c v : Value) (D : Dv) (lv : Value) (l : List Int) (n : Int) (w : World) (hD : Dev w s c v D) (hv : Nts w lv l) :
    Calls Try.prog 19 #[.agg #[.int .i64 r, .int .i64 a, .int .i64 h, .int .i64 vm, .int .i64 nv], .agg #[s, c, v, .int .i64 D.fuel], lv, .int .i64 n] w fun e w' =>
      ∃ u, e = .returned (.tuple #[u, .int .i64 (romE h l n (chkE r a h vm nv D))]) ∧ Bts w' u (okL (romE h l n (chkE r a h vm nv D)) (reaL r a D l n)) ∧ Below w.heap.size w w' := by
  have HD := hide hD
  have HV := hide hv
  clear hD
  obtain ⟨la, lc, rfl, ll, lm, hlc⟩ := hv
  have HLC := hide hlc
  clear hlc
  unfold maxLen at lm
  go_enter Try.func19, Try.ntmps19
  go_wp2_with fail
  refine (hotCheck_any r a h vm nv _ _ _ D _ l n _ ((unhide HD).up (bl2 _ _ _)) ((unhide HV).up (bl2 _ _ _))).mono ?_
  rintro e w1 ⟨rfl, hb1⟩
  have hb0 : Below w.heap.size w w1 := bl_trans (bl2 _ _ _) hb1
  have g0 := box2a hb1 0 rfl
  have g1 := box2a hb1 1 rfl
  have g2 := box2a hb1 2 rfl
  have g3 := box2a hb1 3 rfl
  have g4 := box2a hb1 4 rfl
  have f0 := box2b hb1 0 rfl
  have f1 := box2b hb1 1 rfl
  have f2 := box2b hb1 2 rfl
  have f3 := box2b hb1 3 rfl
  clear hb1
  obtain ⟨E, hE⟩ : ∃ E, romE h l n (chkE r a h vm nv D) = E := ⟨_, rfl⟩
  rw [hE]
  by_cases hE0 : E = 0
  case neg =>
    have t1 : (E != 0) = true := by simpa using hE0
    have HE0 := hide hE0
    have HE := hide hE.symm
    clear hE hE0
    go_wp2
    go_ret2
    exact ⟨_, ret_pair (unhide HE), by rw [← unhide HE, okLn (unhide HE0)]; exact Bts.nil _, hb0⟩
  subst hE0
  have hch : chkE r a h vm nv D = 0 := by
    unfold romE at hE
    split at hE
    · assumption
    · omega
  have hrm : romB h l n = true := by
    rw [hch] at hE
    cases hq : romB h l n
    · rw [romE_f hq] at hE; omega
    · rfl
  obtain ⟨hg, hd⟩ := chk_of hch
  obtain ⟨⟨hn0, hn1⟩, hlen, hin⟩ := romB_all hrm
  obtain ⟨N, rfl⟩ := Int.eq_ofNat_of_zero_le hn0
  have hgb := geoB_bd hg
  have hsf := (devB_all hd).1
  have h64 : ∀ i, i < l.length → (getL D (2 + r + 2 * a + l.getD i 0)).length = 64 := fun i hi => by
    have := hin i hi
    exact seen_length hd (by omega) (Nat.le_refl _)
  have hat : ∀ i, i < l.length → atE D (2 + r + 2 * a + l.getD i 0) (chkE r a h vm nv D) = 0 := fun i hi => by
    have := hin i hi
    rw [hch]
    refine atE_t ?_
    generalize l.getD i 0 = z at this
    simp [inB]; omega
  have hsec : ∀ i, i < l.length → 64 * i < N := fun i hi => by rw [secH_chunk hn0] at hlen; omega
  have hll : l.length ≤ 10 := by rw [secH_chunk hn0] at hlen; omega
  have hfull : N ≤ 64 * l.length := by rw [secH_chunk hn0] at hlen; omega
  have H64 := hide h64
  have HAT := hide hat
  have HIN := hide hin
  have HSEC := hide hsec
  have HLEN := hide (fun k => reaK_len (k := k) h64)
  have HFULL := hide hfull
  have HE00 := hide hE
  clear h64 hat hin hsec hE hch hrm hg hd hlen hsf hfull
  have KS : Hid (∀ w', Below w1.heap.size w1 w' → w'.cell? ⟨w.heap.size, 0, none⟩ = some (.int .i64 r) ∧ w'.cell? ⟨w.heap.size, 1, none⟩ = some (.int .i64 a) ∧ w'.cell? ⟨w.heap.size, 2, none⟩ = some (.int .i64 h) ∧ w'.cell? ⟨w.heap.size, 3, none⟩ = some (.int .i64 vm) ∧ w'.cell? ⟨w.heap.size, 4, none⟩ = some (.int .i64 nv) ∧ w'.cell? ⟨w.heap.size + 1, 0, none⟩ = some s ∧ w'.cell? ⟨w.heap.size + 1, 1, none⟩ = some c ∧ w'.cell? ⟨w.heap.size + 1, 2, none⟩ = some v ∧ w'.cell? ⟨w.heap.size + 1, 3, none⟩ = some (.int .i64 D.fuel)) :=
    fun w' hb => ⟨cell_up hb g0, cell_up hb g1, cell_up hb g2, cell_up hb g3, cell_up hb g4, cell_up hb f0, cell_up hb f1, cell_up hb f2, cell_up hb f3⟩
  have hlt1 : w.heap.size + 1 < w1.heap.size := World.block_lt_of_cell? w1 _ f0
  clear g0 g1 g2 g3 g4 f0 f1 f2 f3
  obtain ⟨i0, hi, hz0, hz1, hz2⟩ := info_parts infoU8
  have hmk : ∀ u : World, (Instr.makeSlice 30 (.int .i64 (N : Int)) (.int .i64 (N : Int))).run Try.prog u =
      .ok (.slice (some ⟨u.heap.size, 0, none⟩) N N) (u.alloc (.cells (u8s (pad N [])).toArray 5)) := fun u => by
    have h := run_make (P := Try.prog) u 30 5 i0 (.int .u8 0) Try.underlying30 hi hz0 .i64 .i64 (N : Int) (N : Int) (by omega) (Int.le_refl _) (by rw [hz2]; omega) (by omega)
    rw [show u8s (pad N []) = List.replicate N (.int .u8 0) by simp [u8s, pad], ← made_u8]
    simpa [hz1, Value.cells] using h
  go_wp2
  go_loopw [12, 13, 14, 15, 28] (fun _ _ _ _ i wr => ∃ k : Nat, k ≤ l.length ∧ i = .int .i64 k ∧ Blk wr w1.heap.size (pad N (reaK r a D l k)) ∧ Below w1.heap.size w1 wr) (fun _ _ _ _ i _ => l.length - (intOf i).toNat)
  case atStart => exact ⟨0, Nat.zero_le _, rfl, by rw [reaK_0]; exact Blk.new _ _, bl1 _ _⟩
  case round =>
    obtain ⟨k, hk, rfl, hblk, hbr⟩ := hrel
    have HBLK := hide hblk
    clear hblk
    by_cases hlt : k < l.length
    · obtain ⟨b, o, rfl, hcell⟩ := unhide HLC k hlt
      replace hcell := cell_up (bl_trans hb0 hbr) hcell
      obtain ⟨z, hz⟩ : ∃ z, l.getD k 0 = z := ⟨_, rfl⟩
      have hzb := unhide HIN k hlt
      have h64 := unhide H64 k hlt
      have hat := unhide HAT k hlt
      have hnx := reaK_next (r := r) (a := a) (D := D) hlt
      rw [hz] at hcell hzb h64 hat hnx
      have h6 := unhide HSEC k hlt
      have HH64 := hide h64
      have HHAT := hide hat
      have HNX := hide hnx
      clear hz h64 hat hnx
      obtain ⟨g0, g1, g2, g3, g4, f0, f1, f2, f3⟩ := unhide KS _ hbr
      go_wp2
      go_cut [14, 15] (fun u _ wc => Bts wc u (getL D (2 + r + 2 * a + z)) ∧ Below wr.heap.size wr wc)
      case first =>
        go_region_with (first
          | (go_at_call 40; refine (diskSector_any r a h vm nv z _ (by omega) (by omega) (by omega)).mono ?_; rintro e w2 ⟨rfl, b2⟩; replace b2 := (Below.drew (Below.refl wr.heap.size wr)).trans b2; obtain ⟨k0, k1, k2, k3, k4, j0, j1, j2, j3⟩ := unhide KS _ (bl_trans hbr b2))
          | (go_at_call 48; refine (get_any r a h vm nv s c v D _ _ ((unhide HD).up (bl_trans hb0 (bl_trans hbr b2)))).mono ?_; rintro e w3 ⟨u3, rfl, hB3, b3⟩; rw [unhide HHAT] at hB3))
        all_goals
          go_wp2
          go_meet
          case rel => exact ⟨hB3, bl_trans b2 b3⟩
      case rest =>
        obtain ⟨hB3, hbc⟩ := hcut
        have hB' := hB3
        obtain ⟨ya, yc, rfl, yl, ym, hyc⟩ := hB3
        rw [unhide HH64] at yl hB' ⊢
        unfold maxLen at ym
        have HYC := hide hyc
        clear hyc
        have h7 : k * 64 < N := by omega
        have hblk := (unhide HBLK).up hbc
        have HB2 := hide hblk
        have hpl := pad_length N (reaK r a D l k)
        obtain ⟨X, hX⟩ : ∃ X, X = u8s ((getL D (2 + r + 2 * a + z)).take (N - k * 64)) := ⟨_, rfl⟩
        obtain ⟨R, hR⟩ : ∃ R, R = u8s (pad N (reaK r a D l k)) := ⟨_, rfl⟩
        have hXl : X.length = Nat.min 64 (N - k * 64) := by rw [hX, u8s_length, List.length_take, unhide HH64]; exact Nat.min_comm _ _
        have hRl : R.length = N := by rw [hR, u8s_length, hpl]
        have hsp : splice R (k * 64) X = u8s (pad N (reaK r a D l (k + 1))) := by
          rw [hR, hX, unhide HNX]
          exact splice_rea (by rw [unhide HLEN k (by omega)]; omega) (unhide HH64) (by omega)
        have HX := hide hX
        have HR := hide hR
        have HXl := hide hXl
        have HRl := hide hRl
        have HSP := hide hsp
        clear hX hR hXl hRl hsp hblk hpl
        go_wp2_with (refine wpList_copy_splice rfl (.tmp 45) (.tmp 46) 30 30 rfl 5 Try.underlying30 sizeU8 _ _ _ _ _ _ rfl rfl w1.heap.size (k * 64) R 5 ?q1 X ?q2 ?q3 ?q4 ?q5 w1.heap.size w1 ?q6 (Nat.le_refl _) ?q7)
        case q1 => have := unhide HB2; unfold Blk at this; rw [unhide HR]; exact this
        case q2 => exact unhide HXl
        case q3 =>
          intro h0
          obtain ⟨b', o', rfl, _⟩ := unhide HYC 0 (by rw [unhide HH64]; decide)
          refine ⟨_, rfl, fun j u hj => ?_⟩
          have hjl : j < X.length := (List.getElem?_eq_some_iff.1 hj).1
          have hl : X.length = Nat.min 64 (N - k * 64) := unhide HXl
          have hj64 : j < 64 := by rw [hl] at hjl; exact Nat.lt_of_lt_of_le hjl (Nat.min_le_left _ _)
          have hjn : j < N - k * 64 := by rw [hl] at hjl; exact Nat.lt_of_lt_of_le hjl (Nat.min_le_right _ _)
          obtain ⟨b2, o2, e, hcl⟩ := unhide HYC j (by rw [unhide HH64]; exact hj64)
          simp at e
          obtain ⟨rfl, rfl⟩ := e
          rw [show (⟨b', o', none⟩ : Addr).add j = ⟨b', o' + j, none⟩ by unfold Addr.add; split <;> simp_all, hcl]
          rw [unhide HX] at hj
          have hjg : j < (getL D (2 + r + 2 * a + z)).length := by rw [unhide HH64]; exact hj64
          simp [u8s, hjn, hjg] at hj
          rw [← hj]
          simp [List.getD, hjg]
        case q4 =>
          have h1 : X.length = Nat.min 64 (N - k * 64) := unhide HXl
          have h2 : R.length = N := unhide HRl
          have h3 := Nat.min_le_right 64 (N - k * 64)
          have h4 : X.length ≤ N - k * 64 := by rw [h1]; exact h3
          rw [h2]; omega
        case q5 =>
          intro u hu
          rw [unhide HX] at hu
          unfold u8s at hu
          obtain ⟨y, _, rfl⟩ := List.mem_map.1 hu
          rfl
        case q6 => exact bl_trans hbr hbc
        case q7 =>
          intro w5 hg hb5
          have HG : Hid (Blk w5 w1.heap.size (pad N (reaK r a D l (k + 1)))) := by
            show Blk _ _ _
            unfold Blk
            rw [← unhide HSP]
            exact unhide hg
          clear hg
          go_wp2
          go_roundw
          case rel => exact ⟨k + 1, by omega, by go_num, unhide HG, hb5⟩
          case measure => (simp [intOf] <;> omega)
    · obtain rfl : k = l.length := by omega
      have HE : Hid (romE h l (N : Int) (chkE r a h vm nv D) = 0) := HE00
      have hblk := unhide HBLK
      have hpt : pad N (reaK r a D l l.length) = reaL r a D l (N : Int) := by
        unfold reaL
        rw [Int.toNat_natCast]
        exact pad_take (by rw [unhide HLEN l.length (Nat.le_refl _)]; exact unhide HFULL)
      have hpl := pad_length N (reaK r a D l l.length)
      have HBT : Hid (Bts wr (.slice (some ⟨w1.heap.size, 0, none⟩) N N) (reaL r a D l (N : Int))) := by
        have := hblk.bts (cap := N) (by rw [hpl]; exact Nat.le_refl _) (by unfold maxLen; omega)
        rw [hpl, hpt] at this
        exact this
      clear hblk hpt hpl
      go_wp2
      go_ret2
      exact ⟨_, ret_pair (unhide HE).symm, by rw [unhide HE, okL0]; exact unhide HBT, bl_trans hb0 hbr⟩
end Go.Proofs.Ytbdpmigebnahkaa
