/- dev.Fetch and icehouseref.FetchedOf. -/
import Derived.Test.YtdalkkjojflakaaGet2
namespace Go.Proofs.Ytdalkkjojflakaa
open Go.RowKit
set_option linter.unusedVariables false
set_option linter.unusedSimpArgs false

/-- A volume that there is, and that was not taken away. -/
def isVol (D : Dv) (x : Int) : Bool := inB x 0 ((D.vols.length : Int) - 1) && !(D.vols.getD x.toNat ⟨[], 0, false⟩).gone

set_option maxHeartbeats 400000 in
theorem isVolume_any (s c v : Value) (D : Dv) (x : Int) (w : World) (hD : Dev w s c v D) :
   Calls Try.prog 38 #[.agg #[s, c, v, .int .i64 D.fuel], .int .i64 x] w fun e w' => e = .returned (.bool (isVol D x)) ∧ Below w.heap.size w w' := by
  obtain ⟨_, _, ⟨a3, cap3, rfl, l3, m3, hv⟩⟩ := hD
  unfold maxLen at m3
  have HV := hide hv
  clear hv
  by_cases h1 : 0 ≤ x
  case neg =>
    have F : Hid (isVol D x = false) := by show _ = _; unfold isVol; rw [show inB x 0 ((D.vols.length : Int) - 1) = false by simp [inB]; omega]; rfl
    go_enter Try.func38, Try.ntmps38
    go_wp2
    go_ret
    exact ⟨ret_bool (unhide F).symm, bl1 _ _⟩
  by_cases h2 : x < (D.vols.length : Int)
  case neg =>
    have F : Hid (isVol D x = false) := by show _ = _; unfold isVol; rw [show inB x 0 ((D.vols.length : Int) - 1) = false by simp [inB]; omega]; rfl
    go_enter Try.func38, Try.ntmps38
    go_wp2
    go_ret
    exact ⟨ret_bool (unhide F).symm, bl1 _ _⟩
  obtain ⟨xn, rfl⟩ := Int.eq_ofNat_of_zero_le h1
  obtain ⟨b, o, rfl, _, _, hgo⟩ := unhide HV xn (by omega)
  obtain ⟨G, hG⟩ : ∃ G : Bool, (D.vols.getD xn ⟨[], 0, false⟩).gone = G := ⟨_, rfl⟩
  have F : Hid (isVol D (xn : Int) = !G) := by show _ = _; unfold isVol; rw [show inB (xn : Int) 0 ((D.vols.length : Int) - 1) = true by simp [inB]; omega, Int.toNat_natCast, hG]; rfl
  rw [hG] at hgo
  clear hG
  have hbl : b < w.heap.size := World.block_lt_of_cell? w _ hgo
  go_enter Try.func38, Try.ntmps38
  go_wp2
  go_ret
  exact ⟨ret_bool (unhide F).symm, bl1 _ _⟩

set_option maxHeartbeats 400000 in
theorem volumeMay_any (s c v : Value) (D : Dv) (x : Int) (w : World) (hD : Dev w s c v D) :
   Calls Try.prog 53 #[.agg #[s, c, v, .int .i64 D.fuel], .int .i64 x] w fun e w' => e = .returned (.bool (isVol D x)) ∧ Below w.heap.size w w' := by
  obtain ⟨_, _, ⟨a3, cap3, rfl, l3, m3, hv⟩⟩ := hD
  unfold maxLen at m3
  have HV := hide hv
  clear hv
  cases hin : inB x 0 ((D.vols.length : Int) - 1)
  case false =>
    have F : Hid (isVol D x = false) := by show _ = _; unfold isVol; rw [hin]; rfl
    go_enter Try.func53, Try.ntmps53
    go_wp2_with (go_at_call 28; refine (in_any _ _ _ _).mono ?_; rintro e w' ⟨rfl, rfl⟩)
    go_ret
    exact ⟨ret_bool (unhide F).symm, bl1 _ _⟩
  obtain ⟨h1, h2⟩ := inB_t hin
  obtain ⟨xn, rfl⟩ := Int.eq_ofNat_of_zero_le h1
  obtain ⟨b, o, rfl, _, _, hgo⟩ := unhide HV xn (by omega)
  obtain ⟨G, hG⟩ : ∃ G : Bool, (D.vols.getD xn ⟨[], 0, false⟩).gone = G := ⟨_, rfl⟩
  have F : Hid (isVol D (xn : Int) = !G) := by show _ = _; unfold isVol; rw [hin, Int.toNat_natCast, hG]; rfl
  rw [hG] at hgo
  clear hG
  have hbl : b < w.heap.size := World.block_lt_of_cell? w _ hgo
  go_enter Try.func53, Try.ntmps53
  go_wp2_with (go_at_call 28; refine (in_any _ _ _ _).mono ?_; rintro e w' ⟨rfl, rfl⟩)
  go_ret
  exact ⟨ret_bool (unhide F).symm, bl1 _ _⟩

theorem Bts.cut {w : World} {a : Option Addr} {L cap : Nat} {xs : List Int} (h : Bts w (.slice a L cap) xs) {x y : Nat} (hxy : x ≤ y) (hy : y ≤ L) : Bts w (.slice (if cap = x then a else a.map (fun p => p.add x)) (y - x) (cap - x)) ((xs.take y).drop x) := by
  obtain ⟨a', cap', e, l1, m1, hc⟩ := h
  simp at e
  obtain ⟨rfl, rfl, rfl⟩ := e
  have hl : ((xs.take y).drop x).length = y - x := by simp; omega
  refine ⟨_, cap - x, by rw [hl], by rw [hl]; omega, by omega, fun i hi => ?_⟩
  rw [hl] at hi
  obtain ⟨b, o, rfl, hcell⟩ := hc (x + i) (by omega)
  rw [if_neg (by omega)]
  refine ⟨b, o + x, ?_, ?_⟩
  · simp only [Option.map]
    congr 1
    unfold Addr.add; split <;> simp_all
  · rw [Nat.add_assoc, hcell]
    congr 2
    simp [List.getD, List.getElem?_drop, List.getElem?_take, show x + i < y by omega]

theorem pad_take {m : Nat} {xs : List Int} (h : m ≤ xs.length) : pad m xs = xs.take m := by
  unfold pad; rw [show m - xs.length = 0 by omega]; simp
/-- What a fetch answers. -/
def fetE (D : Dv) (x p n e : Int) : Int :=
  if e = 0 then (if isVol D x then (if inB p 0 (D.vols.getD x.toNat ⟨[], 0, false⟩).data.length && inB n 0 ((D.vols.getD x.toNat ⟨[], 0, false⟩).data.length - p) then 0 else 2) else 6) else e
def fetL (D : Dv) (x p n : Int) : List Int := (((D.vols.getD x.toNat ⟨[], 0, false⟩).data).drop p.toNat).take n.toNat
theorem fetE_bad {D : Dv} {x p n e : Int} (h : e ≠ 0) : fetE D x p n e = e := by simp [fetE, h]
theorem fetE_none {D : Dv} {x p n : Int} (h : isVol D x = false) : fetE D x p n 0 = 6 := by simp [fetE, h]
theorem fetE_out {D : Dv} {x p n : Int} (h : isVol D x = true) (h2 : (inB p 0 (D.vols.getD x.toNat ⟨[], 0, false⟩).data.length && inB n 0 ((D.vols.getD x.toNat ⟨[], 0, false⟩).data.length - p)) = false) : fetE D x p n 0 = 2 := by
  unfold fetE; rw [if_pos rfl, if_pos h, h2]; rfl
theorem fetE_in {D : Dv} {x p n : Int} (h : isVol D x = true) (h2 : (inB p 0 (D.vols.getD x.toNat ⟨[], 0, false⟩).data.length && inB n 0 ((D.vols.getD x.toNat ⟨[], 0, false⟩).data.length - p)) = true) : fetE D x p n 0 = 0 := by
  unfold fetE; rw [if_pos rfl, if_pos h, h2]; rfl
theorem isVol_in {D : Dv} {x : Int} (h : isVol D x = true) : 0 ≤ x ∧ x < D.vols.length := by
  unfold isVol at h
  rw [Bool.and_eq_true] at h
  have := inB_t h.1
  omega
theorem volB_len {vm L sy : Int} {go : Bool} (hvm : 0 ≤ vm) (h : volB vm L sy go = true) : L ≤ vm := by
  cases go <;> simp [volB, inB] at h <;> omega

set_option maxHeartbeats 1000000 in
theorem fetch_any (r a h vm nv : Int) (s c v : Value) (D : Dv) (x p n : Int) (w : World) (hD : Dev w s c v D) :
    Calls Try.prog 31 #[.agg #[.int .i64 r, .int .i64 a, .int .i64 h, .int .i64 vm, .int .i64 nv], .agg #[s, c, v, .int .i64 D.fuel], .int .i64 x, .int .i64 p, .int .i64 n] w fun e w' =>
      ∃ u, e = .returned (.tuple #[u, .int .i64 (fetE D x p n (chkE r a h vm nv D))]) ∧ Bts w' u (okL (fetE D x p n (chkE r a h vm nv D)) (fetL D x p n)) ∧ Below w.heap.size w w' := by
  have HD := hide hD
  obtain ⟨⟨a1, cap1, rfl, l1, m1, hs⟩, ⟨a2, cap2, rfl, l2, m2, hc⟩, ⟨a3, cap3, rfl, l3, m3, hv⟩⟩ := hD
  unfold maxLen at m1 m2 m3
  have HV := hide hv
  clear hs hc hv
  go_enter Try.func31, Try.ntmps31
  go_wp2_with fail
  refine (check_any r a h vm nv _ _ _ D _ ((unhide HD).up (bl2 _ _ _))).mono ?_
  rintro e w1 ⟨rfl, hb1⟩
  have hb0 : Below w.heap.size w w1 := bl_trans (bl2 _ _ _) hb1
  have f0 := box2b hb1 0 rfl
  have f1 := box2b hb1 1 rfl
  have f2 := box2b hb1 2 rfl
  have f3 := box2b hb1 3 rfl
  clear hb1
  obtain ⟨E, hE⟩ : ∃ E, chkE r a h vm nv D = E := ⟨_, rfl⟩
  rw [hE]
  by_cases hE0 : E = 0
  case neg =>
    have t1 : (E != 0) = true := by simpa using hE0
    have HE : Hid (E = fetE D x p n (chkE r a h vm nv D)) := by rw [hE]; exact (fetE_bad hE0).symm
    have HE0 := hide hE0
    clear hE hE0
    go_wp2
    go_ret2
    exact ⟨_, ret_pair (unhide HE), by rw [← unhide HE, okLn (unhide HE0)]; exact Bts.nil _, hb0⟩
  subst hE0
  obtain ⟨hg, hd⟩ := chk_of hE
  have HDV := hide hd
  have HG := hide hg
  have HCH := hide hE
  clear hE hd hg
  go_wp2_with fail
  refine (isVolume_any _ _ _ D x _ ((unhide HD).up hb0)).mono ?_
  rintro e w2 ⟨rfl, hb2⟩
  replace hb0 := bl_trans hb0 hb2
  replace f2 := cell_up hb2 f2
  clear hb2 f0 f1 f3
  cases hin : isVol D x
  case false =>
    have HE : Hid (6 = fetE D x p n (chkE r a h vm nv D)) := by rw [unhide HCH]; exact (fetE_none hin).symm
    clear hin
    go_wp2
    go_ret2
    exact ⟨_, ret_pair (unhide HE), by rw [← unhide HE]; exact Bts.nil _, hb0⟩
  obtain ⟨hx0, hx1⟩ := isVol_in hin
  have HIN := hide hin
  clear hin
  obtain ⟨xn, rfl⟩ := Int.eq_ofNat_of_zero_le hx0
  obtain ⟨b, o, rfl, ⟨u, hu, hbu⟩, _, _⟩ := unhide HV xn (by omega)
  replace hu := cell_up hb0 hu
  have HB := hide (hbu.up hb0)
  obtain ⟨y, cp, rfl, lx, mx, _⟩ := hbu
  obtain ⟨L, hL⟩ : ∃ L : Nat, (D.vols.getD xn ⟨[], 0, false⟩).data.length = L := ⟨_, rfl⟩
  have hsm : (L : Int) ≤ 4000 := by
    have h7 := (devB_all (unhide HDV)).2.2.2.2.2.2 xn (by omega)
    have hgb := geoB_bd (unhide HG)
    rw [hL] at h7
    have := volB_len (by omega) h7
    omega
  rw [hL] at hu lx HB
  have HL := hide hL
  clear hL
  unfold maxLen at mx
  have FO : Hid (¬ ((0 ≤ p ∧ p ≤ L) ∧ 0 ≤ n ∧ n ≤ L - p) → 2 = fetE D (xn : Int) p n (chkE r a h vm nv D)) := fun hh => by
    rw [unhide HCH]
    refine (fetE_out (unhide HIN) ?_).symm
    rw [Int.toNat_natCast, unhide HL]
    simp [inB]; omega
  by_cases p0 : 0 ≤ p
  case neg =>
    have HE := hide (unhide FO (by omega))
    go_wp2
    go_ret2
    exact ⟨_, ret_pair (unhide HE), by rw [← unhide HE]; exact Bts.nil _, hb0⟩
  by_cases n0 : 0 ≤ n
  case neg =>
    have HE := hide (unhide FO (by omega))
    go_wp2
    go_ret2
    exact ⟨_, ret_pair (unhide HE), by rw [← unhide HE]; exact Bts.nil _, hb0⟩
  by_cases p1 : p ≤ (L : Int)
  case neg =>
    have HE := hide (unhide FO (by omega))
    go_wp2
    go_ret2
    exact ⟨_, ret_pair (unhide HE), by rw [← unhide HE]; exact Bts.nil _, hb0⟩
  by_cases n1 : n ≤ (L : Int) - p
  case neg =>
    have HE := hide (unhide FO (by omega))
    go_wp2
    go_ret2
    exact ⟨_, ret_pair (unhide HE), by rw [← unhide HE]; exact Bts.nil _, hb0⟩
  have HE : Hid (0 = fetE D (xn : Int) p n (chkE r a h vm nv D)) := by
    rw [unhide HCH]
    refine (fetE_in (unhide HIN) ?_).symm
    rw [Int.toNat_natCast, unhide HL]
    simp [inB]; omega
  obtain ⟨pn, rfl⟩ := Int.eq_ofNat_of_zero_le p0
  obtain ⟨nn, rfl⟩ := Int.eq_ofNat_of_zero_le n0
  obtain ⟨Z, hZ⟩ : ∃ Z, (D.vols.getD xn ⟨[], 0, false⟩).data = Z := ⟨_, rfl⟩
  have hZL : Z.length = L := by rw [← hZ]; exact unhide HL
  rw [hZ] at HB
  have HF : Hid (fetL D (xn : Int) (pn : Int) (nn : Int) = ((Z.take L).drop pn).take nn) := by
    show _ = _
    unfold fetL
    rw [Int.toNat_natCast, Int.toNat_natCast, Int.toNat_natCast, hZ, List.take_of_length_le (l := Z) (by omega)]
  have HF2 : Hid (pad nn ((Z.take L).drop pn) = ((Z.take L).drop pn).take nn) := pad_take (by simp; omega)
  have HF3 : Hid ((((Z.take L).drop pn).take nn).length = nn) := by show _ = _; simp; omega
  have HBC := hide ((unhide HB).cut (x := pn) (y := L) (by omega) (Nat.le_refl _))
  clear hZ hZL
  have HB1 : Hid (cp = pn → Bts w2 (.slice y (L - pn) 0) ((Z.take L).drop pn)) := fun e => by
    have := unhide HBC
    rw [if_pos e, show cp - pn = 0 by omega] at this
    exact this
  have HB2 : Hid (¬ cp = pn → Bts w2 (.slice (y.map (fun p => p.add pn)) (L - pn) (cp - pn)) ((Z.take L).drop pn)) := fun e => by
    have := unhide HBC
    rw [if_neg e] at this
    exact this
  clear HBC
  go_wp2_with fail
  · refine (copyBytes_any _ _ nn _ (unhide HB1 (by assumption)) (by omega)).mono ?_
    rintro e w4 ⟨rfl, hblk, hb4⟩
    go_wp2
    go_ret2
    refine ⟨_, ret_pair (unhide HE), ?_, bl_trans hb0 hb4⟩
    rw [← unhide HE, okL0, unhide HF]
    rw [unhide HF2] at hblk
    have := hblk.bts (cap := nn) (by rw [unhide HF3]; exact Nat.le_refl _) (by unfold maxLen; omega)
    rw [unhide HF3] at this
    exact this
  · refine (copyBytes_any _ _ nn _ (unhide HB2 (by assumption)) (by omega)).mono ?_
    rintro e w4 ⟨rfl, hblk, hb4⟩
    go_wp2
    go_ret2
    refine ⟨_, ret_pair (unhide HE), ?_, bl_trans hb0 hb4⟩
    rw [← unhide HE, okL0, unhide HF]
    rw [unhide HF2] at hblk
    have := hblk.bts (cap := nn) (by rw [unhide HF3]; exact Nat.le_refl _) (by unfold maxLen; omega)
    rw [unhide HF3] at this
    exact this

set_option maxHeartbeats 1000000 in
theorem fetchedOf_any (r a h vm nv : Int) (s c v : Value) (D : Dv) (x p n : Int) (w : World) (hD : Dev w s c v D) :
    Calls Try.prog 34 #[.agg #[.int .i64 r, .int .i64 a, .int .i64 h, .int .i64 vm, .int .i64 nv], .agg #[s, c, v, .int .i64 D.fuel], .int .i64 x, .int .i64 p, .int .i64 n] w fun e w' =>
      ∃ u, e = .returned (.tuple #[u, .int .i64 (fetE D x p n (chkE r a h vm nv D))]) ∧ Bts w' u (okL (fetE D x p n (chkE r a h vm nv D)) (fetL D x p n)) ∧ Below w.heap.size w w' := by
  have HD := hide hD
  obtain ⟨⟨a1, cap1, rfl, l1, m1, hs⟩, ⟨a2, cap2, rfl, l2, m2, hc⟩, ⟨a3, cap3, rfl, l3, m3, hv⟩⟩ := hD
  unfold maxLen at m1 m2 m3
  have HV := hide hv
  clear hs hc hv
  go_enter Try.func34, Try.ntmps34
  go_wp2_with fail
  refine (devFault_any r a h vm nv _ _ _ D _ ((unhide HD).up (bl2 _ _ _))).mono ?_
  rintro e w1 ⟨rfl, hb1⟩
  have hb0 : Below w.heap.size w w1 := bl_trans (bl2 _ _ _) hb1
  have f0 := box2b hb1 0 rfl
  have f1 := box2b hb1 1 rfl
  have f2 := box2b hb1 2 rfl
  have f3 := box2b hb1 3 rfl
  clear hb1
  obtain ⟨E, hE⟩ : ∃ E, chkE r a h vm nv D = E := ⟨_, rfl⟩
  rw [hE]
  by_cases hE0 : E = 0
  case neg =>
    have t1 : (E != 0) = true := by simpa using hE0
    have t2 : (E == 0) = false := by simpa using hE0
    have HE : Hid (E = fetE D x p n (chkE r a h vm nv D)) := by rw [hE]; exact (fetE_bad hE0).symm
    have HE0 := hide hE0
    clear hE hE0
    go_wp2
    go_ret2
    exact ⟨_, ret_pair (unhide HE), by rw [← unhide HE, okLn (unhide HE0)]; exact Bts.nil _, hb0⟩
  subst hE0
  obtain ⟨hg, hd⟩ := chk_of hE
  have HDV := hide hd
  have HG := hide hg
  have HCH := hide hE
  clear hE hd hg
  go_wp2_with fail
  refine (volumeMay_any _ _ _ D x _ ((unhide HD).up hb0)).mono ?_
  rintro e w2 ⟨rfl, hb2⟩
  replace hb0 := bl_trans hb0 hb2
  replace f2 := cell_up hb2 f2
  clear hb2 f0 f1 f3
  cases hin : isVol D x
  case false =>
    have HE : Hid (6 = fetE D x p n (chkE r a h vm nv D)) := by rw [unhide HCH]; exact (fetE_none hin).symm
    clear hin
    go_wp2
    go_ret2
    exact ⟨_, ret_pair (unhide HE), by rw [← unhide HE]; exact Bts.nil _, hb0⟩
  obtain ⟨hx0, hx1⟩ := isVol_in hin
  have HIN := hide hin
  clear hin
  obtain ⟨xn, rfl⟩ := Int.eq_ofNat_of_zero_le hx0
  obtain ⟨b, o, rfl, ⟨u, hu, hbu⟩, _, _⟩ := unhide HV xn (by omega)
  replace hu := cell_up hb0 hu
  have HB := hide (hbu.up hb0)
  obtain ⟨y, cp, rfl, lx, mx, _⟩ := hbu
  obtain ⟨L, hL⟩ : ∃ L : Nat, (D.vols.getD xn ⟨[], 0, false⟩).data.length = L := ⟨_, rfl⟩
  have hsm : (L : Int) ≤ 4000 := by
    have h7 := (devB_all (unhide HDV)).2.2.2.2.2.2 xn (by omega)
    have hgb := geoB_bd (unhide HG)
    rw [hL] at h7
    have := volB_len (by omega) h7
    omega
  rw [hL] at hu lx HB
  have HL := hide hL
  clear hL
  unfold maxLen at mx
  have FO : Hid (¬ ((0 ≤ p ∧ p ≤ L) ∧ 0 ≤ n ∧ n ≤ L - p) → 2 = fetE D (xn : Int) p n (chkE r a h vm nv D)) := fun hh => by
    rw [unhide HCH]
    refine (fetE_out (unhide HIN) ?_).symm
    rw [Int.toNat_natCast, unhide HL]
    simp [inB]; omega
  by_cases p0 : 0 ≤ p ∧ p ≤ (L : Int)
  case neg =>
    have HE := hide (unhide FO (by omega))
    have t1 : inB p 0 (L : Int) = false := by simp [inB]; omega
    clear p0
    go_wp2_with (go_at_call 28; refine (in_any _ _ _ _).mono ?_; rintro e w' ⟨rfl, rfl⟩)
    go_ret2
    exact ⟨_, ret_pair (unhide HE), by rw [← unhide HE]; exact Bts.nil _, hb0⟩
  have t1 : inB p 0 (L : Int) = true := by simp [inB]; omega
  obtain ⟨p0, p1⟩ := p0
  by_cases n0 : 0 ≤ n ∧ n ≤ (L : Int) - p
  case neg =>
    have HE := hide (unhide FO (by omega))
    have t2 : inB n 0 ((L : Int) - p) = false := by simp [inB]; omega
    clear n0
    go_wp2_with (go_at_call 28; refine (in_any _ _ _ _).mono ?_; rintro e w' ⟨rfl, rfl⟩)
    go_ret2
    exact ⟨_, ret_pair (unhide HE), by rw [← unhide HE]; exact Bts.nil _, hb0⟩
  have t2 : inB n 0 ((L : Int) - p) = true := by simp [inB]; omega
  obtain ⟨n0, n1⟩ := n0
  have HE : Hid (0 = fetE D (xn : Int) p n (chkE r a h vm nv D)) := by
    rw [unhide HCH]
    refine (fetE_in (unhide HIN) ?_).symm
    rw [Int.toNat_natCast, unhide HL, t1, t2]; rfl
  obtain ⟨pn, rfl⟩ := Int.eq_ofNat_of_zero_le p0
  obtain ⟨nn, rfl⟩ := Int.eq_ofNat_of_zero_le n0
  obtain ⟨Z, hZ⟩ : ∃ Z, (D.vols.getD xn ⟨[], 0, false⟩).data = Z := ⟨_, rfl⟩
  have hZL : Z.length = L := by rw [← hZ]; exact unhide HL
  rw [hZ] at HB
  have HF : Hid (fetL D (xn : Int) (pn : Int) (nn : Int) = (Z.take (pn + nn)).drop pn) := by
    show _ = _
    unfold fetL
    rw [Int.toNat_natCast, Int.toNat_natCast, Int.toNat_natCast, hZ, List.drop_take, Nat.add_sub_cancel_left]
  have HF3 : Hid ((((Z.take (pn + nn)).drop pn)).length ≤ 4000) := by show _ ≤ _; simp; omega
  have HBC := hide ((unhide HB).cut (x := pn) (y := pn + nn) (by omega) (by omega))
  clear hZ hZL
  have HB1 : Hid (cp = pn → Bts w2 (.slice y nn 0) ((Z.take (pn + nn)).drop pn)) := fun e => by
    have := unhide HBC
    rw [if_pos e, show cp - pn = 0 by omega, Nat.add_sub_cancel_left] at this
    exact this
  have HB2 : Hid (¬ cp = pn → Bts w2 (.slice (y.map (fun p => p.add pn)) nn (cp - pn)) ((Z.take (pn + nn)).drop pn)) := fun e => by
    have := unhide HBC
    rw [if_neg e, Nat.add_sub_cancel_left] at this
    exact this
  clear HBC
  go_wp2_with (go_at_call 28; refine (in_any _ _ _ _).mono ?_; rintro e w' ⟨rfl, rfl⟩)
  · refine (joined_any _ [(Z.take (pn + nn)).drop pn] _ (RowsAt.one (unhide HB1 (by assumption))) (by rw [List.flatten_cons, List.flatten_nil, List.append_nil]; exact Nat.le_trans (unhide HF3) (by decide))).mono ?_
    rintro e w4 ⟨u, rfl, hown, hb4⟩
    go_wp2
    go_ret2
    refine ⟨_, ret_pair (unhide HE), ?_, bl_trans (bl_trans hb0 (bl1 _ _)) hb4⟩
    rw [← unhide HE, okL0, unhide HF]
    simpa using hown.bts
  · refine (joined_any _ [(Z.take (pn + nn)).drop pn] _ (RowsAt.one (unhide HB2 (by assumption))) (by rw [List.flatten_cons, List.flatten_nil, List.append_nil]; exact Nat.le_trans (unhide HF3) (by decide))).mono ?_
    rintro e w4 ⟨u, rfl, hown, hb4⟩
    go_wp2
    go_ret2
    refine ⟨_, ret_pair (unhide HE), ?_, bl_trans (bl_trans hb0 (bl1 _ _)) hb4⟩
    rw [← unhide HE, okL0, unhide HF]
    simpa using hown.bts
end Go.Proofs.Ytdalkkjojflakaa
