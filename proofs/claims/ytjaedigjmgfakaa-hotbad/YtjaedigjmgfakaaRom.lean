/- Does a list of sectors hold so many bytes? hot.holds, hot.check; icehouseref.roomMay. -/
import Derived.Test.YtjaedigjmgfakaaChk3
import Derived.Test.YtjaedigjmgfakaaFlt
import Derived.Test.YtjaedigjmgfakaaHFt
namespace Go.Proofs.Ytjaedigjmgfakaa
open Go.RowKit
set_option linter.unusedVariables false
set_option linter.unusedSimpArgs false

/-- A slice value of numbers. -/
def Nts (w : World) (v : Value) (xs : List Int) : Prop :=
  ∃ a cap, v = .slice a xs.length cap ∧ xs.length ≤ cap ∧ cap ≤ maxLen ∧ ∀ i, i < xs.length → ∃ b o, a = some ⟨b, o, none⟩ ∧ w.cell? ⟨b, o + i, none⟩ = some (.int .i64 (xs.getD i 0))
theorem Nts.up {w w' : World} {v : Value} {xs : List Int} (h : Nts w v xs) (hb : Below w.heap.size w w') : Nts w' v xs := by
  obtain ⟨a, cap, rfl, h1, h2, h3⟩ := h
  refine ⟨a, cap, rfl, h1, h2, fun i hi => ?_⟩
  obtain ⟨b, o, e, hc⟩ := h3 i hi
  exact ⟨b, o, e, cell_up hb hc⟩
theorem Nts.pre {w : World} {a : Option Addr} {L cap : Nat} {xs : List Int} (h : Nts w (.slice a L cap) xs) {k : Nat} (hk : k ≤ L) : Nts w (.slice a k cap) (xs.take k) := by
  obtain ⟨a', cap', e, l1, m1, hc⟩ := h
  simp at e
  obtain ⟨rfl, rfl, rfl⟩ := e
  have hl : (xs.take k).length = k := by simp; omega
  refine ⟨a, cap, by rw [hl], by rw [hl]; omega, m1, fun i hi => ?_⟩
  rw [hl] at hi
  obtain ⟨b, o, rfl, hcell⟩ := hc i (by omega)
  exact ⟨b, o, rfl, by rw [hcell]; congr 2; simp [List.getD, List.getElem?_take, hi]⟩
theorem mem_at {xs : List Int} {x : Int} : x ∈ xs ↔ ∃ i, i < xs.length ∧ xs.getD i 0 = x := by
  rw [List.mem_iff_getElem]
  constructor
  · rintro ⟨i, hi, e⟩; exact ⟨i, hi, by simp [List.getD, hi, e]⟩
  · rintro ⟨i, hi, e⟩; exact ⟨i, hi, by simpa [List.getD, hi] using e⟩

set_option maxHeartbeats 400000 in
theorem index_any (v : Value) (xs : List Int) (x : Int) (w : World) (h : Nts w v xs) :
    Calls Try.prog 59 #[v, .int .i64 x] w fun e w' => ∃ k : Int, e = .returned (.int .i64 k) ∧ (0 ≤ k ↔ x ∈ xs) ∧ w = w' := by
  obtain ⟨a, cap, rfl, l1, m1, hc⟩ := h
  unfold maxLen at m1
  have HC := hide hc
  clear hc
  go_enter Try.func59, Try.ntmps59
  go_wp2
  go_loopw [5, 8] (fun _ i wr => ∃ k : Nat, k ≤ xs.length ∧ i = .int .i64 k ∧ (∀ j, j < k → ¬ xs.getD j 0 = x) ∧ w = wr) (fun _ i _ => xs.length - (intOf i).toNat)
  case atStart => exact ⟨0, Nat.zero_le _, rfl, fun j hj => absurd hj (Nat.not_lt_zero _), rfl⟩
  case round =>
    obtain ⟨k, hk, rfl, hall, rfl⟩ := hrel
    have HA := hide hall
    clear hall
    by_cases hlt : k < xs.length
    · obtain ⟨b, o, rfl, hcell⟩ := unhide HC k hlt
      obtain ⟨z, hz⟩ : ∃ z, xs.getD k 0 = z := ⟨_, rfl⟩
      rw [hz] at hcell
      have HZ := hide hz
      clear hz
      by_cases hx : x = z
      · go_wp2
        go_ret
        exact ⟨_, rfl, ⟨fun _ => mem_at.2 ⟨k, hlt, by rw [unhide HZ, hx]⟩, fun _ => by omega⟩, rfl⟩
      · have hx' : (x == z) = false := by simpa using hx
        go_wp2
        go_roundw
        case rel => exact ⟨k + 1, by omega, by go_num, fun j hj => if e : j = k then by rw [e, unhide HZ]; exact fun q => hx q.symm else unhide HA j (by omega), trivial⟩
        case measure => simp [intOf] <;> omega
    · go_wp2
      go_ret
      refine ⟨_, rfl, ⟨fun h => by omega, fun h => ?_⟩, rfl⟩
      obtain ⟨j, hj, e⟩ := mem_at.1 h
      exact absurd e (unhide HA j (by omega))
theorem contains_any (v : Value) (xs : List Int) (x : Int) (w : World) (h : Nts w v xs) :
    Calls Try.prog 58 #[v, .int .i64 x] w fun e w' => e = .returned (.bool (xs.contains x)) ∧ w = w' := by
  have H := hide h
  clear h
  go_enter Try.func58, Try.ntmps58
  go_wp2_with fail
  refine (index_any v xs x _ (unhide H)).mono ?_
  rintro e w1 ⟨k, rfl, hk, rfl⟩
  have HK := hide hk
  clear hk
  go_wp2
  go_ret
  refine ⟨ret_bool ?_, rfl⟩
  rw [Bool.eq_iff_iff]
  simpa using unhide HK

/-- Sectors that so many bytes need. -/
def secH (n : Int) : Int := if n ≤ 0 then 0 else (n - 1) / 64 + 1
theorem sectorsH_any (n : Int) (w : World) (h0 : -9223372036854775808 ≤ n) (h1 : n ≤ 9223372036854775807) : Calls Try.prog 15 #[.int .i64 n] w fun e w' => e = .returned (.int .i64 (secH n)) ∧ w = w' := by
  by_cases h : n ≤ 0
  · have HC : Hid (secH n = 0) := by show _ = _; unfold secH; rw [if_pos h]
    go_enter Try.func15, Try.ntmps15
    go_wp2
    go_ret
    exact ⟨ret_int (unhide HC).symm, rfl⟩
  · have HC : Hid (secH n = (n - 1) / 64 + 1) := by show _ = _; unfold secH; rw [if_neg h]
    go_enter Try.func15, Try.ntmps15
    go_wp2
    go_ret
    exact ⟨ret_int (unhide HC).symm, rfl⟩
theorem secH_chunk {n : Int} (h : 0 ≤ n) : secH n = (n + 63) / 64 := by unfold secH; split <;> omega

def romQ (h : Int) (l : List Int) (i : Nat) : Bool := inB (l.getD i 0) 0 (h - 1) && !(l.take i).contains (l.getD i 0)
/-- Does a list of sectors hold so many bytes? -/
def romB (h : Int) (l : List Int) (n : Int) : Bool := inB n 0 600 && decide ((l.length : Int) = secH n) && allB l.length (romQ h l)
theorem romB_n {h : Int} {l : List Int} {n : Int} (x : inB n 0 600 = false) : romB h l n = false := by simp [romB, x]
theorem romB_l {h : Int} {l : List Int} {n : Int} (x : ¬ (l.length : Int) = secH n) : romB h l n = false := by simp [romB, x]
theorem romB_q {h : Int} {l : List Int} {n : Int} {k : Nat} (hk : k < l.length) (x : romQ h l k = false) : romB h l n = false := by simp [romB, allB_f hk x]
theorem romB_t {h : Int} {l : List Int} {n : Int} (x : inB n 0 600 = true) (y : (l.length : Int) = secH n) (z : ∀ j, j < l.length → romQ h l j = true) : romB h l n = true := by simp [romB, x, y, allB_t z]

set_option maxHeartbeats 1000000 in
theorem holds_any (r a h vm nv : Int) (v : Value) (l : List Int) (n : Int) (w : World) (hv : Nts w v l) :
    Calls Try.prog 44 #[.agg #[.int .i64 r, .int .i64 a, .int .i64 h, .int .i64 vm, .int .i64 nv], v, .int .i64 n] w fun e w' => e = .returned (.bool (romB h l n)) ∧ Below w.heap.size w w' := by
  have HV := hide hv
  obtain ⟨va, cap, rfl, l1, m1, hc⟩ := hv
  unfold maxLen at m1
  have HC := hide hc
  clear hc
  cases hn : inB n 0 600
  case false =>
    have HE := hide (romB_n (h := h) (l := l) hn)
    go_enter Try.func44, Try.ntmps44
    go_wp2_with (go_at_call 40; refine (isSize_any _ _).mono ?_; rintro e w' ⟨rfl, rfl⟩)
    go_ret
    exact ⟨ret_bool (unhide HE).symm, bl1 _ _⟩
  have hnb := inB_t hn
  obtain ⟨K, hK⟩ : ∃ K, secH n = K := ⟨_, rfl⟩
  by_cases hl : (l.length : Int) = K
  case neg =>
    have HE := hide (romB_l (h := h) (l := l) (n := n) (by rw [hK]; exact hl))
    have HK := hide hK
    have hl' : ((l.length : Int) != K) = true := by simpa using hl
    clear hK
    go_enter Try.func44, Try.ntmps44
    go_wp2_with (first | (go_at_call 40; refine (isSize_any _ _).mono ?_; rintro e w' ⟨rfl, rfl⟩) | (go_at_call 15; refine (sectorsH_any _ _ (by omega) (by omega)).mono ?_; rintro e w' ⟨rfl, rfl⟩; rw [unhide HK]))
    go_ret
    exact ⟨ret_bool (unhide HE).symm, bl1 _ _⟩
  have HQ : Hid (∀ k, k < l.length → romQ h l k = false → romB h l n = false) := fun k hk x => romB_q hk x
  have HT : Hid ((∀ j, j < l.length → romQ h l j = true) → romB h l n = true) := fun z => romB_t hn (by rw [hK]; exact hl) z
  have HK := hide hK
  subst hl
  clear hK
  go_enter Try.func44, Try.ntmps44
  go_wp2_with (first | (go_at_call 40; refine (isSize_any _ _).mono ?_; rintro e w' ⟨rfl, rfl⟩) | (go_at_call 15; refine (sectorsH_any _ _ (by omega) (by omega)).mono ?_; rintro e w' ⟨rfl, rfl⟩; rw [unhide HK]))
  clear hn hnb HK
  obtain ⟨W0, hW0⟩ : ∃ W0, W0 = w.alloc (.cells #[.int .i64 r, .int .i64 a, .int .i64 h, .int .i64 vm, .int .i64 nv] 24) := ⟨_, rfl⟩
  have g2 : W0.cell? ⟨w.heap.size, 2, none⟩ = some (.int .i64 h) := by rw [hW0]; simp
  have hb0 : Below w.heap.size w W0 := by rw [hW0]; exact bl1 _ _
  rw [← hW0]
  clear hW0
  go_loopw [7, 8, 21] (fun _ _ i wr => ∃ k : Nat, k ≤ l.length ∧ i = .int .i64 k ∧ (∀ j, j < k → romQ h l j = true) ∧ W0 = wr) (fun _ _ i _ => l.length - (intOf i).toNat)
  case atStart => exact ⟨0, Nat.zero_le _, rfl, fun j hj => absurd hj (Nat.not_lt_zero _), rfl⟩
  case round =>
    obtain ⟨k, hk, rfl, hall, rfl⟩ := hrel
    have HA := hide hall
    clear hall
    by_cases hlt : k < l.length
    · obtain ⟨b, o, rfl, hcell⟩ := unhide HC k hlt
      replace hcell := cell_up hb0 hcell
      have hbl : b < W0.heap.size := World.block_lt_of_cell? W0 _ hcell
      obtain ⟨z, hz⟩ : ∃ z, l.getD k 0 = z := ⟨_, rfl⟩
      have HN := hide (((unhide HV).up hb0).pre hk)
      have HZ : Hid (romQ h l k = (inB z 0 (h - 1) && !(l.take k).contains z)) := by show _ = _; unfold romQ; rw [hz]
      rw [hz] at hcell
      clear hz
      by_cases h1 : z < 0
      · have HE := hide (unhide HQ k hlt (by rw [unhide HZ, show inB z 0 (h - 1) = false by simp [inB]; omega]; rfl))
        go_wp2
        go_ret
        exact ⟨ret_bool (unhide HE).symm, hb0⟩
      by_cases h2 : h ≤ z
      · have HE := hide (unhide HQ k hlt (by rw [unhide HZ, show inB z 0 (h - 1) = false by simp [inB]; omega]; rfl))
        go_wp2
        go_ret
        exact ⟨ret_bool (unhide HE).symm, hb0⟩
      have hi : inB z 0 (h - 1) = true := by simp [inB]; omega
      obtain ⟨Q, hQ⟩ : ∃ Q, (l.take k).contains z = Q := ⟨_, rfl⟩
      have HQQ := hide hQ
      rw [hi, hQ] at HZ
      clear hi hQ
      cases Q
      · have HE := unhide HZ
        have HR : Hid (romQ h l k = true) := HE
        clear HE HZ
        go_wp2_with (go_at_call 58; refine (contains_any _ _ _ _ (unhide HN)).mono ?_; rintro e w' ⟨rfl, rfl⟩; rw [unhide HQQ])
        go_roundw
        case rel => exact ⟨k + 1, by omega, by go_num, fun j hj => if e : j = k then by rw [e]; exact unhide HR else unhide HA j (by omega), trivial⟩
        case measure => simp [intOf] <;> omega
      · have HE := hide (unhide HQ k hlt (unhide HZ))
        go_wp2_with (go_at_call 58; refine (contains_any _ _ _ _ (unhide HN)).mono ?_; rintro e w' ⟨rfl, rfl⟩; rw [unhide HQQ])
        go_ret
        exact ⟨ret_bool (unhide HE).symm, hb0⟩
    · have HE := hide (unhide HT fun j hj => unhide HA j (by omega))
      go_wp2
      go_ret
      exact ⟨ret_bool (unhide HE).symm, hb0⟩

/-- What the check of a list answers. -/
def romE (h : Int) (l : List Int) (n e : Int) : Int := if e = 0 then (if romB h l n then 0 else 2) else e
theorem romE_bad {h : Int} {l : List Int} {n e : Int} (x : e ≠ 0) : romE h l n e = e := by simp [romE, x]
theorem romE_f {h : Int} {l : List Int} {n : Int} (x : romB h l n = false) : romE h l n 0 = 2 := by simp [romE, x]
theorem romE_t {h : Int} {l : List Int} {n : Int} (x : romB h l n = true) : romE h l n 0 = 0 := by simp [romE, x]

set_option maxHeartbeats 1000000 in
theorem hotCheck_any (r a h vm nv : Int) (s c v : Value) (D : Dv) (lv : Value) (l : List Int) (n : Int) (w : World) (hD : Dev w s c v D) (hv : Nts w lv l) :
    Calls Try.prog 25 #[.agg #[.int .i64 r, .int .i64 a, .int .i64 h, .int .i64 vm, .int .i64 nv], .agg #[s, c, v, .int .i64 D.fuel], lv, .int .i64 n] w fun e w' =>
      e = .returned (.int .i64 (romE h l n (chkE r a h vm nv D))) ∧ Below w.heap.size w w' := by
  have HD := hide hD
  have HV := hide hv
  clear hD hv
  go_enter Try.func25, Try.ntmps25
  go_wp2_with fail
  refine (check_any r a h vm nv _ _ _ D _ ((unhide HD).up (bl2 _ _ _))).mono ?_
  rintro e w1 ⟨rfl, hb1⟩
  have hb0 : Below w.heap.size w w1 := bl_trans (bl2 _ _ _) hb1
  have g0 := box2a hb1 0 rfl
  have g1 := box2a hb1 1 rfl
  have g2 := box2a hb1 2 rfl
  have g3 := box2a hb1 3 rfl
  have g4 := box2a hb1 4 rfl
  clear hb1
  obtain ⟨E, hE⟩ : ∃ E, chkE r a h vm nv D = E := ⟨_, rfl⟩
  rw [hE]
  by_cases hE0 : E = 0
  case neg =>
    have t1 : (E != 0) = true := by simpa using hE0
    have HE : Hid (E = romE h l n (chkE r a h vm nv D)) := by rw [hE]; exact (romE_bad hE0).symm
    clear hE hE0
    go_wp2
    go_ret
    exact ⟨ret_int (unhide HE), hb0⟩
  subst hE0
  have HCH := hide hE
  clear hE
  go_wp2_with fail
  refine (holds_any r a h vm nv lv l n _ ((unhide HV).up hb0)).mono ?_
  rintro e w2 ⟨rfl, hb2⟩
  cases hq : romB h l n
  · go_wp2
    go_ret
    exact ⟨ret_int (by rw [unhide HCH, romE_f hq]), bl_trans hb0 hb2⟩
  · go_wp2
    go_ret
    exact ⟨ret_int (by rw [unhide HCH, romE_t hq]), bl_trans hb0 hb2⟩
end Go.Proofs.Ytjaedigjmgfakaa
