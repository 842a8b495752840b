/- Does a list of sectors hold so many bytes? hot.holds, hot.check; icehouseref.roomMay. -/
import Derived.Test.YtdalkkjojflakaaChk3
import Derived.Test.YtdalkkjojflakaaFlt
import Derived.Test.YtdalkkjojflakaaHFt
namespace Go.Proofs.Ytdalkkjojflakaa
open Go.RowKit
set_option linter.unusedVariables false
set_option linter.unusedSimpArgs false

/-- A slice value of numbers. -/
def Nts (w : World) (v : Value) (xs : List Int) : Prop :=
  ∃ a cap, v = .slice a xs.length cap ∧ xs.length ≤ cap ∧ cap ≤ maxLen ∧ ∀ i, i < xs.length → ∃ b o, a = some ⟨b, o, none⟩ ∧ w.cell? ⟨b, o + i, none⟩ = some (.int .i64 (xs.getD i 0))
theorem Nts.up {w w' : World} {v : Value} {xs : List Int} (h : Nts w v xs) (hb : Below w.heap.size w w') : Nts w' v xs := by
  obtain ⟨a, cap, rfl, h1, h2, h3⟩ := h
  refine ⟨a, cap, rfl, h1, h2, fun i hi => ?_⟩
  obtain ⟨b, o, e, hc⟩ := h3 i hi
  exact ⟨b, o, e, cell_up hb hc⟩
theorem Nts.pre {w : World} {a : Option Addr} {L cap : Nat} {xs : List Int} (h : Nts w (.slice a L cap) xs) {k : Nat} (hk : k ≤ L) : Nts w (.slice a k cap) (xs.take k) := by
  obtain ⟨a', cap', e, l1, m1, hc⟩ := h
  simp at e
  obtain ⟨rfl, rfl, rfl⟩ := e
  have hl : (xs.take k).length = k := by simp; omega
  refine ⟨a, cap, by rw [hl], by rw [hl]; omega, m1, fun i hi => ?_⟩
  rw [hl] at hi
  obtain ⟨b, o, rfl, hcell⟩ := hc i (by omega)
  exact ⟨b, o, rfl, by rw [hcell]; congr 2; simp [List.getD, List.getElem?_take, hi]⟩
theorem mem_at {xs : List Int} {x : Int} : x ∈ xs ↔ ∃ i, i < xs.length ∧ xs.getD i 0 = x := by
  rw [List.mem_iff_getElem]
  constructor
  · rintro ⟨i, hi, e⟩; exact ⟨i, hi, by simp [List.getD, hi, e]⟩
  · rintro ⟨i, hi, e⟩; exact ⟨i, hi, by simpa [List.getD, hi] using e⟩

set_option maxHeartbeats 400000 in
theorem index_any (v : Value) (xs : List Int) (x : Int) (w : World) (h : Nts w v xs) :
    Calls Try.prog 115 #[v, .int .i64 x] w fun e w' => ∃ k : Int, e = .returned (.int .i64 k) ∧ (0 ≤ k ↔ x ∈ xs) ∧ w = w' := by
  obtain ⟨a, cap, rfl, l1, m1, hc⟩ := h
  unfold maxLen at m1
  have HC := hide hc
  clear hc
  go_enter Try.func115, Try.ntmps115
  go_wp2
  go_loopw [5, 8] (fun _ i wr => ∃ k : Nat, k ≤ xs.length ∧ i = .int .i64 k ∧ (∀ j, j < k → ¬ xs.getD j 0 = x) ∧ w = wr) (fun _ i _ => xs.length - (intOf i).toNat)
  case atStart => exact ⟨0, Nat.zero_le _, rfl, fun j hj => absurd hj (Nat.not_lt_zero _), rfl⟩
  case round =>
    obtain ⟨k, hk, rfl, hall, rfl⟩ := hrel
    have HA := hide hall
    clear hall
    by_cases hlt : k < xs.length
    · obtain ⟨b, o, rfl, hcell⟩ := unhide HC k hlt
      obtain ⟨z, hz⟩ : ∃ z, xs.getD k 0 = z := ⟨_, rfl⟩
      rw [hz] at hcell
      have HZ := hide hz
      clear hz
      by_cases hx : x = z
      · go_wp2
        go_ret
        exact ⟨_, rfl, ⟨fun _ => mem_at.2 ⟨k, hlt, by rw [unhide HZ, hx]⟩, fun _ => by omega⟩, rfl⟩
      · have hx' : (x == z) = false := by simpa using hx
        go_wp2
        go_roundw
        case rel => exact ⟨k + 1, by omega, by go_num, fun j hj => if e : j = k then by rw [e, unhide HZ]; exact fun q => hx q.symm else unhide HA j (by omega), trivial⟩
        case measure => simp [intOf] <;> omega
    · go_wp2
      go_ret
      refine ⟨_, rfl, ⟨fun h => by omega, fun h => ?_⟩, rfl⟩
      obtain ⟨j, hj, e⟩ := mem_at.1 h
      exact absurd e (unhide HA j (by omega))
theorem contains_any (v : Value) (xs : List Int) (x : Int) (w : World) (h : Nts w v xs) :
    Calls Try.prog 79 #[v, .int .i64 x] w fun e w' => e = .returned (.bool (xs.contains x)) ∧ w = w' := by
  have H := hide h
  clear h
  go_enter Try.func79, Try.ntmps79
  go_wp2_with fail
  refine (index_any v xs x _ (unhide H)).mono ?_
  rintro e w1 ⟨k, rfl, hk, rfl⟩
  have HK := hide hk
  clear hk
  go_wp2
  go_ret
  refine ⟨ret_bool ?_, rfl⟩
  rw [Bool.eq_iff_iff]
  simpa using unhide HK

/-- Sectors that so many bytes need. -/
def secH (n : Int) : Int := if n ≤ 0 then 0 else (n - 1) / 64 + 1
theorem sectorsH_any (n : Int) (w : World) (h0 : -9223372036854775808 ≤ n) (h1 : n ≤ 9223372036854775807) : Calls Try.prog 134 #[.int .i64 n] w fun e w' => e = .returned (.int .i64 (secH n)) ∧ w = w' := by
  by_cases h : n ≤ 0
  · have HC : Hid (secH n = 0) := by show _ = _; unfold secH; rw [if_pos h]
    go_enter Try.func134, Try.ntmps134
    go_wp2
    go_ret
    exact ⟨ret_int (unhide HC).symm, rfl⟩
  · have HC : Hid (secH n = (n - 1) / 64 + 1) := by show _ = _; unfold secH; rw [if_neg h]
    go_enter Try.func134, Try.ntmps134
    go_wp2
    go_ret
    exact ⟨ret_int (unhide HC).symm, rfl⟩
theorem secH_chunk {n : Int} (h : 0 ≤ n) : secH n = (n + 63) / 64 := by unfold secH; split <;> omega

def romQ (h : Int) (l : List Int) (i : Nat) : Bool := inB (l.getD i 0) 0 (h - 1) && !(l.take i).contains (l.getD i 0)
/-- Does a list of sectors hold so many bytes? -/
def romB (h : Int) (l : List Int) (n : Int) : Bool := inB n 0 600 && decide ((l.length : Int) = secH n) && allB l.length (romQ h l)
theorem romB_n {h : Int} {l : List Int} {n : Int} (x : inB n 0 600 = false) : romB h l n = false := by simp [romB, x]
theorem romB_l {h : Int} {l : List Int} {n : Int} (x : ¬ (l.length : Int) = secH n) : romB h l n = false := by simp [romB, x]
theorem romB_q {h : Int} {l : List Int} {n : Int} {k : Nat} (hk : k < l.length) (x : romQ h l k = false) : romB h l n = false := by simp [romB, allB_f hk x]
theorem romB_t {h : Int} {l : List Int} {n : Int} (x : inB n 0 600 = true) (y : (l.length : Int) = secH n) (z : ∀ j, j < l.length → romQ h l j = true) : romB h l n = true := by simp [romB, x, y, allB_t z]

/-- What the check of a list answers. -/
def romE (h : Int) (l : List Int) (n e : Int) : Int := if e = 0 then (if romB h l n then 0 else 2) else e
theorem romE_bad {h : Int} {l : List Int} {n e : Int} (x : e ≠ 0) : romE h l n e = e := by simp [romE, x]
theorem romE_f {h : Int} {l : List Int} {n : Int} (x : romB h l n = false) : romE h l n 0 = 2 := by simp [romE, x]
theorem romE_t {h : Int} {l : List Int} {n : Int} (x : romB h l n = true) : romE h l n 0 = 0 := by simp [romE, x]

end Go.Proofs.Ytdalkkjojflakaa
