/- list.page, list.shared; strings.Index of one letter. -/
import Derived.Test.YtdgmdapijhbocaaGreatLckq
import Derived.Lib.Bytealg
namespace Go.Proofs.YtdgmdapijhbocaaGreat
open Go.RowKit Go.Maps Go.PlainAid
set_option maxRecDepth 100000
set_option linter.unusedVariables false
set_option linter.unusedSimpArgs false
theorem page_any (a : Option Addr) (n c m : Nat) (w : World) (hn : n ≤ c) (hc : c ≤ 9223372036854775807) (hm : m ≤ 1000) :
    Calls Tryz.prog 43 #[.slice a n c, .int .i64 m] w fun e w' => e = .returned (.tuple #[.slice a (min n m) c, .bool (decide (m < n))]) ∧ w = w' := by
  by_cases h : n ≤ m
  · have hmin : min n m = n := by omega
    have hd : decide (m < n) = false := decide_eq_false (by omega)
    rw [hmin, hd]
    go_enter Tryz.func43, Tryz.ntmps43
    go_wp2
    go_ret2
    exact ⟨rfl, rfl⟩
  · have hmin : min n m = m := by omega
    have hd : decide (m < n) = true := decide_eq_true (by omega)
    have hmc : m ≤ c := by omega
    rw [hmin, hd]
    clear hmin hd
    go_enter Tryz.func43, Tryz.ntmps43
    go_wp2
    go_ret2
    exact ⟨rfl, rfl⟩
theorem firstIdx_at (s : ByteArray) (c : UInt8) : firstIdx s c = firstI s.size (fun i => bt s i == (c.toNat : Int)) := by
  have hp : ∀ i, i < s.size → (bt s i == (c.toNat : Int)) = (s[i]! == c) := fun i hi => by
    have e1 : s[i]! = s[i] := getElem!_pos s i hi
    rw [e1]
    unfold bt
    rw [dif_pos hi]
    cases h : (s[i] == c)
    · have h' : ¬ s[i] = c := by simpa using h
      rw [beq_eq_false_iff_ne]
      intro e
      exact h' (UInt8.toNat_inj.1 (by omega))
    · have h' : s[i] = c := by simpa using h
      rw [h']
      simp
  unfold firstIdx
  cases hf : (List.range s.size).find? fun i => s[i]! == c with
  | none =>
    rw [List.find?_eq_none] at hf
    refine (firstI_f fun j hj => ?_).symm
    rw [hp j hj]
    have := hf j (List.mem_range.2 hj)
    simpa using this
  | some k =>
    have h1 := List.find?_some hf
    obtain ⟨hk, hlt⟩ := (List.find?_range_eq_some.1 hf).2
    rw [List.mem_range] at hk
    refine (firstI_t hk ?_ fun j hj => ?_).symm
    · rw [hp k hk]; exact h1
    · rw [hp j (by omega)]
      have := hlt j hj
      simpa using this
theorem bt_cut (s : ByteArray) {p i : Nat} (hp : p ≤ s.size) (hi : i < s.size - p) : bt (s.extract p s.size) i = bt s (p + i) := by
  unfold bt
  have h1 : (s.extract p s.size).size = s.size - p := by simp
  rw [dif_pos (by omega), dif_pos (by omega)]
  simp [ByteArray.getElem_extract]
theorem sidxB_any (s : ByteArray) (c : UInt8) (w : World) : Calls Tryz.prog 184 #[.string s, .int .u8 (c.toNat : Int)] w fun e w' => e = .returned (.int .i64 (firstIdx s c)) ∧ w = w' := by
  have hc : ((c.toNat : Int).toNat.toUInt8) = c := by simp
  have hx : Sem.run Tryz.prog (callFunc 199 #[.string s, .int .u8 (c.toNat : Int)]) w = .ok (.value (.int .i64 (firstIdx s c))) w := by
    rw [run_callFunc_extern Tryz.func199 (by kernel_rfl) (by kernel_rfl) (by kernel_rfl) (e := Extern.BytealgIndexByte.indexByte) (by kernel_rfl), run_indexByte_string, hc]
    rfl
  obtain ⟨R, hR⟩ : ∃ R, firstIdx s c = R := ⟨_, rfl⟩
  rw [hR] at hx ⊢
  have HX := hide hx
  clear hR hc hx
  go_enter Tryz.func184, Tryz.ntmps184
  go_wp2
  rw [unhide HX, Oper.upon_value]
  go_wp2
  go_ret
  exact ⟨rfl, rfl⟩
theorem empT {s : ByteArray} (h : s.size = 0) : s.toList.isEmpty = true := by
  obtain ⟨⟨l⟩⟩ := s
  match l, h with
  | [], _ => rw [ByteArray.toList_eq]; rfl
theorem empF {s : ByteArray} (h : s.size = 1) : s.toList.isEmpty = false := by
  obtain ⟨⟨l⟩⟩ := s
  match l, h with
  | [x], _ => rw [ByteArray.toList_eq]; rfl
theorem bt_u8 {dl : ByteArray} (h : dl.size = 1) : ∃ c : UInt8, bt dl 0 = (c.toNat : Int) := ⟨dl[0], by unfold bt; rw [dif_pos (by omega)]⟩
set_option maxHeartbeats 1000000 in
theorem sidx1_any (s dl : ByteArray) (c : UInt8) (w : World) (hs : s.size ≤ maxLen) (hd : dl.size = 1) (hc : bt dl 0 = (c.toNat : Int)) : Calls Tryz.prog 158 #[.string s, .string dl] w fun e w' => e = .returned (.int .i64 (firstIdx s c)) ∧ w = w' := by
  unfold maxLen at hs
  have hg := get_bt dl 0 (by omega)
  rw [hc] at hg
  have hd1 : (dl.size : Int) = 1 := by omega
  cases t : (dl.toList == s.toList)
  · clear hc
    go_enter Tryz.func158, Tryz.ntmps158
    go_wp2_with fail
    refine (sidxB_any s c _).mono ?_
    rintro e w1 ⟨rfl, rfl⟩
    go_wp2
    go_ret
    exact ⟨rfl, rfl⟩
  · obtain rfl : dl = s := eqS_to t
    have h0 : firstIdx dl c = 0 := by
      rw [firstIdx_at]
      exact firstI_t (k := 0) (by omega) (by rw [hc]; simp) fun j hj => absurd hj (Nat.not_lt_zero _)
    rw [h0]
    clear h0 hc hg
    go_enter Tryz.func158, Tryz.ntmps158
    go_wp2
    go_ret
    exact ⟨rfl, rfl⟩
theorem sIndex_any (s dl : ByteArray) (c : UInt8) (w : World) (hs : s.size ≤ maxLen) (hd : dl.size = 1) (hc : bt dl 0 = (c.toNat : Int)) : Calls Tryz.prog 111 #[.string s, .string dl] w fun e w' => e = .returned (.int .i64 (firstIdx s c)) ∧ w = w' := by
  have HS := hide hs
  have HD := hide hd
  have HC := hide hc
  clear hs hd hc
  go_enter Tryz.func111, Tryz.ntmps111
  go_wp2_with fail
  refine (sidx1_any s dl c _ (unhide HS) (unhide HD) (unhide HC)).mono ?_
  rintro e w1 ⟨rfl, rfl⟩
  go_wp2
  go_ret
  exact ⟨rfl, rfl⟩
theorem posI_first {s dl : ByteArray} {c : UInt8} {p : Nat} (hp : p ≤ s.size) (hc : bt dl 0 = (c.toNat : Int)) : firstIdx (s.extract p s.size) c = posI s (bt dl 0) p := by
  have h1 : (s.extract p s.size).size = s.size - p := by simp
  rw [firstIdx_at, h1, hc]
  unfold posI
  rcases firstI_cases (s.size - p) (fun i => bt s (p + i) == (c.toNat : Int)) with ⟨h2, h3⟩ | ⟨k, hk, h2, h3, h4⟩
  · rw [h2]
    exact firstI_f fun j hj => by rw [bt_cut s hp hj]; exact h3 j hj
  · rw [h2]
    exact firstI_t hk (by rw [bt_cut s hp hk]; exact h3) fun j hj => by rw [bt_cut s hp (by omega)]; exact h4 j hj
theorem posI_bd {s : ByteArray} {c : Int} {p : Nat} (hp : p ≤ s.size) : posI s c p = -1 ∨ ∃ k : Nat, posI s c p = (k : Int) ∧ p + k < s.size := by
  unfold posI
  rcases firstI_cases (s.size - p) (fun i => bt s (p + i) == c) with ⟨h2, h3⟩ | ⟨k, hk, h2, h3, h4⟩
  · exact .inl h2
  · exact .inr ⟨k, h2, by omega⟩
set_option maxHeartbeats 1000000 in
theorem shared_any (r : Ro) (pre dl : ByteArray) (w : World) (hk : r.key.size ≤ maxLen) (hp : pre.size ≤ r.key.size) (hd : dl.size ≤ 1) :
    Calls Tryz.prog 42 #[roV r, .string pre, .string dl] w fun e w' => e = .returned (roV (shR r pre dl)) ∧ Below w.heap.size w w' := by
  unfold maxLen at hk
  by_cases h0 : dl.size = 0
  · have HE : Hid (shR r pre dl = r) := by show _ = _; unfold shR; rw [if_pos h0]
    have hdl := empT h0
    obtain ⟨R, hR⟩ : ∃ R, shR r pre dl = R := ⟨_, rfl⟩
    rw [hR] at HE ⊢
    clear hR h0 hd
    rw [unhide HE]
    clear HE
    go_enter Tryz.func42, Tryz.ntmps42
    go_wp2
    refine bodyPost_ret (v := roV r) (by simp [results, Tryz.results42, go_sem, *]) rfl ⟨rfl, bl_alloc (bl1 _ _) _⟩
  · have hd1 : dl.size = 1 := by omega
    obtain ⟨c, hc⟩ := bt_u8 hd1
    have HE : Hid (shR r pre dl = if posI r.key (bt dl 0) pre.size < 0 then r else ⟨r.key.extract 0 (pre.size + (posI r.key (bt dl 0) pre.size).toNat + 1), true, 0, false, false, 0, 0⟩) := by show _ = _; unfold shR; rw [if_neg h0]
    have HP := hide (posI_first hp hc)
    have hbd := posI_bd (c := bt dl 0) hp
    obtain ⟨R, hR⟩ : ∃ R, shR r pre dl = R := ⟨_, rfl⟩
    obtain ⟨P, hP⟩ : ∃ P, posI r.key (bt dl 0) pre.size = P := ⟨_, rfl⟩
    rw [hR] at HE ⊢
    rw [hP] at HP HE hbd
    have HD := hide hd1
    have HC := hide hc
    have hne := empF hd1
    clear hR hP h0 hd hc
    go_enter Tryz.func42, Tryz.ntmps42
    go_wp2_with fail
    refine (sIndex_any _ dl c _ (by simp [maxLen]; omega) (unhide HD) (unhide HC)).mono ?_
    rintro e w1 ⟨rfl, rfl⟩
    rw [unhide HP]
    clear HP
    rcases hbd with rfl | ⟨k, rfl, hkb⟩
    · have HR : Hid (R = r) := by show _ = _; rw [unhide HE, if_pos (by decide)]
      clear HE
      go_wp2
      rw [unhide HR]
      refine bodyPost_ret (v := roV r) (by simp [results, Tryz.results42, go_sem, *]) rfl ⟨rfl, bl_alloc (bl1 _ _) _⟩
    · have HR : Hid (R = ⟨r.key.extract 0 (pre.size + k + 1), true, 0, false, false, 0, 0⟩) := by show _ = _; rw [unhide HE, if_neg (by omega), Int.toNat_natCast]
      clear HE
      go_wp2
      rw [unhide HR]
      refine bodyPost_ret (v := roV ⟨r.key.extract 0 (pre.size + k + 1), true, 0, false, false, 0, 0⟩) (by simp [results, Tryz.results42, go_sem, *]) rfl ⟨rfl, bl_alloc (bl1 _ _) _⟩
end Go.Proofs.YtdgmdapijhbocaaGreat
