/- tier's closures: what a rule is for; versions on tape. -/
import Derived.Test.YtkogbgeadlnnfaaFre
namespace Go.Proofs.Ytkogbgeadlnnfaa
open Go.RowKit Go.Maps
set_option maxRecDepth 100000
set_option linter.unusedVariables false
set_option linter.unusedSimpArgs false
/-- Does a text begin with another? -/
def pfB (s t : ByteArray) : Bool := if t.size ≤ s.size then (s.extract 0 t.size).toList == t.toList else false
theorem pfxL_any (s t : ByteArray) (w : World) (hs : s.size ≤ maxLen) (ht : t.size ≤ maxLen) :
    Calls Try.prog 68 #[.string s, .string t] w fun e w' => e = .returned (.bool (pfB s t)) ∧ w = w' := by
  unfold maxLen at hs ht
  have HP : Hid (pfB s t = if t.size ≤ s.size then (s.extract 0 t.size).toList == t.toList else false) := rfl
  obtain ⟨N, hN⟩ : ∃ N, s.size = N := ⟨_, rfl⟩
  obtain ⟨M, hM⟩ : ∃ M, t.size = M := ⟨_, rfl⟩
  rw [hN] at hs
  rw [hM] at ht
  by_cases h : M ≤ N
  · have HP' : Hid (pfB s t = ((s.extract 0 M).toList == t.toList)) := by show _ = _; rw [unhide HP, hN, hM, if_pos h]
    go_enter Try.func68, Try.ntmps68
    go_wp2
    go_ret
    exact ⟨ret_bool (unhide HP').symm, rfl⟩
  · have HP' : Hid (pfB s t = false) := by show _ = _; rw [unhide HP, hN, hM, if_neg h]
    go_enter Try.func68, Try.ntmps68
    go_wp2
    go_ret
    exact ⟨ret_bool (unhide HP').symm, rfl⟩
theorem beginsD_any (s t : ByteArray) (w : World) (hs : s.size ≤ maxLen) (ht : t.size ≤ maxLen) :
    Calls Try.prog 56 #[.string s, .string t] w fun e w' => e = .returned (.bool (pfB s t)) ∧ w = w' := by
  unfold maxLen at hs ht
  have HP : Hid (pfB s t = if t.size ≤ s.size then (s.extract 0 t.size).toList == t.toList else false) := rfl
  obtain ⟨N, hN⟩ : ∃ N, s.size = N := ⟨_, rfl⟩
  obtain ⟨M, hM⟩ : ∃ M, t.size = M := ⟨_, rfl⟩
  rw [hN] at hs
  rw [hM] at ht
  by_cases h : M ≤ N
  · have HP' : Hid (pfB s t = ((s.extract 0 M).toList == t.toList)) := by show _ = _; rw [unhide HP, hN, hM, if_pos h]
    go_enter Try.func56, Try.ntmps56
    go_wp2
    go_ret
    exact ⟨ret_bool (unhide HP').symm, rfl⟩
  · have HP' : Hid (pfB s t = false) := by show _ = _; rw [unhide HP, hN, hM, if_neg h]
    go_enter Try.func56, Try.ntmps56
    go_wp2
    go_ret
    exact ⟨ret_bool (unhide HP').symm, rfl⟩
theorem prefix_any (s t : ByteArray) (w : World) (hs : s.size ≤ maxLen) (ht : t.size ≤ maxLen) :
    Calls Try.prog 47 #[.string s, .string t] w fun e w' => e = .returned (.bool (pfB s t)) ∧ w = w' := by
  have HS := hide hs
  have HT := hide ht
  clear hs ht
  go_enter Try.func47, Try.ntmps47
  go_wp2_with fail
  refine (pfxL_any s t _ (unhide HS) (unhide HT)).mono ?_
  rintro e w1 ⟨rfl, rfl⟩
  go_wp2
  go_ret
  exact ⟨rfl, rfl⟩
def ageN (dr : Bool) (Y : Bu) : Int := if dr then Y.dro else Y.fre
/-- Is a rule's number for a version? -/
def ageP (S : St) (X : Ve) (dr : Bool) (Y : Bu) : Bool := ((eqS Y.nam X.bu && decide (0 ≤ ageN dr Y)) && pfB X.ke Y.pre) && decide (ageN dr Y ≤ S.clock - X.time)
structure BoxV (w : World) (B : Nat) (X : Ve) (u : Value) : Prop where
  c0 : w.cell? ⟨B, 0, none⟩ = some (.int .i64 X.id)
  c1 : w.cell? ⟨B, 1, none⟩ = some (.string X.bu)
  c2 : w.cell? ⟨B, 2, none⟩ = some (.string X.ke)
  c3 : w.cell? ⟨B, 3, none⟩ = some (.bool X.nul)
  c4 : w.cell? ⟨B, 4, none⟩ = some (.bool X.mar)
  c5 : w.cell? ⟨B, 5, none⟩ = some (.int .i64 X.size)
  c6 : w.cell? ⟨B, 6, none⟩ = some (.int .i64 X.time)
  c7 : w.cell? ⟨B, 7, none⟩ = some (.int .i64 X.tier)
  c8 : w.cell? ⟨B, 8, none⟩ = some u
  c9 : w.cell? ⟨B, 9, none⟩ = some (.int .i64 X.vol)
  c10 : w.cell? ⟨B, 10, none⟩ = some (.int .i64 X.pos)
  c11 : w.cell? ⟨B, 11, none⟩ = some (.int .i64 X.til)
theorem BoxV.up {w w' : World} {B : Nat} {X : Ve} {u : Value} (h : BoxV w B X u) (hb : Below w.heap.size w w') : BoxV w' B X u := ⟨scell_up hb h.c0, scell_up hb h.c1, scell_up hb h.c2, scell_up hb h.c3, scell_up hb h.c4, scell_up hb h.c5, scell_up hb h.c6, scell_up hb h.c7, scell_up hb h.c8, scell_up hb h.c9, scell_up hb h.c10, scell_up hb h.c11⟩
theorem BoxV.lt {w : World} {B : Nat} {X : Ve} {u : Value} (h : BoxV w B X u) : B < w.heap.size := World.block_lt_of_cell? w _ h.c0
abbrev veB (X : Ve) (o : Value) : Array Value := #[.int .i64 X.id, .string X.bu, .string X.ke, .bool X.nul, .bool X.mar, .int .i64 X.size, .int .i64 X.time, .int .i64 X.tier, o, .int .i64 X.vol, .int .i64 X.pos, .int .i64 X.til]
theorem BoxV.new (w : World) (X : Ve) (u : Value) (t : TypeId) : BoxV (w.alloc (.cells (veB X u) t)) w.heap.size X u := by
  constructor <;> (rw [World.cell?_alloc_at _ _ _ _ rfl]; rfl)
theorem BoxV.at (w : World) (X : Ve) (u : Value) (t : TypeId) {B : Nat} (hB : B = w.heap.size) : BoxV (w.alloc (.cells (veB X u) t)) B X u := by subst hB; exact BoxV.new w X u t
theorem tnum_fre (Y : Bu) (w : World) : Calls Try.prog 29 #[.agg #[.string Y.pre, .int .i64 Y.fre, .int .i64 Y.dro]] w fun e w' => e = .returned (.int .i64 (ageN false Y)) ∧ Below w.heap.size w w' := by
  go_enter Try.func29, Try.ntmps29
  go_wp2
  go_ret
  exact ⟨rfl, bl1 _ _⟩
set_option maxHeartbeats 1000000 in
theorem isFor_1_fre (S : St) (X : Ve) (b v u q g uv : Value) (Y : Bu) (F V B : Nat) (w : World) (hF : w.cell? ⟨F, 0, none⟩ = some (.func (.func 29) #[] #[])) (hV : BoxV w V X uv) (hB : BoxS w B S b v u q g)
    (hc0 : 0 ≤ S.clock) (hc1 : S.clock ≤ 1073741824) (ht0 : 0 ≤ X.time) (ht1 : X.time ≤ 1073741824) (hk : X.ke.size ≤ maxLen) (hp : Y.pre.size ≤ maxLen) :
    Calls Try.prog 46 #[buV Y, .pointer (some ⟨F, 0, none⟩), .pointer (some ⟨V, 0, none⟩), .pointer (some ⟨B, 0, none⟩)] w fun e w' => e = .returned (.bool (ageP S X false Y)) ∧ Below w.heap.size w w' := by
  have HE : Hid (ageP S X false Y = (((((Y.nam.toList == X.bu.toList) && decide (0 ≤ ageN false Y)) && pfB X.ke Y.pre) && decide (ageN false Y ≤ S.clock - X.time)))) := rfl
  obtain ⟨R, hR⟩ : ∃ R, ageP S X false Y = R := ⟨_, rfl⟩
  rw [hR] at HE ⊢
  clear hR
  have HV := hide hV
  have HB := hide hB
  have HK := hide hk
  have HP := hide hp
  have hVl := hV.lt
  have hBl := hB.lt
  have hFl : F < w.heap.size := World.block_lt_of_cell? w _ hF
  clear hV hB hk hp
  go_enter Try.func46, Try.ntmps46
  go_wp2_with fail
  refine (tnum_fre Y _).mono ?_
  rintro e w1 ⟨rfl, hb⟩
  have hw1 := bl_trans (bl1 w _) hb
  have y0 := box1 hb 0 rfl
  have y2 := box1 hb 2 rfl
  have hV1 := (unhide HV).up hw1
  have hB1 := (unhide HB).up hw1
  have v1 := hV1.c1
  have v2 := hV1.c2
  have v6 := hV1.c6
  have s1 := hB1.c1
  clear hV1 hB1 hb hF
  obtain ⟨n, hn⟩ : ∃ n, ageN false Y = n := ⟨_, rfl⟩
  rw [hn] at HE ⊢
  clear hn
  cases t : (Y.nam.toList == X.bu.toList)
  · rw [t] at HE
    have HR : Hid (R = false) := unhide HE
    clear HE
    go_wp2
    go_ret
    exact ⟨ret_bool (unhide HR).symm, hw1⟩
  rw [t] at HE
  cases hd : decide (0 ≤ n)
  · have h0 := of_decide_eq_false hd
    rw [hd] at HE
    clear hd
    have HR : Hid (R = false) := unhide HE
    clear HE
    go_wp2
    go_ret
    exact ⟨ret_bool (unhide HR).symm, hw1⟩
  have h0 := of_decide_eq_true hd
  rw [hd] at HE
  clear hd
  cases hpf : pfB X.ke Y.pre
  · rw [hpf] at HE
    have HR : Hid (R = false) := unhide HE
    clear HE
    go_wp2_with (fail)
    refine (prefix_any X.ke Y.pre _ (unhide HK) (unhide HP)).mono ?_
    rintro e w2 ⟨rfl, rfl⟩
    rw [hpf]
    clear hpf
    go_wp2
    go_ret
    exact ⟨ret_bool (unhide HR).symm, hw1⟩
  · rw [hpf] at HE
    have HR : Hid (R = decide (n ≤ S.clock - X.time)) := unhide HE
    clear HE
    go_wp2_with (fail)
    refine (prefix_any X.ke Y.pre _ (unhide HK) (unhide HP)).mono ?_
    rintro e w2 ⟨rfl, rfl⟩
    rw [hpf]
    clear hpf
    go_wp2
    go_ret
    exact ⟨ret_bool (unhide HR).symm, hw1⟩
theorem tnum_dro (Y : Bu) (w : World) : Calls Try.prog 33 #[.agg #[.string Y.pre, .int .i64 Y.fre, .int .i64 Y.dro]] w fun e w' => e = .returned (.int .i64 (ageN true Y)) ∧ Below w.heap.size w w' := by
  go_enter Try.func33, Try.ntmps33
  go_wp2
  go_ret
  exact ⟨rfl, bl1 _ _⟩
set_option maxHeartbeats 1000000 in
theorem isFor_1_dro (S : St) (X : Ve) (b v u q g uv : Value) (Y : Bu) (F V B : Nat) (w : World) (hF : w.cell? ⟨F, 0, none⟩ = some (.func (.func 33) #[] #[])) (hV : BoxV w V X uv) (hB : BoxS w B S b v u q g)
    (hc0 : 0 ≤ S.clock) (hc1 : S.clock ≤ 1073741824) (ht0 : 0 ≤ X.time) (ht1 : X.time ≤ 1073741824) (hk : X.ke.size ≤ maxLen) (hp : Y.pre.size ≤ maxLen) :
    Calls Try.prog 46 #[buV Y, .pointer (some ⟨F, 0, none⟩), .pointer (some ⟨V, 0, none⟩), .pointer (some ⟨B, 0, none⟩)] w fun e w' => e = .returned (.bool (ageP S X true Y)) ∧ Below w.heap.size w w' := by
  have HE : Hid (ageP S X true Y = (((((Y.nam.toList == X.bu.toList) && decide (0 ≤ ageN true Y)) && pfB X.ke Y.pre) && decide (ageN true Y ≤ S.clock - X.time)))) := rfl
  obtain ⟨R, hR⟩ : ∃ R, ageP S X true Y = R := ⟨_, rfl⟩
  rw [hR] at HE ⊢
  clear hR
  have HV := hide hV
  have HB := hide hB
  have HK := hide hk
  have HP := hide hp
  have hVl := hV.lt
  have hBl := hB.lt
  have hFl : F < w.heap.size := World.block_lt_of_cell? w _ hF
  clear hV hB hk hp
  go_enter Try.func46, Try.ntmps46
  go_wp2_with fail
  refine (tnum_dro Y _).mono ?_
  rintro e w1 ⟨rfl, hb⟩
  have hw1 := bl_trans (bl1 w _) hb
  have y0 := box1 hb 0 rfl
  have y2 := box1 hb 2 rfl
  have hV1 := (unhide HV).up hw1
  have hB1 := (unhide HB).up hw1
  have v1 := hV1.c1
  have v2 := hV1.c2
  have v6 := hV1.c6
  have s1 := hB1.c1
  clear hV1 hB1 hb hF
  obtain ⟨n, hn⟩ : ∃ n, ageN true Y = n := ⟨_, rfl⟩
  rw [hn] at HE ⊢
  clear hn
  cases t : (Y.nam.toList == X.bu.toList)
  · rw [t] at HE
    have HR : Hid (R = false) := unhide HE
    clear HE
    go_wp2
    go_ret
    exact ⟨ret_bool (unhide HR).symm, hw1⟩
  rw [t] at HE
  cases hd : decide (0 ≤ n)
  · have h0 := of_decide_eq_false hd
    rw [hd] at HE
    clear hd
    have HR : Hid (R = false) := unhide HE
    clear HE
    go_wp2
    go_ret
    exact ⟨ret_bool (unhide HR).symm, hw1⟩
  have h0 := of_decide_eq_true hd
  rw [hd] at HE
  clear hd
  cases hpf : pfB X.ke Y.pre
  · rw [hpf] at HE
    have HR : Hid (R = false) := unhide HE
    clear HE
    go_wp2_with (fail)
    refine (prefix_any X.ke Y.pre _ (unhide HK) (unhide HP)).mono ?_
    rintro e w2 ⟨rfl, rfl⟩
    rw [hpf]
    clear hpf
    go_wp2
    go_ret
    exact ⟨ret_bool (unhide HR).symm, hw1⟩
  · rw [hpf] at HE
    have HR : Hid (R = decide (n ≤ S.clock - X.time)) := unhide HE
    clear HE
    go_wp2_with (fail)
    refine (prefix_any X.ke Y.pre _ (unhide HK) (unhide HP)).mono ?_
    rintro e w2 ⟨rfl, rfl⟩
    rw [hpf]
    clear hpf
    go_wp2
    go_ret
    exact ⟨ret_bool (unhide HR).symm, hw1⟩
end Go.Proofs.Ytkogbgeadlnnfaa
