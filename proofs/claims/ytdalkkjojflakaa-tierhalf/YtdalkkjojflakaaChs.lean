/- state.Check: whatever the state. -/
import Derived.Test.YtdalkkjojflakaaNuv
namespace Go.Proofs.Ytdalkkjojflakaa
open Go.RowKit Go.Maps
set_option maxRecDepth 100000
set_option linter.unusedVariables false
set_option linter.unusedSimpArgs false
theorem flat_len {α : Type} (f : α → List Int) (m : Nat) : ∀ l : List α, (∀ x ∈ l, (f x).length ≤ m) → (l.flatMap f).length ≤ l.length * m
  | [], _ => by simp
  | x :: l, h => by
    have h1 := h x (by simp)
    have h2 := flat_len f m l fun y hy => h y (by simp [hy])
    simp only [List.flatMap_cons, List.length_append, List.length_cons]
    rw [Nat.succ_mul]
    omega
theorem secN_le {n : Int} (h : n ≤ 600) : secN n ≤ 10 := by unfold secN; split <;> omega
theorem veC_sec {S : St} {x : Ve} (h : veC S x = true) : x.sec.length ≤ 10 := by
  unfold veC at h
  simp only [Bool.and_eq_true] at h
  obtain ⟨_, h⟩ := h
  split at h
  · simp at h; have := h.1.1.2; simp [this]
  · simp only [Bool.and_eq_true] at h
    obtain ⟨hs, h⟩ := h
    have hs2 := secN_le (inB_t hs).2
    split at h
    · simp only [Bool.and_eq_true, beq_iff_eq] at h; omega
    · split at h
      · simp only [Bool.and_eq_true, beq_iff_eq] at h; omega
      · split at h
        · simp only [Bool.and_eq_true, beq_iff_eq] at h; omega
        · cases h
theorem mem_at {α : Type} {l : List α} {x d : α} (h : x ∈ l) : ∃ k, k < l.length ∧ l.getD k d = x := by
  obtain ⟨k, hk, rfl⟩ := List.getElem_of_mem h
  exact ⟨k, hk, by simp [List.getD, hk]⟩
theorem secs_le {S : St} (h1 : vesC S = true) (h2 : upsC S = true) : (secs S).length ≤ 1000 := by
  unfold vesC at h1
  unfold upsC at h2
  simp only [Bool.and_eq_true, decide_eq_true_eq] at h1 h2
  obtain ⟨⟨⟨a1, _⟩, a2⟩, _⟩ := h1
  obtain ⟨⟨b1, _⟩, b2⟩ := h2
  have e1 := flat_len (fun x : Ve => x.sec) 10 S.ves fun x hx => by
    obtain ⟨k, hk, e⟩ := mem_at (d := ve0) hx
    have := allB_iff.1 a2 k hk
    unfold vesQ at this
    rw [e] at this
    exact veC_sec this
  have e2 := flat_len (fun x : Up => x.parts.flatMap (·.sec)) 50 S.ups fun x hx => by
    obtain ⟨k, hk, e⟩ := mem_at (d := up0) hx
    have := allB_iff.1 b2 k hk
    unfold upsQ upC at this
    rw [e] at this
    simp only [Bool.and_eq_true] at this
    have hp := this.2
    unfold pasC at hp
    simp only [Bool.and_eq_true, decide_eq_true_eq] at hp
    have e3 := flat_len (fun y : Pa => y.sec) 10 x.parts fun y hy => by
      obtain ⟨k, hk, e⟩ := mem_at (d := pa0) hy
      have := allB_iff.1 hp.2 k hk
      unfold pasQ paC at this
      rw [e] at this
      simp only [Bool.and_eq_true, beq_iff_eq] at this
      have h6 := secN_le (inB_t this.1.2).2
      omega
    have : x.parts.length ≤ 5 := by have := hp.1.1; omega
    show (x.parts.flatMap fun y => y.sec).length ≤ 50
    omega
  have l1 : S.ves.length ≤ 40 := by omega
  have l2 : S.ups.length ≤ 4 := by omega
  unfold secs
  rw [List.length_append]
  have : (S.ves.flatMap fun x => x.sec).length ≤ 400 := by omega
  have : (S.ups.flatMap fun x => x.parts.flatMap fun y => y.sec).length ≤ 200 := by omega
  omega
/-- A state may be, as the code asks it. -/
def stC (S : St) : Bool := inB S.next 1 1048576 && inB S.clock 0 1073741824 && goneC S.gone && busC S.bus && vesC S && upsC S && queC S && secC S
def stE (S : St) : Int := if stC S then 0 else 9
theorem stE_t {S : St} (h : stC S = true) : stE S = 0 := by unfold stE; rw [h]; rfl
theorem stE_f {S : St} (h : stC S = false) : stE S = 9 := by unfold stE; rw [h]; rfl
set_option maxHeartbeats 2000000 in
theorem check_any (S : St) (b v u q g : Value) (w : World) (hS : Sta w b v u q g S) : Calls Try.prog 40 #[stV S b v u q g] w fun e w' => e = .returned (.int .i64 (stE S)) ∧ Below w.heap.size w w' := by
  have HS := hide hS
  clear hS
  have HE : Hid (stC S = (inB S.next 1 1048576 && inB S.clock 0 1073741824 && goneC S.gone && busC S.bus && vesC S && upsC S && queC S && secC S)) := rfl
  have hlt : ∀ o, w.heap.size < (w.alloc o).heap.size := fun o => by simp
  go_enter Try.func40, Try.ntmps40
  go_wp2_with fail
  refine (within_any _ _ _ _).mono ?_
  rintro e w1 ⟨rfl, rfl⟩
  cases h1 : inB S.next 1 1048576
  · have HF : Hid (stE S = 9) := stE_f (by rw [unhide HE, h1]; rfl)
    go_wp2
    go_ret
    exact ⟨ret_int (unhide HF).symm, bl1 _ _⟩
  obtain ⟨hx, hx2⟩ := inB_t h1
  rw [h1] at HE
  clear h1
  go_wp2_with fail
  refine (within_any _ _ _ _).mono ?_
  rintro e w1 ⟨rfl, rfl⟩
  cases h1 : inB S.clock 0 1073741824
  · have HF : Hid (stE S = 9) := stE_f (by rw [unhide HE, h1]; rfl)
    go_wp2
    go_ret
    exact ⟨ret_int (unhide HF).symm, bl1 _ _⟩
  rw [h1] at HE
  clear h1
  go_wp2_with fail
  refine (goneMayBe_any g S.gone _ ((unhide HS).up (bl1 _ _)).gone).mono ?_
  rintro e w1 ⟨rfl, hb⟩
  have hw1 : Below w.heap.size w w1 := bl_trans (bl1 _ _) hb
  have hX1 := (BoxS.new w S b v u q g 59).up hb
  clear hb
  have x0 := hX1.c0
  have x1 := hX1.c1
  have x2 := hX1.c2
  have x3 := hX1.c3
  have x4 := hX1.c4
  have x5 := hX1.c5
  have x6 := hX1.c6
  have HXB := hide hX1
  clear hX1
  cases h1 : goneC S.gone
  · have HF : Hid (stE S = 9) := stE_f (by rw [unhide HE, h1]; first | rfl | simp)
    clear h1
    go_wp2
    go_ret
    exact ⟨ret_int (unhide HF).symm, hw1⟩
  rw [h1] at HE
  clear h1
  go_wp2_with fail
  refine (bucketsMayBe_any b S.bus _ ((unhide HS).up hw1).bus).mono ?_
  rintro e w2 ⟨rfl, hb⟩
  have hw2 : Below w.heap.size w w2 := bl_trans hw1 hb
  have hX2 := (unhide HXB).up hb
  clear x0 x1 x2 x3 x4 x5 x6 hb HXB
  have x0 := hX2.c0
  have x1 := hX2.c1
  have x2 := hX2.c2
  have x3 := hX2.c3
  have x4 := hX2.c4
  have x5 := hX2.c5
  have x6 := hX2.c6
  have HXB := hide hX2
  clear hX2
  cases h1 : busC S.bus
  · have HF : Hid (stE S = 9) := stE_f (by rw [unhide HE, h1]; first | rfl | simp)
    clear h1
    go_wp2
    go_ret
    exact ⟨ret_int (unhide HF).symm, hw2⟩
  rw [h1] at HE
  clear h1
  go_wp2_with fail
  refine (versionsMayBe_any S b v u q g _ ((unhide HS).up hw2) hx hx2).mono ?_
  rintro e w3 ⟨rfl, hb⟩
  have hw3 : Below w.heap.size w w3 := bl_trans hw2 hb
  have hX3 := (unhide HXB).up hb
  clear x0 x1 x2 x3 x4 x5 x6 hb HXB
  have x0 := hX3.c0
  have x1 := hX3.c1
  have x2 := hX3.c2
  have x3 := hX3.c3
  have x4 := hX3.c4
  have x5 := hX3.c5
  have x6 := hX3.c6
  have HXB := hide hX3
  clear hX3
  cases h1 : vesC S
  · have HF : Hid (stE S = 9) := stE_f (by rw [unhide HE, h1]; first | rfl | simp)
    clear h1
    go_wp2
    go_ret
    exact ⟨ret_int (unhide HF).symm, hw3⟩
  rw [h1] at HE
  have HvesC := hide h1
  clear h1
  go_wp2_with fail
  refine (uploadsMayBe_any S b v u q g _ ((unhide HS).up hw3) hx hx2).mono ?_
  rintro e w4 ⟨rfl, hb⟩
  have hw4 : Below w.heap.size w w4 := bl_trans hw3 hb
  have hX4 := (unhide HXB).up hb
  clear x0 x1 x2 x3 x4 x5 x6 hb HXB
  have x0 := hX4.c0
  have x1 := hX4.c1
  have x2 := hX4.c2
  have x3 := hX4.c3
  have x4 := hX4.c4
  have x5 := hX4.c5
  have x6 := hX4.c6
  have HXB := hide hX4
  clear hX4
  cases h1 : upsC S
  · have HF : Hid (stE S = 9) := stE_f (by rw [unhide HE, h1]; first | rfl | simp)
    clear h1
    go_wp2
    go_ret
    exact ⟨ret_int (unhide HF).symm, hw4⟩
  rw [h1] at HE
  have HupsC := hide h1
  clear h1
  go_wp2_with fail
  refine (queueMayBe_any S b v u q g _ ((unhide HS).up hw4)).mono ?_
  rintro e w5 ⟨rfl, hb⟩
  have hw5 : Below w.heap.size w w5 := bl_trans hw4 hb
  have hX5 := (unhide HXB).up hb
  clear x0 x1 x2 x3 x4 x5 x6 hb HXB
  have x0 := hX5.c0
  have x1 := hX5.c1
  have x2 := hX5.c2
  have x3 := hX5.c3
  have x4 := hX5.c4
  have x5 := hX5.c5
  have x6 := hX5.c6
  have HXB := hide hX5
  clear hX5
  cases h1 : queC S
  · have HF : Hid (stE S = 9) := stE_f (by rw [unhide HE, h1]; first | rfl | simp)
    clear h1
    go_wp2
    go_ret
    exact ⟨ret_int (unhide HF).symm, hw5⟩
  rw [h1] at HE
  clear h1
  go_wp2_with fail
  refine (sectorsMayBe_any S b v u q g _ ((unhide HS).up hw5) (Nat.lt_of_le_of_lt (secs_le (unhide HvesC) (unhide HupsC)) (by decide))).mono ?_
  rintro e w6 ⟨rfl, hb⟩
  have hw6 : Below w.heap.size w w6 := bl_trans hw5 hb
  have hX6 := (unhide HXB).up hb
  clear x0 x1 x2 x3 x4 x5 x6 hb HXB
  cases h1 : secC S
  · have HF : Hid (stE S = 9) := stE_f (by rw [unhide HE, h1]; first | rfl | simp)
    clear h1
    go_wp2
    go_ret
    exact ⟨ret_int (unhide HF).symm, hw6⟩
  · have HF : Hid (stE S = 0) := stE_t (by rw [unhide HE, h1]; first | rfl | simp)
    clear h1
    go_wp2
    go_ret
    exact ⟨ret_int (unhide HF).symm, hw6⟩
end Go.Proofs.Ytdalkkjojflakaa
