/- tier.Next. -/
import Derived.Test.YtbfhkbmcleglaaaGreatTidq
namespace Go.Proofs.YtbfhkbmcleglaaaGreat
open Go.RowKit Go.Maps
set_option maxRecDepth 100000
set_option linter.unusedVariables false
set_option linter.unusedSimpArgs false
/-- The first of the least class of the first k + 1 that are asked for. -/
def nexK (l : List Ak) : Nat → Ak
  | 0 => l.getD 0 ak0
  | k + 1 => if (l.getD (k + 1) ak0).cls < (nexK l k).cls then l.getD (k + 1) ak0 else nexK l k
def nexE (S : St) : Int := if stC S then (if S.que.length = 0 then 14 else 0) else 9
def nexA (S : St) : Ak := if stC S then (if S.que.length = 0 then ak0 else nexK S.que (S.que.length - 1)) else ak0
theorem nex_9 {S : St} (h : stC S = false) : nexE S = 9 ∧ nexA S = ak0 := by simp [nexE, nexA, h]
theorem nex_14 {S : St} (h : stC S = true) (h2 : S.que.length = 0) : nexE S = 14 ∧ nexA S = ak0 := by simp [nexE, nexA, h, h2]
theorem nex_0 {S : St} (h : stC S = true) (h2 : ¬ S.que.length = 0) : nexE S = 0 ∧ nexA S = nexK S.que (S.que.length - 1) := by simp [nexE, nexA, h, h2]
abbrev akB (x : Ak) : Array Value := #[.int .i64 x.ver, .int .i64 x.days, .int .i64 x.cls]
theorem ret_ask {X Y : Ak} {a b : Int} (h : X = Y) (h2 : a = b) : Ending.returned (.tuple #[.agg #[.int .i64 X.ver, .int .i64 X.days, .int .i64 X.cls], .int .i64 a]) = .returned (.tuple #[.agg #[.int .i64 Y.ver, .int .i64 Y.days, .int .i64 Y.cls], .int .i64 b]) := by rw [h, h2]
theorem tcell_of {w : World} {g : Nat} {c : Array Value} {t : TypeId} {fz : Nat × Nat} (h : w.heap[g]? = some (.cells c t fz)) (j : Nat) {v : Value} (hv : c[j]? = some v) : w.cell? ⟨g, j, none⟩ = some v := by simp [World.cell?, h, hv]
theorem tfz_of {w : World} {g : Nat} {c : Array Value} {t : TypeId} (h : w.heap[g]? = some (.cells c t (0, 0))) (i : Nat) : w.frozen? ⟨g, i, none⟩ = false := by simp [World.frozen?, h]
theorem t_blk {w w1 : World} {g : Nat} {o : Obj} (h : w.heap[g]? = some o) (hb : Below w.heap.size w w1) : w1.heap[g]? = some o := (hb.block _ (Array.getElem?_eq_some_iff.1 h).1).trans h
theorem t_new1 (w : World) (o : Obj) : (w.alloc o).heap[w.heap.size]? = some o := heap_alloc_new w o
theorem t_new2 (w : World) (o o2 : Obj) : ((w.alloc o).alloc o2).heap[w.heap.size + 1]? = some o2 := by simpa using heap_alloc_new (w.alloc o) o2
theorem row3 {w : World} {g : Nat} {t : TypeId} {a0 a1 a2 : Value} (h : w.heap[g]? = some (.cells #[a0, a1, a2] t (0, 0))) (v0 v1 v2 : Value) :
    (((w.setCell ⟨g, 0, none⟩ v0).setCell ⟨g, 1, none⟩ v1).setCell ⟨g, 2, none⟩ v2).heap[g]? = some (.cells #[v0, v1, v2] t (0, 0)) := by
  replace h := heap_setCell_same w g 0 _ t v0 h
  replace h := heap_setCell_same _ g 1 _ t v1 h
  replace h := heap_setCell_same _ g 2 _ t v2 h
  exact h
set_option maxHeartbeats 1000000 in
theorem tNext_any (S : St) (b v u q g : Value) (w : World) (hS : Sta w b v u q g S) :
    Calls Tryz.prog 41 #[stV S b v u q g] w fun e w' => e = .returned (.tuple #[.agg #[.int .i64 (nexA S).ver, .int .i64 (nexA S).days, .int .i64 (nexA S).cls], .int .i64 (nexE S)]) ∧ Below w.heap.size w w' := by
  obtain ⟨qa, qc, rfl, hq1, hq2⟩ := hS.que.form
  unfold maxLen at hq2
  have HS := hide hS
  clear hS
  obtain ⟨A, hA⟩ : ∃ A, nexA S = A := ⟨_, rfl⟩
  obtain ⟨F, hF⟩ : ∃ F, nexE S = F := ⟨_, rfl⟩
  rw [hA, hF]
  have HA := hide hA
  have HF := hide hF
  clear hA hF
  go_enter Tryz.func41, Tryz.ntmps41
  go_wp2_with fail
  refine (check_any S b v u _ g _ ((unhide HS).up (bl_alloc (bl1 _ _) _))).mono ?_
  rintro e w1 ⟨rfl, hb⟩
  have hw1 := bl_trans (bl_alloc (bl1 w _) _) hb
  have hX := ((BoxS.new w S b v u (.slice qa S.que.length qc) g 29).up (bl1 _ _)).up hb
  have r1 := t_blk (t_new2 _ _ _) hb
  have x5 := hX.c5
  have hl1 := hX.lt
  have z0 := tcell_of r1 0 rfl
  have z1 := tcell_of r1 1 rfl
  have z2 := tcell_of r1 2 rfl
  have zf := fun j => tfz_of r1 j
  have hl2 : w.heap.size + 1 < w1.heap.size := World.block_lt_of_cell? w1 _ z0
  clear hX hb
  cases hc : stC S
  · obtain ⟨k1, k2⟩ := nex_9 hc
    have hf := stE_f hc
    have HA' : Hid (A = ak0) := by show _ = _; rw [← unhide HA]; exact k2
    have HF' : Hid (F = 9) := by show _ = _; rw [← unhide HF]; exact k1
    rw [hf]
    clear k1 k2 hf hc r1
    go_wp2
    refine bodyPost_ret (v := .tuple #[.agg #[.int .i64 0, .int .i64 0, .int .i64 0], .int .i64 9]) (by simp [results, Tryz.results41, go_sem, *]) rfl ⟨?_, ?_⟩
    · rw [unhide HA', unhide HF']; rfl
    · (iterate 3 (refine bl_set ?_ (by simp <;> omega) _))
      exact hw1
  have hf := stE_t hc
  rw [hf]
  by_cases h0 : S.que.length = 0
  · obtain ⟨k1, k2⟩ := nex_14 hc h0
    have HA' : Hid (A = ak0) := by show _ = _; rw [← unhide HA]; exact k2
    have HF' : Hid (F = 14) := by show _ = _; rw [← unhide HF]; exact k1
    clear k1 k2 hf hc r1
    go_wp2
    refine bodyPost_ret (v := .tuple #[.agg #[.int .i64 0, .int .i64 0, .int .i64 0], .int .i64 14]) (by simp [results, Tryz.results41, go_sem, *]) rfl ⟨?_, ?_⟩
    · rw [unhide HA', unhide HF']; rfl
    · (iterate 3 (refine bl_set ?_ (by simp <;> omega) _))
      exact hw1
  obtain ⟨k1, k2⟩ := nex_0 hc h0
  have HF' : Hid (F = 0) := by show _ = _; rw [← unhide HF]; exact k1
  have HQ := hide ((unhide HS).up hw1).que
  obtain ⟨l, hl⟩ : ∃ l, S.que = l := ⟨_, rfl⟩
  rw [hl] at x5 HQ h0 hq1 k2 ⊢
  have HA' : Hid (A = nexK l (l.length - 1)) := by show _ = _; rw [← unhide HA]; exact k2
  clear hf hc k1 k2 hl
  obtain ⟨N, hN⟩ : ∃ N, l.length = N + 1 := ⟨l.length - 1, by omega⟩
  obtain ⟨b8, o8, e8, r⟩ := Lst.at (unhide HQ) (i := 0) (by omega)
  subst e8
  have c0 := r.c0
  have c1 := r.c1
  have c2 := r.c2
  rw [Nat.zero_mul, Nat.add_zero] at c0 c1 c2
  have HA2 : Hid (A = nexK l N) := by show _ = _; rw [unhide HA', hN]; rfl
  rw [hN] at x5 hq1 HQ
  have HN := hide hN
  obtain ⟨Z, hZ⟩ : ∃ Z, l.getD 0 ak0 = Z := ⟨_, rfl⟩
  have HZ : Hid (nexK l 0 = Z) := hZ
  rw [hZ] at c0 c1 c2
  have R1 := hide r1
  clear hZ hN HA' r z0 z1 z2 zf r1 h0
  rw [unhide HN]
  go_wp2
  all_goals (
    go_loopw [7, 27] (fun _ i wr => ∃ k : Nat, k ≤ N ∧ i = .int .i64 k ∧ Below w1.heap.size w1 wr ∧ wr.heap[w1.heap.size]? = some (.cells (akB (nexK l k)) 41 (0, 0))) (fun _ i _ => N - (intOf i).toNat)
    case atStart => exact ⟨0, Nat.zero_le _, rfl, bl1 _ _, by rw [unhide HZ]; exact t_new1 _ _⟩
    case round =>
      obtain ⟨k, hk, rfl, hbq, hR⟩ := hrel
      have HR := hide hR
      obtain ⟨Y, hY⟩ : ∃ Y, nexK l k = Y := ⟨_, rfl⟩
      rw [hY] at hR
      have y0 := tcell_of hR 0 rfl
      have y1 := tcell_of hR 1 rfl
      have y2 := tcell_of hR 2 rfl
      have yf := fun j => tfz_of hR j
      have hl3 : w1.heap.size < wr.heap.size := World.block_lt_of_cell? wr _ y0
      clear hR
      by_cases hlt : k < N
      · obtain ⟨b7, o7, e7, r0⟩ := Lst.at (unhide HQ) (i := k + 1) (by rw [unhide HN]; omega)
        injection e7 with e7
        injection e7 with e7 e7' _
        subst e7 e7'
        have r := RAk.up hbq r0
        obtain ⟨X, hX⟩ : ∃ X, l.getD (k + 1) ak0 = X := ⟨_, rfl⟩
        rw [hX] at r
        have hsp : o8 + (k + 1) * 3 = o8 + 3 + k * 3 := by omega
        have q0 := r.c0
        have q1 := r.c1
        have q2 := r.c2
        rw [hsp] at q0 q1 q2
        have HK : Hid (nexK l (k + 1) = if X.cls < Y.cls then X else Y) := by show _ = _; rw [← hX, ← hY]; rfl
        have hY0 := hY
        clear r r0 hX hY hsp c0 c1 c2 x5
        first | (exfalso; omega) | skip
        all_goals (
          by_cases hcl : X.cls < Y.cls
          · have HK' : Hid (nexK l (k + 1) = X) := by show _ = _; rw [unhide HK, if_pos hcl]
            have HR3 := hide (t_blk (row3 (by rw [hY0] at HR; exact unhide HR) (.int .i64 X.ver) (.int .i64 X.days) (.int .i64 X.cls)) (bl1 _ (.cells (akB X) 41)))
            have HBN := hide hbq
            clear hbq
            go_wp2
            go_roundw
            case rel => exact ⟨k + 1, by omega, by go_num, bl_alloc (by (iterate 3 (refine bl_set ?_ (Nat.le_refl _) _)); exact unhide HBN) _, by rw [unhide HK']; exact unhide HR3⟩
            case measure => (simp [intOf] <;> omega)
          · have HK' : Hid (nexK l (k + 1) = Y) := by show _ = _; rw [unhide HK, if_neg hcl]
            have HRN := hide (t_blk (unhide HR) (bl1 wr (.cells (akB X) 41)))
            have HBN := hide (bl_alloc hbq (.cells (akB X) 41))
            have HY := hide hY0
            clear hbq
            go_wp2
            go_roundw
            case rel => exact ⟨k + 1, by omega, by go_num, unhide HBN, by rw [unhide HK', ← unhide HY]; exact unhide HRN⟩
            case measure => (simp [intOf] <;> omega))
      · obtain rfl : k = N := by omega
        have hr1 := t_blk (unhide R1) hbq
        have z0 := tcell_of hr1 0 rfl
        have z1 := tcell_of hr1 1 rfl
        have z2 := tcell_of hr1 2 rfl
        have zf := fun j => tfz_of hr1 j
        have HA3 : Hid (A = Y) := by show _ = _; rw [unhide HA2]; exact hY
        clear c0 c1 c2 x5 hr1 hY
        go_wp2
        refine bodyPost_ret (v := .tuple #[.agg #[.int .i64 Y.ver, .int .i64 Y.days, .int .i64 Y.cls], .int .i64 0]) (by simp [results, Tryz.results41, go_sem, *]) rfl ⟨?_, ?_⟩
        · rw [unhide HA3, unhide HF']
        · (iterate 3 (refine bl_set ?_ (by simp <;> omega) _))
          exact bl_trans hw1 hbq)
end Go.Proofs.YtbfhkbmcleglaaaGreat
