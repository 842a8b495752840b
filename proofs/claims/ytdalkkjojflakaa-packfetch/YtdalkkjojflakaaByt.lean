/- New bytes: dev.copyBytes. -/
import Derived.Test.YtdalkkjojflakaaData
import Derived.Laws.CopyOwn
import Derived.Laws.MakeOwn
import Derived.Laws.Cells
import Derived.Laws.BytesArg
namespace Go.Proofs.Ytdalkkjojflakaa
open Go.RowKit
set_option linter.unusedVariables false
set_option linter.unusedSimpArgs false

theorem infoU8 : (Try.prog.info? 5).map (fun i => (i.zero, i.size, i.bytes)) = some (some (.int .u8 0), 1, 1) := by kernel_rfl
theorem sizeU8 : (Try.prog.info? 5).map (·.size) = some 1 := by kernel_rfl

/-- The first m of xs, then zeros up to m. -/
def pad (m : Nat) (xs : List Int) : List Int := xs.take m ++ List.replicate (m - xs.length) 0
theorem pad_length (m : Nat) (xs : List Int) : (pad m xs).length = m := by simp [pad]; omega
def u8s (xs : List Int) : List Value := xs.map (Value.int .u8)
theorem u8s_length (xs : List Int) : (u8s xs).length = xs.length := by simp [u8s]
theorem made_u8 (m : Nat) : madeCells #[Value.int .u8 0] m = (List.replicate m (Value.int .u8 0)).toArray := by
  apply Array.ext
  · simp [madeCells]
  · intro i h1 h2
    simp [madeCells, Nat.mod_one]

/-- Block g holds the bytes xs, and nothing else. -/
def Blk (w : World) (g : Nat) (xs : List Int) : Prop := w.heap[g]? = some (.cells (u8s xs).toArray 5 (0, 0))
theorem Blk.lt {w : World} {g : Nat} {xs : List Int} (h : Blk w g xs) : g < w.heap.size := (Array.getElem?_eq_some_iff.1 h).1
theorem Blk.up {w w' : World} {g : Nat} {xs : List Int} (h : Blk w g xs) (hb : Below w.heap.size w w') : Blk w' g xs := (hb.block g h.lt).trans h
theorem Blk.cell {w : World} {g : Nat} {xs : List Int} (h : Blk w g xs) (i : Nat) (hi : i < xs.length) : w.cell? ⟨g, i, none⟩ = some (.int .u8 (xs.getD i 0)) := by
  rw [cell_of_row w g i _ _ _ h]
  simp [u8s, hi]
theorem Blk.bts {w : World} {g cap : Nat} {xs : List Int} (h : Blk w g xs) (hc : xs.length ≤ cap) (hm : cap ≤ maxLen) : Bts w (.slice (some ⟨g, 0, none⟩) xs.length cap) xs :=
  ⟨_, cap, rfl, hc, hm, fun i hi => ⟨g, 0, rfl, by rw [Nat.zero_add]; exact h.cell i hi⟩⟩

theorem splice_pad (m : Nat) (xs : List Int) : splice (List.replicate m (Value.int .u8 0)) 0 (u8s (xs.take m)) = u8s (pad m xs) := by
  simp [splice, u8s, pad]
  by_cases h : xs.length ≤ m
  · rw [Nat.min_eq_right h]
  · rw [Nat.min_eq_left (by omega)]; simp; omega

set_option maxHeartbeats 400000 in
theorem copyBytes_any (v : Value) (xs : List Int) (m : Nat) (w : World) (h : Bts w v xs) (hm : m ≤ 281474976710656) :
    Calls Try.prog 51 #[v, .int .i64 m] w fun e w' => e = .returned (.slice (some ⟨w.heap.size, 0, none⟩) m m) ∧ Blk w' w.heap.size (pad m xs) ∧ Below w.heap.size w w' := by
  obtain ⟨a, cap, rfl, l1, m1, hc⟩ := h
  unfold maxLen at m1
  obtain ⟨i0, hi, hz0, hz1, hz2⟩ := info_parts infoU8
  have hmk : ∀ u : World, (Instr.makeSlice 24 (.int .i64 (m : Int)) (.int .i64 (m : Int))).run Try.prog u =
      .ok (.slice (some ⟨u.heap.size, 0, none⟩) m m) (u.alloc (.cells (List.replicate m (Value.int .u8 0)).toArray 5)) := fun u => by
    have h := run_make (P := Try.prog) u 24 5 i0 (.int .u8 0) Try.underlying24 hi hz0 .i64 .i64 (m : Int) (m : Int) (by omega) (Int.le_refl _) (by rw [hz2]; omega) (by omega)
    rw [← made_u8]
    simpa [hz1, Value.cells] using h
  obtain ⟨X, hX⟩ : ∃ X, X = u8s (xs.take m) := ⟨_, rfl⟩
  obtain ⟨R, hR⟩ : ∃ R, R = List.replicate m (Value.int .u8 0) := ⟨_, rfl⟩
  rw [← hR] at hmk
  have hXl : X.length = Nat.min xs.length m := by rw [hX, u8s_length, List.length_take]; exact Nat.min_comm _ _
  have hRl : R.length = m := by rw [hR]; simp
  have hsp : splice R 0 X = u8s (pad m xs) := by rw [hR, hX]; exact splice_pad m xs
  have HX := hide hX
  have HR := hide hR
  have HXl := hide hXl
  have HRl := hide hRl
  have HSP := hide hsp
  have HC := hide hc
  clear hX hR hXl hRl hsp hc
  go_enter Try.func51, Try.ntmps51
  go_wp2_with (refine wpList_copy_splice rfl (.tmp 8) (.tmp 9) 24 24 rfl 5 Try.underlying24 sizeU8 _ _ _ _ _ _ rfl rfl w.heap.size 0 R 5 ?q1 X ?q2 ?q3 ?q4 ?q5 w.heap.size w ?q6 (Nat.le_refl _) ?q7)
  case q1 => exact heap_alloc_new _ _
  case q2 => exact unhide HXl
  case q3 =>
    intro h0
    have hl : X.length = Nat.min xs.length m := unhide HXl
    have hl' := Nat.min_le_left xs.length m
    have hl'' := Nat.min_le_right xs.length m
    rw [hl] at h0
    obtain ⟨b, o, rfl, _⟩ := unhide HC 0 (Nat.lt_of_lt_of_le h0 hl')
    refine ⟨_, rfl, fun j u hj => ?_⟩
    have hjl : j < X.length := (List.getElem?_eq_some_iff.1 hj).1
    have hjx : j < xs.length := by rw [hl] at hjl; exact Nat.lt_of_lt_of_le hjl hl'
    have hjm : j < m := by rw [hl] at hjl; exact Nat.lt_of_lt_of_le hjl hl''
    obtain ⟨b', o', e, hcell⟩ := unhide HC j hjx
    simp at e
    obtain ⟨rfl, rfl⟩ := e
    rw [show (⟨b, o, none⟩ : Addr).add j = ⟨b, o + j, none⟩ by unfold Addr.add; split <;> simp_all]
    rw [cell_up (bl_alloc (Below.refl _ _) _) hcell]
    rw [unhide HX] at hj
    simp [u8s, hjm, hjx] at hj
    rw [← hj]
    simp [List.getD, hjx]
  case q4 =>
    have h1 : X.length = Nat.min xs.length m := unhide HXl
    have h2 : R.length = m := unhide HRl
    have hl'' := Nat.min_le_right xs.length m
    rw [h1, h2, Nat.zero_add]; exact hl''
  case q5 =>
    intro u hu
    rw [unhide HX] at hu
    unfold u8s at hu
    obtain ⟨y, _, rfl⟩ := List.mem_map.1 hu
    rfl
  case q6 => exact bl_alloc (Below.refl _ _) _
  case q7 =>
    intro w1 hg hb
    go_wp2
    go_ret
    refine ⟨rfl, ?_, hb⟩
    unfold Blk
    rw [← unhide HSP]
    exact unhide hg
end Go.Proofs.Ytdalkkjojflakaa
