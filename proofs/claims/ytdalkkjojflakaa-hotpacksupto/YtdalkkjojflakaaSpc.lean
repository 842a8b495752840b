/- Pieces that are the same; a list of bytes, appended to nothing. -/
import Derived.Test.YtdalkkjojflakaaPak
import Derived.Deep.QuietTactic
namespace Go.Proofs.Ytdalkkjojflakaa
open Go.RowKit
set_option linter.unusedVariables false
set_option linter.unusedSimpArgs false

theorem flat_pc : ∀ (ps : List Pc) (i j : Nat), i < ps.length → j < 3 → (ps.flatMap pcL)[i * 3 + j]? = (pcL (ps.getD i pc0))[j]?
  | [], i, j, hi, hj => by simp at hi
  | x :: xs, 0, j, hi, hj => by
    rw [List.flatMap_cons, Nat.zero_mul, Nat.zero_add, List.getElem?_append_left (by simpa [pcL] using hj)]
    rfl
  | x :: xs, i + 1, j, hi, hj => by
    have h := flat_pc xs i j (by simpa using hi) hj
    have e : (i + 1) * 3 + j = 3 + (i * 3 + j) := by omega
    rw [List.flatMap_cons, e, List.getElem?_append_right (by simp [pcL]), show (pcL x).length = 3 from rfl, Nat.add_sub_cancel_left, h]
    rfl
theorem OwQ.at {w : World} {B : Nat} {v : Value} {ps : List Pc} (h : OwQ w B v ps) : ∃ a cap, v = .slice a ps.length cap ∧ cap ≤ maxLen ∧ ∀ i, i < ps.length → ∃ g, a = some ⟨g, 0, none⟩ ∧ w.cell? ⟨g, i * 3, none⟩ = some (.int .i64 (ps.getD i pc0).id) ∧ w.cell? ⟨g, i * 3 + 1, none⟩ = some (.int .i64 (ps.getD i pc0).pos) ∧ w.cell? ⟨g, i * 3 + 2, none⟩ = some (.int .i64 (ps.getD i pc0).size) := by
  obtain ⟨a, cap, rfl, l1, l2⟩ := own_form h
  refine ⟨a, cap, rfl, l2, fun i hi => ?_⟩
  obtain ⟨g, c0, e0, k0⟩ := own_cell h (show _ = some (Value.int .i64 (ps.getD i pc0).id) from flat_pc ps i 0 hi (by decide))
  obtain ⟨g1, c1, e1, k1⟩ := own_cell h (show _ = some (Value.int .i64 (ps.getD i pc0).pos) from flat_pc ps i 1 hi (by decide))
  obtain ⟨g2, c2, e2, k2⟩ := own_cell h (show _ = some (Value.int .i64 (ps.getD i pc0).size) from flat_pc ps i 2 hi (by decide))
  simp at e0
  obtain ⟨rfl, rfl⟩ := e0
  simp at e1
  obtain ⟨rfl, rfl⟩ := e1
  simp at e2
  obtain ⟨rfl, rfl⟩ := e2
  exact ⟨g, rfl, k0, k1, k2⟩

set_option maxHeartbeats 1000000 in
theorem samePieces_any (x y : Value) (ps : List Pc) (B B' : Nat) (w : World) (hx : OwQ w B x ps) (hy : OwQ w B' y ps) :
    Calls Try.prog 12 #[x, y] w fun e w' => e = .returned (.bool true) ∧ Below w.heap.size w w' := by
  obtain ⟨a, ac, rfl, am, ha⟩ := hx.at
  obtain ⟨c, cc, rfl, cm, hc⟩ := hy.at
  unfold maxLen at am cm
  have hl1 : ps.length ≤ ac := by obtain ⟨_, _, e, h, _⟩ := own_form hx; simp at e; omega
  have hl2 : ps.length ≤ cc := by obtain ⟨_, _, e, h, _⟩ := own_form hy; simp at e; omega
  have HA := hide ha
  have HC := hide hc
  clear ha hc hx hy
  go_enter Try.func12, Try.ntmps12
  go_wp2
  go_loopw [5] (fun i wr => ∃ k : Nat, k ≤ ps.length ∧ i = .int .i64 k ∧ Below w.heap.size w wr) (fun i _ => ps.length - (intOf i).toNat)
  case atStart => exact ⟨0, Nat.zero_le _, rfl, Below.refl _ _⟩
  case round =>
    obtain ⟨k, hk, rfl, hb⟩ := hrel
    by_cases hlt : k < ps.length
    · obtain ⟨g, rfl, a0, a1, a2⟩ := unhide HA k hlt
      obtain ⟨g', rfl, c0, c1, c2⟩ := unhide HC k hlt
      obtain ⟨X, hX⟩ : ∃ X, ps.getD k pc0 = X := ⟨_, rfl⟩
      rw [hX] at a0 a1 a2 c0 c1 c2
      replace a0 := cell_up hb a0
      replace a1 := cell_up hb a1
      replace a2 := cell_up hb a2
      replace c0 := cell_up hb c0
      replace c1 := cell_up hb c1
      replace c2 := cell_up hb c2
      clear hX
      go_wp2
      have hne := Later.one wr
      have l0 := fun d : Later wr => d.cell a0
      have l1 := fun d : Later wr => d.cell a1
      have l2 := fun d : Later wr => d.cell a2
      have m0 := fun d : Later wr => d.cell c0
      have m1 := fun d : Later wr => d.cell c1
      have m2 := fun d : Later wr => d.cell c2
      refine wp_region_later (by kernel_rfl) (by kernel_rfl) ?_
      repeat (go_big_quiet_step (fail))
      refine wpQuiet_nil ?_
      intro w9 hw'
      obtain ⟨⟨w8, hb9⟩, hw''⟩ := hw'
      subst hw''
      clear hne l0 l1 l2 m0 m1 m2
      go_wp2
      go_roundw
      case rel => exact ⟨k + 1, by omega, by go_num, bl_trans hb hb9⟩
      case measure => (simp [intOf] <;> omega)
    · go_wp2
      go_ret
      exact ⟨rfl, hb⟩
end Go.Proofs.Ytdalkkjojflakaa
