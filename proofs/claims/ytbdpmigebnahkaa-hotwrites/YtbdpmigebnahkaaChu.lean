/- icehouseref.chunk; things to do in a row of one's own. -/
import Derived.Test.YtbdpmigebnahkaaDdn
import Derived.Test.YtbdpmigebnahkaaWri
namespace Go.Proofs.Ytbdpmigebnahkaa
open Go.RowKit
set_option linter.unusedVariables false
set_option linter.unusedSimpArgs false

theorem chunk_any (bb bo L bc k T : Nat) (w : World) (hk : k * 64 < L) (hT : min ((k + 1) * 64) L = T) (hL : L ≤ 100000) (hc : L ≤ bc) :
    Calls Try.prog 45 #[.slice (some ⟨bb, bo, none⟩) L bc, .int .i64 k, .int .i64 64] w fun e w' => e = .returned (.slice (some ⟨bb, bo + k * 64, none⟩) (T - k * 64) (bc - k * 64)) ∧ w = w' := by
  have hT1 : T ≤ bc := by omega
  have hT2 : k * 64 ≤ T := by omega
  have hsl : ∀ u : World, (Instr.slice 30 (.slice (some ⟨bb, bo, none⟩) L bc) (some (.int .i64 ((k : Int) * 64))) (some (.int .i64 (T : Int))) none).run Try.prog u = .ok (.slice (some ⟨bb, bo + k * 64, none⟩) (T - k * 64) (bc - k * 64)) u := fun u => by
    rw [show (k : Int) * 64 = ((k * 64 : Nat) : Int) by omega]
    exact cut_run hT2 hT1 (by omega) u
  by_cases h : (k + 1) * 64 ≤ L
  · have e : (k : Int) * 64 + 64 = (T : Int) := by omega
    have hq : (T : Int) ≤ (L : Int) := by omega
    have HE := hide e
    clear e
    go_enter Try.func45, Try.ntmps45
    go_upto_region 3 with fail
    rw [unhide HE]
    go_wp2
    go_ret
    exact ⟨rfl, rfl⟩
  · have e : (L : Int) = (T : Int) := by omega
    obtain rfl : L = T := by omega
    have hq : (L : Int) < (k : Int) * 64 + 64 := by omega
    go_enter Try.func45, Try.ntmps45
    go_wp2
    go_ret
    exact ⟨rfl, rfl⟩

/-- The cells of a thing that is to be done: its bytes are the value beside it. -/
def tdL : Th × Value → List Value
  | (.put x _, u) => [.bool false, .int .i64 x, u]
  | (.flush, _) => [.bool true, .int .i64 0, .slice none 0 0]
theorem tdL_len (p : Th × Value) : (tdL p).length = 3 := by obtain ⟨t, u⟩ := p; cases t <;> rfl
def TdB (w0 : World) (p : Th × Value) : Prop := match p.1 with | .put _ xs => Bts w0 p.2 xs | .flush => True
theorem flat_atW {α : Type} (C : α → List Value) (k : Nat) (hk : ∀ x, (C x).length = k) (d : α) : ∀ (xs : List α) (i j : Nat), i < xs.length → j < k → (xs.flatMap C)[i * k + j]? = (C (xs.getD i d))[j]?
  | [], i, j, hi, hj => by simp at hi
  | x :: xs, 0, j, hi, hj => by
    rw [List.flatMap_cons, Nat.zero_mul, Nat.zero_add, List.getElem?_append_left (by rw [hk]; exact hj)]
    rfl
  | x :: xs, i + 1, j, hi, hj => by
    have h := flat_atW C k hk d xs i j (by simpa using hi) hj
    have e : (i + 1) * k + j = k + (i * k + j) := by rw [Nat.add_mul]; omega
    rw [List.flatMap_cons, e, List.getElem?_append_right (by rw [hk]; omega), hk, Nat.add_sub_cancel_left, h]
    rfl

/-- Things to do in a row of the call's own; their bytes lie in the memory that was there at w0. -/
def OwTd (w0 w : World) (B : Nat) (u : Value) (ths : List Th) : Prop := ∃ ps : List (Th × Value), ps.map (·.1) = ths ∧ w.ownsRow B 90 3 u ps.length (ps.flatMap tdL) ∧ ∀ p ∈ ps, TdB w0 p
theorem OwTd.nil (w0 w : World) (B : Nat) : OwTd w0 w B (.slice none 0 0) [] := ⟨[], rfl, World.ownsRow_nil _ _ _ _, fun p hp => by simp at hp⟩
theorem OwTd.tds {w0 w : World} {B : Nat} {u : Value} {ths : List Th} (h : OwTd w0 w B u ths) (hb : Below w0.heap.size w0 w) : TdsAt w u ths := by
  obtain ⟨ps, rfl, h1, h3⟩ := h
  obtain ⟨a, cap, rfl, l1, l2⟩ := own_form h1
  refine ⟨a, cap, by simp, by simpa using l1, l2, fun i hi => ?_⟩
  have hi' : i < ps.length := by simpa using hi
  have c0 := flat_atW tdL 3 tdL_len (.flush, .slice none 0 0) ps i 0 hi' (by decide)
  have c1 := flat_atW tdL 3 tdL_len (.flush, .slice none 0 0) ps i 1 hi' (by decide)
  have c2 := flat_atW tdL 3 tdL_len (.flush, .slice none 0 0) ps i 2 hi' (by decide)
  have hmem : ps.getD i (.flush, .slice none 0 0) ∈ ps := by simp [List.getD, hi']
  have hB := h3 _ hmem
  have hg : (ps.map (·.1)).getD i .flush = (ps.getD i (.flush, .slice none 0 0)).1 := by simp [List.getD, hi']
  rw [hg]
  obtain ⟨⟨t, bv⟩, hp⟩ : ∃ p, ps.getD i (.flush, .slice none 0 0) = p := ⟨_, rfl⟩
  rw [hp] at c0 c1 c2 hB ⊢
  cases t with
  | put x xs =>
    obtain ⟨g, cap', e, k0⟩ := own_cell h1 (show _ = some (Value.bool false) from c0)
    obtain ⟨g', cap'', e', k1⟩ := own_cell h1 (show _ = some (Value.int .i64 x) from c1)
    obtain ⟨g3, cap3, e3, k2⟩ := own_cell h1 (show _ = some bv from c2)
    simp at e
    obtain ⟨rfl, rfl⟩ := e
    simp at e'
    obtain ⟨rfl, rfl⟩ := e'
    simp at e3
    obtain ⟨rfl, rfl⟩ := e3
    have hB' : Bts w0 bv xs := hB
    refine ⟨g, 0, rfl, ?_, ?_, bv, ?_, hB'.up hb⟩
    · rw [Nat.zero_add]; exact k0
    · rw [Nat.zero_add]; exact k1
    · rw [Nat.zero_add]; exact k2
  | flush =>
    obtain ⟨g, cap', e, k0⟩ := own_cell h1 (show _ = some (Value.bool true) from c0)
    simp at e
    obtain ⟨rfl, rfl⟩ := e
    exact ⟨g, 0, rfl, by show _ = _; rw [Nat.zero_add]; exact k0⟩
theorem OwTd.push {w0 w' : World} {B : Nat} {u' : Value} {ps : List (Th × Value)} (h3 : ∀ p ∈ ps, TdB w0 p) {p : Th × Value} (hp : TdB w0 p) (ho : w'.ownsRow B 90 3 u' (ps.length + 1) (ps.flatMap tdL ++ tdL p)) : OwTd w0 w' B u' (ps.map (·.1) ++ [p.1]) := by
  refine ⟨ps ++ [p], by simp, by simpa using ho, fun q hq => ?_⟩
  rcases List.mem_append.1 hq with h | h
  · exact h3 q h
  · simp at h; subst h; exact hp
theorem infoTd : (Try.prog.info? 90).map (fun i => (i.zero, i.size, i.bytes)) = some (some (.agg #[.bool false, .int .i64 0, .slice none 0 0]), 3, 40) := by kernel_rfl
end Go.Proofs.Ytbdpmigebnahkaa
