/- Lists of truths; what a crash answers. -/
import Derived.Test.YtjaedigjmgfakaaFlC
import Derived.Test.YtjaedigjmgfakaaMkC
import Derived.Test.YtjaedigjmgfakaaApp
namespace Go.Proofs.Ytjaedigjmgfakaa
open Go.RowKit
set_option maxRecDepth 100000
set_option linter.unusedVariables false
set_option linter.unusedSimpArgs false

theorem infoBool : (Try.prog.info? 4).map (fun i => (i.zero, i.size, i.bytes)) = some (some (.bool false), 1, 1) := by kernel_rfl
/-- A slice value of truths. -/
def Bls (w : World) (v : Value) (ks : List Bool) : Prop :=
  ∃ a cap, v = .slice a ks.length cap ∧ ks.length ≤ cap ∧ cap ≤ maxLen ∧ ∀ i, i < ks.length → ∃ b o, a = some ⟨b, o, none⟩ ∧ w.cell? ⟨b, o + i, none⟩ = some (.bool (ks.getD i false))
theorem Bls.up {w w' : World} {v : Value} {ks : List Bool} (h : Bls w v ks) (hb : Below w.heap.size w w') : Bls w' v ks := by
  obtain ⟨a, cap, rfl, h1, h2, h3⟩ := h
  refine ⟨a, cap, rfl, h1, h2, fun i hi => ?_⟩
  obtain ⟨b, o, e, hc⟩ := h3 i hi
  exact ⟨b, o, e, cell_up hb hc⟩
def bls (ks : List Bool) : List Value := ks.map Value.bool
theorem bls_length (ks : List Bool) : (bls ks).length = ks.length := by simp [bls]
theorem Bls.own {w : World} {B : Nat} {v : Value} {ks : List Bool} (h : w.ownsRow B 4 1 v ks.length (bls ks)) : Bls w v ks := by
  obtain ⟨a, cap, rfl, h1, h2⟩ := own_form h
  refine ⟨a, cap, rfl, h1, h2, fun i hi => ?_⟩
  obtain ⟨g, cap', e, hc⟩ := own_cell h (j := i) (u := .bool (ks.getD i false)) (by simp [bls, List.getD, hi])
  simp at e
  obtain ⟨rfl, rfl⟩ := e
  exact ⟨g, 0, rfl, by rw [Nat.zero_add]; exact hc⟩
theorem run_app_bools (w : World) (ty : TypeId) (bv : Value) (ks : List Bool) (hb : Bls w bv ks) (hl : ks.length ≤ 140737488355328) :
    ∃ a cap w', (Builtin.append_ #[22, 22] ty #[.slice none 0 0, bv]).run Try.prog w = .ok (.slice a ks.length cap) w' ∧ Bls w' (.slice a ks.length cap) ks ∧ Below w.heap.size w w' := by
  obtain ⟨i0, hi, hz0, hz1, hz2⟩ := info_parts infoBool
  obtain ⟨ab, capb, rfl, l1, m1, hc⟩ := hb
  cases ks with
  | nil =>
    refine ⟨none, 0, w, ?_, ⟨none, 0, rfl, Nat.le_refl _, Nat.zero_le _, fun i hi => absurd hi (Nat.not_lt_zero _)⟩, Below.refl _ _⟩
    have hs : Src Try.prog i0.size 22 (.slice ab 0 capb) 0 [] w := by
      cases ab with
      | none => exact Src.ofNil w Try.underlying22 capb
      | some ad => exact Src.ofSlice w Try.underlying22 ad 0 capb [] (by simp) (fun j u hj => by simp at hj) (fun u hu => by simp at hu)
    simpa using run_append_nothing w 22 22 ty 4 i0 Try.underlying22 hi none 0 0 (Nat.le_refl _) _ hs
  | cons y ks =>
    obtain ⟨b, o, rfl, _⟩ := hc 0 (by simp)
    obtain ⟨g, cap, w', hr, h2, h3, _⟩ := run_append_lies (P := Try.prog) w 22 ty w.heap.size 4 i0 (.bool false) 1 1 Try.underlying22 hi hz0 hz1 hz2 rfl (by decide) (.slice none 0 0) 0 [] (World.ownsRow_nil _ _ _ _) ⟨b, o, none⟩ (y :: ks).length capb (bls (y :: ks)) (by simp [bls]) (fun j u hj => by
      have hj' : j < (y :: ks).length := by have := (List.getElem?_eq_some_iff.1 hj).1; rwa [bls_length] at this
      obtain ⟨b', o', e', hcell⟩ := hc j hj'
      simp at e'
      obtain ⟨rfl, rfl⟩ := e'
      rw [addr_add, hcell]
      rw [show (bls (y :: ks))[j]? = some (.bool ((y :: ks).getD j false)) by unfold bls; rw [List.getElem?_map, List.getElem?_eq_getElem hj']; simp [List.getD, List.getElem?_eq_getElem hj']] at hj
      exact hj) (fun u hu => by unfold bls at hu; obtain ⟨q, _, rfl⟩ := List.mem_map.1 hu; rfl) (by simp) (by unfold maxLen; omega) (by omega) (Nat.le_refl _) _ rfl
    refine ⟨_, cap, w', by simpa using hr, Bls.own (B := w.heap.size) (by simpa using h2), gb_none h3⟩
theorem step_app_bools (w : World) {ops : Array Oper} {o : Oper} {a : Act} {K : Act → World → Prop} {Q : Exit → Act → World → Prop} {E : Prop} (hgd : o.guard = none) (s x : Operand)
    (ho : o.op = .call { callee := .builtin .append, args := #[s, x], argTypes := #[22, 22] })
    (bv : Value) (ks : List Bool) (hs : a.eval s = .slice none 0 0) (hx : a.eval x = bv) (hb : Bls w bv ks) (hl : ks.length ≤ 140737488355328)
    (h : ∀ a' cap w', Bls w' (.slice a' ks.length cap) ks → Below w.heap.size w w' → K (a.put o.dst (.slice a' ks.length cap)) w') :
    if Region.wanted o (yielded ops a.tmps) = true then Oper.wp Try.prog o a w K Q else E := by
  have hw : Region.wanted o (yielded ops a.tmps) = true := by simp [Region.wanted, hgd]
  rw [if_pos hw]
  obtain ⟨a', cap, w', hr, h2, h3⟩ := run_app_bools w o.type bv ks hb hl
  unfold Oper.wp execOp
  simp only [ho, resolve, invoke, builtin, Sem.run_bind, Sem.run_pure, Result.andThen_ok, List.map_toArray, List.map_cons, List.map_nil, hs, hx, hr]
  exact h a' cap w' h2 h3

/-- What a crash answers. -/
def keepF (ks : List Bool) (i : Nat) : Bool := ks.getD i false
def craN (tail : Int) (y : Vo) : Nat := (y.synced + min tail ((y.data.length : Int) - y.synced)).toNat
def craE (tail e : Int) : Int := if e = 0 then (if tail < 0 then 2 else 0) else e
def craD (ks : List Bool) (tail : Int) (D : Dv) (e : Int) : Dv := if e = 0 then ⟨settled (keepF ks) D.safe D.cache D.cache.length, [], D.vols.map (cutV (craN tail)), -1⟩ else nilD
theorem craE_bad {tail e : Int} (h : e ≠ 0) : craE tail e = e := by simp [craE, h]
theorem craE_no {tail : Int} (h : tail < 0) : craE tail 0 = 2 := by simp [craE, h]
theorem craE_ok {tail : Int} (h : ¬ tail < 0) : craE tail 0 = 0 := by simp [craE, h]
theorem craD_bad {ks : List Bool} {tail : Int} {D : Dv} {e : Int} (h : e ≠ 0) : craD ks tail D e = nilD := by simp [craD, h]
theorem craD_ok {ks : List Bool} {tail : Int} {D : Dv} : craD ks tail D 0 = ⟨settled (keepF ks) D.safe D.cache D.cache.length, [], D.vols.map (cutV (craN tail)), -1⟩ := by simp [craD]
/-- Volumes that may be. -/
def VolsOk (D : Dv) : Prop := ∀ i, i < D.vols.length → 0 ≤ (D.vols.getD i vo0).synced ∧ (D.vols.getD i vo0).synced ≤ ((D.vols.getD i vo0).data.length : Int)
theorem volsOk_of {r a h vm nv : Int} {D : Dv} (hd : devB r a h vm nv D = true) : VolsOk D := fun i hi => by
  have := (devB_all hd).2.2.2.2.2.2 i hi
  unfold volB at this
  simp only [Bool.and_eq_true] at this
  exact inB_t this.2
theorem craN_int {tail : Int} {y : Vo} (ht : ¬ tail < 0) (h0 : 0 ≤ y.synced) (h1 : y.synced ≤ (y.data.length : Int)) : (craN tail y : Int) = y.synced + min tail ((y.data.length : Int) - y.synced) := by
  unfold craN; omega
theorem craN_le {tail : Int} {y : Vo} (ht : ¬ tail < 0) (h0 : 0 ≤ y.synced) (h1 : y.synced ≤ (y.data.length : Int)) : craN tail y ≤ y.data.length := by
  unfold craN; omega
theorem crash1_any (k : Nat) (T : Nat) (kv : Value) (ks : List Bool) (w : World) (hk : k ≤ 9223372036854775807) (hT : w.cell? ⟨T, 0, none⟩ = some kv) (hb : Bls w kv ks) :
    Calls Try.prog 34 #[.int .i64 (k : Int), .pointer (some ⟨T, 0, none⟩)] w fun e w' => e = .returned (.bool (keepF ks k)) ∧ Below w.heap.size w w' := by
  obtain ⟨a, cap, rfl, l1, m1, hc⟩ := hb
  unfold maxLen at m1
  obtain ⟨n, hn⟩ : ∃ n, ks.length = n := ⟨_, rfl⟩
  rw [hn] at l1 hT hc
  by_cases hlt : k < n
  · obtain ⟨b, o, rfl, hcell⟩ := hc k hlt
    obtain ⟨z, hz⟩ : ∃ z, ks.getD k false = z := ⟨_, rfl⟩
    rw [hz] at hcell
    have HK : Hid (z = keepF ks k) := hz.symm
    clear hz hc hn
    go_enter Try.func34, Try.ntmps34
    go_wp2
    go_ret
    exact ⟨ret_bool (unhide HK), Below.refl _ _⟩
  · have HK : Hid (false = keepF ks k) := by
      show _ = _
      unfold keepF
      simp [List.getD, List.getElem?_eq_none (show ks.length ≤ k by omega)]
    have hd : decide ((k : Int) < (n : Int)) = false := by simp; omega
    clear hc hn
    go_enter Try.func34, Try.ntmps34
    go_wp2
    go_ret
    exact ⟨ret_bool (unhide HK), Below.refl _ _⟩
end Go.Proofs.Ytjaedigjmgfakaa
