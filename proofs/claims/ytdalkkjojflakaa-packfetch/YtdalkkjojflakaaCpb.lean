/- The built-in copy of a whole block of bytes, as a step of a region; what settling leaves; a sector, or a write, of devices of one's own. -/
import Derived.Test.YtdalkkjojflakaaVol
namespace Go.Proofs.Ytdalkkjojflakaa
open Go.RowKit
set_option maxRecDepth 100000
set_option linter.unusedVariables false
set_option linter.unusedSimpArgs false

theorem addr_add (b o j : Nat) : (⟨b, o, none⟩ : Addr).add j = ⟨b, o + j, none⟩ := by unfold Addr.add; split <;> simp_all
theorem step_copy_blk (w : World) {ops : Array Oper} {o : Oper} {a : Act} {K : Act → World → Prop} {Q : Exit → Act → World → Prop} {E : Prop} (hgd : o.guard = none) (d s : Operand)
    (ho : o.op = .call { callee := .builtin .copy, args := #[d, s], argTypes := #[24, 24] }) (g n cap : Nat) (sp : Option Addr) (xs ys : List Int) (hd : a.eval d = .slice (some ⟨g, 0, none⟩) n n) (hs : a.eval s = .slice sp n cap)
    (hx : Blk w g xs) (lx : xs.length = n) (hy : Bts w (.slice sp n cap) ys) (ly : ys.length = n) (h0 : 0 < n)
    (h : ∀ w', Blk w' g ys → w.grownBy w' (some g) → K (a.put o.dst (goInt n)) w') :
    if Region.wanted o (yielded ops a.tmps) = true then Oper.wp Try.prog o a w K Q else E := by
  have hw : Region.wanted o (yielded ops a.tmps) = true := by simp [Region.wanted, hgd]
  rw [if_pos hw]
  obtain ⟨asp, cap', e, l1, m1, hc⟩ := hy
  injection e with e1 e2 e3
  subst e1
  obtain ⟨b, off, rfl, _⟩ := hc 0 (by omega)
  have hrun := run_copy_row (P := Try.prog) w 24 24 o.type 5 g 0 n n ⟨b, off, none⟩ n cap (u8s xs).toArray 5 (u8s ys) Try.underlying24 sizeU8 hx (by rw [u8s_length, ly]; simp) (fun j v hj => by
    have hjl : j < ys.length := by have := (List.getElem?_eq_some_iff.1 hj).1; rwa [u8s_length] at this
    obtain ⟨b', o', e', hcell⟩ := hc j hjl
    simp at e'
    obtain ⟨rfl, rfl⟩ := e'
    rw [addr_add, hcell]
    simp [u8s, hjl] at hj
    rw [← hj]
    simp [List.getD, hjl]) (by simp [u8s_length, lx, ly]) (fun u hu => by unfold u8s at hu; obtain ⟨q, _, rfl⟩ := List.mem_map.1 hu; rfl)
  have hrow : (List.take 0 (u8s xs) ++ (u8s ys ++ List.drop (0 + (u8s ys).length) (u8s xs))) = u8s ys := by
    rw [List.drop_of_length_le (by rw [u8s_length, u8s_length]; omega)]; simp
  unfold Oper.wp
  simp only [List.size_toArray, execOp, ho, resolve, invoke, builtin, Sem.run_bind, Sem.run_pure, List.map_toArray, List.map_cons, List.map_nil, hd, hs, hrun, Result.andThen_ok]
  rw [show goInt (u8s ys).length = goInt n by rw [u8s_length, ly]]
  refine h _ ?_ ?_
  · unfold Blk
    rw [setRow_heap w g _ _ 5 _ hx]
    simpa using hrow
  · exact ⟨rfl, rfl, rfl, by simp [World.setRow], fun k hk hne => setRow_other w g k _ (by simpa using hne)⟩

/-- The sectors behind the first k writes, of which those stay for which keep says so. -/
def settled (keep : Nat → Bool) (S : List (List Int)) (C : List Wr) : Nat → List (List Int)
  | 0 => S
  | k + 1 => if keep k then (settled keep S C k).set (C.getD k ⟨0, []⟩).pos.toNat (C.getD k ⟨0, []⟩).data else settled keep S C k
theorem settled_length (keep : Nat → Bool) (S : List (List Int)) (C : List Wr) (k : Nat) : (settled keep S C k).length = S.length := by
  induction k with
  | zero => rfl
  | succ k ih => unfold settled; split <;> simp [ih]
theorem settled_yes {keep : Nat → Bool} {S : List (List Int)} {C : List Wr} {k : Nat} (h : keep k = true) : settled keep S C (k + 1) = (settled keep S C k).set (C.getD k ⟨0, []⟩).pos.toNat (C.getD k ⟨0, []⟩).data := by
  show (if keep k then _ else _) = _; rw [h]; rfl
theorem settled_no {keep : Nat → Bool} {S : List (List Int)} {C : List Wr} {k : Nat} (h : keep k = false) : settled keep S C (k + 1) = settled keep S C k := by
  show (if keep k then _ else _) = _; rw [h]; rfl
/-- Where nothing more stays. -/
theorem settled_stop {keep : Nat → Bool} {S : List (List Int)} {C : List Wr} {m : Nat} (h : ∀ k, m ≤ k → keep k = false) : ∀ n, m ≤ n → settled keep S C n = settled keep S C m := by
  intro n hn
  induction n with
  | zero => obtain rfl : m = 0 := by omega
            rfl
  | succ n ih =>
    by_cases e : m = n + 1
    · rw [e]
    · rw [settled_no (h n (by omega)), ih (by omega)]

theorem getD_setL {α : Type} (l : List α) (x i : Nat) (y d : α) (hx : x < l.length) : (l.set x y).getD i d = if i = x then y else l.getD i d := by
  by_cases e : i = x
  · subst e; simp [List.getD, hx]
  · simp [List.getD, List.getElem?_set_ne (Ne.symm e), e]
/-- One sector of devices of one's own is written anew. -/
theorem ODev.sec {w : World} {B : Nat} {c v : Value} {sa : Option Addr} {ns cs : Nat} {D : Dv} (h : ODev w B (.slice sa ns cs) c v D) {x : Nat} (hx : x < D.safe.length) :
    ∃ g cur, sa = some ⟨g, 0, none⟩ ∧ B ≤ g ∧ Row w g 24 cur ∧ (∃ u, w.cell? ⟨g, x, none⟩ = some u ∧ Own w B u (D.safe.getD x [])) ∧
      (∀ (u : Value) (ys : List Int), Own w B u ys → ODev (w.setCell ⟨g, x, none⟩ u) B (.slice sa ns cs) c v ⟨D.safe.set x ys, D.cache, D.vols, D.fuel⟩) := by
  obtain ⟨⟨us, s1, s2⟩, ⟨uc, c1, c2⟩, ⟨uv, v1, v2⟩⟩ := h
  obtain ⟨g, cap, cur, e, hB, hr, h1, h2⟩ := own_open s1 (by omega)
  injection e with e1 e2 e3
  subst e1
  subst e2
  subst e3
  obtain ⟨q, q1, q2⟩ := s2.2 x hx
  have hc : ∀ j u, us[j]? = some u → w.cell? ⟨g, j, none⟩ = some u := fun j u hj => by
    obtain ⟨g', cap', e, hh⟩ := own_cell s1 hj
    simp at e
    rw [e.1]; exact hh
  refine ⟨g, cur, rfl, hB, hr, ⟨q, hc _ _ q1, q2⟩, fun u ys hu => ?_⟩
  have hg : w.grownBy (w.setCell ⟨g, x, none⟩ u) (some g) := gb_set (gb_refl _ _) _ _
  have f' : ∀ u' ys, Own w B u' ys → Own (w.setCell ⟨g, x, none⟩ u) B u' ys := fun u' ys q => q.kept hr (by decide) hg
  refine ⟨⟨us.set x u, ?_, by simpa using s2.1, fun i hi => ?_⟩, ⟨uc, World.ownsRow.kept c1 hg (.inr (own_apart c1 hr (by decide))), c2.imp f'⟩, ⟨uv, World.ownsRow.kept v1 hg (.inr (own_apart v1 hr (by decide))), v2.imp f'⟩⟩
  · have := own_set s1 x u
    simpa using this
  · have hi' : i < D.safe.length := by simpa using hi
    rw [getD_setL _ _ _ _ _ hx]
    by_cases e : i = x
    · subst e
      rw [if_pos rfl]
      exact ⟨u, List.getElem?_set_self (by rw [s2.1]; exact hx), f' _ _ hu⟩
    · rw [if_neg e]
      obtain ⟨q, q1, q2⟩ := s2.2 i hi'
      exact ⟨q, by rw [List.getElem?_set_ne (Ne.symm e)]; exact q1, f' _ _ q2⟩
/-- A write in the cache of devices of one's own. -/
theorem ODev.wri {w : World} {B : Nat} {s v : Value} {ca : Option Addr} {nc cc : Nat} {D : Dv} (h : ODev w B s (.slice ca nc cc) v D) {x : Nat} (hx : x < D.cache.length) :
    ∃ g cur, ca = some ⟨g, 0, none⟩ ∧ B ≤ g ∧ Row w g 94 cur ∧ w.cell? ⟨g, x * 2, none⟩ = some (.int .i64 (D.cache.getD x ⟨0, []⟩).pos) ∧ ∃ u, w.cell? ⟨g, x * 2 + 1, none⟩ = some u ∧ Own w B u (D.cache.getD x ⟨0, []⟩).data := by
  obtain ⟨_, ⟨uc, c1, c2⟩, _⟩ := h
  obtain ⟨g, cap, cur, e, hB, hr, h1, h2⟩ := own_open c1 (by omega)
  injection e with e1 e2 e3
  subst e1
  subst e2
  subst e3
  obtain ⟨q0, q, q1, q2⟩ := c2.2 x hx
  have hc : ∀ j u, uc[j]? = some u → w.cell? ⟨g, j, none⟩ = some u := fun j u hj => by
    obtain ⟨g', cap', e, hh⟩ := own_cell c1 hj
    simp at e
    rw [e.1]; exact hh
  exact ⟨g, cur, rfl, hB, hr, hc _ _ q0, q, hc _ _ q1, q2⟩
theorem ODev.nocache {w : World} {B : Nat} {s c v : Value} {D : Dv} (h : ODev w B s c v D) : ODev w B s (.slice none 0 0) v ⟨D.safe, [], D.vols, D.fuel⟩ :=
  ⟨h.safe, ⟨[], World.ownsRow_nil _ _ _ _, rfl, fun i hi => absurd hi (Nat.not_lt_zero _)⟩, h.vols⟩
/-- What flushing answers. -/
def fluD (D : Dv) (e : Int) : Dv := if e = 0 then ⟨settled (fun _ => true) D.safe D.cache D.cache.length, [], D.vols, lessF D.fuel⟩ else nilD
theorem fluD_bad {D : Dv} {e : Int} (h : e ≠ 0) : fluD D e = nilD := by simp [fluD, h]
theorem fluD_ok (D : Dv) : fluD D 0 = ⟨settled (fun _ => true) D.safe D.cache D.cache.length, [], D.vols, lessF D.fuel⟩ := by simp [fluD]
end Go.Proofs.Ytdalkkjojflakaa
