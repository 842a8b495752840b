/- list: rows, their order, what is told of them, in plain words. -/
import Derived.Test.YtdgmdapijhbocaaGreatG17
import Derived.Test.YtdgmdapijhbocaaGreatG6
import Derived.PlainAid
import Derived.Sort.Walk0
namespace Go.Proofs.YtdgmdapijhbocaaGreat
open Go.RowKit Go.Maps Go.PlainAid
set_option linter.unusedVariables false
set_option linter.unusedSimpArgs false
/-- A row of what is listed. -/
structure Ro where
  key : ByteArray
  com : Bool
  id : Int
  mar : Bool
  lat : Bool
  size : Int
  tier : Int
def ro0 : Ro := ⟨⟨#[]⟩, false, 0, false, false, 0, 0⟩
abbrev roL (x : Ro) : List Value := [.string x.key, .bool x.com, .int .i64 x.id, .bool x.mar, .bool x.lat, .int .i64 x.size, .int .i64 x.tier]
abbrev roA (x : Ro) : Array Value := #[.string x.key, .bool x.com, .int .i64 x.id, .bool x.mar, .bool x.lat, .int .i64 x.size, .int .i64 x.tier]
abbrev roV (x : Ro) : Value := .agg (roA x)
instance : Inhabited Ro := ⟨ro0⟩
theorem eqS_to {a b : ByteArray} (h : eqS a b = true) : a = b := (eqS_iff a b).1 h
theorem ltS_dec (a b : ByteArray) : ltS a b = decide (a.toList < b.toList) := bytesLess_eq _ _
theorem ltS_irr (a : ByteArray) : ltS a a = false := by rw [ltS_dec]; simp
theorem ltS_tr {a b c : ByteArray} (h : ltS a b = true) (k : ltS b c = true) : ltS a c = true := by
  rw [ltS_dec] at *
  simp only [decide_eq_true_eq] at *
  exact List.lt_trans h k
theorem ltS_asy {a b : ByteArray} (h : ltS a b = true) : ltS b a = false := by
  cases k : ltS b a
  · rfl
  · have := ltS_tr h k
    rw [ltS_irr] at this
    cases this
theorem ltS_tot {a b : ByteArray} (h : ltS a b = false) (k : eqS a b = false) : ltS b a = true := by
  rw [ltS_dec] at *
  simp only [decide_eq_true_eq, decide_eq_false_iff_not] at *
  have k' : ¬ a.toList = b.toList := by
    unfold eqS at k
    simpa using k
  by_cases h1 : b.toList < a.toList
  · exact h1
  · exact absurd (List.le_antisymm (List.not_lt.1 h1) (List.not_lt.1 h)) k'
/-- Which of two versions is told first: by their keys, then the one that came later. -/
def keyLt (x y : Ve) : Bool := ltS x.ke y.ke || (eqS x.ke y.ke && decide (y.id < x.id))
def insV (v : Ve) : List Ve → List Ve
  | [] => [v]
  | x :: xs => if ltS x.ke v.ke then x :: insV v xs else v :: x :: xs
def srtV (l : List Ve) : List Ve := l.foldl (fun o v => insV v o) []
def selP (nm pre : ByteArray) (v : Ve) : Bool := eqS v.bu nm && pfB v.ke pre
def selV (S : St) (nm pre : ByteArray) : List Ve := S.ves.filter (selP nm pre)
/-- The versions of a bucket with a prefix, as they are told. -/
def sv (S : St) (nm pre : ByteArray) : List Ve := srtV (selV S nm pre)
theorem insV_perm (v : Ve) : ∀ l : List Ve, (insV v l).Perm (v :: l)
  | [] => List.Perm.refl _
  | x :: xs => by
    unfold insV
    split
    · exact (List.Perm.cons x (insV_perm v xs)).trans (List.Perm.swap v x xs)
    · exact List.Perm.refl _
theorem srt_perm' (l : List Ve) : ∀ o : List Ve, (l.foldl (fun o v => insV v o) o).Perm (o ++ l) := by
  induction l with
  | nil => intro o; simp
  | cons v l ih =>
    intro o
    rw [List.foldl_cons]
    refine (ih _).trans ?_
    refine ((insV_perm v o).append_right l).trans ?_
    show (v :: (o ++ l)).Perm (o ++ v :: l)
    exact List.perm_middle.symm
theorem srt_perm (l : List Ve) : (srtV l).Perm l := by unfold srtV; simpa using srt_perm' l []
theorem keyLt_tr {x y z : Ve} (h : keyLt x y = true) (k : keyLt y z = true) : keyLt x z = true := by
  unfold keyLt at *
  simp only [Bool.or_eq_true, Bool.and_eq_true, decide_eq_true_eq] at *
  rcases h with h | ⟨h1, h2⟩ <;> rcases k with k | ⟨k1, k2⟩
  · exact .inl (ltS_tr h k)
  · rw [← eqS_to k1]; exact .inl h
  · rw [eqS_to h1]; exact .inl k
  · exact .inr ⟨by rw [eqS_to h1]; exact k1, by omega⟩
theorem keyLt_irr (x : Ve) : keyLt x x = false := by
  unfold keyLt
  rw [ltS_irr]
  simp
theorem keyLt_tot {x y : Ve} (h : keyLt x y = false) (hne : x.id ≠ y.id) : keyLt y x = true := by
  unfold keyLt at *
  rw [Bool.or_eq_false_iff, Bool.and_eq_false_iff] at h
  obtain ⟨h1, h2⟩ := h
  cases e : eqS x.ke y.ke
  · rw [ltS_tot h1 e]; rfl
  · rcases h2 with h2 | h2
    · rw [e] at h2; cases h2
    · rw [decide_eq_false_iff_not] at h2
      have e2 := eqS_to e
      rw [e2, ltS_irr]
      simp
      refine ⟨?_, by omega⟩
      rw [← e2, ← e]
      rw [e2]
theorem insV_mem {v x : Ve} {l : List Ve} (h : x ∈ insV v l) : x = v ∨ x ∈ l := by
  have := (insV_perm v l).mem_iff.1 h
  simpa using this
theorem insV_sorted {v : Ve} : ∀ {l : List Ve}, l.Pairwise (fun x y => keyLt x y = true) → (∀ x ∈ l, x.id < v.id) → (insV v l).Pairwise (fun x y => keyLt x y = true)
  | [], _, _ => by simp [insV]
  | x :: xs, h, hid => by
    rw [List.pairwise_cons] at h
    unfold insV
    split
    · next hlt =>
      rw [List.pairwise_cons]
      refine ⟨fun y hy => ?_, insV_sorted h.2 fun y hy => hid y (List.mem_cons_of_mem _ hy)⟩
      rcases insV_mem hy with rfl | hy
      · unfold keyLt; rw [hlt]; rfl
      · exact h.1 y hy
    · next hlt =>
      have hlt : ltS x.ke v.ke = false := by simpa using hlt
      have hvx : keyLt v x = true := by
        unfold keyLt
        cases e : eqS x.ke v.ke
        · rw [ltS_tot hlt e]; rfl
        · have e2 := eqS_to e
          have := hid x (List.mem_cons_self ..)
          rw [e2]
          rw [e2] at e
          rw [e]
          simp
          exact .inr this
      rw [List.pairwise_cons]
      refine ⟨fun y hy => ?_, List.pairwise_cons.2 h⟩
      rcases List.mem_cons.1 hy with rfl | hy
      · exact hvx
      · exact keyLt_tr hvx (h.1 y hy)
theorem srt_sorted' : ∀ (l o : List Ve), o.Pairwise (fun x y => keyLt x y = true) → l.Pairwise (fun x y => x.id < y.id) → (∀ x ∈ o, ∀ y ∈ l, x.id < y.id) → (l.foldl (fun o v => insV v o) o).Pairwise (fun x y => keyLt x y = true)
  | [], o, h, _, _ => h
  | v :: l, o, h, hl, hx => by
    rw [List.pairwise_cons] at hl
    refine srt_sorted' l _ (insV_sorted h fun x hx' => hx x hx' v (List.mem_cons_self ..)) hl.2 fun x hx' y hy => ?_
    rcases insV_mem hx' with rfl | hx'
    · exact hl.1 y hy
    · exact hx x hx' y (List.mem_cons_of_mem _ hy)
theorem srt_sorted {l : List Ve} (h : l.Pairwise (fun x y => x.id < y.id)) : (srtV l).Pairwise (fun x y => keyLt x y = true) :=
  srt_sorted' l [] List.Pairwise.nil h (fun x hx => by cases hx)
/-- Two lists of the same elements, each in a strict order, are one. -/
theorem perm_one {α : Type} {r : α → α → Prop} (hr : ∀ x y, r x y → r y x → False) : ∀ {l m : List α}, l.Perm m → l.Pairwise r → m.Pairwise r → l = m
  | [], m, h, _, _ => (List.nil_perm.1 h).symm
  | x :: xs, [], h, _, _ => absurd h.length_eq (by simp)
  | x :: xs, y :: ys, h, h1, h2 => by
    rw [List.pairwise_cons] at h1 h2
    have hx : x ∈ y :: ys := h.mem_iff.1 (List.mem_cons_self ..)
    have hy : y ∈ x :: xs := h.mem_iff.2 (List.mem_cons_self ..)
    have e : x = y := by
      rcases List.mem_cons.1 hx with e | hx
      · exact e
      · rcases List.mem_cons.1 hy with e | hy
        · exact e.symm
        · exact absurd (h2.1 x hx) fun k => hr _ _ k (h1.1 y hy)
    subst e
    rw [perm_one hr (List.Perm.cons_inv h) h1.2 h2.2]
def roOf (v : Ve) (lat : Bool) : Ro := ⟨v.ke, false, v.id, v.mar, lat, v.size, v.tier⟩
/-- Is the i-th of the sorted ones the first of its key? -/
def latAt (l : List Ve) (i : Nat) : Bool := i == 0 || !eqS (l.getD (i - 1) ve0).ke (l.getD i ve0).ke
def rowsK (l : List Ve) (k : Nat) : List Ro := (List.range k).map fun i => roOf (l.getD i ve0) (latAt l i)
def rowsL (l : List Ve) : List Ro := rowsK l l.length
theorem rowsK_next (l : List Ve) (k : Nat) : rowsK l (k + 1) = rowsK l k ++ [roOf (l.getD k ve0) (latAt l k)] := by
  unfold rowsK
  rw [List.range_succ, List.map_append]
  rfl
theorem rowsK_len (l : List Ve) (k : Nat) : (rowsK l k).length = k := by simp [rowsK]
theorem rowsK_at (l : List Ve) {i k : Nat} (h : i < k) : (rowsK l k).getD i ro0 = roOf (l.getD i ve0) (latAt l i) := by
  unfold rowsK
  simp [List.getD, h]
theorem rowsK_take (l : List Ve) {i k : Nat} (h : i ≤ k) : (rowsK l k).take i = rowsK l i := by
  unfold rowsK
  rw [← List.map_take, List.take_range, Nat.min_eq_left h]
/-- Where a text has a letter first, from a place on (from there). -/
def posI (s : ByteArray) (c : Int) (k : Nat) : Int := firstI (s.size - k) (fun i => bt s (k + i) == c)
/-- The row of what a key shares with others, or its own. -/
def shR (r : Ro) (pre dl : ByteArray) : Ro :=
  if dl.size = 0 then r else if posI r.key (bt dl 0) pre.size < 0 then r else ⟨r.key.extract 0 (pre.size + (posI r.key (bt dl 0) pre.size).toNat + 1), true, 0, false, false, 0, 0⟩
def gtB (a b : ByteArray) : Bool := !(Op.bytesLess a.toList b.toList || a.toList == b.toList)
def stepR (pre dl af : ByteArray) (r : Ro) : Option Ro := if r.mar || !r.lat then none else if gtB (shR r pre dl).key af then some (shR r pre dl) else none
def eqR (a b : Ro) : Bool := eqS a.key b.key && (a.com == b.com) && (a.id == b.id) && (a.mar == b.mar) && (a.lat == b.lat) && (a.size == b.size) && (a.tier == b.tier)
theorem eqR_iff {a b : Ro} : eqR a b = true ↔ a = b := by
  obtain ⟨a1, a2, a3, a4, a5, a6, a7⟩ := a
  obtain ⟨b1, b2, b3, b4, b5, b6, b7⟩ := b
  unfold eqR
  simp only [Bool.and_eq_true, beq_iff_eq, Ro.mk.injEq]
  constructor
  · rintro ⟨⟨⟨⟨⟨⟨h1, h2⟩, h3⟩, h4⟩, h5⟩, h6⟩, h7⟩
    exact ⟨eqS_to h1, h2, h3, h4, h5, h6, h7⟩
  · rintro ⟨rfl, rfl, rfl, rfl, rfl, rfl, rfl⟩
    exact ⟨⟨⟨⟨⟨⟨(eqS_iff _ _).2 rfl, rfl⟩, rfl⟩, rfl⟩, rfl⟩, rfl⟩, rfl⟩
/-- A row that is as the one told ahead of it is told once. -/
def addR (o : List Ro) (r : Ro) : List Ro := if o ≠ [] ∧ eqR (o.getD (o.length - 1) ro0) r = true then o else o ++ [r]
def cmpL (l : List Ro) : List Ro := l.foldl addR []
theorem cmpL_snoc (l : List Ro) (r : Ro) : cmpL (l ++ [r]) = addR (cmpL l) r := by unfold cmpL; rw [List.foldl_append]; rfl
def apL (pre dl af : ByteArray) (l : List Ro) : List Ro := l.filterMap (stepR pre dl af)
def keysL (S : St) (nm pre dl af : ByteArray) : List Ro := cmpL (apL pre dl af (rowsL (sv S nm pre)))
def versL (S : St) (nm pre : ByteArray) : List Ro := rowsL (sv S nm pre)
end Go.Proofs.YtdgmdapijhbocaaGreat
