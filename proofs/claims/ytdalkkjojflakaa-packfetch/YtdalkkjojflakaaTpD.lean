/- icehousekeep.TapeTail: plain facts of the devices that it makes; a text's bytes in a block of their own. -/
import Derived.Test.YtdalkkjojflakaaCnv
import Derived.Test.YtdalkkjojflakaaStr
import Derived.Test.YtdalkkjojflakaaApC
namespace Go.Proofs.Ytdalkkjojflakaa
open Go.RowKit
set_option maxRecDepth 100000
set_option linter.unusedVariables false
set_option linter.unusedSimpArgs false

theorem geoS : geoB 6 2 6 300 3 = true := by decide
/-- A text's bytes in a block of their own. -/
def Txs (w : World) (v : Value) (t : ByteArray) : Prop := ∃ g cap fr, v = .slice (some ⟨g, 0, none⟩) t.size cap ∧ t.size ≤ cap ∧ cap ≤ maxLen ∧ w.heap[g]? = some (.cells (bytesRow t cap) 5 fr)
theorem Txs.up {w w' : World} {v : Value} {t : ByteArray} (h : Txs w v t) (hb : Below w.heap.size w w') : Txs w' v t := by
  obtain ⟨g, cap, fr, e, h1, h2, h3⟩ := h
  exact ⟨g, cap, fr, e, h1, h2, (hb.block g (Array.getElem?_eq_some_iff.1 h3).1).trans h3⟩
theorem Txs.kept {w w' : World} {v : Value} {t : ByteArray} (h : Txs w v t) {q : Nat} {ty : TypeId} {cs : List Value} (hr : Row w q ty cs) (ht : 5 ≠ ty) (hg : w.grownBy w' (some q)) : Txs w' v t := by
  obtain ⟨g, cap, fr, e, h1, h2, h3⟩ := h
  refine ⟨g, cap, fr, e, h1, h2, (hg.block g (Array.getElem?_eq_some_iff.1 h3).1 ?_).trans h3⟩
  intro e
  simp only [Option.some.injEq] at e
  subst e
  have := h3.symm.trans hr
  simp at this
  exact ht this.2.1
theorem Txs.bts {w : World} {v : Value} {t : ByteArray} (h : Txs w v t) : Bts w v (bytesI t) := by
  obtain ⟨g, cap, fr, rfl, h1, h2, h3⟩ := h
  refine ⟨_, cap, by rw [bytesI_length], by rw [bytesI_length]; exact h1, h2, fun i hi => ⟨g, 0, rfl, ?_⟩⟩
  rw [bytesI_length] at hi
  rw [Nat.zero_add, cell_of_row _ g i _ _ _ h3]
  have hi' : i < t.data.size := hi
  unfold bytesRow bytesI
  rw [Array.getElem?_append_left (by simpa using hi'), Array.getElem?_map, Array.getElem?_eq_getElem hi']
  rw [List.getD, List.getElem?_map, Array.getElem?_toList, Array.getElem?_eq_getElem hi']
  rfl
theorem Txs.new (u : World) (t : ByteArray) (c : Nat) (fr : Nat × Nat) (h1 : t.size ≤ c) (h2 : c ≤ maxLen) : Txs (u.alloc (.cells (bytesRow t c) 5 fr)) (.slice (some ⟨u.heap.size, 0, none⟩) t.size c) t :=
  ⟨_, c, fr, rfl, h1, h2, heap_alloc_new _ _⟩

def tsf : List (List Int) := List.replicate 18 zeros
def tD0 : Dv := ⟨tsf, [], [], -1⟩
def tD1 (xs : List Int) : Dv := ⟨tsf, [], [⟨xs, 0, false⟩], -1⟩
def tD2 (xs : List Int) : Dv := ⟨tsf, [], [⟨xs, xs.length, false⟩], -1⟩
def tD3 (xs ys : List Int) : Dv := ⟨tsf, [], [⟨xs ++ ys, xs.length, false⟩], -1⟩
def tD4 (xs zs : List Int) : Dv := ⟨tsf, [], [⟨xs ++ zs, xs.length + zs.length, false⟩], -1⟩
theorem tD0_eq : newD 6 2 6 300 3 = tD0 := by rw [newD_t geoS]; rfl
theorem tOk0 : DOk 6 2 6 300 3 tD0 := by rw [← tD0_eq]; exact DOk.new geoS
theorem tE0 : geoE 6 2 6 300 3 = 0 := by simp [geoE, geoS]
section
variable {xs ys : List Int} (hx : xs.length ≤ 100) (hy : ys.length ≤ 100)
include hx
theorem tE1' : appE 300 3 tD0 0 xs.length 0 = 0 := appE_okN (by decide) (by omega) (by decide)
theorem tE1 : appE 300 3 tD0 0 xs.length (chkE 6 2 6 300 3 tD0) = 0 := by rw [chk_ok geoS tOk0]; exact tE1' hx
omit hx in
theorem tD1_eq (xs : List Int) : appD 3 tD0 0 xs 0 = tD1 xs := by rw [appD_ok]; rfl
theorem tOk1 : DOk 6 2 6 300 3 (tD1 xs) := by rw [← tD1_eq]; exact tOk0.app (tE1' hx) (by decide)
theorem tE2 : marE (tD1 xs) (chkE 6 2 6 300 3 (tD1 xs)) = 0 := by rw [chk_ok geoS (tOk1 hx)]; exact marE_ok (by simp [tD1])
omit hx in
theorem tD2_eq (xs : List Int) : marD (tD1 xs) 0 = tD2 xs := by rw [marD_ok]; rfl
theorem tOk2 : DOk 6 2 6 300 3 (tD2 xs) := by rw [← tD2_eq]; exact (tOk1 hx).mar (by simp [tD1])
include hy
theorem tE3' : appE 300 3 (tD2 xs) 0 ys.length 0 = 0 := appE_okO (by simp [appB, tD2]) (by simp [isVol, tD2, inB]) (by simp [tD2]; omega) (by simp [tD2])
theorem tE3 : appE 300 3 (tD2 xs) 0 ys.length (chkE 6 2 6 300 3 (tD2 xs)) = 0 := by rw [chk_ok geoS (tOk2 hx)]; exact tE3' hx hy
omit hx hy in
theorem tD3_eq (xs ys : List Int) : appD 3 (tD2 xs) 0 ys 0 = tD3 xs ys := by rw [appD_ok, appVs_f (by simp [appB, tD2])]; rfl
theorem tOk3 : DOk 6 2 6 300 3 (tD3 xs ys) := by rw [← tD3_eq]; exact (tOk2 hx).app (tE3' hx hy) (by decide)
theorem tE4 {k : Int} (hk : 0 ≤ k) : craE k (chkE 6 2 6 300 3 (tD3 xs ys)) = 0 := by rw [chk_ok geoS (tOk3 hx hy)]; exact craE_ok (by omega)
omit hx hy in
theorem tD4_eq (xs ys : List Int) {k : Nat} : craD [] k (tD3 xs ys) 0 = tD4 xs (ys.take k) := by
  rw [craD_ok]
  have hn : craN k ⟨xs ++ ys, xs.length, false⟩ = xs.length + min k ys.length := by
    unfold craN; simp only [List.length_append]; omega
  simp only [tD3, tD4, List.map_cons, List.map_nil, cutV, hn]
  have e1 : pad (xs.length + min k ys.length) (xs ++ ys) = xs ++ ys.take k := by
    unfold pad
    rw [List.take_append, List.take_of_length_le (by omega), show xs.length + min k ys.length - xs.length = min k ys.length by omega, List.length_append, show xs.length + min k ys.length - (xs.length + ys.length) = 0 by omega]
    simp only [List.replicate_zero, List.append_nil]
    congr 1
    rw [List.take_eq_take_iff]; omega
  rw [e1, List.length_take]
  rfl
theorem tOk4 {k : Nat} : DOk 6 2 6 300 3 (tD4 xs (ys.take k)) := by rw [← tD4_eq]; exact (tOk3 hx hy).cra (by omega)
end
section
variable {xs zs : List Int} (o : DOk 6 2 6 300 3 (tD4 xs zs))
include o
theorem tE5 : fetE (tD4 xs zs) 0 0 ((xs.length + zs.length : Nat) : Int) (chkE 6 2 6 300 3 (tD4 xs zs)) = 0 := by
  rw [chk_ok geoS o]
  exact fetE_in (by simp [isVol, tD4, inB]) (by simp [tD4, inB]; omega)
omit o in
theorem tL5 (xs zs : List Int) : fetL (tD4 xs zs) 0 0 ((xs.length + zs.length : Nat) : Int) = xs ++ zs := by
  unfold fetL tD4
  simp only [Int.toNat_zero, Int.toNat_natCast, List.getD_cons_zero, List.drop_zero]
  rw [List.take_of_length_le (by simp)]
theorem tE6 : fetE (tD4 xs zs) 0 0 (((xs.length + zs.length : Nat) : Int) + 1) (chkE 6 2 6 300 3 (tD4 xs zs)) = 2 := by
  rw [chk_ok geoS o]
  exact fetE_out (by simp [isVol, tD4, inB]) (by simp [tD4, inB]; omega)
theorem tE7 (L : Nat) : appE 300 3 (tD4 xs zs) 2 L (chkE 6 2 6 300 3 (tD4 xs zs)) = 6 := by
  rw [chk_ok geoS o]
  exact appE_no (by simp [appB, tD4]) (by simp [isVol, tD4, inB])
end
theorem strOfNums_append (xs ys : List Int) : strOfNums xs ++ strOfNums ys = strOfNums (xs ++ ys) := by
  apply ByteArray.ext
  simp [strOfNums]
end Go.Proofs.Ytdalkkjojflakaa
