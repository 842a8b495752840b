/- A text's bytes, as '[]byte(s)' lays them. -/
import Derived.Test.YtdalkkjojflakaaKp1
import Derived.Laws.IdiomStrings
namespace Go.Proofs.Ytdalkkjojflakaa
open Go.RowKit
set_option maxRecDepth 100000
set_option linter.unusedVariables false
set_option linter.unusedSimpArgs false

/-- The numbers of a text's bytes. -/
def bytesI (t : ByteArray) : List Int := t.data.toList.map fun b => (b.toNat : Int)
theorem bytesI_length (t : ByteArray) : (bytesI t).length = t.size := by simp [bytesI]
theorem Bts.conv (w : World) (t : ByteArray) (cap : Nat) (fr : Nat × Nat) (hc : t.size ≤ cap) (hm : cap ≤ maxLen) {m : Nat} (hs : t.size = m) :
    Bts (w.alloc (.cells (bytesRow t cap) 5 fr)) (.slice (some ⟨w.heap.size, 0, none⟩) m cap) (bytesI t) := by
  subst hs
  refine ⟨_, cap, by rw [bytesI_length], by rw [bytesI_length]; exact hc, hm, fun i hi => ⟨w.heap.size, 0, rfl, ?_⟩⟩
  rw [bytesI_length] at hi
  have hh : (w.alloc (.cells (bytesRow t cap) 5 fr)).heap[w.heap.size]? = some (.cells (bytesRow t cap) 5 fr) := heap_alloc_new _ _
  rw [Nat.zero_add, cell_of_row _ w.heap.size i _ _ _ hh]
  have hi' : i < t.data.size := hi
  unfold bytesRow bytesI
  rw [Array.getElem?_append_left (by simpa using hi'), Array.getElem?_map, Array.getElem?_eq_getElem hi']
  rw [List.getD, List.getElem?_map, Array.getElem?_toList, Array.getElem?_eq_getElem hi']
  rfl
/-- The run, for every world, at a text that has a name. -/
theorem conv_run (t : ByteArray) (m : Nat) (hs : t.size = m) (u : World) : (convert 9 24 (.string t)).run Try.prog u = .ok (.slice (some ⟨u.heap.size, 0, none⟩) m (grownCap u m 0 5)) (u.drew.alloc (.cells (bytesRow t (grownCap u m 0 5)) 5 ((bytesRow t (grownCap u m 0 5)).size, (bytesRow t (grownCap u m 0 5)).size + 1))) := by
  subst hs
  exact run_bytes_of_string (P := Try.prog) u 9 24 5 t Try.underlying9 Try.underlying24 Try.underlying5
theorem conv_cap (u : World) (m : Nat) (hm : m ≤ maxLen) : m ≤ grownCap u m 0 5 ∧ grownCap u m 0 5 ≤ maxLen := ⟨grownCap_ge u m 0 _, grownCap_le_maxLen u m 0 _ hm⟩
end Go.Proofs.Ytdalkkjojflakaa
