/- tier.isFor, tier.ids, Freeze, Drop, Chill. -/
import Derived.Test.YtdalkkjojflakaaTia
namespace Go.Proofs.Ytdalkkjojflakaa
open Go.RowKit Go.Maps
set_option maxRecDepth 100000
set_option linter.unusedVariables false
set_option linter.unusedSimpArgs false
theorem oi_up {w w' : World} {B : Nat} {v : Value} {xs : List Int} (h : OwI w B v xs) (hb : Below w.heap.size w w') : OwI w' B v xs := World.ownsRow.kept h (gb_below (r := none) hb) (Classical.em _)
/-- The numbers of those of the first k versions for which it holds. -/
def idsK (l : List Ve) (p : Ve → Bool) (k : Nat) : List Int := ((l.take k).filter p).map (·.id)
theorem idsK_yes {l : List Ve} {p : Ve → Bool} {k : Nat} (hk : k < l.length) (h : p (l.getD k ve0) = true) : idsK l p (k + 1) = idsK l p k ++ [(l.getD k ve0).id] := by
  unfold idsK
  rw [take_next l ve0 hk, List.filter_append, List.map_append, show List.filter p [l.getD k ve0] = [l.getD k ve0] by rw [List.filter_cons, if_pos h]; rfl]
  rfl
theorem idsK_no {l : List Ve} {p : Ve → Bool} {k : Nat} (hk : k < l.length) (h : p (l.getD k ve0) = false) : idsK l p (k + 1) = idsK l p k := by
  unfold idsK
  rw [take_next l ve0 hk, List.filter_append, List.map_append, show List.filter p [l.getD k ve0] = [] by rw [List.filter_cons, if_neg (by rw [h]; decide)]; rfl]
  exact List.append_nil _
theorem idsK_len (l : List Ve) (p : Ve → Bool) (k : Nat) : (idsK l p k).length ≤ k := by
  unfold idsK
  have := List.length_filter_le p (l.take k)
  rw [List.length_map]
  have h2 := List.length_take_le k l
  omega
theorem idsK_congr {l : List Ve} {p q : Ve → Bool} (k : Nat) (h : ∀ x ∈ l, p x = q x) : idsK l p k = idsK l q k := by
  unfold idsK
  congr 1
  exact List.filter_congr fun x hx => h x (List.mem_of_mem_take hx)
theorem mem_ids {l : List Ve} {p : Ve → Bool} {k : Nat} {n : Int} (h : n ∈ idsK l p k) : ∃ x ∈ l, x.id = n := by
  unfold idsK at h
  obtain ⟨x, hx, rfl⟩ := List.mem_map.1 h
  exact ⟨x, List.mem_of_mem_take (List.mem_filter.1 hx).1, rfl⟩
theorem tstC_ves {S : St} (h : stC S = true) : vesC S = true := by
  unfold stC at h
  simp only [Bool.and_eq_true] at h
  exact h.1.1.1.2
theorem tstC_clock {S : St} (h : stC S = true) : 0 ≤ S.clock ∧ S.clock ≤ 1073741824 := by
  unfold stC at h
  simp only [Bool.and_eq_true] at h
  exact inB_t h.1.1.1.1.1.1.2
theorem tstC_next {S : St} (h : stC S = true) : 1 ≤ S.next ∧ S.next ≤ 1048576 := by
  unfold stC at h
  simp only [Bool.and_eq_true] at h
  exact inB_t h.1.1.1.1.1.1.1
theorem tstC_at {S : St} (h : stC S = true) {x : Ve} (hx : x ∈ S.ves) : veC S x = true := by
  have h1 := tstC_ves h
  unfold vesC at h1
  simp only [Bool.and_eq_true] at h1
  obtain ⟨k, hk, e⟩ := mem_at (d := ve0) hx
  have := allB_iff.1 h1.1.2 k hk
  unfold vesQ at this
  rwa [e] at this
theorem tstC_len {S : St} (h : stC S = true) : S.ves.length ≤ 40 := by
  have h1 := tstC_ves h
  unfold vesC at h1
  simp only [Bool.and_eq_true, decide_eq_true_eq] at h1
  have := h1.1.1.1
  omega
theorem tveC_id {S : St} {x : Ve} (h : veC S x = true) : 1 ≤ x.id ∧ x.id ≤ S.next - 1 := by
  unfold veC namC at h
  simp only [Bool.and_eq_true] at h
  exact inB_t h.1.1.1.1
theorem tveC_time {S : St} {x : Ve} (h : veC S x = true) : 0 ≤ x.time ∧ x.time ≤ S.clock := by
  unfold veC namC at h
  simp only [Bool.and_eq_true] at h
  exact inB_t h.1.2
theorem mem_getD {l : List Ve} {k : Nat} (hk : k < l.length) : l.getD k ve0 ∈ l := by
  rw [List.getD_eq_getElem?_getD, List.getElem?_eq_getElem hk]
  exact List.getElem_mem hk
theorem ids_wf {S : St} (h : stC S = true) (p : Ve → Bool) (k : Nat) : ∀ x ∈ idsK S.ves p k, (Lit.int .i64 x).wf = true := by
  intro n hn
  obtain ⟨x, hx, rfl⟩ := mem_ids hn
  have h1 := tveC_id (tstC_at h hx)
  have h2 := tstC_next h
  obtain ⟨m, hm⟩ := Int.eq_ofNat_of_zero_le (show 0 ≤ x.id by omega)
  rw [hm]
  exact wfNat (by omega)
def ageE (S : St) (X : Ve) (dr : Bool) : Bool := decide (0 ≤ firstI S.bus.length (fun i => ageP S X dr (S.bus.getD i bu0)))
end Go.Proofs.Ytdalkkjojflakaa
