/- state.copyVersion. -/
import Derived.Test.YtclnabbojhbmhaaCpi
namespace Go.Proofs.Ytclnabbojhbmhaa
open Go.RowKit Go.Maps
set_option maxRecDepth 100000
set_option linter.unusedVariables false
set_option linter.unusedSimpArgs false
theorem fz_of {w : World} {g : Nat} {c : Array Value} {t : TypeId} (h : w.heap[g]? = some (.cells c t (0, 0))) (i : Nat) : w.frozen? ⟨g, i, none⟩ = false := by simp [World.frozen?, h]
abbrev zeroVe : Array Value := #[.int .i64 0, .string ⟨#[]⟩, .string ⟨#[]⟩, .bool false, .bool false, .int .i64 0, .int .i64 0, .int .i64 0, .slice none 0 0, .int .i64 0, .int .i64 0, .int .i64 0]
theorem OwI.low {w : World} {B : Nat} {v : Value} {xs : List Int} (h : OwI w B v xs) {g i : Nat} (hg : g < B) (u : Value) : OwI (w.setCell ⟨g, i, none⟩ u) B v xs :=
  World.ownsRow.kept (row := some g) h ⟨rfl, rfl, rfl, by simp [World.setCell], fun k hk hne => Below.heap_setCell _ _ _ _ (fun e => hne (by rw [e]))⟩ (.inr (fun e => by have := own_blk h g e; omega))
set_option maxHeartbeats 1000000 in
theorem copyVersion_any (X : Ve) (ua : Option Addr) (un uc : Nat) (w : World) (hI : Ints w (.slice ua un uc) X.sec) (hn : X.sec.length * 8 ≤ 281474976710656) :
    Calls Try.prog 44 #[veV X (.slice ua un uc)] w fun e w' => ∃ o, e = .returned (veV X o) ∧ OwI w' w.heap.size o X.sec ∧ Below w.heap.size w w' := by
  have HI := hide hI
  clear hI
  go_enter Try.func44, Try.ntmps44
  go_wp2_with fail
  refine (copyInts_any _ X.sec _ (Ints.up (bl_alloc (bl1 _ _) _) (unhide HI)) hn).mono ?_
  rintro e w1 ⟨o, rfl, hO, hb⟩
  obtain ⟨oa, oc, rfl, o1, o2⟩ := hO.form
  obtain ⟨cX, cR⟩ := boxes hb
  have g1 : w1.heap[w.heap.size]? = some (.cells #[.int .i64 X.id, .string X.bu, .string X.ke, .bool X.nul, .bool X.mar, .int .i64 X.size, .int .i64 X.time, .int .i64 X.tier, .slice ua un uc, .int .i64 X.vol, .int .i64 X.pos, .int .i64 X.til] 45 (0, 0)) := by
    rw [hb.block w.heap.size (by simp; omega), (bl1 (w.alloc _) _).block w.heap.size (by simp)]
    exact heap_alloc_new _ _
  have f1 := fz_of g1 8
  have hsz : w.heap.size + 2 ≤ w1.heap.size := by have := hb.size; simp at this; omega
  have f2 : ∀ j, w1.frozen? ⟨w.heap.size + 1, j, none⟩ = false := fun j => by
    rw [hb.frozen (p := ⟨w.heap.size + 1, j, none⟩) (by simp)]
    exact fz_of (c := zeroVe) (t := 45) (by simpa using heap_alloc_new (w.alloc _) (.cells zeroVe 45)) j
  have x0 := cX 0 _ rfl
  have x1 := cX 1 _ rfl
  have x2 := cX 2 _ rfl
  have x3 := cX 3 _ rfl
  have x4 := cX 4 _ rfl
  have x5 := cX 5 _ rfl
  have x6 := cX 6 _ rfl
  have x7 := cX 7 _ rfl
  have x8 := cX 8 _ rfl
  have x9 := cX 9 _ rfl
  have x10 := cX 10 _ rfl
  have x11 := cX 11 _ rfl
  have z0 := cR 0 _ rfl
  have z1 := cR 1 _ rfl
  have z2 := cR 2 _ rfl
  have z3 := cR 3 _ rfl
  have z4 := cR 4 _ rfl
  have z5 := cR 5 _ rfl
  have z6 := cR 6 _ rfl
  have z7 := cR 7 _ rfl
  have z8 := cR 8 _ rfl
  have z9 := cR 9 _ rfl
  have z10 := cR 10 _ rfl
  have z11 := cR 11 _ rfl
  have hO2 : OwI w1 (w.heap.size + 2) (.slice oa X.sec.length oc) X.sec := by simpa using hO
  have HO := hide hO2
  have HB : Hid (Below w.heap.size w w1) := bl_trans (bl_alloc (bl1 _ _) _) hb
  clear cX cR g1 hO hO2 hb
  go_wp2
  refine bodyPost_ret (v := veV X (.slice oa X.sec.length oc)) (by simp [results, Try.results44, go_sem, *]) rfl ⟨.slice oa X.sec.length oc, rfl, ?_, ?_⟩
  · refine own_lo (B := w.heap.size + 2) ?_ (by omega)
    (iterate 13 (refine OwI.low ?_ (by omega) _))
    exact unhide HO
  · (iterate 13 (refine bl_set ?_ (by simp <;> omega) _))
    exact unhide HB
end Go.Proofs.Ytclnabbojhbmhaa
