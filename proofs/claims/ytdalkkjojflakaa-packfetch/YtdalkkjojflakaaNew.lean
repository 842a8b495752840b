/- dev.New. -/
import Derived.Test.YtdalkkjojflakaaChk3
import Derived.Test.YtdalkkjojflakaaDvk
namespace Go.Proofs.Ytdalkkjojflakaa
open Go.RowKit
set_option linter.unusedVariables false
set_option linter.unusedSimpArgs false

theorem infoBts : (Try.prog.info? 24).map (fun i => (i.zero, i.size, i.bytes)) = some (some (.slice none 0 0), 1, 24) := by kernel_rfl
def zeros : List Int := List.replicate 64 0
theorem zeros64 : zeros.length = 64 := by simp [zeros]
def newD (r a h vm nv : Int) : Dv := if geoB r a h vm nv then ⟨List.replicate (2 + r + 2 * a + h).toNat zeros, [], [], -1⟩ else ⟨[], [], [], 0⟩
theorem newD_t {r a h vm nv : Int} (x : geoB r a h vm nv = true) : newD r a h vm nv = ⟨List.replicate (2 + r + 2 * a + h).toNat zeros, [], [], -1⟩ := by simp [newD, x]
theorem newD_f {r a h vm nv : Int} (x : geoB r a h vm nv = false) : newD r a h vm nv = ⟨[], [], [], 0⟩ := by simp [newD, x]
theorem box2r {w w1 : World} {c0 : Array Value} {cs : List Value} {t0 t1 : TypeId} (hb : Below ((w.alloc (.cells c0 t0)).alloc (.cells cs.toArray t1)).heap.size ((w.alloc (.cells c0 t0)).alloc (.cells cs.toArray t1)) w1) : Row w1 (w.heap.size + 1) t1 cs := by
  have := (Row.new (w.alloc (.cells c0 t0)) t1 cs).up hb
  simpa using this

set_option maxHeartbeats 1000000 in
theorem new_any (r a h vm nv : Int) (w : World) :
    Calls Try.prog 16 #[.agg #[.int .i64 r, .int .i64 a, .int .i64 h, .int .i64 vm, .int .i64 nv]] w fun e w' =>
      ∃ s c v, e = .returned (.tuple #[.agg #[s, c, v, .int .i64 (newD r a h vm nv).fuel], .int .i64 (geoE r a h vm nv)]) ∧ ODev w' w.heap.size s c v (newD r a h vm nv) ∧ Below w.heap.size w w' := by
  go_enter Try.func16, Try.ntmps16
  go_wp2_with fail
  refine (checkGeometry_any r a h vm nv _).mono ?_
  rintro e w1 ⟨rfl, hb1⟩
  have hb0 : Below w.heap.size w w1 := bl_trans (bl2 _ _ _) hb1
  have g0 := box2a hb1 0 rfl
  have g1 := box2a hb1 1 rfl
  have g2 := box2a hb1 2 rfl
  have g3 := box2a hb1 3 rfl
  have g4 := box2a hb1 4 rfl
  have f0 := box2b hb1 0 rfl
  have f1 := box2b hb1 1 rfl
  have f2 := box2b hb1 2 rfl
  have f3 := box2b hb1 3 rfl
  have hR := box2r (cs := [.slice none 0 0, .slice none 0 0, .slice none 0 0, .int .i64 0]) hb1
  have z0 := hR.unfrozen
  have HR1 := hide hR
  clear hb1 hR
  cases hg : geoB r a h vm nv
  · rw [geoE_f hg]
    go_wp2
    refine bodyPost_ret (v := .tuple #[.agg #[.slice none 0 0, .slice none 0 0, .slice none 0 0, .int .i64 0], .int .i64 2]) (by simp [results, Try.results16, go_sem, *]) rfl ⟨_, _, _, ret_dev (by rw [newD_f hg]) (geoE_f hg).symm, ?_, ?_⟩
    · rw [newD_f hg]; exact ODev.empty _ _ _
    · repeat (first | exact hb0 | refine bl_set ?_ (by simp) _)
  rw [geoE_t hg]
  obtain ⟨⟨_, _⟩, ⟨_, _⟩, ⟨_, _⟩, ⟨_, _⟩, ⟨_, _⟩⟩ := geoB_bd hg
  obtain ⟨n, hn⟩ : ∃ n : Nat, 2 + r + 2 * a + h = n := ⟨(2 + r + 2 * a + h).toNat, by omega⟩
  have hnb : n ≤ 422 := by omega
  have HN := hide hn
  obtain ⟨i0, hi, hz0, hz1, hz2⟩ := info_parts infoBts
  have hmk : ∀ u : World, (Instr.makeSlice 23 (.int .i64 (n : Int)) (.int .i64 (n : Int))).run Try.prog u =
      .ok (.slice (some ⟨u.heap.size, 0, none⟩) n n) (u.alloc (.cells (List.replicate n (Value.slice none 0 0)).toArray 24)) := fun u => by
    have h := run_make (P := Try.prog) u 23 24 i0 (.slice none 0 0) Try.underlying23 hi hz0 .i64 .i64 (n : Int) (n : Int) (by omega) (Int.le_refl _) (by rw [hz2]; omega) (by omega)
    rw [← made_one]
    simpa [hz1, Value.cells] using h
  obtain ⟨i1, hi1, hy0, hy1, hy2⟩ := info_parts infoU8
  have hmk2 : ∀ u : World, (Instr.makeSlice 24 (.int .i64 64) (.int .i64 64)).run Try.prog u =
      .ok (.slice (some ⟨u.heap.size, 0, none⟩) 64 64) (u.alloc (.cells (u8s zeros).toArray 5)) := fun u => by
    have h := run_make (P := Try.prog) u 24 5 i1 (.int .u8 0) Try.underlying24 hi1 hy0 .i64 .i64 64 64 (by omega) (Int.le_refl _) (by rw [hy2]; omega) (by omega)
    rw [show (u8s zeros) = List.replicate 64 (Value.int .u8 0) by simp [u8s, zeros], ← made_one]
    simpa [hy1, Value.cells] using h
  obtain ⟨R0, hR0⟩ : ∃ R0, R0 = List.replicate n (Value.slice none 0 0) := ⟨_, rfl⟩
  rw [← hR0] at hmk
  have hR0l : R0.length = n := by rw [hR0]; simp
  have HR0l := hide hR0l
  clear hR0 hR0l hn
  obtain ⟨xss, hxs⟩ : ∃ xss, xss = List.replicate n zeros := ⟨_, rfl⟩
  have hxl : xss.length = n := by rw [hxs]; simp
  have hxg : ∀ j, j < n → xss.getD j [] = zeros := fun j hj => by rw [hxs]; simp [List.getD, hj]
  have HXS := hide hxs
  have HXL := hide hxl
  have HXG := hide hxg
  clear hxs hxl hxg
  go_wp2_with fail
  refine (sectors_any r a h vm nv _ (by omega) (by omega) (by omega)).mono ?_
  rintro e w2 ⟨rfl, hb2⟩
  rw [unhide HN]
  replace hb0 := bl_trans hb0 hb2
  have HR2 := hide ((unhide HR1).up hb2)
  clear hb2 g0 g1 g2 g3 g4 f0 f1 f2 f3 z0 HR1
  go_wp2
  go_loopw [6, 18] (fun _ i wr => ∃ k : Nat, k ≤ n ∧ i = .int .i64 k ∧ ∃ cs, Row wr w2.heap.size 24 cs ∧ RowsK wr w.heap.size cs xss k ∧ Below w2.heap.size w2 wr) (fun _ i _ => n - (intOf i).toNat)
  case atStart => exact ⟨0, Nat.zero_le _, rfl, R0, Row.new _ _ _, ⟨by rw [unhide HR0l, unhide HXL], fun j hj => absurd hj (Nat.not_lt_zero _)⟩, bl1 _ _⟩
  case round =>
    obtain ⟨k, hk, rfl, cs, hrow, hfil, hbr⟩ := hrel
    have hrl := hrow.lt
    by_cases hlt : k < n
    · obtain ⟨c0, hc0⟩ : ∃ c0, cs[k]? = some c0 := ⟨_, List.getElem?_eq_getElem (by rw [hfil.1, unhide HXL]; exact hlt)⟩
      have hck := hrow.cell k c0 hc0
      have hfk := hrow.unfrozen k
      have HF := hide hfil
      have HR := hide hrow
      clear hfil hrow hc0
      go_wp2
      go_roundw
      case rel =>
        have hb1 := bl1 wr (.cells (u8s zeros).toArray 5)
        have hz : xss.getD k [] = zeros := unhide HXG k hlt
        have hown : Own (wr.alloc (.cells (u8s zeros).toArray 5)) w.heap.size (.slice (some ⟨wr.heap.size, 0, none⟩) 64 64) (xss.getD k []) := by
          rw [hz]
          have := (Blk.new wr zeros).own (by rw [zeros64]; decide) (B := w.heap.size) (by have := hbr.size; have := hb0.size; omega)
          rw [zeros64] at this
          exact this
        have hfn := ((unhide HF).imp fun _ _ k => k.up hb1).next (by rw [unhide HXL]; exact hlt) ((unhide HR).up hb1) hown
        rw [← World.setCell_alloc_past _ _ _ _ hrl]
        exact ⟨k + 1, by omega, by go_num, _, ((unhide HR).up hb1).set k _, hfn, (bl_alloc hbr _).setCell (by simp) _⟩
      case measure => simp [intOf]; omega
    · obtain rfl : k = n := by omega
      have hRR := (unhide HR2).up hbr
      have hf0 := hRR.cell 0 _ rfl
      have hf1 := hRR.cell 1 _ rfl
      have hf2 := hRR.cell 2 _ rfl
      have hf3 := hRR.cell 3 _ rfl
      have hz0 := hRR.unfrozen
      have HF := hide hfil
      have HR := hide hrow
      have HRR := hide hRR
      clear hfil hrow hRR HR2
      go_wp2
      refine bodyPost_ret (v := .tuple #[.agg #[.slice (some ⟨w2.heap.size, 0, none⟩) k k, .slice none 0 0, .slice none 0 0, .int .i64 (-1)], .int .i64 0]) (by simp [results, Try.results16, go_sem, *]) rfl ⟨_, _, _, ret_dev (by rw [newD_t hg]) (geoE_t hg).symm, ?_, ?_⟩
      · have e : newD r a h vm nv = ⟨xss, [], [], -1⟩ := by rw [newD_t hg, unhide HXS, unhide HN]; rfl
        rw [e]
        have hF := unhide HF
        rw [← unhide HXL] at hF
        have ho := own_row (size := 1) (n := k) (unhide HR) (by rw [hF.1, unhide HXL, Nat.mul_one]) (by unfold maxLen; omega) (B := w.heap.size) (by have := hb0.size; omega)
        have hod : ODev wr w.heap.size (.slice (some ⟨w2.heap.size, 0, none⟩) k k) (.slice none 0 0) (.slice none 0 0) ⟨xss, [], [], -1⟩ := ⟨⟨cs, by rw [unhide HXL]; exact ho, hF.done⟩, (ODev.empty wr _ 0).cache, (ODev.empty wr _ 0).vols⟩
        refine hod.kept (unhide HRR) (by decide) (by decide) (by decide) (by decide) ?_
        repeat (first | exact gb_refl _ _ | refine gb_set ?_ _ _)
      · have := bl_trans hb0 hbr
        repeat (first | exact this | refine bl_set ?_ (by simp) _)
end Go.Proofs.Ytdalkkjojflakaa
