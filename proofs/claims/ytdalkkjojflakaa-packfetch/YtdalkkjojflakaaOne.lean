/- dev.oneThing and the document's spent: the devices' fuel, and devices of one's own. -/
import Derived.Test.YtdalkkjojflakaaArmC
import Derived.Test.YtdalkkjojflakaaDCp
namespace Go.Proofs.Ytdalkkjojflakaa
open Go.RowKit
set_option linter.unusedVariables false
set_option linter.unusedSimpArgs false

theorem CDev.up {w w' : World} {B M : Nat} {s c v : Value} {D : Dv} (h : CDev w B M s c v D) (hb : Below w.heap.size w w') : CDev w' B M s c v D := by
  obtain ⟨h0, ⟨gs, us, g, rfl, h1, h2, h3⟩, ⟨gc, uc, rfl, h4, h5, h6⟩, ⟨gv, uv, rfl, h7, h8, h9, h10⟩⟩ := h
  exact ⟨h0, ⟨gs, us, g, rfl, h1, h2.up hb, h3.up hb (Nat.le_refl _)⟩, ⟨gc, uc, rfl, h4, h5.up hb, h6.imp fun _ _ q => q.up hb⟩, ⟨gv, uv, rfl, h7, h8.up hb, h9.imp fun _ _ q => q.up hb, h10⟩⟩
theorem CDev.kept {w w' : World} {B M : Nat} {s c v : Value} {D : Dv} (h : CDev w B M s c v D) {g : Nat} {t : TypeId} {cs : List Value} (hr : Row w g t cs) (t1 : 5 ≠ t) (t2 : 24 ≠ t) (t3 : 94 ≠ t) (t4 : 79 ≠ t) (hg : w.grownBy w' (some g)) : CDev w' B M s c v D := by
  obtain ⟨h0, ⟨gs, us, gg, rfl, h1, h2, h3⟩, ⟨gc, uc, rfl, h4, h5, h6⟩, ⟨gv, uv, rfl, h7, h8, h9, h10⟩⟩ := h
  exact ⟨h0, ⟨gs, us, gg, rfl, h1, h2.kept hg (by simpa using h2.apart hr t2), h3.kept hr t1 hg⟩, ⟨gc, uc, rfl, h4, h5.kept hg (by simpa using h5.apart hr t3), h6.imp fun _ _ q => q.kept hr t1 hg⟩, ⟨gv, uv, rfl, h7, h8.kept hg (by simpa using h8.apart hr t4), h9.imp fun _ _ q => q.kept hr t1 hg, h10⟩⟩
theorem CDev.base {w : World} {B B' M : Nat} {s c v : Value} {D : Dv} (h : CDev w B M s c v D) (hB : B' ≤ B) : CDev w B' M s c v D := by
  obtain ⟨h0, ⟨gs, us, gg, rfl, h1, h2, h3⟩, ⟨gc, uc, rfl, h4, h5, h6⟩, ⟨gv, uv, rfl, h7, h8, h9, h10⟩⟩ := h
  exact ⟨Nat.le_trans hB h0, ⟨gs, us, gg, rfl, Nat.le_trans hB h1, h2, ⟨h3.len, h3.pos, h3.blk, fun i hi => Nat.le_trans hB (h3.lo i hi), h3.hi, h3.inc⟩⟩, ⟨gc, uc, rfl, Nat.le_trans hB h4, h5, h6⟩, ⟨gv, uv, rfl, Nat.le_trans hB h7, h8, h9, h10⟩⟩
theorem CDev.form {w : World} {B M : Nat} {s c v : Value} {D : Dv} (h : CDev w B M s c v D) : ∃ gs gc gv, s = .slice (some ⟨gs, 0, none⟩) D.safe.length D.safe.length ∧ c = .slice (some ⟨gc, 0, none⟩) D.cache.length D.cache.length ∧ v = .slice (some ⟨gv, 0, none⟩) D.vols.length D.vols.length := by
  obtain ⟨h0, ⟨gs, us, g, rfl, h1, h2, h3⟩, ⟨gc, uc, rfl, h4, h5, h6⟩, ⟨gv, uv, rfl, h7, h8, h9, h10⟩⟩ := h
  exact ⟨_, _, _, rfl, rfl, rfl⟩

/-- The fuel behind one thing. -/
def lessF (f : Int) : Int := if 0 < f then f - 1 else f

set_option maxHeartbeats 1000000 in
theorem oneThing_zero (s c v : Value) (D : Dv) (w : World) (hF : D.fuel = 0) :
    Calls Try.prog 39 #[.agg #[s, c, v, .int .i64 D.fuel]] w fun e w' =>
      e = .returned (.tuple #[.agg #[.slice none 0 0, .slice none 0 0, .slice none 0 0, .int .i64 0], .int .i64 10]) ∧ Below w.heap.size w w' := by
  go_enter Try.func39, Try.ntmps39
  go_wp2
  refine bodyPost_ret (v := .tuple #[.agg #[.slice none 0 0, .slice none 0 0, .slice none 0 0, .int .i64 0], .int .i64 10]) (by simp [results, Try.results39, go_sem, *]) rfl ⟨rfl, ?_⟩
  repeat (first | exact bl2 _ _ _ | refine bl_set ?_ (by simp <;> omega) _)
set_option maxHeartbeats 1000000 in
theorem oneThing_some (s c v : Value) (D : Dv) (w : World) (hD : Dev w s c v D) (hfit : Fits D) (hF : D.fuel ≠ 0) (hlo : -1 ≤ D.fuel) (hhi : D.fuel ≤ 1048576) :
    Calls Try.prog 39 #[.agg #[s, c, v, .int .i64 D.fuel]] w fun e w' =>
      ∃ s' c' v' M, e = .returned (.tuple #[.agg #[s', c', v', .int .i64 (lessF D.fuel)], .int .i64 0]) ∧ CDev w' w.heap.size M s' c' v' D ∧ Below w.heap.size w w' := by
  have HD := hide hD
  have HFIT := hide hfit
  obtain ⟨⟨a1, cap1, rfl, _⟩, ⟨a2, cap2, rfl, _⟩, ⟨a3, cap3, rfl, _⟩⟩ := hD
  clear hfit
  obtain ⟨F, hFF⟩ : ∃ F, D.fuel = F := ⟨_, rfl⟩
  rw [hFF] at hF hlo hhi ⊢
  have HFF := hide hFF
  clear hFF
  have t1 : (F == 0) = false := by simpa using hF
  go_enter Try.func39, Try.ntmps39
  go_wp2_with fail
  refine (copyDevices_any _ _ _ D F _ ((unhide HD).up (bl2 _ _ _)) (unhide HFIT)).mono ?_
  rintro e w2 ⟨s', c', v', M, rfl, hCD, hb2⟩
  have hb0 := bl_trans (bl2 _ _ _) hb2
  have hdv := (hCD.odev (unhide HFIT)).dev
  obtain ⟨⟨b1, dap1, rfl, _⟩, ⟨b2, dap2, rfl, _⟩, ⟨b3, dap3, rfl, _⟩⟩ := hdv
  have f3 := box2a hb2 3 rfl
  have hR := box2r (cs := [.slice none 0 0, .slice none 0 0, .slice none 0 0, .int .i64 0]) hb2
  have d0 := hR.cell 0 _ rfl
  have d1 := hR.cell 1 _ rfl
  have d2 := hR.cell 2 _ rfl
  have d3 := hR.cell 3 _ rfl
  have df := hR.unfrozen
  have hrl := hR.lt
  have HR := hide hR
  have hgl : w.heap.size < w2.heap.size := by omega
  have HC := hide (hCD.base (B' := w.heap.size) (by simp; omega))
  clear hR hCD hb2
  by_cases hp : 0 < F
  · have HL : Hid (F - 1 = lessF F) := by unfold Hid lessF; rw [if_pos hp]
    go_wp2
    refine bodyPost_ret (v := .tuple #[.agg #[.slice b1 D.safe.length dap1, .slice b2 D.cache.length dap2, .slice b3 D.vols.length dap3, .int .i64 (F - 1)], .int .i64 0]) (by simp [results, Try.results39, go_sem, *]) rfl ⟨_, _, _, M, ret_dev (unhide HL) rfl, ?_, ?_⟩
    · refine CDev.up (CDev.kept (unhide HC) (unhide HR) (by decide) (by decide) (by decide) (by decide) ?_) (bl1 _ _)
      repeat (first | exact gb_refl _ _ | refine gb_set ?_ _ _)
    · refine bl_alloc ?_ _
      repeat (first | exact hb0 | refine bl_set ?_ (by simp <;> omega) _)
  · have HL : Hid (F = lessF F) := by unfold Hid lessF; rw [if_neg hp]
    go_wp2
    refine bodyPost_ret (v := .tuple #[.agg #[.slice b1 D.safe.length dap1, .slice b2 D.cache.length dap2, .slice b3 D.vols.length dap3, .int .i64 F], .int .i64 0]) (by simp [results, Try.results39, go_sem, *]) rfl ⟨_, _, _, M, ret_dev (unhide HL) rfl, ?_, ?_⟩
    · refine CDev.up (CDev.kept (unhide HC) (unhide HR) (by decide) (by decide) (by decide) (by decide) ?_) (bl1 _ _)
      repeat (first | exact gb_refl _ _ | refine gb_set ?_ _ _)
    · refine bl_alloc ?_ _
      repeat (first | exact hb0 | refine bl_set ?_ (by simp <;> omega) _)
end Go.Proofs.Ytdalkkjojflakaa
