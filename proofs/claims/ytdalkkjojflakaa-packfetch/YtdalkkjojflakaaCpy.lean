/- dev.copyDevices. -/
import Derived.Test.YtdalkkjojflakaaFit
import Derived.Deep.DeepCutAuto
import Derived.Deep.DrawnRows
namespace Go.Proofs.Ytdalkkjojflakaa
open Go.RowKit
set_option linter.unusedVariables false
set_option linter.unusedSimpArgs false

/-- Sectors, each in a block of its own. -/
structure Sec (w : World) (B M : Nat) (us : List Value) (xs : List (List Int)) (g : Nat → Nat) (k : Nat) : Prop where
  len : us.length = xs.length
  pos : ∀ i, i < k → us[i]? = some (.slice (some ⟨g i, 0, none⟩) (xs.getD i []).length (xs.getD i []).length)
  blk : ∀ i, i < k → Blk w (g i) (xs.getD i [])
  lo : ∀ i, i < k → B ≤ g i
  hi : ∀ i, i < k → g i < M
  inc : ∀ i j, i < j → j < k → g i < g j

/-- The first k volumes' bytes have no spare room. -/
def CapK (us : List Value) (k : Nat) : Prop := ∀ i, i < k → ∃ a n, us[i * 3]? = some (.slice a n n)
theorem CapK.next {us : List Value} {k : Nat} (h : CapK us k) (hk : k * 3 < us.length) (a : Option Addr) (n : Nat) (b c : Value) : CapK (((us.set (k * 3) (.slice a n n)).set (k * 3 + 1) b).set (k * 3 + 2) c) (k + 1) := fun i hi => by
  rw [List.getElem?_set_ne (by omega), List.getElem?_set_ne (by omega)]
  by_cases e : i = k
  · subst e; exact ⟨a, n, List.getElem?_set_self hk⟩
  · rw [List.getElem?_set_ne (by omega)]; exact h i (by omega)
/-- Devices that the code has copied: sectors in blocks below M, all other bytes in blocks from M on. -/
structure CDev (w : World) (B M : Nat) (s c v : Value) (D : Dv) : Prop where
  le : B ≤ M
  safe : ∃ gs us g, s = .slice (some ⟨gs, 0, none⟩) D.safe.length D.safe.length ∧ B ≤ gs ∧ Row w gs 24 us ∧ Sec w B M us D.safe g D.safe.length
  cache : ∃ gc us, c = .slice (some ⟨gc, 0, none⟩) D.cache.length D.cache.length ∧ B ≤ gc ∧ Row w gc 94 us ∧ WrsIn w M us D.cache
  vols : ∃ gv us, v = .slice (some ⟨gv, 0, none⟩) D.vols.length D.vols.length ∧ B ≤ gv ∧ Row w gv 79 us ∧ VosIn w M us D.vols ∧ CapK us D.vols.length

theorem Sec.up {w w' : World} {B M M' : Nat} {us : List Value} {xs : List (List Int)} {g : Nat → Nat} {k : Nat} (h : Sec w B M us xs g k) (hb : Below w.heap.size w w') (hM : M ≤ M') : Sec w' B M' us xs g k :=
  ⟨h.len, h.pos, fun i hi => (h.blk i hi).up hb, h.lo, fun i hi => Nat.lt_of_lt_of_le (h.hi i hi) hM, h.inc⟩
theorem Sec.mono {w : World} {B M M' : Nat} {us : List Value} {xs : List (List Int)} {g : Nat → Nat} {k : Nat} (h : Sec w B M us xs g k) (hM : M ≤ M') : Sec w B M' us xs g k := h.up (Below.refl _ _) hM
theorem Sec.kept {w w' : World} {B M : Nat} {us : List Value} {xs : List (List Int)} {g : Nat → Nat} {k : Nat} (h : Sec w B M us xs g k) {gs : Nat} {t : TypeId} {cs : List Value} (hr : Row w gs t cs) (ht : 5 ≠ t) (hg : w.grownBy w' (some gs)) : Sec w' B M us xs g k :=
  ⟨h.len, h.pos, fun i hi => (hg.block _ (h.blk i hi).lt (by have := Row.apart (w := w) (h.blk i hi) hr ht; simpa using this)).trans (h.blk i hi), h.lo, h.hi, h.inc⟩
/-- One more sector, in a new block. -/
theorem Sec.next {w : World} {B : Nat} {us : List Value} {xs : List (List Int)} {g : Nat → Nat} {k : Nat} {gs gn : Nat} (h : Sec w B gn us xs g k) (hk : k < xs.length) (hr : Row w gs 24 us) (hn : Blk w gn (xs.getD k [])) (hB : B ≤ gn) (u : Value) (hu : u = .slice (some ⟨gn, 0, none⟩) (xs.getD k []).length (xs.getD k []).length) :
    Sec (w.setCell ⟨gs, k, none⟩ u) B (gn + 1) (us.set k u) xs (fun i => if i = k then gn else g i) (k + 1) := by
  subst hu
  have hg := gb_set (gb_refl w (some gs)) k (.slice (some ⟨gn, 0, none⟩) (xs.getD k []).length (xs.getD k []).length)
  refine ⟨by simpa using h.len, fun i hi => ?_, fun i hi => ?_, fun i hi => ?_, fun i hi => ?_, fun i j hij hj => ?_⟩
  · by_cases e : i = k
    · subst e; rw [List.getElem?_set_self (by rw [h.len]; exact hk), if_pos rfl]
    · rw [List.getElem?_set_ne (by omega), if_neg e]; exact h.pos i (by omega)
  · by_cases e : i = k
    · subst e; simp only [if_pos]
      exact (hg.block _ hn.lt (by have := Row.apart (w := w) hn hr (by decide); simpa using this)).trans hn
    · simp only [if_neg e]
      have hb := h.blk i (by omega)
      exact (hg.block _ hb.lt (by have := Row.apart (w := w) hb hr (by decide); simpa using this)).trans hb
  · by_cases e : i = k
    · simp only [if_pos e]; exact hB
    · simp only [if_neg e]; exact h.lo i (by omega)
  · by_cases e : i = k
    · simp only [if_pos e]; omega
    · simp only [if_neg e]; have := h.hi i (by omega); omega
  · by_cases e : j = k
    · simp only [if_pos e, if_neg (show i ≠ k by omega)]; exact h.hi i (by omega)
    · simp only [if_neg e, if_neg (show i ≠ k by omega)]; exact h.inc i j hij (by omega)
theorem Row.newAt {w : World} {t : TypeId} {cs : List Value} {A : Array Value} {g : Nat} (hA : A = cs.toArray) (hg : g = w.heap.size) : Row (w.alloc (.cells A t)) g t cs := by subst hA hg; exact Row.new _ _ _
theorem Row.past {w : World} {t : TypeId} {cs : List Value} {g : Nat} (h : Row w g t cs) (o : Obj) : Row (w.alloc o) g t cs := h.up (bl1 _ _)
theorem Row.dr {w : World} {t : TypeId} {cs : List Value} {g : Nat} (h : Row w g t cs) : Row w.drew g t cs := h
theorem un_drew {w w' : World} (h : Below w.drew.heap.size w.drew w') : Below w.heap.size w w' := ⟨h.os, h.tape, h.output, h.size, h.block⟩
theorem pad_same (xs : List Int) : pad xs.length xs = xs := by simp [pad]

attribute [local go_sem ↓] Go.wp_at_zero Go.wp_at_succ
set_option maxHeartbeats 6000000 in
set_option maxRecDepth 100000 in
theorem copyDevices_any (s c v : Value) (D : Dv) (F : Int) (w : World) (hD : Dev w s c v D) (hfit : Fits D) :
    Calls Try.prog 60 #[.agg #[s, c, v, .int .i64 F]] w fun e w' =>
      ∃ s' c' v' M, e = .returned (.agg #[s', c', v', .int .i64 F]) ∧ CDev w' w.heap.size M s' c' v' D ∧ Below w.heap.size w w' := by
  obtain ⟨⟨a1, cap1, rfl, l1, m1, hs⟩, ⟨a2, cap2, rfl, l2, m2, hc⟩, ⟨a3, cap3, rfl, l3, m3, hv⟩⟩ := hD
  obtain ⟨ft1, ft2, ft3, ft4, ft5, ft6⟩ := hfit
  unfold maxLen at m1 m2 m3
  have HS := hide hs
  have HC := hide hc
  have HV := hide hv
  have F4 := hide ft4
  have F5 := hide ft5
  have F6 := hide ft6
  clear hs hc hv ft4 ft5 ft6
  obtain ⟨ns, hns⟩ : ∃ n, D.safe.length = n := ⟨_, rfl⟩
  obtain ⟨nc, hnc⟩ : ∃ n, D.cache.length = n := ⟨_, rfl⟩
  obtain ⟨nv, hnv⟩ : ∃ n, D.vols.length = n := ⟨_, rfl⟩
  rw [hns] at ft1 l1 HS F4 ⊢
  rw [hnc] at ft2 l2 HC F5 ⊢
  rw [hnv] at ft3 l3 HV F6 ⊢
  have NS := hide hns
  have NC := hide hnc
  have NV := hide hnv
  clear hns hnc hnv
  obtain ⟨i0, hi, hz0, hz1, hz2⟩ := info_parts infoBts
  obtain ⟨i1, hi1, hy0, hy1, hy2⟩ := info_parts infoWr
  obtain ⟨i2, hi2, hx0, hx1, hx2⟩ := info_parts infoVo
  obtain ⟨R1, hR1⟩ : ∃ R1, R1 = madeCells #[Value.slice none 0 0] ns := ⟨_, rfl⟩
  obtain ⟨R2, hR2⟩ : ∃ R2, R2 = madeCells #[.int .i64 0, .slice none 0 0] (nc * 2) := ⟨_, rfl⟩
  obtain ⟨R3, hR3⟩ : ∃ R3, R3 = madeCells #[.slice none 0 0, .int .i64 0, .bool false] (nv * 3) := ⟨_, rfl⟩
  have hmk1 : ∀ u : World, (Instr.makeSlice 23 (.int .i64 (ns : Int)) (.int .i64 (ns : Int))).run Try.prog u = .ok (.slice (some ⟨u.heap.size, 0, none⟩) ns ns) (u.alloc (.cells R1 24)) := fun u => by
    have h := run_make (P := Try.prog) u 23 24 i0 (.slice none 0 0) Try.underlying23 hi hz0 .i64 .i64 (ns : Int) (ns : Int) (by omega) (Int.le_refl _) (by rw [hz2]; omega) (by omega)
    simpa [hz1, Value.cells, hR1] using h
  have hmk2 : ∀ u : World, (Instr.makeSlice 34 (.int .i64 (nc : Int)) (.int .i64 (nc : Int))).run Try.prog u = .ok (.slice (some ⟨u.heap.size, 0, none⟩) nc nc) (u.alloc (.cells R2 94)) := fun u => by
    have h := run_make (P := Try.prog) u 34 94 i1 _ Try.underlying34 hi1 hy0 .i64 .i64 (nc : Int) (nc : Int) (by omega) (Int.le_refl _) (by rw [hy2]; omega) (by omega)
    simpa [hy1, Value.cells, hR2] using h
  have hmk3 : ∀ u : World, (Instr.makeSlice 35 (.int .i64 (nv : Int)) (.int .i64 (nv : Int))).run Try.prog u = .ok (.slice (some ⟨u.heap.size, 0, none⟩) nv nv) (u.alloc (.cells R3 79)) := fun u => by
    have h := run_make (P := Try.prog) u 35 79 i2 _ Try.underlying35 hi2 hx0 .i64 .i64 (nv : Int) (nv : Int) (by omega) (Int.le_refl _) (by rw [hx2]; omega) (by omega)
    simpa [hx1, Value.cells, hR3] using h
  have L1 : Hid (R1.size = ns) := by rw [hR1]; exact size_madeCells _ _
  have L2 : Hid (R2.size = nc * 2) := by rw [hR2]; exact size_madeCells _ _
  have L3 : Hid (R3.size = nv * 3) := by rw [hR3]; exact size_madeCells _ _
  clear hR1 hR2 hR3
  go_enter Try.func60, Try.ntmps60
  go_wp2
  obtain ⟨W0, hW0⟩ : ∃ W0, W0 = (w.alloc (.cells #[.slice a1 ns cap1, .slice a2 nc cap2, .slice a3 nv cap3, .int .i64 F] 37)).alloc (.cells #[.slice none 0 0, .slice none 0 0, .slice none 0 0, .int .i64 0] 37) := ⟨_, rfl⟩
  have hb0 : Below w.heap.size w W0 := by rw [hW0]; exact bl2 _ _ _
  have q0 : W0.cell? ⟨w.heap.size, 0, none⟩ = some (.slice a1 ns cap1) := box2a (by rw [← hW0]; exact Below.refl _ W0) 0 rfl
  have q1 : W0.cell? ⟨w.heap.size, 1, none⟩ = some (.slice a2 nc cap2) := box2a (by rw [← hW0]; exact Below.refl _ W0) 1 rfl
  have q2 : W0.cell? ⟨w.heap.size, 2, none⟩ = some (.slice a3 nv cap3) := box2a (by rw [← hW0]; exact Below.refl _ W0) 2 rfl
  have q3 : W0.cell? ⟨w.heap.size, 3, none⟩ = some (.int .i64 F) := box2a (by rw [← hW0]; exact Below.refl _ W0) 3 rfl
  have HRES : Hid (Row W0 (w.heap.size + 1) 37 [.slice none 0 0, .slice none 0 0, .slice none 0 0, .int .i64 0]) := box2r (by rw [← hW0]; exact Below.refl _ W0)
  rw [← hW0]
  clear hW0
  have K0 := hide fun (w' : World) (hb : Below W0.heap.size W0 w') => cell_up hb q0
  have K1 := hide fun (w' : World) (hb : Below W0.heap.size W0 w') => cell_up hb q1
  have K2 := hide fun (w' : World) (hb : Below W0.heap.size W0 w') => cell_up hb q2
  have K3 := hide fun (w' : World) (hb : Below W0.heap.size W0 w') => cell_up hb q3
  go_cut [3, 13, 17, 21] (fun p s1 s2 s3 wc => ∃ Bo gs gc gv, p = .pointer (some ⟨Bo, 0, none⟩) ∧ s1 = .slice (some ⟨gs, 0, none⟩) ns ns ∧ s2 = .slice (some ⟨gc, 0, none⟩) nc nc ∧ s3 = .slice (some ⟨gv, 0, none⟩) nv nv ∧ W0.heap.size ≤ Bo ∧ Row wc Bo 37 [.slice (some ⟨gs, 0, none⟩) ns ns, .slice (some ⟨gc, 0, none⟩) nc nc, .slice (some ⟨gv, 0, none⟩) nv nv, .int .i64 F] ∧ Row wc gs 24 R1.toList ∧ Row wc gc 94 R2.toList ∧ Row wc gv 79 R3.toList ∧ W0.heap.size ≤ gs ∧ W0.heap.size ≤ gc ∧ W0.heap.size ≤ gv ∧ Below W0.heap.size W0 wc)
  case first =>
    go_region_held3 (fun w' => w'.cell? ⟨w.heap.size, 0, none⟩ = some (.slice a1 ns cap1) ∧ w'.cell? ⟨w.heap.size, 1, none⟩ = some (.slice a2 nc cap2) ∧ w'.cell? ⟨w.heap.size, 2, none⟩ = some (.slice a3 nv cap3) ∧ w'.cell? ⟨w.heap.size, 3, none⟩ = some (.int .i64 F))
      (exact ⟨unhide K0 _ (by repeat (first | exact Below.refl _ _ | apply Below.drew | apply bl_alloc | refine bl_set ?_ (by simp <;> omega) _)), unhide K1 _ (by repeat (first | exact Below.refl _ _ | apply Below.drew | apply bl_alloc | refine bl_set ?_ (by simp <;> omega) _)), unhide K2 _ (by repeat (first | exact Below.refl _ _ | apply Below.drew | apply bl_alloc | refine bl_set ?_ (by simp <;> omega) _)), unhide K3 _ (by repeat (first | exact Below.refl _ _ | apply Below.drew | apply bl_alloc | refine bl_set ?_ (by simp <;> omega) _))⟩) (fail)
    all_goals
      go_wp2
      go_meet
      case rel =>
        refine ⟨_, _, _, _, rfl, rfl, rfl, rfl, ?_, ?_, ?_, ?_, ?_, ?_, ?_, ?_, ?_⟩
        · omega
        · repeat (first | exact Row.newAt (by simp) (by simp) | refine Row.past ?_ _ | refine Row.dr ?_)
        · repeat (first | exact Row.newAt (by simp) (by simp) | refine Row.past ?_ _ | refine Row.dr ?_)
        · repeat (first | exact Row.newAt (by simp) (by simp) | refine Row.past ?_ _ | refine Row.dr ?_)
        · repeat (first | exact Row.newAt (by simp) (by simp) | refine Row.past ?_ _ | refine Row.dr ?_)
        · omega
        · omega
        · omega
        · repeat (first | exact Below.refl _ _ | apply Below.drew | apply bl_alloc | refine bl_set ?_ (by simp <;> omega) _)
  case rest =>
    obtain ⟨Bo, gs, gc, gv, rfl, rfl, rfl, rfl, hBo, hRo, hRs, hRc, hRv, hgs, hgc, hgv, hbc⟩ := hcut
    replace q0 := cell_up hbc q0
    replace q1 := cell_up hbc q1
    replace q2 := cell_up hbc q2
    replace q3 := cell_up hbc q3
    have hbw := bl_trans hb0 hbc
    have HRO := hide hRo
    have HRS := hide hRs
    have HRC := hide hRc
    have HRV := hide hRv
    clear hRo hRs hRc hRv K0 K1 K2 K3 hmk1 hmk2 hmk3
    go_wp2
    go_loopw [4, 5, 28] (fun _ _ i wr => ∃ k : Nat, k ≤ ns ∧ i = .int .i64 k ∧ ∃ us g, Row wr gs 24 us ∧ Sec wr w.heap.size wr.heap.size us D.safe g k ∧ wc.grownBy wr (some gs)) (fun _ _ i _ => ns - (intOf i).toNat)
    case atStart => exact ⟨0, Nat.zero_le _, rfl, _, fun _ => 0, unhide HRS, ⟨by rw [Array.length_toList, unhide L1, unhide NS], fun j hj => absurd hj (Nat.not_lt_zero _), fun j hj => absurd hj (Nat.not_lt_zero _), fun j hj => absurd hj (Nat.not_lt_zero _), fun j hj => absurd hj (Nat.not_lt_zero _), fun i j _ hj => absurd hj (Nat.not_lt_zero _)⟩, gb_refl _ _⟩
    case round =>
      obtain ⟨k, hk, rfl, us, g, hrow, hsec, hgb⟩ := hrel
      have hsz := hb0.size
      have hbr : Below w.heap.size w wr := bl_gb hbw hgb (by omega)
      have hro := (unhide HRO).kept hgb (by have := Row.apart (unhide HRO) (unhide HRS) (by decide); simpa using this)
      have o0 := hro.cell 0 _ rfl
      have hrl := hrow.lt
      have hol := hro.lt
      have hne : Bo ≠ gs := Row.apart (unhide HRO) (unhide HRS) (by decide)
      have HRO' := hide hro
      by_cases hlt : k < ns
      · obtain ⟨b, o, rfl, u, hu, hbu⟩ := unhide HS k hlt
        replace hu := cell_up hbr hu
        have HB := hide (hbu.up hbr)
        obtain ⟨y, cp, rfl, lx, mx, _⟩ := hbu
        obtain ⟨L, hL⟩ : ∃ L : Nat, (D.safe.getD k []).length = L := ⟨_, rfl⟩
        have hLf : L ≤ 140737488355328 := by rw [← hL]; exact unhide F4 k hlt
        rw [hL] at hu lx HB
        have HL := hide hL
        obtain ⟨c0, hc0⟩ : ∃ c0, us[k]? = some c0 := ⟨_, List.getElem?_eq_getElem (by rw [hsec.len, unhide NS]; exact hlt)⟩
        have hck := hrow.cell k c0 hc0
        have hfk := hrow.unfrozen k
        have HROW := hide hrow
        have HSEC := hide hsec
        have hk0 : (0 : Int) ≤ (k : Int) := Int.natCast_nonneg _
        have hk1 : (k : Int) < (ns : Int) := by omega
        clear hL hc0 hrow hsec hro mx
        go_wp2
        go_region_held3 (fun w' => w'.cell? ⟨Bo, 0, none⟩ = some (.slice (some ⟨gs, 0, none⟩) ns ns)) (first | exact o0 | exact cell_up hb' o0 | exact (World.cell?_setCell_other _ _ _ _ (by simp <;> omega)).trans (cell_up hb' o0))
          ((go_at_call 51; refine (copyBytes_any _ (D.safe.getD k []) L _ (by exact unhide HB) (by omega)).mono ?_; rintro e w' ⟨rfl, hblk, hb'⟩; have hck' := cell_up hb' hck; have hfk' := (hb'.frozen (p := ⟨gs, k, none⟩) hrl).trans hfk))
        have hlp := hblk.lt
        have HBL := hide hblk
        clear hblk
        go_wp2
        go_roundw
        case rel =>
          have hpad : pad L (D.safe.getD k []) = D.safe.getD k [] := by rw [← unhide HL]; exact pad_same _
          have hnb : Blk w' wr.heap.size (D.safe.getD k []) := by have := unhide HBL; rw [hpad] at this; exact this
          have hbb : Below wr.heap.size wr w' := un_drew hb'
          refine ⟨k + 1, by omega, by go_num, _, _, ((unhide HROW).up hbb).set k _, (((unhide HSEC).up hbb (Nat.le_refl _)).next (by rw [unhide NS]; exact hlt) ((unhide HROW).up hbb) hnb (by have := hbr.size; omega) _ (by rw [unhide HL])).mono ?_, gb_set (gb_trans hgb (gb_below hbb)) k _⟩
          have : wr.heap.size < w'.heap.size := hlp
          simp [World.setCell]; omega
        case measure => simp [intOf]; omega
      · obtain rfl : k = ns := by omega
        have HSEC := hide hsec
        have HROW := hide hrow
        have hrc := (unhide HRC).kept hgb (by have := Row.apart (unhide HRC) (unhide HRS) (by decide); simpa using this)
        have hrv := (unhide HRV).kept hgb (by have := Row.apart (unhide HRV) (unhide HRS) (by decide); simpa using this)
        have HRC' := hide hrc
        have HRV' := hide hrv
        have hq : ∀ j, wr.cell? ⟨w.heap.size, j, none⟩ = wc.cell? ⟨w.heap.size, j, none⟩ := fun j => hgb.cell_far ⟨w.heap.size, j, none⟩ (World.block_lt_of_cell? wc ⟨w.heap.size, 0, none⟩ q0) (by have : w.heap.size + 1 < W0.heap.size := (unhide HRES).lt; simp; omega)
        have r1 := (hq 1).trans q1
        have r2 := (hq 2).trans q2
        have r3 := (hq 3).trans q3
        clear hq q0 q1 q2 q3 hsec hrow hrc hrv hro hrl hol o0
        obtain ⟨N1, hN1⟩ : ∃ N1, N1 = wr.heap.size := ⟨_, rfl⟩
        have HN1 := hide hN1
        clear hN1
        go_wp2
        go_loopw [6, 7, 45] (fun _ _ i wx => ∃ k : Nat, k ≤ nc ∧ i = .int .i64 k ∧ ∃ us, Row wx gc 94 us ∧ WrsK wx N1 us D.cache k ∧ wr.grownBy wx (some gc)) (fun _ _ i _ => nc - (intOf i).toNat)
        case atStart => exact ⟨0, Nat.zero_le _, rfl, _, unhide HRC', ⟨by rw [Array.length_toList, unhide L2, unhide NC], fun j hj => absurd hj (Nat.not_lt_zero _)⟩, gb_refl _ _⟩
        case round =>
          obtain ⟨kk, hkk, rfl, us2, hrow2, hwk, hgb2⟩ := hrel
          have hgcn : wc.heap.size ≤ wr.heap.size := Nat.le_trans hgb.size hgb2.size
          have hbr2 : Below w.heap.size w wr := bl_gb hbr hgb2 (by omega)
          have hneg : gs ≠ gc := Row.apart (unhide HRS) (unhide HRC) (by decide)
          have hro2 := (unhide HRO').kept hgb2 (by have := Row.apart (unhide HRO) (unhide HRC) (by decide); simpa using this)
          have o1 := hro2.cell 1 _ rfl
          have hrl2 := hrow2.lt
          have hol2 := hro2.lt
          have hne2 : Bo ≠ gc := Row.apart (unhide HRO) (unhide HRC) (by decide)
          have HRO2 := hide hro2
          by_cases hlt2 : kk < nc
          · obtain ⟨b, o, rfl, hp, u, hu, hbu⟩ := unhide HC kk hlt2
            replace hu := cell_up hbr2 hu
            replace hp := cell_up hbr2 hp
            have HB := hide (hbu.up hbr2)
            obtain ⟨y, cp, rfl, lx, mx, _⟩ := hbu
            obtain ⟨L, hL⟩ : ∃ L : Nat, (D.cache.getD kk ⟨0, []⟩).data.length = L := ⟨_, rfl⟩
            obtain ⟨X, hX⟩ : ∃ X : Int, (D.cache.getD kk ⟨0, []⟩).pos = X := ⟨_, rfl⟩
            have hLf : L ≤ 140737488355328 := by rw [← hL]; exact unhide F5 kk hlt2
            rw [hL] at hu lx HB
            rw [hX] at hp
            have HL := hide hL
            have HX := hide hX
            have hlen : us2.length = nc * 2 := by rw [hwk.1, unhide NC]
            obtain ⟨c0, hc0⟩ : ∃ c0, us2[kk * 2]? = some c0 := ⟨_, List.getElem?_eq_getElem (by omega)⟩
            obtain ⟨c1, hc1⟩ : ∃ c1, us2[kk * 2 + 1]? = some c1 := ⟨_, List.getElem?_eq_getElem (by omega)⟩
            have hck := hrow2.cell (kk * 2) c0 hc0
            have hck1 := hrow2.cell (kk * 2 + 1) c1 hc1
            have hfk := hrow2.unfrozen
            have HROW2 := hide hrow2
            have HWK := hide hwk
            have hk0 : (0 : Int) ≤ (kk : Int) := Int.natCast_nonneg _
            have hk1 : (kk : Int) < (nc : Int) := by omega
            clear hL hX hc0 hc1 hrow2 hwk hro2 mx hlen
            go_wp2
            obtain ⟨Z, hZ⟩ : ∃ Z, Z = wr.alloc (.cells #[.int .i64 X, .slice y L cp] 94) := ⟨_, rfl⟩
            have hbz : Below wr.heap.size wr Z := by rw [hZ]; exact bl1 _ _
            have b0 : Z.cell? ⟨wr.heap.size, 0, none⟩ = some (.int .i64 X) := box1 (by rw [← hZ]; exact Below.refl _ Z) 0 rfl
            have b1 : Z.cell? ⟨wr.heap.size, 1, none⟩ = some (.slice y L cp) := box1 (by rw [← hZ]; exact Below.refl _ Z) 1 rfl
            rw [← hZ]
            clear hZ
            replace o1 := cell_up hbz o1
            replace hck := cell_up hbz hck
            replace hck1 := cell_up hbz hck1
            replace hfk := fun j => (hbz.frozen (p := ⟨gc, j, none⟩) hrl2).trans (hfk j)
            have hzl : wr.heap.size < Z.heap.size := World.block_lt_of_cell? Z _ b0
            have HBZ := hide hbz
            have hne3 : wr.heap.size ≠ gc := by omega
            clear hbz hu hp
            go_region_held3 (fun w' => w'.cell? ⟨Bo, 1, none⟩ = some (.slice (some ⟨gc, 0, none⟩) nc nc) ∧ w'.cell? ⟨wr.heap.size, 0, none⟩ = some (.int .i64 X) ∧ w'.cell? ⟨wr.heap.size, 1, none⟩ = some (.slice y L cp))
              (first | exact ⟨o1, b0, b1⟩ | exact ⟨cell_up hb' o1, cell_up hb' b0, cell_up hb' b1⟩ | exact ⟨(World.cell?_setCell_other _ _ _ _ (by simp <;> omega)).trans ((World.cell?_setCell_other _ _ _ _ (by simp <;> omega)).trans (cell_up hb' o1)), (World.cell?_setCell_other _ _ _ _ (by simp <;> omega)).trans ((World.cell?_setCell_other _ _ _ _ (by simp <;> omega)).trans (cell_up hb' b0)), (World.cell?_setCell_other _ _ _ _ (by simp <;> omega)).trans ((World.cell?_setCell_other _ _ _ _ (by simp <;> omega)).trans (cell_up hb' b1))⟩)
              ((go_at_call 51; refine (copyBytes_any _ (D.cache.getD kk ⟨0, []⟩).data L _ (by exact (unhide HB).up (unhide HBZ).drew) (by omega)).mono ?_; rintro e w' ⟨rfl, hblk, hb'⟩; have hck' := cell_up hb' hck; have hck1' := cell_up hb' hck1; have hfk' := fun j => (hb'.frozen (p := ⟨gc, j, none⟩) (Nat.lt_trans hrl2 hzl)).trans (hfk j)))
            have hlp := hblk.lt
            have HBL := hide hblk
            clear hblk
            go_wp2
            go_roundw
            case rel =>
              have hpad : pad L (D.cache.getD kk ⟨0, []⟩).data = (D.cache.getD kk ⟨0, []⟩).data := by rw [← unhide HL]; exact pad_same _
              have hbb : Below wr.heap.size wr w' := bl_trans (unhide HBZ) (un_drew hb')
              have hnb : Own w' N1 (.slice (some ⟨Z.heap.size, 0, none⟩) L L) (D.cache.getD kk ⟨0, []⟩).data := by
                have := unhide HBL
                rw [hpad] at this
                have h2 := Blk.own this (by rw [unhide HL]; unfold maxLen; omega) (B := N1) (by rw [unhide HN1]; exact Nat.le_of_lt (Nat.lt_of_le_of_lt hgb2.size hzl))
                rw [unhide HL] at h2
                exact h2
              have hnx := ((unhide HWK).imp fun _ _ q => q.up hbb).next (by rw [unhide NC]; exact hlt2) ((unhide HROW2).up hbb) hnb
              rw [unhide HX] at hnx
              exact ⟨kk + 1, by omega, by go_num, _, (((unhide HROW2).up hbb).set (kk * 2) _).set (kk * 2 + 1) _, hnx, gb_set (gb_set (gb_trans hgb2 (gb_below hbb)) (kk * 2) _) (kk * 2 + 1) _⟩
            case measure => simp [intOf]; omega
          · obtain rfl : kk = nc := by omega
            have HWK := hide hwk
            have HROW2 := hide hrow2
            have HROW1 := hide ((unhide HROW).kept hgb2 (by simp; omega))
            have HSEC1 := hide ((unhide HSEC).kept (unhide HRC') (by decide) hgb2)
            have hrv := (unhide HRV').kept hgb2 (by have := Row.apart (unhide HRV) (unhide HRC) (by decide); simpa using this)
            have HRV2 := hide hrv
            have hq : ∀ j, wr.cell? ⟨w.heap.size, j, none⟩ = _ := fun j => hgb2.cell_far ⟨w.heap.size, j, none⟩ (World.block_lt_of_cell? _ ⟨w.heap.size, 2, none⟩ r2) (by have : w.heap.size + 1 < W0.heap.size := (unhide HRES).lt; simp; omega)
            have p2 := (hq 2).trans r2
            clear hq r1 r2 r3 hwk hrow2 hrv hro2 hrl2 hol2 o1
            obtain ⟨N2, hN2⟩ : ∃ N2, N2 = wr.heap.size := ⟨_, rfl⟩
            have HN2 := hide hN2
            have HN12 : Hid (N1 ≤ N2) := by rw [unhide HN1, hN2]; exact hgb2.size
            clear hN2
            go_wp2
            go_loopw [8, 9, 67] (fun _ _ i wx => ∃ k : Nat, k ≤ nv ∧ i = .int .i64 k ∧ ∃ us, Row wx gv 79 us ∧ VosK wx N2 us D.vols k ∧ CapK us k ∧ wr.grownBy wx (some gv)) (fun _ _ i _ => nv - (intOf i).toNat)
            case atStart => exact ⟨0, Nat.zero_le _, rfl, _, unhide HRV2, ⟨by rw [Array.length_toList, unhide L3, unhide NV], fun j hj => absurd hj (Nat.not_lt_zero _)⟩, fun j hj => absurd hj (Nat.not_lt_zero _), gb_refl _ _⟩
            case round =>
              obtain ⟨kv, hkv, rfl, us3, hrow3, hvk, hcpk, hgb3⟩ := hrel
              have HCPK := hide hcpk
              clear hcpk
              have hbr3 : Below w.heap.size w wr := bl_gb hbr2 hgb3 (by omega)
              have hro3 := (unhide HRO2).kept hgb3 (by have := Row.apart (unhide HRO) (unhide HRV) (by decide); simpa using this)
              have o2 := hro3.cell 2 _ rfl
              have hrl3 := hrow3.lt
              have hol3 := hro3.lt
              have hne4 : Bo ≠ gv := Row.apart (unhide HRO) (unhide HRV) (by decide)
              by_cases hlt3 : kv < nv
              · obtain ⟨b, o, rfl, ⟨u, hu, hbu⟩, hp, hq⟩ := unhide HV kv hlt3
                replace hu := cell_up hbr3 hu
                replace hp := cell_up hbr3 hp
                replace hq := cell_up hbr3 hq
                have HB := hide (hbu.up hbr3)
                obtain ⟨y, cp, rfl, lx, mx, _⟩ := hbu
                obtain ⟨L, hL⟩ : ∃ L : Nat, (D.vols.getD kv ⟨[], 0, false⟩).data.length = L := ⟨_, rfl⟩
                obtain ⟨X, hX⟩ : ∃ X : Int, (D.vols.getD kv ⟨[], 0, false⟩).synced = X := ⟨_, rfl⟩
                obtain ⟨G, hG⟩ : ∃ G : Bool, (D.vols.getD kv ⟨[], 0, false⟩).gone = G := ⟨_, rfl⟩
                have hLf : L ≤ 140737488355328 := by rw [← hL]; exact unhide F6 kv hlt3
                rw [hL] at hu lx HB
                rw [hX] at hp
                rw [hG] at hq
                have HL := hide hL
                have HX := hide hX
                have HG := hide hG
                have hlen : us3.length = nv * 3 := by rw [hvk.1, unhide NV]
                obtain ⟨c0, hc0⟩ : ∃ c0, us3[kv * 3]? = some c0 := ⟨_, List.getElem?_eq_getElem (by omega)⟩
                obtain ⟨c1, hc1⟩ : ∃ c1, us3[kv * 3 + 1]? = some c1 := ⟨_, List.getElem?_eq_getElem (by omega)⟩
                obtain ⟨c2, hc2⟩ : ∃ c2, us3[kv * 3 + 2]? = some c2 := ⟨_, List.getElem?_eq_getElem (by omega)⟩
                have hck := hrow3.cell (kv * 3) c0 hc0
                have hck1 := hrow3.cell (kv * 3 + 1) c1 hc1
                have hck2 := hrow3.cell (kv * 3 + 2) c2 hc2
                have hfk := hrow3.unfrozen
                have HROW3 := hide hrow3
                have HVK := hide hvk
                have hk0 : (0 : Int) ≤ (kv : Int) := Int.natCast_nonneg _
                have hk1 : (kv : Int) < (nv : Int) := by omega
                clear hL hX hG hc0 hc1 hc2 hrow3 hvk hro3 mx hlen
                go_wp2
                obtain ⟨Z, hZ⟩ : ∃ Z, Z = wr.alloc (.cells #[.slice y L cp, .int .i64 X, .bool G] 79) := ⟨_, rfl⟩
                have hbz : Below wr.heap.size wr Z := by rw [hZ]; exact bl1 _ _
                have b0 : Z.cell? ⟨wr.heap.size, 0, none⟩ = some (.slice y L cp) := box1 (by rw [← hZ]; exact Below.refl _ Z) 0 rfl
                have b1 : Z.cell? ⟨wr.heap.size, 1, none⟩ = some (.int .i64 X) := box1 (by rw [← hZ]; exact Below.refl _ Z) 1 rfl
                have b2 : Z.cell? ⟨wr.heap.size, 2, none⟩ = some (.bool G) := box1 (by rw [← hZ]; exact Below.refl _ Z) 2 rfl
                rw [← hZ]
                clear hZ
                replace o2 := cell_up hbz o2
                replace hck := cell_up hbz hck
                replace hck1 := cell_up hbz hck1
                replace hck2 := cell_up hbz hck2
                replace hfk := fun j => (hbz.frozen (p := ⟨gv, j, none⟩) hrl3).trans (hfk j)
                have hzl : wr.heap.size < Z.heap.size := World.block_lt_of_cell? Z _ b0
                have HBZ := hide hbz
                have hne3 : wr.heap.size ≠ gv := by omega
                clear hbz hu hp hq
                go_region_held3 (fun w' => w'.cell? ⟨Bo, 2, none⟩ = some (.slice (some ⟨gv, 0, none⟩) nv nv) ∧ w'.cell? ⟨wr.heap.size, 0, none⟩ = some (.slice y L cp) ∧ w'.cell? ⟨wr.heap.size, 1, none⟩ = some (.int .i64 X) ∧ w'.cell? ⟨wr.heap.size, 2, none⟩ = some (.bool G))
                  (first | exact ⟨o2, b0, b1, b2⟩ | exact ⟨cell_up hb' o2, cell_up hb' b0, cell_up hb' b1, cell_up hb' b2⟩ | (refine ⟨?_, ?_, ?_, ?_⟩ <;> (refine (World.cell?_setCell_other _ _ _ _ (by simp <;> omega)).trans ((World.cell?_setCell_other _ _ _ _ (by simp <;> omega)).trans ((World.cell?_setCell_other _ _ _ _ (by simp <;> omega)).trans (cell_up hb' ?_))); assumption)))
                  ((go_at_call 51; refine (copyBytes_any _ (D.vols.getD kv ⟨[], 0, false⟩).data L _ (by exact (unhide HB).up (unhide HBZ).drew) (by omega)).mono ?_; rintro e w' ⟨rfl, hblk, hb'⟩; have hck' := cell_up hb' hck; have hck1' := cell_up hb' hck1; have hck2' := cell_up hb' hck2; have hfk' := fun j => (hb'.frozen (p := ⟨gv, j, none⟩) (Nat.lt_trans hrl3 hzl)).trans (hfk j)))
                have hlp := hblk.lt
                have HBL := hide hblk
                clear hblk
                go_wp2
                go_roundw
                case rel =>
                  have hpad : pad L (D.vols.getD kv ⟨[], 0, false⟩).data = (D.vols.getD kv ⟨[], 0, false⟩).data := by rw [← unhide HL]; exact pad_same _
                  have hbb : Below wr.heap.size wr w' := bl_trans (unhide HBZ) (un_drew hb')
                  have hnb : Own w' N2 (.slice (some ⟨Z.heap.size, 0, none⟩) L L) (D.vols.getD kv ⟨[], 0, false⟩).data := by
                    have := unhide HBL
                    rw [hpad] at this
                    have h2 := Blk.own this (by rw [unhide HL]; unfold maxLen; omega) (B := N2) (by rw [unhide HN2]; exact Nat.le_of_lt (Nat.lt_of_le_of_lt hgb3.size hzl))
                    rw [unhide HL] at h2
                    exact h2
                  have hnx := ((unhide HVK).imp fun _ _ q => q.up hbb).next (by rw [unhide NV]; exact hlt3) ((unhide HROW3).up hbb) hnb
                  rw [unhide HX, unhide HG] at hnx
                  exact ⟨kv + 1, by omega, by go_num, _, ((((unhide HROW3).up hbb).set (kv * 3) _).set (kv * 3 + 1) _).set (kv * 3 + 2) _, hnx, (unhide HCPK).next (by rw [(unhide HVK).1, unhide NV]; omega) _ _ _ _, gb_set (gb_set (gb_set (gb_trans hgb3 (gb_below hbb)) (kv * 3) _) (kv * 3 + 1) _) (kv * 3 + 2) _⟩
                case measure => simp [intOf]; omega
              · obtain rfl : kv = nv := by omega
                have HVK := hide hvk
                have HROW3 := hide hrow3
                have hgvs : gs ≠ gv := Row.apart (unhide HRS) (unhide HRV) (by decide)
                have hgvc : gc ≠ gv := Row.apart (unhide HRC) (unhide HRV) (by decide)
                have FR1 := hide ((unhide HROW1).kept hgb3 (by simp; omega))
                have FR2 := hide ((unhide HROW2).kept hgb3 (by simp; omega))
                have FS := hide ((unhide HSEC1).kept (unhide HRV2) (by decide) hgb3)
                have FW := hide ((unhide HWK).imp fun _ _ q => q.kept (unhide HRV2) (by decide) hgb3)
                have o0 := hro3.cell 0 _ rfl
                have o1 := hro3.cell 1 _ rfl
                have o3 := hro3.cell 3 _ rfl
                have hlt1 : w.heap.size + 1 < W0.heap.size := (unhide HRES).lt
                have hres := ((((unhide HRES).up hbc).kept hgb (by simp; omega)).kept hgb2 (by simp; omega)).kept hgb3 (by simp; omega)
                have z0 := hres.cell 0 _ rfl
                have z1 := hres.cell 1 _ rfl
                have z2 := hres.cell 2 _ rfl
                have z3 := hres.cell 3 _ rfl
                have zf := hres.unfrozen
                have HRESF := hide hres
                clear hvk hrow3 hro3 hres p2
                go_wp2
                refine bodyPost_ret (v := .agg #[.slice (some ⟨gs, 0, none⟩) k k, .slice (some ⟨gc, 0, none⟩) kk kk, .slice (some ⟨gv, 0, none⟩) kv kv, .int .i64 F]) (by simp [results, Try.results60, go_sem, *]) rfl ⟨_, _, _, N1, rfl, ?_, ?_⟩
                · have hgg : wr.grownBy ((((wr.setCell ⟨w.heap.size + 1, 0, none⟩ (.slice (some ⟨gs, 0, none⟩) k k)).setCell ⟨w.heap.size + 1, 1, none⟩ (.slice (some ⟨gc, 0, none⟩) kk kk)).setCell ⟨w.heap.size + 1, 2, none⟩ (.slice (some ⟨gv, 0, none⟩) kv kv)).setCell ⟨w.heap.size + 1, 3, none⟩ (.int .i64 F)) (some (w.heap.size + 1)) := gb_set (gb_set (gb_set (gb_set (gb_refl _ _) _ _) _ _) _ _) _ _
                  have hS := unhide FS
                  rw [← unhide HN1] at hS
                  rw [← unhide NS] at hS
                  refine ⟨by rw [unhide HN1]; exact hbr.size, ⟨gs, _, _, by rw [unhide NS], by omega, (unhide FR1).kept hgg (by simp; omega), hS.kept (unhide HRESF) (by decide) hgg⟩, ⟨gc, _, by rw [unhide NC], by omega, (unhide FR2).kept hgg (by simp; omega), ?_⟩, ⟨gv, _, by rw [unhide NV], by omega, (unhide HROW3).kept hgg (by simp; omega), ?_, by rw [unhide NV]; exact unhide HCPK⟩⟩
                  · have := unhide FW
                    rw [← unhide NC] at this
                    exact this.done.imp fun _ _ q => q.kept (unhide HRESF) (by decide) hgg
                  · have := unhide HVK
                    rw [← unhide NV] at this
                    exact this.done.imp fun _ _ q => (q.kept (unhide HRESF) (by decide) hgg).base (unhide HN12)
                · repeat (first | exact hbr3 | refine bl_set ?_ (by simp) _)
theorem CDev.odev {w : World} {B M : Nat} {s c v : Value} {D : Dv} (h : CDev w B M s c v D) (hf : Fits D) : ODev w B s c v D := by
  obtain ⟨hle, ⟨gs, us, g, rfl, h1, h2, h3⟩, ⟨gc, us2, rfl, h4, h5, h6⟩, ⟨gv, us3, rfl, h7, h8, h9, _⟩⟩ := h
  obtain ⟨f1, f2, f3, f4, f5, f6⟩ := hf
  refine ⟨⟨us, own_row (size := 1) h2 (by rw [h3.len, Nat.mul_one]) (by unfold maxLen; omega) h1, h3.len, fun i hi => ⟨_, h3.pos i hi, (h3.blk i hi).own (by have := f4 i hi; unfold maxLen; omega) (h3.lo i hi)⟩⟩, ⟨us2, own_row (size := 2) h5 h6.1 (by unfold maxLen; omega) h4, h6.imp fun _ _ q => q.base hle⟩, ⟨us3, own_row (size := 3) h8 h9.1 (by unfold maxLen; omega) h7, h9.imp fun _ _ q => q.base hle⟩⟩
end Go.Proofs.Ytdalkkjojflakaa
