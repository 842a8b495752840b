/- state.nullsMayBe, versionsMayBe, Check: whatever the state. -/
import Derived.Test.YtdalkkjojflakaaNuw
import Derived.Test.YtdalkkjojflakaaCkd
namespace Go.Proofs.Ytdalkkjojflakaa
open Go.RowKit Go.Maps
set_option maxRecDepth 100000
set_option linter.unusedVariables false
set_option linter.unusedSimpArgs false
theorem nullsMayBe_1f (X : Ve) (ua : Option Addr) (un uc K : Nat) (w : World) (hX : X.nul = false) :
    Calls Try.prog 121 #[veV X (.slice ua un uc), .pointer (some ⟨K, 0, none⟩)] w fun e w' => e = .returned (.bool true) ∧ Below w.heap.size w w' := by
  go_enter Try.func121, Try.ntmps121
  go_wp2
  go_ret
  exact ⟨rfl, bl1 _ _⟩
theorem OwC.mono {w : World} {M n n' : Nat} {f : ByteArray → ByteArray → Nat} (h : OwC w M n f) (hn : n ≤ n') : OwC w M n' f := by
  obtain ⟨D, h1, h2, h3, h4⟩ := h
  exact ⟨D, h1.mono hn, h2, h3, fun b k => Nat.le_trans (h4 b k) hn⟩
def nulF (l : List Ve) (k : Nat) (b ke : ByteArray) : Nat := (l.take k).countP (fun v => v.nul && decide (v.bu = b) && decide (v.ke = ke))
theorem nulF_next (l : List Ve) {k : Nat} (hk : k < l.length) (b ke : ByteArray) : nulF l (k + 1) b ke = nulF l k b ke + if ((l.getD k ve0).nul && decide ((l.getD k ve0).bu = b) && decide ((l.getD k ve0).ke = ke)) = true then 1 else 0 := by
  unfold nulF
  rw [take_next l ve0 hk, List.countP_append, List.countP_singleton]
theorem nulF_no (l : List Ve) {k : Nat} (hk : k < l.length) (h : (l.getD k ve0).nul = false) : nulF l (k + 1) = nulF l k := by
  funext b ke
  rw [nulF_next l hk, h]
  simp
theorem nulF_yes (l : List Ve) {k : Nat} (hk : k < l.length) (h : (l.getD k ve0).nul = true) : nulF l (k + 1) = fun b' k' => if b' = (l.getD k ve0).bu ∧ k' = (l.getD k ve0).ke then nulF l k (l.getD k ve0).bu (l.getD k ve0).ke + 1 else nulF l k b' k' := by
  funext b ke
  rw [nulF_next l hk]
  obtain ⟨X, hX⟩ : ∃ X, l.getD k ve0 = X := ⟨_, rfl⟩
  rw [hX] at h ⊢
  rw [h]
  by_cases e : b = X.bu ∧ ke = X.ke
  · rw [if_pos e, e.1, e.2]
    simp
  · rw [if_neg e]
    have : ¬ (X.bu = b ∧ X.ke = ke) := fun c => e ⟨c.1.symm, c.2.symm⟩
    simp
    exact fun c d => this ⟨c, d⟩
def nulQ (l : List Ve) (k : Nat) : Bool := !(l.getD k ve0).nul || ((nulF l k (l.getD k ve0).bu (l.getD k ve0).ke : Int) + 1) == 1
def nulC (l : List Ve) : Bool := allB l.length (nulQ l)
theorem nullsMayBe_any (vv : Value) (l : List Ve) (w : World) (hL : Lst RVe 12 ve0 w vv l) (hl : l.length ≤ 40) : Calls Try.prog 98 #[vv] w fun e w' => e = .returned (.bool (nulC l)) ∧ Below w.heap.size w w' := by
  obtain ⟨a, cap, rfl, h1, h2⟩ := hL.form
  have hmm := @run_makeMap Try.prog
  have HL := hide hL
  clear hL h1 h2
  go_enter Try.func98, Try.ntmps98
  go_wp2_with fail
  obtain ⟨M, hM⟩ : ∃ M, w.heap.size = M := ⟨_, rfl⟩
  rw [hM]
  obtain ⟨w2, hw2⟩ : ∃ w2, (w.alloc (.map #[] 0)).alloc (.cells #[.map (some M)] 142) = w2 := ⟨_, rfl⟩
  have hb2 : Below w.heap.size w w2 := by rw [← hw2]; exact bl_alloc (bl1 _ _) _
  have hC : OwC w2 M 0 (nulF l 0) := by rw [← hw2, ← hM]; exact (OwC.made w).up (bl1 _ _)
  have hK : w2.cell? ⟨M + 1, 0, none⟩ = some (.map (some M)) := by rw [← hw2, ← hM, World.cell?_alloc_at _ _ _ _ (by simp)]; rfl
  have hL2 : Lst RVe 12 ve0 w2 (.slice a l.length cap) l := (unhide HL).imp fun _ _ _ r => RVe.up hb2 r
  rw [hw2]
  have hle : w.heap.size ≤ M := by omega
  clear hw2 hM
  refine (every_nullsMayBe_1 _ a cap l (nulQ l) (fun k wr => OwC wr M k (nulF l k) ∧ w2.grownBy wr (some M)) (fun wr => w2.grownBy wr (some M)) w2 (by omega) (fun k wr hk h => Lst.at (hL2.imp fun _ _ _ r => RVe.keep (Keeps.map hC.mapAt h.2) r) hk) (fun k wr wr' h hb => ⟨h.1.up hb, gb_trans h.2 (gb_below hb)⟩) ⟨hC, gb_refl _ _⟩ (fun k wr X ua un uc hk e h hi => ?_)).mono ?_
  · have hkp := Keeps.map hC.mapAt h.2
    obtain ⟨_, _, _, r⟩ := Lst.at hL2 hk
    rw [e] at r
    subst e
    cases hX : (l.getD k ve0).nul
    · refine (nullsMayBe_1f _ _ _ _ _ wr hX).mono ?_
      rintro e w' ⟨rfl, hb⟩
      have hq : nulQ l k = true := by unfold nulQ; rw [hX]; rfl
      rw [hq]
      refine ⟨rfl, fun _ => ⟨?_, gb_trans h.2 (gb_below hb)⟩, fun _ => gb_trans h.2 (gb_below hb)⟩
      rw [nulF_no l hk hX]
      exact (h.1.up hb).mono (Nat.le_succ _)
    · refine (nullsMayBe_1 _ _ _ _ _ M k (nulF l k) wr h.1 (by omega) (hkp _ _ hK) r.s1 r.s2 hX).mono ?_
      rintro e w' ⟨rfl, hg, hc⟩
      have hq : nulQ l k = (((nulF l k (l.getD k ve0).bu (l.getD k ve0).ke : Int) + 1) == 1) := by unfold nulQ; rw [hX]; rfl
      rw [hq]
      refine ⟨rfl, fun _ => ⟨?_, gb_trans h.2 hg⟩, fun _ => gb_trans h.2 hg⟩
      rw [nulF_yes l hk hX]
      exact hc
  · rintro e w3 ⟨rfl, hy, hn⟩
    have hg3 : w2.grownBy w3 (some M) := both_ways (fun h => (hy h).2) hn
    have hbe := bl_gb hb2 hg3 hle
    clear hy hn hC hK hL2
    go_wp2
    go_ret
    exact ⟨rfl, hbe⟩
theorem versionsMayBe_2 (S : St) (b v u q g : Value) (B : Nat) (X : Ve) (ua : Option Addr) (un uc : Nat) (w : World) (hS : BoxS w B S b v u q g) (hB : Lst RBu 5 bu0 w b S.bus) (hG : Ints w g S.gone) (hI : Ints w (.slice ua un uc) X.sec) (hk : X.ke.size ≤ maxLen) (hx : 1 ≤ S.next) (hx2 : S.next ≤ 1048576) :
    Calls Try.prog 96 #[veV X (.slice ua un uc), .pointer (some ⟨B, 0, none⟩)] w fun e w' => e = .returned (.bool (veC S X)) ∧ Below w.heap.size w w' := by
  have hlt := hS.lt
  have c0 := hS.c0
  have c1 := hS.c1
  have c2 := hS.c2
  have c3 := hS.c3
  have c4 := hS.c4
  have c5 := hS.c5
  have c6 := hS.c6
  have HB := hide hB
  have HI := hide hI
  have HG := hide hG
  clear hS hB hI hG
  go_enter Try.func96, Try.ntmps96
  go_wp2_with fail
  refine (versionMayBe_any S b v u q g X ua un uc _ ((unhide HB).imp fun _ _ _ r => RBu.up (bl1 _ _) r) (Ints.up (bl1 _ _) (unhide HG)) (Ints.up (bl1 _ _) (unhide HI)) hk hx hx2).mono ?_
  rintro e w1 ⟨rfl, hb1⟩
  go_wp2
  go_ret
  exact ⟨rfl, bl_trans (bl1 _ _) hb1⟩
def vesP (l : List Ve) (i : Nat) : Bool := decide ((l.getD i ve0).id < (l.getD (i + 1) ve0).id)
def vesQ (S : St) (i : Nat) : Bool := veC S (S.ves.getD i ve0)
def vesC (S : St) : Bool := decide ((S.ves.length : Int) ≤ 40) && allB (S.ves.length - 1) (vesP S.ves) && allB S.ves.length (vesQ S) && nulC S.ves
set_option maxHeartbeats 1000000 in
theorem versionsMayBe_any (S : St) (b v u q g : Value) (w : World) (hS : Sta w b v u q g S) (hx : 1 ≤ S.next) (hx2 : S.next ≤ 1048576) : Calls Try.prog 64 #[stV S b v u q g] w fun e w' => e = .returned (.bool (vesC S)) ∧ Below w.heap.size w w' := by
  obtain ⟨a, cap, rfl, h1, h2⟩ := hS.ves.form
  unfold maxLen at h2
  have HS := hide hS
  clear hS
  by_cases hl : (S.ves.length : Int) ≤ 40
  · have HC : Hid (vesC S = (allB (S.ves.length - 1) (vesP S.ves) && allB S.ves.length (vesQ S) && nulC S.ves)) := by show _ = _; unfold vesC; rw [decide_eq_true hl, Bool.true_and]
    go_enter Try.func64, Try.ntmps64
    go_wp2_with fail
    refine (rise_versionsMayBe_1 a cap S.ves (vesP S.ves) _ ((unhide HS).ves.imp fun _ _ _ r => RVe.up (bl1 _ _) r) (by omega) (fun k wr X Y _ _ _ _ _ _ h e1 e2 => by subst e1 e2; exact versionsMayBe_1 _ _ _ _ _ _ _ _ _)).mono ?_
    rintro e w1 ⟨rfl, hb⟩
    have HX := hide ((BoxS.new w S b (.slice a S.ves.length cap) u q g 59).up hb)
    have x3 := (unhide HX).c3
    cases hr : allB (S.ves.length - 1) (vesP S.ves)
    · rw [hr] at HC
      go_wp2
      go_ret
      exact ⟨ret_bool (by rw [unhide HC]; rfl), bl_trans (bl1 _ _) hb⟩
    · rw [hr] at HC
      clear hr
      go_wp2_with fail
      refine (every_versionsMayBe_2 _ a cap S.ves (vesQ S) (fun _ wr => Below w1.heap.size w1 wr) (fun wr => Below w1.heap.size w1 wr) _ (by omega) (fun k wr hk hb2 => Lst.at (((unhide HS).up (bl_trans (bl_trans (bl1 _ _) hb) hb2)).ves) hk) (fun _ _ _ x y => bl_trans x y) (Below.refl _ _) (fun k wr X ua un uc hk e hI hi => by
        obtain ⟨_, _, _, r⟩ := Lst.at (unhide HS).ves hk
        rw [e] at r
        subst e
        have hS3 := (unhide HS).up (bl_trans (bl_trans (bl1 _ _) hb) hI)
        exact (versionsMayBe_2 S b _ u q g _ _ _ _ _ _ ((unhide HX).up hI) hS3.bus hS3.gone hi r.s2 hx hx2).mono fun _ _ ⟨x, y⟩ => ⟨x, fun _ => bl_trans hI y, fun _ => bl_trans hI y⟩)).mono ?_
      rintro e w2 ⟨rfl, hy, hn⟩
      have hb2 := both_ways hy hn
      clear hy hn
      have x3' := scell_up hb2 x3
      clear x3
      cases hr : allB S.ves.length (vesQ S)
      · rw [hr] at HC
        go_wp2
        go_ret
        exact ⟨ret_bool (by rw [unhide HC]; rfl), bl_trans (bl_trans (bl1 _ _) hb) hb2⟩
      · rw [hr] at HC
        clear hr
        go_wp2_with fail
        refine (nullsMayBe_any _ S.ves _ (((unhide HS).up (bl_trans (bl_trans (bl1 _ _) hb) hb2)).ves) (by omega)).mono ?_
        rintro e w3 ⟨rfl, hb3⟩
        go_wp2
        go_ret
        exact ⟨ret_bool (by rw [unhide HC]; rfl), bl_trans (bl_trans (bl_trans (bl1 _ _) hb) hb2) hb3⟩
  · have HC : Hid (vesC S = false) := by show _ = _; unfold vesC; rw [decide_eq_false hl]; rfl
    go_enter Try.func64, Try.ntmps64
    go_wp2
    go_ret
    exact ⟨ret_bool (unhide HC).symm, bl1 _ _⟩
end Go.Proofs.Ytdalkkjojflakaa
