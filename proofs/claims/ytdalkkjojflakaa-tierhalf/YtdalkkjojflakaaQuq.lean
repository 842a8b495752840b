/- state.queueMayBe. -/
import Derived.Test.YtdalkkjojflakaaSed
namespace Go.Proofs.Ytdalkkjojflakaa
open Go.RowKit Go.Maps
set_option maxRecDepth 100000
set_option linter.unusedVariables false
set_option linter.unusedSimpArgs false
/-- The version of an Id is there, and cold. -/
def coldB (S : St) (n : Int) : Bool := decide (0 ≤ firstI S.ves.length (veP S.ves n)) && (S.ves.getD (firstI S.ves.length (veP S.ves n)).toNat ve0).tier == 2
def askB (x : Ak) : Bool := inB x.days 1 1000 && inB x.cls 0 2
def queB (S : St) (pre : List Int) (x : Ak) : Bool := coldB S x.ver && ((pre ++ [x.ver]).count x.ver : Int) == 1 && askB x
set_option maxHeartbeats 2000000 in
theorem queueMayBe_1 (S : St) (b v u q g : Value) (pre : List Int) (X : Ak) (K B M : Nat) (w : World) (hC : Cnt w M pre.length (fun y => pre.count y)) (hK : w.cell? ⟨K, 0, none⟩ = some (.map (some M))) (hS : BoxS w B S b v u q g) (hV : Lst RVe 12 ve0 w v S.ves) (hX : (Lit.int .i64 X.ver).wf = true) (hn : pre.length < 1000) :
    Calls Try.prog 106 #[akV X, .pointer (some ⟨K, 0, none⟩), .pointer (some ⟨B, 0, none⟩)] w fun e w' => e = .returned (.bool (queB S pre X)) ∧ w.grownBy w' (some M) ∧ Cnt w' M (pre ++ [X.ver]).length (fun y => (pre ++ [X.ver]).count y) := by
  obtain ⟨va, vc, rfl, hv1, hv2⟩ := hV.form
  unfold maxLen at hv2
  have HE : Hid (queB S pre X = (coldB S X.ver && ((pre ++ [X.ver]).count X.ver : Int) == 1 && askB X)) := rfl
  have hKl := World.block_lt_of_cell? w _ hK
  have hBl := hS.lt
  simp at hKl
  obtain ⟨c, hc⟩ : ∃ c : Nat, pre.count X.ver = c := ⟨_, rfl⟩
  have hcl : c ≤ pre.length := by rw [← hc]; exact List.count_le_length
  have hC0 := hC.up (bl1 w (.cells #[.int .i64 X.ver, .int .i64 X.days, .int .i64 X.cls] 113))
  have hlk := hC0.look hX
  obtain ⟨w1, hup, hC1, hg⟩ := hC0.tick (by omega) hX
  rw [hc] at hlk hup
  rw [count_next] at hC1
  have HC1 : Hid (Cnt w1 M (pre ++ [X.ver]).length (fun y => (pre ++ [X.ver]).count y)) := by
    rw [List.length_append]; exact hC1
  have hkp : Keeps w w1 := (Keeps.of (bl1 _ _)).trans (Keeps.map hC0.mapAt hg)
  have hkx := Keeps.map hC0.mapAt hg
  have hgw : w.grownBy w1 (some M) := gb_trans (gb_below (bl1 _ _)) hg
  have hS1 := hS.keep hkp
  have hV1 : Lst RVe 12 ve0 w1 (.slice va S.ves.length vc) S.ves := hV.imp fun _ _ _ r => RVe.keep hkp r
  have hK1 := hkp _ _ hK
  have y0 := hkx ⟨w.heap.size, 0, none⟩ (.int .i64 X.ver) (by rw [World.cell?_alloc_at _ _ _ _ rfl]; rfl)
  have y1 := hkx ⟨w.heap.size, 1, none⟩ (.int .i64 X.days) (by rw [World.cell?_alloc_at _ _ _ _ rfl]; rfl)
  have y2 := hkx ⟨w.heap.size, 2, none⟩ (.int .i64 X.cls) (by rw [World.cell?_alloc_at _ _ _ _ rfl]; rfl)
  have s0 := hS1.c0
  have s1 := hS1.c1
  have s2 := hS1.c2
  have s3 := hS1.c3
  have s4 := hS1.c4
  have s5 := hS1.c5
  have s6 := hS1.c6
  have HX := hide hX
  have HV1 := hide hV1
  have HGW := hide hgw
  clear hC1 hC0 hC hc hg hkp hkx hS hV hS1 hV1 hX hgw
  have hc0 : (0 : Int) ≤ (c : Int) := Int.natCast_nonneg _
  have hc1 : (c : Int) ≤ 1000000000 := by omega
  go_enter Try.func106, Try.ntmps106
  go_wp2_with fail
  refine (findVersion_any S b _ u q g _ _ (unhide HV1)).mono ?_
  rintro e w2 ⟨rfl, hb2⟩
  have HC2 := hide ((unhide HC1).up hb2)
  have HG2 : Hid (w.grownBy w2 (some M)) := gb_trans (unhide HGW) (gb_below hb2)
  have z0 := scell_up hb2 y0
  have z1 := scell_up hb2 y1
  have z2 := scell_up hb2 y2
  have t3 := scell_up hb2 s3
  have kk := scell_up hb2 hK1
  have hlk2 := (unhide HC2).look (unhide HX)
  clear hlk hup y0 y1 y2 s0 s1 s2 s3 s4 s5 s6 hK1 hK
  have HCO : Hid (coldB S X.ver = (decide (0 ≤ firstI S.ves.length (veP S.ves X.ver)) && (S.ves.getD (firstI S.ves.length (veP S.ves X.ver)).toNat ve0).tier == 2)) := rfl
  rcases firstI_cases S.ves.length (veP S.ves X.ver) with ⟨hf, _⟩ | ⟨k, hk, hf, _, _⟩
  · have HF : Hid (queB S pre X = false) := by show _ = _; rw [unhide HE, unhide HCO, hf]; rfl
    rw [hf]
    clear hf
    go_wp2
    go_ret
    exact ⟨ret_bool (unhide HF).symm, unhide HG2, unhide HC2⟩
  · obtain ⟨b', o', hva, r⟩ := Lst.at ((unhide HV1).imp fun _ _ _ r => RVe.up hb2 r) hk
    obtain ⟨T, hT⟩ : ∃ T, (S.ves.getD k ve0).tier = T := ⟨_, rfl⟩
    have HCT : Hid (coldB S X.ver = (T == 2)) := by
      show _ = _
      rw [unhide HCO, hf, decide_eq_true (Int.natCast_nonneg k), Int.toNat_natCast, Bool.true_and, hT]
    subst hva
    have c7 := r.c7
    rw [hT] at c7
    rw [hf]
    have hk0 : (0 : Int) ≤ (k : Int) := Int.natCast_nonneg _
    have hk1 : (k : Int) < (S.ves.length : Int) := by omega
    obtain ⟨N, hN⟩ : ∃ N, S.ves.length = N := ⟨_, rfl⟩
    clear hT r hf HCO
    by_cases ht : T = 2
    · have HF : Hid (queB S pre X = (((pre ++ [X.ver]).count X.ver : Int) == 1 && askB X)) := by show _ = _; rw [unhide HE, unhide HCT, ht]; rfl
      subst ht
      obtain ⟨d, hd⟩ : ∃ d : Nat, (pre ++ [X.ver]).count X.ver = d := ⟨_, rfl⟩
      rw [hd] at hlk2 HF
      clear hd
      cases hd1 : ((d : Int) == 1)
      · rw [hd1] at HF
        go_wp2
        go_ret
        exact ⟨ret_bool (by rw [unhide HF]; rfl), unhide HG2, unhide HC2⟩
      · rw [hd1] at HF
        go_wp2_with fail
        refine (askMayBe_any X _).mono ?_
        rintro e w3 ⟨rfl, hb3⟩
        have HG3 : Hid (w.grownBy w3 (some M)) := gb_trans (unhide HG2) (gb_below hb3)
        have HC3 := hide ((unhide HC2).up hb3)
        go_wp2
        go_ret
        exact ⟨ret_bool (by rw [unhide HF]; rfl), unhide HG3, unhide HC3⟩
    · have ht2 : (T == 2) = false := by simp [ht]
      have HF : Hid (queB S pre X = false) := by show _ = _; rw [unhide HE, unhide HCT, ht2]; rfl
      go_wp2
      go_ret
      exact ⟨ret_bool (unhide HF).symm, unhide HG2, unhide HC2⟩
def vers (S : St) (k : Nat) : List Int := (S.que.take k).map (·.ver)
theorem vers_next (S : St) {k : Nat} (hk : k < S.que.length) : vers S (k + 1) = vers S k ++ [(S.que.getD k ak0).ver] := by unfold vers; rw [take_next S.que ak0 hk]; simp
def queQ (S : St) (k : Nat) : Bool := queB S (vers S k) (S.que.getD k ak0)
def queC (S : St) : Bool := decide ((S.que.length : Int) ≤ 10) && allB S.que.length (queQ S)
theorem queueMayBe_any (S : St) (b v u q g : Value) (w : World) (hS : Sta w b v u q g S) : Calls Try.prog 66 #[stV S b v u q g] w fun e w' => e = .returned (.bool (queC S)) ∧ Below w.heap.size w w' := by
  obtain ⟨a, cap, rfl, h1, h2⟩ := hS.que.form
  unfold maxLen at h2
  have hmm := @run_makeMap Try.prog
  have HS := hide hS
  clear hS
  by_cases hl : (10 : Int) < (S.que.length : Int)
  · have HC : Hid (queC S = false) := by show _ = _; unfold queC; rw [decide_eq_false (by omega)]; rfl
    go_enter Try.func66, Try.ntmps66
    go_wp2
    go_ret
    exact ⟨ret_bool (unhide HC).symm, bl1 _ _⟩
  · have HC : Hid (queC S = allB S.que.length (queQ S)) := by show _ = _; unfold queC; rw [decide_eq_true (by omega), Bool.true_and]
    go_enter Try.func66, Try.ntmps66
    go_wp2_with fail
    obtain ⟨w1, hw1⟩ : ∃ w1, w.alloc (.cells #[.int .i64 S.next, .int .i64 S.clock, b, v, u, .slice a S.que.length cap, g] 59) = w1 := ⟨_, rfl⟩
    obtain ⟨M, hM⟩ : ∃ M, w.heap.size + 1 = M := ⟨_, rfl⟩
    have hz1 : M = w1.heap.size := by rw [← hw1, ← hM]; simp
    have hb1 : Below w.heap.size w w1 := by rw [← hw1]; exact bl1 _ _
    have hX1 : BoxS w1 w.heap.size S b v u (.slice a S.que.length cap) g := by rw [← hw1]; exact BoxS.new _ _ _ _ _ _ _ _
    rw [hw1, hM]
    obtain ⟨w2, hw2⟩ : ∃ w2, (w1.alloc (.map #[] 0)).alloc (.cells #[.map (some M)] 133) = w2 := ⟨_, rfl⟩
    have hb12 : Below w1.heap.size w1 w2 := by rw [← hw2]; exact bl_alloc (bl1 _ _) _
    have hb2 : Below w.heap.size w w2 := bl_trans hb1 hb12
    have hC : Cnt w2 M 0 (fun _ => 0) := by rw [← hw2, hz1]; exact (Cnt.made w1).up (bl1 _ _)
    have hK : w2.cell? ⟨M + 1, 0, none⟩ = some (.map (some M)) := by rw [← hw2, hz1, World.cell?_alloc_at _ _ _ _ (by simp)]; rfl
    have hX2 := hX1.up hb12
    have hS2 := (unhide HS).up hb2
    rw [hw2]
    have hle : w.heap.size ≤ M := by omega
    clear hw1 hw2 hz1 hM hX1
    refine (every_queueMayBe_1 _ _ a cap S.que (queQ S) (fun k wr => Cnt wr M (vers S k).length (fun y => (vers S k).count y) ∧ w2.grownBy wr (some M)) (fun wr => w2.grownBy wr (some M)) w2 (by omega) (fun k wr hk h => Lst.at (hS2.keep (Keeps.map hC.mapAt h.2)).que hk) (fun k wr wr' h hb => ⟨h.1.up hb, gb_trans h.2 (gb_below hb)⟩) ⟨hC, gb_refl _ _⟩ (fun k wr X hk e h => ?_)).mono ?_
    · have hkp := Keeps.map hC.mapAt h.2
      obtain ⟨_, _, _, r⟩ := Lst.at hS2.que hk
      rw [e] at r
      subst e
      have hlen : (vers S k).length < 1000 := by unfold vers; simp; omega
      refine (queueMayBe_1 S b v u (.slice a S.que.length cap) g (vers S k) _ (M + 1) w.heap.size M wr h.1 (hkp _ _ hK) (hX2.keep hkp) (hS2.keep hkp).ves r.wv hlen).mono ?_
      rintro e w' ⟨rfl, hg, hc⟩
      refine ⟨rfl, fun _ => ⟨?_, gb_trans h.2 hg⟩, fun _ => gb_trans h.2 hg⟩
      rw [vers_next S hk]
      exact hc
    · rintro e w3 ⟨rfl, hy, hn⟩
      have hg3 : w2.grownBy w3 (some M) := both_ways (fun h => (hy h).2) hn
      have hbe := bl_gb hb2 hg3 hle
      clear hy hn hC hK hX2 hS2
      go_wp2
      go_ret
      exact ⟨ret_bool (unhide HC).symm, hbe⟩
end Go.Proofs.Ytdalkkjojflakaa
