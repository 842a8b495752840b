/- icehousekeep.State. -/
import Derived.Test.YtdgmdapijhbocaaGreatG19
namespace Go.Proofs.YtdgmdapijhbocaaGreat
open Go.RowKit Go.Maps
set_option maxRecDepth 100000
set_option linter.unusedVariables false
set_option linter.unusedSimpArgs false
abbrev w7 (w : World) (g : Nat) (v0 v1 v2 v3 v4 v5 v6 : Value) : World := ((((((w.setCell ⟨g, 0, none⟩ v0).setCell ⟨g, 1, none⟩ v1).setCell ⟨g, 2, none⟩ v2).setCell ⟨g, 3, none⟩ v3).setCell ⟨g, 4, none⟩ v4).setCell ⟨g, 5, none⟩ v5).setCell ⟨g, 6, none⟩ v6
theorem gb7 (w : World) (g : Nat) (v0 v1 v2 v3 v4 v5 v6 : Value) : w.grownBy (w7 w g v0 v1 v2 v3 v4 v5 v6) (some g) :=
  gb_trans (gb_trans (gb_trans (gb_trans (gb_trans (gb_trans (gb_setCell _ _ _ _) (gb_setCell _ _ _ _)) (gb_setCell _ _ _ _)) (gb_setCell _ _ _ _)) (gb_setCell _ _ _ _)) (gb_setCell _ _ _ _)) (gb_setCell _ _ _ _)
theorem raw6 {w : World} {g : Nat} {t : TypeId} {a0 a1 a2 a3 a4 a5 : Value} (h : w.heap[g]? = some (.cells #[a0, a1, a2, a3, a4, a5] t (0, 0))) (v0 v1 v2 v3 v4 v5 : Value) :
    ((((((w.setCell ⟨g, 0, none⟩ v0).setCell ⟨g, 1, none⟩ v1).setCell ⟨g, 2, none⟩ v2).setCell ⟨g, 3, none⟩ v3).setCell ⟨g, 4, none⟩ v4).setCell ⟨g, 5, none⟩ v5).heap[g]? = some (.cells #[v0, v1, v2, v3, v4, v5] t (0, 0)) := by
  replace h := row1q (c' := #[v0, a1, a2, a3, a4, a5]) h 0 v0 rfl
  replace h := row1q (c' := #[v0, v1, a2, a3, a4, a5]) h 1 v1 rfl
  replace h := row1q (c' := #[v0, v1, v2, a3, a4, a5]) h 2 v2 rfl
  replace h := row1q (c' := #[v0, v1, v2, v3, a4, a5]) h 3 v3 rfl
  replace h := row1q (c' := #[v0, v1, v2, v3, v4, a5]) h 4 v4 rfl
  replace h := row1q (c' := #[v0, v1, v2, v3, v4, v5]) h 5 v5 rfl
  exact h
theorem infoRc : (Tryz.prog.info? 47).map (fun i => (i.zero, i.size, i.bytes)) = some (some (rcV (rcN 0) nl nl nl), 29, 312) := by kernel_rfl
theorem OSt.recK {w w' : World} {B : Nat} {b v u q g : Value} {S : St} {r : Option Nat} (h : OSt w B b v u q g S) (hg : w.grownBy w' r) (ht : Typ w r 47) : OSt w' B b v u q g S :=
  ⟨own_kept h.bus hg ht (by decide), h.ves.kept hg ht (by decide) (by decide), h.ups.kept hg ht (by decide) (by decide) (by decide), own_kept h.que hg ht (by decide), own_kept h.gone hg ht (by decide)⟩
theorem rec_fill (w : World) (c c' : Array Value) (hc : c'.size = c.size) : ((w.alloc (.cells c 47)).setCells w.heap.size 0 c'.toList).heap[w.heap.size]? = some (.cells c' 47 (0, 0)) ∧ Below w.heap.size w ((w.alloc (.cells c 47)).setCells w.heap.size 0 c'.toList) := by
  obtain ⟨h1, h2⟩ := rec_end (heap_alloc_new w (.cells c 47)) hc
  exact ⟨h1, bl_tr (bl1 _ _) (gb_lo h2 (by simp) (fun j e => by injection e with e; omega))⟩
theorem st00_wf : WfS st00 := ⟨(fun x hx => by cases hx), (fun x hx => by cases hx), (fun x hx => by cases hx), (fun x hx => by cases hx), (fun x hx => by cases hx)⟩
theorem app_wf {S : St} {r : Rc} (h : WfS S) (hr : WfR r) : WfS (appS S r) := by
  unfold appS
  split
  · rename_i h0
    exact chg_wf h hr (app_ok h0).2.1
  · exact st00_wf
theorem rc_one (r : Rc) (a1 a2 a3 : Option Addr) (n1 n2 n3 c1 c2 c3 : Nat) : (rcA r (.slice a1 n1 c1) (.slice a2 n2 c2) (.slice a3 n3 c3)).all (·.oneCell') = true := by simp [Value.oneCell']
/-- What stands at the head of a round. -/
structure KS (w wr : World) (l : List Rw) (k : Nat) (o b v u q g : Value) (xs : List Value) : Prop where
  row : wr.heap[w.heap.size + 1]? = some (.cells (stA (stN l k) b v u q g) 29 (0, 0))
  sta : OSt wr w.heap.size b v u q g (stN l k)
  wf : WfS (stN l k)
  out : wr.ownsRow w.heap.size 47 29 o (cntN l k) xs
  res : wr.heap[w.heap.size]? = some (.cells (stA st00 nl nl nl nl nl) 29 (0, 0))
  bel : Below w.heap.size w wr
theorem KS.lt {w wr : World} {l : List Rw} {k : Nat} {o b v u q g : Value} {xs : List Value} (h : KS w wr l k o b v u q g xs) : w.heap.size + 1 < wr.heap.size := (Array.getElem?_eq_some_iff.1 h.row).1
theorem KS.start (w : World) (l : List Rw) : KS w ((w.alloc (.cells (stA st00 nl nl nl nl nl) 29)).alloc (.cells (stA s00 nl nl nl nl nl) 29)) l 0 nl nl nl nl nl nl [] := by
  refine ⟨?_, ?_, ?_, ⟨by simp [cntN], .inl ⟨rfl, rfl⟩⟩, ?_, bl_alloc (bl1 _ _) _⟩
  · show _ = some (Obj.cells (stA s00 nl nl nl nl nl) 29 (0, 0))
    simpa using heap_alloc_new (w.alloc (.cells (stA st00 nl nl nl nl nl) 29)) (.cells (stA s00 nl nl nl nl nl) 29)
  · exact ⟨⟨by simp [stN, s00], .inl ⟨rfl, rfl⟩⟩, ⟨[], rfl, ⟨by simp, .inl ⟨rfl, rfl⟩⟩, fun p hp => by cases hp⟩, ⟨[], rfl, ⟨by simp, .inl ⟨rfl, rfl⟩⟩, ⟨(fun p hp => by cases hp), List.Pairwise.nil⟩⟩, ⟨by simp [stN, s00], .inl ⟨rfl, rfl⟩⟩, OwI.nil _ _⟩
  · exact ⟨(fun x hx => by cases hx), (fun x hx => by cases hx), (fun x hx => by cases hx), (fun x hx => by cases hx), (fun x hx => by cases hx)⟩
  · exact ((bl1 _ _).block w.heap.size (by simp)).trans (heap_alloc_new _ _)
set_option maxHeartbeats 4000000 in
theorem kState_any (lv : Value) (l : List Rw) (most : Nat) (w : World) (hl : Raws w lv l) (hm : most ≤ 1000) :
    Calls Tryz.prog 9 #[lv, .int .i64 most] w fun e w' => ∃ b v u q g oa oc, e = .returned (.tuple #[stV (staL l most) b v u q g, .slice oa (cntN l (rnd l most)) oc]) ∧ Sta w' b v u q g (staL l most) ∧ Below w.heap.size w w' := by
  obtain ⟨la, lc, rfl, hl1, hl2⟩ := hl.form
  unfold maxLen at hl2
  have HL := hide hl
  clear hl
  obtain ⟨N, hN⟩ : ∃ N, l.length = N := ⟨_, rfl⟩
  rw [hN] at hl1 HL ⊢
  obtain ⟨R, hR⟩ : ∃ R, rnd l most = R := ⟨_, rfl⟩
  have HSR : Hid (staL l most = stN l R) := by show _ = _; unfold staL; rw [hR]
  rw [hR]
  have hR1 : R = 2 + min N most := by rw [← hR, ← hN]; rfl
  obtain ⟨Q, hQ⟩ : ∃ Q, staL l most = Q := ⟨_, rfl⟩
  rw [hQ] at HSR ⊢
  have HN := hide hN
  have HQ := hide hQ
  have HR1 := hide hR1
  have hRb : R ≤ 1002 := by omega
  have hRN : R ≤ N + 2 := by omega
  have hRM : R ≤ most + 2 := by omega
  clear hN hR hQ hR1
  have hs00 : stN l 0 = s00 := rfl
  go_enter Tryz.func9, Tryz.ntmps9
  go_wp2
  go_loopw [7, 8, 9, 10, 11, 12, 18, 37] (fun o i _ _ _ _ _ _ wr => ∃ (k : Nat) (oa : Option Addr) (oc : Nat) (b v u q g : Value) (xs : List Value), k ≤ R ∧ i = .int .i64 ((k : Int) - 2) ∧ o = .slice oa (cntN l k) oc ∧ KS w wr l k (.slice oa (cntN l k) oc) b v u q g xs) (fun _ i _ _ _ _ _ _ _ => R + 5 - (intOf i + 2).toNat)
  case atStart => exact ⟨0, none, 0, nl, nl, nl, nl, nl, [], Nat.zero_le _, rfl, rfl, KS.start w l⟩
  case round =>
    obtain ⟨k, oa, oc, b, v, u, q, g, xs, hk, rfl, rfl, hK⟩ := hrel
    obtain ⟨hrow, hsta, hwf, hout, hres, hbel⟩ := hK
    have hz0 : w.heap.size + 1 < wr.heap.size := (Array.getElem?_eq_some_iff.1 hrow).1
    have hok := stN_ok l k
    obtain ⟨S, hS⟩ : ∃ S, stN l k = S := ⟨_, rfl⟩
    obtain ⟨n, hn⟩ : ∃ n, cntN l k = n := ⟨_, rfl⟩
    have hnk : n ≤ k := by rw [← hn]; exact cntN_le l k
    rw [hS] at hrow hsta hwf hok
    rw [hn] at hout ⊢
    obtain ⟨ba, bc, rfl, _, _⟩ := (hsta.sta hwf).bus.form
    obtain ⟨va, vc, rfl, _, _⟩ := (hsta.sta hwf).ves.form
    obtain ⟨ua, uc, rfl, _, _⟩ := (hsta.sta hwf).ups.form
    obtain ⟨qa, qc, rfl, _, _⟩ := (hsta.sta hwf).que.form
    obtain ⟨ga, gc, rfl, _, _⟩ := (hsta.sta hwf).gone.form
    have c0 : wr.cell? ⟨w.heap.size + 1, 0, none⟩ = some (.int .i64 S.next) := cell_of hrow 0 rfl
    have c1 : wr.cell? ⟨w.heap.size + 1, 1, none⟩ = some (.int .i64 S.clock) := cell_of hrow 1 rfl
    have c2 : wr.cell? ⟨w.heap.size + 1, 2, none⟩ = some (.slice ba S.bus.length bc) := cell_of hrow 2 rfl
    have c3 : wr.cell? ⟨w.heap.size + 1, 3, none⟩ = some (.slice va S.ves.length vc) := cell_of hrow 3 rfl
    have c4 : wr.cell? ⟨w.heap.size + 1, 4, none⟩ = some (.slice ua S.ups.length uc) := cell_of hrow 4 rfl
    have c5 : wr.cell? ⟨w.heap.size + 1, 5, none⟩ = some (.slice qa S.que.length qc) := cell_of hrow 5 rfl
    have c6 : wr.cell? ⟨w.heap.size + 1, 6, none⟩ = some (.slice ga S.gone.length gc) := cell_of hrow 6 rfl
    obtain ⟨I, hI⟩ : ∃ I, (k : Int) - 2 = I := ⟨_, rfl⟩
    rw [hI]
    by_cases hlt : k < R
    case neg =>
      have hkR : k = R := by omega
      have HSR2 : Hid (Q = S) := by show _ = _; rw [unhide HSR, ← hkR, hS]
      have hR2 := unhide HR1
      have z0 : wr.cell? ⟨w.heap.size, 0, none⟩ = some (.int .i64 0) := cell_of hres 0 rfl
      have z1 : wr.cell? ⟨w.heap.size, 1, none⟩ = some (.int .i64 0) := cell_of hres 1 rfl
      have z2 : wr.cell? ⟨w.heap.size, 2, none⟩ = some (nl) := cell_of hres 2 rfl
      have z3 : wr.cell? ⟨w.heap.size, 3, none⟩ = some (nl) := cell_of hres 3 rfl
      have z4 : wr.cell? ⟨w.heap.size, 4, none⟩ = some (nl) := cell_of hres 4 rfl
      have z5 : wr.cell? ⟨w.heap.size, 5, none⟩ = some (nl) := cell_of hres 5 rfl
      have z6 : wr.cell? ⟨w.heap.size, 6, none⟩ = some (nl) := cell_of hres 6 rfl
      have zf := fun j => fz_of hres j
      have hfin : (∃ b' v' u' q' g' oa' oc', Ending.returned (.tuple #[stV S (.slice ba S.bus.length bc) (.slice va S.ves.length vc) (.slice ua S.ups.length uc) (.slice qa S.que.length qc) (.slice ga S.gone.length gc), .slice oa n oc]) = .returned (.tuple #[stV Q b' v' u' q' g', .slice oa' (cntN l R) oc']) ∧ Sta (w7 wr w.heap.size (.int .i64 S.next) (.int .i64 S.clock) (.slice ba S.bus.length bc) (.slice va S.ves.length vc) (.slice ua S.ups.length uc) (.slice qa S.que.length qc) (.slice ga S.gone.length gc)) b' v' u' q' g' Q ∧ Below w.heap.size w (w7 wr w.heap.size (.int .i64 S.next) (.int .i64 S.clock) (.slice ba S.bus.length bc) (.slice va S.ves.length vc) (.slice ua S.ups.length uc) (.slice qa S.que.length qc) (.slice ga S.gone.length gc))) := by
        refine ⟨_, _, _, _, _, oa, oc, by rw [unhide HSR2, ← hkR, hn], ?_, ?_⟩
        · rw [unhide HSR2]
          exact (OSt.box hsta (gb7 _ _ _ _ _ _ _ _ _) (row_typ hres)).sta hwf
        · exact bl_tr hbel (gb_lo (gb7 _ _ _ _ _ _ _ _ _) hbel.size (fun j e => by injection e with e; omega))
      have HF := hide hfin
      clear hrow hsta hwf hout hres hbel hfin hok
      by_cases h1 : N ≤ most
      · have t1 : ¬ I < (N : Int) := by omega
        clear hR2 hI hlt hk hkR
        go_wp2
        refine bodyPost_ret (v := .tuple #[stV S (.slice ba S.bus.length bc) (.slice va S.ves.length vc) (.slice ua S.ups.length uc) (.slice qa S.que.length qc) (.slice ga S.gone.length gc), .slice oa n oc]) (by simp [results, Tryz.results9, go_sem, *]) rfl ?_
        obtain ⟨b', v', u', q', g', oa', oc', p1, p2, p3⟩ := unhide HF
        exact ⟨b', v', u', q', g', ⟨oa', oc', p1⟩, p2, p3⟩
      · have t1 : I < (N : Int) := by omega
        have t2 : ¬ I < (most : Int) := by omega
        clear hR2 hI hlt hk hkR
        go_wp2
        refine bodyPost_ret (v := .tuple #[stV S (.slice ba S.bus.length bc) (.slice va S.ves.length vc) (.slice ua S.ups.length uc) (.slice qa S.que.length qc) (.slice ga S.gone.length gc), .slice oa n oc]) (by simp [results, Tryz.results9, go_sem, *]) rfl ?_
        obtain ⟨b', v', u', q', g', oa', oc', p1, p2, p3⟩ := unhide HF
        exact ⟨b', v', u', q', g', ⟨oa', oc', p1⟩, p2, p3⟩
    have t1 : I < (N : Int) := by omega
    have t2 : I < (most : Int) := by omega
    have t3 : -2 ≤ I := by omega
    have t4 : I ≤ 1000 := by omega
    by_cases h2 : k < 2
    · have t5 : I < 0 := by omega
      go_upto_region 9 with fail
      have hx : rwAt l k = rwA (I + 2) := by unfold rwAt; rw [if_pos h2]; congr 1; omega
      have hraw : (wr.alloc (.cells #[.int .i64 0, .int .i64 (I + 2), .int .i64 0, .int .i64 0, .int .i64 0, .string ⟨#[]⟩] 72)).heap[wr.heap.size]? = some (.cells (xsA (rwAt l k)) 72 (0, 0)) := by rw [hx]; exact heap_alloc_new _ _
      have hb9 := bl1 wr (.cells #[.int .i64 0, .int .i64 (I + 2), .int .i64 0, .int .i64 0, .int .i64 0, .string ⟨#[]⟩] 72)
      clear c0 c1 c2 c3 c4 c5 c6 hx
      revert hraw hb9
      generalize wr.alloc _ = W9
      intro hraw hb9
      replace hI := hide hI
      have hx9 := rwAt_wf (unhide HL) k
      have hlt9 : wr.heap.size < W9.heap.size := (Array.getElem?_eq_some_iff.1 hraw).1
      obtain ⟨X, hX⟩ : ∃ X, rwAt l k = X := ⟨_, rfl⟩
      rw [hX] at hraw hx9
      have hrow9 := (hb9.block _ (by omega)).trans hrow
      have HST9 := hide ((hsta.up hb9).sta hwf)
      have a0 : W9.cell? ⟨wr.heap.size, 0, none⟩ = some (.int .i64 X.kind) := cell_of hraw 0 rfl
      have a1 : W9.cell? ⟨wr.heap.size, 1, none⟩ = some (.int .i64 X.a) := cell_of hraw 1 rfl
      have a2 : W9.cell? ⟨wr.heap.size, 2, none⟩ = some (.int .i64 X.b) := cell_of hraw 2 rfl
      have a3 : W9.cell? ⟨wr.heap.size, 3, none⟩ = some (.int .i64 X.c) := cell_of hraw 3 rfl
      have a4 : W9.cell? ⟨wr.heap.size, 4, none⟩ = some (.int .i64 X.d) := cell_of hraw 4 rfl
      have a5 : W9.cell? ⟨wr.heap.size, 5, none⟩ = some (.string X.text) := cell_of hraw 5 rfl
      have d0 : W9.cell? ⟨w.heap.size + 1, 0, none⟩ = some (.int .i64 S.next) := cell_of hrow9 0 rfl
      have d1 : W9.cell? ⟨w.heap.size + 1, 1, none⟩ = some (.int .i64 S.clock) := cell_of hrow9 1 rfl
      have d2 : W9.cell? ⟨w.heap.size + 1, 2, none⟩ = some ((.slice ba S.bus.length bc)) := cell_of hrow9 2 rfl
      have d3 : W9.cell? ⟨w.heap.size + 1, 3, none⟩ = some ((.slice va S.ves.length vc)) := cell_of hrow9 3 rfl
      have d4 : W9.cell? ⟨w.heap.size + 1, 4, none⟩ = some ((.slice ua S.ups.length uc)) := cell_of hrow9 4 rfl
      have d5 : W9.cell? ⟨w.heap.size + 1, 5, none⟩ = some ((.slice qa S.que.length qc)) := cell_of hrow9 5 rfl
      have d6 : W9.cell? ⟨w.heap.size + 1, 6, none⟩ = some ((.slice ga S.gone.length gc)) := cell_of hrow9 6 rfl
      clear t1 t2 t5 h2
      go_wp2_with fail
      refine (record_any S _ _ _ _ _ X _ (unhide HST9) hok hx9).mono ?_
      rintro e w1 ⟨vv, pv, sv, rfl, hRI, hb1⟩
      simp only []
      rename_i hK0
      refine hK0 _ _ ?_
      clear hK0
      have hWR := recR_wf hok X
      have hFR := recR_fit S X
      obtain ⟨ra, rc, rfl, _, _⟩ := hRI.ver.form
      obtain ⟨pa, pc, rfl, _, _⟩ := hRI.part.form
      obtain ⟨sa, sc, rfl, _, _⟩ := hRI.sec.form
      have HNX : Hid (stN l (k + 1) = if appE S (recR S X) = 0 then appS S (recR S X) else S) := by
        show _ = _
        rw [stN, hX, hS]; rfl
      have HCN : Hid (cntN l (k + 1) = n + if appE S (recR S X) = 0 then 1 else 0) := by
        show _ = _
        rw [cntN, hX, hS, hn]
      obtain ⟨RX, hRX⟩ : ∃ R, recR S X = R := ⟨_, rfl⟩
      rw [hRX] at hWR hFR HNX HCN hRI ⊢
      clear hRX
      have hb91 : Below wr.heap.size wr w1 := bl_trans hb9 hb1
      have hz1 := hb91.size
      clear a0 a1 a2 a3 a4 a5 d0 d1 d2 d3 d4 d5 d6 hraw hrow9 HST9
      refine wpList_plain rfl (fun K hK => ?_)
      go_simp
      refine hK _ _ ?_
      clear hK
      refine wpList_store_mid rfl 47 (.tmp 10) (.tmp 36) rfl w1.heap.size 0 (rcA RX (.slice ra RX.ver.sec.length rc) (.slice pa RX.part.sec.length pc) (.slice sa RX.sec.length sc)) rfl rfl (there_of (c := rcA (rcN 0) nl nl nl) (t := 47) (heap_alloc_new _ _)) (by kernel_rfl) (rc_one _ _ _ _ _ _ _ _ _ _) ?_
      generalize hWW : World.setCells _ w1.heap.size 0 _ = W2
      have hre2 : W2.heap[w1.heap.size]? = some (.cells (rcA RX (.slice ra RX.ver.sec.length rc) (.slice pa RX.part.sec.length pc) (.slice sa RX.sec.length sc)) 47 (0, 0)) ∧ Below w1.heap.size w1 W2 := by
        rw [← hWW]
        exact rec_fill w1 (rcA (rcN 0) nl nl nl) _ rfl
      clear hWW
      obtain ⟨hre, hbe⟩ := hre2
      have hz2 : w1.heap.size < W2.heap.size := (Array.getElem?_eq_some_iff.1 hre).1
      have hb92 : Below wr.heap.size wr W2 := bl_trans hb91 hbe
      have hrow2 := (hb92.block _ (by omega)).trans hrow
      have HST2 := hide ((hsta.up hb92).sta hwf)
      have HRI2 := hide (hRI.up hbe)
      clear hRI hbe
      have d0 : W2.cell? ⟨w.heap.size + 1, 0, none⟩ = some (.int .i64 S.next) := cell_of hrow2 0 rfl
      have d1 : W2.cell? ⟨w.heap.size + 1, 1, none⟩ = some (.int .i64 S.clock) := cell_of hrow2 1 rfl
      have d2 : W2.cell? ⟨w.heap.size + 1, 2, none⟩ = some ((.slice ba S.bus.length bc)) := cell_of hrow2 2 rfl
      have d3 : W2.cell? ⟨w.heap.size + 1, 3, none⟩ = some ((.slice va S.ves.length vc)) := cell_of hrow2 3 rfl
      have d4 : W2.cell? ⟨w.heap.size + 1, 4, none⟩ = some ((.slice ua S.ups.length uc)) := cell_of hrow2 4 rfl
      have d5 : W2.cell? ⟨w.heap.size + 1, 5, none⟩ = some ((.slice qa S.que.length qc)) := cell_of hrow2 5 rfl
      have d6 : W2.cell? ⟨w.heap.size + 1, 6, none⟩ = some ((.slice ga S.gone.length gc)) := cell_of hrow2 6 rfl
      go_upto_region 10 with fail
      refine wp_region_lit ?_
      refine wpList_load_mid rfl 29 (.tmp 6) rfl (w.heap.size + 1) 0 rfl (#[.int .i64 S.next, .int .i64 S.clock, (.slice ba S.bus.length bc), (.slice va S.ves.length vc), (.slice ua S.ups.length uc), (.slice qa S.que.length qc), (.slice ga S.gone.length gc)] : Array Value).toList _ (fun j v hv => by rw [Nat.zero_add]; exact cell_of hrow2 j (by simpa using hv)) Tryz.underlying29 rfl (by kernel_rfl) ?_
      refine wpList_load_mid rfl 47 (.tmp 10) rfl w1.heap.size 0 rfl (rcA RX (.slice ra RX.ver.sec.length rc) (.slice pa RX.part.sec.length pc) (.slice sa RX.sec.length sc)).toList _ (fun j v hv => by rw [Nat.zero_add]; exact cell_of hre j (by simpa using hv)) Tryz.underlying47 rfl (by kernel_rfl) ?_
      clear d0 d1 d2 d3 d4 d5 d6
      have HRE := hide hre
      clear hre hrow2
      go_wp2_with fail
      refine (apply_any S _ _ _ _ _ RX _ _ _ _ (unhide HST2) hFR hWR (unhide HRI2)).mono ?_
      rintro e w3 ⟨b', v', u', q', g', rfl, hO, hb3⟩
      have hWT := app_wf hwf hWR
      have HAS : Hid (appE S RX = 0 → stN l (k + 1) = appS S RX ∧ cntN l (k + 1) = n + 1) := fun h => ⟨by rw [unhide HNX, if_pos h], by rw [unhide HCN, if_pos h]⟩
      have HAN : Hid (¬ appE S RX = 0 → stN l (k + 1) = S ∧ cntN l (k + 1) = n) := fun h => ⟨by rw [unhide HNX, if_neg h], by rw [unhide HCN, if_neg h]; rfl⟩
      obtain ⟨T, hT⟩ : ∃ T, appS S RX = T := ⟨_, rfl⟩
      obtain ⟨E, hE⟩ : ∃ E, appE S RX = E := ⟨_, rfl⟩
      rw [hT] at hWT hO HAS ⊢
      rw [hE] at HAS HAN ⊢
      clear hT hE HNX HCN
      obtain ⟨ba', bc', rfl, _, _⟩ := (hO.sta hWT).bus.form
      obtain ⟨va', vc', rfl, _, _⟩ := (hO.sta hWT).ves.form
      obtain ⟨ua', uc', rfl, _, _⟩ := (hO.sta hWT).ups.form
      obtain ⟨qa', qc', rfl, _, _⟩ := (hO.sta hWT).que.form
      obtain ⟨ga', gc', rfl, _, _⟩ := (hO.sta hWT).gone.form
      have hb93 : Below wr.heap.size wr w3 := bl_trans hb92 hb3
      have hz3 := hb93.size
      have hz4 := hb3.size
      go_upto_region 11 with fail
      generalize hWW : w3.alloc _ = W4
      have h4 : W4.heap[w3.heap.size]? = some (.cells #[.int .i64 T.next, .int .i64 T.clock, (.slice ba' T.bus.length bc'), (.slice va' T.ves.length vc'), (.slice ua' T.ups.length uc'), (.slice qa' T.que.length qc'), (.slice ga' T.gone.length gc')] 29 (0, 0)) ∧ Below w3.heap.size w3 W4 := by
        rw [← hWW]
        exact ⟨heap_alloc_new _ _, bl1 _ _⟩
      clear hWW
      obtain ⟨hnw, hb4⟩ := h4
      have hb94 : Below wr.heap.size wr W4 := bl_trans hb93 hb4
      have hz5 := hb4.size
      have hrow4 := (hb94.block _ (by omega)).trans hrow
      have hres4 := (hb94.block _ (by omega)).trans hres
      have hsta4 := hsta.up hb94
      have hout4 := own_up hb94 hout
      have hbel4 : Below w.heap.size w W4 := bl_tr hbel (bl_lo hb94 hbel.size)
      have hO4 := (hO.up hb4).base (B' := w.heap.size) (by omega)
      have hre4 := (hb4.block _ (by omega)).trans ((hb3.block _ hz2).trans (unhide HRE))
      clear hb91 hb92 hb93 hb94 hb1 hb3 hb4 hb9 HST2 HRI2 HRE hrow hres hsta hout hbel hO
      by_cases hE0 : E = 0
      · have te : (E == 0) = true := by simpa using hE0
        obtain ⟨e1, e2⟩ := unhide HAS hE0
        clear HAS HAN hE0
        have a0 : W4.cell? ⟨w3.heap.size, 0, none⟩ = some (.int .i64 T.next) := cell_of hnw 0 rfl
        have a1 : W4.cell? ⟨w3.heap.size, 1, none⟩ = some (.int .i64 T.clock) := cell_of hnw 1 rfl
        have a2 : W4.cell? ⟨w3.heap.size, 2, none⟩ = some ((.slice ba' T.bus.length bc')) := cell_of hnw 2 rfl
        have a3 : W4.cell? ⟨w3.heap.size, 3, none⟩ = some ((.slice va' T.ves.length vc')) := cell_of hnw 3 rfl
        have a4 : W4.cell? ⟨w3.heap.size, 4, none⟩ = some ((.slice ua' T.ups.length uc')) := cell_of hnw 4 rfl
        have a5 : W4.cell? ⟨w3.heap.size, 5, none⟩ = some ((.slice qa' T.que.length qc')) := cell_of hnw 5 rfl
        have a6 : W4.cell? ⟨w3.heap.size, 6, none⟩ = some ((.slice ga' T.gone.length gc')) := cell_of hnw 6 rfl
        have d0 : W4.cell? ⟨w.heap.size + 1, 0, none⟩ = some (.int .i64 S.next) := cell_of hrow4 0 rfl
        have d1 : W4.cell? ⟨w.heap.size + 1, 1, none⟩ = some (.int .i64 S.clock) := cell_of hrow4 1 rfl
        have d2 : W4.cell? ⟨w.heap.size + 1, 2, none⟩ = some ((.slice ba S.bus.length bc)) := cell_of hrow4 2 rfl
        have d3 : W4.cell? ⟨w.heap.size + 1, 3, none⟩ = some ((.slice va S.ves.length vc)) := cell_of hrow4 3 rfl
        have d4 : W4.cell? ⟨w.heap.size + 1, 4, none⟩ = some ((.slice ua S.ups.length uc)) := cell_of hrow4 4 rfl
        have d5 : W4.cell? ⟨w.heap.size + 1, 5, none⟩ = some ((.slice qa S.que.length qc)) := cell_of hrow4 5 rfl
        have d6 : W4.cell? ⟨w.heap.size + 1, 6, none⟩ = some ((.slice ga S.gone.length gc)) := cell_of hrow4 6 rfl
        have df := fun j => fz_of hrow4 j
        have HRW := hide hrow4
        have htp := row_typ hrow4
        clear hsta4 hnw hrow4
        go_upto_region 13 with fail
        clear a0 a1 a2 a3 a4 a5 a6 d0 d1 d2 d3 d4 d5 d6 df
        generalize hWW : World.setCell _ ⟨w.heap.size + 1, 6, none⟩ _ = W5
        have h5 : W5.heap[w.heap.size + 1]? = some (.cells #[.int .i64 T.next, .int .i64 T.clock, (.slice ba' T.bus.length bc'), (.slice va' T.ves.length vc'), (.slice ua' T.ups.length uc'), (.slice qa' T.que.length qc'), (.slice ga' T.gone.length gc')] 29 (0, 0)) ∧ W4.grownBy W5 (some (w.heap.size + 1)) := by
          rw [← hWW]
          exact ⟨row7 (unhide HRW) _ _ _ _ _ _ _, gb7 _ _ _ _ _ _ _ _ _⟩
        clear hWW HRW
        obtain ⟨hw7, hg7⟩ := h5
        have hz6 := hg7.size
        have hO5 := hO4.box hg7 htp
        have hout5 := own_kept hout4 hg7 htp (by decide)
        have hres5 := (hg7.block _ (by omega) (fun e => by injection e with e; omega)).trans hres4
        have hbel5 : Below w.heap.size w W5 := bl_tr hbel4 (gb_lo hg7 (by omega) (fun j e => by injection e with e; omega))
        have hre5 := (hg7.block _ (by omega) (fun e => by injection e with e; omega)).trans hre4
        clear hO4 hout4 hres4 hbel4 hre4 hg7 htp
        refine wp_region_lit ?_
        refine wpList_plain rfl (fun K hK => ?_)
        go_simp
        refine hK _ _ ?_
        clear hK
        refine wpList_load_mid rfl 47 (.tmp 10) rfl w1.heap.size 0 rfl (rcA RX (.slice ra RX.ver.sec.length rc) (.slice pa RX.part.sec.length pc) (.slice sa RX.sec.length sc)).toList _ (fun j v hv => by rw [Nat.zero_add]; exact cell_of hre5 j (by simpa using hv)) Tryz.underlying47 rfl (by kernel_rfl) ?_
        refine wpList_plain rfl (fun K hK => ?_)
        go_simp
        refine hK _ _ ?_
        clear hK
        generalize hWW : W5.alloc _ = W6
        have h6 : W6.heap[W5.heap.size]? = some (.cells (rcA RX (.slice ra RX.ver.sec.length rc) (.slice pa RX.part.sec.length pc) (.slice sa RX.sec.length sc)) 47 (0, 0)) ∧ Below W5.heap.size W5 W6 := by
          rw [← hWW]
          exact ⟨heap_alloc_new _ _, bl1 _ _⟩
        clear hWW
        obtain ⟨hnw6, hb6⟩ := h6
        have hz7 : W5.heap.size < W6.heap.size := (Array.getElem?_eq_some_iff.1 hnw6).1
        obtain ⟨i0, hi, hz0', hz1', hz2'⟩ := info_parts infoRc
        refine wpList_append_own _ rfl (.tmp 46) (.tmp 48) 30 rfl w.heap.size 47 i0 (rcV (rcN 0) nl nl nl) 29 312 Tryz.underlying30 hi hz0' hz1' hz2' rfl (by decide) (.slice oa n oc) n xs rfl (own_up hb6 hout5) ⟨W5.heap.size, 0, none⟩ 1 1 (rcA RX (.slice ra RX.ver.sec.length rc) (.slice pa RX.part.sec.length pc) (.slice sa RX.sec.length sc)).toList rfl rfl (fun j u hj => by rw [sadd_none, Nat.zero_add]; exact cell_of hnw6 j (by simpa using hj)) (fun u hu => by have := rc_one RX ra pa sa RX.ver.sec.length RX.part.sec.length RX.sec.length rc pc sc; rw [Array.all_eq_true_iff_forall_mem] at this; exact this u (by simpa using hu)) (by unfold maxLen; omega) (by omega) (by omega) ?_
        intro v7 w7' hown7 hgr7 _
        have hty : Typ W6 (Value.slice oa n oc).ownBlock 47 := own_typ (own_up hb6 hout5)
        have hw8 := row_kept ((hb6.block _ (by omega)).trans hw7) hgr7 hty (by decide)
        have hr8 := row_kept ((hb6.block _ (by omega)).trans hres5) hgr7 hty (by decide)
        have hO8 := OSt.recK (hO5.up hb6) hgr7 hty
        have hbel8 : Below w.heap.size w w7' := bl_tr hbel5 (bl_tr (bl_lo hb6 (by omega)) (gb_lo hgr7 (by omega) (fun j hj => ((own_up hb6 hout5).lt j hj).1)))
        have hvf : ∃ a c, v7 = .slice a (n + 1) c := by
          rcases hown7.2 with ⟨_, h0⟩ | ⟨g, cap, cur, e, _⟩
          · omega
          · exact ⟨_, _, e⟩
        obtain ⟨a7, c7, rfl⟩ := hvf
        have HKS : Hid (KS w w7' l (k + 1) (.slice a7 (n + 1) c7) (.slice ba' T.bus.length bc') (.slice va' T.ves.length vc') (.slice ua' T.ups.length uc') (.slice qa' T.que.length qc') (.slice ga' T.gone.length gc') (xs ++ (rcA RX (.slice ra RX.ver.sec.length rc) (.slice pa RX.part.sec.length pc) (.slice sa RX.sec.length sc)).toList)) := by
          show KS _ _ _ _ _ _ _ _ _ _ _
          refine ⟨?_, ?_, ?_, ?_, hr8, hbel8⟩
          · rw [e1]; exact hw8
          · rw [e1]; exact hO8
          · rw [e1]; exact hWT
          · rw [e2]; exact hown7
        have HE2 := hide e2
        clear hown7 hgr7 hw8 hr8 hO8 hbel8 hty hi hz0' hz1' hz2' hnw6 hb6 hre5 hO5 hout5 hres5 hbel5 hw7 e1 e2
        go_wp2
        go_roundw
        case rel =>
          have hI2 := unhide hI
          exact ⟨k + 1, a7, c7, _, _, _, _, _, _, by omega, by go_num, by rw [unhide HE2], by rw [unhide HE2]; exact unhide HKS⟩
        case measure =>
          have hI2 := unhide hI
          (simp [intOf] <;> omega)
      · have te : (E == 0) = false := by simpa using hE0
        obtain ⟨e1, e2⟩ := unhide HAN hE0
        have HKS : Hid (KS w W4 l (k + 1) (.slice oa n oc) (.slice ba S.bus.length bc) (.slice va S.ves.length vc) (.slice ua S.ups.length uc) (.slice qa S.que.length qc) (.slice ga S.gone.length gc) xs) := by
          show KS _ _ _ _ _ _ _ _ _ _ _
          refine ⟨?_, ?_, ?_, ?_, hres4, hbel4⟩
          · rw [e1]; exact hrow4
          · rw [e1]; exact hsta4
          · rw [e1]; exact hwf
          · rw [e2]; exact hout4
        have HE2 := hide e2
        clear HAS HAN hE0 e1 e2 hres4 hbel4 hrow4 hsta4 hout4 hre4 hnw hO4
        go_wp2
        go_roundw
        case rel =>
          have hI2 := unhide hI
          exact ⟨k + 1, oa, oc, _, _, _, _, _, _, by omega, by go_num, by rw [unhide HE2], by rw [unhide HE2]; exact unhide HKS⟩
        case measure =>
          have hI2 := unhide hI
          (simp [intOf] <;> omega)
    · have t5 : ¬ I < 0 := by omega
      obtain ⟨j, rfl⟩ := Int.eq_ofNat_of_zero_le (by omega : 0 ≤ I)
      obtain ⟨b8, o8, e8, hr0⟩ := Lst.at (unhide HL) (i := j) (by rw [unhide HN]; omega)
      have hx : rwAt l k = l.getD j rw0 := by unfold rwAt; rw [if_neg h2]; congr 1; omega
      rw [← hx] at hr0
      obtain ⟨Y, hY⟩ : ∃ Y, rwAt l k = Y := ⟨_, rfl⟩
      rw [hY] at hr0
      subst e8
      have hr := RRw.up (bl_lo hbel (Nat.le_refl _)) hr0
      have x0 := hr.c0
      have x1 := hr.c1
      have x2 := hr.c2
      have x3 := hr.c3
      have x4 := hr.c4
      have x5 := hr.c5
      have hl8 : b8 < wr.heap.size := World.block_lt_of_cell? wr _ x0
      clear hr hr0 hx
      go_upto_region 9 with fail
      clear c0 c1 c2 c3 c4 c5 c6 x0 x1 x2 x3 x4 x5
      generalize hWW : wr.alloc _ = W9
      have h9 : W9.heap[wr.heap.size]? = some (.cells (xsA (rwAt l k)) 72 (0, 0)) ∧ Below wr.heap.size wr W9 := by
        rw [← hWW, hY]
        exact ⟨heap_alloc_new _ _, bl1 _ _⟩
      clear hWW
      obtain ⟨hraw, hb9⟩ := h9
      replace hI := hide hI
      clear hY
      have hx9 := rwAt_wf (unhide HL) k
      have hlt9 : wr.heap.size < W9.heap.size := (Array.getElem?_eq_some_iff.1 hraw).1
      obtain ⟨X, hX⟩ : ∃ X, rwAt l k = X := ⟨_, rfl⟩
      rw [hX] at hraw hx9
      have hrow9 := (hb9.block _ (by omega)).trans hrow
      have HST9 := hide ((hsta.up hb9).sta hwf)
      have a0 : W9.cell? ⟨wr.heap.size, 0, none⟩ = some (.int .i64 X.kind) := cell_of hraw 0 rfl
      have a1 : W9.cell? ⟨wr.heap.size, 1, none⟩ = some (.int .i64 X.a) := cell_of hraw 1 rfl
      have a2 : W9.cell? ⟨wr.heap.size, 2, none⟩ = some (.int .i64 X.b) := cell_of hraw 2 rfl
      have a3 : W9.cell? ⟨wr.heap.size, 3, none⟩ = some (.int .i64 X.c) := cell_of hraw 3 rfl
      have a4 : W9.cell? ⟨wr.heap.size, 4, none⟩ = some (.int .i64 X.d) := cell_of hraw 4 rfl
      have a5 : W9.cell? ⟨wr.heap.size, 5, none⟩ = some (.string X.text) := cell_of hraw 5 rfl
      have d0 : W9.cell? ⟨w.heap.size + 1, 0, none⟩ = some (.int .i64 S.next) := cell_of hrow9 0 rfl
      have d1 : W9.cell? ⟨w.heap.size + 1, 1, none⟩ = some (.int .i64 S.clock) := cell_of hrow9 1 rfl
      have d2 : W9.cell? ⟨w.heap.size + 1, 2, none⟩ = some ((.slice ba S.bus.length bc)) := cell_of hrow9 2 rfl
      have d3 : W9.cell? ⟨w.heap.size + 1, 3, none⟩ = some ((.slice va S.ves.length vc)) := cell_of hrow9 3 rfl
      have d4 : W9.cell? ⟨w.heap.size + 1, 4, none⟩ = some ((.slice ua S.ups.length uc)) := cell_of hrow9 4 rfl
      have d5 : W9.cell? ⟨w.heap.size + 1, 5, none⟩ = some ((.slice qa S.que.length qc)) := cell_of hrow9 5 rfl
      have d6 : W9.cell? ⟨w.heap.size + 1, 6, none⟩ = some ((.slice ga S.gone.length gc)) := cell_of hrow9 6 rfl
      clear t1 t2 t5 h2
      go_wp2_with fail
      refine (record_any S _ _ _ _ _ X _ (unhide HST9) hok hx9).mono ?_
      rintro e w1 ⟨vv, pv, sv, rfl, hRI, hb1⟩
      simp only []
      rename_i hK0
      refine hK0 _ _ ?_
      clear hK0
      have hWR := recR_wf hok X
      have hFR := recR_fit S X
      obtain ⟨ra, rc, rfl, _, _⟩ := hRI.ver.form
      obtain ⟨pa, pc, rfl, _, _⟩ := hRI.part.form
      obtain ⟨sa, sc, rfl, _, _⟩ := hRI.sec.form
      have HNX : Hid (stN l (k + 1) = if appE S (recR S X) = 0 then appS S (recR S X) else S) := by
        show _ = _
        rw [stN, hX, hS]; rfl
      have HCN : Hid (cntN l (k + 1) = n + if appE S (recR S X) = 0 then 1 else 0) := by
        show _ = _
        rw [cntN, hX, hS, hn]
      obtain ⟨RX, hRX⟩ : ∃ R, recR S X = R := ⟨_, rfl⟩
      rw [hRX] at hWR hFR HNX HCN hRI ⊢
      clear hRX
      have hb91 : Below wr.heap.size wr w1 := bl_trans hb9 hb1
      have hz1 := hb91.size
      clear a0 a1 a2 a3 a4 a5 d0 d1 d2 d3 d4 d5 d6 hraw hrow9 HST9
      refine wpList_plain rfl (fun K hK => ?_)
      go_simp
      refine hK _ _ ?_
      clear hK
      refine wpList_store_mid rfl 47 (.tmp 10) (.tmp 36) rfl w1.heap.size 0 (rcA RX (.slice ra RX.ver.sec.length rc) (.slice pa RX.part.sec.length pc) (.slice sa RX.sec.length sc)) rfl rfl (there_of (c := rcA (rcN 0) nl nl nl) (t := 47) (heap_alloc_new _ _)) (by kernel_rfl) (rc_one _ _ _ _ _ _ _ _ _ _) ?_
      generalize hWW : World.setCells _ w1.heap.size 0 _ = W2
      have hre2 : W2.heap[w1.heap.size]? = some (.cells (rcA RX (.slice ra RX.ver.sec.length rc) (.slice pa RX.part.sec.length pc) (.slice sa RX.sec.length sc)) 47 (0, 0)) ∧ Below w1.heap.size w1 W2 := by
        rw [← hWW]
        exact rec_fill w1 (rcA (rcN 0) nl nl nl) _ rfl
      clear hWW
      obtain ⟨hre, hbe⟩ := hre2
      have hz2 : w1.heap.size < W2.heap.size := (Array.getElem?_eq_some_iff.1 hre).1
      have hb92 : Below wr.heap.size wr W2 := bl_trans hb91 hbe
      have hrow2 := (hb92.block _ (by omega)).trans hrow
      have HST2 := hide ((hsta.up hb92).sta hwf)
      have HRI2 := hide (hRI.up hbe)
      clear hRI hbe
      have d0 : W2.cell? ⟨w.heap.size + 1, 0, none⟩ = some (.int .i64 S.next) := cell_of hrow2 0 rfl
      have d1 : W2.cell? ⟨w.heap.size + 1, 1, none⟩ = some (.int .i64 S.clock) := cell_of hrow2 1 rfl
      have d2 : W2.cell? ⟨w.heap.size + 1, 2, none⟩ = some ((.slice ba S.bus.length bc)) := cell_of hrow2 2 rfl
      have d3 : W2.cell? ⟨w.heap.size + 1, 3, none⟩ = some ((.slice va S.ves.length vc)) := cell_of hrow2 3 rfl
      have d4 : W2.cell? ⟨w.heap.size + 1, 4, none⟩ = some ((.slice ua S.ups.length uc)) := cell_of hrow2 4 rfl
      have d5 : W2.cell? ⟨w.heap.size + 1, 5, none⟩ = some ((.slice qa S.que.length qc)) := cell_of hrow2 5 rfl
      have d6 : W2.cell? ⟨w.heap.size + 1, 6, none⟩ = some ((.slice ga S.gone.length gc)) := cell_of hrow2 6 rfl
      go_upto_region 10 with fail
      refine wp_region_lit ?_
      refine wpList_load_mid rfl 29 (.tmp 6) rfl (w.heap.size + 1) 0 rfl (#[.int .i64 S.next, .int .i64 S.clock, (.slice ba S.bus.length bc), (.slice va S.ves.length vc), (.slice ua S.ups.length uc), (.slice qa S.que.length qc), (.slice ga S.gone.length gc)] : Array Value).toList _ (fun j v hv => by rw [Nat.zero_add]; exact cell_of hrow2 j (by simpa using hv)) Tryz.underlying29 rfl (by kernel_rfl) ?_
      refine wpList_load_mid rfl 47 (.tmp 10) rfl w1.heap.size 0 rfl (rcA RX (.slice ra RX.ver.sec.length rc) (.slice pa RX.part.sec.length pc) (.slice sa RX.sec.length sc)).toList _ (fun j v hv => by rw [Nat.zero_add]; exact cell_of hre j (by simpa using hv)) Tryz.underlying47 rfl (by kernel_rfl) ?_
      clear d0 d1 d2 d3 d4 d5 d6
      have HRE := hide hre
      clear hre hrow2
      go_wp2_with fail
      refine (apply_any S _ _ _ _ _ RX _ _ _ _ (unhide HST2) hFR hWR (unhide HRI2)).mono ?_
      rintro e w3 ⟨b', v', u', q', g', rfl, hO, hb3⟩
      have hWT := app_wf hwf hWR
      have HAS : Hid (appE S RX = 0 → stN l (k + 1) = appS S RX ∧ cntN l (k + 1) = n + 1) := fun h => ⟨by rw [unhide HNX, if_pos h], by rw [unhide HCN, if_pos h]⟩
      have HAN : Hid (¬ appE S RX = 0 → stN l (k + 1) = S ∧ cntN l (k + 1) = n) := fun h => ⟨by rw [unhide HNX, if_neg h], by rw [unhide HCN, if_neg h]; rfl⟩
      obtain ⟨T, hT⟩ : ∃ T, appS S RX = T := ⟨_, rfl⟩
      obtain ⟨E, hE⟩ : ∃ E, appE S RX = E := ⟨_, rfl⟩
      rw [hT] at hWT hO HAS ⊢
      rw [hE] at HAS HAN ⊢
      clear hT hE HNX HCN
      obtain ⟨ba', bc', rfl, _, _⟩ := (hO.sta hWT).bus.form
      obtain ⟨va', vc', rfl, _, _⟩ := (hO.sta hWT).ves.form
      obtain ⟨ua', uc', rfl, _, _⟩ := (hO.sta hWT).ups.form
      obtain ⟨qa', qc', rfl, _, _⟩ := (hO.sta hWT).que.form
      obtain ⟨ga', gc', rfl, _, _⟩ := (hO.sta hWT).gone.form
      have hb93 : Below wr.heap.size wr w3 := bl_trans hb92 hb3
      have hz3 := hb93.size
      have hz4 := hb3.size
      go_upto_region 11 with fail
      generalize hWW : w3.alloc _ = W4
      have h4 : W4.heap[w3.heap.size]? = some (.cells #[.int .i64 T.next, .int .i64 T.clock, (.slice ba' T.bus.length bc'), (.slice va' T.ves.length vc'), (.slice ua' T.ups.length uc'), (.slice qa' T.que.length qc'), (.slice ga' T.gone.length gc')] 29 (0, 0)) ∧ Below w3.heap.size w3 W4 := by
        rw [← hWW]
        exact ⟨heap_alloc_new _ _, bl1 _ _⟩
      clear hWW
      obtain ⟨hnw, hb4⟩ := h4
      have hb94 : Below wr.heap.size wr W4 := bl_trans hb93 hb4
      have hz5 := hb4.size
      have hrow4 := (hb94.block _ (by omega)).trans hrow
      have hres4 := (hb94.block _ (by omega)).trans hres
      have hsta4 := hsta.up hb94
      have hout4 := own_up hb94 hout
      have hbel4 : Below w.heap.size w W4 := bl_tr hbel (bl_lo hb94 hbel.size)
      have hO4 := (hO.up hb4).base (B' := w.heap.size) (by omega)
      have hre4 := (hb4.block _ (by omega)).trans ((hb3.block _ hz2).trans (unhide HRE))
      clear hb91 hb92 hb93 hb94 hb1 hb3 hb4 hb9 HST2 HRI2 HRE hrow hres hsta hout hbel hO
      by_cases hE0 : E = 0
      · have te : (E == 0) = true := by simpa using hE0
        obtain ⟨e1, e2⟩ := unhide HAS hE0
        clear HAS HAN hE0
        have a0 : W4.cell? ⟨w3.heap.size, 0, none⟩ = some (.int .i64 T.next) := cell_of hnw 0 rfl
        have a1 : W4.cell? ⟨w3.heap.size, 1, none⟩ = some (.int .i64 T.clock) := cell_of hnw 1 rfl
        have a2 : W4.cell? ⟨w3.heap.size, 2, none⟩ = some ((.slice ba' T.bus.length bc')) := cell_of hnw 2 rfl
        have a3 : W4.cell? ⟨w3.heap.size, 3, none⟩ = some ((.slice va' T.ves.length vc')) := cell_of hnw 3 rfl
        have a4 : W4.cell? ⟨w3.heap.size, 4, none⟩ = some ((.slice ua' T.ups.length uc')) := cell_of hnw 4 rfl
        have a5 : W4.cell? ⟨w3.heap.size, 5, none⟩ = some ((.slice qa' T.que.length qc')) := cell_of hnw 5 rfl
        have a6 : W4.cell? ⟨w3.heap.size, 6, none⟩ = some ((.slice ga' T.gone.length gc')) := cell_of hnw 6 rfl
        have d0 : W4.cell? ⟨w.heap.size + 1, 0, none⟩ = some (.int .i64 S.next) := cell_of hrow4 0 rfl
        have d1 : W4.cell? ⟨w.heap.size + 1, 1, none⟩ = some (.int .i64 S.clock) := cell_of hrow4 1 rfl
        have d2 : W4.cell? ⟨w.heap.size + 1, 2, none⟩ = some ((.slice ba S.bus.length bc)) := cell_of hrow4 2 rfl
        have d3 : W4.cell? ⟨w.heap.size + 1, 3, none⟩ = some ((.slice va S.ves.length vc)) := cell_of hrow4 3 rfl
        have d4 : W4.cell? ⟨w.heap.size + 1, 4, none⟩ = some ((.slice ua S.ups.length uc)) := cell_of hrow4 4 rfl
        have d5 : W4.cell? ⟨w.heap.size + 1, 5, none⟩ = some ((.slice qa S.que.length qc)) := cell_of hrow4 5 rfl
        have d6 : W4.cell? ⟨w.heap.size + 1, 6, none⟩ = some ((.slice ga S.gone.length gc)) := cell_of hrow4 6 rfl
        have df := fun j => fz_of hrow4 j
        have HRW := hide hrow4
        have htp := row_typ hrow4
        clear hsta4 hnw hrow4
        go_upto_region 13 with fail
        clear a0 a1 a2 a3 a4 a5 a6 d0 d1 d2 d3 d4 d5 d6 df
        generalize hWW : World.setCell _ ⟨w.heap.size + 1, 6, none⟩ _ = W5
        have h5 : W5.heap[w.heap.size + 1]? = some (.cells #[.int .i64 T.next, .int .i64 T.clock, (.slice ba' T.bus.length bc'), (.slice va' T.ves.length vc'), (.slice ua' T.ups.length uc'), (.slice qa' T.que.length qc'), (.slice ga' T.gone.length gc')] 29 (0, 0)) ∧ W4.grownBy W5 (some (w.heap.size + 1)) := by
          rw [← hWW]
          exact ⟨row7 (unhide HRW) _ _ _ _ _ _ _, gb7 _ _ _ _ _ _ _ _ _⟩
        clear hWW HRW
        obtain ⟨hw7, hg7⟩ := h5
        have hz6 := hg7.size
        have hO5 := hO4.box hg7 htp
        have hout5 := own_kept hout4 hg7 htp (by decide)
        have hres5 := (hg7.block _ (by omega) (fun e => by injection e with e; omega)).trans hres4
        have hbel5 : Below w.heap.size w W5 := bl_tr hbel4 (gb_lo hg7 (by omega) (fun j e => by injection e with e; omega))
        have hre5 := (hg7.block _ (by omega) (fun e => by injection e with e; omega)).trans hre4
        clear hO4 hout4 hres4 hbel4 hre4 hg7 htp
        refine wp_region_lit ?_
        refine wpList_plain rfl (fun K hK => ?_)
        go_simp
        refine hK _ _ ?_
        clear hK
        refine wpList_load_mid rfl 47 (.tmp 10) rfl w1.heap.size 0 rfl (rcA RX (.slice ra RX.ver.sec.length rc) (.slice pa RX.part.sec.length pc) (.slice sa RX.sec.length sc)).toList _ (fun j v hv => by rw [Nat.zero_add]; exact cell_of hre5 j (by simpa using hv)) Tryz.underlying47 rfl (by kernel_rfl) ?_
        refine wpList_plain rfl (fun K hK => ?_)
        go_simp
        refine hK _ _ ?_
        clear hK
        generalize hWW : W5.alloc _ = W6
        have h6 : W6.heap[W5.heap.size]? = some (.cells (rcA RX (.slice ra RX.ver.sec.length rc) (.slice pa RX.part.sec.length pc) (.slice sa RX.sec.length sc)) 47 (0, 0)) ∧ Below W5.heap.size W5 W6 := by
          rw [← hWW]
          exact ⟨heap_alloc_new _ _, bl1 _ _⟩
        clear hWW
        obtain ⟨hnw6, hb6⟩ := h6
        have hz7 : W5.heap.size < W6.heap.size := (Array.getElem?_eq_some_iff.1 hnw6).1
        obtain ⟨i0, hi, hz0', hz1', hz2'⟩ := info_parts infoRc
        refine wpList_append_own _ rfl (.tmp 46) (.tmp 48) 30 rfl w.heap.size 47 i0 (rcV (rcN 0) nl nl nl) 29 312 Tryz.underlying30 hi hz0' hz1' hz2' rfl (by decide) (.slice oa n oc) n xs rfl (own_up hb6 hout5) ⟨W5.heap.size, 0, none⟩ 1 1 (rcA RX (.slice ra RX.ver.sec.length rc) (.slice pa RX.part.sec.length pc) (.slice sa RX.sec.length sc)).toList rfl rfl (fun j u hj => by rw [sadd_none, Nat.zero_add]; exact cell_of hnw6 j (by simpa using hj)) (fun u hu => by have := rc_one RX ra pa sa RX.ver.sec.length RX.part.sec.length RX.sec.length rc pc sc; rw [Array.all_eq_true_iff_forall_mem] at this; exact this u (by simpa using hu)) (by unfold maxLen; omega) (by omega) (by omega) ?_
        intro v7 w7' hown7 hgr7 _
        have hty : Typ W6 (Value.slice oa n oc).ownBlock 47 := own_typ (own_up hb6 hout5)
        have hw8 := row_kept ((hb6.block _ (by omega)).trans hw7) hgr7 hty (by decide)
        have hr8 := row_kept ((hb6.block _ (by omega)).trans hres5) hgr7 hty (by decide)
        have hO8 := OSt.recK (hO5.up hb6) hgr7 hty
        have hbel8 : Below w.heap.size w w7' := bl_tr hbel5 (bl_tr (bl_lo hb6 (by omega)) (gb_lo hgr7 (by omega) (fun j hj => ((own_up hb6 hout5).lt j hj).1)))
        have hvf : ∃ a c, v7 = .slice a (n + 1) c := by
          rcases hown7.2 with ⟨_, h0⟩ | ⟨g, cap, cur, e, _⟩
          · omega
          · exact ⟨_, _, e⟩
        obtain ⟨a7, c7, rfl⟩ := hvf
        have HKS : Hid (KS w w7' l (k + 1) (.slice a7 (n + 1) c7) (.slice ba' T.bus.length bc') (.slice va' T.ves.length vc') (.slice ua' T.ups.length uc') (.slice qa' T.que.length qc') (.slice ga' T.gone.length gc') (xs ++ (rcA RX (.slice ra RX.ver.sec.length rc) (.slice pa RX.part.sec.length pc) (.slice sa RX.sec.length sc)).toList)) := by
          show KS _ _ _ _ _ _ _ _ _ _ _
          refine ⟨?_, ?_, ?_, ?_, hr8, hbel8⟩
          · rw [e1]; exact hw8
          · rw [e1]; exact hO8
          · rw [e1]; exact hWT
          · rw [e2]; exact hown7
        have HE2 := hide e2
        clear hown7 hgr7 hw8 hr8 hO8 hbel8 hty hi hz0' hz1' hz2' hnw6 hb6 hre5 hO5 hout5 hres5 hbel5 hw7 e1 e2
        go_wp2
        go_roundw
        case rel =>
          have hI2 := unhide hI
          exact ⟨k + 1, a7, c7, _, _, _, _, _, _, by omega, by go_num, by rw [unhide HE2], by rw [unhide HE2]; exact unhide HKS⟩
        case measure =>
          have hI2 := unhide hI
          (simp [intOf] <;> omega)
      · have te : (E == 0) = false := by simpa using hE0
        obtain ⟨e1, e2⟩ := unhide HAN hE0
        have HKS : Hid (KS w W4 l (k + 1) (.slice oa n oc) (.slice ba S.bus.length bc) (.slice va S.ves.length vc) (.slice ua S.ups.length uc) (.slice qa S.que.length qc) (.slice ga S.gone.length gc) xs) := by
          show KS _ _ _ _ _ _ _ _ _ _ _
          refine ⟨?_, ?_, ?_, ?_, hres4, hbel4⟩
          · rw [e1]; exact hrow4
          · rw [e1]; exact hsta4
          · rw [e1]; exact hwf
          · rw [e2]; exact hout4
        have HE2 := hide e2
        clear HAS HAN hE0 e1 e2 hres4 hbel4 hrow4 hsta4 hout4 hre4 hnw hO4
        go_wp2
        go_roundw
        case rel =>
          have hI2 := unhide hI
          exact ⟨k + 1, oa, oc, _, _, _, _, _, _, by omega, by go_num, by rw [unhide HE2], by rw [unhide HE2]; exact unhide HKS⟩
        case measure =>
          have hI2 := unhide hI
          (simp [intOf] <;> omega)
end Go.Proofs.YtdgmdapijhbocaaGreat
