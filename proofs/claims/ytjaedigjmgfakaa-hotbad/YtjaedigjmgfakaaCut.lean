/- dev.cut, of the two ways in which it is called. -/
import Derived.Test.YtjaedigjmgfakaaMkO
namespace Go.Proofs.Ytjaedigjmgfakaa
open Go.RowKit
set_option maxRecDepth 100000
set_option linter.unusedVariables false
set_option linter.unusedSimpArgs false
attribute [local go_sem ↓] Go.wp_at_zero Go.wp_at_succ

theorem gb_fresh {a w : World} {r : Option Nat} (h : a.grownBy w r) {p : Addr} (hp : a.heap.size ≤ p.block) (u : Value) : a.grownBy (w.setCell p u) r :=
  ⟨h.os, h.tape, h.output, by simpa [World.setCell] using h.size, fun k hk hne => (Below.heap_setCell _ _ _ _ (fun e => by omega)).trans (h.block k hk hne)⟩
def cutV (n : Vo → Nat) (y : Vo) : Vo := ⟨pad (n y) y.data, n y, y.gone⟩
/-- A volume's bytes and what is synced of them are written anew. -/
theorem ODev.cutAt {w : World} {B : Nat} {s c : Value} {g nv cv : Nat} {D : Dv} (h : ODev w B s c (.slice (some ⟨g, 0, none⟩) nv cv) D) {x : Nat} (hx : x < D.vols.length) (u : Value) (ys : List Int) (n : Int) (hu : Own w B u ys) :
    ODev ((w.setCell ⟨g, x * 3, none⟩ u).setCell ⟨g, x * 3 + 1, none⟩ (.int .i64 n)) B s c (.slice (some ⟨g, 0, none⟩) nv cv) ⟨D.safe, D.cache, D.vols.set x ⟨ys, n, (D.vols.getD x vo0).gone⟩, D.fuel⟩ := by
  obtain ⟨g1, _, e1, _, _, _, _, _, h1, _⟩ := h.volD hx
  simp at e1
  subst e1
  have h2 := h1 u ys hu
  obtain ⟨g2, _, e2, _, _, _, _, _, _, h3⟩ := h2.volD (x := x) (by simpa using hx)
  simp at e2
  subst e2
  have h4 := h3 n
  have e : (D.vols.set x ⟨ys, (D.vols.getD x vo0).synced, (D.vols.getD x vo0).gone⟩).getD x vo0 = ⟨ys, (D.vols.getD x vo0).synced, (D.vols.getD x vo0).gone⟩ := by
    simp [List.getD, List.getElem?_set_self hx]
  simp only [e, List.set_set] at h4
  exact h4

theorem crash2_any (x : Option Addr) (L cap T : Nat) (sy tail : Int) (go : Bool) (w : World) (hL : L ≤ 9223372036854775807) (h0 : 0 ≤ sy) (h1 : sy ≤ (L : Int)) (ht : 0 ≤ tail) (hT : w.cell? ⟨T, 0, none⟩ = some (.int .i64 tail)) :
    Calls Try.prog 36 #[.agg #[.slice x L cap, .int .i64 sy, .bool go], .pointer (some ⟨T, 0, none⟩)] w fun e w' => e = .returned (.int .i64 (sy + min tail ((L : Int) - sy))) ∧ Below w.heap.size w w' := by
  have hTl := World.block_lt_of_cell? w _ hT
  by_cases hm : tail ≤ (L : Int) - sy
  · rw [Int.min_eq_left hm]
    go_enter Try.func36, Try.ntmps36
    go_wp2
    go_ret
    exact ⟨ret_int (by simp [*] <;> omega), bl_alloc (Below.refl _ _) _⟩
  · rw [Int.min_eq_right (by omega)]
    go_enter Try.func36, Try.ntmps36
    go_wp2
    go_ret
    exact ⟨ret_int (by simp [*] <;> omega), bl_alloc (Below.refl _ _) _⟩

set_option maxHeartbeats 2000000 in
theorem cutC_any (T : Nat) (s c v : Value) (D : Dv) (F : Int) (B : Nat) (n : Vo → Nat) (w : World) (hO : ODev w B s c v D) (hB : B ≤ w.heap.size) (hn : ∀ i, i < D.vols.length → n (D.vols.getD i vo0) ≤ 140737488355328)
    (hp : ∀ k, k < D.vols.length → ∀ x cap wr, w.grownBy wr v.ownBlock → Calls Try.prog 36 #[.agg #[.slice x (D.vols.getD k vo0).data.length cap, .int .i64 (D.vols.getD k vo0).synced, .bool (D.vols.getD k vo0).gone], .pointer (some ⟨T, 0, none⟩)] wr fun e w' => e = .returned (.int .i64 (n (D.vols.getD k vo0) : Int)) ∧ Below wr.heap.size wr w') :
    Calls Try.prog 35 #[.agg #[s, c, v, .int .i64 F], .func (.func 36) #[] #[.pointer (some ⟨T, 0, none⟩)]] w fun e w' =>
      e = .returned (.agg #[s, c, v, .int .i64 F]) ∧ ODev w' B s c v ⟨D.safe, D.cache, D.vols.map (cutV n), D.fuel⟩ ∧ w.grownBy w' v.ownBlock := by
  have HP := hide hp
  have HNN := hide hn
  clear hp hn
  obtain ⟨b1, dap1, b2, dap2, b3, dap3, rfl, rfl, rfl, _, _, _, _, hcap, hcm⟩ := hO.form
  unfold maxLen at hcm
  obtain ⟨N, hN⟩ : ∃ N, D.vols.length = N := ⟨_, rfl⟩
  rw [hN] at hcap hO HP HNN ⊢
  have HN := hide hN
  have HO := hide hO
  clear hN hO
  go_enter Try.func35, Try.ntmps35
  go_wp2
  obtain ⟨W1, hW1⟩ : ∃ W1, W1 = (w.alloc (.cells #[.slice b1 D.safe.length dap1, .slice b2 D.cache.length dap2, .slice b3 N dap3, .int .i64 F] 34)).alloc (.cells #[.slice none 0 0, .slice none 0 0, .slice none 0 0, .int .i64 0] 34) := ⟨_, rfl⟩
  have h01 : Below w.heap.size w W1 := by rw [hW1]; exact bl2 _ _ _
  have hbox : Row W1 w.heap.size 34 [.slice b1 D.safe.length dap1, .slice b2 D.cache.length dap2, .slice b3 N dap3, .int .i64 F] := by rw [hW1]; exact (Row.new _ _ _).up (bl1 _ _)
  have hres : Row W1 (w.heap.size + 1) 34 [.slice none 0 0, .slice none 0 0, .slice none 0 0, .int .i64 0] := by
    rw [hW1]
    have := Row.new (w.alloc (.cells #[.slice b1 D.safe.length dap1, .slice b2 D.cache.length dap2, .slice b3 N dap3, .int .i64 F] 34)) 34 [.slice none 0 0, .slice none 0 0, .slice none 0 0, .int .i64 0]
    simpa using this
  rw [← hW1]
  clear hW1
  have HBOX := hide hbox
  have HRES := hide hres
  clear hbox hres
  go_loopw [5, 6, 7, 11] (fun _ _ _ i wr => ∃ k : Nat, k ≤ N ∧ i = .int .i64 k ∧ Row wr w.heap.size 34 [.slice b1 D.safe.length dap1, .slice b2 D.cache.length dap2, .slice b3 N dap3, .int .i64 F] ∧ Row wr (w.heap.size + 1) 34 [.slice none 0 0, .slice none 0 0, .slice none 0 0, .int .i64 0] ∧ ODev wr B (.slice b1 D.safe.length dap1) (.slice b2 D.cache.length dap2) (.slice b3 N dap3) ⟨D.safe, D.cache, firstK (cutV n) k D.vols, D.fuel⟩ ∧ w.grownBy wr (Value.slice b3 N dap3).ownBlock) (fun _ _ _ i _ => N - (intOf i).toNat)
  case atStart => exact ⟨0, Nat.zero_le _, rfl, unhide HBOX, unhide HRES, by rw [firstK_zero]; exact (unhide HO).up h01, gb_below h01⟩
  case round =>
    obtain ⟨k, hk, rfl, hbox, hres, hO, hgb⟩ := hrel
    have o2 := hbox.cell 2 _ rfl
    have hol := hbox.lt
    have hsr := hgb.size
    by_cases hlt : k < N
    · have hx : k < D.vols.length := by rw [unhide HN]; exact hlt
      obtain ⟨g, cur, rfl, hgB, hrow, ⟨u, hu, hou⟩, hsy, hgo, _, _⟩ := hO.volD (x := k) (by rw [firstK_length]; exact hx)
      rw [firstK_at _ _ _ hx] at hou hsy hgo
      have hgl := hrow.lt
      obtain ⟨L, hL⟩ : ∃ L, (D.vols.getD k vo0).data.length = L := ⟨_, rfl⟩
      obtain ⟨SY, hSY⟩ : ∃ SY, (D.vols.getD k vo0).synced = SY := ⟨_, rfl⟩
      obtain ⟨GO, hGO⟩ : ∃ GO, (D.vols.getD k vo0).gone = GO := ⟨_, rfl⟩
      obtain ⟨M, hM⟩ : ∃ M, n (D.vols.getD k vo0) = M := ⟨_, rfl⟩
      obtain ⟨au, cu, rfl, lu, mu⟩ := own_form hou
      have hM47 : M ≤ 140737488355328 := by rw [← hM]; exact unhide HNN k hlt
      have HPK : Hid (∀ x cap wr, w.grownBy wr (Value.slice (some ⟨g, 0, none⟩) N dap3).ownBlock → Calls Try.prog 36 #[.agg #[.slice x L cap, .int .i64 SY, .bool GO], .pointer (some ⟨T, 0, none⟩)] wr fun e w' => e = .returned (.int .i64 (M : Int)) ∧ Below wr.heap.size wr w') := by
        have := unhide HP k hlt
        rw [hL, hSY, hGO, hM] at this
        exact this
      have HOU := hide hou
      have HO1 := hide hO
      have HROW := hide hrow
      have HBX := hide hbox
      have HRS := hide hres
      have HL := hide hL
      have HM := hide hM
      have HGO := hide hGO
      have HSY := hide hSY
      rw [hL] at hu lu
      rw [hSY] at hsy
      rw [hGO] at hgo
      unfold maxLen at mu
      have hne1 : w.heap.size ≠ g := (hrow.apart hbox (by decide)).symm
      have hne2 : w.heap.size + 1 ≠ g := (hrow.apart hres (by decide)).symm
      have hk0 : (0 : Int) ≤ (k : Int) := Int.natCast_nonneg _
      have hk1 : (k : Int) < (N : Int) := by omega
      have HGB := hide hgb
      clear hL hM hGO hSY hou hO hrow hbox hres hgb
      go_wp2_with fail
      refine (unhide HPK _ _ _ (gb_alloc (unhide HGB) _)).mono ?_
      rintro e w3 ⟨rfl, hb3⟩
      have hbv := box1 hb3 0 rfl
      have hb13 : Below wr.heap.size wr w3 := bl_trans (bl1 _ _) hb3
      replace o2 := cell_up hb13 o2
      replace hsy := cell_up hb13 hsy
      have hck := cell_up hb13 hu
      have hs3 := hb13.size
      have hwl : wr.heap.size < w3.heap.size := World.block_lt_of_cell? w3 _ hbv
      have hfz := ((unhide HROW).up hb13).unfrozen
      have hgl3 := ((unhide HROW).up hb13).lt
      have HB := hide ((unhide HOU).bts.up hb13)
      rw [unhide HL] at HB
      clear hb3 hu hgo
      go_wp2
      go_region_held3 (fun w' => w'.cell? ⟨w.heap.size, 2, none⟩ = some (.slice (some ⟨g, 0, none⟩) N dap3) ∧ w'.cell? ⟨wr.heap.size, 0, none⟩ = some (.slice au L cu))
        (first | exact ⟨o2, hbv⟩ | exact ⟨cell_up hb' o2, cell_up hb' hbv⟩ | exact ⟨(World.cell?_setCell_other _ _ _ _ (by simp <;> omega)).trans (cell_up hb' o2), (World.cell?_setCell_other _ _ _ _ (by simp <;> omega)).trans (cell_up hb' hbv)⟩)
        ((go_at_call 51; refine (copyBytes_any _ (D.vols.getD k vo0).data M _ (by exact unhide HB) (by omega)).mono ?_; rintro e w' ⟨rfl, hblk, hb'⟩; have hck' := cell_up hb' hck; have hsy' := cell_up hb' hsy; have o2' := cell_up hb' o2; have hfk' := (hb'.frozen (p := ⟨g, k * 3, none⟩) hgl3).trans (hfz _); have hfs' := (hb'.frozen (p := ⟨g, k * 3 + 1, none⟩) hgl3).trans (hfz _)))
      have hlp := hblk.lt
      have HBL := hide hblk
      clear hblk
      go_wp2
      go_roundw
      case rel =>
        have hbb : Below wr.heap.size wr w' := bl_trans hb13 (un_drew hb')
        have hown : Own w' B (.slice (some ⟨w3.heap.size, 0, none⟩) M M) (pad M (D.vols.getD k vo0).data) := by
          have := Blk.own (unhide HBL) (by rw [pad_length]; unfold maxLen; omega) (B := B) (by simp; omega)
          rw [pad_length] at this
          exact this
        have hcut := ((unhide HO1).up hbb).cutAt (x := k) (by rw [firstK_length]; exact hx) _ _ (M : Int) hown
        simp only at hcut
        rw [firstK_at _ _ _ hx, show (⟨pad M (D.vols.getD k vo0).data, (M : Int), (D.vols.getD k vo0).gone⟩ : Vo) = cutV n (D.vols.getD k vo0) by unfold cutV; rw [unhide HM], firstK_set _ _ _ hx] at hcut
        have hgg : ∀ u v, w'.grownBy ((w'.setCell ⟨g, k * 3, none⟩ u).setCell ⟨g, k * 3 + 1, none⟩ v) (some g) := fun u v => gb_set (gb_set (gb_refl _ _) _ _) _ _
        have hgb' : w.grownBy wr (some g) := by simpa [Value.ownBlock] using unhide HGB
        exact ⟨k + 1, by omega, by go_num, ((unhide HBX).up hbb).kept (hgg _ _) (by simpa using hne1), ((unhide HRS).up hbb).kept (hgg _ _) (by simpa using hne2), hcut, by simp only [Value.ownBlock]; exact gb_trans (gb_trans hgb' (gb_below hbb)) (hgg _ _)⟩
      case measure => simp [intOf]; omega
    · obtain rfl : k = N := by omega
      have e0 := hbox.cell 0 _ rfl
      have e1 := hbox.cell 1 _ rfl
      have e3 := hbox.cell 3 _ rfl
      have d0 := hres.cell 0 _ rfl
      have d1 := hres.cell 1 _ rfl
      have d2 := hres.cell 2 _ rfl
      have d3 := hres.cell 3 _ rfl
      have df := hres.unfrozen
      have hrl := hres.lt
      have hO' : ODev wr B (.slice b1 D.safe.length dap1) (.slice b2 D.cache.length dap2) (.slice b3 k dap3) ⟨D.safe, D.cache, D.vols.map (cutV n), D.fuel⟩ := by
        rw [← firstK_all, unhide HN]; exact hO
      have HO' := hide hO'
      have HRES' := hide hres
      have HGB := hide hgb
      clear hO hO' hres hbox hgb
      go_wp2
      refine bodyPost_ret (v := .agg #[.slice b1 D.safe.length dap1, .slice b2 D.cache.length dap2, .slice b3 k dap3, .int .i64 F]) (by simp [results, Try.results35, go_sem, *]) rfl ⟨rfl, ?_, ?_⟩
      · exact (unhide HO').kept (unhide HRES') (by decide) (by decide) (by decide) (by decide) (gb_set (gb_set (gb_set (gb_set (gb_refl _ _) _ _) _ _) _ _) _ _)
      · exact gb_fresh (gb_fresh (gb_fresh (gb_fresh (unhide HGB) (by simp) _) (by simp) _) (by simp) _) (by simp) _
end Go.Proofs.Ytjaedigjmgfakaa
