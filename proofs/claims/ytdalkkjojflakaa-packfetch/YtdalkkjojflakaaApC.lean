/- dev.Append. -/
import Derived.Test.YtdalkkjojflakaaApD
namespace Go.Proofs.Ytdalkkjojflakaa
open Go.RowKit
set_option maxRecDepth 100000
set_option linter.unusedVariables false
set_option linter.unusedSimpArgs false
attribute [local go_sem ↓] Go.wp_at_zero Go.wp_at_succ
set_option maxHeartbeats 1000000 in
theorem append_any (r a h vm nv : Int) (s c v : Value) (D : Dv) (x : Int) (bv : Value) (xs : List Int) (w : World) (hD : Dev w s c v D) (hB : Bts w bv xs) :
    Calls Try.prog 17 #[.agg #[.int .i64 r, .int .i64 a, .int .i64 h, .int .i64 vm, .int .i64 nv], .agg #[s, c, v, .int .i64 D.fuel], .int .i64 x, bv] w fun e w' =>
      ∃ s' c' v', e = .returned (.tuple #[.agg #[s', c', v', .int .i64 (appD nv D x xs (appE vm nv D x xs.length (chkE r a h vm nv D))).fuel], .int .i64 (appE vm nv D x xs.length (chkE r a h vm nv D))]) ∧ ODev w' w.heap.size s' c' v' (appD nv D x xs (appE vm nv D x xs.length (chkE r a h vm nv D))) ∧ Below w.heap.size w w' := by
  have HD := hide hD
  have HBT := hide hB
  obtain ⟨ab, capb, rfl, lb, mb, _⟩ := hB
  obtain ⟨L, hL⟩ : ∃ L, xs.length = L := ⟨_, rfl⟩
  have HL := hide hL
  rw [hL] at lb HBT ⊢
  clear hL
  unfold maxLen at mb
  obtain ⟨⟨a1, cap1, rfl, l1, m1, hs⟩, ⟨a2, cap2, rfl, l2, m2, hc⟩, ⟨a3, cap3, rfl, l3, m3, hv⟩⟩ := hD
  clear hs hc hv
  unfold maxLen at m1 m2 m3
  go_enter Try.func17, Try.ntmps17
  go_wp2_with fail
  refine (check_any r a h vm nv _ _ _ D _ ((unhide HD).up (bl3 _ _ _ _))).mono ?_
  rintro e w1 ⟨rfl, hb1⟩
  have hb0 : Below w.heap.size w w1 := bl_trans (bl3 _ _ _ _) hb1
  have g3 := box3a hb1 3 rfl
  have g4 := box3a hb1 4 rfl
  have f0 := box3b hb1 0 rfl
  have f1 := box3b hb1 1 rfl
  have f2 := box3b hb1 2 rfl
  have f3 := box3b hb1 3 rfl
  have hR := box3r (cs := [.slice none 0 0, .slice none 0 0, .slice none 0 0, .int .i64 0]) hb1
  have d0 := hR.cell 0 _ rfl
  have d1 := hR.cell 1 _ rfl
  have d2 := hR.cell 2 _ rfl
  have d3 := hR.cell 3 _ rfl
  have df := hR.unfrozen
  have HR := hide hR
  clear hb1 hR
  obtain ⟨E, hE⟩ : ∃ E, chkE r a h vm nv D = E := ⟨_, rfl⟩
  rw [hE]
  by_cases hE0 : E = 0
  case neg =>
    have t1 : (E != 0) = true := by simpa using hE0
    have t2 : (E == 0) = false := by simpa using hE0
    have HE : Hid (E = appE vm nv D x L (chkE r a h vm nv D)) := by rw [hE]; exact (appE_bad hE0).symm
    have HE0 := hide hE0
    clear hE hE0
    go_wp2
    refine bodyPost_ret (v := .tuple #[.agg #[.slice none 0 0, .slice none 0 0, .slice none 0 0, .int .i64 0], .int .i64 E]) (by simp [results, Try.results17, go_sem, *]) rfl ⟨_, _, _, ret_dev (by rw [← unhide HE, appD_bad (unhide HE0)]; rfl) (unhide HE), ?_, ?_⟩
    · rw [← unhide HE, appD_bad (unhide HE0)]; exact ODev.empty _ _ _
    · repeat (first | exact hb0 | refine bl_set ?_ (by simp <;> omega) _)
  subst hE0
  obtain ⟨hg, hd⟩ := chk_of hE
  have HFIT := hide (fits_of hg hd)
  have HFU := hide (fuel_of hd)
  have HCH := hide hE
  obtain ⟨_, _, _, _, _, _, b5, b6, b7, b8⟩ := geoB_u hg
  clear hE hd hg
  obtain ⟨N, hN⟩ : ∃ N, D.vols.length = N := ⟨_, rfl⟩
  have HN := hide hN
  rw [hN] at f2 l3 ⊢
  cases hA : appB nv D x
  case true =>
    obtain ⟨hx1, hx2⟩ := appB_t hA
    rw [hN] at hx1
    subst hx1
    have HA := hide hA
    have hN8 : N ≤ 8 := by omega
    clear hA hN
    by_cases hl : vm < (L : Int)
    · have HE : Hid (8 = appE vm nv D N L (chkE r a h vm nv D)) := by rw [unhide HCH]; exact (appE_fullN (unhide HA) hl).symm
      go_wp2
      refine bodyPost_ret (v := .tuple #[.agg #[.slice none 0 0, .slice none 0 0, .slice none 0 0, .int .i64 0], .int .i64 8]) (by simp [results, Try.results17, go_sem, *]) rfl ⟨_, _, _, ret_dev (by rw [← unhide HE, appD_bad (by decide)]; rfl) (unhide HE), ?_, ?_⟩
      · rw [← unhide HE, appD_bad (by decide)]; exact ODev.empty _ _ _
      · repeat (first | refine bl_set ?_ (by simp <;> omega) _ | refine bl_alloc ?_ _ | exact hb0)
    by_cases hF0 : D.fuel = 0
    · have HE : Hid (10 = appE vm nv D N L (chkE r a h vm nv D)) := by rw [unhide HCH]; exact (appE_downN (unhide HA) hl hF0).symm
      have HF0 := hide hF0
      clear hF0
      go_wp2_with fail
      refine (oneThing_zero _ _ _ D _ (unhide HF0)).mono ?_
      rintro e w3 ⟨rfl, hb3⟩
      replace hb0 := bl_trans hb0 hb3
      have hR := (unhide HR).up hb3
      clear d0 d1 d2 d3 df
      have d0 := hR.cell 0 _ rfl
      have d1 := hR.cell 1 _ rfl
      have d2 := hR.cell 2 _ rfl
      have d3 := hR.cell 3 _ rfl
      have df := hR.unfrozen
      have hrl := hR.lt
      clear hR hb3 f0 f1 f2 f3
      go_wp2
      refine bodyPost_ret (v := .tuple #[.agg #[.slice none 0 0, .slice none 0 0, .slice none 0 0, .int .i64 0], .int .i64 10]) (by simp [results, Try.results17, go_sem, *]) rfl ⟨_, _, _, ret_dev (by rw [← unhide HE, appD_bad (by decide)]; rfl) (unhide HE), ?_, ?_⟩
      · rw [← unhide HE, appD_bad (by decide)]; exact ODev.empty _ _ _
      · repeat (first | refine bl_set ?_ (by simp <;> omega) _ | refine bl_alloc ?_ _ | exact hb0)
    have HE : Hid (0 = appE vm nv D N L (chkE r a h vm nv D)) := by rw [unhide HCH]; exact (appE_okN (unhide HA) hl hF0).symm
    have HF0 := hide hF0
    clear hF0
    go_wp2_with fail
    rw [← unhide HN]
    refine (oneThing_x _ _ _ D _ ((unhide HD).up hb0) (unhide HFIT) (unhide HF0) (unhide HFU).1 (unhide HFU).2).mono ?_
    rintro e w3 ⟨s', c', v', rfl, hO, hEX, hb3⟩
    rw [unhide HN]
    have hsz2 := hb0.size
    have hsz3 := hb3.size
    replace hb0 := bl_trans hb0 hb3
    obtain ⟨us, hoc, hoi⟩ := hO.vols
    obtain ⟨b1, dap1, b2, dap2, b3, dap3, rfl, rfl, rfl, _, _, _, _, hcap, hcm⟩ := hO.form
    rw [unhide HN] at hO hoc hcap hEX ⊢
    obtain ⟨W1, hW1⟩ : ∃ W1, W1 = w3.alloc (.cells #[.slice b1 D.safe.length dap1, .slice b2 D.cache.length dap2, .slice b3 N dap3, .int .i64 (lessF D.fuel)] 37) := ⟨_, rfl⟩
    have h31 : Below w3.heap.size w3 W1 := by rw [hW1]; exact bl1 _ _
    have hout : Row W1 w3.heap.size 37 [.slice b1 D.safe.length dap1, .slice b2 D.cache.length dap2, .slice b3 N dap3, .int .i64 (lessF D.fuel)] := by rw [hW1]; exact Row.new _ _ _
    have HR1 := hide ((((unhide HR).up hb3)).up h31)
    have HW1 := hide hW1
    have HOUT := hide hout
    have HO1 := hide (hO.up h31)
    have HOC := hide (own_up hoc h31)
    have HOI := hide (hoi.imp fun _ _ q => q.up h31)
    have HB01 := hide (bl_trans hb0 h31)
    have HBQ := hide ((unhide HBT).up (bl_trans hb0 h31))
    have o2 := hout.cell 2 _ rfl
    have z2 := hout.unfrozen 2
    have hol := hout.lt
    have hs31 := h31.size
    have hne : (Value.slice b3 N dap3).ownBlock ≠ some w3.heap.size := own_apart (own_up hoc h31) hout (by decide)
    have HNE := hide hne
    obtain ⟨i2, hi2, hx0, hx1, hx2'⟩ := info_parts infoVo
    clear d0 d1 d2 d3 df f0 f1 f2 f3 hO hoc hoi hout hne hW1
    go_wp2_with (at_builtin; refine wpList_append_lies _ rfl (.tmp 71) (.tmp 73) 35 rfl w1.heap.size 79 i2 _ 3 40 Try.underlying35 hi2 hx0 hx1 hx2' rfl (by omega) (.slice b3 N dap3) N us rfl ((by rw [← unhide HW1]; exact unhide HOC : World.ownsRow _ _ _ _ _ _ _).alloc _) ⟨w3.heap.size + 1, 0, none⟩ 1 1 [.slice none 0 0, .int .i64 0, .bool false] rfl rfl ?c1 ?c2 (by omega) ?c3 ?c4 ?c5 (w3.heap.size + 1 + 1) (by simp) ?_)
    --NEW--
    case c1 => exact World.news_of_block (cs := #[.slice none 0 0, .int .i64 0, .bool false]) (t := 79) (fr := (0, 0)) (by have := heap_alloc_new (w3.alloc (.cells #[.slice b1 D.safe.length dap1, .slice b2 D.cache.length dap2, .slice b3 N dap3, .int .i64 (lessF D.fuel)] 37)) (.cells #[.slice none 0 0, .int .i64 0, .bool false] 79); simpa using this)
    case c2 => simp [Value.oneCell']
    case c3 => unfold maxLen; omega
    case c4 => omega
    case c5 => simp; omega
    intro g cap w5 hown5 hgrow hat hlt5
    rw [← unhide HW1] at hgrow
    have hout5 := ((unhide HOUT).up (bl1 _ _)).kept hgrow (Ne.symm (unhide HNE))
    have hres5 := ((unhide HR1).up (bl1 _ _)).kept hgrow (own_far (unhide HO1) (unhide HR1) (by decide))
    have hO5 := ODev.begun (D := D) ((unhide HO1).up (bl1 _ _)) (by rw [unhide HN]; exact own_up (unhide HOC) (bl1 _ _)) ((unhide HOI).imp fun _ _ q => q.up (bl1 _ _)) hgrow (by rw [unhide HN]; exact hown5)
    have hB5 : Below w.heap.size w w5 := bl_own (bl_trans (unhide HB01) (bl1 _ _)) hgrow fun j hj => Nat.le_trans hsz2 (own_from (unhide HO1) j hj)
    have hc5 : w5.cell? ⟨g, N * 3, none⟩ = some (.slice none 0 0) := by
      obtain ⟨g', cap', e, hh⟩ := own_cell hown5 (j := N * 3) (u := .slice none 0 0) (by rw [List.getElem?_append_right (by rw [(unhide HOC).1]; exact Nat.le_refl _), (unhide HOC).1]; simp)
      simp at e
      rw [e.1]; exact hh
    have c2' := hout5.cell 2 _ rfl
    have z2' := hout5.unfrozen 2
    have hgo : w3.heap.size ≠ g := by
      intro e
      obtain ⟨cur, hcur⟩ := own_tag hown5 (g := g) (by simp [Value.ownBlock])
      have := hout5
      unfold Row at this
      rw [e, hcur] at this
      simp at this
    have hsz5 := hB5.size
    have hrne : w.heap.size + 1 + 1 ≠ w3.heap.size := by have := (unhide HR).lt; omega
    have HO5 := hide hO5
    have HOUT5 := hide hout5
    have HRES5 := hide hres5
    have HB5 := hide hB5
    have hsw : w3.heap.size < w5.heap.size := hout5.lt
    clear hO5 hout5 hres5 hB5 hgrow hown5 hat o2 z2
    go_wp2
    obtain ⟨wq, hwq⟩ : ∃ wq, wq = w5.setCell ⟨w3.heap.size, 2, none⟩ (.slice (some ⟨g, 0, none⟩) (N + 1) cap) := ⟨_, rfl⟩
    rw [← hwq]
    have hgq := gb_set (gb_refl w5 (some w3.heap.size)) 2 (.slice (some ⟨g, 0, none⟩) (N + 1) cap)
    have houtq := (unhide HOUT5).set 2 (.slice (some ⟨g, 0, none⟩) (N + 1) cap)
    have hOq := (unhide HO5).kept (unhide HOUT5) (by decide) (by decide) (by decide) (by decide) hgq
    have hresq := (unhide HRES5).kept hgq (by simpa using hrne)
    have hcq : (w5.setCell ⟨w3.heap.size, 2, none⟩ (.slice (some ⟨g, 0, none⟩) (N + 1) cap)).cell? ⟨g, N * 3, none⟩ = some (.slice none 0 0) := (World.cell?_setCell_other _ _ _ _ (by simp <;> omega)).trans hc5
    have hbq := bl_set (unhide HB5) (p := ⟨w3.heap.size, 2, none⟩) (by simp; omega) (.slice (some ⟨g, 0, none⟩) (N + 1) cap)
    rw [← hwq] at hgq houtq hOq hresq hcq hbq
    clear hwq
    obtain ⟨LD, hLD⟩ : ∃ LD, ((D.vols ++ [vo0]).getD N vo0).data.length = LD := ⟨_, rfl⟩
    obtain rfl : LD = 0 := by rw [← hLD]; have := unhide HN; subst this; simp [List.getD]
    obtain ⟨au, hau⟩ : ∃ au : Option Addr, au = none := ⟨_, rfl⟩
    rw [← hau] at hcq
    obtain ⟨LD, hld⟩ : ∃ LD, LD = 0 := ⟨_, rfl⟩
    rw [← hld] at hcq hLD
    have hkv : N < (D.vols ++ [vo0]).length := by rw [List.length_append, unhide HN]; simp
    obtain ⟨g', curq, e', _, hrowq, ⟨uq, huq, hownq⟩, _, _, hput, _⟩ := hOq.volD (x := N) hkv
    simp only [Option.some.injEq, Addr.mk.injEq, and_true] at e'
    subst e'
    rw [huq] at hcq
    simp only [Option.some.injEq] at hcq
    subst hcq
    have hcq := huq
    clear huq
    have HBTQ := hide ((unhide HBT).up hbq)
    have hsq : w1.heap.size ≤ wq.heap.size := by have := hgq.size; omega
    have hLDs : LD + L ≤ 140737488355328 := by omega
    clear hau hld
    have hnv : (D.vols ++ [vo0]).length = N + 1 := by rw [List.length_append, unhide HN]; simp
    obtain ⟨n2, hn2⟩ : ∃ n2, N + 1 = n2 := ⟨_, rfl⟩
    rw [hn2] at houtq hOq hput hnv ⊢
    have hNn2 : N < n2 := by omega
    have HN2 := hide hn2
    clear hn2
    have o2 := houtq.cell 2 _ rfl
    have hgl := hrowq.lt
    have hfz := hrowq.unfrozen (N * 3)
    have hol := houtq.lt
    have hne1 : w3.heap.size ≠ g := (hrowq.apart houtq (by decide)).symm
    have hne2 : w.heap.size + 1 + 1 ≠ g := (hrowq.apart hresq (by decide)).symm
    have hBq := hsq
    have hk0 : (0 : Int) ≤ ((N : Nat) : Int) := Int.natCast_nonneg _
    have hk1 : ((N : Nat) : Int) < ((n2 : Nat) : Int) := by omega
    have HOUTQ := hide houtq
    have HRESQ := hide hresq
    have HPUT := hide hput
    have HOWNQ := hide hownq
    have HLD := hide hLD
    have HBQQ := hide hbq
    clear houtq hresq hput hownq hLD hrowq hbq
    go_region_law ((refine step_app_exact _ (by rfl) _ _ (by rfl) w1.heap.size au LD _ _ xs (by rfl) (by rfl) (unhide HLD) (by exact unhide HOWNQ) (by exact unhide HBTQ) (by exact hBq) (by rw [unhide HL]; omega) ?_; intro a' cap' w6 hown6 hb6; have o6 := cell_up hb6 o2; have c6 := cell_up hb6 hcq; have z6 := (hb6.frozen (p := ⟨g, N * 3, none⟩) hgl).trans hfz; have l6 : wq.heap.size ≤ w6.heap.size := hb6.size))
    all_goals
      have hb6' : Below wq.heap.size wq w6 := ⟨hb6.os, hb6.tape, hb6.output, hb6.size, hb6.block⟩
      have hout6 := (unhide HOUTQ).up hb6'
      have hres6 := (unhide HRESQ).up hb6'
      have hO6 := (hOq.up hb6')
      obtain ⟨g6, cur6, e6, _, hrow6, _, _, _, hput6, _⟩ := hO6.volD (x := N) (by first | omega | (simp only; omega))
      simp at e6
      subst e6
      have hpm := hput6 _ _ hown6
      have e0 := hout6.cell 0 _ rfl
      have e1 := hout6.cell 1 _ rfl
      have e3 := hout6.cell 3 _ rfl
      have d0 := hres6.cell 0 _ rfl
      have d1 := hres6.cell 1 _ rfl
      have d2 := hres6.cell 2 _ rfl
      have d3 := hres6.cell 3 _ rfl
      have df := hres6.unfrozen
      have hrl := hres6.lt
      have HPM := hide hpm
      have HRES6 := hide hres6
      have HB6 := hide (bl_trans (unhide HBQQ) hb6')
      have hgw : w.heap.size ≤ g := by have := (unhide HBQQ).size; omega
      clear hpm hout6 hres6 hO6 hput6 hrow6 hown6 hb6 hb6'
      go_wp2
      refine bodyPost_ret (v := .tuple #[.agg #[.slice b1 D.safe.length dap1, .slice b2 D.cache.length dap2, .slice (some ⟨g, 0, none⟩) n2 cap, .int .i64 (lessF D.fuel)], .int .i64 0]) (by simp [results, Try.results17, go_sem, *]) rfl ⟨_, _, _, ret_dev (by rw [← unhide HE, appD_ok]) (unhide HE), ?_, ?_⟩
      · rw [← unhide HE, appD_ok, appVs_t (unhide HA), Int.toNat_natCast]
        have H := unhide HPM
        have hgg := gb_set (gb_refl w6 (some g)) (N * 3) (.slice a' (LD + xs.length) cap')
        have hres7 := (unhide HRES6).kept hgg (by simpa using hne2)
        first
          | exact ((H.fuel (lessF D.fuel)).kept hres7 (by decide) (by decide) (by decide) (by decide) (gb_set (gb_set (gb_set (gb_set (gb_refl _ _) _ _) _ _) _ _) _ _)).base hsz2
          | exact (((H.fuel (lessF D.fuel)).up (Below.refl _ _).drew).kept hres7.dr (by decide) (by decide) (by decide) (by decide) (gb_set (gb_set (gb_set (gb_set (gb_refl _ _) _ _) _ _) _ _) _ _)).base hsz2
      · have hq := (unhide HB6).size
        first
          | (refine bl_set (bl_set (bl_set (bl_set (bl_set (unhide HB6) ?_ _) ?_ _) ?_ _) ?_ _) ?_ _ <;> simp <;> omega)
          | (refine bl_set (bl_set (bl_set (bl_set (bl_set (unhide HB6) ?_ _).drew ?_ _) ?_ _) ?_ _) ?_ _ <;> simp <;> omega)
  case false =>
    cases hV : isVol D x
    case false =>
      have HE : Hid (6 = appE vm nv D x L (chkE r a h vm nv D)) := by rw [unhide HCH]; exact (appE_no hA hV).symm
      by_cases hxN : x = (N : Int)
      · have hnn : ¬ x < nv := by
          intro hh
          have : appB nv D x = true := by unfold appB; rw [hN]; simp [hxN]; omega
          rw [this] at hA
          cases hA
        subst hxN
        have hnb : decide ((N : Int) < nv) = false := by simp; omega
        have HV := hide hV
        clear hV hA hN
        go_wp2_with fail
        rw [← unhide HN]
        refine (isVolume_any _ _ _ D _ _ ((unhide HD).up hb0)).mono ?_
        rintro e w2 ⟨rfl, hb2⟩
        rw [unhide HN, unhide HV]
        replace hb0 := bl_trans hb0 hb2
        replace g3 := cell_up hb2 g3
        replace f0 := cell_up hb2 f0
        replace f1 := cell_up hb2 f1
        replace f2 := cell_up hb2 f2
        replace f3 := cell_up hb2 f3
        have hR := (unhide HR).up hb2
        clear d0 d1 d2 d3 df
        have d0 := hR.cell 0 _ rfl
        have d1 := hR.cell 1 _ rfl
        have d2 := hR.cell 2 _ rfl
        have d3 := hR.cell 3 _ rfl
        have df := hR.unfrozen
        clear HR
        have HR := hide hR
        clear hR
        go_wp2
        refine bodyPost_ret (v := .tuple #[.agg #[.slice none 0 0, .slice none 0 0, .slice none 0 0, .int .i64 0], .int .i64 6]) (by simp [results, Try.results17, go_sem, *]) rfl ⟨_, _, _, ret_dev (by rw [← unhide HE, appD_bad (by decide)]; rfl) (unhide HE), ?_, ?_⟩
        · rw [← unhide HE, appD_bad (by decide)]; exact ODev.empty _ _ _
        · repeat (first | refine bl_set ?_ (by simp <;> omega) _ | refine bl_alloc ?_ _ | exact hb0)
      · have e1 : (x == (N : Int)) = false := by simpa using hxN
        have HV := hide hV
        clear hV hA hN hxN
        go_wp2_with fail
        rw [← unhide HN]
        refine (isVolume_any _ _ _ D _ _ ((unhide HD).up hb0)).mono ?_
        rintro e w2 ⟨rfl, hb2⟩
        rw [unhide HN, unhide HV]
        replace hb0 := bl_trans hb0 hb2
        replace g3 := cell_up hb2 g3
        replace f0 := cell_up hb2 f0
        replace f1 := cell_up hb2 f1
        replace f2 := cell_up hb2 f2
        replace f3 := cell_up hb2 f3
        have hR := (unhide HR).up hb2
        clear d0 d1 d2 d3 df
        have d0 := hR.cell 0 _ rfl
        have d1 := hR.cell 1 _ rfl
        have d2 := hR.cell 2 _ rfl
        have d3 := hR.cell 3 _ rfl
        have df := hR.unfrozen
        clear HR
        have HR := hide hR
        clear hR
        go_wp2
        refine bodyPost_ret (v := .tuple #[.agg #[.slice none 0 0, .slice none 0 0, .slice none 0 0, .int .i64 0], .int .i64 6]) (by simp [results, Try.results17, go_sem, *]) rfl ⟨_, _, _, ret_dev (by rw [← unhide HE, appD_bad (by decide)]; rfl) (unhide HE), ?_, ?_⟩
        · rw [← unhide HE, appD_bad (by decide)]; exact ODev.empty _ _ _
        · repeat (first | refine bl_set ?_ (by simp <;> omega) _ | refine bl_alloc ?_ _ | exact hb0)
    case true =>
      obtain ⟨k, rfl, hk⟩ := isVol_t hV
      have hkd := hk
      rw [hN] at hk
      have e1 : ((k : Int) == (N : Int)) = false := by rw [beq_eq_false_iff_ne]; omega
      have HA := hide hA
      have HV := hide hV
      clear hV hA hN
      obtain ⟨av, cv, e, _, _, hvv⟩ := (unhide HD).2.2
      injection e with ee1 ee2 ee3
      obtain ⟨b, o, hab, ⟨u, hu, hbu⟩, _, _⟩ := hvv k hkd
      rw [← ee1] at hab
      subst hab
      obtain ⟨au0, cu0, rfl, lu0, mu0, _⟩ := hbu
      obtain ⟨LD, hLD⟩ : ∃ LD, (D.vols.getD k vo0).data.length = LD := ⟨_, rfl⟩
      have hLD' : (D.vols.getD k ⟨[], 0, false⟩).data.length = LD := hLD
      rw [hLD'] at hu lu0
      unfold maxLen at mu0
      have HLD0 := hide hLD
      clear ee1 ee2 ee3 hvv hLD hLD'
      have hk0 : (0 : Int) ≤ (k : Int) := Int.natCast_nonneg _
      have hk1 : (k : Int) < (N : Int) := by omega
      go_wp2_with fail
      rw [← unhide HN]
      refine (isVolume_any _ _ _ D _ _ ((unhide HD).up hb0)).mono ?_
      rintro e w2 ⟨rfl, hb2⟩
      rw [unhide HN, unhide HV]
      replace hb0 := bl_trans hb0 hb2
      replace g3 := cell_up hb2 g3
      replace f0 := cell_up hb2 f0
      replace f1 := cell_up hb2 f1
      replace f2 := cell_up hb2 f2
      replace f3 := cell_up hb2 f3
      have hR := (unhide HR).up hb2
      clear d0 d1 d2 d3 df
      have d0 := hR.cell 0 _ rfl
      have d1 := hR.cell 1 _ rfl
      have d2 := hR.cell 2 _ rfl
      have d3 := hR.cell 3 _ rfl
      have df := hR.unfrozen
      clear HR
      have HR := hide hR
      clear hR
      replace hu := cell_up hb0 hu
      by_cases hl : vm < (L : Int) + (LD : Int)
      · have HE : Hid (8 = appE vm nv D k L (chkE r a h vm nv D)) := by rw [unhide HCH]; exact (appE_fullO (unhide HA) (unhide HV) (by rw [Int.toNat_natCast, unhide HLD0]; exact hl)).symm
        go_wp2
        refine bodyPost_ret (v := .tuple #[.agg #[.slice none 0 0, .slice none 0 0, .slice none 0 0, .int .i64 0], .int .i64 8]) (by simp [results, Try.results17, go_sem, *]) rfl ⟨_, _, _, ret_dev (by rw [← unhide HE, appD_bad (by decide)]; rfl) (unhide HE), ?_, ?_⟩
        · rw [← unhide HE, appD_bad (by decide)]; exact ODev.empty _ _ _
        · repeat (first | refine bl_set ?_ (by simp <;> omega) _ | refine bl_alloc ?_ _ | exact hb0)
      by_cases hF0 : D.fuel = 0
      · have HE : Hid (10 = appE vm nv D k L (chkE r a h vm nv D)) := by rw [unhide HCH]; exact (appE_downO (unhide HA) (unhide HV) (by rw [Int.toNat_natCast, unhide HLD0]; exact hl) hF0).symm
        have HF0 := hide hF0
        clear hF0
        go_wp2_with fail
        refine (oneThing_zero _ _ _ D _ (unhide HF0)).mono ?_
        rintro e w3 ⟨rfl, hb3⟩
        replace hb0 := bl_trans hb0 hb3
        have hR := (unhide HR).up hb3
        clear d0 d1 d2 d3 df
        have d0 := hR.cell 0 _ rfl
        have d1 := hR.cell 1 _ rfl
        have d2 := hR.cell 2 _ rfl
        have d3 := hR.cell 3 _ rfl
        have df := hR.unfrozen
        have hrl := hR.lt
        clear hR hb3 f0 f1 f2 f3 hu
        go_wp2
        refine bodyPost_ret (v := .tuple #[.agg #[.slice none 0 0, .slice none 0 0, .slice none 0 0, .int .i64 0], .int .i64 10]) (by simp [results, Try.results17, go_sem, *]) rfl ⟨_, _, _, ret_dev (by rw [← unhide HE, appD_bad (by decide)]; rfl) (unhide HE), ?_, ?_⟩
        · rw [← unhide HE, appD_bad (by decide)]; exact ODev.empty _ _ _
        · repeat (first | refine bl_set ?_ (by simp <;> omega) _ | refine bl_alloc ?_ _ | exact hb0)
      have HE : Hid (0 = appE vm nv D k L (chkE r a h vm nv D)) := by rw [unhide HCH]; exact (appE_okO (unhide HA) (unhide HV) (by rw [Int.toNat_natCast, unhide HLD0]; exact hl) hF0).symm
      have HF0 := hide hF0
      clear hF0
      go_wp2_with fail
      rw [← unhide HN]
      refine (oneThing_x _ _ _ D _ ((unhide HD).up hb0) (unhide HFIT) (unhide HF0) (unhide HFU).1 (unhide HFU).2).mono ?_
      rintro e w3 ⟨s', c', v', rfl, hO, hEX, hb3⟩
      rw [unhide HN]
      have hsz2 := hb0.size
      have hsz3 := hb3.size
      replace hb0 := bl_trans hb0 hb3
      obtain ⟨b1, dap1, b2, dap2, b3, dap3, rfl, rfl, rfl, _, _, _, _, hcap, hcm⟩ := hO.form
      rw [unhide HN] at hO hcap hEX ⊢
      unfold maxLen at hcm
      obtain ⟨wq, hW1⟩ : ∃ wq, wq = w3.alloc (.cells #[.slice b1 D.safe.length dap1, .slice b2 D.cache.length dap2, .slice b3 N dap3, .int .i64 (lessF D.fuel)] 37) := ⟨_, rfl⟩
      have h31 : Below w3.heap.size w3 wq := by rw [hW1]; exact bl1 _ _
      have houtq : Row wq w3.heap.size 37 [.slice b1 D.safe.length dap1, .slice b2 D.cache.length dap2, .slice b3 N dap3, .int .i64 (lessF D.fuel)] := by rw [hW1]; exact Row.new _ _ _
      have hresq := ((unhide HR).up hb3).up h31
      have hOq := hO.up h31
      have hEXq := hEX.up h31
      have hbq := bl_trans hb0 h31
      have HBTQ := hide ((unhide HBT).up hbq)
      have hsq : w2.heap.size ≤ wq.heap.size := by have := h31.size; omega
      have HW1 := hide hW1
      have hLDs : LD + L ≤ 140737488355328 := by omega
      have hnv := unhide HN
      obtain ⟨g, curq, e', _, hrowq, ⟨uq, hcq, hownq⟩, _, _, hput, _⟩ := hOq.volD (x := k) hkd
      subst e'
      obtain ⟨ax, mx, hxx⟩ := hEXq g N dap3 rfl k hk
      rw [hcq] at hxx
      simp only [Option.some.injEq] at hxx
      obtain ⟨au, cu, hau, _, _⟩ := own_form hownq
      rw [unhide HLD0] at hau
      rw [hau] at hxx hcq hownq
      injection hxx with x1 x2 x3
      obtain rfl : LD = cu := by omega
      have hLD := unhide HLD0
      clear hW1 hau x1 x2 x3 d0 d1 d2 d3 df f0 f1 f2 f3 hu hO hEX hEXq hl
      go_wp2
      rw [← unhide HW1]
      have o2 := houtq.cell 2 _ rfl
      have hgl := hrowq.lt
      have hfz := hrowq.unfrozen (k * 3)
      have hol := houtq.lt
      have hne1 : w3.heap.size ≠ g := (hrowq.apart houtq (by decide)).symm
      have hne2 : w.heap.size + 1 + 1 ≠ g := (hrowq.apart hresq (by decide)).symm
      have hBq := hsq
      have hk0 : (0 : Int) ≤ ((k : Nat) : Int) := Int.natCast_nonneg _
      have hk1 : ((k : Nat) : Int) < ((N : Nat) : Int) := by omega
      have HOUTQ := hide houtq
      have HRESQ := hide hresq
      have HPUT := hide hput
      have HOWNQ := hide hownq
      have HLD := hide hLD
      have HBQQ := hide hbq
      clear houtq hresq hput hownq hLD hrowq hbq
      go_region_law ((refine step_app_exact _ (by rfl) _ _ (by rfl) w2.heap.size au LD _ _ xs (by rfl) (by rfl) (unhide HLD) (by exact unhide HOWNQ) (by exact unhide HBTQ) (by exact hBq) (by rw [unhide HL]; omega) ?_; intro a' cap' w6 hown6 hb6; have o6 := cell_up hb6 o2; have c6 := cell_up hb6 hcq; have z6 := (hb6.frozen (p := ⟨g, k * 3, none⟩) hgl).trans hfz; have l6 : wq.heap.size ≤ w6.heap.size := hb6.size))
      all_goals
        have hb6' : Below wq.heap.size wq w6 := ⟨hb6.os, hb6.tape, hb6.output, hb6.size, hb6.block⟩
        have hout6 := (unhide HOUTQ).up hb6'
        have hres6 := (unhide HRESQ).up hb6'
        have hO6 := (hOq.up hb6')
        obtain ⟨g6, cur6, e6, _, hrow6, _, _, _, hput6, _⟩ := hO6.volD (x := k) (by first | omega | (simp only; omega))
        simp at e6
        subst e6
        have hpm := hput6 _ _ hown6
        have e0 := hout6.cell 0 _ rfl
        have e1 := hout6.cell 1 _ rfl
        have e3 := hout6.cell 3 _ rfl
        have d0 := hres6.cell 0 _ rfl
        have d1 := hres6.cell 1 _ rfl
        have d2 := hres6.cell 2 _ rfl
        have d3 := hres6.cell 3 _ rfl
        have df := hres6.unfrozen
        have hrl := hres6.lt
        have HPM := hide hpm
        have HRES6 := hide hres6
        have HB6 := hide (bl_trans (unhide HBQQ) hb6')
        have hgw : w.heap.size ≤ g := by have := (unhide HBQQ).size; omega
        clear hpm hout6 hres6 hO6 hput6 hrow6 hown6 hb6 hb6'
        go_wp2
        refine bodyPost_ret (v := .tuple #[.agg #[.slice b1 D.safe.length dap1, .slice b2 D.cache.length dap2, .slice (some ⟨g, 0, none⟩) N dap3, .int .i64 (lessF D.fuel)], .int .i64 0]) (by simp [results, Try.results17, go_sem, *]) rfl ⟨_, _, _, ret_dev (by rw [← unhide HE, appD_ok]) (unhide HE), ?_, ?_⟩
        · rw [← unhide HE, appD_ok, appVs_f (unhide HA), Int.toNat_natCast]
          have H := unhide HPM
          have hgg := gb_set (gb_refl w6 (some g)) (k * 3) (.slice a' (LD + xs.length) cap')
          have hres7 := (unhide HRES6).kept hgg (by simpa using hne2)
          first
            | exact ((H.fuel (lessF D.fuel)).kept hres7 (by decide) (by decide) (by decide) (by decide) (gb_set (gb_set (gb_set (gb_set (gb_refl _ _) _ _) _ _) _ _) _ _)).base hsz2
            | exact (((H.fuel (lessF D.fuel)).up (Below.refl _ _).drew).kept hres7.dr (by decide) (by decide) (by decide) (by decide) (gb_set (gb_set (gb_set (gb_set (gb_refl _ _) _ _) _ _) _ _) _ _)).base hsz2
        · have hq := (unhide HB6).size
          first
            | (refine bl_set (bl_set (bl_set (bl_set (bl_set (unhide HB6) ?_ _) ?_ _) ?_ _) ?_ _) ?_ _ <;> simp <;> omega)
            | (refine bl_set (bl_set (bl_set (bl_set (bl_set (unhide HB6) ?_ _).drew ?_ _) ?_ _) ?_ _) ?_ _ <;> simp <;> omega)
end Go.Proofs.Ytdalkkjojflakaa
