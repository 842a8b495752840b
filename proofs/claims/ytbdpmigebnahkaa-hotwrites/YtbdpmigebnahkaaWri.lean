/- hot.Write. -/
import Derived.Test.YtbdpmigebnahkaaTdo
import Derived.Test.YtbdpmigebnahkaaRea
import Derived.Deep.RegionLaw
import Derived.Deep.AppendLies
namespace Go.Proofs.Ytbdpmigebnahkaa
open Go.RowKit
set_option linter.unusedVariables false
set_option linter.unusedSimpArgs false

/-- The bytes of the i-th sector. -/
def wrC (xs : List Int) (i : Nat) : List Int := (xs.take (min ((i + 1) * 64) xs.length)).drop (i * 64)
def wrT (r a : Int) (l xs : List Int) (k : Nat) : List Th := (List.range k).map fun i => .put (2 + r + 2 * a + l.getD i 0) (wrC xs i)
theorem wrT_len (r a : Int) (l xs : List Int) (k : Nat) : (wrT r a l xs k).length = k := by simp [wrT]
theorem wrT_next (r a : Int) (l xs : List Int) (k : Nat) : wrT r a l xs (k + 1) = wrT r a l xs k ++ [.put (2 + r + 2 * a + l.getD k 0) (wrC xs k)] := by simp [wrT, List.range_succ]
def wroE (r a h vm nv : Int) (D : Dv) (l xs : List Int) : Int :=
  if romE h l xs.length (chkE r a h vm nv D) = 0 then doE r a h vm nv D (wrT r a l xs l.length ++ [.flush]) else romE h l xs.length (chkE r a h vm nv D)
def wroD (r a h vm nv : Int) (D : Dv) (l xs : List Int) : Dv :=
  if romE h l xs.length (chkE r a h vm nv D) = 0 then doD r a h vm nv D (wrT r a l xs l.length ++ [.flush]) else nilD

theorem infoTh : (Try.prog.info? 81).map (fun i => (i.zero, i.size, i.bytes)) = some (some .nilFunc, 1, 8) := by kernel_rfl
theorem thPut_any (x : Int) (ba : Option Addr) (bn bc : Nat) (w : World) : Calls Try.prog 39 #[.int .i64 x, .slice ba bn bc] w fun e w' =>
    e = .returned (.func (.func 69) #[] #[.pointer (some ⟨w.heap.size, 0, none⟩), .pointer (some ⟨w.heap.size + 1, 0, none⟩)]) ∧ w' = (w.alloc (.cells #[.int .i64 x] 3)).alloc (.cells #[.slice ba bn bc] 30) := by
  go_enter Try.func39, Try.ntmps39
  go_wp2
  go_ret
  exact ⟨rfl, rfl⟩

theorem elemU8 : Try.prog.elem 30 = 5 := by kernel_rfl
theorem sizeOfU8 (u : World) : (sizeOf 5).run Try.prog u = .ok 1 u := by kernel_rfl
theorem cut_run {bb bo L bc x y : Nat} (h1 : x ≤ y) (h2 : y ≤ bc) (h3 : x < bc) (u : World) : (Instr.slice 30 (.slice (some ⟨bb, bo, none⟩) L bc) (some (.int .i64 (x : Int))) (some (.int .i64 (y : Int))) none).run Try.prog u = .ok (.slice (some ⟨bb, bo + x, none⟩) (y - x) (bc - x)) u := by
  rw [run_slice_lh u 30 (some ⟨bb, bo, none⟩) L bc (by rw [elemU8]; exact Try.underlying30) .i64 .i64 (x : Int) (y : Int) (by omega) (by omega) (by omega), elemU8, sizeOfU8]
  simp only [Result.andThen, sliced, Int.toNat_natCast]
  have h4 : ¬ bc - x = 0 := by omega
  have h5 : ¬ bc = x := by omega
  simp [h4, h5, Addr.add]

theorem new3 (w : World) (o1 o2 : Obj) (cs : Array Value) (t : TypeId) : (((w.alloc o1).alloc o2).alloc (.cells cs t)).heap[w.heap.size + 1 + 1]? = some (.cells cs t (0, 0)) := by
  have := heap_alloc_new ((w.alloc o1).alloc o2) (.cells cs t)
  rwa [World.size_alloc, World.size_alloc] at this

/-- A thing that the call has made: its bytes lie in the memory that was there at w0. -/
def ThO (w0 w : World) (f : Value) : Th → Prop
  | .put x xs => ∃ b1 b2 bv, f = .func (.func 69) #[] #[.pointer (some ⟨b1, 0, none⟩), .pointer (some ⟨b2, 0, none⟩)] ∧ Row w b1 3 [.int .i64 x] ∧ Row w b2 30 [bv] ∧ Bts w0 bv xs
  | .flush => f = .func (.func 42) #[] #[]
theorem ThO.up {w0 w w' : World} {f : Value} {t : Th} (h : ThO w0 w f t) (hb : Below w.heap.size w w') : ThO w0 w' f t := by
  cases t with
  | put x xs => obtain ⟨b1, b2, bv, e, h1, h2, h3⟩ := h; exact ⟨b1, b2, bv, e, h1.up hb, h2.up hb, h3⟩
  | flush => exact h
theorem ThO.kept {w0 w w' : World} {f : Value} {t : Th} (h : ThO w0 w f t) {B n : Nat} {u : Value} {fs : List Value} (ho : w.ownsRow B 81 1 u n fs) (hg : w.grownBy w' u.ownBlock) : ThO w0 w' f t := by
  cases t with
  | put x xs =>
    obtain ⟨b1, b2, bv, e, h1, h2, h3⟩ := h
    exact ⟨b1, b2, bv, e, h1.kept hg (own_apart ho h1 (by decide)).symm, h2.kept hg (own_apart ho h2 (by decide)).symm, h3⟩
  | flush => exact h
theorem ThO.at {w0 w : World} {f : Value} {t : Th} (h : ThO w0 w f t) (hb : Below w0.heap.size w0 w) : ThAt w f t := by
  cases t with
  | put x xs => obtain ⟨b1, b2, bv, e, h1, h2, h3⟩ := h; exact ⟨b1, b2, bv, e, h1.cell 0 _ rfl, h2.cell 0 _ rfl, h3.up hb⟩
  | flush => exact h
/-- Things in a row of the call's own. -/
def OwTh (w0 w : World) (B : Nat) (u : Value) (ths : List Th) : Prop := ∃ fs, w.ownsRow B 81 1 u ths.length fs ∧ fs.length = ths.length ∧ ∀ i, i < ths.length → ∃ f, fs[i]? = some f ∧ ThO w0 w f (ths.getD i .flush)
theorem OwTh.ths {w0 w : World} {B : Nat} {u : Value} {ths : List Th} (h : OwTh w0 w B u ths) (hb : Below w0.heap.size w0 w) : ThsAt w u ths := by
  obtain ⟨fs, h1, h2, h3⟩ := h
  obtain ⟨a, cap, rfl, l1, l2⟩ := own_form h1
  refine ⟨a, cap, rfl, l1, l2, fun i hi => ?_⟩
  obtain ⟨f, hf, hth⟩ := h3 i hi
  obtain ⟨g, cap', e, hc⟩ := own_cell h1 hf
  simp at e
  obtain ⟨rfl, rfl⟩ := e
  exact ⟨g, 0, rfl, f, by rw [Nat.zero_add]; exact hc, hth.at hb⟩
theorem OwTh.nil (w0 w : World) (B : Nat) : OwTh w0 w B (.slice none 0 0) [] := ⟨[], World.ownsRow_nil _ _ _ _, rfl, fun i hi => absurd hi (Nat.not_lt_zero _)⟩
theorem OwTh.push {w0 w w' : World} {B : Nat} {u u' : Value} {ths : List Th} {fs : List Value} (h1 : w.ownsRow B 81 1 u ths.length fs) (h2 : fs.length = ths.length) (h3 : ∀ i, i < ths.length → ∃ f, fs[i]? = some f ∧ ThO w0 w f (ths.getD i .flush)) (hg : w.grownBy w' u.ownBlock) {f : Value} {t : Th} (hf : ThO w0 w f t)
    (ho : w'.ownsRow B 81 1 u' (ths.length + 1) (fs ++ [f])) : OwTh w0 w' B u' (ths ++ [t]) := by
  refine ⟨fs ++ [f], by rw [List.length_append]; exact ho, by simp [h2], fun i hi => ?_⟩
  simp at hi
  by_cases e : i = ths.length
  · subst e
    exact ⟨f, by rw [← h2]; simp, by simpa [List.getD] using hf.kept h1 hg⟩
  · obtain ⟨y, hy, hty⟩ := h3 i (by omega)
    refine ⟨y, ?_, ?_⟩
    · rw [List.getElem?_append_left (by omega)]; exact hy
    · rw [show (ths ++ [t]).getD i .flush = ths.getD i .flush by simp [List.getD, List.getElem?_append_left (show i < ths.length by omega)]]
      exact hty.kept h1 hg

set_option maxHeartbeats 4000000 in
set_option maxRecDepth 100000 in
theorem write_any (r a h vm nv : Int) (s c v : Value) (D : Dv) (lv bv : Value) (l xs : List Int) (w : World) (hD : Dev w s c v D) (hv : Nts w lv l) (hB : Bts w bv xs) :
    Calls Try.prog 14 #[.agg #[.int .i64 r, .int .i64 a, .int .i64 h, .int .i64 vm, .int .i64 nv], .agg #[s, c, v, .int .i64 D.fuel], lv, bv] w fun e w' =>
      ∃ s' c' v', e = .returned (.tuple #[.agg #[s', c', v', .int .i64 (wroD r a h vm nv D l xs).fuel], .int .i64 (wroE r a h vm nv D l xs)]) ∧ ODev w' w.heap.size s' c' v' (wroD r a h vm nv D l xs) ∧ Below w.heap.size w w' := by
  have HD := hide hD
  have HV := hide hv
  have HB := hide hB
  clear hD
  obtain ⟨la, lc, rfl, ll, lm, hlc⟩ := hv
  obtain ⟨ba, bc, rfl, bl, bm, hbc⟩ := hB
  have HLC := hide hlc
  have HBC := hide hbc
  clear hlc hbc
  unfold maxLen at lm bm
  go_enter Try.func14, Try.ntmps14
  go_wp2_with fail
  refine (hotCheck_any r a h vm nv _ _ _ D _ l xs.length _ ((unhide HD).up (bl3 _ _ _ _)) ((unhide HV).up (bl3 _ _ _ _))).mono ?_
  rintro e w1 ⟨rfl, hb1⟩
  have hb0 : Below w.heap.size w w1 := bl_trans (bl3 _ _ _ _) hb1
  have g0 := box3a hb1 0 rfl
  have g1 := box3a hb1 1 rfl
  have g2 := box3a hb1 2 rfl
  have g3 := box3a hb1 3 rfl
  have g4 := box3a hb1 4 rfl
  have f0 := box3b hb1 0 rfl
  have f1 := box3b hb1 1 rfl
  have f2 := box3b hb1 2 rfl
  have f3 := box3b hb1 3 rfl
  have hR := box3r (cs := [.slice none 0 0, .slice none 0 0, .slice none 0 0, .int .i64 0]) hb1
  have d0 := hR.cell 0 _ rfl
  have d1 := hR.cell 1 _ rfl
  have d2 := hR.cell 2 _ rfl
  have d3 := hR.cell 3 _ rfl
  have df := hR.unfrozen
  have HR := hide hR
  clear hb1 hR
  obtain ⟨E, hE⟩ : ∃ E, romE h l xs.length (chkE r a h vm nv D) = E := ⟨_, rfl⟩
  rw [hE]
  by_cases hE0 : E = 0
  case neg =>
    have t1 : (E != 0) = true := by simpa using hE0
    have HE : Hid (E = wroE r a h vm nv D l xs) := by show _ = _; unfold wroE; rw [hE, if_neg hE0]
    have HZ : Hid (wroD r a h vm nv D l xs = nilD) := by show _ = _; unfold wroD; rw [hE, if_neg hE0]
    clear hE hE0
    go_wp2
    refine bodyPost_ret (v := .tuple #[.agg #[.slice none 0 0, .slice none 0 0, .slice none 0 0, .int .i64 0], .int .i64 E]) (by simp [results, Try.results14, go_sem, *]) rfl ⟨_, _, _, ret_dev (by rw [unhide HZ]; rfl) (unhide HE), ?_, ?_⟩
    · rw [unhide HZ]; exact ODev.empty _ _ _
    · repeat (first | exact hb0 | refine bl_set ?_ (by simp <;> omega) _)
  subst hE0
  have hch : chkE r a h vm nv D = 0 := by
    unfold romE at hE
    split at hE
    · assumption
    · omega
  have hrm : romB h l xs.length = true := by
    rw [hch] at hE
    cases hq : romB h l xs.length
    · rw [romE_f hq] at hE; omega
    · rfl
  have hFE : wroE r a h vm nv D l xs = doE r a h vm nv D (wrT r a l xs l.length ++ [.flush]) := by unfold wroE; rw [hE, if_pos rfl]
  have hFD : wroD r a h vm nv D l xs = doD r a h vm nv D (wrT r a l xs l.length ++ [.flush]) := by unfold wroD; rw [hE, if_pos rfl]
  have HFE := hide hFE
  have HFD := hide hFD
  obtain ⟨hg, hd⟩ := chk_of hch
  obtain ⟨⟨hn0, hn1⟩, hlen, hin⟩ := romB_all hrm
  have hgb := geoB_bd hg
  have hsec : ∀ i, i < l.length → 64 * i < xs.length := fun i hi => by rw [secH_chunk hn0] at hlen; omega
  have hll : l.length ≤ 10 := by rw [secH_chunk hn0] at hlen; omega
  have HIN := hide hin
  have HSEC := hide hsec
  clear hin hsec hE hch hrm hg hd hlen hFE hFD
  have KS : Hid (∀ w', Below w1.heap.size w1 w' → w'.cell? ⟨w.heap.size, 0, none⟩ = some (.int .i64 r) ∧ w'.cell? ⟨w.heap.size, 1, none⟩ = some (.int .i64 a) ∧ w'.cell? ⟨w.heap.size, 2, none⟩ = some (.int .i64 h) ∧ w'.cell? ⟨w.heap.size, 3, none⟩ = some (.int .i64 vm) ∧ w'.cell? ⟨w.heap.size, 4, none⟩ = some (.int .i64 nv) ∧ w'.cell? ⟨w.heap.size + 1, 0, none⟩ = some s ∧ w'.cell? ⟨w.heap.size + 1, 1, none⟩ = some c ∧ w'.cell? ⟨w.heap.size + 1, 2, none⟩ = some v ∧ w'.cell? ⟨w.heap.size + 1, 3, none⟩ = some (.int .i64 D.fuel)) :=
    fun w' hb => ⟨cell_up hb g0, cell_up hb g1, cell_up hb g2, cell_up hb g3, cell_up hb g4, cell_up hb f0, cell_up hb f1, cell_up hb f2, cell_up hb f3⟩
  have hlt1 : w.heap.size + 1 < w1.heap.size := World.block_lt_of_cell? w1 _ f0
  clear g0 g1 g2 g3 g4 f0 f1 f2 f3 d0 d1 d2 d3 df
  obtain ⟨i0, hi, hz0, hz1, hz2⟩ := info_parts infoTh
  go_wp2
  go_loopw [11, 12, 13, 14, 15, 28] (fun u _ _ _ _ i wr => ∃ k : Nat, k ≤ l.length ∧ i = .int .i64 k ∧ OwTh w1 wr w1.heap.size u (wrT r a l xs k) ∧ Below w1.heap.size w1 wr) (fun _ _ _ _ _ i _ => l.length - (intOf i).toNat)
  case atStart => exact ⟨0, Nat.zero_le _, rfl, OwTh.nil _ _ _, Below.refl _ _⟩
  case round =>
    obtain ⟨k, hk, rfl, hoth, hbr⟩ := hrel
    obtain ⟨fs, ho1, ho2, ho3⟩ := hoth
    rw [wrT_len] at ho1 ho2 ho3
    obtain ⟨ua, uc, rfl, ul, um⟩ := own_form ho1
    unfold maxLen at um
    have HO1 := hide ho1
    have HO2 := hide ho2
    have HO3 := hide ho3
    clear ho1 ho2 ho3
    obtain ⟨g0, g1, g2, g3, g4, f0, f1, f2, f3⟩ := unhide KS _ hbr
    by_cases hlt : k < l.length
    · obtain ⟨b, o, rfl, hcell⟩ := unhide HLC k hlt
      replace hcell := cell_up (bl_trans hb0 hbr) hcell
      obtain ⟨z, hz⟩ : ∃ z, l.getD k 0 = z := ⟨_, rfl⟩
      have hzb := unhide HIN k hlt
      have hnx := wrT_next r a l xs k
      rw [hz] at hcell hzb hnx
      have h6 := unhide HSEC k hlt
      have HNX := hide hnx
      clear hz hnx
      obtain ⟨bb, bo, rfl, _⟩ := unhide HBC 0 (by omega)
      obtain ⟨T, hT⟩ : ∃ T, min ((k + 1) * 64) xs.length = T := ⟨_, rfl⟩
      have hT1 : T ≤ xs.length := by omega
      have hT2 : k * 64 < T := by omega
      have hTI : (if (xs.length : Int) < ((k : Int) + 1) * 64 then (xs.length : Int) else ((k : Int) + 1) * 64) = (T : Int) := by split <;> omega
      have HTI := hide hTI
      clear hTI
      have HCUT : Hid (Bts w (.slice (some ⟨bb, bo + k * 64, none⟩) (T - k * 64) (bc - k * 64)) (wrC xs k)) := by
        have := (unhide HB).cut (x := k * 64) (y := T) (by omega) hT1
        rw [if_neg (by omega)] at this
        show Bts _ _ _
        unfold wrC
        rw [hT]
        simp only [Option.map] at this
        rw [show (⟨bb, bo, none⟩ : Addr).add (k * 64) = ⟨bb, bo + k * 64, none⟩ by unfold Addr.add; split <;> simp_all] at this
        exact this
      have hk6 : ((k : Int) + 1) * 64 ≤ 100000 := by omega
      have hsl : ∀ u : World, (Instr.slice 30 (.slice (some ⟨bb, bo, none⟩) xs.length bc) (some (.int .i64 ((k : Int) * 64))) (some (.int .i64 (T : Int))) none).run Try.prog u = .ok (.slice (some ⟨bb, bo + k * 64, none⟩) (T - k * 64) (bc - k * 64)) u := fun u => by
        rw [show (k : Int) * 64 = ((k * 64 : Nat) : Int) by omega]
        exact cut_run (by omega) (by omega) (by omega) u
      go_upto_region 9 with fail
      rw [unhide HTI]
      go_region_law (first
        | (go_simp; go_at_call 40; refine (diskSector_any r a h vm nv z _ (by omega) (by omega) (by omega)).mono ?_; rintro e w2 ⟨rfl, b2⟩; replace b2 : Below wr.heap.size wr w2 := (Below.drew (Below.refl wr.heap.size wr)).trans b2; have hs2 : w1.heap.size ≤ w2.heap.size := Nat.le_trans hbr.size b2.size; dsimp only)
        | (go_simp; go_at_call 39; refine (thPut_any _ _ _ _ _).mono ?_; rintro e w3 ⟨rfl, rfl⟩; dsimp only)
        | (refine step_append_lies _ (by rfl) _ _ _ (by rfl) w1.heap.size 81 i0 _ 1 8 Try.underlying79 hi hz0 hz1 hz2 rfl (by omega) (.slice ua k uc) k fs (by rfl) (World.ownsRow.alloc (World.ownsRow.alloc (World.ownsRow.alloc (own_up (unhide HO1) b2) _) _) _) ⟨w2.heap.size + 1 + 1, 0, none⟩ 1 1 [.func (.func 69) #[] #[.pointer (some ⟨w2.heap.size, 0, none⟩), .pointer (some ⟨w2.heap.size + 1, 0, none⟩)]] (by rfl) (by rfl) (World.news_of_block (cs := #[.func (.func 69) #[] #[.pointer (some ⟨w2.heap.size, 0, none⟩), .pointer (some ⟨w2.heap.size + 1, 0, none⟩)]]) (t := 81) (fr := (0, 0)) (new3 _ _ _ _ _)) (by simp [Value.oneCell']) (by omega) (by unfold maxLen; omega) (by omega) (by simp; omega) (w2.heap.size + 1 + 1 + 1) (by simp) ?_; intro g cap w4 hown4 hgrow hat hlt4))
      all_goals
        obtain ⟨W3, hW3⟩ : ∃ W3, W3 = ((w2.alloc (.cells #[.int .i64 (2 + r + 2 * a + z)] 3)).alloc (.cells #[.slice (some ⟨bb, bo + k * 64, none⟩) (T - k * 64) (bc - k * 64)] 30)).alloc (.cells #[.func (.func 69) #[] #[.pointer (some ⟨w2.heap.size, 0, none⟩), .pointer (some ⟨w2.heap.size + 1, 0, none⟩)]] 81) := ⟨_, rfl⟩
        rw [← hW3] at hgrow
        have hb3 : Below w2.heap.size w2 W3 := by rw [hW3]; exact bl3 _ _ _ _
        have hrow1 : Row W3 w2.heap.size 3 [.int .i64 (2 + r + 2 * a + z)] := by rw [hW3]; exact (Row.new w2 _ [.int .i64 (2 + r + 2 * a + z)]).up (bl2 _ _ _)
        have hrow2 : Row W3 (w2.heap.size + 1) 30 [.slice (some ⟨bb, bo + k * 64, none⟩) (T - k * 64) (bc - k * 64)] := by
          rw [hW3]
          have := (Row.new (w2.alloc (.cells #[.int .i64 (2 + r + 2 * a + z)] 3)) 30 [.slice (some ⟨bb, bo + k * 64, none⟩) (T - k * 64) (bc - k * 64)]).up (bl1 _ (.cells #[.func (.func 69) #[] #[.pointer (some ⟨w2.heap.size, 0, none⟩), .pointer (some ⟨w2.heap.size + 1, 0, none⟩)]] 81))
          rw [World.size_alloc] at this
          exact this
        clear hW3
        have hbw3 : Below wr.heap.size wr W3 := bl_trans b2 hb3
        have ho3 := own_up (unhide HO1) hbw3
        have HOTH : Hid (OwTh w1 w4 w1.heap.size (.slice (some ⟨g, 0, none⟩) (k + 1) cap) (wrT r a l xs (k + 1))) := by
          show OwTh _ _ _ _ _
          rw [unhide HNX]
          refine OwTh.push (w := W3) (u := .slice ua k uc) (fs := fs) (by rw [wrT_len]; exact ho3) (by rw [wrT_len]; exact unhide HO2) (fun i hi => ?_) hgrow (f := .func (.func 69) #[] #[.pointer (some ⟨w2.heap.size, 0, none⟩), .pointer (some ⟨w2.heap.size + 1, 0, none⟩)]) ⟨_, _, _, rfl, hrow1, hrow2, (unhide HCUT).up hb0⟩ (by rw [wrT_len]; exact hown4)
          rw [wrT_len] at hi
          obtain ⟨f, hf, hth⟩ := unhide HO3 i hi
          exact ⟨f, hf, hth.up hbw3⟩
        have hb4 : Below w1.heap.size w1 w4 := (bl_trans hbr hbw3).grown hgrow (by have := hbw3.size; have := hbr.size; omega) fun j hj => (World.ownsRow.lt (unhide HO1) j hj).1
        clear hown4 hgrow hat ho3 hrow1 hrow2
        go_wp2
        go_roundw
        case rel => exact ⟨k + 1, by omega, by go_num, unhide HOTH, hb4⟩
        case measure => (simp [intOf] <;> omega)
    · obtain rfl : k = l.length := by omega
      obtain ⟨FE, hFE⟩ : ∃ FE, wroE r a h vm nv D l xs = FE := ⟨_, rfl⟩
      obtain ⟨FD, hFD⟩ : ∃ FD, wroD r a h vm nv D l xs = FD := ⟨_, rfl⟩
      have HGE : Hid (doE r a h vm nv D (wrT r a l xs l.length ++ [.flush]) = FE) := by show _ = _; rw [← unhide HFE]; exact hFE
      have HGD : Hid (doD r a h vm nv D (wrT r a l xs l.length ++ [.flush]) = FD) := by show _ = _; rw [← unhide HFD]; exact hFD
      have HFE1 := hide hFE
      have HFD1 := hide hFD
      clear hFE hFD HFE HFD
      have hsr := hbr.size
      have hq1 : w.heap.size + 1 < wr.heap.size := by omega
      have hq0 : w.heap.size < wr.heap.size := by omega
      go_wp2
      go_region_law (first
        | (go_simp; go_at_call 41; refine (do_any r a h vm nv s c v D _ (wrT r a l xs l.length ++ [.flush]) _ ((unhide HD).up (bl_trans hb0 hb4)) (HOTH4.ths hb4) (by simp)).mono ?_; rintro e w5 ⟨s', c', v', rfl, hdv, hb5⟩; rw [unhide HGE, unhide HGD] at *; have hR5 := (unhide HR).up (bl_trans hb4 hb5); have r0 := hR5.cell 0 _ rfl; have r1 := hR5.cell 1 _ rfl; have r2 := hR5.cell 2 _ rfl; have r3 := hR5.cell 3 _ rfl; have rf := hR5.unfrozen; have hdv2 := hdv.dev; obtain ⟨⟨y1, z1, rfl, _⟩, ⟨y2, z2, rfl, _⟩, ⟨y3, z3, rfl, _⟩⟩ := hdv2; dsimp only)
        | (refine step_append_lies _ (by rfl) _ _ _ (by rfl) w1.heap.size 81 i0 _ 1 8 Try.underlying79 hi hz0 hz1 hz2 rfl (by omega) (.slice ua l.length uc) l.length fs (by rfl) (World.ownsRow.alloc (World.ownsRow.drew (unhide HO1)) _) ⟨wr.heap.size, 0, none⟩ 1 1 [.func (.func 42) #[] #[]] (by rfl) (by rfl) (World.news_of_block (cs := #[.func (.func 42) #[] #[]]) (t := 81) (fr := (0, 0)) (heap_alloc_new wr.drew _)) (by simp [Value.oneCell']) (by omega) (by unfold maxLen; omega) (by omega) (by simp; omega) (wr.heap.size + 1) (by simp) ?_; intro g cap w4 hown4 hgrow hat hlt4; have hbw3 := bl_alloc (Below.drew (Below.refl wr.heap.size wr)) (.cells #[.func (.func 42) #[] #[]] 81); have hb4 : Below w1.heap.size w1 w4 := (bl_trans hbr hbw3).grown hgrow (by simp; omega) (fun j hj => (World.ownsRow.lt (unhide HO1) j hj).1); have HOTH4 : OwTh w1 w4 w1.heap.size (.slice (some ⟨g, 0, none⟩) (l.length + 1) cap) (wrT r a l xs l.length ++ [.flush]) := OwTh.push (by rw [wrT_len]; exact own_up (unhide HO1) hbw3) (by rw [wrT_len]; exact unhide HO2) (fun i hi => by rw [wrT_len] at hi; obtain ⟨f, hf, hth⟩ := unhide HO3 i hi; exact ⟨f, hf, hth.up hbw3⟩) hgrow (f := .func (.func 42) #[] #[]) (show ThO w1 _ _ .flush from rfl) (by rw [wrT_len]; exact hown4); obtain ⟨k0, k1, k2, k3, k4, j0, j1, j2, j3⟩ := unhide KS _ hb4))
      all_goals
        go_wp2
        refine bodyPost_ret (v := .tuple #[.agg #[.slice y1 FD.safe.length z1, .slice y2 FD.cache.length z2, .slice y3 FD.vols.length z3, .int .i64 FD.fuel], .int .i64 FE]) (by simp [results, Try.results14, go_sem, *]) rfl ⟨_, _, _, ret_dev (by rw [unhide HFD1]) (unhide HFE1).symm, ?_, ?_⟩
        · rw [unhide HFD1]
          exact ((hdv.kept hR5 (by decide) (by decide) (by decide) (by decide) (by repeat (first | exact gb_refl _ _ | refine gb_set ?_ _ _))).base (by have := hb4.size; omega))
        · have := bl_trans hb0 (bl_trans hb4 hb5)
          repeat (first | exact this | refine bl_set ?_ (by simp <;> omega) _)
end Go.Proofs.Ytbdpmigebnahkaa
