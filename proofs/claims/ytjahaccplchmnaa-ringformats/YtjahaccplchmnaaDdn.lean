/- Things that are done, as the document says it: icehouseref.done. -/
import Derived.Test.YtjahaccplchmnaaTdo
import Derived.Test.YtjahaccplchmnaaPutO
import Derived.Test.YtjahaccplchmnaaFlO
import Derived.Deep.RegionHeld3
import Derived.Deep.DeepCutAuto
namespace Go.Proofs.Ytjahaccplchmnaa
open Go.RowKit
set_option linter.unusedVariables false
set_option linter.unusedSimpArgs false

/-- A thing in memory, three cells. -/
def TdC (w : World) (b p : Nat) : Th → Prop
  | .put x xs => w.cell? ⟨b, p, none⟩ = some (.bool false) ∧ w.cell? ⟨b, p + 1, none⟩ = some (.int .i64 x) ∧ ∃ u, w.cell? ⟨b, p + 2, none⟩ = some u ∧ Bts w u xs
  | .flush => w.cell? ⟨b, p, none⟩ = some (.bool true)
theorem TdC.up {w w' : World} {b p : Nat} {t : Th} (h : TdC w b p t) (hb : Below w.heap.size w w') : TdC w' b p t := by
  cases t with
  | put x xs => obtain ⟨h1, h2, u, h3, h4⟩ := h; exact ⟨cell_up hb h1, cell_up hb h2, u, cell_up hb h3, h4.up hb⟩
  | flush => exact cell_up hb h
def TdsAt (w : World) (v : Value) (ths : List Th) : Prop :=
  ∃ a cap, v = .slice a ths.length cap ∧ ths.length ≤ cap ∧ cap ≤ maxLen ∧ ∀ i, i < ths.length → ∃ b o, a = some ⟨b, o, none⟩ ∧ TdC w b (o + i * 3) (ths.getD i .flush)
def jz : Array Value := #[.int .i64 0, .int .i64 0, .int .i64 0, .int .i64 0, .int .i64 0, .int .i64 0, .int .i64 0, .int .i64 0, .int .i64 0]
theorem ret_done {s c v : Value} {f e : Int} {J J' : Array Value} (h : J = J') : Ending.returned (.tuple #[.agg #[s, c, v, .int .i64 f], .agg J, .int .i64 e]) = .returned (.tuple #[.agg #[s, c, v, .int .i64 f], .agg J', .int .i64 e]) := by rw [h]

theorem ODev.two {w w1 w2 : World} {B : Nat} {s c v : Value} {D : Dv} (h : ODev w B s c v D) {g g' : Nat} {cs cs' : List Value} (hr : Row w g 28 cs) (hr' : Row w g' 31 cs') (h2 : w1.grownBy w2 (some g')) (h1 : w.grownBy w1 (some g)) : ODev w2 B s c v D :=
  (h.kept hr (by decide) (by decide) (by decide) (by decide) h1).kept (hr'.kept h1 (fun e => by injection e with e; exact hr.apart hr' (by decide) e.symm)) (by decide) (by decide) (by decide) (by decide) h2
theorem ODev.owt {w w1 w2 : World} {B : Nat} {s c v : Value} {D : Dv} (h : ODev w B s c v D) {g g' : Nat} {cs cs' : List Value} (hr : Row w g 28 cs) (hr' : Row w g' 31 cs') (h2 : w1.grownBy w2 (some g)) (h1 : w.grownBy w1 (some g')) : ODev w2 B s c v D :=
  (h.kept hr' (by decide) (by decide) (by decide) (by decide) h1).kept (hr.kept h1 (fun e => by injection e with e; exact hr.apart hr' (by decide) e)) (by decide) (by decide) (by decide) (by decide) h2

theorem ODev.st13 {w : World} {B : Nat} {s c v : Value} {D : Dv} (h : ODev w B s c v D) {g g' : Nat} {cs cs' : List Value} (hr : Row w g 28 cs) (hr' : Row w g' 31 cs') {a0 a1 a2 a3 b0 b1 b2 b3 b4 b5 b6 b7 b8 : Value} : ODev (((((((((((((w.setCell ⟨g, 0, none⟩ a0).setCell ⟨g, 1, none⟩ a1).setCell ⟨g, 2, none⟩ a2).setCell ⟨g, 3, none⟩ a3).setCell ⟨g', 0, none⟩ b0).setCell ⟨g', 1, none⟩ b1).setCell ⟨g', 2, none⟩ b2).setCell ⟨g', 3, none⟩ b3).setCell ⟨g', 4, none⟩ b4).setCell ⟨g', 5, none⟩ b5).setCell ⟨g', 6, none⟩ b6).setCell ⟨g', 7, none⟩ b7).setCell ⟨g', 8, none⟩ b8) B s c v D :=
  h.two hr hr' (gb_set (gb_set (gb_set (gb_set (gb_set (gb_set (gb_set (gb_set (gb_set (gb_refl _ _) _ _) _ _) _ _) _ _) _ _) _ _) _ _) _ _) _ _) (gb_set (gb_set (gb_set (gb_set (gb_refl _ _) _ _) _ _) _ _) _ _)
theorem bl13 {a w : World} (h : Below a.heap.size a w) {g g' : Nat} (hg : a.heap.size ≤ g) (hg' : a.heap.size ≤ g') {a0 a1 a2 a3 b0 b1 b2 b3 b4 b5 b6 b7 b8 : Value} : Below a.heap.size a (((((((((((((w.setCell ⟨g, 0, none⟩ a0).setCell ⟨g, 1, none⟩ a1).setCell ⟨g, 2, none⟩ a2).setCell ⟨g, 3, none⟩ a3).setCell ⟨g', 0, none⟩ b0).setCell ⟨g', 1, none⟩ b1).setCell ⟨g', 2, none⟩ b2).setCell ⟨g', 3, none⟩ b3).setCell ⟨g', 4, none⟩ b4).setCell ⟨g', 5, none⟩ b5).setCell ⟨g', 6, none⟩ b6).setCell ⟨g', 7, none⟩ b7).setCell ⟨g', 8, none⟩ b8) :=
  bl_set (bl_set (bl_set (bl_set (bl_set (bl_set (bl_set (bl_set (bl_set (bl_set (bl_set (bl_set (bl_set (h) hg _) hg _) hg _) hg _) hg' _) hg' _) hg' _) hg' _) hg' _) hg' _) hg' _) hg' _) hg' _

set_option maxHeartbeats 4000000 in
set_option maxRecDepth 100000 in
theorem done_any (r a h vm nv : Int) (s0 c0 v0 : Value) (D : Dv) (lv : Value) (ths : List Th) (j0 j1 j2 j3 j4 j5 j6 j7 j8 : Int) (w : World) (hD : Dev w s0 c0 v0 D) (hl : TdsAt w lv ths) :
    Calls Try.prog 45 #[.agg #[.int .i64 r, .int .i64 a, .int .i64 h, .int .i64 vm, .int .i64 nv], .agg #[s0, c0, v0, .int .i64 D.fuel], lv, .agg #[.int .i64 j0, .int .i64 j1, .int .i64 j2, .int .i64 j3, .int .i64 j4, .int .i64 j5, .int .i64 j6, .int .i64 j7, .int .i64 j8]] w fun e w' =>
      ∃ s' c' v', e = .returned (.tuple #[.agg #[s', c', v', .int .i64 (doD r a h vm nv D ths).fuel], .agg (if doE r a h vm nv D ths = 0 then #[.int .i64 j0, .int .i64 j1, .int .i64 j2, .int .i64 j3, .int .i64 j4, .int .i64 j5, .int .i64 j6, .int .i64 j7, .int .i64 j8] else jz), .int .i64 (doE r a h vm nv D ths)]) ∧ (ODev w' w.heap.size s' c' v' (doD r a h vm nv D ths) ∨ s' = s0 ∧ c' = c0 ∧ v' = v0 ∧ doD r a h vm nv D ths = D) ∧ Below w.heap.size w w' := by
  have HD := hide hD
  obtain ⟨la, lc, rfl, ll, lm, hlc⟩ := hl
  unfold maxLen at lm
  have HLC := hide hlc
  clear hD hlc
  obtain ⟨FE, hFE⟩ : ∃ FE, doE r a h vm nv D ths = FE := ⟨_, rfl⟩
  obtain ⟨FD, hFD⟩ : ∃ FD, doD r a h vm nv D ths = FD := ⟨_, rfl⟩
  have HFE := hide hFE
  have HFD := hide hFD
  rw [hFE, hFD]
  clear hFE hFD
  go_enter Try.func45, Try.ntmps45
  go_upto_region 1 with fail
  obtain ⟨W0, hW0⟩ : ∃ W0, W0 = ((((w.alloc (.cells #[.int .i64 r, .int .i64 a, .int .i64 h, .int .i64 vm, .int .i64 nv] 23)).alloc (.cells #[s0, c0, v0, .int .i64 D.fuel] 28)).alloc (.cells #[.int .i64 j0, .int .i64 j1, .int .i64 j2, .int .i64 j3, .int .i64 j4, .int .i64 j5, .int .i64 j6, .int .i64 j7, .int .i64 j8] 31)).alloc (.cells #[.slice none 0 0, .slice none 0 0, .slice none 0 0, .int .i64 0] 28)).alloc (.cells #[.int .i64 0, .int .i64 0, .int .i64 0, .int .i64 0, .int .i64 0, .int .i64 0, .int .i64 0, .int .i64 0, .int .i64 0] 31) := ⟨_, rfl⟩
  have hbW : Below w.heap.size w W0 := by rw [hW0]; exact bl_alloc (bl_alloc (bl3 _ _ _ _) _) _
  have hRG : Row W0 w.heap.size 23 [.int .i64 r, .int .i64 a, .int .i64 h, .int .i64 vm, .int .i64 nv] := by rw [hW0]; exact (Row.new w _ [.int .i64 r, .int .i64 a, .int .i64 h, .int .i64 vm, .int .i64 nv]).up (bl_alloc (bl3 _ _ _ _) _)
  have hRD : Row W0 (w.heap.size + 1) 28 [s0, c0, v0, .int .i64 D.fuel] := by
    rw [hW0]
    have := (Row.new (w.alloc (.cells #[.int .i64 r, .int .i64 a, .int .i64 h, .int .i64 vm, .int .i64 nv] 23)) 28 [s0, c0, v0, .int .i64 D.fuel]).up (bl3 _ (.cells #[.int .i64 j0, .int .i64 j1, .int .i64 j2, .int .i64 j3, .int .i64 j4, .int .i64 j5, .int .i64 j6, .int .i64 j7, .int .i64 j8] 31) (.cells #[.slice none 0 0, .slice none 0 0, .slice none 0 0, .int .i64 0] 28) (.cells #[.int .i64 0, .int .i64 0, .int .i64 0, .int .i64 0, .int .i64 0, .int .i64 0, .int .i64 0, .int .i64 0, .int .i64 0] 31))
    rw [World.size_alloc] at this
    exact this
  have hRJ : Row W0 (w.heap.size + 1 + 1) 31 [.int .i64 j0, .int .i64 j1, .int .i64 j2, .int .i64 j3, .int .i64 j4, .int .i64 j5, .int .i64 j6, .int .i64 j7, .int .i64 j8] := by
    rw [hW0]
    have := (Row.new ((w.alloc (.cells #[.int .i64 r, .int .i64 a, .int .i64 h, .int .i64 vm, .int .i64 nv] 23)).alloc (.cells #[s0, c0, v0, .int .i64 D.fuel] 28)) 31 [.int .i64 j0, .int .i64 j1, .int .i64 j2, .int .i64 j3, .int .i64 j4, .int .i64 j5, .int .i64 j6, .int .i64 j7, .int .i64 j8]).up (bl2 _ (.cells #[.slice none 0 0, .slice none 0 0, .slice none 0 0, .int .i64 0] 28) (.cells #[.int .i64 0, .int .i64 0, .int .i64 0, .int .i64 0, .int .i64 0, .int .i64 0, .int .i64 0, .int .i64 0, .int .i64 0] 31))
    rw [World.size_alloc, World.size_alloc] at this
    exact this
  have hRR : Row W0 (w.heap.size + 1 + 1 + 1) 28 [.slice none 0 0, .slice none 0 0, .slice none 0 0, .int .i64 0] := by
    rw [hW0]
    have := (Row.new (((w.alloc (.cells #[.int .i64 r, .int .i64 a, .int .i64 h, .int .i64 vm, .int .i64 nv] 23)).alloc (.cells #[s0, c0, v0, .int .i64 D.fuel] 28)).alloc (.cells #[.int .i64 j0, .int .i64 j1, .int .i64 j2, .int .i64 j3, .int .i64 j4, .int .i64 j5, .int .i64 j6, .int .i64 j7, .int .i64 j8] 31)) 28 [.slice none 0 0, .slice none 0 0, .slice none 0 0, .int .i64 0]).up (bl1 _ (.cells #[.int .i64 0, .int .i64 0, .int .i64 0, .int .i64 0, .int .i64 0, .int .i64 0, .int .i64 0, .int .i64 0, .int .i64 0] 31))
    rw [World.size_alloc, World.size_alloc, World.size_alloc] at this
    exact this
  have hRK : Row W0 (w.heap.size + 1 + 1 + 1 + 1) 31 [.int .i64 0, .int .i64 0, .int .i64 0, .int .i64 0, .int .i64 0, .int .i64 0, .int .i64 0, .int .i64 0, .int .i64 0] := by
    rw [hW0]
    have := Row.new ((((w.alloc (.cells #[.int .i64 r, .int .i64 a, .int .i64 h, .int .i64 vm, .int .i64 nv] 23)).alloc (.cells #[s0, c0, v0, .int .i64 D.fuel] 28)).alloc (.cells #[.int .i64 j0, .int .i64 j1, .int .i64 j2, .int .i64 j3, .int .i64 j4, .int .i64 j5, .int .i64 j6, .int .i64 j7, .int .i64 j8] 31)).alloc (.cells #[.slice none 0 0, .slice none 0 0, .slice none 0 0, .int .i64 0] 28)) 31 [.int .i64 0, .int .i64 0, .int .i64 0, .int .i64 0, .int .i64 0, .int .i64 0, .int .i64 0, .int .i64 0, .int .i64 0]
    rw [World.size_alloc, World.size_alloc, World.size_alloc, World.size_alloc] at this
    exact this
  rw [← hW0]
  clear hW0
  have HRG := hide hRG
  have HRD := hide hRD
  have HRJ := hide hRJ
  have HRR := hide hRR
  have HRK := hide hRK
  clear hRG hRD hRJ hRR hRK
  go_wp2
  go_loopw [11, 12, 13] (fun i _ _ wr => ∃ (k : Nat) (X : Dv) (s c v : Value), k ≤ ths.length ∧ i = .int .i64 k ∧ Row wr w.heap.size 23 [.int .i64 r, .int .i64 a, .int .i64 h, .int .i64 vm, .int .i64 nv] ∧ Row wr (w.heap.size + 1) 28 [s, c, v, .int .i64 X.fuel] ∧
      Row wr (w.heap.size + 1 + 1) 31 [.int .i64 j0, .int .i64 j1, .int .i64 j2, .int .i64 j3, .int .i64 j4, .int .i64 j5, .int .i64 j6, .int .i64 j7, .int .i64 j8] ∧ Row wr (w.heap.size + 1 + 1 + 1) 28 [.slice none 0 0, .slice none 0 0, .slice none 0 0, .int .i64 0] ∧ Row wr (w.heap.size + 1 + 1 + 1 + 1) 31 [.int .i64 0, .int .i64 0, .int .i64 0, .int .i64 0, .int .i64 0, .int .i64 0, .int .i64 0, .int .i64 0, .int .i64 0] ∧ (ODev wr w.heap.size s c v X ∨ s = s0 ∧ c = c0 ∧ v = v0 ∧ X = D) ∧ doE r a h vm nv X (ths.drop k) = FE ∧ doD r a h vm nv X (ths.drop k) = FD ∧ Below w.heap.size w wr) (fun i _ _ _ => ths.length - (intOf i).toNat)
  case atStart => exact ⟨0, D, s0, c0, v0, Nat.zero_le _, rfl, unhide HRG, unhide HRD, unhide HRJ, unhide HRR, unhide HRK, .inr ⟨rfl, rfl, rfl, rfl⟩, by rw [List.drop_zero]; exact unhide HFE, by rw [List.drop_zero]; exact unhide HFD, hbW⟩
  case round =>
    obtain ⟨k, X, s, c, v, hk, rfl, hG, hRd, hRj, hRr, hRk, hX, hE, hDD, hb⟩ := hrel
    have hdev : Dev wr s c v X := by
      rcases hX with q | ⟨e1, e2, e3, e4⟩
      · exact q.dev
      · rw [e1, e2, e3, e4]; exact (unhide HD).up hb
    have HX := hide hX
    have HE := hide hE
    have HDD := hide hDD
    have HG := hide hG
    have HRd := hide hRd
    have HRj := hide hRj
    have HRr := hide hRr
    have HRk := hide hRk
    have HDEV := hide hdev
    have hl1 := hRk.lt
    clear hX hE hDD hG hRd hRj hRr hRk HFE HFD HRG HRD HRJ HRR HRK
    by_cases hlt : k < ths.length
    · obtain ⟨b, o, rfl, hth⟩ := unhide HLC k hlt
      replace hth := hth.up hb
      obtain ⟨t, ht⟩ : ∃ t, ths.getD k .flush = t := ⟨_, rfl⟩
      have hdr := drop_at hlt
      rw [ht] at hth hdr
      have HDR := hide hdr
      clear ht hdr
      obtain ⟨E, hEE⟩ : ∃ E, thE r a h vm nv X t = E := ⟨_, rfl⟩
      have HEE := hide hEE
      clear hEE
      obtain ⟨Z, hZ⟩ : ∃ Z, thD X E t = Z := ⟨_, rfl⟩
      have HZ := hide hZ
      clear hZ
      go_upto_region 6 with fail
      obtain ⟨W4, hW4⟩ : ∃ W4, W4 = wr.alloc (.cells #[.slice none 0 0, .slice none 0 0, .slice none 0 0, .int .i64 0] 28) := ⟨_, rfl⟩
      have hb4 : Below wr.heap.size wr W4 := by rw [hW4]; exact bl1 _ _
      have hr4 : Row W4 wr.heap.size 28 [.slice none 0 0, .slice none 0 0, .slice none 0 0, .int .i64 0] := by rw [hW4]; exact Row.new _ _ _
      rw [← hW4]
      clear hW4
      have HR4 := hide hr4
      have hs4 := hr4.lt
      have KZ : Hid (∀ w', Below wr.heap.size wr w' → w'.cell? ⟨w.heap.size, 0, none⟩ = some (.int .i64 r) ∧ w'.cell? ⟨w.heap.size, 1, none⟩ = some (.int .i64 a) ∧ w'.cell? ⟨w.heap.size, 2, none⟩ = some (.int .i64 h) ∧ w'.cell? ⟨w.heap.size, 3, none⟩ = some (.int .i64 vm) ∧ w'.cell? ⟨w.heap.size, 4, none⟩ = some (.int .i64 nv) ∧ w'.cell? ⟨w.heap.size + 1, 0, none⟩ = some s ∧ w'.cell? ⟨w.heap.size + 1, 1, none⟩ = some c ∧ w'.cell? ⟨w.heap.size + 1, 2, none⟩ = some v ∧ w'.cell? ⟨w.heap.size + 1, 3, none⟩ = some (.int .i64 X.fuel)) := fun w' hb => by
        have q1 := (unhide HG).up hb
        have q2 := (unhide HRd).up hb
        exact ⟨q1.cell 0 _ rfl, q1.cell 1 _ rfl, q1.cell 2 _ rfl, q1.cell 3 _ rfl, q1.cell 4 _ rfl, q2.cell 0 _ rfl, q2.cell 1 _ rfl, q2.cell 2 _ rfl, q2.cell 3 _ rfl⟩
      clear hr4
      rcases t with ⟨x, xs⟩ | _
      focus
        obtain ⟨q1, q2, u, q3, q4⟩ := hth
        replace q1 := cell_up hb4 q1
        have Q4 := hide q4
        obtain ⟨ua, uc, rfl, _, _, _⟩ := q4
        have KY : Hid (∀ w', Below wr.heap.size wr w' → (w'.cell? ⟨w.heap.size, 0, none⟩ = some (.int .i64 r) ∧ w'.cell? ⟨w.heap.size, 1, none⟩ = some (.int .i64 a) ∧ w'.cell? ⟨w.heap.size, 2, none⟩ = some (.int .i64 h) ∧ w'.cell? ⟨w.heap.size, 3, none⟩ = some (.int .i64 vm) ∧ w'.cell? ⟨w.heap.size, 4, none⟩ = some (.int .i64 nv) ∧ w'.cell? ⟨w.heap.size + 1, 0, none⟩ = some s ∧ w'.cell? ⟨w.heap.size + 1, 1, none⟩ = some c ∧ w'.cell? ⟨w.heap.size + 1, 2, none⟩ = some v ∧ w'.cell? ⟨w.heap.size + 1, 3, none⟩ = some (.int .i64 X.fuel)) ∧ w'.cell? ⟨b, o + k * 3 + 1, none⟩ = some (.int .i64 x) ∧ w'.cell? ⟨b, o + k * 3 + 2, none⟩ = some (.slice ua xs.length uc)) := fun w' hb => ⟨unhide KZ _ hb, cell_up hb q2, cell_up hb q3⟩
        obtain ⟨⟨g0, g1, g2, g3, g4, f0, f1, f2, f3⟩, q2', q3'⟩ := unhide KY _ hb4
        clear q2 q3
        go_upto_region 8 with fail
        go_region_held3 (fun w' => (w'.cell? ⟨w.heap.size, 0, none⟩ = some (.int .i64 r) ∧ w'.cell? ⟨w.heap.size, 1, none⟩ = some (.int .i64 a) ∧ w'.cell? ⟨w.heap.size, 2, none⟩ = some (.int .i64 h) ∧ w'.cell? ⟨w.heap.size, 3, none⟩ = some (.int .i64 vm) ∧ w'.cell? ⟨w.heap.size, 4, none⟩ = some (.int .i64 nv) ∧ w'.cell? ⟨w.heap.size + 1, 0, none⟩ = some s ∧ w'.cell? ⟨w.heap.size + 1, 1, none⟩ = some c ∧ w'.cell? ⟨w.heap.size + 1, 2, none⟩ = some v ∧ w'.cell? ⟨w.heap.size + 1, 3, none⟩ = some (.int .i64 X.fuel)) ∧ w'.cell? ⟨b, o + k * 3 + 1, none⟩ = some (.int .i64 x) ∧ w'.cell? ⟨b, o + k * 3 + 2, none⟩ = some (.slice ua xs.length uc))
          (exact unhide KY _ (by repeat (first | exact hb4 | exact hb5' | apply Below.drew | refine bl_set ?_ (by simp <;> omega) _)))
          (first
            | (go_at_call 88; refine (putOf_any r a h vm nv s c v X x _ xs _ ((unhide HDEV).up (by repeat (first | exact hb4 | apply Below.drew))) ((unhide Q4).up (by repeat (first | exact hb4 | apply Below.drew)))).mono ?_; rintro e w5 ⟨s', c', v', rfl, hO, hb5⟩; have hEp : putE X x xs.length (chkE r a h vm nv X) = E := unhide HEE; rw [hEp] at hO ⊢; have hZp : putD X x xs E = Z := unhide HZ; rw [hZp] at hO ⊢; have hb5' : Below wr.heap.size wr w5 := Below.trans (by repeat (first | exact hb4 | apply Below.drew)) (Below.mono hb5 (Nat.le_of_lt hs4)); have hr5 : Row w5 wr.heap.size 28 [.slice none 0 0, .slice none 0 0, .slice none 0 0, .int .i64 0] := (Row.up (w := W4.drew) (by exact unhide HR4) hb5); have z0 := hr5.cell 0 _ rfl; have z1 := hr5.cell 1 _ rfl; have z2 := hr5.cell 2 _ rfl; have z3 := hr5.cell 3 _ rfl; have zf := hr5.unfrozen; have hod := hO.dev; obtain ⟨⟨y1, i1, rfl, _⟩, ⟨y2, i2, rfl, _⟩, ⟨y3, i3, rfl, _⟩⟩ := hod))
        go_upto_region 9 with fail
      rotate_left
      focus
        have q1 : wr.cell? ⟨b, o + k * 3, none⟩ = some (.bool true) := hth
        replace q1 := cell_up hb4 q1
        obtain ⟨g0, g1, g2, g3, g4, f0, f1, f2, f3⟩ := unhide KZ _ hb4
        go_wp2_with fail
        refine (flushedOf_any r a h vm nv s c v X _ ((unhide HDEV).up hb4)).mono ?_
        rintro e w5 ⟨s', c', v', rfl, hO, hb5⟩
        have hEp : marE X (chkE r a h vm nv X) = E := unhide HEE
        rw [hEp] at hO ⊢
        have hZp : fluD X E = Z := unhide HZ
        rw [hZp] at hO ⊢
        have hb5' : Below wr.heap.size wr w5 := Below.trans hb4 (Below.mono hb5 (Nat.le_of_lt hs4))
        have hr5 : Row w5 wr.heap.size 28 [.slice none 0 0, .slice none 0 0, .slice none 0 0, .int .i64 0] := (unhide HR4).up hb5
        have z0 := hr5.cell 0 _ rfl
        have z1 := hr5.cell 1 _ rfl
        have z2 := hr5.cell 2 _ rfl
        have z3 := hr5.cell 3 _ rfl
        have zf := hr5.unfrozen
        have hod := hO.dev
        obtain ⟨⟨y1, i1, rfl, _⟩, ⟨y2, i2, rfl, _⟩, ⟨y3, i3, rfl, _⟩⟩ := hod
        clear g0 g1 g2 g3 g4 f0 f1 f2 f3 q1
        go_upto_region 9 with fail
      all_goals
        obtain ⟨W6, hW6⟩ : ∃ W6, W6 = (((w5.setCell ⟨wr.heap.size, 0, none⟩ (.slice y1 Z.safe.length i1)).setCell ⟨wr.heap.size, 1, none⟩ (.slice y2 Z.cache.length i2)).setCell ⟨wr.heap.size, 2, none⟩ (.slice y3 Z.vols.length i3)).setCell ⟨wr.heap.size, 3, none⟩ (.int .i64 Z.fuel) := ⟨_, rfl⟩
        have hg6 : w5.grownBy W6 (some wr.heap.size) := by rw [hW6]; exact gb_set (gb_set (gb_set (gb_set (gb_refl _ _) _ _) _ _) _ _) _ _
        have hr6 : Row W6 wr.heap.size 28 [.slice y1 Z.safe.length i1, .slice y2 Z.cache.length i2, .slice y3 Z.vols.length i3, .int .i64 Z.fuel] := by rw [hW6]; exact R4 hr5 _ _ _ _
        rw [← hW6]
        clear hW6
        have hO6 : ODev W6 w.heap.size (.slice y1 Z.safe.length i1) (.slice y2 Z.cache.length i2) (.slice y3 Z.vols.length i3) Z := (hO.kept hr5 (by decide) (by decide) (by decide) (by decide) hg6).base (by have := hb.size; have := hb4.size; first | omega | (simp; omega))
        have hb6 : Below wr.heap.size wr W6 := bl_gb hb5' hg6 (Nat.le_refl _)
        have hbw6 : Below w.heap.size w W6 := bl_trans hb hb6
        have hG6 := (unhide HG).up hb6
        have hRd6 := (unhide HRd).up hb6
        have hRj6 := (unhide HRj).up hb6
        have hRr6 := (unhide HRr).up hb6
        have hRk6 := (unhide HRk).up hb6
        have HO6 := hide hO6
        have HG6 := hide hG6
        have HRd6 := hide hRd6
        have HRj6 := hide hRj6
        have HRr6 := hide hRr6
        have HRk6 := hide hRk6
        have hsz := hr6.lt
        clear hO hO6 hr5 z0 z1 z2 z3 zf hg6 hb5 hb5'
        by_cases hE0 : E = 0
        · subst hE0
          have HE' : Hid (doE r a h vm nv Z (ths.drop (k + 1)) = FE) := by
            have := unhide HE
            rw [unhide HDR] at this
            simp only [doE, unhide HEE, if_true] at this
            show _ = _
            rw [← this, ← unhide HZ]
          have HD' : Hid (doD r a h vm nv Z (ths.drop (k + 1)) = FD) := by
            have := unhide HDD
            rw [unhide HDR] at this
            simp only [doD, unhide HEE, if_true] at this
            show _ = _
            rw [← this, ← unhide HZ]
          have b0 := hr6.cell 0 _ rfl
          have b1 := hr6.cell 1 _ rfl
          have b2 := hr6.cell 2 _ rfl
          have b3 := hr6.cell 3 _ rfl
          have d0 := hRd6.cell 0 _ rfl
          have d1 := hRd6.cell 1 _ rfl
          have d2 := hRd6.cell 2 _ rfl
          have d3 := hRd6.cell 3 _ rfl
          have df := hRd6.unfrozen
          clear hG6 hRd6 hRj6 hRr6 hRk6 hr6
          go_wp2
          go_roundw
          case rel =>
            have hg := gb_set (gb_set (gb_set (gb_set (gb_refl W6 (some (w.heap.size + 1))) 0 (.slice y1 Z.safe.length i1)) 1 (.slice y2 Z.cache.length i2)) 2 (.slice y3 Z.vols.length i3)) 3 (.int .i64 Z.fuel)
            refine ⟨k + 1, Z, _, _, _, by omega, by go_num, (unhide HG6).kept hg (fun e => by injection e with e; omega), R4 (unhide HRd6) _ _ _ _, (unhide HRj6).kept hg (fun e => by injection e with e; omega), (unhide HRr6).kept hg (fun e => by injection e with e; omega), (unhide HRk6).kept hg (fun e => by injection e with e; omega), .inl ?_, unhide HE', unhide HD', ?_⟩
            · exact (unhide HO6).kept (unhide HRd6) (by decide) (by decide) (by decide) (by decide) hg
            · exact bl_gb hbw6 hg (by omega)
          case measure => (simp [intOf] <;> omega)
        have t0 : (E != 0) = true := by simpa using hE0
        have hFE : FE = E := by
          have := unhide HE
          rw [unhide HDR] at this
          simp only [doE, unhide HEE, if_neg hE0] at this
          exact this.symm
        by_cases hE10 : E = 10
        · have hFD : FD = X := by
            have := unhide HDD
            rw [unhide HDR] at this
            simp only [doD, unhide HEE, if_neg hE0, if_pos hE10] at this
            exact this.symm
          subst hE10
          obtain rfl := hFE
          obtain rfl := hFD
          have d0 := hRd6.cell 0 _ rfl
          have d1 := hRd6.cell 1 _ rfl
          have d2 := hRd6.cell 2 _ rfl
          have d3 := hRd6.cell 3 _ rfl
          have r0 := hRr6.cell 0 _ rfl
          have r1 := hRr6.cell 1 _ rfl
          have r2 := hRr6.cell 2 _ rfl
          have r3 := hRr6.cell 3 _ rfl
          have rf := hRr6.unfrozen
          have k0 := hRk6.cell 0 _ rfl
          have k1 := hRk6.cell 1 _ rfl
          have k2 := hRk6.cell 2 _ rfl
          have k3 := hRk6.cell 3 _ rfl
          have k4 := hRk6.cell 4 _ rfl
          have k5 := hRk6.cell 5 _ rfl
          have k6 := hRk6.cell 6 _ rfl
          have k7 := hRk6.cell 7 _ rfl
          have k8 := hRk6.cell 8 _ rfl
          have kf := hRk6.unfrozen
          have hdv6 := (unhide HDEV).up hb6
          obtain ⟨⟨x1, n1, rfl, _⟩, ⟨x2, n2, rfl, _⟩, ⟨x3, n3, rfl, _⟩⟩ := hdv6
          clear hG6 hRd6 hRj6 hRr6 hRk6 hr6 hE0
          go_wp2
          refine bodyPost_ret (v := .tuple #[.agg #[.slice x1 FD.safe.length n1, .slice x2 FD.cache.length n2, .slice x3 FD.vols.length n3, .int .i64 FD.fuel], .agg #[.int .i64 0, .int .i64 0, .int .i64 0, .int .i64 0, .int .i64 0, .int .i64 0, .int .i64 0, .int .i64 0, .int .i64 0], .int .i64 10]) (by simp [results, Try.results45, go_sem, *]) rfl ⟨_, _, _, ret_done rfl, ?_, ?_⟩
          · rcases unhide HX with q | q
            · exact .inl ((q.up hb6).st13 (unhide HRr6) (unhide HRk6))
            · exact .inr q
          · exact bl13 hbw6 (by omega) (by omega)
        · have hFD : FD = nilD := by
            have := unhide HDD
            rw [unhide HDR] at this
            simp only [doD, unhide HEE, if_neg hE0, if_neg hE10] at this
            exact this.symm
          have t1 : (E == 10) = false := by simpa using hE10
          obtain rfl := hFE
          subst hFD
          have r0 := hRr6.cell 0 _ rfl
          have r1 := hRr6.cell 1 _ rfl
          have r2 := hRr6.cell 2 _ rfl
          have r3 := hRr6.cell 3 _ rfl
          have rf := hRr6.unfrozen
          have k0 := hRk6.cell 0 _ rfl
          have k1 := hRk6.cell 1 _ rfl
          have k2 := hRk6.cell 2 _ rfl
          have k3 := hRk6.cell 3 _ rfl
          have k4 := hRk6.cell 4 _ rfl
          have k5 := hRk6.cell 5 _ rfl
          have k6 := hRk6.cell 6 _ rfl
          have k7 := hRk6.cell 7 _ rfl
          have k8 := hRk6.cell 8 _ rfl
          have kf := hRk6.unfrozen
          have HE0 := hide hE0
          clear hG6 hRd6 hRj6 hRr6 hRk6 hr6 hE0 hE10
          go_wp2
          refine bodyPost_ret (v := .tuple #[.agg #[.slice none 0 0, .slice none 0 0, .slice none 0 0, .int .i64 0], .agg #[.int .i64 0, .int .i64 0, .int .i64 0, .int .i64 0, .int .i64 0, .int .i64 0, .int .i64 0, .int .i64 0, .int .i64 0], .int .i64 FE]) (by simp [results, Try.results45, go_sem, *]) rfl ⟨_, _, _, rfl, ?_, ?_⟩
          · exact .inl (ODev.empty _ _ _)
          · exact bl13 hbw6 (by omega) (by omega)
    · have hE := unhide HE
      have hDD := unhide HDD
      rw [List.drop_of_length_le (by omega)] at hE hDD
      obtain rfl : X = FD := hDD
      obtain rfl : 0 = FE := hE
      have hRr := unhide HRr
      have hRk := unhide HRk
      have hRj := unhide HRj
      have hRd := unhide HRd
      have d0 := hRd.cell 0 _ rfl
      have d1 := hRd.cell 1 _ rfl
      have d2 := hRd.cell 2 _ rfl
      have d3 := hRd.cell 3 _ rfl
      have r0 := hRr.cell 0 _ rfl
      have r1 := hRr.cell 1 _ rfl
      have r2 := hRr.cell 2 _ rfl
      have r3 := hRr.cell 3 _ rfl
      have k0 := hRk.cell 0 _ rfl
      have k1 := hRk.cell 1 _ rfl
      have k2 := hRk.cell 2 _ rfl
      have k3 := hRk.cell 3 _ rfl
      have k4 := hRk.cell 4 _ rfl
      have k5 := hRk.cell 5 _ rfl
      have k6 := hRk.cell 6 _ rfl
      have k7 := hRk.cell 7 _ rfl
      have k8 := hRk.cell 8 _ rfl
      have jc0 := hRj.cell 0 _ rfl
      have jc1 := hRj.cell 1 _ rfl
      have jc2 := hRj.cell 2 _ rfl
      have jc3 := hRj.cell 3 _ rfl
      have jc4 := hRj.cell 4 _ rfl
      have jc5 := hRj.cell 5 _ rfl
      have jc6 := hRj.cell 6 _ rfl
      have jc7 := hRj.cell 7 _ rfl
      have jc8 := hRj.cell 8 _ rfl
      have rf := hRr.unfrozen
      have kf := hRk.unfrozen
      clear hRr hRk hRj hRd
      obtain ⟨⟨y1, z1, rfl, _⟩, ⟨y2, z2, rfl, _⟩, ⟨y3, z3, rfl, _⟩⟩ := hdev
      go_wp2
      go_region
      all_goals
        go_wp2
        refine bodyPost_ret (v := .tuple #[.agg #[.slice y1 X.safe.length z1, .slice y2 X.cache.length z2, .slice y3 X.vols.length z3, .int .i64 X.fuel], .agg #[.int .i64 j0, .int .i64 j1, .int .i64 j2, .int .i64 j3, .int .i64 j4, .int .i64 j5, .int .i64 j6, .int .i64 j7, .int .i64 j8], .int .i64 0]) (by simp [results, Try.results45, go_sem, *]) rfl ⟨_, _, _, ret_done rfl, ?_, ?_⟩
        · rcases unhide HX with q | q
          · exact .inl ((q.st13 (unhide HRr) (unhide HRk)).up (Below.drew (Below.refl _ _)))
          · exact .inr q
        · exact Below.drew (bl13 hb (by omega) (by omega))
end Go.Proofs.Ytjahaccplchmnaa
