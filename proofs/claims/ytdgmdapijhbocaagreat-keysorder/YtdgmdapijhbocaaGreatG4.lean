/- state.versionMayBe and what it asks. -/
import Derived.Test.YtdgmdapijhbocaaGreatG3
import Derived.Maps.OwnOps
import Derived.Maps.Views
namespace Go.Proofs.YtdgmdapijhbocaaGreat
open Go.RowKit
set_option maxRecDepth 100000
set_option linter.unusedVariables false
set_option linter.unusedSimpArgs false
def hasB (S : St) (bu : ByteArray) : Bool := decide (0 ≤ firstI S.bus.length (buP S.bus bu))
def namC (S : St) (id : Int) (bu ke : ByteArray) : Bool := inB id 1 (S.next - 1) && hasB S bu && worE ke 16 == 0
theorem namesMayBe_any (S : St) (b v u q g : Value) (id : Int) (bu ke : ByteArray) (w : World) (hB : Lst RBu 5 bu0 w b S.bus) (hk : ke.size ≤ maxLen) (hx : 1 ≤ S.next) (hx2 : S.next ≤ 1048576) :
    Calls Tryz.prog 95 #[stV S b v u q g, .int .i64 id, .string bu, .string ke] w fun e w' => e = .returned (.bool (namC S id bu ke)) ∧ Below w.heap.size w w' := by
  have HC : Hid (namC S id bu ke = (inB id 1 (S.next - 1) && hasB S bu && worE ke 16 == 0)) := rfl
  have HB := hide hB
  clear hB
  go_enter Tryz.func95, Tryz.ntmps95
  go_wp2_with fail
  refine (within_any _ _ _ _).mono ?_
  rintro e w1 ⟨rfl, rfl⟩
  cases h1 : inB id 1 (S.next - 1)
  · rw [h1] at HC
    go_wp2
    go_ret
    exact ⟨ret_bool (by rw [unhide HC]; rfl), bl1 _ _⟩
  · rw [h1] at HC
    clear h1
    go_wp2_with fail
    refine (findBucket_any S b v u q g bu _ ((unhide HB).imp fun _ _ _ r => RBu.up (bl1 _ _) r)).mono ?_
    rintro e w1 ⟨rfl, hb1⟩
    have HH : Hid (hasB S bu = decide (0 ≤ firstI S.bus.length (buP S.bus bu))) := rfl
    obtain ⟨I, hI⟩ : ∃ I, firstI S.bus.length (buP S.bus bu) = I := ⟨_, rfl⟩
    rw [hI] at HH ⊢
    clear hI
    by_cases h2 : 0 ≤ I
    · have HT : Hid (hasB S bu = true) := by show _ = _; rw [unhide HH]; exact decide_eq_true h2
      rw [unhide HT] at HC
      go_wp2_with fail
      refine (checkKey_any _ _ hk).mono ?_
      rintro e w2 ⟨rfl, hb2⟩
      go_wp2
      go_ret
      exact ⟨ret_bool (by rw [unhide HC]; rfl), bl_trans (bl1 _ _) (bl_trans hb1 hb2)⟩
    · have HT : Hid (hasB S bu = false) := by show _ = _; rw [unhide HH]; exact decide_eq_false h2
      rw [unhide HT] at HC
      go_wp2
      go_ret
      exact ⟨ret_bool (by rw [unhide HC]; rfl), bl_trans (bl1 _ _) hb1⟩
theorem offDisk_any (X : Ve) (ua : Option Addr) (un uc : Nat) (w : World) (hn : un ≤ 9223372036854775807) : Calls Tryz.prog 137 #[veV X (.slice ua un uc)] w fun e w' => e = .returned (.bool ((un : Int) == 0)) ∧ Below w.heap.size w w' := by
  go_enter Tryz.func137, Tryz.ntmps137
  go_wp2
  go_ret
  exact ⟨rfl, bl1 _ _⟩
theorem offTape_any (X : Ve) (u : Value) (w : World) : Calls Tryz.prog 138 #[veV X u] w fun e w' => e = .returned (.bool (X.vol == 0 && X.pos == 0)) ∧ Below w.heap.size w w' := by
  by_cases h : X.vol = 0
  · have HC : Hid ((X.vol == 0 && X.pos == 0) = (X.pos == 0)) := by show _ = _; rw [h]; rfl
    go_enter Tryz.func138, Tryz.ntmps138
    go_wp2
    go_ret
    exact ⟨ret_bool (by rw [unhide HC]), bl1 _ _⟩
  · have HC : Hid ((X.vol == 0 && X.pos == 0) = false) := by show _ = _; simp [h]
    have h' : (X.vol == 0) = false := by simp [h]
    go_enter Tryz.func138, Tryz.ntmps138
    go_wp2
    go_ret
    exact ⟨ret_bool (unhide HC).symm, bl1 _ _⟩
def isGone (S : St) (n : Int) : Bool := decide (0 ≤ firstI S.gone.length (goP S.gone n))
def onC (S : St) (x : Ve) : Bool := inB x.vol 0 7 && !isGone S x.vol && inB x.pos 0 4000
theorem onTape_any (S : St) (b v u q g : Value) (X : Ve) (y : Value) (w : World) (hG : Ints w g S.gone) : Calls Tryz.prog 140 #[stV S b v u q g, veV X y] w fun e w' => e = .returned (.bool (onC S X)) ∧ Below w.heap.size w w' := by
  have HC : Hid (onC S X = (inB X.vol 0 7 && !isGone S X.vol && inB X.pos 0 4000)) := rfl
  have HG := hide hG
  clear hG
  go_enter Tryz.func140, Tryz.ntmps140
  go_wp2_with fail
  refine (within_any _ _ _ _).mono ?_
  rintro e w1 ⟨rfl, rfl⟩
  cases h1 : inB X.vol 0 7
  · rw [h1] at HC
    go_wp2
    go_ret
    exact ⟨ret_bool (by rw [unhide HC]; rfl), bl_alloc (bl1 _ _) _⟩
  · rw [h1] at HC
    clear h1
    go_wp2_with fail
    refine (findGone_any S b v u q g _ _ (Ints.up (bl_alloc (bl1 _ _) _) (unhide HG))).mono ?_
    rintro e w1 ⟨rfl, hb1⟩
    have c10 := box2b hb1 10 (v := .int .i64 X.pos) rfl
    have HH : Hid (isGone S X.vol = decide (0 ≤ firstI S.gone.length (goP S.gone X.vol))) := rfl
    obtain ⟨I, hI⟩ : ∃ I, firstI S.gone.length (goP S.gone X.vol) = I := ⟨_, rfl⟩
    rw [hI] at HH ⊢
    clear hI
    by_cases h2 : 0 ≤ I
    · have HT : Hid (isGone S X.vol = true) := by show _ = _; rw [unhide HH]; exact decide_eq_true h2
      rw [unhide HT] at HC
      go_wp2
      go_ret
      exact ⟨ret_bool (by rw [unhide HC]; rfl), bl_trans (bl_alloc (bl1 _ _) _) hb1⟩
    · have HT : Hid (isGone S X.vol = false) := by show _ = _; rw [unhide HH]; exact decide_eq_false h2
      rw [unhide HT] at HC
      go_wp2_with fail
      refine (within_any _ _ _ _).mono ?_
      rintro e w1 ⟨rfl, rfl⟩
      go_wp2
      go_ret
      exact ⟨ret_bool (by rw [unhide HC]; rfl), bl_trans (bl_alloc (bl1 _ _) _) hb1⟩
/-- A version by itself. -/
def veC (S : St) (x : Ve) : Bool :=
  namC S x.id x.bu x.ke && inB x.time 0 S.clock &&
  (if x.mar then x.size == 0 && x.tier == 0 && (x.sec.length : Int) == 0 && (x.vol == 0 && x.pos == 0) && x.til == 0
   else inB x.size 0 600 && (if x.tier = 1 then (x.sec.length : Int) == secN x.size && (x.vol == 0 && x.pos == 0) && x.til == 0
     else if x.tier = 2 then (x.sec.length : Int) == 0 && onC S x && x.til == 0
     else if x.tier = 3 then (x.sec.length : Int) == secN x.size && onC S x && inB x.til 0 1073742824 else false))
theorem veC_n {S : St} {x : Ve} (h : namC S x.id x.bu x.ke = false) : veC S x = false := by simp [veC, h]
theorem veC_t {S : St} {x : Ve} (h : inB x.time 0 S.clock = false) : veC S x = false := by simp [veC, h]
theorem veC_m {S : St} {x : Ve} (h : namC S x.id x.bu x.ke = true) (h2 : inB x.time 0 S.clock = true) (hm : x.mar = true) : veC S x = (x.size == 0 && x.tier == 0 && (x.sec.length : Int) == 0 && (x.vol == 0 && x.pos == 0) && x.til == 0) := by simp [veC, h, h2, hm]
theorem veC_s {S : St} {x : Ve} (hm : x.mar = false) (h : inB x.size 0 600 = false) : veC S x = false := by simp [veC, h, hm]
theorem veC_1 {S : St} {x : Ve} (h : namC S x.id x.bu x.ke = true) (h2 : inB x.time 0 S.clock = true) (hm : x.mar = false) (hs : inB x.size 0 600 = true) (ht : x.tier = 1) : veC S x = ((x.sec.length : Int) == secN x.size && (x.vol == 0 && x.pos == 0) && x.til == 0) := by simp [veC, h, h2, hm, hs, ht]
theorem veC_2 {S : St} {x : Ve} (h : namC S x.id x.bu x.ke = true) (h2 : inB x.time 0 S.clock = true) (hm : x.mar = false) (hs : inB x.size 0 600 = true) (ht : x.tier = 2) : veC S x = ((x.sec.length : Int) == 0 && onC S x && x.til == 0) := by simp [veC, h, h2, hm, hs, ht]
theorem veC_3 {S : St} {x : Ve} (h : namC S x.id x.bu x.ke = true) (h2 : inB x.time 0 S.clock = true) (hm : x.mar = false) (hs : inB x.size 0 600 = true) (ht : x.tier = 3) : veC S x = ((x.sec.length : Int) == secN x.size && onC S x && inB x.til 0 1073742824) := by simp [veC, h, h2, hm, hs, ht]
theorem veC_0 {S : St} {x : Ve} (hm : x.mar = false) (h1 : x.tier ≠ 1) (h2 : x.tier ≠ 2) (h3 : x.tier ≠ 3) : veC S x = false := by simp [veC, hm, h1, h2, h3]
end Go.Proofs.YtdgmdapijhbocaaGreat

/- state.partsMayBe, uploadsMayBe. -/
namespace Go.Proofs.YtdgmdapijhbocaaGreat
open Go.RowKit
set_option maxRecDepth 100000
set_option linter.unusedVariables false
set_option linter.unusedSimpArgs false
theorem partsMayBe_1 (X Y : Pa) (a a' : Option Addr) (n c n' c' : Nat) (w : World) : Calls Tryz.prog 144 #[paV X (.slice a n c), paV Y (.slice a' n' c')] w fun e w' => e = .returned (.bool (decide (X.n < Y.n))) ∧ Below w.heap.size w w' := by
  go_enter Tryz.func144, Tryz.ntmps144
  go_wp2
  go_ret
  exact ⟨rfl, bl_alloc (bl1 _ _) _⟩
theorem uploadsMayBe_1 (X Y : Up) (a a' : Option Addr) (n c n' c' : Nat) (w : World) : Calls Tryz.prog 92 #[upV X (.slice a n c), upV Y (.slice a' n' c')] w fun e w' => e = .returned (.bool (decide (X.id < Y.id))) ∧ Below w.heap.size w w' := by
  go_enter Tryz.func92, Tryz.ntmps92
  go_wp2
  go_ret
  exact ⟨rfl, bl_alloc (bl1 _ _) _⟩
theorem versionsMayBe_1 (X Y : Ve) (a a' : Option Addr) (n c n' c' : Nat) (w : World) : Calls Tryz.prog 86 #[veV X (.slice a n c), veV Y (.slice a' n' c')] w fun e w' => e = .returned (.bool (decide (X.id < Y.id))) ∧ Below w.heap.size w w' := by
  go_enter Tryz.func86, Tryz.ntmps86
  go_wp2
  go_ret
  exact ⟨rfl, bl_alloc (bl1 _ _) _⟩
def paC (x : Pa) : Bool := inB x.n 1 5 && inB x.size 0 600 && (x.sec.length : Int) == secN x.size
theorem partsMayBe_2 (X : Pa) (ua : Option Addr) (un uc : Nat) (w : World) (hI : Ints w (.slice ua un uc) X.sec) : Calls Tryz.prog 146 #[paV X (.slice ua un uc)] w fun e w' => e = .returned (.bool (paC X)) ∧ Below w.heap.size w w' := by
  obtain ⟨hn, hc, hm⟩ := hI.len
  unfold maxLen at hm
  have hnn : un ≤ 9223372036854775807 := by omega
  have HE : Hid (paC X = (inB X.n 1 5 && inB X.size 0 600 && (un : Int) == secN X.size)) := by show _ = _; rw [hn]; rfl
  clear hI hn hc hm
  go_enter Tryz.func146, Tryz.ntmps146
  go_wp2_with fail
  refine (within_any _ _ _ _).mono ?_
  rintro e w2 ⟨rfl, rfl⟩
  cases h1 : inB X.n 1 5
  · rw [h1] at HE
    go_wp2
    go_ret
    exact ⟨ret_bool (by rw [unhide HE]; rfl), bl1 _ _⟩
  rw [h1] at HE
  clear h1
  go_wp2_with fail
  refine (within_any _ _ _ _).mono ?_
  rintro e w2 ⟨rfl, rfl⟩
  cases h1 : inB X.size 0 600
  · rw [h1] at HE
    go_wp2
    go_ret
    exact ⟨ret_bool (by rw [unhide HE]; rfl), bl1 _ _⟩
  rw [h1] at HE
  obtain ⟨z0, z1⟩ := inB_t h1
  clear h1
  go_wp2_with fail
  refine (rightMany_any _ _ _ _ _ hnn (by omega) (by omega)).mono ?_
  rintro e w2 ⟨rfl, rfl⟩
  go_wp2
  go_ret
  exact ⟨ret_bool (by rw [unhide HE]; rfl), bl1 _ _⟩
def pasP (l : List Pa) (i : Nat) : Bool := decide ((l.getD i pa0).n < (l.getD (i + 1) pa0).n)
def pasQ (l : List Pa) (i : Nat) : Bool := paC (l.getD i pa0)
def pasC (l : List Pa) : Bool := decide ((l.length : Int) ≤ 5) && allB (l.length - 1) (pasP l) && allB l.length (pasQ l)
theorem partsMayBe_any (bv : Value) (l : List Pa) (w : World) (hL : Lst RPa 3 pa0 w bv l) : Calls Tryz.prog 96 #[bv] w fun e w' => e = .returned (.bool (pasC l)) ∧ Below w.heap.size w w' := by
  obtain ⟨a, cap, rfl, h1, h2⟩ := hL.form
  unfold maxLen at h2
  have HL := hide hL
  clear hL
  by_cases hl : (l.length : Int) ≤ 5
  · have HC : Hid (pasC l = (allB (l.length - 1) (pasP l) && allB l.length (pasQ l))) := by show _ = _; unfold pasC; rw [decide_eq_true hl, Bool.true_and]
    go_enter Tryz.func96, Tryz.ntmps96
    go_wp2_with fail
    refine (rise_partsMayBe_1 a cap l (pasP l) _ (unhide HL) (by omega) (fun k wr X Y _ _ _ _ _ _ h e1 e2 => by subst e1 e2; exact partsMayBe_1 _ _ _ _ _ _ _ _ _)).mono ?_
    rintro e w1 ⟨rfl, hb⟩
    cases hr : allB (l.length - 1) (pasP l)
    · rw [hr] at HC
      go_wp2
      go_ret
      exact ⟨ret_bool (by rw [unhide HC]; rfl), hb⟩
    · rw [hr] at HC
      clear hr
      go_wp2_with fail
      refine (every_partsMayBe_2 a cap l (pasQ l) (fun _ wr => Below w.heap.size w wr) (fun wr => Below w.heap.size w wr) _ (by omega) (fun k wr hk hb => Lst.at (Pas.up hb (unhide HL)) hk) (fun _ _ _ x y => bl_trans x y) hb (fun k wr X ua un uc hk e hI hi => by
        subst e
        exact (partsMayBe_2 _ _ _ _ _ hi).mono fun _ _ ⟨x, y⟩ => ⟨x, fun _ => bl_trans hI y, fun _ => bl_trans hI y⟩)).mono ?_
      rintro e w2 ⟨rfl, hy, hn⟩
      have hb2 := both_ways hy hn
      clear hy hn
      go_wp2
      go_ret
      exact ⟨ret_bool (by rw [unhide HC]; rfl), hb2⟩
  · have HC : Hid (pasC l = false) := by show _ = _; unfold pasC; rw [decide_eq_false hl]; rfl
    go_enter Tryz.func96, Tryz.ntmps96
    go_wp2
    go_ret
    exact ⟨ret_bool (unhide HC).symm, Below.refl _ _⟩
/-- A state's box. -/
structure BoxS (w : World) (B : Nat) (S : St) (b v u q g : Value) : Prop where
  c0 : w.cell? ⟨B, 0, none⟩ = some (.int .i64 S.next)
  c1 : w.cell? ⟨B, 1, none⟩ = some (.int .i64 S.clock)
  c2 : w.cell? ⟨B, 2, none⟩ = some b
  c3 : w.cell? ⟨B, 3, none⟩ = some v
  c4 : w.cell? ⟨B, 4, none⟩ = some u
  c5 : w.cell? ⟨B, 5, none⟩ = some q
  c6 : w.cell? ⟨B, 6, none⟩ = some g
theorem BoxS.up {w w' : World} {B : Nat} {S : St} {b v u q g : Value} (h : BoxS w B S b v u q g) (hb : Below w.heap.size w w') : BoxS w' B S b v u q g := ⟨scell_up hb h.c0, scell_up hb h.c1, scell_up hb h.c2, scell_up hb h.c3, scell_up hb h.c4, scell_up hb h.c5, scell_up hb h.c6⟩
theorem BoxS.lt {w : World} {B : Nat} {S : St} {b v u q g : Value} (h : BoxS w B S b v u q g) : B < w.heap.size := World.block_lt_of_cell? w _ h.c0
theorem BoxS.new (w : World) (S : St) (b v u q g : Value) (t : TypeId) : BoxS (w.alloc (.cells #[.int .i64 S.next, .int .i64 S.clock, b, v, u, q, g] t)) w.heap.size S b v u q g := by
  constructor <;> (rw [World.cell?_alloc_at _ _ _ _ rfl]; rfl)
def upC (S : St) (x : Up) : Bool := namC S x.id x.bu x.ke && pasC x.parts
theorem uploadsMayBe_2 (S : St) (b v u q g : Value) (B : Nat) (X : Up) (ua : Option Addr) (un uc : Nat) (w : World) (hS : BoxS w B S b v u q g) (hB : Lst RBu 5 bu0 w b S.bus) (hI : Lst RPa 3 pa0 w (.slice ua un uc) X.parts) (hk : X.ke.size ≤ maxLen) (hx : 1 ≤ S.next) (hx2 : S.next ≤ 1048576) :
    Calls Tryz.prog 94 #[upV X (.slice ua un uc), .pointer (some ⟨B, 0, none⟩)] w fun e w' => e = .returned (.bool (upC S X)) ∧ Below w.heap.size w w' := by
  have HE : Hid (upC S X = (namC S X.id X.bu X.ke && pasC X.parts)) := rfl
  have hlt := hS.lt
  have c0 := hS.c0
  have c1 := hS.c1
  have c2 := hS.c2
  have c3 := hS.c3
  have c4 := hS.c4
  have c5 := hS.c5
  have c6 := hS.c6
  have HB := hide hB
  have HI := hide hI
  clear hS hB hI
  go_enter Tryz.func94, Tryz.ntmps94
  go_wp2_with fail
  refine (namesMayBe_any S b v u q g _ _ _ _ ((unhide HB).imp fun _ _ _ r => RBu.up (bl1 _ _) r) hk hx hx2).mono ?_
  rintro e w1 ⟨rfl, hb1⟩
  have x3 := box1 hb1 3 (v := .slice ua un uc) rfl
  cases h1 : namC S X.id X.bu X.ke
  · rw [h1] at HE
    go_wp2
    go_ret
    exact ⟨ret_bool (by rw [unhide HE]; rfl), bl_trans (bl1 _ _) hb1⟩
  rw [h1] at HE
  clear h1
  go_wp2_with fail
  refine (partsMayBe_any _ X.parts _ (Pas.up (bl_trans (bl1 _ _) hb1) (unhide HI))).mono ?_
  rintro e w2 ⟨rfl, hb2⟩
  go_wp2
  go_ret
  exact ⟨ret_bool (by rw [unhide HE]; rfl), bl_trans (bl_trans (bl1 _ _) hb1) hb2⟩
def upsP (l : List Up) (i : Nat) : Bool := decide ((l.getD i up0).id < (l.getD (i + 1) up0).id)
def upsQ (S : St) (i : Nat) : Bool := upC S (S.ups.getD i up0)
def upsC (S : St) : Bool := decide ((S.ups.length : Int) ≤ 4) && allB (S.ups.length - 1) (upsP S.ups) && allB S.ups.length (upsQ S)
theorem uploadsMayBe_any (S : St) (b v u q g : Value) (w : World) (hS : Sta w b v u q g S) (hx : 1 ≤ S.next) (hx2 : S.next ≤ 1048576) : Calls Tryz.prog 33 #[stV S b v u q g] w fun e w' => e = .returned (.bool (upsC S)) ∧ Below w.heap.size w w' := by
  obtain ⟨a, cap, rfl, h1, h2⟩ := hS.ups.form
  unfold maxLen at h2
  have HS := hide hS
  clear hS
  obtain ⟨n, hn⟩ : ∃ n, S.ups.length = n := ⟨_, rfl⟩
  by_cases hl : (S.ups.length : Int) ≤ 4
  · have HC : Hid (upsC S = (allB (S.ups.length - 1) (upsP S.ups) && allB S.ups.length (upsQ S))) := by show _ = _; unfold upsC; rw [decide_eq_true hl, Bool.true_and]
    clear hn
    go_enter Tryz.func33, Tryz.ntmps33
    go_wp2_with fail
    refine (rise_uploadsMayBe_1 a cap S.ups (upsP S.ups) _ ((unhide HS).ups.imp fun _ _ _ r => RUp.up (bl1 _ _) r) (by omega) (fun k wr X Y _ _ _ _ _ _ h e1 e2 => by subst e1 e2; exact uploadsMayBe_1 _ _ _ _ _ _ _ _ _)).mono ?_
    rintro e w1 ⟨rfl, hb⟩
    have HX := hide ((BoxS.new w S b v (.slice a S.ups.length cap) q g 29).up hb)
    have x4 := (unhide HX).c4
    cases hr : allB (S.ups.length - 1) (upsP S.ups)
    · rw [hr] at HC
      go_wp2
      go_ret
      exact ⟨ret_bool (by rw [unhide HC]; rfl), bl_trans (bl1 _ _) hb⟩
    · rw [hr] at HC
      clear hr
      go_wp2_with fail
      refine (every_uploadsMayBe_2 _ a cap S.ups (upsQ S) (fun _ wr => Below w1.heap.size w1 wr) (fun wr => Below w1.heap.size w1 wr) _ (by omega) (fun k wr hk hb2 => Lst.at (((unhide HS).up (bl_trans (bl_trans (bl1 _ _) hb) hb2)).ups) hk) (fun _ _ _ x y => bl_trans x y) (Below.refl _ _) (fun k wr X ua un uc hk e hI hi => by
        obtain ⟨_, _, _, r⟩ := Lst.at (unhide HS).ups hk
        rw [e] at r
        subst e
        exact (uploadsMayBe_2 S b v _ q g _ _ _ _ _ _ ((unhide HX).up hI) (((unhide HS).up (bl_trans (bl_trans (bl1 _ _) hb) hI)).bus) hi r.s2 hx hx2).mono fun _ _ ⟨x, y⟩ => ⟨x, fun _ => bl_trans hI y, fun _ => bl_trans hI y⟩)).mono ?_
      rintro e w2 ⟨rfl, hy, hn⟩
      have hb2 := both_ways hy hn
      clear hy hn
      go_wp2
      go_ret
      exact ⟨ret_bool (by rw [unhide HC]; rfl), bl_trans (bl_trans (bl1 _ _) hb) hb2⟩
  · have HC : Hid (upsC S = false) := by show _ = _; unfold upsC; rw [decide_eq_false hl]; rfl
    clear hn
    go_enter Tryz.func33, Tryz.ntmps33
    go_wp2
    go_ret
    exact ⟨ret_bool (unhide HC).symm, bl1 _ _⟩
end Go.Proofs.YtdgmdapijhbocaaGreat

/- Worlds in which every cell still has what it had; maps that count. -/
namespace Go.Proofs.YtdgmdapijhbocaaGreat
open Go.RowKit Go.Maps
set_option maxRecDepth 100000
set_option linter.unusedVariables false
set_option linter.unusedSimpArgs false
def Keeps (w w' : World) : Prop := ∀ a v, w.cell? a = some v → w'.cell? a = some v
theorem Keeps.of {w w' : World} (h : Below w.heap.size w w') : Keeps w w' := fun _ _ k => scell_up h k
theorem gb_refl (w : World) (r : Option Nat) : w.grownBy w r := ⟨rfl, rfl, rfl, Nat.le_refl _, fun _ _ _ => rfl⟩
theorem gb_trans {a b c : World} {r : Option Nat} (h : a.grownBy b r) (k : b.grownBy c r) : a.grownBy c r :=
  ⟨k.os.trans h.os, k.tape.trans h.tape, k.output.trans h.output, Nat.le_trans h.size k.size, fun i hi hne => (k.block i (Nat.lt_of_lt_of_le hi h.size) hne).trans (h.block i hi hne)⟩
theorem gb_below {a w : World} {r : Option Nat} (h : Below a.heap.size a w) : a.grownBy w r := ⟨h.os, h.tape, h.output, h.size, fun k hk _ => h.block k hk⟩
theorem bl_gb {a b c : World} (h : Below a.heap.size a b) {g : Nat} (k : b.grownBy c (some g)) (hg : a.heap.size ≤ g) : Below a.heap.size a c :=
  h.trans ⟨k.os, k.tape, k.output, k.size, fun i hi => k.block i (Nat.lt_of_lt_of_le hi h.size) (by simp; omega)⟩
/-- Block M is a map. -/
def MapAt (w : World) (M : Nat) : Prop := ∃ es c, w.heap[M]? = some (.map es c)
theorem MapAt.cell {w : World} {M : Nat} (h : MapAt w M) (o : Nat) (s : Option Nat) : w.cell? ⟨M, o, none⟩ = none := by
  obtain ⟨es, c, h⟩ := h
  simp [World.cell?, h]
theorem Keeps.map {w w' : World} {M : Nat} (h : MapAt w M) (hg : w.grownBy w' (some M)) : Keeps w w' := fun a v k => by
  have hb := World.block_lt_of_cell? w a k
  have hs : a.spot = none := World.cell?_spot k
  have hne : a.block ≠ M := by
    intro e
    obtain ⟨b, o, s⟩ := a
    simp only at hs e
    subst hs e
    rw [h.cell o none] at k
    cases k
  have hh := hg.block a.block hb (by simpa using hne)
  rw [← k]
  simp only [World.cell?, hh]
section
variable {w w' : World} (hb : Keeps w w')
include hb
theorem RInt.keep {b p : Nat} {x : Int} (h : RInt w b p x) : RInt w' b p x := ⟨hb _ _ h.1, h.2⟩
theorem Ints.keep {v : Value} {xs : List Int} (h : Ints w v xs) : Ints w' v xs := h.imp fun _ _ _ r => RInt.keep hb r
theorem RBu.keep {b p : Nat} {x : Bu} (h : RBu w b p x) : RBu w' b p x := ⟨hb _ _ h.c0, hb _ _ h.c1, hb _ _ h.c2, hb _ _ h.c3, hb _ _ h.c4, h.s0, h.s2⟩
theorem RVe.keep {b p : Nat} {x : Ve} (h : RVe w b p x) : RVe w' b p x := by
  obtain ⟨u, k, hu⟩ := h.c8
  exact ⟨hb _ _ h.c0, hb _ _ h.c1, hb _ _ h.c2, hb _ _ h.c3, hb _ _ h.c4, hb _ _ h.c5, hb _ _ h.c6, hb _ _ h.c7, ⟨u, hb _ _ k, Ints.keep hb hu⟩, hb _ _ h.c9, hb _ _ h.c10, hb _ _ h.c11, h.s1, h.s2⟩
theorem RPa.keep {b p : Nat} {x : Pa} (h : RPa w b p x) : RPa w' b p x := by
  obtain ⟨u, k, hu⟩ := h.c2
  exact ⟨hb _ _ h.c0, hb _ _ h.c1, ⟨u, hb _ _ k, Ints.keep hb hu⟩⟩
theorem Pas.keep {v : Value} {xs : List Pa} (h : Lst RPa 3 pa0 w v xs) : Lst RPa 3 pa0 w' v xs := h.imp fun _ _ _ r => RPa.keep hb r
theorem RUp.keep {b p : Nat} {x : Up} (h : RUp w b p x) : RUp w' b p x := by
  obtain ⟨u, k, hu⟩ := h.c3
  exact ⟨hb _ _ h.c0, hb _ _ h.c1, hb _ _ h.c2, ⟨u, hb _ _ k, Pas.keep hb hu⟩, h.s1, h.s2⟩
theorem RAk.keep {b p : Nat} {x : Ak} (h : RAk w b p x) : RAk w' b p x := ⟨hb _ _ h.c0, hb _ _ h.c1, hb _ _ h.c2, h.wv⟩
theorem Sta.keep {b v u q g : Value} {S : St} (h : Sta w b v u q g S) : Sta w' b v u q g S :=
  ⟨h.bus.imp fun _ _ _ r => RBu.keep hb r, h.ves.imp fun _ _ _ r => RVe.keep hb r, h.ups.imp fun _ _ _ r => RUp.keep hb r, h.que.imp fun _ _ _ r => RAk.keep hb r, Ints.keep hb h.gone⟩
theorem BoxS.keep {B : Nat} {S : St} {b v u q g : Value} (h : BoxS w B S b v u q g) : BoxS w' B S b v u q g := ⟨hb _ _ h.c0, hb _ _ h.c1, hb _ _ h.c2, hb _ _ h.c3, hb _ _ h.c4, hb _ _ h.c5, hb _ _ h.c6⟩
end
theorem Keeps.trans {a b c : World} (h : Keeps a b) (k : Keeps b c) : Keeps a c := fun x v e => k _ _ (h _ _ e)
/-- Block M is a map that counts numbers. -/
def Cnt (w : World) (M n : Nat) (f : Int → Nat) : Prop :=
  ∃ D : DataW Unit, w.ownsMap Tryz.prog 3 (plainElem Tryz.prog 3) M n D ∧ IsMap D ∧ (∀ x, D.atKey (.int .i64 x) (.lit (.int .i64 0)) = .lit (.int .i64 (f x))) ∧ ∀ x, f x ≤ n
theorem law3 : Keyed Tryz.prog 3 := int_keyed Tryz.underlying3
theorem zero3 (w : World) : (zeroValue 3).run Tryz.prog w = .ok (.int .i64 0) w := by kernel_rfl
section
variable {w w' : World} {M n : Nat} {f : Int → Nat}
theorem Cnt.made (w : World) : Cnt (w.alloc (.map #[] 0)) w.heap.size 0 (fun _ => 0) := ⟨.map [], World.ownsMap_made _ _ _ _, ⟨[], rfl⟩, fun x => rfl, fun _ => Nat.le_refl _⟩
theorem Cnt.mapAt (h : Cnt w M n f) : MapAt w M := by
  obtain ⟨D, ⟨es, c, h, _⟩, _⟩ := h
  exact ⟨es, c, h⟩
theorem Cnt.up (h : Cnt w M n f) (hb : Below w.heap.size w w') : Cnt w' M n f := by
  obtain ⟨D, h1, h2⟩ := h
  exact ⟨D, h1.kept (gb_below (r := none) hb) (by simp), h2⟩
theorem Cnt.look (h : Cnt w M n f) {x : Int} (hx : (Lit.int .i64 x).wf = true) : (Instr.lookup 82 (.map (some M)) (.int .i64 x) false).run Tryz.prog w = .ok (.int .i64 (f x)) w := by
  obtain ⟨D, h1, h2, h3, h4⟩ := h
  obtain ⟨c, hrun, hat, hwc⟩ := h1.lookup_int law3 Tryz.underlying82 Tryz.underlying3 (zero3 _) (keyOf_int_mk Tryz.underlying3 hx)
  rw [h3 x] at hat
  simp at hat
  rw [hrun, hat]
theorem Cnt.tick (h : Cnt w M n f) (hn : n < 1000000000) {x : Int} (hx : (Lit.int .i64 x).wf = true) : ∃ w', (Instr.mapUpdate 82 (.map (some M)) (.int .i64 x) (.int .i64 ((f x : Int) + 1))).run Tryz.prog w = .ok () w' ∧ Cnt w' M (n + 1) (fun y => if y = x then f y + 1 else f y) ∧ w.grownBy w' (some M) := by
  obtain ⟨D, h1, h2, h3, h4⟩ := h
  have hfx := h4 x
  have hlo : IntKind.i64.min = -9223372036854775808 := by decide
  have hhi : IntKind.i64.max = 9223372036854775807 := by decide
  have hwf : (Lit.int .i64 ((f x : Int) + 1)).wf = true := (Lit.wf_int_iff .i64 _).2 ⟨by omega, by omega⟩
  obtain ⟨w', hrun, r1, r2⟩ := h1.update law3 Tryz.underlying82 (by unfold maxLen; omega) (keyOf_int_mk Tryz.underlying3 hx) (plainElem_int Tryz.underlying3 hwf)
  refine ⟨w', hrun, ⟨_, r1, ?_, fun y => ?_, fun y => ?_⟩, r2⟩
  · obtain ⟨_, _, _, _, _, e⟩ := r1
    exact ⟨_, e⟩
  · by_cases e : y = x
    · subst e
      rw [atKey_put_same h2 (k := .int .i64 y) (by trivial)]
      simp
    · rw [atKey_put_other (by simpa using e), h3 y]
      simp [e]
  · have := h4 y
    simp only
    split <;> omega
end
end Go.Proofs.YtdgmdapijhbocaaGreat

/- state.takersOf, everySector, sectorsMayBe. -/
namespace Go.Proofs.YtdgmdapijhbocaaGreat
open Go.RowKit Go.Maps
set_option maxRecDepth 100000
set_option linter.unusedVariables false
set_option linter.unusedSimpArgs false
def secs (S : St) : List Int := S.ves.flatMap (·.sec) ++ S.ups.flatMap (fun u => u.parts.flatMap (·.sec))
theorem allB_all {α : Type} (p : α → Bool) (d : α) (xs : List α) : allB xs.length (fun k => p (xs.getD k d)) = xs.all p := by
  cases e : xs.all p
  · rw [List.all_eq_false] at e
    obtain ⟨x, hx, hp⟩ := e
    obtain ⟨k, hk, rfl⟩ := List.getElem_of_mem hx
    exact allB_f hk (by simpa [List.getD, hk] using hp)
  · rw [List.all_eq_true] at e
    exact allB_t fun j hj => by
      have := e _ (List.getElem_mem hj)
      simpa [List.getD, hj] using this
theorem take_next {α : Type} (xs : List α) (d : α) {k : Nat} (hk : k < xs.length) : xs.take (k + 1) = xs.take k ++ [xs.getD k d] := by
  rw [List.take_succ_eq_append_getElem hk]; simp [List.getD, hk]
theorem flat_next {α : Type} (f : α → List Int) (xs : List α) (d : α) {k : Nat} (hk : k < xs.length) : (xs.take (k + 1)).flatMap f = (xs.take k).flatMap f ++ f (xs.getD k d) := by
  rw [take_next xs d hk]; simp
theorem flat_pre {α : Type} (f : α → List Int) (xs : List α) (d : α) {k : Nat} (hk : k < xs.length) : (xs.take k).flatMap f ++ f (xs.getD k d) <+: xs.flatMap f := by
  rw [← flat_next f xs d hk]
  conv => rhs; rw [← List.take_append_drop (k + 1) xs, List.flatMap_append]
  exact List.prefix_append _ _
theorem pre_app {A B C L : List Int} (h : A ++ B <+: L) (k : C <+: B) : A ++ C <+: L := (List.prefix_append_right_inj A |>.2 k).trans h
/-- What is asked of each sector, one behind the other. -/
structure Stp (F : FuncId) (C : Value) (M : Nat) (L : List Int) (p : Int → Bool) (I : List Int → World → Prop) : Prop where
  up : ∀ pre wr wr', I pre wr → Below wr.heap.size wr wr' → I pre wr'
  mp : ∀ pre wr, I pre wr → MapAt wr M
  st : ∀ pre X wr, I pre wr → (Lit.int .i64 X).wf = true → pre ++ [X] <+: L → Calls Tryz.prog F #[.int .i64 X, C] wr fun e w' => e = .returned (.bool (p X)) ∧ wr.grownBy w' (some M) ∧ (p X = true → I (pre ++ [X]) w')
theorem evI_tak {C : Value} {M : Nat} {L : List Int} {p : Int → Bool} {I : List Int → World → Prop} (hs : Stp 103 C M L p I) (pre : List Int) (a : Option Addr) (cap : Nat) (xs : List Int) (w : World) (hI : I pre w) (hL : Ints w (.slice a xs.length cap) xs) (hp : pre ++ xs <+: L) :
    Calls Tryz.prog 76 #[.slice a xs.length cap, .func (.func 103) #[] #[C]] w fun e w' => e = .returned (.bool (xs.all p)) ∧ w.grownBy w' (some M) ∧ (xs.all p = true → I (pre ++ xs) w') := by
  have hn := hL.len.2
  unfold maxLen at hn
  refine (every_takersOf_1 C a cap xs (fun k => p (xs.getD k 0)) (fun k wr => I (pre ++ xs.take k) wr ∧ w.grownBy wr (some M) ∧ Ints wr (.slice a xs.length cap) xs) (fun wr => w.grownBy wr (some M)) w (by omega) (fun k wr hk h => Lst.at h.2.2 hk) (fun k wr wr' h hb => ⟨hs.up _ _ _ h.1 hb, gb_trans h.2.1 (gb_below hb), Ints.up hb h.2.2⟩) ⟨by simpa using hI, gb_refl _ _, hL⟩ (fun k wr X hk e h hw => ?_)).mono ?_
  · subst e
    refine (hs.st _ _ _ h.1 hw ?_).mono ?_
    · rw [List.append_assoc, ← take_next xs 0 hk]
      exact pre_app hp (List.take_prefix _ _)
    · rintro e w' ⟨rfl, hg, hy⟩
      refine ⟨rfl, fun hpk => ⟨?_, gb_trans h.2.1 hg, Ints.keep (Keeps.map (hs.mp _ _ h.1) hg) h.2.2⟩, fun _ => gb_trans h.2.1 hg⟩
      rw [take_next xs 0 hk, ← List.append_assoc]
      exact hy hpk
  · rintro e w' ⟨rfl, hy, hn⟩
    rw [allB_all] at *
    refine ⟨rfl, both_ways (fun h => (hy h).2.1) hn, fun h => ?_⟩
    have := (hy h).1
    rwa [List.take_of_length_le (Nat.le_refl _)] at this
set_option maxHeartbeats 1000000 in
theorem es1_tak {C : Value} {M : Nat} {L : List Int} {p : Int → Bool} {I : List Int → World → Prop} (hs : Stp 103 C M L p I) (pre : List Int) (X : Ve) (ua : Option Addr) (un uc H : Nat) (w : World) (hI : I pre w) (hL : Ints w (.slice ua un uc) X.sec) (hp : pre ++ X.sec <+: L) (hH : w.cell? ⟨H, 0, none⟩ = some (.func (.func 103) #[] #[C])) :
    Calls Tryz.prog 149 #[veV X (.slice ua un uc), .pointer (some ⟨H, 0, none⟩)] w fun e w' => e = .returned (.bool (X.sec.all p)) ∧ w.grownBy w' (some M) ∧ (X.sec.all p = true → I (pre ++ X.sec) w') := by
  have hlt := World.block_lt_of_cell? w _ hH
  simp at hlt
  obtain ⟨rfl, _, _⟩ := hL.len
  have HL := hide hL
  have HI := hide hI
  have HP := hide hp
  clear hL hI hp
  go_enter Tryz.func149, Tryz.ntmps149
  go_wp2_with fail
  refine (evI_tak hs pre ua uc X.sec _ (hs.up _ _ _ (unhide HI) (bl1 _ _)) (Ints.up (bl1 _ _) (unhide HL)) (unhide HP)).mono ?_
  rintro e w1 ⟨rfl, hg, hy⟩
  have HY := hide hy
  clear hy
  go_wp2
  go_ret
  exact ⟨rfl, gb_trans (gb_below (bl1 _ _)) hg, unhide HY⟩
set_option maxHeartbeats 1000000 in
theorem es21_tak {C : Value} {M : Nat} {L : List Int} {p : Int → Bool} {I : List Int → World → Prop} (hs : Stp 103 C M L p I) (pre : List Int) (X : Pa) (ua : Option Addr) (un uc H : Nat) (w : World) (hI : I pre w) (hL : Ints w (.slice ua un uc) X.sec) (hp : pre ++ X.sec <+: L) (hH : w.cell? ⟨H, 0, none⟩ = some (.func (.func 103) #[] #[C])) :
    Calls Tryz.prog 151 #[paV X (.slice ua un uc), .pointer (some ⟨H, 0, none⟩)] w fun e w' => e = .returned (.bool (X.sec.all p)) ∧ w.grownBy w' (some M) ∧ (X.sec.all p = true → I (pre ++ X.sec) w') := by
  have hlt := World.block_lt_of_cell? w _ hH
  simp at hlt
  obtain ⟨rfl, _, _⟩ := hL.len
  have HL := hide hL
  have HI := hide hI
  have HP := hide hp
  clear hL hI hp
  go_enter Tryz.func151, Tryz.ntmps151
  go_wp2_with fail
  refine (evI_tak hs pre ua uc X.sec _ (hs.up _ _ _ (unhide HI) (bl1 _ _)) (Ints.up (bl1 _ _) (unhide HL)) (unhide HP)).mono ?_
  rintro e w1 ⟨rfl, hg, hy⟩
  have HY := hide hy
  clear hy
  go_wp2
  go_ret
  exact ⟨rfl, gb_trans (gb_below (bl1 _ _)) hg, unhide HY⟩
set_option maxHeartbeats 1000000 in
theorem es2_tak {C : Value} {M : Nat} {L : List Int} {p : Int → Bool} {I : List Int → World → Prop} (hs : Stp 103 C M L p I) (pre : List Int) (X : Up) (ua : Option Addr) (un uc H : Nat) (w : World) (hI : I pre w) (hL : Lst RPa 3 pa0 w (.slice ua un uc) X.parts) (hp : pre ++ X.parts.flatMap (·.sec) <+: L) (hH : w.cell? ⟨H, 0, none⟩ = some (.func (.func 103) #[] #[C])) :
    Calls Tryz.prog 150 #[upV X (.slice ua un uc), .pointer (some ⟨H, 0, none⟩)] w fun e w' => e = .returned (.bool ((X.parts.flatMap (·.sec)).all p)) ∧ w.grownBy w' (some M) ∧ ((X.parts.flatMap (·.sec)).all p = true → I (pre ++ X.parts.flatMap (·.sec)) w') := by
  obtain ⟨rfl, hn1, hn2⟩ := hL.len
  unfold maxLen at hn2
  have HL := hide hL
  have HI := hide hI
  have HP := hide hp
  have HH := hide hH
  clear hL hI hp hH
  go_enter Tryz.func150, Tryz.ntmps150
  go_wp2_with fail
  refine (every_everySector_2_1 _ ua uc X.parts (fun k => (X.parts.getD k pa0).sec.all p) (fun k wr => I (pre ++ (X.parts.take k).flatMap (·.sec)) wr ∧ w.grownBy wr (some M) ∧ Lst RPa 3 pa0 wr (.slice ua X.parts.length uc) X.parts ∧ wr.cell? ⟨H, 0, none⟩ = some (.func (.func 103) #[] #[C])) (fun wr => w.grownBy wr (some M)) _ (by omega) (fun k wr hk h => Lst.at h.2.2.1 hk) (fun k wr wr' h hb => ⟨hs.up _ _ _ h.1 hb, gb_trans h.2.1 (gb_below hb), Pas.up hb h.2.2.1, scell_up hb h.2.2.2⟩) ⟨by simpa using hs.up _ _ _ (unhide HI) (bl1 _ _), gb_below (bl1 _ _), Pas.up (bl1 _ _) (unhide HL), scell_up (bl1 _ _) (unhide HH)⟩ (fun k wr Y ya yn yc hk e h hi => ?_)).mono ?_
  · subst e
    refine (es21_tak hs _ _ ya yn yc H wr h.1 hi ?_ h.2.2.2).mono ?_
    · rw [List.append_assoc]
      exact pre_app (unhide HP) (flat_pre _ _ pa0 hk)
    · rintro e w' ⟨rfl, hg, hy⟩
      refine ⟨rfl, fun hpk => ⟨?_, gb_trans h.2.1 hg, Pas.keep (Keeps.map (hs.mp _ _ h.1) hg) h.2.2.1, (Keeps.map (hs.mp _ _ h.1) hg) _ _ h.2.2.2⟩, fun _ => gb_trans h.2.1 hg⟩
      rw [flat_next _ _ pa0 hk, ← List.append_assoc]
      exact hy hpk
  · rintro e w1 ⟨rfl, hy, hn⟩
    rw [allB_all (fun x : Pa => x.sec.all p)] at *
    have he : (X.parts.flatMap (·.sec)).all p = X.parts.all (fun x => x.sec.all p) := List.all_flatMap
    have HR : Hid (w.grownBy w1 (some M) ∧ ((X.parts.flatMap (·.sec)).all p = true → I (pre ++ X.parts.flatMap (·.sec)) w1)) := ⟨both_ways (fun h => (hy h).2.1) hn, fun h => by
      have := (hy (he ▸ h)).1
      rwa [List.take_of_length_le (Nat.le_refl _)] at this⟩
    have HE := hide he
    clear hy hn he
    go_wp2
    go_ret
    exact ⟨ret_bool (unhide HE).symm, (unhide HR).1, (unhide HR).2⟩
theorem evI_may {C : Value} {M : Nat} {L : List Int} {p : Int → Bool} {I : List Int → World → Prop} (hs : Stp 102 C M L p I) (pre : List Int) (a : Option Addr) (cap : Nat) (xs : List Int) (w : World) (hI : I pre w) (hL : Ints w (.slice a xs.length cap) xs) (hp : pre ++ xs <+: L) :
    Calls Tryz.prog 76 #[.slice a xs.length cap, .func (.func 102) #[] #[C]] w fun e w' => e = .returned (.bool (xs.all p)) ∧ w.grownBy w' (some M) ∧ (xs.all p = true → I (pre ++ xs) w') := by
  have hn := hL.len.2
  unfold maxLen at hn
  refine (every_sectorsMayBe_1 C a cap xs (fun k => p (xs.getD k 0)) (fun k wr => I (pre ++ xs.take k) wr ∧ w.grownBy wr (some M) ∧ Ints wr (.slice a xs.length cap) xs) (fun wr => w.grownBy wr (some M)) w (by omega) (fun k wr hk h => Lst.at h.2.2 hk) (fun k wr wr' h hb => ⟨hs.up _ _ _ h.1 hb, gb_trans h.2.1 (gb_below hb), Ints.up hb h.2.2⟩) ⟨by simpa using hI, gb_refl _ _, hL⟩ (fun k wr X hk e h hw => ?_)).mono ?_
  · subst e
    refine (hs.st _ _ _ h.1 hw ?_).mono ?_
    · rw [List.append_assoc, ← take_next xs 0 hk]
      exact pre_app hp (List.take_prefix _ _)
    · rintro e w' ⟨rfl, hg, hy⟩
      refine ⟨rfl, fun hpk => ⟨?_, gb_trans h.2.1 hg, Ints.keep (Keeps.map (hs.mp _ _ h.1) hg) h.2.2⟩, fun _ => gb_trans h.2.1 hg⟩
      rw [take_next xs 0 hk, ← List.append_assoc]
      exact hy hpk
  · rintro e w' ⟨rfl, hy, hn⟩
    rw [allB_all] at *
    refine ⟨rfl, both_ways (fun h => (hy h).2.1) hn, fun h => ?_⟩
    have := (hy h).1
    rwa [List.take_of_length_le (Nat.le_refl _)] at this
set_option maxHeartbeats 1000000 in
theorem es1_may {C : Value} {M : Nat} {L : List Int} {p : Int → Bool} {I : List Int → World → Prop} (hs : Stp 102 C M L p I) (pre : List Int) (X : Ve) (ua : Option Addr) (un uc H : Nat) (w : World) (hI : I pre w) (hL : Ints w (.slice ua un uc) X.sec) (hp : pre ++ X.sec <+: L) (hH : w.cell? ⟨H, 0, none⟩ = some (.func (.func 102) #[] #[C])) :
    Calls Tryz.prog 149 #[veV X (.slice ua un uc), .pointer (some ⟨H, 0, none⟩)] w fun e w' => e = .returned (.bool (X.sec.all p)) ∧ w.grownBy w' (some M) ∧ (X.sec.all p = true → I (pre ++ X.sec) w') := by
  have hlt := World.block_lt_of_cell? w _ hH
  simp at hlt
  obtain ⟨rfl, _, _⟩ := hL.len
  have HL := hide hL
  have HI := hide hI
  have HP := hide hp
  clear hL hI hp
  go_enter Tryz.func149, Tryz.ntmps149
  go_wp2_with fail
  refine (evI_may hs pre ua uc X.sec _ (hs.up _ _ _ (unhide HI) (bl1 _ _)) (Ints.up (bl1 _ _) (unhide HL)) (unhide HP)).mono ?_
  rintro e w1 ⟨rfl, hg, hy⟩
  have HY := hide hy
  clear hy
  go_wp2
  go_ret
  exact ⟨rfl, gb_trans (gb_below (bl1 _ _)) hg, unhide HY⟩
set_option maxHeartbeats 1000000 in
theorem es21_may {C : Value} {M : Nat} {L : List Int} {p : Int → Bool} {I : List Int → World → Prop} (hs : Stp 102 C M L p I) (pre : List Int) (X : Pa) (ua : Option Addr) (un uc H : Nat) (w : World) (hI : I pre w) (hL : Ints w (.slice ua un uc) X.sec) (hp : pre ++ X.sec <+: L) (hH : w.cell? ⟨H, 0, none⟩ = some (.func (.func 102) #[] #[C])) :
    Calls Tryz.prog 151 #[paV X (.slice ua un uc), .pointer (some ⟨H, 0, none⟩)] w fun e w' => e = .returned (.bool (X.sec.all p)) ∧ w.grownBy w' (some M) ∧ (X.sec.all p = true → I (pre ++ X.sec) w') := by
  have hlt := World.block_lt_of_cell? w _ hH
  simp at hlt
  obtain ⟨rfl, _, _⟩ := hL.len
  have HL := hide hL
  have HI := hide hI
  have HP := hide hp
  clear hL hI hp
  go_enter Tryz.func151, Tryz.ntmps151
  go_wp2_with fail
  refine (evI_may hs pre ua uc X.sec _ (hs.up _ _ _ (unhide HI) (bl1 _ _)) (Ints.up (bl1 _ _) (unhide HL)) (unhide HP)).mono ?_
  rintro e w1 ⟨rfl, hg, hy⟩
  have HY := hide hy
  clear hy
  go_wp2
  go_ret
  exact ⟨rfl, gb_trans (gb_below (bl1 _ _)) hg, unhide HY⟩
set_option maxHeartbeats 1000000 in
theorem es2_may {C : Value} {M : Nat} {L : List Int} {p : Int → Bool} {I : List Int → World → Prop} (hs : Stp 102 C M L p I) (pre : List Int) (X : Up) (ua : Option Addr) (un uc H : Nat) (w : World) (hI : I pre w) (hL : Lst RPa 3 pa0 w (.slice ua un uc) X.parts) (hp : pre ++ X.parts.flatMap (·.sec) <+: L) (hH : w.cell? ⟨H, 0, none⟩ = some (.func (.func 102) #[] #[C])) :
    Calls Tryz.prog 150 #[upV X (.slice ua un uc), .pointer (some ⟨H, 0, none⟩)] w fun e w' => e = .returned (.bool ((X.parts.flatMap (·.sec)).all p)) ∧ w.grownBy w' (some M) ∧ ((X.parts.flatMap (·.sec)).all p = true → I (pre ++ X.parts.flatMap (·.sec)) w') := by
  obtain ⟨rfl, hn1, hn2⟩ := hL.len
  unfold maxLen at hn2
  have HL := hide hL
  have HI := hide hI
  have HP := hide hp
  have HH := hide hH
  clear hL hI hp hH
  go_enter Tryz.func150, Tryz.ntmps150
  go_wp2_with fail
  refine (every_everySector_2_1 _ ua uc X.parts (fun k => (X.parts.getD k pa0).sec.all p) (fun k wr => I (pre ++ (X.parts.take k).flatMap (·.sec)) wr ∧ w.grownBy wr (some M) ∧ Lst RPa 3 pa0 wr (.slice ua X.parts.length uc) X.parts ∧ wr.cell? ⟨H, 0, none⟩ = some (.func (.func 102) #[] #[C])) (fun wr => w.grownBy wr (some M)) _ (by omega) (fun k wr hk h => Lst.at h.2.2.1 hk) (fun k wr wr' h hb => ⟨hs.up _ _ _ h.1 hb, gb_trans h.2.1 (gb_below hb), Pas.up hb h.2.2.1, scell_up hb h.2.2.2⟩) ⟨by simpa using hs.up _ _ _ (unhide HI) (bl1 _ _), gb_below (bl1 _ _), Pas.up (bl1 _ _) (unhide HL), scell_up (bl1 _ _) (unhide HH)⟩ (fun k wr Y ya yn yc hk e h hi => ?_)).mono ?_
  · subst e
    refine (es21_may hs _ _ ya yn yc H wr h.1 hi ?_ h.2.2.2).mono ?_
    · rw [List.append_assoc]
      exact pre_app (unhide HP) (flat_pre _ _ pa0 hk)
    · rintro e w' ⟨rfl, hg, hy⟩
      refine ⟨rfl, fun hpk => ⟨?_, gb_trans h.2.1 hg, Pas.keep (Keeps.map (hs.mp _ _ h.1) hg) h.2.2.1, (Keeps.map (hs.mp _ _ h.1) hg) _ _ h.2.2.2⟩, fun _ => gb_trans h.2.1 hg⟩
      rw [flat_next _ _ pa0 hk, ← List.append_assoc]
      exact hy hpk
  · rintro e w1 ⟨rfl, hy, hn⟩
    rw [allB_all (fun x : Pa => x.sec.all p)] at *
    have he : (X.parts.flatMap (·.sec)).all p = X.parts.all (fun x => x.sec.all p) := List.all_flatMap
    have HR : Hid (w.grownBy w1 (some M) ∧ ((X.parts.flatMap (·.sec)).all p = true → I (pre ++ X.parts.flatMap (·.sec)) w1)) := ⟨both_ways (fun h => (hy h).2.1) hn, fun h => by
      have := (hy (he ▸ h)).1
      rwa [List.take_of_length_le (Nat.le_refl _)] at this⟩
    have HE := hide he
    clear hy hn he
    go_wp2
    go_ret
    exact ⟨ret_bool (unhide HE).symm, (unhide HR).1, (unhide HR).2⟩
end Go.Proofs.YtdgmdapijhbocaaGreat

/- state.everySector, takersOf, sectorsMayBe. -/
namespace Go.Proofs.YtdgmdapijhbocaaGreat
open Go.RowKit Go.Maps
set_option maxRecDepth 100000
set_option linter.unusedVariables false
set_option linter.unusedSimpArgs false
set_option maxHeartbeats 2000000 in
theorem everySector_tak {C : Value} {M : Nat} {p : Int → Bool} {I : List Int → World → Prop} (S : St) (b v u q g : Value) (hs : Stp 103 C M (secs S) p I) (w : World) (hI : I [] w) (hS : Sta w b v u q g S) :
    Calls Tryz.prog 101 #[stV S b v u q g, .func (.func 103) #[] #[C]] w fun e w' => e = .returned (.bool ((secs S).all p)) ∧ w.grownBy w' (some M) ∧ ((secs S).all p = true → I (secs S) w') := by
  obtain ⟨va, vc, rfl, hv1, hv2⟩ := hS.ves.form
  obtain ⟨ua, uc, rfl, hu1, hu2⟩ := hS.ups.form
  unfold maxLen at hv2 hu2
  have HS := hide hS
  have HI := hide hI
  have he : (secs S).all p = (S.ves.all (fun x => x.sec.all p) && S.ups.all (fun x => (x.parts.flatMap (·.sec)).all p)) := by
    unfold secs; rw [List.all_append, List.all_flatMap, List.all_flatMap]
  have HE := hide he
  clear hS hI he
  go_enter Tryz.func101, Tryz.ntmps101
  go_wp2_with fail
  obtain ⟨w2, hw2⟩ : ∃ w2, (w.alloc (.cells #[.int .i64 S.next, .int .i64 S.clock, b, .slice va S.ves.length vc, .slice ua S.ups.length uc, q, g] 29)).alloc (.cells #[.func (.func 103) #[] #[C]] 119) = w2 := ⟨_, rfl⟩
  have hb2 : Below w.heap.size w w2 := by rw [← hw2]; exact bl_alloc (bl1 _ _) _
  have hI2 := hs.up _ _ _ (unhide HI) hb2
  have hM2 := hs.mp _ _ hI2
  have hS2 := (unhide HS).up hb2
  have hX2 : BoxS w2 w.heap.size S b (.slice va S.ves.length vc) (.slice ua S.ups.length uc) q g := by rw [← hw2]; exact (BoxS.new w S b _ _ q g _).up (bl1 _ _)
  have hH2 : w2.cell? ⟨w.heap.size + 1, 0, none⟩ = some (.func (.func 103) #[] #[C]) := by rw [← hw2]; rw [World.cell?_alloc_at _ _ _ _ (by simp)]; rfl
  rw [hw2]
  clear hw2
  refine (every_everySector_1 _ va vc S.ves (fun k => (S.ves.getD k ve0).sec.all p) (fun k wr => I ((S.ves.take k).flatMap (fun x : Ve => x.sec)) wr ∧ w2.grownBy wr (some M)) (fun wr => w2.grownBy wr (some M)) _ (by omega) (fun k wr hk h => Lst.at (hS2.keep (Keeps.map hM2 h.2)).ves hk) (fun k wr wr' h hb => ⟨hs.up _ _ _ h.1 hb, gb_trans h.2 (gb_below hb)⟩) ⟨hI2, gb_refl _ _⟩ (fun k wr Y ya yn yc hk e h hi => ?_)).mono ?_
  · subst e
    refine (es1_tak hs _ _ ya yn yc (w.heap.size + 1) wr h.1 hi ?_ (Keeps.map hM2 h.2 _ _ hH2)).mono ?_
    · exact (flat_pre _ _ ve0 hk).trans (List.prefix_append _ _)
    · rintro e w' ⟨rfl, hg, hy⟩
      refine ⟨rfl, fun hpk => ⟨?_, gb_trans h.2 hg⟩, fun _ => gb_trans h.2 hg⟩
      rw [flat_next _ _ ve0 hk]
      exact hy hpk
  · rintro e w1 ⟨rfl, hy, hn⟩
    rw [allB_all (fun x : Ve => x.sec.all p)] at *
    have hg1 : w2.grownBy w1 (some M) := both_ways (fun h => (hy h).2) hn
    have x4 := (hX2.keep (Keeps.map hM2 hg1)).c4
    have HX2 := hide hX2
    have HS2 := hide hS2
    have HH2 := hide hH2
    have HY := hide hy
    clear hy hn hX2 hS2 hH2 hI2
    cases ha : S.ves.all (fun x => x.sec.all p)
    · have HF : Hid ((secs S).all p = false) := by show _ = _; rw [unhide HE, ha]; rfl
      clear ha
      go_wp2
      go_ret
      exact ⟨ret_bool (unhide HF).symm, gb_trans (gb_below hb2) hg1, fun h => absurd ((unhide HF).symm.trans h) (by decide)⟩
    · have HF : Hid ((secs S).all p = S.ups.all (fun x => (x.parts.flatMap (·.sec)).all p)) := by show _ = _; rw [unhide HE, ha]; rfl
      have HI1 : Hid (I (S.ves.flatMap (fun x : Ve => x.sec)) w1) := by
        have := (unhide HY ha).1
        rwa [List.take_of_length_le (Nat.le_refl _)] at this
      clear ha HY
      go_wp2_with fail
      refine (every_everySector_2 _ ua uc S.ups (fun k => ((S.ups.getD k up0).parts.flatMap (·.sec)).all p) (fun k wr => I (S.ves.flatMap (fun x : Ve => x.sec) ++ (S.ups.take k).flatMap (fun x : Up => x.parts.flatMap (·.sec))) wr ∧ w2.grownBy wr (some M)) (fun wr => w2.grownBy wr (some M)) _ (by omega) (fun k wr hk h => Lst.at ((unhide HS2).keep (Keeps.map hM2 h.2)).ups hk) (fun k wr wr' h hb => ⟨hs.up _ _ _ h.1 hb, gb_trans h.2 (gb_below hb)⟩) ⟨by simpa using unhide HI1, hg1⟩ (fun k wr Y ya yn yc hk e h hi => ?_)).mono ?_
      · subst e
        refine (es2_tak hs _ _ ya yn yc (w.heap.size + 1) wr h.1 hi ?_ (Keeps.map hM2 h.2 _ _ (unhide HH2))).mono ?_
        · rw [List.append_assoc]
          exact pre_app (List.prefix_refl _) (flat_pre (fun x : Up => x.parts.flatMap (·.sec)) _ up0 hk)
        · rintro e w' ⟨rfl, hg, hy⟩
          refine ⟨rfl, fun hpk => ⟨?_, gb_trans h.2 hg⟩, fun _ => gb_trans h.2 hg⟩
          rw [flat_next (fun x : Up => x.parts.flatMap (·.sec)) _ up0 hk, ← List.append_assoc]
          exact hy hpk
      · rintro e w3 ⟨rfl, hy, hn⟩
        rw [allB_all (fun x : Up => (x.parts.flatMap (·.sec)).all p)] at *
        have HR : Hid (w.grownBy w3 (some M) ∧ ((secs S).all p = true → I (secs S) w3)) := ⟨gb_trans (gb_below hb2) (both_ways (fun h => (hy h).2) hn), fun h => by
          have := (hy (unhide HF ▸ h)).1
          rwa [List.take_of_length_le (Nat.le_refl _)] at this⟩
        clear hy hn
        go_wp2
        go_ret
        exact ⟨ret_bool (by rw [unhide HF]; simp [List.all_flatMap]), (unhide HR).1, (unhide HR).2⟩
set_option maxHeartbeats 2000000 in
theorem everySector_may {C : Value} {M : Nat} {p : Int → Bool} {I : List Int → World → Prop} (S : St) (b v u q g : Value) (hs : Stp 102 C M (secs S) p I) (w : World) (hI : I [] w) (hS : Sta w b v u q g S) :
    Calls Tryz.prog 101 #[stV S b v u q g, .func (.func 102) #[] #[C]] w fun e w' => e = .returned (.bool ((secs S).all p)) ∧ w.grownBy w' (some M) ∧ ((secs S).all p = true → I (secs S) w') := by
  obtain ⟨va, vc, rfl, hv1, hv2⟩ := hS.ves.form
  obtain ⟨ua, uc, rfl, hu1, hu2⟩ := hS.ups.form
  unfold maxLen at hv2 hu2
  have HS := hide hS
  have HI := hide hI
  have he : (secs S).all p = (S.ves.all (fun x => x.sec.all p) && S.ups.all (fun x => (x.parts.flatMap (·.sec)).all p)) := by
    unfold secs; rw [List.all_append, List.all_flatMap, List.all_flatMap]
  have HE := hide he
  clear hS hI he
  go_enter Tryz.func101, Tryz.ntmps101
  go_wp2_with fail
  obtain ⟨w2, hw2⟩ : ∃ w2, (w.alloc (.cells #[.int .i64 S.next, .int .i64 S.clock, b, .slice va S.ves.length vc, .slice ua S.ups.length uc, q, g] 29)).alloc (.cells #[.func (.func 102) #[] #[C]] 119) = w2 := ⟨_, rfl⟩
  have hb2 : Below w.heap.size w w2 := by rw [← hw2]; exact bl_alloc (bl1 _ _) _
  have hI2 := hs.up _ _ _ (unhide HI) hb2
  have hM2 := hs.mp _ _ hI2
  have hS2 := (unhide HS).up hb2
  have hX2 : BoxS w2 w.heap.size S b (.slice va S.ves.length vc) (.slice ua S.ups.length uc) q g := by rw [← hw2]; exact (BoxS.new w S b _ _ q g _).up (bl1 _ _)
  have hH2 : w2.cell? ⟨w.heap.size + 1, 0, none⟩ = some (.func (.func 102) #[] #[C]) := by rw [← hw2]; rw [World.cell?_alloc_at _ _ _ _ (by simp)]; rfl
  rw [hw2]
  clear hw2
  refine (every_everySector_1 _ va vc S.ves (fun k => (S.ves.getD k ve0).sec.all p) (fun k wr => I ((S.ves.take k).flatMap (fun x : Ve => x.sec)) wr ∧ w2.grownBy wr (some M)) (fun wr => w2.grownBy wr (some M)) _ (by omega) (fun k wr hk h => Lst.at (hS2.keep (Keeps.map hM2 h.2)).ves hk) (fun k wr wr' h hb => ⟨hs.up _ _ _ h.1 hb, gb_trans h.2 (gb_below hb)⟩) ⟨hI2, gb_refl _ _⟩ (fun k wr Y ya yn yc hk e h hi => ?_)).mono ?_
  · subst e
    refine (es1_may hs _ _ ya yn yc (w.heap.size + 1) wr h.1 hi ?_ (Keeps.map hM2 h.2 _ _ hH2)).mono ?_
    · exact (flat_pre _ _ ve0 hk).trans (List.prefix_append _ _)
    · rintro e w' ⟨rfl, hg, hy⟩
      refine ⟨rfl, fun hpk => ⟨?_, gb_trans h.2 hg⟩, fun _ => gb_trans h.2 hg⟩
      rw [flat_next _ _ ve0 hk]
      exact hy hpk
  · rintro e w1 ⟨rfl, hy, hn⟩
    rw [allB_all (fun x : Ve => x.sec.all p)] at *
    have hg1 : w2.grownBy w1 (some M) := both_ways (fun h => (hy h).2) hn
    have x4 := (hX2.keep (Keeps.map hM2 hg1)).c4
    have HX2 := hide hX2
    have HS2 := hide hS2
    have HH2 := hide hH2
    have HY := hide hy
    clear hy hn hX2 hS2 hH2 hI2
    cases ha : S.ves.all (fun x => x.sec.all p)
    · have HF : Hid ((secs S).all p = false) := by show _ = _; rw [unhide HE, ha]; rfl
      clear ha
      go_wp2
      go_ret
      exact ⟨ret_bool (unhide HF).symm, gb_trans (gb_below hb2) hg1, fun h => absurd ((unhide HF).symm.trans h) (by decide)⟩
    · have HF : Hid ((secs S).all p = S.ups.all (fun x => (x.parts.flatMap (·.sec)).all p)) := by show _ = _; rw [unhide HE, ha]; rfl
      have HI1 : Hid (I (S.ves.flatMap (fun x : Ve => x.sec)) w1) := by
        have := (unhide HY ha).1
        rwa [List.take_of_length_le (Nat.le_refl _)] at this
      clear ha HY
      go_wp2_with fail
      refine (every_everySector_2 _ ua uc S.ups (fun k => ((S.ups.getD k up0).parts.flatMap (·.sec)).all p) (fun k wr => I (S.ves.flatMap (fun x : Ve => x.sec) ++ (S.ups.take k).flatMap (fun x : Up => x.parts.flatMap (·.sec))) wr ∧ w2.grownBy wr (some M)) (fun wr => w2.grownBy wr (some M)) _ (by omega) (fun k wr hk h => Lst.at ((unhide HS2).keep (Keeps.map hM2 h.2)).ups hk) (fun k wr wr' h hb => ⟨hs.up _ _ _ h.1 hb, gb_trans h.2 (gb_below hb)⟩) ⟨by simpa using unhide HI1, hg1⟩ (fun k wr Y ya yn yc hk e h hi => ?_)).mono ?_
      · subst e
        refine (es2_may hs _ _ ya yn yc (w.heap.size + 1) wr h.1 hi ?_ (Keeps.map hM2 h.2 _ _ (unhide HH2))).mono ?_
        · rw [List.append_assoc]
          exact pre_app (List.prefix_refl _) (flat_pre (fun x : Up => x.parts.flatMap (·.sec)) _ up0 hk)
        · rintro e w' ⟨rfl, hg, hy⟩
          refine ⟨rfl, fun hpk => ⟨?_, gb_trans h.2 hg⟩, fun _ => gb_trans h.2 hg⟩
          rw [flat_next (fun x : Up => x.parts.flatMap (·.sec)) _ up0 hk, ← List.append_assoc]
          exact hy hpk
      · rintro e w3 ⟨rfl, hy, hn⟩
        rw [allB_all (fun x : Up => (x.parts.flatMap (·.sec)).all p)] at *
        have HR : Hid (w.grownBy w3 (some M) ∧ ((secs S).all p = true → I (secs S) w3)) := ⟨gb_trans (gb_below hb2) (both_ways (fun h => (hy h).2) hn), fun h => by
          have := (hy (unhide HF ▸ h)).1
          rwa [List.take_of_length_le (Nat.le_refl _)] at this⟩
        clear hy hn
        go_wp2
        go_ret
        exact ⟨ret_bool (by rw [unhide HF]; simp [List.all_flatMap]), (unhide HR).1, (unhide HR).2⟩
theorem count_next (pre : List Int) (X : Int) : (fun y => if y = X then pre.count y + 1 else pre.count y) = fun y => (pre ++ [X]).count y := by
  funext y
  rw [List.count_append]
  by_cases e : y = X
  · subst e; simp
  · rw [if_neg e, List.count_eq_zero_of_not_mem (l := [X]) (by simp [e])]; rfl
theorem takersOf_1 (pre : List Int) (X : Int) (K M : Nat) (w : World) (hC : Cnt w M pre.length (fun y => pre.count y)) (hK : w.cell? ⟨K, 0, none⟩ = some (.map (some M))) (hX : (Lit.int .i64 X).wf = true) (hn : pre.length < 1000000000) :
    Calls Tryz.prog 103 #[.int .i64 X, .pointer (some ⟨K, 0, none⟩)] w fun e w' => e = .returned (.bool true) ∧ w.grownBy w' (some M) ∧ Cnt w' M (pre ++ [X]).length (fun y => (pre ++ [X]).count y) := by
  obtain ⟨c, hc⟩ : ∃ c : Nat, pre.count X = c := ⟨_, rfl⟩
  have hlk := hC.look hX
  obtain ⟨w1, hup, hC1, hg⟩ := hC.tick hn hX
  have hcl : c ≤ pre.length := by rw [← hc]; exact List.count_le_length
  rw [hc] at hlk hup
  rw [count_next] at hC1
  have HC1 : Hid (Cnt w1 M (pre ++ [X]).length (fun y => (pre ++ [X]).count y)) := by
    rw [List.length_append]; exact hC1
  clear hC1 hC hc hX
  have hc0 : (0 : Int) ≤ (c : Int) := Int.natCast_nonneg _
  have hc1 : (c : Int) ≤ 1000000000 := by omega
  go_enter Tryz.func103, Tryz.ntmps103
  go_wp2
  go_ret
  exact ⟨rfl, hg, unhide HC1⟩
theorem takersOf_any (S : St) (b v u q g : Value) (w : World) (hS : Sta w b v u q g S) (hn : (secs S).length < 1000000000) :
    Calls Tryz.prog 36 #[stV S b v u q g] w fun e w' => ∃ M, e = .returned (.map (some M)) ∧ w.heap.size ≤ M ∧ Cnt w' M (secs S).length (fun y => (secs S).count y) ∧ Below w.heap.size w w' := by
  have hmm := @run_makeMap Tryz.prog
  have HS := hide hS
  clear hS
  go_enter Tryz.func36, Tryz.ntmps36
  go_wp2_with fail
  obtain ⟨w1, hw1⟩ : ∃ w1, w.alloc (.cells #[.int .i64 S.next, .int .i64 S.clock, b, v, u, q, g] 29) = w1 := ⟨_, rfl⟩
  obtain ⟨M, hM⟩ : ∃ M, w.heap.size + 1 = M := ⟨_, rfl⟩
  have hz1 : M = w1.heap.size := by rw [← hw1, ← hM]; simp
  have hb1 : Below w.heap.size w w1 := by rw [← hw1]; exact bl1 _ _
  rw [hw1, hM]
  obtain ⟨w2, hw2⟩ : ∃ w2, (w1.alloc (.map #[] 0)).alloc (.cells #[.map (some M)] 82) = w2 := ⟨_, rfl⟩
  have hb2 : Below w.heap.size w w2 := by rw [← hw2]; exact bl_trans hb1 (bl_alloc (bl1 _ _) _)
  have hC : Cnt w2 M 0 (fun _ => 0) := by rw [← hw2, hz1]; exact (Cnt.made w1).up (bl1 _ _)
  have hK : w2.cell? ⟨M + 1, 0, none⟩ = some (.map (some M)) := by rw [← hw2, hz1, World.cell?_alloc_at _ _ _ _ (by simp)]; rfl
  rw [hw2]
  have hle : w.heap.size ≤ M := by omega
  clear hw1 hw2 hz1 hM
  refine (everySector_tak (C := .pointer (some ⟨M + 1, 0, none⟩)) (M := M) (p := fun _ => true) (I := fun pre wr => Cnt wr M pre.length (fun y => pre.count y) ∧ wr.cell? ⟨M + 1, 0, none⟩ = some (.map (some M))) S b v u q g ⟨fun pre wr wr' h hb => ⟨h.1.up hb, scell_up hb h.2⟩, fun pre wr h => h.1.mapAt, fun pre X wr h hX hp => ?_⟩ w2 ⟨hC, hK⟩ ((unhide HS).up hb2)).mono ?_
  · have hl : pre.length < 1000000000 := by
      have := hp.length_le
      simp at this
      omega
    refine (takersOf_1 pre X (M + 1) M wr h.1 h.2 hX hl).mono ?_
    rintro e w' ⟨rfl, hg, hc⟩
    exact ⟨rfl, hg, fun _ => ⟨hc, Keeps.map h.1.mapAt hg _ _ h.2⟩⟩
  · rintro e w3 ⟨rfl, hg, hy⟩
    obtain ⟨hc3, hk3⟩ := hy (by simp)
    have HC3 := hide hc3
    clear hy hc3 hC hK
    go_wp2
    go_ret
    exact ⟨M, rfl, hle, unhide HC3, bl_gb hb2 hg hle⟩
theorem sectorsMayBe_1 (n : Nat) (f : Int → Nat) (X : Int) (K M : Nat) (w : World) (hC : Cnt w M n f) (hK : w.cell? ⟨K, 0, none⟩ = some (.map (some M))) (hX : (Lit.int .i64 X).wf = true) :
    Calls Tryz.prog 102 #[.int .i64 X, .pointer (some ⟨K, 0, none⟩)] w fun e w' => e = .returned (.bool (inB X 0 199 && (f X : Int) == 1)) ∧ w = w' := by
  have hlk := hC.look hX
  obtain ⟨c, hc⟩ : ∃ c : Nat, f X = c := ⟨_, rfl⟩
  rw [hc] at hlk ⊢
  clear hc hC hX
  go_enter Tryz.func102, Tryz.ntmps102
  go_wp2_with fail
  refine (within_any _ _ _ _).mono ?_
  rintro e w1 ⟨rfl, rfl⟩
  cases h1 : inB X 0 199
  · go_wp2
    go_ret
    exact ⟨ret_bool (by rw [h1]; rfl), rfl⟩
  · go_wp2
    go_ret
    exact ⟨ret_bool (by rw [h1]; rfl), rfl⟩
/-- All sectors are there, and no two are one. -/
def secC (S : St) : Bool := (secs S).all (fun x => inB x 0 199 && ((secs S).count x : Int) == 1)
theorem sectorsMayBe_any (S : St) (b v u q g : Value) (w : World) (hS : Sta w b v u q g S) (hn : (secs S).length < 1000000000) :
    Calls Tryz.prog 35 #[stV S b v u q g] w fun e w' => e = .returned (.bool (secC S)) ∧ Below w.heap.size w w' := by
  have HS := hide hS
  have HE : Hid (secC S = (secs S).all (fun x => inB x 0 199 && ((secs S).count x : Int) == 1)) := rfl
  clear hS
  go_enter Tryz.func35, Tryz.ntmps35
  go_wp2_with fail
  refine (takersOf_any S b v u q g _ ((unhide HS).up (bl1 _ _)) hn).mono ?_
  rintro e w1 ⟨M, rfl, hle, hC, hb⟩
  have hX := (BoxS.new w S b v u q g 29).up hb
  have hlt := hX.lt
  have x0 := hX.c0
  have x1 := hX.c1
  have x2 := hX.c2
  have x3 := hX.c3
  have x4 := hX.c4
  have x5 := hX.c5
  have x6 := hX.c6
  have HC := hide hC
  clear hX hC
  go_wp2_with fail
  refine (everySector_may (C := .pointer (some ⟨w1.heap.size, 0, none⟩)) (M := M) (p := fun x => inB x 0 199 && ((secs S).count x : Int) == 1) (I := fun pre wr => Cnt wr M (secs S).length (fun y => (secs S).count y) ∧ wr.cell? ⟨w1.heap.size, 0, none⟩ = some (.map (some M))) S b v u q g ⟨fun pre wr wr' h hb => ⟨h.1.up hb, scell_up hb h.2⟩, fun pre wr h => h.1.mapAt, fun pre X wr h hX hp => ?_⟩ _ ⟨(unhide HC).up (bl1 _ _), by rw [World.cell?_alloc_at _ _ _ _ rfl]; rfl⟩ ((unhide HS).up (bl_trans (bl_trans (bl1 _ _) hb) (bl1 _ _)))).mono ?_
  · refine (sectorsMayBe_1 _ _ X _ M wr h.1 h.2 hX).mono ?_
    rintro e w' ⟨rfl, rfl⟩
    exact ⟨rfl, gb_refl _ _, fun _ => h⟩
  · rintro e w3 ⟨rfl, hg, _⟩
    have hbe := bl_gb (bl_trans (bl_trans (bl1 w _) hb) (bl1 _ _)) hg (Nat.le_trans (by simp) hle)
    go_wp2
    go_ret
    exact ⟨ret_bool (by rw [unhide HE]), hbe⟩
end Go.Proofs.YtdgmdapijhbocaaGreat
