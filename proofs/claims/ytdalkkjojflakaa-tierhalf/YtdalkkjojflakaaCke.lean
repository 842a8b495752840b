/- state.partsMayBe, uploadsMayBe. -/
import Derived.Test.YtdalkkjojflakaaCkc
namespace Go.Proofs.Ytdalkkjojflakaa
open Go.RowKit
set_option maxRecDepth 100000
set_option linter.unusedVariables false
set_option linter.unusedSimpArgs false
theorem partsMayBe_1 (X Y : Pa) (a a' : Option Addr) (n c n' c' : Nat) (w : World) : Calls Try.prog 125 #[paV X (.slice a n c), paV Y (.slice a' n' c')] w fun e w' => e = .returned (.bool (decide (X.n < Y.n))) ∧ Below w.heap.size w w' := by
  go_enter Try.func125, Try.ntmps125
  go_wp2
  go_ret
  exact ⟨rfl, bl_alloc (bl1 _ _) _⟩
theorem uploadsMayBe_1 (X Y : Up) (a a' : Option Addr) (n c n' c' : Nat) (w : World) : Calls Try.prog 100 #[upV X (.slice a n c), upV Y (.slice a' n' c')] w fun e w' => e = .returned (.bool (decide (X.id < Y.id))) ∧ Below w.heap.size w w' := by
  go_enter Try.func100, Try.ntmps100
  go_wp2
  go_ret
  exact ⟨rfl, bl_alloc (bl1 _ _) _⟩
theorem versionsMayBe_1 (X Y : Ve) (a a' : Option Addr) (n c n' c' : Nat) (w : World) : Calls Try.prog 94 #[veV X (.slice a n c), veV Y (.slice a' n' c')] w fun e w' => e = .returned (.bool (decide (X.id < Y.id))) ∧ Below w.heap.size w w' := by
  go_enter Try.func94, Try.ntmps94
  go_wp2
  go_ret
  exact ⟨rfl, bl_alloc (bl1 _ _) _⟩
def paC (x : Pa) : Bool := inB x.n 1 5 && inB x.size 0 600 && (x.sec.length : Int) == secN x.size
theorem partsMayBe_2 (X : Pa) (ua : Option Addr) (un uc : Nat) (w : World) (hI : Ints w (.slice ua un uc) X.sec) : Calls Try.prog 127 #[paV X (.slice ua un uc)] w fun e w' => e = .returned (.bool (paC X)) ∧ Below w.heap.size w w' := by
  obtain ⟨hn, hc, hm⟩ := hI.len
  unfold maxLen at hm
  have hnn : un ≤ 9223372036854775807 := by omega
  have HE : Hid (paC X = (inB X.n 1 5 && inB X.size 0 600 && (un : Int) == secN X.size)) := by show _ = _; rw [hn]; rfl
  clear hI hn hc hm
  go_enter Try.func127, Try.ntmps127
  go_wp2_with fail
  refine (within_any _ _ _ _).mono ?_
  rintro e w2 ⟨rfl, rfl⟩
  cases h1 : inB X.n 1 5
  · rw [h1] at HE
    go_wp2
    go_ret
    exact ⟨ret_bool (by rw [unhide HE]; rfl), bl1 _ _⟩
  rw [h1] at HE
  clear h1
  go_wp2_with fail
  refine (within_any _ _ _ _).mono ?_
  rintro e w2 ⟨rfl, rfl⟩
  cases h1 : inB X.size 0 600
  · rw [h1] at HE
    go_wp2
    go_ret
    exact ⟨ret_bool (by rw [unhide HE]; rfl), bl1 _ _⟩
  rw [h1] at HE
  obtain ⟨z0, z1⟩ := inB_t h1
  clear h1
  go_wp2_with fail
  refine (rightMany_any _ _ _ _ _ hnn (by omega) (by omega)).mono ?_
  rintro e w2 ⟨rfl, rfl⟩
  go_wp2
  go_ret
  exact ⟨ret_bool (by rw [unhide HE]; rfl), bl1 _ _⟩
def pasP (l : List Pa) (i : Nat) : Bool := decide ((l.getD i pa0).n < (l.getD (i + 1) pa0).n)
def pasQ (l : List Pa) (i : Nat) : Bool := paC (l.getD i pa0)
def pasC (l : List Pa) : Bool := decide ((l.length : Int) ≤ 5) && allB (l.length - 1) (pasP l) && allB l.length (pasQ l)
theorem partsMayBe_any (bv : Value) (l : List Pa) (w : World) (hL : Lst RPa 3 pa0 w bv l) : Calls Try.prog 104 #[bv] w fun e w' => e = .returned (.bool (pasC l)) ∧ Below w.heap.size w w' := by
  obtain ⟨a, cap, rfl, h1, h2⟩ := hL.form
  unfold maxLen at h2
  have HL := hide hL
  clear hL
  by_cases hl : (l.length : Int) ≤ 5
  · have HC : Hid (pasC l = (allB (l.length - 1) (pasP l) && allB l.length (pasQ l))) := by show _ = _; unfold pasC; rw [decide_eq_true hl, Bool.true_and]
    go_enter Try.func104, Try.ntmps104
    go_wp2_with fail
    refine (rise_partsMayBe_1 a cap l (pasP l) _ (unhide HL) (by omega) (fun k wr X Y _ _ _ _ _ _ h e1 e2 => by subst e1 e2; exact partsMayBe_1 _ _ _ _ _ _ _ _ _)).mono ?_
    rintro e w1 ⟨rfl, hb⟩
    cases hr : allB (l.length - 1) (pasP l)
    · rw [hr] at HC
      go_wp2
      go_ret
      exact ⟨ret_bool (by rw [unhide HC]; rfl), hb⟩
    · rw [hr] at HC
      clear hr
      go_wp2_with fail
      refine (every_partsMayBe_2 a cap l (pasQ l) (fun _ wr => Below w.heap.size w wr) (fun wr => Below w.heap.size w wr) _ (by omega) (fun k wr hk hb => Lst.at (Pas.up hb (unhide HL)) hk) (fun _ _ _ x y => bl_trans x y) hb (fun k wr X ua un uc hk e hI hi => by
        subst e
        exact (partsMayBe_2 _ _ _ _ _ hi).mono fun _ _ ⟨x, y⟩ => ⟨x, fun _ => bl_trans hI y, fun _ => bl_trans hI y⟩)).mono ?_
      rintro e w2 ⟨rfl, hy, hn⟩
      have hb2 := both_ways hy hn
      clear hy hn
      go_wp2
      go_ret
      exact ⟨ret_bool (by rw [unhide HC]; rfl), hb2⟩
  · have HC : Hid (pasC l = false) := by show _ = _; unfold pasC; rw [decide_eq_false hl]; rfl
    go_enter Try.func104, Try.ntmps104
    go_wp2
    go_ret
    exact ⟨ret_bool (unhide HC).symm, Below.refl _ _⟩
/-- A state's box. -/
structure BoxS (w : World) (B : Nat) (S : St) (b v u q g : Value) : Prop where
  c0 : w.cell? ⟨B, 0, none⟩ = some (.int .i64 S.next)
  c1 : w.cell? ⟨B, 1, none⟩ = some (.int .i64 S.clock)
  c2 : w.cell? ⟨B, 2, none⟩ = some b
  c3 : w.cell? ⟨B, 3, none⟩ = some v
  c4 : w.cell? ⟨B, 4, none⟩ = some u
  c5 : w.cell? ⟨B, 5, none⟩ = some q
  c6 : w.cell? ⟨B, 6, none⟩ = some g
theorem BoxS.up {w w' : World} {B : Nat} {S : St} {b v u q g : Value} (h : BoxS w B S b v u q g) (hb : Below w.heap.size w w') : BoxS w' B S b v u q g := ⟨scell_up hb h.c0, scell_up hb h.c1, scell_up hb h.c2, scell_up hb h.c3, scell_up hb h.c4, scell_up hb h.c5, scell_up hb h.c6⟩
theorem BoxS.lt {w : World} {B : Nat} {S : St} {b v u q g : Value} (h : BoxS w B S b v u q g) : B < w.heap.size := World.block_lt_of_cell? w _ h.c0
theorem BoxS.new (w : World) (S : St) (b v u q g : Value) (t : TypeId) : BoxS (w.alloc (.cells #[.int .i64 S.next, .int .i64 S.clock, b, v, u, q, g] t)) w.heap.size S b v u q g := by
  constructor <;> (rw [World.cell?_alloc_at _ _ _ _ rfl]; rfl)
def upC (S : St) (x : Up) : Bool := namC S x.id x.bu x.ke && pasC x.parts
theorem uploadsMayBe_2 (S : St) (b v u q g : Value) (B : Nat) (X : Up) (ua : Option Addr) (un uc : Nat) (w : World) (hS : BoxS w B S b v u q g) (hB : Lst RBu 5 bu0 w b S.bus) (hI : Lst RPa 3 pa0 w (.slice ua un uc) X.parts) (hk : X.ke.size ≤ maxLen) (hx : 1 ≤ S.next) (hx2 : S.next ≤ 1048576) :
    Calls Try.prog 102 #[upV X (.slice ua un uc), .pointer (some ⟨B, 0, none⟩)] w fun e w' => e = .returned (.bool (upC S X)) ∧ Below w.heap.size w w' := by
  have HE : Hid (upC S X = (namC S X.id X.bu X.ke && pasC X.parts)) := rfl
  have hlt := hS.lt
  have c0 := hS.c0
  have c1 := hS.c1
  have c2 := hS.c2
  have c3 := hS.c3
  have c4 := hS.c4
  have c5 := hS.c5
  have c6 := hS.c6
  have HB := hide hB
  have HI := hide hI
  clear hS hB hI
  go_enter Try.func102, Try.ntmps102
  go_wp2_with fail
  refine (namesMayBe_any S b v u q g _ _ _ _ ((unhide HB).imp fun _ _ _ r => RBu.up (bl1 _ _) r) hk hx hx2).mono ?_
  rintro e w1 ⟨rfl, hb1⟩
  have x3 := box1 hb1 3 (v := .slice ua un uc) rfl
  cases h1 : namC S X.id X.bu X.ke
  · rw [h1] at HE
    go_wp2
    go_ret
    exact ⟨ret_bool (by rw [unhide HE]; rfl), bl_trans (bl1 _ _) hb1⟩
  rw [h1] at HE
  clear h1
  go_wp2_with fail
  refine (partsMayBe_any _ X.parts _ (Pas.up (bl_trans (bl1 _ _) hb1) (unhide HI))).mono ?_
  rintro e w2 ⟨rfl, hb2⟩
  go_wp2
  go_ret
  exact ⟨ret_bool (by rw [unhide HE]; rfl), bl_trans (bl_trans (bl1 _ _) hb1) hb2⟩
def upsP (l : List Up) (i : Nat) : Bool := decide ((l.getD i up0).id < (l.getD (i + 1) up0).id)
def upsQ (S : St) (i : Nat) : Bool := upC S (S.ups.getD i up0)
def upsC (S : St) : Bool := decide ((S.ups.length : Int) ≤ 4) && allB (S.ups.length - 1) (upsP S.ups) && allB S.ups.length (upsQ S)
theorem uploadsMayBe_any (S : St) (b v u q g : Value) (w : World) (hS : Sta w b v u q g S) (hx : 1 ≤ S.next) (hx2 : S.next ≤ 1048576) : Calls Try.prog 65 #[stV S b v u q g] w fun e w' => e = .returned (.bool (upsC S)) ∧ Below w.heap.size w w' := by
  obtain ⟨a, cap, rfl, h1, h2⟩ := hS.ups.form
  unfold maxLen at h2
  have HS := hide hS
  clear hS
  obtain ⟨n, hn⟩ : ∃ n, S.ups.length = n := ⟨_, rfl⟩
  by_cases hl : (S.ups.length : Int) ≤ 4
  · have HC : Hid (upsC S = (allB (S.ups.length - 1) (upsP S.ups) && allB S.ups.length (upsQ S))) := by show _ = _; unfold upsC; rw [decide_eq_true hl, Bool.true_and]
    clear hn
    go_enter Try.func65, Try.ntmps65
    go_wp2_with fail
    refine (rise_uploadsMayBe_1 a cap S.ups (upsP S.ups) _ ((unhide HS).ups.imp fun _ _ _ r => RUp.up (bl1 _ _) r) (by omega) (fun k wr X Y _ _ _ _ _ _ h e1 e2 => by subst e1 e2; exact uploadsMayBe_1 _ _ _ _ _ _ _ _ _)).mono ?_
    rintro e w1 ⟨rfl, hb⟩
    have HX := hide ((BoxS.new w S b v (.slice a S.ups.length cap) q g 59).up hb)
    have x4 := (unhide HX).c4
    cases hr : allB (S.ups.length - 1) (upsP S.ups)
    · rw [hr] at HC
      go_wp2
      go_ret
      exact ⟨ret_bool (by rw [unhide HC]; rfl), bl_trans (bl1 _ _) hb⟩
    · rw [hr] at HC
      clear hr
      go_wp2_with fail
      refine (every_uploadsMayBe_2 _ a cap S.ups (upsQ S) (fun _ wr => Below w1.heap.size w1 wr) (fun wr => Below w1.heap.size w1 wr) _ (by omega) (fun k wr hk hb2 => Lst.at (((unhide HS).up (bl_trans (bl_trans (bl1 _ _) hb) hb2)).ups) hk) (fun _ _ _ x y => bl_trans x y) (Below.refl _ _) (fun k wr X ua un uc hk e hI hi => by
        obtain ⟨_, _, _, r⟩ := Lst.at (unhide HS).ups hk
        rw [e] at r
        subst e
        exact (uploadsMayBe_2 S b v _ q g _ _ _ _ _ _ ((unhide HX).up hI) (((unhide HS).up (bl_trans (bl_trans (bl1 _ _) hb) hI)).bus) hi r.s2 hx hx2).mono fun _ _ ⟨x, y⟩ => ⟨x, fun _ => bl_trans hI y, fun _ => bl_trans hI y⟩)).mono ?_
      rintro e w2 ⟨rfl, hy, hn⟩
      have hb2 := both_ways hy hn
      clear hy hn
      go_wp2
      go_ret
      exact ⟨ret_bool (by rw [unhide HC]; rfl), bl_trans (bl_trans (bl1 _ _) hb) hb2⟩
  · have HC : Hid (upsC S = false) := by show _ = _; unfold upsC; rw [decide_eq_false hl]; rfl
    clear hn
    go_enter Try.func65, Try.ntmps65
    go_wp2
    go_ret
    exact ⟨ret_bool (unhide HC).symm, bl1 _ _⟩
end Go.Proofs.Ytdalkkjojflakaa
