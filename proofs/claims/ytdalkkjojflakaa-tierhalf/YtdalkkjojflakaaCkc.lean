/- state.versionMayBe and what it asks. -/
import Derived.Test.YtdalkkjojflakaaCkb
namespace Go.Proofs.Ytdalkkjojflakaa
open Go.RowKit
set_option maxRecDepth 100000
set_option linter.unusedVariables false
set_option linter.unusedSimpArgs false
def hasB (S : St) (bu : ByteArray) : Bool := decide (0 ≤ firstI S.bus.length (buP S.bus bu))
def namC (S : St) (id : Int) (bu ke : ByteArray) : Bool := inB id 1 (S.next - 1) && hasB S bu && worE ke 16 == 0
theorem namesMayBe_any (S : St) (b v u q g : Value) (id : Int) (bu ke : ByteArray) (w : World) (hB : Lst RBu 5 bu0 w b S.bus) (hk : ke.size ≤ maxLen) (hx : 1 ≤ S.next) (hx2 : S.next ≤ 1048576) :
    Calls Try.prog 103 #[stV S b v u q g, .int .i64 id, .string bu, .string ke] w fun e w' => e = .returned (.bool (namC S id bu ke)) ∧ Below w.heap.size w w' := by
  have HC : Hid (namC S id bu ke = (inB id 1 (S.next - 1) && hasB S bu && worE ke 16 == 0)) := rfl
  have HB := hide hB
  clear hB
  go_enter Try.func103, Try.ntmps103
  go_wp2_with fail
  refine (within_any _ _ _ _).mono ?_
  rintro e w1 ⟨rfl, rfl⟩
  cases h1 : inB id 1 (S.next - 1)
  · rw [h1] at HC
    go_wp2
    go_ret
    exact ⟨ret_bool (by rw [unhide HC]; rfl), bl1 _ _⟩
  · rw [h1] at HC
    clear h1
    go_wp2_with fail
    refine (findBucket_any S b v u q g bu _ ((unhide HB).imp fun _ _ _ r => RBu.up (bl1 _ _) r)).mono ?_
    rintro e w1 ⟨rfl, hb1⟩
    have HH : Hid (hasB S bu = decide (0 ≤ firstI S.bus.length (buP S.bus bu))) := rfl
    obtain ⟨I, hI⟩ : ∃ I, firstI S.bus.length (buP S.bus bu) = I := ⟨_, rfl⟩
    rw [hI] at HH ⊢
    clear hI
    by_cases h2 : 0 ≤ I
    · have HT : Hid (hasB S bu = true) := by show _ = _; rw [unhide HH]; exact decide_eq_true h2
      rw [unhide HT] at HC
      go_wp2_with fail
      refine (checkKey_any _ _ hk).mono ?_
      rintro e w2 ⟨rfl, hb2⟩
      go_wp2
      go_ret
      exact ⟨ret_bool (by rw [unhide HC]; rfl), bl_trans (bl1 _ _) (bl_trans hb1 hb2)⟩
    · have HT : Hid (hasB S bu = false) := by show _ = _; rw [unhide HH]; exact decide_eq_false h2
      rw [unhide HT] at HC
      go_wp2
      go_ret
      exact ⟨ret_bool (by rw [unhide HC]; rfl), bl_trans (bl1 _ _) hb1⟩
theorem offDisk_any (X : Ve) (ua : Option Addr) (un uc : Nat) (w : World) (hn : un ≤ 9223372036854775807) : Calls Try.prog 117 #[veV X (.slice ua un uc)] w fun e w' => e = .returned (.bool ((un : Int) == 0)) ∧ Below w.heap.size w w' := by
  go_enter Try.func117, Try.ntmps117
  go_wp2
  go_ret
  exact ⟨rfl, bl1 _ _⟩
theorem offTape_any (X : Ve) (u : Value) (w : World) : Calls Try.prog 118 #[veV X u] w fun e w' => e = .returned (.bool (X.vol == 0 && X.pos == 0)) ∧ Below w.heap.size w w' := by
  by_cases h : X.vol = 0
  · have HC : Hid ((X.vol == 0 && X.pos == 0) = (X.pos == 0)) := by show _ = _; rw [h]; rfl
    go_enter Try.func118, Try.ntmps118
    go_wp2
    go_ret
    exact ⟨ret_bool (by rw [unhide HC]), bl1 _ _⟩
  · have HC : Hid ((X.vol == 0 && X.pos == 0) = false) := by show _ = _; simp [h]
    have h' : (X.vol == 0) = false := by simp [h]
    go_enter Try.func118, Try.ntmps118
    go_wp2
    go_ret
    exact ⟨ret_bool (unhide HC).symm, bl1 _ _⟩
def isGone (S : St) (n : Int) : Bool := decide (0 ≤ firstI S.gone.length (goP S.gone n))
def onC (S : St) (x : Ve) : Bool := inB x.vol 0 7 && !isGone S x.vol && inB x.pos 0 4000
theorem onTape_any (S : St) (b v u q g : Value) (X : Ve) (y : Value) (w : World) (hG : Ints w g S.gone) : Calls Try.prog 120 #[stV S b v u q g, veV X y] w fun e w' => e = .returned (.bool (onC S X)) ∧ Below w.heap.size w w' := by
  have HC : Hid (onC S X = (inB X.vol 0 7 && !isGone S X.vol && inB X.pos 0 4000)) := rfl
  have HG := hide hG
  clear hG
  go_enter Try.func120, Try.ntmps120
  go_wp2_with fail
  refine (within_any _ _ _ _).mono ?_
  rintro e w1 ⟨rfl, rfl⟩
  cases h1 : inB X.vol 0 7
  · rw [h1] at HC
    go_wp2
    go_ret
    exact ⟨ret_bool (by rw [unhide HC]; rfl), bl_alloc (bl1 _ _) _⟩
  · rw [h1] at HC
    clear h1
    go_wp2_with fail
    refine (findGone_any S b v u q g _ _ (Ints.up (bl_alloc (bl1 _ _) _) (unhide HG))).mono ?_
    rintro e w1 ⟨rfl, hb1⟩
    have c10 := box2b hb1 10 (v := .int .i64 X.pos) rfl
    have HH : Hid (isGone S X.vol = decide (0 ≤ firstI S.gone.length (goP S.gone X.vol))) := rfl
    obtain ⟨I, hI⟩ : ∃ I, firstI S.gone.length (goP S.gone X.vol) = I := ⟨_, rfl⟩
    rw [hI] at HH ⊢
    clear hI
    by_cases h2 : 0 ≤ I
    · have HT : Hid (isGone S X.vol = true) := by show _ = _; rw [unhide HH]; exact decide_eq_true h2
      rw [unhide HT] at HC
      go_wp2
      go_ret
      exact ⟨ret_bool (by rw [unhide HC]; rfl), bl_trans (bl_alloc (bl1 _ _) _) hb1⟩
    · have HT : Hid (isGone S X.vol = false) := by show _ = _; rw [unhide HH]; exact decide_eq_false h2
      rw [unhide HT] at HC
      go_wp2_with fail
      refine (within_any _ _ _ _).mono ?_
      rintro e w1 ⟨rfl, rfl⟩
      go_wp2
      go_ret
      exact ⟨ret_bool (by rw [unhide HC]; rfl), bl_trans (bl_alloc (bl1 _ _) _) hb1⟩
/-- A version by itself. -/
def veC (S : St) (x : Ve) : Bool :=
  namC S x.id x.bu x.ke && inB x.time 0 S.clock &&
  (if x.mar then x.size == 0 && x.tier == 0 && (x.sec.length : Int) == 0 && (x.vol == 0 && x.pos == 0) && x.til == 0
   else inB x.size 0 600 && (if x.tier = 1 then (x.sec.length : Int) == secN x.size && (x.vol == 0 && x.pos == 0) && x.til == 0
     else if x.tier = 2 then (x.sec.length : Int) == 0 && onC S x && x.til == 0
     else if x.tier = 3 then (x.sec.length : Int) == secN x.size && onC S x && inB x.til 0 1073742824 else false))
theorem veC_n {S : St} {x : Ve} (h : namC S x.id x.bu x.ke = false) : veC S x = false := by simp [veC, h]
theorem veC_t {S : St} {x : Ve} (h : inB x.time 0 S.clock = false) : veC S x = false := by simp [veC, h]
theorem veC_m {S : St} {x : Ve} (h : namC S x.id x.bu x.ke = true) (h2 : inB x.time 0 S.clock = true) (hm : x.mar = true) : veC S x = (x.size == 0 && x.tier == 0 && (x.sec.length : Int) == 0 && (x.vol == 0 && x.pos == 0) && x.til == 0) := by simp [veC, h, h2, hm]
theorem veC_s {S : St} {x : Ve} (hm : x.mar = false) (h : inB x.size 0 600 = false) : veC S x = false := by simp [veC, h, hm]
theorem veC_1 {S : St} {x : Ve} (h : namC S x.id x.bu x.ke = true) (h2 : inB x.time 0 S.clock = true) (hm : x.mar = false) (hs : inB x.size 0 600 = true) (ht : x.tier = 1) : veC S x = ((x.sec.length : Int) == secN x.size && (x.vol == 0 && x.pos == 0) && x.til == 0) := by simp [veC, h, h2, hm, hs, ht]
theorem veC_2 {S : St} {x : Ve} (h : namC S x.id x.bu x.ke = true) (h2 : inB x.time 0 S.clock = true) (hm : x.mar = false) (hs : inB x.size 0 600 = true) (ht : x.tier = 2) : veC S x = ((x.sec.length : Int) == 0 && onC S x && x.til == 0) := by simp [veC, h, h2, hm, hs, ht]
theorem veC_3 {S : St} {x : Ve} (h : namC S x.id x.bu x.ke = true) (h2 : inB x.time 0 S.clock = true) (hm : x.mar = false) (hs : inB x.size 0 600 = true) (ht : x.tier = 3) : veC S x = ((x.sec.length : Int) == secN x.size && onC S x && inB x.til 0 1073742824) := by simp [veC, h, h2, hm, hs, ht]
theorem veC_0 {S : St} {x : Ve} (hm : x.mar = false) (h1 : x.tier ≠ 1) (h2 : x.tier ≠ 2) (h3 : x.tier ≠ 3) : veC S x = false := by simp [veC, hm, h1, h2, h3]
end Go.Proofs.Ytdalkkjojflakaa
