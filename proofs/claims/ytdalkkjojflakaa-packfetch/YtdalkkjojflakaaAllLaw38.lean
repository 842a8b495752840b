/- PackFetch: whatever comes in, the law answers true. No condition. -/
import Derived.Test.YtdalkkjojflakaaKd
import Derived.Test.YtdalkkjojflakaaKp1
import Derived.Test.YtdalkkjojflakaaNap
import Derived.Test.YtdalkkjojflakaaRom
import Derived.Deep.RegionHeld3
import Derived.Test.YtdalkkjojflakaaPut
import Derived.Test.YtdalkkjojflakaaFlC
import Derived.Test.YtdalkkjojflakaaArmC
import Derived.Test.YtdalkkjojflakaaR4
import Derived.Deep.DeepCutAuto
import Derived.Test.YtdalkkjojflakaaGet2
import Derived.Deep.RegionLaw
import Derived.Deep.AppendLies
import Derived.Test.YtdalkkjojflakaaOkd
import Derived.Lib.Strings
import Derived.Test.YtdalkkjojflakaaNew
import Derived.Test.YtdalkkjojflakaaPak
import Derived.Test.YtdalkkjojflakaaStr
import Derived.Deep.RegionHeldLaw
import Derived.BigQuiet
import Derived.Test.YtdalkkjojflakaaBase
import Derived.ProofKit
import Derived.OpenShut
import Derived.ChangeOld
import Derived.ChangeMaps5
import Derived.Deep.Slices
/- Raw things as plain lists; devices that may be. -/
namespace Go.Proofs.Ytdalkkjojflakaa
open Go.RowKit
set_option maxRecDepth 100000
set_option linter.unusedVariables false
set_option linter.unusedSimpArgs false
structure Rw where
  kind : Int
  a : Int
  b : Int
  c : Int
  d : Int
  text : ByteArray
def rw0 : Rw := ⟨0, 0, 0, 0, 0, .empty⟩
structure RwAt (w : World) (b p : Nat) (x : Rw) : Prop where
  c0 : w.cell? ⟨b, p, none⟩ = some (.int .i64 x.kind)
  c1 : w.cell? ⟨b, p + 1, none⟩ = some (.int .i64 x.a)
  c2 : w.cell? ⟨b, p + 2, none⟩ = some (.int .i64 x.b)
  c3 : w.cell? ⟨b, p + 3, none⟩ = some (.int .i64 x.c)
  c4 : w.cell? ⟨b, p + 4, none⟩ = some (.int .i64 x.d)
  c5 : w.cell? ⟨b, p + 5, none⟩ = some (.string x.text)
  s : x.text.size ≤ maxLen
  k0 : -9223372036854775808 ≤ x.kind ∧ x.kind ≤ 9223372036854775807
  a0 : -9223372036854775808 ≤ x.a ∧ x.a ≤ 9223372036854775807
  bb0 : -9223372036854775808 ≤ x.b ∧ x.b ≤ 9223372036854775807
  cc0 : -9223372036854775808 ≤ x.c ∧ x.c ≤ 9223372036854775807
  dd0 : -9223372036854775808 ≤ x.d ∧ x.d ≤ 9223372036854775807
def Raws (w : World) (v : Value) (xs : List Rw) : Prop :=
  ∃ a cap, v = .slice a xs.length cap ∧ xs.length ≤ cap ∧ cap ≤ maxLen ∧ ∀ i, i < xs.length → ∃ b o, a = some ⟨b, o, none⟩ ∧ RwAt w b (o + i * 6) (xs.getD i rw0)
theorem RwAt.up {w w' : World} {b p : Nat} {x : Rw} (h : RwAt w b p x) (hb : Below w.heap.size w w') : RwAt w' b p x :=
  ⟨cell_up hb h.c0, cell_up hb h.c1, cell_up hb h.c2, cell_up hb h.c3, cell_up hb h.c4, cell_up hb h.c5, h.s, h.k0, h.a0, h.bb0, h.cc0, h.dd0⟩
theorem Raws.up {w w' : World} {v : Value} {xs : List Rw} (h : Raws w v xs) (hb : Below w.heap.size w w') : Raws w' v xs := by
  obtain ⟨a, cap, e, h1, h2, h3⟩ := h
  refine ⟨a, cap, e, h1, h2, fun i hi => ?_⟩
  obtain ⟨b, o, e, hc⟩ := h3 i hi
  exact ⟨b, o, e, hc.up hb⟩
theorem Raws.at {w : World} {a : Option Addr} {n cap : Nat} {xs : List Rw} (h : Raws w (.slice a n cap) xs) (i : Nat) (hi : i < xs.length) : ∃ b o, a = some ⟨b, o, none⟩ ∧ RwAt w b (o + i * 6) (xs.getD i rw0) := by
  obtain ⟨a', cap', e, h1, h2, h3⟩ := h
  simp at e
  obtain ⟨rfl, _⟩ := e
  exact h3 i hi
/-- Devices that may be, and how many things wait. -/
structure DvI (D : Dv) (m : Nat) : Prop where
  ok : DOk 6 2 6 300 3 D
  fu : D.fuel = -1
  nc : D.cache.length ≤ m
theorem DvI.zero : DvI tD0 0 := ⟨tOk0, rfl, Nat.le_refl _⟩
theorem DvI.more {D : Dv} {m m' : Nat} (h : DvI D m) (hm : m ≤ m') : DvI D m' := ⟨h.ok, h.fu, Nat.le_trans h.nc hm⟩
theorem DvI.ns {D : Dv} {m : Nat} (h : DvI D m) : D.safe.length = 18 := by have := h.ok.ns; omega
theorem DvI.chk {D : Dv} {m : Nat} (h : DvI D m) : chkE 6 2 6 300 3 D = 0 := chk_ok geoS h.ok
section
variable {D : Dv} {m : Nat} (h : DvI D m) (hm : m < 1000)
include h
theorem DvI.f0 : D.fuel ≠ 0 := by rw [h.fu]; decide
theorem DvI.fl : lessF D.fuel = -1 := by rw [h.fu]; rfl
theorem DvI.fluE : marE D (chkE 6 2 6 300 3 D) = 0 := by rw [h.chk]; exact marE_ok h.f0
theorem DvI.flu : DvI (fluD D 0) (m + 1) := ⟨h.ok.flu h.f0, by rw [fluD_ok]; exact h.fl, by rw [fluD_ok]; simp⟩
theorem DvI.mar : DvI (marD D 0) (m + 1) := ⟨h.ok.mar h.f0, by rw [marD_ok]; exact h.fl, by rw [marD_ok]; exact Nat.le_succ_of_le h.nc⟩
theorem DvI.app {x : Int} {xs : List Int} (he : appE 300 3 D x xs.length (chkE 6 2 6 300 3 D) = 0) : DvI (appD 3 D x xs 0) (m + 1) := by
  rw [h.chk] at he
  exact ⟨h.ok.app he (by decide), by rw [appD_ok]; exact h.fl, by rw [appD_ok]; exact Nat.le_succ_of_le h.nc⟩
theorem DvI.at {x : Int} (h0 : 0 ≤ x) (h1 : x < 18) : inB x 0 ((D.safe.length : Int) - 1) = true := by rw [h.ns]; simp [inB]; omega
include hm
theorem DvI.putE {x : Int} {L : Nat} (h0 : 0 ≤ x) (h1 : x < 18) (hL : L ≤ 64) : putE D x L (chkE 6 2 6 300 3 D) = 0 := by
  rw [h.chk]; exact putE_ok (h.at h0 h1) (by omega) (by have := h.nc; omega) h.f0
theorem DvI.put {x : Int} {xs : List Int} (h0 : 0 ≤ x) (h1 : x < 18) : DvI (putD D x xs 0) (m + 1) := by
  refine ⟨h.ok.put (h.at h0 h1) (by have := h.nc; omega) h.f0, by rw [putD_ok]; exact h.fl, ?_⟩
  rw [putD_ok]; simp; exact h.nc
end
theorem cut_sixty (s : ByteArray) (hs : s.size ≤ maxLen) : ∃ (N M : Nat) (T : ByteArray), s.size = N ∧ N ≤ 9223372036854775807 ∧ (if (64 : Int) < (N : Int) then (64 : Int) else (N : Int)) = (M : Int) ∧ M ≤ 64 ∧ M ≤ N ∧ s.extract 0 M = T ∧ T.size = M := by
  unfold maxLen at hs
  refine ⟨s.size, min s.size 64, _, rfl, by omega, by split <;> omega, by omega, by omega, rfl, by simp⟩
end Go.Proofs.Ytdalkkjojflakaa

/- icehousekeep.Geometry, sevens, spots and body. -/
namespace Go.Proofs.Ytdalkkjojflakaa
open Go.RowKit
set_option maxRecDepth 100000
set_option linter.unusedVariables false
set_option linter.unusedSimpArgs false
theorem pick_b (n : Int) (m : Int) (hm : 0 < m) : 0 ≤ pickI n m ∧ pickI n m < m := ⟨pickI_lo n hm, pickI_hi n hm⟩
set_option maxHeartbeats 1000000 in
theorem geometry_any (a b c : Int) (w : World) (ha : -9223372036854775808 ≤ a ∧ a ≤ 9223372036854775807) (hb : -9223372036854775808 ≤ b ∧ b ≤ 9223372036854775807) (hc : -9223372036854775808 ≤ c ∧ c ≤ 9223372036854775807) :
    Calls Try.prog 15 #[.int .i64 a, .int .i64 b, .int .i64 c] w fun e w' => e = .returned (.agg #[.int .i64 (8 + pickI a 30), .int .i64 (30 + pickI a 40), .int .i64 (10 + pickI b 60), .int .i64 (700 + pickI c 2000), .int .i64 (2 + pickI c 7)]) ∧ Below w.heap.size w w' := by
  obtain ⟨P1, h1⟩ : ∃ P, pickI a 30 = P := ⟨_, rfl⟩
  obtain ⟨P2, h2⟩ : ∃ P, pickI a 40 = P := ⟨_, rfl⟩
  obtain ⟨P3, h3⟩ : ∃ P, pickI b 60 = P := ⟨_, rfl⟩
  obtain ⟨P4, h4⟩ : ∃ P, pickI c 2000 = P := ⟨_, rfl⟩
  obtain ⟨P5, h5⟩ : ∃ P, pickI c 7 = P := ⟨_, rfl⟩
  have b1 := pick_b a 30 (by decide)
  have b2 := pick_b a 40 (by decide)
  have b3 := pick_b b 60 (by decide)
  have b4 := pick_b c 2000 (by decide)
  have b5 := pick_b c 7 (by decide)
  rw [h1] at b1 ⊢
  rw [h2] at b2 ⊢
  rw [h3] at b3 ⊢
  rw [h4] at b4 ⊢
  rw [h5] at b5 ⊢
  have H1 := hide h1
  have H2 := hide h2
  have H3 := hide h3
  have H4 := hide h4
  have H5 := hide h5
  clear h1 h2 h3 h4 h5
  go_enter Try.func15, Try.ntmps15
  go_wp2_with fail
  refine (picked_any a 30 _ (by decide) (by decide) (by omega) (by omega)).mono ?_
  rintro e w' ⟨rfl, rfl⟩
  rw [unhide H1]
  go_wp2_with fail
  refine (picked_any a 40 _ (by decide) (by decide) (by omega) (by omega)).mono ?_
  rintro e w' ⟨rfl, rfl⟩
  rw [unhide H2]
  go_wp2_with fail
  refine (picked_any b 60 _ (by decide) (by decide) (by omega) (by omega)).mono ?_
  rintro e w' ⟨rfl, rfl⟩
  rw [unhide H3]
  go_wp2_with fail
  refine (picked_any c 2000 _ (by decide) (by decide) (by omega) (by omega)).mono ?_
  rintro e w' ⟨rfl, rfl⟩
  rw [unhide H4]
  go_wp2_with fail
  refine (picked_any c 7 _ (by decide) (by decide) (by omega) (by omega)).mono ?_
  rintro e w' ⟨rfl, rfl⟩
  rw [unhide H5]
  go_wp2
  refine bodyPost_ret (v := .agg #[.int .i64 (8 + P1), .int .i64 (30 + P2), .int .i64 (10 + P3), .int .i64 (700 + P4), .int .i64 (2 + P5)]) (by simp [results, Try.results15, go_sem, *]) rfl ⟨rfl, ?_⟩
  repeat (first | exact bl1 _ _ | refine bl_set ?_ (by simp <;> omega) _)
/-- One of three. -/
def hotH (a : Int) : Int := if pickI a 3 = 0 then 11 else if pickI a 3 = 1 then 22 else 31
theorem hotH_is (a : Int) : hotH a = 11 ∨ hotH a = 22 ∨ hotH a = 31 := by unfold hotH; split; exact .inl rfl; split; exact .inr (.inl rfl); exact .inr (.inr rfl)
/-- Sectors for so many bytes. -/
def spL (f h : Int) (n : Nat) : List Int := (List.range n).map fun (i : Nat) => (pickI f h + (i : Int) * 7) % h
theorem spL_len (f h : Int) (n : Nat) : (spL f h n).length = n := by simp [spL]
theorem spL_at (f h : Int) {n i : Nat} (hi : i < n) : (spL f h n).getD i 0 = (pickI f h + (i : Int) * 7) % h := by simp [spL, List.getD, hi]
theorem spL_next (f h : Int) (n : Nat) : spL f h (n + 1) = spL f h n ++ [(pickI f h + (n : Int) * 7) % h] := by simp [spL, List.range_succ]
theorem spL_take (f h : Int) {n k : Nat} (hk : k ≤ n) : (spL f h n).take k = spL f h k := by unfold spL; rw [← List.map_take, List.take_range, Nat.min_eq_left hk]
end Go.Proofs.Ytdalkkjojflakaa

/- Things that are done to devices: things.Put, its closure. -/
namespace Go.Proofs.Ytdalkkjojflakaa
open Go.RowKit
set_option linter.unusedVariables false
set_option linter.unusedSimpArgs false

/-- A thing: to put bytes in a sector, or to flush. -/
inductive Th where
  | put (pos : Int) (bs : List Int)
  | flush
def thE (r a h vm nv : Int) (D : Dv) : Th → Int
  | .put p xs => putE D p xs.length (chkE r a h vm nv D)
  | .flush => marE D (chkE r a h vm nv D)
def thD (D : Dv) (e : Int) : Th → Dv
  | .put p xs => putD D p xs e
  | .flush => fluD D e

end Go.Proofs.Ytdalkkjojflakaa

/- Things that are done to devices, one behind the other: things.Do. -/
namespace Go.Proofs.Ytdalkkjojflakaa
open Go.RowKit
set_option linter.unusedVariables false
set_option linter.unusedSimpArgs false

def doE (r a h vm nv : Int) : Dv → List Th → Int
  | _, [] => 0
  | D, t :: ts => if thE r a h vm nv D t = 0 then doE r a h vm nv (thD D 0 t) ts else thE r a h vm nv D t
def doD (r a h vm nv : Int) : Dv → List Th → Dv
  | D, [] => D
  | D, t :: ts => if thE r a h vm nv D t = 0 then doD r a h vm nv (thD D 0 t) ts else if thE r a h vm nv D t = 10 then D else nilD
theorem drop_at {ths : List Th} {k : Nat} (h : k < ths.length) : ths.drop k = ths.getD k .flush :: ths.drop (k + 1) := by
  rw [List.drop_eq_getElem_cons h]; simp [List.getD, h]
theorem thE_10 {r a h vm nv : Int} {D : Dv} {t : Th} (h10 : thE r a h vm nv D t = 10) : chkE r a h vm nv D = 0 ∧ D.fuel = 0 := by
  have hc : chkE r a h vm nv D = 0 ∨ chkE r a h vm nv D = 9 ∨ chkE r a h vm nv D = 2 := by
    unfold chkE
    split
    · split <;> omega
    · omega
  cases t with
  | put p xs =>
    change putE D p xs.length (chkE r a h vm nv D) = 10 at h10
    unfold putE at h10
    split at h10
    · rename_i hh
      refine ⟨hh, ?_⟩
      split at h10
      · split at h10
        · omega
        · split at h10
          · omega
          · split at h10
            · assumption
            · omega
      · omega
    · omega
  | flush =>
    change marE D (chkE r a h vm nv D) = 10 at h10
    unfold marE at h10
    split at h10
    · rename_i hh
      refine ⟨hh, ?_⟩
      split at h10
      · assumption
      · omega
    · omega

theorem thD_bad {D : Dv} {e : Int} {t : Th} (h : e ≠ 0) : thD D e t = nilD := by
  cases t with
  | put p xs => simp [thD, putD, h]
  | flush => simp [thD, fluD, h]

end Go.Proofs.Ytdalkkjojflakaa

/- icehouseref.chunks and roomMay. -/
namespace Go.Proofs.Ytdalkkjojflakaa
open Go.RowKit
set_option linter.unusedVariables false
set_option linter.unusedSimpArgs false

theorem chunks64_any (n : Int) (w : World) (h0 : 0 ≤ n) (h1 : n ≤ 4611686018427387904) : Calls Try.prog 73 #[.int .i64 n, .int .i64 64] w fun e w' => e = .returned (.int .i64 (secH n)) ∧ w = w' := by
  rw [secH_chunk h0]
  go_enter Try.func73, Try.ntmps73
  go_wp2
  go_ret
  exact ⟨ret_int (by omega), rfl⟩

theorem cont_f {l : List Int} {k : Nat} {z : Int} (hk : k ≤ l.length) (h : ∀ j, j < k → ¬ l.getD j 0 = z) : (l.take k).contains z = false := by
  rw [← Bool.not_eq_true, List.contains_iff_mem]
  intro hm
  obtain ⟨j, hj, e⟩ := mem_at.1 hm
  have hjk : j < k := by simp at hj; omega
  refine h j hjk ?_
  rw [← e]
  simp [List.getD, List.getElem?_take, hjk]
theorem cont_t {l : List Int} {k j : Nat} {z : Int} (hk : k ≤ l.length) (hj : j < k) (h : l.getD j 0 = z) : (l.take k).contains z = true := by
  rw [List.contains_iff_mem]
  refine mem_at.2 ⟨j, by simp; omega, ?_⟩
  rw [← h]
  simp [List.getD, List.getElem?_take, hj]

end Go.Proofs.Ytdalkkjojflakaa

namespace Go.Proofs.Ytdalkkjojflakaa
open Go.RowKit
set_option linter.unusedVariables false
set_option linter.unusedSimpArgs false

theorem seen_t {D : Dv} {x : Int} {k : Nat} (h : posIs D x k = true) : seen D x (k + 1) = (D.cache.getD k ⟨0, []⟩).data := by
  unfold seen; rw [lastI_t h, if_pos (by omega)]; rfl
theorem seen_f {D : Dv} {x : Int} {k : Nat} (h : posIs D x k = false) : seen D x (k + 1) = seen D x k := by
  unfold seen; rw [lastI_f h]
theorem seen_0 (D : Dv) (x : Nat) : seen D (x : Int) 0 = D.safe.getD x [] := by
  unfold seen; rw [if_neg (by simp [lastI])]; rfl

end Go.Proofs.Ytdalkkjojflakaa

/- hot.Read. -/
namespace Go.Proofs.Ytdalkkjojflakaa
open Go.RowKit
set_option linter.unusedVariables false
set_option linter.unusedSimpArgs false

/-- What stands in the first k sectors of a list. -/
def reaK (r a : Int) (D : Dv) (l : List Int) (k : Nat) : List Int := ((l.take k).map fun x => getL D (2 + r + 2 * a + x)).flatten
theorem reaK_0 (r a : Int) (D : Dv) (l : List Int) : reaK r a D l 0 = [] := by simp [reaK]
theorem reaK_next {r a : Int} {D : Dv} {l : List Int} {k : Nat} (hk : k < l.length) : reaK r a D l (k + 1) = reaK r a D l k ++ getL D (2 + r + 2 * a + l.getD k 0) := by
  unfold reaK
  rw [List.take_add_one, List.map_append, List.flatten_append, List.getElem?_eq_getElem hk]
  simp [List.getD, List.getElem?_eq_getElem hk]
theorem reaK_len {r a : Int} {D : Dv} {l : List Int} (h : ∀ i, i < l.length → (getL D (2 + r + 2 * a + l.getD i 0)).length = 64) : ∀ {k : Nat}, k ≤ l.length → (reaK r a D l k).length = 64 * k := by
  intro k
  induction k with
  | zero => intro _; simp [reaK_0]
  | succ k ih => intro hk; rw [reaK_next (by omega), List.length_append, ih (by omega), h k (by omega)]; omega
theorem splice_rea {F G : List Int} {N q : Nat} (hF : F.length = q) (hG : G.length = 64) (hq : q ≤ N) : splice (u8s (pad N F)) q (u8s (G.take (N - q))) = u8s (pad N (F ++ G)) := by
  have e1 : pad N F = F ++ List.replicate (N - q) 0 := by unfold pad; rw [List.take_of_length_le (by omega), hF]
  have e2 : pad N (F ++ G) = F ++ (G.take (N - q) ++ List.replicate (N - (q + 64)) 0) := by
    unfold pad
    rw [List.take_append, List.take_of_length_le (l := F) (by omega), hF, List.length_append, hF, hG, List.append_assoc]
  have e3 : u8s (F ++ List.replicate (N - q) 0) = u8s F ++ List.replicate (N - q) (.int .u8 0) := by simp [u8s]
  rw [e1, e2, e3]
  unfold splice
  have hl : (u8s F).length = q := by rw [u8s_length]; exact hF
  rw [List.take_append, List.take_of_length_le (by omega), hl, Nat.sub_self, List.take_zero, List.append_nil]
  rw [List.drop_append, List.drop_of_length_le (by rw [hl]; omega), List.nil_append, hl, List.drop_replicate]
  have e4 : N - q - (q + (u8s (G.take (N - q))).length - q) = N - (q + 64) := by rw [u8s_length, List.length_take, hG]; omega
  rw [e4]
  simp [u8s]

theorem romB_all {h : Int} {l : List Int} {n : Int} (x : romB h l n = true) : (0 ≤ n ∧ n ≤ 600) ∧ (l.length : Int) = secH n ∧ ∀ i, i < l.length → 0 ≤ l.getD i 0 ∧ l.getD i 0 < h := by
  unfold romB at x
  rw [Bool.and_eq_true, Bool.and_eq_true] at x
  refine ⟨inB_t x.1.1, by simpa using x.1.2, fun i hi => ?_⟩
  have := x.2
  unfold allB at this
  rw [List.all_eq_true] at this
  have := this i (List.mem_range.2 hi)
  unfold romQ at this
  rw [Bool.and_eq_true] at this
  have := inB_t this.1
  omega
def reaL (r a : Int) (D : Dv) (l : List Int) (n : Int) : List Int := (reaK r a D l l.length).take n.toNat

end Go.Proofs.Ytdalkkjojflakaa

/- hot.Write. -/
namespace Go.Proofs.Ytdalkkjojflakaa
open Go.RowKit
set_option linter.unusedVariables false
set_option linter.unusedSimpArgs false

/-- The bytes of the i-th sector. -/
def wrC (xs : List Int) (i : Nat) : List Int := (xs.take (min ((i + 1) * 64) xs.length)).drop (i * 64)
def wrT (r a : Int) (l xs : List Int) (k : Nat) : List Th := (List.range k).map fun i => .put (2 + r + 2 * a + l.getD i 0) (wrC xs i)
theorem wrT_len (r a : Int) (l xs : List Int) (k : Nat) : (wrT r a l xs k).length = k := by simp [wrT]
theorem wrT_next (r a : Int) (l xs : List Int) (k : Nat) : wrT r a l xs (k + 1) = wrT r a l xs k ++ [.put (2 + r + 2 * a + l.getD k 0) (wrC xs k)] := by simp [wrT, List.range_succ]
def wroE (r a h vm nv : Int) (D : Dv) (l xs : List Int) : Int :=
  if romE h l xs.length (chkE r a h vm nv D) = 0 then doE r a h vm nv D (wrT r a l xs l.length ++ [.flush]) else romE h l xs.length (chkE r a h vm nv D)
def wroD (r a h vm nv : Int) (D : Dv) (l xs : List Int) : Dv :=
  if romE h l xs.length (chkE r a h vm nv D) = 0 then doD r a h vm nv D (wrT r a l xs l.length ++ [.flush]) else nilD

theorem elemU8 : Try.prog.elem 24 = 5 := by kernel_rfl
theorem sizeOfU8 (u : World) : (sizeOf 5).run Try.prog u = .ok 1 u := by kernel_rfl
theorem cut_run {bb bo L bc x y : Nat} (h1 : x ≤ y) (h2 : y ≤ bc) (h3 : x < bc) (u : World) : (Instr.slice 24 (.slice (some ⟨bb, bo, none⟩) L bc) (some (.int .i64 (x : Int))) (some (.int .i64 (y : Int))) none).run Try.prog u = .ok (.slice (some ⟨bb, bo + x, none⟩) (y - x) (bc - x)) u := by
  rw [run_slice_lh u 24 (some ⟨bb, bo, none⟩) L bc (by rw [elemU8]; exact Try.underlying24) .i64 .i64 (x : Int) (y : Int) (by omega) (by omega) (by omega), elemU8, sizeOfU8]
  simp only [Result.andThen, sliced, Int.toNat_natCast]
  have h4 : ¬ bc - x = 0 := by omega
  have h5 : ¬ bc = x := by omega
  simp [h4, h5, Addr.add]

theorem new3 (w : World) (o1 o2 : Obj) (cs : Array Value) (t : TypeId) : (((w.alloc o1).alloc o2).alloc (.cells cs t)).heap[w.heap.size + 1 + 1]? = some (.cells cs t (0, 0)) := by
  have := heap_alloc_new ((w.alloc o1).alloc o2) (.cells cs t)
  rwa [World.size_alloc, World.size_alloc] at this

end Go.Proofs.Ytdalkkjojflakaa

/- What a sector has behind a put, a flush and a crash: plain facts, no walk. -/
namespace Go.Proofs.Ytdalkkjojflakaa
open Go.RowKit
set_option maxRecDepth 100000
set_option linter.unusedVariables false
set_option linter.unusedSimpArgs false
theorem lastI_congr {n : Nat} {p q : Nat → Bool} (h : ∀ i, i < n → p i = q i) : lastI n p = lastI n q := by
  induction n with
  | zero => rfl
  | succ n ih => simp only [lastI]; rw [h n (Nat.lt_succ_self _), ih fun i hi => h i (by omega)]
theorem posIs_old {S : List (List Int)} {C : List Wr} {V : List Vo} {f : Int} {y : Int} {z : Wr} {i : Nat} (hi : i < C.length) {S' : List (List Int)} {V' : List Vo} {f' : Int} : posIs ⟨S, C ++ [z], V, f⟩ y i = posIs ⟨S', C, V', f'⟩ y i := by
  unfold posIs
  simp only [getD_snoc, hi, if_true]
theorem getL_put_same (D : Dv) (x : Int) (xs : List Int) : getL (putD D x xs 0) x = pad 64 xs := by
  rw [putD_ok]
  unfold getL
  simp only [List.length_append, List.length_singleton]
  rw [seen_t (by unfold posIs; simp [getD_snoc])]
  simp [getD_snoc]
theorem getL_put_other (D : Dv) (x y : Int) (xs : List Int) (h : y ≠ x) : getL (putD D x xs 0) y = getL D y := by
  rw [putD_ok]
  unfold getL
  simp only [List.length_append, List.length_singleton]
  rw [seen_f (by unfold posIs; simp only [getD_snoc, Nat.lt_irrefl, if_false, if_true]; simp; exact fun e => h e.symm)]
  unfold seen
  have hp : lastI D.cache.length (posIs ⟨D.safe, D.cache ++ [⟨x, pad 64 xs⟩], D.vols, lessF D.fuel⟩ y) = lastI D.cache.length (posIs D y) := lastI_congr fun i hi => posIs_old hi
  rw [hp]
  have hb := lastI_lt D.cache.length (posIs D y)
  split
  · simp only [getD_snoc]
    rw [if_pos (by omega)]
  · rfl
theorem getL_bare {S : List (List Int)} {V : List Vo} {f : Int} (x : Nat) : getL ⟨S, [], V, f⟩ (x : Int) = S.getD x [] := by
  unfold getL; exact seen_0 _ x
theorem pad_first {m M : Nat} {xs : List Int} (h : xs.length = M) (hm : M ≤ m) : (pad m xs).take M = xs := by
  unfold pad
  subst h
  rw [List.take_of_length_le hm]
  simp
/-- What stays of a sector behind a crash, write by write. -/
theorem settled_at {keep : Nat → Bool} {S : List (List Int)} {C : List Wr} {k : Nat} {x : Nat} (hp : 0 ≤ (C.getD k ⟨0, []⟩).pos ∧ (C.getD k ⟨0, []⟩).pos < S.length) :
    (settled keep S C (k + 1)).getD x [] = if keep k = true ∧ (C.getD k ⟨0, []⟩).pos = (x : Int) then (C.getD k ⟨0, []⟩).data else (settled keep S C k).getD x [] := by
  cases hk : keep k
  · rw [settled_no hk]; simp
  · rw [settled_yes hk, getD_setL _ _ _ _ _ (by rw [settled_length]; omega)]
    by_cases e : (C.getD k ⟨0, []⟩).pos = (x : Int)
    · rw [if_pos (by omega), if_pos ⟨rfl, e⟩]
    · rw [if_neg (by omega), if_neg (fun h => e h.2)]
theorem settled_none {S : List (List Int)} {C : List Wr} (n : Nat) : settled (keepF []) S C n = S := by
  rw [settled_stop (m := 0) (fun k _ => by simp [keepF]) n (Nat.zero_le _)]
  rfl
theorem settled_congr {keep : Nat → Bool} {S : List (List Int)} {C C' : List Wr} (n : Nat) (h : ∀ i, i < n → C.getD i ⟨0, []⟩ = C'.getD i ⟨0, []⟩) : settled keep S C n = settled keep S C' n := by
  induction n with
  | zero => rfl
  | succ n ih => unfold settled; rw [h n (Nat.lt_succ_self _), ih fun i hi => h i (by omega)]
/-- What was put last is safe behind a flush. -/
theorem flu_put {D : Dv} {r a h vm nv : Int} (o : DOk r a h vm nv D) (x : Nat) (xs : List Int) (hx : x < D.safe.length) : (fluD (putD D (x : Int) xs 0) 0).safe.getD x [] = pad 64 xs := by
  rw [fluD_ok, putD_ok]
  simp only [List.length_append, List.length_singleton]
  rw [settled_at (by simp only [getD_snoc, Nat.lt_irrefl, if_false, if_true]; omega)]
  simp [getD_snoc]
theorem cra_none {D : Dv} (x : Nat) {t : Int} : getL (craD [] t D 0) (x : Int) = D.safe.getD x [] := by
  rw [craD_ok, getL_bare, settled_none]
theorem cra_some {D : Dv} (ks : List Bool) (x : Nat) {t : Int} : getL (craD ks t D 0) (x : Int) = (settled (keepF ks) D.safe D.cache D.cache.length).getD x [] := by
  rw [craD_ok, getL_bare]
end Go.Proofs.Ytdalkkjojflakaa

/- What is read behind a write: plain facts, no walk. -/
namespace Go.Proofs.Ytdalkkjojflakaa
open Go.RowKit
set_option maxRecDepth 100000
set_option linter.unusedVariables false
set_option linter.unusedSimpArgs false
section
variable {r a h vm nv : Int}
theorem doE_app (D : Dv) (x y : List Th) : doE r a h vm nv D (x ++ y) = if doE r a h vm nv D x = 0 then doE r a h vm nv (doD r a h vm nv D x) y else doE r a h vm nv D x := by
  induction x generalizing D with
  | nil => simp [doE, doD]
  | cons t ts ih =>
    simp only [List.cons_append, doE, doD]
    by_cases e : thE r a h vm nv D t = 0
    · simp only [e, if_true]; exact ih _
    · simp [e]
theorem doD_app (D : Dv) (x y : List Th) : doD r a h vm nv D (x ++ y) = if doE r a h vm nv D x = 0 then doD r a h vm nv (doD r a h vm nv D x) y else doD r a h vm nv D x := by
  induction x generalizing D with
  | nil => simp [doE, doD]
  | cons t ts ih =>
    simp only [List.cons_append, doE, doD]
    by_cases e : thE r a h vm nv D t = 0
    · simp only [e, if_true]; exact ih _
    · simp [e]
theorem settled_other {keep : Nat → Bool} {S : List (List Int)} {C : List Wr} {x : Nat} : ∀ n : Nat, (∀ i, i < n → (0 ≤ (C.getD i ⟨0, []⟩).pos ∧ (C.getD i ⟨0, []⟩).pos < S.length) ∧ (C.getD i ⟨0, []⟩).pos ≠ (x : Int)) → (settled keep S C n).getD x [] = S.getD x []
  | 0, _ => rfl
  | n + 1, h => by
    rw [settled_at (h n (Nat.lt_succ_self _)).1, if_neg fun e => (h n (Nat.lt_succ_self _)).2 e.2]
    exact settled_other n fun i hi => h i (by omega)
theorem settled_mine {S : List (List Int)} {C : List Wr} {x : Nat} {j : Nat} : ∀ n : Nat, j < n → (∀ i, i < n → 0 ≤ (C.getD i ⟨0, []⟩).pos ∧ (C.getD i ⟨0, []⟩).pos < S.length) → (C.getD j ⟨0, []⟩).pos = (x : Int) → (∀ i, i < n → (C.getD i ⟨0, []⟩).pos = (x : Int) → i = j) → (settled (fun _ => true) S C n).getD x [] = (C.getD j ⟨0, []⟩).data
  | 0, hj, _, _, _ => absurd hj (Nat.not_lt_zero _)
  | n + 1, hj, hr, hx, hu => by
    rw [settled_at (hr n (Nat.lt_succ_self _))]
    by_cases e : (C.getD n ⟨0, []⟩).pos = (x : Int)
    · rw [if_pos ⟨rfl, e⟩, hu n (Nat.lt_succ_self _) e]
    · rw [if_neg fun q => e q.2]
      exact settled_mine n (by have : j ≠ n := fun q => e (q ▸ hx); omega) (fun i hi => hr i (by omega)) hx fun i hi => hu i (by omega)

/-- Where the i-th sector of a list stands. -/
def posW (r a : Int) (l : List Int) (i : Nat) : Int := 2 + r + 2 * a + l.getD i 0
/-- Behind k puts. -/
structure Puts (r a h vm nv : Int) (D : Dv) (l xs : List Int) (k : Nat) (Z : Dv) : Prop where
  ok : DOk r a h vm nv Z
  safe : Z.safe = D.safe
  len : Z.cache.length = k
  pos : ∀ i, i < k → Z.cache.getD i ⟨0, []⟩ = ⟨posW r a l i, pad 64 (wrC xs i)⟩
  fu : D.fuel = -1 → Z.fuel = -1
theorem wrC_len (xs : List Int) (i : Nat) : ¬ 64 < (wrC xs i).length := by unfold wrC; simp; omega
theorem romB_apart {l : List Int} {n : Int} (x : romB h l n = true) {i j : Nat} (hi : i < l.length) (hj : j < i) : l.getD i 0 ≠ l.getD j 0 := by
  unfold romB at x
  rw [Bool.and_eq_true, Bool.and_eq_true] at x
  have := x.2
  unfold allB at this
  rw [List.all_eq_true] at this
  have := this i (List.mem_range.2 hi)
  unfold romQ at this
  rw [Bool.and_eq_true] at this
  intro e
  have h2 := this.2
  have : l.getD i 0 ∈ l.take i := by
    rw [mem_at]
    refine ⟨j, by simp; omega, ?_⟩
    rw [e]
    simp [List.getD, List.getElem?_take, hj]
  simp [List.getD] at h2
  simp [List.getD] at this
  exact h2 this
theorem puts_k (g : geoB r a h vm nv = true) {D : Dv} (o : DOk r a h vm nv D) (hc : D.cache = []) {l xs : List Int} (hin : ∀ i, i < l.length → 0 ≤ l.getD i 0 ∧ l.getD i 0 < h) (hll : l.length ≤ 10) : ∀ k, k ≤ l.length →
    (doE r a h vm nv D (wrT r a l xs k) = 0 ∧ Puts r a h vm nv D l xs k (doD r a h vm nv D (wrT r a l xs k))) ∨
    (D.fuel ≠ -1 ∧ doE r a h vm nv D (wrT r a l xs k) = 10 ∧ ∃ j, j ≤ k ∧ Puts r a h vm nv D l xs j (doD r a h vm nv D (wrT r a l xs k))) := by
  have hg := geoB_u g
  intro k
  induction k with
  | zero => intro _; exact .inl ⟨rfl, ⟨o, rfl, by show D.cache.length = 0; rw [hc]; rfl, fun i hi => absurd hi (Nat.not_lt_zero _), fun e => e⟩⟩
  | succ k ih =>
    intro hk
    rw [wrT_next, doE_app, doD_app]
    rcases ih (by omega) with ⟨h1, P⟩ | ⟨h0, h1, j, hj, P⟩
    · rw [if_pos h1, if_pos h1]
      obtain ⟨Z, hZ⟩ : ∃ Z, doD r a h vm nv D (wrT r a l xs k) = Z := ⟨_, rfl⟩
      rw [hZ] at P ⊢
      have hat : inB (2 + r + 2 * a + l.getD k 0) 0 ((Z.safe.length : Int) - 1) = true := by
        have := hin k (by omega)
        have := P.ok.ns
        simp only [inB, decide_eq_true_eq]
        omega
      have hcl : ¬ 2000 ≤ Z.cache.length := by rw [P.len]; omega
      by_cases hf : Z.fuel = 0
      · right
        have e : thE r a h vm nv Z (.put (2 + r + 2 * a + l.getD k 0) (wrC xs k)) = 10 := by
          show putE _ _ _ _ = _
          rw [chk_ok g P.ok]
          exact putE_down hat (wrC_len _ _) hcl hf
        refine ⟨fun q => by have := P.fu q; omega, by simp only [doE]; rw [if_neg (by rw [e]; decide)]; exact e, k, by omega, ?_⟩
        simp only [doD, e]
        exact P
      · left
        have e : thE r a h vm nv Z (.put (2 + r + 2 * a + l.getD k 0) (wrC xs k)) = 0 := by
          show putE _ _ _ _ = _
          rw [chk_ok g P.ok]
          exact putE_ok hat (wrC_len _ _) hcl hf
        refine ⟨by simp only [doE]; rw [if_pos e], ?_⟩
        simp only [doD, e, if_true]
        have ho : DOk r a h vm nv (putD Z (2 + r + 2 * a + l.getD k 0) (wrC xs k) 0) := P.ok.put hat hcl hf
        refine ⟨ho, ?_, ?_, ?_, ?_⟩
        · show (putD _ _ _ _).safe = _; rw [putD_ok]; exact P.safe
        · show (putD _ _ _ _).cache.length = _; rw [putD_ok]; simp [P.len]
        · intro i hi
          show (putD _ _ _ _).cache.getD i _ = _
          rw [putD_ok]
          simp only [getD_snoc, P.len]
          by_cases q : i < k
          · rw [if_pos q]; exact P.pos i q
          · obtain rfl : i = k := by omega
            rw [if_neg q, if_pos rfl]; rfl
        · intro q
          show (putD _ _ _ _).fuel = _
          rw [putD_ok]
          simp [lessF, P.fu q]
    · rw [if_neg (by omega), if_neg (by omega)]
      exact .inr ⟨h0, h1, j, by omega, P⟩
/-- What a write of bytes leaves. -/
structure Wrote (r a h vm nv : Int) (D : Dv) (l xs : List Int) (Z : Dv) : Prop where
  ok : DOk r a h vm nv Z
  cache : Z.cache = []
  mine : ∀ i, i < l.length → Z.safe.getD (posW r a l i).toNat [] = pad 64 (wrC xs i)
  other : ∀ y : Nat, (∀ i, i < l.length → posW r a l i ≠ (y : Int)) → Z.safe.getD y [] = D.safe.getD y []
  fu : D.fuel = -1 → Z.fuel = -1
structure Torn (r a h vm nv : Int) (D : Dv) (l : List Int) (Z : Dv) : Prop where
  ok : DOk r a h vm nv Z
  safe : Z.safe = D.safe
  pos : ∀ i, i < Z.cache.length → ∃ j, j < l.length ∧ (Z.cache.getD i ⟨0, []⟩).pos = posW r a l j
theorem write_plain (g : geoB r a h vm nv = true) {D : Dv} (o : DOk r a h vm nv D) (hc : D.cache = []) {l xs : List Int} (hm : romB h l xs.length = true) :
    (wroE r a h vm nv D l xs = 0 ∧ Wrote r a h vm nv D l xs (wroD r a h vm nv D l xs)) ∨ (D.fuel ≠ -1 ∧ wroE r a h vm nv D l xs = 10 ∧ Torn r a h vm nv D l (wroD r a h vm nv D l xs)) := by
  have hg := geoB_u g
  obtain ⟨⟨hn0, hn1⟩, hlen, hin⟩ := romB_all hm
  have hll : l.length ≤ 10 := by rw [secH_chunk hn0] at hlen; omega
  have e0 : romE h l xs.length (chkE r a h vm nv D) = 0 := by rw [chk_ok g o]; exact romE_t hm
  have hb : ∀ i, i < l.length → 0 ≤ posW r a l i ∧ posW r a l i < D.safe.length := fun i hi => by have := hin i hi; have := o.ns; unfold posW; omega
  unfold wroE wroD
  rw [if_pos e0, if_pos e0, doE_app, doD_app]
  rcases puts_k g o hc (xs := xs) hin hll l.length (Nat.le_refl _) with ⟨h1, P⟩ | ⟨h0, h1, j, hj, P⟩
  · rw [if_pos h1, if_pos h1]
    obtain ⟨Z, hZ⟩ : ∃ Z, doD r a h vm nv D (wrT r a l xs l.length) = Z := ⟨_, rfl⟩
    rw [hZ] at P ⊢
    have hcp : ∀ i, i < l.length → (Z.cache.getD i ⟨0, []⟩).pos = posW r a l i := fun i hi => by rw [P.pos i hi]
    have hcd : ∀ i, i < l.length → (Z.cache.getD i ⟨0, []⟩).data = pad 64 (wrC xs i) := fun i hi => by rw [P.pos i hi]
    by_cases hf : Z.fuel = 0
    · right
      have e : thE r a h vm nv Z .flush = 10 := by
        show marE _ _ = _
        rw [chk_ok g P.ok]; exact marE_down hf
      refine ⟨fun q => by have := P.fu q; omega, by simp [doE, e], ?_⟩
      have e2 : doD r a h vm nv Z [.flush] = Z := by simp [doD, e]
      rw [e2]
      exact ⟨P.ok, P.safe, fun i hi => ⟨i, by rw [P.len] at hi; exact hi, hcp i (by rw [P.len] at hi; exact hi)⟩⟩
    · left
      have e : thE r a h vm nv Z .flush = 0 := by
        show marE _ _ = _
        rw [chk_ok g P.ok]; exact marE_ok hf
      refine ⟨by simp [doE, e], ?_⟩
      simp only [doD, e, if_true]
      have hzf : thD Z 0 .flush = ⟨settled (fun _ => true) Z.safe Z.cache Z.cache.length, [], Z.vols, lessF Z.fuel⟩ := fluD_ok Z
      have ho : DOk r a h vm nv (thD Z 0 .flush) := P.ok.flu hf
      rw [hzf] at ho ⊢
      have hsl : Z.safe.length = D.safe.length := by rw [P.safe]
      refine ⟨ho, rfl, fun i hi => ?_, fun y hy => ?_, fun q => by simp [lessF, P.fu q]⟩
      · have hbi := hb i hi
        show (settled _ _ _ _).getD _ _ = _
        rw [P.len, settled_mine (j := i) l.length hi (fun m hm => by rw [hcp m hm, hsl]; exact hb m hm) (by rw [hcp i hi]; omega) ?_, hcd i hi]
        intro m hm2 e
        rw [hcp m hm2] at e
        have e2 : posW r a l m = posW r a l i := by omega
        have e3 : l.getD m 0 = l.getD i 0 := by unfold posW at e2; omega
        by_cases q : m < i
        · exact absurd e3.symm (romB_apart hm hi q)
        · by_cases q2 : i < m
          · exact absurd e3 (romB_apart hm hm2 q2)
          · omega
      · show (settled _ _ _ _).getD _ _ = _
        rw [P.len, settled_other l.length fun m hm => ⟨by rw [hcp m hm, hsl]; exact hb m hm, by rw [hcp m hm]; exact hy m hm⟩, P.safe]
  · rw [if_neg (by omega), if_neg (by omega)]
    refine .inr ⟨h0, h1, P.ok, P.safe, fun i hi => ⟨i, by rw [P.len] at hi; omega, ?_⟩⟩
    rw [P.len] at hi
    rw [P.pos i hi]
/-- Bytes are read as they were written. -/
theorem read_plain {D : Dv} {l xs : List Int} (hm : romB h l xs.length = true) (hg : ∀ i, i < l.length → getL D (posW r a l i) = pad 64 (wrC xs i)) : reaL r a D l xs.length = xs := by
  obtain ⟨⟨hn0, hn1⟩, hlen, hin⟩ := romB_all hm
  rw [secH_chunk hn0] at hlen
  have key : ∀ k, k ≤ l.length → reaK r a D l k = pad (64 * k) xs := by
    intro k
    induction k with
    | zero => intro _; simp [reaK_0, pad]
    | succ k ih =>
      intro hk
      have hlt : 64 * k < xs.length := by omega
      rw [reaK_next (by omega), ih (by omega), show getL D (2 + r + 2 * a + l.getD k 0) = _ from hg k (by omega)]
      have e1 : pad (64 * k) xs = xs.take (64 * k) := by unfold pad; rw [show 64 * k - xs.length = 0 by omega]; simp
      have e2 : pad 64 (wrC xs k) = wrC xs k ++ List.replicate (64 * (k + 1) - xs.length) 0 := by
        unfold pad
        rw [List.take_of_length_le (by have := wrC_len xs k; omega)]
        congr 2
        unfold wrC
        simp
        omega
      have e3 : xs.take (64 * k) ++ wrC xs k = xs.take (64 * (k + 1)) := by
        unfold wrC
        rw [show xs.take (64 * k) = (xs.take (min ((k + 1) * 64) xs.length)).take (k * 64) by rw [List.take_take]; congr 1; omega, List.take_append_drop]
        by_cases q : (k + 1) * 64 ≤ xs.length
        · congr 1; omega
        · rw [List.take_of_length_le (l := xs) (i := 64 * (k + 1)) (by omega), List.take_of_length_le (by omega)]
      rw [e1, e2, ← List.append_assoc, e3]
      rfl
  unfold reaL
  rw [key _ (Nat.le_refl _), Int.toNat_natCast]
  exact pad_first rfl (by omega)
theorem Wrote.get {D Z : Dv} {l xs : List Int} (g : geoB r a h vm nv = true) (hW : Wrote r a h vm nv D l xs Z) (hin : ∀ i, i < l.length → 0 ≤ l.getD i 0) {i : Nat} (hi : i < l.length) : getL Z (posW r a l i) = pad 64 (wrC xs i) := by
  have hg := geoB_u g
  have := hin i hi
  have e : posW r a l i = ((posW r a l i).toNat : Int) := by unfold posW; omega
  have hz : Z = ⟨Z.safe, [], Z.vols, Z.fuel⟩ := by have := hW.cache; cases Z; simp_all
  rw [e, hz, getL_bare]
  exact hW.mine i hi
end
end Go.Proofs.Ytdalkkjojflakaa

/- icehousekeep.body. -/
namespace Go.Proofs.Ytdalkkjojflakaa
open Go.RowKit
set_option maxRecDepth 100000
set_option linter.unusedVariables false
set_option linter.unusedSimpArgs false
/-- A text, some times. -/
def repS (s : ByteArray) : Nat → ByteArray
  | 0 => .empty
  | k + 1 => repS s k ++ s
theorem repS_size (s : ByteArray) (k : Nat) : (repS s k).size = k * s.size := by
  induction k with
  | zero => simp [repS]
  | succ k ih => simp only [repS, ByteArray.size_append, ih]; rw [Nat.add_mul, Nat.one_mul]
def bodK (P N : Nat) : Nat := if N = 0 then 0 else (P + N - 1) / N
def bodyS (s : ByteArray) (n : Int) : ByteArray := (repS s (bodK (pickI n 300).toNat s.size)).extract 0 (min (repS s (bodK (pickI n 300).toNat s.size)).size 600)
theorem bodyS_size (s : ByteArray) (n : Int) : (bodyS s n).size ≤ 600 := by unfold bodyS; simp; omega
theorem bodK_is {P N k : Nat} (hN : N ≠ 0) (h1 : ¬ k * N < P) (h0 : k ≠ 0 → (k - 1) * N < P) : bodK P N = k := by
  unfold bodK
  rw [if_neg hN]
  by_cases hk : k = 0
  · subst hk
    exact Nat.div_eq_of_lt (by omega)
  · obtain ⟨j, rfl⟩ : ∃ j, k = j + 1 := ⟨k - 1, by omega⟩
    have h2 := h0 (by omega)
    simp only [Nat.add_sub_cancel] at h2
    have e1 : (j + 1) * N = j * N + N := by rw [Nat.add_mul, Nat.one_mul]
    have e2 : (j + 1 + 1) * N = j * N + N + N := by rw [Nat.add_mul, e1, Nat.one_mul]
    refine Nat.div_eq_of_lt_le (by omega) ?_
    first | (rw [e2]; omega) | (show _ < (j + 1 + 1) * N; rw [e2]; omega)
theorem body_fin {s y : ByteArray} {n : Int} {P k : Nat} (hP : pickI n 300 = (P : Int)) (hy : repS s k = y) (hk : k ≠ 0 → s.size ≠ 0 ∧ (k - 1) * s.size < P) (h : s.size = 0 ∨ ¬ y.size < P) : bodyS s n = y.extract 0 (min y.size 600) := by
  have hz := repS_size s k
  have e : bodK P s.size = k := by
    by_cases hs : s.size = 0
    · unfold bodK
      rw [if_pos hs]
      by_cases q : k = 0
      · exact q.symm
      · exact absurd hs (hk q).1
    · refine bodK_is hs ?_ fun q => (hk q).2
      rw [← hz, hy]
      rcases h with h | h
      · exact absurd h hs
      · exact h
  unfold bodyS
  rw [hP, Int.toNat_natCast, e, hy]
theorem ext_all (y : ByteArray) (h : y.size ≤ 600) : y.extract 0 (min y.size 600) = y := by
  rw [Nat.min_eq_left h]; simp
theorem empty_iff (b : ByteArray) : b.toList.isEmpty = true ↔ b.size = 0 := by
  rw [ByteArray.toList_eq]
  constructor
  · intro h
    have := List.isEmpty_iff.1 h
    have h2 : b.data.toList.length = 0 := by rw [this]; rfl
    simpa using h2
  · intro h
    rw [List.isEmpty_iff]
    exact List.eq_nil_of_length_eq_zero (by simpa using h)
def szOf : Value → Nat
  | .string b => b.size
  | _ => 0
set_option maxHeartbeats 1000000 in
theorem body_any (s : ByteArray) (n : Int) (w : World) (hs : s.size ≤ 9223372036854775807) (h0 : -9223372036854775808 ≤ n) (h1 : n ≤ 9223372036854775807) :
    Calls Try.prog 18 #[.string s, .int .i64 n] w fun e w' => e = .returned (.string (bodyS s n)) ∧ Below w.heap.size w w' := by
  obtain ⟨P, hP⟩ : ∃ P : Nat, pickI n 300 = (P : Int) := ⟨(pickI n 300).toNat, by have := pickI_lo n (m := 300) (by omega); omega⟩
  have hP3 : P < 300 := by have := pickI_hi n (m := 300) (by omega); omega
  have HB : Hid (∀ (y : ByteArray) (k : Nat), repS s k = y → (k ≠ 0 → s.size ≠ 0 ∧ (k - 1) * s.size < P) → (s.size = 0 ∨ ¬ y.size < P) → bodyS s n = y.extract 0 (min y.size 600)) := fun y k a b c => body_fin hP a b c
  have HP := hide hP
  clear hP
  go_enter Try.func18, Try.ntmps18
  go_wp2
  go_loopw [5] (fun o wr => ∃ (k : Nat) (y : ByteArray), o = .string y ∧ repS s k = y ∧ y.size ≤ 9223372036854775807 ∧ (k ≠ 0 → s.size ≠ 0 ∧ (k - 1) * s.size < P) ∧ Below w.heap.size w wr) (fun o _ => P - szOf o)
  case atStart => exact ⟨0, .empty, rfl, rfl, by decide, fun h => absurd rfl h, Below.refl _ _⟩
  case round =>
    obtain ⟨k, y, rfl, hy, hyl, hk, hb⟩ := hrel
    have hsz := repS_size s k
    rw [hy] at hsz
    have HY := hide hy
    have HK := hide hk
    have HSZ := hide hsz
    clear hy hk hsz
    by_cases q : s.size = 0 ∨ ¬ y.size < P
    · have hfin := hide (unhide HB y k (unhide HY) (unhide HK) q)
      have hres : ∀ z : ByteArray, z = y.extract 0 (min y.size 600) → Ending.returned (.string z) = .returned (.string (bodyS s n)) := fun z hz => by rw [hz, unhide hfin]
      have HRES := hide hres
      clear hres
      have hq : (s.toList.isEmpty = true ∧ y.size ≤ 600) ∨ ¬ y.size < P := by
        rcases q with q | q
        · refine .inl ⟨?_, ?_⟩
          · exact (empty_iff s).2 q
          · rw [unhide HSZ, q]; omega
        · exact .inr q
      clear q hfin
      by_cases h6 : y.size ≤ 600
      · have HE := hide (ext_all y h6).symm
        rcases hq with ⟨hq, _⟩ | hq
        · by_cases hl : y.size < P <;> (
            go_wp2_with (go_at_call 19; refine (picked_any n 300 _ (by omega) (by omega) h0 (by omega)).mono ?_; rintro e w' ⟨rfl, rfl⟩; rw [unhide HP])
            go_ret
            exact ⟨unhide HRES _ (unhide HE), hb⟩)
        · go_wp2_with (go_at_call 19; refine (picked_any n 300 _ (by omega) (by omega) h0 (by omega)).mono ?_; rintro e w' ⟨rfl, rfl⟩; rw [unhide HP])
          go_ret
          exact ⟨unhide HRES _ (unhide HE), hb⟩
      · have hq' : ¬ y.size < P := by rcases hq with ⟨_, hq⟩ | hq; omega; exact hq
        have HE : Hid (y.extract 0 600 = y.extract 0 (min y.size 600)) := by show _ = _; rw [Nat.min_eq_right (by omega)]
        clear hq
        go_wp2_with (go_at_call 19; refine (picked_any n 300 _ (by omega) (by omega) h0 (by omega)).mono ?_; rintro e w' ⟨rfl, rfl⟩; rw [unhide HP])
        go_ret
        exact ⟨unhide HRES _ (unhide HE), hb⟩
    · have h2 : s.size ≠ 0 := fun e => q (.inl e)
      have h1 : y.size < P := by by_cases e : y.size < P; exact e; exact absurd (.inr e) q
      have hse : s.toList.isEmpty = false := by
        rw [Bool.eq_false_iff]; intro e
        exact h2 ((empty_iff s).1 e)
      have hys : y.size + s.size ≤ 9223372036854775807 := by
        have hz := unhide HSZ
        by_cases k0 : k = 0
        · subst k0; omega
        · have : 1 * s.size ≤ k * s.size := Nat.mul_le_mul_right _ (by omega)
          omega
      clear q
      go_wp2_with (go_at_call 19; refine (picked_any n 300 _ (by omega) (by omega) h0 (by omega)).mono ?_; rintro e w' ⟨rfl, rfl⟩; rw [unhide HP])
      go_roundw
      case rel => exact ⟨k + 1, y ++ s, rfl, by show repS s k ++ s = _; rw [unhide HY], by rw [ByteArray.size_append]; exact hys, fun _ => ⟨h2, by rw [Nat.add_sub_cancel, ← unhide HSZ]; exact h1⟩, hb⟩
      case measure => simp [szOf, ByteArray.size_append]; omega
end Go.Proofs.Ytdalkkjojflakaa

/- The two boxes of a law of icehousekeep at whatever geometry; the geometry of sevens; what a conversion lays. -/
namespace Go.Proofs.Ytdalkkjojflakaa
open Go.RowKit
set_option maxRecDepth 100000
set_option linter.unusedVariables false
set_option linter.unusedSimpArgs false
abbrev geoV (r a h vm nv : Int) : List Value := [.int .i64 r, .int .i64 a, .int .i64 h, .int .i64 vm, .int .i64 nv]
structure Kg (r a h vm nv : Int) (w W : World) (gB dB : Nat) (s c v : Value) (D : Dv) : Prop where
  geo : Row W gB 33 (geoV r a h vm nv)
  box : Row W dB 37 [s, c, v, .int .i64 D.fuel]
  dev : Dev W s c v D
  bel : Below w.heap.size w W
  low : w.heap.size ≤ dB
section
variable {r a hz vm nv : Int} {w W w' : World} {gB dB : Nat} {s c v s' c' v' : Value} {D D' : Dv}
theorem Kg.up (h : Kg r a hz vm nv w W gB dB s c v D) (hb : Below W.heap.size W w') : Kg r a hz vm nv w w' gB dB s c v D := ⟨h.geo.up hb, h.box.up hb, h.dev.up hb, bl_trans h.bel hb, h.low⟩
theorem Kg.store (h : Kg r a hz vm nv w W gB dB s c v D) (hb : Below W.heap.size W w') {B : Nat} (hO : ODev w' B s' c' v' D') :
    Kg r a hz vm nv w ((((w'.setCell ⟨dB, 0, none⟩ s').setCell ⟨dB, 1, none⟩ c').setCell ⟨dB, 2, none⟩ v').setCell ⟨dB, 3, none⟩ (.int .i64 D'.fuel)) gB dB s' c' v' D' := by
  have hr := h.box.up hb
  have hg := h.geo.up hb
  refine ⟨hg.kept (gb4 dB _ _ _ _) (by simpa using hg.apart hr (by decide)), R4 hr _ _ _ _, (O4 hO hr _ _ _ _).dev, ?_, h.low⟩
  have h1 := bl_trans h.bel hb
  have hl := h.low
  exact bl_set (bl_set (bl_set (bl_set h1 hl _) hl _) hl _) hl _
end
/-- Numbers of one's own, and a text's bytes, behind a store into the devices' box. -/
theorem OwN.store {w w' : World} {B dB : Nat} {v : Value} {l : List Int} {cs : List Value} (h : OwN w B v l) (hr : Row w dB 37 cs) (hb : Below w.heap.size w w') (p q x z : Value) :
    OwN ((((w'.setCell ⟨dB, 0, none⟩ p).setCell ⟨dB, 1, none⟩ q).setCell ⟨dB, 2, none⟩ x).setCell ⟨dB, 3, none⟩ z) B v l :=
  World.ownsRow.kept (own_up h hb) (gb4 dB _ _ _ _) (.inr (own_apart (own_up h hb) (hr.up hb) (by decide)))
theorem Txs.stored {w w' : World} {dB : Nat} {a : Value} {T : ByteArray} {cs : List Value} (t : Txs w a T) (hr : Row w dB 37 cs) (hb : Below w.heap.size w w') (p q r z : Value) :
    Txs ((((w'.setCell ⟨dB, 0, none⟩ p).setCell ⟨dB, 1, none⟩ q).setCell ⟨dB, 2, none⟩ r).setCell ⟨dB, 3, none⟩ z) a T := (t.up hb).kept (hr.up hb) (by decide) (gb4 dB _ _ _ _)
theorem geo7 (a : Int) : geoB (8 + pickI a 30) (30 + pickI a 40) (hotH a) (700 + pickI a 2000) (2 + pickI a 7) = true := by
  have b1 := pick_b a 30 (by decide)
  have b2 := pick_b a 40 (by decide)
  have b4 := pick_b a 2000 (by decide)
  have b5 := pick_b a 7 (by decide)
  have b3 := hotH_is a
  simp only [geoB, inB, Bool.and_eq_true, decide_eq_true_eq]
  omega
/-- Steps of seven meet each sector once. -/
theorem spL_room {f h : Int} {n : Int} {k : Nat} (hh : h = 11 ∨ h = 22 ∨ h = 31) (hn : 0 ≤ n ∧ n ≤ 600) (hk : secH n = (k : Int)) : romB h (spL f h k) n = true := by
  have hP := pick_b f h (by omega)
  have hk10 : k ≤ 10 := by rw [secH_chunk hn.1] at hk; omega
  refine romB_t (by simp [inB]; omega) (by rw [spL_len, hk]) fun j hj => ?_
  rw [spL_len] at hj
  unfold romQ
  rw [spL_at f h hj, spL_take f h (by omega)]
  rw [Bool.and_eq_true]
  have e1 := Int.emod_nonneg (pickI f h + (j : Int) * 7) (b := h) (by omega)
  have e2 := Int.emod_lt_of_pos (pickI f h + (j : Int) * 7) (b := h) (by omega)
  refine ⟨by simp [inB]; omega, ?_⟩
  rw [Bool.not_eq_true', Bool.eq_false_iff]
  intro e
  simp only [List.contains_iff_mem, spL, List.mem_map, List.mem_range] at e
  obtain ⟨i, hi, e⟩ := e
  rcases hh with rfl | rfl | rfl <;> omega
end Go.Proofs.Ytdalkkjojflakaa

/- Two lists of sectors, one behind the other, and what is written in both: plain facts, and the cut of a list in memory. -/
namespace Go.Proofs.Ytdalkkjojflakaa
open Go.RowKit
set_option maxRecDepth 100000
set_option linter.unusedVariables false
set_option linter.unusedSimpArgs false
section
variable {r a h vm nv : Int}
theorem newD_safe (g : geoB r a h vm nv = true) : (newD r a h vm nv).cache = [] ∧ (newD r a h vm nv).fuel = -1 := by rw [newD_t g]; exact ⟨rfl, rfl⟩
theorem posW_nat (g : geoB r a h vm nv = true) {l : List Int} {i : Nat} (h0 : 0 ≤ l.getD i 0) : posW r a l i = ((posW r a l i).toNat : Int) := by
  have hg := geoB_u g
  unfold posW; omega
theorem Wrote.get_cra {D Z : Dv} {l xs : List Int} (g : geoB r a h vm nv = true) (hW : Wrote r a h vm nv D l xs Z) (hin : ∀ i, i < l.length → 0 ≤ l.getD i 0) (ks : List Bool) {t : Int} {i : Nat} (hi : i < l.length) : getL (craD ks t Z 0) (posW r a l i) = pad 64 (wrC xs i) := by
  rw [posW_nat g (hin i hi), cra_some, hW.cache]
  exact hW.mine i hi
/-- What was written first is there behind a second write elsewhere. -/
theorem Wrote.first {D Y Z : Dv} {l xs m ys : List Int} (g : geoB r a h vm nv = true) (hW : Wrote r a h vm nv D l xs Y) (hV : Wrote r a h vm nv Y m ys Z) (hin : ∀ i, i < l.length → 0 ≤ l.getD i 0) (hap : ∀ i j, i < l.length → j < m.length → l.getD i 0 ≠ m.getD j 0) {i : Nat} (hi : i < l.length) : getL Z (posW r a l i) = pad 64 (wrC xs i) := by
  have hz : Z = ⟨Z.safe, [], Z.vols, Z.fuel⟩ := by have := hV.cache; cases Z; simp_all
  have e := posW_nat g (hin i hi)
  rw [e, hz, getL_bare]
  show Z.safe.getD _ [] = _
  rw [hV.other _ fun j hj q => hap i j hi hj (by rw [← e] at q; unfold posW at q; omega)]
  exact hW.mine i hi
theorem Wrote.first_arm {D Y Y' Z : Dv} {l xs m ys : List Int} (g : geoB r a h vm nv = true) (hW : Wrote r a h vm nv D l xs Y) (hY : Y'.safe = Y.safe) (hV : Wrote r a h vm nv Y' m ys Z) (hin : ∀ i, i < l.length → 0 ≤ l.getD i 0) (hap : ∀ i j, i < l.length → j < m.length → l.getD i 0 ≠ m.getD j 0) (ks : List Bool) {t : Int} {i : Nat} (hi : i < l.length) : getL (craD ks t Z 0) (posW r a l i) = pad 64 (wrC xs i) := by
  have e := posW_nat g (hin i hi)
  rw [e, cra_some, hV.cache]
  show Z.safe.getD _ [] = _
  rw [hV.other _ fun j hj q => hap i j hi hj (by rw [← e] at q; unfold posW at q; omega), hY]
  exact hW.mine i hi
/-- A write that was torn leaves the other sectors as they were. -/
theorem Torn.first_cra {D Y Z : Dv} {l xs m : List Int} (g : geoB r a h vm nv = true) (hW : Wrote r a h vm nv D l xs Y) {Y' : Dv} (hY : Y'.safe = Y.safe) (hV : Torn r a h vm nv Y' m Z) (hin : ∀ i, i < l.length → 0 ≤ l.getD i 0) (hap : ∀ i j, i < l.length → j < m.length → l.getD i 0 ≠ m.getD j 0) (ks : List Bool) {t : Int} {i : Nat} (hi : i < l.length) : getL (craD ks t Z 0) (posW r a l i) = pad 64 (wrC xs i) := by
  have e := posW_nat g (hin i hi)
  rw [e, cra_some, settled_other _ fun k hk => ⟨(hV.ok.c64 k hk).1, fun q => ?_⟩]
  · rw [hV.safe, hY]; exact hW.mine i hi
  · obtain ⟨j, hj, q2⟩ := hV.pos k hk
    rw [q2, ← e] at q
    exact hap i j hi hj (by unfold posW at q; omega)
theorem dies_plain (g : geoB r a h vm nv = true) {D Y : Dv} {l m xs ys : List Int} (hW : Wrote r a h vm nv D l xs Y) (hl : romB h l xs.length = true) (hm : romB h m ys.length = true) (hin : ∀ i, i < l.length → 0 ≤ l.getD i 0) (him : ∀ i, i < m.length → 0 ≤ m.getD i 0) (hap : ∀ i j, i < l.length → j < m.length → l.getD i 0 ≠ m.getD j 0) {f : Int} (hf : inB f 0 1048576 = true) (ks : List Bool) :
    ∃ (E : Int) (Z : Dv), wroE r a h vm nv (armD Y f 0) m ys = E ∧ wroD r a h vm nv (armD Y f 0) m ys = Z ∧ (E = 0 ∨ E = 10) ∧ DOk r a h vm nv Z ∧ reaL r a (craD ks 0 Z 0) l xs.length = xs ∧ (E = 10 ∨ reaL r a (craD ks 0 Z 0) m ys.length = ys) := by
  have oA : DOk r a h vm nv (armD Y f 0) := hW.ok.arm hf
  have cA : (armD Y f 0).cache = [] := by rw [armD_ok]; exact hW.cache
  have sA : (armD Y f 0).safe = Y.safe := by rw [armD_ok]
  refine ⟨_, _, rfl, rfl, ?_⟩
  rcases write_plain g oA cA hm with ⟨h1, h2⟩ | ⟨_, h1, h2⟩
  · exact ⟨.inl h1, h2.ok, read_plain hl fun i hi => hW.first_arm g sA h2 hin hap ks hi, .inr (read_plain hm fun i hi => h2.get_cra g him ks hi)⟩
  · exact ⟨.inr h1, h2.ok, read_plain hl fun i hi => Torn.first_cra g hW sA h2 hin hap ks hi, .inl h1⟩
end
theorem Kg.fresh {r a hz vm nv : Int} {w W w' : World} {gB dB : Nat} {s c v : Value} {D : Dv} (h : Kg r a hz vm nv w W gB dB s c v D) (hb : Below W.heap.size W w') {B : Nat} (yr : Row w' B 37 [.slice none 0 0, .slice none 0 0, .slice none 0 0, .int .i64 0]) (hB : W.heap.size ≤ B) :
    Kg r a hz vm nv w w' gB B (.slice none 0 0) (.slice none 0 0) (.slice none 0 0) ⟨[], [], [], 0⟩ :=
  ⟨h.geo.up hb, yr, (ODev.empty w' 0 0).dev, bl_trans h.bel hb, Nat.le_trans h.bel.size hB⟩
theorem geo5 {r a h vm nv : Int} {W : World} {g : Nat} (k : Row W g 33 (geoV r a h vm nv)) : W.cell? ⟨g, 0, none⟩ = some (.int .i64 r) ∧ W.cell? ⟨g, 1, none⟩ = some (.int .i64 a) ∧ W.cell? ⟨g, 2, none⟩ = some (.int .i64 h) ∧ W.cell? ⟨g, 3, none⟩ = some (.int .i64 vm) ∧ W.cell? ⟨g, 4, none⟩ = some (.int .i64 nv) :=
  ⟨k.cell 0 _ rfl, k.cell 1 _ rfl, k.cell 2 _ rfl, k.cell 3 _ rfl, k.cell 4 _ rfl⟩
/-- The second part of a list of steps. -/
def spM (f h : Int) (x n : Nat) : List Int := ((spL f h (x + n)).drop x)
theorem spM_len (f h : Int) (x n : Nat) : (spM f h x n).length = n := by simp [spM, spL]
theorem spM_at (f h : Int) (x : Nat) {n i : Nat} (hi : i < n) : (spM f h x n).getD i 0 = (pickI f h + ((x + i : Nat) : Int) * 7) % h := by
  rw [← spL_at f h (n := x + n) (i := x + i) (by omega)]
  simp [spM, List.getD, List.getElem?_drop]
theorem spL_in {f h : Int} (hh : h = 11 ∨ h = 22 ∨ h = 31) {n : Nat} : ∀ i, i < (spL f h n).length → 0 ≤ (spL f h n).getD i 0 := fun i hi => by
  rw [spL_len] at hi
  rw [spL_at f h hi]
  exact Int.emod_nonneg _ (by omega)
theorem spM_in {f h : Int} (hh : h = 11 ∨ h = 22 ∨ h = 31) {x n : Nat} : ∀ i, i < (spM f h x n).length → 0 ≤ (spM f h x n).getD i 0 := fun i hi => by
  rw [spM_len] at hi
  rw [spM_at f h x hi]
  exact Int.emod_nonneg _ (by omega)
theorem spM_apart {f h : Int} (hh : h = 11 ∨ h = 22 ∨ h = 31) {x n : Nat} (hx : x + n ≤ 11) : ∀ i j, i < (spL f h x).length → j < (spM f h x n).length → (spL f h x).getD i 0 ≠ (spM f h x n).getD j 0 := fun i j hi hj => by
  rw [spL_len] at hi
  rw [spM_len] at hj
  rw [spL_at f h hi, spM_at f h x hj]
  have hP := pick_b f h (by omega)
  rcases hh with rfl | rfl | rfl <;> omega
theorem spM_room {f h : Int} {n : Int} {x k : Nat} (hh : h = 11 ∨ h = 22 ∨ h = 31) (hn : 0 ≤ n ∧ n ≤ 600) (hk : secH n = (k : Int)) (hx : x + k ≤ 11) : romB h (spM f h x k) n = true := by
  have hP := pick_b f h (by omega)
  refine romB_t (by simp [inB]; omega) (by rw [spM_len, hk]) fun j hj => ?_
  rw [spM_len] at hj
  unfold romQ
  rw [spM_at f h x hj]
  rw [Bool.and_eq_true]
  have e1 := Int.emod_nonneg (pickI f h + ((x + j : Nat) : Int) * 7) (b := h) (by omega)
  have e2 := Int.emod_lt_of_pos (pickI f h + ((x + j : Nat) : Int) * 7) (b := h) (by omega)
  refine ⟨by simp only [inB, decide_eq_true_eq]; omega, ?_⟩
  rw [Bool.not_eq_true', Bool.eq_false_iff]
  intro e
  rw [List.contains_iff_mem, mem_at] at e
  obtain ⟨i, hi, e⟩ := e
  have hi' : i < j := by simp [spM_len] at hi; omega
  have e3 : ((spM f h x k).take j).getD i 0 = (spM f h x k).getD i 0 := by simp [List.getD, List.getElem?_take, hi']
  rw [e3, spM_at f h x (by omega)] at e
  rcases hh with rfl | rfl | rfl <;> omega
/-- The cut of a list in memory. -/
theorem elemNt : Try.prog.elem 22 = 3 := by kernel_rfl
theorem sizeOfNt (u : World) : (sizeOf 3).run Try.prog u = .ok 1 u := by kernel_rfl
theorem cut_runN {bb bo L bc x y : Nat} (h1 : x ≤ y) (h2 : y ≤ bc) (h3 : x < bc) (u : World) : (Instr.slice 22 (.slice (some ⟨bb, bo, none⟩) L bc) (some (.int .i64 (x : Int))) (some (.int .i64 (y : Int))) none).run Try.prog u = .ok (.slice (some ⟨bb, bo + x, none⟩) (y - x) (bc - x)) u := by
  rw [run_slice_lh u 22 (some ⟨bb, bo, none⟩) L bc (by rw [elemNt]; exact Try.underlying22) .i64 .i64 (x : Int) (y : Int) (by omega) (by omega) (by omega), elemNt, sizeOfNt]
  simp only [Result.andThen, sliced, Int.toNat_natCast]
  have h4 : ¬ bc - x = 0 := by omega
  have h5 : ¬ bc = x := by omega
  simp [h4, h5, Addr.add]
theorem Nts.cut {w : World} {b o L cap : Nat} {xs : List Int} (h : Nts w (.slice (some ⟨b, o, none⟩) L cap) xs) {x y : Nat} (hxy : x ≤ y) (hy : y ≤ L) : Nts w (.slice (some ⟨b, o + x, none⟩) (y - x) (cap - x)) ((xs.take y).drop x) := by
  obtain ⟨a', cap', e, l1, m1, hc⟩ := h
  simp at e
  obtain ⟨rfl, rfl, rfl⟩ := e
  have hl : ((xs.take y).drop x).length = y - x := by simp; omega
  refine ⟨_, cap - x, by rw [hl], by rw [hl]; omega, by omega, fun i hi => ?_⟩
  rw [hl] at hi
  obtain ⟨b', o', e, hcell⟩ := hc (x + i) (by omega)
  simp at e
  obtain ⟨rfl, rfl⟩ := e
  refine ⟨b, o + x, rfl, ?_⟩
  rw [Nat.add_assoc, hcell]
  congr 2
  simp [List.getD, List.getElem?_drop, List.getElem?_take, show x + i < y by omega]
theorem OwN.form {w : World} {B : Nat} {v : Value} {l : List Int} {n : Nat} (h : OwN w B v l) (hl : l.length = n) (h0 : 0 < n) : ∃ g cap, v = .slice (some ⟨g, 0, none⟩) n cap ∧ n ≤ cap ∧ cap ≤ maxLen := by
  subst hl
  rcases h.2 with ⟨_, q⟩ | ⟨g, cap, cur, rfl, _, _, h1, h2, _⟩
  · omega
  · exact ⟨g, cap, rfl, h1, h2⟩
theorem cut_three (B : ByteArray) (hB : B.size ≤ 600) : ∃ (N M : Nat) (X : ByteArray), B.size = N ∧ N ≤ 600 ∧ (if (300 : Int) < (N : Int) then (300 : Int) else (N : Int)) = (M : Int) ∧ M ≤ 300 ∧ M ≤ N ∧ B.extract 0 M = X ∧ X.size = M := by
  refine ⟨B.size, min B.size 300, _, rfl, by omega, by split <;> omega, by omega, by omega, rfl, by simp⟩
theorem sec_nat {M : Nat} (hM : M ≤ 1000) : ∃ k : Nat, secH (M : Int) = (k : Int) ∧ (secH (M : Int)).toNat = k ∧ k = (M + 63) / 64 := by
  have := secH_chunk (n := (M : Int)) (by omega)
  exact ⟨(M + 63) / 64, by omega, by omega, rfl⟩
end Go.Proofs.Ytdalkkjojflakaa

/- icehousekeep.PackFetch: plain facts; texts' bytes in a row of one's own. -/
namespace Go.Proofs.Ytdalkkjojflakaa
open Go.RowKit
set_option maxRecDepth 100000
set_option linter.unusedVariables false
set_option linter.unusedSimpArgs false
def pfI (x : Rw) : Int := 1 + pickI x.a 1000
def pfT (x : Rw) : ByteArray := (bodyS x.text x.c).extract 0 (min (bodyS x.text x.c).size 250)
def pfB (x : Rw) : List Int := bytesI (pfT x)
theorem pfT_size (x : Rw) : (pfT x).size ≤ 250 := by unfold pfT; simp; omega
theorem pfB_len (x : Rw) : (pfB x).length ≤ 250 := by unfold pfB; rw [bytesI_length]; exact pfT_size x
theorem pfI_in (x : Rw) : 1 ≤ pfI x ∧ pfI x ≤ 1000 := by unfold pfI; have := pickI_lo x.a (m := 1000) (by decide); have := pickI_hi x.a (m := 1000) (by decide); omega
theorem cut_at (c : Nat) (hc : c ≤ 1000) (s : ByteArray) (hs : s.size ≤ 9223372036854775807) : ∃ (N M : Nat) (T : ByteArray), s.size = N ∧ N ≤ 9223372036854775807 ∧ (if ((c : Nat) : Int) < (N : Int) then ((c : Nat) : Int) else (N : Int)) = (M : Int) ∧ M ≤ c ∧ M ≤ N ∧ s.extract 0 M = T ∧ T.size = M := by
  refine ⟨s.size, min s.size c, _, rfl, by omega, by split <;> omega, by omega, by omega, rfl, by simp⟩
section
variable {ids : List Int} {bs : List (List Int)}
theorem pk_zero (hi : ∀ i, i < ids.length → 1 ≤ ids.getD i 0 ∧ ids.getD i 0 ≤ 1000) (hb : ∀ i, i < ids.length → (bs.getD i []).length ≤ 250) : ∀ k, k ≤ ids.length → pkF ids bs k = 0
  | 0, _ => rfl
  | k + 1, hk => by
    refine pkF_ok (pk_zero hi hb k (by omega)) ?_
    have h1 := hi k (by omega)
    have h2 := hb k (by omega)
    unfold pkQ
    rw [if_pos (by simp only [inB, decide_eq_true_eq]; omega), if_pos (by unfold bdL; simp only [inB, decide_eq_true_eq]; omega)]
theorem pkO_le (hb : ∀ i, (bs.getD i []).length ≤ 250) : ∀ k, (pkO ids bs k).length ≤ 256 * k
  | 0 => by simp [pkO]
  | k + 1 => by
    have := pkO_le hb k
    have := hb k
    simp only [pkO, List.length_append, hdL_len]
    omega
theorem pkO_split : ∀ {k n : Nat}, k < n → ∃ R, pkO ids bs n = pkO ids bs k ++ (hdL (ids.getD k 0) (bdL bs k) ++ bs.getD k []) ++ R := by
  intro k n
  induction n with
  | zero => intro h; omega
  | succ n ih =>
    intro h
    by_cases e : k = n
    · subst e; exact ⟨[], by simp [pkO]⟩
    · obtain ⟨R, hR⟩ := ih (by omega)
      exact ⟨R ++ (hdL (ids.getD n 0) (bdL bs n) ++ bs.getD n []), by rw [pkO, hR]; simp⟩
theorem pkP_at (p : Int) : ∀ {k n : Nat}, k < n → (pkP p ids bs n).getD k pc0 = ⟨ids.getD k 0, p + ((pkO ids bs k).length : Int), bdL bs k⟩ := by
  intro k n
  induction n with
  | zero => intro h; omega
  | succ n ih =>
    intro h
    simp only [pkP, getD_snoc, pkP_len]
    by_cases e : k < n
    · rw [if_pos e]; exact ih e
    · obtain rfl : k = n := by omega
      rw [if_neg e, if_pos rfl]
end
/-- The head of another number is another. -/
theorem strOf_inj {xs ys : List Int} (hx : ∀ x ∈ xs, 0 ≤ x ∧ x ≤ 255) (hy : ∀ x ∈ ys, 0 ≤ x ∧ x ≤ 255) (h : strOfNums xs = strOfNums ys) : xs = ys := by
  have h1 : (strOfNums xs).data.toList = (strOfNums ys).data.toList := by rw [h]
  simp only [strOfNums] at h1
  have h2 : xs.map (fun x => UInt8.ofNat x.toNat) = ys.map (fun x => UInt8.ofNat x.toNat) := by simpa using h1
  have h3 := congrArg (List.map fun b : UInt8 => (b.toNat : Int)) h2
  rw [List.map_map, List.map_map] at h3
  have e : ∀ zs : List Int, (∀ x ∈ zs, 0 ≤ x ∧ x ≤ 255) → zs.map ((fun b : UInt8 => (b.toNat : Int)) ∘ fun x => UInt8.ofNat x.toNat) = zs := fun zs hz => by
    refine (List.map_congr_left (g := id) fun x hxm => ?_).trans (List.map_id _)
    have := hz x hxm
    simp only [Function.comp, id, UInt8.toNat_ofNat']
    omega
  rw [e xs hx, e ys hy] at h3
  exact h3
theorem be_in (m : Nat) (n : Int) : ∀ x ∈ be m n, 0 ≤ x ∧ x ≤ 255 := fun x hx => by
  unfold be at hx
  obtain ⟨i, _, rfl⟩ := List.mem_map.1 hx
  omega
theorem hd_other {i n : Int} (h0 : 0 ≤ i) : eqT (hdL i n) (hdL (i + 1) n) = false := by
  unfold eqT
  rw [beq_eq_false_iff_ne]
  intro e
  rw [ByteArray.toList_eq, ByteArray.toList_eq] at e
  have e2 : strOfNums (hdL i n) = strOfNums (hdL (i + 1) n) := ByteArray.ext (Array.toList_inj.1 e)
  have hin : ∀ j : Int, ∀ x ∈ hdL j n, 0 ≤ x ∧ x ≤ 255 := fun j x hx => by
    unfold hdL at hx
    rcases List.mem_append.1 hx with h | h
    · exact be_in _ _ x h
    · exact be_in _ _ x h
  have e3 := strOf_inj (hin i) (hin (i + 1)) e2
  have e4 : (hdL i n)[3]? = (hdL (i + 1) n)[3]? := by rw [e3]
  unfold hdL at e4
  rw [List.getElem?_append_left (by rw [be_len]; decide), List.getElem?_append_left (by rw [be_len]; decide), be_at _ (by decide), be_at _ (by decide)] at e4
  simp at e4
  omega
theorem eqT_same (xs : List Int) : eqT xs xs = true := by unfold eqT; simp
/-- The devices of PackFetch: their tape. -/
def pfD (xs : List Int) : Dv := ⟨List.replicate 80 zeros, [], [⟨xs, 0, false⟩], -1⟩
theorem pfGeo : geoB 8 30 10 2699 6 = true := by decide
theorem pfD1 (xs : List Int) : appD 6 (newD 8 30 10 2699 6) 0 xs 0 = pfD xs := by rw [appD_ok, newD_t pfGeo]; rfl
theorem pfD2 (xs ys : List Int) : appD 6 (pfD xs) 0 ys 0 = pfD (xs ++ ys) := by rw [appD_ok, appVs_f (by simp [appB, pfD])]; rfl
section
variable {xs ys : List Int}
theorem pfE1' (hx : xs.length ≤ 100) : appE 2699 6 (newD 8 30 10 2699 6) 0 xs.length 0 = 0 := appE_okN (by rw [newD_t pfGeo]; decide) (by omega) (by rw [newD_t pfGeo]; decide)
theorem pfE1 (hx : xs.length ≤ 100) : appE 2699 6 (newD 8 30 10 2699 6) 0 xs.length (chkE 8 30 10 2699 6 (newD 8 30 10 2699 6)) = 0 := by rw [chk_ok pfGeo (DOk.new pfGeo)]; exact pfE1' hx
theorem pfO1 (hx : xs.length ≤ 100) : DOk 8 30 10 2699 6 (pfD xs) := by rw [← pfD1]; exact (DOk.new pfGeo).app (pfE1' hx) (by decide)
theorem pfE2' (h : xs.length + ys.length ≤ 2600) : appE 2699 6 (pfD xs) 0 ys.length 0 = 0 := appE_okO (by simp [appB, pfD]) (by simp [isVol, pfD, inB]) (by simp [pfD]; omega) (by simp [pfD])
theorem pfE2 (hx : xs.length ≤ 100) (h : xs.length + ys.length ≤ 2600) : appE 2699 6 (pfD xs) 0 ys.length (chkE 8 30 10 2699 6 (pfD xs)) = 0 := by rw [chk_ok pfGeo (pfO1 hx)]; exact pfE2' h
theorem pfO2 (hx : xs.length ≤ 100) (h : xs.length + ys.length ≤ 2600) : DOk 8 30 10 2699 6 (pfD (xs ++ ys)) := by rw [← pfD2]; exact (pfO1 hx).app (pfE2' h) (by decide)
end
theorem pf_fetch {A P H B R : List Int} (hH : H.length = 6) : fetL (pfD (A ++ (P ++ (H ++ B) ++ R))) 0 ((A.length : Int) + (P.length : Int)) (6 + (B.length : Int)) = H ++ B := by
  unfold fetL pfD
  simp only [Int.toNat_zero, List.getD_cons_zero]
  rw [show ((A.length : Int) + (P.length : Int)).toNat = A.length + P.length by omega, show (6 + (B.length : Int)).toNat = (H ++ B).length by rw [List.length_append]; omega]
  rw [show A ++ (P ++ (H ++ B) ++ R) = (A ++ P) ++ ((H ++ B) ++ R) by simp, ← List.length_append, List.drop_left, List.take_left]
theorem pf_fetE {A P H B R : List Int} (hH : H.length = 6) : fetE (pfD (A ++ (P ++ (H ++ B) ++ R))) 0 ((A.length : Int) + (P.length : Int)) (6 + (B.length : Int)) 0 = 0 :=
  fetE_in (by simp [isVol, pfD, inB]) (by simp only [pfD, Int.toNat_zero, List.getD_cons_zero, List.length_append, Bool.and_eq_true]; constructor <;> (simp only [inB, decide_eq_true_eq]; omega))
/-- What a piece's fetch answers. -/
theorem pf_piece {A : List Int} {ids : List Int} {bs : List (List Int)} {K k : Nat} (hk : k < K) (ho : DOk 8 30 10 2699 6 (pfD (A ++ pkO ids bs K))) (hi : 1 ≤ ids.getD k 0 ∧ ids.getD k 0 ≤ 1000) (hb : (bs.getD k []).length ≤ 250) :
    hftE (pfD (A ++ pkO ids bs K)) 0 (ids.getD k 0) ((A.length : Int) + ((pkO ids bs k).length : Int)) (bdL bs k) (chkE 8 30 10 2699 6 (pfD (A ++ pkO ids bs K))) = 0 ∧
    hftL (pfD (A ++ pkO ids bs K)) 0 ((A.length : Int) + ((pkO ids bs k).length : Int)) (bdL bs k) = bs.getD k [] ∧
    hftE (pfD (A ++ pkO ids bs K)) 0 (ids.getD k 0 + 1) ((A.length : Int) + ((pkO ids bs k).length : Int)) (bdL bs k) (chkE 8 30 10 2699 6 (pfD (A ++ pkO ids bs K))) = 4 := by
  rw [chk_ok pfGeo ho]
  obtain ⟨R, hR⟩ := pkO_split (ids := ids) (bs := bs) hk
  rw [hR]
  obtain ⟨B, hB⟩ : ∃ B, bs.getD k [] = B := ⟨_, rfl⟩
  obtain ⟨i, hi'⟩ : ∃ i, ids.getD k 0 = i := ⟨_, rfl⟩
  have hbd : bdL bs k = (B.length : Int) := by unfold bdL; rw [hB]
  rw [hbd, hB, hi']
  rw [hB] at hb
  rw [hi'] at hi
  have hf := pf_fetE (A := A) (P := pkO ids bs k) (H := hdL i (B.length : Int)) (B := B) (R := R) (hdL_len _ _)
  have hl := pf_fetch (A := A) (P := pkO ids bs k) (H := hdL i (B.length : Int)) (B := B) (R := R) (hdL_len _ _)
  have ht : (hdL i (B.length : Int) ++ B).take 6 = hdL i (B.length : Int) := by rw [← hdL_len i (B.length : Int), List.take_left]
  refine ⟨?_, ?_, ?_⟩
  · rw [hftE_eq (by rw [Bool.and_eq_true]; constructor <;> (simp only [inB, decide_eq_true_eq]; omega)) hf, hl, ht, eqT_same, if_pos rfl]
  · unfold hftL; rw [hl, ← hdL_len i (B.length : Int), List.drop_left]
  · rw [hftE_eq (by rw [Bool.and_eq_true]; constructor <;> (simp only [inB, decide_eq_true_eq]; omega)) hf, hl, ht, hd_other (by omega), if_neg (by decide)]
/-- Rows of two kinds lie apart. -/
theorem own_own {w : World} {B B' n m s s' : Nat} {e e' : TypeId} {v u : Value} {xs ys : List Value} (h : w.ownsRow B e s v n xs) (h' : w.ownsRow B' e' s' u m ys) (ht : e ≠ e') : v.ownBlock = none ∨ v.ownBlock ≠ u.ownBlock := by
  cases hv : v.ownBlock with
  | none => exact .inl rfl
  | some g =>
    right
    intro hu
    obtain ⟨c, hc⟩ := own_tag h hv
    obtain ⟨c', hc'⟩ := own_tag h' hu.symm
    rw [hc] at hc'
    simp at hc'
    exact ht hc'.2
theorem Txs.keptO {w w' : World} {v : Value} {t : ByteArray} (h : Txs w v t) {B n s : Nat} {e : TypeId} {u : Value} {xs : List Value} (ho : w.ownsRow B e s u n xs) (ht : 5 ≠ e) (hg : w.grownBy w' u.ownBlock) : Txs w' v t := by
  obtain ⟨g, cap, fr, e1, h1, h2, h3⟩ := h
  refine ⟨g, cap, fr, e1, h1, h2, (hg.block g (Array.getElem?_eq_some_iff.1 h3).1 ?_).trans h3⟩
  intro q
  obtain ⟨c, hc⟩ := own_tag ho q.symm
  rw [h3] at hc
  simp at hc
  exact ht hc.2.1
/-- Texts' bytes, in a row of one's own. -/
def OwR (w : World) (B : Nat) (v : Value) (ts : List ByteArray) : Prop := ∃ us, w.ownsRow B 24 1 v ts.length us ∧ us.length = ts.length ∧ ∀ i, i < ts.length → ∃ u, us[i]? = some u ∧ Txs w u (ts.getD i .empty)
theorem OwR.nil (w : World) (B : Nat) : OwR w B (.slice none 0 0) [] := ⟨[], World.ownsRow_nil _ _ _ _, rfl, fun i hi => absurd hi (Nat.not_lt_zero _)⟩
theorem OwR.up {w w' : World} {B : Nat} {v : Value} {ts : List ByteArray} (h : OwR w B v ts) (hb : Below w.heap.size w w') : OwR w' B v ts := by
  obtain ⟨us, h1, h2, h3⟩ := h
  exact ⟨us, own_up h1 hb, h2, fun i hi => let ⟨u, e, t⟩ := h3 i hi; ⟨u, e, t.up hb⟩⟩
theorem OwR.keptO {w w' : World} {B : Nat} {v : Value} {ts : List ByteArray} (h : OwR w B v ts) {B' n s : Nat} {e : TypeId} {u : Value} {xs : List Value} (ho : w.ownsRow B' e s u n xs) (h1 : 5 ≠ e) (h2 : 24 ≠ e) (hg : w.grownBy w' u.ownBlock) : OwR w' B v ts := by
  obtain ⟨us, a1, a2, a3⟩ := h
  exact ⟨us, a1.kept hg (own_own a1 ho h2), a2, fun i hi => let ⟨u, e, t⟩ := a3 i hi; ⟨u, e, t.keptO ho h1 hg⟩⟩
theorem OwR.stored {w w' : World} {B dB : Nat} {v : Value} {ts : List ByteArray} {cs : List Value} (h : OwR w B v ts) (hr : Row w dB 37 cs) (hb : Below w.heap.size w w') (p q x z : Value) :
    OwR ((((w'.setCell ⟨dB, 0, none⟩ p).setCell ⟨dB, 1, none⟩ q).setCell ⟨dB, 2, none⟩ x).setCell ⟨dB, 3, none⟩ z) B v ts := by
  obtain ⟨us, a1, a2, a3⟩ := h
  exact ⟨us, World.ownsRow.kept (own_up a1 hb) (gb4 dB _ _ _ _) (.inr (own_apart (own_up a1 hb) (hr.up hb) (by decide))), a2, fun i hi => let ⟨u, e, t⟩ := a3 i hi; ⟨u, e, t.stored hr hb _ _ _ _⟩⟩
theorem OwQ.stored {w w' : World} {B dB : Nat} {v : Value} {ps : List Pc} {cs : List Value} (h : OwQ w B v ps) (hr : Row w dB 37 cs) (hb : Below w.heap.size w w') (p q x z : Value) :
    OwQ ((((w'.setCell ⟨dB, 0, none⟩ p).setCell ⟨dB, 1, none⟩ q).setCell ⟨dB, 2, none⟩ x).setCell ⟨dB, 3, none⟩ z) B v ps :=
  World.ownsRow.kept (own_up h hb) (gb4 dB _ _ _ _) (.inr (own_apart (own_up h hb) (hr.up hb) (by decide)))
theorem OwR.cell {w : World} {B : Nat} {v : Value} {ts : List ByteArray} (h : OwR w B v ts) {i : Nat} (hi : i < ts.length) : ∃ g cap u, v = .slice (some ⟨g, 0, none⟩) ts.length cap ∧ w.cell? ⟨g, i, none⟩ = some u ∧ Txs w u (ts.getD i .empty) := by
  obtain ⟨us, a1, a2, a3⟩ := h
  obtain ⟨u, e, t⟩ := a3 i hi
  obtain ⟨g, cap, e2, hc⟩ := own_cell a1 e
  exact ⟨g, cap, u, e2, hc, t⟩
theorem OwR.rows {w : World} {B : Nat} {v : Value} {ts : List ByteArray} (h : OwR w B v ts) : RowsAt w v (ts.map bytesI) := by
  obtain ⟨us, a1, a2, a3⟩ := h
  obtain ⟨a, cap, rfl, q1, q2⟩ := own_form a1
  refine ⟨a, cap, by rw [List.length_map], by rw [List.length_map]; exact q1, q2, fun i hi => ?_⟩
  rw [List.length_map] at hi
  obtain ⟨u, e, t⟩ := a3 i hi
  obtain ⟨g, cap', e2, hc⟩ := own_cell a1 e
  simp at e2
  obtain ⟨rfl, rfl⟩ := e2
  refine ⟨g, 0, rfl, u, by rw [Nat.zero_add]; exact hc, ?_⟩
  have := t.bts
  simpa [List.getD, hi] using this
theorem OwR.push {w w' : World} {B : Nat} {v v' u : Value} {ts : List ByteArray} {t : ByteArray} {us : List Value} (h : w.ownsRow B 24 1 v ts.length us) (h2 : us.length = ts.length) (h3 : ∀ i, i < ts.length → ∃ u, us[i]? = some u ∧ Txs w u (ts.getD i .empty)) (ht : Txs w u t)
    (hg : w.grownBy w' v.ownBlock) (hn : w'.ownsRow B 24 1 v' (ts.length + 1) (us ++ [u])) : OwR w' B v' (ts ++ [t]) := by
  refine ⟨us ++ [u], by simpa using hn, by simp [h2], fun i hi => ?_⟩
  simp only [List.length_append, List.length_singleton] at hi
  by_cases e : i < ts.length
  · obtain ⟨u', e1, e2⟩ := h3 i e
    refine ⟨u', by rw [List.getElem?_append_left (by omega)]; exact e1, ?_⟩
    have := e2.keptO h (by decide) hg
    simpa [List.getD, List.getElem?_append_left e] using this
  · obtain rfl : i = ts.length := by omega
    refine ⟨u, by rw [List.getElem?_append_right (by omega)]; simp [h2], ?_⟩
    have := ht.keptO h (by decide) hg
    simpa [List.getD] using this
end Go.Proofs.Ytdalkkjojflakaa

/- icehousekeep.PackFetch: the walk. -/
namespace Go.Proofs.Ytdalkkjojflakaa
open Go.RowKit
set_option maxRecDepth 100000
set_option linter.unusedVariables false
set_option linter.unusedSimpArgs false
attribute [local go_sem ↓] Go.wp_at_zero Go.wp_at_succ
theorem flat_pc (ps : List Pc) {j : Nat} (hj : j < ps.length) (i : Nat) (hi : i < 3) : (ps.flatMap pcL)[j * 3 + i]? = (pcL (ps.getD j pc0))[i]? := by
  induction ps generalizing j with
  | nil => simp at hj
  | cons p ps ih =>
    cases j with
    | zero => simp only [List.flatMap_cons, Nat.zero_mul, Nat.zero_add]; rw [List.getElem?_append_left (by simp [pcL]; omega)]; rfl
    | succ j =>
      simp only [List.flatMap_cons]
      rw [List.getElem?_append_right (by simp [pcL]; omega), show (j + 1) * 3 + i - (pcL p).length = j * 3 + i by simp [pcL]; omega, ih (by simpa using hj)]
      simp [List.getD]
theorem OwQ.cells {w : World} {B k qc : Nat} {qa : Option Addr} {ps : List Pc} (h : OwQ w B (.slice qa k qc) ps) (hl : ps.length = k) {j : Nat} (hj : j < k) : ∃ g, qa = some ⟨g, 0, none⟩ ∧ w.cell? ⟨g, j * 3, none⟩ = some (.int .i64 (ps.getD j pc0).id) ∧ w.cell? ⟨g, j * 3 + 1, none⟩ = some (.int .i64 (ps.getD j pc0).pos) ∧ w.cell? ⟨g, j * 3 + 2, none⟩ = some (.int .i64 (ps.getD j pc0).size) := by
  have a0 := flat_pc ps (j := j) (by omega) 0 (by decide)
  have a1 := flat_pc ps (j := j) (by omega) 1 (by decide)
  have a2 := flat_pc ps (j := j) (by omega) 2 (by decide)
  obtain ⟨g, c, e, h0⟩ := own_cell h (j := j * 3) (u := .int .i64 (ps.getD j pc0).id) (by rw [Nat.add_zero] at a0; rw [a0]; rfl)
  obtain ⟨g1, c1, e1, h1⟩ := own_cell h (j := j * 3 + 1) (u := .int .i64 (ps.getD j pc0).pos) (by rw [a1]; rfl)
  obtain ⟨g2, c2, e2, h2⟩ := own_cell h (j := j * 3 + 2) (u := .int .i64 (ps.getD j pc0).size) (by rw [a2]; rfl)
  simp at e e1 e2
  obtain ⟨rfl, _⟩ := e
  obtain ⟨e3, _⟩ := e1
  obtain ⟨e4, _⟩ := e2
  simp at e3 e4
  subst e3 e4
  exact ⟨g, rfl, h0, h1, h2⟩
theorem OwN.cell {w : World} {B k uc : Nat} {ua : Option Addr} {xs : List Int} (h : OwN w B (.slice ua k uc) xs) (hl : xs.length = k) {j : Nat} (hj : j < k) : ∃ g, ua = some ⟨g, 0, none⟩ ∧ w.cell? ⟨g, j, none⟩ = some (.int .i64 (xs.getD j 0)) := by
  obtain ⟨g, c, e, h0⟩ := own_cell h (j := j) (u := .int .i64 (xs.getD j 0)) (by simp [n64s, List.getD, show j < xs.length by omega])
  simp at e
  obtain ⟨rfl, _⟩ := e
  exact ⟨g, rfl, h0⟩
theorem take_snoc {α : Type} (l : List α) (d : α) {k : Nat} (hk : k < l.length) : l.take (k + 1) = l.take k ++ [l.getD k d] := by
  rw [List.take_add_one, List.getElem?_eq_getElem hk]; simp [List.getD, List.getElem?_eq_getElem hk]
theorem pf_geometry (w : World) : Calls Try.prog 15 #[.int .i64 0, .int .i64 0, .int .i64 1999] w fun e w' => e = .returned (.agg #[.int .i64 8, .int .i64 30, .int .i64 10, .int .i64 2699, .int .i64 6]) ∧ Below w.heap.size w w' := by
  have := geometry_any 0 0 1999 w (by decide) (by decide) (by decide)
  have e1 : pickI 0 30 = 0 := by decide
  have e2 : pickI 0 40 = 0 := by decide
  have e3 : pickI 0 60 = 0 := by decide
  have e4 : pickI 1999 2000 = 1999 := by decide
  have e5 : pickI 1999 7 = 4 := by decide
  rw [e1, e2, e3, e4, e5] at this
  exact this
set_option maxHeartbeats 4000000 in
theorem packFetch_walk (lv : Value) (rs : List Rw) (s : ByteArray) (w : World) (hR : Raws w lv rs) (hs : s.size ≤ maxLen) :
    Calls Try.prog 5 #[lv, .string s] w fun e w' => e = .returned (.bool true) ∧ Below w.heap.size w w' := by
  have HR := hide hR
  obtain ⟨la, lcap, rfl, rl, rm, _⟩ := hR
  unfold maxLen at hs rm
  obtain ⟨K, hK8, hK⟩ : ∃ K, K ≤ 8 ∧ K = min rs.length 8 := ⟨_, by omega, rfl⟩
  have hKr : K ≤ rs.length := by omega
  have hKe : K < 8 → rs.length = K := by omega
  obtain ⟨N, M, T, hN, hN0, hM, hM1, hM2, hT, hTs⟩ := cut_at 100 (by decide) s hs
  replace hM : (if (100 : Int) < (N : Int) then (100 : Int) else (N : Int)) = (M : Int) := hM
  have hcv := conv_run T M hTs
  have HTS := hide hTs
  have k0 : (0 : Int) ≤ (M : Int) := Int.natCast_nonneg _
  have k1 : (M : Int) ≤ (N : Int) := by omega
  obtain ⟨xs, hxs⟩ : ∃ xs, bytesI T = xs := ⟨_, rfl⟩
  have hxl : xs.length = M := by rw [← hxs, bytesI_length, hTs]
  have HXS := hide hxs
  obtain ⟨ids, hids⟩ : ∃ ids, (rs.take K).map pfI = ids := ⟨_, rfl⟩
  obtain ⟨ts, hts⟩ : ∃ ts, (rs.take K).map pfT = ts := ⟨_, rfl⟩
  obtain ⟨bs, hbs⟩ : ∃ bs, ts.map bytesI = bs := ⟨_, rfl⟩
  have hil : ids.length = K := by rw [← hids]; simp; omega
  have htl : ts.length = K := by rw [← hts]; simp; omega
  have hbl : bs.length = K := by rw [← hbs]; simp [htl]
  have hia : ∀ k, k < K → ids.getD k 0 = pfI (rs.getD k rw0) := fun k hk => by rw [← hids]; simp [List.getD, List.getElem?_take, hk, show k < rs.length by omega]
  have hta : ∀ k, k < K → ts.getD k .empty = pfT (rs.getD k rw0) := fun k hk => by rw [← hts]; simp [List.getD, List.getElem?_take, hk, show k < rs.length by omega]
  have hba : ∀ k, k < K → bs.getD k [] = bytesI (ts.getD k .empty) := fun k hk => by rw [← hbs]; simp [List.getD, show k < ts.length by omega]
  have hin : ∀ k, k < K → 1 ≤ ids.getD k 0 ∧ ids.getD k 0 ≤ 1000 := fun k hk => by rw [hia k hk]; exact pfI_in _
  have hbn : ∀ k, (bs.getD k []).length ≤ 250 := fun k => by
    by_cases hk : k < K
    · rw [hba k hk, hta k hk]; exact pfB_len _
    · simp [List.getD, List.getElem?_eq_none (show bs.length ≤ k by omega)]
  obtain ⟨L, hL⟩ : ∃ L : Nat → Int, L = fun k => ((pkO ids bs k).length : Int) := ⟨_, rfl⟩
  have hL0 : L 0 = 0 := by rw [hL]; rfl
  have hLn : ∀ k, k < K → L (k + 1) = L k + (6 + bdL bs k) := fun k hk => by rw [hL]; simp only [pkO, List.length_append, hdL_len, bdL]; omega
  have hLb : ∀ k, k ≤ K → 0 ≤ L k ∧ L k ≤ 2048 := fun k hk => by rw [hL]; have := pkO_le (ids := ids) hbn k; simp only; omega
  obtain ⟨out, hout⟩ : ∃ out, pkO ids bs K = out := ⟨_, rfl⟩
  have hol : (out.length : Int) = L K := by rw [hL, ← hout]
  have hpE : pkE (M : Int) ids bs = 0 := by
    unfold pkE
    rw [if_pos (by simp only [inB, decide_eq_true_eq]; omega), if_pos (by rw [hil, hbl])]
    exact pk_zero (by rw [hil]; exact hin) (fun i _ => hbn i) _ (Nat.le_refl _)
  have hE1 : appE 2699 6 (newD 8 30 10 2699 6) 0 xs.length (chkE 8 30 10 2699 6 (newD 8 30 10 2699 6)) = 0 := pfE1 (by omega)
  have hsum : xs.length + out.length ≤ 2600 := by have := hLb K (Nat.le_refl _); omega
  have hE2 : appE 2699 6 (pfD xs) 0 out.length (chkE 8 30 10 2699 6 (pfD xs)) = 0 := pfE2 (by omega) hsum
  have hO3 : DOk 8 30 10 2699 6 (pfD (xs ++ out)) := pfO2 (by omega) hsum
  obtain ⟨D0, hD0⟩ : ∃ D, newD 8 30 10 2699 6 = D := ⟨_, rfl⟩
  obtain ⟨D1, hD1⟩ : ∃ D, pfD xs = D := ⟨_, rfl⟩
  obtain ⟨D2, hD2⟩ : ∃ D, pfD (xs ++ out) = D := ⟨_, rfl⟩
  have hA1 : appD 6 D0 0 xs 0 = D1 := by rw [← hD0, ← hD1]; exact pfD1 xs
  have hA2 : appD 6 D1 0 out 0 = D2 := by rw [← hD1, ← hD2]; exact pfD2 xs out
  have hpc : ∀ k, k < K → hftE D2 0 (ids.getD k 0) ((M : Int) + L k) (bdL bs k) (chkE 8 30 10 2699 6 D2) = 0 ∧ hftL D2 0 ((M : Int) + L k) (bdL bs k) = bs.getD k [] ∧ hftE D2 0 (ids.getD k 0 + 1) ((M : Int) + L k) (bdL bs k) (chkE 8 30 10 2699 6 D2) = 4 := fun k hk => by
    rw [← hD2, ← hout, hL, ← hxl]
    exact pf_piece hk (by rw [hout]; exact hO3) (hin k hk) (hbn k)
  obtain ⟨ps, hps⟩ : ∃ ps, pkP (M : Int) ids bs K = ps := ⟨_, rfl⟩
  have hpl : ps.length = K := by rw [← hps, pkP_len]
  have hpa : ∀ k, k < K → ps.getD k pc0 = ⟨ids.getD k 0, (M : Int) + L k, bdL bs k⟩ := fun k hk => by rw [← hps, hL]; exact pkP_at _ hk
  have hbd : ∀ k, k < K → bdL bs k = ((ts.getD k .empty).size : Int) ∧ (ts.getD k .empty).size ≤ 250 := fun k hk => by
    refine ⟨by unfold bdL; rw [hba k hk, bytesI_length], by rw [hta k hk]; exact pfT_size _⟩
  have HG0 := hide (geoE_t pfGeo)
  rw [hD0] at hE1
  rw [hD1] at hE2
  have HFACT : Hid ((∀ k, k < K → ids.getD k 0 = pfI (rs.getD k rw0)) ∧ (∀ k, k < K → ts.getD k .empty = pfT (rs.getD k rw0)) ∧ (∀ k, k < K → bs.getD k [] = bytesI (ts.getD k .empty)) ∧ (∀ k, k < K → 1 ≤ ids.getD k 0 ∧ ids.getD k 0 ≤ 1000)) := ⟨hia, hta, hba, hin⟩
  have HLL : Hid (ids.length = K ∧ ts.length = K ∧ bs.length = K ∧ ps.length = K) := ⟨hil, htl, hbl, hpl⟩
  have HLN := hide hLn
  have HLB := hide hLb
  have HL0 := hide hL0
  have HOL := hide hol
  have HPE := hide hpE
  have HE1 := hide hE1
  have HE2 := hide hE2
  have HA1 := hide hA1
  have HA2 := hide hA2
  have HPC := hide hpc
  have HPA := hide hpa
  have HBD := hide hbd
  have HOUT := hide hout
  have HPS := hide hps
  have HBS := hide hbs
  have HD0 := hide hD0
  have HKE := hide hKe
  clear hK hTs hxs hxl hids hts hbs hil htl hbl hia hta hba hin hbn hL hL0 hLn hLb hout hol hpE hE1 hE2 hsum hO3 hD0 hD1 hD2 hA1 hA2 hpc hps hpl hpa hbd hKe
  go_enter Try.func5, Try.ntmps5
  go_wp2_with fail
  refine (pf_geometry _).mono ?_
  rintro e w1 ⟨rfl, hb1⟩
  go_upto_region 2 with fail
  go_cut [6, 7] (fun p e wd => ∃ dB s c v, p = .pointer (some ⟨dB, 0, none⟩) ∧ e = .int .i64 0 ∧ Kg 8 30 10 2699 6 w wd w1.heap.size dB s c v D0)
  case first =>
    as_aux_lemma =>
      go_wp2_with fail
      refine (new_any 8 30 10 2699 6 _).mono ?_
      rintro e wn ⟨s', c', v', rfl, hO, hb⟩
      rw [unhide HG0]
      rw [unhide HD0] at hO ⊢
      obtain ⟨sa, cs, ca, cc, va, cv, rfl, rfl, rfl, _⟩ := hO.form
      go_wp2
      go_meet
      case rel => exact ⟨wn.heap.size, _, _, _, rfl, rfl, ⟨((Row.new w1 33 (geoV 8 30 10 2699 6)).up hb).up (bl1 _ _), Row.new _ _ _, hO.dev.up (bl1 _ _), bl_trans hb1 (bl_trans (bl1 _ _) (bl_trans hb (bl1 _ _))), Nat.le_trans hb1.size (Nat.le_trans (by simp) hb.size)⟩⟩
  case rest =>
  clear hb1
  obtain ⟨dB, s1, c1, v1, rfl, rfl, hK⟩ := hcut
  go_upto_region 3 with fail
  go_cut [8] (fun bv wd => Txs wd bv T ∧ Kg 8 30 10 2699 6 w wd w1.heap.size dB s1 c1 v1 D0)
  case first =>
    as_aux_lemma =>
      go_wp2
      go_meet
      case rel =>
        refine ⟨?_, hK.up (bl_alloc (Below.drew (Below.refl _ _)) _)⟩
        exact Txs.newAt _ T _ _ (by rw [unhide HTS]; exact (conv_cap _ M (by unfold maxLen; omega)).1) (conv_cap _ M (by unfold maxLen; omega)).2 (by first | rfl | simp) (unhide HTS)
  case rest =>
  clear hK hcv hN hN0 hM hT k0 k1
  obtain ⟨hA, hK⟩ := hcut
  obtain ⟨ga, ca, rfl, hca, hcma⟩ := hA.form (unhide HTS)
  go_upto_region 4 with fail
  go_cut [9] (fun e wd => ∃ s c v, e = .int .i64 0 ∧ Txs wd (.slice (some ⟨ga, 0, none⟩) M ca) T ∧ Kg 8 30 10 2699 6 w wd w1.heap.size dB s c v D1)
  case first =>
    as_aux_lemma =>
      have g0 := hK.geo.cell 0 _ rfl
      have g1 := hK.geo.cell 1 _ rfl
      have g2 := hK.geo.cell 2 _ rfl
      have g3 := hK.geo.cell 3 _ rfl
      have g4 := hK.geo.cell 4 _ rfl
      have hd := hK.dev
      obtain ⟨⟨b1, dap1, rfl, _⟩, ⟨b2, dap2, rfl, _⟩, ⟨b3, dap3, rfl, _⟩⟩ := hd
      have q0 := hK.box.cell 0 _ rfl
      have q1 := hK.box.cell 1 _ rfl
      have q2 := hK.box.cell 2 _ rfl
      have q3 := hK.box.cell 3 _ rfl
      have hBt := hA.bts
      rw [unhide HXS] at hBt
      go_wp2_with fail
      refine (append_any 8 30 10 2699 6 _ _ _ D0 0 _ xs _ hK.dev hBt).mono ?_
      rintro e wn ⟨s', c', v', rfl, hO, hb⟩
      rw [unhide HE1, unhide HA1] at hO ⊢
      obtain ⟨sa, cs, ca, cc, va, cv, rfl, rfl, rfl, _⟩ := hO.form
      have hr := hK.box.up hb
      have z0 := hr.cell 0 _ rfl
      have z1 := hr.cell 1 _ rfl
      have z2 := hr.cell 2 _ rfl
      have z3 := hr.cell 3 _ rfl
      have zf := hr.unfrozen
      go_wp2
      go_meet
      case rel => exact ⟨_, _, _, rfl, hA.stored hK.box hb _ _ _ _, hK.store hb hO⟩
  case rest =>
  clear hA hK
  obtain ⟨s2, c2, v2, rfl, hA, hK⟩ := hcut
  obtain ⟨W, hW⟩ : ∃ W, W = wc := ⟨_, rfl⟩
  rw [← hW]
  rw [← hW] at hA hK
  clear hW
  obtain ⟨i0, hi, hz0, hz1, hz2⟩ := info_parts infoN
  obtain ⟨i1, hj, hy0, hy1, hy2⟩ := info_parts infoBts
  go_wp2
  go_loopw [10, 11, 12, 13] (fun u v n i wr => ∃ k : Nat, k ≤ K ∧ i = .int .i64 k ∧ n = .int .i64 ((M : Int) + L k) ∧ OwN wr W.heap.size u (ids.take k) ∧ OwR wr W.heap.size v (ts.take k) ∧ Below W.heap.size W wr) (fun _ _ _ i _ => K - (intOf i).toNat)
  case atStart => exact ⟨0, Nat.zero_le _, rfl, by rw [unhide HL0]; simp, OwN.nil _ _, OwR.nil _ _, Below.refl _ _⟩
  case round =>
    obtain ⟨k, hk, rfl, rfl, hu, hv, hb⟩ := hrel
    by_cases hlt : k < K
    · have hkr : k < rs.length := by omega
      have hk8 : k < 8 := by omega
      obtain ⟨b, o, rfl, hq⟩ := (((unhide HR).up hK.bel).up hb).at k hkr
      have q3 := hq.c3
      have q5 := hq.c5
      have q1 := hq.c1
      obtain ⟨tx, htx⟩ : ∃ tx, (rs.getD k rw0).text = tx := ⟨_, rfl⟩
      obtain ⟨cc, hcc⟩ : ∃ cc, (rs.getD k rw0).c = cc := ⟨_, rfl⟩
      obtain ⟨aa, haa⟩ : ∃ aa, (rs.getD k rw0).a = aa := ⟨_, rfl⟩
      have hsz := hq.s
      have hcb := hq.cc0
      have hab := hq.a0
      rw [htx] at q5 hsz
      rw [hcc] at q3 hcb
      rw [haa] at q1 hab
      unfold maxLen at hsz
      obtain ⟨Bk, hBk⟩ : ∃ T, bodyS tx cc = T := ⟨_, rfl⟩
      obtain ⟨Nk, Mk, Tk, hNk, hNk0, hMk, hMk1, hMk2, hTk, hTks⟩ := cut_at 250 (by decide) Bk (by rw [← hBk]; have := bodyS_size tx cc; omega)
      replace hMk : (if (250 : Int) < (Nk : Int) then (250 : Int) else (Nk : Int)) = (Mk : Int) := hMk
      have hTe : ts.getD k .empty = Tk := by rw [(unhide HFACT).2.1 k hlt]; unfold pfT; rw [htx, hcc, hBk, ← hTk]; congr 1; omega
      obtain ⟨P, hP⟩ : ∃ P, pickI aa 1000 = P := ⟨_, rfl⟩
      have hPe : ids.getD k 0 = 1 + P := by rw [(unhide HFACT).1 k hlt]; unfold pfI; rw [haa, hP]
      have hPb : 0 ≤ P ∧ P < 1000 := by rw [← hP]; exact pick_b aa 1000 (by decide)
      have HBK := hide hBk
      have HTKS := hide hTks
      have HTE := hide hTe
      have HPP := hide hP
      have HPI := hide hPe
      have hcvk := conv_run Tk Mk hTks
      have k0 : (0 : Int) ≤ (Mk : Int) := Int.natCast_nonneg _
      have k1 : (Mk : Int) ≤ (Nk : Int) := by omega
      have hslA : ∀ u : World, (Instr.slice 9 (.string Bk) none (some (.int .i64 (Mk : Int))) none).run Try.prog u = .ok (.string Tk) u := fun u => by rw [run_slice_string_h u 9 Bk Try.underlying9 .i64 (Mk : Int) (by omega) (by rw [hNk]; omega), Int.toNat_natCast, hTk]
      have hslB : ∀ u : World, (Instr.slice 9 (.string Bk) none (some (.int .i64 (if (250 : Int) < (Nk : Int) then (250 : Int) else (Nk : Int)))) none).run Try.prog u = .ok (.string Tk) u := fun u => by rw [hMk]; exact hslA u
      have KS : Hid (∀ w', Below wr.heap.size wr w' → w'.cell? ⟨b, o + k * 6 + 5, none⟩ = some (.string tx) ∧ w'.cell? ⟨b, o + k * 6 + 3, none⟩ = some (.int .i64 cc)) := fun w' hb => ⟨cell_up hb q5, cell_up hb q3⟩
      have HQ1 := hide q1
      have HU := hide hu
      have HV := hide hv
      have HB := hide hb
      have HAA := hide hA
      have HKK := hide hK
      clear hBk hTks hTe hP hPe htx hcc haa hq q1 hu hv hb hA hK
      go_upto_region 11 with fail
      go_cut [14] (fun bv wd => Txs wd bv Tk ∧ Below wr.heap.size wr wd)
      case first =>
        as_aux_lemma =>
          go_region_held_law (fun w' => w'.cell? ⟨b, o + k * 6 + 5, none⟩ = some (.string tx) ∧ w'.cell? ⟨b, o + k * 6 + 3, none⟩ = some (.int .i64 cc))
            (exact unhide KS _ (by repeat (first | exact Below.refl _ _ | exact hb | apply Below.drew | apply bl_alloc)))
            (first
              | (go_simp; go_at_call 18; refine (body_any tx cc _ hsz hcb.1 hcb.2).mono ?_; rintro e wn ⟨rfl, hb'⟩; have hb : Below wr.heap.size wr wn := bl_trans (by repeat (first | exact Below.refl _ _ | exact hb | apply Below.drew | apply bl_alloc)) hb'; rw [unhide HBK]; dsimp only))
          all_goals
            go_wp2
            go_meet
            case rel =>
              refine ⟨?_, by repeat (first | exact hb | exact Below.refl _ _ | apply Below.drew | apply bl_alloc)⟩
              exact Txs.newAt _ Tk _ _ (by rw [unhide HTKS]; exact (conv_cap _ Mk (by unfold maxLen; omega)).1) (conv_cap _ Mk (by unfold maxLen; omega)).2 (by first | rfl | simp) (unhide HTKS)
      case rest =>
      clear hslA hslB hNk hNk0 hMk hTk hcvk k0 k1 KS hsz hcb q3 q5
      obtain ⟨hX, hbr⟩ := hcut
      obtain ⟨gx, cx, rfl, hcx, hcmx⟩ := hX.form (unhide HTKS)
      go_upto_region 12 with fail
      go_cut [10] (fun u wd => OwN wd W.heap.size u (ids.take (k + 1)) ∧ OwR wd W.heap.size u11 (ts.take k) ∧ Txs wd (.slice (some ⟨gx, 0, none⟩) Mk cx) Tk ∧ Below W.heap.size W wd)
      case first =>
        as_aux_lemma =>
          have ho := own_up (unhide HU) hbr
          have hbw := bl_trans (unhide HB) hbr
          have hv0 := (unhide HV).up hbr
          have hlk : (ids.take k).length = k := by rw [List.length_take, (unhide HLL).1]; omega
          rw [hlk] at ho
          have HO := hide ho
          have HBW := hide hbw
          have HV0 := hide hv0
          have HX := hide hX
          have q1 := cell_up hbr (unhide HQ1)
          clear ho hbw hv0 hX hlk
          have hwl := hbr.size
          have hws : W.heap.size ≤ wc.heap.size := (unhide HBW).size
          go_wp2_with (first
            | (go_at_call 19; refine (picked_any aa 1000 _ (by decide) (by decide) hab.1 hab.2).mono ?_; rintro e w' ⟨rfl, rfl⟩; rw [unhide HPP])
            | (at_builtin; refine wpList_append_own _ rfl _ _ 22 rfl W.heap.size 3 i0 (.int .i64 0) 1 8 Try.underlying22 hi hz0 hz1 hz2 rfl (by decide) _ _ _ rfl ((unhide HO).alloc _) ⟨wc.heap.size, 0, none⟩ 1 1 [.int .i64 (1 + P)] rfl rfl (cell_one_new _ _ _) (by simp [Value.oneCell']) (by unfold maxLen; omega) (by omega) (by simp; omega) ?_; intro v' w2 hown' hgrow hnil))
          go_meet
          case rel =>
            have hbx : Below wc.heap.size wc (wc.alloc (.cells #[.int .i64 (1 + P)] 3)) := bl1 _ _
            have ho2 := own_up (unhide HO) hbx
            refine ⟨?_, ((unhide HV0).up hbx).keptO ho2 (by decide) (by decide) hgrow, ((unhide HX).up hbx).keptO ho2 (by decide) hgrow, (bl_trans (unhide HBW) hbx).grown hgrow (by simp; omega) (fun j hj => (World.ownsRow.lt (unhide HO) j hj).1)⟩
            show World.ownsRow _ _ _ _ _ _ _
            rw [take_snoc ids 0 (by rw [(unhide HLL).1]; exact hlt), unhide HPI, n64s_append, List.length_append, List.length_take, (unhide HLL).1, Nat.min_eq_left hk]
            exact hown'
      case rest =>
      clear hX
      obtain ⟨hu2, hv2, hX, hbw2⟩ := hcut
      go_upto_region 13 with fail
      go_cut [11] (fun v wd => OwN wd W.heap.size u10 (ids.take (k + 1)) ∧ OwR wd W.heap.size v (ts.take (k + 1)) ∧ Txs wd (.slice (some ⟨gx, 0, none⟩) Mk cx) Tk ∧ Below W.heap.size W wd)
      case first =>
        as_aux_lemma =>
          obtain ⟨us, ho, hul, hus⟩ := hv2
          have htk : (ts.take k).length = k := by rw [List.length_take, (unhide HLL).2.1]; omega
          have ho0 := ho
          rw [htk] at ho0
          have HO := hide ho0
          have HO1 := hide ho
          have HUL := hide hul
          have HUS := hide hus
          have HBW := hide hbw2
          have HX := hide hX
          have HU2 := hide hu2
          have HTK := hide htk
          clear ho ho0 hul hus hbw2 hX hu2 htk
          have hws : W.heap.size ≤ wc.heap.size := (unhide HBW).size
          go_wp2_with (at_builtin; refine wpList_append_own _ rfl _ _ 23 rfl W.heap.size 24 i1 (.slice none 0 0) 1 24 Try.underlying23 hj hy0 hy1 hy2 rfl (by decide) _ _ _ rfl ((unhide HO).alloc _) ⟨wc.heap.size, 0, none⟩ 1 1 [.slice (some ⟨gx, 0, none⟩) Mk cx] rfl rfl (cell_one_new _ _ _) (by simp [Value.oneCell']) (by unfold maxLen; omega) (by omega) (by simp; omega) ?_; intro v' w2 hown' hgrow hnil)
          go_meet
          case rel =>
            have hbx : Below wc.heap.size wc (wc.alloc (.cells #[.slice (some ⟨gx, 0, none⟩) Mk cx] 24)) := bl1 _ _
            have ho2 := own_up (unhide HO) hbx
            have ho3 := own_up (unhide HO1) hbx
            refine ⟨World.ownsRow.kept (own_up (unhide HU2) hbx) hgrow (own_own (own_up (unhide HU2) hbx) ho2 (by decide)), ?_, ((unhide HX).up hbx).keptO ho2 (by decide) hgrow, (bl_trans (unhide HBW) hbx).grown hgrow (by simp; omega) (fun j hj => (World.ownsRow.lt (unhide HO) j hj).1)⟩
            rw [take_snoc ts .empty (by rw [(unhide HLL).2.1]; exact hlt), unhide HTE]
            exact OwR.push ho3 (unhide HUL) (fun i hi => let ⟨u, e, t⟩ := unhide HUS i hi; ⟨u, e, t.up hbx⟩) ((unhide HX).up hbx) hgrow (by rw [unhide HTK]; exact hown')
      case rest =>
      clear hu2 hv2 hX hbw2
      obtain ⟨hu3, hv3, hX, hbw3⟩ := hcut
      have hbdk := unhide HBD k hlt
      have hLk := unhide HLB k hk
      have hLk1 := unhide HLB (k + 1) hlt
      have hLnk := unhide HLN k hlt
      rw [unhide HTE, unhide HTKS] at hbdk
      rw [hbdk.1] at hLnk
      obtain ⟨Lk, hLke⟩ : ∃ x, L k = x := ⟨_, rfl⟩
      obtain ⟨Lk1, hLke1⟩ : ∃ x, L (k + 1) = x := ⟨_, rfl⟩
      rw [hLke] at hLk hLnk
      rw [hLke1] at hLk1 hLnk
      rw [hLke]
      have HLN1 : Hid ((M : Int) + (Lk + (6 + (Mk : Int))) = (M : Int) + Lk1) := by show _ = _; omega
      have HLN2 : Hid ((M : Int) + Lk + (6 + (Mk : Int)) = (M : Int) + Lk1) := by show _ = _; omega
      have HLE1 := hide hLke1
      clear hLke hLke1 hLnk
      go_wp2
      go_roundw
      case rel => exact ⟨k + 1, hlt, by go_num, by rw [unhide HLE1]; first | exact congrArg (Value.int .i64) (unhide HLN2) | exact congrArg (Value.int .i64) (unhide HLN1), hu3, hv3, hbw3⟩
      case measure => (simp [intOf] <;> omega)
    · obtain rfl : k = K := by omega
      have hKr2 : k < 8 → rs.length = k := unhide HKE
      have hkl : ¬ ((k : Int) < (rs.length : Int) ∧ (k : Int) < 8) := by omega
      have hul : (ids.take k) = ids := by rw [List.take_of_length_le]; rw [(unhide HLL).1]; omega
      have hvl : (ts.take k) = ts := by rw [List.take_of_length_le]; rw [(unhide HLL).2.1]; omega
      rw [hul] at hu
      rw [hvl] at hv
      have hu0 := hu
      unfold OwN at hu0
      rw [(unhide HLL).1] at hu0
      obtain ⟨ua, uc, rfl, ul, um⟩ := own_form hu0
      have hK2 := hK.up hb
      have hA2 := hA.up hb
      clear hul hvl hu0 hK hA hb
      have hdone : True := trivial
      go_upto_region 15 with fail
      all_goals
        obtain ⟨wc0, hwc0⟩ : ∃ x, x = wr := ⟨_, rfl⟩
        rw [← hwc0]
        rw [← hwc0] at hu hv hK2 hA2
        clear hwc0
        go_upto_region 15 with fail
        go_cut [15, 16, 17] (fun u q e wd => e = .int .i64 0 ∧ Bts wd u out ∧ OwQ wd wc0.heap.size q ps ∧ OwN wd W.heap.size (.slice ua k uc) ids ∧ OwR wd W.heap.size u11 ts ∧ Kg 8 30 10 2699 6 w wd w1.heap.size dB s2 c2 v2 D1)
        case first =>
          as_aux_lemma =>
            go_wp2_with fail
            refine (pack_any (M : Int) _ _ ids bs _ hu.nts (by rw [← unhide HBS]; exact hv.rows) (by rw [(unhide HLL).2.2.1]; omega)).mono ?_
            rintro e wn ⟨u, q, rfl, hO, hQ, hb⟩
            rw [unhide HPE] at hO hQ ⊢
            rw [okL0, (unhide HLL).1, unhide HOUT] at hO
            rw [okP0, (unhide HLL).1, unhide HPS] at hQ
            go_wp2
            go_meet
            case rel => exact ⟨rfl, hO.bts, hQ, own_up hu hb, hv.up hb, hK2.up hb⟩
        case rest =>
        clear hu hv hK2 hA2
        obtain ⟨rfl, hO, hQ, hu, hv, hK⟩ := hcut
        have hO0 := hO
        obtain ⟨oa, oc, rfl, ol, om, _⟩ := hO0
        have hQ0 := hQ
        unfold OwQ at hQ0
        rw [(unhide HLL).2.2.2] at hQ0
        obtain ⟨qa, qc, rfl, ql, qm⟩ := own_form hQ0
        clear hQ0
        go_upto_region 16 with fail
        go_cut [18] (fun e wd => ∃ s c v, e = .int .i64 0 ∧ OwQ wd wc0.heap.size (.slice qa k qc) ps ∧ OwN wd W.heap.size (.slice ua k uc) ids ∧ OwR wd W.heap.size u11 ts ∧ Kg 8 30 10 2699 6 w wd w1.heap.size dB s c v D2)
        case first =>
          as_aux_lemma =>
            have g0 := hK.geo.cell 0 _ rfl
            have g1 := hK.geo.cell 1 _ rfl
            have g2 := hK.geo.cell 2 _ rfl
            have g3 := hK.geo.cell 3 _ rfl
            have g4 := hK.geo.cell 4 _ rfl
            have hd := hK.dev
            obtain ⟨⟨b1, dap1, rfl, _⟩, ⟨b2, dap2, rfl, _⟩, ⟨b3, dap3, rfl, _⟩⟩ := hd
            have q0 := hK.box.cell 0 _ rfl
            have q1 := hK.box.cell 1 _ rfl
            have q2 := hK.box.cell 2 _ rfl
            have q3 := hK.box.cell 3 _ rfl
            go_wp2_with fail
            refine (append_any 8 30 10 2699 6 _ _ _ D1 0 _ out _ hK.dev hO).mono ?_
            rintro e wn ⟨s', c', v', rfl, hOD, hb⟩
            rw [unhide HE2, unhide HA2] at hOD ⊢
            obtain ⟨sa, cs, ca, cc, va, cv, rfl, rfl, rfl, _⟩ := hOD.form
            have hr := hK.box.up hb
            have z0 := hr.cell 0 _ rfl
            have z1 := hr.cell 1 _ rfl
            have z2 := hr.cell 2 _ rfl
            have z3 := hr.cell 3 _ rfl
            have zf := hr.unfrozen
            go_wp2
            go_meet
            case rel => exact ⟨_, _, _, rfl, hQ.stored hK.box hb _ _ _ _, hu.store hK.box hb _ _ _ _, hv.stored hK.box hb _ _ _ _, hK.store hb hOD⟩
        case rest =>
        clear hO hQ hu hv hK
        obtain ⟨s3, c3, v3, rfl, hQ, hu, hv, hK⟩ := hcut
        have hol := unhide HOL
        have hob := (unhide HLB k (Nat.le_refl _)).2
        rw [← hol] at hob ⊢
        obtain ⟨OL, hOL⟩ : ∃ x, out.length = x := ⟨_, rfl⟩
        rw [hOL] at hob ⊢
        replace hob : OL ≤ 2048 := by omega
        clear hol hOL
        obtain ⟨W2, hW2⟩ : ∃ x, x = wc := ⟨_, rfl⟩
        rw [← hW2]
        rw [← hW2] at hQ hu hv hK
        clear hW2
        have hbk : Below w.heap.size w W2 := hK.bel
        go_wp2
        go_loopw [149] (fun i wr => ∃ j : Nat, j ≤ k ∧ i = .int .i64 j ∧ Below W2.heap.size W2 wr) (fun i _ => k - (intOf i).toNat)
        case atStart => exact ⟨0, Nat.zero_le _, rfl, Below.refl _ _⟩
        case round =>
          obtain ⟨j, hj, rfl, hbr⟩ := hrel
          by_cases hlj : j < k
          · have hKr := hK.up hbr
            have hQr := own_up hQ hbr
            have hur := own_up hu hbr
            have hvr := hv.up hbr
            obtain ⟨I, hI⟩ : ∃ x, ids.getD j 0 = x := ⟨_, rfl⟩
            obtain ⟨Pz, hPz⟩ : ∃ x, (M : Int) + L j = x := ⟨_, rfl⟩
            obtain ⟨Sz, hSz⟩ : ∃ x, bdL bs j = x := ⟨_, rfl⟩
            have hpj := unhide HPA j hlj
            have hcj := unhide HPC j hlj
            have hbj := (unhide HFACT).2.2.1 j hlj
            have hij := (unhide HFACT).2.2.2 j hlj
            rw [hI, hPz, hSz] at hpj
            rw [hI, hPz, hSz] at hcj
            rw [hI] at hij
            obtain ⟨Tj, hTj⟩ : ∃ x, ts.getD j .empty = x := ⟨_, rfl⟩
            rw [hTj] at hbj
            rw [hbj] at hcj
            obtain ⟨gq, rfl, e0, e1, e2⟩ := OwQ.cells hQr (unhide HLL).2.2.2 hlj
            rw [hpj] at e0 e1 e2
            dsimp only at e0 e1 e2
            obtain ⟨gu, rfl, ei⟩ := OwN.cell hur (unhide HLL).1 hlj
            rw [hI] at ei
            obtain ⟨gv, vc, ub, ev, eb, hTx⟩ := hvr.cell (i := j) (by rw [(unhide HLL).2.1]; exact hlj)
            rw [hTj] at hTx
            rw [(unhide HLL).2.1] at ev
            have hvl : k ≤ vc := by obtain ⟨us', a1, _, _⟩ := hvr; obtain ⟨a', c', e', q1, _⟩ := own_form a1; rw [(unhide HLL).2.1] at e' q1; rw [ev] at e'; simp at e'; omega
            subst ev
            have HC := hide hcj
            have HKr := hide hKr
            have HTX := hide hTx
            have HBR := hide hbr
            have HK2 := hide hK
            have g0 := hKr.geo.cell 0 _ rfl
            have g1 := hKr.geo.cell 1 _ rfl
            have g2 := hKr.geo.cell 2 _ rfl
            have g3 := hKr.geo.cell 3 _ rfl
            have g4 := hKr.geo.cell 4 _ rfl
            have hgl : w1.heap.size < wr.heap.size := hKr.geo.lt
            have hdl : dB < wr.heap.size := hKr.box.lt
            have hul : gu < wr.heap.size := World.block_lt_of_cell? _ _ ei
            have hvl2 : gv < wr.heap.size := World.block_lt_of_cell? _ _ eb
            have hd := hKr.dev
            obtain ⟨⟨b1, dap1, rfl, _⟩, ⟨b2, dap2, rfl, _⟩, ⟨b3, dap3, rfl, _⟩⟩ := hd
            have q0 := hKr.box.cell 0 _ rfl
            have q1 := hKr.box.cell 1 _ rfl
            have q2 := hKr.box.cell 2 _ rfl
            have q3 := hKr.box.cell 3 _ rfl
            clear hpj hcj hbj hI hPz hSz hTj hQr hur hvr hKr hTx hbr hQ hu hv hK
            obtain ⟨SX, hSX⟩ : ∃ SX, strOfNums (bytesI Tj) = SX := ⟨_, rfl⟩
            have HSX := hide hSX
            clear hSX
            have hwr0 := unhide HBR
            have hws2 := hwr0.size
            clear hwr0
            go_wp2_with fail
            refine (hotFetch_any 8 30 10 2699 6 _ _ _ D2 0 I Pz Sz _ ((unhide HKr).dev.up (bl1 _ _))).mono ?_
            rintro e wn ⟨u, rfl, hO, hb⟩
            rw [(unhide HC).1] at hO ⊢
            rw [okL0, (unhide HC).2.1] at hO
            have hb2 : Below wr.heap.size wr wn := bl_trans (bl1 _ _) hb
            have hx21 := fun d : Later wn => (hO.up d.below).str
            have hxb := fun d : Later wn => (((unhide HTX).up hb2).up d.below).bts.str
            rw [unhide HSX] at hx21 hxb
            have hrow := (Row.new wr 39 [.int .i64 I, .int .i64 Pz, .int .i64 Sz]).up hb
            have z0 := hrow.cell 0 _ rfl
            have z1 := hrow.cell 1 _ rfl
            have z2 := hrow.cell 2 _ rfl
            have zf := hrow.unfrozen
            have hlw : wr.heap.size < wn.heap.size := hrow.lt
            replace ei := cell_up hb2 ei
            replace eb := cell_up hb2 eb
            replace g0 := cell_up hb2 g0
            replace g1 := cell_up hb2 g1
            replace g2 := cell_up hb2 g2
            replace g3 := cell_up hb2 g3
            replace g4 := cell_up hb2 g4
            replace q0 := cell_up hb2 q0
            replace q1 := cell_up hb2 q1
            replace q2 := cell_up hb2 q2
            replace q3 := cell_up hb2 q3
            clear hb hO e0 e1 e2
            have hjk : (j : Int) < (k : Int) := by omega
            have hj0 : (0 : Int) ≤ (j : Int) := Int.natCast_nonneg _
            have lz := fun d : Later wn => d.cell z0
            have li := fun d : Later wn => d.cell ei
            have lb := fun d : Later wn => d.cell eb
            have hne := Later.one wn
            go_upto_region 23 with fail
            refine wp_region_later (by kernel_rfl) (by kernel_rfl) ?_
            repeat (go_big_quiet_step (fail))
            refine wpQuiet_nil ?_
            intro w9 hw'
            obtain ⟨⟨w8, hb8⟩, hw''⟩ := hw'
            subst hw''
            clear lz li lb hx21 hxb hne
            replace hrow := hrow.up hb8
            have z0 := hrow.cell 0 _ rfl
            have z1 := hrow.cell 1 _ rfl
            have z2 := hrow.cell 2 _ rfl
            have zf := hrow.unfrozen
            replace hlw : wr.heap.size < w9.heap.size := hrow.lt
            have hb9 := bl_trans hb2 hb8
            replace ei := cell_up hb8 ei
            replace eb := cell_up hb8 eb
            replace g0 := cell_up hb8 g0
            replace g1 := cell_up hb8 g1
            replace g2 := cell_up hb8 g2
            replace g3 := cell_up hb8 g3
            replace g4 := cell_up hb8 g4
            replace q0 := cell_up hb8 q0
            replace q1 := cell_up hb8 q1
            replace q2 := cell_up hb8 q2
            replace q3 := cell_up hb8 q3
            go_wp2_with fail
            refine (hotFetch_any 8 30 10 2699 6 _ _ _ D2 0 (I + 1) Pz Sz _ ((unhide HKr).dev.up (bl_set hb9 (Nat.le_refl _) _))).mono ?_
            rintro e wz ⟨u', rfl, hO, hb'⟩
            rw [(unhide HC).2.2] at hO ⊢
            have hbz : Below wr.heap.size wr wz := bl_trans (bl_set hb9 (Nat.le_refl _) _) hb'
            clear hO hb'
            go_wp2
            go_roundw
            case rel => exact ⟨j + 1, hlj, by go_num, bl_trans (unhide HBR) hbz⟩
            case measure => (simp [intOf] <;> omega)
          · obtain rfl : j = k := by omega
            go_wp2
            go_ret
            exact ⟨rfl, bl_trans hbk hbr⟩
end Go.Proofs.Ytdalkkjojflakaa

/- What every lifting wants of the program. -/
namespace Go.Proofs.Ytdalkkjojflakaa
open Go.ChangeShapes Go.WideShapes Go.ChangeAt Go.RowKit
set_option maxRecDepth 100000
set_option linter.unusedVariables false
set_option linter.unusedSimpArgs false

theorem own : ownKnob Try.prog.godebug = none := by kernel_rfl
theorem laidOut : laidOutB Try.prog = true := by kernel_rfl
theorem cellsInt : Try.prog.cellsOf 3 = 1 := by kernel_rfl
end Go.Proofs.Ytdalkkjojflakaa

/- How a list that came in is read, whatever its elements. -/
namespace Go.Proofs.Ytdalkkjojflakaa
open Go.ChangeShapes Go.WideShapes Go.ChangeAt Go.RowKit Go.Deep
set_option maxRecDepth 100000
set_option linter.unusedVariables false
set_option linter.unusedSimpArgs false
theorem spick_lt {α : Type} (x0 : α) {n : Nat} {p : Nat → α → Prop} (h : ∀ i, i < n → ∃ x, p i x) : ∃ f : Nat → α, ∀ i, i < n → p i (f i) := by
  refine ⟨fun i => if hi : i < n then Classical.choose (h i hi) else x0, fun i hi => ?_⟩
  simp only [dif_pos hi]
  exact Classical.choose_spec (h i hi)
theorem sgetD_map_range {α : Type} (f : Nat → α) (d : α) {n i : Nat} (h : i < n) : ((List.range n).map f).getD i d = f i := by
  simp [List.getD, h]
theorem sadd_none (b o i : Nat) : (⟨b, o, none⟩ : Addr).add i = ⟨b, o + i, none⟩ := by unfold Addr.add; split <;> simp_all
theorem sspot_of {w : World} {a : Addr} {v : Value} (h : w.cell? (a.add 0) = some v) : ∃ b o, a = ⟨b, o, none⟩ := by
  obtain ⟨b, o, s⟩ := a
  have hs : s = none := by simpa [Addr.add] using World.cell?_spot h
  subst hs
  exact ⟨b, o, rfl⟩
section
variable {H : Type} {enc : TypeId × Value → H} {w : World} {base : Nat} {spare : Nat → Bool} {held : Bool} {fuel : Nat} {v : Value} {x : DataW H × List MemPlace}

theorem open_list {α : Type} (R : World → Nat → Nat → α → Prop) (size : Nat) (d : α) (t e : TypeId) (hu : Try.prog.underlying t = some (.slice e)) (hc : Try.prog.cellsOf e = size) (hs : 0 < size)
    (h : DataW.trod enc Try.prog w base spare held fuel t [v] = some x)
    (f : ∀ fuel' (b p : Nat) (cs : List Value) (y : DataW H × List MemPlace), cs.length = size → (∀ j, j < size → w.cell? ⟨b, p + j, none⟩ = cs[j]?) → DataW.trod enc Try.prog w base spare held fuel' e cs = some y → ∃ z, R w b p z) :
    ∃ (xs : List α) (a : Option Addr) (cap : Nat), v = .slice a xs.length cap ∧ xs.length ≤ cap ∧ cap ≤ maxLen ∧ ∀ i, i < xs.length → ∃ b o, a = some ⟨b, o, none⟩ ∧ R w b (o + i * size) (xs.getD i d) := by
  rcases open_slice hu h with ⟨hcs, _⟩ | ⟨a, len, cap, m, n, D, Pl, hcs, _, hl, hm, hmm, _, hx⟩
  · simp at hcs
    subst hcs
    exact ⟨[], none, 0, rfl, Nat.le_refl _, Nat.zero_le _, fun i hi => absurd hi (Nat.not_lt_zero _)⟩
  · simp at hcs
    subst hcs
    have hml : len ≤ m := by rw [hmm]; split <;> omega
    have hsp : 0 < len → ∃ b o, a = ⟨b, o, none⟩ := fun h0 => by
      obtain ⟨cs', hc', _⟩ := hx 0 (by omega)
      rw [hc] at hc'
      obtain ⟨_, hl', k⟩ := World.cells?_some hc'
      have k0 := k 0 hs
      rw [List.getElem?_eq_getElem (by omega)] at k0
      exact sspot_of (by simpa [Addr.add] using k0)
    obtain ⟨g, hg⟩ := spick_lt d (n := len) (p := fun i z => ∃ b o, a = ⟨b, o, none⟩ ∧ R w b (o + i * size) z) fun i hi => by
      obtain ⟨cs', hc', ht⟩ := hx i (by omega)
      rw [hc] at hc'
      obtain ⟨_, hl', k⟩ := World.cells?_some hc'
      obtain ⟨b, o, rfl⟩ := hsp (by omega)
      obtain ⟨z, hz⟩ := f _ b (o + i * size) cs' _ hl' (fun j hj => by have := k j hj; rw [sadd_none, sadd_none] at this; exact this) ht
      exact ⟨z, b, o, rfl, hz⟩
    refine ⟨(List.range len).map g, some a, cap, by simp, by simpa using hl, hm, fun i hi => ?_⟩
    have hi' : i < len := by simpa using hi
    rw [sgetD_map_range g _ hi']
    obtain ⟨b, o, rfl, r⟩ := hg i hi'
    exact ⟨b, o, rfl, r⟩
end
end Go.Proofs.Ytdalkkjojflakaa

/- How raw things that came in are read. -/
namespace Go.Proofs.Ytdalkkjojflakaa
open Go.ChangeShapes Go.WideShapes Go.ChangeAt Go.RowKit Go.Deep
set_option maxRecDepth 100000
set_option linter.unusedVariables false
set_option linter.unusedSimpArgs false
theorem cellsRaw : Try.prog.cellsOf 50 = 6 := by kernel_rfl
theorem cellsStrW : Try.prog.cellsOf 9 = 1 := by kernel_rfl
theorem wf_i64 {x : Int} (h : (Lit.int .i64 x).wf = true) : -9223372036854775808 ≤ x ∧ x ≤ 9223372036854775807 := by
  have := wf_lo h
  exact ⟨this.1, this.2⟩
theorem open_raws {H : Type} {enc : TypeId × Value → H} {w : World} {base : Nat} {spare : Nat → Bool} {held : Bool} {r : Reach} {b0 : Nat} {v : Value} {d : DataW H} {p : List MemPlace}
    (hv : Value.okWide Try.prog w r b0 43 v) (h : DataW.Trod enc Try.prog w base spare held 43 v d p) :
    ∃ xs, Raws w v xs := by
  obtain ⟨fuel, hf⟩ := h
  have hcs : v.cells.toList = [v] := by
    obtain ⟨a, n, c, rfl⟩ := okWide_slice Try.underlying43 hv
    rfl
  rw [hcs] at hf
  refine open_list RwAt 6 rw0 _ _ Try.underlying43 cellsRaw (by decide) hf ?_
  intro fuel' b p cs y hl k ht
  match cs, hl with
  | [c0, c1, c2, c3, c4, c5], _ =>
    obtain ⟨xs, n, _, _, _, hlen, hx⟩ := DataW.trod_struct Try.underlying50 ht
    match xs, hlen with
    | [y0, y1, y2, y3, y4, y5], _ =>
      have h0 := hx 0 _ rfl
      have h1 := hx 1 _ rfl
      have h2 := hx 2 _ rfl
      have h3 := hx 3 _ rfl
      have h4 := hx 4 _ rfl
      have h5 := hx 5 _ rfl
      simp [Value.cells, cellsInt, cellsStrW] at h0 h1 h2 h3 h4 h5
      obtain ⟨x0, e0, _, w0⟩ := DataW.trod_int Try.underlying3 h0
      obtain ⟨x1, e1, _, w1⟩ := DataW.trod_int Try.underlying3 h1
      obtain ⟨x2, e2, _, w2⟩ := DataW.trod_int Try.underlying3 h2
      obtain ⟨x3, e3, _, w3⟩ := DataW.trod_int Try.underlying3 h3
      obtain ⟨x4, e4, _, w4⟩ := DataW.trod_int Try.underlying3 h4
      obtain ⟨s5, e5, _, w5⟩ := DataW.trod_string Try.underlying9 h5
      simp at e0 e1 e2 e3 e4 e5
      subst e0 e1 e2 e3 e4 e5
      exact ⟨⟨x0, x1, x2, x3, x4, s5⟩, k 0 (by decide), k 1 (by decide), k 2 (by decide), k 3 (by decide), k 4 (by decide), k 5 (by decide), w5, wf_i64 w0, wf_i64 w1, wf_i64 w2, wf_i64 w3, wf_i64 w4⟩
end Go.Proofs.Ytdalkkjojflakaa

/- How texts that came in are read: the kit's own lemma. -/
namespace Go.Proofs.Ytdalkkjojflakaa
theorem opened_text : True := trivial
end Go.Proofs.Ytdalkkjojflakaa

namespace Go.Proofs.Ytdalkkjojflakaa
open Go.ChangeShapes Go.WideShapes Go.ChangeAt Go.RowKit
open Go.ChangeMaps (open_string shut_string)
set_option linter.unusedVariables false
set_option linter.unusedSimpArgs false

set_option maxRecDepth 100000 in
theorem packFetch_lifted (os : Os) (started : os.Started) (H : Type) (enc : TypeId × Value → H) :
    ReturnsInHanded {} Try.checked os 5 .any (Rows.packFetchSpec.pre6 enc Try.prog Try.f5 Rows.packFetchRow.domain false) (Rows.packFetchSpec.post enc Try.prog Try.f5 false true false false) := by
  refine returnsInHanded_of_change (C := Try.checked) own started (by kernel_rfl) Try.func5
    (ChangeSpec.witness6 (enc := enc) (C := Try.checked) false ⟨#[], #[.slice none 0 0, .string .empty], []⟩ 8 (by kernel_rfl) (by kernel_rfl) (by kernel_rfl) (by kernel_rfl)) ?_
  intro W base args ds gs before hval0 hW hcnd _
  have hval : ∀ (j : Nat) t v, Try.f5.params[j]? = some t → args[j]? = some v → Value.okWide Try.prog W .any base t v := hval0
  have hW' := hW
  obtain ⟨p, q, hA0, hV, rfl, hfz, hnd⟩ := hW
  have hA : DataW.TrodAll enc Try.prog W 0 (fun _ => true) true Try.f5.params.toList args.toList ds p := hA0
  rw [Try.params5] at hA hval
  obtain ⟨v0, vs0, d0, ds0, p0, q0, hargs, rfl, rfl, h0, r0⟩ := trodAll_cons hA
  obtain ⟨v1, vs1, d1, ds1, p1, q1, rfl, rfl, rfl, h1, r1⟩ := trodAll_cons r0
  obtain ⟨rfl, rfl, rfl⟩ := trodAll_nil r1
  obtain rfl : args = #[v0, v1] := by cases args; simp_all
  obtain ⟨rfl, rfl⟩ := trodVars_none hV
  have k0 := h0
  have lt0 : ∀ x ∈ p0, x.block < W.heap.size := by obtain ⟨m, hm⟩ := k0; exact DataW.trod_lt m _ _ _ hm
  obtain ⟨xs0, hB0⟩ := open_raws (hval 0 43 v0 rfl rfl) h0
  have k1 := h1
  have lt1 : ∀ x ∈ p1, x.block < W.heap.size := by obtain ⟨m, hm⟩ := k1; exact DataW.trod_lt m _ _ _ hm
  obtain ⟨a1, rfl, ed1, rfl, wi1⟩ := open_string Try.underlying9 (hval 1 9 v1 rfl rfl) h1
  clear hA0 hval0
  refine (packFetch_walk v0 xs0 a1 W hB0 wi1).mono fun e W' ⟨he, bel⟩ => ?_
  subst he
  exact ⟨_, rfl, _, _, _, [], _, [], hW', trodAll_mk1 (shut_bool Try.underlying4 _), (trodAll_cons_mk (Below.trod laidOut (by kernel_rfl) (of_decide_eq_true (by kernel_rfl)) k0 bel lt0) (trodAll_cons_mk (Below.trod laidOut (by kernel_rfl) (of_decide_eq_true (by kernel_rfl)) k1 bel lt1) trodAll_mk0)), rfl, bel.frame _, fun h => by cases h⟩

theorem packFetch_holds : Rows.PackFetchSaid :=
  OpenClaim.holds_of_wide 5 Try.f5 rfl rfl rfl rfl rfl rfl rfl ⟨rfl, rfl, rfl, rfl, rfl⟩ rfl rfl rfl rfl rfl (by kernel_rfl) Try.func5 (by kernel_rfl)
    (of_decide_eq_true (by kernel_rfl)) (by unfold Func.isWrapper; first | (rw [if_pos (by decide +kernel)]; kernel_rfl) | (rw [if_neg (by decide +kernel)]; exact ⟨rfl, rfl⟩))
    (fun os started H enc _ => packFetch_lifted os started H enc)
#print axioms packFetch_holds
end Go.Proofs.Ytdalkkjojflakaa
