/- dev.Get and icehouseref.GetOf. -/
import Derived.Test.YtjaedigjmgfakaaFlt
import Derived.Test.YtjaedigjmgfakaaJoi
namespace Go.Proofs.Ytjaedigjmgfakaa
open Go.RowKit
set_option linter.unusedVariables false
set_option linter.unusedSimpArgs false

/-- The last place of so many for which it holds; -1: none. -/
def lastI : Nat → (Nat → Bool) → Int
  | 0, _ => -1
  | n + 1, p => if p n then n else lastI n p
theorem lastI_t {n : Nat} {p : Nat → Bool} (h : p n = true) : lastI (n + 1) p = n := by simp [lastI, h]
theorem lastI_f {n : Nat} {p : Nat → Bool} (h : p n = false) : lastI (n + 1) p = lastI n p := by simp [lastI, h]
theorem lastI_cut {n k : Nat} {p : Nat → Bool} (hk : k ≤ n) (h : ∀ j, k ≤ j → j < n → p j = false) : lastI n p = lastI k p := by
  induction n with
  | zero => obtain rfl : k = 0 := by omega
            rfl
  | succ n ih =>
    by_cases e : k = n + 1
    · rw [e]
    · rw [lastI_f (h n (by omega) (by omega))]
      exact ih (by omega) fun j h1 h2 => h j h1 (by omega)
theorem lastI_lt (n : Nat) (p : Nat → Bool) : -1 ≤ lastI n p ∧ lastI n p < n := by
  induction n with
  | zero => simp [lastI]
  | succ n ih =>
    cases h : p n
    · rw [lastI_f h]; omega
    · rw [lastI_t h]; omega

theorem last_any (n B B' : Nat) (p : Nat → Bool) (w : World) (hn : n ≤ 9223372036854775807)
    (hp : ∀ k : Nat, k < n → ∀ wr, Below w.heap.size w wr → Calls Try.prog 50 #[.int .i64 k, .pointer (some ⟨B, 0, none⟩), .pointer (some ⟨B', 0, none⟩)] wr fun e w' => e = .returned (.bool (p k)) ∧ Below wr.heap.size wr w') :
    Calls Try.prog 49 #[.int .i64 n, .func (.func 50) #[] #[.pointer (some ⟨B, 0, none⟩), .pointer (some ⟨B', 0, none⟩)]] w fun e w' => e = .returned (.int .i64 (lastI n p)) ∧ Below w.heap.size w w' := by
  have HP := hide hp
  clear hp
  go_enter Try.func49, Try.ntmps49
  go_wp2
  go_loopw [5] (fun i wr => ∃ k : Nat, k ≤ n ∧ i = .int .i64 ((k : Int) - 1) ∧ Below w.heap.size w wr ∧ ∀ j, k ≤ j → j < n → p j = false) (fun i _ => (intOf i + 1).toNat)
  case atStart => exact ⟨n, Nat.le_refl _, rfl, Below.refl _ _, fun j h1 h2 => absurd h1 (by omega)⟩
  case round =>
    obtain ⟨k, hk, rfl, hb, hall⟩ := hrel
    have HA := hide hall
    clear hall
    by_cases hlt : 0 < k
    · obtain ⟨m, rfl⟩ : ∃ m, k = m + 1 := ⟨k - 1, by omega⟩
      rw [show ((m + 1 : Nat) : Int) - 1 = (m : Int) by omega]
      go_wp2_with fail
      refine (unhide HP m (by omega) _ hb).mono ?_
      rintro e w1 ⟨rfl, hb1⟩
      cases hpk : p m
      · go_wp2
        go_roundw
        case rel => exact ⟨m, by omega, by go_num, bl_trans hb hb1, fun j h1 h2 => if e : j = m then e ▸ hpk else unhide HA j (by omega) h2⟩
        case measure => simp [intOf]
      · go_wp2
        go_ret
        exact ⟨ret_int (by rw [lastI_cut hk (unhide HA), lastI_t hpk]), bl_trans hb hb1⟩
    · obtain rfl : k = 0 := by omega
      go_wp2
      go_ret
      exact ⟨ret_int (by rw [lastI_cut hk (unhide HA)]; rfl), hb⟩

theorem get1_any (B B' b o n cap k : Nat) (x y : Int) (w : World) (hk : k < n) (hn : n ≤ 9223372036854775807)
   (h1 : w.cell? ⟨B, 1, none⟩ = some (.slice (some ⟨b, o, none⟩) n cap)) (e0 : w.cell? ⟨b, o + k * 2, none⟩ = some (.int .i64 x)) (h2 : w.cell? ⟨B', 0, none⟩ = some (.int .i64 y)) :
   Calls Try.prog 50 #[.int .i64 k, .pointer (some ⟨B, 0, none⟩), .pointer (some ⟨B', 0, none⟩)] w fun e w' => e = .returned (.bool (x == y)) ∧ Below w.heap.size w w' := by
  go_enter Try.func50, Try.ntmps50
  go_wp2
  have hne := Later.one w
  have h1' := fun d : Later w => d.cell h1
  have e0' := fun d : Later w => d.cell e0
  have h2' := fun d : Later w => d.cell h2
  refine wp_region_later (by kernel_rfl) (by kernel_rfl) ?_
  repeat (go_big_quiet_step (fail))
  refine wpQuiet_nil ?_
  intro w1 hw'
  obtain ⟨⟨w2, hb2⟩, hw''⟩ := hw'
  subst hw''
  clear hne h1' e0' h2'
  go_wp2
  go_ret
  exact ⟨rfl, hb2⟩

def posIs (D : Dv) (x : Int) (i : Nat) : Bool := (D.cache.getD i ⟨0, []⟩).pos == x
/-- What a sector holds when the first k writes of the cache are looked at. -/
def seen (D : Dv) (x : Int) (k : Nat) : List Int := if 0 ≤ lastI k (posIs D x) then (D.cache.getD (lastI k (posIs D x)).toNat ⟨0, []⟩).data else D.safe.getD x.toNat []
def getL (D : Dv) (x : Int) : List Int := seen D x D.cache.length
/-- ErrRange for a place that is none. -/
def atE (D : Dv) (x e : Int) : Int := if e = 0 then (if inB x 0 ((D.safe.length : Int) - 1) then 0 else 2) else e

theorem chk_of {r a h vm nv : Int} {D : Dv} (h0 : chkE r a h vm nv D = 0) : geoB r a h vm nv = true ∧ devB r a h vm nv D = true := by
  unfold chkE at h0
  cases hg : geoB r a h vm nv <;> simp [hg] at h0
  cases hd : devB r a h vm nv D <;> simp [hd] at h0
  exact ⟨rfl, rfl⟩
end Go.Proofs.Ytjaedigjmgfakaa
