/- What appending to a volume answers. -/
import Derived.Test.YtdalkkjojflakaaMkC
import Derived.Test.YtdalkkjojflakaaApp
namespace Go.Proofs.Ytdalkkjojflakaa
open Go.RowKit
set_option maxRecDepth 100000
set_option linter.unusedVariables false
set_option linter.unusedSimpArgs false

theorem geoB_u {r a h v n : Int} (x : geoB r a h v n = true) : 4 ≤ r ∧ r ≤ 60 ∧ 2 ≤ a ∧ a ≤ 80 ∧ 2 ≤ h ∧ h ≤ 200 ∧ 100 ≤ v ∧ v ≤ 4000 ∧ 1 ≤ n ∧ n ≤ 8 := by simpa [geoB] using x
def appB (nv : Int) (D : Dv) (x : Int) : Bool := decide (x = (D.vols.length : Int)) && decide (x < nv)
def appVs (nv : Int) (D : Dv) (x : Int) : List Vo := if appB nv D x then D.vols ++ [vo0] else D.vols
def appE (vm nv : Int) (D : Dv) (x : Int) (L : Nat) (e : Int) : Int :=
  if e = 0 then (if !appB nv D x && !isVol D x then 6 else if vm < (L : Int) + (((appVs nv D x).getD x.toNat vo0).data.length : Int) then 8 else if D.fuel = 0 then 10 else 0) else e
def appV (vs : List Vo) (k : Nat) (xs : List Int) : List Vo := vs.set k ⟨(vs.getD k vo0).data ++ xs, (vs.getD k vo0).synced, (vs.getD k vo0).gone⟩
def appD (nv : Int) (D : Dv) (x : Int) (xs : List Int) (e : Int) : Dv := if e = 0 then ⟨D.safe, D.cache, appV (appVs nv D x) x.toNat xs, lessF D.fuel⟩ else nilD
section
variable {vm nv : Int} {D : Dv} {x : Int} {L : Nat} {xs : List Int} {e : Int}
theorem appE_bad (h : e ≠ 0) : appE vm nv D x L e = e := by simp [appE, h]
theorem appE_no (h1 : appB nv D x = false) (h2 : isVol D x = false) : appE vm nv D x L 0 = 6 := by simp [appE, h1, h2]
theorem appB_t (h : appB nv D x = true) : x = (D.vols.length : Int) ∧ x < nv := by simpa [appB] using h
theorem appVs_t (h : appB nv D x = true) : appVs nv D x = D.vols ++ [vo0] := by simp [appVs, h]
theorem appVs_f (h : appB nv D x = false) : appVs nv D x = D.vols := by simp [appVs, h]
theorem appVs_new (h : appB nv D x = true) : ((appVs nv D x).getD x.toNat vo0).data.length = 0 := by
  rw [appVs_t h]
  have := (appB_t h).1
  subst this
  simp [List.getD]
theorem appE_fullN (h : appB nv D x = true) (hl : vm < (L : Int)) : appE vm nv D x L 0 = 8 := by
  unfold appE; rw [appVs_new h]; simp [h, hl]
theorem appE_downN (h : appB nv D x = true) (hl : ¬ vm < (L : Int)) (hf : D.fuel = 0) : appE vm nv D x L 0 = 10 := by
  unfold appE; rw [appVs_new h]; simp [h, hl, hf]
theorem appE_okN (h : appB nv D x = true) (hl : ¬ vm < (L : Int)) (hf : D.fuel ≠ 0) : appE vm nv D x L 0 = 0 := by
  unfold appE; rw [appVs_new h]; simp [h, hl, hf]
theorem appE_fullO (h : appB nv D x = false) (h2 : isVol D x = true) (hl : vm < (L : Int) + ((D.vols.getD x.toNat vo0).data.length : Int)) : appE vm nv D x L 0 = 8 := by
  unfold appE; rw [appVs_f h]; simp only [h, h2]; simp [-List.getD_eq_getElem?_getD, hl]
theorem appE_downO (h : appB nv D x = false) (h2 : isVol D x = true) (hl : ¬ vm < (L : Int) + ((D.vols.getD x.toNat vo0).data.length : Int)) (hf : D.fuel = 0) : appE vm nv D x L 0 = 10 := by
  unfold appE; rw [appVs_f h]; simp only [h, h2]; simp [-List.getD_eq_getElem?_getD, hl, hf]
theorem appE_okO (h : appB nv D x = false) (h2 : isVol D x = true) (hl : ¬ vm < (L : Int) + ((D.vols.getD x.toNat vo0).data.length : Int)) (hf : D.fuel ≠ 0) : appE vm nv D x L 0 = 0 := by
  unfold appE; rw [appVs_f h]; simp only [h, h2]; simp [-List.getD_eq_getElem?_getD, hl, hf]
theorem appD_bad (h : e ≠ 0) : appD nv D x xs e = nilD := by simp [appD, h]
theorem appD_ok : appD nv D x xs 0 = ⟨D.safe, D.cache, appV (appVs nv D x) x.toNat xs, lessF D.fuel⟩ := by simp [appD]
end
/-- One more volume, as an append leaves it. -/
theorem ODev.begun {w w3 : World} {B : Nat} {s c v : Value} {D : Dv} {us : List Value} (h : ODev w B s c v D) (hc : w.ownsRow B 79 3 v D.vols.length us) (hin : VosIn w B us D.vols) (hg : w.grownBy w3 v.ownBlock) {v' : Value}
    (hown : w3.ownsRow B 79 3 v' (D.vols.length + 1) (us ++ [.slice none 0 0, .int .i64 0, .bool false])) : ODev w3 B s c v' ⟨D.safe, D.cache, D.vols ++ [vo0], D.fuel⟩ := by
  obtain ⟨⟨us1, s1, s2⟩, ⟨uc, c1, c2⟩, _⟩ := h
  have f : ∀ u ys, Own w B u ys → Own w3 B u ys := fun u ys q => own_two q hc (by decide) hg
  exact ⟨⟨us1, own_two s1 hc (by decide) hg, s2.imp f⟩, ⟨uc, own_two c1 hc (by decide) hg, c2.imp f⟩, ⟨_, by simpa using hown, hin.push f (y := vo0) (Own.nil _ _)⟩⟩
/-- The volumes' bytes have no spare room. -/
def Exact (w : World) (v : Value) (n : Nat) : Prop := ∀ g m cap, v = .slice (some ⟨g, 0, none⟩) m cap → ∀ i, i < n → ∃ a k, w.cell? ⟨g, i * 3, none⟩ = some (.slice a k k)
theorem Exact.up {w w' : World} {v : Value} {n : Nat} (h : Exact w v n) (hb : Below w.heap.size w w') : Exact w' v n := fun g m cap e i hi =>
  let ⟨a, k, hc⟩ := h g m cap e i hi; ⟨a, k, cell_up hb hc⟩
theorem oneThing_x (s c v : Value) (D : Dv) (w : World) (hD : Dev w s c v D) (hfit : Fits D) (hF : D.fuel ≠ 0) (hlo : -1 ≤ D.fuel) (hhi : D.fuel ≤ 1048576) :
    Calls Try.prog 39 #[.agg #[s, c, v, .int .i64 D.fuel]] w fun e w' =>
      ∃ s' c' v', e = .returned (.tuple #[.agg #[s', c', v', .int .i64 (lessF D.fuel)], .int .i64 0]) ∧ ODev w' w.heap.size s' c' v' D ∧ Exact w' v' D.vols.length ∧ Below w.heap.size w w' :=
  (oneThing_some s c v D w hD hfit hF hlo hhi).mono fun e w' ⟨s', c', v', M, h1, h2, h3⟩ => ⟨s', c', v', h1, h2.odev hfit, by
    obtain ⟨gv, us, rfl, _, hr, _, hc⟩ := h2.vols
    intro g m cap e i hi
    simp at e
    obtain ⟨rfl, _⟩ := e
    obtain ⟨a, k, hk⟩ := hc i hi
    exact ⟨a, k, hr.cell _ _ hk⟩, h3⟩
end Go.Proofs.Ytdalkkjojflakaa
