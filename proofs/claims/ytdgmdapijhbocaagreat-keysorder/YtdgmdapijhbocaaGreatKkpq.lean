/- The keeps over State: what their walks share. -/
import Derived.Test.YtdgmdapijhbocaaGreatG20
namespace Go.Proofs.YtdgmdapijhbocaaGreat
open Go.RowKit Go.Maps
set_option maxRecDepth 100000
set_option linter.unusedVariables false
set_option linter.unusedSimpArgs false
theorem kSt (lv : Value) (l : List Rw) (most : Nat) (m : Int) (w : World) (hl : Raws w lv l) (hm : m = (most : Int)) (h : most ≤ 1000) :
    Calls Tryz.prog 9 #[lv, .int .i64 m] w fun e w' => ∃ ba bc va vc ua uc qa qc ga gc oa oc, e = .returned (.tuple #[stV (staL l most) (.slice ba (staL l most).bus.length bc) (.slice va (staL l most).ves.length vc) (.slice ua (staL l most).ups.length uc) (.slice qa (staL l most).que.length qc) (.slice ga (staL l most).gone.length gc), .slice oa (cntN l (rnd l most)) oc]) ∧
      Sta w' (.slice ba (staL l most).bus.length bc) (.slice va (staL l most).ves.length vc) (.slice ua (staL l most).ups.length uc) (.slice qa (staL l most).que.length qc) (.slice ga (staL l most).gone.length gc) (staL l most) ∧ Below w.heap.size w w' := by
  subst hm
  refine (kState_any lv l most w hl h).mono ?_
  rintro e w' ⟨b, v, u, q, g, oa, oc, rfl, hS, hb⟩
  obtain ⟨ba, bc, rfl, _, _⟩ := hS.bus.form
  obtain ⟨va, vc, rfl, _, _⟩ := hS.ves.form
  obtain ⟨ua, uc, rfl, _, _⟩ := hS.ups.form
  obtain ⟨qa, qc, rfl, _, _⟩ := hS.que.form
  obtain ⟨ga, gc, rfl, _, _⟩ := hS.gone.form
  exact ⟨ba, bc, va, vc, ua, uc, qa, qc, ga, gc, oa, oc, rfl, hS, hb⟩
theorem staL_ok (l : List Rw) (most : Nat) : stC (staL l most) = true := stN_ok _ _
/-- state.Apply, its answer's lists told. -/
theorem kAp (S : St) (b v u q g : Value) (r : Rc) (vv pv sv : Value) (w : World) (hS : Sta w b v u q g S) (hR : FitR r) (hWR : WfR r) (hI : RcI w r vv pv sv) :
    Calls Tryz.prog 12 #[stV S b v u q g, rcV r vv pv sv] w fun e w' => ∃ ba bc va vc ua uc qa qc ga gc, e = .returned (.tuple #[stV (appS S r) (.slice ba (appS S r).bus.length bc) (.slice va (appS S r).ves.length vc) (.slice ua (appS S r).ups.length uc) (.slice qa (appS S r).que.length qc) (.slice ga (appS S r).gone.length gc), .int .i64 (appE S r)]) ∧
      Sta w' (.slice ba (appS S r).bus.length bc) (.slice va (appS S r).ves.length vc) (.slice ua (appS S r).ups.length uc) (.slice qa (appS S r).que.length qc) (.slice ga (appS S r).gone.length gc) (appS S r) ∧ Below w.heap.size w w' := by
  have hw := app_wf hS.wfs hWR
  refine (apply_any S b v u q g r vv pv sv w hS hR hWR hI).mono ?_
  rintro e w' ⟨b, v, u, q, g, rfl, hO, hb⟩
  have hS' := hO.sta hw
  obtain ⟨ba, bc, rfl, _, _⟩ := hS'.bus.form
  obtain ⟨va, vc, rfl, _, _⟩ := hS'.ves.form
  obtain ⟨ua, uc, rfl, _, _⟩ := hS'.ups.form
  obtain ⟨qa, qc, rfl, _, _⟩ := hS'.que.form
  obtain ⟨ga, gc, rfl, _, _⟩ := hS'.gone.form
  exact ⟨ba, bc, va, vc, ua, uc, qa, qc, ga, gc, rfl, hS', hb⟩
theorem RcI.none (w : World) (r : Rc) (h1 : r.ver.sec = []) (h2 : r.part.sec = []) (h3 : r.sec = []) : RcI w r nl nl nl := ⟨by rw [h1]; exact Ints.nil9 _, by rw [h2]; exact Ints.nil9 _, by rw [h3]; exact Ints.nil9 _⟩
theorem sta00 (w : World) : Sta w nl nl nl nl nl st00 := (OSt.nil w 0).sta st00_wf
theorem app_x (S : St) (h : stC S = true) (k : Int) (hk : k < 1 ∨ 14 < k) : appE S (rcN k) = 3 ∧ appS S (rcN k) = st00 := by
  have e : chgE S (rcN k) = 3 := chg_x (by show k ≠ 1; omega) (by show k ≠ 2; omega) (by show k ≠ 3; omega) (by show k ≠ 4; omega) (by show k ≠ 5; omega) (by show k ≠ 6; omega) (by show k ≠ 7; omega) (by show k ≠ 8; omega) (by show k ≠ 9; omega) (by show k ≠ 10; omega) (by show k ≠ 11; omega) (by show k ≠ 12; omega) (by show k ≠ 13; omega) (by show k ≠ 14; omega)
  obtain ⟨h1, h2⟩ := app_c h (r := rcN k) (by rw [e]; decide)
  exact ⟨by rw [h1, e], h2⟩
end Go.Proofs.YtdgmdapijhbocaaGreat
