/- Devices that may be stay such: plain facts, no walk. -/
import Derived.Test.YtdalkkjojflakaaCrC
import Derived.Test.YtdalkkjojflakaaApD
namespace Go.Proofs.Ytdalkkjojflakaa
open Go.RowKit
set_option maxRecDepth 100000
set_option linter.unusedVariables false
set_option linter.unusedSimpArgs false

structure DOk (r a h vm nv : Int) (D : Dv) : Prop where
  ns : (D.safe.length : Int) = 2 + r + 2 * a + h
  nc : (D.cache.length : Int) ≤ 2000
  nvs : (D.vols.length : Int) ≤ nv
  fu : -1 ≤ D.fuel ∧ D.fuel ≤ 1048576
  s64 : ∀ i, i < D.safe.length → (D.safe.getD i []).length = 64
  c64 : ∀ i, i < D.cache.length → (0 ≤ (D.cache.getD i ⟨0, []⟩).pos ∧ (D.cache.getD i ⟨0, []⟩).pos < D.safe.length) ∧ (D.cache.getD i ⟨0, []⟩).data.length = 64
  vo : ∀ i, i < D.vols.length → volB vm (D.vols.getD i vo0).data.length (D.vols.getD i vo0).synced (D.vols.getD i vo0).gone = true
theorem dok_of {r a h vm nv : Int} {D : Dv} (x : devB r a h vm nv D = true) : DOk r a h vm nv D := by
  obtain ⟨x1, x2, x3, x4, x5, x6, x7⟩ := devB_all x
  exact ⟨x1, x2, x3, inB_t x4, x5, x6, x7⟩
theorem of_dok {r a h vm nv : Int} {D : Dv} (x : DOk r a h vm nv D) : devB r a h vm nv D = true := by
  unfold devB
  simp only [Bool.and_eq_true, decide_eq_true_eq]
  refine ⟨⟨⟨⟨⟨⟨x.ns, x.nc⟩, x.nvs⟩, ?_⟩, allB_t fun i hi => ?_⟩, allB_t fun i hi => ?_⟩, allB_t fun i hi => x.vo i hi⟩
  · have := x.fu; simp [inB]; omega
  · have := x.s64 i hi; rw [beq_iff_eq]; omega
  · have := x.c64 i hi
    simp only [Bool.and_eq_true, beq_iff_eq]
    refine ⟨?_, by omega⟩
    simp only [inB, decide_eq_true_eq]
    omega
theorem chk_ok {r a h vm nv : Int} {D : Dv} (g : geoB r a h vm nv = true) (x : DOk r a h vm nv D) : chkE r a h vm nv D = 0 := by
  simp [chkE, g, of_dok x]
theorem volB_t {vm L sy : Int} {go : Bool} (h : volB vm L sy go = true) : (go = true → L ≤ 0) ∧ (go = false → L ≤ vm) ∧ 0 ≤ sy ∧ sy ≤ L := by
  unfold volB at h
  simp only [Bool.and_eq_true, decide_eq_true_eq] at h
  obtain ⟨h1, h2⟩ := h
  have := inB_t h2
  cases go <;> simp at h1 <;> simp <;> omega
theorem volB_mk {vm L sy : Int} {go : Bool} (h1 : go = true → L ≤ 0) (h2 : go = false → L ≤ vm) (h3 : 0 ≤ sy) (h4 : sy ≤ L) : volB vm L sy go = true := by
  unfold volB
  simp only [Bool.and_eq_true, decide_eq_true_eq, inB]
  refine ⟨?_, h3, h4⟩
  cases go
  · simpa using h2 rfl
  · simpa using h1 rfl
section
variable {r a h vm nv : Int} {D : Dv}
theorem less_fu (h : -1 ≤ D.fuel ∧ D.fuel ≤ 1048576) (h0 : D.fuel ≠ 0) : -1 ≤ lessF D.fuel ∧ lessF D.fuel ≤ 1048576 := by
  unfold lessF; split <;> omega
theorem getD_snoc {α : Type} (l : List α) (y d : α) (i : Nat) : (l ++ [y]).getD i d = if i < l.length then l.getD i d else if i = l.length then y else d := by
  simp only [List.getD]
  by_cases h : i < l.length
  · rw [if_pos h, List.getElem?_append_left h]
  · rw [if_neg h, List.getElem?_append_right (by omega)]
    by_cases e : i = l.length
    · subst e; simp
    · rw [if_neg e, List.getElem?_eq_none (by simp; omega)]; rfl
theorem DOk.put (o : DOk r a h vm nv D) {x : Int} {xs : List Int} (hx : inB x 0 ((D.safe.length : Int) - 1) = true) (hc : ¬ 2000 ≤ D.cache.length) (h0 : D.fuel ≠ 0) : DOk r a h vm nv (putD D x xs 0) := by
  have hb := inB_t hx
  rw [putD_ok]
  refine ⟨o.ns, by simp; omega, o.nvs, less_fu o.fu h0, o.s64, fun i hi => ?_, o.vo⟩
  simp only [List.length_append, List.length_singleton] at hi
  simp only [getD_snoc]
  by_cases e : i < D.cache.length
  · rw [if_pos e]; exact o.c64 i e
  · rw [if_neg e, if_pos (by omega)]
    exact ⟨⟨hb.1, by simp only; omega⟩, pad_length _ _⟩
theorem DOk.flu (o : DOk r a h vm nv D) (h0 : D.fuel ≠ 0) : DOk r a h vm nv (fluD D 0) := by
  rw [fluD_ok]
  refine ⟨by simp only [settled_length]; exact o.ns, by simp, o.nvs, less_fu o.fu h0, fun i hi => ?_, fun i hi => absurd hi (Nat.not_lt_zero _), o.vo⟩
  simp only [settled_length] at hi
  exact settled_64 o.s64 o.c64 _ (Nat.le_refl _) i hi
theorem getD_map {f : Vo → Vo} (hf : f vo0 = vo0 ∨ True) (l : List Vo) {i : Nat} (hi : i < l.length) : (l.map f).getD i vo0 = f (l.getD i vo0) := by
  simp [List.getD, hi]
theorem DOk.mar (o : DOk r a h vm nv D) (h0 : D.fuel ≠ 0) : DOk r a h vm nv (marD D 0) := by
  rw [marD_ok]
  refine ⟨o.ns, o.nc, by simpa using o.nvs, less_fu o.fu h0, o.s64, o.c64, fun i hi => ?_⟩
  simp only [List.length_map] at hi
  simp only [getD_map (.inr trivial) _ hi]
  obtain ⟨h1, h2, h3, h4⟩ := volB_t (o.vo i hi)
  exact volB_mk h1 h2 (by simp [markV]) (by simp [markV])
theorem DOk.cra (o : DOk r a h vm nv D) {ks : List Bool} {t : Int} (ht : ¬ t < 0) : DOk r a h vm nv (craD ks t D 0) := by
  rw [craD_ok]
  refine ⟨by simp only [settled_length]; exact o.ns, by simp, by simpa using o.nvs, by simp, fun i hi => ?_, fun i hi => absurd hi (Nat.not_lt_zero _), fun i hi => ?_⟩
  · simp only [settled_length] at hi
    exact settled_64 o.s64 o.c64 _ (Nat.le_refl _) i hi
  · simp only [List.length_map] at hi
    simp only [getD_map (.inr trivial) _ hi]
    obtain ⟨h1, h2, h3, h4⟩ := volB_t (o.vo i hi)
    have hle := craN_le (y := D.vols.getD i vo0) ht h3 h4
    simp only [cutV, pad_length]
    exact volB_mk (fun e => by have := h1 e; omega) (fun e => by have := h2 e; omega) (by omega) (by omega)
theorem DOk.tak (o : DOk r a h vm nv D) {x : Int} (hv : isVol D x = true) (h0 : D.fuel ≠ 0) : DOk r a h vm nv (takD D x 0) := by
  obtain ⟨k, rfl, hk⟩ := isVol_t hv
  rw [takD_ok, Int.toNat_natCast]
  refine ⟨o.ns, o.nc, by simpa using o.nvs, less_fu o.fu h0, o.s64, o.c64, fun i hi => ?_⟩
  simp only [List.length_set] at hi
  simp only [getD_setL _ _ _ _ _ hk]
  split
  · exact volB_mk (by simp) (by simp) (by simp) (by simp)
  · exact o.vo i hi
theorem DOk.app (o : DOk r a h vm nv D) {x : Int} {xs : List Int} (he : appE vm nv D x xs.length 0 = 0) (hvm : 0 ≤ vm) : DOk r a h vm nv (appD nv D x xs 0) := by
  rw [appD_ok]
  have hgen : ∀ (vs : List Vo) (k : Nat), k < vs.length → (∀ i, i < vs.length → volB vm (vs.getD i vo0).data.length (vs.getD i vo0).synced (vs.getD i vo0).gone = true) → (vs.getD k vo0).gone = false → ((vs.getD k vo0).data.length : Int) + (xs.length : Int) ≤ vm → ∀ i, i < (appV vs k xs).length → volB vm ((appV vs k xs).getD i vo0).data.length ((appV vs k xs).getD i vo0).synced ((appV vs k xs).getD i vo0).gone = true := by
    intro vs k hk hall hgo hl i hi
    unfold appV at hi ⊢
    simp only [List.length_set] at hi
    rw [getD_setL _ _ _ _ _ hk]
    split
    · obtain ⟨h1, h2, h3, h4⟩ := volB_t (hall k hk)
      simp only
      exact volB_mk (by rw [hgo]; simp) (fun _ => by rw [List.length_append]; omega) h3 (by rw [List.length_append]; omega)
    · exact hall i hi
  have hf0 : D.fuel ≠ 0 := by
    intro e
    unfold appE at he
    rw [if_pos rfl] at he
    split at he
    · exact absurd he (by decide)
    · split at he
      · exact absurd he (by decide)
      · first | exact absurd he (by decide) | (rw [if_pos e] at he; exact absurd he (by decide))
  have hlen : ¬ vm < (xs.length : Int) + (((appVs nv D x).getD x.toNat vo0).data.length : Int) := by
    intro e
    unfold appE at he
    rw [if_pos rfl] at he
    split at he
    · exact absurd he (by decide)
    · first | exact absurd he (by decide) | (rw [if_pos e] at he; exact absurd he (by decide))
  cases hA : appB nv D x
  · have hV : isVol D x = true := by
      cases hV : isVol D x
      · rw [appE_no hA hV] at he; exact absurd he (by decide)
      · rfl
    obtain ⟨k, rfl, hk⟩ := isVol_t hV
    rw [appVs_f hA, Int.toNat_natCast] at *
    have hgo : (D.vols.getD k vo0).gone = false := by
      unfold isVol at hV
      simp only [Bool.and_eq_true] at hV
      simpa using hV.2
    exact ⟨o.ns, o.nc, by simpa [appV] using o.nvs, less_fu o.fu hf0, o.s64, o.c64, hgen D.vols k hk o.vo hgo (by omega)⟩
  · obtain ⟨e1, e2⟩ := appB_t hA
    rw [appVs_t hA] at *
    subst e1
    rw [Int.toNat_natCast] at *
    refine ⟨o.ns, o.nc, by simp [appV]; omega, less_fu o.fu hf0, o.s64, o.c64, hgen _ D.vols.length (by simp) (fun i hi => ?_) (by rw [getD_snoc]; simp) (by omega)⟩
    rw [getD_snoc]
    split
    · exact o.vo i ‹_›
    · split <;> exact volB_mk (by simp) (by simp; omega) (by simp) (by simp)
theorem DOk.new (g : geoB r a h vm nv = true) : DOk r a h vm nv (newD r a h vm nv) := by
  obtain ⟨_, _, _, _, _, _, _, _, _, _⟩ := geoB_u g
  rw [newD_t g]
  refine ⟨by simp; omega, by simp, by simp; omega, by simp, fun i hi => ?_, fun i hi => absurd hi (Nat.not_lt_zero _), fun i hi => absurd hi (Nat.not_lt_zero _)⟩
  simp only [List.length_replicate] at hi
  simp [List.getD, hi, zeros]
theorem DOk.arm (o : DOk r a h vm nv D) {f : Int} (hf : inB f 0 1048576 = true) : DOk r a h vm nv (armD D f 0) := by
  have := inB_t hf
  exact ⟨o.ns, o.nc, o.nvs, by simp [armD]; omega, o.s64, o.c64, o.vo⟩
theorem DOk.nil_bad (g : geoB r a h vm nv = true) : chkE r a h vm nv nilD = 9 := by
  obtain ⟨_, _, _, _, _, _, _, _, _, _⟩ := geoB_u g
  have : devB r a h vm nv nilD = false := by
    cases e : devB r a h vm nv nilD
    · rfl
    · have := (dok_of e).ns; simp [nilD] at this; omega
  simp [chkE, g, this]
end
end Go.Proofs.Ytdalkkjojflakaa
