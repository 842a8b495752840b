/- The document's allSectors. -/
import Derived.Test.YtdalkkjojflakaaRfa
import Derived.OwnWalk
import Derived.Laws.AppendOwn
namespace Go.Proofs.Ytdalkkjojflakaa
open Go.RowKit Go.Maps
set_option maxRecDepth 100000
set_option linter.unusedVariables false
set_option linter.unusedSimpArgs false
def i64s (xs : List Int) : List Value := xs.map (.int .i64 ·)
theorem i64s_length (xs : List Int) : (i64s xs).length = xs.length := by simp [i64s]
theorem i64s_snoc (xs : List Int) (x : Int) : i64s xs ++ [.int .i64 x] = i64s (xs ++ [x]) := by simp [i64s]
theorem infoI : (Try.prog.info? 3).map (fun i => (i.zero, i.size, i.bytes)) = some (some (.int .i64 0), 1, 8) := by kernel_rfl
abbrev OwI (w : World) (B : Nat) (v : Value) (xs : List Int) : Prop := w.ownsRow B 3 1 v xs.length (i64s xs)
theorem OwI.ints {w : World} {B : Nat} {v : Value} {xs : List Int} (h : OwI w B v xs) (hw : ∀ x ∈ xs, (Lit.int .i64 x).wf = true) : Ints w v xs := by
  have h' := h
  rcases h.2 with ⟨rfl, h0⟩ | ⟨g, cap, cur, rfl, hB, hg, h1, h2, h3, h4⟩
  · have : xs = [] := List.eq_nil_of_length_eq_zero h0
    subst this
    exact ⟨none, 0, rfl, Nat.le_refl _, Nat.zero_le _, fun i hi => absurd hi (Nat.not_lt_zero _)⟩
  · refine ⟨_, cap, rfl, h1, h2, fun i hi => ⟨g, 0, rfl, ?_, hw _ (by simp [List.getD, hi])⟩⟩
    have hx : (i64s xs)[i]? = some (.int .i64 (xs.getD i 0)) := by simp [i64s, List.getD, hi]
    have := h'.cells (g := g) rfl i _ hx
    rw [show (⟨g, 0, none⟩ : Addr).add i = ⟨g, i, none⟩ by unfold Addr.add; split <;> simp_all] at this
    rw [Nat.mul_one]
    simpa using this
theorem OwI.nil (w : World) (B : Nat) : OwI w B (.slice none 0 0) [] := ⟨by simp [i64s], .inl ⟨rfl, rfl⟩⟩
theorem OwI.form {w : World} {B : Nat} {v : Value} {xs : List Int} (h : OwI w B v xs) : ∃ a cap, v = .slice a xs.length cap ∧ xs.length ≤ cap ∧ cap ≤ maxLen := by
  rcases h.2 with ⟨rfl, h0⟩ | ⟨g, cap, cur, rfl, _, _, h1, h2, _⟩
  · exact ⟨_, 0, by rw [h0], by omega, Nat.zero_le _⟩
  · exact ⟨_, cap, rfl, h1, h2⟩
theorem own_blk {w : World} {B : Nat} {v : Value} {xs : List Int} (h : OwI w B v xs) : ∀ j, v.ownBlock = some j → B ≤ j := by
  intro j hj
  rcases h.2 with ⟨rfl, _⟩ | ⟨g, cap, cur, rfl, hB, _⟩
  · simp [Value.ownBlock] at hj
  · simp [Value.ownBlock] at hj
    subst hj
    exact hB
theorem oneI (x : Int) : ∀ u ∈ [Value.int .i64 x], u.oneCell' = true := by simp [Value.oneCell']
theorem own_lo {w : World} {B B' : Nat} {v : Value} {xs : List Int} (h : OwI w B v xs) (hB : B' ≤ B) : OwI w B' v xs := by
  refine ⟨h.1, ?_⟩
  rcases h.2 with h0 | ⟨g, cap, cur, e1, hb, r⟩
  · exact .inl h0
  · exact .inr ⟨g, cap, cur, e1, Nat.le_trans hB hb, r⟩
set_option maxHeartbeats 4000000 in
theorem allSectors_any (S : St) (b v u q g : Value) (w : World) (hS : Sta w b v u q g S) (hn : (secs S).length ≤ 100000) :
    Calls Try.prog 75 #[stV S b v u q g] w fun e w' => ∃ o, e = .returned o ∧ OwI w' w.heap.size o (secs S) ∧ Below w.heap.size w w' := by
  obtain ⟨va, vc, rfl, hv1, hv2⟩ := hS.ves.form
  obtain ⟨ua, uc, rfl, hu1, hu2⟩ := hS.ups.form
  unfold maxLen at hv2 hu2
  have HS := hide hS
  clear hS
  obtain ⟨i0, hi, hz0, hz1, hz2⟩ := info_parts infoI
  obtain ⟨W, hW⟩ : ∃ W, w.alloc (.cells #[.int .i64 S.next, .int .i64 S.clock, b, .slice va S.ves.length vc, .slice ua S.ups.length uc, q, g] 59) = W := ⟨_, rfl⟩
  have HX : Hid (BoxS W w.heap.size S b (.slice va S.ves.length vc) (.slice ua S.ups.length uc) q g) := by rw [← hW]; exact BoxS.new _ _ _ _ _ _ _ _
  have HW0 : Hid (Below w.heap.size w W) := by rw [← hW]; exact bl1 _ _
  have hWs : w.heap.size ≤ W.heap.size := (unhide HW0).size
  have hBx : w.heap.size < W.heap.size := (unhide HX).lt
  have HN : Hid (∀ i k, i < S.ves.length → k < (S.ves.getD i ve0).sec.length → ((S.ves.take i).flatMap (fun x : Ve => x.sec) ++ (S.ves.getD i ve0).sec.take k).length < 100000) := fun i k hi hk => by
    have h1 := ((flat_pre (fun x : Ve => x.sec) S.ves ve0 hi).trans (List.prefix_append _ (S.ups.flatMap (fun x : Up => x.parts.flatMap (·.sec))))).length_le
    have h2 : (secs S).length ≤ 100000 := hn
    unfold secs at h2
    simp only [List.length_append, List.length_take] at h1 h2 ⊢
    omega
  have HN2 : Hid (∀ i j l, i < S.ups.length → j < (S.ups.getD i up0).parts.length → l < ((S.ups.getD i up0).parts.getD j pa0).sec.length → (S.ves.flatMap (fun x : Ve => x.sec) ++ (S.ups.take i).flatMap (fun x : Up => x.parts.flatMap (fun y : Pa => y.sec)) ++ ((S.ups.getD i up0).parts.take j).flatMap (fun y : Pa => y.sec) ++ ((S.ups.getD i up0).parts.getD j pa0).sec.take l).length < 100000) := fun i j l hi hj hl => by
    have h1 := (flat_pre (fun x : Up => x.parts.flatMap (fun y : Pa => y.sec)) S.ups up0 hi).length_le
    have h3 := (flat_pre (fun y : Pa => y.sec) (S.ups.getD i up0).parts pa0 hj).length_le
    have h2 : (secs S).length ≤ 100000 := hn
    unfold secs at h2
    simp only [List.length_append, List.length_take] at h1 h2 h3 ⊢
    omega
  go_enter Try.func75, Try.ntmps75
  go_wp2
  (try (rw [hW]))
  clear hW
  go_loopw [3, 4, 5] (fun o i _ wr => ∃ k : Nat, k ≤ S.ves.length ∧ i = .int .i64 k ∧ Below W.heap.size W wr ∧ OwI wr W.heap.size o ((S.ves.take k).flatMap (fun x : Ve => x.sec))) (fun _ i _ _ => S.ves.length - (intOf i).toNat)
  case atStart => exact ⟨0, Nat.zero_le _, rfl, Below.refl _ _, OwI.nil _ _⟩
  case round =>
    obtain ⟨i, hi1, rfl, hb, hO⟩ := hrel
    have x3 := ((unhide HX).up hb).c3
    by_cases hlt : i < S.ves.length
    · obtain ⟨b', o', hva, r⟩ := Lst.at ((unhide HS).up (unhide HW0)).ves (i := i) hlt
      subst hva
      obtain ⟨y, hy0, hyi0⟩ := r.c8
      obtain ⟨X, hX⟩ : ∃ X, S.ves.getD i ve0 = X := ⟨_, rfl⟩
      rw [hX] at hyi0
      obtain ⟨ya, yc, rfl, y1, y2⟩ := hyi0.form
      unfold maxLen at y2
      have HXX := hide hX
      have HY0 := hide hy0
      have HYI := hide hyi0
      have hy := scell_up hb hy0
      clear r hX hyi0 hy0
      have HBO := hide hb
      have HOO := hide hO
      clear hO
      go_wp2
      clear hy x3
      go_loopw [3, 5] (fun o k wq => ∃ j : Nat, j ≤ X.sec.length ∧ k = .int .i64 j ∧ Below W.heap.size W wq ∧ OwI wq W.heap.size o ((S.ves.take i).flatMap (fun x : Ve => x.sec) ++ X.sec.take j)) (fun _ k _ => X.sec.length - (intOf k).toNat)
      case atStart => exact ⟨0, Nat.zero_le _, rfl, hb, by simpa using unhide HOO⟩
      case round =>
        clear hb
        obtain ⟨j, hj, rfl, hbq, hOq⟩ := hrel
        have x3 := ((unhide HX).up hbq).c3
        have hy := scell_up hbq (unhide HY0)
        by_cases hjl : j < X.sec.length
        · obtain ⟨b3, o3, hya, r3⟩ := Lst.at (Ints.up hbq (unhide HYI)) hjl
          subst hya
          have c0 := r3.1
          rw [Nat.mul_one] at c0
          have HNN := hide (unhide HN i j hlt (by rw [unhide HXX]; exact hjl))
          rw [unhide HXX] at HNN
          obtain ⟨Z, hZ⟩ : ∃ Z, X.sec.getD j 0 = Z := ⟨_, rfl⟩
          rw [hZ] at c0
          have HZ : Hid ((S.ves.take i).flatMap (fun x : Ve => x.sec) ++ X.sec.take (j + 1) = ((S.ves.take i).flatMap (fun x : Ve => x.sec) ++ X.sec.take j) ++ [Z]) := by
            show _ = _
            rw [take_next X.sec 0 hjl, hZ, List.append_assoc]
          obtain ⟨L, hL⟩ : ∃ L, (S.ves.take i).flatMap (fun x : Ve => x.sec) ++ X.sec.take j = L := ⟨_, rfl⟩
          rw [hL] at hOq HNN HZ
          have hLn : L.length < 100000 := unhide HNN
          have HOQ := hide hOq
          have hWq := hbq.size
          clear r3 hZ hL hOq HNN
          go_wp2_with (first
            | (at_builtin; refine wpList_append_own _ rfl _ _ 22 rfl W.heap.size 3 i0 (.int .i64 0) 1 8 Try.underlying22 hi hz0 hz1 hz2 rfl (by decide) _ _ _ rfl ((unhide HOQ).alloc _) ⟨wr.heap.size, 0, none⟩ 1 1 [.int .i64 Z] rfl rfl (cell_one_new _ _ _) (oneI Z) (by unfold maxLen; omega) (by omega) (by simp; omega) ?_; intro v' w1 hown' hgrow hnil)
            | go_in)
          have hb1 := (bl_alloc hbq _).grown hgrow (bl_alloc hbq _).size (fun j hj => own_blk (unhide HOQ) j hj)
          rw [i64s_snoc] at hown'
          clear hgrow hnil
          exact ⟨⟨j + 1, by omega, by go_num, hb1, by rw [unhide HZ]; unfold OwI; rw [List.length_append]; exact hown'⟩, by simp [intOf]; omega⟩
        · have HE : Hid ((S.ves.take (i + 1)).flatMap (fun x : Ve => x.sec) = (S.ves.take i).flatMap (fun x : Ve => x.sec) ++ X.sec.take j) := by
            show _ = _
            have ht : X.sec.take j = X.sec := List.take_of_length_le (by omega)
            rw [flat_next _ _ ve0 hlt, unhide HXX, ht]
          have HOQ := hide hOq
          clear hOq
          go_wp2
          go_roundw
          case rel => exact ⟨i + 1, by omega, by go_num, hbq, by rw [unhide HE]; exact unhide HOQ⟩
          case measure => simp [intOf]; omega
    · have HO2 : Hid (OwI wr W.heap.size u3 (S.ves.flatMap (fun x : Ve => x.sec))) := by
        have := hO
        rwa [List.take_of_length_le (by omega)] at this
      have hbo := hb
      clear hO
      go_wp2
      clear x3
      go_loopw [3, 6, 7, 8] (fun o i _ _ wr => ∃ k : Nat, k ≤ S.ups.length ∧ i = .int .i64 k ∧ Below W.heap.size W wr ∧ OwI wr W.heap.size o (S.ves.flatMap (fun x : Ve => x.sec) ++ (S.ups.take k).flatMap (fun x : Up => x.parts.flatMap (fun y : Pa => y.sec)))) (fun _ i _ _ _ => S.ups.length - (intOf i).toNat)
      case atStart => exact ⟨0, Nat.zero_le _, rfl, hbo, by simpa using unhide HO2⟩
      case round =>
        clear hb hbo HO2
        obtain ⟨i, hi1, rfl, hb, hO⟩ := hrel
        have x4 := ((unhide HX).up hb).c4
        by_cases hlt : i < S.ups.length
        · obtain ⟨b', o', hva, r⟩ := Lst.at ((unhide HS).up (unhide HW0)).ups (i := i) hlt
          subst hva
          obtain ⟨y, hy0, hyi0⟩ := r.c3
          obtain ⟨X, hX⟩ : ∃ X, S.ups.getD i up0 = X := ⟨_, rfl⟩
          rw [hX] at hyi0
          obtain ⟨ya, yc, rfl, y1, y2⟩ := hyi0.form
          unfold maxLen at y2
          have HXX := hide hX
          have HY0 := hide hy0
          have HYI := hide hyi0
          have hy := scell_up hb hy0
          clear r hX hyi0 hy0
          have HOO := hide hO
          clear hO
          go_wp2
          clear hy x4
          go_loopw [3, 7, 8] (fun o k _ wq => ∃ j : Nat, j ≤ X.parts.length ∧ k = .int .i64 j ∧ Below W.heap.size W wq ∧ OwI wq W.heap.size o (S.ves.flatMap (fun x : Ve => x.sec) ++ (S.ups.take i).flatMap (fun x : Up => x.parts.flatMap (fun y : Pa => y.sec)) ++ (X.parts.take j).flatMap (fun y : Pa => y.sec))) (fun _ k _ _ => X.parts.length - (intOf k).toNat)
          case atStart => exact ⟨0, Nat.zero_le _, rfl, hb, by simpa using unhide HOO⟩
          case round =>
            clear hb
            obtain ⟨j, hj, rfl, hbq, hOq⟩ := hrel
            have x4 := ((unhide HX).up hbq).c4
            have hy := scell_up hbq (unhide HY0)
            by_cases hjl : j < X.parts.length
            · obtain ⟨b3, o3, hya, r3⟩ := Lst.at (unhide HYI) hjl
              subst hya
              obtain ⟨p, hp0, hpi0⟩ := r3.c2
              obtain ⟨P, hP⟩ : ∃ P, X.parts.getD j pa0 = P := ⟨_, rfl⟩
              rw [hP] at hpi0
              obtain ⟨pa, pc, rfl, p1, p2⟩ := hpi0.form
              unfold maxLen at p2
              have HPP := hide hP
              have HP0 := hide hp0
              have HPI := hide hpi0
              have hp := scell_up hbq hp0
              clear r3 hP hpi0 hp0
              have HOO2 := hide hOq
              clear hOq
              go_wp2
              clear hy x4 hp
              go_loopw [3, 8] (fun o k wq => ∃ l : Nat, l ≤ P.sec.length ∧ k = .int .i64 l ∧ Below W.heap.size W wq ∧ OwI wq W.heap.size o (S.ves.flatMap (fun x : Ve => x.sec) ++ (S.ups.take i).flatMap (fun x : Up => x.parts.flatMap (fun y : Pa => y.sec)) ++ (X.parts.take j).flatMap (fun y : Pa => y.sec) ++ P.sec.take l)) (fun _ k _ => P.sec.length - (intOf k).toNat)
              case atStart => exact ⟨0, Nat.zero_le _, rfl, hbq, by simpa using unhide HOO2⟩
              case round =>
                clear hbq
                obtain ⟨l, hl, rfl, hbq, hOq⟩ := hrel
                have x4 := ((unhide HX).up hbq).c4
                have hy := scell_up hbq (unhide HY0)
                have hp := scell_up hbq (unhide HP0)
                by_cases hll : l < P.sec.length
                · obtain ⟨b4, o4, hpa, r4⟩ := Lst.at (Ints.up hbq (unhide HPI)) hll
                  subst hpa
                  have c0 := r4.1
                  rw [Nat.mul_one] at c0
                  have HNN := hide (unhide HN2 i j l hlt (by rw [unhide HXX]; exact hjl) (by rw [unhide HXX, unhide HPP]; exact hll))
                  rw [unhide HXX, unhide HPP] at HNN
                  obtain ⟨Z, hZ⟩ : ∃ Z, P.sec.getD l 0 = Z := ⟨_, rfl⟩
                  rw [hZ] at c0
                  obtain ⟨A, hA⟩ : ∃ A, S.ves.flatMap (fun x : Ve => x.sec) ++ (S.ups.take i).flatMap (fun x : Up => x.parts.flatMap (fun y : Pa => y.sec)) ++ (X.parts.take j).flatMap (fun y : Pa => y.sec) = A := ⟨_, rfl⟩
                  rw [hA] at hOq HNN
                  have HZ : Hid (A ++ P.sec.take (l + 1) = (A ++ P.sec.take l) ++ [Z]) := by
                    show _ = _
                    rw [take_next P.sec 0 hll, hZ, List.append_assoc]
                  have HAA := hide hA
                  obtain ⟨L, hL⟩ : ∃ L, A ++ P.sec.take l = L := ⟨_, rfl⟩
                  rw [hL] at hOq HNN HZ
                  have hLn : L.length < 100000 := unhide HNN
                  have HOQ := hide hOq
                  have hWq := hbq.size
                  clear r4 hZ hL hOq HNN hA
                  go_wp2_with (first
                    | (at_builtin; refine wpList_append_own _ rfl _ _ 22 rfl W.heap.size 3 i0 (.int .i64 0) 1 8 Try.underlying22 hi hz0 hz1 hz2 rfl (by decide) _ _ _ rfl ((unhide HOQ).alloc _) ⟨wr.heap.size, 0, none⟩ 1 1 [.int .i64 Z] rfl rfl (cell_one_new _ _ _) (oneI Z) (by unfold maxLen; omega) (by omega) (by simp; omega) ?_; intro v' w1 hown' hgrow hnil)
                    | go_in)
                  have hb1 := (bl_alloc hbq _).grown hgrow (bl_alloc hbq _).size (fun j hj => own_blk (unhide HOQ) j hj)
                  rw [i64s_snoc] at hown'
                  clear hgrow hnil
                  exact ⟨⟨l + 1, by omega, by go_num, hb1, by rw [unhide HAA, unhide HZ]; unfold OwI; rw [List.length_append]; exact hown'⟩, by simp [intOf]; omega⟩
                · have HE : Hid ((X.parts.take (j + 1)).flatMap (fun y : Pa => y.sec) = (X.parts.take j).flatMap (fun y : Pa => y.sec) ++ P.sec.take l) := by
                    show _ = _
                    have ht : P.sec.take l = P.sec := List.take_of_length_le (by omega)
                    rw [flat_next _ _ pa0 hjl, unhide HPP, ht]
                  have HOQ := hide hOq
                  clear hOq
                  go_wp2
                  go_roundw
                  case rel => exact ⟨j + 1, by omega, by go_num, hbq, by rw [unhide HE, ← List.append_assoc]; exact unhide HOQ⟩
                  case measure => simp [intOf]; omega
            · have HE : Hid ((S.ups.take (i + 1)).flatMap (fun x : Up => x.parts.flatMap (fun y : Pa => y.sec)) = (S.ups.take i).flatMap (fun x : Up => x.parts.flatMap (fun y : Pa => y.sec)) ++ (X.parts.take j).flatMap (fun y : Pa => y.sec)) := by
                show _ = _
                have ht : X.parts.take j = X.parts := List.take_of_length_le (by omega)
                rw [flat_next _ _ up0 hlt, unhide HXX, ht]
              have HOQ := hide hOq
              clear hOq
              go_wp2
              go_roundw
              case rel => exact ⟨i + 1, by omega, by go_num, hbq, by rw [unhide HE, ← List.append_assoc]; exact unhide HOQ⟩
              case measure => simp [intOf]; omega
        · have HF : Hid (OwI wr W.heap.size u3 (secs S)) := by
            have := hO
            rw [List.take_of_length_le (by omega)] at this
            exact this
          clear hO
          go_wp2
          go_ret
          exact ⟨_, rfl, own_lo (unhide HF) hWs, bl_trans (unhide HW0) hb⟩
end Go.Proofs.Ytdalkkjojflakaa
