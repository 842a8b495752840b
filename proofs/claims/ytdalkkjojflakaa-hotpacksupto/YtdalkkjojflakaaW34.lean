/- The law of packing: the walk. -/
import Derived.Test.YtdalkkjojflakaaApr
import Derived.Test.YtdalkkjojflakaaPko
namespace Go.Proofs.Ytdalkkjojflakaa
open Go.RowKit
set_option linter.unusedVariables false
set_option linter.unusedSimpArgs false
set_option maxHeartbeats 2000000 in
set_option maxRecDepth 100000 in
theorem hotPacks_walk (p : Int) (iv : Value) (ids : List Int) (bv : Value) (bs : List (List Int)) (w : World) (hI : Nts w iv ids) (hIL : ids.length * 8 ≤ 140737488355328) (hB : RowsAt w bv bs) (hn : bs.length ≤ 100000000) :
    Calls Try.prog 3 #[.int .i64 p, iv, bv] w fun e w' => e = .returned (.bool true) ∧ Below w.heap.size w w' := by
  have HI := hide hI
  have HB := hide hB
  clear hI
  obtain ⟨ba, bc, rfl, _⟩ := hB
  obtain ⟨E, hE⟩ : ∃ E, pkE p ids bs = E := ⟨_, rfl⟩
  have HE := hide hE
  clear hE
  go_enter Try.func3, Try.ntmps3
  go_wp2_with fail
  refine (intsLaw_any _ ids _ (unhide HI) hIL).mono ?_
  rintro e w1 ⟨u1, rfl, h1, b1⟩
  have H1 := hide h1.nts
  clear h1
  go_wp2_with (at_builtin; refine wpList_app_rows w1 rfl (.const (.slice none 0 0)) (.tmp 17) rfl (.slice ba bs.length bc) bs rfl rfl ((unhide HB).up b1) (by omega) ?_)
  intro a2 c2 w2 h2 b2
  have H2 := hide h2
  clear h2
  go_wp2_with fail
  refine (pack_any p _ _ ids bs _ ((unhide H1).up b2) (unhide H2) hn).mono ?_
  rintro e w3 ⟨u3, q3, rfl, h3, h3', b3⟩
  rw [unhide HE] at h3 h3' ⊢
  have hb3 := bl_trans (bl_trans b1 b2) b3
  have H3 := hide h3.bts
  have H3' := hide h3'
  clear h3 h3'
  go_wp2_with fail
  refine (packedOf_any p _ _ ids bs _ ((unhide HI).up hb3) ((unhide HB).up hb3) hn).mono ?_
  rintro e w4 ⟨u4, q4, rfl, h4, h4', b4⟩
  rw [unhide HE] at h4 h4' ⊢
  have s1 := ((unhide H3).up b4).str
  have s2 := h4.bts.str
  obtain ⟨S, hS⟩ : ∃ S, strOfNums (okL E (pkO ids bs ids.length)) = S := ⟨_, rfl⟩
  rw [hS] at s1 s2
  have H4' := hide h4'
  clear h4 h4' hS
  go_wp2_with (go_at_call 12; refine (samePieces_any _ _ _ _ _ _ (own_up (unhide H3') b4) (unhide H4')).mono ?_; rintro e w5 ⟨rfl, b5⟩)
  go_ret
  exact ⟨ret_bool (by simp), bl_trans (bl_trans hb3 b4) b5⟩
end Go.Proofs.Ytdalkkjojflakaa
