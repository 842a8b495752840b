/- Bytes as a text. -/
import Derived.Test.YtdalkkjojflakaaBase2
import Derived.Laws.BytesArg
namespace Go.Proofs.Ytdalkkjojflakaa
open Go.RowKit
set_option linter.unusedVariables false
set_option linter.unusedSimpArgs false
theorem Bts.str {w : World} {v : Value} {xs : List Int} (h : Bts w v xs) : (convert 24 9 v).run Try.prog w = .ok (.string (strOfNums xs)) w := by
  obtain ⟨a, cap, rfl, l1, m1, hc⟩ := h
  cases xs with
  | nil =>
    rw [run_convert_bytes_string w 24 9 5 _ _ cap Try.underlying24 Try.underlying5 Try.underlying9]
    cases a with
    | none => simp [Conv.bytesToString]; rfl
    | some a => rw [run_bytesToString w a _ cap [] (by simp [loadCells]; rfl)]; rfl
  | cons x xs =>
    obtain ⟨b, o, rfl, _⟩ := hc 0 (by simp)
    refine run_convert_bytes_arg w 24 5 Try.underlying24 Try.underlying5 b o _ cap _ rfl (fun i hi => ?_) 9 Try.underlying9
    obtain ⟨b', o', e, hcell⟩ := hc i hi
    simp at e
    obtain ⟨rfl, rfl⟩ := e
    exact hcell
end Go.Proofs.Ytdalkkjojflakaa
