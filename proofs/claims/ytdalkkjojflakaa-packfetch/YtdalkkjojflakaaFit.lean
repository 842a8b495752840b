import Derived.Test.YtdalkkjojflakaaNewOf
namespace Go.Proofs.Ytdalkkjojflakaa
open Go.RowKit
set_option linter.unusedVariables false
set_option linter.unusedSimpArgs false

theorem infoWr : (Try.prog.info? 94).map (fun i => (i.zero, i.size, i.bytes)) = some (some (.agg #[.int .i64 0, .slice none 0 0]), 2, 32) := by kernel_rfl
theorem infoVo : (Try.prog.info? 79).map (fun i => (i.zero, i.size, i.bytes)) = some (some (.agg #[.slice none 0 0, .int .i64 0, .bool false]), 3, 40) := by kernel_rfl

/-- Nothing is too long. -/
structure Fits (D : Dv) : Prop where
  safe : D.safe.length * 24 ≤ 140737488355328
  cache : D.cache.length * 32 ≤ 140737488355328
  vols : D.vols.length * 40 ≤ 140737488355328
  sec : ∀ i, i < D.safe.length → (D.safe.getD i []).length ≤ 140737488355328
  wri : ∀ i, i < D.cache.length → (D.cache.getD i ⟨0, []⟩).data.length ≤ 140737488355328
  vol : ∀ i, i < D.vols.length → (D.vols.getD i ⟨[], 0, false⟩).data.length ≤ 140737488355328

end Go.Proofs.Ytdalkkjojflakaa
