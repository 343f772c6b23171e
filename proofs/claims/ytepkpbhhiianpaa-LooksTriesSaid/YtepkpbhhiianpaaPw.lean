/- A pair of worlds: the program's and the chapter's. -/
import Derived.Test.YtepkpbhhiianpaaWd3
import Derived.Test.YtepkpbhhiianpaaCp
import Derived.Test.YtepkpbhhiianpaaRa
import Derived.Test.YtepkpbhhiianpaaGNr
import Derived.Test.YtepkpbhhiianpaaPq
namespace Go.Proofs.Ytepkpbhhiianpaa
open Go.RowKit Go.Maps
set_option linter.unusedVariables false

/-- What is read of the cells of both boxes. -/
theorem box_tk {w : World} {A : Ad} {c : Cfg} {tk : Nat → Int} {h : Int} (b : IsBox w A c tk h) : w.rangeAt A.p 8 (tkCells tk) := fun j v hv => by
  obtain ⟨hj, rfl⟩ := tk_at hv
  exact b.ct j hj
theorem arr64 : Try.prog.underlying 34 = some (.array 64 22) := by kernel_rfl
theorem arr64_size : (Try.prog.info? 34).map (·.size) = some 64 := by kernel_rfl
theorem arr64_one : Try.prog.cellsOf 22 = 1 := by kernel_rfl
theorem arr64_u : Try.prog.underlying 22 = some (.int .u64) := by kernel_rfl
theorem box_load {w : World} {A : Ad} {c : Cfg} {tk : Nat → Int} {h : Int} (b : IsBox w A c tk h) : (Instr.loadAt 34 (.pointer (some ⟨A.p, 8, none⟩))).run Try.prog w = .ok (.agg (tkCells tk).toArray) w :=
  run_loadAt_mid w A.p 8 34 (tkCells tk) _ (box_tk b) arr64 rfl (by rw [tk_len]; exact arr64_size)
theorem tk_eql (tk : Nat → Int) (w : World) : (binOp .eql 34 (.agg (tkCells tk).toArray) (.agg (tkCells tk).toArray)).run Try.prog w = .ok (.bool true) w :=
  eql_self arr64 arr64_u arr64_one _ (tk_some tk) w
section
variable {w : World} {A R : Ad} {V : Wv} {S T : Nat → Prop}
end
end Go.Proofs.Ytepkpbhhiianpaa
