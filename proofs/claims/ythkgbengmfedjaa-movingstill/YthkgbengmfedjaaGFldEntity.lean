/- Entity by value: its fields. -/
import Derived.Test.YthkgbengmfedjaaGTypEntity
namespace Go.Proofs.Ythkgbengmfedjaa.Fx
open Go.ChangeShapes Go.WideShapes Go.ChangeAt Go.RowKit
set_option linter.unusedVariables false

@[go_sem] theorem fld_Ent_0 (v0 v1 v2 v3 v4 v5 v6 v7 v8 : Value) (w : World) : (Instr.field 26 (.agg #[v0, v1, v2, v3, v4, v5, v6, v7, v8]) 0).run Try.prog w = .ok v0 w := by kernel_rfl

@[go_sem] theorem fld_Ent_1 (v0 v1 v2 v3 v4 v5 v6 v7 v8 : Value) (w : World) : (Instr.field 26 (.agg #[v0, v1, v2, v3, v4, v5, v6, v7, v8]) 1).run Try.prog w = .ok v1 w := by kernel_rfl

@[go_sem] theorem fld_Ent_2 (v0 v1 v2 v3 v4 v5 v6 v7 v8 : Value) (w : World) : (Instr.field 26 (.agg #[v0, v1, v2, v3, v4, v5, v6, v7, v8]) 2).run Try.prog w = .ok v2 w := by kernel_rfl

@[go_sem] theorem fld_Ent_3 (v0 v1 v2 v3 v4 v5 v6 v7 v8 : Value) (w : World) : (Instr.field 26 (.agg #[v0, v1, v2, v3, v4, v5, v6, v7, v8]) 3).run Try.prog w = .ok v3 w := by kernel_rfl

@[go_sem] theorem fld_Ent_4 (v0 v1 v2 v3 v4 v5 v6 v7 v8 : Value) (w : World) : (Instr.field 26 (.agg #[v0, v1, v2, v3, v4, v5, v6, v7, v8]) 4).run Try.prog w = .ok v4 w := by kernel_rfl

@[go_sem] theorem fld_Ent_5 (v0 v1 v2 v3 v4 v5 v6 v7 v8 : Value) (w : World) : (Instr.field 26 (.agg #[v0, v1, v2, v3, v4, v5, v6, v7, v8]) 5).run Try.prog w = .ok v5 w := by kernel_rfl

@[go_sem] theorem fld_Ent_6 (v0 v1 v2 v3 v4 v5 v6 v7 v8 : Value) (w : World) : (Instr.field 26 (.agg #[v0, v1, v2, v3, v4, v5, v6, v7, v8]) 6).run Try.prog w = .ok v6 w := by kernel_rfl

@[go_sem] theorem fld_Ent_7 (v0 v1 v2 v3 v4 v5 v6 v7 v8 : Value) (w : World) : (Instr.field 26 (.agg #[v0, v1, v2, v3, v4, v5, v6, v7, v8]) 7).run Try.prog w = .ok v7 w := by kernel_rfl

@[go_sem] theorem fld_Ent_8 (v0 v1 v2 v3 v4 v5 v6 v7 v8 : Value) (w : World) : (Instr.field 26 (.agg #[v0, v1, v2, v3, v4, v5, v6, v7, v8]) 8).run Try.prog w = .ok v8 w := by kernel_rfl

end Go.Proofs.Ythkgbengmfedjaa.Fx
