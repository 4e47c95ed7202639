import Derived.Test.YtnpjknnalekdpaaGy
namespace Go.Proofs.Ytnpjknnalekdpaa
set_option linter.unusedSimpArgs false
set_option linter.unusedVariables false
open Go.RowKit
/-- == of two structs, where the comparison's run is known. -/
theorem run_eql (T : TypeId) (hT : Try.prog.eqGuardType Try.prog.depth T = false) (a : Act) (o : Oper) (x y : Operand) (t : TypeId) (ho : o.op = .binOp .eql T x y t) (A B : Array Value) (hx : a.eval x = .agg A) (hy : a.eval y = .agg B) (q : Bool) (w : World) (h : (Op.equalIn 10000 T (.agg A) (.agg B)).run Try.prog w = .ok q w) : (execOp a.eval o).run Try.prog w = .ok (.value (.bool q)) w := by
  unfold execOp
  simp only [ho, hx, hy, Sem.run_bind, run_eqGuard_agg w _ _ _ _ _ _ hT, Result.andThen_ok, binOp, Op.equal, Op.maxDepth, h, Sem.run_pure]
theorem run_neq (T : TypeId) (hT : Try.prog.eqGuardType Try.prog.depth T = false) (a : Act) (o : Oper) (x y : Operand) (t : TypeId) (ho : o.op = .binOp .neq T x y t) (A B : Array Value) (hx : a.eval x = .agg A) (hy : a.eval y = .agg B) (q : Bool) (w : World) (h : (Op.equalIn 10000 T (.agg A) (.agg B)).run Try.prog w = .ok q w) : (execOp a.eval o).run Try.prog w = .ok (.value (.bool (!q))) w := by
  unfold execOp
  simp only [ho, hx, hy, Sem.run_bind, run_eqGuard_agg w _ _ _ _ _ _ hT, Result.andThen_ok, binOp, Op.equal, Op.maxDepth, h, Sem.run_pure]
set_option maxRecDepth 100000 in
theorem guard68 : Try.prog.eqGuardType Try.prog.depth 32 = false := by kernel_rfl
set_option maxRecDepth 100000 in
theorem guard65 : Try.prog.eqGuardType Try.prog.depth 37 = false := by kernel_rfl
end Go.Proofs.Ytnpjknnalekdpaa
