import Derived.Test.YtnpjknnalekdpaaJy
import Derived.Test.YtnpjknnalekdpaaHx
import Derived.Test.YtnpjknnalekdpaaGn
namespace Go.Proofs.Ytnpjknnalekdpaa
set_option linter.unusedSimpArgs false
set_option linter.unusedVariables false
open Go.RowKit
theorem valList {ops : Array Oper} {rest : List Oper} {o : Oper} {a : Act} {w : World} {Q : Exit → Act → World → Prop} (hw : Region.wanted o (yielded ops a.tmps) = true) (v : Value) (hr : (execOp a.eval o).run Try.prog w = .ok (.value v) w) (h : wpList Try.prog ops Q rest (a.put o.dst v) w) : wpList Try.prog ops Q (o :: rest) a w := by
  unfold wpList
  rw [if_pos hw]
  exact Or.inl (by unfold Oper.wp; rw [hr]; exact h)
theorem eq65_self (m : Msg) (hm : m.Ok) (w : World) : (Op.equalIn 10000 37 (.agg (mC m).toArray) (.agg (mC m).toArray)).run Try.prog w = .ok true w := by
  have q := eq65_any 9996 m m hm hm w
  rw [(eqM_iff m m).2 rfl] at q
  exact q
end Go.Proofs.Ytnpjknnalekdpaa
