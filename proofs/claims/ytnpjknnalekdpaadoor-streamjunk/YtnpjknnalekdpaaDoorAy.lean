import Derived.Test.YtnpjknnalekdpaaDoorAx
import Derived.Lib.SlBytesConst
import Derived.Maps.AppendAt
import Derived.Laws.AppendOwnNone
import Derived.Laws.StructEq
import Derived.Laws.BytesArg
import Derived.Laws.Concat
import Derived.ProofKit
import Derived.OpenShut
import Derived.ChangeOld
import Derived.Deep.DeepHandedRow
import Derived.Lib.LaidTab
import Derived.SizedLaws
namespace Go.Proofs.YtnpjknnalekdpaaDoor
set_option linter.unusedSimpArgs false
set_option linter.unusedVariables false
open Go.RowKit
theorem step_load_mid {P : Program} {ops : Array Oper} {op : Oper} {a : Act} {w : World} {K : Act → World → Prop} {Q : Exit → Act → World → Prop} {E : Prop} (hgd : op.guard = none) (ty : TypeId) (x : Operand) (ho : op.op = .load ty x)
    (b o : Nat) (hx : a.eval x = .pointer (some ⟨b, o, none⟩)) (cs : Array Value) (d : TypeDesc) (hc : w.rangeAt b o cs.toList)
    (hu : P.underlying ty = some d) (hd : d.isRow = true) (hi : (P.info? ty).map (·.size) = some cs.size)
    (h : K (a.put op.dst (.agg cs)) w) : if Region.wanted op (yielded ops a.tmps) = true then Oper.wp P op a w K Q else E := by
  have hw : Region.wanted op (yielded ops a.tmps) = true := by simp [Region.wanted, hgd]
  rw [if_pos hw]
  exact wp_load_mid ty x ho b o hx cs.toList d hc hu hd (by simpa using hi) (by simpa using h)
def o8x0 : Oper := ⟨some 47, Op.move (Operand.tmp 0), 31, "sha.go:81", #[], none⟩
def o8x1 : Oper := ⟨some 48, Op.move (Operand.tmp 0), 31, "sha.go:81", #[], none⟩
def o8x2 : Oper := ⟨some 49, Op.nilCheck (Operand.tmp 48), 0, "sha.go:81", #[⟨1, Ground.data⟩], none⟩
def o8x3 : Oper := ⟨some 50, Op.fieldAddr 37 (Operand.tmp 49) 0, 0, "sha.go:81", #[⟨2, Ground.data⟩], none⟩
def o8x4 : Oper := ⟨some 51, Op.load 34 (Operand.tmp 50), 34, "sha.go:81", #[⟨3, Ground.data⟩], none⟩
def o8x5 : Oper := ⟨some 52, Op.move (Operand.tmp 0), 31, "sha.go:81", #[], none⟩
def o8x6 : Oper := ⟨some 53, Op.nilCheck (Operand.tmp 52), 0, "sha.go:81", #[⟨5, Ground.data⟩], none⟩
def o8x7 : Oper := ⟨some 54, Op.fieldAddr 37 (Operand.tmp 53) 1, 0, "sha.go:81", #[⟨6, Ground.data⟩], none⟩
def o8x8 : Oper := ⟨some 55, Op.load 35 (Operand.tmp 54), 35, "sha.go:81", #[⟨7, Ground.data⟩], none⟩
def o8x9 : Oper := ⟨some 56, Op.call ⟨Callee.value (Operand.func 58), #[Operand.tmp 51, Operand.tmp 55], #[34, 35]⟩, 34, "sha.go:81", #[⟨4, Ground.data⟩, ⟨8, Ground.data⟩], none⟩
def o8x10 : Oper := ⟨some 57, Op.nilCheck (Operand.tmp 47), 0, "sha.go:81", #[⟨0, Ground.data⟩, ⟨0, Ground.phase⟩, ⟨1, Ground.phase⟩, ⟨2, Ground.phase⟩, ⟨3, Ground.phase⟩, ⟨4, Ground.phase⟩, ⟨5, Ground.phase⟩, ⟨6, Ground.phase⟩, ⟨7, Ground.phase⟩, ⟨8, Ground.phase⟩, ⟨9, Ground.phase⟩], none⟩
def o8x11 : Oper := ⟨some 58, Op.fieldAddr 37 (Operand.tmp 57) 0, 0, "sha.go:81", #[⟨10, Ground.data⟩, ⟨0, Ground.phase⟩, ⟨1, Ground.phase⟩, ⟨2, Ground.phase⟩, ⟨3, Ground.phase⟩, ⟨4, Ground.phase⟩, ⟨5, Ground.phase⟩, ⟨6, Ground.phase⟩, ⟨7, Ground.phase⟩, ⟨8, Ground.phase⟩, ⟨9, Ground.phase⟩], none⟩
def o8x12 : Oper := ⟨none, Op.store 34 (Operand.tmp 58) (Operand.tmp 56), 0, "sha.go:81", #[⟨11, Ground.data⟩, ⟨9, Ground.data⟩, ⟨9, Ground.chain⟩, ⟨0, Ground.phase⟩, ⟨1, Ground.phase⟩, ⟨2, Ground.phase⟩, ⟨3, Ground.phase⟩, ⟨4, Ground.phase⟩, ⟨5, Ground.phase⟩, ⟨6, Ground.phase⟩, ⟨7, Ground.phase⟩, ⟨8, Ground.phase⟩, ⟨9, Ground.phase⟩], none⟩
def ops8 : Array Oper := #[o8x0, o8x1, o8x2, o8x3, o8x4, o8x5, o8x6, o8x7, o8x8, o8x9, o8x10, o8x11, o8x12]
theorem there_of_row {w : World} {g : Nat} {cs : Array Value} {t : TypeId} (hg : w.heap[g]? = some (.cells cs t)) (o n : Nat) (h : o + n ≤ cs.size) : w.there g o n := fun j hj =>
  ⟨by rw [cell_of_row w g (o + j) cs t (0, 0) hg]; simp; omega, frozen_of_row _ _ _ _ _ hg⟩
theorem put_comm (a : Act) (i j : Nat) (u v : Value) (h : i ≠ j) : (a.put (some i) u).put (some j) v = (a.put (some j) v).put (some i) u := by
  simp only [Act.put]
  rw [Array.setIfInBounds_comm _ _ h]
theorem put_get (a : Act) (i j : Nat) (u : Value) (hi : i < a.tmps.size) : (a.put (some i) u).eval (.tmp j) = if i = j then u else a.eval (.tmp j) := by
  simp [Act.put, Act.eval, Array.getElem?_setIfInBounds]
  split <;> simp_all
theorem put_size (a : Act) (d : Option Nat) (u : Value) : (a.put d u).tmps.size = a.tmps.size := by cases d <;> simp [Act.put]
theorem put_same (a : Act) (i : Nat) (u : Value) (hi : i < a.tmps.size) : (a.put (some i) u).eval (.tmp i) = u := by rw [put_get _ _ _ _ hi]; simp
theorem put_diff (a : Act) (i j : Nat) (u : Value) (h : i ≠ j) : (a.put (some i) u).eval (.tmp j) = a.eval (.tmp j) := by
  simp [Act.put, Act.eval, Array.getElem?_setIfInBounds, h]
set_option maxHeartbeats 400000 in
theorem y_move (a : Act) (o : Oper) (x : Operand) (v : Value) (ho : o.op = .move x) (hg : o.guard = none) (hx : a.eval x = v) (ops : Array Oper) : Yields Tryd.prog ops o v a :=
  Or.inl ⟨by simp [Region.wanted, hg], fun w => by unfold execOp; rw [ho]; show Result.ok (Next.value (a.eval x)) w = _; rw [hx]⟩
set_option maxHeartbeats 400000 in
theorem y_nil (a : Act) (o : Oper) (x : Operand) (p : Addr) (ho : o.op = .nilCheck x) (hg : o.guard = none) (hx : a.eval x = .pointer (some p)) (ops : Array Oper) : Yields Tryd.prog ops o (.pointer (some p)) a :=
  Or.inl ⟨by simp [Region.wanted, hg], fun w => by unfold execOp; simp only [ho, hx]; go_simp⟩
theorem y_f0 (a : Act) (o : Oper) (x : Operand) (b : Nat) (ho : o.op = .fieldAddr 37 x 0) (hg : o.guard = none) (hx : a.eval x = .pointer (some ⟨b, 0, none⟩)) (ops : Array Oper) : Yields Tryd.prog ops o (.pointer (some ⟨b, 0, none⟩)) a :=
  Or.inl ⟨by simp [Region.wanted, hg], fun w => by unfold execOp; simp only [ho, hx]; go_simp⟩
theorem y_f1 (a : Act) (o : Oper) (x : Operand) (b : Nat) (ho : o.op = .fieldAddr 37 x 1) (hg : o.guard = none) (hx : a.eval x = .pointer (some ⟨b, 0, none⟩)) (ops : Array Oper) : Yields Tryd.prog ops o (.pointer (some ⟨b, 8, none⟩)) a :=
  Or.inl ⟨by simp [Region.wanted, hg], fun w => by unfold execOp; simp only [ho, hx]; go_simp⟩
set_option maxRecDepth 100000 in
set_option maxHeartbeats 400000 in
theorem region8 (Q : Exit → Act → World → Prop) (hQ : ∀ c a (t : Nat) v w, Q (.panic c) (a.put (some t) v) w → Q (.panic c) a w) (a : Act) (w4 : World) (hb : Nat) (W B : List Int) (hW : W.length = 8) (hB : B.length = 64) (n : Nat) (hh : w4.heap[hb]? = some (.cells (hObj W B n) 37))
    (hsz : a.tmps.size = 63) (h0 : a.eval (.tmp 0) = .pointer (some ⟨hb, 0, none⟩)) (hL : Laid w4)
    (hfin : ∀ w5, Below w4.heap.size w4 w5 → Q .normal ((((((((((((a.put (some 47) (.pointer (some ⟨hb, 0, none⟩))).put (some 48) (.pointer (some ⟨hb, 0, none⟩))).put (some 49) (.pointer (some ⟨hb, 0, none⟩))).put (some 50) (.pointer (some ⟨hb, 0, none⟩))).put (some 52) (.pointer (some ⟨hb, 0, none⟩))).put (some 53) (.pointer (some ⟨hb, 0, none⟩))).put (some 54) (.pointer (some ⟨hb, 8, none⟩))).put (some 51) (.agg (vW W))).put (some 55) (.agg (vB B))).put (some 56) (.agg (vW (comp W B)))).put (some 57) (.pointer (some ⟨hb, 0, none⟩))).put (some 58) (.pointer (some ⟨hb, 0, none⟩))) (w5.setCells hb 0 (vW (comp W B)).toList)) : (Code.region 8 ops8 true).wp Tryd.prog Q a w4 := by
  refine wp_region_any (by kernel_rfl) ?_
  change wpAny _ _ _ _ 13 _ _ (World.drew _)
  have s0 := hsz
  have k0x0 := h0
  generalize hq0 : a = a0 at *
  refine wpAny_take (i := 0) (oi := o8x0) (v := .pointer (some ⟨hb, 0, none⟩)) rfl (by kernel_rfl) (by kernel_rfl) (by kernel_rfl) (fun c a w h => hQ c a _ _ w h) (y_move a0 o8x0 (.tmp 0) (.pointer (some ⟨hb, 0, none⟩)) rfl rfl k0x0 ops8) ?_
  change wpAny _ _ _ _ _ _ (a0.put (some 47) (.pointer (some ⟨hb, 0, none⟩))) _
  have s1 : (a0.put (some 47) (.pointer (some ⟨hb, 0, none⟩))).tmps.size = 63 := by rw [put_size]; exact s0
  have k1x0 : (a0.put (some 47) (.pointer (some ⟨hb, 0, none⟩))).eval (.tmp 0) = .pointer (some ⟨hb, 0, none⟩) := by rw [put_diff _ _ _ _ (by decide)]; exact k0x0
  have k1x47 : (a0.put (some 47) (.pointer (some ⟨hb, 0, none⟩))).eval (.tmp 47) = .pointer (some ⟨hb, 0, none⟩) := put_same _ _ _ (by omega)
  generalize hq1 : a0.put (some 47) (.pointer (some ⟨hb, 0, none⟩)) = a1 at *
  refine wpAny_take (i := 1) (oi := o8x1) (v := .pointer (some ⟨hb, 0, none⟩)) rfl (by kernel_rfl) (by kernel_rfl) (by kernel_rfl) (fun c a w h => hQ c a _ _ w h) (y_move a1 o8x1 (.tmp 0) (.pointer (some ⟨hb, 0, none⟩)) rfl rfl k1x0 ops8) ?_
  change wpAny _ _ _ _ _ _ (a1.put (some 48) (.pointer (some ⟨hb, 0, none⟩))) _
  have s2 : (a1.put (some 48) (.pointer (some ⟨hb, 0, none⟩))).tmps.size = 63 := by rw [put_size]; exact s1
  have k2x0 : (a1.put (some 48) (.pointer (some ⟨hb, 0, none⟩))).eval (.tmp 0) = .pointer (some ⟨hb, 0, none⟩) := by rw [put_diff _ _ _ _ (by decide)]; exact k1x0
  have k2x47 : (a1.put (some 48) (.pointer (some ⟨hb, 0, none⟩))).eval (.tmp 47) = .pointer (some ⟨hb, 0, none⟩) := by rw [put_diff _ _ _ _ (by decide)]; exact k1x47
  have k2x48 : (a1.put (some 48) (.pointer (some ⟨hb, 0, none⟩))).eval (.tmp 48) = .pointer (some ⟨hb, 0, none⟩) := put_same _ _ _ (by omega)
  generalize hq2 : a1.put (some 48) (.pointer (some ⟨hb, 0, none⟩)) = a2 at *
  refine wpAny_take (i := 2) (oi := o8x2) (v := .pointer (some ⟨hb, 0, none⟩)) rfl (by kernel_rfl) (by kernel_rfl) (by kernel_rfl) (fun c a w h => hQ c a _ _ w h) (y_nil a2 o8x2 (.tmp 48) ⟨hb, 0, none⟩ rfl rfl k2x48 ops8) ?_
  change wpAny _ _ _ _ _ _ (a2.put (some 49) (.pointer (some ⟨hb, 0, none⟩))) _
  have s3 : (a2.put (some 49) (.pointer (some ⟨hb, 0, none⟩))).tmps.size = 63 := by rw [put_size]; exact s2
  have k3x0 : (a2.put (some 49) (.pointer (some ⟨hb, 0, none⟩))).eval (.tmp 0) = .pointer (some ⟨hb, 0, none⟩) := by rw [put_diff _ _ _ _ (by decide)]; exact k2x0
  have k3x47 : (a2.put (some 49) (.pointer (some ⟨hb, 0, none⟩))).eval (.tmp 47) = .pointer (some ⟨hb, 0, none⟩) := by rw [put_diff _ _ _ _ (by decide)]; exact k2x47
  have k3x48 : (a2.put (some 49) (.pointer (some ⟨hb, 0, none⟩))).eval (.tmp 48) = .pointer (some ⟨hb, 0, none⟩) := by rw [put_diff _ _ _ _ (by decide)]; exact k2x48
  have k3x49 : (a2.put (some 49) (.pointer (some ⟨hb, 0, none⟩))).eval (.tmp 49) = .pointer (some ⟨hb, 0, none⟩) := put_same _ _ _ (by omega)
  generalize hq3 : a2.put (some 49) (.pointer (some ⟨hb, 0, none⟩)) = a3 at *
  refine wpAny_take (i := 3) (oi := o8x3) (v := .pointer (some ⟨hb, 0, none⟩)) rfl (by kernel_rfl) (by kernel_rfl) (by kernel_rfl) (fun c a w h => hQ c a _ _ w h) (y_f0 a3 o8x3 (.tmp 49) hb rfl rfl k3x49 ops8) ?_
  change wpAny _ _ _ _ _ _ (a3.put (some 50) (.pointer (some ⟨hb, 0, none⟩))) _
  have s4 : (a3.put (some 50) (.pointer (some ⟨hb, 0, none⟩))).tmps.size = 63 := by rw [put_size]; exact s3
  have k4x0 : (a3.put (some 50) (.pointer (some ⟨hb, 0, none⟩))).eval (.tmp 0) = .pointer (some ⟨hb, 0, none⟩) := by rw [put_diff _ _ _ _ (by decide)]; exact k3x0
  have k4x47 : (a3.put (some 50) (.pointer (some ⟨hb, 0, none⟩))).eval (.tmp 47) = .pointer (some ⟨hb, 0, none⟩) := by rw [put_diff _ _ _ _ (by decide)]; exact k3x47
  have k4x48 : (a3.put (some 50) (.pointer (some ⟨hb, 0, none⟩))).eval (.tmp 48) = .pointer (some ⟨hb, 0, none⟩) := by rw [put_diff _ _ _ _ (by decide)]; exact k3x48
  have k4x49 : (a3.put (some 50) (.pointer (some ⟨hb, 0, none⟩))).eval (.tmp 49) = .pointer (some ⟨hb, 0, none⟩) := by rw [put_diff _ _ _ _ (by decide)]; exact k3x49
  have k4x50 : (a3.put (some 50) (.pointer (some ⟨hb, 0, none⟩))).eval (.tmp 50) = .pointer (some ⟨hb, 0, none⟩) := put_same _ _ _ (by omega)
  generalize hq4 : a3.put (some 50) (.pointer (some ⟨hb, 0, none⟩)) = a4 at *
  refine wpAny_take (i := 5) (oi := o8x5) (v := .pointer (some ⟨hb, 0, none⟩)) rfl (by kernel_rfl) (by kernel_rfl) (by kernel_rfl) (fun c a w h => hQ c a _ _ w h) (y_move a4 o8x5 (.tmp 0) (.pointer (some ⟨hb, 0, none⟩)) rfl rfl k4x0 ops8) ?_
  change wpAny _ _ _ _ _ _ (a4.put (some 52) (.pointer (some ⟨hb, 0, none⟩))) _
  have s5 : (a4.put (some 52) (.pointer (some ⟨hb, 0, none⟩))).tmps.size = 63 := by rw [put_size]; exact s4
  have k5x0 : (a4.put (some 52) (.pointer (some ⟨hb, 0, none⟩))).eval (.tmp 0) = .pointer (some ⟨hb, 0, none⟩) := by rw [put_diff _ _ _ _ (by decide)]; exact k4x0
  have k5x47 : (a4.put (some 52) (.pointer (some ⟨hb, 0, none⟩))).eval (.tmp 47) = .pointer (some ⟨hb, 0, none⟩) := by rw [put_diff _ _ _ _ (by decide)]; exact k4x47
  have k5x48 : (a4.put (some 52) (.pointer (some ⟨hb, 0, none⟩))).eval (.tmp 48) = .pointer (some ⟨hb, 0, none⟩) := by rw [put_diff _ _ _ _ (by decide)]; exact k4x48
  have k5x49 : (a4.put (some 52) (.pointer (some ⟨hb, 0, none⟩))).eval (.tmp 49) = .pointer (some ⟨hb, 0, none⟩) := by rw [put_diff _ _ _ _ (by decide)]; exact k4x49
  have k5x50 : (a4.put (some 52) (.pointer (some ⟨hb, 0, none⟩))).eval (.tmp 50) = .pointer (some ⟨hb, 0, none⟩) := by rw [put_diff _ _ _ _ (by decide)]; exact k4x50
  have k5x52 : (a4.put (some 52) (.pointer (some ⟨hb, 0, none⟩))).eval (.tmp 52) = .pointer (some ⟨hb, 0, none⟩) := put_same _ _ _ (by omega)
  generalize hq5 : a4.put (some 52) (.pointer (some ⟨hb, 0, none⟩)) = a5 at *
  refine wpAny_take (i := 6) (oi := o8x6) (v := .pointer (some ⟨hb, 0, none⟩)) rfl (by kernel_rfl) (by kernel_rfl) (by kernel_rfl) (fun c a w h => hQ c a _ _ w h) (y_nil a5 o8x6 (.tmp 52) ⟨hb, 0, none⟩ rfl rfl k5x52 ops8) ?_
  change wpAny _ _ _ _ _ _ (a5.put (some 53) (.pointer (some ⟨hb, 0, none⟩))) _
  have s6 : (a5.put (some 53) (.pointer (some ⟨hb, 0, none⟩))).tmps.size = 63 := by rw [put_size]; exact s5
  have k6x0 : (a5.put (some 53) (.pointer (some ⟨hb, 0, none⟩))).eval (.tmp 0) = .pointer (some ⟨hb, 0, none⟩) := by rw [put_diff _ _ _ _ (by decide)]; exact k5x0
  have k6x47 : (a5.put (some 53) (.pointer (some ⟨hb, 0, none⟩))).eval (.tmp 47) = .pointer (some ⟨hb, 0, none⟩) := by rw [put_diff _ _ _ _ (by decide)]; exact k5x47
  have k6x48 : (a5.put (some 53) (.pointer (some ⟨hb, 0, none⟩))).eval (.tmp 48) = .pointer (some ⟨hb, 0, none⟩) := by rw [put_diff _ _ _ _ (by decide)]; exact k5x48
  have k6x49 : (a5.put (some 53) (.pointer (some ⟨hb, 0, none⟩))).eval (.tmp 49) = .pointer (some ⟨hb, 0, none⟩) := by rw [put_diff _ _ _ _ (by decide)]; exact k5x49
  have k6x50 : (a5.put (some 53) (.pointer (some ⟨hb, 0, none⟩))).eval (.tmp 50) = .pointer (some ⟨hb, 0, none⟩) := by rw [put_diff _ _ _ _ (by decide)]; exact k5x50
  have k6x52 : (a5.put (some 53) (.pointer (some ⟨hb, 0, none⟩))).eval (.tmp 52) = .pointer (some ⟨hb, 0, none⟩) := by rw [put_diff _ _ _ _ (by decide)]; exact k5x52
  have k6x53 : (a5.put (some 53) (.pointer (some ⟨hb, 0, none⟩))).eval (.tmp 53) = .pointer (some ⟨hb, 0, none⟩) := put_same _ _ _ (by omega)
  generalize hq6 : a5.put (some 53) (.pointer (some ⟨hb, 0, none⟩)) = a6 at *
  refine wpAny_take (i := 7) (oi := o8x7) (v := .pointer (some ⟨hb, 8, none⟩)) rfl (by kernel_rfl) (by kernel_rfl) (by kernel_rfl) (fun c a w h => hQ c a _ _ w h) (y_f1 a6 o8x7 (.tmp 53) hb rfl rfl k6x53 ops8) ?_
  change wpAny _ _ _ _ _ _ (a6.put (some 54) (.pointer (some ⟨hb, 8, none⟩))) _
  have s7 : (a6.put (some 54) (.pointer (some ⟨hb, 8, none⟩))).tmps.size = 63 := by rw [put_size]; exact s6
  have k7x0 : (a6.put (some 54) (.pointer (some ⟨hb, 8, none⟩))).eval (.tmp 0) = .pointer (some ⟨hb, 0, none⟩) := by rw [put_diff _ _ _ _ (by decide)]; exact k6x0
  have k7x47 : (a6.put (some 54) (.pointer (some ⟨hb, 8, none⟩))).eval (.tmp 47) = .pointer (some ⟨hb, 0, none⟩) := by rw [put_diff _ _ _ _ (by decide)]; exact k6x47
  have k7x48 : (a6.put (some 54) (.pointer (some ⟨hb, 8, none⟩))).eval (.tmp 48) = .pointer (some ⟨hb, 0, none⟩) := by rw [put_diff _ _ _ _ (by decide)]; exact k6x48
  have k7x49 : (a6.put (some 54) (.pointer (some ⟨hb, 8, none⟩))).eval (.tmp 49) = .pointer (some ⟨hb, 0, none⟩) := by rw [put_diff _ _ _ _ (by decide)]; exact k6x49
  have k7x50 : (a6.put (some 54) (.pointer (some ⟨hb, 8, none⟩))).eval (.tmp 50) = .pointer (some ⟨hb, 0, none⟩) := by rw [put_diff _ _ _ _ (by decide)]; exact k6x50
  have k7x52 : (a6.put (some 54) (.pointer (some ⟨hb, 8, none⟩))).eval (.tmp 52) = .pointer (some ⟨hb, 0, none⟩) := by rw [put_diff _ _ _ _ (by decide)]; exact k6x52
  have k7x53 : (a6.put (some 54) (.pointer (some ⟨hb, 8, none⟩))).eval (.tmp 53) = .pointer (some ⟨hb, 0, none⟩) := by rw [put_diff _ _ _ _ (by decide)]; exact k6x53
  have k7x54 : (a6.put (some 54) (.pointer (some ⟨hb, 8, none⟩))).eval (.tmp 54) = .pointer (some ⟨hb, 8, none⟩) := put_same _ _ _ (by omega)
  generalize hq7 : a6.put (some 54) (.pointer (some ⟨hb, 8, none⟩)) = a7 at *
  have hrw : w4.drew.rangeAt hb 0 (vW W).toList := fun j v hv => by
    have hj : j < 8 := by have := (List.getElem?_eq_some_iff.1 hv).1; rw [Array.length_toList, vW_size, hW] at this; exact this
    have e : (vW W).toList[j]? = some (.int .u32 (gi W j)) := by have := vW_at W j (by omega); simpa using this
    rw [e] at hv; cases hv
    rw [Nat.zero_add]; exact row_cell hh (hObj_w W B n hW j hj)
  have hrb : w4.drew.rangeAt hb 8 (vB B).toList := fun j v hv => by
    have hj : j < 64 := by have := (List.getElem?_eq_some_iff.1 hv).1; rw [Array.length_toList, vB_size, hB] at this; exact this
    have e : (vB B).toList[j]? = some (.int .u8 (gi B j)) := by have := vB_at B j (by omega); simpa using this
    rw [e] at hv; cases hv
    exact row_cell hh (hObj_b W B n hW hB j hj)
  have tail : ∀ listed, listed = #[true, true, true, true, true, true, true, true, true, false, false, false, false] → wpAny Tryd.prog .any ops8 Q 4 listed ((a7.put (some 51) (.agg (vW W))).put (some 55) (.agg (vB B))) w4.drew := by
    intro listed hl
    subst hl
    have s8 : (a7.put (some 51) (.agg (vW W))).tmps.size = 63 := by rw [put_size]; exact s7
    have s9 : ((a7.put (some 51) (.agg (vW W))).put (some 55) (.agg (vB B))).tmps.size = 63 := by rw [put_size]; exact s8
    have e51 : ((a7.put (some 51) (.agg (vW W))).put (some 55) (.agg (vB B))).eval (.tmp 51) = .agg (vW W) := by rw [put_diff _ _ _ _ (by decide)]; exact put_same _ _ _ (by omega)
    have e55 : ((a7.put (some 51) (.agg (vW W))).put (some 55) (.agg (vB B))).eval (.tmp 55) = .agg (vB B) := put_same _ _ _ (by omega)
    have e47 : ((a7.put (some 51) (.agg (vW W))).put (some 55) (.agg (vB B))).eval (.tmp 47) = .pointer (some ⟨hb, 0, none⟩) := by rw [put_diff _ _ _ _ (by decide), put_diff _ _ _ _ (by decide)]; exact k7x47
    generalize (a7.put (some 51) (.agg (vW W))).put (some 55) (.agg (vB B)) = a9 at *
    refine wpAny_ready (rs := [9]) (by kernel_rfl) (by simp) ?_
    refine AllReady.cons (o := o8x9) rfl (fun K hK => ?_) AllReady.nil
    rw [if_pos (by rfl)]
    have hc : Oper.wp Tryd.prog o8x9 a9 w4.drew K Q := by
      have t51 : a9.tmps[51]'(by omega) = .agg (vW W) := by rw [← e51]; simp [Act.eval, s9]
      have t55 : a9.tmps[55]'(by omega) = .agg (vB B) := by rw [← e55]; simp [Act.eval, s9]
      unfold o8x9
      go_simp
      refine (turn_any W B hW hB w4.drew ⟨fun i hi => hL.start i hi, fun i hi => hL.round i hi⟩).mono ?_
      rintro e w5 ⟨rfl, hb5⟩
      refine hK (a9.put (some 56) (.agg (vW (comp W B)))) w5 ?_
      have f47 : (a9.put (some 56) (.agg (vW (comp W B)))).eval (.tmp 47) = .pointer (some ⟨hb, 0, none⟩) := by rw [put_diff _ _ _ _ (by decide)]; exact e47
      have f56 : (a9.put (some 56) (.agg (vW (comp W B)))).eval (.tmp 56) = .agg (vW (comp W B)) := put_same _ _ _ (by omega)
      have s10 : (a9.put (some 56) (.agg (vW (comp W B)))).tmps.size = 63 := by rw [put_size]; exact s9
      have hfin2 := hfin w5 ⟨hb5.os, hb5.tape, hb5.output, hb5.size, hb5.block⟩
      generalize a9.put (some 56) (.agg (vW (comp W B))) = b0 at *
      refine wpAny_take (i := 10) (oi := o8x10) (v := .pointer (some ⟨hb, 0, none⟩)) rfl (by kernel_rfl) (by kernel_rfl) (by kernel_rfl) (fun c a w h => hQ c a _ _ w h) (y_nil b0 o8x10 (.tmp 47) ⟨hb, 0, none⟩ rfl rfl f47 ops8) ?_
      change wpAny _ _ _ _ _ _ (b0.put (some 57) (.pointer (some ⟨hb, 0, none⟩))) _
      have s11 : (b0.put (some 57) (.pointer (some ⟨hb, 0, none⟩))).tmps.size = 63 := by rw [put_size]; exact s10
      have f57 : (b0.put (some 57) (.pointer (some ⟨hb, 0, none⟩))).eval (.tmp 57) = .pointer (some ⟨hb, 0, none⟩) := put_same _ _ _ (by omega)
      have f56' : (b0.put (some 57) (.pointer (some ⟨hb, 0, none⟩))).eval (.tmp 56) = .agg (vW (comp W B)) := by rw [put_diff _ _ _ _ (by decide)]; exact f56
      generalize b0.put (some 57) (.pointer (some ⟨hb, 0, none⟩)) = b1 at *
      refine wpAny_take (i := 11) (oi := o8x11) (v := .pointer (some ⟨hb, 0, none⟩)) rfl (by kernel_rfl) (by kernel_rfl) (by kernel_rfl) (fun c a w h => hQ c a _ _ w h) (y_f0 b1 o8x11 (.tmp 57) hb rfl rfl f57 ops8) ?_
      change wpAny _ _ _ _ _ _ (b1.put (some 58) (.pointer (some ⟨hb, 0, none⟩))) _
      have f58 : (b1.put (some 58) (.pointer (some ⟨hb, 0, none⟩))).eval (.tmp 58) = .pointer (some ⟨hb, 0, none⟩) := put_same _ _ _ (by omega)
      have f56'' : (b1.put (some 58) (.pointer (some ⟨hb, 0, none⟩))).eval (.tmp 56) = .agg (vW (comp W B)) := by rw [put_diff _ _ _ _ (by decide)]; exact f56'
      generalize b1.put (some 58) (.pointer (some ⟨hb, 0, none⟩)) = b2 at *
      refine wpAny_ready (rs := [12]) (by kernel_rfl) (by simp) ?_
      refine AllReady.cons (o := o8x12) rfl (fun K2 hK2 => ?_) AllReady.nil
      rw [if_pos (by rfl)]
      have hh5 : w5.heap[hb]? = some (.cells (hObj W B n) 37) := by
        have hlt : hb < w4.heap.size := (Array.getElem?_eq_some_iff.1 hh).1
        rw [hb5.block hb hlt]; exact hh
      refine wp_store_mid 34 (.tmp 58) (.tmp 56) rfl hb 0 (vW (comp W B)) f58 f56'' (there_of_row hh5 0 _ (by rw [hObj_size _ _ _ hW hB, vW_size, comp_length]; decide)) (by rw [vW_size, comp_length]; kernel_rfl) (vW_all _) ?_
      refine hK2 _ _ ?_
      exact wpAny_done (by kernel_rfl) hfin2 _
    exact hc
  refine wpAny_ready (rs := [4, 8]) (by kernel_rfl) (by simp) ?_
  refine AllReady.cons (o := o8x4) rfl (fun K hK => ?_) (AllReady.cons (o := o8x8) rfl (fun K hK => ?_) AllReady.nil)
  · refine step_load_mid rfl 34 (.tmp 50) rfl hb 0 k7x50 (vW W) _ hrw Tryd.underlying34 rfl (by rw [vW_size, hW]; kernel_rfl) ?_
    refine hK _ _ ?_
    change wpAny _ _ _ _ _ _ (a7.put (some 51) (.agg (vW W))) _
    refine wpAny_ready (rs := [8]) (by kernel_rfl) (by simp) ?_
    refine AllReady.cons (o := o8x8) rfl (fun K hK => ?_) AllReady.nil
    refine step_load_mid rfl 35 (.tmp 54) rfl hb 8 (by rw [put_diff _ _ _ _ (by decide)]; exact k7x54) (vB B) _ hrb Tryd.underlying35 rfl (by rw [vB_size, hB]; kernel_rfl) ?_
    refine hK _ _ ?_
    exact tail _ (by kernel_rfl)
  · refine step_load_mid rfl 35 (.tmp 54) rfl hb 8 k7x54 (vB B) _ hrb Tryd.underlying35 rfl (by rw [vB_size, hB]; kernel_rfl) ?_
    refine hK _ _ ?_
    change wpAny _ _ _ _ _ _ (a7.put (some 55) (.agg (vB B))) _
    refine wpAny_ready (rs := [4]) (by kernel_rfl) (by simp) ?_
    refine AllReady.cons (o := o8x4) rfl (fun K hK => ?_) AllReady.nil
    refine step_load_mid rfl 34 (.tmp 50) rfl hb 0 (by rw [put_diff _ _ _ _ (by decide)]; exact k7x50) (vW W) _ hrw Tryd.underlying34 rfl (by rw [vW_size, hW]; kernel_rfl) ?_
    refine hK _ _ ?_
    change wpAny _ _ _ _ _ _ ((a7.put (some 55) (.agg (vB B))).put (some 51) (.agg (vW W))) _
    rw [put_comm _ 55 51 _ _ (by decide)]
    exact tail _ (by kernel_rfl)
end Go.Proofs.YtnpjknnalekdpaaDoor
namespace Go.Proofs.YtnpjknnalekdpaaDoor
set_option linter.unusedSimpArgs false
set_option linter.unusedVariables false
open Go.RowKit
/-- How long a slice is. -/
def sliceLen : Value → Nat
  | .slice _ n _ => n
  | _ => 0
theorem rangeB {w : World} {b o : Nat} {bs : List Int} (hr : w.rangeAt b o (vB bs).toList) (j : Nat) (hj : j < bs.length) : w.cell? ⟨b, o + j, none⟩ = some (.int .u8 (gi bs j)) :=
  hr j _ (by have := vB_at bs j hj; simpa using this)
theorem range_start {w : World} (hL : Laid w) : w.rangeAt 0 0 (vW hWords).toList := fun j v hv => by
  have hj : j < 8 := by have := (List.getElem?_eq_some_iff.1 hv).1; rw [Array.length_toList, vW_size] at this; exact this
  have e : (vW hWords).toList[j]? = some (.int .u32 (gi hWords j)) := by have := vW_at hWords j hj; simpa using this
  rw [e] at hv; cases hv
  rw [Nat.zero_add]; exact hL.start j hj
theorem step_copy_run {P : Program} {ops : Array Oper} {o : Oper} {a : Act} {w : World} {K : Act → World → Prop} {Q : Exit → Act → World → Prop} {E : Prop} (hgd : o.guard = none) (d s : Operand) (dT sT : TypeId)
    (ho : o.op = .call { callee := .builtin .copy, args := #[d, s], argTypes := #[dT, sT] }) (dv sv : Value) (hd : a.eval d = dv) (hs : a.eval s = sv) (v : Value) (w' : World)
    (hrun : (Builtin.copy_ #[dT, sT] o.type #[dv, sv]).run P w = .ok v w') (h : K (a.put o.dst v) w') :
    if Region.wanted o (yielded ops a.tmps) = true then Oper.wp P o a w K Q else E := by
  have hw : Region.wanted o (yielded ops a.tmps) = true := by simp [Region.wanted, hgd]
  rw [if_pos hw]
  unfold Oper.wp
  simp [execOp, ho, resolve, invoke, builtin, hd, hs, hrun, Result.andThen]
  exact h
theorem slice36 (hb o n : Nat) (W : World) : (Instr.sliceAt 35 (.pointer (some ⟨hb, o, none⟩)) (some (.int .i64 ((n : Int) % 64))) none none).run Tryd.prog W = .ok (.slice (some ⟨hb, o + n % 64, none⟩) (64 - n % 64) (64 - n % 64)) W := by
  have hs : (Tryd.prog.info? 5).map (·.size) = some 1 := by kernel_rfl
  have e : ((n : Int) % 64) = ((n % 64 : Nat) : Int) := by omega
  have hlt : n % 64 < 64 := Nat.mod_lt _ (by decide)
  rw [e]
  generalize n % 64 = r at *
  have e2 : (r : Int) ≤ 64 := by omega
  cases hi : Tryd.prog.info? 5 with
  | none => simp [hi] at hs
  | some i =>
    have hz : i.size = 1 := by simpa [hi] using hs
    have hne : ¬ 64 = r := by omega
    simp [Instr.sliceAt, run_underlying Tryd.underlying35 W, Instr.sureAddr, Instr.sliceBounds, run_sliceBound, sizeOf, typeInfo, hi, hz, hne, e2, Addr.add_mid, Nat.le_of_lt hlt]
theorem slice36t (hb o n : Nat) (W : World) : (Instr.sliceAt 35 (.pointer (some ⟨hb, o, none⟩)) (some (.int .i64 ((n : Int).tmod 64))) none none).run Tryd.prog W = .ok (.slice (some ⟨hb, o + n % 64, none⟩) (64 - n % 64) (64 - n % 64)) W := by
  rw [Int.tmod_eq_emod_of_nonneg (by omega)]; exact slice36 hb o n W
theorem range_rest {w wr : World} {b o hb : Nat} {bs done rest : List Int} (hr : w.rangeAt b o (vB bs).toList) (hbs : bs = done ++ rest) (hgr : w.grownBy wr (some hb)) (hne : b ≠ hb) : wr.rangeAt b (o + done.length) (vB rest).toList := fun j v hv => by
  have e : (vB bs).toList[done.length + j]? = some v := by
    rw [hbs]; unfold vB at hv ⊢
    rw [List.map_append, List.getElem?_append_right (by simp)]
    simpa using hv
  have hc := hr (done.length + j) v e
  rw [← Nat.add_assoc] at hc
  exact hgr.cell hc (fun h => hne (by injection h))
theorem copy_run {wr : World} {hb b : Nat} {W B : List Int} {n : Nat} (hh : wr.heap[hb]? = some (.cells (hObj W B n) 37)) (hW : W.length = 8) (hB : B.length = 64) (o : Nat) (rest x rest' : List Int) (cq : Nat) (hx : rest = x ++ rest')
    (hxl : x.length = min rest.length (64 - n % 64)) (hr : wr.rangeAt b o (vB rest).toList) (k2 : n % 64 + x.length ≤ 64) (w2 : World) (hw : w2.heap = wr.heap) :
    (Builtin.copy_ #[22, 22] 3 #[.slice (some ⟨hb, 8 + n % 64, none⟩) (64 - n % 64) (64 - n % 64), .slice (some ⟨b, o, none⟩) rest.length cq]).run Tryd.prog w2 = .ok (.int .i64 x.length) (w2.setCells hb (8 + n % 64) (vB x).toList) := by
  have hc : ∀ a : Addr, w2.cell? a = wr.cell? a := fun a => World.cell?_of_block (by rw [hw])
  have hf : ∀ a : Addr, w2.frozen? a = wr.frozen? a := fun a => World.frozen?_of_block (by rw [hw])
  have ht := there_of_row hh (8 + n % 64) x.length (by rw [hObj_size _ _ _ hW hB]; omega)
  have hl : (vB x).toList.length = x.length := by rw [Array.length_toList, vB_size]
  have h := run_copy_cells (P := Tryd.prog) w2 22 22 3 5 hb (8 + n % 64) (64 - n % 64) (64 - n % 64) ⟨b, o, none⟩ rest.length cq (vB x).toList Tryd.underlying22 (by kernel_rfl) (by rw [hl, hxl])
    (fun j v hv => by
      rw [Addr.add_mid, hc]
      refine hr j v ?_
      rw [hx]; simp only [vB] at hv ⊢
      have hj : j < x.length := by have := (List.getElem?_eq_some_iff.1 hv).1; simpa using this
      simp [List.getElem?_append, hj] at hv ⊢
      exact hv)
    (fun j hj => by rw [hc]; exact (ht j (by omega)).1) (fun j hj => by rw [hf]; exact (ht j (by omega)).2)
    (fun v hv => by simp [vB] at hv; obtain ⟨y, _, rfl⟩ := hv; rfl)
  rw [hl] at h
  exact h
set_option maxRecDepth 100000 in
set_option maxHeartbeats 2000000 in
theorem write_any (hb : Nat) (all bs ws : List Int) (hws : ws.length = 8) (hwa : all ≠ [] → ws = wordsOf all) (w : World) (hL : Laid w) (h2 : 2 ≤ hb)
    (hh : w.heap[hb]? = some (.cells (hObj ws (remB all) all.length) 37)) (av : Option Addr) (b o cp : Nat) (hcp : bs.length ≤ cp) (hcp2 : cp ≤ 9223372036854775807)
    (hav : 0 < bs.length → av = some ⟨b, o, none⟩) (hr : w.rangeAt b o (vB bs).toList) (hne : b ≠ hb) (hn : all.length + bs.length ≤ 1152921504606846976) :
    Calls Tryd.prog 25 #[.pointer (some ⟨hb, 0, none⟩), .slice av bs.length cp] w fun e w' => e = .returned (.tuple #[]) ∧
      w'.heap[hb]? = some (.cells (hObj (wordsOf (all ++ bs)) (remB (all ++ bs)) (all ++ bs).length) 37) ∧ w.grownBy w' (some hb) := by
  have hbl := remB_length all
  have hcn := row_cell hh (hObj_n ws _ all.length hws hbl)
  have hst := range_start hL
  have hth : w.there hb 0 (vW hWords).size := there_of_row hh 0 _ (by rw [hObj_size _ _ _ hws hbl]; decide)
  have HA : Hid (0 < bs.length → av = some ⟨b, o, none⟩) := hav
  clear hav
  by_cases h0 : all.length = 0
  case' pos =>
    have h0' : ((all.length : Int) == 0) = true := by simp [h0]
    have hall : all = [] := List.eq_nil_of_length_eq_zero h0
    have g1 := setWords hh hws hWords rfl
    have g2 := grown_setCells w hb 0 (vW hWords).toList
    have hwh : Hid (hWords = wordsOf all) := by rw [hall]; rfl
    clear h0 hall
    go_enter Tryd.func25, Tryd.ntmps25
    go_wp2_with (first | (refine wpList_load_mid rfl 34 _ rfl 0 0 rfl (vW hWords).toList _ hst Tryd.underlying34 rfl (by kernel_rfl) ?_) | (refine wpList_store_mid rfl 34 _ _ rfl hb 0 (vW hWords) rfl rfl hth (by kernel_rfl) (vW_all _) ?_))
    generalize w.setCells hb 0 (vW hWords).toList = w1 at *
    rw [hwh.out] at g1
    clear hcn hst hth hh hwh hwa
    simp only [Act.put, List.setIfInBounds_toArray, List.set_cons_succ, List.set_cons_zero]
  case' neg =>
    have h0' : ((all.length : Int) == 0) = false := by rw [beq_eq_false_iff_ne]; omega
    have g1 := hh
    have g2 := World.grownBy.refl w (some hb)
    rw [hwa (fun e => h0 (by rw [e]; rfl))] at g1
    clear h0 hst hth hh hwa
    go_enter Tryd.func25, Tryd.ntmps25
    go_wp2
    clear hcn
  all_goals
    go_loopw [1] (fun v wr => ∃ (done rest : List Int) (av' : Option Addr) (cq : Nat), bs = done ++ rest ∧ v = .slice av' rest.length cq ∧ rest.length ≤ cq ∧ cq ≤ 9223372036854775807 ∧ (0 < rest.length → av' = some ⟨b, o + done.length, none⟩) ∧ wr.heap[hb]? = some (.cells (hObj (wordsOf (all ++ done)) (remB (all ++ done)) (all ++ done).length) 37) ∧ w.grownBy wr (some hb)) (fun v _ => sliceLen v)
    case atStart => exact ⟨[], bs, av, cp, rfl, rfl, hcp, hcp2, HA.out, by simpa using g1, g2⟩
    case round =>
      obtain ⟨done, rest, av', cq, hbs, rfl, hcq, hcq2, hav', hhr, hgr⟩ := hrel
      by_cases hlt : 0 < rest.length
      · have hv := hav' hlt
        subst hv
        clear hav' HA g1 g2
        have hLr := grown_laid hL hgr h2
        have hlen : (all ++ done).length = all.length + done.length := by simp
        have hlen2 : bs.length = done.length + rest.length := by rw [hbs]; simp
        have hnA : (all ++ done).length + rest.length ≤ 1152921504606846976 := by omega
        have hbr := remB_length (all ++ done)
        have hwr := wordsOf_length (all ++ done)
        have hrr : wr.rangeAt b (o + done.length) (vB rest).toList := range_rest hr hbs hgr hne
        have HBS : Hid (bs = done ++ rest) := hbs
        clear hlen2 hlen hbs
        generalize hA : all ++ done = A at *
        have HAA : Hid (all ++ done = A) := hA
        clear hA
        obtain ⟨x, rest', hx, hxl⟩ : ∃ x rest', rest = x ++ rest' ∧ x.length = min rest.length (64 - A.length % 64) := ⟨rest.take (min rest.length (64 - A.length % 64)), rest.drop (min rest.length (64 - A.length % 64)), by simp, by simp⟩
        have hrl : rest.length = x.length + rest'.length := by rw [hx]; simp
        have k0 : 0 < x.length := by omega
        have k1 : x.length ≤ rest.length := by omega
        have k2 : A.length % 64 + x.length ≤ 64 := by omega
        have hcp : ∀ W : World, W.heap = wr.heap → (Builtin.copy_ #[22, 22] 3 #[.slice (some ⟨hb, 8 + A.length % 64, none⟩) (64 - A.length % 64) (64 - A.length % 64), .slice (some ⟨b, o + done.length, none⟩) rest.length cq]).run Tryd.prog W = .ok (.int .i64 x.length) (W.setCells hb (8 + A.length % 64) (vB x).toList) := copy_run hhr hwr hbr (o + done.length) rest x rest' cq hx hxl hrr k2
        have HX : Hid (rest = x ++ rest') := hx
        have HXL : Hid (x.length = min rest.length (64 - A.length % 64)) := hxl
        have HRL : Hid (rest.length = x.length + rest'.length) := hrl
        clear hx hxl hrl
        have hcn := row_cell hhr (hObj_n _ _ A.length hwr hbr)
        have hsl := slice36t hb 8 A.length
        have HCP : Hid (∀ W : World, W.heap = wr.heap → (Builtin.copy_ #[22, 22] 3 #[.slice (some ⟨hb, 8 + A.length % 64, none⟩) (64 - A.length % 64) (64 - A.length % 64), .slice (some ⟨b, o + done.length, none⟩) rest.length cq]).run Tryd.prog W = .ok (.int .i64 x.length) (W.setCells hb (8 + A.length % 64) (vB x).toList)) := hcp
        clear hcp
        go_wp2
        go_region_held3 (fun w' => w'.cell? ⟨hb, 72, none⟩ = some (.int .i64 (A.length : Int))) (first | go_keep | (rw [World.cell?_setCells_out _ _ _ _ _ (fun _ _ => Or.inr (by simp [vB_size]; omega))]; exact hcn)) ((refine step_copy_run (by rfl) (.tmp 27) (.tmp 28) 22 22 (by rfl) _ _ (by rfl) (by rfl) _ _ (HCP.out _ (by rfl)) ?_))
        have hpl : (putAt (remB A) (A.length % 64) x).length = 64 := by rw [putAt_length _ _ _ (by omega)]; exact hbr
        have h3 := setPart (w := wr.drew) hhr hwr hbr (A.length % 64) x k2
        have g3 : w.grownBy (wr.drew.setCells hb (8 + A.length % 64) (vB x).toList) (some hb) := grown_trans (grown_drewN hgr 1) (grown_setCells _ _ _ _)
        generalize wr.drew.setCells hb (8 + A.length % 64) (vB x).toList = w3 at *
        clear hcn HCP hsl hrr
        have hcn := row_cell h3 (hObj_n _ _ A.length hwr hpl)
        have hfz : w3.frozen? ⟨hb, 72, none⟩ = false := frozen_of_row _ _ _ _ _ h3
        by_cases hfull : (A.length + x.length) % 64 = 0
        · have hfb : (((A.length : Int) + (x.length : Int)) % 64 == 0) = true := by rw [beq_iff_eq]; omega
          have h4 := setLen h3 hwr hpl (A.length + x.length)
          rw [Int.natCast_add] at h4
          have g4 : w.grownBy (w3.setCell ⟨hb, 72, none⟩ (.int .i64 ((A.length : Int) + (x.length : Int)))) (some hb) := grown_trans g3 (grown_setCell _ _ _ _)
          go_wp2
          all_goals
            clear hcn hfz h3 g3 hhr hgr hLr
            generalize w3.setCell ⟨hb, 72, none⟩ (.int .i64 ((A.length : Int) + (x.length : Int))) = w4 at *
            have hL4 := grown_laid hL g4 h2
            refine region8 _ (fun _ _ _ _ _ h => h) _ _ hb (wordsOf A) (putAt (remB A) (A.length % 64) x) hwr hpl _ h4 rfl rfl hL4 ?_
            intro w5 hb5
            have hlt4 : hb < w4.heap.size := (Array.getElem?_eq_some_iff.1 h4).1
            have h5 := setWords (w := w5) (by rw [hb5.block hb hlt4]; exact h4) hwr (comp (wordsOf A) (putAt (remB A) (A.length % 64) x)) (comp_length _ _)
            have g5 := grown_trans (grown_trans g4 (grown_below hb5 (some hb))) (grown_setCells w5 hb 0 (vW (comp (wordsOf A) (putAt (remB A) (A.length % 64) x))).toList)
            generalize w5.setCells hb 0 (vW (comp (wordsOf A) (putAt (remB A) (A.length % 64) x))).toList = w6 at *
            have hth6 : w6.there hb 8 (vB (zs 64)).size := there_of_row h5 8 _ (by rw [hObj_size _ _ _ (comp_length _ _) hpl]; decide)
            have h6 := setBlock h5 (comp_length _ _) hpl (zs 64) rfl
            have g6 := grown_trans g5 (grown_setCells w6 hb 8 (vB (zs 64)).toList)
            simp only [Act.put, List.setIfInBounds_toArray, List.set_cons_succ, List.set_cons_zero]
            go_wp2_with (first | (refine wpList_store_mid rfl 35 _ _ rfl hb 8 (vB (zs 64)) rfl rfl hth6 (by kernel_rfl) (vB_all _) ?_))
            have hxx : all ++ (done ++ x) = A ++ x := by rw [← HAA.out]; simp
            have hrl' : rest.length - x.length = rest'.length := by have := HRL.out; omega
            have hf64 : A.length % 64 + x.length = 64 := by omega
            have hbs' : bs = (done ++ x) ++ rest' := by rw [HBS.out, HX.out]; simp
            go_roundw
            case rel =>
              (repeat apply Exists.intro)
              refine ⟨?_, rfl⟩
              refine ⟨done ++ x, rest', _, _, hbs', by rw [← hrl'], ?_, ?_, ?_, ?_, g6⟩
              · omega
              · omega
              · intro hpos
                first | (exfalso; omega) | (simp only [List.length_append]; rw [Nat.add_assoc])
              · rw [hxx, words_full A x hf64, rem_full A x hf64, List.length_append]; exact h6
            case measure =>
              show rest.length - x.length < rest.length
              omega
        · have hfb : (((A.length : Int) + (x.length : Int)) % 64 == 0) = false := by rw [beq_eq_false_iff_ne]; omega
          have h4 := setLen h3 hwr hpl (A.length + x.length)
          rw [Int.natCast_add] at h4
          have g4 : w.grownBy (w3.setCell ⟨hb, 72, none⟩ (.int .i64 ((A.length : Int) + (x.length : Int)))) (some hb) := grown_trans g3 (grown_setCell _ _ _ _)
          have hxx : all ++ (done ++ x) = A ++ x := by rw [← HAA.out]; simp
          have hrl' : Hid (rest.length - x.length = rest'.length) := by have := HRL.out; unfold Hid; omega
          have hf64 : A.length % 64 + x.length < 64 := by omega
          have hbs' : Hid (bs = (done ++ x) ++ rest') := by unfold Hid; rw [HBS.out, HX.out]; simp
          go_wp2
          all_goals
            go_roundw
            case rel =>
              have hrl'' := hrl'.out
              refine ⟨done ++ x, rest', _, _, hbs'.out, by rw [← hrl''], ?_, ?_, ?_, ?_, g4⟩
              · omega
              · omega
              · intro hpos
                rw [if_neg (by omega), List.length_append, Nat.add_assoc]
              · rw [hxx, words_step A x hf64, rem_step A x hf64, List.length_append]; exact h4
            case measure =>
              show rest.length - x.length < rest.length
              omega
      · have er : rest = [] := List.eq_nil_of_length_eq_zero (by omega)
        have hbs' : Hid (bs = done) := by unfold Hid; rw [hbs, er]; simp
        clear hbs er hav'
        go_wp2
        go_end0
        refine ⟨rfl, ?_, hgr⟩
        rw [hbs'.out]; exact hhr
end Go.Proofs.YtnpjknnalekdpaaDoor
namespace Go.Proofs.YtnpjknnalekdpaaDoor
set_option linter.unusedSimpArgs false
set_option linter.unusedVariables false
open Go.RowKit
theorem padL_length (n : Nat) : (padL n).length = padLen n := padTo_length n 8
/-- The hash of bytes. -/
def hashOf (all : List Int) : List Int := outB (wordsOf (all ++ padL all.length))
theorem hashOf_length (all : List Int) : (hashOf all).length = 32 := by unfold hashOf outB; exact outTo_length _ 8
theorem zero38 (W : World) : (zeroValue 37).run Tryd.prog W = .ok (.agg (hObj (zs 8) (zs 64) 0)) W := by kernel_rfl
section
variable {ops : Array Oper} {rest : List Oper} {o : Oper} {a : Act} {w : World} {Q : Exit → Act → World → Prop}
theorem hObj_all (ws bl : List Int) (n : Nat) : (hObj ws bl n).all (·.oneCell') = true := by
  rw [← hObj_of_list]
  apply all_oneCell_toArray; intro v hv
  simp at hv
  rcases hv with ⟨x, _, rfl⟩ | ⟨x, _, rfl⟩ | rfl <;> rfl
theorem load38 (hgd : o.guard = none) (x : Operand) (ho : o.op = .load 37 x) (g : Nat) (hx : a.eval x = .pointer (some ⟨g, 0, none⟩)) (ws bl : List Int) (n : Nat) (hw : ws.length = 8) (hb : bl.length = 64) (hg : w.heap[g]? = some (.cells (hObj ws bl n) 37))
    (h : wpList Tryd.prog ops Q rest (a.put o.dst (.agg (hObj ws bl n))) w) : wpList Tryd.prog ops Q (o :: rest) a w :=
  wpList_load_row hgd 37 x ho g hx 37 _ (0, 0) _ hg Tryd.underlying37 rfl (by rw [hObj_size _ _ _ hw hb]; kernel_rfl) h
theorem store38 (hgd : o.guard = none) (x y : Operand) (ho : o.op = .store 37 x y) (g : Nat) (ws bl : List Int) (n : Nat) (hw : ws.length = 8) (hb : bl.length = 64) (hx : a.eval x = .pointer (some ⟨g, 0, none⟩)) (hy : a.eval y = .agg (hObj ws bl n)) (old : Array Value) (hold : old.size = 73) (hg : w.heap[g]? = some (.cells old 37))
    (h : wpList Tryd.prog ops Q rest (a.put o.dst undef) (w.setRow g (hObj ws bl n))) : wpList Tryd.prog ops Q (o :: rest) a w :=
  wpList_store_row hgd 37 x y ho g _ hx hy 37 _ hg (by rw [hObj_size _ _ _ hw hb]; kernel_rfl) (by rw [hObj_size _ _ _ hw hb, hold]) (hObj_all _ _ _) h
end
theorem setRow_alloc2 (w : World) (A : Obj) (c c' : Array Value) (t : TypeId) : ((w.alloc A).alloc (.cells c t)).setRow (w.heap.size + 1) c' = (w.alloc A).alloc (.cells c' t) := by
  have h := World.setRow_alloc_new (w.alloc A) c c' t
  rwa [show (w.alloc A).heap.size = w.heap.size + 1 by simp] at h
theorem store38n {ops : Array Oper} {rest : List Oper} {o : Oper} {a : Act} {w0 : World} {Q : Exit → Act → World → Prop} (hgd : o.guard = none) (x y : Operand) (ho : o.op = .store 37 x y) (A : Obj) (ws bl : List Int) (n : Nat) (hw : ws.length = 8) (hb : bl.length = 64) (hx : a.eval x = .pointer (some ⟨w0.heap.size + 1, 0, none⟩)) (hy : a.eval y = .agg (hObj ws bl n)) (old : Array Value) (hold : old.size = 73)
    (h : ∀ w2 : World, w2.heap[w0.heap.size]? = some A → w2.heap[w0.heap.size + 1]? = some (.cells (hObj ws bl n) 37) → w2.heap.size = w0.heap.size + 2 → Below w0.heap.size w0 w2 → wpList Tryd.prog ops Q rest (a.put o.dst undef) w2) : wpList Tryd.prog ops Q (o :: rest) a ((w0.alloc A).alloc (.cells old 37)) := by
  refine store38 hgd x y ho (w0.heap.size + 1) ws bl n hw hb hx hy old hold (heap_alloc2_new _ _ _) ?_
  rw [setRow_alloc2]
  exact h _ (heap_alloc2_old _ _ _) (heap_alloc2_new _ _ _) (by simp) (((Below.refl _ _).alloc (Nat.le_refl _) _).alloc (by simp) _)
theorem write_at (hb : Nat) (all bs ws : List Int) (hws : ws.length = 8) (hwa : all ≠ [] → ws = wordsOf all) (w : World) (hL : Laid w) (h2 : 2 ≤ hb)
    (hh : w.heap[hb]? = some (.cells (hObj ws (remB all) all.length) 37)) (av : Option Addr) (b o m cp : Nat) (hm : m = bs.length) (hcp : m ≤ cp) (hcp2 : cp ≤ 9223372036854775807)
    (hav : av = some ⟨b, o, none⟩) (hr : w.rangeAt b o (vB bs).toList) (hne : b ≠ hb) (hn : all.length + bs.length ≤ 1152921504606846976) :
    Calls Tryd.prog 25 #[.pointer (some ⟨hb, 0, none⟩), .slice av m cp] w fun e w' => e = .returned (.tuple #[]) ∧
      w'.heap[hb]? = some (.cells (hObj (wordsOf (all ++ bs)) (remB (all ++ bs)) (all ++ bs).length) 37) ∧ w.grownBy w' (some hb) := by
  subst hm
  exact write_any hb all bs ws hws hwa w hL h2 hh av b o cp hcp hcp2 (fun _ => hav) hr hne hn
theorem range_of_block {w : World} {g : Nat} {l : List Int} {t : TypeId} (hg : w.heap[g]? = some (.cells (vB l) t)) : w.rangeAt g 0 (vB l).toList := fun j v hv => by
  rw [Nat.zero_add, cell_of_row w g j _ t (0, 0) hg]; simpa using hv
theorem range_words {w : World} {g : Nat} {ws bl : List Int} {n : Nat} (hg : w.heap[g]? = some (.cells (hObj ws bl n) 37)) (hws : ws.length = 8) : w.rangeAt g 0 (vW ws).toList := fun j v hv => by
  have hj : j < 8 := by have := (List.getElem?_eq_some_iff.1 hv).1; rw [Array.length_toList, vW_size, hws] at this; exact this
  have e : (vW ws).toList[j]? = some (.int .u32 (gi ws j)) := by have := vW_at ws j (by omega); simpa using this
  rw [e] at hv; cases hv
  rw [Nat.zero_add]; exact row_cell hg (hObj_w ws bl n hws j hj)
set_option maxRecDepth 100000 in
set_option maxHeartbeats 1000000 in
theorem sum_any (hb : Nat) (all ws : List Int) (hws : ws.length = 8) (hwa : all ≠ [] → ws = wordsOf all) (w : World) (hL : Laid w)
    (hh : w.heap[hb]? = some (.cells (hObj ws (remB all) all.length) 37)) (hn : all.length ≤ 1000000000000000000) :
    Calls Tryd.prog 26 #[.pointer (some ⟨hb, 0, none⟩)] w fun e w' => e = .returned (.agg (vB (hashOf all))) ∧ Below w.heap.size w w' := by
  have hbl := remB_length all
  have hlt : hb < w.heap.size := (Array.getElem?_eq_some_iff.1 hh).1
  have hcn := row_cell hh (hObj_n ws _ all.length hws hbl)
  have hh1 : (w.alloc (Obj.cells (vB (zs 32)) 24)).heap[hb]? = some (.cells (hObj ws (remB all) all.length) 37) := by rw [Below.heap_alloc _ _ _ hlt]; exact hh
  have HH1 : Hid ((w.alloc (Obj.cells (vB (zs 32)) 24)).heap[hb]? = some (.cells (hObj ws (remB all) all.length) 37)) := hh1
  clear hh1
  have hz := zero38
  go_enter Tryd.func26, Tryd.ntmps26
  go_wp2_with (first | (refine load38 rfl _ rfl hb rfl ws (remB all) all.length hws hbl HH1.out ?_) | (refine store38n rfl _ _ rfl (Obj.cells (vB (zs 32)) 24) ws (remB all) all.length hws hbl rfl rfl (hObj (zs 8) (zs 64) 0) (hObj_size _ _ _ rfl rfl) ?_; intro w2 f0 f1 fs fb; have hcn2 : w2.cell? ⟨hb, 72, none⟩ = some (.int .i64 (all.length : Int)) := by rw [fb.cell (show hb < w.heap.size from hlt)]; exact hcn))
  refine (pad_any all.length (by omega) _).mono ?_
  rintro e w3 ⟨g, rfl, hg, hpb, hb3⟩
  have hlt1 : w.heap.size + 1 < w2.heap.size := by omega
  have h1 : w3.heap[w.heap.size + 1]? = some (.cells (hObj ws (remB all) all.length) 37) := by rw [hb3.block _ hlt1]; exact f1
  have h0 : w3.heap[w.heap.size]? = some (.cells (vB (zs 32)) 24) := by rw [hb3.block _ (by omega)]; exact f0
  have b3 : Below w.heap.size w w3 := fb.trans (hb3.mono (by omega))
  have s3 : w.heap.size + 2 ≤ w3.heap.size := by have := hb3.size; omega
  clear f0 f1 fb hb3 hcn2 hcn HH1 hz hh
  go_wp2_with fail
  have hpr : w3.rangeAt g 0 (vB (padL all.length)).toList := range_of_block hpb
  have hp72 : padLen all.length ≤ 72 := by unfold padLen; omega
  have hL3 := hL.below b3 hL.two
  have h2 := hL.two
  refine (write_at (w.heap.size + 1) all (padL all.length) ws hws hwa w3 hL3 (by omega) h1 (some ⟨g, 0, none⟩) g 0 (padLen all.length) (padLen all.length) (padL_length _).symm (by omega) (by omega) rfl hpr (by omega) (by rw [padL_length]; omega)).mono ?_
  rintro e w4 ⟨rfl, h4, g4⟩
  have h40 : w4.heap[w.heap.size]? = some (.cells (vB (zs 32)) 24) := by rw [g4.block _ (by omega) (by simp)]; exact h0
  have b4 : Below w.heap.size w w4 := b3.grown g4 (by omega) (fun k hk => by injection hk; omega)
  have s4 : w.heap.size + 2 ≤ w4.heap.size := Nat.le_trans s3 g4.size
  have hr4 : w4.rangeAt (w.heap.size + 1) 0 (vW (wordsOf (all ++ padL all.length))).toList := range_words h4 (wordsOf_length _)
  clear h1 h0 b3 s3 g4 hpr hpb h4 hL3
  go_wp2_with (first | (refine wpList_load_mid rfl 34 _ rfl (w.heap.size + 1) 0 rfl (vW (wordsOf (all ++ padL all.length))).toList _ hr4 Tryd.underlying34 rfl (by rw [Array.length_toList, vW_size, wordsOf_length]; kernel_rfl) ?_))
  refine (bytes_any (wordsOf (all ++ padL all.length)) (wordsOf_length _) _).mono ?_
  rintro e w5 ⟨rfl, b5⟩
  have h50 : w5.heap[w.heap.size]? = some (.cells (vB (zs 32)) 24) := by rw [b5.block _ (by omega)]; exact h40
  have b05 : Below w.heap.size w w5 := b4.trans (b5.mono (by omega))
  clear h40 b4 b5 hr4
  go_wp2_with (first | (refine store24 rfl _ _ rfl _ (hashOf all) rfl rfl (hashOf_length all) 24 (zs 32) rfl h50 ?_))
  exact bodyPost_ret (v := .agg (vB (hashOf all))) (results_cell_row (p := 2) (ty := 24) Tryd.results26 _ _ w.heap.size 24 _ (0, 0) _ rfl (setRow_same h50) Tryd.underlying24 rfl (by rw [vB_size, hashOf_length]; kernel_rfl)) rfl ⟨rfl, below_setRow b05 (Nat.le_refl _) _⟩
end Go.Proofs.YtnpjknnalekdpaaDoor
namespace Go.Proofs.YtnpjknnalekdpaaDoor
set_option linter.unusedSimpArgs false
set_option linter.unusedVariables false
open Go.RowKit
/-- The value v is a slice that holds the bytes bs, in memory that w has. -/
def PartAt (w : World) (v : Value) (bs : List Int) : Prop := ∃ (av : Option Addr) (b o cp : Nat), v = .slice av bs.length cp ∧ bs.length ≤ cp ∧ cp ≤ 9223372036854775807 ∧ (0 < bs.length → av = some ⟨b, o, none⟩) ∧ w.rangeAt b o (vB bs).toList ∧ b < w.heap.size ∧ (av = none → cp = 0)
theorem range_below {w w' : World} {b o : Nat} {cs : List Value} (h : w.rangeAt b o cs) (hb : Below w.heap.size w w') (hlt : b < w.heap.size) : w'.rangeAt b o cs := fun j v hv => by
  rw [hb.cell (show b < w.heap.size from hlt)]; exact h j v hv
theorem PartAt.below {w w' : World} {v : Value} {bs : List Int} (h : PartAt w v bs) (hb : Below w.heap.size w w') : PartAt w' v bs := by
  obtain ⟨av, b, o, cp, h1, h2, h3, h4, h5, h6, h7⟩ := h
  exact ⟨av, b, o, cp, h1, h2, h3, h4, range_below h5 hb h6, Nat.lt_of_lt_of_le h6 hb.size, h7⟩
theorem remB_nil : remB [] = zs 64 := by simp [remB]
/-- Write, of whatever slice. -/
theorem write_part (hb : Nat) (all bs ws : List Int) (hws : ws.length = 8) (hwa : all ≠ [] → ws = wordsOf all) (w : World) (hL : Laid w) (h2 : 2 ≤ hb)
    (hh : w.heap[hb]? = some (.cells (hObj ws (remB all) all.length) 37)) (v : Value) (w0 : World) (hv : PartAt w0 v bs) (hb0 : Below w0.heap.size w0 w) (hne : w0.heap.size ≤ hb) (hn : all.length + bs.length ≤ 1152921504606846976) :
    Calls Tryd.prog 25 #[.pointer (some ⟨hb, 0, none⟩), v] w fun e w' => e = .returned (.tuple #[]) ∧
      w'.heap[hb]? = some (.cells (hObj (wordsOf (all ++ bs)) (remB (all ++ bs)) (all ++ bs).length) 37) ∧ w.grownBy w' (some hb) := by
  obtain ⟨av, b, o, cp, rfl, h1, h3, h4, h5, h6, _⟩ := hv
  exact write_any hb all bs ws hws hwa w hL h2 hh av b o cp h1 h3 h4 (range_below h5 hb0 h6) (by omega) hn
set_option maxRecDepth 100000 in
set_option maxHeartbeats 1000000 in
theorem of_any (pb po n pc : Nat) (vs : List Value) (bss : List (List Int)) (hvn : vs.length = n) (hbn : bss.length = n) (w : World) (hL : Laid w) (hr : w.rangeAt pb po vs) (hpb : pb < w.heap.size)
    (hp : ∀ (i : Nat) (v : Value) (bs : List Int), vs[i]? = some v → bss[i]? = some bs → PartAt w v bs) (hn : bss.flatten.length ≤ 1000000000000000000) (hn63 : n ≤ 4611686018427387904) :
    Calls Tryd.prog 22 #[.slice (some ⟨pb, po, none⟩) n pc] w fun e w' => e = .returned (.agg (vB (hashOf bss.flatten))) ∧ Below w.heap.size w w' := by
  have hz := zero38
  have h2 := hL.two
  go_enter Tryd.func22, Tryd.ntmps22
  go_wp2
  go_loopw [8] (fun i wr => ∃ (k : Nat) (ws : List Int), k ≤ n ∧ i = .int .i64 k ∧ Below w.heap.size w wr ∧ w.heap.size + 2 ≤ wr.heap.size ∧ wr.heap[w.heap.size]? = some (.cells (vB (zs 32)) 24) ∧ ws.length = 8 ∧ ((bss.take k).flatten ≠ [] → ws = wordsOf (bss.take k).flatten) ∧ wr.heap[w.heap.size + 1]? = some (.cells (hObj ws (remB (bss.take k).flatten) (bss.take k).flatten.length) 37)) (fun i _ => n - (intOf i).toNat)
  case atStart =>
    exact ⟨0, zs 8, by omega, rfl, ((Below.refl _ _).alloc (Nat.le_refl _) _).alloc (by simp) _, by simp, heap_alloc2_old _ _ _, rfl, fun h => absurd rfl h, by rw [List.take_zero, List.flatten_nil, remB_nil]; exact heap_alloc2_new _ _ _⟩
  case round =>
    obtain ⟨k, ws, hk, rfl, hbl, hsz, h0, hws, hwa, h1⟩ := hrel
    by_cases hlt : k < n
    · obtain ⟨v, hv⟩ : ∃ v, vs[k]? = some v := ⟨vs[k], List.getElem?_eq_getElem (by omega)⟩
      obtain ⟨bs, hbs⟩ : ∃ bs, bss[k]? = some bs := ⟨bss[k], List.getElem?_eq_getElem (by omega)⟩
      have hpk := hp k v bs hv hbs
      have htk : (bss.take (k + 1)).flatten = (bss.take k).flatten ++ bs := by
        rw [List.take_add_one, hbs]; simp
      have hlk : (bss.take k).flatten.length + bs.length ≤ 1000000000000000000 := by
        have e : bss.flatten = (bss.take (k + 1)).flatten ++ (bss.drop (k + 1)).flatten := by rw [← List.flatten_append, List.take_append_drop]
        rw [e, htk] at hn
        simp only [List.length_append] at hn
        omega
      have hc : wr.cell? ⟨pb, po + k, none⟩ = some v := by rw [hbl.cell (show pb < w.heap.size from hpb)]; exact hr k v hv
      have HTK : Hid ((bss.take (k + 1)).flatten = (bss.take k).flatten ++ bs) := htk
      have HWA : Hid ((bss.take k).flatten ≠ [] → ws = wordsOf (bss.take k).flatten) := hwa
      clear htk hwa hv hbs hp hn
      generalize (bss.take k).flatten = A at *
      go_wp2_with fail
      have hLr := hL.below hbl hL.two
      refine (write_part (w.heap.size + 1) A bs ws hws HWA.out wr hLr (by omega) h1 v w hpk hbl (by omega) (by omega)).mono ?_
      rintro e w4 ⟨rfl, h4, g4⟩
      have b4 : Below w.heap.size w w4 := hbl.grown g4 (by omega) (fun k hk => by injection hk; omega)
      have h40 : w4.heap[w.heap.size]? = some (.cells (vB (zs 32)) 24) := by rw [g4.block _ (by omega) (by simp)]; exact h0
      have s4 : w.heap.size + 2 ≤ w4.heap.size := Nat.le_trans hsz g4.size
      clear h1 h0 hc hbl hsz g4 hLr
      go_wp2
      go_roundw
      case rel =>
        refine ⟨k + 1, wordsOf (A ++ bs), by omega, by go_num, b4, s4, h40, wordsOf_length _, ?_, ?_⟩
        · intro _; rw [HTK.out]
        · rw [HTK.out]; exact h4
      case measure => simp [intOf]; omega
    · have ek : (bss.take k).flatten = bss.flatten := by rw [List.take_of_length_le (by omega)]
      rw [ek] at h1 hwa
      have HWA : Hid (bss.flatten ≠ [] → ws = wordsOf bss.flatten) := hwa
      clear ek hp hwa
      have hLr := hL.below hbl hL.two
      go_wp2_with fail
      refine (sum_any (w.heap.size + 1) bss.flatten ws hws HWA.out wr hLr h1 hn).mono ?_
      rintro e w5 ⟨rfl, b5⟩
      have h50 : w5.heap[w.heap.size]? = some (.cells (vB (zs 32)) 24) := by rw [b5.block _ (by omega)]; exact h0
      have b05 : Below w.heap.size w w5 := hbl.trans (b5.mono (by omega))
      clear h1 h0 hbl b5 hLr
      go_wp2_with (first | (refine store24 rfl _ _ rfl _ (hashOf bss.flatten) rfl rfl (hashOf_length bss.flatten) 24 (zs 32) rfl h50 ?_))
      exact bodyPost_ret (v := .agg (vB (hashOf bss.flatten))) (results_cell_row (p := 2) (ty := 24) Tryd.results22 _ _ w.heap.size 24 _ (0, 0) _ rfl (setRow_same h50) Tryd.underlying24 rfl (by rw [vB_size, hashOf_length]; kernel_rfl)) rfl ⟨rfl, below_setRow b05 (Nat.le_refl _) _⟩
end Go.Proofs.YtnpjknnalekdpaaDoor
namespace Go.Proofs.YtnpjknnalekdpaaDoor
set_option linter.unusedSimpArgs false
set_option linter.unusedVariables false
open Go.RowKit
theorem store24n {ops : Array Oper} {rest : List Oper} {o : Oper} {a : Act} {w0 : World} {Q : Exit → Act → World → Prop} (hgd : o.guard = none) (x y : Operand) (ho : o.op = .store 24 x y) (l : List Int) (hl : l.length = 32) (hx : a.eval x = .pointer (some ⟨w0.heap.size, 0, none⟩)) (hy : a.eval y = .agg (vB l))
    (h : ∀ w2 : World, w2.heap[w0.heap.size]? = some (.cells (vB l) 24) → Below w0.heap.size w0 w2 → w2.cell? ⟨w0.heap.size, 0, none⟩ = some (.int .u8 (gi l 0)) → w2.cell? ⟨w0.heap.size, 31, none⟩ = some (.int .u8 (gi l 31)) → wpList Tryd.prog ops Q rest (a.put o.dst undef) w2) : wpList Tryd.prog ops Q (o :: rest) a (w0.alloc (.cells (vB (zs 32)) 24)) := by
  refine store24 hgd x y ho w0.heap.size l hx hy hl 24 (zs 32) rfl (heap_alloc_new _ _) ?_
  rw [World.setRow_alloc_new]
  have f := heap_alloc_new w0 (.cells (vB l) 24)
  exact h _ f ((Below.refl _ _).alloc (Nat.le_refl _) _) (row_cell f (vB_at l 0 (by omega))) (row_cell f (vB_at l 31 (by omega)))
end Go.Proofs.YtnpjknnalekdpaaDoor
namespace Go.Proofs.YtnpjknnalekdpaaDoor
set_option linter.unusedSimpArgs false
set_option linter.unusedVariables false
open Go.RowKit
/-- The value v is a slice of the call's own, of the bytes l. -/
def OwnB (w : World) (base : Nat) (v : Value) (l : List Int) : Prop := w.ownsRow base 5 1 v l.length (vB l).toList
set_option maxRecDepth 100000 in
theorem info5 : (Tryd.prog.info? 5).map (fun i => (i.zero, i.size, i.bytes)) = some (some (.int .u8 0), 1, 1) := by kernel_rfl
set_option maxRecDepth 100000 in
theorem appendB {ops : Array Oper} {rest : List Oper} {o : Oper} {a : Act} {w : World} {Q : Exit → Act → World → Prop} (hgd : o.guard = none) (s x : Operand)
    (ho : o.op = .call { callee := .builtin .append, args := #[s, x], argTypes := #[22, 22] }) (base : Nat) (v : Value) (l : List Int) (hs : a.eval s = v) (hown : OwnB w base v l)
    (sv : Value) (ys : List Int) (hx : a.eval x = sv) (hp : PartAt w sv ys) (hlen : l.length + ys.length ≤ 140737488355328) (hbase : base ≤ w.heap.size)
    (h : ∀ v' w', OwnB w' base v' (l ++ ys) → w.grownBy w' v.ownBlock → (v'.ownBlock = v.ownBlock ∨ v'.ownBlock = some w.heap.size) → wpList Tryd.prog ops Q rest (a.put o.dst v') w') : wpList Tryd.prog ops Q (o :: rest) a w := by
  obtain ⟨i, hi, hz0, hz1, hz2⟩ := info_parts info5
  obtain ⟨av, b, off, cp, rfl, h1, h2, h3, h4, h5, h6⟩ := hp
  cases av with
  | none =>
    have hl0 : ys.length = 0 := by
      rcases Nat.eq_zero_or_pos ys.length with h0 | h0
      · exact h0
      · have := h3 h0; cases this
    have hy : ys = [] := List.eq_nil_of_length_eq_zero hl0
    subst hy
    have hc := h6 rfl
    subst hc
    refine wpList_append_own_none hgd s x 22 ho base 5 i 1 Tryd.underlying22 hi v l.length _ hs hown hx ?_
    refine h v w (by simpa using hown) (World.grownBy.refl _ _) (Or.inl rfl)
  | some ad =>
    have hn : ∀ j u, (vB ys).toList[j]? = some u → w.cell? (ad.add j) = some u := fun j u hu => by
      have hj : j < ys.length := by have := (List.getElem?_eq_some_iff.1 hu).1; rw [Array.length_toList, vB_size] at this; exact this
      have e := h3 (by omega)
      injection e with e; subst e
      rw [Addr.add_mid]; exact h4 j u hu
    refine wpList_append_own_at w hgd s x 22 ho base 5 i (.int .u8 0) 1 1 Tryd.underlying22 hi hz0 hz1 hz2 rfl (by omega) v l.length (vB l).toList hs hown ad ys.length cp (vB ys).toList hx (by rw [Array.length_toList, vB_size]; omega) hn
      (fun v hv => by simp [vB] at hv; obtain ⟨y, _, rfl⟩ := hv; rfl) (by unfold maxLen; omega) (by omega) hbase ?_
    intro v' w' h1 h2 _ h4
    refine h v' w' ?_ h2 h4
    unfold OwnB
    rw [List.length_append]
    simpa [vB] using h1
end Go.Proofs.YtnpjknnalekdpaaDoor
namespace Go.Proofs.YtnpjknnalekdpaaDoor
set_option linter.unusedSimpArgs false
set_option linter.unusedVariables false
open Go.RowKit
end Go.Proofs.YtnpjknnalekdpaaDoor
namespace Go.Proofs.YtnpjknnalekdpaaDoor
set_option linter.unusedSimpArgs false
set_option linter.unusedVariables false
open Go.RowKit
set_option maxRecDepth 100000 in
theorem ownB_new (w : World) : OwnB (w.alloc (.cells #[] 5)) w.heap.size (.slice (some ⟨w.heap.size, 0, none⟩) 0 0) [] :=
  ⟨rfl, Or.inr ⟨w.heap.size, 0, #[], rfl, Nat.le_refl _, heap_alloc_new _ _, Nat.le_refl _, by unfold maxLen; omega, rfl, rfl⟩⟩
set_option maxRecDepth 100000 in
theorem run_conv {w : World} {v : Value} {bs : List Int} (h : PartAt w v bs) : (convert 22 9 v).run Tryd.prog w = .ok (.string (strOfNums bs)) w := by
  obtain ⟨av, b, o, cp, rfl, h1, h2, h3, h4, h5, h6⟩ := h
  cases av with
  | none =>
    have hl0 : bs.length = 0 := by
      rcases Nat.eq_zero_or_pos bs.length with h0 | h0
      · exact h0
      · have := h3 h0; cases this
    have hy : bs = [] := List.eq_nil_of_length_eq_zero hl0
    subst hy
    rw [run_convert_bytes_nil w 22 5 Tryd.underlying22 Tryd.underlying5 _ _ 9 Tryd.underlying9]
    rfl
  | some ad =>
    rcases Nat.eq_zero_or_pos bs.length with h0 | h0
    · have hy : bs = [] := List.eq_nil_of_length_eq_zero h0
      subst hy
      rw [run_convert_bytes_string w 22 9 5 _ _ _ Tryd.underlying22 Tryd.underlying5 Tryd.underlying9]
      exact run_bytesToString w ad 0 cp [] (by simpa using run_loadCells_list (P := Tryd.prog) w ad [] (by simp))
    · have e := h3 h0
      injection e with e; subst e
      exact run_convert_bytes_arg w 22 5 Tryd.underlying22 Tryd.underlying5 b o bs.length cp bs rfl (fun i hi => rangeB h4 i hi) 9 Tryd.underlying9
set_option maxRecDepth 100000 in
theorem OwnB.alloc {w : World} {base : Nat} {v : Value} {l : List Int} (h : OwnB w base v l) (ob : Obj) : OwnB (w.alloc ob) base v l := by
  obtain ⟨h1, h2⟩ := h
  refine ⟨h1, ?_⟩
  rcases h2 with h2 | ⟨g, cap, cur, hv, hg, hh, r⟩
  · exact Or.inl h2
  · exact Or.inr ⟨g, cap, cur, hv, hg, by rw [Below.heap_alloc _ _ _ (Array.getElem?_eq_some_iff.1 hh).1]; exact hh, r⟩
set_option maxRecDepth 100000 in
theorem part_new (w : World) (l : List Int) (hl : l.length ≤ 9223372036854775807) : PartAt (w.alloc (.cells (vB l) 5)) (.slice (some ⟨w.heap.size, 0, none⟩) l.length l.length) l :=
  ⟨some ⟨w.heap.size, 0, none⟩, w.heap.size, 0, l.length, rfl, Nat.le_refl _, hl, fun _ => rfl, range_of_block (heap_alloc_new _ _), by simp, fun h => by cases h⟩
end Go.Proofs.YtnpjknnalekdpaaDoor
namespace Go.Proofs.YtnpjknnalekdpaaDoor
set_option linter.unusedSimpArgs false
set_option linter.unusedVariables false
open Go.ChangeShapes Go.WideShapes Go.ChangeAt Go.RowKit
set_option maxRecDepth 100000 in
theorem own : ownKnob Tryd.prog.godebug = none := by kernel_rfl
set_option maxRecDepth 100000 in
theorem laidOut : laidOutB Tryd.prog = true := by kernel_rfl
set_option maxRecDepth 100000 in
theorem gStart : Tryd.prog.globalNamed "redactor/sha.startWords" = some 0 := by kernel_rfl
set_option maxRecDepth 100000 in
theorem gStartType : (Tryd.prog.globals[0]?).map (·.type) = some 34 := by kernel_rfl
set_option maxRecDepth 100000 in
theorem gRound : Tryd.prog.globalNamed "redactor/sha.roundWords" = some 1 := by kernel_rfl
set_option maxRecDepth 100000 in
theorem gRoundType : (Tryd.prog.globals[1]?).map (·.type) = some 92 := by kernel_rfl
set_option maxRecDepth 100000 in
theorem cells35 : Tryd.prog.cellsOf 34 = 8 := by kernel_rfl
set_option maxRecDepth 100000 in
theorem cells44 : Tryd.prog.cellsOf 92 = 64 := by kernel_rfl
set_option maxRecDepth 100000 in
theorem cells34 : Tryd.prog.cellsOf 33 = 1 := by kernel_rfl
set_option maxRecDepth 100000 in
theorem laid_of {W : World} (h : laidMetH Tryd.prog [("redactor/sha.startWords", Rows.laid_redactor_sha_startWords), ("redactor/sha.roundWords", Rows.laid_redactor_sha_roundWords)] W) : Laid W := by
  have h' : laidMet Tryd.prog [("redactor/sha.startWords", Lib.tabData .u32 hWords), ("redactor/sha.roundWords", Lib.tabData .u32 kWords)] W := h
  have t0 : Lib.TabIs Tryd.prog W "redactor/sha.startWords" .u32 hWords := Lib.tabIs_of_head gStart gStartType Tryd.underlying34 Tryd.underlying33 cells34 cells35 h'
  have t1 : Lib.TabIs Tryd.prog W "redactor/sha.roundWords" .u32 kWords := by
    obtain ⟨ps, ⟨g', t', cs, fuel, p, q, _, _, _, _, hq, _⟩, _⟩ := h'
    obtain ⟨g2, t2, cs2, fuel2, p2, q2, hg2, ht2, hvar, hd, _, _⟩ := hq
    obtain rfl := Option.some.inj (gRound.symm.trans hg2)
    obtain rfl := Option.some.inj (gRoundType.symm.trans ht2)
    unfold Lib.TabIs
    rw [hvar, ← Lib.cells_of_tab Tryd.underlying92 Tryd.underlying33 cells34 cells44 hd]
  exact ⟨fun i hi => t0.cell gStart i hi, fun i hi => t1.cell gRound i hi⟩
end Go.Proofs.YtnpjknnalekdpaaDoor
