import Derived.Test.YtjhnnblilfddpaaDoorWg
namespace Go.Proofs.YtjhnnblilfddpaaDoor
set_option linter.unusedSimpArgs false
set_option linter.unusedVariables false
open Go.RowKit
theorem step_load_mid {P : Program} {ops : Array Oper} {op : Oper} {a : Act} {w : World} {K : Act → World → Prop} {Q : Exit → Act → World → Prop} {E : Prop} (hgd : op.guard = none) (ty : TypeId) (x : Operand) (ho : op.op = .load ty x)
    (b o : Nat) (hx : a.eval x = .pointer (some ⟨b, o, none⟩)) (cs : Array Value) (d : TypeDesc) (hc : w.rangeAt b o cs.toList)
    (hu : P.underlying ty = some d) (hd : d.isRow = true) (hi : (P.info? ty).map (·.size) = some cs.size)
    (h : K (a.put op.dst (.agg cs)) w) : if Region.wanted op (yielded ops a.tmps) = true then Oper.wp P op a w K Q else E := by
  have hw : Region.wanted op (yielded ops a.tmps) = true := by simp [Region.wanted, hgd]
  rw [if_pos hw]
  exact wp_load_mid ty x ho b o hx cs.toList d hc hu hd (by simpa using hi) (by simpa using h)
def o8x0 : Oper := { dst := some 47, op := Op.move (Operand.tmp 0), type := 31, pos := "sha.go:81", after := #[], guard := none }
def o8x1 : Oper := { dst := some 48, op := Op.move (Operand.tmp 0), type := 31, pos := "sha.go:81", after := #[], guard := none }
def o8x2 : Oper := { dst := some 49, op := Op.nilCheck (Operand.tmp 48), type := 0, pos := "sha.go:81", after := #[{ on := 1, ground := Ground.data }], guard := none }
def o8x3 : Oper := { dst := some 50, op := Op.fieldAddr 37 (Operand.tmp 49) 0, type := 0, pos := "sha.go:81", after := #[{ on := 2, ground := Ground.data }], guard := none }
def o8x4 : Oper := { dst := some 51, op := Op.load 34 (Operand.tmp 50), type := 34, pos := "sha.go:81", after := #[{ on := 3, ground := Ground.data }], guard := none }
def o8x5 : Oper := { dst := some 52, op := Op.move (Operand.tmp 0), type := 31, pos := "sha.go:81", after := #[], guard := none }
def o8x6 : Oper := { dst := some 53, op := Op.nilCheck (Operand.tmp 52), type := 0, pos := "sha.go:81", after := #[{ on := 5, ground := Ground.data }], guard := none }
def o8x7 : Oper := { dst := some 54, op := Op.fieldAddr 37 (Operand.tmp 53) 1, type := 0, pos := "sha.go:81", after := #[{ on := 6, ground := Ground.data }], guard := none }
def o8x8 : Oper := { dst := some 55, op := Op.load 35 (Operand.tmp 54), type := 35, pos := "sha.go:81", after := #[{ on := 7, ground := Ground.data }], guard := none }
def o8x9 : Oper := { dst := some 56, op := Op.call { callee := Callee.value (Operand.func 46), args := #[Operand.tmp 51, Operand.tmp 55], argTypes := #[34, 35] }, type := 34, pos := "sha.go:81", after := #[{ on := 4, ground := Ground.data }, { on := 8, ground := Ground.data }], guard := none }
def o8x10 : Oper := { dst := some 57, op := Op.nilCheck (Operand.tmp 47), type := 0, pos := "sha.go:81", after := #[{ on := 0, ground := Ground.data }, { on := 0, ground := Ground.phase }, { on := 1, ground := Ground.phase }, { on := 2, ground := Ground.phase }, { on := 3, ground := Ground.phase }, { on := 4, ground := Ground.phase }, { on := 5, ground := Ground.phase }, { on := 6, ground := Ground.phase }, { on := 7, ground := Ground.phase }, { on := 8, ground := Ground.phase }, { on := 9, ground := Ground.phase }], guard := none }
def o8x11 : Oper := { dst := some 58, op := Op.fieldAddr 37 (Operand.tmp 57) 0, type := 0, pos := "sha.go:81", after := #[{ on := 10, ground := Ground.data }, { on := 0, ground := Ground.phase }, { on := 1, ground := Ground.phase }, { on := 2, ground := Ground.phase }, { on := 3, ground := Ground.phase }, { on := 4, ground := Ground.phase }, { on := 5, ground := Ground.phase }, { on := 6, ground := Ground.phase }, { on := 7, ground := Ground.phase }, { on := 8, ground := Ground.phase }, { on := 9, ground := Ground.phase }], guard := none }
def o8x12 : Oper := { dst := none, op := Op.store 34 (Operand.tmp 58) (Operand.tmp 56), type := 0, pos := "sha.go:81", after := #[{ on := 11, ground := Ground.data }, { on := 9, ground := Ground.data }, { on := 9, ground := Ground.chain }, { on := 0, ground := Ground.phase }, { on := 1, ground := Ground.phase }, { on := 2, ground := Ground.phase }, { on := 3, ground := Ground.phase }, { on := 4, ground := Ground.phase }, { on := 5, ground := Ground.phase }, { on := 6, ground := Ground.phase }, { on := 7, ground := Ground.phase }, { on := 8, ground := Ground.phase }, { on := 9, ground := Ground.phase }], guard := none }
def ops8 : Array Oper := #[o8x0, o8x1, o8x2, o8x3, o8x4, o8x5, o8x6, o8x7, o8x8, o8x9, o8x10, o8x11, o8x12]
theorem there_of_row {w : World} {g : Nat} {cs : Array Value} {t : TypeId} (hg : w.heap[g]? = some (.cells cs t)) (o n : Nat) (h : o + n ≤ cs.size) : w.there g o n := fun j hj =>
  ⟨by rw [cell_of_row w g (o + j) cs t (0, 0) hg]; simp; omega, frozen_of_row _ _ _ _ _ hg⟩
theorem put_comm (a : Act) (i j : Nat) (u v : Value) (h : i ≠ j) : (a.put (some i) u).put (some j) v = (a.put (some j) v).put (some i) u := by
  simp only [Act.put]
  rw [Array.setIfInBounds_comm _ _ h]
theorem put_get (a : Act) (i j : Nat) (u : Value) (hi : i < a.tmps.size) : (a.put (some i) u).eval (.tmp j) = if i = j then u else a.eval (.tmp j) := by
  simp [Act.put, Act.eval, Array.getElem?_setIfInBounds]
  split <;> simp_all
theorem put_size (a : Act) (d : Option Nat) (u : Value) : (a.put d u).tmps.size = a.tmps.size := by cases d <;> simp [Act.put]
theorem put_same (a : Act) (i : Nat) (u : Value) (hi : i < a.tmps.size) : (a.put (some i) u).eval (.tmp i) = u := by rw [put_get _ _ _ _ hi]; simp
theorem put_diff (a : Act) (i j : Nat) (u : Value) (h : i ≠ j) : (a.put (some i) u).eval (.tmp j) = a.eval (.tmp j) := by
  simp [Act.put, Act.eval, Array.getElem?_setIfInBounds, h]
set_option maxHeartbeats 400000 in
theorem y_move (a : Act) (o : Oper) (x : Operand) (v : Value) (ho : o.op = .move x) (hg : o.guard = none) (hx : a.eval x = v) (ops : Array Oper) : Yields Tryd.prog ops o v a :=
  Or.inl ⟨by simp [Region.wanted, hg], fun w => by unfold execOp; rw [ho]; show Result.ok (Next.value (a.eval x)) w = _; rw [hx]⟩
set_option maxHeartbeats 400000 in
theorem y_nil (a : Act) (o : Oper) (x : Operand) (p : Addr) (ho : o.op = .nilCheck x) (hg : o.guard = none) (hx : a.eval x = .pointer (some p)) (ops : Array Oper) : Yields Tryd.prog ops o (.pointer (some p)) a :=
  Or.inl ⟨by simp [Region.wanted, hg], fun w => by unfold execOp; simp only [ho, hx]; go_simp⟩
theorem y_f0 (a : Act) (o : Oper) (x : Operand) (b : Nat) (ho : o.op = .fieldAddr 37 x 0) (hg : o.guard = none) (hx : a.eval x = .pointer (some ⟨b, 0, none⟩)) (ops : Array Oper) : Yields Tryd.prog ops o (.pointer (some ⟨b, 0, none⟩)) a :=
  Or.inl ⟨by simp [Region.wanted, hg], fun w => by unfold execOp; simp only [ho, hx]; go_simp⟩
theorem y_f1 (a : Act) (o : Oper) (x : Operand) (b : Nat) (ho : o.op = .fieldAddr 37 x 1) (hg : o.guard = none) (hx : a.eval x = .pointer (some ⟨b, 0, none⟩)) (ops : Array Oper) : Yields Tryd.prog ops o (.pointer (some ⟨b, 8, none⟩)) a :=
  Or.inl ⟨by simp [Region.wanted, hg], fun w => by unfold execOp; simp only [ho, hx]; go_simp⟩
set_option maxRecDepth 100000 in
set_option maxHeartbeats 400000 in
theorem region8 (Q : Exit → Act → World → Prop) (hQ : ∀ c a (t : Nat) v w, Q (.panic c) (a.put (some t) v) w → Q (.panic c) a w) (a : Act) (w4 : World) (hb : Nat) (W B : List Int) (hW : W.length = 8) (hB : B.length = 64) (n : Nat) (hh : w4.heap[hb]? = some (.cells (hObj W B n) 37))
    (hsz : a.tmps.size = 63) (h0 : a.eval (.tmp 0) = .pointer (some ⟨hb, 0, none⟩)) (hL : Laid w4)
    (hfin : ∀ w5, Below w4.heap.size w4 w5 → Q .normal ((((((((((((a.put (some 47) (.pointer (some ⟨hb, 0, none⟩))).put (some 48) (.pointer (some ⟨hb, 0, none⟩))).put (some 49) (.pointer (some ⟨hb, 0, none⟩))).put (some 50) (.pointer (some ⟨hb, 0, none⟩))).put (some 52) (.pointer (some ⟨hb, 0, none⟩))).put (some 53) (.pointer (some ⟨hb, 0, none⟩))).put (some 54) (.pointer (some ⟨hb, 8, none⟩))).put (some 51) (.agg (vW W))).put (some 55) (.agg (vB B))).put (some 56) (.agg (vW (comp W B)))).put (some 57) (.pointer (some ⟨hb, 0, none⟩))).put (some 58) (.pointer (some ⟨hb, 0, none⟩))) (w5.setCells hb 0 (vW (comp W B)).toList)) : (Code.region 8 ops8 true).wp Tryd.prog Q a w4 := by
  refine wp_region_any (by kernel_rfl) ?_
  change wpAny _ _ _ _ 13 _ _ (World.drew _)
  have s0 := hsz
  have k0x0 := h0
  generalize hq0 : a = a0 at *
  refine wpAny_take (i := 0) (oi := o8x0) (v := .pointer (some ⟨hb, 0, none⟩)) rfl (by kernel_rfl) (by kernel_rfl) (by kernel_rfl) (fun c a w h => hQ c a _ _ w h) (y_move a0 o8x0 (.tmp 0) (.pointer (some ⟨hb, 0, none⟩)) rfl rfl k0x0 ops8) ?_
  change wpAny _ _ _ _ _ _ (a0.put (some 47) (.pointer (some ⟨hb, 0, none⟩))) _
  have s1 : (a0.put (some 47) (.pointer (some ⟨hb, 0, none⟩))).tmps.size = 63 := by rw [put_size]; exact s0
  have k1x0 : (a0.put (some 47) (.pointer (some ⟨hb, 0, none⟩))).eval (.tmp 0) = .pointer (some ⟨hb, 0, none⟩) := by rw [put_diff _ _ _ _ (by decide)]; exact k0x0
  have k1x47 : (a0.put (some 47) (.pointer (some ⟨hb, 0, none⟩))).eval (.tmp 47) = .pointer (some ⟨hb, 0, none⟩) := put_same _ _ _ (by omega)
  generalize hq1 : a0.put (some 47) (.pointer (some ⟨hb, 0, none⟩)) = a1 at *
  refine wpAny_take (i := 1) (oi := o8x1) (v := .pointer (some ⟨hb, 0, none⟩)) rfl (by kernel_rfl) (by kernel_rfl) (by kernel_rfl) (fun c a w h => hQ c a _ _ w h) (y_move a1 o8x1 (.tmp 0) (.pointer (some ⟨hb, 0, none⟩)) rfl rfl k1x0 ops8) ?_
  change wpAny _ _ _ _ _ _ (a1.put (some 48) (.pointer (some ⟨hb, 0, none⟩))) _
  have s2 : (a1.put (some 48) (.pointer (some ⟨hb, 0, none⟩))).tmps.size = 63 := by rw [put_size]; exact s1
  have k2x0 : (a1.put (some 48) (.pointer (some ⟨hb, 0, none⟩))).eval (.tmp 0) = .pointer (some ⟨hb, 0, none⟩) := by rw [put_diff _ _ _ _ (by decide)]; exact k1x0
  have k2x47 : (a1.put (some 48) (.pointer (some ⟨hb, 0, none⟩))).eval (.tmp 47) = .pointer (some ⟨hb, 0, none⟩) := by rw [put_diff _ _ _ _ (by decide)]; exact k1x47
  have k2x48 : (a1.put (some 48) (.pointer (some ⟨hb, 0, none⟩))).eval (.tmp 48) = .pointer (some ⟨hb, 0, none⟩) := put_same _ _ _ (by omega)
  generalize hq2 : a1.put (some 48) (.pointer (some ⟨hb, 0, none⟩)) = a2 at *
  refine wpAny_take (i := 2) (oi := o8x2) (v := .pointer (some ⟨hb, 0, none⟩)) rfl (by kernel_rfl) (by kernel_rfl) (by kernel_rfl) (fun c a w h => hQ c a _ _ w h) (y_nil a2 o8x2 (.tmp 48) ⟨hb, 0, none⟩ rfl rfl k2x48 ops8) ?_
  change wpAny _ _ _ _ _ _ (a2.put (some 49) (.pointer (some ⟨hb, 0, none⟩))) _
  have s3 : (a2.put (some 49) (.pointer (some ⟨hb, 0, none⟩))).tmps.size = 63 := by rw [put_size]; exact s2
  have k3x0 : (a2.put (some 49) (.pointer (some ⟨hb, 0, none⟩))).eval (.tmp 0) = .pointer (some ⟨hb, 0, none⟩) := by rw [put_diff _ _ _ _ (by decide)]; exact k2x0
  have k3x47 : (a2.put (some 49) (.pointer (some ⟨hb, 0, none⟩))).eval (.tmp 47) = .pointer (some ⟨hb, 0, none⟩) := by rw [put_diff _ _ _ _ (by decide)]; exact k2x47
  have k3x48 : (a2.put (some 49) (.pointer (some ⟨hb, 0, none⟩))).eval (.tmp 48) = .pointer (some ⟨hb, 0, none⟩) := by rw [put_diff _ _ _ _ (by decide)]; exact k2x48
  have k3x49 : (a2.put (some 49) (.pointer (some ⟨hb, 0, none⟩))).eval (.tmp 49) = .pointer (some ⟨hb, 0, none⟩) := put_same _ _ _ (by omega)
  generalize hq3 : a2.put (some 49) (.pointer (some ⟨hb, 0, none⟩)) = a3 at *
  refine wpAny_take (i := 3) (oi := o8x3) (v := .pointer (some ⟨hb, 0, none⟩)) rfl (by kernel_rfl) (by kernel_rfl) (by kernel_rfl) (fun c a w h => hQ c a _ _ w h) (y_f0 a3 o8x3 (.tmp 49) hb rfl rfl k3x49 ops8) ?_
  change wpAny _ _ _ _ _ _ (a3.put (some 50) (.pointer (some ⟨hb, 0, none⟩))) _
  have s4 : (a3.put (some 50) (.pointer (some ⟨hb, 0, none⟩))).tmps.size = 63 := by rw [put_size]; exact s3
  have k4x0 : (a3.put (some 50) (.pointer (some ⟨hb, 0, none⟩))).eval (.tmp 0) = .pointer (some ⟨hb, 0, none⟩) := by rw [put_diff _ _ _ _ (by decide)]; exact k3x0
  have k4x47 : (a3.put (some 50) (.pointer (some ⟨hb, 0, none⟩))).eval (.tmp 47) = .pointer (some ⟨hb, 0, none⟩) := by rw [put_diff _ _ _ _ (by decide)]; exact k3x47
  have k4x48 : (a3.put (some 50) (.pointer (some ⟨hb, 0, none⟩))).eval (.tmp 48) = .pointer (some ⟨hb, 0, none⟩) := by rw [put_diff _ _ _ _ (by decide)]; exact k3x48
  have k4x49 : (a3.put (some 50) (.pointer (some ⟨hb, 0, none⟩))).eval (.tmp 49) = .pointer (some ⟨hb, 0, none⟩) := by rw [put_diff _ _ _ _ (by decide)]; exact k3x49
  have k4x50 : (a3.put (some 50) (.pointer (some ⟨hb, 0, none⟩))).eval (.tmp 50) = .pointer (some ⟨hb, 0, none⟩) := put_same _ _ _ (by omega)
  generalize hq4 : a3.put (some 50) (.pointer (some ⟨hb, 0, none⟩)) = a4 at *
  refine wpAny_take (i := 5) (oi := o8x5) (v := .pointer (some ⟨hb, 0, none⟩)) rfl (by kernel_rfl) (by kernel_rfl) (by kernel_rfl) (fun c a w h => hQ c a _ _ w h) (y_move a4 o8x5 (.tmp 0) (.pointer (some ⟨hb, 0, none⟩)) rfl rfl k4x0 ops8) ?_
  change wpAny _ _ _ _ _ _ (a4.put (some 52) (.pointer (some ⟨hb, 0, none⟩))) _
  have s5 : (a4.put (some 52) (.pointer (some ⟨hb, 0, none⟩))).tmps.size = 63 := by rw [put_size]; exact s4
  have k5x0 : (a4.put (some 52) (.pointer (some ⟨hb, 0, none⟩))).eval (.tmp 0) = .pointer (some ⟨hb, 0, none⟩) := by rw [put_diff _ _ _ _ (by decide)]; exact k4x0
  have k5x47 : (a4.put (some 52) (.pointer (some ⟨hb, 0, none⟩))).eval (.tmp 47) = .pointer (some ⟨hb, 0, none⟩) := by rw [put_diff _ _ _ _ (by decide)]; exact k4x47
  have k5x48 : (a4.put (some 52) (.pointer (some ⟨hb, 0, none⟩))).eval (.tmp 48) = .pointer (some ⟨hb, 0, none⟩) := by rw [put_diff _ _ _ _ (by decide)]; exact k4x48
  have k5x49 : (a4.put (some 52) (.pointer (some ⟨hb, 0, none⟩))).eval (.tmp 49) = .pointer (some ⟨hb, 0, none⟩) := by rw [put_diff _ _ _ _ (by decide)]; exact k4x49
  have k5x50 : (a4.put (some 52) (.pointer (some ⟨hb, 0, none⟩))).eval (.tmp 50) = .pointer (some ⟨hb, 0, none⟩) := by rw [put_diff _ _ _ _ (by decide)]; exact k4x50
  have k5x52 : (a4.put (some 52) (.pointer (some ⟨hb, 0, none⟩))).eval (.tmp 52) = .pointer (some ⟨hb, 0, none⟩) := put_same _ _ _ (by omega)
  generalize hq5 : a4.put (some 52) (.pointer (some ⟨hb, 0, none⟩)) = a5 at *
  refine wpAny_take (i := 6) (oi := o8x6) (v := .pointer (some ⟨hb, 0, none⟩)) rfl (by kernel_rfl) (by kernel_rfl) (by kernel_rfl) (fun c a w h => hQ c a _ _ w h) (y_nil a5 o8x6 (.tmp 52) ⟨hb, 0, none⟩ rfl rfl k5x52 ops8) ?_
  change wpAny _ _ _ _ _ _ (a5.put (some 53) (.pointer (some ⟨hb, 0, none⟩))) _
  have s6 : (a5.put (some 53) (.pointer (some ⟨hb, 0, none⟩))).tmps.size = 63 := by rw [put_size]; exact s5
  have k6x0 : (a5.put (some 53) (.pointer (some ⟨hb, 0, none⟩))).eval (.tmp 0) = .pointer (some ⟨hb, 0, none⟩) := by rw [put_diff _ _ _ _ (by decide)]; exact k5x0
  have k6x47 : (a5.put (some 53) (.pointer (some ⟨hb, 0, none⟩))).eval (.tmp 47) = .pointer (some ⟨hb, 0, none⟩) := by rw [put_diff _ _ _ _ (by decide)]; exact k5x47
  have k6x48 : (a5.put (some 53) (.pointer (some ⟨hb, 0, none⟩))).eval (.tmp 48) = .pointer (some ⟨hb, 0, none⟩) := by rw [put_diff _ _ _ _ (by decide)]; exact k5x48
  have k6x49 : (a5.put (some 53) (.pointer (some ⟨hb, 0, none⟩))).eval (.tmp 49) = .pointer (some ⟨hb, 0, none⟩) := by rw [put_diff _ _ _ _ (by decide)]; exact k5x49
  have k6x50 : (a5.put (some 53) (.pointer (some ⟨hb, 0, none⟩))).eval (.tmp 50) = .pointer (some ⟨hb, 0, none⟩) := by rw [put_diff _ _ _ _ (by decide)]; exact k5x50
  have k6x52 : (a5.put (some 53) (.pointer (some ⟨hb, 0, none⟩))).eval (.tmp 52) = .pointer (some ⟨hb, 0, none⟩) := by rw [put_diff _ _ _ _ (by decide)]; exact k5x52
  have k6x53 : (a5.put (some 53) (.pointer (some ⟨hb, 0, none⟩))).eval (.tmp 53) = .pointer (some ⟨hb, 0, none⟩) := put_same _ _ _ (by omega)
  generalize hq6 : a5.put (some 53) (.pointer (some ⟨hb, 0, none⟩)) = a6 at *
  refine wpAny_take (i := 7) (oi := o8x7) (v := .pointer (some ⟨hb, 8, none⟩)) rfl (by kernel_rfl) (by kernel_rfl) (by kernel_rfl) (fun c a w h => hQ c a _ _ w h) (y_f1 a6 o8x7 (.tmp 53) hb rfl rfl k6x53 ops8) ?_
  change wpAny _ _ _ _ _ _ (a6.put (some 54) (.pointer (some ⟨hb, 8, none⟩))) _
  have s7 : (a6.put (some 54) (.pointer (some ⟨hb, 8, none⟩))).tmps.size = 63 := by rw [put_size]; exact s6
  have k7x0 : (a6.put (some 54) (.pointer (some ⟨hb, 8, none⟩))).eval (.tmp 0) = .pointer (some ⟨hb, 0, none⟩) := by rw [put_diff _ _ _ _ (by decide)]; exact k6x0
  have k7x47 : (a6.put (some 54) (.pointer (some ⟨hb, 8, none⟩))).eval (.tmp 47) = .pointer (some ⟨hb, 0, none⟩) := by rw [put_diff _ _ _ _ (by decide)]; exact k6x47
  have k7x48 : (a6.put (some 54) (.pointer (some ⟨hb, 8, none⟩))).eval (.tmp 48) = .pointer (some ⟨hb, 0, none⟩) := by rw [put_diff _ _ _ _ (by decide)]; exact k6x48
  have k7x49 : (a6.put (some 54) (.pointer (some ⟨hb, 8, none⟩))).eval (.tmp 49) = .pointer (some ⟨hb, 0, none⟩) := by rw [put_diff _ _ _ _ (by decide)]; exact k6x49
  have k7x50 : (a6.put (some 54) (.pointer (some ⟨hb, 8, none⟩))).eval (.tmp 50) = .pointer (some ⟨hb, 0, none⟩) := by rw [put_diff _ _ _ _ (by decide)]; exact k6x50
  have k7x52 : (a6.put (some 54) (.pointer (some ⟨hb, 8, none⟩))).eval (.tmp 52) = .pointer (some ⟨hb, 0, none⟩) := by rw [put_diff _ _ _ _ (by decide)]; exact k6x52
  have k7x53 : (a6.put (some 54) (.pointer (some ⟨hb, 8, none⟩))).eval (.tmp 53) = .pointer (some ⟨hb, 0, none⟩) := by rw [put_diff _ _ _ _ (by decide)]; exact k6x53
  have k7x54 : (a6.put (some 54) (.pointer (some ⟨hb, 8, none⟩))).eval (.tmp 54) = .pointer (some ⟨hb, 8, none⟩) := put_same _ _ _ (by omega)
  generalize hq7 : a6.put (some 54) (.pointer (some ⟨hb, 8, none⟩)) = a7 at *
  have hrw : w4.drew.rangeAt hb 0 (vW W).toList := fun j v hv => by
    have hj : j < 8 := by have := (List.getElem?_eq_some_iff.1 hv).1; rw [Array.length_toList, vW_size, hW] at this; exact this
    have e : (vW W).toList[j]? = some (.int .u32 (gi W j)) := by have := vW_at W j (by omega); simpa using this
    rw [e] at hv; cases hv
    rw [Nat.zero_add]; exact row_cell hh (hObj_w W B n hW j hj)
  have hrb : w4.drew.rangeAt hb 8 (vB B).toList := fun j v hv => by
    have hj : j < 64 := by have := (List.getElem?_eq_some_iff.1 hv).1; rw [Array.length_toList, vB_size, hB] at this; exact this
    have e : (vB B).toList[j]? = some (.int .u8 (gi B j)) := by have := vB_at B j (by omega); simpa using this
    rw [e] at hv; cases hv
    exact row_cell hh (hObj_b W B n hW hB j hj)
  have tail : ∀ listed, listed = #[true, true, true, true, true, true, true, true, true, false, false, false, false] → wpAny Tryd.prog .any ops8 Q 4 listed ((a7.put (some 51) (.agg (vW W))).put (some 55) (.agg (vB B))) w4.drew := by
    intro listed hl
    subst hl
    have s8 : (a7.put (some 51) (.agg (vW W))).tmps.size = 63 := by rw [put_size]; exact s7
    have s9 : ((a7.put (some 51) (.agg (vW W))).put (some 55) (.agg (vB B))).tmps.size = 63 := by rw [put_size]; exact s8
    have e51 : ((a7.put (some 51) (.agg (vW W))).put (some 55) (.agg (vB B))).eval (.tmp 51) = .agg (vW W) := by rw [put_diff _ _ _ _ (by decide)]; exact put_same _ _ _ (by omega)
    have e55 : ((a7.put (some 51) (.agg (vW W))).put (some 55) (.agg (vB B))).eval (.tmp 55) = .agg (vB B) := put_same _ _ _ (by omega)
    have e47 : ((a7.put (some 51) (.agg (vW W))).put (some 55) (.agg (vB B))).eval (.tmp 47) = .pointer (some ⟨hb, 0, none⟩) := by rw [put_diff _ _ _ _ (by decide), put_diff _ _ _ _ (by decide)]; exact k7x47
    generalize (a7.put (some 51) (.agg (vW W))).put (some 55) (.agg (vB B)) = a9 at *
    refine wpAny_ready (rs := [9]) (by kernel_rfl) (by simp) ?_
    refine AllReady.cons (o := o8x9) rfl (fun K hK => ?_) AllReady.nil
    rw [if_pos (by rfl)]
    have hc : Oper.wp Tryd.prog o8x9 a9 w4.drew K Q := by
      have t51 : a9.tmps[51]'(by omega) = .agg (vW W) := by rw [← e51]; simp [Act.eval, s9]
      have t55 : a9.tmps[55]'(by omega) = .agg (vB B) := by rw [← e55]; simp [Act.eval, s9]
      unfold o8x9
      go_simp
      refine (turn_any W B hW hB w4.drew ⟨fun i hi => hL.start i hi, fun i hi => hL.round i hi⟩).mono ?_
      rintro e w5 ⟨rfl, hb5⟩
      refine hK (a9.put (some 56) (.agg (vW (comp W B)))) w5 ?_
      have f47 : (a9.put (some 56) (.agg (vW (comp W B)))).eval (.tmp 47) = .pointer (some ⟨hb, 0, none⟩) := by rw [put_diff _ _ _ _ (by decide)]; exact e47
      have f56 : (a9.put (some 56) (.agg (vW (comp W B)))).eval (.tmp 56) = .agg (vW (comp W B)) := put_same _ _ _ (by omega)
      have s10 : (a9.put (some 56) (.agg (vW (comp W B)))).tmps.size = 63 := by rw [put_size]; exact s9
      have hfin2 := hfin w5 ⟨hb5.os, hb5.tape, hb5.output, hb5.size, hb5.block⟩
      generalize a9.put (some 56) (.agg (vW (comp W B))) = b0 at *
      refine wpAny_take (i := 10) (oi := o8x10) (v := .pointer (some ⟨hb, 0, none⟩)) rfl (by kernel_rfl) (by kernel_rfl) (by kernel_rfl) (fun c a w h => hQ c a _ _ w h) (y_nil b0 o8x10 (.tmp 47) ⟨hb, 0, none⟩ rfl rfl f47 ops8) ?_
      change wpAny _ _ _ _ _ _ (b0.put (some 57) (.pointer (some ⟨hb, 0, none⟩))) _
      have s11 : (b0.put (some 57) (.pointer (some ⟨hb, 0, none⟩))).tmps.size = 63 := by rw [put_size]; exact s10
      have f57 : (b0.put (some 57) (.pointer (some ⟨hb, 0, none⟩))).eval (.tmp 57) = .pointer (some ⟨hb, 0, none⟩) := put_same _ _ _ (by omega)
      have f56' : (b0.put (some 57) (.pointer (some ⟨hb, 0, none⟩))).eval (.tmp 56) = .agg (vW (comp W B)) := by rw [put_diff _ _ _ _ (by decide)]; exact f56
      generalize b0.put (some 57) (.pointer (some ⟨hb, 0, none⟩)) = b1 at *
      refine wpAny_take (i := 11) (oi := o8x11) (v := .pointer (some ⟨hb, 0, none⟩)) rfl (by kernel_rfl) (by kernel_rfl) (by kernel_rfl) (fun c a w h => hQ c a _ _ w h) (y_f0 b1 o8x11 (.tmp 57) hb rfl rfl f57 ops8) ?_
      change wpAny _ _ _ _ _ _ (b1.put (some 58) (.pointer (some ⟨hb, 0, none⟩))) _
      have f58 : (b1.put (some 58) (.pointer (some ⟨hb, 0, none⟩))).eval (.tmp 58) = .pointer (some ⟨hb, 0, none⟩) := put_same _ _ _ (by omega)
      have f56'' : (b1.put (some 58) (.pointer (some ⟨hb, 0, none⟩))).eval (.tmp 56) = .agg (vW (comp W B)) := by rw [put_diff _ _ _ _ (by decide)]; exact f56'
      generalize b1.put (some 58) (.pointer (some ⟨hb, 0, none⟩)) = b2 at *
      refine wpAny_ready (rs := [12]) (by kernel_rfl) (by simp) ?_
      refine AllReady.cons (o := o8x12) rfl (fun K2 hK2 => ?_) AllReady.nil
      rw [if_pos (by rfl)]
      have hh5 : w5.heap[hb]? = some (.cells (hObj W B n) 37) := by
        have hlt : hb < w4.heap.size := (Array.getElem?_eq_some_iff.1 hh).1
        rw [hb5.block hb hlt]; exact hh
      refine wp_store_mid 34 (.tmp 58) (.tmp 56) rfl hb 0 (vW (comp W B)) f58 f56'' (there_of_row hh5 0 _ (by rw [hObj_size _ _ _ hW hB, vW_size, comp_length]; decide)) (by rw [vW_size, comp_length]; kernel_rfl) (vW_all _) ?_
      refine hK2 _ _ ?_
      exact wpAny_done (by kernel_rfl) hfin2 _
    exact hc
  refine wpAny_ready (rs := [4, 8]) (by kernel_rfl) (by simp) ?_
  refine AllReady.cons (o := o8x4) rfl (fun K hK => ?_) (AllReady.cons (o := o8x8) rfl (fun K hK => ?_) AllReady.nil)
  · refine step_load_mid rfl 34 (.tmp 50) rfl hb 0 k7x50 (vW W) _ hrw Tryd.underlying34 rfl (by rw [vW_size, hW]; kernel_rfl) ?_
    refine hK _ _ ?_
    change wpAny _ _ _ _ _ _ (a7.put (some 51) (.agg (vW W))) _
    refine wpAny_ready (rs := [8]) (by kernel_rfl) (by simp) ?_
    refine AllReady.cons (o := o8x8) rfl (fun K hK => ?_) AllReady.nil
    refine step_load_mid rfl 35 (.tmp 54) rfl hb 8 (by rw [put_diff _ _ _ _ (by decide)]; exact k7x54) (vB B) _ hrb Tryd.underlying35 rfl (by rw [vB_size, hB]; kernel_rfl) ?_
    refine hK _ _ ?_
    exact tail _ (by kernel_rfl)
  · refine step_load_mid rfl 35 (.tmp 54) rfl hb 8 k7x54 (vB B) _ hrb Tryd.underlying35 rfl (by rw [vB_size, hB]; kernel_rfl) ?_
    refine hK _ _ ?_
    change wpAny _ _ _ _ _ _ (a7.put (some 55) (.agg (vB B))) _
    refine wpAny_ready (rs := [4]) (by kernel_rfl) (by simp) ?_
    refine AllReady.cons (o := o8x4) rfl (fun K hK => ?_) AllReady.nil
    refine step_load_mid rfl 34 (.tmp 50) rfl hb 0 (by rw [put_diff _ _ _ _ (by decide)]; exact k7x50) (vW W) _ hrw Tryd.underlying34 rfl (by rw [vW_size, hW]; kernel_rfl) ?_
    refine hK _ _ ?_
    change wpAny _ _ _ _ _ _ ((a7.put (some 55) (.agg (vB B))).put (some 51) (.agg (vW W))) _
    rw [put_comm _ 55 51 _ _ (by decide)]
    exact tail _ (by kernel_rfl)
end Go.Proofs.YtjhnnblilfddpaaDoor
