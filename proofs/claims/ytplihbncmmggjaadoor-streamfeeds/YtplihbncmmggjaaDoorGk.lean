import Derived.Test.YtplihbncmmggjaaDoorGj
namespace Go.Proofs.YtplihbncmmggjaaDoor
set_option linter.unusedSimpArgs false
set_option linter.unusedVariables false
open Go.RowKit
theorem loadM65g {ops : Array Oper} {rest : List Oper} {o : Oper} {a : Act} {w : World} {Q : Exit → Act → World → Prop} (hw : Region.wanted o (yielded ops a.tmps) = true) (x : Operand) (ho : o.op = .load 65 x) (g : Nat) (hx : a.eval x = .pointer (some ⟨g, 0, none⟩)) (m : Msg) (hm : m.Ok) (hb : BoxM 65 w g m)
    (h : wpList Tryd.prog ops Q rest (a.put o.dst (.agg (mC m).toArray)) w) : wpList Tryd.prog ops Q (o :: rest) a w := by
  unfold wpList
  rw [if_pos hw]
  exact Or.inl (wp_load_mid 65 x ho g 0 hx (mC m) _ (box_range hb) Tryd.underlying65 rfl (by rw [size65, mC_length m hm]) h)
def msgA : Msg := ⟨4, 1, 0, 1, 0, ⟨#[]⟩, false, false, zs 32, false, 0, zs 32, zs 32, false⟩
theorem msgA_ok : msgA.Ok := ⟨by simp [msgA], by simp [msgA], by simp [msgA], by simp [msgA], by simp [msgA], by simp [msgA], (by show (0 : Nat) ≤ _; omega), by simp [msgA, zs], by simp [msgA, zs], by simp [msgA, zs], zs_bytes _, zs_bytes _, zs_bytes _⟩
theorem msgA_form : formB msgA = true := by
  have e : eqM msgA (ofKind msgA) = true := (eqM_iff _ _).2 rfl
  unfold formB
  rw [e]; rfl
theorem msg0_form : formB msg0 = false := rfl
theorem ceA : (((Tryd.zeroCells68.setIfInBounds 0 (Value.int IntKind.i64 4)).setIfInBounds 1 (Value.int IntKind.i64 1)).setIfInBounds 3 (Value.int IntKind.u64 1)) = (mC msgA).toArray := by
  rw [zero68, List.setIfInBounds_toArray, List.setIfInBounds_toArray, List.setIfInBounds_toArray]; rfl
set_option maxHeartbeats 1000000 in
set_option maxRecDepth 100000 in
theorem awake5_any (w : World) : Calls Tryd.prog 37 #[] w fun e w' => e = .returned (.bool true) ∧ Below w.heap.size w w' := by
  have F1 : Hid (Calls Tryd.prog 41 #[.agg (((Tryd.zeroCells68.setIfInBounds 0 (Value.int IntKind.i64 4)).setIfInBounds 1 (Value.int IntKind.i64 1)).setIfInBounds 3 (Value.int IntKind.u64 1))] w fun e w' => e = .returned (.bool true) ∧ Below w.heap.size w w') := by
    unfold Hid; rw [ceA]
    have q := formed_any msgA msgA_ok w
    rw [msgA_form] at q
    exact q
  have F2 : Hid (∀ W, Below w.heap.size w W → Calls Tryd.prog 41 #[.agg Tryd.zeroCells68] W fun e w' => e = .returned (.bool false) ∧ Below w.heap.size w w') := fun W b => by
    rw [zero68]
    have q := formed_any msg0 msg0_ok W
    rw [msg0_form] at q
    exact q.mono fun e w' ⟨r1, r2⟩ => ⟨r1, b.trans (r2.mono b.size)⟩
  go_enter Tryd.func37, Tryd.ntmps37
  go_wp2_with fail
  refine F1.out.mono ?_
  rintro e w1 ⟨rfl, b1⟩
  have F3 : Hid (Calls Tryd.prog 41 #[.agg Tryd.zeroCells68] w1 fun e w' => e = .returned (.bool false) ∧ Below w.heap.size w w') := F2.out w1 b1
  clear F1 F2 b1
  go_wp2_with fail
  refine F3.out.mono ?_
  rintro e w2 ⟨rfl, b2⟩
  go_wp2
  go_ret
  exact ⟨rfl, b2⟩
set_option maxHeartbeats 1000000 in
set_option maxRecDepth 100000 in
theorem few5_any (m : Msg) (hm : m.Ok) (w : World) : Calls Tryd.prog 38 #[.agg (mC m).toArray] w fun e w' => e = .returned (.bool (decide ((m.s.size : Int) ≤ 2000))) ∧ Below w.heap.size w w' := by
  have hg := heap_alloc_new w (.cells (mC m).toArray 65)
  have c5 := row_cell hg (mC_5 m)
  have B1 : Hid (Below w.heap.size w (w.alloc (.cells (mC m).toArray 65))) := (Below.refl _ _).alloc (Nat.le_refl _) _
  have hs := hm.s
  generalize (mC m).toArray = C at *
  generalize m.s = s at *
  clear hg hm
  by_cases h : (s.size : Int) ≤ 2000
  · have HD : Hid (decide ((s.size : Int) ≤ 2000) = true) := decide_eq_true h
    go_enter Tryd.func38, Tryd.ntmps38
    go_wp2
    go_ret
    exact ⟨by rw [HD.out]; first | rfl | simp [h], B1.out⟩
  · have HD : Hid (decide ((s.size : Int) ≤ 2000) = false) := decide_eq_false h
    go_enter Tryd.func38, Tryd.ntmps38
    go_wp2
    go_ret
    exact ⟨by rw [HD.out]; first | rfl | simp [h], B1.out⟩
end Go.Proofs.YtplihbncmmggjaaDoor
