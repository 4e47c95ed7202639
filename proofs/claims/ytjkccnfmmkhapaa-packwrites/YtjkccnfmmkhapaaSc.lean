import Derived.Test.YtjkccnfmmkhapaaSb
namespace Go.Proofs.Ytjkccnfmmkhapaa
set_option linter.unusedSimpArgs false
set_option linter.unusedVariables false
open Go.RowKit
theorem strCells_nB (s : ByteArray) : Lib.byteCells s.data.toList = (vB (nB s)).toList := by rw [byteCells_nB, vB_toList]
/-- A text appended to a slice of the call's own, in a region's order. -/
theorem step_appendS {ops : Array Oper} {o : Oper} {a : Act} {w : World} {K : Act → World → Prop} {Q : Exit → Act → World → Prop} {E : Prop} (hgd : o.guard = none) (sl x : Operand)
    (ho : o.op = .call { callee := .builtin .append, args := #[sl, x], argTypes := #[28, 9] }) (base : Nat) (v : Value) (l : List Int) (hv : a.eval sl = v) (hown : OwnB w base v l) (s : ByteArray) (hx : a.eval x = .string s)
    (hlen : l.length + s.size ≤ 140737488355328) (hbase : base ≤ w.heap.size)
    (hK : ∀ v' w', OwnB w' base v' (l ++ nB s) → w.grownBy w' v.ownBlock → K (a.put o.dst v') w') : if Region.wanted o (yielded ops a.tmps) = true then Oper.wp Try.prog o a w K Q else E := by
  have hw : Region.wanted o (yielded ops a.tmps) = true := by simp [Region.wanted, hgd]
  rw [if_pos hw]
  obtain ⟨i, hi, hz0, hz1, hz2⟩ := info_parts info5
  obtain ⟨v', w', hr, h2, h3, h4⟩ := Lib.run_append_own_string (P := Try.prog) w base 28 9 o.type 5 i Try.underlying28 Try.underlying9 hi hz0 hz1 hz2 v l.length (vB l).toList hown s (by unfold maxLen; omega) hlen hbase
  unfold Oper.wp
  simp [execOp, ho, resolve, invoke, builtin, hv, hx, hr, Result.andThen]
  refine hK v' w' ?_ h3
  unfold OwnB
  have e : (vB (l ++ nB s)).toList = (vB l).toList ++ Lib.strCells s := by
    rw [show Lib.strCells s = (vB (nB s)).toList from strCells_nB s]; simp [vB]
  rw [e, List.length_append, nB_length]; exact h2
/-- What right answers. -/
def RightOf (x : It) (w : World) (e : Ending) (w' : World) : Prop := ∃ v, e = .returned (.tuple #[v, .bool (!badB (itSt x))]) ∧ PartAt w' v ((itSt x).getD []) ∧ Below w.heap.size w w'
theorem part_nil (w : World) (h : 0 < w.heap.size) : PartAt w (.slice none 0 0) [] := ⟨none, 0, 0, 0, rfl, Nat.le_refl _, by omega, fun h => by simp at h, fun j v hv => by simp [vB] at hv, h, fun _ => rfl⟩
theorem rightOf_some {x : It} {w w' : World} {e : Ending} {l : List Int} (h : itSt x = some l) (v : Value) (he : e = .returned (.tuple #[v, .bool true])) (hp : PartAt w' v l) (hb : Below w.heap.size w w') : RightOf x w e w' := by
  refine ⟨v, ?_, ?_, hb⟩ <;> rw [h]
  · exact he
  · exact hp
theorem rightOf_none {x : It} {w w' : World} {e : Ending} (h : itSt x = none) (he : e = .returned (.tuple #[.slice none 0 0, .bool false])) (h0 : 0 < w'.heap.size) (hb : Below w.heap.size w w') : RightOf x w e w' := by
  refine ⟨.slice none 0 0, ?_, ?_, hb⟩
  · rw [h]; exact he
  · rw [h]; exact part_nil w' h0
set_option maxHeartbeats 1000000 in
set_option maxRecDepth 100000 in
theorem right_num (x : It) (hx : x.Ok) (k0 : x.kind = 0) (k : Nat) (hk : k = 1 ∨ k = 2 ∨ k = 4 ∨ k = 8) (hz : x.size = (k : Int)) (hf : fitsB x.n k = true) (w : World) : Calls Try.prog 9 #[.agg (itC x)] w (RightOf x w) := by
  have b1 : Below w.heap.size w (w.alloc (.cells (itC x) 34)) := (Below.refl _ _).alloc (Nat.le_refl _) _
  have hg := heap_alloc_new w (.cells (itC x) 34)
  have c0 : (w.alloc (.cells (itC x) 34)).cell? ⟨w.heap.size, 0, none⟩ = some (.int .u8 x.kind) := row_cell hg (itC_0 x)
  have c1 := row_cell hg (itC_1 x)
  have c2 := row_cell hg (itC_2 x)
  have hit : Hid (itSt x = some (numB x.n k)) := by
    unfold Hid itSt numSt
    rw [if_pos k0, hz, show sizeB (k : Int) = true by rcases hk with rfl | rfl | rfl | rfl <;> rfl, Int.toNat_natCast, hf]; rfl
  have hff := of_decide_eq_true hf
  have C : Hid (Calls Try.prog 26 #[.int .u64 x.n, .int .i64 (k : Int)] (w.alloc (.cells (itC x) 34)) fun e w' => ∃ v, e = .returned v ∧ PartAt w' v (numB x.n k) ∧ Below w.heap.size w w') :=
    (lnum_any x.n hx.n0 hx.n1 k (by omega) _).mono fun e w' ⟨v, h1, h2, h3⟩ => ⟨v, h1, h2.partG (by have := h3.size; simp at this; omega), b1.trans (h3.mono (by simp))⟩
  clear hf b1 hg
  rcases hk with rfl | rfl | rfl | rfl
  all_goals
    have hz' : x.size = _ := hz
    have q1 := hff
    simp only [Nat.reduceMul, Int.reducePow] at q1
    rw [hz] at c2
    clear hz hff hz'
    go_enter Try.func9, Try.ntmps9
    go_wp2_with (first | (go_at_call 26; refine C.out.mono ?_; rintro e w3 ⟨v, rfl, p3, b3⟩))
    go_ret2
    exact rightOf_some hit.out v rfl p3 b3
set_option maxHeartbeats 1000000 in
set_option maxRecDepth 100000 in
theorem right_nofit (x : It) (hx : x.Ok) (k0 : x.kind = 0) (k : Nat) (hk : k = 1 ∨ k = 2 ∨ k = 4) (hz : x.size = (k : Int)) (hf : fitsB x.n k = false) (w : World) : Calls Try.prog 9 #[.agg (itC x)] w (RightOf x w) := by
  have b1 : Below w.heap.size w (w.alloc (.cells (itC x) 34)) := (Below.refl _ _).alloc (Nat.le_refl _) _
  have hg := heap_alloc_new w (.cells (itC x) 34)
  have c0 : (w.alloc (.cells (itC x) 34)).cell? ⟨w.heap.size, 0, none⟩ = some (.int .u8 x.kind) := row_cell hg (itC_0 x)
  have c1 := row_cell hg (itC_1 x)
  have c2 := row_cell hg (itC_2 x)
  have hit : Hid (itSt x = none) := by
    unfold Hid itSt numSt
    rw [if_pos k0, hz, Int.toNat_natCast, hf, Bool.and_false]; rfl
  have hff := of_decide_eq_false hf
  have B1 : Hid (Below w.heap.size w (w.alloc (.cells (itC x) 34))) := b1
  clear hf b1 hg
  rcases hk with rfl | rfl | rfl
  all_goals
    have q1 := hff
    simp only [Nat.reduceMul, Int.reducePow] at q1
    have q2 := beq_eq_false_iff_ne.2 q1
    rw [hz] at c2
    clear hz hff
    go_enter Try.func9, Try.ntmps9
    go_wp2
    go_ret2
    exact rightOf_none hit.out rfl (by simp) B1.out
set_option maxHeartbeats 1000000 in
set_option maxRecDepth 100000 in
theorem right_nosize (x : It) (hx : x.Ok) (k0 : x.kind = 0) (hs : sizeB x.size = false) (w : World) : Calls Try.prog 9 #[.agg (itC x)] w (RightOf x w) := by
  have b1 : Below w.heap.size w (w.alloc (.cells (itC x) 34)) := (Below.refl _ _).alloc (Nat.le_refl _) _
  have hg := heap_alloc_new w (.cells (itC x) 34)
  have c0 : (w.alloc (.cells (itC x) 34)).cell? ⟨w.heap.size, 0, none⟩ = some (.int .u8 x.kind) := row_cell hg (itC_0 x)
  have c1 := row_cell hg (itC_1 x)
  have c2 := row_cell hg (itC_2 x)
  have hit : Hid (itSt x = none) := by
    unfold Hid itSt numSt
    rw [if_pos k0, hs, Bool.false_and]; rfl
  have hff := of_decide_eq_false hs
  have z8 : (x.size == 8) = false := by simp; omega
  have z1 : (x.size == 1) = false := by simp; omega
  have z2 : (x.size == 2) = false := by simp; omega
  have z4 : (x.size == 4) = false := by simp; omega
  have B1 : Hid (Below w.heap.size w (w.alloc (.cells (itC x) 34))) := b1
  clear hs b1 hg hff
  go_enter Try.func9, Try.ntmps9
  go_wp2
  go_ret2
  exact rightOf_none hit.out rfl (by simp) B1.out
theorem truth_some (b : Bool) : truthSt b = some [if b then 1 else 0] := by cases b <;> rfl
set_option maxHeartbeats 1000000 in
set_option maxRecDepth 100000 in
theorem right_truth (x : It) (hx : x.Ok) (k1 : x.kind = 1) (w : World) : Calls Try.prog 9 #[.agg (itC x)] w (RightOf x w) := by
  have b1 : Below w.heap.size w (w.alloc (.cells (itC x) 34)) := (Below.refl _ _).alloc (Nat.le_refl _) _
  have hg := heap_alloc_new w (.cells (itC x) 34)
  have c0 : (w.alloc (.cells (itC x) 34)).cell? ⟨w.heap.size, 0, none⟩ = some (.int .u8 x.kind) := row_cell hg (itC_0 x)
  have c3 := row_cell hg (itC_3 x)
  have hit : Hid (itSt x = some [if x.b then 1 else 0]) := by
    unfold Hid itSt
    rw [if_neg (by omega), if_pos k1]; exact truth_some x.b
  have B1 : Hid (Below w.heap.size w (w.alloc (.cells (itC x) 34))) := b1
  have HP : Hid (∀ (y : Int), PartAt ((w.alloc (.cells (itC x) 34)).alloc (.cells #[.int .u8 y] 5)) (.slice (some ⟨w.heap.size + 1, 0, none⟩) 1 1) [y]) := fun y => by
    have := part_new (w.alloc (.cells (itC x) 34)) [y] (by simp)
    rw [show (w.alloc (.cells (itC x) 34)).heap.size = w.heap.size + 1 by simp] at this
    exact this
  clear b1 hg
  cases hb : x.b
  all_goals
    rw [hb] at c3
    go_enter Try.func9, Try.ntmps9
    go_wp2
    go_ret2
    refine rightOf_some hit.out (.slice (some ⟨w.heap.size + 1, 0, none⟩) 1 1) rfl ?_ ?_
    · rw [hb]; exact HP.out _
    · exact B1.out.alloc B1.out.size _
set_option maxHeartbeats 1000000 in
set_option maxRecDepth 100000 in
theorem right_hash (x : It) (hx : x.Ok) (k0 : ¬ x.kind = 0) (k1 : ¬ x.kind = 1) (k2 : ¬ x.kind = 2) (w : World) : Calls Try.prog 9 #[.agg (itC x)] w (RightOf x w) := by
  have b1 : Below w.heap.size w (w.alloc (.cells (itC x) 34)) := (Below.refl _ _).alloc (Nat.le_refl _) _
  have hg := heap_alloc_new w (.cells (itC x) 34)
  have c0 : (w.alloc (.cells (itC x) 34)).cell? ⟨w.heap.size, 0, none⟩ = some (.int .u8 x.kind) := row_cell hg (itC_0 x)
  have hit : Hid (itSt x = some x.h) := by
    unfold Hid itSt
    rw [if_neg k0, if_neg k1, if_neg k2]
  have B1 : Hid (Below w.heap.size w (w.alloc (.cells (itC x) 34))) := b1
  have HP : Hid (PartAt (w.alloc (.cells (itC x) 34)) (.slice (some ⟨w.heap.size, 5, none⟩) 32 32) x.h) := ⟨some ⟨w.heap.size, 5, none⟩, w.heap.size, 5, 32, by rw [hx.hl], by rw [hx.hl]; exact Nat.le_refl _, by omega, fun _ => rfl, range_h hg, by simp, fun h => by cases h⟩
  clear b1 hg
  go_enter Try.func9, Try.ntmps9
  go_wp2
  go_ret2
  exact rightOf_some hit.out _ rfl HP.out B1.out
set_option maxHeartbeats 1000000 in
set_option maxRecDepth 100000 in
theorem right_long (x : It) (hx : x.Ok) (k2 : x.kind = 2) (hl : 65535 < x.s.size) (w : World) : Calls Try.prog 9 #[.agg (itC x)] w (RightOf x w) := by
  have b1 : Below w.heap.size w (w.alloc (.cells (itC x) 34)) := (Below.refl _ _).alloc (Nat.le_refl _) _
  have hg := heap_alloc_new w (.cells (itC x) 34)
  have c0 : (w.alloc (.cells (itC x) 34)).cell? ⟨w.heap.size, 0, none⟩ = some (.int .u8 x.kind) := row_cell hg (itC_0 x)
  have c4 := row_cell hg (itC_4 x)
  have hit : Hid (itSt x = none) := by
    unfold Hid itSt textSt
    rw [if_neg (by omega), if_neg (by omega), if_pos k2]
    have : numSt x.s.size 2 = none := by
      unfold numSt fitsB
      rw [show ((2 : Int).toNat) = 2 from rfl, decide_eq_false (by omega), Bool.and_false]; rfl
    rw [this]; rfl
  have B1 : Hid (Below w.heap.size w (w.alloc (.cells (itC x) 34))) := b1
  have hl' : (65535 : Int) < (x.s.size : Int) := by omega
  have hs1 := hx.s1
  clear b1 hg
  go_enter Try.func9, Try.ntmps9
  go_wp2
  go_ret2
  exact rightOf_none hit.out rfl (by simp) B1.out
end Go.Proofs.Ytjkccnfmmkhapaa
