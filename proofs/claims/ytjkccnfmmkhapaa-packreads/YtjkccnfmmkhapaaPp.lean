import Derived.Test.YtjkccnfmmkhapaaPo
import Derived.Laws.StructEq
namespace Go.Proofs.Ytjkccnfmmkhapaa
set_option linter.unusedSimpArgs false
set_option linter.unusedVariables false
open Go.RowKit
theorem forIn_still {β : Type} {P : Program} (w : World) (f : Nat → β → Sem (ForInStep β)) : ∀ (n s : Nat) (b : β), (∀ j, s ≤ j ∧ j < s + n → (f j b).run P w = .ok (.yield b) w) → (forIn (List.range' s n) b f).run P w = .ok b w
  | 0, s, b, _ => by simp
  | n + 1, s, b, h => by
    rw [List.range'_succ, List.forIn_cons, Sem.run_bind, h s ⟨by omega, by omega⟩]
    simp only [Result.andThen_ok]
    exact forIn_still w f n (s + 1) b (fun j hj => h j ⟨by omega, by omega⟩)
theorem eq32_self (d : Nat) (l : List Int) (hl : l.length = 32) (w : World) : (Op.equalIn (d + 2) 32 (.agg (vB l)) (.agg (vB l))).run Try.prog w = .ok true w := by
  have hs : (Try.prog.info? 5).map (·.size) = some 1 := by kernel_rfl
  have hagg : (isAgg 5).run Try.prog w = .ok false w := by
    unfold isAgg; rw [Sem.run_bind, run_underlying Try.underlying5 w]; rfl
  cases hi : Try.prog.info? 5 with
  | none => simp [hi] at hs
  | some i =>
    have hz : i.size = 1 := by simpa [hi] using hs
    have hpart : ∀ j, j < 32 → (part 5 (vB l) j).run Try.prog w = .ok (.int .u8 (gi l j)) w := fun j hj => by
      have hq := vB_at l j (by omega)
      simp [part, hagg, hq]
    unfold Op.equalIn
    simp only [Sem.run_bind, run_underlying Try.underlying32, Result.andThen_ok]
    have hso : (sizeOf 5).run Try.prog w = .ok 1 w := by simp [sizeOf, typeInfo, hi, hz]
    simp only [hso, Result.andThen_ok, Std.Legacy.Range.forIn_eq_forIn_range']
    rw [show ([:32] : Std.Legacy.Range).size = 32 from rfl, forIn_still _ _ 32 0 (none, ())]
    · rfl
    · intro j hj
      have hp := hpart j (by omega)
      have he : (Op.equalIn (d + 1) 5 (.int .u8 (gi l j)) (.int .u8 (gi l j))).run Try.prog w = .ok true w := by
        rw [run_equalIn_int w d 5 .u8 .u8 _ _ Try.underlying5]; simp
      simp [Sem.run_bind, hp, he]
section
variable {ops : Array Oper} {rest : List Oper} {o : Oper} {a : Act} {w : World} {Q : Exit → Act → World → Prop}
theorem load34 (hgd : o.guard = none) (x : Operand) (ho : o.op = .load 34 x) (g : Nat) (hx : a.eval x = .pointer (some ⟨g, 0, none⟩)) (it : It) (hok : it.Ok) (t : TypeId) (hg : w.heap[g]? = some (.cells (itC it) t))
    (h : wpList Try.prog ops Q rest (a.put o.dst (.agg (itC it))) w) : wpList Try.prog ops Q (o :: rest) a w :=
  wpList_load_row hgd 34 x ho g hx t _ (0, 0) _ hg Try.underlying34 rfl (by rw [itC_size it hok]; kernel_rfl) h
/-- The same, of an operation that is guarded, and wanted. -/
theorem load34g (hw : Region.wanted o (yielded ops a.tmps) = true) (x : Operand) (ho : o.op = .load 34 x) (g : Nat) (hx : a.eval x = .pointer (some ⟨g, 0, none⟩)) (it : It) (hok : it.Ok) (t : TypeId) (hg : w.heap[g]? = some (.cells (itC it) t))
    (h : wpList Try.prog ops Q rest (a.put o.dst (.agg (itC it))) w) : wpList Try.prog ops Q (o :: rest) a w := by
  unfold wpList
  rw [if_pos hw]
  exact Or.inl (wp_load_row 34 x ho g hx t _ (0, 0) _ hg Try.underlying34 rfl (by rw [itC_size it hok]; kernel_rfl) h)
end
theorem buildI32 (k n z : Int) (c : Bool) (s : ByteArray) (a0 a1 a2 a3 a4 a5 a6 a7 a8 a9 a10 a11 a12 a13 a14 a15 a16 a17 a18 a19 a20 a21 a22 a23 a24 a25 a26 a27 a28 a29 a30 a31 : Int) (w : World) : (Instr.buildSlice 22 1 #[(0, .agg (itC ⟨k, n, z, c, s, [a0, a1, a2, a3, a4, a5, a6, a7, a8, a9, a10, a11, a12, a13, a14, a15, a16, a17, a18, a19, a20, a21, a22, a23, a24, a25, a26, a27, a28, a29, a30, a31]⟩))]).run Try.prog w = .ok (.slice (some ⟨w.heap.size, 0, none⟩) 1 1) (w.alloc (.cells (itC ⟨k, n, z, c, s, [a0, a1, a2, a3, a4, a5, a6, a7, a8, a9, a10, a11, a12, a13, a14, a15, a16, a17, a18, a19, a20, a21, a22, a23, a24, a25, a26, a27, a28, a29, a30, a31]⟩) 34)) := by
  kernel_rfl
theorem buildI (x : It) (hl : x.h.length = 32) (w : World) : (Instr.buildSlice 22 1 #[(0, .agg (itC x))]).run Try.prog w = .ok (.slice (some ⟨w.heap.size, 0, none⟩) 1 1) (w.alloc (.cells (itC x) 34)) := by
  obtain ⟨k, n, z, c, s, h⟩ := x
  match h, hl with
  | [a0, a1, a2, a3, a4, a5, a6, a7, a8, a9, a10, a11, a12, a13, a14, a15, a16, a17, a18, a19, a20, a21, a22, a23, a24, a25, a26, a27, a28, a29, a30, a31], _ => exact buildI32 k n z c s a0 a1 a2 a3 a4 a5 a6 a7 a8 a9 a10 a11 a12 a13 a14 a15 a16 a17 a18 a19 a20 a21 a22 a23 a24 a25 a26 a27 a28 a29 a30 a31 w
theorem build22g {ops : Array Oper} {rest : List Oper} {o : Oper} {a : Act} {w : World} {Q : Exit → Act → World → Prop} (hw : Region.wanted o (yielded ops a.tmps) = true) (x : Operand) (ho : o.op = .buildSlice 22 1 #[(0, x)]) (it : It) (hl : it.h.length = 32) (hx : a.eval x = .agg (itC it))
    (hK : wpList Try.prog ops Q rest (a.put o.dst (.slice (some ⟨w.heap.size, 0, none⟩) 1 1)) (w.alloc (.cells (itC it) 34))) : wpList Try.prog ops Q (o :: rest) a w := by
  unfold wpList
  rw [if_pos hw]
  refine Or.inl ?_
  have hrun := buildI it hl w
  unfold Oper.wp execOp
  simp only [ho]
  rw [show (#[(0, x)].map fun (i, x) => (i, a.eval x)) = #[(0, .agg (itC it))] by simp [hx]]
  simp only [Sem.run_bind, hrun, Result.andThen_ok]
  exact hK
def it0 : It := ⟨0, 0, 0, false, ⟨#[]⟩, zs 32⟩
theorem items_one (w : World) (x : It) (hx : x.Ok) : ItemsAt (w.alloc (.cells (itC x) 34)) (.slice (some ⟨w.heap.size, 0, none⟩) 1 1) [x] :=
  ⟨some ⟨w.heap.size, 0, none⟩, w.heap.size, 0, 1, rfl, by simp, by omega, fun _ => rfl, fun i y hy j v hv => by
    have hi : i = 0 := by have := (List.getElem?_eq_some_iff.1 hy).1; simpa using this
    subst hi
    simp at hy
    subst hy
    rw [show 0 + 0 * 37 + j = j by omega, cell_of_row _ _ j _ 34 (0, 0) (heap_alloc_new w (.cells (itC x) 34))]
    simpa using hv, fun _ => by simp, fun y hy => by simp at hy; subst hy; exact hx, by simp⟩
theorem eq32_zero (w : World) : (Op.equalIn 10000 32 (.agg (vB (zs 32))) (.agg #[.int .u8 0, .int .u8 0, .int .u8 0, .int .u8 0, .int .u8 0, .int .u8 0, .int .u8 0, .int .u8 0, .int .u8 0, .int .u8 0, .int .u8 0, .int .u8 0, .int .u8 0, .int .u8 0, .int .u8 0, .int .u8 0, .int .u8 0, .int .u8 0, .int .u8 0, .int .u8 0, .int .u8 0, .int .u8 0, .int .u8 0, .int .u8 0, .int .u8 0, .int .u8 0, .int .u8 0, .int .u8 0, .int .u8 0, .int .u8 0, .int .u8 0, .int .u8 0])).run Try.prog w = .ok true w := eq32_self 9998 (zs 32) rfl w
theorem rnum_none (k : Int) : rnumSt none k = none ∧ rnumV none k = 0 := by
  unfold rnumSt rnumV; split <;> exact ⟨rfl, rfl⟩
end Go.Proofs.Ytjkccnfmmkhapaa
