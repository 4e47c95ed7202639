import Derived.Test.YtnhbjjjoocpedaaXf
import Derived.Laws.StructEq
namespace Go.Proofs.Ytnhbjjjoocpedaa
set_option linter.unusedSimpArgs false
set_option linter.unusedVariables false
open Go.RowKit
set_option maxRecDepth 100000 in
theorem forIn_still {β : Type} {P : Program} (w : World) (f : Nat → β → Sem (ForInStep β)) : ∀ (n s : Nat) (b : β), (∀ j, s ≤ j ∧ j < s + n → (f j b).run P w = .ok (.yield b) w) → (forIn (List.range' s n) b f).run P w = .ok b w
  | 0, s, b, _ => by simp
  | n + 1, s, b, h => by
    rw [List.range'_succ, List.forIn_cons, Sem.run_bind, h s ⟨by omega, by omega⟩]
    simp only [Result.andThen_ok]
    exact forIn_still w f n (s + 1) b (fun j hj => h j ⟨by omega, by omega⟩)
def w4 (x0 x1 x2 x3 : Int) (j : Nat) : Int := if j = 0 then x0 else if j = 1 then x1 else if j = 2 then x2 else x3
set_option maxRecDepth 100000 in
theorem eq24_self (x0 x1 x2 x3 : Int) (w : World) : (Op.equalIn 10000 24 (.agg #[.int .u64 x0, .int .u64 x1, .int .u64 x2, .int .u64 x3]) (.agg #[.int .u64 x0, .int .u64 x1, .int .u64 x2, .int .u64 x3])).run Try.prog w = .ok true w := by
  have hs : (Try.prog.info? 22).map (·.size) = some 1 := by kernel_rfl
  have hagg : (isAgg 22).run Try.prog w = .ok false w := by
    unfold isAgg; rw [Sem.run_bind, run_underlying Try.underlying22 w]; rfl
  cases hi : Try.prog.info? 22 with
  | none => simp [hi] at hs
  | some i =>
    have hz : i.size = 1 := by simpa [hi] using hs
    have hpart : ∀ j, j < 4 → (part 22 #[.int .u64 x0, .int .u64 x1, .int .u64 x2, .int .u64 x3] j).run Try.prog w = .ok (.int .u64 (w4 x0 x1 x2 x3 j)) w := fun j hj => by
      have hj' : j = 0 ∨ j = 1 ∨ j = 2 ∨ j = 3 := by omega
      rcases hj' with rfl | rfl | rfl | rfl <;> simp [part, hagg, w4]
    unfold Op.equalIn
    simp only [Sem.run_bind, run_underlying Try.underlying24, Result.andThen_ok]
    have hso : (sizeOf 22).run Try.prog w = .ok 1 w := by simp [sizeOf, typeInfo, hi, hz]
    simp only [hso, Result.andThen_ok, Std.Legacy.Range.forIn_eq_forIn_range']
    rw [show ([:4] : Std.Legacy.Range).size = 4 from rfl, forIn_still _ _ 4 0 (none, ())]
    · rfl
    · intro j hj
      have hp := hpart j (by omega)
      have he : (Op.equalIn 9999 22 (.int .u64 (w4 x0 x1 x2 x3 j)) (.int .u64 (w4 x0 x1 x2 x3 j))).run Try.prog w = .ok true w := by
        rw [run_equalIn_int w 9998 22 .u64 .u64 _ _ Try.underlying22]; simp
      simp [Sem.run_bind, hp, he]
set_option maxRecDepth 100000 in
theorem eq26_self (x0 x1 x2 x3 : Int) (w : World) : (Op.equalIn 10000 26 (.agg #[.int .u64 x0, .int .u64 x1, .int .u64 x2, .int .u64 x3]) (.agg #[.int .u64 x0, .int .u64 x1, .int .u64 x2, .int .u64 x3])).run Try.prog w = .ok true w := by
  have hs : (Try.prog.info? 22).map (·.size) = some 1 := by kernel_rfl
  have hagg : (isAgg 22).run Try.prog w = .ok false w := by
    unfold isAgg; rw [Sem.run_bind, run_underlying Try.underlying22 w]; rfl
  cases hi : Try.prog.info? 22 with
  | none => simp [hi] at hs
  | some i =>
    have hz : i.size = 1 := by simpa [hi] using hs
    have hpart : ∀ j, j < 4 → (part 22 #[.int .u64 x0, .int .u64 x1, .int .u64 x2, .int .u64 x3] j).run Try.prog w = .ok (.int .u64 (w4 x0 x1 x2 x3 j)) w := fun j hj => by
      have hj' : j = 0 ∨ j = 1 ∨ j = 2 ∨ j = 3 := by omega
      rcases hj' with rfl | rfl | rfl | rfl <;> simp [part, hagg, w4]
    unfold Op.equalIn
    simp only [Sem.run_bind, run_underlying Try.underlying26, Result.andThen_ok]
    have hso : (sizeOf 22).run Try.prog w = .ok 1 w := by simp [sizeOf, typeInfo, hi, hz]
    simp only [hso, Result.andThen_ok, Std.Legacy.Range.forIn_eq_forIn_range']
    rw [show ([:4] : Std.Legacy.Range).size = 4 from rfl, forIn_still _ _ 4 0 (none, ())]
    · rfl
    · intro j hj
      have hp := hpart j (by omega)
      have he : (Op.equalIn 9999 22 (.int .u64 (w4 x0 x1 x2 x3 j)) (.int .u64 (w4 x0 x1 x2 x3 j))).run Try.prog w = .ok true w := by
        rw [run_equalIn_int w 9998 22 .u64 .u64 _ _ Try.underlying22]; simp
      simp [Sem.run_bind, hp, he]
end Go.Proofs.Ytnhbjjjoocpedaa
