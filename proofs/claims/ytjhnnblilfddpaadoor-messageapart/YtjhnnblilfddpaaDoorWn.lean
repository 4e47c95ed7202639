import Derived.Test.YtjhnnblilfddpaaDoorWm
import Derived.Laws.StructEq
namespace Go.Proofs.YtjhnnblilfddpaaDoor
set_option linter.unusedSimpArgs false
set_option linter.unusedVariables false
open Go.RowKit
set_option maxRecDepth 100000 in
theorem forIn_still {β : Type} {P : Program} (w : World) (f : Nat → β → Sem (ForInStep β)) : ∀ (n s : Nat) (b : β), (∀ j, s ≤ j ∧ j < s + n → (f j b).run P w = .ok (.yield b) w) → (forIn (List.range' s n) b f).run P w = .ok b w
  | 0, s, b, _ => by simp
  | n + 1, s, b, h => by
    rw [List.range'_succ, List.forIn_cons, Sem.run_bind, h s ⟨by omega, by omega⟩]
    simp only [Result.andThen_ok]
    exact forIn_still w f n (s + 1) b (fun j hj => h j ⟨by omega, by omega⟩)
set_option maxRecDepth 100000 in
theorem eq24_self (d : Nat) (l : List Int) (hl : l.length = 32) (w : World) : (Op.equalIn (d + 2) 24 (.agg (vB l)) (.agg (vB l))).run Tryd.prog w = .ok true w := by
  have hs : (Tryd.prog.info? 5).map (·.size) = some 1 := by kernel_rfl
  have hagg : (isAgg 5).run Tryd.prog w = .ok false w := by
    unfold isAgg; rw [Sem.run_bind, run_underlying Tryd.underlying5 w]; rfl
  cases hi : Tryd.prog.info? 5 with
  | none => simp [hi] at hs
  | some i =>
    have hz : i.size = 1 := by simpa [hi] using hs
    have hpart : ∀ j, j < 32 → (part 5 (vB l) j).run Tryd.prog w = .ok (.int .u8 (gi l j)) w := fun j hj => by
      have hq := vB_at l j (by omega)
      simp [part, hagg, hq]
    unfold Op.equalIn
    simp only [Sem.run_bind, run_underlying Tryd.underlying24, Result.andThen_ok]
    have hso : (sizeOf 5).run Tryd.prog w = .ok 1 w := by simp [sizeOf, typeInfo, hi, hz]
    simp only [hso, Result.andThen_ok, Std.Legacy.Range.forIn_eq_forIn_range']
    rw [show ([:32] : Std.Legacy.Range).size = 32 from rfl, forIn_still _ _ 32 0 (none, ())]
    · rfl
    · intro j hj
      have hp := hpart j (by omega)
      have he : (Op.equalIn (d + 1) 5 (.int .u8 (gi l j)) (.int .u8 (gi l j))).run Tryd.prog w = .ok true w := by
        rw [run_equalIn_int w d 5 .u8 .u8 _ _ Tryd.underlying5]; simp
      simp [Sem.run_bind, hp, he]
end Go.Proofs.YtjhnnblilfddpaaDoor
