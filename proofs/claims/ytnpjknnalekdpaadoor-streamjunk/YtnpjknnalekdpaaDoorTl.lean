import Derived.Test.YtnpjknnalekdpaaDoorTg
import Derived.Test.YtnpjknnalekdpaaDoorTk
namespace Go.Proofs.YtnpjknnalekdpaaDoor
set_option linter.unusedSimpArgs false
set_option linter.unusedVariables false
open Go.RowKit
/-- The reference's frames in a row of the call's own, their bodies in rows of bytes. -/
structure FrQ (w : World) (base : Nat) (v : Value) (fs : List (Int × List Int)) (us : List Value) : Prop where
  len : us.length = fs.length
  own : w.ownsRow base 48 2 v fs.length (cellsF fs us)
  part : ∀ (i : Nat) (u : Value) (f : Int × List Int), us[i]? = some u → fs[i]? = some f → PartT w u f.2
theorem FrQ.nil (w : World) (base : Nat) : FrQ w base (.slice none 0 0) [] [] := ⟨rfl, ⟨rfl, .inl ⟨rfl, rfl⟩⟩, fun i u f h => by simp at h⟩
theorem FrQ.below {w w' : World} {base : Nat} {v : Value} {fs : List (Int × List Int)} {us : List Value} (h : FrQ w base v fs us) (b : Below w.heap.size w w') : FrQ w' base v fs us :=
  ⟨h.len, own_belowR h.own b, fun i u f h1 h2 => (h.part i u f h1 h2).below b⟩
theorem FrQ.five {w : World} {base : Nat} {v : Value} {fs : List (Int × List Int)} {us : List Value} (h : FrQ w base v fs us) (b : Nat) (C : Array Value) (m : Nat × Nat) (hC : w.heap[b]? = some (Obj.cells C 5 m)) : some b ≠ v.ownBlock := by
  intro e
  rcases h.own.2 with ⟨q, _⟩ | ⟨g0, cap, cur0, q1, q2, q3, _⟩
  · rw [q] at e; cases e
  · rw [q1] at e
    have e : some b = some g0 := e
    injection e with e
    subst e
    rw [hC] at q3
    injection q3 with q3
    injection q3 with _ q3
    cases q3
theorem FrQ.low {w : World} {base : Nat} {v : Value} {fs : List (Int × List Int)} {us : List Value} (h : FrQ w base v fs us) (b : Nat) (hb : v.ownBlock = some b) : base ≤ b := by
  rcases h.own.2 with ⟨q, _⟩ | ⟨g0, cap, cur0, q1, q2, q3, _⟩
  · rw [q] at hb; cases hb
  · rw [q1] at hb
    have hb : some g0 = some b := hb
    injection hb with hb
    omega
theorem FrQ.snoc {w w' : World} {base : Nat} {v v' : Value} {fs : List (Int × List Int)} {us : List Value} (h : FrQ w base v fs us) (t : Int) (bd : List Int) (u : Value) (hu : PartT w u bd)
    (ho : w'.ownsRow base 48 2 v' (fs.length + 1) (cellsF fs us ++ [.int .u8 t, u])) (gr : w.grownBy w' v.ownBlock) : FrQ w' base v' (fs ++ [(t, bd)]) (us ++ [u]) := by
  have keep : ∀ (x : Value) (l : List Int), PartT w x l → PartT w' x l := fun x l hx => hx.keep gr.size fun b C m hC => gr.block b (Array.getElem?_eq_some_iff.1 hC).1 (h.five b C m hC)
  refine ⟨by rw [List.length_append, List.length_append, h.len]; rfl, ?_, fun i x f h1 h2 => ?_⟩
  · rw [cellsF_snoc fs us (t, bd) u h.len, List.length_append]; exact ho
  · rcases Nat.lt_or_ge i fs.length with hi | hi
    · rw [List.getElem?_append_left (by rw [h.len]; exact hi)] at h1
      rw [List.getElem?_append_left hi] at h2
      exact keep _ _ (h.part i x f h1 h2)
    · rw [List.getElem?_append_right (by rw [h.len]; exact hi), h.len] at h1
      rw [List.getElem?_append_right hi] at h2
      match hk : i - fs.length, h1, h2 with
      | 0, h1, h2 =>

        simp at h1 h2
        rw [← h1, ← h2]; exact keep _ _ hu
      | j + 1, h1, h2 => simp at h1
theorem FrQ.form {w : World} {base : Nat} {v : Value} {fs : List (Int × List Int)} {us : List Value} (h : FrQ w base v fs us) : ∃ av cp, v = .slice av fs.length cp := by
  rcases h.own.2 with ⟨q, q0⟩ | ⟨g0, cap, cur0, q1, _⟩
  · exact ⟨none, 0, by rw [q, q0]⟩
  · exact ⟨_, cap, q1⟩
end Go.Proofs.YtnpjknnalekdpaaDoor
