import Derived.Test.YtplihbncmmggjaaDoorFh
namespace Go.Proofs.YtplihbncmmggjaaDoor
set_option linter.unusedSimpArgs false
set_option linter.unusedVariables false
open Go.RowKit
/-- A store into an older block leaves a row of the call's own as it was. -/
theorem own_setRow {w : World} {base : Nat} {v : Value} {l : List Int} (h : OwnB w base v l) {g : Nat} (hg : g < base) (cs : Array Value) : OwnB (w.setRow g cs) base v l := by
  obtain ⟨h1, h2⟩ := h
  refine ⟨h1, ?_⟩
  rcases h2 with h2 | ⟨b, n, cs', q1, q2, q3, q⟩
  · exact Or.inl h2
  · exact Or.inr ⟨b, n, cs', q1, q2, by rw [setRow_far _ _ _ _ (by omega)]; exact q3, q⟩
set_option maxHeartbeats 1000000 in
set_option maxRecDepth 100000 in
/-- bytes.Clone, and a store into a block that was there before. -/
theorem bclone_set (x : Value) (l : List Int) (w : World) (g : Nat) (hg : g < w.heap.size) (hp : PartAt w x l) (hl : l.length ≤ 1000000000) : Calls Tryd.prog 68 #[x] w fun e w' => ∃ av n c, e = .returned (.slice av n c) ∧ (∀ cs, PartAt (w'.setRow g cs) (.slice av n c) l) ∧ Below w.heap.size w w' := by
  have hp0 := hp
  obtain ⟨av, b, o, cp, rfl, q1, q2, q3, q4, q5, q6⟩ := hp
  cases av with
  | none =>
    have h0 : l.length = 0 := by
      rcases Nat.eq_zero_or_pos l.length with h | h
      · exact h
      · have := q3 h; cases this
    have hc := q6 rfl
    subst hc
    have hl0 : l = [] := List.eq_nil_of_length_eq_zero h0
    subst hl0
    have P0 : Hid (∀ cs, PartAt (w.setRow g cs) (.slice none 0 0) []) := fun cs => ⟨none, b, o, 0, rfl, Nat.le_refl _, by omega, fun h => by simp at h, fun j u hu => by simp [vB] at hu, by simpa using q5, fun _ => rfl⟩
    clear q1 q3 q4 hp0 q6 h0
    rw [List.length_nil]
    have heq := eqnil_none w
    go_enter Tryd.func68, Tryd.ntmps68
    go_wp2
    go_ret
    exact ⟨_, _, _, rfl, P0.out, Below.refl _ _⟩
  | some a =>
    have E5 : Hid (PartAt (w.alloc (.cells #[] 5)) (.slice (some a) l.length cp) l ∧ OwnB (w.alloc (.cells #[] 5)) w.heap.size (.slice (some ⟨w.heap.size, 0, none⟩) 0 0) []) :=
      ⟨hp0.below ((Below.refl _ _).alloc (Nat.le_refl _) _), ⟨rfl, Or.inr ⟨w.heap.size, 0, #[], rfl, Nat.le_refl _, heap_alloc_new _ _, Nat.le_refl _, by unfold maxLen; omega, rfl, rfl⟩⟩⟩
    have B1 : Hid (Below w.heap.size w (w.alloc (.cells #[] 5))) := (Below.refl _ _).alloc (Nat.le_refl _) _
    clear q1 q3 q4 hp0 q6
    have heq := eqnil_some a l.length cp w
    go_enter Tryd.func68, Tryd.ntmps68
    go_wp2_with (first | (at_builtin; refine appendB rfl _ _ rfl w.heap.size _ [] rfl E5.out.2 _ l rfl E5.out.1 (by simp; omega) (by simp) ?_; intro v6 w6 o6 g6 d6))
    go_ret
    have b6 : Below w.heap.size w w6 := B1.out.grown g6 B1.out.size (fun k hk => by injection hk with hk; subst hk; exact Nat.le_refl _)
    have hz : 0 < w6.heap.size := by have := g6.size; simp at this; omega
    obtain ⟨av', b', o', cp', e', _⟩ := OwnB.partG o6 hz
    subst e'
    exact ⟨_, _, _, rfl, fun cs => by simpa using OwnB.partG (own_setRow o6 hg cs) (by simpa using hz), b6⟩
end Go.Proofs.YtplihbncmmggjaaDoor
