import Derived.Test.YtnpjknnalekdpaaDoorTe
namespace Go.Proofs.YtnpjknnalekdpaaDoor
set_option linter.unusedSimpArgs false
set_option linter.unusedVariables false
open Go.RowKit
theorem feedF_len : ∀ (n : Nat) (l : List Int), Bytes l → (feedF n l).2.2.length + (feedF n l).2.1 ≤ l.length ∧ Bytes (feedF n l).2.2
  | 0, l, hb => ⟨by show l.length + 0 ≤ l.length; omega, hb⟩
  | n + 1, l, hb => by
    unfold feedF
    by_cases h0 : l = []
    · rw [if_pos h0]; exact ⟨by simp, fun x hx => by cases hx⟩
    rw [if_neg h0]
    by_cases h4 : (decR l).2.2.2 = 4
    · rw [if_pos h4]; exact ⟨by show l.length + 0 ≤ l.length; omega, hb⟩
    rw [if_neg h4]
    have hl := List.length_pos_iff.2 h0
    by_cases hz : (decR l).2.2.2 = 0
    · rw [if_pos hz]
      have ih := feedF_len n (l.drop (decR l).2.2.1.toNat) (fun x hx => hb x (List.drop_subset _ _ hx))
      rw [List.length_drop] at ih
      exact ⟨Nat.le_trans ih.1 (by omega), ih.2⟩
    · rw [if_neg hz]
      have ih := feedF_len n (l.drop 1) (fun x hx => hb x (List.drop_subset _ _ hx))
      rw [List.length_drop] at ih
      refine ⟨?_, ih.2⟩
      show (feedF n (l.drop 1)).2.2.length + ((feedF n (l.drop 1)).2.1 + 1) ≤ l.length
      omega
theorem feedR_len (l : List Int) (hb : Bytes l) : (feedR l).2.2.length + (feedR l).2.1 ≤ l.length ∧ Bytes (feedR l).2.2 := feedF_len _ l hb
end Go.Proofs.YtnpjknnalekdpaaDoor
