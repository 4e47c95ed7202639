/- What a Hash holds behind the bytes that it took: plain lists. -/
import Derived.Test.YtjhnnblilfddpaaDoorSpec
namespace Go.Proofs.YtjhnnblilfddpaaDoor
set_option linter.unusedSimpArgs false
set_option linter.unusedVariables false
open Go
def blockAt (all : List Int) (k : Nat) : List Int := (all.drop (64 * k)).take 64
def wordsTo (all : List Int) : Nat → List Int
  | 0 => hWords
  | k + 1 => comp (wordsTo all k) (blockAt all k)
def wordsOf (all : List Int) : List Int := wordsTo all (all.length / 64)
def remB (all : List Int) : List Int := all.drop (64 * (all.length / 64)) ++ zs (64 - all.length % 64)
theorem wordsTo_length (all : List Int) (k : Nat) : (wordsTo all k).length = 8 := by cases k <;> rfl
theorem wordsOf_length (all : List Int) : (wordsOf all).length = 8 := wordsTo_length _ _
theorem remB_length (all : List Int) : (remB all).length = 64 := by simp [remB, zs_length]; omega
theorem blockAt_append (A x : List Int) (k : Nat) (h : 64 * k + 64 ≤ A.length) : blockAt (A ++ x) k = blockAt A k := by
  unfold blockAt
  rw [List.drop_append_of_le_length (by omega), List.take_append_of_le_length (by simp; omega)]
theorem wordsTo_append (A x : List Int) (k : Nat) (h : 64 * k ≤ A.length) : wordsTo (A ++ x) k = wordsTo A k := by
  induction k with
  | zero => rfl
  | succ k ih => simp only [wordsTo]; rw [ih (by omega), blockAt_append _ _ _ (by omega)]
/-- The block behind x was taken into what there is. -/
def putAt (bl : List Int) (r : Nat) (x : List Int) : List Int := bl.take r ++ x ++ bl.drop (r + x.length)
theorem putAt_length (bl : List Int) (r : Nat) (x : List Int) (h : r + x.length ≤ bl.length) : (putAt bl r x).length = bl.length := by
  simp [putAt]; omega
theorem rem_put (A x : List Int) (h : A.length % 64 + x.length ≤ 64) : putAt (remB A) (A.length % 64) x = A.drop (64 * (A.length / 64)) ++ x ++ zs (64 - (A.length % 64 + x.length)) := by
  unfold putAt remB
  have hl : (A.drop (64 * (A.length / 64))).length = A.length % 64 := by simp; omega
  rw [List.take_left' hl]
  congr 1
  rw [List.drop_append, hl, List.drop_eq_nil_of_le (by omega)]
  rw [List.nil_append]
  unfold zs
  rw [List.drop_replicate]
  rw [show 64 - A.length % 64 - (A.length % 64 + x.length - A.length % 64) = 64 - (A.length % 64 + x.length) by omega]
theorem rem_step (A x : List Int) (h : A.length % 64 + x.length < 64) : remB (A ++ x) = putAt (remB A) (A.length % 64) x := by
  rw [rem_put A x (by omega)]
  unfold remB
  have e1 : (A ++ x).length / 64 = A.length / 64 := by simp; omega
  have e2 : (A ++ x).length % 64 = A.length % 64 + x.length := by simp; omega
  rw [e1, e2, List.drop_append_of_le_length (by omega)]
theorem words_step (A x : List Int) (h : A.length % 64 + x.length < 64) : wordsOf (A ++ x) = wordsOf A := by
  unfold wordsOf
  have e1 : (A ++ x).length / 64 = A.length / 64 := by simp; omega
  rw [e1, wordsTo_append _ _ _ (by omega)]
theorem rem_full (A x : List Int) (h : A.length % 64 + x.length = 64) : remB (A ++ x) = zs 64 := by
  unfold remB
  have e1 : (A ++ x).length / 64 = A.length / 64 + 1 := by simp; omega
  have e2 : (A ++ x).length % 64 = 0 := by simp; omega
  rw [e1, e2, List.drop_eq_nil_of_le (by simp; omega)]; rfl
theorem words_full (A x : List Int) (h : A.length % 64 + x.length = 64) : wordsOf (A ++ x) = comp (wordsOf A) (putAt (remB A) (A.length % 64) x) := by
  rw [rem_put A x (by omega), h]
  unfold wordsOf
  have e1 : (A ++ x).length / 64 = A.length / 64 + 1 := by simp; omega
  rw [e1]
  show comp _ _ = _
  rw [wordsTo_append _ _ _ (by omega)]
  congr 1
  unfold blockAt
  rw [List.drop_append_of_le_length (by omega)]
  rw [List.take_of_length_le (by simp; omega)]
  simp [zs]
end Go.Proofs.YtjhnnblilfddpaaDoor
