import Derived.Test.YtffhjjgkoapioaaDoorPb
namespace Go.Proofs.YtffhjjgkoapioaaDoor
set_option linter.unusedSimpArgs false
set_option linter.unusedVariables false
open Go.RowKit
set_option maxRecDepth 100000 in
theorem overH_only (hs : List (List Int)) (h : hs.length = 1) : overH hs = hs[0]?.getD [] := by
  match hs, h with
  | [x], _ => unfold overH; rfl
set_option maxRecDepth 100000 in
/-- A way with the hashes beside it leads to the root. -/
theorem lead_path (d : Nat) : ∀ (hs : List (List Int)) (i : Nat), depthN hs.length i = d → i < hs.length → leadD d (hs[i]?.getD []) hs.length i (pathD d hs i) = overH hs := by
  induction d with
  | zero =>
    intro hs i hd hi
    have h1 : hs.length = 1 := by
      rcases Nat.lt_or_ge hs.length 2 with h | h
      · omega
      · by_cases hk : i < halfN hs.length
        · rw [depthN_lo hs.length i h hk] at hd; omega
        · rw [depthN_hi hs.length i h hk] at hd; omega
    obtain rfl : i = 0 := by omega
    rw [overH_only hs h1]
    rfl
  | succ d ih =>
    intro hs i hdep hin
    have h2n : 2 ≤ hs.length := by
      rcases Nat.lt_or_ge hs.length 2 with h | h
      · rw [depthN_one hs.length i h] at hdep; omega
      · exact h
    have hk1 := halfN_pos hs.length
    have hk2 := halfN_lt hs.length h2n
    have lT : (hs.take (halfN hs.length)).length = halfN hs.length := by simp; omega
    have lD : (hs.drop (halfN hs.length)).length = hs.length - halfN hs.length := by simp
    rw [overH_more hs h2n]
    unfold leadD pathD
    by_cases hik : i < halfN hs.length
    · rw [depthN_lo hs.length i h2n hik] at hdep
      have e := ih (hs.take (halfN hs.length)) i (by rw [lT]; omega) (by rw [lT]; omega)
      rw [lT, List.getElem?_take, if_pos hik] at e
      have pl := pathD_length d (hs.take (halfN hs.length)) i
      simp only [if_pos hik]
      rw [← leadD_take d d _ _ _ (pathD d (hs.take (halfN hs.length)) i ++ _) (Nat.le_refl _), List.take_left' pl, e, List.getElem?_append_right (by omega), pl, Nat.sub_self]
      rfl
    · rw [depthN_hi hs.length i h2n hik] at hdep
      have e := ih (hs.drop (halfN hs.length)) (i - halfN hs.length) (by rw [lD]; omega) (by rw [lD]; omega)
      rw [lD, List.getElem?_drop, show halfN hs.length + (i - halfN hs.length) = i by omega] at e
      have pl := pathD_length d (hs.drop (halfN hs.length)) (i - halfN hs.length)
      simp only [if_neg hik]
      rw [← leadD_take d d _ _ _ (pathD d (hs.drop (halfN hs.length)) (i - halfN hs.length) ++ _) (Nat.le_refl _), List.take_left' pl, e, List.getElem?_append_right (by omega), pl, Nat.sub_self]
      rfl
end Go.Proofs.YtffhjjgkoapioaaDoor
