import Derived.Test.YtnpjknnalekdpaaDoorGz
namespace Go.Proofs.YtnpjknnalekdpaaDoor
set_option linter.unusedSimpArgs false
set_option linter.unusedVariables false
open Go.RowKit
theorem decR_pos (l : List Int) (h : (decR l).2.2.2 = 0) : 10 ≤ (decR l).2.2.1 := by
  unfold decR at h ⊢
  by_cases h1 : beginsB l = false
  · rw [if_pos h1] at h; cases h
  rw [if_neg h1] at h ⊢
  by_cases h2 : l.length < 10 + (if l.length < 10 then 0 else lenD l)
  · rw [if_pos h2] at h; cases h
  rw [if_neg h2] at h ⊢
  by_cases h3 : (hashOf ([gi l 3, gi l 4, gi l 5] ++ (l.drop 10).take (lenD l))).take 4 = (l.drop 6).take 4
  · rw [if_pos h3]; show (10 : Int) ≤ 10 + (lenD l : Int); omega
  · rw [if_neg h3] at h; cases h
/-- What a stream gives out of bytes, how many it drops, and what waits. -/
def feedF : Nat → List Int → List (Int × List Int) × Nat × List Int
  | 0, l => ([], 0, l)
  | n + 1, l =>
    if l = [] then ([], 0, [])
    else if (decR l).2.2.2 = 4 then ([], 0, l)
    else if (decR l).2.2.2 = 0 then (((decR l).1, (decR l).2.1) :: (feedF n (l.drop (decR l).2.2.1.toNat)).1, (feedF n (l.drop (decR l).2.2.1.toNat)).2)
    else ((feedF n (l.drop 1)).1, (feedF n (l.drop 1)).2.1 + 1, (feedF n (l.drop 1)).2.2)
theorem feedF_nil (n : Nat) : feedF n [] = ([], 0, []) := by
  cases n with
  | zero => rfl
  | succ n => unfold feedF; rw [if_pos rfl]
theorem feedF_more : ∀ (n m : Nat) (l : List Int), l.length ≤ n → l.length ≤ m → feedF n l = feedF m l
  | 0, m, l, h, _ => by
    have : l = [] := List.eq_nil_of_length_eq_zero (by omega)
    rw [this, feedF_nil, feedF_nil]
  | n + 1, 0, l, _, h => by
    have : l = [] := List.eq_nil_of_length_eq_zero (by omega)
    rw [this, feedF_nil, feedF_nil]
  | n + 1, m + 1, l, h, k => by
    unfold feedF
    by_cases h0 : l = []
    · rw [if_pos h0, if_pos h0]
    have hl : 0 < l.length := by
      cases l with
      | nil => exact absurd rfl h0
      | cons a b => simp
    rw [if_neg h0, if_neg h0]
    by_cases h4 : (decR l).2.2.2 = 4
    · rw [if_pos h4, if_pos h4]
    rw [if_neg h4, if_neg h4]
    by_cases hz : (decR l).2.2.2 = 0
    · have hp := decR_pos l hz
      rw [if_pos hz, if_pos hz, feedF_more n m (l.drop (decR l).2.2.1.toNat) (by rw [List.length_drop]; omega) (by rw [List.length_drop]; omega)]
    · rw [if_neg hz, if_neg hz, feedF_more n m (l.drop 1) (by rw [List.length_drop]; omega) (by rw [List.length_drop]; omega)]
def feedR (l : List Int) : List (Int × List Int) × Nat × List Int := feedF l.length l
theorem feedR_nil : feedR [] = ([], 0, []) := rfl
theorem feedF_R (n : Nat) (l : List Int) (h : l.length ≤ n) : feedF n l = feedR l := feedF_more n l.length l h (Nat.le_refl _)
theorem feedR_short (l : List Int) (h : (decR l).2.2.2 = 4) : feedR l = ([], 0, l) := by
  by_cases h0 : l = []
  · rw [h0]; rfl
  unfold feedR
  cases hl : l.length with
  | zero => exact absurd (List.eq_nil_of_length_eq_zero hl) h0
  | succ n => unfold feedF; rw [if_neg h0, if_pos h]
theorem feedR_ok (l : List Int) (h0 : l ≠ []) (h : (decR l).2.2.2 = 0) : feedR l = (((decR l).1, (decR l).2.1) :: (feedR (l.drop (decR l).2.2.1.toNat)).1, (feedR (l.drop (decR l).2.2.1.toNat)).2) := by
  have hp := decR_pos l h
  have e : feedR l = feedF (l.length + 1) l := (feedF_R _ _ (by omega)).symm
  rw [e]
  unfold feedF
  rw [if_neg h0, if_neg (by omega), if_pos h, feedF_R l.length _ (by rw [List.length_drop]; omega)]
theorem feedR_drop (l : List Int) (h0 : l ≠ []) (h4 : ¬ (decR l).2.2.2 = 4) (h : ¬ (decR l).2.2.2 = 0) : feedR l = ((feedR (l.drop 1)).1, (feedR (l.drop 1)).2.1 + 1, (feedR (l.drop 1)).2.2) := by
  have e : feedR l = feedF (l.length + 1) l := (feedF_R _ _ (by omega)).symm
  rw [e]
  unfold feedF
  rw [if_neg h0, if_neg h4, if_neg h, feedF_R l.length _ (by rw [List.length_drop]; omega)]
/-- Frames in a row of the call's own. -/
def cellsF : List (Int × List Int) → List Value → List Value
  | f :: fs, u :: us => .int .u8 f.1 :: u :: cellsF fs us
  | _, _ => []
theorem cellsF_snoc : ∀ (fs : List (Int × List Int)) (us : List Value) (f : Int × List Int) (u : Value), us.length = fs.length → cellsF (fs ++ [f]) (us ++ [u]) = cellsF fs us ++ [.int .u8 f.1, u]
  | [], [], f, u, _ => rfl
  | [], _ :: _, _, _, h => by cases h
  | _ :: _, [], _, _, h => by cases h
  | f0 :: fs, u0 :: us, f, u, h => by
    show .int .u8 f0.1 :: u0 :: cellsF (fs ++ [f]) (us ++ [u]) = .int .u8 f0.1 :: u0 :: (cellsF fs us ++ [.int .u8 f.1, u])
    rw [cellsF_snoc fs us f u (by simpa using h)]
structure FrV (w : World) (base : Nat) (v : Value) (fs : List (Int × List Int)) (us : List Value) : Prop where
  len : us.length = fs.length
  own : w.ownsRow base 46 2 v fs.length (cellsF fs us)
  part : ∀ (i : Nat) (u : Value) (f : Int × List Int), us[i]? = some u → fs[i]? = some f → PartAt w u f.2
theorem FrV.nil (w : World) (base : Nat) : FrV w base (.slice none 0 0) [] [] := ⟨rfl, ⟨rfl, .inl ⟨rfl, rfl⟩⟩, fun i u f h => by simp at h⟩
end Go.Proofs.YtnpjknnalekdpaaDoor
