import Derived.Test.YtnpjknnalekdpaaFv
namespace Go.Proofs.Ytnpjknnalekdpaa
set_option linter.unusedSimpArgs false
set_option linter.unusedVariables false
open Go.RowKit
/-- The length that a frame's sixth and fifth byte say. -/
def lenD (bs : List Int) : Nat := (gi bs 4 * 256 + gi bs 5).toNat
/-- What Decode answers: type, body, how many bytes, which fault. -/
def decR (bs : List Int) : Int × List Int × Int × Int :=
  if beginsB bs = false then (0, [], 0, 2)
  else if bs.length < 10 + (if bs.length < 10 then 0 else lenD bs) then (0, [], 0, 4)
  else if (hashOf ([gi bs 3, gi bs 4, gi bs 5] ++ (bs.drop 10).take (lenD bs))).take 4 = (bs.drop 6).take 4 then (gi bs 3, (bs.drop 10).take (lenD bs), 10 + (lenD bs : Int), 0)
  else (0, [], 0, 3)
theorem part_none (w : World) (h : 0 < w.heap.size) : PartAt w (.slice none 0 0) [] := ⟨none, 0, 0, 0, rfl, Nat.le_refl _, by omega, fun h => by simp at h, fun j u hu => by simp [vB] at hu, h, fun _ => rfl⟩
end Go.Proofs.Ytnpjknnalekdpaa
namespace Go.Proofs.Ytnpjknnalekdpaa
set_option linter.unusedSimpArgs false
set_option linter.unusedVariables false
open Go.RowKit
theorem numB2 (n : Nat) (h : n ≤ 1000) : numB (n : Int) 2 = [(n : Int) / 256, (n : Int) % 256] := by
  unfold numB
  rw [show List.range 2 = [0, 1] from rfl]
  simp
  omega
theorem encB_eq (t : Int) (b : List Int) (h : b.length ≤ 1000) : encB t b = 114 :: 100 :: 1 :: t :: (b.length : Int) / 256 :: (b.length : Int) % 256 :: (sum4 t b ++ b) := by
  unfold encB; rw [numB2 _ h]; simp only [List.cons_append, List.nil_append]
theorem encB_bytes (t : Int) (ht : 0 < t ∧ t ≤ 255) (b : List Int) (h : b.length ≤ 1000) (hb : Bytes b) : Bytes (encB t b) := by
  rw [encB_eq t b h]
  intro x hx
  simp only [List.mem_cons, List.mem_append] at hx
  rcases hx with rfl | rfl | rfl | rfl | rfl | rfl | hx | hx
  · omega
  · omega
  · omega
  · omega
  · omega
  · omega
  · exact sum4_bytes t b x hx
  · exact hb x hx
theorem begins_sound (t x y : Int) (r : List Int) (ht : 0 < t) (h : x * 256 + y ≤ 1000) (hx : 0 ≤ x) (hy : 0 ≤ y) : ∀ k, beginsB ((114 :: 100 :: 1 :: t :: x :: y :: r).take k) = true := by
  have g0 : t ≠ 0 := by omega
  have g1 : x * 256 ≤ 1000 := by omega
  intro k
  match k with
  | 0 => simp [beginsB, begOf, gi]
  | 1 => simp [beginsB, begOf, gi]
  | 2 => simp [beginsB, begOf, gi]
  | 3 => simp [beginsB, begOf, gi]
  | 4 => simp [beginsB, begOf, gi, g0]
  | 5 => simp [beginsB, begOf, gi, g0, g1]
  | k + 6 => simp [beginsB, begOf, gi, g0, h]
theorem enc_begins_more (t : Int) (ht : 0 < t ∧ t ≤ 255) (b z : List Int) (h : b.length ≤ 1000) : beginsB (encB t b ++ z) = true := by
  rw [encB_eq t b h]
  have := begins_sound t ((b.length : Int) / 256) ((b.length : Int) % 256) (sum4 t b ++ b ++ z) ht.1 (by omega) (by omega) (by omega) ((sum4 t b ++ b ++ z).length + 6)
  rw [List.take_of_length_le (by simp)] at this
  exact this
theorem lenD_lit (a b c t x y : Int) (r : List Int) : lenD (a :: b :: c :: t :: x :: y :: r) = (x * 256 + y).toNat := rfl
theorem lenD_enc (t : Int) (b z : List Int) (h : b.length ≤ 1000) : lenD (encB t b ++ z) = b.length := by
  rw [encB_eq t b h]
  show lenD (114 :: 100 :: 1 :: t :: (b.length : Int) / 256 :: (b.length : Int) % 256 :: (sum4 t b ++ b ++ z)) = _
  rw [lenD_lit]; omega
theorem dec_enc (t : Int) (ht : 0 < t ∧ t ≤ 255) (b z : List Int) (h : b.length ≤ 1000) : decR (encB t b ++ z) = (t, b, 10 + (b.length : Int), 0) := by
  have hd6 : (encB t b ++ z).drop 6 = sum4 t b ++ b ++ z := by rw [encB_eq t b h]; generalize sum4 t b = s; rfl
  have hd10 : (encB t b ++ z).drop 10 = b ++ z := by
    rw [show 10 = 6 + 4 from rfl, ← List.drop_drop, hd6, List.append_assoc, List.drop_append_of_le_length (by rw [sum4_length]; exact Nat.le_refl _), List.drop_eq_nil_of_le (by rw [sum4_length]; exact Nat.le_refl _)]; rfl
  have e3 : gi (encB t b ++ z) 3 = t := by rw [encB_eq t b h]; generalize sum4 t b = s; rfl
  have e4 : gi (encB t b ++ z) 4 = (b.length : Int) / 256 := by rw [encB_eq t b h]; generalize sum4 t b = s; rfl
  have e5 : gi (encB t b ++ z) 5 = (b.length : Int) % 256 := by rw [encB_eq t b h]; generalize sum4 t b = s; rfl
  have hlen : (encB t b ++ z).length = b.length + 10 + z.length := by rw [List.length_append, encB_length]
  have hq : (hashOf ([t, (b.length : Int) / 256, (b.length : Int) % 256] ++ b)).take 4 = sum4 t b := by
    unfold sum4; rw [numB2 _ h]
  unfold decR
  rw [enc_begins_more t ht b z h, if_neg (by simp), hlen, if_neg (show ¬ b.length + 10 + z.length < 10 by omega), lenD_enc t b z h, if_neg (by omega), hd6, hd10, e3, e4, e5, List.take_left' rfl, hq, List.append_assoc, List.take_left' (sum4_length t b), if_pos rfl]
end Go.Proofs.Ytnpjknnalekdpaa
namespace Go.Proofs.Ytnpjknnalekdpaa
set_option linter.unusedSimpArgs false
set_option linter.unusedVariables false
open Go.RowKit
end Go.Proofs.Ytnpjknnalekdpaa
