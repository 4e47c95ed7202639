import Derived.Test.YtnpjknnalekdpaaFx
namespace Go.Proofs.Ytnpjknnalekdpaa
set_option linter.unusedSimpArgs false
set_option linter.unusedVariables false
open Go.RowKit
/-- A frame's bytes. -/
def encB (t : Int) (b : List Int) : List Int := [114, 100, 1] ++ ((t :: numB b.length 2) ++ (sum4 t b ++ b))
theorem encB_length (t : Int) (b : List Int) : (encB t b).length = b.length + 10 := by
  unfold encB; simp [numB_length, sum4_length]; omega
/-- What Encode answers. -/
def EncOf (t : Int) (b : List Int) (w : World) (e : Ending) (w' : World) : Prop :=
  Below w.heap.size w w' ∧ (if t = 0 then e = .returned (.tuple #[.slice none 0 0, .int .i64 1]) else if 1000 < b.length then e = .returned (.tuple #[.slice none 0 0, .int .i64 5]) else ∃ u, e = .returned (.tuple #[u, .int .i64 0]) ∧ PartAt w' u (encB t b))
set_option maxHeartbeats 1000000 in
set_option maxRecDepth 100000 in
theorem rencode_no (t : Int) (av : Option Addr) (n cp : Nat) (b : List Int) (hbn : b.length = n) (hn : n ≤ 4611686018427387904) (h : t = 0 ∨ 1000 < n) (w : World) : Calls Try.prog 14 #[.agg #[.int .u8 t, .slice av n cp]] w (EncOf t b w) := by
  have hg := heap_alloc_new w (.cells #[.int .u8 t, .slice av n cp] 40)
  have c0 := row_cell (j := 0) hg rfl
  have c1 := row_cell (j := 1) hg rfl
  have B1 : Hid (Below w.heap.size w (w.alloc (.cells #[.int .u8 t, .slice av n cp] 40))) := (Below.refl _ _).alloc (Nat.le_refl _) _
  clear hg
  by_cases h0 : t = 0
  · subst h0
    go_enter Try.func14, Try.ntmps14
    go_wp2
    go_ret2
    exact ⟨B1.out, by rw [if_pos rfl]; first | done | rfl⟩
  · have hz : (t == 0) = false := by simpa using h0
    have hni : (1000 : Int) < (n : Int) := by omega
    have HL : Hid (1000 < b.length) := by unfold Hid; omega
    have H0 : Hid (¬ t = 0) := h0
    clear h
    go_enter Try.func14, Try.ntmps14
    go_wp2
    go_ret2
    exact ⟨B1.out, by rw [if_neg H0.out, if_pos HL.out]; first | done | rfl⟩
end Go.Proofs.Ytnpjknnalekdpaa
