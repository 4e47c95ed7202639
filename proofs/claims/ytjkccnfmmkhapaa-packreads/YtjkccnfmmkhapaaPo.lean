import Derived.Test.YtjkccnfmmkhapaaPn
import Derived.Lib.SlBytesConst
namespace Go.Proofs.Ytjkccnfmmkhapaa
set_option linter.unusedSimpArgs false
set_option linter.unusedVariables false
open Go.RowKit
/-- The value v is a slice of the items xs. -/
def ItemsAt (w : World) (v : Value) (xs : List It) : Prop := ∃ (av : Option Addr) (b o cp : Nat), v = .slice av xs.length cp ∧ xs.length ≤ cp ∧ cp ≤ 9223372036854775807 ∧ (0 < xs.length → av = some ⟨b, o, none⟩) ∧
  (∀ (i : Nat) (x : It), xs[i]? = some x → w.rangeAt b (o + i * 37) (itC x).toList) ∧ (0 < xs.length → b < w.heap.size) ∧ (∀ x ∈ xs, x.Ok) ∧ xs.length ≤ 140737488351232
theorem range_below {w w' : World} {b o : Nat} {cs : List Value} (h : w.rangeAt b o cs) (hb : Below w.heap.size w w') (hlt : b < w.heap.size) : w'.rangeAt b o cs := fun j v hv => by
  rw [hb.cell (show b < w.heap.size from hlt)]; exact h j v hv
theorem ItemsAt.below {w w' : World} {v : Value} {xs : List It} (h : ItemsAt w v xs) (hb : Below w.heap.size w w') : ItemsAt w' v xs := by
  obtain ⟨av, b, o, cp, h1, h2, h3, h4, h5, h6, h7⟩ := h
  exact ⟨av, b, o, cp, h1, h2, h3, h4, fun i x hx => range_below (h5 i x hx) hb (h6 (by have := (List.getElem?_eq_some_iff.1 hx).1; omega)), fun h => Nat.lt_of_lt_of_le (h6 h) hb.size, h7⟩
theorem it_cell {w : World} {b o : Nat} {x : It} (h : w.rangeAt b o (itC x).toList) {j : Nat} {v : Value} (hj : (itC x)[j]? = some v) : w.cell? ⟨b, o + j, none⟩ = some v := h j v (by rw [Array.getElem?_toList]; exact hj)
/-- What few answers: where it is true, there are at most 100. -/
def FewRes (xs : List It) (w : World) (e : Ending) (w' : World) : Prop := ∃ c : Bool, e = .returned (.bool c) ∧ (c = true → xs.length ≤ 100) ∧ w' = w
set_option maxHeartbeats 1000000 in
set_option maxRecDepth 100000 in
theorem few_any (v : Value) (xs : List It) (w : World) (h : ItemsAt w v xs) : Calls Try.prog 7 #[v] w (FewRes xs w) := by
  obtain ⟨av, b, o, cp, rfl, h1, h2, h3, h4, h5, h6, h7⟩ := h
  go_enter Try.func7, Try.ntmps7
  go_wp2
  go_loop [7, 3] (fun i n => ∃ (j : Nat) (m : Int), j ≤ xs.length ∧ j ≤ 100 ∧ i = .int .i64 j ∧ n = .int .i64 m ∧ 0 ≤ m ∧ m ≤ 200000) (fun i _ => xs.length - (intOf i).toNat)
  case atStart => exact ⟨0, 0, by omega, by omega, rfl, rfl, by omega, by omega⟩
  case round =>
    obtain ⟨j, m, hj, hj2, rfl, rfl, hm0, hm1⟩ := hrel
    by_cases hlt : j < xs.length
    · obtain ⟨x, hx⟩ : ∃ x, xs[j]? = some x := ⟨xs[j], List.getElem?_eq_getElem hlt⟩
      have hav := h3 (by omega)
      subst hav
      have hc := it_cell (h4 j x hx) (itC_4 x)
      have hji : (j : Int) < (xs.length : Int) := by omega
      have hok := (h6 x (List.mem_of_getElem? hx)).s1
      clear h4 h6
      go_wp2
      case roundEnd =>
        rename_i q1 q2
        have q3 := q2.2
        exact ⟨⟨j + 1, _, by omega, by omega, by go_num, rfl, by omega, by omega⟩, by simp [intOf]; omega⟩
      all_goals
        go_ret
        exact ⟨false, rfl, by simp, rfl⟩
    · go_wp2
      go_ret
      exact ⟨true, rfl, fun _ => by omega, rfl⟩
theorem wst_new (w : World) : WSt (w.alloc (.cells #[.pointer none, .int .i64 0, .bool false] 27)) w.heap.size (some []) :=
  ⟨.pointer none, [], heap_alloc_new _ _, rfl, rfl, by simp⟩
theorem five (w : World) : (convert 28 9 (.slice (some ⟨w.heap.size, 0, none⟩) 1 1)).run Try.prog (w.alloc (.cells #[.int .u8 5] 5)) = .ok (.string (strOfNums [5])) (w.alloc (.cells #[.int .u8 5] 5)) :=
  run_conv28 (l := [5]) rfl (range_of_block (l := [5]) (heap_alloc_new w (.cells #[.int .u8 5] 5)))
set_option maxHeartbeats 1000000 in
set_option maxRecDepth 100000 in
theorem awake_any (w : World) : Calls Try.prog 6 #[] w fun e w' => e = .returned (.bool true) ∧ Below w.heap.size w w' := by
  have B0 : Hid (Below w.heap.size w (w.alloc (.cells #[.pointer none, .int .i64 0, .bool false] 27))) := (Below.refl _ _).alloc (Nat.le_refl _) _
  have N : Hid (Calls Try.prog 22 #[.pointer (some ⟨w.heap.size, 0, none⟩), .int .u64 258, .int .i64 2] (w.alloc (.cells #[.pointer none, .int .i64 0, .bool false] 27)) fun e w1 => e = .returned (.tuple #[]) ∧ WSt w1 w.heap.size (some [1, 2]) ∧ Below w.heap.size w w1) :=
    (number_any w.heap.size (some []) 258 (by omega) (by omega) 2 _ (wst_new w) (by simp [stLen])).mono fun e w1 ⟨h1, h2, h3⟩ => ⟨h1, h2, B0.out.grown h3 (by simp) (fun k hk => by injection hk; omega)⟩
  have R : Hid (∀ W : World, Calls Try.prog 12 #[.slice (some ⟨W.heap.size, 0, none⟩) 1 1] (W.alloc (.cells #[.int .u8 5] 5)) fun e w' => ∃ g, e = .returned (.pointer (some ⟨g, 0, none⟩)) ∧ RSt w' g (some [5]) ∧ Below W.heap.size W w' ∧ W.heap.size ≤ g) := fun W =>
    (read_any _ [5] (fun x hx => by simp at hx; omega) (by simp) _ (five W)).mono fun e w' ⟨g, h1, h2, h3, h4⟩ => ⟨g, h1, h2, ((Below.refl _ _).alloc (Nat.le_refl _) _).trans (h4.mono (by simp)), by simp at h3; omega⟩
  have D : Hid (∀ (W : World) (g : Nat), RSt W g (some [5]) → Calls Try.prog 13 #[.pointer (some ⟨g, 0, none⟩), .int .i64 1] W fun e w' => e = .returned (.int .u64 5) ∧ W.grownBy w' (some g)) := fun W g hg =>
    (rnumber_h _ (some [5]) 1 W (Or.inr ⟨g, rfl, hg⟩)).mono fun e w' ⟨h1, h2, h3⟩ => ⟨by rw [h1]; rfl, h3⟩
  have Y : Hid (∀ W : World, WSt W w.heap.size (some [1, 2]) → Calls Try.prog 11 #[.pointer (some ⟨w.heap.size, 0, none⟩)] W fun e w' => ∃ G, e = .returned (.slice (some ⟨G, 0, none⟩) 2 2) ∧ w'.heap[G]? = some (.cells (vB [1, 2]) 5) ∧ W.heap.size ≤ G ∧ Below W.heap.size W w') := fun W hW =>
    bytes_good w.heap.size [1, 2] W hW (fun x hx => by simp at hx; omega)
  go_enter Try.func6, Try.ntmps6
  go_wp2_with (first | (go_at_call 22; refine N.out.mono ?_; rintro e w1 ⟨rfl, h1, b1⟩; have H1 : Hid (WSt w1 w.heap.size (some [1, 2])) := h1; clear h1) | (go_at_call 11; refine (Y.out _ H1.out).mono ?_; rintro e w2 ⟨G, rfl, h2, s2, b2⟩; have hcv := run_conv28 (l := [1, 2]) (n := 2) (cap := 2) rfl (range_of_block h2); have hst : strOfNums [1, 2] = ⟨#[1, 2]⟩ := (by rfl); rw [hst] at hcv; clear h2 hst) | (go_at_call 12; refine (R.out _).mono ?_; rintro e w3 ⟨g3, rfl, h3, b3, s3⟩; have H3 : Hid (RSt w3 g3 (some [5])) := h3; clear h3) | (go_at_call 13; refine (D.out _ _ H3.out).mono ?_; rintro e w4 ⟨rfl, g4⟩))
  go_ret
  have s1 := b1.size
  have b02 : Below w.heap.size w w2 := b1.trans (b2.mono b1.size)
  have b03 : Below w.heap.size w w3 := b02.trans (b3.mono b02.size)
  exact ⟨rfl, b03.grown g4 b03.size (fun k hk => by injection hk with hk; have := b02.size; omega)⟩
end Go.Proofs.Ytjkccnfmmkhapaa
