import Derived.Test.YtjhnnblilfddpaaDoorFc
namespace Go.Proofs.YtjhnnblilfddpaaDoor
set_option linter.unusedSimpArgs false
set_option linter.unusedVariables false
open Go.RowKit
theorem Bytes.cons' {x : Int} {l : List Int} (h0 : 0 ≤ x ∧ x ≤ 255) (h : Bytes l) : Bytes (x :: l) := fun y hy => by
  rcases List.mem_cons.1 hy with rfl | hy
  · exact h0
  · exact h y hy
theorem Bytes.app {a b : List Int} (h : Bytes a) (k : Bytes b) : Bytes (a ++ b) := fun y hy => by
  rcases List.mem_append.1 hy with hy | hy
  · exact h y hy
  · exact k y hy
theorem partRow {w : World} {g : Nat} {l : List Int} (hg : w.heap[g]? = some (.cells (vB l) 5)) (n : Nat) (hn : l.length = n) (h : n ≤ 1000000) : PartAt w (.slice (some ⟨g, 0, none⟩) n n) l :=
  ⟨some ⟨g, 0, none⟩, g, 0, n, by rw [hn], by omega, by omega, fun _ => rfl, range_of_block hg, (Array.getElem?_eq_some_iff.1 hg).1, fun h => by cases h⟩
theorem range_threeF {w : World} {x y z : Value} {t : TypeId} : (w.alloc (Obj.cells #[x, y, z] t)).rangeAt w.heap.size 0 [x, y, z] := fun j v hv => by
  rw [Nat.zero_add, cell_of_row _ _ j _ t (0, 0) (heap_alloc_new _ _)]; simpa using hv
theorem three_partsF {w : World} {x y z : Value} {a b c : List Int} (ha : PartAt w x a) (hb : PartAt w y b) (hc : PartAt w z c) : ∀ (i : Nat) (v : Value) (l : List Int), [x, y, z][i]? = some v → [a, b, c][i]? = some l → PartAt w v l := fun i v l h1 h2 => by
  match i, h1, h2 with
  | 0, h1, h2 => simp at h1 h2; subst h1 h2; exact ha
  | 1, h1, h2 => simp at h1 h2; subst h1 h2; exact hb
  | 2, h1, h2 => simp at h1 h2; subst h1 h2; exact hc
  | n + 3, h1, h2 => simp at h1
/-- The sum of a frame. -/
def sum4 (t : Int) (b : List Int) : List Int := (hashOf ((t :: numB b.length 2) ++ b)).take 4
theorem sum4_length (t : Int) (b : List Int) : (sum4 t b).length = 4 := by unfold sum4; rw [List.length_take, hashOf_length]; rfl
theorem sum4_bytes (t : Int) (b : List Int) : Bytes (sum4 t b) := fun x hx => hashOf_bytes _ x (List.mem_of_mem_take hx)
set_option maxHeartbeats 1000000 in
set_option maxRecDepth 100000 in
/-- The reference's sum. -/
theorem rsum4_any (t : Int) (ht : 0 ≤ t ∧ t ≤ 255) (v : Value) (b : List Int) (w : World) (hp : PartAt w v b) (hb : Bytes b) (hn : b.length ≤ 3000) :
    Calls Tryd.prog 53 #[.int .u8 t, v] w fun e w' => ∃ u, e = .returned u ∧ PartAt w' u (sum4 t b) ∧ Below w.heap.size w w' := by
  have b1 : Below w.heap.size w (w.alloc (.cells #[.int .u8 t] 5)) := (Below.refl _ _).alloc (Nat.le_refl _) _
  have p1 : PartAt (w.alloc (.cells #[.int .u8 t] 5)) (.slice (some ⟨w.heap.size, 0, none⟩) 1 1) [t] := part_new w [t] (by simp)
  have NU : Hid (Calls Tryd.prog 43 #[.int .u64 b.length, .int .i64 2] (w.alloc (.cells #[.int .u8 t] 5)) fun e w' => ∃ g, e = .returned (.slice (some ⟨g, 0, none⟩) 2 2) ∧ PartAt w' (.slice (some ⟨g, 0, none⟩) 2 2) (numB b.length 2) ∧ PartAt w' (.slice (some ⟨w.heap.size, 0, none⟩) 1 1) [t] ∧ PartAt w' v b ∧ Below w.heap.size w w') :=
    (rnumk_any b.length (by omega) (by omega) 2 (by omega) (by omega) _).mono fun e w' ⟨g, r1, r2, r3, r4⟩ => ⟨g, r1, partRow r3 2 (numB_length _ _) (by omega), p1.below r4, (hp.below b1).below r4, b1.trans (r4.mono (by simp))⟩
  have JN : Hid (∀ (w2 : World) (x y z : Value), PartAt w2 x [t] → PartAt w2 y (numB b.length 2) → PartAt w2 z b → Below w.heap.size w w2 → Calls Tryd.prog 16 #[.slice (some ⟨w2.heap.size, 0, none⟩) 3 3] (w2.alloc (Obj.cells #[x, y, z] 22)) fun e w' => ∃ u, e = .returned u ∧ PartAt w' u ((t :: numB b.length 2) ++ b) ∧ Below w.heap.size w w') := fun w2 x y z hx hy hz k => by
    have kk : Below w2.heap.size w2 (w2.alloc (Obj.cells #[x, y, z] 22)) := (Below.refl _ _).alloc (Nat.le_refl _) _
    refine (join_any w2.heap.size 0 3 3 [x, y, z] [[t], numB b.length 2, b] rfl rfl _ (by simp) range_threeF (by simp) (three_partsF (hx.below kk) (hy.below kk) (hz.below kk)) (by simp [numB_length]; omega) (by omega)).mono ?_
    rintro e w5 ⟨u, rfl, o5, b5⟩
    have b05 : Below w.heap.size w w5 := k.trans (kk.trans (b5.mono (by simp)) |>.mono k.size)
    refine ⟨u, rfl, ?_, b05⟩
    have := o5.partG (by have := b5.size; simp at this; omega)
    simpa using this
  have SM : Hid (∀ (w3 : World) (u : Value), PartAt w3 u ((t :: numB b.length 2) ++ b) → Calls Tryd.prog 15 #[u] w3 fun e w' => e = .returned (.agg (vB (hashOf ((t :: numB b.length 2) ++ b)))) ∧ Below w3.heap.size w3 w') := fun w3 u q => rsum_any u _ w3 q (by simp [numB_length]; omega) ((Bytes.cons' ht (numB_bytes _ _)).app hb)
  have hl := hashOf_length ((t :: numB b.length 2) ++ b)
  have ES : Hid (sum4 t b = (hashOf ((t :: numB b.length 2) ++ b)).take 4) := rfl
  generalize sum4 t b = S4 at *
  generalize hashOf ((t :: numB b.length 2) ++ b) = H at *
  have hw64 : IntKind.u64.wrap (b.length : Int) = (b.length : Int) := by rw [show IntKind.u64.wrap (b.length : Int) = (b.length : Int) % 18446744073709551616 from rfl]; omega
  have hw65 : (b.length : Int) % 18446744073709551616 = (b.length : Int) := by omega
  obtain ⟨avb, bb, ob, cpb, rfl, _⟩ := hp
  clear b1 p1
  go_enter Tryd.func53, Tryd.ntmps53
  go_wp2_with fail
  refine NU.out.mono ?_
  rintro e w2 ⟨g, rfl, q2, q1, q3, k2⟩
  have J2 : Hid (Calls Tryd.prog 16 #[.slice (some ⟨w2.heap.size, 0, none⟩) 3 3] (w2.alloc (Obj.cells #[.slice (some ⟨w.heap.size, 0, none⟩) 1 1, .slice (some ⟨g, 0, none⟩) 2 2, .slice avb b.length cpb] 22)) fun e w' => ∃ u, e = .returned u ∧ PartAt w' u ((t :: numB b.length 2) ++ b) ∧ Below w.heap.size w w') := JN.out w2 _ _ _ q1 q2 q3 k2
  clear q1 q2 q3 NU JN
  go_wp2_with fail
  refine J2.out.mono ?_
  rintro e w3 ⟨u, rfl, q3, k3⟩
  have S3 := SM.out w3 u q3
  have S3' : Hid (Calls Tryd.prog 15 #[u] w3 fun e w' => e = .returned (.agg (vB H)) ∧ Below w3.heap.size w3 w') := S3
  clear S3 q3 J2 SM k2
  go_wp2_with fail
  refine S3'.out.mono ?_
  rintro e w4 ⟨rfl, k4⟩
  clear S3'
  go_wp2_with (first | (refine store24n rfl _ _ rfl H hl rfl rfl ?_; intro w5 f1 f2 _ _; have F1 : Hid (w5.heap[w4.heap.size]? = some (.cells (vB H) 24)) := f1; clear f1))
  go_ret
  have b5 : Below w.heap.size w w5 := k3.trans ((k4.trans (f2.mono k4.size)).mono k3.size)
  refine ⟨_, rfl, ?_, b5⟩
  rw [ES.out]
  refine ⟨some ⟨w4.heap.size, 0, none⟩, w4.heap.size, 0, 32, ?_, ?_, by omega, fun _ => rfl, ?_, (Array.getElem?_eq_some_iff.1 F1.out).1, fun h => by cases h⟩
  · rw [List.length_take, hl]; rfl
  · rw [List.length_take, hl]; omega
  · intro j u hu
    have := range_of_block F1.out j u (by simp [vB, List.getElem?_take] at hu ⊢; exact hu.2)
    exact this
end Go.Proofs.YtjhnnblilfddpaaDoor
