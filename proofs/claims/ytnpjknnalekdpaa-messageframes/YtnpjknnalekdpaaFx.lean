import Derived.Test.YtnpjknnalekdpaaMx
import Derived.Lib.AppendZeros
import Derived.Test.YtnpjknnalekdpaaKx
import Derived.Laws.CopyRow
namespace Go.Proofs.Ytnpjknnalekdpaa
set_option linter.unusedSimpArgs false
set_option linter.unusedVariables false
open Go.RowKit
end Go.Proofs.Ytnpjknnalekdpaa
namespace Go.Proofs.Ytnpjknnalekdpaa
set_option linter.unusedSimpArgs false
set_option linter.unusedVariables false
open Go.RowKit
set_option maxHeartbeats 1000000 in
set_option maxRecDepth 100000 in
/-- The reference's Number, of few bytes. -/
theorem rnumk_any (n : Int) (h0 : 0 ≤ n) (h1 : n ≤ 18446744073709551615) (k : Nat) (hk1 : 1 ≤ k) (hk8 : k ≤ 8) (w : World) :
    Calls Try.prog 29 #[.int .u64 n, .int .i64 k] w fun e w' => ∃ g, e = .returned (.slice (some ⟨g, 0, none⟩) k k) ∧ w.heap.size ≤ g ∧ w'.heap[g]? = some (.cells (vB (numB n k)) 5) ∧ Below w.heap.size w w' := by
  have hmk := fun W : World => makeB k (by omega) W
  go_enter Try.func29, Try.ntmps29
  go_wp2
  go_loopw [10] (fun i wr => ∃ j : Nat, j ≤ k ∧ i = .int .i64 j ∧ wr.heap[w.heap.size]? = some (.cells (vB (knumTo n k j)) 5) ∧ Below w.heap.size w wr) (fun i _ => k - (intOf i).toNat)
  case atStart =>
    exact ⟨0, by omega, rfl, by rw [knumTo_zero]; exact heap_alloc_new _ _, (Below.refl _ _).alloc (Nat.le_refl _) _⟩
  case round =>
    obtain ⟨j, hj, rfl, hg, hb⟩ := hrel
    by_cases hlt : j < k
    · have hlen := knumTo_length n k j
      have hidx : ((k : Int) - 1 - (j : Int)).toNat = k - 1 - j := by omega
      have hc : wr.cell? ⟨w.heap.size, k - 1 - j, none⟩ = some (.int .u8 (gi (knumTo n k j) (k - 1 - j))) := row_cell hg (vB_at _ _ (by omega))
      have hfz := unfrozen (j := k - 1 - j) hg
      have e1 : (k : Int) - 1 - (j : Int) < (k : Int) := by omega
      have e2 : 0 ≤ (k : Int) - 1 - (j : Int) := by omega
      have e3 : (8 * (j : Int)).toNat = 8 * j := by omega
      have e4 : 0 ≤ 8 * (j : Int) := by omega
      go_wp2
      go_roundw
      case rel =>
        refine ⟨j + 1, by omega, by go_num, ?_, ?_⟩
        · rw [heap_setCell_same _ _ _ _ 5 _ hg, vB_set, knumTo_set n k j hlt]
        · exact hb.grown (grown_setCell _ _ _ _) hb.size (fun k hk => by injection hk; omega)
      case measure => simp [intOf]; omega
    · have ej : j = k := by omega
      subst ej
      rw [knumTo_all] at hg
      have HG : Hid (wr.heap[w.heap.size]? = some (.cells (vB (numB n j)) 5)) := hg
      clear hg
      go_wp2
      go_ret
      exact ⟨_, rfl, Nat.le_refl _, HG.out, hb⟩
set_option maxHeartbeats 1000000 in
set_option maxRecDepth 100000 in
/-- The reference's Of, of few bytes. -/
theorem rofk_any (b o cp : Nat) (V : List Int) (w : World) (hl : V.length ≤ 8) (hcp : V.length ≤ cp) (hV : Bytes V) (hr : w.rangeAt b o (vB V).toList) : Calls Try.prog 12 #[.slice (some ⟨b, o, none⟩) V.length cp] w fun e w' => e = .returned (.int .u64 (valB V)) ∧ w' = w := by
  have CELL : Hid (∀ j, j < V.length → w.cell? ⟨b, o + j, none⟩ = some (.int .u8 (gi V j))) := fun j hj => rangeB hr j hj
  have HBV : Hid (Bytes V) := hV
  clear hV hr
  go_enter Try.func12, Try.ntmps12
  go_wp2
  go_loop [7, 3] (fun i n => ∃ j : Nat, j ≤ V.length ∧ i = .int .i64 j ∧ n = .int .u64 (valB (V.take j))) (fun i _ => V.length - (intOf i).toNat)
  case atStart => exact ⟨0, by omega, rfl, rfl⟩
  case round =>
    obtain ⟨j, hj, rfl, rfl⟩ := hrel
    by_cases hlt : j < V.length
    · have hc := CELL.out j hlt
      have hji : (j : Int) < (V.length : Int) := by omega
      have HS : Hid (stepB (valB (V.take j)) (gi V j) = valB (V.take (j + 1))) := by
        unfold Hid
        rw [← valB_snoc, List.take_add_one]
        congr 2
        unfold gi; simp [hlt]
      have hbj := HBV.out (gi V j) (by unfold gi; simp [hlt])
      have hgm : gi V j % 18446744073709551616 = gi V j := by omega
      generalize valB (V.take j) = N at *
      generalize gi V j = X at *
      go_wp2
      exact ⟨⟨j + 1, by omega, by go_num, by rw [← HS.out]; rfl⟩, by simp [intOf]; omega⟩
    · have ej : j = V.length := by omega
      subst ej
      rw [List.take_length]
      go_wp2
      go_ret
      exact ⟨rfl, rfl⟩
end Go.Proofs.Ytnpjknnalekdpaa
namespace Go.Proofs.Ytnpjknnalekdpaa
set_option linter.unusedSimpArgs false
set_option linter.unusedVariables false
open Go.RowKit
theorem four (H : List Int) (hH : H.length = 32) : ∃ a b c d, H.take 4 = [a, b, c, d] := by
  match H, hH with
  | a :: b :: c :: d :: r, _ => exact ⟨a, b, c, d, rfl⟩
section
variable {ops : Array Oper} {rest : List Oper} {o : Oper} {a : Act} {w : World} {Q : Exit → Act → World → Prop}
end
end Go.Proofs.Ytnpjknnalekdpaa
namespace Go.Proofs.Ytnpjknnalekdpaa
set_option linter.unusedSimpArgs false
set_option linter.unusedVariables false
open Go.RowKit
theorem Bytes.cons' {x : Int} {l : List Int} (h0 : 0 ≤ x ∧ x ≤ 255) (h : Bytes l) : Bytes (x :: l) := fun y hy => by
  rcases List.mem_cons.1 hy with rfl | hy
  · exact h0
  · exact h y hy
theorem Bytes.app {a b : List Int} (h : Bytes a) (k : Bytes b) : Bytes (a ++ b) := fun y hy => by
  rcases List.mem_append.1 hy with hy | hy
  · exact h y hy
  · exact k y hy
theorem partRow {w : World} {g : Nat} {l : List Int} (hg : w.heap[g]? = some (.cells (vB l) 5)) (n : Nat) (hn : l.length = n) (h : n ≤ 1000000) : PartAt w (.slice (some ⟨g, 0, none⟩) n n) l :=
  ⟨some ⟨g, 0, none⟩, g, 0, n, by rw [hn], by omega, by omega, fun _ => rfl, range_of_block hg, (Array.getElem?_eq_some_iff.1 hg).1, fun h => by cases h⟩
theorem range_threeF {w : World} {x y z : Value} {t : TypeId} : (w.alloc (Obj.cells #[x, y, z] t)).rangeAt w.heap.size 0 [x, y, z] := fun j v hv => by
  rw [Nat.zero_add, cell_of_row _ _ j _ t (0, 0) (heap_alloc_new _ _)]; simpa using hv
theorem three_partsF {w : World} {x y z : Value} {a b c : List Int} (ha : PartAt w x a) (hb : PartAt w y b) (hc : PartAt w z c) : ∀ (i : Nat) (v : Value) (l : List Int), [x, y, z][i]? = some v → [a, b, c][i]? = some l → PartAt w v l := fun i v l h1 h2 => by
  match i, h1, h2 with
  | 0, h1, h2 => simp at h1 h2; subst h1 h2; exact ha
  | 1, h1, h2 => simp at h1 h2; subst h1 h2; exact hb
  | 2, h1, h2 => simp at h1 h2; subst h1 h2; exact hc
  | n + 3, h1, h2 => simp at h1
/-- The sum of a frame. -/
def sum4 (t : Int) (b : List Int) : List Int := (hashOf ((t :: numB b.length 2) ++ b)).take 4
theorem sum4_length (t : Int) (b : List Int) : (sum4 t b).length = 4 := by unfold sum4; rw [List.length_take, hashOf_length]; rfl
theorem sum4_bytes (t : Int) (b : List Int) : Bytes (sum4 t b) := fun x hx => hashOf_bytes _ x (List.mem_of_mem_take hx)
set_option maxHeartbeats 1000000 in
set_option maxRecDepth 100000 in
/-- The reference's sum. -/
theorem rsum4_any (t : Int) (ht : 0 ≤ t ∧ t ≤ 255) (v : Value) (b : List Int) (w : World) (hp : PartAt w v b) (hb : Bytes b) (hn : b.length ≤ 3000) :
    Calls Try.prog 32 #[.int .u8 t, v] w fun e w' => ∃ u, e = .returned u ∧ PartAt w' u (sum4 t b) ∧ Below w.heap.size w w' := by
  have b1 : Below w.heap.size w (w.alloc (.cells #[.int .u8 t] 5)) := (Below.refl _ _).alloc (Nat.le_refl _) _
  have p1 : PartAt (w.alloc (.cells #[.int .u8 t] 5)) (.slice (some ⟨w.heap.size, 0, none⟩) 1 1) [t] := part_new w [t] (by simp)
  have NU : Hid (Calls Try.prog 29 #[.int .u64 b.length, .int .i64 2] (w.alloc (.cells #[.int .u8 t] 5)) fun e w' => ∃ g, e = .returned (.slice (some ⟨g, 0, none⟩) 2 2) ∧ PartAt w' (.slice (some ⟨g, 0, none⟩) 2 2) (numB b.length 2) ∧ PartAt w' (.slice (some ⟨w.heap.size, 0, none⟩) 1 1) [t] ∧ PartAt w' v b ∧ Below w.heap.size w w') :=
    (rnumk_any b.length (by omega) (by omega) 2 (by omega) (by omega) _).mono fun e w' ⟨g, r1, r2, r3, r4⟩ => ⟨g, r1, partRow r3 2 (numB_length _ _) (by omega), p1.below r4, (hp.below b1).below r4, b1.trans (r4.mono (by simp))⟩
  have JN : Hid (∀ (w2 : World) (x y z : Value), PartAt w2 x [t] → PartAt w2 y (numB b.length 2) → PartAt w2 z b → Below w.heap.size w w2 → Calls Try.prog 28 #[.slice (some ⟨w2.heap.size, 0, none⟩) 3 3] (w2.alloc (Obj.cells #[x, y, z] 22)) fun e w' => ∃ u, e = .returned u ∧ PartAt w' u ((t :: numB b.length 2) ++ b) ∧ Below w.heap.size w w') := fun w2 x y z hx hy hz k => by
    have kk : Below w2.heap.size w2 (w2.alloc (Obj.cells #[x, y, z] 22)) := (Below.refl _ _).alloc (Nat.le_refl _) _
    refine (join_any w2.heap.size 0 3 3 [x, y, z] [[t], numB b.length 2, b] rfl rfl _ (by simp) range_threeF (by simp) (three_partsF (hx.below kk) (hy.below kk) (hz.below kk)) (by simp [numB_length]; omega) (by omega)).mono ?_
    rintro e w5 ⟨u, rfl, o5, b5⟩
    have b05 : Below w.heap.size w w5 := k.trans (kk.trans (b5.mono (by simp)) |>.mono k.size)
    refine ⟨u, rfl, ?_, b05⟩
    have := o5.partG (by have := b5.size; simp at this; omega)
    simpa using this
  have SM : Hid (∀ (w3 : World) (u : Value), PartAt w3 u ((t :: numB b.length 2) ++ b) → Calls Try.prog 35 #[u] w3 fun e w' => e = .returned (.agg (vB (hashOf ((t :: numB b.length 2) ++ b)))) ∧ Below w3.heap.size w3 w') := fun w3 u q => rsum_any u _ w3 q (by simp [numB_length]; omega) ((Bytes.cons' ht (numB_bytes _ _)).app hb)
  have hl := hashOf_length ((t :: numB b.length 2) ++ b)
  have ES : Hid (sum4 t b = (hashOf ((t :: numB b.length 2) ++ b)).take 4) := rfl
  generalize sum4 t b = S4 at *
  generalize hashOf ((t :: numB b.length 2) ++ b) = H at *
  have hw64 : IntKind.u64.wrap (b.length : Int) = (b.length : Int) := by rw [show IntKind.u64.wrap (b.length : Int) = (b.length : Int) % 18446744073709551616 from rfl]; omega
  have hw65 : (b.length : Int) % 18446744073709551616 = (b.length : Int) := by omega
  obtain ⟨avb, bb, ob, cpb, rfl, _⟩ := hp
  clear b1 p1
  go_enter Try.func32, Try.ntmps32
  go_wp2_with fail
  refine NU.out.mono ?_
  rintro e w2 ⟨g, rfl, q2, q1, q3, k2⟩
  have J2 : Hid (Calls Try.prog 28 #[.slice (some ⟨w2.heap.size, 0, none⟩) 3 3] (w2.alloc (Obj.cells #[.slice (some ⟨w.heap.size, 0, none⟩) 1 1, .slice (some ⟨g, 0, none⟩) 2 2, .slice avb b.length cpb] 22)) fun e w' => ∃ u, e = .returned u ∧ PartAt w' u ((t :: numB b.length 2) ++ b) ∧ Below w.heap.size w w') := JN.out w2 _ _ _ q1 q2 q3 k2
  clear q1 q2 q3 NU JN
  go_wp2_with fail
  refine J2.out.mono ?_
  rintro e w3 ⟨u, rfl, q3, k3⟩
  have S3 := SM.out w3 u q3
  have S3' : Hid (Calls Try.prog 35 #[u] w3 fun e w' => e = .returned (.agg (vB H)) ∧ Below w3.heap.size w3 w') := S3
  clear S3 q3 J2 SM k2
  go_wp2_with fail
  refine S3'.out.mono ?_
  rintro e w4 ⟨rfl, k4⟩
  clear S3'
  go_wp2_with (first | (refine store24n rfl _ _ rfl H hl rfl rfl ?_; intro w5 f1 f2 _ _; have F1 : Hid (w5.heap[w4.heap.size]? = some (.cells (vB H) 27)) := f1; clear f1))
  go_ret
  have b5 : Below w.heap.size w w5 := k3.trans ((k4.trans (f2.mono k4.size)).mono k3.size)
  refine ⟨_, rfl, ?_, b5⟩
  rw [ES.out]
  refine ⟨some ⟨w4.heap.size, 0, none⟩, w4.heap.size, 0, 32, ?_, ?_, by omega, fun _ => rfl, ?_, (Array.getElem?_eq_some_iff.1 F1.out).1, fun h => by cases h⟩
  · rw [List.length_take, hl]; rfl
  · rw [List.length_take, hl]; omega
  · intro j u hu
    have := range_of_block F1.out j u (by simp [vB, List.getElem?_take] at hu ⊢; exact hu.2)
    exact this
end Go.Proofs.Ytnpjknnalekdpaa
