import Derived.Test.YtjhnnblilfddpaaDoorKd
namespace Go.Proofs.YtjhnnblilfddpaaDoor
set_option linter.unusedSimpArgs false
set_option linter.unusedVariables false
open Go.RowKit
/-- n in k bytes, the highest first. -/
def numB (n : Int) (k : Nat) : List Int := (List.range k).map fun i => n / 2 ^ (8 * (k - 1 - i)) % 256
set_option maxRecDepth 100000 in
theorem numB_length (n : Int) (k : Nat) : (numB n k).length = k := by simp [numB]
/-- The row behind i rounds: its last i bytes are those of n. -/
def knumTo (n : Int) (k i : Nat) : List Int := (List.range k).map fun j => if k - 1 - j < i then n / 2 ^ (8 * (k - 1 - j)) % 256 else 0
set_option maxRecDepth 100000 in
theorem knumTo_length (n : Int) (k i : Nat) : (knumTo n k i).length = k := by simp [knumTo]
set_option maxRecDepth 100000 in
theorem knumTo_zero (n : Int) (k : Nat) : knumTo n k 0 = zs k := by
  apply List.ext_getElem
  · simp [knumTo, zs]
  · intro i h1 h2; simp [knumTo, zs]
set_option maxRecDepth 100000 in
theorem knumTo_all (n : Int) (k : Nat) : knumTo n k k = numB n k := by
  apply List.ext_getElem
  · simp [knumTo, numB]
  · intro i h1 h2
    have : i < k := by simpa [knumTo] using h1
    simp only [knumTo, numB, List.getElem_map, List.getElem_range]
    rw [if_pos (by omega)]
set_option maxRecDepth 100000 in
theorem knumTo_set (n : Int) (k i : Nat) (hi : i < k) : (knumTo n k i).set (k - 1 - i) (n / 2 ^ (8 * i) % 256) = knumTo n k (i + 1) := by
  apply List.ext_getElem
  · simp [knumTo]
  · intro j h1 h2
    have hj : j < k := by simpa [knumTo] using h2
    rw [List.getElem_set]
    simp only [knumTo, List.getElem_map, List.getElem_range]
    by_cases e : k - 1 - i = j
    · rw [if_pos e, if_pos (by omega), show k - 1 - j = i by omega]
    · rw [if_neg e]
      by_cases h : k - 1 - j < i
      · rw [if_pos h, if_pos (by omega)]
      · rw [if_neg h, if_neg (by omega)]
set_option maxRecDepth 100000 in
theorem run_conv28 {w : World} {g n cap : Nat} {l : List Int} (hl : l.length = n) (hg : w.rangeAt g 0 (vB l).toList) : (convert 22 9 (.slice (some ⟨g, 0, none⟩) n cap)).run Tryd.prog w = .ok (.string (strOfNums l)) w :=
  run_convert_bytes_arg w 22 5 Tryd.underlying22 Tryd.underlying5 g 0 n cap l hl (fun i hi => rangeB hg i (by omega)) 9 Tryd.underlying9
/-- The state behind a number. -/
def addSt (st : Option (List Int)) (b : Option (List Int)) : Option (List Int) :=
  match st, b with
  | some l, some s => some (l ++ s)
  | _, _ => none
def numSt (n : Int) (k : Int) : Option (List Int) := if sizeB k && fitsB n k.toNat then some (numB n k.toNat) else none
set_option maxHeartbeats 1000000 in
set_option maxRecDepth 100000 in
/-- Number, of a number that fits, down to the add. -/
theorem number_walk (p : Value) (n : Int) (h0 : 0 ≤ n) (h1 : n ≤ 18446744073709551615) (k : Nat) (hk : k = 1 ∨ k = 2 ∨ k = 4 ∨ k = 8) (hf : fitsB n k = true) (w : World) (R : Ending → World → Prop)
    (hadd : ∀ w1 : World, Below w.heap.size w w1 → Calls Tryd.prog 72 #[p, .string (strOfNums (numB n k))] w1 fun e w' => e = .returned (.tuple #[]) ∧ R (.returned (.tuple #[])) w') :
    Calls Tryd.prog 49 #[p, .int .u64 n, .int .i64 k] w R := by
  have hsz : sizeB k = true := by rcases hk with rfl | rfl | rfl | rfl <;> rfl
  have hk8 : k ≤ 8 := by omega
  have hk1 : 1 ≤ k := by omega
  have hmk := fun W : World => makeB k (by omega) W
  have HADD : Hid (∀ w1 : World, Below w.heap.size w w1 → Calls Tryd.prog 72 #[p, .string (strOfNums (numB n k))] w1 fun e w' => e = .returned (.tuple #[]) ∧ R (.returned (.tuple #[])) w') := hadd
  have F : Hid (∀ W : World, Calls Tryd.prog 70 #[.int .u64 n, .int .i64 k] W fun e w' => e = .returned (.bool true) ∧ w' = W) := fun W => by rw [← hf]; exact fits_any n k h0 h1 hk W
  have G : Hid (∀ W : World, Calls Tryd.prog 69 #[.int .i64 k] W fun e w' => e = .returned (.bool true) ∧ w' = W) := fun W => by rw [← hsz]; exact isSize_any k W
  clear hadd hk hf hsz
  go_enter Tryd.func49, Tryd.ntmps49
  go_wp2_with (first | (go_at_call 69; refine (G.out _).mono ?_; rintro e w' ⟨rfl, h'⟩; have h'' := h'.symm; clear h'; subst h'') | (go_at_call 70; refine (F.out _).mono ?_; rintro e w' ⟨rfl, h'⟩; have h'' := h'.symm; clear h'; subst h''))
  go_loopw [23] (fun i wr => ∃ j : Nat, j ≤ k ∧ i = .int .i64 j ∧ wr.heap[w.heap.size]? = some (.cells (vB (knumTo n k j)) 5) ∧ Below w.heap.size w wr) (fun i _ => k - (intOf i).toNat)
  case atStart =>
    exact ⟨0, by omega, rfl, by rw [knumTo_zero]; exact heap_alloc_new _ _, (Below.refl _ _).alloc (Nat.le_refl _) _⟩
  case round =>
    obtain ⟨j, hj, rfl, hg, hb⟩ := hrel
    by_cases hlt : j < k
    · have hlen := knumTo_length n k j
      have hidx : ((k : Int) - 1 - (j : Int)).toNat = k - 1 - j := by omega
      have hc : wr.cell? ⟨w.heap.size, k - 1 - j, none⟩ = some (.int .u8 (gi (knumTo n k j) (k - 1 - j))) := row_cell hg (vB_at _ _ (by omega))
      have hfz := unfrozen (j := k - 1 - j) hg
      have e1 : (k : Int) - 1 - (j : Int) < (k : Int) := by omega
      have e2 : 0 ≤ (k : Int) - 1 - (j : Int) := by omega
      have e3 : (8 * (j : Int)).toNat = 8 * j := by omega
      have e4 : 0 ≤ 8 * (j : Int) := by omega
      go_wp2
      go_roundw
      case rel =>
        refine ⟨j + 1, by omega, by go_num, ?_, ?_⟩
        · rw [heap_setCell_same _ _ _ _ 5 _ hg, vB_set, knumTo_set n k j hlt]
        · exact hb.grown (grown_setCell _ _ _ _) hb.size (fun k hk => by injection hk; omega)
      case measure => simp [intOf]; omega
    · have ej : j = k := by omega
      subst ej
      rw [knumTo_all] at hg
      have hcv := run_conv28 (cap := j) (numB_length n j) (range_of_block hg)
      have HB : Hid (Below w.heap.size w wr) := hb
      clear hg hb
      go_wp2_with fail
      refine (HADD.out _ HB.out).mono ?_
      rintro e w3 ⟨rfl, hR⟩
      go_wp2
      exact fell Tryd.results49 rfl hR
end Go.Proofs.YtjhnnblilfddpaaDoor
