import Derived.Test.YtjhnnblilfddpaaDoorWo
namespace Go.Proofs.YtjhnnblilfddpaaDoor
set_option linter.unusedSimpArgs false
set_option linter.unusedVariables false
open Go.RowKit
set_option maxRecDepth 100000 in
theorem bits_or_comm (k : IntKind) (a b : Int) : bits .or k a b = bits .or k b a := by
  unfold bits
  simp only [BitVec.or_comm]
set_option maxRecDepth 100000 in
theorem rotl_eq (k x : Int) (n : Nat) (h : 32 - (rotBy k).toNat = n) : rotl k x = rotr n x := by unfold rotl; rw [h]
set_option maxRecDepth 100000 in
set_option maxHeartbeats 400000 in
theorem rturn_any (x : Int) (n : Nat) (w : World) (h1 : 1 ≤ n) (h2 : n ≤ 31) : Calls Tryd.prog 45 #[.int .u32 x, .int .u64 n] w fun e w' => e = .returned (.int .u32 (rotr n x)) ∧ w' = w := by
  have hf : Hid (rotr n x = bits .or .u32 (x / 2 ^ n) (x * 2 ^ (32 - n) % 4294967296)) := by unfold Hid rotr; exact bits_or_comm _ _ _
  go_enter Tryd.func45, Tryd.ntmps45
  go_wp2
  go_ret
  refine ⟨?_, rfl⟩
  rw [hf.out]
  rfl
set_option maxRecDepth 100000 in
set_option maxHeartbeats 1000000 in
theorem k256_any (w : World) : Calls Tryd.prog 42 #[] w fun e w' => e = .returned (.agg (vW kWords)) ∧ Below w.heap.size w w' := by
  go_enter Tryd.func42, Tryd.ntmps42
  go_wp2_with (first | (refine store44 rfl _ _ rfl _ kWords rfl rfl rfl 77 (zs 64) rfl (heap_alloc_new _ _) ?_))
  rw [World.setRow_alloc_new]
  exact bodyPost_ret (v := .agg (vW kWords)) (results_cell_row (p := 0) (ty := 77) Tryd.results42 _ _ w.heap.size 77 _ (0, 0) _ rfl (heap_alloc_new _ _) Tryd.underlying77 rfl (by rw [vW_size]; kernel_rfl)) rfl ⟨rfl, (Below.refl _ _).alloc (Nat.le_refl _) _⟩
/-- The number of bytes, up to the k-th. -/
def ofTo (l : List Int) : Nat → Int
  | 0 => 0
  | k + 1 => bits .or .u64 (ofTo l k * 256 % 18446744073709551616) (gi l k % 18446744073709551616)
set_option maxRecDepth 100000 in
set_option maxHeartbeats 1000000 in
theorem rof_any (b o cp : Nat) (l : List Int) (w : World) (hl : l.length = 4) (hcp : 4 ≤ cp) (hr : w.rangeAt b o (vB l).toList) : Calls Tryd.prog 44 #[.slice (some ⟨b, o, none⟩) 4 cp] w fun e w' => e = .returned (.int .u64 (ofTo l 4)) ∧ w' = w := by
  go_enter Tryd.func44, Tryd.ntmps44
  go_wp2
  go_loop [3, 7] (fun n i => ∃ k : Nat, k ≤ 4 ∧ i = .int .i64 k ∧ n = .int .u64 (ofTo l k)) (fun _ i => 4 - (intOf i).toNat)
  case atStart => exact ⟨0, by omega, rfl, rfl⟩
  case round =>
    obtain ⟨k, hk, rfl, rfl⟩ := hrel
    by_cases hlt : k < 4
    · have hc := rangeB hr k (by omega)
      go_wp2
      go_round
      case rel =>
        refine ⟨k + 1, by omega, by go_num, ?_⟩
        rfl
      case measure => simp [intOf]; omega
    · have ek : k = 4 := by omega
      subst ek
      go_wp2
      go_ret
      exact ⟨rfl, rfl⟩
end Go.Proofs.YtjhnnblilfddpaaDoor
