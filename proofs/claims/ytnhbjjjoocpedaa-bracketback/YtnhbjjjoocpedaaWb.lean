import Derived.Test.YtnhbjjjoocpedaaWa
namespace Go.Proofs.Ytnhbjjjoocpedaa
set_option linter.unusedSimpArgs false
set_option linter.unusedVariables false
open Go.RowKit
theorem xor_bv (a : BitVec 64) : bits .xor .u64 IntKind.u64.max (a.toNat : Int) = ((~~~a).toNat : Int) := by
  have e : IntKind.u64.max = ((18446744073709551615 : Nat) : Int) := by decide
  rw [e, bits_xor_u64_nat _ _ (by decide) a.isLt]
  have := BitVec.toNat_xor (BitVec.allOnes 64) a
  rw [BitVec.allOnes_xor] at this
  rw [this, BitVec.toNat_allOnes]
theorem SV.not {s : S4} {x0 x1 x2 x3 : Int} (h : SV s x0 x1 x2 x3) : SV s.not (bits .xor .u64 IntKind.u64.max x0) (bits .xor .u64 IntKind.u64.max x1) (bits .xor .u64 IntKind.u64.max x2) (bits .xor .u64 IntKind.u64.max x3) := by
  obtain ⟨rfl, rfl, rfl, rfl⟩ := h
  exact ⟨xor_bv _, xor_bv _, xor_bv _, xor_bv _⟩
theorem SV.or {s t : S4} {x0 x1 x2 x3 z0 z1 z2 z3 : Int} (h : SV s x0 x1 x2 x3) (k : SV t z0 z1 z2 z3) : SV (s.or t) (bits .or .u64 x0 z0) (bits .or .u64 x1 z1) (bits .or .u64 x2 z2) (bits .or .u64 x3 z3) := by
  obtain ⟨rfl, rfl, rfl, rfl⟩ := h
  obtain ⟨rfl, rfl, rfl, rfl⟩ := k
  exact ⟨or_bv _ _, or_bv _ _, or_bv _ _, or_bv _ _⟩
set_option maxHeartbeats 2000000 in
set_option maxRecDepth 100000 in
theorem not_any16 (s : S4) (x0 x1 x2 x3 : Int) (hs : SV s x0 x1 x2 x3) (w : World) :
    Calls Try.prog 16 #[.agg #[.int .u64 x0, .int .u64 x1, .int .u64 x2, .int .u64 x3]] w fun e w' => ∃ y0 y1 y2 y3, e = .returned (.agg #[.int .u64 y0, .int .u64 y1, .int .u64 y2, .int .u64 y3]) ∧ SV s.not y0 y1 y2 y3 ∧ Below w.heap.size w w' := by
  have HS : Hid (SV s x0 x1 x2 x3) := hs
  clear hs
  go_enter Try.func16, Try.ntmps16
  go_wp2
  refine wp_loop_rounds 5 ?_
  rw [rounds_succ]
  go_wp2
  rw [rounds_succ]
  go_wp2
  rw [rounds_succ]
  go_wp2
  rw [rounds_succ]
  go_wp2
  rw [rounds_succ]
  go_wp2
  exact bodyPost_ret (v := .agg #[.int .u64 (bits .xor .u64 IntKind.u64.max x0), .int .u64 (bits .xor .u64 IntKind.u64.max x1), .int .u64 (bits .xor .u64 IntKind.u64.max x2), .int .u64 (bits .xor .u64 IntKind.u64.max x3)]) (by simp [results, Try.results16, go_sem]) rfl ⟨_, _, _, _, rfl, HS.out.not, by (repeat first | exact Below.refl _ _ | refine Below.setCell ?_ (by simp) _ | refine below_drewN ?_ _ | refine Below.drew ?_ | refine Below.alloc ?_ (by simp; try omega) _)⟩
set_option maxHeartbeats 2000000 in
set_option maxRecDepth 100000 in
theorem not_any17 (s : S4) (x0 x1 x2 x3 : Int) (hs : SV s x0 x1 x2 x3) (w : World) :
    Calls Try.prog 17 #[.agg #[.int .u64 x0, .int .u64 x1, .int .u64 x2, .int .u64 x3]] w fun e w' => ∃ y0 y1 y2 y3, e = .returned (.agg #[.int .u64 y0, .int .u64 y1, .int .u64 y2, .int .u64 y3]) ∧ SV s.not y0 y1 y2 y3 ∧ Below w.heap.size w w' := by
  have HS : Hid (SV s x0 x1 x2 x3) := hs
  clear hs
  go_enter Try.func17, Try.ntmps17
  go_wp2
  refine wp_loop_rounds 5 ?_
  rw [rounds_succ]
  go_wp2
  rw [rounds_succ]
  go_wp2
  rw [rounds_succ]
  go_wp2
  rw [rounds_succ]
  go_wp2
  rw [rounds_succ]
  go_wp2
  exact bodyPost_ret (v := .agg #[.int .u64 (bits .xor .u64 IntKind.u64.max x0), .int .u64 (bits .xor .u64 IntKind.u64.max x1), .int .u64 (bits .xor .u64 IntKind.u64.max x2), .int .u64 (bits .xor .u64 IntKind.u64.max x3)]) (by simp [results, Try.results17, go_sem]) rfl ⟨_, _, _, _, rfl, HS.out.not, by (repeat first | exact Below.refl _ _ | refine Below.setCell ?_ (by simp) _ | refine below_drewN ?_ _ | refine Below.drew ?_ | refine Below.alloc ?_ (by simp; try omega) _)⟩
set_option maxHeartbeats 2000000 in
set_option maxRecDepth 100000 in
theorem or_any31 (s t : S4) (x0 x1 x2 x3 z0 z1 z2 z3 : Int) (hs : SV s x0 x1 x2 x3) (ht : SV t z0 z1 z2 z3) (w : World) :
    Calls Try.prog 31 #[.agg #[.int .u64 x0, .int .u64 x1, .int .u64 x2, .int .u64 x3], .agg #[.int .u64 z0, .int .u64 z1, .int .u64 z2, .int .u64 z3]] w fun e w' => ∃ y0 y1 y2 y3, e = .returned (.agg #[.int .u64 y0, .int .u64 y1, .int .u64 y2, .int .u64 y3]) ∧ SV (s.or t) y0 y1 y2 y3 ∧ Below w.heap.size w w' := by
  have HS : Hid (SV s x0 x1 x2 x3) := hs
  have HT : Hid (SV t z0 z1 z2 z3) := ht
  clear hs ht
  go_enter Try.func31, Try.ntmps31
  go_wp2
  refine wp_loop_rounds 5 ?_
  rw [rounds_succ]
  go_wp2
  go_region
  go_wp2
  rw [rounds_succ]
  go_wp2
  go_region
  go_wp2
  rw [rounds_succ]
  go_wp2
  go_region
  go_wp2
  rw [rounds_succ]
  go_wp2
  go_region
  go_wp2
  rw [rounds_succ]
  go_wp2
  exact bodyPost_ret (v := .agg #[.int .u64 (bits .or .u64 x0 z0), .int .u64 (bits .or .u64 x1 z1), .int .u64 (bits .or .u64 x2 z2), .int .u64 (bits .or .u64 x3 z3)]) (by simp [results, Try.results31, go_sem]) rfl ⟨_, _, _, _, rfl, HS.out.or HT.out, by (repeat first | exact Below.refl _ _ | refine Below.setCell ?_ (by simp) _ | refine below_drewN ?_ _ | refine Below.drew ?_ | refine Below.alloc ?_ (by simp; try omega) _)⟩
set_option maxHeartbeats 2000000 in
set_option maxRecDepth 100000 in
theorem or_any27 (s t : S4) (x0 x1 x2 x3 z0 z1 z2 z3 : Int) (hs : SV s x0 x1 x2 x3) (ht : SV t z0 z1 z2 z3) (w : World) :
    Calls Try.prog 27 #[.agg #[.int .u64 x0, .int .u64 x1, .int .u64 x2, .int .u64 x3], .agg #[.int .u64 z0, .int .u64 z1, .int .u64 z2, .int .u64 z3]] w fun e w' => ∃ y0 y1 y2 y3, e = .returned (.agg #[.int .u64 y0, .int .u64 y1, .int .u64 y2, .int .u64 y3]) ∧ SV (s.or t) y0 y1 y2 y3 ∧ Below w.heap.size w w' := by
  have HS : Hid (SV s x0 x1 x2 x3) := hs
  have HT : Hid (SV t z0 z1 z2 z3) := ht
  clear hs ht
  go_enter Try.func27, Try.ntmps27
  go_wp2
  refine wp_loop_rounds 5 ?_
  rw [rounds_succ]
  go_wp2
  go_region
  go_wp2
  rw [rounds_succ]
  go_wp2
  go_region
  go_wp2
  rw [rounds_succ]
  go_wp2
  go_region
  go_wp2
  rw [rounds_succ]
  go_wp2
  go_region
  go_wp2
  rw [rounds_succ]
  go_wp2
  exact bodyPost_ret (v := .agg #[.int .u64 (bits .or .u64 x0 z0), .int .u64 (bits .or .u64 x1 z1), .int .u64 (bits .or .u64 x2 z2), .int .u64 (bits .or .u64 x3 z3)]) (by simp [results, Try.results27, go_sem]) rfl ⟨_, _, _, _, rfl, HS.out.or HT.out, by (repeat first | exact Below.refl _ _ | refine Below.setCell ?_ (by simp) _ | refine below_drewN ?_ _ | refine Below.drew ?_ | refine Below.alloc ?_ (by simp; try omega) _)⟩
end Go.Proofs.Ytnhbjjjoocpedaa
