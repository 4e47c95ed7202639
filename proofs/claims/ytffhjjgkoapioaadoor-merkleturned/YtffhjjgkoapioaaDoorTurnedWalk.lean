import Derived.Test.YtffhjjgkoapioaaDoorTz
import Derived.Test.YtffhjjgkoapioaaDoorTy
import Derived.Test.YtffhjjgkoapioaaDoorPc
namespace Go.Proofs.YtffhjjgkoapioaaDoor
set_option linter.unusedSimpArgs false
set_option linter.unusedVariables false
open Go.RowKit
set_option maxRecDepth 100000 in
set_option maxHeartbeats 1000000 in
theorem turned_out (av : Option Addr) (N cp : Nat) (i other at_ by_ how : Int) (w : World) (h : 2000 < N ∨ N = 0) (hN : N ≤ 4611686018427387904) :
    Calls Tryd.prog 10 #[.slice av N cp, .int .i64 i, .int .i64 other, .int .u64 at_, .int .u8 by_, .int .u8 how] w fun e w' => e = .returned (.bool true) ∧ Below w.heap.size w w' := by
  rcases h with h | h
  · have j0' : decide ((2000 : Int) < (N : Int)) = true := by simp; omega
    go_enter Tryd.func10, Tryd.ntmps10
    go_wp2_with fail
    refine (awake2_any _).mono ?_
    rintro e w1 ⟨rfl, b1⟩
    go_wp2_with fail
    refine (awake2_any _).mono ?_
    rintro e w2 ⟨rfl, b2⟩
    go_wp2
    go_ret
    exact ⟨rfl, b1.trans (b2.mono b1.size)⟩
  · subst h
    go_enter Tryd.func10, Tryd.ntmps10
    go_wp2_with fail
    refine (awake2_any _).mono ?_
    rintro e w1 ⟨rfl, b1⟩
    go_wp2_with fail
    refine (awake2_any _).mono ?_
    rintro e w2 ⟨rfl, b2⟩
    go_wp2
    go_ret
    exact ⟨rfl, b1.trans (b2.mono b1.size)⟩
theorem chunksL_pos (bs : List Int) : ∀ l ∈ chunksL bs, 0 < l.length := fun l hl => by
  obtain ⟨p, hp, rfl⟩ := List.mem_map.1 hl
  obtain ⟨k, hk, rfl⟩ := List.mem_map.1 hp
  have := List.mem_range.1 hk
  simp [textOf, pieceAt]
  omega
theorem flat_len (pr : List (List Int)) (h : Hashes pr) : pr.flatten.length = 32 * pr.length := flat_length pr h
set_option maxHeartbeats 1000000 in
theorem merkleTurned_walk (v : Value) (bs : List Int) (i other at_ by_ how : Int) (w : World) (hL : Laid w) (hp : PartAt w v bs) (hn : bs.length ≤ 140737488351232) (hby : Bytes bs) (ha : 0 ≤ at_ ∧ at_ ≤ 18446744073709551615) (hb : 0 ≤ by_ ∧ by_ ≤ 255) (hh : 0 ≤ how ∧ how ≤ 255) :
    Calls Tryd.prog 10 #[v, .int .i64 i, .int .i64 other, .int .u64 at_, .int .u8 by_, .int .u8 how] w fun e w' => e = .returned (.bool true) ∧ Below w.heap.size w w' := by
  have h2 := hL.two
  have hp0 := hp
  obtain ⟨av, b, o, cp, rfl, _⟩ := hp
  by_cases h : 2000 < bs.length ∨ bs.length = 0
  · exact turned_out av bs.length cp i other at_ by_ how w h (by omega)
  have hl := leavesL_length bs
  have hcl := chunksL_length bs
  have hle : (leavesL bs).length = (chunksL bs).length := by omega
  obtain ⟨n, hnn⟩ : ∃ n, (chunksL bs).length = n := ⟨_, rfl⟩
  have hn1 : 0 < n := by omega
  obtain ⟨K, hK⟩ : ∃ K : Nat, (i % 18446744073709551616) % (n : Int) = (K : Int) := ⟨((i % 18446744073709551616) % (n : Int)).toNat, by have := Int.emod_nonneg (i % 18446744073709551616) (show (n : Int) ≠ 0 by omega); omega⟩
  have hKn : K < n := by have := Int.emod_lt_of_pos (i % 18446744073709551616) (show (0 : Int) < (n : Int) by omega); omega
  have hI : K < (leavesL bs).length := by omega
  have hd := depthN_small _ (leavesL bs).length K (Nat.le_refl _)
  have hpl := pathD_length (depthN (leavesL bs).length K) (leavesL bs) K
  have hPH := pathD_hashes (depthN (leavesL bs).length K) (leavesL bs) K (leavesL_hashes bs)
  obtain ⟨c, hc⟩ : ∃ c, (chunksL bs)[K]? = some c := ⟨(chunksL bs)[K]'(by omega), List.getElem?_eq_getElem (by omega)⟩
  have hcs := chunksL_small bs c (List.mem_of_getElem? hc)
  have hc0 := chunksL_pos bs c (List.mem_of_getElem? hc)
  have hcb := chunksL_bytes bs hby c (List.mem_of_getElem? hc)
  have hR := overH_hash _ (leavesL_hashes bs)
  have K1 : ∀ w', Below w.heap.size w w' → Calls Tryd.prog 29 #[.slice av bs.length cp] w' fun e w'' => ∃ u, e = .returned u ∧ PartsAt w'' u (chunksL bs) ∧ Below w'.heap.size w' w'' := fun w' k => rchunks_any _ bs w' (by have := k.size; omega) (hp0.below k) (by omega)
  have K2 : ∀ w', Below w.heap.size w w' → Calls Tryd.prog 39 #[.slice av bs.length cp, .int .i64 K] w' fun e w'' => ∃ u, e = .returned (.tuple #[u, .int .i64 0]) ∧ HashRow w'.heap.size (pathD (depthN (leavesL bs).length K) (leavesL bs) K) u w'' ∧ Below w'.heap.size w' w'' := fun w' k => rproof_in _ bs K w' (by have := k.size; omega) (hp0.below k) (by omega) hby hI
  have K3 : ∀ w', Below w.heap.size w w' → Calls Tryd.prog 33 #[.slice av bs.length cp] w' fun e w'' => e = .returned (.agg (vB (overH (leavesL bs)))) ∧ Below w'.heap.size w' w'' := fun w' k => rroot_any _ bs w' (by have := k.size; omega) (hp0.below k) (by omega) hby
  generalize pathD (depthN (leavesL bs).length K) (leavesL bs) K = pr at *
  generalize overH (leavesL bs) = R at *
  have K4 : ∀ w' R' (k' : Int) x u c' pr', Below w.heap.size w w' → R'.length = 32 → PartAt w' x c' → c'.length ≤ 32 → Bytes c' → ListAt w' u pr' → Hashes pr' → pr'.length ≤ 1000 → Calls Tryd.prog 41 #[.agg (vB R'), .int .i64 n, .int .i64 k', x, u] w' fun e w'' => e = .returned (.bool (chkB R' n k' c' pr')) ∧ Below w'.heap.size w' w'' := fun w' R' k' x u c' pr' k r1 r2 r3 r4 r5 r6 r7 => check_any R' n k' x u c' pr' w' r1 (hL.below k h2) r2 (by omega) r5 r6 r7
  have K5 : ∀ w' R' (k' : Int) x u c' pr', Below w.heap.size w w' → R'.length = 32 → PartAt w' x c' → c'.length ≤ 32 → Bytes c' → ListAt w' u pr' → Hashes pr' → pr'.length ≤ 1000 → Calls Tryd.prog 42 #[.agg (vB R'), .int .i64 n, .int .i64 k', x, u] w' fun e w'' => e = .returned (.bool (chkB R' n k' c' pr')) ∧ Below w'.heap.size w' w'' := fun w' R' k' x u c' pr' k r1 r2 r3 r4 r5 r6 r7 => rcheck_any R' n k' x u c' pr' w' r1 (by have := k.size; omega) r2 (by omega) r4 r5 r6 r7
  have hm : pr.length ≤ 1000 := by omega
  have hq : how % 4 = 0 ∨ how % 4 = 1 ∨ how % 4 = 2 ∨ how % 4 = 3 := by omega
  obtain ⟨r, hr⟩ : ∃ r : Nat, at_ % 32 = (r : Int) := ⟨(at_ % 32).toNat, by omega⟩
  rcases hq with hq | hq | hq | hq
  · exact turned0 av bs.length cp i other at_ by_ how (chunksL bs) n K pr.length c pr R (fun R' k' c' pr' => chkB R' n k' c' pr') w (by omega) (by omega) hnn (by omega) hK hc hc0 hcs hcb hPH rfl hm hR.1 hR.2 ha.1 ha.2 hb.1 hb.2 hh.1 hh.2 hq r hr (by omega) K1 K2 K3 K4 K5
  · obtain ⟨s, hs⟩ : ∃ s : Nat, at_ % (c.length : Int) = (s : Int) := ⟨(at_ % (c.length : Int)).toNat, by have := Int.emod_nonneg at_ (show (c.length : Int) ≠ 0 by omega); omega⟩
    have hsl : s < c.length := by have := Int.emod_lt_of_pos at_ (show (0 : Int) < (c.length : Int) by omega); omega
    exact turned1 av bs.length cp i other at_ by_ how (chunksL bs) n K pr.length c pr R (fun R' k' c' pr' => chkB R' n k' c' pr') w (by omega) (by omega) hnn (by omega) hK hc hc0 hcs hcb hPH rfl hm hR.1 hR.2 ha.1 ha.2 hb.1 hb.2 hh.1 hh.2 hq s hs hsl K1 K2 K3 K4 K5
  · rcases Nat.eq_zero_or_pos pr.length with h0 | h0
    · exact turned4 av bs.length cp i other at_ by_ how (chunksL bs) n K pr.length c pr R (fun R' k' c' pr' => chkB R' n k' c' pr') w (by omega) (by omega) hnn (by omega) hK hc hc0 hcs hcb hPH rfl hm hR.1 hR.2 ha.1 ha.2 hb.1 hb.2 hh.1 hh.2 hq h0 K1 K2 K3 K4 K5
    · obtain ⟨q, hqq⟩ : ∃ q : Nat, at_ % (pr.length : Int) = (q : Int) := ⟨(at_ % (pr.length : Int)).toNat, by have := Int.emod_nonneg at_ (show (pr.length : Int) ≠ 0 by omega); omega⟩
      have hql : q < pr.length := by have := Int.emod_lt_of_pos at_ (show (0 : Int) < (pr.length : Int) by omega); omega
      exact turned2 av bs.length cp i other at_ by_ how (chunksL bs) n K pr.length c pr R (fun R' k' c' pr' => chkB R' n k' c' pr') w (by omega) (by omega) hnn (by omega) hK hc hc0 hcs hcb hPH rfl hm hR.1 hR.2 ha.1 ha.2 hb.1 hb.2 hh.1 hh.2 hq h0 q r hqq hql hr (by omega) pr[q] (List.getElem?_eq_getElem hql) (by rw [flat_len pr hPH]; omega) K1 K2 K3 K4 K5
  · exact turned3 av bs.length cp i other at_ by_ how (chunksL bs) n K pr.length c pr R (fun R' k' c' pr' => chkB R' n k' c' pr') w (by omega) (by omega) hnn (by omega) hK hc hc0 hcs hcb hPH rfl hm hR.1 hR.2 ha.1 ha.2 hb.1 hb.2 hh.1 hh.2 hq K1 K2 K3 K4 K5
end Go.Proofs.YtffhjjgkoapioaaDoor
