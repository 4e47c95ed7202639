import Derived.Test.YtplihbncmmggjaaDoorLx
import Derived.Test.YtplihbncmmggjaaDoorFt
namespace Go.Proofs.YtplihbncmmggjaaDoor
set_option linter.unusedSimpArgs false
set_option linter.unusedVariables false
open Go.RowKit
set_option maxHeartbeats 1000000 in
set_option maxRecDepth 100000 in
theorem rrd_e (bs : List Int) (hb : Bytes bs) (hl : bs.length ≤ 1000000) (v : Value) (w : World) (hL : Laid w) (hp : PartAt w v bs) (hc : ¬ (decR bs).2.2.2 = 0) : Calls Tryd.prog 44 #[v] w fun e w' => e = .returned (.tuple #[.agg (mC (mdM bs)).toArray, .int .i64 (mdC bs)]) ∧ Below w.heap.size w w' := by
  obtain ⟨w1, hw1⟩ : ∃ w1, w1 = w.alloc (.cells Tryd.zeroCells65 65) := ⟨_, rfl⟩
  have k1 : Below w.heap.size w w1 := by rw [hw1]; exact (Below.refl _ _).alloc (Nat.le_refl _) _
  have s1 : w1.heap.size = w.heap.size + 1 := by rw [hw1]; simp
  have g1 : BoxM 65 w1 w.heap.size msg0 := by unfold BoxM; rw [hw1, heap_alloc_new, zero65]
  have DE : Hid (Calls Tryd.prog 33 #[v] w1 (DecE (decR bs) w1)) := rdecode_any _ bs w1 (by have := hL.two; omega) (hp.below k1) hb
  obtain ⟨av, b', o', cp, hv, _⟩ := hp
  subst hv
  have LD : Hid (Laid w) := hL
  have HB : Hid (Bytes bs) := hb
  have HR : Hid (mdM bs = msg0 ∧ mdC bs = (decR bs).2.2.2) := by unfold Hid mdM mdC; rw [if_neg hc, if_neg hc]; exact ⟨rfl, rfl⟩
  have hcc : ((decR bs).2.2.2 != 0) = true := by simpa using hc
  clear hc
  have K1 : Hid (Below w.heap.size w w1) := k1
  have S1 : Hid (w1.heap.size = w.heap.size + 1) := s1
  have G1 : Hid (BoxM 65 w1 w.heap.size msg0) := g1
  have HW1 : Hid (w1 = w.alloc (.cells Tryd.zeroCells65 65)) := hw1
  clear hb hL k1 s1 g1 hw1
  generalize bs.length = n at *
  go_enter Tryd.func44, Tryd.ntmps44
  go_wp2_with fail
  rw [← HW1.out]
  refine DE.out.mono ?_
  rintro e w2 ⟨u, rfl, p2, b2⟩
  obtain ⟨uv, ub, uo, uc, hu, _⟩ := id p2
  subst hu
  obtain ⟨w3, hw3⟩ : ∃ W, W = w2.alloc (.cells #[.int .u8 (decR bs).1, .slice uv (decR bs).2.1.length uc] 48) := ⟨_, rfl⟩
  have bb3 : Below w2.heap.size w2 w3 := by rw [hw3]; exact (Below.refl _ _).alloc (Nat.le_refl _) _
  have b3 : Below w1.heap.size w1 w3 := b2.trans (bb3.mono b2.size)
  have x3 : w3.heap[w2.heap.size]? = some (.cells #[.int .u8 (decR bs).1, .slice uv (decR bs).2.1.length uc] 48) := by rw [hw3]; exact heap_alloc_new _ _
  have P3 : Hid (PartAt w3 (.slice uv (decR bs).2.1.length uc) (decR bs).2.1) := p2.below bb3
  have B3 : Hid (Below w.heap.size w w3) := K1.out.trans (b3.mono (by rw [S1.out]; omega))
  have G3 : Hid (BoxM 65 w3 w.heap.size msg0) := (by unfold Hid BoxM; rw [b3.block _ (by rw [S1.out]; omega)]; exact G1.out)
  have c0 := row_cell (j := 0) x3 rfl
  have c1 := row_cell (j := 1) x3 rfl
  rw [hw3] at G3 c0 c1
  have HW3 : Hid (w3 = w2.alloc (.cells #[.int .u8 (decR bs).1, .slice uv (decR bs).2.1.length uc] 48)) := hw3
  clear hw3 bb3 b3 x3 K1 S1 G1
  clear DE p2 b2 HW1
  rw [HW3.out] at B3
  go_wp2_with (first | (refine storeZ65 rfl _ _ rfl w.heap.size rfl msg0 rfl msg0_ok G3.out ?_))
  exact end65 Tryd.results44 msg0_ok rfl rfl (setRow_same G3.out) ⟨by rw [HR.out.1, HR.out.2]; rfl, below_setRow B3.out (Nat.le_refl _) _⟩
set_option maxHeartbeats 1000000 in
set_option maxRecDepth 100000 in
theorem rrd_l (bs : List Int) (hb : Bytes bs) (hl : bs.length ≤ 1000000) (v : Value) (w : World) (hL : Laid w) (hp : PartAt w v bs) (hc : (decR bs).2.2.2 = 0) (hn : (decR bs).2.2.1 < bs.length) : Calls Tryd.prog 44 #[v] w fun e w' => e = .returned (.tuple #[.agg (mC (mdM bs)).toArray, .int .i64 (mdC bs)]) ∧ Below w.heap.size w w' := by
  obtain ⟨w1, hw1⟩ : ∃ w1, w1 = w.alloc (.cells Tryd.zeroCells65 65) := ⟨_, rfl⟩
  have k1 : Below w.heap.size w w1 := by rw [hw1]; exact (Below.refl _ _).alloc (Nat.le_refl _) _
  have s1 : w1.heap.size = w.heap.size + 1 := by rw [hw1]; simp
  have g1 : BoxM 65 w1 w.heap.size msg0 := by unfold BoxM; rw [hw1, heap_alloc_new, zero65]
  have DE : Hid (Calls Tryd.prog 33 #[v] w1 (DecE ((decR bs).1, (decR bs).2.1, (decR bs).2.2.1, 0) w1)) := by
    have q : (decR bs) = ((decR bs).1, (decR bs).2.1, (decR bs).2.2.1, 0) := by rw [← hc]
    rw [← q]; exact rdecode_any _ bs w1 (by have := hL.two; omega) (hp.below k1) hb
  obtain ⟨av, b', o', cp, hv, _⟩ := hp
  subst hv
  have LD : Hid (Laid w) := hL
  have HB : Hid (Bytes bs) := hb
  have HR : Hid (mdM bs = msg0 ∧ mdC bs = 2) := by unfold Hid mdM mdC; rw [if_pos hc, if_pos hn, if_pos hc, if_pos hn]; exact ⟨rfl, rfl⟩
  have hn2 : ((decR bs).2.2.1 != (bs.length : Int)) = true := by simp; omega
  clear hn
  clear hc
  have K1 : Hid (Below w.heap.size w w1) := k1
  have S1 : Hid (w1.heap.size = w.heap.size + 1) := s1
  have G1 : Hid (BoxM 65 w1 w.heap.size msg0) := g1
  have HW1 : Hid (w1 = w.alloc (.cells Tryd.zeroCells65 65)) := hw1
  clear hb hL k1 s1 g1 hw1
  generalize bs.length = n at *
  go_enter Tryd.func44, Tryd.ntmps44
  go_wp2_with fail
  rw [← HW1.out]
  refine DE.out.mono ?_
  rintro e w2 ⟨u, rfl, p2, b2⟩
  obtain ⟨uv, ub, uo, uc, hu, _⟩ := id p2
  subst hu
  obtain ⟨w3, hw3⟩ : ∃ W, W = w2.alloc (.cells #[.int .u8 (decR bs).1, .slice uv (decR bs).2.1.length uc] 48) := ⟨_, rfl⟩
  have bb3 : Below w2.heap.size w2 w3 := by rw [hw3]; exact (Below.refl _ _).alloc (Nat.le_refl _) _
  have b3 : Below w1.heap.size w1 w3 := b2.trans (bb3.mono b2.size)
  have x3 : w3.heap[w2.heap.size]? = some (.cells #[.int .u8 (decR bs).1, .slice uv (decR bs).2.1.length uc] 48) := by rw [hw3]; exact heap_alloc_new _ _
  have P3 : Hid (PartAt w3 (.slice uv (decR bs).2.1.length uc) (decR bs).2.1) := p2.below bb3
  have B3 : Hid (Below w.heap.size w w3) := K1.out.trans (b3.mono (by rw [S1.out]; omega))
  have G3 : Hid (BoxM 65 w3 w.heap.size msg0) := (by unfold Hid BoxM; rw [b3.block _ (by rw [S1.out]; omega)]; exact G1.out)
  have c0 := row_cell (j := 0) x3 rfl
  have c1 := row_cell (j := 1) x3 rfl
  rw [hw3] at G3 c0 c1
  have HW3 : Hid (w3 = w2.alloc (.cells #[.int .u8 (decR bs).1, .slice uv (decR bs).2.1.length uc] 48)) := hw3
  clear hw3 bb3 b3 x3 K1 S1 G1
  clear DE p2 b2 HW1
  rw [HW3.out] at B3
  go_wp2_with (first | (refine storeZ65 rfl _ _ rfl w.heap.size rfl msg0 rfl msg0_ok G3.out ?_))
  exact end65 Tryd.results44 msg0_ok rfl rfl (setRow_same G3.out) ⟨by rw [HR.out.1, HR.out.2]; rfl, below_setRow B3.out (Nat.le_refl _) _⟩
set_option maxHeartbeats 1000000 in
set_option maxRecDepth 100000 in
theorem rrd_o (bs : List Int) (hb : Bytes bs) (hl : bs.length ≤ 1000000) (v : Value) (w : World) (hL : Laid w) (hp : PartAt w v bs) (hc : (decR bs).2.2.2 = 0) (hn : ¬ (decR bs).2.2.1 < bs.length) : Calls Tryd.prog 44 #[v] w fun e w' => e = .returned (.tuple #[.agg (mC (mdM bs)).toArray, .int .i64 (mdC bs)]) ∧ Below w.heap.size w w' := by
  obtain ⟨w1, hw1⟩ : ∃ w1, w1 = w.alloc (.cells Tryd.zeroCells65 65) := ⟨_, rfl⟩
  have k1 : Below w.heap.size w w1 := by rw [hw1]; exact (Below.refl _ _).alloc (Nat.le_refl _) _
  have s1 : w1.heap.size = w.heap.size + 1 := by rw [hw1]; simp
  have g1 : BoxM 65 w1 w.heap.size msg0 := by unfold BoxM; rw [hw1, heap_alloc_new, zero65]
  have DE : Hid (Calls Tryd.prog 33 #[v] w1 (DecE ((decR bs).1, (decR bs).2.1, (decR bs).2.2.1, 0) w1)) := by
    have q : (decR bs) = ((decR bs).1, (decR bs).2.1, (decR bs).2.2.1, 0) := by rw [← hc]
    rw [← q]; exact rdecode_any _ bs w1 (by have := hL.two; omega) (hp.below k1) hb
  obtain ⟨av, b', o', cp, hv, _⟩ := hp
  subst hv
  have LD : Hid (Laid w) := hL
  have HB : Hid (Bytes bs) := hb
  have HR : Hid (mdM bs = ofR (decR bs).1 (decR bs).2.1 ∧ mdC bs = ofC (decR bs).1 (decR bs).2.1) := by unfold Hid mdM mdC; rw [if_pos hc, if_neg hn, if_pos hc, if_neg hn]; exact ⟨rfl, rfl⟩
  have dk := decR_ok bs hb hc
  have HK : Hid ((ofR (decR bs).1 (decR bs).2.1).Ok) := ofR_ok _ dk.1 _ dk.2.1
  have OF : Hid (∀ W uvar uln ucap, BoxM 65 W w.heap.size msg0 → Below w.heap.size w W → PartAt W (.slice uvar uln ucap) (decR bs).2.1 → Calls Tryd.prog 78 #[.agg #[.int .u8 (decR bs).1, .slice uvar uln ucap]] W fun e w' => e = .returned (.tuple #[.agg (mC (ofR (decR bs).1 (decR bs).2.1)).toArray, .int .i64 (ofC (decR bs).1 (decR bs).2.1)]) ∧ BoxM 65 w' w.heap.size msg0 ∧ Below w.heap.size w w') := fun W _ _ _ g q p => (rof_any78 (decR bs).1 dk.1 _ (decR bs).2.1 dk.2.1 dk.2.2.1 W (by have := q.size; have := LD.out.two; omega) p).mono fun e w' ⟨r1, r2⟩ => ⟨r1, g.below r2, q.trans (r2.mono q.size)⟩
  have hn2 : ((decR bs).2.2.1 != (bs.length : Int)) = false := by
    have := dk.2.2.2.2
    have : (decR bs).2.2.1 = (bs.length : Int) := by omega
    rw [this]; simp
  clear hn
  clear hc dk
  have K1 : Hid (Below w.heap.size w w1) := k1
  have S1 : Hid (w1.heap.size = w.heap.size + 1) := s1
  have G1 : Hid (BoxM 65 w1 w.heap.size msg0) := g1
  have HW1 : Hid (w1 = w.alloc (.cells Tryd.zeroCells65 65)) := hw1
  clear hb hL k1 s1 g1 hw1
  generalize bs.length = n at *
  go_enter Tryd.func44, Tryd.ntmps44
  go_wp2_with fail
  rw [← HW1.out]
  refine DE.out.mono ?_
  rintro e w2 ⟨u, rfl, p2, b2⟩
  obtain ⟨uv, ub, uo, uc, hu, _⟩ := id p2
  subst hu
  obtain ⟨w3, hw3⟩ : ∃ W, W = w2.alloc (.cells #[.int .u8 (decR bs).1, .slice uv (decR bs).2.1.length uc] 48) := ⟨_, rfl⟩
  have bb3 : Below w2.heap.size w2 w3 := by rw [hw3]; exact (Below.refl _ _).alloc (Nat.le_refl _) _
  have b3 : Below w1.heap.size w1 w3 := b2.trans (bb3.mono b2.size)
  have x3 : w3.heap[w2.heap.size]? = some (.cells #[.int .u8 (decR bs).1, .slice uv (decR bs).2.1.length uc] 48) := by rw [hw3]; exact heap_alloc_new _ _
  have P3 : Hid (PartAt w3 (.slice uv (decR bs).2.1.length uc) (decR bs).2.1) := p2.below bb3
  have B3 : Hid (Below w.heap.size w w3) := K1.out.trans (b3.mono (by rw [S1.out]; omega))
  have G3 : Hid (BoxM 65 w3 w.heap.size msg0) := (by unfold Hid BoxM; rw [b3.block _ (by rw [S1.out]; omega)]; exact G1.out)
  have c0 := row_cell (j := 0) x3 rfl
  have c1 := row_cell (j := 1) x3 rfl
  rw [hw3] at G3 c0 c1
  have HW3 : Hid (w3 = w2.alloc (.cells #[.int .u8 (decR bs).1, .slice uv (decR bs).2.1.length uc] 48)) := hw3
  clear hw3 bb3 b3 x3 K1 S1 G1
  clear DE p2 b2 HW1
  go_wp2_with fail
  rw [← HW3.out]
  rw [← HW3.out] at G3
  clear c0 c1
  refine (OF.out w3 _ _ _ G3.out B3.out P3.out).mono ?_
  rintro e w4 ⟨rfl, g4, b4⟩
  have G4 : Hid (BoxM 65 w4 w.heap.size msg0) := g4
  have B4 : Hid (Below w.heap.size w w4) := b4
  clear g4 b4
  go_wp2_with (first | (refine storeM65 rfl _ _ rfl w.heap.size rfl (ofR (decR bs).1 (decR bs).2.1) msg0 rfl HK.out msg0_ok G4.out ?_))
  exact end65 Tryd.results44 HK.out rfl rfl (setRow_same G4.out) ⟨by rw [HR.out.1, HR.out.2]; rfl, below_setRow B4.out (Nat.le_refl _) _⟩
theorem rrd_any (bs : List Int) (hb : Bytes bs) (hl : bs.length ≤ 1000000) (v : Value) (w : World) (hL : Laid w) (hp : PartAt w v bs) : Calls Tryd.prog 44 #[v] w fun e w' => e = .returned (.tuple #[.agg (mC (mdM bs)).toArray, .int .i64 (mdC bs)]) ∧ Below w.heap.size w w' := by
  by_cases hc : (decR bs).2.2.2 = 0
  · by_cases hn : (decR bs).2.2.1 < bs.length
    · exact rrd_l bs hb hl v w hL hp hc hn
    · exact rrd_o bs hb hl v w hL hp hc hn
  · exact rrd_e bs hb hl v w hL hp hc
end Go.Proofs.YtplihbncmmggjaaDoor
