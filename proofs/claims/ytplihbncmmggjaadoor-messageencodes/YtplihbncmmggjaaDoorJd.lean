import Derived.Test.YtplihbncmmggjaaDoorJc
import Derived.Test.YtplihbncmmggjaaDoorFw
namespace Go.Proofs.YtplihbncmmggjaaDoor
set_option linter.unusedSimpArgs false
set_option linter.unusedVariables false
open Go.RowKit
/-- What Decode answers. -/
def mdM (bs : List Int) : Msg := if (decR bs).2.2.2 = 0 then (if (decR bs).2.2.1 < bs.length then msg0 else ofR (decR bs).1 (decR bs).2.1) else msg0
def mdC (bs : List Int) : Int := if (decR bs).2.2.2 = 0 then (if (decR bs).2.2.1 < bs.length then 2 else ofC (decR bs).1 (decR bs).2.1) else (decR bs).2.2.2
theorem decR_ok (bs : List Int) (hb : Bytes bs) (h : (decR bs).2.2.2 = 0) : (0 ≤ (decR bs).1 ∧ (decR bs).1 ≤ 255) ∧ Bytes (decR bs).2.1 ∧ (decR bs).2.1.length ≤ 1000 ∧ (decR bs).2.2.1 = 10 + ((decR bs).2.1.length : Int) ∧ (decR bs).2.2.1 ≤ bs.length := by
  unfold decR at h ⊢
  by_cases h1 : beginsB bs = false
  · rw [if_pos h1] at h; cases h
  rw [if_neg h1] at h ⊢
  by_cases h2 : bs.length < 10 + (if bs.length < 10 then 0 else lenD bs)
  · rw [if_pos h2] at h; cases h
  rw [if_neg h2] at h ⊢
  have h10 : ¬ bs.length < 10 := fun q => by rw [if_pos q] at h2; omega
  rw [if_neg h10] at h2
  have hB : beginsB bs = true := by cases q : beginsB bs with | true => rfl | false => exact absurd q h1
  have hl := lenD_le bs (by omega) hB hb
  by_cases h3 : (hashOf ([gi bs 3, gi bs 4, gi bs 5] ++ (bs.drop 10).take (lenD bs))).take 4 = (bs.drop 6).take 4
  · rw [if_pos h3] at h ⊢
    have l1 : ((bs.drop 10).take (lenD bs)).length = lenD bs := by simp; omega
    refine ⟨?_, fun x hx => hb x (List.drop_subset _ _ (List.take_subset _ _ hx)), ?_, ?_, ?_⟩
    · show 0 ≤ gi bs 3 ∧ gi bs 3 ≤ 255
      unfold gi
      rw [List.getD_eq_getElem?_getD, List.getElem?_eq_getElem (by omega)]
      exact hb _ (List.getElem_mem _)
    · show ((bs.drop 10).take (lenD bs)).length ≤ 1000
      rw [l1]; exact hl.2
    · show (10 + (lenD bs : Int)) = 10 + (((bs.drop 10).take (lenD bs)).length : Int)
      rw [l1]
    · show (10 + (lenD bs : Int)) ≤ bs.length
      omega
  · rw [if_neg h3] at h; cases h
theorem ofR_ok (t : Int) (ht : 0 ≤ t ∧ t ≤ 255) (l : List Int) (hb : Bytes l) : (ofR t l).Ok := by
  unfold ofR
  split
  · unfold ofM
    have b0 := YSt.some hb
    have b1 := b0.num 1
    have b2 := b1.num 1
    have b3 := b2.num 4
    have r1 := rnum64 b0 1 1 rfl (by omega)
    have r2 := rnum64 b1 1 1 rfl (by omega)
    have r3 := rnum64 b2 4 4 rfl (by omega)
    have hh : (headM t l).Ok := ⟨by (show -9223372036854775808 ≤ t ∧ t ≤ 9223372036854775807); omega, by (show -9223372036854775808 ≤ rnumV (some l) 1 ∧ rnumV (some l) 1 ≤ 9223372036854775807); omega, by (show -9223372036854775808 ≤ rnumV (rnumSt (some l) 1) 1 ∧ rnumV (rnumSt (some l) 1) 1 ≤ 9223372036854775807); omega, by (show 0 ≤ rnumV (rnumSt (rnumSt (some l) 1) 1) 4 ∧ rnumV (rnumSt (rnumSt (some l) 1) 1) 4 ≤ 18446744073709551615); omega, msg0_ok.b, msg0_ok.c, msg0_ok.s, msg0_ok.h, msg0_ok.v, msg0_ok.r, msg0_ok.hb, msg0_ok.vb, msg0_ok.rb⟩
    generalize headM t l = m at *
    have hs : YSt (headS l) := b3
    generalize headS l = st at *
    unfold rownM
    by_cases k1 : m.kind = 1
    · rw [if_pos k1]
      have q1 := rnum64 hs 4 4 rfl (by omega)
      have c1 := hs.num 4
      have c2 := c1.truth
      have c3 := c2.truth
      have tl := rtext_le (c3.take 32)
      exact ⟨hh.k, hh.f, hh.t, hh.i, by (show 0 ≤ rnumV st 4 ∧ rnumV st 4 ≤ 18446744073709551615); omega, hh.c, by (show (strOfNums (rtextV (takeSt (rtruthSt (rtruthSt (rnumSt st 4))) 32))).size ≤ 9223372036854775807); rw [strOfNums_size]; omega, rhash_len _, hh.v, hh.r, rhash_bytes c3, hh.vb, hh.rb⟩
    rw [if_neg k1]
    by_cases k2 : m.kind = 2
    · rw [if_pos k2]
      by_cases hy : rtruthV st = true
      · rw [if_pos hy]
        exact ⟨hh.k, hh.f, hh.t, hh.i, hh.b, hh.c, hh.s, hh.h, rhash_len _, rhash_len _, hh.hb, rhash_bytes hs.truth, rhash_bytes (hs.truth.take 32)⟩
      · rw [if_neg hy]
        have q1 := rnum64 hs.truth 1 1 rfl (by omega)
        exact ⟨hh.k, hh.f, hh.t, hh.i, hh.b, by (show -9223372036854775808 ≤ rnumV (rtruthSt st) 1 ∧ rnumV (rtruthSt st) 1 ≤ 9223372036854775807); omega, hh.s, hh.h, hh.v, hh.r, hh.hb, hh.vb, hh.rb⟩
    rw [if_neg k2]
    by_cases k3 : m.kind = 3 ∨ m.kind = 6
    · rw [if_pos k3]; exact ⟨hh.k, hh.f, hh.t, hh.i, hh.b, hh.c, hh.s, hh.h, hh.v, hh.r, hh.hb, hh.vb, hh.rb⟩
    · rw [if_neg k3]; exact hh
  · exact msg0_ok
set_option maxHeartbeats 1000000 in
set_option maxRecDepth 100000 in
theorem mdec_e (bs : List Int) (hb : Bytes bs) (hl : bs.length ≤ 1000000) (v : Value) (w : World) (hL : Laid w) (hp : PartAt w v bs) (hc : ¬ (decR bs).2.2.2 = 0) : Calls Tryd.prog 43 #[v] w fun e w' => e = .returned (.tuple #[.agg (mC (mdM bs)).toArray, .int .i64 (mdC bs)]) ∧ Below w.heap.size w w' := by
  obtain ⟨w1, hw1⟩ : ∃ w1, w1 = w.alloc (.cells Tryd.zeroCells68 68) := ⟨_, rfl⟩
  have k1 : Below w.heap.size w w1 := by rw [hw1]; exact (Below.refl _ _).alloc (Nat.le_refl _) _
  have s1 : w1.heap.size = w.heap.size + 1 := by rw [hw1]; simp
  have g1 : BoxM 68 w1 w.heap.size msg0 := by unfold BoxM; rw [hw1, heap_alloc_new, zero68]
  have DE : Hid (Calls Tryd.prog 32 #[v] w1 (DecE (decR bs) w1)) := decode_any _ bs w1 (hL.below k1 hL.two) (hp.below k1) hb
  obtain ⟨av, b', o', cp, hv, _⟩ := hp
  subst hv
  have LD : Hid (Laid w) := hL
  have HB : Hid (Bytes bs) := hb
  have HR : Hid (mdM bs = msg0 ∧ mdC bs = (decR bs).2.2.2) := by unfold Hid mdM mdC; rw [if_neg hc, if_neg hc]; exact ⟨rfl, rfl⟩
  have hcc : ((decR bs).2.2.2 != 0) = true := by simpa using hc
  clear hc
  have K1 : Hid (Below w.heap.size w w1) := k1
  have S1 : Hid (w1.heap.size = w.heap.size + 1) := s1
  have G1 : Hid (BoxM 68 w1 w.heap.size msg0) := g1
  have HW1 : Hid (w1 = w.alloc (.cells Tryd.zeroCells68 68)) := hw1
  clear hb hL k1 s1 g1 hw1
  generalize bs.length = n at *
  go_enter Tryd.func43, Tryd.ntmps43
  go_wp2_with fail
  rw [← HW1.out]
  refine DE.out.mono ?_
  rintro e w2 ⟨u, rfl, p2, b2⟩
  obtain ⟨uv, ub, uo, uc, hu, _⟩ := id p2
  subst hu
  obtain ⟨w3, hw3⟩ : ∃ W, W = w2.alloc (.cells #[.int .u8 (decR bs).1, .slice uv (decR bs).2.1.length uc] 46) := ⟨_, rfl⟩
  have bb3 : Below w2.heap.size w2 w3 := by rw [hw3]; exact (Below.refl _ _).alloc (Nat.le_refl _) _
  have b3 : Below w1.heap.size w1 w3 := b2.trans (bb3.mono b2.size)
  have x3 : w3.heap[w2.heap.size]? = some (.cells #[.int .u8 (decR bs).1, .slice uv (decR bs).2.1.length uc] 46) := by rw [hw3]; exact heap_alloc_new _ _
  have P3 : Hid (PartAt w3 (.slice uv (decR bs).2.1.length uc) (decR bs).2.1) := p2.below bb3
  have B3 : Hid (Below w.heap.size w w3) := K1.out.trans (b3.mono (by rw [S1.out]; omega))
  have G3 : Hid (BoxM 68 w3 w.heap.size msg0) := (by unfold Hid BoxM; rw [b3.block _ (by rw [S1.out]; omega)]; exact G1.out)
  have c0 := row_cell (j := 0) x3 rfl
  have c1 := row_cell (j := 1) x3 rfl
  rw [hw3] at G3 c0 c1
  have HW3 : Hid (w3 = w2.alloc (.cells #[.int .u8 (decR bs).1, .slice uv (decR bs).2.1.length uc] 46)) := hw3
  clear hw3 bb3 b3 x3 K1 S1 G1
  clear DE p2 b2 HW1
  rw [HW3.out] at B3
  go_wp2_with (first | (refine storeZ68 rfl _ _ rfl w.heap.size rfl msg0 rfl msg0_ok G3.out ?_))
  exact end68 Tryd.results43 msg0_ok rfl rfl (setRow_same G3.out) ⟨by rw [HR.out.1, HR.out.2]; rfl, below_setRow B3.out (Nat.le_refl _) _⟩
set_option maxHeartbeats 1000000 in
set_option maxRecDepth 100000 in
theorem mdec_l (bs : List Int) (hb : Bytes bs) (hl : bs.length ≤ 1000000) (v : Value) (w : World) (hL : Laid w) (hp : PartAt w v bs) (hc : (decR bs).2.2.2 = 0) (hn : (decR bs).2.2.1 < bs.length) : Calls Tryd.prog 43 #[v] w fun e w' => e = .returned (.tuple #[.agg (mC (mdM bs)).toArray, .int .i64 (mdC bs)]) ∧ Below w.heap.size w w' := by
  obtain ⟨w1, hw1⟩ : ∃ w1, w1 = w.alloc (.cells Tryd.zeroCells68 68) := ⟨_, rfl⟩
  have k1 : Below w.heap.size w w1 := by rw [hw1]; exact (Below.refl _ _).alloc (Nat.le_refl _) _
  have s1 : w1.heap.size = w.heap.size + 1 := by rw [hw1]; simp
  have g1 : BoxM 68 w1 w.heap.size msg0 := by unfold BoxM; rw [hw1, heap_alloc_new, zero68]
  have DE : Hid (Calls Tryd.prog 32 #[v] w1 (DecE ((decR bs).1, (decR bs).2.1, (decR bs).2.2.1, 0) w1)) := by
    have q : (decR bs) = ((decR bs).1, (decR bs).2.1, (decR bs).2.2.1, 0) := by rw [← hc]
    rw [← q]; exact decode_any _ bs w1 (hL.below k1 hL.two) (hp.below k1) hb
  obtain ⟨av, b', o', cp, hv, _⟩ := hp
  subst hv
  have LD : Hid (Laid w) := hL
  have HB : Hid (Bytes bs) := hb
  have HR : Hid (mdM bs = msg0 ∧ mdC bs = 2) := by unfold Hid mdM mdC; rw [if_pos hc, if_pos hn, if_pos hc, if_pos hn]; exact ⟨rfl, rfl⟩
  have hn2 := hn
  clear hn
  clear hc
  have K1 : Hid (Below w.heap.size w w1) := k1
  have S1 : Hid (w1.heap.size = w.heap.size + 1) := s1
  have G1 : Hid (BoxM 68 w1 w.heap.size msg0) := g1
  have HW1 : Hid (w1 = w.alloc (.cells Tryd.zeroCells68 68)) := hw1
  clear hb hL k1 s1 g1 hw1
  generalize bs.length = n at *
  go_enter Tryd.func43, Tryd.ntmps43
  go_wp2_with fail
  rw [← HW1.out]
  refine DE.out.mono ?_
  rintro e w2 ⟨u, rfl, p2, b2⟩
  obtain ⟨uv, ub, uo, uc, hu, _⟩ := id p2
  subst hu
  obtain ⟨w3, hw3⟩ : ∃ W, W = w2.alloc (.cells #[.int .u8 (decR bs).1, .slice uv (decR bs).2.1.length uc] 46) := ⟨_, rfl⟩
  have bb3 : Below w2.heap.size w2 w3 := by rw [hw3]; exact (Below.refl _ _).alloc (Nat.le_refl _) _
  have b3 : Below w1.heap.size w1 w3 := b2.trans (bb3.mono b2.size)
  have x3 : w3.heap[w2.heap.size]? = some (.cells #[.int .u8 (decR bs).1, .slice uv (decR bs).2.1.length uc] 46) := by rw [hw3]; exact heap_alloc_new _ _
  have P3 : Hid (PartAt w3 (.slice uv (decR bs).2.1.length uc) (decR bs).2.1) := p2.below bb3
  have B3 : Hid (Below w.heap.size w w3) := K1.out.trans (b3.mono (by rw [S1.out]; omega))
  have G3 : Hid (BoxM 68 w3 w.heap.size msg0) := (by unfold Hid BoxM; rw [b3.block _ (by rw [S1.out]; omega)]; exact G1.out)
  have c0 := row_cell (j := 0) x3 rfl
  have c1 := row_cell (j := 1) x3 rfl
  rw [hw3] at G3 c0 c1
  have HW3 : Hid (w3 = w2.alloc (.cells #[.int .u8 (decR bs).1, .slice uv (decR bs).2.1.length uc] 46)) := hw3
  clear hw3 bb3 b3 x3 K1 S1 G1
  clear DE p2 b2 HW1
  rw [HW3.out] at B3
  go_wp2_with (first | (refine storeZ68 rfl _ _ rfl w.heap.size rfl msg0 rfl msg0_ok G3.out ?_))
  exact end68 Tryd.results43 msg0_ok rfl rfl (setRow_same G3.out) ⟨by rw [HR.out.1, HR.out.2]; rfl, below_setRow B3.out (Nat.le_refl _) _⟩
set_option maxHeartbeats 1000000 in
set_option maxRecDepth 100000 in
theorem mdec_o (bs : List Int) (hb : Bytes bs) (hl : bs.length ≤ 1000000) (v : Value) (w : World) (hL : Laid w) (hp : PartAt w v bs) (hc : (decR bs).2.2.2 = 0) (hn : ¬ (decR bs).2.2.1 < bs.length) : Calls Tryd.prog 43 #[v] w fun e w' => e = .returned (.tuple #[.agg (mC (mdM bs)).toArray, .int .i64 (mdC bs)]) ∧ Below w.heap.size w w' := by
  obtain ⟨w1, hw1⟩ : ∃ w1, w1 = w.alloc (.cells Tryd.zeroCells68 68) := ⟨_, rfl⟩
  have k1 : Below w.heap.size w w1 := by rw [hw1]; exact (Below.refl _ _).alloc (Nat.le_refl _) _
  have s1 : w1.heap.size = w.heap.size + 1 := by rw [hw1]; simp
  have g1 : BoxM 68 w1 w.heap.size msg0 := by unfold BoxM; rw [hw1, heap_alloc_new, zero68]
  have DE : Hid (Calls Tryd.prog 32 #[v] w1 (DecE ((decR bs).1, (decR bs).2.1, (decR bs).2.2.1, 0) w1)) := by
    have q : (decR bs) = ((decR bs).1, (decR bs).2.1, (decR bs).2.2.1, 0) := by rw [← hc]
    rw [← q]; exact decode_any _ bs w1 (hL.below k1 hL.two) (hp.below k1) hb
  obtain ⟨av, b', o', cp, hv, _⟩ := hp
  subst hv
  have LD : Hid (Laid w) := hL
  have HB : Hid (Bytes bs) := hb
  have HR : Hid (mdM bs = ofR (decR bs).1 (decR bs).2.1 ∧ mdC bs = ofC (decR bs).1 (decR bs).2.1) := by unfold Hid mdM mdC; rw [if_pos hc, if_neg hn, if_pos hc, if_neg hn]; exact ⟨rfl, rfl⟩
  have dk := decR_ok bs hb hc
  have HK : Hid ((ofR (decR bs).1 (decR bs).2.1).Ok) := ofR_ok _ dk.1 _ dk.2.1
  have OF : Hid (∀ W uvar uln ucap, BoxM 68 W w.heap.size msg0 → Below w.heap.size w W → PartAt W (.slice uvar uln ucap) (decR bs).2.1 → Calls Tryd.prog 77 #[.agg #[.int .u8 (decR bs).1, .slice uvar uln ucap]] W fun e w' => e = .returned (.tuple #[.agg (mC (ofR (decR bs).1 (decR bs).2.1)).toArray, .int .i64 (ofC (decR bs).1 (decR bs).2.1)]) ∧ BoxM 68 w' w.heap.size msg0 ∧ Below w.heap.size w w') := fun W _ _ _ g q p => (of_any77 (decR bs).1 dk.1 _ (decR bs).2.1 dk.2.1 (by have := dk.2.2.1; omega) W p).mono fun e w' ⟨r1, r2⟩ => ⟨r1, g.below r2, q.trans (r2.mono q.size)⟩
  have hn2 := hn
  clear hn
  clear hc dk
  have K1 : Hid (Below w.heap.size w w1) := k1
  have S1 : Hid (w1.heap.size = w.heap.size + 1) := s1
  have G1 : Hid (BoxM 68 w1 w.heap.size msg0) := g1
  have HW1 : Hid (w1 = w.alloc (.cells Tryd.zeroCells68 68)) := hw1
  clear hb hL k1 s1 g1 hw1
  generalize bs.length = n at *
  go_enter Tryd.func43, Tryd.ntmps43
  go_wp2_with fail
  rw [← HW1.out]
  refine DE.out.mono ?_
  rintro e w2 ⟨u, rfl, p2, b2⟩
  obtain ⟨uv, ub, uo, uc, hu, _⟩ := id p2
  subst hu
  obtain ⟨w3, hw3⟩ : ∃ W, W = w2.alloc (.cells #[.int .u8 (decR bs).1, .slice uv (decR bs).2.1.length uc] 46) := ⟨_, rfl⟩
  have bb3 : Below w2.heap.size w2 w3 := by rw [hw3]; exact (Below.refl _ _).alloc (Nat.le_refl _) _
  have b3 : Below w1.heap.size w1 w3 := b2.trans (bb3.mono b2.size)
  have x3 : w3.heap[w2.heap.size]? = some (.cells #[.int .u8 (decR bs).1, .slice uv (decR bs).2.1.length uc] 46) := by rw [hw3]; exact heap_alloc_new _ _
  have P3 : Hid (PartAt w3 (.slice uv (decR bs).2.1.length uc) (decR bs).2.1) := p2.below bb3
  have B3 : Hid (Below w.heap.size w w3) := K1.out.trans (b3.mono (by rw [S1.out]; omega))
  have G3 : Hid (BoxM 68 w3 w.heap.size msg0) := (by unfold Hid BoxM; rw [b3.block _ (by rw [S1.out]; omega)]; exact G1.out)
  have c0 := row_cell (j := 0) x3 rfl
  have c1 := row_cell (j := 1) x3 rfl
  rw [hw3] at G3 c0 c1
  have HW3 : Hid (w3 = w2.alloc (.cells #[.int .u8 (decR bs).1, .slice uv (decR bs).2.1.length uc] 46)) := hw3
  clear hw3 bb3 b3 x3 K1 S1 G1
  clear DE p2 b2 HW1
  go_wp2_with fail
  rw [← HW3.out]
  rw [← HW3.out] at G3
  clear c0 c1
  refine (OF.out w3 _ _ _ G3.out B3.out P3.out).mono ?_
  rintro e w4 ⟨rfl, g4, b4⟩
  have G4 : Hid (BoxM 68 w4 w.heap.size msg0) := g4
  have B4 : Hid (Below w.heap.size w w4) := b4
  clear g4 b4
  go_wp2_with (first | (refine storeM68 rfl _ _ rfl w.heap.size rfl (ofR (decR bs).1 (decR bs).2.1) msg0 rfl HK.out msg0_ok G4.out ?_))
  exact end68 Tryd.results43 HK.out rfl rfl (setRow_same G4.out) ⟨by rw [HR.out.1, HR.out.2]; rfl, below_setRow B4.out (Nat.le_refl _) _⟩
theorem mdec_any (bs : List Int) (hb : Bytes bs) (hl : bs.length ≤ 1000000) (v : Value) (w : World) (hL : Laid w) (hp : PartAt w v bs) : Calls Tryd.prog 43 #[v] w fun e w' => e = .returned (.tuple #[.agg (mC (mdM bs)).toArray, .int .i64 (mdC bs)]) ∧ Below w.heap.size w w' := by
  by_cases hc : (decR bs).2.2.2 = 0
  · by_cases hn : (decR bs).2.2.1 < bs.length
    · exact mdec_l bs hb hl v w hL hp hc hn
    · exact mdec_o bs hb hl v w hL hp hc hn
  · exact mdec_e bs hb hl v w hL hp hc
end Go.Proofs.YtplihbncmmggjaaDoor
