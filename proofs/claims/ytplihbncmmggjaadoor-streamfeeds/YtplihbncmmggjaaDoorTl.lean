import Derived.Test.YtplihbncmmggjaaDoorTg
import Derived.Test.YtplihbncmmggjaaDoorTk
namespace Go.Proofs.YtplihbncmmggjaaDoor
set_option linter.unusedSimpArgs false
set_option linter.unusedVariables false
open Go.RowKit
/-- The reference's frames in a row of the call's own, their bodies in rows of bytes. -/
structure FrQ (w : World) (base : Nat) (v : Value) (fs : List (Int × List Int)) (us : List Value) : Prop where
  len : us.length = fs.length
  own : w.ownsRow base 48 2 v fs.length (cellsF fs us)
  part : ∀ (i : Nat) (u : Value) (f : Int × List Int), us[i]? = some u → fs[i]? = some f → PartT w u f.2
theorem FrQ.nil (w : World) (base : Nat) : FrQ w base (.slice none 0 0) [] [] := ⟨rfl, ⟨rfl, .inl ⟨rfl, rfl⟩⟩, fun i u f h => by simp at h⟩
theorem FrQ.below {w w' : World} {base : Nat} {v : Value} {fs : List (Int × List Int)} {us : List Value} (h : FrQ w base v fs us) (b : Below w.heap.size w w') : FrQ w' base v fs us :=
  ⟨h.len, own_belowR h.own b, fun i u f h1 h2 => (h.part i u f h1 h2).below b⟩
theorem FrQ.five {w : World} {base : Nat} {v : Value} {fs : List (Int × List Int)} {us : List Value} (h : FrQ w base v fs us) (b : Nat) (C : Array Value) (m : Nat × Nat) (hC : w.heap[b]? = some (Obj.cells C 5 m)) : some b ≠ v.ownBlock := by
  intro e
  rcases h.own.2 with ⟨q, _⟩ | ⟨g0, cap, cur0, q1, q2, q3, _⟩
  · rw [q] at e; cases e
  · rw [q1] at e
    have e : some b = some g0 := e
    injection e with e
    subst e
    rw [hC] at q3
    injection q3 with q3
    injection q3 with _ q3
    cases q3
theorem FrQ.low {w : World} {base : Nat} {v : Value} {fs : List (Int × List Int)} {us : List Value} (h : FrQ w base v fs us) (b : Nat) (hb : v.ownBlock = some b) : base ≤ b := by
  rcases h.own.2 with ⟨q, _⟩ | ⟨g0, cap, cur0, q1, q2, q3, _⟩
  · rw [q] at hb; cases hb
  · rw [q1] at hb
    have hb : some g0 = some b := hb
    injection hb with hb
    omega
theorem FrQ.snoc {w w' : World} {base : Nat} {v v' : Value} {fs : List (Int × List Int)} {us : List Value} (h : FrQ w base v fs us) (t : Int) (bd : List Int) (u : Value) (hu : PartT w u bd)
    (ho : w'.ownsRow base 48 2 v' (fs.length + 1) (cellsF fs us ++ [.int .u8 t, u])) (gr : w.grownBy w' v.ownBlock) : FrQ w' base v' (fs ++ [(t, bd)]) (us ++ [u]) := by
  have keep : ∀ (x : Value) (l : List Int), PartT w x l → PartT w' x l := fun x l hx => hx.keep gr.size fun b C m hC => gr.block b (Array.getElem?_eq_some_iff.1 hC).1 (h.five b C m hC)
  refine ⟨by rw [List.length_append, List.length_append, h.len]; rfl, ?_, fun i x f h1 h2 => ?_⟩
  · rw [cellsF_snoc fs us (t, bd) u h.len, List.length_append]; exact ho
  · rcases Nat.lt_or_ge i fs.length with hi | hi
    · rw [List.getElem?_append_left (by rw [h.len]; exact hi)] at h1
      rw [List.getElem?_append_left hi] at h2
      exact keep _ _ (h.part i x f h1 h2)
    · rw [List.getElem?_append_right (by rw [h.len]; exact hi), h.len] at h1
      rw [List.getElem?_append_right hi] at h2
      match hk : i - fs.length, h1, h2 with
      | 0, h1, h2 =>

        simp at h1 h2
        rw [← h1, ← h2]; exact keep _ _ hu
      | j + 1, h1, h2 => simp at h1
theorem FrQ.form {w : World} {base : Nat} {v : Value} {fs : List (Int × List Int)} {us : List Value} (h : FrQ w base v fs us) : ∃ av cp, v = .slice av fs.length cp := by
  rcases h.own.2 with ⟨q, q0⟩ | ⟨g0, cap, cur0, q1, _⟩
  · exact ⟨none, 0, by rw [q, q0]⟩
  · exact ⟨_, cap, q1⟩
theorem info48 : (Tryd.prog.info? 48).map (fun i => (i.size, i.zero.map (·.cells.size))) = some (2, some 2) := by kernel_rfl
theorem part_dropK {w : World} {b o n cp : Nat} {l : List Int} (hn : l.length = n) (h : PartAt w (.slice (some ⟨b, o, none⟩) n cp) l) (hpos : 0 < n) (K : Nat) (hK : K ≤ n) :
    (¬ cp = K → PartAt w (.slice (some ⟨b, o + K, none⟩) (n - K) (cp - K)) (l.drop K)) ∧ (cp = K → PartAt w (.slice (some ⟨b, o, none⟩) 0 0) (l.drop K)) := by
  obtain ⟨av, b1, o1, c1, h1, h2, h3, h4, h5, h6, h7⟩ := h
  injection h1 with h1 hx hy
  subst h1 hy
  obtain ⟨rfl, rfl⟩ : b = b1 ∧ o = o1 := by
    have := h4 (by omega); injection this with this; injection this with q1 q2; exact ⟨q1, q2⟩
  constructor
  · intro hc
    have r2 := range_subT h5 K (n - K)
    rw [List.take_of_length_le (by rw [List.length_drop]; omega)] at r2
    exact ⟨_, b, o + K, cp - K, by rw [List.length_drop, hn], by rw [List.length_drop]; omega, by omega, fun _ => rfl, r2, h6, fun h => by cases h⟩
  · intro hc
    have e : l.drop K = [] := List.drop_eq_nil_of_le (by omega)
    rw [e]
    exact ⟨_, b, o, 0, rfl, Nat.le_refl _, by omega, fun h => by simp at h, fun j v hv => by simp [vB] at hv, h6, fun h => by cases h⟩
set_option maxHeartbeats 4000000 in
set_option maxRecDepth 100000 in
/-- The reference's Stream. -/
theorem rstream_any (l : List Int) (hlB : Bytes l) (hlL : l.length ≤ 1000000) (v : Value) (w : World) (h0 : 0 < w.heap.size) (hp : PartAt w v l) :
    Calls Tryd.prog 49 #[v] w fun e w' => ∃ u us, e = .returned (.tuple #[u, .int .i64 (feedR l).2.1, .int .i64 (feedR l).2.2.length]) ∧ FrQ w' w.heap.size u (feedR l).1 us ∧ Below w.heap.size w w' := by
  have HP0 : Hid (∀ W, Below w.heap.size w W → PartAt W v l) := fun W q => hp.below q
  have HB : Hid (Bytes l ∧ l.length ≤ 1000000) := ⟨hlB, hlL⟩
  have HZ0 : Hid (0 < w.heap.size) := h0
  obtain ⟨va, vb, vo, vc, hv1, _⟩ := id hp
  subst hv1
  clear hp hlB hlL h0
  go_enter Tryd.func49, Tryd.ntmps49
  go_wp2
  go_loopw [0, 5, 6] (fun s0 s5 s6 wr => ∃ (G : List (Int × List Int)) (us : List Value) (d : Nat) (l' : List Int), FrQ wr w.heap.size s5 G us ∧ Hid (∀ W, Below w.heap.size w W → PartAt W s0 l') ∧ s6 = .int .i64 d ∧ Hid (Below w.heap.size w wr) ∧ Hid (feedR l = (G ++ (feedR l').1, d + (feedR l').2.1, (feedR l').2.2)) ∧ Hid (Bytes l') ∧ l'.length + d + G.length ≤ 1000000) (fun s0 _ _ _ => lenV s0)
  case atStart =>
    exact ⟨[], [], 0, l, FrQ.nil _ _, HP0.out, rfl, Below.refl _ _, by unfold Hid; simp, HB.out.1, by simpa using HB.out.2⟩
  case round =>
    obtain ⟨G, us, d, l', hF, hP, rfl, hBw, hR, hBl, hLn⟩ := hrel
    obtain ⟨av, bb, oo, cp, hv6, q1, q2, q3, q4, q5, q6⟩ := id (hP.out _ hBw.out)
    subst hv6
    have hst := feedR_step l G d l' hR.out
    have HF : Hid (FrQ wr w.heap.size u5 G us) := hF
    have hsz : w.heap.size ≤ wr.heap.size := hBw.out.size
    by_cases h0 : l' = []
    · have hz : l'.length = 0 := by rw [h0]; rfl
      have HE : Hid (feedR l = (G, d, l')) := hst.1 (.inl h0)
      rw [hz]
      have HZ : Hid (l'.length = 0) := hz
      clear hst h0 hF hR hBl q3 q4 q5 q6 hz hP
      go_wp2
      go_ret3
      exact ⟨u5, us, by rw [HE.out]; simp [HZ.out], by rw [HE.out]; exact HF.out, hBw.out⟩
    · have hpos : 0 < l'.length := List.length_pos_iff.2 h0
      have hav := q3 hpos
      subst hav
      have hposi : (0 : Int) < (l'.length : Int) := by omega
      have DEC : Hid (Calls Tryd.prog 33 #[.slice (some ⟨bb, oo, none⟩) l'.length cp] wr (DecT (decR l') wr)) := rdecode_anyT _ l' wr (by have := HZ0.out; omega) (hP.out _ hBw.out) hBl.out
      obtain ⟨n, hn⟩ : ∃ n, n = l'.length := ⟨_, rfl⟩
      have HN : Hid (n = l'.length) := hn
      rw [← hn] at DEC hP hposi hpos q1 ⊢
      clear hF hR q3 q4 q5 q6
      obtain ⟨t, bd, sz, c, hdr⟩ : ∃ t bd sz c, decR l' = (t, bd, sz, c) := ⟨_, _, _, _, rfl⟩
      have dok := decR_ok l' hBl.out
      have dpos := decR_pos l'
      rw [hdr] at DEC hst dok dpos
      simp only at hst dok dpos
      have DEC : Hid (Calls Tryd.prog 33 #[.slice (some ⟨bb, oo, none⟩) n cp] wr (fun e w' => ∃ uv L uc, e = .returned (.tuple #[.agg #[.int .u8 t, .slice uv L uc], .int .i64 sz, .int .i64 c]) ∧ PartT w' (.slice uv L uc) bd ∧ Below wr.heap.size wr w')) := DEC.out.mono fun e w' ⟨u, r1, r2, r3⟩ => by
        obtain ⟨uv, ub, uo, uc, hu, _⟩ := r2.part
        subst hu
        exact ⟨uv, _, uc, r1, r2, r3⟩
      have HW2 : Hid (∀ w2, Below wr.heap.size wr w2 → FrQ w2 w.heap.size u5 G us ∧ Below w.heap.size w w2) := fun w2 b2 =>
        ⟨HF.out.below b2, hBw.out.trans (b2.mono hsz)⟩
      clear HF hdr
      by_cases hc4 : c = 4
      · subst hc4
        have HE : Hid (feedR l = (G, d, l')) := hst.1 (.inr rfl)
        clear hst dok dpos hn
        go_wp2_with fail
        refine DEC.out.mono ?_
        rintro e w2 ⟨uv, L, uc, rfl, o2, b2⟩
        obtain ⟨w3, hw3⟩ : ∃ W, W = w2.alloc (.cells #[.int .u8 t, .slice uv L uc] 48) := ⟨_, rfl⟩
        have b3 : Below wr.heap.size wr w3 := by rw [hw3]; exact b2.alloc b2.size _
        obtain ⟨f3, bw3⟩ := HW2.out w3 b3
        have HW3 : Hid (w3 = w2.alloc (.cells #[.int .u8 t, .slice uv L uc] 48)) := hw3
        have F3 : Hid (FrQ w3 w.heap.size u5 G us) := f3
        have B3 : Hid (Below w.heap.size w w3) := bw3
        clear f3 bw3 b2 b3 o2 DEC HW2 hw3
        go_wp2
        rw [← HW3.out]
        go_ret3
        exact ⟨u5, us, by rw [HE.out]; simp [HN.out], by rw [HE.out]; exact F3.out, B3.out⟩
      · by_cases hc0 : c = 0
        · subst hc0
          have dk := dok rfl
          have dp := dpos rfl
          have HE := hst.2.1 h0 rfl
          obtain ⟨K, hK⟩ : ∃ K : Nat, sz = (K : Int) := ⟨sz.toNat, by omega⟩
          subst hK
          have HE : Hid (feedR l = ((G ++ [(t, bd)]) ++ (feedR (l'.drop K)).1, d + (feedR (l'.drop K)).2.1, (feedR (l'.drop K)).2.2)) := HE
          have hKn : K ≤ n := by have := dk.2.2.2.2; rw [hn]; omega
          have hK10 : 10 ≤ K := by omega
          have hKi : (K : Int) ≤ (n : Int) := by omega
          have hK0 : (0 : Int) ≤ (K : Int) := by omega
          have B' : Hid (Bytes (l'.drop K)) := fun x hx => hBl.out x (List.drop_subset _ _ hx)
          have ln2 : (l'.drop K).length + d + (G ++ [(t, bd)]).length ≤ 1000000 := by rw [List.length_append, List.length_drop]; simp only [List.length_cons, List.length_nil]; omega
          have LN2 : Hid ((l'.drop K).length + d + (G ++ [(t, bd)]).length ≤ 1000000) := ln2
          have PN : Hid (¬ cp = K → ∀ W, Below w.heap.size w W → PartAt W (.slice (some ⟨bb, oo + K, none⟩) (n - K) (cp - K)) (l'.drop K)) := fun hc W q => (part_dropK HN.out.symm (hP.out W q) hpos K hKn).1 hc
          have PZ : Hid (cp = K → ∀ W, Below w.heap.size w W → PartAt W (.slice (some ⟨bb, oo, none⟩) 0 0) (l'.drop K)) := fun hc W q => (part_dropK HN.out.symm (hP.out W q) hpos K hKn).2 hc
          have hi1 := info48
          have hi2 : (Tryd.prog.info? 48).map (fun i => decide (i.bytes ≤ 64)) = some true := by kernel_rfl
          cases hi : Tryd.prog.info? 48 with
          | none => rw [hi] at hi1; cases hi1
          | some ii =>
            rw [hi] at hi1 hi2
            simp only [Option.map_some] at hi1 hi2
            injection hi1 with hi1
            injection hi1 with hi3 hi4
            injection hi2 with hi2
            have hi2 := of_decide_eq_true hi2
            cases hz : ii.zero with
            | none => rw [hz] at hi4; cases hi4
            | some zz =>
              rw [hz] at hi4
              simp only [Option.map_some] at hi4
              injection hi4 with hi4
              have HI : Hid (Tryd.prog.info? 48 = some ii) := hi
              have HZ : Hid (ii.zero = some zz) := hz
              have H3 : Hid (ii.size = 2) := hi3
              have H4 : Hid (zz.cells.size = 2) := hi4
              have H2 : Hid (ii.bytes ≤ 64) := hi2
              clear hst dok dpos hn hi hz hi3 hi4 hi2 dk dp ln2 hP
              go_wp2_with fail
              refine DEC.out.mono ?_
              rintro e w2 ⟨uv, L, uc, rfl, o2, b2⟩
              have b3 : Below wr.heap.size wr (w2.alloc (.cells #[.int .u8 t, .slice uv L uc] 48)) := b2.alloc b2.size _
              have b4 : Below wr.heap.size wr ((w2.alloc (.cells #[.int .u8 t, .slice uv L uc] 48)).alloc (.cells #[.int .u8 t, .slice uv L uc] 48)) := b3.alloc b3.size _
              have q4 : Below w2.heap.size w2 ((w2.alloc (.cells #[.int .u8 t, .slice uv L uc] 48)).alloc (.cells #[.int .u8 t, .slice uv L uc] 48)) := ((Below.refl _ _).alloc (Nat.le_refl _) _).alloc (by simp) _
              obtain ⟨w4, hw4⟩ : ∃ W, W = (w2.alloc (.cells #[.int .u8 t, .slice uv L uc] 48)).alloc (.cells #[.int .u8 t, .slice uv L uc] 48) := ⟨_, rfl⟩
              rw [← hw4] at b4 q4
              obtain ⟨f4, bw4⟩ := HW2.out w4 b4
              have g3 := heap_alloc_new w2 (.cells #[.int .u8 t, .slice uv L uc] 48)
              have d0 := row_cell (j := 0) g3 rfl
              have d1 := row_cell (j := 1) g3 rfl
              have g4 : w4.heap[w2.heap.size + 1]? = some (.cells #[.int .u8 t, .slice uv L uc] 48) := by
                have := heap_alloc_new (w2.alloc (.cells #[.int .u8 t, .slice uv L uc] 48)) (.cells #[.int .u8 t, .slice uv L uc] 48)
                rw [show (w2.alloc (.cells #[.int .u8 t, .slice uv L uc] 48)).heap.size = w2.heap.size + 1 by simp] at this
                rw [hw4]; exact this
              have NEWS : Hid (∀ j x, ([.int .u8 t, .slice uv L uc] : List Value)[j]? = some x → w4.cell? ((⟨w2.heap.size + 1, 0, none⟩ : Addr).add j) = some x) := fun j x hj => by
                rw [Addr.add_mid, Nat.zero_add]
                exact row_cell g4 (by simpa using hj)
              have O4 : Hid (PartT w4 (.slice uv L uc) bd) := o2.below q4
              have F4 : Hid (FrQ w4 w.heap.size u5 G us) := f4
              have B4 : Hid (Below w.heap.size w w4) := bw4
              have HW4 : Hid (w4 = (w2.alloc (.cells #[.int .u8 t, .slice uv L uc] 48)).alloc (.cells #[.int .u8 t, .slice uv L uc] 48)) := hw4
              have hG1 : Hid (G.length ≤ 1000000) := Nat.le_trans (Nat.le_add_left _ _) hLn
              clear f4 bw4 b2 b3 b4 o2 DEC HW2 g3 g4 q4 hw4
              have H1N : Hid (∀ x ∈ ([.int .u8 t, .slice uv L uc] : List Value), x.oneCell' = true) := by
                intro x hx
                simp only [List.mem_cons, List.not_mem_nil, or_false] at hx
                rcases hx with rfl | rfl <;> rfl
              have H63 : Hid (G.length + 1 ≤ maxLen) := by unfold Hid maxLen; have := hG1.out; omega
              have HBY : Hid ((G.length + 1) * ii.bytes ≤ 140737488355328) := by
                have h1 := hG1.out
                have h2 := H2.out
                have := Nat.mul_le_mul (show G.length + 1 ≤ 1000001 by omega) h2
                exact Nat.le_trans this (by omega)
              have HBS : Hid (w.heap.size ≤ w4.heap.size) := B4.out.size
              by_cases hcp : cp = K
              · have hnK : n = K := by omega
                have nK0 : n - K = 0 := by omega
                have PQ : Hid (∀ W, Below w.heap.size w W → PartAt W (.slice (some ⟨bb, oo, none⟩) 0 0) (l'.drop K)) := PZ.out hcp
                clear PN PZ
                rw [hnK] at hposi hpos q1 hKn hKi HN ⊢
                rw [hcp] at q1 q2 ⊢
                go_wp2_with (first | (at_builtin; rw [← HW4.out]; refine wpList_append_own_at _ rfl _ _ 81 rfl w.heap.size 48 ii zz 2 ii.bytes Tryd.underlying81 HI.out HZ.out H3.out rfl H4.out (by omega) u5 G.length (cellsF G us) rfl F4.out.own ⟨w2.heap.size + 1, 0, none⟩ 1 1 [.int .u8 t, .slice uv L uc] rfl rfl NEWS.out H1N.out H63.out HBY.out HBS.out ?_; intro v5 w5 o5 g5 i5 d5; have F5 : Hid (FrQ w5 w.heap.size v5 (G ++ [(t, bd)]) (us ++ [.slice uv L uc])) := F4.out.snoc t bd _ O4.out o5 g5; have B5 : Hid (Below w.heap.size w w5) := B4.out.grown g5 B4.out.size (fun b hb => F4.out.low b hb); clear o5 g5 i5 d5 F4 B4 O4 NEWS H1N H63 HBY HBS HI HZ H3 H4))
                go_roundw
                case rel => exact ⟨G ++ [(t, bd)], us ++ [.slice uv L uc], d, l'.drop K, F5.out, PQ, rfl, B5, HE.out, B'.out, LN2.out⟩
                case measure => simp [lenV]; omega
              · have PQ : Hid (∀ W, Below w.heap.size w W → PartAt W (.slice (some ⟨bb, oo + K, none⟩) (n - K) (cp - K)) (l'.drop K)) := PN.out hcp
                clear PN PZ
                go_wp2_with (first | (at_builtin; rw [← HW4.out]; refine wpList_append_own_at _ rfl _ _ 81 rfl w.heap.size 48 ii zz 2 ii.bytes Tryd.underlying81 HI.out HZ.out H3.out rfl H4.out (by omega) u5 G.length (cellsF G us) rfl F4.out.own ⟨w2.heap.size + 1, 0, none⟩ 1 1 [.int .u8 t, .slice uv L uc] rfl rfl NEWS.out H1N.out H63.out HBY.out HBS.out ?_; intro v5 w5 o5 g5 i5 d5; have F5 : Hid (FrQ w5 w.heap.size v5 (G ++ [(t, bd)]) (us ++ [.slice uv L uc])) := F4.out.snoc t bd _ O4.out o5 g5; have B5 : Hid (Below w.heap.size w w5) := B4.out.grown g5 B4.out.size (fun b hb => F4.out.low b hb); clear o5 g5 i5 d5 F4 B4 O4 NEWS H1N H63 HBY HBS HI HZ H3 H4))
                go_roundw
                case rel => exact ⟨G ++ [(t, bd)], us ++ [.slice uv L uc], d, l'.drop K, F5.out, PQ, rfl, B5, HE.out, B'.out, LN2.out⟩
                case measure => simp [lenV]; omega
        · have HE := hst.2.2 h0 hc4 hc0
          have HE : Hid (feedR l = (G ++ (feedR (l'.drop 1)).1, (d + 1) + (feedR (l'.drop 1)).2.1, (feedR (l'.drop 1)).2.2)) := HE
          have z4 : (c == 4) = false := by simpa using hc4
          have z0 : (c == 0) = false := by simpa using hc0
          have B' : Hid (Bytes (l'.drop 1)) := fun x hx => hBl.out x (List.drop_subset _ _ hx)
          have ln2 : (l'.drop 1).length + (d + 1) + G.length ≤ 1000000 := by rw [List.length_drop]; omega
          have wD : IntKind.i64.wrap ((d : Int) + 1) = (d : Int) + 1 := wrapI _ (by omega) (by omega)
          have n1 : (1 : Int) ≤ (n : Int) := by omega
          have n2 : 1 ≤ n := by omega
          have PN : Hid (¬ cp = 1 → ∀ W, Below w.heap.size w W → PartAt W (.slice (some ⟨bb, oo + 1, none⟩) (n - 1) (cp - 1)) (l'.drop 1)) := fun hc W q => (part_dropK HN.out.symm (hP.out W q) hpos 1 n2).1 hc
          have PZ : Hid (cp = 1 → ∀ W, Below w.heap.size w W → PartAt W (.slice (some ⟨bb, oo, none⟩) 0 0) (l'.drop 1)) := fun hc W q => (part_dropK HN.out.symm (hP.out W q) hpos 1 n2).2 hc
          clear hst dok dpos hn hP
          go_wp2_with fail
          refine DEC.out.mono ?_
          rintro e w2 ⟨uv, L, uc, rfl, o2, b2⟩
          obtain ⟨w3, hw3⟩ : ∃ W, W = w2.alloc (.cells #[.int .u8 t, .slice uv L uc] 48) := ⟨_, rfl⟩
          have b3 : Below wr.heap.size wr w3 := by rw [hw3]; exact b2.alloc b2.size _
          obtain ⟨f3, bw3⟩ := HW2.out w3 b3
          have HW3 : Hid (w3 = w2.alloc (.cells #[.int .u8 t, .slice uv L uc] 48)) := hw3
          have F3 : Hid (FrQ w3 w.heap.size u5 G us) := f3
          have B3 : Hid (Below w.heap.size w w3) := bw3
          clear f3 bw3 b2 b3 o2 DEC HW2 hw3
          by_cases hcp : cp = 1
          · have hn1 : n = 1 := by omega
            have PQ : Hid (∀ W, Below w.heap.size w W → PartAt W (.slice (some ⟨bb, oo, none⟩) 0 0) (l'.drop 1)) := PZ.out hcp
            clear PN PZ
            subst hcp
            subst hn1
            go_wp2
            rw [← HW3.out]
            go_roundw
            case rel => exact ⟨G, us, d + 1, l'.drop 1, F3.out, PQ, by go_num, B3, HE.out, B'.out, ln2⟩
            case measure => simp [lenV]
          · have PQ : Hid (∀ W, Below w.heap.size w W → PartAt W (.slice (some ⟨bb, oo + 1, none⟩) (n - 1) (cp - 1)) (l'.drop 1)) := PN.out hcp
            clear PN PZ
            go_wp2
            rw [← HW3.out]
            go_roundw
            case rel => exact ⟨G, us, d + 1, l'.drop 1, F3.out, PQ, by go_num, B3, HE.out, B'.out, ln2⟩
            case measure => simp [lenV]; omega
end Go.Proofs.YtplihbncmmggjaaDoor
