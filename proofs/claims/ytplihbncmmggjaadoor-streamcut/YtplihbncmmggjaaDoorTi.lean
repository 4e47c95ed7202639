import Derived.Test.YtplihbncmmggjaaDoorTh
import Derived.Test.YtplihbncmmggjaaDoorFr
namespace Go.Proofs.YtplihbncmmggjaaDoor
set_option linter.unusedSimpArgs false
set_option linter.unusedVariables false
open Go.RowKit
theorem row_range2 {w : World} {g : Nat} {x y : Value} {ty : TypeId} (h : w.heap[g]? = some (.cells #[x, y] ty)) : w.rangeAt g 0 [x, y] := fun j z hz => by
  rw [Nat.zero_add]
  match j, hz with
  | 0, hz => exact row_cell h (by simpa using hz)
  | 1, hz => exact row_cell h (by simpa using hz)
  | j + 2, hz => simp at hz
theorem cut_row {w : World} {gf gs : Nat} {t : Int} {v u0 : Value} {w6 : World} {g0 : Nat} {b : List Int} (h : CutS w gf gs t v [] w6 ∧ w6.rangeAt g0 0 [.int .u8 t, u0] ∧ g0 < w6.heap.size ∧ PartAt w6 u0 b) :
    CutS w gf gs t v [] (w6.alloc (.cells #[.int .u8 t, v] 48)) ∧ (w6.alloc (.cells #[.int .u8 t, v] 48)).rangeAt g0 0 [.int .u8 t, u0] ∧ g0 < (w6.alloc (.cells #[.int .u8 t, v] 48)).heap.size ∧ PartAt (w6.alloc (.cells #[.int .u8 t, v] 48)) u0 b ∧ (w6.alloc (.cells #[.int .u8 t, v] 48)).rangeAt w6.heap.size 0 [.int .u8 t, v] ∧ w6.heap.size < (w6.alloc (.cells #[.int .u8 t, v] 48)).heap.size := by
  have q : Below w6.heap.size w6 (w6.alloc (.cells #[.int .u8 t, v] 48)) := (Below.refl _ _).alloc (Nat.le_refl _) _
  exact ⟨h.1.below q, range_below h.2.1 q h.2.2.1, Nat.lt_of_lt_of_le h.2.2.1 q.size, h.2.2.2.below q, row_range2 (heap_alloc_new _ _), by simp⟩
theorem cut_row2 {w : World} {gf gs : Nat} {t : Int} {v : Value} {S : List Int} {w5 : World} (h : CutS w gf gs t v S w5.drew) : ∀ w', (w5.drew.alloc (.cells #[.int .u8 t, v] 48)).grownBy w' (some gs) → w'.rangeAt w5.heap.size 0 [.int .u8 t, v] ∧ w5.heap.size < w'.heap.size := fun w' g => by
  have hl := h.st.lt
  have e : w5.drew.heap.size = w5.heap.size := rfl
  have hs : w5.heap.size < (w5.drew.alloc (.cells #[.int .u8 t, v] 48)).heap.size := by simp [e]
  have hb := g.block w5.heap.size hs (fun q => by injection q with q; omega)
  have hn : (w5.drew.alloc (.cells #[.int .u8 t, v] 48)).heap[w5.heap.size]? = some (.cells #[.int .u8 t, v] 48) := heap_alloc_new w5.drew _
  exact ⟨row_range2 (hb.trans hn), Nat.lt_of_lt_of_le hs g.size⟩
set_option maxHeartbeats 1000000 in
set_option maxRecDepth 100000 in
theorem scut_out (t a : Int) (av : Option Addr) (n cp : Nat) (h : 300 < n ∨ t = 0) (w : World) (hL : Laid w) : Calls Tryd.prog 18 #[.int .u8 t, .slice av n cp, .int .u64 a] w fun e w' => e = .returned (.bool true) ∧ Below w.heap.size w w' := by
  have h2 := hL.two
  have AW : Hid (∀ W, Below w.heap.size w W → Calls Tryd.prog 46 #[] W fun e w' => e = .returned (.bool true) ∧ Below w.heap.size w w') := fun W q =>
    (awake6_any W (hL.below q h2)).mono fun e w' ⟨r1, r2⟩ => ⟨r1, q.trans (r2.mono q.size)⟩
  have b0 : Below w.heap.size w w := Below.refl _ _
  clear hL h2
  by_cases g1 : (300 : Int) < (n : Int)
  · clear h
    go_enter Tryd.func18, Tryd.ntmps18
    go_wp2_with fail
    refine (AW.out _ b0).mono ?_
    rintro e w1 ⟨rfl, b1⟩
    clear b0
    go_wp2_with fail
    refine (AW.out _ b1).mono ?_
    rintro e w2 ⟨rfl, b2⟩
    clear b1
    go_wp2
    go_ret
    exact ⟨rfl, b2⟩
  · obtain rfl : t = 0 := by omega
    clear h
    go_enter Tryd.func18, Tryd.ntmps18
    go_wp2_with fail
    refine (AW.out _ b0).mono ?_
    rintro e w1 ⟨rfl, b1⟩
    clear b0
    go_wp2_with fail
    refine (AW.out _ b1).mono ?_
    rintro e w2 ⟨rfl, b2⟩
    clear b1
    go_wp2
    go_ret
    exact ⟨rfl, b2⟩
set_option maxHeartbeats 4000000 in
set_option maxRecDepth 100000 in
theorem scut_do (t a : Int) (av : Option Addr) (n cp : Nat) (b : List Int) (hbn : b.length = n) (hb : Bytes b) (hn : n ≤ 300) (ht : 0 < t ∧ t ≤ 255) (ha : 0 ≤ a ∧ a ≤ 18446744073709551615) (w : World) (hL : Laid w) (hp : PartAt w (.slice av n cp) b) : Calls Tryd.prog 18 #[.int .u8 t, .slice av n cp, .int .u64 a] w fun e w' => e = .returned (.bool true) ∧ Below w.heap.size w w' := by
  have h2 := hL.two
  have AW : Hid (Calls Tryd.prog 46 #[] w fun e w' => e = .returned (.bool true) ∧ Below w.heap.size w w') := awake6_any w hL
  have hlen : (encB t b).length = n + 10 := by rw [encB_length, hbn]
  obtain ⟨k, hk⟩ : ∃ k : Nat, a % ((n : Int) + 10) = (k : Int) := ⟨(a % ((n : Int) + 10)).toNat, by have := Int.emod_nonneg a (show (n : Int) + 10 ≠ 0 by omega); omega⟩
  have hk1 : k < n + 10 := by have := Int.emod_lt_of_pos a (show (0 : Int) < (n : Int) + 10 by omega); omega
  have RE : Hid (∀ W, Below w.heap.size w W → Calls Tryd.prog 31 #[.agg #[.int .u8 t, .slice av n cp]] W fun e w' => ∃ b0 o0 ucp, e = .returned (.tuple #[.slice (some ⟨b0, o0, none⟩) (n + 10) ucp, .int .i64 0]) ∧ Below W.heap.size W w' ∧ (n + 10 ≤ ucp ∧ ucp ≤ 9223372036854775807) ∧ PartAt w' (.slice (some ⟨b0, o0, none⟩) k ucp) ((encB t b).take k) ∧ PartAt w' (.slice (some ⟨b0, o0 + k, none⟩) (n + 10 - k) (ucp - k)) ((encB t b).drop k)) := fun W q =>
    (rencode_any t ⟨by omega, ht.2⟩ _ b (by omega) hb W (by have := q.size; omega) (hp.below q)).mono fun e w' ⟨r1, r2⟩ => by
      rw [if_neg (by omega), if_neg (by omega)] at r2
      obtain ⟨u, r2, r3⟩ := r2
      have r4 := r3
      obtain ⟨av', b0, o0, ucp, rfl, q2, q3, q4, _⟩ := r3
      rw [hlen] at r4 r2 q4
      obtain rfl := q4 (by omega)
      have q := part_cut hlen r4 k hk1
      exact ⟨b0, o0, ucp, r2, r1, ⟨q.2.2.1, q.2.2.2⟩, q.1, q.2.1⟩
  have F1 : Hid (∀ gf gs W tv, 2 ≤ gs → CutS w gf gs t (.slice av n cp) [] W → PartAt W tv ((encB t b).take k) → Calls Tryd.prog 48 #[.pointer (some ⟨gs, 0, none⟩), tv] W fun e w' => ∃ av' cp', e = .returned (.slice av' 0 cp') ∧ CutS w gf gs t (.slice av n cp) ((encB t b).take k) w' ∧ W.grownBy w' (some gs)) := fun gf gs W tv hg h p => cut_feed1 t ht b hb (by omega) k (by omega) w hL gf gs _ tv hg W h p
  have F20 : Hid (∀ gf gs W, 2 ≤ gs → CutS w gf gs t (.slice av n cp) ((encB t b).take k) W → ∀ dv, PartAt W dv ((encB t b).drop k) → Calls Tryd.prog 48 #[.pointer (some ⟨gs, 0, none⟩), dv] W fun e w' => ∃ g0 cap u0, e = .returned (.slice (some ⟨g0, 0, none⟩) 1 cap) ∧ CutS w gf gs t (.slice av n cp) [] w' ∧ w'.rangeAt g0 0 [.int .u8 t, u0] ∧ g0 < w'.heap.size ∧ PartAt w' u0 b ∧ W.grownBy w' (some gs)) := fun gf gs W hg h dv p => cut_feed2 t ht b hb (by omega) k (by omega) w hL gf gs _ dv hg W h p
  have HLT : Hid (((encB t b).take k).length = k) := by unfold Hid; rw [List.length_take]; omega
  have HP : Hid (PartAt w (.slice av n cp) b) := hp
  have H2 : Hid (2 ≤ w.heap.size) := h2
  have HK1 : Hid (k < n + 10) := hk1
  have g1 : ¬ (300 : Int) < (n : Int) := by omega
  have g3 : (t == 0) = false := by simp; omega
  have g10 : ((n + 10 : Nat) : Int) = (n : Int) + 10 := by omega
  have hk2 : (k : Int) < (n : Int) + 10 := by omega
  have hk3 : (0 : Int) ≤ (k : Int) := by omega
  have hk4 : (k : Int) ≤ (n : Int) + 10 := by omega
  have hkt : a.tmod ((n : Int) + 10) = (k : Int) := by rw [Int.tmod_eq_emod_of_nonneg ha.1]; exact hk
  have hw2 : IntKind.u64.wrap ((n : Int) + 10) = (n : Int) + 10 := by rw [show IntKind.u64.wrap ((n : Int) + 10) = ((n : Int) + 10) % 18446744073709551616 from rfl]; omega
  have hw3 : ((n : Int) + 10) % 18446744073709551616 = (n : Int) + 10 := by omega
  have hnz : ((n : Int) + 10 == 0) = false := by simp; omega
  generalize encB t b = E at *
  clear hL hp hb hbn h2 ht hk1 hlen ha
  go_enter Tryd.func18, Tryd.ntmps18
  go_wp2_with fail
  refine AW.out.mono ?_
  rintro e w1 ⟨rfl, b1⟩
  have B1 : Hid (Below w.heap.size w w1) := b1
  have b2 : Below w.heap.size w (w1.alloc (.cells #[.int .u8 t, .slice av n cp] 48)) := b1.alloc b1.size _
  have RH := RE.out _ b2
  have R2 : Hid (Calls Tryd.prog 31 #[.agg #[.int .u8 t, .slice av n cp]] (w1.alloc (.cells #[.int .u8 t, .slice av n cp] 48)) _) := RH
  clear AW RE RH b1 b2
  go_wp2_with fail
  refine R2.out.mono ?_
  rintro e w3 ⟨b0, o0, ucp, rfl, b3, ⟨hc1, hc2⟩, p3, p4⟩
  have hg := heap_alloc_new w1 (.cells #[.int .u8 t, .slice av n cp] 48)
  have hs3 : w1.heap.size < w3.heap.size := by have := b3.size; simp at this; omega
  have W1 : w.heap.size ≤ w1.heap.size := B1.out.size
  have ba : Below w.heap.size w (w1.alloc (.cells #[.int .u8 t, .slice av n cp] 48)) := B1.out.alloc W1 _
  have bw3 : Below w.heap.size w w3 := ba.trans (b3.mono ba.size)
  have x3 : w3.rangeAt w1.heap.size 0 [.int .u8 t, .slice av n cp] := range_below (row_range2 hg) b3 (by simp)
  have k34 : Below w3.heap.size w3 (w3.alloc (.cells #[.string ⟨#[]⟩, .int .i64 0] 78)) := (Below.refl _ _).alloc (Nat.le_refl _) _
  have C4 : CutS w w1.heap.size w3.heap.size t (.slice av n cp) [] (w3.alloc (.cells #[.string ⟨#[]⟩, .int .i64 0] 78)) :=
    ⟨bw3.alloc bw3.size _, range_below x3 k34 hs3, hs3, bw3.size, heap_alloc_new _ _⟩
  have h23 : 2 ≤ w3.heap.size := by have := H2.out; omega
  have F1H : Hid (Calls Tryd.prog 48 #[.pointer (some ⟨w3.heap.size, 0, none⟩), .slice (some ⟨b0, o0, none⟩) k ucp] (w3.alloc (.cells #[.string ⟨#[]⟩, .int .i64 0] 78)) fun e w' => ∃ av' cp', e = .returned (.slice av' 0 cp') ∧ CutS w w1.heap.size w3.heap.size t (.slice av n cp) (E.take k) w' ∧ PartAt w' (.slice (some ⟨b0, o0 + k, none⟩) (n + 10 - k) (ucp - k)) (E.drop k)) := by
    obtain ⟨av4, b4, o4, c4, e4, y1, y2, y3, y4, y5, y6⟩ := p4
    injection e4 with e4 e5 e6
    subst e4 e6
    have y := y3 (by rw [← e5]; have := HK1.out; omega)
    refine (F1.out _ _ _ _ h23 C4 (p3.below k34)).mono fun e w' ⟨av', cp', r1, r2, r3⟩ => ⟨av', cp', r1, r2, _, b4, o4, _, by rw [← e5], y1, y2, y3, ?_, ?_, y6⟩
    · have z := range_below y4 k34 y5
      exact fun j x hx => by
        rw [World.cell?_of_block (r3.block b4 (Nat.lt_of_lt_of_le y5 k34.size) (fun e => by injection e with e; omega))]; exact z j x hx
    · exact Nat.lt_of_lt_of_le (Nat.lt_of_lt_of_le y5 k34.size) r3.size
  have F2 : Hid (∀ W, CutS w w1.heap.size w3.heap.size t (.slice av n cp) (E.take k) W → PartAt W (.slice (some ⟨b0, o0 + k, none⟩) (n + 10 - k) (ucp - k)) (E.drop k) → Calls Tryd.prog 48 #[.pointer (some ⟨w3.heap.size, 0, none⟩), .slice (some ⟨b0, o0 + k, none⟩) (n + 10 - k) (ucp - k)] W fun e w' => ∃ g0 cap u0, e = .returned (.slice (some ⟨g0, 0, none⟩) 1 cap) ∧ CutS w w1.heap.size w3.heap.size t (.slice av n cp) [] w' ∧ w'.rangeAt g0 0 [.int .u8 t, u0] ∧ g0 < w'.heap.size ∧ PartAt w' u0 b ∧ W.grownBy w' (some w3.heap.size)) := fun W h p => F20.out _ _ W h23 h _ p
  have SM : Hid (∀ W g0 cap u0 gb cq, CutS w w1.heap.size w3.heap.size t (.slice av n cp) [] W → W.rangeAt g0 0 [.int .u8 t, u0] → g0 < W.heap.size → PartAt W u0 b → W.rangeAt gb 0 [.int .u8 t, .slice av n cp] → gb < W.heap.size → Calls Tryd.prog 50 #[.slice (some ⟨g0, 0, none⟩) 1 cap, .slice (some ⟨gb, 0, none⟩) 1 cq] W fun e w' => e = .returned (.bool true) ∧ CutS w w1.heap.size w3.heap.size t (.slice av n cp) [] w') := fun W g0 cap u0 gb cq h h0 l0 p0 hb lb => cut_same t b w _ _ _ [] W h g0 cap gb cq u0 h0 l0 p0 hb lb (HP.out.below h.bel)
  have WT : Hid (∀ W, CutS w w1.heap.size w3.heap.size t (.slice av n cp) [] W → Calls Tryd.prog 52 #[.pointer (some ⟨w3.heap.size, 0, none⟩)] W fun e w' => e = .returned (.int .i64 0) ∧ W = w') := fun W h => cut_waits w _ _ t _ [] W h
  have WK : Hid (∀ W, CutS w w1.heap.size w3.heap.size t (.slice av n cp) (E.take k) W → Calls Tryd.prog 52 #[.pointer (some ⟨w3.heap.size, 0, none⟩)] W fun e w' => e = .returned (.int .i64 k) ∧ W = w') := fun W h => by
    have q := cut_waits w _ _ t _ _ W h; rw [HLT.out] at q; exact q
  have DR : Hid (∀ W, CutS w w1.heap.size w3.heap.size t (.slice av n cp) [] W → Calls Tryd.prog 51 #[.pointer (some ⟨w3.heap.size, 0, none⟩)] W fun e w' => e = .returned (.int .i64 0) ∧ W = w') := fun W h => cut_dropped w _ _ t _ [] W h
  have DK : Hid (∀ W, CutS w w1.heap.size w3.heap.size t (.slice av n cp) (E.take k) W → Calls Tryd.prog 51 #[.pointer (some ⟨w3.heap.size, 0, none⟩)] W fun e w' => e = .returned (.int .i64 0) ∧ W = w') := fun W h => cut_dropped w _ _ t _ _ W h
  have hc3 : (k : Int) ≤ (ucp : Int) := by omega
  have hc4 : k ≤ ucp := by omega
  have hc5 : k ≤ n + 10 := by omega
  have hc6 : n + 10 ≤ ucp := hc1
  have hc7 : (n : Int) + 10 ≤ (ucp : Int) := by omega
  have hc8 : ¬ ucp = k := by have := HK1.out; omega
  clear F1 F20 R2 hg hs3 W1 ba bw3 x3 k34 C4 h23 b3 p3 p4 hc1 hc2 B1
  go_wp2_with fail
  refine F1H.out.mono ?_
  rintro e w5 ⟨av5, cp5, rfl, c5, q5⟩
  have C5 : Hid (CutS w w1.heap.size w3.heap.size t (.slice av n cp) (E.take k) w5) := c5
  have K5 : Hid (CutS w w1.heap.size w3.heap.size t (.slice av n cp) (E.take k) w5.drew ∧ PartAt w5.drew (.slice (some ⟨b0, o0 + k, none⟩) (n + 10 - k) (ucp - k)) (E.drop k)) := ⟨c5.below (Below.refl _ _).drew, q5.below (Below.refl _ _).drew⟩
  clear c5 q5 F1H
  go_wp2_with fail
  refine (WK.out _ C5.out).mono ?_
  rintro e w6 ⟨rfl, rfl⟩
  go_wp2_with fail
  refine (DK.out _ C5.out).mono ?_
  rintro e w6 ⟨rfl, rfl⟩
  clear WK DK C5
  go_wp2_with fail
  refine wp_region_noPanic ?_
  refine wp_region_held_drew (S := fun w' => w'.rangeAt w1.heap.size 0 [.int .u8 t, .slice av n cp]) (by kernel_rfl) (K5.out.1.box) (fun hHeld => ?_)
  try simp only [Act.put, List.setIfInBounds_toArray, List.set_cons_zero, List.set_cons_succ]
  refine wpAnyH_take (i := 0) (oi := { dst := some 56, op := Go.Op.move (Go.Operand.tmp 8), type := 22, pos := "law.go:146", after := #[], guard := none }) (v := ?_) rfl (by kernel_rfl) (by kernel_rfl) (by kernel_rfl) (fun _ _ _ h => h) (Or.inl ⟨by rfl, ?_⟩) hHeld ?_
  rotate_left 1
  · (intro wq hSq; (try dsimp only at hSq); go_simp; first | done | with_reducible rfl)
  try simp only [Act.put, List.setIfInBounds_toArray, List.set_cons_zero, List.set_cons_succ]
  refine wpAnyH_take (i := 1) (oi := { dst := some 57, op := Go.Op.move (Go.Operand.tmp 10), type := 3, pos := "law.go:146", after := #[], guard := none }) (v := ?_) rfl (by kernel_rfl) (by kernel_rfl) (by kernel_rfl) (fun _ _ _ h => h) (Or.inl ⟨by rfl, ?_⟩) hHeld ?_
  rotate_left 1
  · (intro wq hSq; (try dsimp only at hSq); go_simp; first | done | with_reducible rfl)
  try simp only [Act.put, List.setIfInBounds_toArray, List.set_cons_zero, List.set_cons_succ]
  refine wpAnyH_take (i := 2) (oi := { dst := some 58, op := Go.Op.slice 22 (Go.Operand.tmp 56) (some (Go.Operand.tmp 57)) none none, type := 22, pos := "law.go:146", after := #[{ on := 0, ground := Go.Ground.data }, { on := 1, ground := Go.Ground.data }], guard := none }) (v := ?_) rfl (by kernel_rfl) (by kernel_rfl) (by kernel_rfl) (fun _ _ _ h => h) (Or.inl ⟨by rfl, ?_⟩) hHeld ?_
  rotate_left 1
  · (intro wq hSq; (try dsimp only at hSq); go_simp; first | done | with_reducible rfl)
  try simp only [Act.put, List.setIfInBounds_toArray, List.set_cons_zero, List.set_cons_succ]
  refine wpAnyH_take (i := 4) (oi := { dst := some 60, op := Go.Op.load 48 (Go.Operand.tmp 7), type := 48, pos := "law.go:146", after := #[], guard := none }) (v := .agg (List.toArray (.int .u8 t :: .slice av n cp :: []))) rfl (by kernel_rfl) (by kernel_rfl) (by kernel_rfl) (fun _ _ _ h => h) (yieldsIf_load_mid rfl 48 _ rfl w1.heap.size 0 rfl [.int .u8 t, .slice av n cp] _ (fun wq hSq => hSq) Tryd.underlying48 rfl (by kernel_rfl)) hHeld ?_
  try simp only [Act.put, List.setIfInBounds_toArray, List.set_cons_zero, List.set_cons_succ]
  refine wpAnyH_ready (rs := [3, 5]) (by kernel_rfl) (by simp) ?_
  refine (AllReadyH.cons (o := { dst := some 59, op := Go.Op.call { callee := Go.Callee.value (Go.Operand.func 48), args := #[Go.Operand.tmp 11, Go.Operand.tmp 58], argTypes := #[78, 22] }, type := 79, pos := "law.go:146", after := #[{ on := 2, ground := Go.Ground.data }], guard := none }) rfl (fun K hK => ?_) (AllReadyH.cons (o := { dst := some 61, op := Go.Op.buildSlice 81 1 #[(0, Go.Operand.tmp 60)], type := 81, pos := "law.go:146", after := #[{ on := 4, ground := Go.Ground.data }], guard := none }) rfl (fun K hK => ?_) AllReadyH.nil))
  · go_simp
    refine (F2.out _ K5.out.1 K5.out.2).mono ?_
    rintro e w6 ⟨g0, cap0, u0, rfl, k6, h6, l6, p6, g6⟩
    refine hK.out _ _ (k6.box) (fun hHeld1 => ?_)
    clear hK K hHeld
    try simp only [Act.put, List.setIfInBounds_toArray, List.set_cons_zero, List.set_cons_succ]
    have K6 : Hid (CutS w w1.heap.size w3.heap.size t (.slice av n cp) [] w6 ∧ w6.rangeAt g0 0 [.int .u8 t, u0] ∧ g0 < w6.heap.size ∧ PartAt w6 u0 b) := ⟨k6, h6, l6, p6⟩
    clear k6 h6 l6 p6 g6 F2 K5
    refine wpAnyH_ready (rs := [5]) (by kernel_rfl) (by simp) ?_
    refine (AllReadyH.cons (o := { dst := some 61, op := Go.Op.buildSlice 81 1 #[(0, Go.Operand.tmp 60)], type := 81, pos := "law.go:146", after := #[{ on := 4, ground := Go.Ground.data }], guard := none }) rfl (fun K hK => ?_) AllReadyH.nil)
    go_simp
    refine hK.out _ _ ((K6.out.1.below ((Below.refl _ _).alloc (Nat.le_refl _) _)).box) (fun hHeld2 => ?_)
    clear hK K hHeld1
    try simp only [Act.put, List.setIfInBounds_toArray, List.set_cons_zero, List.set_cons_succ]
    have K7 : Hid (CutS w w1.heap.size w3.heap.size t (.slice av n cp) [] (w6.alloc (.cells #[.int .u8 t, .slice av n cp] 48)) ∧ (w6.alloc (.cells #[.int .u8 t, .slice av n cp] 48)).rangeAt g0 0 [.int .u8 t, u0] ∧ g0 < (w6.alloc (.cells #[.int .u8 t, .slice av n cp] 48)).heap.size ∧ PartAt (w6.alloc (.cells #[.int .u8 t, .slice av n cp] 48)) u0 b ∧ (w6.alloc (.cells #[.int .u8 t, .slice av n cp] 48)).rangeAt w6.heap.size 0 [.int .u8 t, .slice av n cp] ∧ w6.heap.size < (w6.alloc (.cells #[.int .u8 t, .slice av n cp] 48)).heap.size) := cut_row K6.out
    clear K6
    refine wpAnyH_ready (rs := [6]) (by kernel_rfl) (by simp) ?_
    refine (AllReadyH.cons (o := { dst := some 62, op := Go.Op.call { callee := Go.Callee.value (Go.Operand.func 50), args := #[Go.Operand.tmp 59, Go.Operand.tmp 61], argTypes := #[79, 81] }, type := 4, pos := "law.go:146", after := #[{ on := 3, ground := Go.Ground.data }, { on := 5, ground := Go.Ground.data }, { on := 3, ground := Go.Ground.chain }], guard := none }) rfl (fun K hK => ?_) AllReadyH.nil)
    go_simp
    refine (SM.out _ _ _ _ _ _ K7.out.1 K7.out.2.1 K7.out.2.2.1 K7.out.2.2.2.1 K7.out.2.2.2.2.1 K7.out.2.2.2.2.2).mono ?_
    rintro e w8 ⟨rfl, k8⟩
    refine hK.out _ _ (k8.box) (fun hHeld3 => ?_)
    clear hK K hHeld2
    try simp only [Act.put, List.setIfInBounds_toArray, List.set_cons_zero, List.set_cons_succ]
    have CC : Hid (CutS w w1.heap.size w3.heap.size t (.slice av n cp) [] w8) := k8
    clear k8 K7
    refine wpAnyH_take (i := 7) (oi := { dst := some 63, op := Go.Op.move (Go.Operand.tmp 62), type := 4, pos := "law.go:146", after := #[{ on := 6, ground := Go.Ground.data }, { on := 6, ground := Go.Ground.chain }], guard := none }) (v := ?_) rfl (by kernel_rfl) (by kernel_rfl) (by kernel_rfl) (fun _ _ _ h => h) (Or.inl ⟨by rfl, ?_⟩) hHeld3 ?_
    rotate_left 1
    · (intro wq hSq; (try dsimp only at hSq); go_simp; first | done | with_reducible rfl)
    try simp only [Act.put, List.setIfInBounds_toArray, List.set_cons_zero, List.set_cons_succ]
    refine wpAnyH_ready (rs := [8]) (by kernel_rfl) (by simp) ?_
    refine (AllReadyH.cons (o := { dst := some 64, op := Go.Op.call { callee := Go.Callee.value (Go.Operand.func 52), args := #[Go.Operand.tmp 11], argTypes := #[78] }, type := 3, pos := "law.go:146", after := #[{ on := 7, ground := Go.Ground.chain }, { on := 7, ground := Go.Ground.guard }], guard := some (7, true) }) rfl (fun K hK => ?_) AllReadyH.nil)
    go_simp
    refine (WT.out _ CC.out).mono ?_
    rintro e w9 ⟨rfl, rfl⟩
    refine hK.out _ _ (CC.out.box) (fun hHeld4 => ?_)
    clear hK K hHeld3
    try simp only [Act.put, List.setIfInBounds_toArray, List.set_cons_zero, List.set_cons_succ]
    refine wpAnyH_take (i := 9) (oi := { dst := some 65, op := Go.Op.binOp Go.BinOp.eql 3 (Go.Operand.tmp 64) (Go.Operand.const (Go.Value.int Go.IntKind.i64 0)) 3, type := 4, pos := "law.go:146", after := #[{ on := 8, ground := Go.Ground.data }, { on := 7, ground := Go.Ground.guard }], guard := some (7, true) }) (v := ?_) rfl (by kernel_rfl) (by kernel_rfl) (by kernel_rfl) (fun _ _ _ h => h) (Or.inl ⟨by rfl, ?_⟩) hHeld4 ?_
    rotate_left 1
    · (intro wq hSq; (try dsimp only at hSq); go_simp; first | done | with_reducible rfl)
    try simp only [Act.put, List.setIfInBounds_toArray, List.set_cons_zero, List.set_cons_succ]
    refine wpAnyH_take (i := 10) (oi := { dst := some 66, op := Go.Op.pick (Go.Operand.tmp 63) (Go.Operand.tmp 65) (Go.Operand.const (Go.Value.bool false)), type := 4, pos := "law.go:146", after := #[{ on := 7, ground := Go.Ground.data }, { on := 9, ground := Go.Ground.data }], guard := none }) (v := ?_) rfl (by kernel_rfl) (by kernel_rfl) (by kernel_rfl) (fun _ _ _ h => h) (Or.inl ⟨by rfl, ?_⟩) hHeld4 ?_
    rotate_left 1
    · (intro wq hSq; (try dsimp only at hSq); go_simp; first | done | with_reducible rfl)
    try simp only [Act.put, List.setIfInBounds_toArray, List.set_cons_zero, List.set_cons_succ]
    refine wpAnyH_take (i := 11) (oi := { dst := some 67, op := Go.Op.move (Go.Operand.tmp 66), type := 4, pos := "law.go:146", after := #[{ on := 10, ground := Go.Ground.data }, { on := 8, ground := Go.Ground.chain }], guard := none }) (v := ?_) rfl (by kernel_rfl) (by kernel_rfl) (by kernel_rfl) (fun _ _ _ h => h) (Or.inl ⟨by rfl, ?_⟩) hHeld4 ?_
    rotate_left 1
    · (intro wq hSq; (try dsimp only at hSq); go_simp; first | done | with_reducible rfl)
    try simp only [Act.put, List.setIfInBounds_toArray, List.set_cons_zero, List.set_cons_succ]
    refine wpAnyH_ready (rs := [12]) (by kernel_rfl) (by simp) ?_
    refine (AllReadyH.cons (o := { dst := some 68, op := Go.Op.call { callee := Go.Callee.value (Go.Operand.func 51), args := #[Go.Operand.tmp 11], argTypes := #[78] }, type := 3, pos := "law.go:146", after := #[{ on := 11, ground := Go.Ground.chain }, { on := 11, ground := Go.Ground.guard }], guard := some (11, true) }) rfl (fun K hK => ?_) AllReadyH.nil)
    go_simp
    refine (DR.out _ CC.out).mono ?_
    rintro e w9 ⟨rfl, rfl⟩
    refine hK.out _ _ (CC.out.box) (fun hHeld5 => ?_)
    clear hK K hHeld4
    try simp only [Act.put, List.setIfInBounds_toArray, List.set_cons_zero, List.set_cons_succ]
    refine wpAnyH_take (i := 13) (oi := { dst := some 69, op := Go.Op.binOp Go.BinOp.eql 3 (Go.Operand.tmp 68) (Go.Operand.const (Go.Value.int Go.IntKind.i64 0)) 3, type := 4, pos := "law.go:146", after := #[{ on := 12, ground := Go.Ground.data }, { on := 11, ground := Go.Ground.guard }], guard := some (11, true) }) (v := ?_) rfl (by kernel_rfl) (by kernel_rfl) (by kernel_rfl) (fun _ _ _ h => h) (Or.inl ⟨by rfl, ?_⟩) hHeld5 ?_
    rotate_left 1
    · (intro wq hSq; (try dsimp only at hSq); go_simp; first | done | with_reducible rfl)
    try simp only [Act.put, List.setIfInBounds_toArray, List.set_cons_zero, List.set_cons_succ]
    refine wpAnyH_take (i := 14) (oi := { dst := some 70, op := Go.Op.pick (Go.Operand.tmp 67) (Go.Operand.tmp 69) (Go.Operand.const (Go.Value.bool false)), type := 4, pos := "law.go:146", after := #[{ on := 11, ground := Go.Ground.data }, { on := 13, ground := Go.Ground.data }], guard := none }) (v := ?_) rfl (by kernel_rfl) (by kernel_rfl) (by kernel_rfl) (fun _ _ _ h => h) (Or.inl ⟨by rfl, ?_⟩) hHeld5 ?_
    rotate_left 1
    · (intro wq hSq; (try dsimp only at hSq); go_simp; first | done | with_reducible rfl)
    try simp only [Act.put, List.setIfInBounds_toArray, List.set_cons_zero, List.set_cons_succ]
    refine wpAnyH_take (i := 15) (oi := { dst := some 6, op := Go.Op.assign (Go.Operand.tmp 70), type := 4, pos := "law.go:146", after := #[{ on := 14, ground := Go.Ground.data }, { on := 12, ground := Go.Ground.chain }, { on := 0, ground := Go.Ground.phase }, { on := 1, ground := Go.Ground.phase }, { on := 2, ground := Go.Ground.phase }, { on := 3, ground := Go.Ground.phase }, { on := 4, ground := Go.Ground.phase }, { on := 5, ground := Go.Ground.phase }, { on := 6, ground := Go.Ground.phase }, { on := 7, ground := Go.Ground.phase }, { on := 8, ground := Go.Ground.phase }, { on := 9, ground := Go.Ground.phase }, { on := 10, ground := Go.Ground.phase }, { on := 11, ground := Go.Ground.phase }, { on := 12, ground := Go.Ground.phase }, { on := 13, ground := Go.Ground.phase }, { on := 14, ground := Go.Ground.phase }], guard := none }) (v := ?_) rfl (by kernel_rfl) (by kernel_rfl) (by kernel_rfl) (fun _ _ _ h => h) (Or.inl ⟨by rfl, ?_⟩) hHeld5 ?_
    rotate_left 1
    · (intro wq hSq; (try dsimp only at hSq); go_simp; first | done | with_reducible rfl)
    try simp only [Act.put, List.setIfInBounds_toArray, List.set_cons_zero, List.set_cons_succ]
    refine wpAnyH_done (by kernel_rfl) ?_ _
    refine NoPanic.normal ?_
    go_wp2
    go_ret
    exact ⟨rfl, CC.out.bel⟩
  · go_simp
    refine hK.out _ _ ((K5.out.1.below ((Below.refl _ _).alloc (Nat.le_refl _) _)).box) (fun hHeld1 => ?_)
    clear hK K hHeld
    try simp only [Act.put, List.setIfInBounds_toArray, List.set_cons_zero, List.set_cons_succ]
    have K5B : Hid (CutS w w1.heap.size w3.heap.size t (.slice av n cp) (E.take k) (w5.drew.alloc (.cells #[.int .u8 t, .slice av n cp] 48)) ∧ PartAt (w5.drew.alloc (.cells #[.int .u8 t, .slice av n cp] 48)) (.slice (some ⟨b0, o0 + k, none⟩) (n + 10 - k) (ucp - k)) (E.drop k)) := ⟨K5.out.1.below ((Below.refl _ _).alloc (Nat.le_refl _) _), K5.out.2.below ((Below.refl _ _).alloc (Nat.le_refl _) _)⟩
    have KB : Hid (∀ w', (w5.drew.alloc (.cells #[.int .u8 t, .slice av n cp] 48)).grownBy w' (some w3.heap.size) → w'.rangeAt w5.heap.size 0 [.int .u8 t, .slice av n cp] ∧ w5.heap.size < w'.heap.size) := cut_row2 K5.out.1
    refine wpAnyH_ready (rs := [3]) (by kernel_rfl) (by simp) ?_
    refine (AllReadyH.cons (o := { dst := some 59, op := Go.Op.call { callee := Go.Callee.value (Go.Operand.func 48), args := #[Go.Operand.tmp 11, Go.Operand.tmp 58], argTypes := #[78, 22] }, type := 79, pos := "law.go:146", after := #[{ on := 2, ground := Go.Ground.data }], guard := none }) rfl (fun K hK => ?_) AllReadyH.nil)
    go_simp
    refine (F2.out _ K5B.out.1 K5B.out.2).mono ?_
    rintro e w6 ⟨g0, cap0, u0, rfl, k6, h6, l6, p6, g6⟩
    refine hK.out _ _ (k6.box) (fun hHeld2 => ?_)
    clear hK K hHeld1
    try simp only [Act.put, List.setIfInBounds_toArray, List.set_cons_zero, List.set_cons_succ]
    have K7 : Hid (CutS w w1.heap.size w3.heap.size t (.slice av n cp) [] w6 ∧ w6.rangeAt g0 0 [.int .u8 t, u0] ∧ g0 < w6.heap.size ∧ PartAt w6 u0 b ∧ w6.rangeAt w5.heap.size 0 [.int .u8 t, .slice av n cp] ∧ w5.heap.size < w6.heap.size) := ⟨k6, h6, l6, p6, (KB.out _ g6).1, (KB.out _ g6).2⟩
    clear k6 h6 l6 p6 g6 F2 K5 K5B KB
    refine wpAnyH_ready (rs := [6]) (by kernel_rfl) (by simp) ?_
    refine (AllReadyH.cons (o := { dst := some 62, op := Go.Op.call { callee := Go.Callee.value (Go.Operand.func 50), args := #[Go.Operand.tmp 59, Go.Operand.tmp 61], argTypes := #[79, 81] }, type := 4, pos := "law.go:146", after := #[{ on := 3, ground := Go.Ground.data }, { on := 5, ground := Go.Ground.data }, { on := 3, ground := Go.Ground.chain }], guard := none }) rfl (fun K hK => ?_) AllReadyH.nil)
    go_simp
    refine (SM.out _ _ _ _ _ _ K7.out.1 K7.out.2.1 K7.out.2.2.1 K7.out.2.2.2.1 K7.out.2.2.2.2.1 K7.out.2.2.2.2.2).mono ?_
    rintro e w8 ⟨rfl, k8⟩
    refine hK.out _ _ (k8.box) (fun hHeld3 => ?_)
    clear hK K hHeld2
    try simp only [Act.put, List.setIfInBounds_toArray, List.set_cons_zero, List.set_cons_succ]
    have CC : Hid (CutS w w1.heap.size w3.heap.size t (.slice av n cp) [] w8) := k8
    clear k8 K7
    refine wpAnyH_take (i := 7) (oi := { dst := some 63, op := Go.Op.move (Go.Operand.tmp 62), type := 4, pos := "law.go:146", after := #[{ on := 6, ground := Go.Ground.data }, { on := 6, ground := Go.Ground.chain }], guard := none }) (v := ?_) rfl (by kernel_rfl) (by kernel_rfl) (by kernel_rfl) (fun _ _ _ h => h) (Or.inl ⟨by rfl, ?_⟩) hHeld3 ?_
    rotate_left 1
    · (intro wq hSq; (try dsimp only at hSq); go_simp; first | done | with_reducible rfl)
    try simp only [Act.put, List.setIfInBounds_toArray, List.set_cons_zero, List.set_cons_succ]
    refine wpAnyH_ready (rs := [8]) (by kernel_rfl) (by simp) ?_
    refine (AllReadyH.cons (o := { dst := some 64, op := Go.Op.call { callee := Go.Callee.value (Go.Operand.func 52), args := #[Go.Operand.tmp 11], argTypes := #[78] }, type := 3, pos := "law.go:146", after := #[{ on := 7, ground := Go.Ground.chain }, { on := 7, ground := Go.Ground.guard }], guard := some (7, true) }) rfl (fun K hK => ?_) AllReadyH.nil)
    go_simp
    refine (WT.out _ CC.out).mono ?_
    rintro e w9 ⟨rfl, rfl⟩
    refine hK.out _ _ (CC.out.box) (fun hHeld4 => ?_)
    clear hK K hHeld3
    try simp only [Act.put, List.setIfInBounds_toArray, List.set_cons_zero, List.set_cons_succ]
    refine wpAnyH_take (i := 9) (oi := { dst := some 65, op := Go.Op.binOp Go.BinOp.eql 3 (Go.Operand.tmp 64) (Go.Operand.const (Go.Value.int Go.IntKind.i64 0)) 3, type := 4, pos := "law.go:146", after := #[{ on := 8, ground := Go.Ground.data }, { on := 7, ground := Go.Ground.guard }], guard := some (7, true) }) (v := ?_) rfl (by kernel_rfl) (by kernel_rfl) (by kernel_rfl) (fun _ _ _ h => h) (Or.inl ⟨by rfl, ?_⟩) hHeld4 ?_
    rotate_left 1
    · (intro wq hSq; (try dsimp only at hSq); go_simp; first | done | with_reducible rfl)
    try simp only [Act.put, List.setIfInBounds_toArray, List.set_cons_zero, List.set_cons_succ]
    refine wpAnyH_take (i := 10) (oi := { dst := some 66, op := Go.Op.pick (Go.Operand.tmp 63) (Go.Operand.tmp 65) (Go.Operand.const (Go.Value.bool false)), type := 4, pos := "law.go:146", after := #[{ on := 7, ground := Go.Ground.data }, { on := 9, ground := Go.Ground.data }], guard := none }) (v := ?_) rfl (by kernel_rfl) (by kernel_rfl) (by kernel_rfl) (fun _ _ _ h => h) (Or.inl ⟨by rfl, ?_⟩) hHeld4 ?_
    rotate_left 1
    · (intro wq hSq; (try dsimp only at hSq); go_simp; first | done | with_reducible rfl)
    try simp only [Act.put, List.setIfInBounds_toArray, List.set_cons_zero, List.set_cons_succ]
    refine wpAnyH_take (i := 11) (oi := { dst := some 67, op := Go.Op.move (Go.Operand.tmp 66), type := 4, pos := "law.go:146", after := #[{ on := 10, ground := Go.Ground.data }, { on := 8, ground := Go.Ground.chain }], guard := none }) (v := ?_) rfl (by kernel_rfl) (by kernel_rfl) (by kernel_rfl) (fun _ _ _ h => h) (Or.inl ⟨by rfl, ?_⟩) hHeld4 ?_
    rotate_left 1
    · (intro wq hSq; (try dsimp only at hSq); go_simp; first | done | with_reducible rfl)
    try simp only [Act.put, List.setIfInBounds_toArray, List.set_cons_zero, List.set_cons_succ]
    refine wpAnyH_ready (rs := [12]) (by kernel_rfl) (by simp) ?_
    refine (AllReadyH.cons (o := { dst := some 68, op := Go.Op.call { callee := Go.Callee.value (Go.Operand.func 51), args := #[Go.Operand.tmp 11], argTypes := #[78] }, type := 3, pos := "law.go:146", after := #[{ on := 11, ground := Go.Ground.chain }, { on := 11, ground := Go.Ground.guard }], guard := some (11, true) }) rfl (fun K hK => ?_) AllReadyH.nil)
    go_simp
    refine (DR.out _ CC.out).mono ?_
    rintro e w9 ⟨rfl, rfl⟩
    refine hK.out _ _ (CC.out.box) (fun hHeld5 => ?_)
    clear hK K hHeld4
    try simp only [Act.put, List.setIfInBounds_toArray, List.set_cons_zero, List.set_cons_succ]
    refine wpAnyH_take (i := 13) (oi := { dst := some 69, op := Go.Op.binOp Go.BinOp.eql 3 (Go.Operand.tmp 68) (Go.Operand.const (Go.Value.int Go.IntKind.i64 0)) 3, type := 4, pos := "law.go:146", after := #[{ on := 12, ground := Go.Ground.data }, { on := 11, ground := Go.Ground.guard }], guard := some (11, true) }) (v := ?_) rfl (by kernel_rfl) (by kernel_rfl) (by kernel_rfl) (fun _ _ _ h => h) (Or.inl ⟨by rfl, ?_⟩) hHeld5 ?_
    rotate_left 1
    · (intro wq hSq; (try dsimp only at hSq); go_simp; first | done | with_reducible rfl)
    try simp only [Act.put, List.setIfInBounds_toArray, List.set_cons_zero, List.set_cons_succ]
    refine wpAnyH_take (i := 14) (oi := { dst := some 70, op := Go.Op.pick (Go.Operand.tmp 67) (Go.Operand.tmp 69) (Go.Operand.const (Go.Value.bool false)), type := 4, pos := "law.go:146", after := #[{ on := 11, ground := Go.Ground.data }, { on := 13, ground := Go.Ground.data }], guard := none }) (v := ?_) rfl (by kernel_rfl) (by kernel_rfl) (by kernel_rfl) (fun _ _ _ h => h) (Or.inl ⟨by rfl, ?_⟩) hHeld5 ?_
    rotate_left 1
    · (intro wq hSq; (try dsimp only at hSq); go_simp; first | done | with_reducible rfl)
    try simp only [Act.put, List.setIfInBounds_toArray, List.set_cons_zero, List.set_cons_succ]
    refine wpAnyH_take (i := 15) (oi := { dst := some 6, op := Go.Op.assign (Go.Operand.tmp 70), type := 4, pos := "law.go:146", after := #[{ on := 14, ground := Go.Ground.data }, { on := 12, ground := Go.Ground.chain }, { on := 0, ground := Go.Ground.phase }, { on := 1, ground := Go.Ground.phase }, { on := 2, ground := Go.Ground.phase }, { on := 3, ground := Go.Ground.phase }, { on := 4, ground := Go.Ground.phase }, { on := 5, ground := Go.Ground.phase }, { on := 6, ground := Go.Ground.phase }, { on := 7, ground := Go.Ground.phase }, { on := 8, ground := Go.Ground.phase }, { on := 9, ground := Go.Ground.phase }, { on := 10, ground := Go.Ground.phase }, { on := 11, ground := Go.Ground.phase }, { on := 12, ground := Go.Ground.phase }, { on := 13, ground := Go.Ground.phase }, { on := 14, ground := Go.Ground.phase }], guard := none }) (v := ?_) rfl (by kernel_rfl) (by kernel_rfl) (by kernel_rfl) (fun _ _ _ h => h) (Or.inl ⟨by rfl, ?_⟩) hHeld5 ?_
    rotate_left 1
    · (intro wq hSq; (try dsimp only at hSq); go_simp; first | done | with_reducible rfl)
    try simp only [Act.put, List.setIfInBounds_toArray, List.set_cons_zero, List.set_cons_succ]
    refine wpAnyH_done (by kernel_rfl) ?_ _
    refine NoPanic.normal ?_
    go_wp2
    go_ret
    exact ⟨rfl, CC.out.bel⟩

/-- StreamCut, of whatever arguments. -/
theorem streamCut_walk (t : Int) (v : Value) (b : List Int) (a : Int) (w : World) (hL : Laid w) (ht : 0 ≤ t ∧ t ≤ 255) (hp : PartAt w v b) (hn : b.length ≤ 140737488351232) (hb : Bytes b) (ha : 0 ≤ a ∧ a ≤ 18446744073709551615) : Calls Tryd.prog 18 #[.int .u8 t, v, .int .u64 a] w fun e w' => e = .returned (.bool true) ∧ Below w.heap.size w w' := by
  have p := hp
  obtain ⟨av, b1, o1, cp, rfl, _⟩ := hp
  by_cases h : 300 < b.length ∨ t = 0
  · exact scut_out t a av _ cp h w hL
  · exact scut_do t a av _ cp b rfl hb (by omega) (by omega) ha w hL p
end Go.Proofs.YtplihbncmmggjaaDoor
