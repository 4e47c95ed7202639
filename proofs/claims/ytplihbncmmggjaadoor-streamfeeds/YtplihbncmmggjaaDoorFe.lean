import Derived.Test.YtplihbncmmggjaaDoorFx
namespace Go.Proofs.YtplihbncmmggjaaDoor
set_option linter.unusedSimpArgs false
set_option linter.unusedVariables false
open Go.RowKit
/-- A frame's bytes. -/
def encB (t : Int) (b : List Int) : List Int := [114, 100, 1] ++ ((t :: numB b.length 2) ++ (sum4 t b ++ b))
theorem encB_length (t : Int) (b : List Int) : (encB t b).length = b.length + 10 := by
  unfold encB; simp [numB_length, sum4_length]; omega
theorem range_fourF {w : World} {x y z u : Value} {t : TypeId} : (w.alloc (Obj.cells #[x, y, z, u] t)).rangeAt w.heap.size 0 [x, y, z, u] := fun j v hv => by
  rw [Nat.zero_add, cell_of_row _ _ j _ t (0, 0) (heap_alloc_new _ _)]; simpa using hv
theorem four_partsF {w : World} {x y z u : Value} {a b c e : List Int} (ha : PartAt w x a) (hb : PartAt w y b) (hc : PartAt w z c) (he : PartAt w u e) : ∀ (i : Nat) (v : Value) (l : List Int), [x, y, z, u][i]? = some v → [a, b, c, e][i]? = some l → PartAt w v l := fun i v l h1 h2 => by
  match i, h1, h2 with
  | 0, h1, h2 => simp at h1 h2; subst h1 h2; exact ha
  | 1, h1, h2 => simp at h1 h2; subst h1 h2; exact hb
  | 2, h1, h2 => simp at h1 h2; subst h1 h2; exact hc
  | 3, h1, h2 => simp at h1 h2; subst h1 h2; exact he
  | n + 4, h1, h2 => simp at h1
theorem mark_part (W : World) (ob : Obj) : PartAt ((W.alloc (Obj.cells #[.int .u8 114, .int .u8 100, .int .u8 1] 5 (3, 4))).alloc ob) (.slice (some ⟨W.heap.size, 0, none⟩) 3 3) [114, 100, 1] := by
  have q : PartAt (W.alloc (Obj.cells #[.int .u8 114, .int .u8 100, .int .u8 1] 5 (3, 4))) (.slice (some ⟨W.heap.size, 0, none⟩) 3 3) [114, 100, 1] :=
    ⟨some ⟨W.heap.size, 0, none⟩, W.heap.size, 0, 3, rfl, by decide, by decide, fun _ => rfl, fun j v hv => by
      rw [Nat.zero_add, cell_of_row _ _ j _ 5 (3, 4) (heap_alloc_new W _)]
      rw [show (#[.int .u8 114, .int .u8 100, .int .u8 1] : Array Value) = vB [114, 100, 1] from rfl]
      simpa using hv, by simp, fun h => by cases h⟩
  exact q.below ((Below.refl _ _).alloc (Nat.le_refl _) _)
/-- What Encode answers. -/
def EncOf (t : Int) (b : List Int) (w : World) (e : Ending) (w' : World) : Prop :=
  Below w.heap.size w w' ∧ (if t = 0 then e = .returned (.tuple #[.slice none 0 0, .int .i64 1]) else if 1000 < b.length then e = .returned (.tuple #[.slice none 0 0, .int .i64 5]) else ∃ u, e = .returned (.tuple #[u, .int .i64 0]) ∧ PartAt w' u (encB t b))
set_option maxHeartbeats 1000000 in
set_option maxRecDepth 100000 in
theorem encode_no (t : Int) (av : Option Addr) (n cp : Nat) (b : List Int) (hbn : b.length = n) (hn : n ≤ 4611686018427387904) (h : t = 0 ∨ 1000 < n) (w : World) : Calls Tryd.prog 30 #[.agg #[.int .u8 t, .slice av n cp]] w (EncOf t b w) := by
  have hg := heap_alloc_new w (.cells #[.int .u8 t, .slice av n cp] 46)
  have c0 := row_cell (j := 0) hg rfl
  have c1 := row_cell (j := 1) hg rfl
  have B1 : Hid (Below w.heap.size w (w.alloc (.cells #[.int .u8 t, .slice av n cp] 46))) := (Below.refl _ _).alloc (Nat.le_refl _) _
  clear hg
  by_cases h0 : t = 0
  · subst h0
    go_enter Tryd.func30, Tryd.ntmps30
    go_wp2
    go_ret2
    exact ⟨B1.out, by rw [if_pos rfl]; first | done | rfl⟩
  · have hz : (t == 0) = false := by simpa using h0
    have hni : (1000 : Int) < (n : Int) := by omega
    have HL : Hid (1000 < b.length) := by unfold Hid; omega
    have H0 : Hid (¬ t = 0) := h0
    clear h
    go_enter Tryd.func30, Tryd.ntmps30
    go_wp2
    go_ret2
    exact ⟨B1.out, by rw [if_neg H0.out, if_pos HL.out]; first | done | rfl⟩
set_option maxHeartbeats 1000000 in
set_option maxRecDepth 100000 in
theorem rencode_no (t : Int) (av : Option Addr) (n cp : Nat) (b : List Int) (hbn : b.length = n) (hn : n ≤ 4611686018427387904) (h : t = 0 ∨ 1000 < n) (w : World) : Calls Tryd.prog 31 #[.agg #[.int .u8 t, .slice av n cp]] w (EncOf t b w) := by
  have hg := heap_alloc_new w (.cells #[.int .u8 t, .slice av n cp] 48)
  have c0 := row_cell (j := 0) hg rfl
  have c1 := row_cell (j := 1) hg rfl
  have B1 : Hid (Below w.heap.size w (w.alloc (.cells #[.int .u8 t, .slice av n cp] 48))) := (Below.refl _ _).alloc (Nat.le_refl _) _
  clear hg
  by_cases h0 : t = 0
  · subst h0
    go_enter Tryd.func31, Tryd.ntmps31
    go_wp2
    go_ret2
    exact ⟨B1.out, by rw [if_pos rfl]; first | done | rfl⟩
  · have hz : (t == 0) = false := by simpa using h0
    have hni : (1000 : Int) < (n : Int) := by omega
    have HL : Hid (1000 < b.length) := by unfold Hid; omega
    have H0 : Hid (¬ t = 0) := h0
    clear h
    go_enter Tryd.func31, Tryd.ntmps31
    go_wp2
    go_ret2
    exact ⟨B1.out, by rw [if_neg H0.out, if_pos HL.out]; first | done | rfl⟩
set_option maxHeartbeats 1000000 in
set_option maxRecDepth 100000 in
theorem encode_yes (t : Int) (ht : 0 < t ∧ t ≤ 255) (av : Option Addr) (n cp : Nat) (b : List Int) (hbn : b.length = n) (hn : n ≤ 1000) (hb : Bytes b) (w : World) (hL : Laid w) (hp : PartAt w (.slice av n cp) b) : Calls Tryd.prog 30 #[.agg #[.int .u8 t, .slice av n cp]] w (EncOf t b w) := by
  have h2 := hL.two
  have hg := heap_alloc_new w (.cells #[.int .u8 t, .slice av n cp] 46)
  have c0 := row_cell (j := 0) hg rfl
  have c1 := row_cell (j := 1) hg rfl
  have b1 : Below w.heap.size w (w.alloc (.cells #[.int .u8 t, .slice av n cp] 46)) := (Below.refl _ _).alloc (Nat.le_refl _) _
  obtain ⟨g, hgg⟩ : ∃ g, g = w.heap.size + 1 := ⟨_, rfl⟩
  have W0 : WSt ((w.alloc (.cells #[.int .u8 t, .slice av n cp] 46)).alloc (.cells #[.pointer none, .int .i64 0, .bool false] 102)) g (some []) := by
    rw [hgg]
    have q : (w.alloc (.cells #[.int .u8 t, .slice av n cp] 46)).heap.size = w.heap.size + 1 := by simp
    have k := heap_alloc_new (w.alloc (.cells #[.int .u8 t, .slice av n cp] 46)) (.cells #[.pointer none, .int .i64 0, .bool false] 102)
    rw [q] at k
    exact ⟨.pointer none, [], k, rfl, rfl, by simp⟩
  -- what stays: the box, and all that was there
  have KP : ∀ W W' : World, (Below w.heap.size w W ∧ W.heap[w.heap.size]? = some (.cells #[.int .u8 t, .slice av n cp] 46)) → W.grownBy W' (some g) → (Below w.heap.size w W' ∧ W'.heap[w.heap.size]? = some (.cells #[.int .u8 t, .slice av n cp] 46)) := fun W W' ⟨q1, q2⟩ gr =>
    ⟨q1.grown gr q1.size (fun k hk => by injection hk with hk; omega), by rw [gr.block _ (Array.getElem?_eq_some_iff.1 q2).1 (fun e => by injection e with e; omega)]; exact q2⟩
  have S0 : Below w.heap.size w ((w.alloc (.cells #[.int .u8 t, .slice av n cp] 46)).alloc (.cells #[.pointer none, .int .i64 0, .bool false] 102)) ∧ ((w.alloc (.cells #[.int .u8 t, .slice av n cp] 46)).alloc (.cells #[.pointer none, .int .i64 0, .bool false] 102)).heap[w.heap.size]? = some (.cells #[.int .u8 t, .slice av n cp] 46) :=
    ⟨b1.alloc b1.size _, by rw [Below.heap_alloc _ _ _ (by simp)]; exact hg⟩
  have hs1 : numSt t 1 = some [t] := by
    unfold numSt fitsB
    rw [show sizeB 1 = true from rfl, show ((1 : Int).toNat) = 1 from rfl, decide_eq_true (by omega)]
    simp [numB]; omega
  have hs2 : numSt (b.length : Int) 2 = some (numB b.length 2) := by
    unfold numSt fitsB
    rw [show sizeB 2 = true from rfl, show ((2 : Int).toNat) = 2 from rfl, decide_eq_true (by omega)]; rfl
  have N1 : Hid (Calls Tryd.prog 61 #[.pointer (some ⟨g, 0, none⟩), .int .u64 t, .int .i64 1] ((w.alloc (.cells #[.int .u8 t, .slice av n cp] 46)).alloc (.cells #[.pointer none, .int .i64 0, .bool false] 102)) fun e w' => e = .returned (.tuple #[]) ∧ WSt w' g (some [t]) ∧ (Below w.heap.size w w' ∧ w'.heap[w.heap.size]? = some (.cells #[.int .u8 t, .slice av n cp] 46))) :=
    (number_any g (some []) t (by omega) (by omega) 1 _ W0 (by simp [stLen])).mono fun e w' ⟨r1, r2, r3⟩ => ⟨r1, by rw [hs1] at r2; exact r2, KP _ _ S0 r3⟩
  have N2 : Hid (∀ W, WSt W g (some [t]) → (Below w.heap.size w W ∧ W.heap[w.heap.size]? = some (.cells #[.int .u8 t, .slice av n cp] 46)) → Calls Tryd.prog 61 #[.pointer (some ⟨g, 0, none⟩), .int .u64 n, .int .i64 2] W fun e w' => e = .returned (.tuple #[]) ∧ WSt w' g (some (t :: numB b.length 2)) ∧ (Below w.heap.size w w' ∧ w'.heap[w.heap.size]? = some (.cells #[.int .u8 t, .slice av n cp] 46))) := fun W q1 q2 => by
    have q := number_any g (some [t]) b.length (by omega) (by omega) 2 W q1 (by simp [stLen])
    rw [hs2, hbn] at q
    rw [hbn]
    exact q.mono fun e w' ⟨r1, r2, r3⟩ => ⟨r1, r2, KP _ _ q2 r3⟩
  have BY : Hid (∀ W, WSt W g (some (t :: numB b.length 2)) → (Below w.heap.size w W ∧ W.heap[w.heap.size]? = some (.cells #[.int .u8 t, .slice av n cp] 46)) → Calls Tryd.prog 62 #[.pointer (some ⟨g, 0, none⟩)] W fun e w' => ∃ G, e = .returned (.slice (some ⟨G, 0, none⟩) 3 3) ∧ PartAt w' (.slice (some ⟨G, 0, none⟩) 3 3) (t :: numB b.length 2) ∧ (Below w.heap.size w w' ∧ w'.heap[w.heap.size]? = some (.cells #[.int .u8 t, .slice av n cp] 46))) := fun W q1 q2 =>
    (bytes_good g _ W q1 (Bytes.cons' (by omega) (numB_bytes _ _))).mono fun e w' ⟨G, r1, r2, r3, r4⟩ => ⟨G, by rw [r1]; simp [numB_length], partRow r2 3 (by simp [numB_length]) (by omega), q2.1.trans (r4.mono q2.1.size), by rw [r4.block _ (Array.getElem?_eq_some_iff.1 q2.2).1]; exact q2.2⟩
  have SO : Hid (∀ (W : World) (x : Value), PartAt W x (t :: numB b.length 2) → (Below w.heap.size w W ∧ W.heap[w.heap.size]? = some (.cells #[.int .u8 t, .slice av n cp] 46)) → Calls Tryd.prog 63 #[x, .slice av n cp] W fun e w' => e = .returned (.agg (vB (sum4 t b))) ∧ PartAt w' x (t :: numB b.length 2) ∧ (Below w.heap.size w w' ∧ w'.heap[w.heap.size]? = some (.cells #[.int .u8 t, .slice av n cp] 46))) := fun W x q1 q2 =>
    (sumOf_any x _ (t :: numB b.length 2) b W (hL.below q2.1 h2) q1 (hp.below q2.1) (by simp [numB_length]; omega)).mono fun e w' ⟨r1, r2⟩ => ⟨r1, q1.below r2, q2.1.trans (r2.mono q2.1.size), by rw [r2.block _ (Array.getElem?_eq_some_iff.1 q2.2).1]; exact q2.2⟩
  have CC : Hid (∀ (W : World) (G B6 : Nat), PartAt W (.slice (some ⟨G, 0, none⟩) 3 3) (t :: numB b.length 2) → W.heap[B6]? = some (.cells (vB (sum4 t b)) 105) → Below w.heap.size w W → Calls Tryd.prog 64 #[.slice (some ⟨W.heap.size + 1, 0, none⟩) 4 4] ((W.drew.alloc (Obj.cells #[.int .u8 114, .int .u8 100, .int .u8 1] 5 (3, 4))).alloc (Obj.cells #[.slice (some ⟨W.heap.size, 0, none⟩) 3 3, .slice (some ⟨G, 0, none⟩) 3 3, .slice (some ⟨B6, 0, none⟩) 4 4, .slice av n cp] 22)) fun e w' => ∃ u, e = .returned u ∧ PartAt w' u (encB t b) ∧ Below w.heap.size w w' ∧ Below W.heap.size W w') := fun W G B6 q1 q2 q3 => by
    have k1 : Below W.heap.size W (W.drew.alloc (Obj.cells #[.int .u8 114, .int .u8 100, .int .u8 1] 5 (3, 4))) := ((Below.refl _ _).drew).alloc (Nat.le_refl _) _
    have k2 : Below W.heap.size W ((W.drew.alloc (Obj.cells #[.int .u8 114, .int .u8 100, .int .u8 1] 5 (3, 4))).alloc (Obj.cells #[.slice (some ⟨W.heap.size, 0, none⟩) 3 3, .slice (some ⟨G, 0, none⟩) 3 3, .slice (some ⟨B6, 0, none⟩) 4 4, .slice av n cp] 22)) := k1.alloc k1.size _
    have m1 : PartAt ((W.drew.alloc (Obj.cells #[.int .u8 114, .int .u8 100, .int .u8 1] 5 (3, 4))).alloc (Obj.cells #[.slice (some ⟨W.heap.size, 0, none⟩) 3 3, .slice (some ⟨G, 0, none⟩) 3 3, .slice (some ⟨B6, 0, none⟩) 4 4, .slice av n cp] 22)) (.slice (some ⟨W.heap.size, 0, none⟩) 3 3) [114, 100, 1] :=
      mark_part W.drew _
    have m3 : PartAt W (.slice (some ⟨B6, 0, none⟩) 4 4) (sum4 t b) := ⟨some ⟨B6, 0, none⟩, B6, 0, 4, by rw [sum4_length], by rw [sum4_length]; exact Nat.le_refl _, by omega, fun _ => rfl, range_of_block q2, (Array.getElem?_eq_some_iff.1 q2).1, fun h => by cases h⟩
    have q := concat_any (W.heap.size + 1) 0 4 4 [.slice (some ⟨W.heap.size, 0, none⟩) 3 3, .slice (some ⟨G, 0, none⟩) 3 3, .slice (some ⟨B6, 0, none⟩) 4 4, .slice av n cp] [[114, 100, 1], t :: numB b.length 2, sum4 t b, b] rfl rfl _ (by simp)
      (by have := range_fourF (w := W.drew.alloc (Obj.cells #[.int .u8 114, .int .u8 100, .int .u8 1] 5 (3, 4))) (x := .slice (some ⟨W.heap.size, 0, none⟩) 3 3) (y := .slice (some ⟨G, 0, none⟩) 3 3) (z := .slice (some ⟨B6, 0, none⟩) 4 4) (u := .slice av n cp) (t := 22); simpa using this) (by simp)
      (four_partsF m1 (q1.below k2) (m3.below k2) ((hp.below q3).below k2)) (by simp [numB_length, sum4_length]; omega) (by omega)
    refine q.mono ?_
    rintro e w5 ⟨u, rfl, o5, b5⟩
    have b05 : Below w.heap.size w w5 := q3.trans ((k2.trans (b5.mono (by simp; omega))).mono q3.size)
    refine ⟨u, rfl, ?_, b05, k2.trans (b5.mono (by simp; omega))⟩
    have := o5.partG (by have := b5.size; simp at this; omega)
    simpa [encB] using this
  have hw1 : t % 18446744073709551616 = t := by omega
  have hw2 : IntKind.u64.wrap (n : Int) = (n : Int) := by rw [show IntKind.u64.wrap (n : Int) = (n : Int) % 18446744073709551616 from rfl]; omega
  have hw3 : (n : Int) % 18446744073709551616 = (n : Int) := by omega
  have hz : (t == 0) = false := by simp; omega
  have h1000 : ¬ (1000 : Int) < (n : Int) := by omega
  have hl4 := sum4_length t b
  have FIN : Hid (∀ (w' : World) (u : Value), PartAt w' u (encB t b) → Below w.heap.size w w' → EncOf t b w (.returned (.tuple #[u, .int .i64 0])) w') := fun w' u q1 q2 => ⟨q2, by rw [if_neg (by omega), if_neg (by omega)]; exact ⟨u, rfl, q1⟩⟩
  generalize sum4 t b = S4 at *
  have HG : Hid (g = w.heap.size + 1) := hgg
  clear hg b1 hgg W0 S0 hs1 hs2 KP hp hb hbn
  go_enter Tryd.func30, Tryd.ntmps30
  go_wp2_with fail
  rw [← HG.out]
  refine N1.out.mono ?_
  rintro e w2 ⟨rfl, s2, k2⟩
  have c2 := row_cell (j := 1) k2.2 rfl
  have N2' := N2.out w2 s2 k2
  have N2h : Hid (Calls Tryd.prog 61 #[.pointer (some ⟨g, 0, none⟩), .int .u64 n, .int .i64 2] w2 fun e w' => e = .returned (.tuple #[]) ∧ WSt w' g (some (t :: numB b.length 2)) ∧ (Below w.heap.size w w' ∧ w'.heap[w.heap.size]? = some (.cells #[.int .u8 t, .slice av n cp] 46))) := N2'
  clear N2' N1 N2 s2 k2 c0 c1
  go_wp2_with fail
  refine N2h.out.mono ?_
  rintro e w3 ⟨rfl, s3, k3⟩
  have BYh : Hid (Calls Tryd.prog 62 #[.pointer (some ⟨g, 0, none⟩)] w3 fun e w' => ∃ G, e = .returned (.slice (some ⟨G, 0, none⟩) 3 3) ∧ PartAt w' (.slice (some ⟨G, 0, none⟩) 3 3) (t :: numB b.length 2) ∧ (Below w.heap.size w w' ∧ w'.heap[w.heap.size]? = some (.cells #[.int .u8 t, .slice av n cp] 46))) := BY.out w3 s3 k3
  clear BY s3 k3 N2h c2
  go_wp2_with fail
  refine BYh.out.mono ?_
  rintro e w4 ⟨G, rfl, p4, k4⟩
  have c4 := row_cell (j := 1) k4.2 rfl
  have SOh : Hid (Calls Tryd.prog 63 #[.slice (some ⟨G, 0, none⟩) 3 3, .slice av n cp] w4 fun e w' => e = .returned (.agg (vB S4)) ∧ PartAt w' (.slice (some ⟨G, 0, none⟩) 3 3) (t :: numB b.length 2) ∧ (Below w.heap.size w w' ∧ w'.heap[w.heap.size]? = some (.cells #[.int .u8 t, .slice av n cp] 46))) := SO.out w4 _ p4 k4
  clear SO p4 k4 BYh
  go_wp2_with fail
  refine SOh.out.mono ?_
  rintro e w5 ⟨rfl, p5, k5⟩
  have P5 : Hid (PartAt w5 (.slice (some ⟨G, 0, none⟩) 3 3) (t :: numB b.length 2)) := p5
  have K5 : Hid (Below w.heap.size w w5 ∧ w5.heap[w.heap.size]? = some (.cells #[.int .u8 t, .slice av n cp] 46)) := k5
  clear p5 k5 SOh c4
  go_wp2_with (first | (refine store96 rfl _ _ rfl w5.heap.size S4 rfl rfl hl4 (zs 4) rfl (heap_alloc_new _ _) ?_))
  have bb : Below w5.heap.size w5 ((w5.alloc (Obj.cells #[.int .u8 0, .int .u8 0, .int .u8 0, .int .u8 0] 105)).setRow w5.heap.size (vB S4)) := below_setRow ((Below.refl _ _).alloc (Nat.le_refl _) _) (Nat.le_refl _) _
  have kb : ((w5.alloc (Obj.cells #[.int .u8 0, .int .u8 0, .int .u8 0, .int .u8 0] 105)).setRow w5.heap.size (vB S4)).heap[w5.heap.size]? = some (.cells (vB S4) 105) := setRow_same (w := w5.alloc (Obj.cells #[.int .u8 0, .int .u8 0, .int .u8 0, .int .u8 0] 105)) (heap_alloc_new _ _)
  have b06 : Below w.heap.size w ((w5.alloc (Obj.cells #[.int .u8 0, .int .u8 0, .int .u8 0, .int .u8 0] 105)).setRow w5.heap.size (vB S4)) := K5.out.1.trans (bb.mono K5.out.1.size)
  have CCh : Hid (Calls Tryd.prog 64 #[.slice (some ⟨((w5.alloc (Obj.cells #[.int .u8 0, .int .u8 0, .int .u8 0, .int .u8 0] 105)).setRow w5.heap.size (vB S4)).heap.size + 1, 0, none⟩) 4 4] ((((w5.alloc (Obj.cells #[.int .u8 0, .int .u8 0, .int .u8 0, .int .u8 0] 105)).setRow w5.heap.size (vB S4)).drew.alloc (Obj.cells #[.int .u8 114, .int .u8 100, .int .u8 1] 5 (3, 4))).alloc (Obj.cells #[.slice (some ⟨((w5.alloc (Obj.cells #[.int .u8 0, .int .u8 0, .int .u8 0, .int .u8 0] 105)).setRow w5.heap.size (vB S4)).heap.size, 0, none⟩) 3 3, .slice (some ⟨G, 0, none⟩) 3 3, .slice (some ⟨w5.heap.size, 0, none⟩) 4 4, .slice av n cp] 22)) fun e w' => ∃ u, e = .returned u ∧ PartAt w' u (encB t b) ∧ Below w.heap.size w w' ∧ Below ((w5.alloc (Obj.cells #[.int .u8 0, .int .u8 0, .int .u8 0, .int .u8 0] 105)).setRow w5.heap.size (vB S4)).heap.size ((w5.alloc (Obj.cells #[.int .u8 0, .int .u8 0, .int .u8 0, .int .u8 0] 105)).setRow w5.heap.size (vB S4)) w') := CC.out _ G w5.heap.size (P5.out.below bb) kb b06
  have c6 : ((w5.alloc (Obj.cells #[.int .u8 0, .int .u8 0, .int .u8 0, .int .u8 0] 105)).setRow w5.heap.size (vB S4)).heap[w.heap.size]? = some (.cells #[.int .u8 t, .slice av n cp] 46) := by
    rw [bb.block _ (Array.getElem?_eq_some_iff.1 K5.out.2).1]; exact K5.out.2
  obtain ⟨w6, hw6⟩ : ∃ W, W = (w5.alloc (Obj.cells #[.int .u8 0, .int .u8 0, .int .u8 0, .int .u8 0] 105)).setRow w5.heap.size (vB S4) := ⟨_, rfl⟩
  rw [← hw6] at CCh c6 b06 ⊢
  clear hw6 kb bb P5 K5 CC
  have LC : Hid (∀ W, Below w6.heap.size w6 W → W.cell? ⟨w.heap.size, 1, none⟩ = some (.slice av n cp)) := fun W q => by rw [q.cell (show w.heap.size < w6.heap.size from (Array.getElem?_eq_some_iff.1 c6).1)]; exact row_cell c6 rfl
  have BD : Hid (Below w6.heap.size w6 w6.drew) := (Below.refl _ _).drew
  clear c6 b06
  have kc := fun (w : World) (C : Array Value) (n c : Nat) => Lib.run_convert_bytes_const (P := Tryd.prog) w 22 5 C n c Tryd.underlying22 Tryd.underlying5
  refine wp_region_noPanic ?_
  refine wp_region_held_drew (S := fun w' => Below w6.heap.size w6 w') (by kernel_rfl) (BD.out) (fun hHeld => ?_)
  try simp only [Act.put, List.setIfInBounds_toArray, List.set_cons_zero, List.set_cons_succ]
  refine wpAnyH_take (i := 2) (oi := ⟨some 30, .move (.tmp 5), 22, "frame.go:43", #[], none⟩) (v := ?_) rfl (by kernel_rfl) (by kernel_rfl) (by kernel_rfl) (fun _ _ _ h => h) (Or.inl ⟨by rfl, ?_⟩) hHeld ?_
  rotate_left 1
  · (intro wq hSq; (try dsimp only at hSq); go_simp; first | done | with_reducible rfl)
  try simp only [Act.put, List.setIfInBounds_toArray, List.set_cons_zero, List.set_cons_succ]
  refine wpAnyH_take (i := 3) (oi := ⟨some 31, .slice 105 (.tmp 6) none none none, 22, "frame.go:43", #[], none⟩) (v := ?_) rfl (by kernel_rfl) (by kernel_rfl) (by kernel_rfl) (fun _ _ _ h => h) (Or.inl ⟨by rfl, ?_⟩) hHeld ?_
  rotate_left 1
  · (intro wq hSq; (try dsimp only at hSq); go_simp; first | done | with_reducible rfl)
  try simp only [Act.put, List.setIfInBounds_toArray, List.set_cons_zero, List.set_cons_succ]
  refine wpAnyH_take (i := 4) (oi := ⟨some 32, .fieldAddr 46 (.tmp 1) 1, 0, "frame.go:43", #[], none⟩) (v := ?_) rfl (by kernel_rfl) (by kernel_rfl) (by kernel_rfl) (fun _ _ _ h => h) (Or.inl ⟨by rfl, ?_⟩) hHeld ?_
  rotate_left 1
  · (intro wq hSq; (try dsimp only at hSq); go_simp; first | done | with_reducible rfl)
  try simp only [Act.put, List.setIfInBounds_toArray, List.set_cons_zero, List.set_cons_succ]
  refine wpAnyH_take (i := 5) (oi := ⟨some 33, .load 22 (.tmp 32), 22, "frame.go:43", #[⟨4, .data⟩], none⟩) (v := ?_) rfl (by kernel_rfl) (by kernel_rfl) (by kernel_rfl) (fun _ _ _ h => h) (Or.inl ⟨by rfl, ?_⟩) hHeld ?_
  rotate_left 1
  · (intro wq hSq; (try dsimp only at hSq); have hq := LC.out _ hSq; go_simp; first | done | with_reducible rfl)
  try simp only [Act.put, List.setIfInBounds_toArray, List.set_cons_zero, List.set_cons_succ]
  refine wpAnyH_ready (rs := [0]) (by kernel_rfl) (by simp) ?_
  refine AllReadyH.cons (o := ⟨some 28, .buildSlice 22 3 #[(0, .const (.int .u8 114)), (1, .const (.int .u8 100)), (2, .const (.int .u8 1))], 22, "frame.go:43", #[], none⟩) rfl (fun K hK => ?_) AllReadyH.nil
  go_simp
  refine hK.out _ _ ((Below.alloc BD.out (Nat.le_refl _) _)) (fun hHeld1 => ?_)
  clear hK K hHeld
  try simp only [Act.put, List.setIfInBounds_toArray, List.set_cons_zero, List.set_cons_succ]
  refine wpAnyH_ready (rs := [1]) (by kernel_rfl) (by simp) ?_
  refine AllReadyH.cons (o := ⟨some 29, .convert 22 22 (.tmp 28), 22, "frame.go:43", #[⟨0, .data⟩], none⟩) rfl (fun K hK => ?_) AllReadyH.nil
  have hkc : (convert 22 22 (.slice (some ⟨w6.heap.size, 0, none⟩) 3 3)).run Tryd.prog (w6.alloc (Obj.cells #[.int .u8 114, .int .u8 100, .int .u8 1] 5)).drew = .ok (.slice (some ⟨w6.heap.size, 0, none⟩) 3 3) (w6.alloc (Obj.cells #[.int .u8 114, .int .u8 100, .int .u8 1] 5 (3, 4))).drew := kc w6.drew #[.int .u8 114, .int .u8 100, .int .u8 1] 3 3
  go_simp
  refine hK.out _ _ ((Below.alloc BD.out (Nat.le_refl _) _)) (fun hHeld2 => ?_)
  clear hK K hHeld1
  try simp only [Act.put, List.setIfInBounds_toArray, List.set_cons_zero, List.set_cons_succ]
  refine wpAnyH_ready (rs := [6]) (by kernel_rfl) (by simp) ?_
  refine AllReadyH.cons (o := ⟨some 34, .buildSlice 29 4 #[(0, .tmp 29), (1, .tmp 30), (2, .tmp 31), (3, .tmp 33)], 29, "frame.go:43", #[⟨1, .data⟩, ⟨2, .data⟩, ⟨3, .data⟩, ⟨5, .data⟩], none⟩) rfl (fun K hK => ?_) AllReadyH.nil
  go_simp
  refine hK.out _ _ ((Below.alloc (Below.alloc BD.out (Nat.le_refl _) _) (by simp) _)) (fun hHeld3 => ?_)
  clear hK K hHeld2
  try simp only [Act.put, List.setIfInBounds_toArray, List.set_cons_zero, List.set_cons_succ]
  refine wpAnyH_ready (rs := [7]) (by kernel_rfl) (by simp) ?_
  refine AllReadyH.cons (o := ⟨some 35, .call ⟨.value (.func 64), #[.tmp 34], #[29]⟩, 22, "frame.go:43", #[⟨6, .data⟩], none⟩) rfl (fun K hK => ?_) AllReadyH.nil
  go_simp
  refine CCh.out.mono ?_
  rintro e w9 ⟨u, rfl, p9, b9, b69⟩
  refine hK.out _ _ (b69) (fun hHeld4 => ?_)
  clear hK K hHeld3
  try simp only [Act.put, List.setIfInBounds_toArray, List.set_cons_zero, List.set_cons_succ]
  refine wpAnyH_take (i := 8) (oi := ⟨some 2, .assign (.tmp 35), 22, "frame.go:43", #[⟨7, .data⟩, ⟨7, .chain⟩, ⟨0, .phase⟩, ⟨1, .phase⟩, ⟨2, .phase⟩, ⟨3, .phase⟩, ⟨4, .phase⟩, ⟨5, .phase⟩, ⟨6, .phase⟩, ⟨7, .phase⟩], none⟩) (v := ?_) rfl (by kernel_rfl) (by kernel_rfl) (by kernel_rfl) (fun _ _ _ h => h) (Or.inl ⟨by rfl, ?_⟩) hHeld4 ?_
  rotate_left 1
  · (intro wq hSq; (try dsimp only at hSq); go_simp; first | done | with_reducible rfl)
  try simp only [Act.put, List.setIfInBounds_toArray, List.set_cons_zero, List.set_cons_succ]
  refine wpAnyH_take (i := 9) (oi := ⟨some 3, .assign (.const (.int .i64 0)), 42, "frame.go:43", #[⟨8, .chain⟩, ⟨0, .phase⟩, ⟨1, .phase⟩, ⟨2, .phase⟩, ⟨3, .phase⟩, ⟨4, .phase⟩, ⟨5, .phase⟩, ⟨6, .phase⟩, ⟨7, .phase⟩, ⟨8, .phase⟩], none⟩) (v := ?_) rfl (by kernel_rfl) (by kernel_rfl) (by kernel_rfl) (fun _ _ _ h => h) (Or.inl ⟨by rfl, ?_⟩) hHeld4 ?_
  rotate_left 1
  · (intro wq hSq; (try dsimp only at hSq); go_simp; first | done | with_reducible rfl)
  try simp only [Act.put, List.setIfInBounds_toArray, List.set_cons_zero, List.set_cons_succ]
  refine wpAnyH_done (by kernel_rfl) ?_ _
  refine NoPanic.normal ?_
  go_wp2
  go_ret2
  exact FIN.out _ _ p9 b9
end Go.Proofs.YtplihbncmmggjaaDoor
