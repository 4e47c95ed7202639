import Derived.Test.YtnpjknnalekdpaaLa
import Derived.Test.YtnpjknnalekdpaaFu
import Derived.Deep.DeepCutAuto
import Derived.Deep.CutBlock
import Derived.Laws.Cover3
namespace Go.Proofs.Ytnpjknnalekdpaa
set_option linter.unusedSimpArgs false
set_option linter.unusedVariables false
open Go.RowKit
set_option maxRecDepth 100000 in
theorem built63x (s : ByteArray) (q e : Bool) (a0 a1 a2 a3 a4 a5 a6 a7 a8 a9 a10 a11 a12 a13 a14 a15 a16 a17 a18 a19 a20 a21 a22 a23 a24 a25 a26 a27 a28 a29 a30 a31 : Int) : Try.prog.built 29 [(0, .string s), (1, .agg #[.bool q, .bool e]), (2, .agg (vB [a0, a1, a2, a3, a4, a5, a6, a7, a8, a9, a10, a11, a12, a13, a14, a15, a16, a17, a18, a19, a20, a21, a22, a23, a24, a25, a26, a27, a28, a29, a30, a31]))] = some ([Value.string s, .bool q, .bool e] ++ (vB [a0, a1, a2, a3, a4, a5, a6, a7, a8, a9, a10, a11, a12, a13, a14, a15, a16, a17, a18, a19, a20, a21, a22, a23, a24, a25, a26, a27, a28, a29, a30, a31]).toList).toArray := by kernel_rfl
theorem built63 (s : ByteArray) (q e : Bool) (h : List Int) (hl : h.length = 32) : Try.prog.built 29 [(0, .string s), (1, .agg #[.bool q, .bool e]), (2, .agg (vB h))] = some ([Value.string s, .bool q, .bool e] ++ (vB h).toList).toArray := by
  match h, hl with
  | [a0, a1, a2, a3, a4, a5, a6, a7, a8, a9, a10, a11, a12, a13, a14, a15, a16, a17, a18, a19, a20, a21, a22, a23, a24, a25, a26, a27, a28, a29, a30, a31], _ => exact built63x s q e a0 a1 a2 a3 a4 a5 a6 a7 a8 a9 a10 a11 a12 a13 a14 a15 a16 a17 a18 a19 a20 a21 a22 a23 a24 a25 a26 a27 a28 a29 a30 a31
theorem run_b63 (a : Act) (o : Oper) (x y z : Operand) (ho : o.op = .build 29 #[(0, x), (1, y), (2, z)]) (s : ByteArray) (q e : Bool) (h : List Int) (hl : h.length = 32) (hx : a.eval x = .string s) (hy : a.eval y = .agg #[.bool q, .bool e]) (hz : a.eval z = .agg (vB h)) (w : World) : (execOp a.eval o).run Try.prog w = .ok (.value (.agg ([Value.string s, .bool q, .bool e] ++ (vB h).toList).toArray)) w := by
  have r := run_build (P := Try.prog) w 29 #[(0, .string s), (1, .agg #[.bool q, .bool e]), (2, .agg (vB h))] _ (built63 s q e h hl)
  unfold execOp
  simp [ho, hx, hy, hz, r]
theorem range_sub {w : World} {b o : Nat} {bs : List Int} (h : w.rangeAt b o (vB bs).toList) (k n : Nat) : w.rangeAt b (o + k) (vB ((bs.drop k).take n)).toList := fun j v hv => by
  have : (vB bs).toList[k + j]? = some v := by
    simp only [vB, List.getElem?_map, List.getElem?_take, List.getElem?_drop] at hv ⊢
    by_cases q : j < n
    · rw [if_pos q] at hv; exact hv
    · rw [if_neg q] at hv; simp at hv
  have r := h (k + j) v this
  rw [Nat.add_assoc]; exact r
theorem cell_at {w : World} {b o : Nat} {bs : List Int} (h : w.rangeAt b o (vB bs).toList) (k : Nat) (hk : k < bs.length) : w.cell? ⟨b, o + k, none⟩ = some (.int .u8 (gi bs k)) := by
  refine h k _ ?_
  simp only [vB, List.getElem?_map]
  rw [List.getElem?_eq_getElem hk]
  unfold gi
  rw [List.getD_eq_getElem?_getD, List.getElem?_eq_getElem hk]; rfl
theorem storeM65w {o : Oper} {a : Act} {w : World} {K : Act → World → Prop} {Q : Exit → Act → World → Prop} (x y : Operand) (ho : o.op = .store 37 x y) (g : Nat) (hx : a.eval x = .pointer (some ⟨g, 0, none⟩)) (m m0 : Msg) (hy : a.eval y = .agg (mC m).toArray) (hm : m.Ok) (hm0 : m0.Ok) (hb : BoxM 37 w g m0)
    (h : K (a.put o.dst undef) (w.setRow g (mC m).toArray)) : o.wp Try.prog a w K Q :=
  wp_store_row 37 x y ho g _ hx hy 37 _ hb (by rw [size65, List.size_toArray, mC_length m hm]) (by rw [List.size_toArray, List.size_toArray, mC_length m hm, mC_length m0 hm0]) (all_oneCell_toArray (mC_one m)) h
theorem ce65m (t x y i : Int) : ((((zcel37.setIfInBounds 0 (Value.int IntKind.i64 t)).setIfInBounds 1 (Value.int IntKind.i64 x)).setIfInBounds 2 (Value.int IntKind.i64 y)).setIfInBounds 3 (Value.int IntKind.u64 i)) = (mC ⟨t, x, y, i, 0, ⟨#[]⟩, false, false, zs 32, false, 0, zs 32, zs 32, false⟩).toArray := by
  rw [zero65, List.setIfInBounds_toArray, List.setIfInBounds_toArray, List.setIfInBounds_toArray, List.setIfInBounds_toArray]; rfl
/-- The message that is read, its result's box, and the frame. -/
structure CO (w : World) (t : Int) (x : Value) (g : Nat) (c : Msg) (W : World) : Prop where
  box : BoxM 37 W g c
  res : BoxM 37 W (w.heap.size + 1) msg0
  frm : W.heap[w.heap.size]? = some (.cells #[.int .u8 t, x] 40)
  bl : Below w.heap.size w W
  g2 : w.heap.size + 2 ≤ g
  ok : c.Ok
theorem CO.cell {w : World} {t : Int} {x : Value} {g : Nat} {c c' : Msg} {W : World} (k : CO w t x g c W) (o : Nat) (v : Value) (he : (mC c).set o v = mC c') (hok : c'.Ok) : CO w t x g c' (W.setCell ⟨g, o, none⟩ v) :=
  ⟨boxCell k.box o v he, box_cell_far k.res (by have := k.g2; omega), by rw [Below.heap_setCell _ _ _ _ (by have := k.g2; show w.heap.size ≠ g; omega)]; exact k.frm, k.bl.setCell (by have := k.g2; show w.heap.size ≤ g; omega) v, k.g2, hok⟩
theorem CO.cells {w : World} {t : Int} {x : Value} {g : Nat} {c c' : Msg} {W : World} (k : CO w t x g c W) (o : Nat) (vs : List Value) (hl : o + vs.length ≤ (mC c).length) (he : (mC c).take o ++ vs ++ (mC c).drop (o + vs.length) = mC c') (hok : c'.Ok) : CO w t x g c' (W.setCells g o vs) :=
  ⟨boxCells k.box o vs hl he, box_cells_far k.res (by have := k.g2; omega), by rw [setCells_far g vs o W _ (by have := k.g2; omega)]; exact k.frm, below_cells k.bl (by have := k.g2; omega) (by have := k.bl.size; omega), k.g2, hok⟩
theorem CO.drew {w : World} {t : Int} {x : Value} {g : Nat} {c : Msg} {W : World} (k : CO w t x g c W) : CO w t x g c W.drew := ⟨k.box, k.res, k.frm, k.bl.drew, k.g2, k.ok⟩
def PhiO (t x y i : Int) (n0 : Nat) (d : Nat) (v : Value) (w : World) : Prop :=
  match d with
  | 34 => v = .int .u64 i
  | 35 => v = .agg (mC ⟨t, x, y, i, 0, ⟨#[]⟩, false, false, zs 32, false, 0, zs 32, zs 32, false⟩).toArray
  | 5 => ∃ g, v = .pointer (some ⟨g, 0, none⟩) ∧ n0 ≤ g ∧ w.heap[g]? = some (.cells zcel37 37)
  | _ => True
theorem phiO_below (t x y i : Int) (n0 d : Nat) (v : Value) (w w' : World) (h : PhiO t x y i n0 d v w) (k : Below w.heap.size w w') : PhiO t x y i n0 d v w' := by
  unfold PhiO at h ⊢
  split
  · exact h
  · exact h
  · obtain ⟨g, h1, h2, h3⟩ := h
    exact ⟨g, h1, h2, by rw [k.block _ (Array.getElem?_eq_some_iff.1 h3).1]; exact h3⟩
  · trivial
theorem CO.up {w : World} {t : Int} {x : Value} {g : Nat} {c : Msg} {W W' : World} (k : CO w t x g c W) (b : Below W.heap.size W W') : CO w t x g c W' :=
  ⟨k.box.below b, k.res.below b, by rw [b.block _ (Array.getElem?_eq_some_iff.1 k.frm).1]; exact k.frm, k.bl.trans (b.mono k.bl.size), k.g2, k.ok⟩
theorem encB_inj (t : Int) (ht : 0 < t ∧ t ≤ 255) (a b : List Int) (ha : a.length ≤ 1000) (hb : b.length ≤ 1000) (h : encB t a = encB t b) : a = b := by
  have p := dec_enc t ht a [] ha
  have q := dec_enc t ht b [] hb
  rw [h] at p
  rw [p] at q
  injection q with _ q
  injection q
set_option maxHeartbeats 4000000 in
set_option maxRecDepth 100000 in
theorem rof_main (t : Int) (ht : 0 ≤ t ∧ t ≤ 6) (bb oo n cp : Nat) (b : List Int) (hbn : b.length = n) (hn6 : 6 ≤ n) (hn1 : n ≤ 1000) (hb : Bytes b) (w : World) (h0 : 0 < w.heap.size) (hr : w.rangeAt bb oo (vB b).toList) (hbl : bb < w.heap.size) (hcp : n ≤ cp) (h63 : cp ≤ 9223372036854775807) : Calls Try.prog 6 #[.agg #[.int .u8 t, .slice (some ⟨bb, oo, none⟩) n cp]] w fun e w' => e = .returned (.tuple #[.agg (mC (rofM t b)).toArray, .int .i64 (rofC t b)]) ∧ Below w.heap.size w w' := by
  obtain ⟨w1, hw1⟩ : ∃ w1, w1 = (w.alloc (.cells #[.int .u8 t, .slice (some ⟨bb, oo, none⟩) n cp] 40)).alloc (.cells zcel37 37) := ⟨_, rfl⟩
  have k1 : Below w.heap.size w (w.alloc (.cells #[.int .u8 t, .slice (some ⟨bb, oo, none⟩) n cp] 40)) := (Below.refl _ _).alloc (Nat.le_refl _) _
  have k2 : Below w.heap.size w w1 := by rw [hw1]; exact k1.alloc k1.size _
  have s1 : w1.heap.size = w.heap.size + 2 := by rw [hw1]; simp
  have g0 : w1.heap[w.heap.size]? = some (.cells #[.int .u8 t, .slice (some ⟨bb, oo, none⟩) n cp] 40) := by rw [hw1, Below.heap_alloc _ _ _ (by simp)]; exact heap_alloc_new _ _
  have g1 : BoxM 37 w1 (w.heap.size + 1) msg0 := by
    unfold BoxM
    have := heap_alloc_new (w.alloc (.cells #[.int .u8 t, .slice (some ⟨bb, oo, none⟩) n cp] 40)) (.cells zcel37 37)
    rw [show (w.alloc (.cells #[.int .u8 t, .slice (some ⟨bb, oo, none⟩) n cp] 40)).heap.size = w.heap.size + 1 by simp] at this
    rw [hw1, this, zero65]
  have c0 := row_cell (j := 0) g0 rfl
  have c1 := row_cell (j := 1) g0 rfl
  rw [hw1] at c0 c1
  have b0 := gi_b b hb 0
  have b1 := gi_b b hb 1
  have v4 := val4 b hb 2
  have hR : Hid (∀ W, Below w.heap.size w W → W.rangeAt bb oo (vB b).toList) := fun W q => range_below hr q hbl
  have X1 : Hid (∀ W, Below w1.heap.size w1 W → W.heap[w.heap.size]? = some (.cells #[.int .u8 t, .slice (some ⟨bb, oo, none⟩) n cp] 40)) := fun W q => by rw [q.block _ (by omega)]; exact g0
  have K2 : Hid (∀ W, Below w1.heap.size w1 W → Below w.heap.size w W) := fun W q => k2.trans (q.mono k2.size)
  have C0 : Hid (∀ W, Below w1.heap.size w1 W → W.cell? ⟨bb, oo, none⟩ = some (.int .u8 (gi b 0))) := fun W q => by have := cell_at (hR.out W (K2.out W q)) 0 (by omega); simpa using this
  have C1 : Hid (∀ W, Below w1.heap.size w1 W → W.cell? ⟨bb, oo + 1, none⟩ = some (.int .u8 (gi b 1))) := fun W q => cell_at (hR.out W (K2.out W q)) 1 (by omega)
  have OF2 : Hid (∀ W, Below w1.heap.size w1 W → Calls Try.prog 12 #[.slice (some ⟨bb, oo + 2, none⟩) 4 (cp - 2)] W fun e w' => e = .returned (.int .u64 (valB ((b.drop 2).take 4))) ∧ W = w') := fun W q => by
    have hl : ((b.drop 2).take 4).length = 4 := by simp; omega
    have r := rofk_any bb (oo + 2) (cp - 2) ((b.drop 2).take 4) W (by omega) (by omega) (sub_bytes b hb _ _) (range_sub (hR.out W (K2.out W q)) 2 4)
    rw [hl] at r
    exact r.mono fun e w' ⟨r1, r2⟩ => ⟨r1, r2.symm⟩
  have HMM : Hid ((hdM t b).Ok) := hdM_ok t (by omega) b hb
  have HH : Hid (hdM t b = ⟨t, gi b 0, gi b 1, valB ((b.drop 2).take 4), 0, ⟨#[]⟩, false, false, zs 32, false, 0, zs 32, zs 32, false⟩) := rfl
  rw [HH.out] at HMM
  have BD : Hid (Below w1.heap.size w1 w1.drew) := (Below.refl _ _).drew
  have OF2 : Hid (∀ W, Below w1.heap.size w1 W → Calls Try.prog 12 #[.slice (some ⟨bb, oo + 2, none⟩) 4 (cp - 2)] W fun e w' => e = .returned (.int .u64 (valB ((b.drop 2).take 4))) ∧ W = w') := OF2
  generalize gi b 0 = x0 at *
  generalize gi b 1 = x1 at *
  generalize valB ((b.drop 2).take 4) = ID at *
  have S1 : Hid (w1.heap.size = w.heap.size + 2) := s1
  have G1 : Hid (BoxM 37 w1 (w.heap.size + 1) msg0) := g1
  have HW1 : Hid (w1 = (w.alloc (.cells #[.int .u8 t, .slice (some ⟨bb, oo, none⟩) n cp] 40)).alloc (.cells zcel37 37)) := hw1
  have HB : Hid (Bytes b) := hb
  have HN : Hid (b.length = n) := hbn
  have HR0 : Hid (w.rangeAt bb oo (vB b).toList) := hr
  have H00 : Hid (0 < w.heap.size) := h0
  have d1 : decide ((6 : Int) < t) = false := decide_eq_false (by omega)
  have d2 : decide ((n : Int) < 6) = false := decide_eq_false (by omega)
  have e1 : ¬ cp = 2 := by omega
  have t0 : 0 ≤ t := ht.1
  have nn0 : 0 < n := by omega
  have nn1 : 1 < n := by omega
  have nn2 : (1 : Int) < (n : Int) := by omega
  have nn3 : (6 : Int) ≤ (n : Int) := by omega
  have nn4 : (6 : Int) ≤ (cp : Int) := by omega
  have nn5 : 6 ≤ cp := by omega
  have t6 : t ≤ 6 := ht.2
  clear hr hb hbn k1 k2 s1 g0 g1 hw1 h0 ht
  go_enter Try.func6, Try.ntmps6
  go_wp2_with fail
  rw [← HW1.out]
  clear c0 c1
  refine wp_region_noPanic ?_
  refine wp_region_held_drew (S := fun w' => Below w1.heap.size w1 w') (by kernel_rfl) (BD.out) (fun hHeld => ?_)
  try simp only [Act.put, List.setIfInBounds_toArray, List.set_cons_zero, List.set_cons_succ]
  refine wpAnyH_take (i := 0) (oi := { dst := some 21, op := Go.Op.fieldAddr 40 (Go.Operand.tmp 1) 0, type := 0, pos := "ref.go:339", after := #[], guard := none }) (v := ?_) rfl (by kernel_rfl) (by kernel_rfl) (by kernel_rfl) (fun _ _ _ h => h) (Or.inl ⟨by rfl, ?_⟩) hHeld ?_
  rotate_left 1
  · (intro wq hSq; (try dsimp only at hSq); go_simp; first | done | with_reducible rfl)
  try simp only [Act.put, List.setIfInBounds_toArray, List.set_cons_zero, List.set_cons_succ]
  refine wpAnyH_take (i := 1) (oi := { dst := some 22, op := Go.Op.load 5 (Go.Operand.tmp 21), type := 5, pos := "ref.go:339", after := #[{ on := 0, ground := Go.Ground.data }], guard := none }) (v := ?_) rfl (by kernel_rfl) (by kernel_rfl) (by kernel_rfl) (fun _ _ _ h => h) (Or.inl ⟨by rfl, ?_⟩) hHeld ?_
  rotate_left 1
  · (intro wq hSq; (try dsimp only at hSq); have hq := row_cell (j := 0) (X1.out _ hSq) rfl; go_simp; first | done | with_reducible rfl)
  try simp only [Act.put, List.setIfInBounds_toArray, List.set_cons_zero, List.set_cons_succ]
  refine wpAnyH_take (i := 2) (oi := { dst := some 23, op := Go.Op.convert 5 3 (Go.Operand.tmp 22), type := 3, pos := "ref.go:339", after := #[{ on := 1, ground := Go.Ground.data }], guard := none }) (v := ?_) rfl (by kernel_rfl) (by kernel_rfl) (by kernel_rfl) (fun _ _ _ h => h) (Or.inl ⟨by rfl, ?_⟩) hHeld ?_
  rotate_left 1
  · (intro wq hSq; (try dsimp only at hSq); go_simp; first | done | with_reducible rfl)
  try simp only [Act.put, List.setIfInBounds_toArray, List.set_cons_zero, List.set_cons_succ]
  refine wpAnyH_take (i := 3) (oi := { dst := some 24, op := Go.Op.move (Go.Operand.tmp 4), type := 22, pos := "ref.go:339", after := #[], guard := none }) (v := ?_) rfl (by kernel_rfl) (by kernel_rfl) (by kernel_rfl) (fun _ _ _ h => h) (Or.inl ⟨by rfl, ?_⟩) hHeld ?_
  rotate_left 1
  · (intro wq hSq; (try dsimp only at hSq); go_simp; first | done | with_reducible rfl)
  try simp only [Act.put, List.setIfInBounds_toArray, List.set_cons_zero, List.set_cons_succ]
  refine wpAnyH_take (i := 4) (oi := { dst := some 25, op := Go.Op.indexAddr 22 (Go.Operand.tmp 24) (Go.Operand.const (Go.Value.int Go.IntKind.i64 0)), type := 0, pos := "ref.go:339", after := #[{ on := 3, ground := Go.Ground.data }], guard := none }) (v := ?_) rfl (by kernel_rfl) (by kernel_rfl) (by kernel_rfl) (fun _ _ _ h => h) (Or.inl ⟨by rfl, ?_⟩) hHeld ?_
  rotate_left 1
  · (intro wq hSq; (try dsimp only at hSq); go_simp; first | done | with_reducible rfl)
  try simp only [Act.put, List.setIfInBounds_toArray, List.set_cons_zero, List.set_cons_succ]
  refine wpAnyH_take (i := 5) (oi := { dst := some 26, op := Go.Op.load 5 (Go.Operand.tmp 25), type := 5, pos := "ref.go:339", after := #[{ on := 4, ground := Go.Ground.data }], guard := none }) (v := ?_) rfl (by kernel_rfl) (by kernel_rfl) (by kernel_rfl) (fun _ _ _ h => h) (Or.inl ⟨by rfl, ?_⟩) hHeld ?_
  rotate_left 1
  · (intro wq hSq; (try dsimp only at hSq); have hq := C0.out _ hSq; go_simp; first | done | with_reducible rfl)
  try simp only [Act.put, List.setIfInBounds_toArray, List.set_cons_zero, List.set_cons_succ]
  refine wpAnyH_take (i := 6) (oi := { dst := some 27, op := Go.Op.convert 5 3 (Go.Operand.tmp 26), type := 3, pos := "ref.go:339", after := #[{ on := 5, ground := Go.Ground.data }], guard := none }) (v := ?_) rfl (by kernel_rfl) (by kernel_rfl) (by kernel_rfl) (fun _ _ _ h => h) (Or.inl ⟨by rfl, ?_⟩) hHeld ?_
  rotate_left 1
  · (intro wq hSq; (try dsimp only at hSq); go_simp; first | done | with_reducible rfl)
  try simp only [Act.put, List.setIfInBounds_toArray, List.set_cons_zero, List.set_cons_succ]
  refine wpAnyH_take (i := 7) (oi := { dst := some 28, op := Go.Op.move (Go.Operand.tmp 4), type := 22, pos := "ref.go:339", after := #[], guard := none }) (v := ?_) rfl (by kernel_rfl) (by kernel_rfl) (by kernel_rfl) (fun _ _ _ h => h) (Or.inl ⟨by rfl, ?_⟩) hHeld ?_
  rotate_left 1
  · (intro wq hSq; (try dsimp only at hSq); go_simp; first | done | with_reducible rfl)
  try simp only [Act.put, List.setIfInBounds_toArray, List.set_cons_zero, List.set_cons_succ]
  refine wpAnyH_take (i := 8) (oi := { dst := some 29, op := Go.Op.indexAddr 22 (Go.Operand.tmp 28) (Go.Operand.const (Go.Value.int Go.IntKind.i64 1)), type := 0, pos := "ref.go:339", after := #[{ on := 7, ground := Go.Ground.data }], guard := none }) (v := ?_) rfl (by kernel_rfl) (by kernel_rfl) (by kernel_rfl) (fun _ _ _ h => h) (Or.inl ⟨by rfl, ?_⟩) hHeld ?_
  rotate_left 1
  · (intro wq hSq; (try dsimp only at hSq); go_simp; first | done | with_reducible rfl)
  try simp only [Act.put, List.setIfInBounds_toArray, List.set_cons_zero, List.set_cons_succ]
  refine wpAnyH_take (i := 9) (oi := { dst := some 30, op := Go.Op.load 5 (Go.Operand.tmp 29), type := 5, pos := "ref.go:339", after := #[{ on := 8, ground := Go.Ground.data }], guard := none }) (v := ?_) rfl (by kernel_rfl) (by kernel_rfl) (by kernel_rfl) (fun _ _ _ h => h) (Or.inl ⟨by rfl, ?_⟩) hHeld ?_
  rotate_left 1
  · (intro wq hSq; (try dsimp only at hSq); have hq := C1.out _ hSq; go_simp; first | done | with_reducible rfl)
  try simp only [Act.put, List.setIfInBounds_toArray, List.set_cons_zero, List.set_cons_succ]
  refine wpAnyH_take (i := 10) (oi := { dst := some 31, op := Go.Op.convert 5 3 (Go.Operand.tmp 30), type := 3, pos := "ref.go:339", after := #[{ on := 9, ground := Go.Ground.data }], guard := none }) (v := ?_) rfl (by kernel_rfl) (by kernel_rfl) (by kernel_rfl) (fun _ _ _ h => h) (Or.inl ⟨by rfl, ?_⟩) hHeld ?_
  rotate_left 1
  · (intro wq hSq; (try dsimp only at hSq); go_simp; first | done | with_reducible rfl)
  try simp only [Act.put, List.setIfInBounds_toArray, List.set_cons_zero, List.set_cons_succ]
  refine wpAnyH_take (i := 11) (oi := { dst := some 32, op := Go.Op.move (Go.Operand.tmp 4), type := 22, pos := "ref.go:339", after := #[], guard := none }) (v := ?_) rfl (by kernel_rfl) (by kernel_rfl) (by kernel_rfl) (fun _ _ _ h => h) (Or.inl ⟨by rfl, ?_⟩) hHeld ?_
  rotate_left 1
  · (intro wq hSq; (try dsimp only at hSq); go_simp; first | done | with_reducible rfl)
  try simp only [Act.put, List.setIfInBounds_toArray, List.set_cons_zero, List.set_cons_succ]
  refine wpAnyH_take (i := 12) (oi := { dst := some 33, op := Go.Op.slice 22 (Go.Operand.tmp 32) (some (Go.Operand.const (Go.Value.int Go.IntKind.i64 2))) (some (Go.Operand.const (Go.Value.int Go.IntKind.i64 6))) none, type := 22, pos := "ref.go:339", after := #[{ on := 11, ground := Go.Ground.data }], guard := none }) (v := ?_) rfl (by kernel_rfl) (by kernel_rfl) (by kernel_rfl) (fun _ _ _ h => h) (Or.inl ⟨by rfl, ?_⟩) hHeld ?_
  rotate_left 1
  · (intro wq hSq; (try dsimp only at hSq); go_simp; first | done | with_reducible rfl)
  try simp only [Act.put, List.setIfInBounds_toArray, List.set_cons_zero, List.set_cons_succ]
  refine wpAnyH_batch (B := [(13, 34, []), (14, 35, [34]), (15, 5, [])]) (R := fun w w' => Below w.heap.size w w') (Φ := PhiO t x0 x1 ID w1.heap.size) 1 (by kernel_rfl) (fun _ _ _ _ h => h) (Below.refl _ _) (fun _ _ h1 h2 => h1.trans (h2.mono h1.size)) (fun _ _ _ _ _ h k => phiO_below _ _ _ _ _ _ _ _ _ h k) (fun _ h => BD.out.trans h) ⟨StepB.mk ({ dst := some 34, op := Go.Op.call { callee := Go.Callee.value (Go.Operand.func 12), args := #[Go.Operand.tmp 33], argTypes := #[22] }, type := 24, pos := "ref.go:339", after := #[{ on := 12, ground := Go.Ground.data }], guard := none } : Oper) rfl ?_, StepB.mk ({ dst := some 35, op := Go.Op.build 37 #[(0, Go.Operand.tmp 23), (1, Go.Operand.tmp 27), (2, Go.Operand.tmp 31), (3, Go.Operand.tmp 34)], type := 37, pos := "ref.go:339", after := #[{ on := 2, ground := Go.Ground.data }, { on := 6, ground := Go.Ground.data }, { on := 10, ground := Go.Ground.data }, { on := 13, ground := Go.Ground.data }], guard := none } : Oper) rfl ?_, StepB.mk ({ dst := some 5, op := Go.Op.alloc 37, type := 0, pos := "ref.go:339", after := #[], guard := none } : Oper) rfl ?_, trivial⟩ ?_
  · intro f wS hRS hFS K hK
    simp only [putT, Act.put, List.setIfInBounds_toArray, List.set_cons_zero, List.set_cons_succ] at hK ⊢
    go_simp
    refine (OF2.out wS (BD.out.trans hRS)).mono ?_
    rintro e w' ⟨rfl, rfl⟩
    exact hK.out _ _ (Below.refl _ _) rfl
  · intro f wS hRS hFS K hK
    simp only [putT, Act.put, List.setIfInBounds_toArray, List.set_cons_zero, List.set_cons_succ] at hK ⊢
    have e34 : f 34 = .int .u64 ID := hFS 34 (by simp)
    rw [e34] at hK ⊢
    clear hFS e34
    go_simp
    exact hK.out _ _ (Below.refl _ _) (by show _ = _; rw [ce65m, wrapI t (by omega) (by omega), wrapI x0 (by omega) (by omega), wrapI x1 (by omega) (by omega)])
  · intro f wS hRS hFS K hK
    simp only [putT, Act.put, List.setIfInBounds_toArray, List.set_cons_zero, List.set_cons_succ] at hK ⊢
    go_simp
    exact hK.out _ _ ((Below.refl _ _).alloc (Nat.le_refl _) _) ⟨wS.heap.size, rfl, (by have := BD.out.size; have := hRS.size; simp at *; omega), heap_alloc_new _ _⟩
  intro f wB hRB hFB
  simp only [List.map, setL, putT, Act.put, List.setIfInBounds_toArray, List.set_cons_zero, List.set_cons_succ]
  have hHeldB1 : Below w1.heap.size w1 wB := BD.out.trans hRB
  have e34 : f 34 = .int .u64 ID := hFB 34 (by simp)
  have e35 : f 35 = .agg (mC ⟨t, x0, x1, ID, 0, ⟨#[]⟩, false, false, zs 32, false, 0, zs 32, zs 32, false⟩).toArray := hFB 35 (by simp)
  obtain ⟨g, e5, gg, hz⟩ := hFB 5 (by simp)
  rw [e34, e35, e5]
  have HZ : Hid (BoxM 37 wB g msg0) := by unfold Hid BoxM; rw [hz, zero65]
  have HG : Hid (w1.heap.size ≤ g) := gg
  have HB1 : Hid (Below w1.heap.size w1 wB) := hHeldB1
  clear hFB hRB e34 e35 e5 hz gg
  refine wpAnyH_ready (rs := [16]) (by kernel_rfl) (by simp) ?_
  refine AllReadyH.cons (o := { dst := none, op := Go.Op.store 37 (Go.Operand.tmp 5) (Go.Operand.tmp 35), type := 0, pos := "ref.go:339", after := #[{ on := 15, ground := Go.Ground.data }, { on := 14, ground := Go.Ground.data }, { on := 13, ground := Go.Ground.chain }, { on := 0, ground := Go.Ground.phase }, { on := 1, ground := Go.Ground.phase }, { on := 2, ground := Go.Ground.phase }, { on := 3, ground := Go.Ground.phase }, { on := 4, ground := Go.Ground.phase }, { on := 5, ground := Go.Ground.phase }, { on := 6, ground := Go.Ground.phase }, { on := 7, ground := Go.Ground.phase }, { on := 8, ground := Go.Ground.phase }, { on := 9, ground := Go.Ground.phase }, { on := 10, ground := Go.Ground.phase }, { on := 11, ground := Go.Ground.phase }, { on := 12, ground := Go.Ground.phase }, { on := 13, ground := Go.Ground.phase }, { on := 14, ground := Go.Ground.phase }, { on := 15, ground := Go.Ground.phase }], guard := none }) rfl (fun K hK => ?_) AllReadyH.nil
  refine storeM65w _ _ rfl g rfl ⟨t, x0, x1, ID, 0, ⟨#[]⟩, false, false, zs 32, false, 0, zs 32, zs 32, false⟩ msg0 rfl HMM.out msg0_ok HZ.out ?_
  refine hK.out _ _ (below_setRow HB1.out HG.out _) (fun hHeld2 => ?_)
  clear hK K hHeldB1
  try simp only [Act.put, List.setIfInBounds_toArray, List.set_cons_zero, List.set_cons_succ]
  refine wpAnyH_done (by kernel_rfl) ?_ _
  refine NoPanic.normal ?_
  obtain ⟨w4, hw4⟩ : ∃ W, W = wB.setRow g (mC ⟨t, x0, x1, ID, 0, ⟨#[]⟩, false, false, zs 32, false, 0, zs 32, zs 32, false⟩).toArray := ⟨_, rfl⟩
  rw [← hw4]
  have O4 : Hid (CO w t (.slice (some ⟨bb, oo, none⟩) n cp) g (hdM t b) w4) := by
    have hg : w.heap.size + 2 ≤ g := by have := HG.out; rw [S1.out] at this; exact this
    rw [HH.out, hw4]
    refine ⟨setRow_same HZ.out, ?_, ?_, below_setRow (K2.out _ HB1.out) (by omega) _, hg, HMM.out⟩
    · unfold BoxM; rw [setRow_far _ _ _ _ (by omega), HB1.out.block _ (by rw [S1.out]; omega)]; exact G1.out
    · rw [setRow_far _ _ _ _ (by omega)]; exact X1.out _ HB1.out
  have OF6 : Hid (46 ≤ n → ∀ W, Below w.heap.size w W → Calls Try.prog 12 #[.slice (some ⟨bb, oo + 6, none⟩) 4 (cp - 6)] W fun e w' => e = .returned (.int .u64 (valB ((b.drop 6).take 4))) ∧ W = w') := fun hn W q => by
    have hl : ((b.drop 6).take 4).length = 4 := by simp; rw [HN.out]; omega
    have r := rofk_any bb (oo + 6) (cp - 6) ((b.drop 6).take 4) W (by omega) (by omega) (sub_bytes b HB.out _ _) (range_sub (hR.out W q) 6 4)
    rw [hl] at r
    exact r.mono fun e w' ⟨r1, r2⟩ => ⟨r1, r2.symm⟩
  clear C0 C1 OF2 X1 K2 G1 HZ HG HB1 BD HW1 HMM HH hw4 S1 b0 b1 v4
  go_upto_block 0 with fail
  go_cut [] (fun wx => CO w t (.slice (some ⟨bb, oo, none⟩) n cp) g (candR t b) wx)
  case first =>
    by_cases h1 : t = 1
    · subst h1
      by_cases h46 : 46 ≤ n
      · have i46 : (46 : Int) ≤ (n : Int) := by omega
        by_cases hc46 : cp = 46
        · have hn46 : n = 46 := by omega
          subst hn46
          subst hc46
          have HL : Hid (((b.drop 12).take 32).length = 32) := by unfold Hid; simp; rw [HN.out]; omega
          obtain ⟨M1, hM1⟩ : ∃ M, M = ({ hdM 1 b with base := valB ((b.drop 6).take 4), s := strOfNums (b.drop 46), quiet := gi b 10 == 1, ext := gi b 11 == 1, hash := (b.drop 12).take 32 } : Msg) := ⟨_, rfl⟩
          have HC : Hid (candR 1 b = M1) := by unfold Hid candR; rw [if_pos ⟨rfl, by rw [HN.out]; omega⟩, hM1]
          have OKC : Hid (M1.Ok) := by rw [← HC.out]; exact candR_ok 1 (by omega) b HB.out (by rw [HN.out]; omega)
          have HE : Hid (eC M1 = [Value.string (strOfNums (b.drop 46)), .bool (gi b 10 == 1), .bool (gi b 11 == 1)] ++ (vB ((b.drop 12).take 32)).toList) := by rw [hM1]; rfl
          have CV : Hid (∀ W, Below w.heap.size w W → (convert 22 9 (.slice (some ⟨bb, oo, none⟩) 0 0)).run Try.prog W = .ok (.string (strOfNums (b.drop 46))) W) := fun W q => by
            have hl : b.drop 46 = [] := List.drop_eq_nil_of_le (by rw [HN.out]; omega)
            rw [hl]
            exact run_conv ⟨some ⟨bb, oo, none⟩, bb, oo, 0, rfl, by simp, by omega, fun h => by simp at h, (fun j v hv => by simp [vB] at hv), Nat.lt_of_lt_of_le hbl q.size, fun h => by cases h⟩
          have V6 := val4 b HB.out 6
          have o4 := row_cell O4.out.box (mC_4 _)
          have f4 : w4.frozen? ⟨g, 4, none⟩ = false := unfrozen O4.out.box
          have c0 : w4.cell? ⟨g, 0, none⟩ = some (.int .i64 1) := row_cell O4.out.box (mC_0 _)
          have O5 : Hid (CO w 1 (.slice (some ⟨bb, oo, none⟩) 46 46) g { hdM 1 b with base := valB ((b.drop 6).take 4) } (w4.setCell ⟨g, 4, none⟩ (.int .u64 (valB ((b.drop 6).take 4)))).drew) := (O4.out.cell 4 (.int .u64 (valB ((b.drop 6).take 4))) (set_base _ _) ⟨O4.out.ok.k, O4.out.ok.f, O4.out.ok.t, O4.out.ok.i, (by show 0 ≤ valB ((b.drop 6).take 4) ∧ valB ((b.drop 6).take 4) ≤ 18446744073709551615; omega), O4.out.ok.c, O4.out.ok.s, O4.out.ok.h, O4.out.ok.v, O4.out.ok.r, O4.out.ok.hb, O4.out.ok.vb, O4.out.ok.rb⟩).drew
          have O6 : Hid (CO w 1 (.slice (some ⟨bb, oo, none⟩) 46 46) g M1 ((w4.setCell ⟨g, 4, none⟩ (.int .u64 (valB ((b.drop 6).take 4)))).drew.setCells g 5 (eC M1))) := O5.out.cells 5 _ (by rw [mC_length _ O5.out.ok, eC_length _ OKC.out]; omega) (by rw [set_edit _ M1 O5.out.ok OKC.out, hM1]) OKC.out
          have OFX : Hid (Calls Try.prog 12 #[.slice (some ⟨bb, oo + 6, none⟩) 4 40] w4 fun e w' => e = .returned (.int .u64 (valB ((b.drop 6).take 4))) ∧ w4 = w') := OF6.out (by omega) w4 O4.out.bl
          have EV : Hid (∀ s q e h, Value.agg (([Value.string s, .bool q, .bool e] ++ (vB h).toList).toArray) = .agg (([Value.string s, .bool q, .bool e] ++ (vB h).toList).toArray)) := fun _ _ _ _ => rfl
          clear hM1 O4 OF6
          generalize valB ((b.drop 6).take 4) = BS at *
          go_wp2_with fail
          refine OFX.out.mono ?_
          rintro e w5 ⟨rfl, rfl⟩
          go_wp2_with fail
          clear c0 o4 f4
          refine wp_region_noPanic ?_
          refine wp_region_held_drew (S := fun w' => Below w.heap.size w w') (by kernel_rfl) (O5.out.bl) (fun hHeld => ?_)
          try simp only [Act.put, List.setIfInBounds_toArray, List.set_cons_zero, List.set_cons_succ]
          refine wpAnyH_take (i := 0) (oi := { dst := some 49, op := Go.Op.move (Go.Operand.tmp 4), type := 22, pos := "ref.go:343", after := #[], guard := none }) (v := ?_) rfl (by kernel_rfl) (by kernel_rfl) (by kernel_rfl) (fun _ _ _ h => h) (Or.inl ⟨by rfl, ?_⟩) hHeld ?_
          rotate_left 1
          · (intro wq hSq; (try dsimp only at hSq); go_simp; first | done | with_reducible rfl)
          try simp only [Act.put, List.setIfInBounds_toArray, List.set_cons_zero, List.set_cons_succ]
          refine wpAnyH_take (i := 1) (oi := { dst := some 50, op := Go.Op.slice 22 (Go.Operand.tmp 49) (some (Go.Operand.const (Go.Value.int Go.IntKind.i64 46))) none none, type := 22, pos := "ref.go:343", after := #[{ on := 0, ground := Go.Ground.data }], guard := none }) (v := ?_) rfl (by kernel_rfl) (by kernel_rfl) (by kernel_rfl) (fun _ _ _ h => h) (Or.inl ⟨by rfl, ?_⟩) hHeld ?_
          rotate_left 1
          · (intro wq hSq; (try dsimp only at hSq); go_simp; first | done | with_reducible rfl)
          try simp only [Act.put, List.setIfInBounds_toArray, List.set_cons_zero, List.set_cons_succ]
          refine wpAnyH_take (i := 2) (oi := { dst := some 51, op := Go.Op.convert 22 9 (Go.Operand.tmp 50), type := 9, pos := "ref.go:343", after := #[{ on := 1, ground := Go.Ground.data }], guard := none }) (v := ?_) rfl (by kernel_rfl) (by kernel_rfl) (by kernel_rfl) (fun _ _ _ h => h) (Or.inl ⟨by rfl, ?_⟩) hHeld ?_
          rotate_left 1
          · (intro wq hSq; (try dsimp only at hSq); have hq := CV.out _ hSq; go_simp; first | done | with_reducible rfl)
          try simp only [Act.put, List.setIfInBounds_toArray, List.set_cons_zero, List.set_cons_succ]
          refine wpAnyH_take (i := 3) (oi := { dst := some 52, op := Go.Op.move (Go.Operand.tmp 4), type := 22, pos := "ref.go:343", after := #[], guard := none }) (v := ?_) rfl (by kernel_rfl) (by kernel_rfl) (by kernel_rfl) (fun _ _ _ h => h) (Or.inl ⟨by rfl, ?_⟩) hHeld ?_
          rotate_left 1
          · (intro wq hSq; (try dsimp only at hSq); go_simp; first | done | with_reducible rfl)
          try simp only [Act.put, List.setIfInBounds_toArray, List.set_cons_zero, List.set_cons_succ]
          refine wpAnyH_take (i := 4) (oi := { dst := some 53, op := Go.Op.indexAddr 22 (Go.Operand.tmp 52) (Go.Operand.const (Go.Value.int Go.IntKind.i64 10)), type := 0, pos := "ref.go:343", after := #[{ on := 3, ground := Go.Ground.data }], guard := none }) (v := ?_) rfl (by kernel_rfl) (by kernel_rfl) (by kernel_rfl) (fun _ _ _ h => h) (Or.inl ⟨by rfl, ?_⟩) hHeld ?_
          rotate_left 1
          · (intro wq hSq; (try dsimp only at hSq); go_simp; first | done | with_reducible rfl)
          try simp only [Act.put, List.setIfInBounds_toArray, List.set_cons_zero, List.set_cons_succ]
          refine wpAnyH_take (i := 5) (oi := { dst := some 54, op := Go.Op.load 5 (Go.Operand.tmp 53), type := 5, pos := "ref.go:343", after := #[{ on := 4, ground := Go.Ground.data }], guard := none }) (v := ?_) rfl (by kernel_rfl) (by kernel_rfl) (by kernel_rfl) (fun _ _ _ h => h) (Or.inl ⟨by rfl, ?_⟩) hHeld ?_
          rotate_left 1
          · (intro wq hSq; (try dsimp only at hSq); have hq := cell_at (hR.out _ hSq) 10 (by rw [HN.out]; omega); go_simp; first | done | with_reducible rfl)
          try simp only [Act.put, List.setIfInBounds_toArray, List.set_cons_zero, List.set_cons_succ]
          refine wpAnyH_take (i := 6) (oi := { dst := some 55, op := Go.Op.binOp Go.BinOp.eql 5 (Go.Operand.tmp 54) (Go.Operand.const (Go.Value.int Go.IntKind.u8 1)) 5, type := 4, pos := "ref.go:343", after := #[{ on := 5, ground := Go.Ground.data }], guard := none }) (v := ?_) rfl (by kernel_rfl) (by kernel_rfl) (by kernel_rfl) (fun _ _ _ h => h) (Or.inl ⟨by rfl, ?_⟩) hHeld ?_
          rotate_left 1
          · (intro wq hSq; (try dsimp only at hSq); go_simp; first | done | with_reducible rfl)
          try simp only [Act.put, List.setIfInBounds_toArray, List.set_cons_zero, List.set_cons_succ]
          refine wpAnyH_take (i := 7) (oi := { dst := some 56, op := Go.Op.move (Go.Operand.tmp 4), type := 22, pos := "ref.go:343", after := #[], guard := none }) (v := ?_) rfl (by kernel_rfl) (by kernel_rfl) (by kernel_rfl) (fun _ _ _ h => h) (Or.inl ⟨by rfl, ?_⟩) hHeld ?_
          rotate_left 1
          · (intro wq hSq; (try dsimp only at hSq); go_simp; first | done | with_reducible rfl)
          try simp only [Act.put, List.setIfInBounds_toArray, List.set_cons_zero, List.set_cons_succ]
          refine wpAnyH_take (i := 8) (oi := { dst := some 57, op := Go.Op.indexAddr 22 (Go.Operand.tmp 56) (Go.Operand.const (Go.Value.int Go.IntKind.i64 11)), type := 0, pos := "ref.go:343", after := #[{ on := 7, ground := Go.Ground.data }], guard := none }) (v := ?_) rfl (by kernel_rfl) (by kernel_rfl) (by kernel_rfl) (fun _ _ _ h => h) (Or.inl ⟨by rfl, ?_⟩) hHeld ?_
          rotate_left 1
          · (intro wq hSq; (try dsimp only at hSq); go_simp; first | done | with_reducible rfl)
          try simp only [Act.put, List.setIfInBounds_toArray, List.set_cons_zero, List.set_cons_succ]
          refine wpAnyH_take (i := 9) (oi := { dst := some 58, op := Go.Op.load 5 (Go.Operand.tmp 57), type := 5, pos := "ref.go:343", after := #[{ on := 8, ground := Go.Ground.data }], guard := none }) (v := ?_) rfl (by kernel_rfl) (by kernel_rfl) (by kernel_rfl) (fun _ _ _ h => h) (Or.inl ⟨by rfl, ?_⟩) hHeld ?_
          rotate_left 1
          · (intro wq hSq; (try dsimp only at hSq); have hq := cell_at (hR.out _ hSq) 11 (by rw [HN.out]; omega); go_simp; first | done | with_reducible rfl)
          try simp only [Act.put, List.setIfInBounds_toArray, List.set_cons_zero, List.set_cons_succ]
          refine wpAnyH_take (i := 10) (oi := { dst := some 59, op := Go.Op.binOp Go.BinOp.eql 5 (Go.Operand.tmp 58) (Go.Operand.const (Go.Value.int Go.IntKind.u8 1)) 5, type := 4, pos := "ref.go:343", after := #[{ on := 9, ground := Go.Ground.data }], guard := none }) (v := ?_) rfl (by kernel_rfl) (by kernel_rfl) (by kernel_rfl) (fun _ _ _ h => h) (Or.inl ⟨by rfl, ?_⟩) hHeld ?_
          rotate_left 1
          · (intro wq hSq; (try dsimp only at hSq); go_simp; first | done | with_reducible rfl)
          try simp only [Act.put, List.setIfInBounds_toArray, List.set_cons_zero, List.set_cons_succ]
          refine wpAnyH_take (i := 11) (oi := { dst := some 60, op := Go.Op.build 26 #[(0, Go.Operand.tmp 55), (1, Go.Operand.tmp 59)], type := 26, pos := "ref.go:343", after := #[{ on := 6, ground := Go.Ground.data }, { on := 10, ground := Go.Ground.data }], guard := none }) (v := ?_) rfl (by kernel_rfl) (by kernel_rfl) (by kernel_rfl) (fun _ _ _ h => h) (Or.inl ⟨by rfl, ?_⟩) hHeld ?_
          rotate_left 1
          · (intro wq hSq; (try dsimp only at hSq); go_simp; first | done | with_reducible rfl)
          try simp only [Act.put, List.setIfInBounds_toArray, List.set_cons_zero, List.set_cons_succ]
          refine wpAnyH_take (i := 12) (oi := { dst := some 61, op := Go.Op.move (Go.Operand.tmp 4), type := 22, pos := "ref.go:343", after := #[], guard := none }) (v := ?_) rfl (by kernel_rfl) (by kernel_rfl) (by kernel_rfl) (fun _ _ _ h => h) (Or.inl ⟨by rfl, ?_⟩) hHeld ?_
          rotate_left 1
          · (intro wq hSq; (try dsimp only at hSq); go_simp; first | done | with_reducible rfl)
          try simp only [Act.put, List.setIfInBounds_toArray, List.set_cons_zero, List.set_cons_succ]
          refine wpAnyH_take (i := 13) (oi := { dst := some 62, op := Go.Op.slice 22 (Go.Operand.tmp 61) (some (Go.Operand.const (Go.Value.int Go.IntKind.i64 12))) (some (Go.Operand.const (Go.Value.int Go.IntKind.i64 44))) none, type := 22, pos := "ref.go:343", after := #[{ on := 12, ground := Go.Ground.data }], guard := none }) (v := ?_) rfl (by kernel_rfl) (by kernel_rfl) (by kernel_rfl) (fun _ _ _ h => h) (Or.inl ⟨by rfl, ?_⟩) hHeld ?_
          rotate_left 1
          · (intro wq hSq; (try dsimp only at hSq); go_simp; first | done | with_reducible rfl)
          try simp only [Act.put, List.setIfInBounds_toArray, List.set_cons_zero, List.set_cons_succ]
          refine wpAnyH_take (i := 14) (oi := { dst := some 63, op := Go.Op.sliceToArrayPointer 27 (Go.Operand.tmp 62), type := 0, pos := "ref.go:343", after := #[{ on := 13, ground := Go.Ground.data }], guard := none }) (v := ?_) rfl (by kernel_rfl) (by kernel_rfl) (by kernel_rfl) (fun _ _ _ h => h) (Or.inl ⟨by rfl, ?_⟩) hHeld ?_
          rotate_left 1
          · (intro wq hSq; (try dsimp only at hSq); have hq := run_arrayAt (P := Try.prog) (w := wq) 27 5 32 (some ⟨bb, oo + 12, none⟩) 32 34 Try.underlying27 (Nat.le_refl _); go_simp; first | done | with_reducible rfl)
          try simp only [Act.put, List.setIfInBounds_toArray, List.set_cons_zero, List.set_cons_succ]
          refine wpAnyH_take (i := 15) (oi := { dst := some 64, op := Go.Op.load 27 (Go.Operand.tmp 63), type := 27, pos := "ref.go:343", after := #[{ on := 14, ground := Go.Ground.data }], guard := none }) (v := .agg (List.toArray ((vB ((b.drop 12).take 32)).toList))) rfl (by kernel_rfl) (by kernel_rfl) (by kernel_rfl) (fun _ _ _ h => h) (yieldsIf_load_mid rfl 27 _ rfl bb (oo + 12) rfl ((vB ((b.drop 12).take 32)).toList) _ (fun wq hSq => range_sub (hR.out _ hSq) 12 32) Try.underlying27 rfl (by rw [vBl, HL.out]; exact size24)) hHeld ?_
          try simp only [Act.put, List.setIfInBounds_toArray, List.set_cons_zero, List.set_cons_succ]
          refine wpAnyH_take (i := 16) (oi := { dst := some 65, op := Go.Op.build 29 #[(0, Go.Operand.tmp 51), (1, Go.Operand.tmp 60), (2, Go.Operand.tmp 64)], type := 29, pos := "ref.go:343", after := #[{ on := 2, ground := Go.Ground.data }, { on := 11, ground := Go.Ground.data }, { on := 15, ground := Go.Ground.data }], guard := none }) (v := .agg (([Value.string (strOfNums (b.drop 46)), .bool (gi b 10 == 1), .bool (gi b 11 == 1)] ++ (vB ((b.drop 12).take 32)).toList).toArray)) rfl (by kernel_rfl) (by kernel_rfl) (by kernel_rfl) (fun _ _ _ h => h) (Or.inl ⟨by rfl, ?_⟩) hHeld ?_
          · (intro wq hSq; exact run_b63 _ _ _ _ _ rfl _ _ _ _ HL.out rfl rfl rfl wq)
          try simp only [Act.put, List.setIfInBounds_toArray, List.set_cons_zero, List.set_cons_succ]
          refine wpAnyH_take (i := 17) (oi := { dst := some 66, op := Go.Op.fieldAddr 37 (Go.Operand.tmp 5) 5, type := 0, pos := "ref.go:343", after := #[{ on := 0, ground := Go.Ground.phase }, { on := 1, ground := Go.Ground.phase }, { on := 2, ground := Go.Ground.phase }, { on := 3, ground := Go.Ground.phase }, { on := 4, ground := Go.Ground.phase }, { on := 5, ground := Go.Ground.phase }, { on := 6, ground := Go.Ground.phase }, { on := 7, ground := Go.Ground.phase }, { on := 8, ground := Go.Ground.phase }, { on := 9, ground := Go.Ground.phase }, { on := 10, ground := Go.Ground.phase }, { on := 11, ground := Go.Ground.phase }, { on := 12, ground := Go.Ground.phase }, { on := 13, ground := Go.Ground.phase }, { on := 14, ground := Go.Ground.phase }, { on := 15, ground := Go.Ground.phase }, { on := 16, ground := Go.Ground.phase }], guard := none }) (v := ?_) rfl (by kernel_rfl) (by kernel_rfl) (by kernel_rfl) (fun _ _ _ h => h) (Or.inl ⟨by rfl, ?_⟩) hHeld ?_
          rotate_left 1
          · (intro wq hSq; (try dsimp only at hSq); go_simp; first | done | with_reducible rfl)
          try simp only [Act.put, List.setIfInBounds_toArray, List.set_cons_zero, List.set_cons_succ]
          refine wpAnyH_ready (rs := [18]) (by kernel_rfl) (by simp) ?_
          refine AllReadyH.cons (o := { dst := none, op := Go.Op.store 29 (Go.Operand.tmp 66) (Go.Operand.tmp 65), type := 0, pos := "ref.go:343", after := #[{ on := 17, ground := Go.Ground.data }, { on := 16, ground := Go.Ground.data }, { on := 0, ground := Go.Ground.phase }, { on := 1, ground := Go.Ground.phase }, { on := 2, ground := Go.Ground.phase }, { on := 3, ground := Go.Ground.phase }, { on := 4, ground := Go.Ground.phase }, { on := 5, ground := Go.Ground.phase }, { on := 6, ground := Go.Ground.phase }, { on := 7, ground := Go.Ground.phase }, { on := 8, ground := Go.Ground.phase }, { on := 9, ground := Go.Ground.phase }, { on := 10, ground := Go.Ground.phase }, { on := 11, ground := Go.Ground.phase }, { on := 12, ground := Go.Ground.phase }, { on := 13, ground := Go.Ground.phase }, { on := 14, ground := Go.Ground.phase }, { on := 15, ground := Go.Ground.phase }, { on := 16, ground := Go.Ground.phase }], guard := none }) rfl (fun K hK => ?_) AllReadyH.nil
          refine wp_storeE _ _ rfl g 5 rfl M1 OKC.out (by rw [HE.out]; rfl) (there_of O5.out.box 5 35 (by rw [mC_length _ O5.out.ok]; omega)) ?_
          refine hK.out _ _ (below_cells O5.out.bl (by have := O5.out.g2; omega) (by have := O5.out.bl.size; omega)) (fun hHeld1 => ?_)
          clear hK K hHeld
          try simp only [Act.put, List.setIfInBounds_toArray, List.set_cons_zero, List.set_cons_succ]
          refine wpAnyH_done (by kernel_rfl) ?_ _
          refine NoPanic.normal ?_
          go_wp2_with fail
          go_meet
          exact (by rw [HC.out]; exact O6.out)
        · have nc6 : ¬ cp = 6 := by omega
          have nn10 : (10 : Int) < (n : Int) := by omega
          have nn11 : (11 : Int) < (n : Int) := by omega
          have nnA : 10 < n := by omega
          have nnB : 11 < n := by omega
          have nnC : (44 : Int) ≤ (cp : Int) := by omega
          have nnD : 44 ≤ cp := by omega
          have nnE : (10 : Int) ≤ (cp : Int) := by omega
          have nnF : 10 ≤ cp := by omega
          have nc12 : ¬ cp = 12 := by omega
          have HL : Hid (((b.drop 12).take 32).length = 32) := by unfold Hid; simp; rw [HN.out]; omega
          obtain ⟨M1, hM1⟩ : ∃ M, M = ({ hdM 1 b with base := valB ((b.drop 6).take 4), s := strOfNums (b.drop 46), quiet := gi b 10 == 1, ext := gi b 11 == 1, hash := (b.drop 12).take 32 } : Msg) := ⟨_, rfl⟩
          have HC : Hid (candR 1 b = M1) := by unfold Hid candR; rw [if_pos ⟨rfl, by rw [HN.out]; omega⟩, hM1]
          have OKC : Hid (M1.Ok) := by rw [← HC.out]; exact candR_ok 1 (by omega) b HB.out (by rw [HN.out]; omega)
          have HE : Hid (eC M1 = [Value.string (strOfNums (b.drop 46)), .bool (gi b 10 == 1), .bool (gi b 11 == 1)] ++ (vB ((b.drop 12).take 32)).toList) := by rw [hM1]; rfl
          have CV : Hid (∀ W, Below w.heap.size w W → (convert 22 9 (.slice (some ⟨bb, oo + 46, none⟩) (n - 46) (cp - 46))).run Try.prog W = .ok (.string (strOfNums (b.drop 46))) W) := fun W q => by
            have hl : (b.drop 46).length = n - 46 := by simp; rw [HN.out]
            have hr := range_sub (hR.out W q) 46 (n - 46)
            rw [List.take_of_length_le (by omega)] at hr
            exact run_conv ⟨some ⟨bb, oo + 46, none⟩, bb, oo + 46, cp - 46, by rw [hl], by omega, by omega, fun _ => rfl, hr, Nat.lt_of_lt_of_le hbl q.size, fun h => by cases h⟩
          have V6 := val4 b HB.out 6
          have o4 := row_cell O4.out.box (mC_4 _)
          have f4 : w4.frozen? ⟨g, 4, none⟩ = false := unfrozen O4.out.box
          have c0 : w4.cell? ⟨g, 0, none⟩ = some (.int .i64 1) := row_cell O4.out.box (mC_0 _)
          have O5 : Hid (CO w 1 (.slice (some ⟨bb, oo, none⟩) n cp) g { hdM 1 b with base := valB ((b.drop 6).take 4) } (w4.setCell ⟨g, 4, none⟩ (.int .u64 (valB ((b.drop 6).take 4)))).drew) := (O4.out.cell 4 (.int .u64 (valB ((b.drop 6).take 4))) (set_base _ _) ⟨O4.out.ok.k, O4.out.ok.f, O4.out.ok.t, O4.out.ok.i, (by show 0 ≤ valB ((b.drop 6).take 4) ∧ valB ((b.drop 6).take 4) ≤ 18446744073709551615; omega), O4.out.ok.c, O4.out.ok.s, O4.out.ok.h, O4.out.ok.v, O4.out.ok.r, O4.out.ok.hb, O4.out.ok.vb, O4.out.ok.rb⟩).drew
          have O6 : Hid (CO w 1 (.slice (some ⟨bb, oo, none⟩) n cp) g M1 ((w4.setCell ⟨g, 4, none⟩ (.int .u64 (valB ((b.drop 6).take 4)))).drew.setCells g 5 (eC M1))) := O5.out.cells 5 _ (by rw [mC_length _ O5.out.ok, eC_length _ OKC.out]; omega) (by rw [set_edit _ M1 O5.out.ok OKC.out, hM1]) OKC.out
          have OFX : Hid (Calls Try.prog 12 #[.slice (some ⟨bb, oo + 6, none⟩) 4 (cp - 6)] w4 fun e w' => e = .returned (.int .u64 (valB ((b.drop 6).take 4))) ∧ w4 = w') := OF6.out (by omega) w4 O4.out.bl
          have EV : Hid (∀ s q e h, Value.agg (([Value.string s, .bool q, .bool e] ++ (vB h).toList).toArray) = .agg (([Value.string s, .bool q, .bool e] ++ (vB h).toList).toArray)) := fun _ _ _ _ => rfl
          clear hM1 O4 OF6
          generalize valB ((b.drop 6).take 4) = BS at *
          go_wp2_with fail
          refine OFX.out.mono ?_
          rintro e w5 ⟨rfl, rfl⟩
          go_wp2_with fail
          clear c0 o4 f4
          refine wp_region_noPanic ?_
          refine wp_region_held_drew (S := fun w' => Below w.heap.size w w') (by kernel_rfl) (O5.out.bl) (fun hHeld => ?_)
          try simp only [Act.put, List.setIfInBounds_toArray, List.set_cons_zero, List.set_cons_succ]
          refine wpAnyH_take (i := 0) (oi := { dst := some 49, op := Go.Op.move (Go.Operand.tmp 4), type := 22, pos := "ref.go:343", after := #[], guard := none }) (v := ?_) rfl (by kernel_rfl) (by kernel_rfl) (by kernel_rfl) (fun _ _ _ h => h) (Or.inl ⟨by rfl, ?_⟩) hHeld ?_
          rotate_left 1
          · (intro wq hSq; (try dsimp only at hSq); go_simp; first | done | with_reducible rfl)
          try simp only [Act.put, List.setIfInBounds_toArray, List.set_cons_zero, List.set_cons_succ]
          refine wpAnyH_take (i := 1) (oi := { dst := some 50, op := Go.Op.slice 22 (Go.Operand.tmp 49) (some (Go.Operand.const (Go.Value.int Go.IntKind.i64 46))) none none, type := 22, pos := "ref.go:343", after := #[{ on := 0, ground := Go.Ground.data }], guard := none }) (v := ?_) rfl (by kernel_rfl) (by kernel_rfl) (by kernel_rfl) (fun _ _ _ h => h) (Or.inl ⟨by rfl, ?_⟩) hHeld ?_
          rotate_left 1
          · (intro wq hSq; (try dsimp only at hSq); go_simp; first | done | with_reducible rfl)
          try simp only [Act.put, List.setIfInBounds_toArray, List.set_cons_zero, List.set_cons_succ]
          refine wpAnyH_take (i := 2) (oi := { dst := some 51, op := Go.Op.convert 22 9 (Go.Operand.tmp 50), type := 9, pos := "ref.go:343", after := #[{ on := 1, ground := Go.Ground.data }], guard := none }) (v := ?_) rfl (by kernel_rfl) (by kernel_rfl) (by kernel_rfl) (fun _ _ _ h => h) (Or.inl ⟨by rfl, ?_⟩) hHeld ?_
          rotate_left 1
          · (intro wq hSq; (try dsimp only at hSq); have hq := CV.out _ hSq; go_simp; first | done | with_reducible rfl)
          try simp only [Act.put, List.setIfInBounds_toArray, List.set_cons_zero, List.set_cons_succ]
          refine wpAnyH_take (i := 3) (oi := { dst := some 52, op := Go.Op.move (Go.Operand.tmp 4), type := 22, pos := "ref.go:343", after := #[], guard := none }) (v := ?_) rfl (by kernel_rfl) (by kernel_rfl) (by kernel_rfl) (fun _ _ _ h => h) (Or.inl ⟨by rfl, ?_⟩) hHeld ?_
          rotate_left 1
          · (intro wq hSq; (try dsimp only at hSq); go_simp; first | done | with_reducible rfl)
          try simp only [Act.put, List.setIfInBounds_toArray, List.set_cons_zero, List.set_cons_succ]
          refine wpAnyH_take (i := 4) (oi := { dst := some 53, op := Go.Op.indexAddr 22 (Go.Operand.tmp 52) (Go.Operand.const (Go.Value.int Go.IntKind.i64 10)), type := 0, pos := "ref.go:343", after := #[{ on := 3, ground := Go.Ground.data }], guard := none }) (v := ?_) rfl (by kernel_rfl) (by kernel_rfl) (by kernel_rfl) (fun _ _ _ h => h) (Or.inl ⟨by rfl, ?_⟩) hHeld ?_
          rotate_left 1
          · (intro wq hSq; (try dsimp only at hSq); go_simp; first | done | with_reducible rfl)
          try simp only [Act.put, List.setIfInBounds_toArray, List.set_cons_zero, List.set_cons_succ]
          refine wpAnyH_take (i := 5) (oi := { dst := some 54, op := Go.Op.load 5 (Go.Operand.tmp 53), type := 5, pos := "ref.go:343", after := #[{ on := 4, ground := Go.Ground.data }], guard := none }) (v := ?_) rfl (by kernel_rfl) (by kernel_rfl) (by kernel_rfl) (fun _ _ _ h => h) (Or.inl ⟨by rfl, ?_⟩) hHeld ?_
          rotate_left 1
          · (intro wq hSq; (try dsimp only at hSq); have hq := cell_at (hR.out _ hSq) 10 (by rw [HN.out]; omega); go_simp; first | done | with_reducible rfl)
          try simp only [Act.put, List.setIfInBounds_toArray, List.set_cons_zero, List.set_cons_succ]
          refine wpAnyH_take (i := 6) (oi := { dst := some 55, op := Go.Op.binOp Go.BinOp.eql 5 (Go.Operand.tmp 54) (Go.Operand.const (Go.Value.int Go.IntKind.u8 1)) 5, type := 4, pos := "ref.go:343", after := #[{ on := 5, ground := Go.Ground.data }], guard := none }) (v := ?_) rfl (by kernel_rfl) (by kernel_rfl) (by kernel_rfl) (fun _ _ _ h => h) (Or.inl ⟨by rfl, ?_⟩) hHeld ?_
          rotate_left 1
          · (intro wq hSq; (try dsimp only at hSq); go_simp; first | done | with_reducible rfl)
          try simp only [Act.put, List.setIfInBounds_toArray, List.set_cons_zero, List.set_cons_succ]
          refine wpAnyH_take (i := 7) (oi := { dst := some 56, op := Go.Op.move (Go.Operand.tmp 4), type := 22, pos := "ref.go:343", after := #[], guard := none }) (v := ?_) rfl (by kernel_rfl) (by kernel_rfl) (by kernel_rfl) (fun _ _ _ h => h) (Or.inl ⟨by rfl, ?_⟩) hHeld ?_
          rotate_left 1
          · (intro wq hSq; (try dsimp only at hSq); go_simp; first | done | with_reducible rfl)
          try simp only [Act.put, List.setIfInBounds_toArray, List.set_cons_zero, List.set_cons_succ]
          refine wpAnyH_take (i := 8) (oi := { dst := some 57, op := Go.Op.indexAddr 22 (Go.Operand.tmp 56) (Go.Operand.const (Go.Value.int Go.IntKind.i64 11)), type := 0, pos := "ref.go:343", after := #[{ on := 7, ground := Go.Ground.data }], guard := none }) (v := ?_) rfl (by kernel_rfl) (by kernel_rfl) (by kernel_rfl) (fun _ _ _ h => h) (Or.inl ⟨by rfl, ?_⟩) hHeld ?_
          rotate_left 1
          · (intro wq hSq; (try dsimp only at hSq); go_simp; first | done | with_reducible rfl)
          try simp only [Act.put, List.setIfInBounds_toArray, List.set_cons_zero, List.set_cons_succ]
          refine wpAnyH_take (i := 9) (oi := { dst := some 58, op := Go.Op.load 5 (Go.Operand.tmp 57), type := 5, pos := "ref.go:343", after := #[{ on := 8, ground := Go.Ground.data }], guard := none }) (v := ?_) rfl (by kernel_rfl) (by kernel_rfl) (by kernel_rfl) (fun _ _ _ h => h) (Or.inl ⟨by rfl, ?_⟩) hHeld ?_
          rotate_left 1
          · (intro wq hSq; (try dsimp only at hSq); have hq := cell_at (hR.out _ hSq) 11 (by rw [HN.out]; omega); go_simp; first | done | with_reducible rfl)
          try simp only [Act.put, List.setIfInBounds_toArray, List.set_cons_zero, List.set_cons_succ]
          refine wpAnyH_take (i := 10) (oi := { dst := some 59, op := Go.Op.binOp Go.BinOp.eql 5 (Go.Operand.tmp 58) (Go.Operand.const (Go.Value.int Go.IntKind.u8 1)) 5, type := 4, pos := "ref.go:343", after := #[{ on := 9, ground := Go.Ground.data }], guard := none }) (v := ?_) rfl (by kernel_rfl) (by kernel_rfl) (by kernel_rfl) (fun _ _ _ h => h) (Or.inl ⟨by rfl, ?_⟩) hHeld ?_
          rotate_left 1
          · (intro wq hSq; (try dsimp only at hSq); go_simp; first | done | with_reducible rfl)
          try simp only [Act.put, List.setIfInBounds_toArray, List.set_cons_zero, List.set_cons_succ]
          refine wpAnyH_take (i := 11) (oi := { dst := some 60, op := Go.Op.build 26 #[(0, Go.Operand.tmp 55), (1, Go.Operand.tmp 59)], type := 26, pos := "ref.go:343", after := #[{ on := 6, ground := Go.Ground.data }, { on := 10, ground := Go.Ground.data }], guard := none }) (v := ?_) rfl (by kernel_rfl) (by kernel_rfl) (by kernel_rfl) (fun _ _ _ h => h) (Or.inl ⟨by rfl, ?_⟩) hHeld ?_
          rotate_left 1
          · (intro wq hSq; (try dsimp only at hSq); go_simp; first | done | with_reducible rfl)
          try simp only [Act.put, List.setIfInBounds_toArray, List.set_cons_zero, List.set_cons_succ]
          refine wpAnyH_take (i := 12) (oi := { dst := some 61, op := Go.Op.move (Go.Operand.tmp 4), type := 22, pos := "ref.go:343", after := #[], guard := none }) (v := ?_) rfl (by kernel_rfl) (by kernel_rfl) (by kernel_rfl) (fun _ _ _ h => h) (Or.inl ⟨by rfl, ?_⟩) hHeld ?_
          rotate_left 1
          · (intro wq hSq; (try dsimp only at hSq); go_simp; first | done | with_reducible rfl)
          try simp only [Act.put, List.setIfInBounds_toArray, List.set_cons_zero, List.set_cons_succ]
          refine wpAnyH_take (i := 13) (oi := { dst := some 62, op := Go.Op.slice 22 (Go.Operand.tmp 61) (some (Go.Operand.const (Go.Value.int Go.IntKind.i64 12))) (some (Go.Operand.const (Go.Value.int Go.IntKind.i64 44))) none, type := 22, pos := "ref.go:343", after := #[{ on := 12, ground := Go.Ground.data }], guard := none }) (v := ?_) rfl (by kernel_rfl) (by kernel_rfl) (by kernel_rfl) (fun _ _ _ h => h) (Or.inl ⟨by rfl, ?_⟩) hHeld ?_
          rotate_left 1
          · (intro wq hSq; (try dsimp only at hSq); go_simp; first | done | with_reducible rfl)
          try simp only [Act.put, List.setIfInBounds_toArray, List.set_cons_zero, List.set_cons_succ]
          refine wpAnyH_take (i := 14) (oi := { dst := some 63, op := Go.Op.sliceToArrayPointer 27 (Go.Operand.tmp 62), type := 0, pos := "ref.go:343", after := #[{ on := 13, ground := Go.Ground.data }], guard := none }) (v := ?_) rfl (by kernel_rfl) (by kernel_rfl) (by kernel_rfl) (fun _ _ _ h => h) (Or.inl ⟨by rfl, ?_⟩) hHeld ?_
          rotate_left 1
          · (intro wq hSq; (try dsimp only at hSq); have hq := run_arrayAt (P := Try.prog) (w := wq) 27 5 32 (some ⟨bb, oo + 12, none⟩) 32 (cp - 12) Try.underlying27 (Nat.le_refl _); go_simp; first | done | with_reducible rfl)
          try simp only [Act.put, List.setIfInBounds_toArray, List.set_cons_zero, List.set_cons_succ]
          refine wpAnyH_take (i := 15) (oi := { dst := some 64, op := Go.Op.load 27 (Go.Operand.tmp 63), type := 27, pos := "ref.go:343", after := #[{ on := 14, ground := Go.Ground.data }], guard := none }) (v := .agg (List.toArray ((vB ((b.drop 12).take 32)).toList))) rfl (by kernel_rfl) (by kernel_rfl) (by kernel_rfl) (fun _ _ _ h => h) (yieldsIf_load_mid rfl 27 _ rfl bb (oo + 12) rfl ((vB ((b.drop 12).take 32)).toList) _ (fun wq hSq => range_sub (hR.out _ hSq) 12 32) Try.underlying27 rfl (by rw [vBl, HL.out]; exact size24)) hHeld ?_
          try simp only [Act.put, List.setIfInBounds_toArray, List.set_cons_zero, List.set_cons_succ]
          refine wpAnyH_take (i := 16) (oi := { dst := some 65, op := Go.Op.build 29 #[(0, Go.Operand.tmp 51), (1, Go.Operand.tmp 60), (2, Go.Operand.tmp 64)], type := 29, pos := "ref.go:343", after := #[{ on := 2, ground := Go.Ground.data }, { on := 11, ground := Go.Ground.data }, { on := 15, ground := Go.Ground.data }], guard := none }) (v := .agg (([Value.string (strOfNums (b.drop 46)), .bool (gi b 10 == 1), .bool (gi b 11 == 1)] ++ (vB ((b.drop 12).take 32)).toList).toArray)) rfl (by kernel_rfl) (by kernel_rfl) (by kernel_rfl) (fun _ _ _ h => h) (Or.inl ⟨by rfl, ?_⟩) hHeld ?_
          · (intro wq hSq; exact run_b63 _ _ _ _ _ rfl _ _ _ _ HL.out rfl rfl rfl wq)
          try simp only [Act.put, List.setIfInBounds_toArray, List.set_cons_zero, List.set_cons_succ]
          refine wpAnyH_take (i := 17) (oi := { dst := some 66, op := Go.Op.fieldAddr 37 (Go.Operand.tmp 5) 5, type := 0, pos := "ref.go:343", after := #[{ on := 0, ground := Go.Ground.phase }, { on := 1, ground := Go.Ground.phase }, { on := 2, ground := Go.Ground.phase }, { on := 3, ground := Go.Ground.phase }, { on := 4, ground := Go.Ground.phase }, { on := 5, ground := Go.Ground.phase }, { on := 6, ground := Go.Ground.phase }, { on := 7, ground := Go.Ground.phase }, { on := 8, ground := Go.Ground.phase }, { on := 9, ground := Go.Ground.phase }, { on := 10, ground := Go.Ground.phase }, { on := 11, ground := Go.Ground.phase }, { on := 12, ground := Go.Ground.phase }, { on := 13, ground := Go.Ground.phase }, { on := 14, ground := Go.Ground.phase }, { on := 15, ground := Go.Ground.phase }, { on := 16, ground := Go.Ground.phase }], guard := none }) (v := ?_) rfl (by kernel_rfl) (by kernel_rfl) (by kernel_rfl) (fun _ _ _ h => h) (Or.inl ⟨by rfl, ?_⟩) hHeld ?_
          rotate_left 1
          · (intro wq hSq; (try dsimp only at hSq); go_simp; first | done | with_reducible rfl)
          try simp only [Act.put, List.setIfInBounds_toArray, List.set_cons_zero, List.set_cons_succ]
          refine wpAnyH_ready (rs := [18]) (by kernel_rfl) (by simp) ?_
          refine AllReadyH.cons (o := { dst := none, op := Go.Op.store 29 (Go.Operand.tmp 66) (Go.Operand.tmp 65), type := 0, pos := "ref.go:343", after := #[{ on := 17, ground := Go.Ground.data }, { on := 16, ground := Go.Ground.data }, { on := 0, ground := Go.Ground.phase }, { on := 1, ground := Go.Ground.phase }, { on := 2, ground := Go.Ground.phase }, { on := 3, ground := Go.Ground.phase }, { on := 4, ground := Go.Ground.phase }, { on := 5, ground := Go.Ground.phase }, { on := 6, ground := Go.Ground.phase }, { on := 7, ground := Go.Ground.phase }, { on := 8, ground := Go.Ground.phase }, { on := 9, ground := Go.Ground.phase }, { on := 10, ground := Go.Ground.phase }, { on := 11, ground := Go.Ground.phase }, { on := 12, ground := Go.Ground.phase }, { on := 13, ground := Go.Ground.phase }, { on := 14, ground := Go.Ground.phase }, { on := 15, ground := Go.Ground.phase }, { on := 16, ground := Go.Ground.phase }], guard := none }) rfl (fun K hK => ?_) AllReadyH.nil
          refine wp_storeE _ _ rfl g 5 rfl M1 OKC.out (by rw [HE.out]; rfl) (there_of O5.out.box 5 35 (by rw [mC_length _ O5.out.ok]; omega)) ?_
          refine hK.out _ _ (below_cells O5.out.bl (by have := O5.out.g2; omega) (by have := O5.out.bl.size; omega)) (fun hHeld1 => ?_)
          clear hK K hHeld
          try simp only [Act.put, List.setIfInBounds_toArray, List.set_cons_zero, List.set_cons_succ]
          refine wpAnyH_done (by kernel_rfl) ?_ _
          refine NoPanic.normal ?_
          go_wp2_with fail
          go_meet
          exact (by rw [HC.out]; exact O6.out)
      · have i46 : decide ((46 : Int) ≤ (n : Int)) = false := decide_eq_false (by omega)
        have HC : Hid (candR 1 b = hdM 1 b) := by unfold Hid candR; rw [if_neg (by rw [HN.out]; omega), if_neg (by omega), if_neg (by omega), if_neg (by omega)]
        have c0 : w4.cell? ⟨g, 0, none⟩ = some (.int .i64 1) := row_cell O4.out.box (mC_0 _)
        have O5 := O4
        clear O4 OF6
        go_wp2_with fail
        go_meet
        exact (by rw [HC.out]; exact O5.out)
    by_cases h2 : t = 2
    · subst h2
      by_cases h71 : n = 71
      · subst h71
        have nc7 : ¬ cp = 7 := by omega
        have nc39 : ¬ cp = 39 := by omega
        have nn71 : (71 : Int) ≤ (cp : Int) := by omega
        have nn39 : (39 : Int) ≤ (cp : Int) := by omega
        have L1 : Hid (((b.drop 7).take 32).length = 32) := by unfold Hid; rw [List.length_take, List.length_drop, HN.out]; omega
        have L2 : Hid (((b.drop 39).take 32).length = 32) := by unfold Hid; rw [List.length_take, List.length_drop, HN.out]; omega
        have HC : Hid (candR 2 b = { hdM 2 b with yes := true, vh := (b.drop 7).take 32, vr := (b.drop 39).take 32 }) := by unfold Hid candR; rw [if_neg (by omega), if_pos ⟨rfl, HN.out⟩]
        have c0 : w4.cell? ⟨g, 0, none⟩ = some (.int .i64 2) := row_cell O4.out.box (mC_0 _)
        have o4 := row_cell O4.out.box (mC_40 _ O4.out.ok)
        have f4 : w4.frozen? ⟨g, 40, none⟩ = false := unfrozen O4.out.box
        have O5 : Hid (CO w 2 (.slice (some ⟨bb, oo, none⟩) 71 cp) g { hdM 2 b with yes := true } (w4.setCell ⟨g, 40, none⟩ (.bool true)).drew) := (O4.out.cell 40 (.bool true) (set_yes _ O4.out.ok _) ⟨O4.out.ok.k, O4.out.ok.f, O4.out.ok.t, O4.out.ok.i, O4.out.ok.b, O4.out.ok.c, O4.out.ok.s, O4.out.ok.h, O4.out.ok.v, O4.out.ok.r, O4.out.ok.hb, O4.out.ok.vb, O4.out.ok.rb⟩).drew
        have O6 : Hid (CO w 2 (.slice (some ⟨bb, oo, none⟩) 71 cp) g { hdM 2 b with yes := true, vh := (b.drop 7).take 32 } ((w4.setCell ⟨g, 40, none⟩ (.bool true)).drew.setCells g 42 (vB ((b.drop 7).take 32)).toList)) := O5.out.cells 42 _ (by rw [mC_length _ O5.out.ok, vBl, L1.out]; omega) (set_vh _ O5.out.ok _ L1.out) ⟨O5.out.ok.k, O5.out.ok.f, O5.out.ok.t, O5.out.ok.i, O5.out.ok.b, O5.out.ok.c, O5.out.ok.s, O5.out.ok.h, L1.out, O5.out.ok.r, O5.out.ok.hb, sub_bytes b HB.out _ _, O5.out.ok.rb⟩
        have O7 : Hid (CO w 2 (.slice (some ⟨bb, oo, none⟩) 71 cp) g { hdM 2 b with yes := true, vh := (b.drop 7).take 32, vr := (b.drop 39).take 32 } (((w4.setCell ⟨g, 40, none⟩ (.bool true)).drew.setCells g 42 (vB ((b.drop 7).take 32)).toList).setCells g 74 (vB ((b.drop 39).take 32)).toList)) := O6.out.cells 74 _ (by rw [mC_length _ O6.out.ok, vBl, L2.out]; omega) (set_vr _ O6.out.ok _ L2.out) ⟨O6.out.ok.k, O6.out.ok.f, O6.out.ok.t, O6.out.ok.i, O6.out.ok.b, O6.out.ok.c, O6.out.ok.s, O6.out.ok.h, O6.out.ok.v, L2.out, O6.out.ok.hb, O6.out.ok.vb, sub_bytes b HB.out _ _⟩
        clear O4 OF6
        go_wp2_with fail
        clear c0 o4 f4
        refine wp_region_noPanic ?_
        refine wp_region_held_drew (S := fun w' => Below w.heap.size w w') (by kernel_rfl) (O5.out.bl) (fun hHeld => ?_)
        try simp only [Act.put, List.setIfInBounds_toArray, List.set_cons_zero, List.set_cons_succ]
        refine wpAnyH_take (i := 0) (oi := { dst := some 77, op := Go.Op.move (Go.Operand.tmp 4), type := 22, pos := "ref.go:346", after := #[], guard := none }) (v := ?_) rfl (by kernel_rfl) (by kernel_rfl) (by kernel_rfl) (fun _ _ _ h => h) (Or.inl ⟨by rfl, ?_⟩) hHeld ?_
        rotate_left 1
        · (intro wq hSq; (try dsimp only at hSq); go_simp; first | done | with_reducible rfl)
        try simp only [Act.put, List.setIfInBounds_toArray, List.set_cons_zero, List.set_cons_succ]
        refine wpAnyH_take (i := 1) (oi := { dst := some 78, op := Go.Op.slice 22 (Go.Operand.tmp 77) (some (Go.Operand.const (Go.Value.int Go.IntKind.i64 7))) (some (Go.Operand.const (Go.Value.int Go.IntKind.i64 39))) none, type := 22, pos := "ref.go:346", after := #[{ on := 0, ground := Go.Ground.data }], guard := none }) (v := ?_) rfl (by kernel_rfl) (by kernel_rfl) (by kernel_rfl) (fun _ _ _ h => h) (Or.inl ⟨by rfl, ?_⟩) hHeld ?_
        rotate_left 1
        · (intro wq hSq; (try dsimp only at hSq); go_simp; first | done | with_reducible rfl)
        try simp only [Act.put, List.setIfInBounds_toArray, List.set_cons_zero, List.set_cons_succ]
        refine wpAnyH_take (i := 2) (oi := { dst := some 79, op := Go.Op.sliceToArrayPointer 27 (Go.Operand.tmp 78), type := 0, pos := "ref.go:346", after := #[{ on := 1, ground := Go.Ground.data }], guard := none }) (v := ?_) rfl (by kernel_rfl) (by kernel_rfl) (by kernel_rfl) (fun _ _ _ h => h) (Or.inl ⟨by rfl, ?_⟩) hHeld ?_
        rotate_left 1
        · (intro wq hSq; (try dsimp only at hSq); have hq := run_arrayAt (P := Try.prog) (w := wq) 27 5 32 (some ⟨bb, oo + 7, none⟩) 32 (cp - 7) Try.underlying27 (Nat.le_refl _); go_simp; first | done | with_reducible rfl)
        try simp only [Act.put, List.setIfInBounds_toArray, List.set_cons_zero, List.set_cons_succ]
        refine wpAnyH_take (i := 3) (oi := { dst := some 80, op := Go.Op.load 27 (Go.Operand.tmp 79), type := 27, pos := "ref.go:346", after := #[{ on := 2, ground := Go.Ground.data }], guard := none }) (v := .agg (List.toArray ((vB ((b.drop 7).take 32)).toList))) rfl (by kernel_rfl) (by kernel_rfl) (by kernel_rfl) (fun _ _ _ h => h) (yieldsIf_load_mid rfl 27 _ rfl bb (oo + 7) rfl ((vB ((b.drop 7).take 32)).toList) _ (fun wq hSq => range_sub (hR.out _ hSq) 7 32) Try.underlying27 rfl (by rw [vBl, L1.out]; exact size24)) hHeld ?_
        try simp only [Act.put, List.setIfInBounds_toArray, List.set_cons_zero, List.set_cons_succ]
        refine wpAnyH_take (i := 4) (oi := { dst := some 81, op := Go.Op.move (Go.Operand.tmp 4), type := 22, pos := "ref.go:346", after := #[], guard := none }) (v := ?_) rfl (by kernel_rfl) (by kernel_rfl) (by kernel_rfl) (fun _ _ _ h => h) (Or.inl ⟨by rfl, ?_⟩) hHeld ?_
        rotate_left 1
        · (intro wq hSq; (try dsimp only at hSq); go_simp; first | done | with_reducible rfl)
        try simp only [Act.put, List.setIfInBounds_toArray, List.set_cons_zero, List.set_cons_succ]
        refine wpAnyH_take (i := 5) (oi := { dst := some 82, op := Go.Op.slice 22 (Go.Operand.tmp 81) (some (Go.Operand.const (Go.Value.int Go.IntKind.i64 39))) (some (Go.Operand.const (Go.Value.int Go.IntKind.i64 71))) none, type := 22, pos := "ref.go:346", after := #[{ on := 4, ground := Go.Ground.data }], guard := none }) (v := ?_) rfl (by kernel_rfl) (by kernel_rfl) (by kernel_rfl) (fun _ _ _ h => h) (Or.inl ⟨by rfl, ?_⟩) hHeld ?_
        rotate_left 1
        · (intro wq hSq; (try dsimp only at hSq); go_simp; first | done | with_reducible rfl)
        try simp only [Act.put, List.setIfInBounds_toArray, List.set_cons_zero, List.set_cons_succ]
        refine wpAnyH_take (i := 6) (oi := { dst := some 83, op := Go.Op.sliceToArrayPointer 27 (Go.Operand.tmp 82), type := 0, pos := "ref.go:346", after := #[{ on := 5, ground := Go.Ground.data }, { on := 9, ground := Go.Ground.gcOnly Go.Departure.lateStores }], guard := none }) (v := ?_) rfl (by kernel_rfl) (by kernel_rfl) (by kernel_rfl) (fun _ _ _ h => h) (Or.inl ⟨by rfl, ?_⟩) hHeld ?_
        rotate_left 1
        · (intro wq hSq; (try dsimp only at hSq); have hq := run_arrayAt (P := Try.prog) (w := wq) 27 5 32 (some ⟨bb, oo + 39, none⟩) 32 (cp - 39) Try.underlying27 (Nat.le_refl _); go_simp; first | done | with_reducible rfl)
        try simp only [Act.put, List.setIfInBounds_toArray, List.set_cons_zero, List.set_cons_succ]
        refine wpAnyH_take (i := 7) (oi := { dst := some 84, op := Go.Op.load 27 (Go.Operand.tmp 83), type := 27, pos := "ref.go:346", after := #[{ on := 6, ground := Go.Ground.data }, { on := 9, ground := Go.Ground.gcOnly Go.Departure.lateStores }], guard := none }) (v := .agg (List.toArray ((vB ((b.drop 39).take 32)).toList))) rfl (by kernel_rfl) (by kernel_rfl) (by kernel_rfl) (fun _ _ _ h => h) (yieldsIf_load_mid rfl 27 _ rfl bb (oo + 39) rfl ((vB ((b.drop 39).take 32)).toList) _ (fun wq hSq => range_sub (hR.out _ hSq) 39 32) Try.underlying27 rfl (by rw [vBl, L2.out]; exact size24)) hHeld ?_
        try simp only [Act.put, List.setIfInBounds_toArray, List.set_cons_zero, List.set_cons_succ]
        refine wpAnyH_take (i := 8) (oi := { dst := some 85, op := Go.Op.fieldAddr 37 (Go.Operand.tmp 5) 8, type := 0, pos := "ref.go:346", after := #[{ on := 0, ground := Go.Ground.phase }, { on := 1, ground := Go.Ground.phase }, { on := 2, ground := Go.Ground.phase }, { on := 3, ground := Go.Ground.phase }, { on := 4, ground := Go.Ground.textOnly Go.Departure.lateStores }, { on := 5, ground := Go.Ground.textOnly Go.Departure.lateStoresUnsure }, { on := 6, ground := Go.Ground.textOnly Go.Departure.lateStores }, { on := 7, ground := Go.Ground.textOnly Go.Departure.lateStores }], guard := none }) (v := ?_) rfl (by kernel_rfl) (by kernel_rfl) (by kernel_rfl) (fun _ _ _ h => h) (Or.inl ⟨by rfl, ?_⟩) hHeld ?_
        rotate_left 1
        · (intro wq hSq; (try dsimp only at hSq); go_simp; first | done | with_reducible rfl)
        try simp only [Act.put, List.setIfInBounds_toArray, List.set_cons_zero, List.set_cons_succ]
        refine wpAnyH_ready (rs := [9]) (by kernel_rfl) (by simp) ?_
        refine AllReadyH.cons (o := { dst := none, op := Go.Op.store 27 (Go.Operand.tmp 85) (Go.Operand.tmp 80), type := 0, pos := "ref.go:346", after := #[{ on := 8, ground := Go.Ground.data }, { on := 3, ground := Go.Ground.data }, { on := 0, ground := Go.Ground.phase }, { on := 1, ground := Go.Ground.phase }, { on := 2, ground := Go.Ground.phase }, { on := 3, ground := Go.Ground.phase }, { on := 4, ground := Go.Ground.textOnly Go.Departure.lateStores }, { on := 5, ground := Go.Ground.textOnly Go.Departure.lateStoresUnsure }, { on := 6, ground := Go.Ground.textOnly Go.Departure.lateStores }, { on := 7, ground := Go.Ground.textOnly Go.Departure.lateStores }], guard := none }) rfl (fun K hK => ?_) AllReadyH.nil
        refine wp_storeH _ _ rfl g 42 rfl ((b.drop 7).take 32) L1.out rfl (there_of O5.out.box 42 32 (by rw [mC_length _ O5.out.ok]; omega)) ?_
        refine hK.out _ _ (O6.out.bl) (fun hHeld1 => ?_)
        clear hK K hHeld
        try simp only [Act.put, List.setIfInBounds_toArray, List.set_cons_zero, List.set_cons_succ]
        refine wpAnyH_take (i := 10) (oi := { dst := some 86, op := Go.Op.fieldAddr 37 (Go.Operand.tmp 5) 9, type := 0, pos := "ref.go:346", after := #[{ on := 0, ground := Go.Ground.phase }, { on := 1, ground := Go.Ground.phase }, { on := 2, ground := Go.Ground.phase }, { on := 3, ground := Go.Ground.phase }, { on := 4, ground := Go.Ground.phase }, { on := 5, ground := Go.Ground.phase }, { on := 6, ground := Go.Ground.phase }, { on := 7, ground := Go.Ground.phase }, { on := 8, ground := Go.Ground.phase }, { on := 9, ground := Go.Ground.phase }], guard := none }) (v := ?_) rfl (by kernel_rfl) (by kernel_rfl) (by kernel_rfl) (fun _ _ _ h => h) (Or.inl ⟨by rfl, ?_⟩) hHeld1 ?_
        rotate_left 1
        · (intro wq hSq; (try dsimp only at hSq); go_simp; first | done | with_reducible rfl)
        try simp only [Act.put, List.setIfInBounds_toArray, List.set_cons_zero, List.set_cons_succ]
        refine wpAnyH_ready (rs := [11]) (by kernel_rfl) (by simp) ?_
        refine AllReadyH.cons (o := { dst := none, op := Go.Op.store 27 (Go.Operand.tmp 86) (Go.Operand.tmp 84), type := 0, pos := "ref.go:346", after := #[{ on := 10, ground := Go.Ground.data }, { on := 7, ground := Go.Ground.data }, { on := 9, ground := Go.Ground.chain }, { on := 0, ground := Go.Ground.phase }, { on := 1, ground := Go.Ground.phase }, { on := 2, ground := Go.Ground.phase }, { on := 3, ground := Go.Ground.phase }, { on := 4, ground := Go.Ground.phase }, { on := 5, ground := Go.Ground.phase }, { on := 6, ground := Go.Ground.phase }, { on := 7, ground := Go.Ground.phase }, { on := 8, ground := Go.Ground.phase }, { on := 9, ground := Go.Ground.phase }], guard := none }) rfl (fun K hK => ?_) AllReadyH.nil
        refine wp_storeH _ _ rfl g 74 rfl ((b.drop 39).take 32) L2.out rfl (there_of O6.out.box 74 32 (by rw [mC_length _ O6.out.ok]; omega)) ?_
        refine hK.out _ _ (O7.out.bl) (fun hHeld2 => ?_)
        clear hK K hHeld1
        try simp only [Act.put, List.setIfInBounds_toArray, List.set_cons_zero, List.set_cons_succ]
        refine wpAnyH_done (by kernel_rfl) ?_ _
        refine NoPanic.normal ?_
        go_wp2_with fail
        go_meet
        exact (by rw [HC.out]; exact O7.out)
      by_cases h8 : n = 8
      · subst h8
        have HC : Hid (candR 2 b = { hdM 2 b with code := gi b 7 }) := by unfold Hid candR; rw [if_neg (by omega), if_neg (by rw [HN.out]; omega), if_pos ⟨rfl, HN.out⟩]
        have b7 := gi_b b HB.out 7
        have q7 := cell_at (hR.out w4 O4.out.bl) 7 (by rw [HN.out]; omega)
        have c0 : w4.cell? ⟨g, 0, none⟩ = some (.int .i64 2) := row_cell O4.out.box (mC_0 _)
        have o4 := row_cell O4.out.box (mC_41 _ O4.out.ok)
        have f4 : w4.frozen? ⟨g, 41, none⟩ = false := unfrozen O4.out.box
        have gw : IntKind.i64.wrap (gi b 7) = gi b 7 := wrapI _ b7.1 (by omega)
        have O5 : Hid (CO w 2 (.slice (some ⟨bb, oo, none⟩) 8 cp) g { hdM 2 b with code := gi b 7 } (w4.setCell ⟨g, 41, none⟩ (.int .i64 (gi b 7)))) := O4.out.cell 41 _ (set_code _ O4.out.ok _) ⟨O4.out.ok.k, O4.out.ok.f, O4.out.ok.t, O4.out.ok.i, O4.out.ok.b, (by show -9223372036854775808 ≤ gi b 7 ∧ gi b 7 ≤ 9223372036854775807; omega), O4.out.ok.s, O4.out.ok.h, O4.out.ok.v, O4.out.ok.r, O4.out.ok.hb, O4.out.ok.vb, O4.out.ok.rb⟩
        clear O4 OF6
        generalize gi b 7 = x7 at *
        go_wp2_with fail
        go_meet
        exact (by rw [HC.out]; exact O5.out)
      · have i71 : ((n : Int) == 71) = false := by simp; omega
        have i8 : ((n : Int) == 8) = false := by simp; omega
        have HC : Hid (candR 2 b = hdM 2 b) := by unfold Hid candR; rw [if_neg (by omega), if_neg (by rw [HN.out]; omega), if_neg (by rw [HN.out]; omega), if_neg (by omega)]
        have c0 : w4.cell? ⟨g, 0, none⟩ = some (.int .i64 2) := row_cell O4.out.box (mC_0 _)
        have O5 := O4
        clear O4 OF6
        go_wp2_with fail
        go_meet
        exact (by rw [HC.out]; exact O5.out)
    by_cases h3 : t = 3
    · subst h3
      by_cases h7 : n = 7
      · subst h7
        have HC : Hid (candR 3 b = { hdM 3 b with commit := gi b 6 == 1 }) := by unfold Hid candR; rw [if_neg (by omega), if_neg (by omega), if_neg (by omega), if_pos ⟨by omega, HN.out⟩]
        have q6 := cell_at (hR.out w4 O4.out.bl) 6 (by rw [HN.out]; omega)
        have c0 : w4.cell? ⟨g, 0, none⟩ = some (.int .i64 3) := row_cell O4.out.box (mC_0 _)
        have o4 := row_cell O4.out.box (mC_106 _ O4.out.ok)
        have f4 : w4.frozen? ⟨g, 106, none⟩ = false := unfrozen O4.out.box
        have O5 : Hid (CO w 3 (.slice (some ⟨bb, oo, none⟩) 7 cp) g { hdM 3 b with commit := gi b 6 == 1 } (w4.setCell ⟨g, 106, none⟩ (.bool (gi b 6 == 1)))) := O4.out.cell 106 _ (set_commit _ O4.out.ok _) ⟨O4.out.ok.k, O4.out.ok.f, O4.out.ok.t, O4.out.ok.i, O4.out.ok.b, O4.out.ok.c, O4.out.ok.s, O4.out.ok.h, O4.out.ok.v, O4.out.ok.r, O4.out.ok.hb, O4.out.ok.vb, O4.out.ok.rb⟩
        clear O4 OF6
        generalize gi b 6 = x6 at *
        go_wp2_with fail
        go_meet
        exact (by rw [HC.out]; exact O5.out)
      · have i7 : ((n : Int) == 7) = false := by simp; omega
        have HC : Hid (candR 3 b = hdM 3 b) := by unfold Hid candR; rw [if_neg (by omega), if_neg (by omega), if_neg (by omega), if_neg (by rw [HN.out]; omega)]
        have c0 : w4.cell? ⟨g, 0, none⟩ = some (.int .i64 3) := row_cell O4.out.box (mC_0 _)
        have O5 := O4
        clear O4 OF6
        go_wp2_with fail
        go_meet
        exact (by rw [HC.out]; exact O5.out)
    by_cases h6 : t = 6
    · subst h6
      by_cases h7 : n = 7
      · subst h7
        have HC : Hid (candR 6 b = { hdM 6 b with commit := gi b 6 == 1 }) := by unfold Hid candR; rw [if_neg (by omega), if_neg (by omega), if_neg (by omega), if_pos ⟨by omega, HN.out⟩]
        have q6 := cell_at (hR.out w4 O4.out.bl) 6 (by rw [HN.out]; omega)
        have c0 : w4.cell? ⟨g, 0, none⟩ = some (.int .i64 6) := row_cell O4.out.box (mC_0 _)
        have o4 := row_cell O4.out.box (mC_106 _ O4.out.ok)
        have f4 : w4.frozen? ⟨g, 106, none⟩ = false := unfrozen O4.out.box
        have O5 : Hid (CO w 6 (.slice (some ⟨bb, oo, none⟩) 7 cp) g { hdM 6 b with commit := gi b 6 == 1 } (w4.setCell ⟨g, 106, none⟩ (.bool (gi b 6 == 1)))) := O4.out.cell 106 _ (set_commit _ O4.out.ok _) ⟨O4.out.ok.k, O4.out.ok.f, O4.out.ok.t, O4.out.ok.i, O4.out.ok.b, O4.out.ok.c, O4.out.ok.s, O4.out.ok.h, O4.out.ok.v, O4.out.ok.r, O4.out.ok.hb, O4.out.ok.vb, O4.out.ok.rb⟩
        clear O4 OF6
        generalize gi b 6 = x6 at *
        go_wp2_with fail
        go_meet
        exact (by rw [HC.out]; exact O5.out)
      · have i7 : ((n : Int) == 7) = false := by simp; omega
        have HC : Hid (candR 6 b = hdM 6 b) := by unfold Hid candR; rw [if_neg (by omega), if_neg (by omega), if_neg (by omega), if_neg (by rw [HN.out]; omega)]
        have c0 : w4.cell? ⟨g, 0, none⟩ = some (.int .i64 6) := row_cell O4.out.box (mC_0 _)
        have O5 := O4
        clear O4 OF6
        go_wp2_with fail
        go_meet
        exact (by rw [HC.out]; exact O5.out)
    have HC : Hid (candR t b = hdM t b) := by unfold Hid candR; rw [if_neg (by omega), if_neg (by omega), if_neg (by omega), if_neg (by omega)]
    have z1 : (t == 1) = false := by simpa using h1
    have z2 : (t == 2) = false := by simpa using h2
    have z3 : (t == 3) = false := by simpa using h3
    have z6 : (t == 6) = false := by simpa using h6
    have c0 : w4.cell? ⟨g, 0, none⟩ = some (.int .i64 t) := row_cell O4.out.box (mC_0 _)
    have O5 := O4
    clear O4 OF6
    go_wp2_with fail
    go_meet
    exact (by rw [HC.out]; exact O5.out)
  case rest =>
    have O9 : Hid (CO w t (.slice (some ⟨bb, oo, none⟩) n cp) g (candR t b) wc) := hcut
    clear hcut O4 OF6
    have HKd : Hid ((candR t b).kind = t) := candR_kind t b
    have HP : Hid (∀ W, Below w.heap.size w W → PartAt W (.slice (some ⟨bb, oo, none⟩) n cp) b) := fun W q => ⟨some ⟨bb, oo, none⟩, bb, oo, cp, by rw [HN.out], by rw [HN.out]; exact hcp, h63, fun _ => rfl, hR.out W q, Nat.lt_of_lt_of_le hbl q.size, fun h => by cases h⟩
    have EN : Hid (∀ W, Below w.heap.size w W → Calls Try.prog 14 #[.agg #[.int .u8 t, .slice (some ⟨bb, oo, none⟩) n cp]] W fun e w' => ∃ av L cpp, e = .returned (.tuple #[.slice av L cpp, .int .i64 (encC t b)]) ∧ PartAt w' (.slice av L cpp) (encL t b) ∧ Below W.heap.size W w') := fun W q =>
      (rencode_any t (by omega) _ b (by rw [HN.out]; omega) HB.out W (by have := q.size; have := H00.out; omega) (HP.out W q)).mono fun e w' h => h.u (by have := q.size; have := H00.out; omega)
    have HA : Hid (t ≤ 6 ∧ 6 ≤ b.length) := ⟨t6, by rw [HN.out]; omega⟩
    cases hf : formB (candR t b) with
    | false =>
      have HR : Hid (rofM t b = msg0 ∧ rofC t b = 2) := by unfold Hid rofM rofC; rw [if_pos HA.out, if_neg (by rw [hf]; simp), if_pos HA.out, if_neg (by rw [hf]; simp)]; exact ⟨rfl, rfl⟩
      have WN : Hid (Calls Try.prog 13 #[.agg (mC (candR t b)).toArray] wc fun e w' => e = .returned (.tuple #[.slice none 0 0, .int .i64 1]) ∧ Below wc.heap.size wc w') := rwrite_no _ O9.out.ok hf wc
      clear hf
      generalize candR t b = M at *
      generalize encC t b = ec at *
      generalize encL t b = EL at *
      go_wp2_with (first | (refine loadM65 rfl _ rfl g rfl M O9.out.ok O9.out.box ?_))
      refine WN.out.mono ?_
      rintro e w10 ⟨rfl, b10⟩
      have O10 : Hid (CO w t (.slice (some ⟨bb, oo, none⟩) n cp) g M w10) := O9.out.up b10
      have d0 := row_cell (j := 0) O10.out.frm rfl
      have d1 := row_cell (j := 1) O10.out.frm rfl
      clear b10 O9
      go_wp2_with fail
      refine (EN.out w10 O10.out.bl).mono ?_
      rintro e w11 ⟨ava, La, ca, rfl, p11, b11⟩
      have O11 : Hid (CO w t (.slice (some ⟨bb, oo, none⟩) n cp) g M w11) := O10.out.up b11
      clear p11 b11 d0 d1 O10 EN
      go_wp2_with (first | (refine storeZ65 rfl _ _ rfl (w.heap.size + 1) rfl msg0 rfl msg0_ok O11.out.res ?_))
      exact end65 Try.results6 msg0_ok rfl rfl (setRow_same O11.out.res) ⟨by rw [HR.out.1, HR.out.2]; rfl, below_setRow O11.out.bl (by omega) _⟩
    | true =>
      have f1 := (form_all hf).1
      rw [HKd.out] at f1
      have lb := body_le _ O9.out.ok hf
      have ee : encC t b = 0 ∧ encL t b = encB t b := by unfold encC encL; rw [if_neg (by omega), if_neg (by rw [HN.out]; omega), if_neg (by omega), if_neg (by rw [HN.out]; omega)]; exact ⟨rfl, rfl⟩
      rw [ee.1, ee.2] at EN
      have WY : Hid (Calls Try.prog 13 #[.agg (mC (candR t b)).toArray] wc fun e w' => ∃ u, e = .returned (.tuple #[u, .int .i64 0]) ∧ PartAt w' u (encB t (bodyB (candR t b))) ∧ Below wc.heap.size wc w') := (rwrite_own _ O9.out.ok hf wc (by have := O9.out.bl.size; have := H00.out; omega)).mono fun e w' ⟨u, r1, r2, r3⟩ => ⟨u, r1, by rw [HKd.out] at r2; exact r2.partG (by have := O9.out.bl.size; have := H00.out; have := r3.size; omega), r3⟩
      by_cases hbo : bodyB (candR t b) = b
      · have HR : Hid (rofM t b = candR t b ∧ rofC t b = 0) := by unfold Hid rofM rofC; rw [if_pos HA.out, if_pos ⟨hf, hbo⟩, if_pos HA.out, if_pos ⟨hf, hbo⟩]; exact ⟨rfl, rfl⟩
        rw [hbo] at WY
        clear hf hbo lb f1 ee
        generalize candR t b = M at *
        generalize encB t b = EL at *
        go_wp2_with (first | (refine loadM65 rfl _ rfl g rfl M O9.out.ok O9.out.box ?_))
        refine WY.out.mono ?_
        rintro e w10 ⟨u, rfl, p10, b10⟩
        obtain ⟨uv, ub, uo, uc, hu, _⟩ := id p10
        subst hu
        have O10 : Hid (CO w t (.slice (some ⟨bb, oo, none⟩) n cp) g M w10) := O9.out.up b10
        have d0 := row_cell (j := 0) O10.out.frm rfl
        have d1 := row_cell (j := 1) O10.out.frm rfl
        clear b10 O9
        go_wp2_with fail
        refine (EN.out w10 O10.out.bl).mono ?_
        rintro e w11 ⟨ava, La, ca, rfl, p11, b11⟩
        have O11 : Hid (CO w t (.slice (some ⟨bb, oo, none⟩) n cp) g M w11) := O10.out.up b11
        have CA : (convert 22 9 (.slice uv EL.length uc)).run Try.prog w11 = .ok (.string (strOfNums EL)) w11 := run_conv (p10.below b11)
        have CB : (convert 22 9 (.slice ava La ca)).run Try.prog w11 = .ok (.string (strOfNums EL)) w11 := run_conv p11
        generalize strOfNums EL = SE at *
        clear p11 b11 p10 d0 d1 O10 EN WY
        go_wp2_with (first | (refine loadM65 rfl _ rfl g rfl M O11.out.ok O11.out.box ?_) | (refine storeM65 rfl _ _ rfl (w.heap.size + 1) rfl M msg0 rfl O11.out.ok msg0_ok O11.out.res ?_))
        exact end65 Try.results6 O11.out.ok rfl rfl (setRow_same O11.out.res) ⟨by rw [HR.out.1, HR.out.2]; rfl, below_setRow O11.out.bl (by omega) _⟩
      · have HR : Hid (rofM t b = msg0 ∧ rofC t b = 2) := by unfold Hid rofM rofC; rw [if_pos HA.out, if_neg (fun h => hbo h.2), if_pos HA.out, if_neg (fun h => hbo h.2)]; exact ⟨rfl, rfl⟩
        have hne := str_neF _ _ (encB_bytes t (by omega) _ lb.1 lb.2) (encB_bytes t (by omega) b (by rw [HN.out]; omega) HB.out) (fun q => hbo (encB_inj t (by omega) _ b lb.1 (by rw [HN.out]; omega) q))
        clear hf hbo lb f1 ee
        generalize encB t (bodyB (candR t b)) = EM at *
        generalize candR t b = M at *
        generalize encB t b = EL at *
        go_wp2_with (first | (refine loadM65 rfl _ rfl g rfl M O9.out.ok O9.out.box ?_))
        refine WY.out.mono ?_
        rintro e w10 ⟨u, rfl, p10, b10⟩
        obtain ⟨uv, ub, uo, uc, hu, _⟩ := id p10
        subst hu
        have O10 : Hid (CO w t (.slice (some ⟨bb, oo, none⟩) n cp) g M w10) := O9.out.up b10
        have d0 := row_cell (j := 0) O10.out.frm rfl
        have d1 := row_cell (j := 1) O10.out.frm rfl
        clear b10 O9
        go_wp2_with fail
        refine (EN.out w10 O10.out.bl).mono ?_
        rintro e w11 ⟨ava, La, ca, rfl, p11, b11⟩
        have O11 : Hid (CO w t (.slice (some ⟨bb, oo, none⟩) n cp) g M w11) := O10.out.up b11
        have CA : (convert 22 9 (.slice uv EM.length uc)).run Try.prog w11 = .ok (.string (strOfNums EM)) w11 := run_conv (p10.below b11)
        have CB : (convert 22 9 (.slice ava La ca)).run Try.prog w11 = .ok (.string (strOfNums EL)) w11 := run_conv p11
        generalize strOfNums EL = SE at *
        generalize strOfNums EM = SM at *
        clear p11 b11 p10 d0 d1 O10 EN WY
        go_wp2_with (first | (refine storeZ65 rfl _ _ rfl (w.heap.size + 1) rfl msg0 rfl msg0_ok O11.out.res ?_))
        exact end65 Try.results6 msg0_ok rfl rfl (setRow_same O11.out.res) ⟨by rw [HR.out.1, HR.out.2]; rfl, below_setRow O11.out.bl (by omega) _⟩
end Go.Proofs.Ytnpjknnalekdpaa
