import Derived.Test.YtnpjknnalekdpaaDoorMx
import Derived.Lib.AppendZeros
import Derived.Test.YtnpjknnalekdpaaDoorKx
import Derived.Laws.CopyRow
namespace Go.Proofs.YtnpjknnalekdpaaDoor
set_option linter.unusedSimpArgs false
set_option linter.unusedVariables false
open Go.RowKit
set_option maxRecDepth 100000 in
set_option maxHeartbeats 400000 in
/-- bytes.Equal. -/
theorem equal_any (x y : Value) (a b : List Int) (w : World) (ha : PartAt w x a) (hb : PartAt w y b) : Calls Tryd.prog 67 #[x, y] w fun e w' => e = .returned (.bool ((strOfNums a).toList == (strOfNums b).toList)) ∧ w' = w := by
  have c1 := run_conv ha
  have c2 := run_conv hb
  generalize strOfNums a = A at *
  generalize strOfNums b = B at *
  clear ha hb
  go_enter Tryd.func67, Tryd.ntmps67
  go_wp2
  go_ret
  exact ⟨rfl, rfl⟩
theorem eqnil_some (a : Addr) (n c : Nat) (w : World) : (binOp .eql 22 (.slice (some a) n c) (.slice none 0 0)).run Tryd.prog w = .ok (.bool false) w := by kernel_rfl
theorem eqnil_none (w : World) : (binOp .eql 22 (.slice none 0 0) (.slice none 0 0)).run Tryd.prog w = .ok (.bool true) w := by kernel_rfl
set_option maxRecDepth 100000 in
set_option maxHeartbeats 400000 in
/-- bytes.Clone. -/
theorem bclone_any (x : Value) (l : List Int) (w : World) (hp : PartAt w x l) (hl : l.length ≤ 1000000000) : Calls Tryd.prog 68 #[x] w fun e w' => ∃ v, e = .returned v ∧ PartAt w' v l ∧ Below w.heap.size w w' := by
  have hp0 := hp
  obtain ⟨av, b, o, cp, rfl, q1, q2, q3, q4, q5, q6⟩ := hp
  cases av with
  | none =>
    have P0 : Hid (PartAt w (.slice none l.length cp) l) := hp0
    have h0 : l.length = 0 := by
      rcases Nat.eq_zero_or_pos l.length with h | h
      · exact h
      · have := q3 h; cases this
    have hc := q6 rfl
    subst hc
    have hl0 : l = [] := List.eq_nil_of_length_eq_zero h0
    subst hl0
    clear q1 q3 q4 hp0 q6 h0
    rw [List.length_nil] at P0 ⊢
    have heq := eqnil_none w
    go_enter Tryd.func68, Tryd.ntmps68
    go_wp2
    go_ret
    exact ⟨_, rfl, P0.out, Below.refl _ _⟩
  | some a =>
    have E5 : Hid (PartAt (w.alloc (.cells #[] 5)) (.slice (some a) l.length cp) l ∧ OwnB (w.alloc (.cells #[] 5)) w.heap.size (.slice (some ⟨w.heap.size, 0, none⟩) 0 0) []) :=
      ⟨hp0.below ((Below.refl _ _).alloc (Nat.le_refl _) _), ⟨rfl, Or.inr ⟨w.heap.size, 0, #[], rfl, Nat.le_refl _, heap_alloc_new _ _, Nat.le_refl _, by unfold maxLen; omega, rfl, rfl⟩⟩⟩
    have B1 : Hid (Below w.heap.size w (w.alloc (.cells #[] 5))) := (Below.refl _ _).alloc (Nat.le_refl _) _
    clear q1 q3 q4 hp0 q6
    have heq := eqnil_some a l.length cp w
    go_enter Tryd.func68, Tryd.ntmps68
    go_wp2_with (first | (at_builtin; refine appendB rfl _ _ rfl w.heap.size _ [] rfl E5.out.2 _ l rfl E5.out.1 (by simp; omega) (by simp) ?_; intro v6 w6 o6 g6 d6))
    go_ret
    have b6 : Below w.heap.size w w6 := B1.out.grown g6 B1.out.size (fun k hk => by injection hk with hk; subst hk; exact Nat.le_refl _)
    exact ⟨_, rfl, by simpa using OwnB.partG o6 (by have := g6.size; simp at this; omega), b6⟩
end Go.Proofs.YtnpjknnalekdpaaDoor
namespace Go.Proofs.YtnpjknnalekdpaaDoor
set_option linter.unusedSimpArgs false
set_option linter.unusedVariables false
open Go.RowKit
set_option maxHeartbeats 1000000 in
set_option maxRecDepth 100000 in
/-- The reference's Number, of few bytes. -/
theorem rnumk_any (n : Int) (h0 : 0 ≤ n) (h1 : n ≤ 18446744073709551615) (k : Nat) (hk1 : 1 ≤ k) (hk8 : k ≤ 8) (w : World) :
    Calls Tryd.prog 55 #[.int .u64 n, .int .i64 k] w fun e w' => ∃ g, e = .returned (.slice (some ⟨g, 0, none⟩) k k) ∧ w.heap.size ≤ g ∧ w'.heap[g]? = some (.cells (vB (numB n k)) 5) ∧ Below w.heap.size w w' := by
  have hmk := fun W : World => makeB k (by omega) W
  go_enter Tryd.func55, Tryd.ntmps55
  go_wp2
  go_loopw [10] (fun i wr => ∃ j : Nat, j ≤ k ∧ i = .int .i64 j ∧ wr.heap[w.heap.size]? = some (.cells (vB (knumTo n k j)) 5) ∧ Below w.heap.size w wr) (fun i _ => k - (intOf i).toNat)
  case atStart =>
    exact ⟨0, by omega, rfl, by rw [knumTo_zero]; exact heap_alloc_new _ _, (Below.refl _ _).alloc (Nat.le_refl _) _⟩
  case round =>
    obtain ⟨j, hj, rfl, hg, hb⟩ := hrel
    by_cases hlt : j < k
    · have hlen := knumTo_length n k j
      have hidx : ((k : Int) - 1 - (j : Int)).toNat = k - 1 - j := by omega
      have hc : wr.cell? ⟨w.heap.size, k - 1 - j, none⟩ = some (.int .u8 (gi (knumTo n k j) (k - 1 - j))) := row_cell hg (vB_at _ _ (by omega))
      have hfz := unfrozen (j := k - 1 - j) hg
      have e1 : (k : Int) - 1 - (j : Int) < (k : Int) := by omega
      have e2 : 0 ≤ (k : Int) - 1 - (j : Int) := by omega
      have e3 : (8 * (j : Int)).toNat = 8 * j := by omega
      have e4 : 0 ≤ 8 * (j : Int) := by omega
      go_wp2
      go_roundw
      case rel =>
        refine ⟨j + 1, by omega, by go_num, ?_, ?_⟩
        · rw [heap_setCell_same _ _ _ _ 5 _ hg, vB_set, knumTo_set n k j hlt]
        · exact hb.grown (grown_setCell _ _ _ _) hb.size (fun k hk => by injection hk; omega)
      case measure => simp [intOf]; omega
    · have ej : j = k := by omega
      subst ej
      rw [knumTo_all] at hg
      have HG : Hid (wr.heap[w.heap.size]? = some (.cells (vB (numB n j)) 5)) := hg
      clear hg
      go_wp2
      go_ret
      exact ⟨_, rfl, Nat.le_refl _, HG.out, hb⟩
theorem val1 (a : Int) (h0 : 0 ≤ a) (h1 : a ≤ 255) : valB [a] = a := by
  have := stepB_eq 0 a (by omega) (by omega) h0 h1
  simpa [valB] using this
theorem val2 (a b : Int) (h0 : 0 ≤ a) (h1 : a ≤ 255) (h2 : 0 ≤ b) (h3 : b ≤ 255) : valB [a, b] = a * 256 + b := by
  have e : valB [a, b] = stepB (valB [a]) b := by simp [valB]
  rw [e, val1 a h0 h1, stepB_eq a b h0 (by omega) h2 h3]
set_option maxHeartbeats 1000000 in
set_option maxRecDepth 100000 in
/-- readLabel. -/
theorem label_any (v : Value) (t a b : Int) (w : World) (hp : PartAt w v [t, a, b]) (hb : Bytes [t, a, b]) : Calls Tryd.prog 66 #[v] w fun e w' => e = .returned (.tuple #[.int .u8 t, .int .i64 (a * 256 + b)]) ∧ Below w.heap.size w w' := by
  have ht := hb t (by simp)
  have ha := hb a (by simp)
  have hb2 := hb b (by simp)
  have RD : Hid (Calls Tryd.prog 87 #[v] w fun e w' => ∃ g, e = .returned (.pointer (some ⟨g, 0, none⟩)) ∧ RSt w' g (some [t, a, b]) ∧ w.heap.size ≤ g ∧ Below w.heap.size w w') := read_any v _ hb (by simp) w (run_conv hp)
  have N1 : Hid (∀ (W : World) (g : Nat), RSt W g (some [t, a, b]) → Calls Tryd.prog 88 #[.pointer (some ⟨g, 0, none⟩), .int .i64 1] W fun e w' => e = .returned (.int .u64 t) ∧ RSt w' g (some [a, b]) ∧ W.grownBy w' (some g)) := fun W g q => (rnumber_h _ (some [t, a, b]) 1 W (Or.inr ⟨g, rfl, q⟩)).mono fun e w' ⟨r1, r2, r3⟩ => by
    refine ⟨by rw [r1, show rnumV (some [t, a, b]) 1 = valB [t] from rfl, val1 t ht.1 ht.2], ?_, r3⟩
    rcases r2 with ⟨e, _⟩ | ⟨g', e, r2⟩
    · cases e
    · injection e with e; injection e with e; injection e with e; subst e; exact r2
  have N2 : Hid (∀ (W : World) (g : Nat), RSt W g (some [a, b]) → Calls Tryd.prog 88 #[.pointer (some ⟨g, 0, none⟩), .int .i64 2] W fun e w' => e = .returned (.int .u64 (a * 256 + b)) ∧ W.grownBy w' (some g)) := fun W g q => (rnumber_h _ (some [a, b]) 2 W (Or.inr ⟨g, rfl, q⟩)).mono fun e w' ⟨r1, r2, r3⟩ => ⟨by rw [r1, show rnumV (some [a, b]) 2 = valB [a, b] from rfl, val2 a b ha.1 ha.2 hb2.1 hb2.2], r3⟩
  have c1 : t % 256 = t := by omega
  obtain ⟨M, hM⟩ : ∃ M : Nat, a * 256 + b = (M : Int) := ⟨(a * 256 + b).toNat, by omega⟩
  have hM2 : M ≤ 65535 := by omega
  rw [hM] at N2 ⊢
  clear hp hb hM
  go_enter Tryd.func66, Tryd.ntmps66
  go_wp2_with fail
  refine RD.out.mono ?_
  rintro e w1 ⟨g, rfl, r1, s1, b1⟩
  have R1 : Hid (RSt w1 g (some [t, a, b])) := r1
  clear r1
  go_wp2_with fail
  refine (N1.out _ _ R1.out).mono ?_
  rintro e w2 ⟨rfl, r2, g2⟩
  have R2 : Hid (RSt w2 g (some [a, b])) := r2
  clear r2
  go_wp2_with fail
  refine (N2.out _ _ R2.out).mono ?_
  rintro e w3 ⟨rfl, g3⟩
  go_wp2
  go_ret2
  have b2 : Below w.heap.size w w2 := b1.grown g2 b1.size (fun k hk => by injection hk with hk; omega)
  exact ⟨rfl, b2.grown g3 b2.size (fun k hk => by injection hk with hk; omega)⟩
end Go.Proofs.YtnpjknnalekdpaaDoor
namespace Go.Proofs.YtnpjknnalekdpaaDoor
set_option linter.unusedSimpArgs false
set_option linter.unusedVariables false
open Go.RowKit
theorem size5d : (Tryd.prog.info? 5).map (·.size) = some 1 := by kernel_rfl
theorem copy4 (W : World) (B1 B2 : Nat) (H : List Int) (hH : H.length = 32) (hg1 : W.heap[B1]? = some (.cells (vB H) 24)) (hg2 : W.heap[B2]? = some (.cells (vB (zs 4)) 105)) :
    (Builtin.copy_ #[22, 22] 3 #[.slice (some ⟨B2, 0, none⟩) 4 4, .slice (some ⟨B1, 0, none⟩) 32 32]).run Tryd.prog W = .ok (.int .i64 4) (W.setRow B2 (vB (H.take 4))) := by
  have hl : ((vB (H.take 4)).toList).length = 4 := by rw [Array.length_toList, vB_size, List.length_take, hH]; rfl
  rw [run_copy_row Tryd.prog W 22 22 3 5 B2 0 4 4 ⟨B1, 0, none⟩ 32 32 (vB (zs 4)) 105 (vB (H.take 4)).toList Tryd.underlying22 size5d hg2 (by rw [hl]; rfl)
    (fun j u hu => by
      rw [Addr.add_mid, Nat.zero_add, cell_of_row W B1 j _ 24 (0, 0) hg1]
      rw [Array.getElem?_toList] at hu
      simp [vB, List.getElem?_take] at hu ⊢
      exact hu.2) (by rw [hl, vB_size, zs_length]; omega) (fun u hu => by unfold vB at hu; rw [List.toList_toArray] at hu; obtain ⟨y, _, rfl⟩ := List.mem_map.1 hu; rfl)]
  rw [hl, List.take_zero, List.nil_append, List.drop_eq_nil_of_le (by simp [vB, zs]), List.append_nil]
  rfl
theorem four (H : List Int) (hH : H.length = 32) : ∃ a b c d, H.take 4 = [a, b, c, d] := by
  match H, hH with
  | a :: b :: c :: d :: r, _ => exact ⟨a, b, c, d, rfl⟩
section
variable {ops : Array Oper} {rest : List Oper} {o : Oper} {a : Act} {w : World} {Q : Exit → Act → World → Prop}
theorem store96 (hgd : o.guard = none) (x y : Operand) (ho : o.op = .store 105 x y) (g : Nat) (l : List Int) (hx : a.eval x = .pointer (some ⟨g, 0, none⟩)) (hy : a.eval y = .agg (vB l)) (hl : l.length = 4) (old : List Int) (hold : old.length = 4) (hg : w.heap[g]? = some (.cells (vB old) 105))
    (h : wpList Tryd.prog ops Q rest (a.put o.dst undef) (w.setRow g (vB l))) : wpList Tryd.prog ops Q (o :: rest) a w :=
  wpList_store_row hgd 105 x y ho g _ hx hy 105 _ hg (by rw [vB_size, hl]; kernel_rfl) (by rw [vB_size, vB_size, hl, hold]) (vB_all l) h
theorem load96 (hgd : o.guard = none) (x : Operand) (ho : o.op = .load 105 x) (g : Nat) (hx : a.eval x = .pointer (some ⟨g, 0, none⟩)) (l : List Int) (hl : l.length = 4) (hg : w.heap[g]? = some (.cells (vB l) 105))
    (h : wpList Tryd.prog ops Q rest (a.put o.dst (.agg (vB l))) w) : wpList Tryd.prog ops Q (o :: rest) a w :=
  wpList_load_row hgd 105 x ho g hx 105 _ (0, 0) _ hg Tryd.underlying105 rfl (by rw [vB_size, hl]; kernel_rfl) h
end
set_option maxHeartbeats 1000000 in
set_option maxRecDepth 100000 in
theorem sumOf_any (x y : Value) (a b : List Int) (w : World) (hL : Laid w) (ha : PartAt w x a) (hb : PartAt w y b) (hn : a.length + b.length ≤ 1000000) :
    Calls Tryd.prog 63 #[x, y] w fun e w' => e = .returned (.agg (vB ((hashOf (a ++ b)).take 4))) ∧ Below w.heap.size w w' := by
  have h2 := hL.two
  have b1 : Below w.heap.size w (w.alloc (.cells (vB (zs 4)) 105)) := (Below.refl _ _).alloc (Nat.le_refl _) _
  have OF : Hid (Calls Tryd.prog 22 #[.slice (some ⟨w.heap.size + 1, 0, none⟩) 2 2] ((w.alloc (.cells (vB (zs 4)) 105)).alloc (Obj.cells #[x, y] 22)) fun e w' => e = .returned (.agg (vB (hashOf (a ++ b)))) ∧ Below (w.heap.size + 1) (w.alloc (.cells (vB (zs 4)) 105)) w') := by
    have q := of_two x y a b (w.alloc (.cells (vB (zs 4)) 105)) (hL.below b1 h2) (ha.below b1) (hb.below b1) (by omega)
    rw [show (w.alloc (.cells (vB (zs 4)) 105)).heap.size = w.heap.size + 1 by simp] at q
    exact q
  have hl := hashOf_length (a ++ b)
  obtain ⟨c0, c1, c2, c3, h4⟩ := four _ hl
  generalize hashOf (a ++ b) = H at *
  have H4 : Hid (H.take 4 = [c0, c1, c2, c3]) := h4
  have B1 : Hid (Below w.heap.size w (w.alloc (.cells (vB (zs 4)) 105))) := b1
  clear h4 b1
  obtain ⟨avx, bx, ox, cpx, rfl, _⟩ := ha
  obtain ⟨avy, by', oy, cpy, rfl, _⟩ := hb
  go_enter Tryd.func63, Tryd.ntmps63
  go_wp2_with fail
  refine OF.out.mono ?_
  rintro e w3 ⟨rfl, b3⟩
  have k3 : w3.heap[w.heap.size]? = some (.cells (vB (zs 4)) 105) := by rw [b3.block _ (by omega)]; exact heap_alloc_new _ _
  have K3 : Hid (w3.heap[w.heap.size]? = some (.cells (vB (zs 4)) 105)) := k3
  clear k3 OF
  go_wp2_with (first | (refine store24n rfl _ _ rfl H hl rfl rfl ?_; intro w4 f1 f2 _ _; have F1 : Hid (w4.heap[w3.heap.size]? = some (.cells (vB H) 24)) := f1; clear f1))
  have s3 : w.heap.size < w3.heap.size := (Array.getElem?_eq_some_iff.1 K3.out).1
  have s4 : w3.heap.size < w4.heap.size := (Array.getElem?_eq_some_iff.1 F1.out).1
  have hcp : (Builtin.copy_ #[22, 22] 3 #[.slice (some ⟨w4.heap.size, 0, none⟩) 4 4, .slice (some ⟨w3.heap.size, 0, none⟩) 32 32]).run Tryd.prog (w4.alloc (Obj.cells #[.int .u8 0, .int .u8 0, .int .u8 0, .int .u8 0] 105)).drew = .ok (.int .i64 4) ((w4.alloc (Obj.cells #[.int .u8 0, .int .u8 0, .int .u8 0, .int .u8 0] 105)).drew.setRow w4.heap.size #[.int .u8 c0, .int .u8 c1, .int .u8 c2, .int .u8 c3]) := by
    have q := copy4 ((w4.alloc (.cells (vB (zs 4)) 105)).drew) w3.heap.size w4.heap.size H hl (by rw [show (w4.alloc (.cells (vB (zs 4)) 105)).drew.heap = (w4.alloc (.cells (vB (zs 4)) 105)).heap from rfl, Below.heap_alloc _ _ _ s4]; exact F1.out) (heap_alloc_new _ _)
    rw [H4.out] at q
    exact q
  go_region
  have b4 : Below w.heap.size w w4 := B1.out.trans ((b3.trans (f2.mono (by have := b3.size; simpa using this))).mono (by omega))
  have b5 : Below w.heap.size w ((w4.alloc (Obj.cells #[.int .u8 0, .int .u8 0, .int .u8 0, .int .u8 0] 105)).drew.setRow w4.heap.size #[.int .u8 c0, .int .u8 c1, .int .u8 c2, .int .u8 c3]) := below_setRow ((b4.alloc b4.size _).drew) b4.size _
  have k5 : ((w4.alloc (Obj.cells #[.int .u8 0, .int .u8 0, .int .u8 0, .int .u8 0] 105)).drew.setRow w4.heap.size #[.int .u8 c0, .int .u8 c1, .int .u8 c2, .int .u8 c3]).heap[w4.heap.size]? = some (.cells #[.int .u8 c0, .int .u8 c1, .int .u8 c2, .int .u8 c3] 105) := setRow_same (w := (w4.alloc (Obj.cells #[.int .u8 0, .int .u8 0, .int .u8 0, .int .u8 0] 105)).drew) (heap_alloc_new _ _)
  have k6 : ((w4.alloc (Obj.cells #[.int .u8 0, .int .u8 0, .int .u8 0, .int .u8 0] 105)).drew.setRow w4.heap.size #[.int .u8 c0, .int .u8 c1, .int .u8 c2, .int .u8 c3]).heap[w.heap.size]? = some (.cells #[.int .u8 0, .int .u8 0, .int .u8 0, .int .u8 0] 105) := by
    rw [setRow_far _ _ _ _ (by omega)]
    show (w4.alloc _).heap[w.heap.size]? = _
    rw [Below.heap_alloc _ _ _ (by omega), f2.block _ s3]; exact K3.out
  generalize ((w4.alloc (Obj.cells #[.int .u8 0, .int .u8 0, .int .u8 0, .int .u8 0] 105)).drew.setRow w4.heap.size #[.int .u8 c0, .int .u8 c1, .int .u8 c2, .int .u8 c3]) = w5 at *
  have K5 : Hid (w5.heap[w4.heap.size]? = some (.cells (vB [c0, c1, c2, c3]) 105)) := k5
  have K6 : Hid (w5.heap[w.heap.size]? = some (.cells (vB (zs 4)) 105)) := k6
  have B5 : Hid (Below w.heap.size w w5) := b5
  clear hcp k5 k6 b5 b4 b3 f2
  go_wp2_with (first | (refine load96 rfl _ rfl w4.heap.size rfl [c0, c1, c2, c3] rfl K5.out ?_) | (refine store96 rfl _ _ rfl w.heap.size [c0, c1, c2, c3] rfl rfl rfl (zs 4) rfl K6.out ?_))
  rw [H4.out]
  exact bodyPost_ret (v := .agg (vB [c0, c1, c2, c3])) (results_cell_row (p := 4) (ty := 105) Tryd.results63 _ _ w.heap.size 105 _ (0, 0) _ rfl (setRow_same K6.out) Tryd.underlying105 rfl (by kernel_rfl)) rfl ⟨rfl, below_setRow B5.out (Nat.le_refl _) _⟩
end Go.Proofs.YtnpjknnalekdpaaDoor
namespace Go.Proofs.YtnpjknnalekdpaaDoor
set_option linter.unusedSimpArgs false
set_option linter.unusedVariables false
open Go.RowKit
theorem Bytes.cons' {x : Int} {l : List Int} (h0 : 0 ≤ x ∧ x ≤ 255) (h : Bytes l) : Bytes (x :: l) := fun y hy => by
  rcases List.mem_cons.1 hy with rfl | hy
  · exact h0
  · exact h y hy
theorem Bytes.app {a b : List Int} (h : Bytes a) (k : Bytes b) : Bytes (a ++ b) := fun y hy => by
  rcases List.mem_append.1 hy with hy | hy
  · exact h y hy
  · exact k y hy
theorem partRow {w : World} {g : Nat} {l : List Int} (hg : w.heap[g]? = some (.cells (vB l) 5)) (n : Nat) (hn : l.length = n) (h : n ≤ 1000000) : PartAt w (.slice (some ⟨g, 0, none⟩) n n) l :=
  ⟨some ⟨g, 0, none⟩, g, 0, n, by rw [hn], by omega, by omega, fun _ => rfl, range_of_block hg, (Array.getElem?_eq_some_iff.1 hg).1, fun h => by cases h⟩
theorem range_threeF {w : World} {x y z : Value} {t : TypeId} : (w.alloc (Obj.cells #[x, y, z] t)).rangeAt w.heap.size 0 [x, y, z] := fun j v hv => by
  rw [Nat.zero_add, cell_of_row _ _ j _ t (0, 0) (heap_alloc_new _ _)]; simpa using hv
theorem three_partsF {w : World} {x y z : Value} {a b c : List Int} (ha : PartAt w x a) (hb : PartAt w y b) (hc : PartAt w z c) : ∀ (i : Nat) (v : Value) (l : List Int), [x, y, z][i]? = some v → [a, b, c][i]? = some l → PartAt w v l := fun i v l h1 h2 => by
  match i, h1, h2 with
  | 0, h1, h2 => simp at h1 h2; subst h1 h2; exact ha
  | 1, h1, h2 => simp at h1 h2; subst h1 h2; exact hb
  | 2, h1, h2 => simp at h1 h2; subst h1 h2; exact hc
  | n + 3, h1, h2 => simp at h1
/-- The sum of a frame. -/
def sum4 (t : Int) (b : List Int) : List Int := (hashOf ((t :: numB b.length 2) ++ b)).take 4
theorem sum4_length (t : Int) (b : List Int) : (sum4 t b).length = 4 := by unfold sum4; rw [List.length_take, hashOf_length]; rfl
theorem sum4_bytes (t : Int) (b : List Int) : Bytes (sum4 t b) := fun x hx => hashOf_bytes _ x (List.mem_of_mem_take hx)
set_option maxHeartbeats 1000000 in
set_option maxRecDepth 100000 in
/-- The reference's sum. -/
theorem rsum4_any (t : Int) (ht : 0 ≤ t ∧ t ≤ 255) (v : Value) (b : List Int) (w : World) (hp : PartAt w v b) (hb : Bytes b) (hn : b.length ≤ 3000) :
    Calls Tryd.prog 65 #[.int .u8 t, v] w fun e w' => ∃ u, e = .returned u ∧ PartAt w' u (sum4 t b) ∧ Below w.heap.size w w' := by
  have b1 : Below w.heap.size w (w.alloc (.cells #[.int .u8 t] 5)) := (Below.refl _ _).alloc (Nat.le_refl _) _
  have p1 : PartAt (w.alloc (.cells #[.int .u8 t] 5)) (.slice (some ⟨w.heap.size, 0, none⟩) 1 1) [t] := part_new w [t] (by simp)
  have NU : Hid (Calls Tryd.prog 55 #[.int .u64 b.length, .int .i64 2] (w.alloc (.cells #[.int .u8 t] 5)) fun e w' => ∃ g, e = .returned (.slice (some ⟨g, 0, none⟩) 2 2) ∧ PartAt w' (.slice (some ⟨g, 0, none⟩) 2 2) (numB b.length 2) ∧ PartAt w' (.slice (some ⟨w.heap.size, 0, none⟩) 1 1) [t] ∧ PartAt w' v b ∧ Below w.heap.size w w') :=
    (rnumk_any b.length (by omega) (by omega) 2 (by omega) (by omega) _).mono fun e w' ⟨g, r1, r2, r3, r4⟩ => ⟨g, r1, partRow r3 2 (numB_length _ _) (by omega), p1.below r4, (hp.below b1).below r4, b1.trans (r4.mono (by simp))⟩
  have JN : Hid (∀ (w2 : World) (x y z : Value), PartAt w2 x [t] → PartAt w2 y (numB b.length 2) → PartAt w2 z b → Below w.heap.size w w2 → Calls Tryd.prog 21 #[.slice (some ⟨w2.heap.size, 0, none⟩) 3 3] (w2.alloc (Obj.cells #[x, y, z] 22)) fun e w' => ∃ u, e = .returned u ∧ PartAt w' u ((t :: numB b.length 2) ++ b) ∧ Below w.heap.size w w') := fun w2 x y z hx hy hz k => by
    have kk : Below w2.heap.size w2 (w2.alloc (Obj.cells #[x, y, z] 22)) := (Below.refl _ _).alloc (Nat.le_refl _) _
    refine (join_any w2.heap.size 0 3 3 [x, y, z] [[t], numB b.length 2, b] rfl rfl _ (by simp) range_threeF (by simp) (three_partsF (hx.below kk) (hy.below kk) (hz.below kk)) (by simp [numB_length]; omega) (by omega)).mono ?_
    rintro e w5 ⟨u, rfl, o5, b5⟩
    have b05 : Below w.heap.size w w5 := k.trans (kk.trans (b5.mono (by simp)) |>.mono k.size)
    refine ⟨u, rfl, ?_, b05⟩
    have := o5.partG (by have := b5.size; simp at this; omega)
    simpa using this
  have SM : Hid (∀ (w3 : World) (u : Value), PartAt w3 u ((t :: numB b.length 2) ++ b) → Calls Tryd.prog 20 #[u] w3 fun e w' => e = .returned (.agg (vB (hashOf ((t :: numB b.length 2) ++ b)))) ∧ Below w3.heap.size w3 w') := fun w3 u q => rsum_any u _ w3 q (by simp [numB_length]; omega) ((Bytes.cons' ht (numB_bytes _ _)).app hb)
  have hl := hashOf_length ((t :: numB b.length 2) ++ b)
  have ES : Hid (sum4 t b = (hashOf ((t :: numB b.length 2) ++ b)).take 4) := rfl
  generalize sum4 t b = S4 at *
  generalize hashOf ((t :: numB b.length 2) ++ b) = H at *
  have hw64 : IntKind.u64.wrap (b.length : Int) = (b.length : Int) := by rw [show IntKind.u64.wrap (b.length : Int) = (b.length : Int) % 18446744073709551616 from rfl]; omega
  have hw65 : (b.length : Int) % 18446744073709551616 = (b.length : Int) := by omega
  obtain ⟨avb, bb, ob, cpb, rfl, _⟩ := hp
  clear b1 p1
  go_enter Tryd.func65, Tryd.ntmps65
  go_wp2_with fail
  refine NU.out.mono ?_
  rintro e w2 ⟨g, rfl, q2, q1, q3, k2⟩
  have J2 : Hid (Calls Tryd.prog 21 #[.slice (some ⟨w2.heap.size, 0, none⟩) 3 3] (w2.alloc (Obj.cells #[.slice (some ⟨w.heap.size, 0, none⟩) 1 1, .slice (some ⟨g, 0, none⟩) 2 2, .slice avb b.length cpb] 22)) fun e w' => ∃ u, e = .returned u ∧ PartAt w' u ((t :: numB b.length 2) ++ b) ∧ Below w.heap.size w w') := JN.out w2 _ _ _ q1 q2 q3 k2
  clear q1 q2 q3 NU JN
  go_wp2_with fail
  refine J2.out.mono ?_
  rintro e w3 ⟨u, rfl, q3, k3⟩
  have S3 := SM.out w3 u q3
  have S3' : Hid (Calls Tryd.prog 20 #[u] w3 fun e w' => e = .returned (.agg (vB H)) ∧ Below w3.heap.size w3 w') := S3
  clear S3 q3 J2 SM k2
  go_wp2_with fail
  refine S3'.out.mono ?_
  rintro e w4 ⟨rfl, k4⟩
  clear S3'
  go_wp2_with (first | (refine store24n rfl _ _ rfl H hl rfl rfl ?_; intro w5 f1 f2 _ _; have F1 : Hid (w5.heap[w4.heap.size]? = some (.cells (vB H) 24)) := f1; clear f1))
  go_ret
  have b5 : Below w.heap.size w w5 := k3.trans ((k4.trans (f2.mono k4.size)).mono k3.size)
  refine ⟨_, rfl, ?_, b5⟩
  rw [ES.out]
  refine ⟨some ⟨w4.heap.size, 0, none⟩, w4.heap.size, 0, 32, ?_, ?_, by omega, fun _ => rfl, ?_, (Array.getElem?_eq_some_iff.1 F1.out).1, fun h => by cases h⟩
  · rw [List.length_take, hl]; rfl
  · rw [List.length_take, hl]; omega
  · intro j u hu
    have := range_of_block F1.out j u (by simp [vB, List.getElem?_take] at hu ⊢; exact hu.2)
    exact this
end Go.Proofs.YtnpjknnalekdpaaDoor
