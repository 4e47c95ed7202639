import Derived.Test.YtjhnnblilfddpaaDoorRows
import Derived.Test.YtjhnnblilfddpaaDoorSpec
import Derived.WalkKit
import Derived.WalkSpells
import Derived.WalkLawsBesides
import Derived.BigRegion
import Derived.Deep.MidRow
import Derived.Deep.WholeRow
import Derived.Deep.Light
import Derived.KernelRfl
import Derived.BigQuiet
import Derived.Deep.QuietTactic
namespace Go.Proofs.YtjhnnblilfddpaaDoor
set_option linter.unusedSimpArgs false
set_option linter.unusedVariables false
open Go.RowKit
set_option maxHeartbeats 400000 in
theorem rot_any (x k : Int) (w : World) (hk : rotOk k = true) :
    Calls Tryd.prog 68 #[.int .u32 x, .int .i64 k] w fun e w' => e = .returned (.int .u32 (rotl k x)) ∧ w' = w := by
  have hk' := of_decide_eq_true hk
  obtain ⟨s, hs⟩ : ∃ s : Nat, rotBy k = 32 - (s : Int) := ⟨(32 - rotBy k).toNat, by omega⟩
  have a1 : 0 ≤ 32 - (s : Int) := by omega
  have a2 : 32 - (s : Int) ≤ 31 := by omega
  have hf : rotl k x = bits BinOp.or IntKind.u32 (x * 2 ^ (32 - s) % 4294967296) (x / 2 ^ (32 - (32 - s))) := by
    unfold rotl rotr; rw [show 32 - (rotBy k).toNat = s by omega, show 32 - (32 - s) = s by omega]
  have HF : Hid (rotl k x = bits BinOp.or IntKind.u32 (x * 2 ^ (32 - s) % 4294967296) (x / 2 ^ (32 - (32 - s)))) := hf
  have hb : bits BinOp.and IntKind.u64 (IntKind.u64.wrap k) 31 = 32 - (s : Int) := hs
  clear hf hk' hk hs
  go_enter Tryd.func68, Tryd.ntmps68
  go_wp2
  go_ret
  exact ⟨by rw [HF.out]; rfl, rfl⟩

theorem row_cell {w : World} {g j : Nat} {cs : Array Value} {t : TypeId} {v : Value} (hg : w.heap[g]? = some (.cells cs t)) (h : cs[j]? = some v) : w.cell? ⟨g, j, none⟩ = some v := by
  rw [cell_of_row w g j cs t (0, 0) hg, h]
theorem alloc3_at2 (w : World) (A B C : Obj) : (((w.alloc A).alloc B).alloc C).heap[w.heap.size + 1 + 1]? = some C := by
  have h := heap_alloc_new ((w.alloc A).alloc B) C
  have e : ((w.alloc A).alloc B).heap.size = w.heap.size + 1 + 1 := by simp
  rwa [e] at h
theorem alloc3_at1 (w : World) (A B C : Obj) : (((w.alloc A).alloc B).alloc C).heap[w.heap.size + 1]? = some B := by
  rw [Below.heap_alloc _ _ _ (by simp)]
  exact heap_alloc2_new w A B
theorem alloc3_at0 (w : World) (A B C : Obj) : (((w.alloc A).alloc B).alloc C).heap[w.heap.size]? = some A := by
  rw [Below.heap_alloc _ _ _ (by simp; omega)]
  exact heap_alloc2_old w A B
theorem vW_all (l : List Int) : (vW l).all (·.oneCell') = true := by
  apply all_oneCell_toArray; intro v hv; simp at hv; obtain ⟨x, _, rfl⟩ := hv; rfl
theorem vB_all (l : List Int) : (vB l).all (·.oneCell') = true := by
  apply all_oneCell_toArray; intro v hv; simp at hv; obtain ⟨x, _, rfl⟩ := hv; rfl
section
variable {ops : Array Oper} {rest : List Oper} {o : Oper} {a : Act} {w : World} {Q : Exit → Act → World → Prop}
/-- A whole row of words (type 77: 64 of them; 34: 8) or bytes (24: 32; 35: 64) out of its own block. -/
theorem load44 (hgd : o.guard = none) (x : Operand) (ho : o.op = .load 77 x) (g : Nat) (hx : a.eval x = .pointer (some ⟨g, 0, none⟩)) (l : List Int) (hl : l.length = 64) (t : TypeId) (hg : w.heap[g]? = some (.cells (vW l) t))
    (h : wpList Tryd.prog ops Q rest (a.put o.dst (.agg (vW l))) w) : wpList Tryd.prog ops Q (o :: rest) a w :=
  wpList_load_row hgd 77 x ho g hx t _ (0, 0) _ hg Tryd.underlying77 rfl (by rw [vW_size, hl]; kernel_rfl) h
theorem load35 (hgd : o.guard = none) (x : Operand) (ho : o.op = .load 34 x) (g : Nat) (hx : a.eval x = .pointer (some ⟨g, 0, none⟩)) (l : List Int) (hl : l.length = 8) (t : TypeId) (hg : w.heap[g]? = some (.cells (vW l) t))
    (h : wpList Tryd.prog ops Q rest (a.put o.dst (.agg (vW l))) w) : wpList Tryd.prog ops Q (o :: rest) a w :=
  wpList_load_row hgd 34 x ho g hx t _ (0, 0) _ hg Tryd.underlying34 rfl (by rw [vW_size, hl]; kernel_rfl) h
theorem load24 (hgd : o.guard = none) (x : Operand) (ho : o.op = .load 24 x) (g : Nat) (hx : a.eval x = .pointer (some ⟨g, 0, none⟩)) (l : List Int) (hl : l.length = 32) (t : TypeId) (hg : w.heap[g]? = some (.cells (vB l) t))
    (h : wpList Tryd.prog ops Q rest (a.put o.dst (.agg (vB l))) w) : wpList Tryd.prog ops Q (o :: rest) a w :=
  wpList_load_row hgd 24 x ho g hx t _ (0, 0) _ hg Tryd.underlying24 rfl (by rw [vB_size, hl]; kernel_rfl) h
theorem load36 (hgd : o.guard = none) (x : Operand) (ho : o.op = .load 35 x) (g : Nat) (hx : a.eval x = .pointer (some ⟨g, 0, none⟩)) (l : List Int) (hl : l.length = 64) (t : TypeId) (hg : w.heap[g]? = some (.cells (vB l) t))
    (h : wpList Tryd.prog ops Q rest (a.put o.dst (.agg (vB l))) w) : wpList Tryd.prog ops Q (o :: rest) a w :=
  wpList_load_row hgd 35 x ho g hx t _ (0, 0) _ hg Tryd.underlying35 rfl (by rw [vB_size, hl]; kernel_rfl) h
theorem store44 (hgd : o.guard = none) (x y : Operand) (ho : o.op = .store 77 x y) (g : Nat) (l : List Int) (hx : a.eval x = .pointer (some ⟨g, 0, none⟩)) (hy : a.eval y = .agg (vW l)) (hl : l.length = 64) (t : TypeId) (old : List Int) (hold : old.length = 64) (hg : w.heap[g]? = some (.cells (vW old) t))
    (h : wpList Tryd.prog ops Q rest (a.put o.dst undef) (w.setRow g (vW l))) : wpList Tryd.prog ops Q (o :: rest) a w :=
  wpList_store_row hgd 77 x y ho g _ hx hy t _ hg (by rw [vW_size, hl]; kernel_rfl) (by rw [vW_size, vW_size, hl, hold]) (vW_all l) h
theorem store35 (hgd : o.guard = none) (x y : Operand) (ho : o.op = .store 34 x y) (g : Nat) (l : List Int) (hx : a.eval x = .pointer (some ⟨g, 0, none⟩)) (hy : a.eval y = .agg (vW l)) (hl : l.length = 8) (t : TypeId) (old : List Int) (hold : old.length = 8) (hg : w.heap[g]? = some (.cells (vW old) t))
    (h : wpList Tryd.prog ops Q rest (a.put o.dst undef) (w.setRow g (vW l))) : wpList Tryd.prog ops Q (o :: rest) a w :=
  wpList_store_row hgd 34 x y ho g _ hx hy t _ hg (by rw [vW_size, hl]; kernel_rfl) (by rw [vW_size, vW_size, hl, hold]) (vW_all l) h
theorem store24 (hgd : o.guard = none) (x y : Operand) (ho : o.op = .store 24 x y) (g : Nat) (l : List Int) (hx : a.eval x = .pointer (some ⟨g, 0, none⟩)) (hy : a.eval y = .agg (vB l)) (hl : l.length = 32) (t : TypeId) (old : List Int) (hold : old.length = 32) (hg : w.heap[g]? = some (.cells (vB old) t))
    (h : wpList Tryd.prog ops Q rest (a.put o.dst undef) (w.setRow g (vB l))) : wpList Tryd.prog ops Q (o :: rest) a w :=
  wpList_store_row hgd 24 x y ho g _ hx hy t _ hg (by rw [vB_size, hl]; kernel_rfl) (by rw [vB_size, vB_size, hl, hold]) (vB_all l) h
end
theorem setRow_same {w : World} {g : Nat} {cs cs' : Array Value} {t : TypeId} (hg : w.heap[g]? = some (.cells cs t)) : (w.setRow g cs').heap[g]? = some (.cells cs' t) := setRow_heap w g cs cs' t (0, 0) hg
theorem setRow_far (w : World) (g k : Nat) (cs : Array Value) (h : k ≠ g) : (w.setRow g cs).heap[k]? = w.heap[k]? := setRow_other w g k cs h
theorem below_setRow {B : Nat} {a w : World} (h : Below B a w) {g : Nat} (hp : B ≤ g) (cs : Array Value) : Below B a (w.setRow g cs) :=
  h.trans ⟨rfl, rfl, rfl, by simp, fun k hk => setRow_far _ _ _ _ (by omega)⟩
end Go.Proofs.YtjhnnblilfddpaaDoor
namespace Go.Proofs.YtjhnnblilfddpaaDoor
set_option linter.unusedSimpArgs false
set_option linter.unusedVariables false
open Go.RowKit
set_option maxHeartbeats 2000000 in
theorem sched_any (bl : List Int) (hb : bl.length = 64) (w : World) :
    Calls Tryd.prog 67 #[.agg (vB bl)] w fun e w' => e = .returned (.agg (vW (sched bl))) ∧ Below w.heap.size w w' := by
  have hsz := vB_size bl
  go_enter Tryd.func67, Tryd.ntmps67
  go_wp2
  go_loopw [10] (fun i wr => ∃ k : Nat, k ≤ 16 ∧ i = .int .i64 k ∧ Below w.heap.size w wr ∧ wr.heap.size = w.heap.size + 3 ∧ wr.heap[w.heap.size]? = some (.cells (vB bl) 35) ∧ wr.heap[w.heap.size + 1]? = some (.cells (vW (zs 64)) 77) ∧ wr.heap[w.heap.size + 1 + 1]? = some (.cells (vW (words16 bl k ++ zs (64 - k))) 77)) (fun i _ => 16 - (intOf i).toNat)
  case atStart =>
    exact ⟨0, by omega, rfl, (((Below.refl _ _).alloc (Nat.le_refl _) _).alloc (by simp) _).alloc (by simp; omega) _, by simp, alloc3_at0 _ _ _ _, alloc3_at1 _ _ _ _, alloc3_at2 _ _ _ _⟩
  case round =>
    obtain ⟨k, hk, rfl, hbl, hsize, hb0, hb1, hb2⟩ := hrel
    by_cases hlt : k < 16
    · have hc0 : wr.cell? ⟨w.heap.size, 4 * k, none⟩ = some (.int .u8 (gi bl (4 * k))) := row_cell hb0 (vB_at _ _ (by omega))
      have hc1 : wr.cell? ⟨w.heap.size, 4 * k + 1, none⟩ = some (.int .u8 (gi bl (4 * k + 1))) := row_cell hb0 (vB_at _ _ (by omega))
      have hc2 : wr.cell? ⟨w.heap.size, 4 * k + 2, none⟩ = some (.int .u8 (gi bl (4 * k + 2))) := row_cell hb0 (vB_at _ _ (by omega))
      have hc3 : wr.cell? ⟨w.heap.size, 4 * k + 3, none⟩ = some (.int .u8 (gi bl (4 * k + 3))) := row_cell hb0 (vB_at _ _ (by omega))
      have hcw : wr.cell? ⟨w.heap.size + 1 + 1, k, none⟩ = some (.int .u32 (gi (words16 bl k ++ zs (64 - k)) k)) := row_cell hb2 (vW_at _ _ (by simp [words16_length, zs_length]; omega))
      have hfw : wr.frozen? ⟨w.heap.size + 1 + 1, k, none⟩ = false := frozen_of_row _ _ _ _ _ hb2
      go_wp2
      go_region
      go_wp2
      go_roundw
      case rel =>
        refine ⟨k + 1, by omega, by go_num, (hbl.setCell (by show w.heap.size ≤ w.heap.size + 1 + 1; omega) _).drew, by simpa using hsize, ?_, ?_, ?_⟩
        · rw [heap_drew, heap_setCell_other _ _ _ _ (by simp; omega)]; exact hb0
        · rw [heap_drew, heap_setCell_other _ _ _ _ (by simp)]; exact hb1
        · rw [heap_drew, heap_setCell_same _ _ _ _ _ _ hb2]
          have e := set_snoc (words16 bl k) (64 - (k + 1)) (wordAt bl k)
          rw [words16_length, show 64 - (k + 1) + 1 = 64 - k by omega] at e
          rw [vW_set]
          exact congrArg (fun l => some (Obj.cells (vW l) 77 (0, 0))) e
      case measure => simp [intOf]; omega
    · have e16 : k = 16 := by omega
      have hb2' : wr.heap[w.heap.size + 1 + 1]? = some (.cells (vW (schedTo bl (16 - 16) ++ zs (64 - 16))) 77) := by rw [hb2, e16]; rfl
      clear e16 hb0 hb2
      go_wp2
      go_loopw [5] (fun i wq => ∃ n : Nat, 16 ≤ n ∧ n ≤ 64 ∧ i = .int .i64 n ∧ Below w.heap.size w wq ∧ wq.heap.size = w.heap.size + 3 ∧ wq.heap[w.heap.size + 1]? = some (.cells (vW (zs 64)) 77) ∧ wq.heap[w.heap.size + 1 + 1]? = some (.cells (vW (schedTo bl (n - 16) ++ zs (64 - n))) 77)) (fun i _ => 64 - (intOf i).toNat)
      case atStart => exact ⟨16, by omega, by omega, rfl, hbl, hsize, hb1, hb2'⟩
      case round =>
        clear hb1 hb2' hbl hsize hk hlt
        obtain ⟨n, hn16, hn, rfl, hbl, hsize, hb1, hb2⟩ := hrel
        have hn64 : (schedTo bl (n - 16) ++ zs (64 - n)).length = 64 := by simp [schedTo_length, zs_length]; omega
        have hnl := schedTo_length bl (n - 16)
        by_cases hlt : n < 64
        · have hc : ∀ j, j < n → wr.cell? ⟨w.heap.size + 1 + 1, j, none⟩ = some (.int .u32 (gi (schedTo bl (n - 16)) j)) := fun j hj => by
            rw [row_cell hb2 (vW_at _ _ (by omega))]; rw [gi_append _ _ _ (by omega)]
          have hc2 := hc (n - 2) (by omega)
          have hc15 := hc (n - 15) (by omega)
          have hc7 := hc (n - 7) (by omega)
          have hc16 := hc (n - 16) (by omega)
          have hcn := row_cell hb2 (vW_at _ n (by omega))
          have hfw : wr.frozen? ⟨w.heap.size + 1 + 1, n, none⟩ = false := frozen_of_row _ _ _ _ _ hb2
          clear hc
          go_wp2
          go_quiet (fail)
          go_wp2_with (first | (go_at_call 68; refine (rot_any _ _ _ ?hk).mono ?_; (case hk => decide +kernel); rintro e w' ⟨rfl, rfl⟩))
          go_region
          go_wp2
          go_roundw
          case rel =>
            refine ⟨n + 1, by omega, by omega, by go_num, Below.setCell (below_drewN hbl _) (by show w.heap.size ≤ w.heap.size + 1 + 1; omega) _, by simpa using hsize, ?_, ?_⟩
            · rw [heap_setCell_other _ _ _ _ (by simp)]; exact hb1
            · rw [heap_setCell_same _ _ _ _ _ _ (show (wr.drewN (nq + 1)).heap[w.heap.size + 1 + 1]? = _ from hb2)]
              have e := set_snoc (schedTo bl (n - 16)) (64 - (n + 1)) (nextW (schedTo bl (n - 16)) n)
              rw [hnl, show 64 - (n + 1) + 1 = 64 - n by omega, show 16 + (n - 16) = n by omega] at e
              rw [vW_set]
              rw [show n + 1 - 16 = (n - 16) + 1 by omega]
              show _ = some (Obj.cells (vW ((schedTo bl (n - 16) ++ [nextW (schedTo bl (n - 16)) (16 + (n - 16))]) ++ zs (64 - (n + 1)))) 77 (0, 0))
              rw [show 16 + (n - 16) = n by omega]
              exact congrArg (fun l => some (Obj.cells (vW l) 77 (0, 0))) e
          case measure => simp [intOf]; omega
        · have e64 : n = 64 := by omega
          have hb2' : wr.heap[w.heap.size + 1 + 1]? = some (.cells (vW (sched bl)) 77) := by rw [hb2, e64]; simp [zs, sched]
          clear e64 hb2
          go_wp2_with (first | (refine load44 rfl _ rfl _ rfl (sched bl) (sched_length bl) 77 hb2' ?_) | (refine store44 rfl _ _ rfl _ (sched bl) rfl rfl (sched_length bl) 77 (zs 64) (zs_length 64) hb1 ?_))
          exact bodyPost_ret (v := .agg (vW (sched bl))) (results_cell_row (p := 2) (ty := 77) Tryd.results67 _ _ (w.heap.size + 1) 77 _ (0, 0) _ rfl (setRow_same hb1) Tryd.underlying77 rfl (by rw [vW_size, sched_length]; kernel_rfl)) rfl ⟨rfl, below_setRow hbl (by omega) _⟩
end Go.Proofs.YtjhnnblilfddpaaDoor
namespace Go.Proofs.YtjhnnblilfddpaaDoor
set_option linter.unusedSimpArgs false
set_option linter.unusedVariables false
open Go.RowKit
/-- The two package-level tables lie as the text lays them. -/
structure Laid (w : World) : Prop where
  start : ∀ i, i < 8 → w.cell? ⟨0, i, none⟩ = some (.int .u32 (gi hWords i))
  round : ∀ i, i < 64 → w.cell? ⟨1, i, none⟩ = some (.int .u32 (gi kWords i))
theorem Laid.two {w : World} (h : Laid w) : 2 ≤ w.heap.size := by
  have := block_lt_of_cell (h.round 0 (by omega)); exact this
theorem Laid.below {w w' : World} (h : Laid w) {B : Nat} (hb : Below B w w') (hB : 2 ≤ B) : Laid w' :=
  ⟨fun i hi => by rw [hb.cell (show (0 : Nat) < B by omega)]; exact h.start i hi, fun i hi => by rw [hb.cell (show (1 : Nat) < B by omega)]; exact h.round i hi⟩
set_option maxRecDepth 100000 in
set_option maxHeartbeats 2000000 in
theorem turn_any (ws bl : List Int) (hw : ws.length = 8) (hb : bl.length = 64) (w : World) (hL : Laid w) :
    Calls Tryd.prog 46 #[.agg (vW ws), .agg (vB bl)] w fun e w' => e = .returned (.agg (vW (comp ws bl))) ∧ Below w.heap.size w w' := by
  have hsz := vB_size bl
  have hsw := vW_size ws
  go_enter Tryd.func46, Tryd.ntmps46
  go_wp2_with (first | (refine load36 rfl _ rfl _ rfl bl hb 35 (alloc3_at1 _ _ _ _) ?_))
  have hbw : Below w.heap.size w (((w.alloc (Obj.cells (vW ws) 34)).alloc (Obj.cells (vB bl) 35)).alloc (Obj.cells (vW (zs 8)) 34)) := (((Below.refl _ _).alloc (Nat.le_refl _) _).alloc (by simp) _).alloc (by simp; omega) _
  have hw0 := alloc3_at0 w (Obj.cells (vW ws) 34) (Obj.cells (vB bl) 35) (Obj.cells (vW (zs 8)) 34)
  have hw2 := alloc3_at2 w (Obj.cells (vW ws) 34) (Obj.cells (vB bl) 35) (Obj.cells (vW (zs 8)) 34)
  have hws : (((w.alloc (Obj.cells (vW ws) 34)).alloc (Obj.cells (vB bl) 35)).alloc (Obj.cells (vW (zs 8)) 34)).heap.size = w.heap.size + 3 := by simp
  refine (sched_any bl hb _).mono ?_
  rintro e w1 ⟨rfl, hb1⟩
  replace hb1 : Below (((w.alloc (Obj.cells (vW ws) 34)).alloc (Obj.cells (vB bl) 35)).alloc (Obj.cells (vW (zs 8)) 34)).heap.size (((w.alloc (Obj.cells (vW ws) 34)).alloc (Obj.cells (vB bl) 35)).alloc (Obj.cells (vW (zs 8)) 34)) w1 := hb1
  have f0 : w1.heap[w.heap.size]? = some (Obj.cells (vW ws) 34) := by rw [hb1.block _ (by omega)]; exact hw0
  have f2 : w1.heap[w.heap.size + 1 + 1]? = some (Obj.cells (vW (zs 8)) 34) := by rw [hb1.block _ (by omega)]; exact hw2
  have fs : w.heap.size + 3 ≤ w1.heap.size := by have := hb1.size; omega
  have fb : Below w.heap.size w w1 := hbw.trans (hb1.mono (by omega))
  clear hb1 hws hw2 hw0 hbw
  go_wp2_with (first | (refine store44 rfl _ _ rfl _ (sched bl) rfl rfl (sched_length bl) 77 (zs 64) (zs_length 64) (heap_alloc_new _ _) ?_))
  rw [World.setRow_alloc_new]
  have g0 : (w1.alloc (Obj.cells (vW (sched bl)) 77)).heap[w.heap.size]? = some (Obj.cells (vW ws) 34) := by rw [Below.heap_alloc _ _ _ (by omega)]; exact f0
  have g2 : (w1.alloc (Obj.cells (vW (sched bl)) 77)).heap[w.heap.size + 1 + 1]? = some (Obj.cells (vW (zs 8)) 34) := by rw [Below.heap_alloc _ _ _ (by omega)]; exact f2
  have gS : (w1.alloc (Obj.cells (vW (sched bl)) 77)).heap[w1.heap.size]? = some (Obj.cells (vW (sched bl)) 77) := heap_alloc_new _ _
  have gb : Below w.heap.size w (w1.alloc (Obj.cells (vW (sched bl)) 77)) := fb.alloc (by omega) _
  generalize w1.alloc (Obj.cells (vW (sched bl)) 77) = w2 at *
  generalize w1.heap.size = p at *
  have gL : Laid w2 := hL.below gb hL.two
  clear f0 f2 fb w1
  have hL2 := hL.two
  have c0 := row_cell g0 (vW_at ws 0 (by omega))
  have c1 := row_cell g0 (vW_at ws 1 (by omega))
  have c2 := row_cell g0 (vW_at ws 2 (by omega))
  have c3 := row_cell g0 (vW_at ws 3 (by omega))
  have c4 := row_cell g0 (vW_at ws 4 (by omega))
  have c5 := row_cell g0 (vW_at ws 5 (by omega))
  have c6 := row_cell g0 (vW_at ws 6 (by omega))
  have c7 := row_cell g0 (vW_at ws 7 (by omega))
  go_quiet (fail)
  go_wp2
  go_quiet (fail)
  go_wp2
  go_loopw [6, 7, 8, 9, 10, 11, 12, 13, 39] (fun va vb vc vd ve vf vg vh i wr => ∃ k nq : Nat, k ≤ 64 ∧ i = .int .i64 k ∧ wr = w2.drewN nq ∧ va = .int .u32 (stAt (sched bl) (stOf ws) k).a ∧ vb = .int .u32 (stAt (sched bl) (stOf ws) k).b ∧ vc = .int .u32 (stAt (sched bl) (stOf ws) k).c ∧ vd = .int .u32 (stAt (sched bl) (stOf ws) k).d ∧ ve = .int .u32 (stAt (sched bl) (stOf ws) k).e ∧ vf = .int .u32 (stAt (sched bl) (stOf ws) k).f ∧ vg = .int .u32 (stAt (sched bl) (stOf ws) k).g ∧ vh = .int .u32 (stAt (sched bl) (stOf ws) k).h) (fun _ _ _ _ _ _ _ _ i _ => 64 - (intOf i).toNat)
  case atStart => exact ⟨0, _, by omega, rfl, World.drewN_drewN _ _ _, rfl, rfl, rfl, rfl, rfl, rfl, rfl, rfl⟩
  case round =>
    obtain ⟨k, nr, hk, rfl, rfl, rfl, rfl, rfl, rfl, rfl, rfl, rfl, rfl⟩ := hrel
    generalize hst : stAt (sched bl) (stOf ws) k = s
    by_cases hlt : k < 64
    · have hk1 := gL.round k hlt
      have hs1 := row_cell gS (vW_at (sched bl) k (by rw [sched_length]; exact hlt))
      have HST : Hid (stAt (sched bl) (stOf ws) k = s) := hst
      clear hst
      go_wp2_with (first | (go_at_call 68; refine (rot_any _ _ _ ?hk).mono ?_; (case hk => decide +kernel); rintro e w' ⟨rfl, rfl⟩))
      go_quiet (fail)
      go_wp2_with (first | (go_at_call 68; refine (rot_any _ _ _ ?hk).mono ?_; (case hk => decide +kernel); rintro e w' ⟨rfl, rfl⟩))
      go_roundw
      case rel =>
        have e : stAt (sched bl) (stOf ws) (k + 1) = roundS (gi kWords k) (gi (sched bl) k) s := by rw [← HST.out]; rfl
        refine ⟨k + 1, nr + nq, by omega, by go_num, rfl, ?_⟩
        rw [e]
        exact ⟨rfl, rfl, rfl, rfl, rfl, rfl, rfl, rfl⟩
      case measure => simp [intOf]; omega
    · have ek : k = 64 := by omega
      have HST : Hid (comp ws bl = turned ws s) := by unfold Hid comp; rw [← hst, ek]
      clear hst ek
      go_wp2_with (first | (refine store35 rfl _ _ rfl _ (turned ws s) rfl rfl rfl 34 (zs 8) rfl (show (w2.drewN nr).heap[w.heap.size + 1 + 1]? = _ from g2) ?_))
      exact bodyPost_ret (v := .agg (vW (turned ws s))) (results_cell_row (p := 4) (ty := 34) Tryd.results46 _ _ (w.heap.size + 1 + 1) 34 _ (0, 0) _ rfl (setRow_same (show (w2.drewN nr).heap[w.heap.size + 1 + 1]? = _ from g2)) Tryd.underlying34 rfl (by rw [vW_size]; kernel_rfl)) rfl ⟨by rw [HST.out], below_setRow (below_drewN gb _) (by omega) _⟩
end Go.Proofs.YtjhnnblilfddpaaDoor
