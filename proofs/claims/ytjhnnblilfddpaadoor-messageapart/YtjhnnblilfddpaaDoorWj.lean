import Derived.Test.YtjhnnblilfddpaaDoorWi
namespace Go.Proofs.YtjhnnblilfddpaaDoor
set_option linter.unusedSimpArgs false
set_option linter.unusedVariables false
open Go.RowKit
theorem padL_length (n : Nat) : (padL n).length = padLen n := padTo_length n 8
/-- The hash of bytes. -/
def hashOf (all : List Int) : List Int := outB (wordsOf (all ++ padL all.length))
theorem hashOf_length (all : List Int) : (hashOf all).length = 32 := by unfold hashOf outB; exact outTo_length _ 8
theorem zero38 (W : World) : (zeroValue 37).run Tryd.prog W = .ok (.agg (hObj (zs 8) (zs 64) 0)) W := by kernel_rfl
section
variable {ops : Array Oper} {rest : List Oper} {o : Oper} {a : Act} {w : World} {Q : Exit → Act → World → Prop}
theorem hObj_all (ws bl : List Int) (n : Nat) : (hObj ws bl n).all (·.oneCell') = true := by
  rw [← hObj_of_list]
  apply all_oneCell_toArray; intro v hv
  simp at hv
  rcases hv with ⟨x, _, rfl⟩ | ⟨x, _, rfl⟩ | rfl <;> rfl
theorem load38 (hgd : o.guard = none) (x : Operand) (ho : o.op = .load 37 x) (g : Nat) (hx : a.eval x = .pointer (some ⟨g, 0, none⟩)) (ws bl : List Int) (n : Nat) (hw : ws.length = 8) (hb : bl.length = 64) (hg : w.heap[g]? = some (.cells (hObj ws bl n) 37))
    (h : wpList Tryd.prog ops Q rest (a.put o.dst (.agg (hObj ws bl n))) w) : wpList Tryd.prog ops Q (o :: rest) a w :=
  wpList_load_row hgd 37 x ho g hx 37 _ (0, 0) _ hg Tryd.underlying37 rfl (by rw [hObj_size _ _ _ hw hb]; kernel_rfl) h
theorem store38 (hgd : o.guard = none) (x y : Operand) (ho : o.op = .store 37 x y) (g : Nat) (ws bl : List Int) (n : Nat) (hw : ws.length = 8) (hb : bl.length = 64) (hx : a.eval x = .pointer (some ⟨g, 0, none⟩)) (hy : a.eval y = .agg (hObj ws bl n)) (old : Array Value) (hold : old.size = 73) (hg : w.heap[g]? = some (.cells old 37))
    (h : wpList Tryd.prog ops Q rest (a.put o.dst undef) (w.setRow g (hObj ws bl n))) : wpList Tryd.prog ops Q (o :: rest) a w :=
  wpList_store_row hgd 37 x y ho g _ hx hy 37 _ hg (by rw [hObj_size _ _ _ hw hb]; kernel_rfl) (by rw [hObj_size _ _ _ hw hb, hold]) (hObj_all _ _ _) h
end
theorem setRow_alloc2 (w : World) (A : Obj) (c c' : Array Value) (t : TypeId) : ((w.alloc A).alloc (.cells c t)).setRow (w.heap.size + 1) c' = (w.alloc A).alloc (.cells c' t) := by
  have h := World.setRow_alloc_new (w.alloc A) c c' t
  rwa [show (w.alloc A).heap.size = w.heap.size + 1 by simp] at h
theorem store38n {ops : Array Oper} {rest : List Oper} {o : Oper} {a : Act} {w0 : World} {Q : Exit → Act → World → Prop} (hgd : o.guard = none) (x y : Operand) (ho : o.op = .store 37 x y) (A : Obj) (ws bl : List Int) (n : Nat) (hw : ws.length = 8) (hb : bl.length = 64) (hx : a.eval x = .pointer (some ⟨w0.heap.size + 1, 0, none⟩)) (hy : a.eval y = .agg (hObj ws bl n)) (old : Array Value) (hold : old.size = 73)
    (h : ∀ w2 : World, w2.heap[w0.heap.size]? = some A → w2.heap[w0.heap.size + 1]? = some (.cells (hObj ws bl n) 37) → w2.heap.size = w0.heap.size + 2 → Below w0.heap.size w0 w2 → wpList Tryd.prog ops Q rest (a.put o.dst undef) w2) : wpList Tryd.prog ops Q (o :: rest) a ((w0.alloc A).alloc (.cells old 37)) := by
  refine store38 hgd x y ho (w0.heap.size + 1) ws bl n hw hb hx hy old hold (heap_alloc2_new _ _ _) ?_
  rw [setRow_alloc2]
  exact h _ (heap_alloc2_old _ _ _) (heap_alloc2_new _ _ _) (by simp) (((Below.refl _ _).alloc (Nat.le_refl _) _).alloc (by simp) _)
theorem write_at (hb : Nat) (all bs ws : List Int) (hws : ws.length = 8) (hwa : all ≠ [] → ws = wordsOf all) (w : World) (hL : Laid w) (h2 : 2 ≤ hb)
    (hh : w.heap[hb]? = some (.cells (hObj ws (remB all) all.length) 37)) (av : Option Addr) (b o m cp : Nat) (hm : m = bs.length) (hcp : m ≤ cp) (hcp2 : cp ≤ 9223372036854775807)
    (hav : av = some ⟨b, o, none⟩) (hr : w.rangeAt b o (vB bs).toList) (hne : b ≠ hb) (hn : all.length + bs.length ≤ 1152921504606846976) :
    Calls Tryd.prog 20 #[.pointer (some ⟨hb, 0, none⟩), .slice av m cp] w fun e w' => e = .returned (.tuple #[]) ∧
      w'.heap[hb]? = some (.cells (hObj (wordsOf (all ++ bs)) (remB (all ++ bs)) (all ++ bs).length) 37) ∧ w.grownBy w' (some hb) := by
  subst hm
  exact write_any hb all bs ws hws hwa w hL h2 hh av b o cp hcp hcp2 (fun _ => hav) hr hne hn
theorem range_of_block {w : World} {g : Nat} {l : List Int} {t : TypeId} (hg : w.heap[g]? = some (.cells (vB l) t)) : w.rangeAt g 0 (vB l).toList := fun j v hv => by
  rw [Nat.zero_add, cell_of_row w g j _ t (0, 0) hg]; simpa using hv
theorem range_words {w : World} {g : Nat} {ws bl : List Int} {n : Nat} (hg : w.heap[g]? = some (.cells (hObj ws bl n) 37)) (hws : ws.length = 8) : w.rangeAt g 0 (vW ws).toList := fun j v hv => by
  have hj : j < 8 := by have := (List.getElem?_eq_some_iff.1 hv).1; rw [Array.length_toList, vW_size, hws] at this; exact this
  have e : (vW ws).toList[j]? = some (.int .u32 (gi ws j)) := by have := vW_at ws j (by omega); simpa using this
  rw [e] at hv; cases hv
  rw [Nat.zero_add]; exact row_cell hg (hObj_w ws bl n hws j hj)
set_option maxHeartbeats 400000 in
theorem sum_nil (w : World) : Calls Tryd.prog 21 #[.pointer none] w fun e w' => e = .returned (.agg (vB (zs 32))) ∧ Below w.heap.size w w' := by
  go_enter Tryd.func21, Tryd.ntmps21
  go_wp2_with (first | (refine store24 rfl _ _ rfl _ (zs 32) rfl rfl rfl 24 (zs 32) rfl (heap_alloc_new _ _) ?_))
  rw [World.setRow_alloc_new]
  exact bodyPost_ret (v := .agg (vB (zs 32))) (results_cell_row (p := 2) (ty := 24) Tryd.results21 _ _ w.heap.size 24 _ (0, 0) _ rfl (heap_alloc_new _ _) Tryd.underlying24 rfl (by rw [vB_size]; kernel_rfl)) rfl ⟨rfl, (Below.refl _ _).alloc (Nat.le_refl _) _⟩
set_option maxRecDepth 100000 in
set_option maxHeartbeats 1000000 in
theorem sum_any (hb : Nat) (all ws : List Int) (hws : ws.length = 8) (hwa : all ≠ [] → ws = wordsOf all) (w : World) (hL : Laid w)
    (hh : w.heap[hb]? = some (.cells (hObj ws (remB all) all.length) 37)) (hn : all.length ≤ 1000000000000000000) :
    Calls Tryd.prog 21 #[.pointer (some ⟨hb, 0, none⟩)] w fun e w' => e = .returned (.agg (vB (hashOf all))) ∧ Below w.heap.size w w' := by
  have hbl := remB_length all
  have hlt : hb < w.heap.size := (Array.getElem?_eq_some_iff.1 hh).1
  have hcn := row_cell hh (hObj_n ws _ all.length hws hbl)
  have hh1 : (w.alloc (Obj.cells (vB (zs 32)) 24)).heap[hb]? = some (.cells (hObj ws (remB all) all.length) 37) := by rw [Below.heap_alloc _ _ _ hlt]; exact hh
  have HH1 : Hid ((w.alloc (Obj.cells (vB (zs 32)) 24)).heap[hb]? = some (.cells (hObj ws (remB all) all.length) 37)) := hh1
  clear hh1
  have hz := zero38
  go_enter Tryd.func21, Tryd.ntmps21
  go_wp2_with (first | (refine load38 rfl _ rfl hb rfl ws (remB all) all.length hws hbl HH1.out ?_) | (refine store38n rfl _ _ rfl (Obj.cells (vB (zs 32)) 24) ws (remB all) all.length hws hbl rfl rfl (hObj (zs 8) (zs 64) 0) (hObj_size _ _ _ rfl rfl) ?_; intro w2 f0 f1 fs fb; have hcn2 : w2.cell? ⟨hb, 72, none⟩ = some (.int .i64 (all.length : Int)) := by rw [fb.cell (show hb < w.heap.size from hlt)]; exact hcn))
  refine (pad_any all.length (by omega) _).mono ?_
  rintro e w3 ⟨g, rfl, hg, hpb, hb3⟩
  have hlt1 : w.heap.size + 1 < w2.heap.size := by omega
  have h1 : w3.heap[w.heap.size + 1]? = some (.cells (hObj ws (remB all) all.length) 37) := by rw [hb3.block _ hlt1]; exact f1
  have h0 : w3.heap[w.heap.size]? = some (.cells (vB (zs 32)) 24) := by rw [hb3.block _ (by omega)]; exact f0
  have b3 : Below w.heap.size w w3 := fb.trans (hb3.mono (by omega))
  have s3 : w.heap.size + 2 ≤ w3.heap.size := by have := hb3.size; omega
  clear f0 f1 fb hb3 hcn2 hcn HH1 hz hh
  go_wp2_with fail
  have hpr : w3.rangeAt g 0 (vB (padL all.length)).toList := range_of_block hpb
  have hp72 : padLen all.length ≤ 72 := by unfold padLen; omega
  have hL3 := hL.below b3 hL.two
  have h2 := hL.two
  refine (write_at (w.heap.size + 1) all (padL all.length) ws hws hwa w3 hL3 (by omega) h1 (some ⟨g, 0, none⟩) g 0 (padLen all.length) (padLen all.length) (padL_length _).symm (by omega) (by omega) rfl hpr (by omega) (by rw [padL_length]; omega)).mono ?_
  rintro e w4 ⟨rfl, h4, g4⟩
  have h40 : w4.heap[w.heap.size]? = some (.cells (vB (zs 32)) 24) := by rw [g4.block _ (by omega) (by simp)]; exact h0
  have b4 : Below w.heap.size w w4 := b3.grown g4 (by omega) (fun k hk => by injection hk; omega)
  have s4 : w.heap.size + 2 ≤ w4.heap.size := Nat.le_trans s3 g4.size
  have hr4 : w4.rangeAt (w.heap.size + 1) 0 (vW (wordsOf (all ++ padL all.length))).toList := range_words h4 (wordsOf_length _)
  clear h1 h0 b3 s3 g4 hpr hpb h4 hL3
  go_wp2_with (first | (refine wpList_load_mid rfl 34 _ rfl (w.heap.size + 1) 0 rfl (vW (wordsOf (all ++ padL all.length))).toList _ hr4 Tryd.underlying34 rfl (by rw [Array.length_toList, vW_size, wordsOf_length]; kernel_rfl) ?_))
  refine (bytes_any (wordsOf (all ++ padL all.length)) (wordsOf_length _) _).mono ?_
  rintro e w5 ⟨rfl, b5⟩
  have h50 : w5.heap[w.heap.size]? = some (.cells (vB (zs 32)) 24) := by rw [b5.block _ (by omega)]; exact h40
  have b05 : Below w.heap.size w w5 := b4.trans (b5.mono (by omega))
  clear h40 b4 b5 hr4
  go_wp2_with (first | (refine store24 rfl _ _ rfl _ (hashOf all) rfl rfl (hashOf_length all) 24 (zs 32) rfl h50 ?_))
  exact bodyPost_ret (v := .agg (vB (hashOf all))) (results_cell_row (p := 2) (ty := 24) Tryd.results21 _ _ w.heap.size 24 _ (0, 0) _ rfl (setRow_same h50) Tryd.underlying24 rfl (by rw [vB_size, hashOf_length]; kernel_rfl)) rfl ⟨rfl, below_setRow b05 (Nat.le_refl _) _⟩
end Go.Proofs.YtjhnnblilfddpaaDoor
