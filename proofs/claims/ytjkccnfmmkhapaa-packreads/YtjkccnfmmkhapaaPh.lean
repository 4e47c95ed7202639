import Derived.Test.YtjkccnfmmkhapaaPg
namespace Go.Proofs.Ytjkccnfmmkhapaa
set_option linter.unusedSimpArgs false
set_option linter.unusedVariables false
open Go.RowKit
/-- Something that is written. -/
structure It where
  kind : Int
  n : Int
  size : Int
  b : Bool
  s : ByteArray
  h : List Int
structure It.Ok (x : It) : Prop where
  n0 : 0 ≤ x.n
  n1 : x.n ≤ 18446744073709551615
  s1 : x.s.size ≤ 9223372036854775807
  hl : x.h.length = 32
  hb : Bytes x.h
  z0 : -9223372036854775808 ≤ x.size
  z1 : x.size ≤ 9223372036854775807
def itC (x : It) : Array Value := #[.int .u8 x.kind, .int .u64 x.n, .int .i64 x.size, .bool x.b, .string x.s] ++ vB x.h
theorem itC_size (x : It) (h : x.Ok) : (itC x).size = 37 := by simp [itC, vB_size, h.hl]
theorem itC_h (x : It) (j : Nat) (hj : j < x.h.length) : (itC x)[5 + j]? = some (.int .u8 (gi x.h j)) := by
  rw [← vB_at x.h j hj]; unfold itC
  rw [Array.getElem?_append_right (by simp)]
  simp
theorem itC_0 (x : It) : (itC x)[0]? = some (.int .u8 x.kind) := by unfold itC; rw [Array.getElem?_append_left (by simp)]; rfl
theorem itC_1 (x : It) : (itC x)[1]? = some (.int .u64 x.n) := by unfold itC; rw [Array.getElem?_append_left (by simp)]; rfl
theorem itC_2 (x : It) : (itC x)[2]? = some (.int .i64 x.size) := by unfold itC; rw [Array.getElem?_append_left (by simp)]; rfl
theorem itC_3 (x : It) : (itC x)[3]? = some (.bool x.b) := by unfold itC; rw [Array.getElem?_append_left (by simp)]; rfl
theorem itC_4 (x : It) : (itC x)[4]? = some (.string x.s) := by unfold itC; rw [Array.getElem?_append_left (by simp)]; rfl
def itSt (x : It) : Option (List Int) :=
  if x.kind = 0 then numSt x.n x.size else if x.kind = 1 then truthSt x.b else if x.kind = 2 then textSt x.s else some x.h
theorem range_h {w : World} {g : Nat} {x : It} {t : TypeId} (hg : w.heap[g]? = some (.cells (itC x) t)) : w.rangeAt g 5 (vB x.h).toList := fun j v hv => by
  have hj : j < x.h.length := by have := (List.getElem?_eq_some_iff.1 hv).1; rw [Array.length_toList, vB_size] at this; exact this
  rw [row_cell hg (itC_h x j hj)]
  rw [Array.getElem?_toList, vB_at x.h j hj] at hv
  exact hv
set_option maxHeartbeats 1000000 in
set_option maxRecDepth 100000 in
theorem put_h (p : Value) (st : Option (List Int)) (x : It) (hx : x.Ok) (w : World) (hp : Hnd w p st) (hn : stLen st ≤ 90000000) :
    Calls Try.prog 8 #[p, .agg (itC x)] w (Wrote w p (addSt st (itSt x))) := by
  have b1 : Below w.heap.size w (w.alloc (.cells (itC x) 34)) := (Below.refl _ _).alloc (Nat.le_refl _) _
  have hg := heap_alloc_new w (.cells (itC x) 34)
  have c0 := row_cell hg (itC_0 x)
  have c1 := row_cell hg (itC_1 x)
  have c2 := row_cell hg (itC_2 x)
  have c3 := row_cell hg (itC_3 x)
  have c4 := row_cell hg (itC_4 x)
  have ch := range_h hg
  have hp1 := hp.below b1
  have hl := hx.hl
  have hvs : (itC x).size = 37 := itC_size x hx
  have G1 : Hid (∀ w2, (w.alloc (.cells (itC x) 34)).grownBy w2 (pb p) → w.grownBy w2 (pb p)) := fun w2 h => grown_trans (grown_below b1 _) h
  have CN : Hid (Calls Try.prog 22 #[p, .int .u64 x.n, .int .i64 x.size] (w.alloc (.cells (itC x) 34)) (Wrote (w.alloc (.cells (itC x) 34)) p (addSt st (numSt x.n x.size)))) := number_h p st x.n hx.n0 hx.n1 x.size _ hp1 (by omega)
  have CT : Hid (Calls Try.prog 23 #[p, .bool x.b] (w.alloc (.cells (itC x) 34)) (Wrote (w.alloc (.cells (itC x) 34)) p (addSt st (truthSt x.b)))) := truth_h p st x.b _ hp1 (by omega)
  have CS : Hid (Calls Try.prog 24 #[p, .string x.s] (w.alloc (.cells (itC x) 34)) (Wrote (w.alloc (.cells (itC x) 34)) p (addSt st (textSt x.s)))) := text_h p st x.s hx.s1 _ hp1 hn
  have CH : Hid (Calls Try.prog 25 #[p, .agg (vB x.h)] (w.alloc (.cells (itC x) 34)) (Wrote (w.alloc (.cells (itC x) 34)) p (addSt st (some x.h)))) := hash_h p st x.h hl _ hp1 (by omega)
  clear hp1 hp b1 hg hx hn
  have E : Hid (itSt x = if x.kind = 0 then numSt x.n x.size else if x.kind = 1 then truthSt x.b else if x.kind = 2 then textSt x.s else some x.h) := rfl
  by_cases k0 : x.kind = 0
  · have E0 : Hid (itSt x = numSt x.n x.size) := by unfold Hid; rw [E.out, if_pos k0]
    go_enter Try.func8, Try.ntmps8
    go_wp2_with fail
    refine CN.out.mono ?_
    rintro e w2 ⟨rfl, h2, g2⟩
    go_wp2
    exact fell Try.results8 rfl ⟨rfl, by rw [E0.out]; exact h2, G1.out _ g2⟩
  by_cases k1 : x.kind = 1
  · have E0 : Hid (itSt x = truthSt x.b) := by unfold Hid; rw [E.out, if_neg k0, if_pos k1]
    go_enter Try.func8, Try.ntmps8
    go_wp2_with fail
    refine CT.out.mono ?_
    rintro e w2 ⟨rfl, h2, g2⟩
    go_wp2
    exact fell Try.results8 rfl ⟨rfl, by rw [E0.out]; exact h2, G1.out _ g2⟩
  by_cases k2 : x.kind = 2
  · have E0 : Hid (itSt x = textSt x.s) := by unfold Hid; rw [E.out, if_neg k0, if_neg k1, if_pos k2]
    go_enter Try.func8, Try.ntmps8
    go_wp2_with fail
    refine CS.out.mono ?_
    rintro e w2 ⟨rfl, h2, g2⟩
    go_wp2
    exact fell Try.results8 rfl ⟨rfl, by rw [E0.out]; exact h2, G1.out _ g2⟩
  · have E0 : Hid (itSt x = some x.h) := by unfold Hid; rw [E.out, if_neg k0, if_neg k1, if_neg k2]
    go_enter Try.func8, Try.ntmps8
    go_wp2_with (first | (refine wpList_load_mid rfl 32 _ rfl w.heap.size 5 rfl (vB x.h).toList _ ch Try.underlying32 rfl (by rw [Array.length_toList, vB_size, hl]; kernel_rfl) ?_))
    refine CH.out.mono ?_
    rintro e w2 ⟨rfl, h2, g2⟩
    go_wp2
    exact fell Try.results8 rfl ⟨rfl, by rw [E0.out]; exact h2, G1.out _ g2⟩
end Go.Proofs.Ytjkccnfmmkhapaa
