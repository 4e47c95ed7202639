import Derived.Test.YtplihbncmmggjaaDoorKn
import Derived.Laws.Bits64b
namespace Go.Proofs.YtplihbncmmggjaaDoor
set_option linter.unusedSimpArgs false
set_option linter.unusedVariables false
open Go.RowKit
set_option maxRecDepth 100000 in
set_option maxHeartbeats 400000 in
theorem done_h (p : Value) (st : Option (List Int)) (w : World) (h : RHnd w p st) : Calls Tryd.prog 93 #[p] w fun e w' => e = .returned (.bool (!badB st && stLen st == 0)) ∧ w' = w := by
  have C : Hid (Calls Tryd.prog 100 #[p] w fun e w' => e = .returned (.bool (badB st)) ∧ w' = w) := rBad_h p st w h
  have D : Hid (Calls Tryd.prog 101 #[p] w fun e w' => e = .returned (.int .i64 (stLen st)) ∧ w' = w) := left_h p st w h
  clear h
  cases st with
  | none =>
    go_enter Tryd.func93, Tryd.ntmps93
    go_wp2_with (first | (go_at_call 100; refine C.out.mono ?_; rintro e w' ⟨rfl, h'⟩; have h'' := h'.symm; clear h'; subst h''; rw [show badB none = true from rfl]))
    go_ret
    exact ⟨rfl, rfl⟩
  | some l =>
    go_enter Tryd.func93, Tryd.ntmps93
    go_wp2_with (first | (go_at_call 100; refine C.out.mono ?_; rintro e w' ⟨rfl, h'⟩; have h'' := h'.symm; clear h'; subst h''; rw [show badB (some l) = false from rfl]) | (go_at_call 101; refine D.out.mono ?_; rintro e w' ⟨rfl, h'⟩; have h'' := h'.symm; clear h'; subst h''))
    go_ret
    refine ⟨?_, rfl⟩
    simp [badB, stLen]; rw [Bool.eq_iff_iff]; simp
section
variable {ops : Array Oper} {rest : List Oper} {o : Oper} {a : Act} {w : World} {Q : Exit → Act → World → Prop}
end
set_option maxRecDepth 100000 in
set_option maxHeartbeats 400000 in
theorem rtruth_h (p : Value) (st : Option (List Int)) (w : World) (h : RHnd w p st) : Calls Tryd.prog 97 #[p] w (Rread w p (rtruthSt st) (.bool (rtruthV st))) := by
  have C : Hid (Calls Tryd.prog 88 #[p, .int .i64 1] w (Rread w p (rnumSt st 1) (.int .u64 (rnumV st 1)))) := rnumber_h p st 1 w h
  have F : Hid (∀ W, RHnd W p (rnumSt st 1) → Calls Tryd.prog 95 #[p] W (Rread W p none (.tuple #[]))) := fun W hW => rFail_h p _ W hW
  have E1 : Hid (rtruthSt st = if 1 < rnumV st 1 then none else rnumSt st 1) := rfl
  have E2 : Hid (rtruthV st = (rnumV st 1 == 1)) := rfl
  clear h
  generalize rnumV st 1 = N at *
  generalize rnumSt st 1 = S1 at *
  by_cases hn : 1 < N
  · go_enter Tryd.func97, Tryd.ntmps97
    go_wp2_with (first | (go_at_call 88; refine C.out.mono ?_; rintro e w1 ⟨rfl, h1, g1⟩; have H1 : Hid (RHnd w1 p S1) := h1; clear h1) | (go_at_call 95; refine (F.out _ H1.out).mono ?_; rintro e w2 ⟨rfl, h2, g2⟩))
    go_ret
    rw [E1.out, E2.out, if_pos hn]
    exact ⟨rfl, h2, grown_trans g1 g2⟩
  · go_enter Tryd.func97, Tryd.ntmps97
    go_wp2_with (first | (go_at_call 88; refine C.out.mono ?_; rintro e w1 ⟨rfl, h1, g1⟩; have H1 : Hid (RHnd w1 p S1) := h1; clear h1))
    go_ret
    rw [E1.out, E2.out, if_neg (by omega)]
    exact ⟨rfl, H1.out, g1⟩
def rtextSt (st : Option (List Int)) : Option (List Int) := takeSt (rnumSt st 2) (rnumV st 2).toNat
def rtextV (st : Option (List Int)) : List Int := takeV (rnumSt st 2) (rnumV st 2).toNat
set_option maxRecDepth 100000 in
theorem rnumV_two {w : World} {p : Value} {st : Option (List Int)} (h : RHnd w p st) : 0 ≤ rnumV st 2 ∧ rnumV st 2 ≤ 65535 := by
  have e : rnumV st 2 = valB (takeV st 2) := by unfold rnumV; rw [show sizeB 2 = true from rfl]; rfl
  have hl := takeV_length st 2
  have := valB_bound (takeV st 2).length (takeV st 2) rfl (by omega) (takeV_bytes h 2)
  rw [e]
  have h3 : (takeV st 2).length = 0 ∨ (takeV st 2).length = 1 ∨ (takeV st 2).length = 2 := by omega
  rcases h3 with h3 | h3 | h3 <;> (rw [h3] at this; omega)
set_option maxRecDepth 100000 in
set_option maxHeartbeats 400000 in
theorem rtext_h (p : Value) (st : Option (List Int)) (w : World) (h : RHnd w p st) : Calls Tryd.prog 99 #[p] w (Rread w p (rtextSt st) (.string (strOfNums (rtextV st)))) := by
  have C : Hid (Calls Tryd.prog 88 #[p, .int .i64 2] w (Rread w p (rnumSt st 2) (.int .u64 (rnumV st 2)))) := rnumber_h p st 2 w h
  have hN := rnumV_two h
  obtain ⟨N, hNe⟩ : ∃ N : Nat, rnumV st 2 = (N : Int) := ⟨(rnumV st 2).toNat, by omega⟩
  have E1 : Hid (rtextSt st = takeSt (rnumSt st 2) N) := by unfold Hid rtextSt; rw [hNe]; rfl
  have E2 : Hid (rtextV st = takeV (rnumSt st 2) N) := by unfold Hid rtextV; rw [hNe]; rfl
  rw [hNe] at C hN
  have F : Hid (∀ W, RHnd W p (rnumSt st 2) → Calls Tryd.prog 96 #[p, .int .i64 N] W (Rread W p (takeSt (rnumSt st 2) N) (.string (strOfNums (takeV (rnumSt st 2) N))))) := fun W hW => take_h p _ N (by omega) W hW
  have hlen := takeV_length (rnumSt st 2) N
  have K : Hid (∀ W, Calls Tryd.prog 94 #[.string (strOfNums (takeV (rnumSt st 2) N))] W fun e w' => e = .returned (.string (strOfNums (takeV (rnumSt st 2) N))) ∧ Below W.heap.size W w') := fun W => clone_any _ W (by rw [strOfNums_size]; omega)
  clear h hNe hlen
  generalize rnumSt st 2 = S1 at *
  generalize takeV S1 N = V at *
  generalize hSV : strOfNums V = SV at *
  have HSV : Hid (strOfNums V = SV) := hSV
  clear hSV
  go_enter Tryd.func99, Tryd.ntmps99
  go_wp2_with (first | (go_at_call 88; refine C.out.mono ?_; rintro e w1 ⟨rfl, h1, g1⟩; have H1 : Hid (RHnd w1 p S1) := h1; clear h1) | (go_at_call 96; refine (F.out _ H1.out).mono ?_; rintro e w2 ⟨rfl, h2, g2⟩; have H2 : Hid (RHnd w2 p (takeSt S1 N)) := h2; clear h2) | (go_at_call 94; refine (K.out _).mono ?_; rintro e w3 ⟨rfl, b3⟩))
  go_ret
  rw [E1.out, E2.out, HSV.out]
  exact ⟨rfl, H2.out.below b3, grown_trans g1 (grown_trans g2 (grown_below b3 _))⟩
def rhashV (st : Option (List Int)) : List Int := if (takeV st 32).length = 32 then takeV st 32 else zs 32
set_option maxRecDepth 100000 in
theorem takeV_32 (st : Option (List Int)) : (takeV st 32).length = 32 ∨ takeV st 32 = [] := by
  unfold takeV
  split
  · split
    · left; simp; omega
    · right; rfl
  · right; rfl
section
variable {ops : Array Oper} {rest : List Oper} {o : Oper} {a : Act} {w : World} {Q : Exit → Act → World → Prop}
set_option maxRecDepth 100000 in
theorem load32 (hgd : o.guard = none) (x : Operand) (ho : o.op = .load 24 x) (g : Nat) (hx : a.eval x = .pointer (some ⟨g, 0, none⟩)) (l : List Int) (hl : l.length = 32) (t : TypeId) (hg : w.heap[g]? = some (.cells (vB l) t))
    (h : wpList Tryd.prog ops Q rest (a.put o.dst (.agg (vB l))) w) : wpList Tryd.prog ops Q (o :: rest) a w :=
  wpList_load_row hgd 24 x ho g hx t _ (0, 0) _ hg Tryd.underlying24 rfl (by rw [vB_size, hl]; kernel_rfl) h
set_option maxRecDepth 100000 in
theorem store32 (hgd : o.guard = none) (x y : Operand) (ho : o.op = .store 24 x y) (g : Nat) (l : List Int) (hx : a.eval x = .pointer (some ⟨g, 0, none⟩)) (hy : a.eval y = .agg (vB l)) (hl : l.length = 32) (t : TypeId) (old : List Int) (hold : old.length = 32) (hg : w.heap[g]? = some (.cells (vB old) t))
    (h : wpList Tryd.prog ops Q rest (a.put o.dst undef) (w.setRow g (vB l))) : wpList Tryd.prog ops Q (o :: rest) a w :=
  wpList_store_row hgd 24 x y ho g _ hx hy t _ hg (by rw [vB_size, hl]; kernel_rfl) (by rw [vB_size, vB_size, hl, hold]) (vB_all l) h
end
set_option maxRecDepth 100000 in
theorem zero32 (W : World) : (zeroValue 24).run Tryd.prog W = .ok (.agg (vB (zs 32))) W := by kernel_rfl
set_option maxRecDepth 100000 in
theorem copy32 (w : World) (B : Nat) (s : List Int) (hb : Bytes s) (hs : s.length = 32) (hg : w.heap[B]? = some (.cells (vB (zs 32)) 24)) :
    (Builtin.copy_ #[22, 9] 3 #[.slice (some ⟨B, 0, none⟩) 32 32, .string (strOfNums s)]).run Tryd.prog w = .ok (.int .i64 32) (w.setRow B (vB s)) := by
  have hz := strOfNums_size s
  rw [Lib.run_copy_row_string (P := Tryd.prog) w 22 9 3 5 B 0 32 32 (strOfNums s) _ 24 Tryd.underlying22 size5 hg (by omega) (by rw [hz, vB_size]; simp [zs_length, hs])]
  rw [byteCells_nB, nB_str s hb, hz, hs, List.take_zero, List.nil_append, List.drop_eq_nil_of_le (by simp [vB, zs]), List.append_nil]
  rfl
set_option maxRecDepth 100000 in
theorem RHnd.up {w w' : World} {p : Value} {st : Option (List Int)} (h : RHnd w p st) (hk : ∀ k, pb p = some k → w'.heap[k]? = w.heap[k]?) : RHnd w' p st := by
  rcases h with h | ⟨g, rfl, h⟩
  · exact Or.inl h
  · exact Or.inr ⟨g, rfl, h.keep (hk g rfl)⟩
set_option maxRecDepth 100000 in
theorem RHnd.pb_lt {w : World} {p : Value} {st : Option (List Int)} (h : RHnd w p st) : ∀ k, pb p = some k → k < w.heap.size := fun k hk => by
  rcases h with ⟨rfl, _⟩ | ⟨g, rfl, h⟩
  · cases hk
  · injection hk with hk; subst hk; exact h.lt
set_option maxRecDepth 100000 in
theorem grown_of_below {B : Nat} {a b c : World} {row : Option Nat} (h : a.grownBy b row) (hB : B ≤ a.heap.size) (k : Below B b c) (hk : ∀ j, j < a.heap.size → B ≤ j → c.heap[j]? = b.heap[j]?) : a.grownBy c row :=
  ⟨k.os.trans h.os, k.tape.trans h.tape, k.output.trans h.output, Nat.le_trans h.size k.size, fun i hi hr => by
    rcases Nat.lt_or_ge i B with h1 | h1
    · rw [k.block i h1]; exact h.block i hi hr
    · rw [hk i hi h1]; exact h.block i hi hr⟩
set_option maxHeartbeats 1000000 in
set_option maxRecDepth 100000 in
theorem rhash_h (p : Value) (st : Option (List Int)) (w : World) (h : RHnd w p st) : Calls Tryd.prog 98 #[p] w (Rread w p (takeSt st 32) (.agg (vB (rhashV st)))) := by
  have hz := zero32
  have b1 : Below w.heap.size w ((w.alloc (.cells (vB (zs 32)) 24)).alloc (.cells (vB (zs 32)) 24)).drew := (((Below.refl _ _).alloc (Nat.le_refl _) _).alloc (by simp) _).drew
  have hlt := h.pb_lt
  have hbv := takeV_bytes h 32
  have F : Hid (Calls Tryd.prog 96 #[p, .int .i64 32] ((w.alloc (.cells (vB (zs 32)) 24)).alloc (.cells (vB (zs 32)) 24)).drew fun e w1 => e = .returned (.string (strOfNums (takeV st 32))) ∧ RHnd w1 p (takeSt st 32) ∧ w.grownBy w1 (pb p) ∧ w1.heap[w.heap.size]? = some (.cells (vB (zs 32)) 24) ∧ w1.heap[w.heap.size + 1]? = some (.cells (vB (zs 32)) 24) ∧ w.heap.size + 2 ≤ w1.heap.size) :=
    (take_h p st 32 (by omega) _ (h.below b1)).mono fun e w1 ⟨he, h1, h2⟩ => ⟨he, h1, grown_trans (grown_below b1 _) h2, by
      rw [h2.block _ (by simp; omega) (fun e => by have := hlt _ e.symm; omega)]; exact heap_alloc2_old w _ _, by
      rw [h2.block _ (by simp) (fun e => by have := hlt _ e.symm; omega)]; exact heap_alloc2_new w _ _, by
      have := h2.size; simpa using this⟩
  have E : Hid (rhashV st = if (takeV st 32).length = 32 then takeV st 32 else zs 32) := rfl
  have hv := takeV_32 st
  clear h b1
  generalize takeV st 32 = V at *
  generalize takeSt st 32 = T at *
  rcases hv with hv | hv
  · have E0 : Hid (rhashV st = V) := by unfold Hid; rw [E.out, if_pos hv]
    have HB : Hid (Bytes V) := hbv
    clear hbv
    go_enter Tryd.func98, Tryd.ntmps98
    go_wp2_with fail
    go_region_with (first | (go_at_call 96; refine F.out.mono ?_; rintro e w1 ⟨rfl, h1, g1, k0, k1, s1⟩; have hcp := copy32 w1 _ V HB.out hv k1))
    all_goals
      have m1 := setRow_same (cs' := vB V) k1
      have m0 : (w1.setRow (w.heap.size + 1) (vB V)).heap[w.heap.size]? = some (.cells (vB (zs 32)) 24) := by rw [setRow_far _ _ _ _ (by omega)]; exact k0
      have B2 : Hid (Below w.heap.size w1 (w1.setRow (w.heap.size + 1) (vB V))) := below_setRow (Below.refl _ _) (by omega) _
      have H1 : Hid (RHnd w1 p T) := h1
      clear hcp k0 k1 h1 hz
      generalize w1.setRow (w.heap.size + 1) (vB V) = w2 at *
      go_wp2_with (first | (refine load32 rfl _ rfl _ rfl V hv 24 m1 ?_) | (refine store32 rfl _ _ rfl _ V rfl rfl hv 24 (zs 32) rfl m0 ?_))
      refine bodyPost_ret (v := .agg (vB V)) (results_cell_row (p := 2) (ty := 24) Tryd.results98 _ _ w.heap.size 24 _ (0, 0) _ rfl (setRow_same m0) Tryd.underlying24 rfl (by rw [vB_size, hv]; kernel_rfl)) rfl ?_
      have b3 : Below w.heap.size w1 (w2.setRow w.heap.size (vB V)) := below_setRow B2.out (Nat.le_refl _) _
      rw [E0.out]
      exact ⟨rfl, H1.out.up (fun k hk => b3.block k (hlt k hk)), grown_of_below g1 (Nat.le_refl _) b3 (fun j h1 h2 => by omega)⟩
  · have E0 : Hid (rhashV st = zs 32) := by unfold Hid; rw [E.out, hv]; rfl
    subst hv
    clear hbv
    go_enter Tryd.func98, Tryd.ntmps98
    go_wp2_with fail
    go_region_with (first | (go_at_call 96; refine F.out.mono ?_; rintro e w1 ⟨rfl, h1, g1, k0, k1, s1⟩; have hcp := Lib.run_copy_empty_string (P := Tryd.prog) w1 22 9 3 5 (some ⟨w.heap.size + 1, 0, none⟩) 32 32 (strOfNums []) Tryd.underlying22 (by rw [size5]; rfl) rfl))
    all_goals
      have H1 : Hid (RHnd w1 p T) := h1
      clear hcp h1 hz
      go_wp2_with (first | (refine load32 rfl _ rfl _ rfl (zs 32) rfl 24 k1 ?_) | (refine store32 rfl _ _ rfl _ (zs 32) rfl rfl rfl 24 (zs 32) rfl k0 ?_))
      refine bodyPost_ret (v := .agg (vB (zs 32))) (results_cell_row (p := 2) (ty := 24) Tryd.results98 _ _ w.heap.size 24 _ (0, 0) _ rfl (setRow_same k0) Tryd.underlying24 rfl (by rw [vB_size, zs_length]; kernel_rfl)) rfl ?_
      have b3 : Below w.heap.size w1 (w1.setRow w.heap.size (vB (zs 32))) := below_setRow (Below.refl _ _) (Nat.le_refl _) _
      rw [E0.out]
      exact ⟨rfl, H1.out.up (fun k hk => b3.block k (hlt k hk)), grown_of_below g1 (Nat.le_refl _) b3 (fun j h1 h2 => by omega)⟩
end Go.Proofs.YtplihbncmmggjaaDoor
