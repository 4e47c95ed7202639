import Derived.Test.YtnpjknnalekdpaaGz
import Derived.Laws.Bits64b
import Derived.Test.YtnpjknnalekdpaaGl
namespace Go.Proofs.Ytnpjknnalekdpaa
set_option linter.unusedSimpArgs false
set_option linter.unusedVariables false
open Go.RowKit
set_option maxRecDepth 100000 in
set_option maxHeartbeats 400000 in
theorem done_h (p : Value) (st : Option (List Int)) (w : World) (h : RHnd w p st) : Calls Try.prog 11 #[p] w fun e w' => e = .returned (.bool (!badB st && stLen st == 0)) ∧ w' = w := by
  have C : Hid (Calls Try.prog 25 #[p] w fun e w' => e = .returned (.bool (badB st)) ∧ w' = w) := rBad_h p st w h
  have D : Hid (Calls Try.prog 26 #[p] w fun e w' => e = .returned (.int .i64 (stLen st)) ∧ w' = w) := left_h p st w h
  clear h
  cases st with
  | none =>
    go_enter Try.func11, Try.ntmps11
    go_wp2_with (first | (go_at_call 25; refine C.out.mono ?_; rintro e w' ⟨rfl, h'⟩; have h'' := h'.symm; clear h'; subst h''; rw [show badB none = true from rfl]))
    go_ret
    exact ⟨rfl, rfl⟩
  | some l =>
    go_enter Try.func11, Try.ntmps11
    go_wp2_with (first | (go_at_call 25; refine C.out.mono ?_; rintro e w' ⟨rfl, h'⟩; have h'' := h'.symm; clear h'; subst h''; rw [show badB (some l) = false from rfl]) | (go_at_call 26; refine D.out.mono ?_; rintro e w' ⟨rfl, h'⟩; have h'' := h'.symm; clear h'; subst h''))
    go_ret
    refine ⟨?_, rfl⟩
    simp [badB, stLen]; rw [Bool.eq_iff_iff]; simp
section
variable {ops : Array Oper} {rest : List Oper} {o : Oper} {a : Act} {w : World} {Q : Exit → Act → World → Prop}
end
set_option maxRecDepth 100000 in
set_option maxHeartbeats 400000 in
theorem rtruth_h (p : Value) (st : Option (List Int)) (w : World) (h : RHnd w p st) : Calls Try.prog 22 #[p] w (Rread w p (rtruthSt st) (.bool (rtruthV st))) := by
  have C : Hid (Calls Try.prog 9 #[p, .int .i64 1] w (Rread w p (rnumSt st 1) (.int .u64 (rnumV st 1)))) := rnumber_h p st 1 w h
  have F : Hid (∀ W, RHnd W p (rnumSt st 1) → Calls Try.prog 20 #[p] W (Rread W p none (.tuple #[]))) := fun W hW => rFail_h p _ W hW
  have E1 : Hid (rtruthSt st = if 1 < rnumV st 1 then none else rnumSt st 1) := rfl
  have E2 : Hid (rtruthV st = (rnumV st 1 == 1)) := rfl
  clear h
  generalize rnumV st 1 = N at *
  generalize rnumSt st 1 = S1 at *
  by_cases hn : 1 < N
  · go_enter Try.func22, Try.ntmps22
    go_wp2_with (first | (go_at_call 9; refine C.out.mono ?_; rintro e w1 ⟨rfl, h1, g1⟩; have H1 : Hid (RHnd w1 p S1) := h1; clear h1) | (go_at_call 20; refine (F.out _ H1.out).mono ?_; rintro e w2 ⟨rfl, h2, g2⟩))
    go_ret
    rw [E1.out, E2.out, if_pos hn]
    exact ⟨rfl, h2, grown_trans g1 g2⟩
  · go_enter Try.func22, Try.ntmps22
    go_wp2_with (first | (go_at_call 9; refine C.out.mono ?_; rintro e w1 ⟨rfl, h1, g1⟩; have H1 : Hid (RHnd w1 p S1) := h1; clear h1))
    go_ret
    rw [E1.out, E2.out, if_neg (by omega)]
    exact ⟨rfl, H1.out, g1⟩
def rtextSt (st : Option (List Int)) : Option (List Int) := takeSt (rnumSt st 2) (rnumV st 2).toNat
def rtextV (st : Option (List Int)) : List Int := takeV (rnumSt st 2) (rnumV st 2).toNat
set_option maxRecDepth 100000 in
theorem rnumV_two {w : World} {p : Value} {st : Option (List Int)} (h : RHnd w p st) : 0 ≤ rnumV st 2 ∧ rnumV st 2 ≤ 65535 := by
  have e : rnumV st 2 = valB (takeV st 2) := by unfold rnumV; rw [show sizeB 2 = true from rfl]; rfl
  have hl := takeV_length st 2
  have := valB_bound (takeV st 2).length (takeV st 2) rfl (by omega) (takeV_bytes h 2)
  rw [e]
  have h3 : (takeV st 2).length = 0 ∨ (takeV st 2).length = 1 ∨ (takeV st 2).length = 2 := by omega
  rcases h3 with h3 | h3 | h3 <;> (rw [h3] at this; omega)
set_option maxRecDepth 100000 in
set_option maxHeartbeats 400000 in
theorem rtext_h (p : Value) (st : Option (List Int)) (w : World) (h : RHnd w p st) : Calls Try.prog 24 #[p] w (Rread w p (rtextSt st) (.string (strOfNums (rtextV st)))) := by
  have C : Hid (Calls Try.prog 9 #[p, .int .i64 2] w (Rread w p (rnumSt st 2) (.int .u64 (rnumV st 2)))) := rnumber_h p st 2 w h
  have hN := rnumV_two h
  obtain ⟨N, hNe⟩ : ∃ N : Nat, rnumV st 2 = (N : Int) := ⟨(rnumV st 2).toNat, by omega⟩
  have E1 : Hid (rtextSt st = takeSt (rnumSt st 2) N) := by unfold Hid rtextSt; rw [hNe]; rfl
  have E2 : Hid (rtextV st = takeV (rnumSt st 2) N) := by unfold Hid rtextV; rw [hNe]; rfl
  rw [hNe] at C hN
  have F : Hid (∀ W, RHnd W p (rnumSt st 2) → Calls Try.prog 21 #[p, .int .i64 N] W (Rread W p (takeSt (rnumSt st 2) N) (.string (strOfNums (takeV (rnumSt st 2) N))))) := fun W hW => take_h p _ N (by omega) W hW
  have hlen := takeV_length (rnumSt st 2) N
  have K : Hid (∀ W, Calls Try.prog 33 #[.string (strOfNums (takeV (rnumSt st 2) N))] W fun e w' => e = .returned (.string (strOfNums (takeV (rnumSt st 2) N))) ∧ Below W.heap.size W w') := fun W => clone_any _ W (by rw [strOfNums_size]; omega)
  clear h hNe hlen
  generalize rnumSt st 2 = S1 at *
  generalize takeV S1 N = V at *
  generalize hSV : strOfNums V = SV at *
  have HSV : Hid (strOfNums V = SV) := hSV
  clear hSV
  go_enter Try.func24, Try.ntmps24
  go_wp2_with (first | (go_at_call 9; refine C.out.mono ?_; rintro e w1 ⟨rfl, h1, g1⟩; have H1 : Hid (RHnd w1 p S1) := h1; clear h1) | (go_at_call 21; refine (F.out _ H1.out).mono ?_; rintro e w2 ⟨rfl, h2, g2⟩; have H2 : Hid (RHnd w2 p (takeSt S1 N)) := h2; clear h2) | (go_at_call 33; refine (K.out _).mono ?_; rintro e w3 ⟨rfl, b3⟩))
  go_ret
  rw [E1.out, E2.out, HSV.out]
  exact ⟨rfl, H2.out.below b3, grown_trans g1 (grown_trans g2 (grown_below b3 _))⟩
def rhashV (st : Option (List Int)) : List Int := if (takeV st 32).length = 32 then takeV st 32 else zs 32
set_option maxRecDepth 100000 in
theorem takeV_32 (st : Option (List Int)) : (takeV st 32).length = 32 ∨ takeV st 32 = [] := by
  unfold takeV
  split
  · split
    · left; simp; omega
    · right; rfl
  · right; rfl
section
variable {ops : Array Oper} {rest : List Oper} {o : Oper} {a : Act} {w : World} {Q : Exit → Act → World → Prop}
set_option maxRecDepth 100000 in
theorem load32 (hgd : o.guard = none) (x : Operand) (ho : o.op = .load 27 x) (g : Nat) (hx : a.eval x = .pointer (some ⟨g, 0, none⟩)) (l : List Int) (hl : l.length = 32) (t : TypeId) (hg : w.heap[g]? = some (.cells (vB l) t))
    (h : wpList Try.prog ops Q rest (a.put o.dst (.agg (vB l))) w) : wpList Try.prog ops Q (o :: rest) a w :=
  wpList_load_row hgd 27 x ho g hx t _ (0, 0) _ hg Try.underlying27 rfl (by rw [vB_size, hl]; kernel_rfl) h
set_option maxRecDepth 100000 in
theorem store32 (hgd : o.guard = none) (x y : Operand) (ho : o.op = .store 27 x y) (g : Nat) (l : List Int) (hx : a.eval x = .pointer (some ⟨g, 0, none⟩)) (hy : a.eval y = .agg (vB l)) (hl : l.length = 32) (t : TypeId) (old : List Int) (hold : old.length = 32) (hg : w.heap[g]? = some (.cells (vB old) t))
    (h : wpList Try.prog ops Q rest (a.put o.dst undef) (w.setRow g (vB l))) : wpList Try.prog ops Q (o :: rest) a w :=
  wpList_store_row hgd 27 x y ho g _ hx hy t _ hg (by rw [vB_size, hl]; kernel_rfl) (by rw [vB_size, vB_size, hl, hold]) (vB_all l) h
end
set_option maxRecDepth 100000 in
theorem zero32 (W : World) : (zeroValue 27).run Try.prog W = .ok (.agg (vB (zs 32))) W := by kernel_rfl
set_option maxRecDepth 100000 in
theorem copy32 (w : World) (B : Nat) (s : List Int) (hb : Bytes s) (hs : s.length = 32) (hg : w.heap[B]? = some (.cells (vB (zs 32)) 27)) :
    (Builtin.copy_ #[22, 9] 3 #[.slice (some ⟨B, 0, none⟩) 32 32, .string (strOfNums s)]).run Try.prog w = .ok (.int .i64 32) (w.setRow B (vB s)) := by
  have hz := strOfNums_size s
  rw [Lib.run_copy_row_string (P := Try.prog) w 22 9 3 5 B 0 32 32 (strOfNums s) _ 27 Try.underlying22 size5 hg (by omega) (by rw [hz, vB_size]; simp [zs_length, hs])]
  rw [byteCells_nB, nB_str s hb, hz, hs, List.take_zero, List.nil_append, List.drop_eq_nil_of_le (by simp [vB, zs]), List.append_nil]
  rfl
set_option maxRecDepth 100000 in
theorem RHnd.up {w w' : World} {p : Value} {st : Option (List Int)} (h : RHnd w p st) (hk : ∀ k, pb p = some k → w'.heap[k]? = w.heap[k]?) : RHnd w' p st := by
  rcases h with h | ⟨g, rfl, h⟩
  · exact Or.inl h
  · exact Or.inr ⟨g, rfl, h.keep (hk g rfl)⟩
set_option maxRecDepth 100000 in
theorem RHnd.pb_lt {w : World} {p : Value} {st : Option (List Int)} (h : RHnd w p st) : ∀ k, pb p = some k → k < w.heap.size := fun k hk => by
  rcases h with ⟨rfl, _⟩ | ⟨g, rfl, h⟩
  · cases hk
  · injection hk with hk; subst hk; exact h.lt
set_option maxRecDepth 100000 in
theorem grown_of_below {B : Nat} {a b c : World} {row : Option Nat} (h : a.grownBy b row) (hB : B ≤ a.heap.size) (k : Below B b c) (hk : ∀ j, j < a.heap.size → B ≤ j → c.heap[j]? = b.heap[j]?) : a.grownBy c row :=
  ⟨k.os.trans h.os, k.tape.trans h.tape, k.output.trans h.output, Nat.le_trans h.size k.size, fun i hi hr => by
    rcases Nat.lt_or_ge i B with h1 | h1
    · rw [k.block i h1]; exact h.block i hi hr
    · rw [hk i hi h1]; exact h.block i hi hr⟩
set_option maxHeartbeats 1000000 in
set_option maxRecDepth 100000 in
theorem rhash_h (p : Value) (st : Option (List Int)) (w : World) (h : RHnd w p st) : Calls Try.prog 23 #[p] w (Rread w p (takeSt st 32) (.agg (vB (rhashV st)))) := by
  have hz := zero32
  have b1 : Below w.heap.size w ((w.alloc (.cells (vB (zs 32)) 27)).alloc (.cells (vB (zs 32)) 27)).drew := (((Below.refl _ _).alloc (Nat.le_refl _) _).alloc (by simp) _).drew
  have hlt := h.pb_lt
  have hbv := takeV_bytes h 32
  have F : Hid (Calls Try.prog 21 #[p, .int .i64 32] ((w.alloc (.cells (vB (zs 32)) 27)).alloc (.cells (vB (zs 32)) 27)).drew fun e w1 => e = .returned (.string (strOfNums (takeV st 32))) ∧ RHnd w1 p (takeSt st 32) ∧ w.grownBy w1 (pb p) ∧ w1.heap[w.heap.size]? = some (.cells (vB (zs 32)) 27) ∧ w1.heap[w.heap.size + 1]? = some (.cells (vB (zs 32)) 27) ∧ w.heap.size + 2 ≤ w1.heap.size) :=
    (take_h p st 32 (by omega) _ (h.below b1)).mono fun e w1 ⟨he, h1, h2⟩ => ⟨he, h1, grown_trans (grown_below b1 _) h2, by
      rw [h2.block _ (by simp; omega) (fun e => by have := hlt _ e.symm; omega)]; exact heap_alloc2_old w _ _, by
      rw [h2.block _ (by simp) (fun e => by have := hlt _ e.symm; omega)]; exact heap_alloc2_new w _ _, by
      have := h2.size; simpa using this⟩
  have E : Hid (rhashV st = if (takeV st 32).length = 32 then takeV st 32 else zs 32) := rfl
  have hv := takeV_32 st
  clear h b1
  generalize takeV st 32 = V at *
  generalize takeSt st 32 = T at *
  rcases hv with hv | hv
  · have E0 : Hid (rhashV st = V) := by unfold Hid; rw [E.out, if_pos hv]
    have HB : Hid (Bytes V) := hbv
    clear hbv
    go_enter Try.func23, Try.ntmps23
    go_wp2_with fail
    go_region_with (first | (go_at_call 21; refine F.out.mono ?_; rintro e w1 ⟨rfl, h1, g1, k0, k1, s1⟩; have hcp := copy32 w1 _ V HB.out hv k1))
    all_goals
      have m1 := setRow_same (cs' := vB V) k1
      have m0 : (w1.setRow (w.heap.size + 1) (vB V)).heap[w.heap.size]? = some (.cells (vB (zs 32)) 27) := by rw [setRow_far _ _ _ _ (by omega)]; exact k0
      have B2 : Hid (Below w.heap.size w1 (w1.setRow (w.heap.size + 1) (vB V))) := below_setRow (Below.refl _ _) (by omega) _
      have H1 : Hid (RHnd w1 p T) := h1
      clear hcp k0 k1 h1 hz
      generalize w1.setRow (w.heap.size + 1) (vB V) = w2 at *
      go_wp2_with (first | (refine load32 rfl _ rfl _ rfl V hv 27 m1 ?_) | (refine store32 rfl _ _ rfl _ V rfl rfl hv 27 (zs 32) rfl m0 ?_))
      refine bodyPost_ret (v := .agg (vB V)) (results_cell_row (p := 2) (ty := 27) Try.results23 _ _ w.heap.size 27 _ (0, 0) _ rfl (setRow_same m0) Try.underlying27 rfl (by rw [vB_size, hv]; kernel_rfl)) rfl ?_
      have b3 : Below w.heap.size w1 (w2.setRow w.heap.size (vB V)) := below_setRow B2.out (Nat.le_refl _) _
      rw [E0.out]
      exact ⟨rfl, H1.out.up (fun k hk => b3.block k (hlt k hk)), grown_of_below g1 (Nat.le_refl _) b3 (fun j h1 h2 => by omega)⟩
  · have E0 : Hid (rhashV st = zs 32) := by unfold Hid; rw [E.out, hv]; rfl
    subst hv
    clear hbv
    go_enter Try.func23, Try.ntmps23
    go_wp2_with fail
    go_region_with (first | (go_at_call 21; refine F.out.mono ?_; rintro e w1 ⟨rfl, h1, g1, k0, k1, s1⟩; have hcp := Lib.run_copy_empty_string (P := Try.prog) w1 22 9 3 5 (some ⟨w.heap.size + 1, 0, none⟩) 32 32 (strOfNums []) Try.underlying22 (by rw [size5]; rfl) rfl))
    all_goals
      have H1 : Hid (RHnd w1 p T) := h1
      clear hcp h1 hz
      go_wp2_with (first | (refine load32 rfl _ rfl _ rfl (zs 32) rfl 27 k1 ?_) | (refine store32 rfl _ _ rfl _ (zs 32) rfl rfl rfl 27 (zs 32) rfl k0 ?_))
      refine bodyPost_ret (v := .agg (vB (zs 32))) (results_cell_row (p := 2) (ty := 27) Try.results23 _ _ w.heap.size 27 _ (0, 0) _ rfl (setRow_same k0) Try.underlying27 rfl (by rw [vB_size, zs_length]; kernel_rfl)) rfl ?_
      have b3 : Below w.heap.size w1 (w1.setRow w.heap.size (vB (zs 32))) := below_setRow (Below.refl _ _) (Nat.le_refl _) _
      rw [E0.out]
      exact ⟨rfl, H1.out.up (fun k hk => b3.block k (hlt k hk)), grown_of_below g1 (Nat.le_refl _) b3 (fun j h1 h2 => by omega)⟩
end Go.Proofs.Ytnpjknnalekdpaa
namespace Go.Proofs.Ytnpjknnalekdpaa
set_option linter.unusedSimpArgs false
set_option linter.unusedVariables false
open Go.RowKit
/-- What is left of a reader holds bytes. -/
def YSt (st : Option (List Int)) : Prop := ∀ l, st = some l → Bytes l
theorem YSt.some {l : List Int} (h : Bytes l) : YSt (some l) := fun l' e => by cases e; exact h
theorem Bytes.left {a b : List Int} (h : Bytes (a ++ b)) : Bytes a := fun x hx => h x (List.mem_append_left _ hx)
theorem Bytes.right {a b : List Int} (h : Bytes (a ++ b)) : Bytes b := fun x hx => h x (List.mem_append_right _ hx)
theorem numB_valB : ∀ (k : Nat) (l : List Int), l.length = k → k ≤ 8 → Bytes l → numB (valB l) k = l
  | 0, l, hl, _, _ => by rw [List.eq_nil_of_length_eq_zero hl]; rfl
  | n + 1, l, hl, hn, hb => by
    have hne : l ≠ [] := fun e => by rw [e] at hl; simp at hl
    have hd := List.dropLast_concat_getLast hne
    have hlb : Bytes l.dropLast := fun x hx => hb x (List.dropLast_subset _ hx)
    have hll : l.dropLast.length = n := by simp [hl]
    have ih := numB_valB n l.dropLast hll (by omega) hlb
    have hx := hb _ (List.getLast_mem hne)
    have hv := valB_bound n l.dropLast hll (by omega) hlb
    have hp := pow256 n (by omega)
    generalize l.getLast hne = x at *
    generalize l.dropLast = L at *
    rw [← hd, valB_snoc, stepB_eq _ _ hv.1 (by omega) hx.1 hx.2, numB_succ]
    have e1 : (valB L * 256 + x) / 256 = valB L := by omega
    have e2 : (valB L * 256 + x) % 256 = x := by omega
    rw [e1, e2, ih]
theorem take_inv {st : Option (List Int)} {k : Nat} {l' : List Int} (h : takeSt st k = some l') : ∃ l, st = some l ∧ k ≤ l.length ∧ l' = l.drop k ∧ takeV st k = l.take k := by
  unfold takeSt at h
  cases st with
  | none => cases h
  | some l =>
    by_cases hk : k ≤ l.length
    · simp only [if_pos hk] at h
      refine ⟨l, rfl, hk, by injection h with h; exact h.symm, ?_⟩
      unfold takeV; simp only [if_pos hk]
    · simp only [if_neg hk] at h; cases h
theorem YSt.take {st : Option (List Int)} (hb : YSt st) (k : Nat) : YSt (takeSt st k) := fun l' h => by
  obtain ⟨l, e, _, e2, _⟩ := take_inv h
  rw [e2]
  exact fun x hx => hb l e x (List.drop_subset _ _ hx)
theorem rnum_inv {st : Option (List Int)} (hb : YSt st) (k : Nat) (z : Int) (hz : sizeB z = true) (hk : z.toNat = k) (h8 : k ≤ 8) {l' : List Int} (h : rnumSt st z = some l') : st = some (numB (rnumV st z) k ++ l') ∧ Bytes l' := by
  unfold rnumSt at h
  rw [if_pos hz, hk] at h
  obtain ⟨l, e, h1, h2, h3⟩ := take_inv h
  have hv : rnumV st z = valB (l.take k) := by unfold rnumV; rw [if_pos hz, hk, h3]
  have hl := hb l e
  rw [hv, numB_valB k (l.take k) (by simp; omega) h8 (fun x hx => hl x (List.take_subset _ _ hx)), e, h2, List.take_append_drop]
  exact ⟨rfl, fun x hx => hl x (List.drop_subset _ _ hx)⟩
theorem takeV_B {st : Option (List Int)} (hb : YSt st) (k : Nat) : Bytes (takeV st k) := by
  unfold takeV
  cases st with
  | none => exact fun x hx => by cases hx
  | some l =>
    simp only
    by_cases h : k ≤ l.length
    · rw [if_pos h]; exact fun x hx => hb l rfl x (List.take_subset _ _ hx)
    · rw [if_neg h]; exact fun x hx => by cases hx
theorem pow_mono (a k : Nat) (h : a ≤ k) : (256 : Int) ^ a ≤ 256 ^ k := by
  have := Nat.pow_le_pow_right (show 0 < 256 by omega) h
  have e : ∀ n : Nat, (256 : Int) ^ n = ((256 ^ n : Nat) : Int) := fun n => by simp
  rw [e, e]; omega
theorem rnum_bound {st : Option (List Int)} (hb : YSt st) (k : Nat) (z : Int) (hk : z.toNat = k) (h8 : k ≤ 8) : 0 ≤ rnumV st z ∧ rnumV st z < 256 ^ k := by
  unfold rnumV
  by_cases hz : sizeB z = true
  · rw [if_pos hz, hk]
    have hl := takeV_length st k
    have := valB_bound (takeV st k).length (takeV st k) rfl (by omega) (takeV_B hb k)
    have := pow_mono _ _ hl
    omega
  · rw [if_neg hz]
    exact ⟨by omega, Int.pow_pos (by omega)⟩
theorem num1B (v : Int) (h : 0 ≤ v ∧ v < 256 ^ 1) : numB v 1 = [v] := by
  rw [numB_succ]; show [] ++ [v % 256] = [v]
  have : v % 256 = v := by omega
  rw [this]; rfl
theorem tb_eq (v : Int) (h0 : 0 ≤ v) (h1 : ¬ 1 < v) : tb (v == 1) = v := by
  have : v = 0 ∨ v = 1 := by omega
  rcases this with rfl | rfl <;> rfl
theorem rtruth_inv {st : Option (List Int)} (hb : YSt st) {l' : List Int} (h : rtruthSt st = some l') : st = some ([tb (rtruthV st)] ++ l') ∧ Bytes l' := by
  unfold rtruthSt at h
  have bd := rnum_bound hb 1 1 rfl (by omega)
  by_cases h1 : 1 < rnumV st 1
  · rw [if_pos h1] at h; cases h
  · rw [if_neg h1] at h
    have q := rnum_inv hb 1 1 rfl rfl (by omega) h
    unfold rtruthV
    rw [tb_eq _ bd.1 h1]
    rw [num1B _ bd] at q
    exact q
theorem hash_inv {st : Option (List Int)} {l' : List Int} (h : takeSt st 32 = some l') : st = some (rhashV st ++ l') := by
  obtain ⟨l, e, h1, h2, h3⟩ := take_inv h
  have hl : (l.take 32).length = 32 := by simp; omega
  have hv : rhashV st = l.take 32 := by unfold rhashV; rw [h3, if_pos hl]
  rw [hv, h2, List.take_append_drop, e]
theorem rhash_len (st : Option (List Int)) : (rhashV st).length = 32 := by
  unfold rhashV
  by_cases h : (takeV st 32).length = 32
  · rw [if_pos h]; exact h
  · rw [if_neg h]; simp [zs]
theorem rhash_bytes {st : Option (List Int)} (hb : YSt st) : Bytes (rhashV st) := by
  unfold rhashV
  by_cases h : (takeV st 32).length = 32
  · rw [if_pos h]; exact takeV_B hb 32
  · rw [if_neg h]; exact zs_bytes 32
theorem YSt.num {st : Option (List Int)} (hb : YSt st) (z : Int) : YSt (rnumSt st z) := by
  unfold rnumSt
  by_cases h : sizeB z = true
  · rw [if_pos h]; exact hb.take _
  · rw [if_neg h]; exact fun _ e => by cases e
theorem YSt.truth {st : Option (List Int)} (hb : YSt st) : YSt (rtruthSt st) := by
  unfold rtruthSt
  by_cases h : 1 < rnumV st 1
  · rw [if_pos h]; exact fun _ e => by cases e
  · rw [if_neg h]; exact hb.num 1
theorem text_inv {st : Option (List Int)} (hb : YSt st) {l' : List Int} (h : rtextSt st = some l') : st = some (numB (rtextV st).length 2 ++ (rtextV st ++ l')) ∧ Bytes (rtextV st) := by
  unfold rtextSt at h
  obtain ⟨l, e, h1, h2, h3⟩ := take_inv h
  have q := rnum_inv hb 2 2 rfl rfl (by omega) e
  have bd := rnum_bound hb 2 2 rfl (by omega)
  have hv : rtextV st = l.take (rnumV st 2).toNat := by unfold rtextV; exact h3
  have hn : ((l.take (rnumV st 2).toNat).length : Int) = rnumV st 2 := by simp; omega
  rw [hv, h2, List.take_append_drop, hn]
  exact ⟨q.1, fun x hx => q.2 x (List.take_subset _ _ hx)⟩
-- what was written is read
theorem takeSt_app (a r : List Int) (k : Nat) (h : a.length = k) : takeSt (some (a ++ r)) k = some r ∧ takeV (some (a ++ r)) k = a := by
  subst h
  unfold takeSt takeV
  have : a.length ≤ (a ++ r).length := by simp
  simp only [if_pos this]
  rw [List.drop_left' rfl, List.take_left' rfl]
  exact ⟨rfl, rfl⟩
theorem rnum_app (n : Int) (k : Nat) (z : Int) (hz : sizeB z = true) (hk : z.toNat = k) (h8 : k ≤ 8) (r : List Int) (h0 : 0 ≤ n) (h1 : n < 256 ^ k) : rnumSt (some (numB n k ++ r)) z = some r ∧ rnumV (some (numB n k ++ r)) z = n := by
  obtain ⟨q1, q2⟩ := takeSt_app (numB n k) r k (numB_length _ _)
  unfold rnumSt rnumV
  rw [if_pos hz, if_pos hz, hk, q1, q2, valB_numB k n h8 h0 h1]
  exact ⟨rfl, rfl⟩
theorem rtruth_app (b : Bool) (r : List Int) : rtruthSt (some ([tb b] ++ r)) = some r ∧ rtruthV (some ([tb b] ++ r)) = b := by
  have hb : 0 ≤ tb b ∧ tb b ≤ 1 := by cases b <;> simp [tb]
  have e : [tb b] = numB (tb b) 1 := (num1B _ (by omega)).symm
  obtain ⟨q1, q2⟩ := rnum_app (tb b) 1 1 rfl rfl (by omega) r (by omega) (by omega)
  unfold rtruthSt rtruthV
  rw [e, q1, q2, if_neg (by omega)]
  exact ⟨rfl, by cases b <;> rfl⟩
theorem hash_app (h r : List Int) (hl : h.length = 32) : takeSt (some (h ++ r)) 32 = some r ∧ rhashV (some (h ++ r)) = h := by
  obtain ⟨q1, q2⟩ := takeSt_app h r 32 hl
  unfold rhashV
  rw [q1, q2, if_pos hl]
  exact ⟨rfl, rfl⟩
theorem text_app (t r : List Int) (hl : t.length ≤ 500) : rtextSt (some (numB t.length 2 ++ (t ++ r))) = some r ∧ rtextV (some (numB t.length 2 ++ (t ++ r))) = t := by
  obtain ⟨q1, q2⟩ := rnum_app (t.length : Int) 2 2 rfl rfl (by omega) (t ++ r) (by omega) (by omega)
  unfold rtextSt rtextV
  rw [q1, q2]
  exact takeSt_app t r _ (by omega)
-- readOwn, plain
def rownS (st : Option (List Int)) (m : Msg) : Option (List Int) :=
  if m.kind = 1 then rtextSt (takeSt (rtruthSt (rtruthSt (rnumSt st 4))) 32)
  else if m.kind = 2 then (if rtruthV st = true then takeSt (takeSt (rtruthSt st) 32) 32 else rnumSt (rtruthSt st) 1)
  else if m.kind = 3 ∨ m.kind = 6 then rtruthSt st else st
def rownM (st : Option (List Int)) (m : Msg) : Msg :=
  if m.kind = 1 then { m with base := rnumV st 4, quiet := rtruthV (rnumSt st 4), ext := rtruthV (rtruthSt (rnumSt st 4)), hash := rhashV (rtruthSt (rtruthSt (rnumSt st 4))), s := strOfNums (rtextV (takeSt (rtruthSt (rtruthSt (rnumSt st 4))) 32)) }
  else if m.kind = 2 then (if rtruthV st = true then { m with yes := true, vh := rhashV (rtruthSt st), vr := rhashV (takeSt (rtruthSt st) 32) } else { m with yes := false, code := rnumV (rtruthSt st) 1 })
  else if m.kind = 3 ∨ m.kind = 6 then { m with commit := rtruthV st } else m
theorem own_sound (m : Msg) (st : Option (List Int)) (hb : YSt st) (l' : List Int) (h : rownS st m = some l') : st = some (ownB (rownM st m) ++ l') := by
  unfold rownS at h
  unfold rownM ownB
  by_cases k1 : m.kind = 1
  · simp only [if_pos k1] at h ⊢
    have b1 := hb.num 4
    have b2 := b1.truth
    have b3 := b2.truth
    have b4 := b3.take 32
    obtain ⟨e5, t5⟩ := text_inv b4 h
    have e4 := hash_inv e5
    obtain ⟨e3, _⟩ := rtruth_inv b2 e4
    obtain ⟨e2, _⟩ := rtruth_inv b1 e3
    obtain ⟨e1, _⟩ := rnum_inv hb 4 4 rfl rfl (by omega) e2
    rw [strOfNums_size, nB_str _ t5]
    generalize rtextV (takeSt (rtruthSt (rtruthSt (rnumSt st 4))) 32) = T at *
    generalize rhashV (rtruthSt (rtruthSt (rnumSt st 4))) = H at *
    generalize rtruthV (rtruthSt (rnumSt st 4)) = E at *
    generalize rtruthV (rnumSt st 4) = Q at *
    generalize rnumV st 4 = B at *
    rw [e1]; simp only [List.append_assoc]
  · simp only [if_neg k1] at h ⊢
    by_cases k2 : m.kind = 2
    · simp only [if_pos k2] at h ⊢
      cases hy : rtruthV st with
      | true =>
        rw [hy] at h
        simp only [if_true] at h ⊢
        have e3 := hash_inv h
        have e2 := hash_inv e3
        obtain ⟨e1, _⟩ := rtruth_inv hb e2
        rw [hy] at e1
        simp only [if_neg k1, if_pos k2, if_true]
        refine e1.trans ?_; simp only [List.append_assoc, tb, if_true]
      | false =>
        rw [hy] at h
        simp only [Bool.false_eq_true, if_false] at h ⊢
        obtain ⟨e2, _⟩ := rnum_inv hb.truth 1 1 rfl rfl (by omega) h
        rw [num1B _ (rnum_bound hb.truth 1 1 rfl (by omega))] at e2
        obtain ⟨e1, _⟩ := rtruth_inv hb e2
        rw [hy] at e1
        simp only [if_neg k1, if_pos k2, Bool.false_eq_true, if_false]
        refine e1.trans ?_; simp only [List.append_assoc, tb, Bool.false_eq_true, if_false]
    · simp only [if_neg k2] at h ⊢
      by_cases k3 : m.kind = 3 ∨ m.kind = 6
      · simp only [if_pos k3] at h ⊢
        obtain ⟨e1, _⟩ := rtruth_inv hb h
        simp only [if_neg k1, if_neg k2, if_pos k3]
        exact e1
      · simp only [if_neg k3] at h ⊢
        simp only [if_neg k1, if_neg k2, if_neg k3]
        exact h
theorem own_complete (m m0 : Msg) (hm : m.Ok) (hf : formB m = true) (h0 : m0 = own0 m) : rownS (some (ownB m)) m0 = some [] ∧ rownM (some (ownB m)) m0 = m := by
  obtain ⟨_, _, _, _, _, _, eo, ei⟩ := form_all hf
  have hk : m0.kind = m.kind := by rw [h0]; rfl
  unfold rownS rownM
  rw [hk]
  unfold inB at ei
  have e : ownB m = ownB m ++ [] := (List.append_nil _).symm
  suffices hs : ∀ M, ofKind m = M → (rownS (some (ownB m)) m0 = some [] ∧ rownM (some (ownB m)) m0 = M) by
    have := hs _ rfl
    rw [← eo] at this
    unfold rownS rownM at this
    rw [hk] at this
    exact this
  intro M hM
  unfold rownS rownM
  rw [hk]
  subst hM
  unfold ofKind ownB
  by_cases k1 : m.kind = 1
  · simp only [if_pos k1] at ei ⊢
    have ei := of_decide_eq_true ei
    have sz : (nB m.s).length = m.s.size := nB_length _
    obtain ⟨p1, q1⟩ := rnum_app m.base 4 4 rfl rfl (by omega) ([tb m.quiet] ++ ([tb m.ext] ++ (m.hash ++ (numB m.s.size 2 ++ nB m.s)))) hm.b.1 (by have := ei.1; omega)
    obtain ⟨p2, q2⟩ := rtruth_app m.quiet ([tb m.ext] ++ (m.hash ++ (numB m.s.size 2 ++ nB m.s)))
    obtain ⟨p3, q3⟩ := rtruth_app m.ext (m.hash ++ (numB m.s.size 2 ++ nB m.s))
    obtain ⟨p4, q4⟩ := hash_app m.hash (numB m.s.size 2 ++ nB m.s) hm.h
    obtain ⟨p5, q5⟩ := text_app (nB m.s) [] (by rw [sz]; exact ei.2)
    rw [sz, List.append_nil] at p5 q5
    rw [p1, p2, p3, p4, p5, q1, q2, q3, q4, q5, str_nB, h0]
    exact ⟨rfl, rfl⟩
  · simp only [if_neg k1] at ei ⊢
    by_cases k2 : m.kind = 2
    · simp only [if_pos k2] at ei ⊢
      cases hy : m.yes with
      | true =>
        simp only [if_true]
        obtain ⟨p1, q1⟩ := rtruth_app true (m.vh ++ m.vr)
        obtain ⟨p2, q2⟩ := hash_app m.vh m.vr hm.v
        obtain ⟨p3, q3⟩ := hash_app m.vr [] hm.r
        rw [List.append_nil] at p3 q3
        rw [show ([1] : List Int) = [tb true] from rfl, p1, q1]
        simp only [if_true]
        rw [p2, q2, p3, q3, h0]
        exact ⟨rfl, rfl⟩
      | false =>
        rw [hy] at ei
        have ei : 1 ≤ m.code ∧ m.code ≤ 17 := by simpa using ei
        simp only [Bool.false_eq_true, if_false]
        obtain ⟨p1, q1⟩ := rtruth_app false [m.code]
        obtain ⟨p2, q2⟩ := rnum_app m.code 1 1 rfl rfl (by omega) [] (by omega) (by omega)
        rw [num1B m.code (by omega), List.append_nil] at p2 q2
        rw [show ([0] : List Int) = [tb false] from rfl, p1, q1]
        simp only [Bool.false_eq_true, if_false]
        rw [p2, q2, h0]
        exact ⟨rfl, rfl⟩
    · simp only [if_neg k2] at ei ⊢
      by_cases k3 : m.kind = 3 ∨ m.kind = 6
      · simp only [if_pos k3]
        obtain ⟨p1, q1⟩ := rtruth_app m.commit []
        rw [List.append_nil] at p1 q1
        rw [p1, q1, h0]
        exact ⟨rfl, rfl⟩
      · simp only [if_neg k3]
        exact ⟨trivial, h0⟩
/-- The four fields ahead. -/
def headM (t : Int) (l : List Int) : Msg := ⟨t, rnumV (some l) 1, rnumV (rnumSt (some l) 1) 1, rnumV (rnumSt (rnumSt (some l) 1) 1) 4, 0, ⟨#[]⟩, false, false, zs 32, false, 0, zs 32, zs 32, false⟩
def headS (l : List Int) : Option (List Int) := rnumSt (rnumSt (rnumSt (some l) 1) 1) 4
def ofS (t : Int) (l : List Int) : Option (List Int) := rownS (headS l) (headM t l)
def ofM (t : Int) (l : List Int) : Msg := rownM (headS l) (headM t l)
theorem rownM_head (st : Option (List Int)) (m : Msg) : (rownM st m).kind = m.kind ∧ (rownM st m).frm = m.frm ∧ (rownM st m).to = m.to ∧ (rownM st m).id = m.id := by
  unfold rownM
  by_cases k1 : m.kind = 1
  · rw [if_pos k1]; exact ⟨rfl, rfl, rfl, rfl⟩
  · rw [if_neg k1]
    by_cases k2 : m.kind = 2
    · rw [if_pos k2]
      by_cases hy : rtruthV st = true
      · rw [if_pos hy]; exact ⟨rfl, rfl, rfl, rfl⟩
      · rw [if_neg hy]; exact ⟨rfl, rfl, rfl, rfl⟩
    · rw [if_neg k2]
      by_cases k3 : m.kind = 3 ∨ m.kind = 6
      · rw [if_pos k3]; exact ⟨rfl, rfl, rfl, rfl⟩
      · rw [if_neg k3]; exact ⟨rfl, rfl, rfl, rfl⟩
/-- What was read to the end is what stands there. -/
theorem of_sound (t : Int) (l : List Int) (hb : Bytes l) (h : ofS t l = some []) : bodyB (ofM t l) = l := by
  have b0 := YSt.some hb
  have e4 := own_sound (headM t l) (headS l) (((b0.num 1).num 1).num 4) [] h
  rw [List.append_nil] at e4
  obtain ⟨e3, _⟩ := rnum_inv ((b0.num 1).num 1) 4 4 rfl rfl (by omega) e4
  obtain ⟨e2, _⟩ := rnum_inv (b0.num 1) 1 1 rfl rfl (by omega) e3
  obtain ⟨e1, _⟩ := rnum_inv b0 1 1 rfl rfl (by omega) e2
  rw [num1B _ (rnum_bound (b0.num 1) 1 1 rfl (by omega))] at e1
  rw [num1B _ (rnum_bound b0 1 1 rfl (by omega))] at e1
  obtain ⟨_, h2, h3, h4⟩ := rownM_head (headS l) (headM t l)
  injection e1 with e1
  unfold bodyB ofM
  rw [h2, h3, h4]
  exact e1.symm
theorem of_complete (m : Msg) (hm : m.Ok) (hf : formB m = true) : ofS m.kind (bodyB m) = some [] ∧ ofM m.kind (bodyB m) = m := by
  obtain ⟨f1, f2, f3, f4, f5, f6, f7, f8⟩ := form_all hf
  obtain ⟨p1, q1⟩ := rnum_app m.frm 1 1 rfl rfl (by omega) ([m.to] ++ (numB m.id 4 ++ ownB m)) (by omega) (by omega)
  obtain ⟨p2, q2⟩ := rnum_app m.to 1 1 rfl rfl (by omega) (numB m.id 4 ++ ownB m) (by omega) (by omega)
  obtain ⟨p3, q3⟩ := rnum_app m.id 4 4 rfl rfl (by omega) (ownB m) (by omega) (by omega)
  rw [num1B m.frm (by omega)] at p1 q1
  rw [num1B m.to (by omega)] at p2 q2
  have hs : headS (bodyB m) = some (ownB m) := by unfold headS bodyB; rw [p1, p2, p3]
  have hh : headM m.kind (bodyB m) = own0 m := by unfold headM own0 bodyB; rw [p1, p2, q1, q2, q3]
  unfold ofS ofM
  rw [hs]
  exact own_complete m _ hm hf hh
/-- What Of answers. -/
def ofR (t : Int) (l : List Int) : Msg := if ofS t l = some [] ∧ formB (ofM t l) = true then ofM t l else msg0
def ofC (t : Int) (l : List Int) : Int := if ofS t l = some [] ∧ formB (ofM t l) = true then 0 else 2
end Go.Proofs.Ytnpjknnalekdpaa
namespace Go.Proofs.Ytnpjknnalekdpaa
set_option linter.unusedSimpArgs false
set_option linter.unusedVariables false
open Go.RowKit
/-- A reader at g, a message's box at gm, both new since w0. -/
structure RW (B : Nat) (w0 : World) (g gm : Nat) (m : Msg) (W : World) (st : Option (List Int)) : Prop where
  st : RSt W g st
  box : BoxM 32 W gm m
  ok : m.Ok
  ne : gm ≠ g
  gB : B ≤ g
  mB : B ≤ gm
  bl : Below B w0 W
theorem RW.hnd {B : Nat} {w0 : World} {g gm : Nat} {m : Msg} {W : World} {st : Option (List Int)} (k : RW B w0 g gm m W st) : RHnd W (.pointer (some ⟨g, 0, none⟩)) st := .inr ⟨g, rfl, k.st⟩
theorem RW.bst {B : Nat} {w0 : World} {g gm : Nat} {m : Msg} {W : World} {st : Option (List Int)} (k : RW B w0 g gm m W st) : YSt st := fun l e => by
  have := k.st; subst e; exact this.2.1
theorem RW.read {B : Nat} {w0 : World} {g gm : Nat} {m : Msg} {W W' : World} {st st' : Option (List Int)} {v : Value} {e : Ending} (k : RW B w0 g gm m W st) (h : Rread W (.pointer (some ⟨g, 0, none⟩)) st' v e W') : e = .returned v ∧ RW B w0 g gm m W' st' := by
  obtain ⟨h1, h2, h3⟩ := h
  have h3 : W.grownBy W' (some g) := h3
  refine ⟨h1, ?_, by unfold BoxM; rw [h3.block gm k.box.lt (fun e => k.ne (by injection e))]; exact k.box, k.ok, k.ne, k.gB, k.mB, k.bl.grown h3 (by have := k.st.lt; have := k.gB; omega) (fun j hj => by injection hj with hj; have := k.gB; omega)⟩
  rcases h2 with ⟨h2, _⟩ | ⟨g', h2, h4⟩
  · cases h2
  · injection h2 with h2; injection h2 with h2; injection h2 with h2; subst h2; exact h4
theorem RW.cell {B : Nat} {w0 : World} {g gm : Nat} {m m' : Msg} {W : World} {st : Option (List Int)} (k : RW B w0 g gm m W st) (o : Nat) (v : Value) (he : (mC m).set o v = mC m') (hok : m'.Ok) : RW B w0 g gm m' (W.setCell ⟨gm, o, none⟩ v) st :=
  ⟨k.st.keep (Below.heap_setCell _ _ _ _ (fun e => k.ne e.symm)), boxCell k.box o v he, hok, k.ne, k.gB, k.mB, k.bl.setCell k.mB v⟩
theorem RW.cells {B : Nat} {w0 : World} {g gm : Nat} {m m' : Msg} {W : World} {st : Option (List Int)} (k : RW B w0 g gm m W st) (o : Nat) (vs : List Value) (hl : o + vs.length ≤ (mC m).length) (he : (mC m).take o ++ vs ++ (mC m).drop (o + vs.length) = mC m') (hok : m'.Ok) : RW B w0 g gm m' (W.setCells gm o vs) st :=
  ⟨k.st.keep (setCells_far gm vs o W g (fun e => k.ne e.symm)), boxCells k.box o vs hl he, hok, k.ne, k.gB, k.mB, below_cells k.bl k.mB (by have := k.st.lt; have := k.gB; omega)⟩
theorem rw_num {B : Nat} {w0 : World} {g gm : Nat} {m : Msg} {W : World} {st : Option (List Int)} (k : RW B w0 g gm m W st) (z : Int) : Calls Try.prog 9 #[.pointer (some ⟨g, 0, none⟩), .int .i64 z] W fun e W' => e = .returned (.int .u64 (rnumV st z)) ∧ RW B w0 g gm m W' (rnumSt st z) :=
  (rnumber_h _ st z W k.hnd).mono fun e W' r => k.read r
theorem rw_truth {B : Nat} {w0 : World} {g gm : Nat} {m : Msg} {W : World} {st : Option (List Int)} (k : RW B w0 g gm m W st) : Calls Try.prog 22 #[.pointer (some ⟨g, 0, none⟩)] W fun e W' => e = .returned (.bool (rtruthV st)) ∧ RW B w0 g gm m W' (rtruthSt st) :=
  (rtruth_h _ st W k.hnd).mono fun e W' r => k.read r
theorem rw_text {B : Nat} {w0 : World} {g gm : Nat} {m : Msg} {W : World} {st : Option (List Int)} (k : RW B w0 g gm m W st) : Calls Try.prog 24 #[.pointer (some ⟨g, 0, none⟩)] W fun e W' => e = .returned (.string (strOfNums (rtextV st))) ∧ RW B w0 g gm m W' (rtextSt st) :=
  (rtext_h _ st W k.hnd).mono fun e W' r => k.read r
theorem rw_hash {B : Nat} {w0 : World} {g gm : Nat} {m : Msg} {W : World} {st : Option (List Int)} (k : RW B w0 g gm m W st) : Calls Try.prog 23 #[.pointer (some ⟨g, 0, none⟩)] W fun e W' => e = .returned (.agg (vB (rhashV st))) ∧ RW B w0 g gm m W' (takeSt st 32) :=
  (rhash_h _ st W k.hnd).mono fun e W' r => k.read r
theorem set_s (m : Msg) (x : ByteArray) : (mC m).set 5 (.string x) = mC { m with s := x } := rfl
theorem set_quiet (m : Msg) (b : Bool) : (mC m).set 6 (.bool b) = mC { m with quiet := b } := rfl
theorem set_ext (m : Msg) (b : Bool) : (mC m).set 7 (.bool b) = mC { m with ext := b } := rfl
theorem set_hash (m : Msg) (hm : m.Ok) (l : List Int) (hl : l.length = 32) : (mC m).take 8 ++ (vB l).toList ++ (mC m).drop (8 + (vB l).toList.length) = mC { m with hash := l } := by
  have e : mC m = ([.int .i64 m.kind, .int .i64 m.frm, .int .i64 m.to, .int .u64 m.id, .int .u64 m.base, .string m.s, .bool m.quiet, .bool m.ext] : List Value) ++ ((vB m.hash).toList ++ ([.bool m.yes, .int .i64 m.code] ++ ((vB m.vh).toList ++ ((vB m.vr).toList ++ [.bool m.commit])))) := by unfold mC eC; simp only [List.append_assoc, List.cons_append, List.nil_append]
  rw [e, repl _ _ _ _ 8 32 rfl (by rw [vBl, hm.h]) (by rw [vBl, hl])]
  unfold mC eC; simp only [List.append_assoc, List.cons_append, List.nil_append]
theorem rnum64 {st : Option (List Int)} (hb : YSt st) (k : Nat) (z : Int) (hk : z.toNat = k) (h7 : k ≤ 7) : 0 ≤ rnumV st z ∧ rnumV st z ≤ 72057594037927936 := by
  have := rnum_bound hb k z hk (by omega)
  have := pow256 k h7
  omega
theorem rtext_le {st : Option (List Int)} (hb : YSt st) : (rtextV st).length ≤ 65535 := by
  unfold rtextV
  have h1 := takeV_length (rnumSt st 2) (rnumV st 2).toNat
  have h2 := rnum_bound hb 2 2 rfl (by omega)
  omega
theorem storeH {ops : Array Oper} {rest : List Oper} {o : Oper} {a : Act} {w : World} {Q : Exit → Act → World → Prop} (hgd : o.guard = none) (x y : Operand) (ho : o.op = .store 27 x y) (g off : Nat) (hx : a.eval x = .pointer (some ⟨g, off, none⟩)) (l : List Int) (hl : l.length = 32) (hy : a.eval y = .agg (vB l)) (ht : w.there g off 32)
    (h : wpList Try.prog ops Q rest (a.put o.dst undef) (w.setCells g off (vB l).toList)) : wpList Try.prog ops Q (o :: rest) a w := by
  have hs : (vB l).size = 32 := by rw [vB_size, hl]
  have ha : (vB l).all (·.oneCell') = true := by
    have := all_oneCell_toArray (vB_one l)
    rwa [Array.toArray_toList] at this
  exact wpList_store_mid hgd 27 x y ho g off _ hx hy (by rw [hs]; exact ht) (by rw [hs]; exact size24) ha h
theorem wrapI (n : Int) (h0 : 0 ≤ n) (h1 : n ≤ 9223372036854775807) : IntKind.i64.wrap n = n := by
  exact IntWalk.i64_in _ (by omega)
end Go.Proofs.Ytnpjknnalekdpaa
namespace Go.Proofs.Ytnpjknnalekdpaa
set_option linter.unusedSimpArgs false
set_option linter.unusedVariables false
open Go.RowKit
set_option maxHeartbeats 1000000 in
set_option maxRecDepth 100000 in
theorem rown_other (B g gm : Nat) (w0 w : World) (m : Msg) (st : Option (List Int)) (h1 : ¬ m.kind = 1) (h2 : ¬ m.kind = 2) (h3 : ¬ m.kind = 3) (h6 : ¬ m.kind = 6) (k : RW B w0 g gm m w st) : Calls Try.prog 10 #[.pointer (some ⟨g, 0, none⟩), .pointer (some ⟨gm, 0, none⟩)] w fun e w' => e = .returned (.tuple #[]) ∧ RW B w0 g gm (rownM st m) w' (rownS st m) := by
  have HX : Hid (rownM st m = m ∧ rownS st m = st) := by
    unfold Hid rownM rownS; rw [if_neg h1, if_neg h2, if_neg (by omega), if_neg h1, if_neg h2, if_neg (by omega)]; exact ⟨rfl, rfl⟩
  have K : Hid (RW B w0 g gm m w st) := k
  have c0 := row_cell k.box (mC_0 m)
  have z1 : (m.kind == 1) = false := by simpa using h1
  have z2 : (m.kind == 2) = false := by simpa using h2
  have z3 : (m.kind == 3) = false := by simpa using h3
  have z6 : (m.kind == 6) = false := by simpa using h6
  clear k h1 h2 h3 h6
  go_enter Try.func10, Try.ntmps10
  go_wp2
  exact fell Try.results10 rfl ⟨rfl, by rw [HX.out.1, HX.out.2]; exact K.out⟩
set_option maxHeartbeats 1000000 in
set_option maxRecDepth 100000 in
theorem rown_3 (B g gm : Nat) (w0 w : World) (m : Msg) (st : Option (List Int)) (hk : m.kind = 3) (k : RW B w0 g gm m w st) : Calls Try.prog 10 #[.pointer (some ⟨g, 0, none⟩), .pointer (some ⟨gm, 0, none⟩)] w fun e w' => e = .returned (.tuple #[]) ∧ RW B w0 g gm (rownM st m) w' (rownS st m) := by
  have HX : Hid (rownM st m = { m with commit := rtruthV st } ∧ rownS st m = rtruthSt st) := by
    unfold Hid rownM rownS; rw [if_neg (by omega), if_neg (by omega), if_pos (by omega), if_neg (by omega), if_neg (by omega), if_pos (by omega)]; exact ⟨rfl, rfl⟩
  have K : Hid (RW B w0 g gm m w st) := k
  have c0 := row_cell k.box (mC_0 m)
  rw [hk] at c0
  clear k hk
  go_enter Try.func10, Try.ntmps10
  go_wp2_with fail
  refine (rw_truth K.out).mono ?_
  rintro e W1 ⟨rfl, k1⟩
  have o1 := row_cell k1.box (mC_106 m k1.ok)
  have f1 : W1.frozen? ⟨gm, 106, none⟩ = false := unfrozen k1.box
  have K1 : Hid (RW B w0 g gm { m with commit := rtruthV st } (W1.setCell ⟨gm, 106, none⟩ (.bool (rtruthV st))) (rtruthSt st)) := k1.cell 106 _ (set_commit m k1.ok _) ⟨k1.ok.k, k1.ok.f, k1.ok.t, k1.ok.i, k1.ok.b, k1.ok.c, k1.ok.s, k1.ok.h, k1.ok.v, k1.ok.r, k1.ok.hb, k1.ok.vb, k1.ok.rb⟩
  clear k1 c0 K
  generalize rtruthV st = V at *
  go_wp2
  exact fell Try.results10 rfl ⟨rfl, by rw [HX.out.1, HX.out.2]; exact K1.out⟩
set_option maxHeartbeats 1000000 in
set_option maxRecDepth 100000 in
theorem rown_6 (B g gm : Nat) (w0 w : World) (m : Msg) (st : Option (List Int)) (hk : m.kind = 6) (k : RW B w0 g gm m w st) : Calls Try.prog 10 #[.pointer (some ⟨g, 0, none⟩), .pointer (some ⟨gm, 0, none⟩)] w fun e w' => e = .returned (.tuple #[]) ∧ RW B w0 g gm (rownM st m) w' (rownS st m) := by
  have HX : Hid (rownM st m = { m with commit := rtruthV st } ∧ rownS st m = rtruthSt st) := by
    unfold Hid rownM rownS; rw [if_neg (by omega), if_neg (by omega), if_pos (by omega), if_neg (by omega), if_neg (by omega), if_pos (by omega)]; exact ⟨rfl, rfl⟩
  have K : Hid (RW B w0 g gm m w st) := k
  have c0 := row_cell k.box (mC_0 m)
  rw [hk] at c0
  clear k hk
  go_enter Try.func10, Try.ntmps10
  go_wp2_with fail
  refine (rw_truth K.out).mono ?_
  rintro e W1 ⟨rfl, k1⟩
  have o1 := row_cell k1.box (mC_106 m k1.ok)
  have f1 : W1.frozen? ⟨gm, 106, none⟩ = false := unfrozen k1.box
  have K1 : Hid (RW B w0 g gm { m with commit := rtruthV st } (W1.setCell ⟨gm, 106, none⟩ (.bool (rtruthV st))) (rtruthSt st)) := k1.cell 106 _ (set_commit m k1.ok _) ⟨k1.ok.k, k1.ok.f, k1.ok.t, k1.ok.i, k1.ok.b, k1.ok.c, k1.ok.s, k1.ok.h, k1.ok.v, k1.ok.r, k1.ok.hb, k1.ok.vb, k1.ok.rb⟩
  clear k1 c0 K
  generalize rtruthV st = V at *
  go_wp2
  exact fell Try.results10 rfl ⟨rfl, by rw [HX.out.1, HX.out.2]; exact K1.out⟩
set_option maxHeartbeats 1000000 in
set_option maxRecDepth 100000 in
theorem rown_2n (B g gm : Nat) (w0 w : World) (m : Msg) (st : Option (List Int)) (hk : m.kind = 2) (hy : rtruthV st = false) (k : RW B w0 g gm m w st) : Calls Try.prog 10 #[.pointer (some ⟨g, 0, none⟩), .pointer (some ⟨gm, 0, none⟩)] w fun e w' => e = .returned (.tuple #[]) ∧ RW B w0 g gm (rownM st m) w' (rownS st m) := by
  have HX : Hid (rownM st m = { m with yes := false, code := rnumV (rtruthSt st) 1 } ∧ rownS st m = rnumSt (rtruthSt st) 1) := by
    unfold Hid rownM rownS; rw [if_neg (by omega), if_pos hk, hy, if_neg (by simp), if_neg (by omega), if_pos hk, if_neg (by simp)]; exact ⟨rfl, rfl⟩
  have K : Hid (RW B w0 g gm m w st) := k
  have c0 := row_cell k.box (mC_0 m)
  rw [hk] at c0
  clear k hk
  have T1 := rw_truth (st := st) K.out
  rw [hy] at T1
  have T1 : Hid (Calls Try.prog 22 #[.pointer (some ⟨g, 0, none⟩)] w fun e W' => e = .returned (.bool false) ∧ RW B w0 g gm m W' (rtruthSt st)) := T1
  clear hy
  generalize rtruthSt st = s1 at *
  go_enter Try.func10, Try.ntmps10
  go_wp2_with fail
  refine T1.out.mono ?_
  rintro e W1 ⟨rfl, k1⟩
  have o1 := row_cell k1.box (mC_40 m k1.ok)
  have f1 : W1.frozen? ⟨gm, 40, none⟩ = false := unfrozen k1.box
  have k1b : RW B w0 g gm { m with yes := false } (W1.setCell ⟨gm, 40, none⟩ (.bool false)) s1 := k1.cell 40 _ (set_yes m k1.ok _) ⟨k1.ok.k, k1.ok.f, k1.ok.t, k1.ok.i, k1.ok.b, k1.ok.c, k1.ok.s, k1.ok.h, k1.ok.v, k1.ok.r, k1.ok.hb, k1.ok.vb, k1.ok.rb⟩
  have K1 : Hid (RW B w0 g gm { m with yes := false } (W1.setCell ⟨gm, 40, none⟩ (.bool false)) s1) := k1b
  clear k1 k1b c0 K T1
  go_wp2_with fail
  refine (rw_num K1.out 1).mono ?_
  rintro e W2 ⟨rfl, k2⟩
  have bd := rnum64 K1.out.bst 1 1 rfl (by omega)
  have o2 := row_cell k2.box (mC_41 _ k2.ok)
  have f2 : W2.frozen? ⟨gm, 41, none⟩ = false := unfrozen k2.box
  have K2 : Hid (RW B w0 g gm { m with yes := false, code := rnumV s1 1 } (W2.setCell ⟨gm, 41, none⟩ (.int .i64 (rnumV s1 1))) (rnumSt s1 1)) := k2.cell 41 _ (set_code _ k2.ok _) ⟨k2.ok.k, k2.ok.f, k2.ok.t, k2.ok.i, k2.ok.b, by (show -9223372036854775808 ≤ rnumV s1 1 ∧ rnumV s1 1 ≤ 9223372036854775807); omega, k2.ok.s, k2.ok.h, k2.ok.v, k2.ok.r, k2.ok.hb, k2.ok.vb, k2.ok.rb⟩
  have hw : IntKind.i64.wrap (rnumV s1 1) = rnumV s1 1 := wrapI _ bd.1 (by omega)
  clear k2 K1 o1 f1
  generalize rnumV s1 1 = V at *
  go_wp2
  exact fell Try.results10 rfl ⟨rfl, by rw [HX.out.1, HX.out.2]; exact K2.out⟩
set_option maxHeartbeats 1000000 in
set_option maxRecDepth 100000 in
theorem rown_2y (B g gm : Nat) (w0 w : World) (m : Msg) (st : Option (List Int)) (hk : m.kind = 2) (hy : rtruthV st = true) (k : RW B w0 g gm m w st) : Calls Try.prog 10 #[.pointer (some ⟨g, 0, none⟩), .pointer (some ⟨gm, 0, none⟩)] w fun e w' => e = .returned (.tuple #[]) ∧ RW B w0 g gm (rownM st m) w' (rownS st m) := by
  have HX : Hid (rownM st m = { m with yes := true, vh := rhashV (rtruthSt st), vr := rhashV (takeSt (rtruthSt st) 32) } ∧ rownS st m = takeSt (takeSt (rtruthSt st) 32) 32) := by
    unfold Hid rownM rownS; rw [if_neg (by omega), if_pos hk, hy, if_pos rfl, if_neg (by omega), if_pos hk, if_pos rfl]; exact ⟨rfl, rfl⟩
  have K : Hid (RW B w0 g gm m w st) := k
  have c0 := row_cell k.box (mC_0 m)
  rw [hk] at c0
  clear k hk
  have T1 := rw_truth (st := st) K.out
  rw [hy] at T1
  have T1 : Hid (Calls Try.prog 22 #[.pointer (some ⟨g, 0, none⟩)] w fun e W' => e = .returned (.bool true) ∧ RW B w0 g gm m W' (rtruthSt st)) := T1
  clear hy
  generalize rtruthSt st = s1 at *
  have L1 : Hid ((rhashV s1).length = 32) := rhash_len s1
  have L2 : Hid ((rhashV (takeSt s1 32)).length = 32) := rhash_len _
  go_enter Try.func10, Try.ntmps10
  go_wp2_with fail
  refine T1.out.mono ?_
  rintro e W1 ⟨rfl, k1⟩
  have o1 := row_cell k1.box (mC_40 m k1.ok)
  have f1 : W1.frozen? ⟨gm, 40, none⟩ = false := unfrozen k1.box
  have k1b : RW B w0 g gm { m with yes := true } (W1.setCell ⟨gm, 40, none⟩ (.bool true)) s1 := k1.cell 40 _ (set_yes m k1.ok _) ⟨k1.ok.k, k1.ok.f, k1.ok.t, k1.ok.i, k1.ok.b, k1.ok.c, k1.ok.s, k1.ok.h, k1.ok.v, k1.ok.r, k1.ok.hb, k1.ok.vb, k1.ok.rb⟩
  have K1 : Hid (RW B w0 g gm { m with yes := true } (W1.setCell ⟨gm, 40, none⟩ (.bool true)) s1) := k1b
  have hb1 : Hid (Bytes (rhashV s1)) := rhash_bytes k1.bst
  clear k1 k1b c0 K T1
  go_wp2_with fail
  refine (rw_hash K1.out).mono ?_
  rintro e W2 ⟨rfl, k2⟩
  have hb2 : Hid (Bytes (rhashV (takeSt s1 32))) := rhash_bytes k2.bst
  generalize rhashV s1 = H1 at *
  have T2 : Hid (W2.there gm 42 32) := there_of k2.box 42 32 (by rw [mC_length _ k2.ok]; omega)
  have k2b : RW B w0 g gm { m with yes := true, vh := H1 } (W2.setCells gm 42 (vB H1).toList) (takeSt s1 32) := k2.cells 42 _ (by rw [mC_length _ k2.ok, vBl, L1.out]; omega) (set_vh _ k2.ok H1 L1.out) ⟨k2.ok.k, k2.ok.f, k2.ok.t, k2.ok.i, k2.ok.b, k2.ok.c, k2.ok.s, k2.ok.h, L1.out, k2.ok.r, k2.ok.hb, hb1.out, k2.ok.rb⟩
  have K2 : Hid (RW B w0 g gm { m with yes := true, vh := H1 } (W2.setCells gm 42 (vB H1).toList) (takeSt s1 32)) := k2b
  clear k2 k2b o1 f1
  generalize takeSt s1 32 = s2 at *
  go_wp2_with (first | (refine storeH rfl _ _ rfl gm 42 rfl H1 L1.out rfl T2.out ?_))
  refine (rw_hash K2.out).mono ?_
  rintro e W3 ⟨rfl, k3⟩
  generalize rhashV s2 = H2 at *
  have T3 : Hid (W3.there gm 74 32) := there_of k3.box 74 32 (by rw [mC_length _ k3.ok]; omega)
  have K3 : Hid (RW B w0 g gm { m with yes := true, vh := H1, vr := H2 } (W3.setCells gm 74 (vB H2).toList) (takeSt s2 32)) := k3.cells 74 _ (by rw [mC_length _ k3.ok, vBl, L2.out]; omega) (set_vr _ k3.ok H2 L2.out) ⟨k3.ok.k, k3.ok.f, k3.ok.t, k3.ok.i, k3.ok.b, k3.ok.c, k3.ok.s, k3.ok.h, k3.ok.v, L2.out, k3.ok.hb, k3.ok.vb, hb2.out⟩
  clear k3 K2
  go_wp2_with (first | (refine storeH rfl _ _ rfl gm 74 rfl H2 L2.out rfl T3.out ?_))
  exact fell Try.results10 rfl ⟨rfl, by rw [HX.out.1, HX.out.2]; exact K3.out⟩
set_option maxHeartbeats 2000000 in
set_option maxRecDepth 100000 in
theorem rown_1 (B g gm : Nat) (w0 w : World) (m : Msg) (st : Option (List Int)) (hk : m.kind = 1) (k : RW B w0 g gm m w st) : Calls Try.prog 10 #[.pointer (some ⟨g, 0, none⟩), .pointer (some ⟨gm, 0, none⟩)] w fun e w' => e = .returned (.tuple #[]) ∧ RW B w0 g gm (rownM st m) w' (rownS st m) := by
  have HX : Hid (rownM st m = { m with base := rnumV st 4, quiet := rtruthV (rnumSt st 4), ext := rtruthV (rtruthSt (rnumSt st 4)), hash := rhashV (rtruthSt (rtruthSt (rnumSt st 4))), s := strOfNums (rtextV (takeSt (rtruthSt (rtruthSt (rnumSt st 4))) 32)) } ∧ rownS st m = rtextSt (takeSt (rtruthSt (rtruthSt (rnumSt st 4))) 32)) := by
    unfold Hid rownM rownS; rw [if_pos hk, if_pos hk]; exact ⟨rfl, rfl⟩
  have K : Hid (RW B w0 g gm m w st) := k
  have c0 := row_cell k.box (mC_0 m)
  rw [hk] at c0
  clear k hk
  go_enter Try.func10, Try.ntmps10
  go_wp2_with fail
  refine (rw_num K.out 4).mono ?_
  rintro e W1 ⟨rfl, k1⟩
  have bd := rnum64 K.out.bst 4 4 rfl (by omega)
  have o1 := row_cell k1.box (mC_4 m)
  have f1 : W1.frozen? ⟨gm, 4, none⟩ = false := unfrozen k1.box
  have k1b : RW B w0 g gm { m with base := rnumV st 4 } (W1.setCell ⟨gm, 4, none⟩ (.int .u64 (rnumV st 4))) (rnumSt st 4) := k1.cell 4 _ (set_base m _) ⟨k1.ok.k, k1.ok.f, k1.ok.t, k1.ok.i, by (show 0 ≤ rnumV st 4 ∧ rnumV st 4 ≤ 18446744073709551615); omega, k1.ok.c, k1.ok.s, k1.ok.h, k1.ok.v, k1.ok.r, k1.ok.hb, k1.ok.vb, k1.ok.rb⟩
  generalize rnumV st 4 = v1 at *
  generalize rnumSt st 4 = s1 at *
  have K1 : Hid (RW B w0 g gm { m with base := v1 } (W1.setCell ⟨gm, 4, none⟩ (.int .u64 v1)) s1) := k1b
  clear k1 k1b c0 K bd
  go_wp2_with fail
  refine (rw_truth K1.out).mono ?_
  rintro e W2 ⟨rfl, k2⟩
  have o2 := row_cell k2.box (mC_6 _)
  have f2 : W2.frozen? ⟨gm, 6, none⟩ = false := unfrozen k2.box
  have k2b : RW B w0 g gm { m with base := v1, quiet := rtruthV s1 } (W2.setCell ⟨gm, 6, none⟩ (.bool (rtruthV s1))) (rtruthSt s1) := k2.cell 6 _ (set_quiet _ _) ⟨k2.ok.k, k2.ok.f, k2.ok.t, k2.ok.i, k2.ok.b, k2.ok.c, k2.ok.s, k2.ok.h, k2.ok.v, k2.ok.r, k2.ok.hb, k2.ok.vb, k2.ok.rb⟩
  generalize rtruthV s1 = v2 at *
  generalize rtruthSt s1 = s2 at *
  have K2 : Hid (RW B w0 g gm { m with base := v1, quiet := v2 } (W2.setCell ⟨gm, 6, none⟩ (.bool v2)) s2) := k2b
  clear k2 k2b K1 o1 f1
  go_wp2_with fail
  refine (rw_truth K2.out).mono ?_
  rintro e W3 ⟨rfl, k3⟩
  have o3 := row_cell k3.box (mC_7 _)
  have f3 : W3.frozen? ⟨gm, 7, none⟩ = false := unfrozen k3.box
  have k3b : RW B w0 g gm { m with base := v1, quiet := v2, ext := rtruthV s2 } (W3.setCell ⟨gm, 7, none⟩ (.bool (rtruthV s2))) (rtruthSt s2) := k3.cell 7 _ (set_ext _ _) ⟨k3.ok.k, k3.ok.f, k3.ok.t, k3.ok.i, k3.ok.b, k3.ok.c, k3.ok.s, k3.ok.h, k3.ok.v, k3.ok.r, k3.ok.hb, k3.ok.vb, k3.ok.rb⟩
  generalize rtruthV s2 = v3 at *
  generalize rtruthSt s2 = s3 at *
  have K3 : Hid (RW B w0 g gm { m with base := v1, quiet := v2, ext := v3 } (W3.setCell ⟨gm, 7, none⟩ (.bool v3)) s3) := k3b
  clear k3 k3b K2 o2 f2
  go_wp2_with fail
  refine (rw_hash K3.out).mono ?_
  rintro e W4 ⟨rfl, k4⟩
  have hb4 := rhash_bytes K3.out.bst
  have L4 : Hid ((rhashV s3).length = 32) := rhash_len s3
  generalize rhashV s3 = H4 at *
  have T4 : Hid (W4.there gm 8 32) := there_of k4.box 8 32 (by rw [mC_length _ k4.ok]; omega)
  have k4b : RW B w0 g gm { m with base := v1, quiet := v2, ext := v3, hash := H4 } (W4.setCells gm 8 (vB H4).toList) (takeSt s3 32) := k4.cells 8 _ (by rw [mC_length _ k4.ok, vBl, L4.out]; omega) (set_hash _ k4.ok H4 L4.out) ⟨k4.ok.k, k4.ok.f, k4.ok.t, k4.ok.i, k4.ok.b, k4.ok.c, k4.ok.s, L4.out, k4.ok.v, k4.ok.r, hb4, k4.ok.vb, k4.ok.rb⟩
  generalize takeSt s3 32 = s4 at *
  have K4 : Hid (RW B w0 g gm { m with base := v1, quiet := v2, ext := v3, hash := H4 } (W4.setCells gm 8 (vB H4).toList) s4) := k4b
  clear k4 k4b K3 o3 f3 hb4
  go_wp2_with (first | (refine storeH rfl _ _ rfl gm 8 rfl H4 L4.out rfl T4.out ?_))
  refine (rw_text K4.out).mono ?_
  rintro e W5 ⟨rfl, k5⟩
  have tl := rtext_le K4.out.bst
  have o5 := row_cell k5.box (mC_5 _)
  have f5 : W5.frozen? ⟨gm, 5, none⟩ = false := unfrozen k5.box
  have K5 : Hid (RW B w0 g gm { m with base := v1, quiet := v2, ext := v3, hash := H4, s := strOfNums (rtextV s4) } (W5.setCell ⟨gm, 5, none⟩ (.string (strOfNums (rtextV s4)))) (rtextSt s4)) := k5.cell 5 _ (set_s _ _) ⟨k5.ok.k, k5.ok.f, k5.ok.t, k5.ok.i, k5.ok.b, k5.ok.c, by (show (strOfNums (rtextV s4)).size ≤ 9223372036854775807); rw [strOfNums_size]; omega, k5.ok.h, k5.ok.v, k5.ok.r, k5.ok.hb, k5.ok.vb, k5.ok.rb⟩
  clear k5 K4 tl T4
  generalize strOfNums (rtextV s4) = S5 at *
  go_wp2
  exact fell Try.results10 rfl ⟨rfl, by rw [HX.out.1, HX.out.2]; exact K5.out⟩
theorem rown_any (B g gm : Nat) (w0 w : World) (m : Msg) (st : Option (List Int)) (k : RW B w0 g gm m w st) : Calls Try.prog 10 #[.pointer (some ⟨g, 0, none⟩), .pointer (some ⟨gm, 0, none⟩)] w fun e w' => e = .returned (.tuple #[]) ∧ RW B w0 g gm (rownM st m) w' (rownS st m) := by
  by_cases h1 : m.kind = 1
  · exact rown_1 B g gm w0 w m st h1 k
  by_cases h2 : m.kind = 2
  · cases hy : rtruthV st with
    | true => exact rown_2y B g gm w0 w m st h2 hy k
    | false => exact rown_2n B g gm w0 w m st h2 hy k
  by_cases h3 : m.kind = 3
  · exact rown_3 B g gm w0 w m st h3 k
  by_cases h6 : m.kind = 6
  · exact rown_6 B g gm w0 w m st h6 k
  exact rown_other B g gm w0 w m st h1 h2 h3 h6 k
end Go.Proofs.Ytnpjknnalekdpaa
