import Derived.Test.YtlcenbhcegmnoaaDoorPartsWalk
import Derived.Test.YtlcenbhcegmnoaaDoorResetsWalk
import Derived.Test.YtlcenbhcegmnoaaDoorMi
namespace Go.Proofs.YtlcenbhcegmnoaaDoor
set_option linter.unusedSimpArgs false
set_option linter.unusedVariables false
open Go.RowKit
attribute [local go_sem ↓] Go.wp_at_zero Go.wp_at_succ
def fewA (i n : Nat) : List (List Int) → Bool
  | [] => true
  | l :: r => if 50 ≤ i ∨ 5000 < n + l.length then false else fewA (i + 1) (n + l.length) r
theorem fewA_small (ls : List (List Int)) : ∀ i n, i ≤ 50 → n ≤ 5000 → fewA i n ls = true → i + ls.length ≤ 50 ∧ n + ls.flatten.length ≤ 5000 := by
  induction ls with
  | nil => intro i n h1 h2 _; simp; omega
  | cons l r ih =>
    intro i n h1 h2 h
    unfold fewA at h
    split at h
    · cases h
    · have := ih (i + 1) (n + l.length) (by omega) (by omega) h
      rw [List.flatten_cons, List.length_append, List.length_cons]; omega
set_option maxRecDepth 100000 in
set_option maxHeartbeats 1000000 in
theorem few_any (v : Value) (ls : List (List Int)) (w : World) (hp : PartsAt w v ls) (hl : ∀ l ∈ ls, l.length ≤ 140737488351232) (hn : ls.length ≤ 140737488351232) :
    Calls Tryd.prog 17 #[v] w fun e w' => e = .returned (.bool (fewA 0 0 ls)) ∧ w' = w := by
  obtain ⟨av, b, o, cp, vs, rfl, hcp, hcp2, hav, hvl, hr, hb, hp⟩ := hp
  go_enter Tryd.func17, Tryd.ntmps17
  go_wp2
  go_loop [3, 7] (fun x i => ∃ k n : Nat, k ≤ ls.length ∧ n ≤ 5000 ∧ x = .int .i64 n ∧ i = .int .i64 k ∧ Hid (fewA 0 0 ls = fewA k n (ls.drop k))) (fun _ i => ls.length - (intOf i).toNat)
  case atStart => exact ⟨0, 0, by omega, by omega, rfl, rfl, rfl⟩
  case round =>
    obtain ⟨k, n, hk, hn5, rfl, rfl, HF⟩ := hrel
    by_cases hlt : k < ls.length
    · obtain rfl := hav (by omega)
      obtain ⟨x, hx⟩ : ∃ x, vs[k]? = some x := ⟨vs[k], List.getElem?_eq_getElem (by omega)⟩
      obtain ⟨l, hlk⟩ : ∃ l, ls[k]? = some l := ⟨ls[k], List.getElem?_eq_getElem hlt⟩
      obtain ⟨av', b', o', cp', rfl, _⟩ := hp k x l hx hlk
      have hc := hr k _ hx
      have hll := hl l (List.mem_of_getElem? hlk)
      have hd : ls.drop k = l :: ls.drop (k + 1) := by
        rw [List.drop_eq_getElem_cons hlt]
        rw [List.getElem?_eq_getElem hlt] at hlk
        injection hlk with hlk
        rw [hlk]
      have HS : Hid (fewA 0 0 ls = if 50 ≤ k ∨ 5000 < n + l.length then false else fewA (k + 1) (n + l.length) (ls.drop (k + 1))) := by
        unfold Hid; rw [HF.out, hd]; rfl
      clear HF hd hx hlk hp hr hl
      by_cases h50 : 50 ≤ k
      · have HZ : Hid (fewA 0 0 ls = false) := by unfold Hid; rw [HS.out, if_pos (Or.inl h50)]
        go_wp2
        go_ret
        exact ⟨by rw [HZ.out]; rfl, rfl⟩
      · by_cases h5 : 5000 < n + l.length
        · have HZ : Hid (fewA 0 0 ls = false) := by unfold Hid; rw [HS.out, if_pos (Or.inr h5)]
          go_wp2
          go_ret
          exact ⟨by rw [HZ.out]; rfl, rfl⟩
        · have HZ : Hid (fewA 0 0 ls = fewA (k + 1) (n + l.length) (ls.drop (k + 1))) := by unfold Hid; rw [HS.out, if_neg (by omega)]
          go_wp2
          go_round
          case rel => exact ⟨k + 1, n + l.length, by omega, by omega, by go_num, by go_num, HZ⟩
          case measure => simp [intOf]; omega
    · have HZ : Hid (fewA 0 0 ls = true) := by unfold Hid; rw [HF.out, List.drop_eq_nil_of_le (by omega)]; rfl
      clear HF
      go_wp2
      go_ret
      exact ⟨by rw [HZ.out]; rfl, rfl⟩
/-- Both Hashes, at B and behind it, have taken the bytes A. -/
def Both (B : Nat) (A : List Int) (w : World) : Prop := ∃ ws1 ws2 : List Int, ws1.length = 8 ∧ (A ≠ [] → ws1 = wordsOf A) ∧ w.heap[B]? = some (.cells (hObj ws1 (remB A) A.length) 37) ∧ ws2.length = 8 ∧ (A ≠ [] → ws2 = wordsOf A) ∧ w.heap[B + 1]? = some (.cells (hObj ws2 (remB A) A.length) 37)
theorem Both.kept {B : Nat} {A : List Int} {w w' : World} (h : Both B A w) (h0 : w'.heap[B]? = w.heap[B]?) (h1 : w'.heap[B + 1]? = w.heap[B + 1]?) : Both B A w' := by
  obtain ⟨ws1, ws2, a1, a2, a3, a4, a5, a6⟩ := h
  exact ⟨ws1, ws2, a1, a2, h0.trans a3, a4, a5, h1.trans a6⟩
theorem Both.lt {B : Nat} {A : List Int} {w : World} (h : Both B A w) : B + 1 < w.heap.size := by
  obtain ⟨ws1, ws2, a1, a2, a3, a4, a5, a6⟩ := h
  exact (Array.getElem?_eq_some_iff.1 a6).1
theorem OwnB.far {w w' : World} {base B : Nat} {v : Value} {l : List Int} (h : OwnB w base v l) (hg : w.grownBy w' (some B)) (hB : B < base) : OwnB w' base v l := by
  refine World.ownsRow.kept h hg ?_
  rcases h.2 with ⟨rfl, _⟩ | ⟨g, cap, cur, rfl, hgb, _⟩
  · exact .inl rfl
  · refine .inr fun e => ?_
    have : g = B := by simpa [Value.ownBlock] using e
    omega
/-- What a round does with the two Hashes and all so far: said of worlds alone. -/
theorem both_sum {B : Nat} {A : List Int} {w Wd : World} (hL : Laid w) (hb : Below w.heap.size w Wd) (h : Both B A Wd) (hn : A.length ≤ 1000000000000000000) (j : Nat) (hj : j = B ∨ j = B + 1) :
    ∀ w', Below Wd.heap.size Wd w' → Calls Tryd.prog 20 #[.pointer (some ⟨j, 0, none⟩)] w' fun e w'' => e = .returned (.agg (vB (hashOf A))) ∧ Below Wd.heap.size Wd w'' := fun w' k => by
  have hlt := h.lt
  obtain ⟨ws1, ws2, a1, a2, a3, a4, a5, a6⟩ := h
  have hL' := hL.below (hb.trans (k.mono hb.size)) hL.two
  have post : ∀ e w5, (e = Ending.returned (.agg (vB (hashOf A))) ∧ Below w'.heap.size w' w5) → e = .returned (.agg (vB (hashOf A))) ∧ Below Wd.heap.size Wd w5 := fun e w5 h => ⟨h.1, k.trans (h.2.mono k.size)⟩
  rcases hj with rfl | rfl
  · exact (sum_any j A ws1 a1 a2 w' hL' (by rw [k.block _ (by omega)]; exact a3) hn).mono post
  · exact (sum_any (B + 1) A ws2 a4 a5 w' hL' (by rw [k.block _ (by omega)]; exact a6) hn).mono post
theorem both_len {B : Nat} {A : List Int} {Wd : World} (h : Both B A Wd) (j : Nat) (hj : j = B ∨ j = B + 1) :
    ∀ w', Below Wd.heap.size Wd w' → Calls Tryd.prog 21 #[.pointer (some ⟨j, 0, none⟩)] w' fun e w'' => e = .returned (.int .i64 A.length) ∧ w'' = w' := fun w' k => by
  have hlt := h.lt
  obtain ⟨ws1, ws2, a1, a2, a3, a4, a5, a6⟩ := h
  rcases hj with rfl | rfl
  · exact len_any j ws1 _ _ a1 (remB_length _) w' (by rw [k.block _ (by omega)]; exact a3)
  · exact len_any (B + 1) ws2 _ _ a4 (remB_length _) w' (by rw [k.block _ (by omega)]; exact a6)
set_option maxRecDepth 100000 in
set_option maxHeartbeats 4000000 in
theorem pieces_in (av : Option Addr) (b o cp : Nat) (vs : List Value) (ls : List (List Int)) (w : World) (hL : Laid w) (hcp : ls.length ≤ cp) (hcp2 : cp ≤ 9223372036854775807) (hav : 0 < ls.length → av = some ⟨b, o, none⟩) (hvl : vs.length = ls.length) (hr : w.rangeAt b o vs) (hb : b < w.heap.size)
    (hp : ∀ (i : Nat) (x : Value) (l : List Int), vs[i]? = some x → ls[i]? = some l → PartAt w x l) (hby : ∀ l ∈ ls, Bytes l) (hn : ls.length ≤ 50) (hf : ls.flatten.length ≤ 5000)
    (C17 : ∀ w', Below w.heap.size w w' → Calls Tryd.prog 17 #[.slice av ls.length cp] w' fun e w'' => e = .returned (.bool true) ∧ w'' = w') :
    Calls Tryd.prog 4 #[.slice av ls.length cp] w fun e w' => e = .returned (.bool true) ∧ Below w.heap.size w w' := by
  have h2 := hL.two
  have hz := zero38
  have C17' : Hid (∀ w', Below w.heap.size w w' → Calls Tryd.prog 17 #[.slice av ls.length cp] w' fun e w'' => e = .returned (.bool true) ∧ w'' = w') := C17
  have hyf : ∀ k, Bytes (ls.take k).flatten := fun k x hx => by
    obtain ⟨l, hl, hxl⟩ := List.mem_flatten.1 hx
    exact hby l (List.mem_of_mem_take hl) x hxl
  have hlf : ∀ k, (ls.take k).flatten.length ≤ 5000 := fun k => by
    have e : ls.flatten = (ls.take k).flatten ++ (ls.drop k).flatten := by rw [← List.flatten_append, List.take_append_drop]
    have := congrArg List.length e
    simp only [List.length_append] at this
    omega
  have HYF : Hid (∀ k, Bytes (ls.take k).flatten) := hyf
  have HLF : Hid (∀ k, (ls.take k).flatten.length ≤ 5000) := hlf
  have HP : Hid (∀ (i : Nat) (x : Value) (l : List Int), vs[i]? = some x → ls[i]? = some l → PartAt w x l) := hp
  have HR : Hid (w.rangeAt b o vs) := hr
  clear C17 hyf hlf hby hp hr
  go_enter Tryd.func4, Tryd.ntmps4
  go_wp2_with fail
  refine (awake_any _ hL).mono ?_
  rintro e w1 ⟨rfl, b1⟩
  have s1 := b1.size
  go_wp2_with (first | (go_at_call 17; refine (C17'.out _ b1).mono ?_; rintro e w' ⟨rfl, hw'⟩; have hw'' := hw'.symm; clear hw'; subst hw''))
  refine (new_any _).mono ?_
  rintro e w2 ⟨rfl, hw2⟩
  go_wp2_with fail
  obtain ⟨W0, hW0⟩ : ∃ W0, (w1.alloc (Obj.cells (hObj (zs 8) (zs 64) 0) 37)).alloc (Obj.cells (hObj (zs 8) (zs 64) 0) 37) = W0 := ⟨_, rfl⟩
  have bo : Both w1.heap.size [] W0 := by
    have e0 : W0.heap[w1.heap.size]? = some (.cells (hObj (zs 8) (remB []) ([] : List Int).length) 37) := by rw [← hW0, remB_nil]; exact heap_alloc2_old _ _ _
    have e1 : W0.heap[w1.heap.size + 1]? = some (.cells (hObj (zs 8) (remB []) ([] : List Int).length) 37) := by rw [← hW0, remB_nil]; exact heap_alloc2_new _ _ _
    exact ⟨zs 8, zs 8, rfl, fun h => absurd rfl h, e0, rfl, fun h => absurd rfl h, e1⟩
  have b0 : Below w.heap.size w W0 := by rw [← hW0]; exact (b1.alloc s1 _).alloc (by simp; omega) _
  rw [hW0]
  clear hw2 hW0 hz
  obtain ⟨B, hB⟩ : ∃ B, B = w1.heap.size := ⟨_, rfl⟩
  rw [← hB] at bo s1 ⊢
  have BO : Hid (Both B [] W0) := bo
  clear hB bo b1
  go_loopw [5, 19] (fun u i wr => ∃ k : Nat, k ≤ ls.length ∧ i = .int .i64 k ∧ Below w.heap.size w wr ∧ Hid (Both B (ls.take k).flatten wr) ∧ OwnB wr (B + 2) u (ls.take k).flatten) (fun _ i _ => ls.length - (intOf i).toNat)
  case atStart => exact ⟨0, by omega, rfl, b0, BO, by rw [List.take_zero, List.flatten_nil]; exact ownB_nil _ _⟩
  case round =>
    obtain ⟨k, hk, rfl, bl, HB0, ho⟩ := hrel
    clear BO b0
    have hbs := bl.size
    have hltB := HB0.out.lt
    by_cases hlt : k < ls.length
    · obtain rfl := hav (by omega)
      obtain ⟨x, hx⟩ : ∃ x, vs[k]? = some x := ⟨vs[k], List.getElem?_eq_getElem (by omega)⟩
      obtain ⟨l, hlk⟩ : ∃ l, ls[k]? = some l := ⟨ls[k], List.getElem?_eq_getElem hlt⟩
      have hpk := HP.out k x l hx hlk
      have HTK : Hid ((ls.take (k + 1)).flatten = (ls.take k).flatten ++ l) := by unfold Hid; rw [List.take_add_one, hlk]; simp
      have hA1 := HLF.out (k + 1)
      rw [HTK.out] at hA1
      have YA : Hid (Bytes ((ls.take k).flatten ++ l)) := by have := HYF.out (k + 1); rw [HTK.out] at this; exact this
      have hc : wr.cell? ⟨b, o + k, none⟩ = some x := by rw [bl.cell (show b < w.heap.size from hb)]; exact HR.out k x hx
      have hc0 : Hid (∀ w', Below w.heap.size w w' → w'.cell? ⟨b, o + k, none⟩ = some x) := fun w' q => by rw [q.cell (show b < w.heap.size from hb)]; exact HR.out k x hx
      have hp0 := hpk
      obtain ⟨avx, _, _, cpx, hxv, _⟩ := hp0
      subst hxv
      generalize hA : (ls.take k).flatten = A at *
      clear hA HLF HYF HP HR hx hlk
      obtain ⟨ws1, ws2, c1, c2, c3, c4, c5, c6⟩ := HB0.out
      have hLr := hL.below bl h2
      have W1 : Hid (Calls Tryd.prog 19 #[.pointer (some ⟨B, 0, none⟩), .slice avx l.length cpx] wr fun e w' => e = .returned (.tuple #[]) ∧ w'.heap[B]? = some (.cells (hObj (wordsOf (A ++ l)) (remB (A ++ l)) (A ++ l).length) 37) ∧ wr.grownBy w' (some B)) :=
        write_part B A l ws1 c1 c2 wr hLr (by omega) c3 _ w hpk bl s1 (by simp at hA1; omega)
      have W2 : Hid (∀ w', Below w.heap.size w w' → w'.heap[B + 1]? = some (.cells (hObj ws2 (remB A) A.length) 37) → Calls Tryd.prog 19 #[.pointer (some ⟨B + 1, 0, none⟩), .slice avx l.length cpx] w' fun e w'' => e = .returned (.tuple #[]) ∧ w''.heap[B + 1]? = some (.cells (hObj (wordsOf (A ++ l)) (remB (A ++ l)) (A ++ l).length) 37) ∧ w'.grownBy w'' (some (B + 1))) := fun w' q h6 =>
        write_part (B + 1) A l ws2 c4 c5 w' (hL.below q h2) (by omega) h6 _ w hpk q (by omega) (by simp at hA1; omega)
      have C6 : Hid (wr.heap[B + 1]? = some (.cells (hObj ws2 (remB A) A.length) 37)) := c6
      clear c1 c2 c3 c4 c5 c6 HB0
      go_wp2_with fail
      refine W1.out.mono ?_
      rintro e w3 ⟨rfl, d1, g3⟩
      have D1 : Hid (w3.heap[B]? = some (.cells (hObj (wordsOf (A ++ l)) (remB (A ++ l)) (A ++ l).length) 37)) := d1
      have b3 : Below w.heap.size w w3 := below_grown bl g3 bl.size s1
      have d2 : Hid (w3.heap[B + 1]? = some (.cells (hObj ws2 (remB A) A.length) 37)) := by unfold Hid; rw [g3.block _ (by omega) (by simp)]; exact C6.out
      have ho3 := ho.far g3 (by omega)
      have z3 := g3.size
      have hc3 := hc0.out w3 b3
      clear W1 C6 d1 g3 ho hc
      go_wp2_with fail
      refine (W2.out _ b3 d2.out).mono ?_
      rintro e w4 ⟨rfl, e2, g4⟩
      have E2 : Hid (w4.heap[B + 1]? = some (.cells (hObj (wordsOf (A ++ l)) (remB (A ++ l)) (A ++ l).length) 37)) := e2
      have E1 : Hid (w4.heap[B]? = some (.cells (hObj (wordsOf (A ++ l)) (remB (A ++ l)) (A ++ l).length) 37)) := by unfold Hid; rw [g4.block _ (by omega) (by simp)]; exact D1.out
      have b4 : Below w.heap.size w w4 := below_grown b3 g4 b3.size (by omega)
      have ho4 := ho3.far g4 (by omega)
      have z4 := g4.size
      have hc4 := hc0.out w4 b4
      have hpk4 := hpk.below b4
      clear W2 d2 D1 e2 g4 ho3 hc3 hpk
      go_wp2_with (first | (at_builtin; refine appendB rfl _ _ rfl (B + 2) u5 A rfl ho4 _ l rfl hpk4 (by simp at hA1; omega) (by omega) ?_; intro v' w5 o5 g5 d5))
      have b5 : Below w.heap.size w w5 := b4.grown g5 b4.size (fun j hj => by have := ho4.row j hj; omega)
      have F1 : Hid (w5.heap[B]? = some (.cells (hObj (wordsOf (A ++ l)) (remB (A ++ l)) (A ++ l).length) 37)) := by unfold Hid; rw [g5.block _ (by omega) (fun e => by have := ho4.row B e.symm; omega)]; exact E1.out
      have F2 : Hid (w5.heap[B + 1]? = some (.cells (hObj (wordsOf (A ++ l)) (remB (A ++ l)) (A ++ l).length) 37)) := by unfold Hid; rw [g5.block _ (by omega) (fun e => by have := ho4.row (B + 1) e.symm; omega)]; exact E2.out
      have z5 := g5.size
      have p5 := o5.partG (by omega)
      have O5 : Hid (OwnB w5 (B + 2) v' (A ++ l)) := o5
      have HNN : Hid ((A ++ l).length ≤ 5000) := hA1
      obtain ⟨HB, hHB⟩ : ∃ HB, HB = hashOf (A ++ l) := ⟨_, rfl⟩
      have hlen : HB.length = 32 := by rw [hHB]; exact hashOf_length _
      have RS : Hid (Calls Tryd.prog 14 #[v'] w5 fun e w'' => e = .returned (.agg (vB HB)) ∧ Below w5.heap.size w5 w'') := by unfold Hid; rw [hHB]; exact rsum_any v' (A ++ l) w5 p5 (by omega) YA.out
      obtain ⟨N, hN⟩ : ∃ N, N = (A ++ l).length := ⟨_, rfl⟩
      have SS : Hid (∀ (Wd : World) (j : Nat), Below w.heap.size w Wd → Both B (A ++ l) Wd → (j = B ∨ j = B + 1) → ∀ w', Below Wd.heap.size Wd w' → Calls Tryd.prog 20 #[.pointer (some ⟨j, 0, none⟩)] w' fun e w'' => e = .returned (.agg (vB HB)) ∧ Below Wd.heap.size Wd w'') := fun Wd j q hb hj => by rw [hHB]; exact both_sum hL q hb (by have := HNN.out; omega) j hj
      have LL : Hid (∀ (Wd : World) (j : Nat), Both B (A ++ l) Wd → (j = B ∨ j = B + 1) → ∀ w', Below Wd.heap.size Wd w' → Calls Tryd.prog 21 #[.pointer (some ⟨j, 0, none⟩)] w' fun e w'' => e = .returned (.int .i64 N) ∧ w'' = w') := fun Wd j hb hj => by rw [hN]; exact both_len hb j hj
      have BB : Hid (∀ w', Below w5.heap.size w5 w' → Both B (A ++ l) w') := fun w' q => ⟨_, _, wordsOf_length _, fun _ => rfl, by rw [q.block _ (by omega)]; exact F1.out, wordsOf_length _, fun _ => rfl, by rw [q.block _ (by omega)]; exact F2.out⟩
      have e24 := eq24_same HB hlen
      have hcl : (List.map (Value.int .u8) HB).length = 32 := by simpa using hlen
      have hi : (Tryd.prog.info? 24).map (·.size) = some (List.map (Value.int .u8) HB).length := by rw [hcl]; kernel_rfl
      obtain ⟨av5, q5, qo5, cp5, hv5, _⟩ := p5
      rw [← hN] at hv5
      subst hv5
      have hNb : N ≤ 5000 := by rw [hN]; exact HNN.out
      clear hHB hN F1 F2 E1 E2 o5 g5 d5 ho4 hc4 hpk4 hA1 YA
      refine RS.out.mono ?_
      rintro e w6 ⟨rfl, b6⟩
      have b06 := b5.trans (b6.mono b5.size)
      go_wp2_with (first | (refine store24n rfl _ _ rfl HB hlen rfl rfl ?_; intro Wd f1 f2 _ _))
      have bW : Below w.heap.size w Wd := b06.trans (f2.mono b06.size)
      have b5W : Below w5.heap.size w5 Wd := b6.trans (f2.mono b6.size)
      have bo := BB.out Wd b5W
      have SB : Hid (∀ w', Below Wd.heap.size Wd w' → Calls Tryd.prog 20 #[.pointer (some ⟨B, 0, none⟩)] w' fun e w'' => e = .returned (.agg (vB HB)) ∧ Below Wd.heap.size Wd w'') := SS.out Wd B bW bo (Or.inl rfl)
      have SC : Hid (∀ w', Below Wd.heap.size Wd w' → Calls Tryd.prog 20 #[.pointer (some ⟨B + 1, 0, none⟩)] w' fun e w'' => e = .returned (.agg (vB HB)) ∧ Below Wd.heap.size Wd w'') := SS.out Wd (B + 1) bW bo (Or.inr rfl)
      have LB : Hid (∀ w', Below Wd.heap.size Wd w' → Calls Tryd.prog 21 #[.pointer (some ⟨B, 0, none⟩)] w' fun e w'' => e = .returned (.int .i64 N) ∧ w'' = w') := LL.out Wd B bo (Or.inl rfl)
      have LC : Hid (∀ w', Below Wd.heap.size Wd w' → Calls Tryd.prog 21 #[.pointer (some ⟨B + 1, 0, none⟩)] w' fun e w'' => e = .returned (.int .i64 N) ∧ w'' = w') := LL.out Wd (B + 1) bo (Or.inr rfl)
      have HRd : Hid (Wd.rangeAt w6.heap.size 0 (List.map (Value.int .u8) HB)) := range_of_block f1
      have hbl : w6.heap.size < Wd.heap.size := (Array.getElem?_eq_some_iff.1 f1).1
      have zW := b5W.size
      clear f1 f2 bo SS LL RS b06 b4 b3
      have hS := keep_of HRd.out hbl (keep_drew (Below.refl Wd.heap.size Wd))
      refine wp_region_noPanic ?_
      refine wp_region_held_drew (S := fun w' => Below Wd.heap.size Wd w' ∧ w'.rangeAt w6.heap.size 0 (List.map (Value.int .u8) HB)) (by kernel_rfl) (hS) (fun hHeld => ?_)
      try simp only [Act.put, List.setIfInBounds_toArray, List.set_cons_zero, List.set_cons_succ]
      refine wpAnyH_take (i := 0) (oi := { dst := some 41, op := Go.Op.move (Go.Operand.tmp 3), type := 31, pos := "law.go:57", after := #[], guard := none }) (v := ?_) rfl (by kernel_rfl) (by kernel_rfl) (by kernel_rfl) (fun _ _ _ h => h) (Or.inl ⟨by rfl, ?_⟩) hHeld ?_
      rotate_left 1
      · (intro wq hSq; (try dsimp only at hSq); go_simp; first | done | with_reducible rfl)
      try simp only [Act.put, List.setIfInBounds_toArray, List.set_cons_zero, List.set_cons_succ]
      refine wpAnyH_take (i := 2) (oi := { dst := some 43, op := Go.Op.load 24 (Go.Operand.tmp 7), type := 24, pos := "law.go:57", after := #[], guard := none }) (v := .agg (List.toArray (List.map (Value.int .u8) HB))) rfl (by kernel_rfl) (by kernel_rfl) (by kernel_rfl) (fun _ _ _ h => h) (yieldsIf_load_mid (by rfl) _ _ rfl (w6.heap.size) (0) rfl (List.map (Value.int .u8) HB) _ (fun _ h => h.2) Tryd.underlying24 rfl (hi)) hHeld ?_
      try simp only [Act.put, List.setIfInBounds_toArray, List.set_cons_zero, List.set_cons_succ]
      refine wpAnyH_ready (rs := [1]) (by kernel_rfl) (by simp) ?_
      refine AllReadyH.cons (o := { dst := some 42, op := Go.Op.call { callee := Go.Callee.value (Go.Operand.func 20), args := #[Go.Operand.tmp 41], argTypes := #[31] }, type := 24, pos := "law.go:57", after := #[{ on := 0, ground := Go.Ground.data }], guard := none }) rfl (fun K hK => ?_) AllReadyH.nil
      go_simp
      refine (SB.out _ (keep_drew (Below.refl Wd.heap.size Wd))).mono ?_
      rintro e w7 ⟨rfl, b7⟩
      refine hK.out _ _ (keep_of HRd.out hbl (b7)) (fun hHeld1 => ?_)
      clear hK K hHeld
      try simp only [Act.put, List.setIfInBounds_toArray, List.set_cons_zero, List.set_cons_succ]
      refine wpAnyH_take (i := 3) (oi := { dst := some 44, op := Go.Op.binOp Go.BinOp.neq 24 (Go.Operand.tmp 42) (Go.Operand.tmp 43) 24, type := 4, pos := "law.go:57", after := #[{ on := 1, ground := Go.Ground.data }, { on := 2, ground := Go.Ground.data }], guard := none }) (v := ?_) rfl (by kernel_rfl) (by kernel_rfl) (by kernel_rfl) (fun _ _ _ h => h) (Or.inl ⟨by rfl, ?_⟩) hHeld1 ?_
      rotate_left 1
      · (intro wq hSq; (try dsimp only at hSq); go_simp; first | done | with_reducible rfl)
      try simp only [Act.put, List.setIfInBounds_toArray, List.set_cons_zero, List.set_cons_succ]
      refine wpAnyH_take (i := 4) (oi := { dst := some 45, op := Go.Op.move (Go.Operand.tmp 44), type := 4, pos := "law.go:57", after := #[{ on := 3, ground := Go.Ground.data }, { on := 1, ground := Go.Ground.chain }], guard := none }) (v := ?_) rfl (by kernel_rfl) (by kernel_rfl) (by kernel_rfl) (fun _ _ _ h => h) (Or.inl ⟨by rfl, ?_⟩) hHeld1 ?_
      rotate_left 1
      · (intro wq hSq; (try dsimp only at hSq); go_simp; first | done | with_reducible rfl)
      try simp only [Act.put, List.setIfInBounds_toArray, List.set_cons_zero, List.set_cons_succ]
      refine wpAnyH_take (i := 5) (oi := { dst := some 46, op := Go.Op.move (Go.Operand.tmp 3), type := 31, pos := "law.go:57", after := #[{ on := 4, ground := Go.Ground.guard }], guard := some (4, false) }) (v := ?_) rfl (by kernel_rfl) (by kernel_rfl) (by kernel_rfl) (fun _ _ _ h => h) (Or.inl ⟨by rfl, ?_⟩) hHeld1 ?_
      rotate_left 1
      · (intro wq hSq; (try dsimp only at hSq); go_simp; first | done | with_reducible rfl)
      try simp only [Act.put, List.setIfInBounds_toArray, List.set_cons_zero, List.set_cons_succ]
      refine wpAnyH_take (i := 7) (oi := { dst := some 48, op := Go.Op.load 24 (Go.Operand.tmp 7), type := 24, pos := "law.go:57", after := #[{ on := 4, ground := Go.Ground.guard }], guard := some (4, false) }) (v := .agg (List.toArray (List.map (Value.int .u8) HB))) rfl (by kernel_rfl) (by kernel_rfl) (by kernel_rfl) (fun _ _ _ h => h) (yieldsIf_load_mid (by rfl) _ _ rfl (w6.heap.size) (0) rfl (List.map (Value.int .u8) HB) _ (fun _ h => h.2) Tryd.underlying24 rfl (hi)) hHeld1 ?_
      try simp only [Act.put, List.setIfInBounds_toArray, List.set_cons_zero, List.set_cons_succ]
      refine wpAnyH_ready (rs := [6]) (by kernel_rfl) (by simp) ?_
      refine AllReadyH.cons (o := { dst := some 47, op := Go.Op.call { callee := Go.Callee.value (Go.Operand.func 20), args := #[Go.Operand.tmp 46], argTypes := #[31] }, type := 24, pos := "law.go:57", after := #[{ on := 5, ground := Go.Ground.data }, { on := 4, ground := Go.Ground.chain }, { on := 4, ground := Go.Ground.guard }], guard := some (4, false) }) rfl (fun K hK => ?_) AllReadyH.nil
      go_simp
      refine (SB.out _ b7).mono ?_
      rintro e w8 ⟨rfl, b8⟩
      refine hK.out _ _ (keep_of HRd.out hbl (b8)) (fun hHeld2 => ?_)
      clear hK K hHeld1
      try simp only [Act.put, List.setIfInBounds_toArray, List.set_cons_zero, List.set_cons_succ]
      refine wpAnyH_take (i := 8) (oi := { dst := some 49, op := Go.Op.binOp Go.BinOp.neq 24 (Go.Operand.tmp 47) (Go.Operand.tmp 48) 24, type := 4, pos := "law.go:57", after := #[{ on := 6, ground := Go.Ground.data }, { on := 7, ground := Go.Ground.data }, { on := 4, ground := Go.Ground.guard }], guard := some (4, false) }) (v := ?_) rfl (by kernel_rfl) (by kernel_rfl) (by kernel_rfl) (fun _ _ _ h => h) (Or.inl ⟨by rfl, ?_⟩) hHeld2 ?_
      rotate_left 1
      · (intro wq hSq; (try dsimp only at hSq); go_simp; first | done | with_reducible rfl)
      try simp only [Act.put, List.setIfInBounds_toArray, List.set_cons_zero, List.set_cons_succ]
      refine wpAnyH_take (i := 9) (oi := { dst := some 50, op := Go.Op.pick (Go.Operand.tmp 45) (Go.Operand.const (Go.Value.bool true)) (Go.Operand.tmp 49), type := 4, pos := "law.go:57", after := #[{ on := 4, ground := Go.Ground.data }, { on := 8, ground := Go.Ground.data }], guard := none }) (v := ?_) rfl (by kernel_rfl) (by kernel_rfl) (by kernel_rfl) (fun _ _ _ h => h) (Or.inl ⟨by rfl, ?_⟩) hHeld2 ?_
      rotate_left 1
      · (intro wq hSq; (try dsimp only at hSq); go_simp; first | done | with_reducible rfl)
      try simp only [Act.put, List.setIfInBounds_toArray, List.set_cons_zero, List.set_cons_succ]
      refine wpAnyH_take (i := 10) (oi := { dst := some 51, op := Go.Op.move (Go.Operand.tmp 50), type := 4, pos := "law.go:57", after := #[{ on := 9, ground := Go.Ground.data }, { on := 6, ground := Go.Ground.chain }], guard := none }) (v := ?_) rfl (by kernel_rfl) (by kernel_rfl) (by kernel_rfl) (fun _ _ _ h => h) (Or.inl ⟨by rfl, ?_⟩) hHeld2 ?_
      rotate_left 1
      · (intro wq hSq; (try dsimp only at hSq); go_simp; first | done | with_reducible rfl)
      try simp only [Act.put, List.setIfInBounds_toArray, List.set_cons_zero, List.set_cons_succ]
      refine wpAnyH_take (i := 12) (oi := { dst := some 53, op := Go.Op.load 24 (Go.Operand.tmp 7), type := 24, pos := "law.go:57", after := #[{ on := 10, ground := Go.Ground.guard }], guard := some (10, false) }) (v := .agg (List.toArray (List.map (Value.int .u8) HB))) rfl (by kernel_rfl) (by kernel_rfl) (by kernel_rfl) (fun _ _ _ h => h) (yieldsIf_load_mid (by rfl) _ _ rfl (w6.heap.size) (0) rfl (List.map (Value.int .u8) HB) _ (fun _ h => h.2) Tryd.underlying24 rfl (hi)) hHeld2 ?_
      try simp only [Act.put, List.setIfInBounds_toArray, List.set_cons_zero, List.set_cons_succ]
      refine wpAnyH_ready (rs := [11]) (by kernel_rfl) (by simp) ?_
      refine AllReadyH.cons (o := { dst := some 52, op := Go.Op.call { callee := Go.Callee.value (Go.Operand.func 20), args := #[Go.Operand.tmp 4], argTypes := #[37] }, type := 24, pos := "law.go:57", after := #[{ on := 10, ground := Go.Ground.chain }, { on := 10, ground := Go.Ground.guard }], guard := some (10, false) }) rfl (fun K hK => ?_) AllReadyH.nil
      go_simp
      refine (SC.out _ b8).mono ?_
      rintro e w9 ⟨rfl, b9⟩
      refine hK.out _ _ (keep_of HRd.out hbl (b9)) (fun hHeld3 => ?_)
      clear hK K hHeld2
      try simp only [Act.put, List.setIfInBounds_toArray, List.set_cons_zero, List.set_cons_succ]
      refine wpAnyH_take (i := 13) (oi := { dst := some 54, op := Go.Op.binOp Go.BinOp.neq 24 (Go.Operand.tmp 52) (Go.Operand.tmp 53) 24, type := 4, pos := "law.go:57", after := #[{ on := 11, ground := Go.Ground.data }, { on := 12, ground := Go.Ground.data }, { on := 10, ground := Go.Ground.guard }], guard := some (10, false) }) (v := ?_) rfl (by kernel_rfl) (by kernel_rfl) (by kernel_rfl) (fun _ _ _ h => h) (Or.inl ⟨by rfl, ?_⟩) hHeld3 ?_
      rotate_left 1
      · (intro wq hSq; (try dsimp only at hSq); go_simp; first | done | with_reducible rfl)
      try simp only [Act.put, List.setIfInBounds_toArray, List.set_cons_zero, List.set_cons_succ]
      refine wpAnyH_take (i := 14) (oi := { dst := some 55, op := Go.Op.pick (Go.Operand.tmp 51) (Go.Operand.const (Go.Value.bool true)) (Go.Operand.tmp 54), type := 4, pos := "law.go:57", after := #[{ on := 10, ground := Go.Ground.data }, { on := 13, ground := Go.Ground.data }], guard := none }) (v := ?_) rfl (by kernel_rfl) (by kernel_rfl) (by kernel_rfl) (fun _ _ _ h => h) (Or.inl ⟨by rfl, ?_⟩) hHeld3 ?_
      rotate_left 1
      · (intro wq hSq; (try dsimp only at hSq); go_simp; first | done | with_reducible rfl)
      try simp only [Act.put, List.setIfInBounds_toArray, List.set_cons_zero, List.set_cons_succ]
      refine wpAnyH_take (i := 15) (oi := { dst := some 56, op := Go.Op.move (Go.Operand.tmp 55), type := 4, pos := "law.go:57", after := #[{ on := 14, ground := Go.Ground.data }, { on := 11, ground := Go.Ground.chain }], guard := none }) (v := ?_) rfl (by kernel_rfl) (by kernel_rfl) (by kernel_rfl) (fun _ _ _ h => h) (Or.inl ⟨by rfl, ?_⟩) hHeld3 ?_
      rotate_left 1
      · (intro wq hSq; (try dsimp only at hSq); go_simp; first | done | with_reducible rfl)
      try simp only [Act.put, List.setIfInBounds_toArray, List.set_cons_zero, List.set_cons_succ]
      refine wpAnyH_take (i := 16) (oi := { dst := some 57, op := Go.Op.move (Go.Operand.tmp 3), type := 31, pos := "law.go:57", after := #[{ on := 15, ground := Go.Ground.guard }], guard := some (15, false) }) (v := ?_) rfl (by kernel_rfl) (by kernel_rfl) (by kernel_rfl) (fun _ _ _ h => h) (Or.inl ⟨by rfl, ?_⟩) hHeld3 ?_
      rotate_left 1
      · (intro wq hSq; (try dsimp only at hSq); go_simp; first | done | with_reducible rfl)
      try simp only [Act.put, List.setIfInBounds_toArray, List.set_cons_zero, List.set_cons_succ]
      refine wpAnyH_take (i := 18) (oi := { dst := some 59, op := Go.Op.move (Go.Operand.tmp 5), type := 22, pos := "law.go:57", after := #[{ on := 15, ground := Go.Ground.guard }], guard := some (15, false) }) (v := ?_) rfl (by kernel_rfl) (by kernel_rfl) (by kernel_rfl) (fun _ _ _ h => h) (Or.inl ⟨by rfl, ?_⟩) hHeld3 ?_
      rotate_left 1
      · (intro wq hSq; (try dsimp only at hSq); go_simp; first | done | with_reducible rfl)
      try simp only [Act.put, List.setIfInBounds_toArray, List.set_cons_zero, List.set_cons_succ]
      refine wpAnyH_take (i := 19) (oi := { dst := some 60, op := Go.Op.call { callee := Go.Callee.builtin Go.Builtin.len, args := #[Go.Operand.tmp 59], argTypes := #[22] }, type := 3, pos := "law.go:57", after := #[{ on := 18, ground := Go.Ground.data }, { on := 15, ground := Go.Ground.guard }], guard := some (15, false) }) (v := ?_) rfl (by kernel_rfl) (by kernel_rfl) (by kernel_rfl) (fun _ _ _ h => h) (Or.inl ⟨by rfl, ?_⟩) hHeld3 ?_
      rotate_left 1
      · (intro wq hSq; (try dsimp only at hSq); go_simp; first | done | with_reducible rfl)
      try simp only [Act.put, List.setIfInBounds_toArray, List.set_cons_zero, List.set_cons_succ]
      refine wpAnyH_ready (rs := [17]) (by kernel_rfl) (by simp) ?_
      refine AllReadyH.cons (o := { dst := some 58, op := Go.Op.call { callee := Go.Callee.value (Go.Operand.func 21), args := #[Go.Operand.tmp 57], argTypes := #[31] }, type := 3, pos := "law.go:57", after := #[{ on := 16, ground := Go.Ground.data }, { on := 15, ground := Go.Ground.chain }, { on := 15, ground := Go.Ground.guard }], guard := some (15, false) }) rfl (fun K hK => ?_) AllReadyH.nil
      go_simp
      refine (LB.out _ b9).mono ?_
      rintro e w10 ⟨rfl, hw10⟩
      have hx10 := hw10.symm
      clear hw10
      subst hx10
      refine hK.out _ _ (keep_of HRd.out hbl (b9)) (fun hHeld4 => ?_)
      clear hK K hHeld3
      try simp only [Act.put, List.setIfInBounds_toArray, List.set_cons_zero, List.set_cons_succ]
      refine wpAnyH_take (i := 20) (oi := { dst := some 61, op := Go.Op.binOp Go.BinOp.neq 3 (Go.Operand.tmp 58) (Go.Operand.tmp 60) 3, type := 4, pos := "law.go:57", after := #[{ on := 17, ground := Go.Ground.data }, { on := 19, ground := Go.Ground.data }, { on := 15, ground := Go.Ground.guard }], guard := some (15, false) }) (v := ?_) rfl (by kernel_rfl) (by kernel_rfl) (by kernel_rfl) (fun _ _ _ h => h) (Or.inl ⟨by rfl, ?_⟩) hHeld4 ?_
      rotate_left 1
      · (intro wq hSq; (try dsimp only at hSq); go_simp; first | done | with_reducible rfl)
      try simp only [Act.put, List.setIfInBounds_toArray, List.set_cons_zero, List.set_cons_succ]
      refine wpAnyH_take (i := 21) (oi := { dst := some 62, op := Go.Op.pick (Go.Operand.tmp 56) (Go.Operand.const (Go.Value.bool true)) (Go.Operand.tmp 61), type := 4, pos := "law.go:57", after := #[{ on := 15, ground := Go.Ground.data }, { on := 20, ground := Go.Ground.data }], guard := none }) (v := ?_) rfl (by kernel_rfl) (by kernel_rfl) (by kernel_rfl) (fun _ _ _ h => h) (Or.inl ⟨by rfl, ?_⟩) hHeld4 ?_
      rotate_left 1
      · (intro wq hSq; (try dsimp only at hSq); go_simp; first | done | with_reducible rfl)
      try simp only [Act.put, List.setIfInBounds_toArray, List.set_cons_zero, List.set_cons_succ]
      refine wpAnyH_take (i := 22) (oi := { dst := some 63, op := Go.Op.move (Go.Operand.tmp 62), type := 4, pos := "law.go:57", after := #[{ on := 21, ground := Go.Ground.data }, { on := 17, ground := Go.Ground.chain }], guard := none }) (v := ?_) rfl (by kernel_rfl) (by kernel_rfl) (by kernel_rfl) (fun _ _ _ h => h) (Or.inl ⟨by rfl, ?_⟩) hHeld4 ?_
      rotate_left 1
      · (intro wq hSq; (try dsimp only at hSq); go_simp; first | done | with_reducible rfl)
      try simp only [Act.put, List.setIfInBounds_toArray, List.set_cons_zero, List.set_cons_succ]
      refine wpAnyH_take (i := 24) (oi := { dst := some 65, op := Go.Op.move (Go.Operand.tmp 5), type := 22, pos := "law.go:57", after := #[{ on := 22, ground := Go.Ground.guard }], guard := some (22, false) }) (v := ?_) rfl (by kernel_rfl) (by kernel_rfl) (by kernel_rfl) (fun _ _ _ h => h) (Or.inl ⟨by rfl, ?_⟩) hHeld4 ?_
      rotate_left 1
      · (intro wq hSq; (try dsimp only at hSq); go_simp; first | done | with_reducible rfl)
      try simp only [Act.put, List.setIfInBounds_toArray, List.set_cons_zero, List.set_cons_succ]
      refine wpAnyH_take (i := 25) (oi := { dst := some 66, op := Go.Op.call { callee := Go.Callee.builtin Go.Builtin.len, args := #[Go.Operand.tmp 65], argTypes := #[22] }, type := 3, pos := "law.go:57", after := #[{ on := 24, ground := Go.Ground.data }, { on := 22, ground := Go.Ground.guard }], guard := some (22, false) }) (v := ?_) rfl (by kernel_rfl) (by kernel_rfl) (by kernel_rfl) (fun _ _ _ h => h) (Or.inl ⟨by rfl, ?_⟩) hHeld4 ?_
      rotate_left 1
      · (intro wq hSq; (try dsimp only at hSq); go_simp; first | done | with_reducible rfl)
      try simp only [Act.put, List.setIfInBounds_toArray, List.set_cons_zero, List.set_cons_succ]
      refine wpAnyH_ready (rs := [23]) (by kernel_rfl) (by simp) ?_
      refine AllReadyH.cons (o := { dst := some 64, op := Go.Op.call { callee := Go.Callee.value (Go.Operand.func 21), args := #[Go.Operand.tmp 4], argTypes := #[37] }, type := 3, pos := "law.go:57", after := #[{ on := 22, ground := Go.Ground.chain }, { on := 22, ground := Go.Ground.guard }], guard := some (22, false) }) rfl (fun K hK => ?_) AllReadyH.nil
      go_simp
      refine (LC.out _ b9).mono ?_
      rintro e w11 ⟨rfl, hw11⟩
      have hx11 := hw11.symm
      clear hw11
      subst hx11
      refine hK.out _ _ (keep_of HRd.out hbl (b9)) (fun hHeld5 => ?_)
      clear hK K hHeld4
      try simp only [Act.put, List.setIfInBounds_toArray, List.set_cons_zero, List.set_cons_succ]
      refine wpAnyH_take (i := 26) (oi := { dst := some 67, op := Go.Op.binOp Go.BinOp.neq 3 (Go.Operand.tmp 64) (Go.Operand.tmp 66) 3, type := 4, pos := "law.go:57", after := #[{ on := 23, ground := Go.Ground.data }, { on := 25, ground := Go.Ground.data }, { on := 22, ground := Go.Ground.guard }], guard := some (22, false) }) (v := ?_) rfl (by kernel_rfl) (by kernel_rfl) (by kernel_rfl) (fun _ _ _ h => h) (Or.inl ⟨by rfl, ?_⟩) hHeld5 ?_
      rotate_left 1
      · (intro wq hSq; (try dsimp only at hSq); go_simp; first | done | with_reducible rfl)
      try simp only [Act.put, List.setIfInBounds_toArray, List.set_cons_zero, List.set_cons_succ]
      refine wpAnyH_take (i := 27) (oi := { dst := some 68, op := Go.Op.pick (Go.Operand.tmp 63) (Go.Operand.const (Go.Value.bool true)) (Go.Operand.tmp 67), type := 4, pos := "law.go:57", after := #[{ on := 22, ground := Go.Ground.data }, { on := 26, ground := Go.Ground.data }], guard := none }) (v := ?_) rfl (by kernel_rfl) (by kernel_rfl) (by kernel_rfl) (fun _ _ _ h => h) (Or.inl ⟨by rfl, ?_⟩) hHeld5 ?_
      rotate_left 1
      · (intro wq hSq; (try dsimp only at hSq); go_simp; first | done | with_reducible rfl)
      try simp only [Act.put, List.setIfInBounds_toArray, List.set_cons_zero, List.set_cons_succ]
      refine wpAnyH_done (by kernel_rfl) ?_ _
      refine NoPanic.normal ?_
      have b09 : Below w5.heap.size w5 w9 := b5W.trans (b9.mono zW)
      go_wp2
      go_roundw
      case rel => exact ⟨k + 1, by omega, by go_num, b5.trans (b09.mono b5.size), by unfold Hid; rw [HTK.out]; exact BB.out _ b09, by rw [HTK.out]; exact own_below O5.out b09⟩
      case measure => simp [intOf]; omega
    · have ek : (ls.take k).flatten = ls.flatten := by rw [List.take_of_length_le (by omega)]
      have hyA := HYF.out k
      have hA := HLF.out k
      generalize (ls.take k).flatten = A at *
      obtain ⟨HB, hHB⟩ : ∃ HB, HB = hashOf A := ⟨_, rfl⟩
      have hlen : HB.length = 32 := by rw [hHB]; exact hashOf_length _
      have SB : Hid (Calls Tryd.prog 20 #[.pointer (some ⟨B, 0, none⟩)] wr fun e w'' => e = .returned (.agg (vB HB)) ∧ Below wr.heap.size wr w'') := by unfold Hid; rw [hHB]; exact both_sum hL bl HB0.out (by omega) B (Or.inl rfl) wr (Below.refl _ _)
      have RS : Hid (∀ w', Below wr.heap.size wr w' → Calls Tryd.prog 14 #[u5] w' fun e w'' => e = .returned (.agg (vB HB)) ∧ Below w'.heap.size w' w'') := fun w' q => by rw [hHB]; exact rsum_any u5 A w' ((ho.partG (by omega)).below q) (by omega) hyA
      have E24 : Hid (∀ w' : World, (Op.equalIn 10000 24 (.agg (vB HB)) (.agg (vB HB))).run Tryd.prog w' = .ok true w') := fun w' => eq24_self 9998 HB hlen w'
      clear hHB hyA ek HB0 ho HYF HLF HP HR
      go_wp2_with fail
      refine SB.out.mono ?_
      rintro e w3 ⟨rfl, b3⟩
      go_wp2_with fail
      refine (RS.out _ b3).mono ?_
      rintro e w4 ⟨rfl, b4⟩
      have e24 := E24.out w4
      go_wp2_with fail
      go_ret
      exact ⟨rfl, bl.trans ((b3.trans (b4.mono b3.size)).mono bl.size)⟩
set_option maxRecDepth 100000 in
set_option maxHeartbeats 1000000 in
theorem pieces_out (av : Option Addr) (n cp : Nat) (w : World) (hL : Laid w) (C17 : ∀ w', Below w.heap.size w w' → Calls Tryd.prog 17 #[.slice av n cp] w' fun e w'' => e = .returned (.bool false) ∧ w'' = w') :
    Calls Tryd.prog 4 #[.slice av n cp] w fun e w' => e = .returned (.bool true) ∧ Below w.heap.size w w' := by
  have C : Hid (∀ w', Below w.heap.size w w' → Calls Tryd.prog 17 #[.slice av n cp] w' fun e w'' => e = .returned (.bool false) ∧ w'' = w') := C17
  clear C17
  go_enter Tryd.func4, Tryd.ntmps4
  go_wp2_with fail
  refine (awake_any _ hL).mono ?_
  rintro e w1 ⟨rfl, b1⟩
  have hL1 := hL.below b1 hL.two
  go_wp2_with (first | (go_at_call 17; refine (C.out _ b1).mono ?_; rintro e w' ⟨rfl, hw'⟩; have hw'' := hw'.symm; clear hw'; subst hw''))
  refine (awake_any _ hL1).mono ?_
  rintro e w2 ⟨rfl, b2⟩
  go_wp2
  go_ret
  exact ⟨rfl, b1.trans (b2.mono b1.size)⟩
theorem shaPieces_walk (v : Value) (ls : List (List Int)) (w : World) (hL : Laid w) (hp : PartsAt w v ls) (hl : ∀ l ∈ ls, l.length ≤ 140737488351232) (hn : ls.length ≤ 140737488351232) (hby : ∀ l ∈ ls, Bytes l) :
    Calls Tryd.prog 4 #[v] w fun e w' => e = .returned (.bool true) ∧ Below w.heap.size w w' := by
  have hp0 := hp
  obtain ⟨av, b, o, cp, vs, rfl, hcp, hcp2, hav, hvl, hr, hb, hpp⟩ := hp
  have C : ∀ w', Below w.heap.size w w' → Calls Tryd.prog 17 #[.slice av ls.length cp] w' fun e w'' => e = .returned (.bool (fewA 0 0 ls)) ∧ w'' = w' := fun w' k => few_any _ ls w' (hp0.below k) hl hn
  cases hfe : fewA 0 0 ls with
  | true =>
    rw [hfe] at C
    have hs := fewA_small ls 0 0 (by omega) (by omega) hfe
    exact pieces_in av b o cp vs ls w hL hcp hcp2 hav hvl hr hb hpp hby (by omega) (by omega) C
  | false =>
    rw [hfe] at C
    exact pieces_out av ls.length cp w hL C
end Go.Proofs.YtlcenbhcegmnoaaDoor
