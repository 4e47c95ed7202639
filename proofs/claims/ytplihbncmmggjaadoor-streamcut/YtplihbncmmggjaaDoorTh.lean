import Derived.Test.YtplihbncmmggjaaDoorTg
namespace Go.Proofs.YtplihbncmmggjaaDoor
set_option linter.unusedSimpArgs false
set_option linter.unusedVariables false
open Go.RowKit
theorem enc_begins (t : Int) (ht : 0 < t ∧ t ≤ 255) (b : List Int) (h : b.length ≤ 1000) (k : Nat) : beginsB ((encB t b).take k) = true := by
  rw [encB_eq t b h]
  exact begins_sound t _ _ _ ht.1 (by omega) (by omega) (by omega) k
theorem dec_cut (t : Int) (ht : 0 < t ∧ t ≤ 255) (b : List Int) (h : b.length ≤ 1000) (k : Nat) (hk : k < b.length + 10) : decR ((encB t b).take k) = (0, [], 0, 4) := by
  have hlen : ((encB t b).take k).length = k := by rw [List.length_take, encB_length]; omega
  unfold decR
  rw [enc_begins t ht b h k, if_neg (by simp), hlen]
  by_cases h10 : k < 10
  · rw [if_pos h10, if_pos (by omega)]
  · rw [if_neg h10]
    have : lenD ((encB t b).take k) = b.length := by
      rw [encB_eq t b h]
      obtain ⟨m, rfl⟩ : ∃ m, k = m + 6 := ⟨k - 6, by omega⟩
      show lenD (114 :: 100 :: 1 :: t :: (b.length : Int) / 256 :: (b.length : Int) % 256 :: ((sum4 t b ++ b).take m)) = _
      rw [lenD_lit]; omega
    rw [this, if_pos (by omega)]
theorem feed_cut (t : Int) (ht : 0 < t ∧ t ≤ 255) (b : List Int) (h : b.length ≤ 1000) (k : Nat) (hk : k < b.length + 10) : feedR ((encB t b).take k) = ([], 0, (encB t b).take k) :=
  feedR_short _ (by rw [dec_cut t ht b h k hk])
theorem feed_enc (t : Int) (ht : 0 < t ∧ t ≤ 255) (b : List Int) (h : b.length ≤ 1000) : feedR (encB t b) = ([(t, b)], 0, []) := by
  have hd := dec_enc t ht b [] h
  rw [List.append_nil] at hd
  have hl := encB_length t b
  have hne : encB t b ≠ [] := fun e => by rw [e] at hl; simp at hl
  have hz : (encB t b).drop (10 + (b.length : Int)).toNat = [] := List.drop_eq_nil_of_le (by rw [hl]; omega)
  rw [feedR_ok _ hne (by rw [hd])]
  rw [hd]
  show ((t, b) :: (feedR ((encB t b).drop (10 + (b.length : Int)).toNat)).1, (feedR ((encB t b).drop (10 + (b.length : Int)).toNat)).2) = _
  rw [hz, feedR_nil]
theorem part_cut {w : World} {b o L cp : Nat} {E : List Int} (hE : E.length = L) (h : PartAt w (.slice (some ⟨b, o, none⟩) L cp) E) (k : Nat) (hk : k < L) :
    PartAt w (.slice (some ⟨b, o, none⟩) k cp) (E.take k) ∧ PartAt w (.slice (some ⟨b, o + k, none⟩) (L - k) (cp - k)) (E.drop k) ∧ L ≤ cp ∧ cp ≤ 9223372036854775807 := by
  obtain ⟨av, b1, o1, c1, h1, h2, h3, h4, h5, h6, h7⟩ := h
  injection h1 with h1 hx hy
  subst h1 hy
  obtain ⟨rfl, rfl⟩ : b = b1 ∧ o = o1 := by
    have := h4 (by omega); injection this with this; injection this with q1 q2; exact ⟨q1, q2⟩
  have r1 := range_subT h5 0 k
  have r2 := range_subT h5 k (L - k)
  rw [List.drop_zero, Nat.add_zero] at r1
  rw [List.take_of_length_le (by rw [List.length_drop]; omega)] at r2
  refine ⟨⟨_, b, o, cp, ?_, ?_, h3, fun _ => rfl, r1, h6, fun h => by cases h⟩, ⟨_, b, o + k, cp - k, ?_, ?_, by omega, fun _ => rfl, r2, h6, fun h => by cases h⟩, by omega, h3⟩
  · rw [List.length_take, hE, Nat.min_eq_left (by omega)]
  · rw [List.length_take]; omega
  · rw [List.length_drop, hE]
  · rw [List.length_drop]; omega
/-- The law's memory: the frame's box, the stream's box. -/
structure CutS (w : World) (gf gs : Nat) (t : Int) (v : Value) (S : List Int) (w' : World) : Prop where
  bel : Below w.heap.size w w'
  box : w'.rangeAt gf 0 [.int .u8 t, v]
  lf : gf < gs
  lg : w.heap.size ≤ gs
  st : SBox w' gs S 0
theorem CutS.below {w w' w'' : World} {gf gs : Nat} {t : Int} {v : Value} {S : List Int} (h : CutS w gf gs t v S w') (b : Below w'.heap.size w' w'') : CutS w gf gs t v S w'' :=
  ⟨h.bel.trans (b.mono h.bel.size), range_below h.box b (Nat.lt_trans h.lf h.st.lt), h.lf, h.lg, h.st.below b⟩
theorem CutS.grown {w w' w'' : World} {gf gs : Nat} {t : Int} {v : Value} {S S' : List Int} (h : CutS w gf gs t v S w') (g : w'.grownBy w'' (some gs)) (s : SBox w'' gs S' 0) : CutS w gf gs t v S' w'' :=
  ⟨h.bel.grown g h.bel.size (fun k hk => by injection hk with hk; have := h.lg; omega), fun j x hx => by
    rw [World.cell?_of_block (w := w') (g.block gf (Nat.lt_trans h.lf h.st.lt) (fun e => by injection e with e; have := h.lf; omega))]; exact h.box j x hx, h.lf, h.lg, s⟩
theorem cut_feed1 (t : Int) (ht : 0 < t ∧ t ≤ 255) (b : List Int) (hb : Bytes b) (hn : b.length ≤ 300) (k : Nat) (hk : k < b.length + 10) (w : World) (hL : Laid w) (gf gs : Nat) (v tv : Value) (hg : 2 ≤ gs) (W : World) (h : CutS w gf gs t v [] W) (hp : PartAt W tv ((encB t b).take k)) :
    Calls Tryd.prog 48 #[.pointer (some ⟨gs, 0, none⟩), tv] W fun e w' => ∃ av' cp', e = .returned (.slice av' 0 cp') ∧ CutS w gf gs t v ((encB t b).take k) w' ∧ W.grownBy w' (some gs) := by
  have hby : Bytes ((encB t b).take k) := fun x hx => encB_bytes t ⟨by omega, ht.2⟩ b (by omega) hb x (List.take_subset _ _ hx)
  have hl : ((encB t b).take k).length ≤ 500000 := by rw [List.length_take, encB_length]; omega
  refine (feed_any gs [] _ 0 (fun x hx => by cases hx) hby (by simp) hl (by omega) tv W (hL.below h.bel hL.two) hg h.st hp).mono fun e w' ⟨u, us, r1, r2, r3, r4⟩ => ?_
  rw [List.nil_append, feed_cut t ht b (by omega) k hk] at r2 r3
  obtain ⟨av', cp', hv⟩ := r2.form
  exact ⟨av', cp', by rw [r1, hv]; rfl, h.grown r4 r3, r4⟩
theorem cut_feed2 (t : Int) (ht : 0 < t ∧ t ≤ 255) (b : List Int) (hb : Bytes b) (hn : b.length ≤ 300) (k : Nat) (hk : k < b.length + 10) (w : World) (hL : Laid w) (gf gs : Nat) (v dv : Value) (hg : 2 ≤ gs) (W : World) (h : CutS w gf gs t v ((encB t b).take k) W) (hp : PartAt W dv ((encB t b).drop k)) :
    Calls Tryd.prog 48 #[.pointer (some ⟨gs, 0, none⟩), dv] W fun e w' => ∃ g0 cap u0, e = .returned (.slice (some ⟨g0, 0, none⟩) 1 cap) ∧ CutS w gf gs t v [] w' ∧ w'.rangeAt g0 0 [.int .u8 t, u0] ∧ g0 < w'.heap.size ∧ PartAt w' u0 b ∧ W.grownBy w' (some gs) := by
  have hE : Bytes (encB t b) := encB_bytes t ⟨by omega, ht.2⟩ b (by omega) hb
  have hby : Bytes ((encB t b).take k) := fun x hx => hE x (List.take_subset _ _ hx)
  have hbz : Bytes ((encB t b).drop k) := fun x hx => hE x (List.drop_subset _ _ hx)
  have hl : ((encB t b).take k).length ≤ 500000 := by rw [List.length_take, encB_length]; omega
  have hm : ((encB t b).drop k).length ≤ 500000 := by rw [List.length_drop, encB_length]; omega
  refine (feed_any gs _ _ 0 hby hbz hl hm (by omega) dv W (hL.below h.bel hL.two) hg h.st hp).mono fun e w' ⟨u, us, r1, r2, r3, r4⟩ => ?_
  rw [List.take_append_drop, feed_enc t ht b (by omega)] at r2 r3
  have q := r2.len
  obtain ⟨u0, rfl⟩ : ∃ u0, us = [u0] := by
    cases us with
    | nil => simp at q
    | cons x xs => cases xs with
      | nil => exact ⟨x, rfl⟩
      | cons y ys => simp at q
  have po := r2.part 0 u0 (t, b) rfl rfl
  rcases r2.own.2 with ⟨_, q0⟩ | ⟨g0, cap, cur, q1, q2, q3, q4, q5, q6, q7⟩
  · simp at q0
  refine ⟨g0, cap, u0, by rw [r1, q1]; rfl, h.grown r4 r3, fun j x hx => ?_, (Array.getElem?_eq_some_iff.1 q3).1, po.partG (by have := (Array.getElem?_eq_some_iff.1 q3).1; omega), r4⟩
  have hx' : (cellsF [(t, b)] [u0])[j]? = some x := hx
  rw [← q7, List.getElem?_take] at hx'
  split at hx'
  · rw [Nat.zero_add]; exact row_cell q3 (by simpa using hx')
  · cases hx'
theorem cut_same (t : Int) (b : List Int) (w : World) (gf gs : Nat) (v : Value) (S : List Int) (W : World) (h : CutS w gf gs t v S W) (g0 cap gb cq : Nat) (u0 : Value) (h0 : W.rangeAt g0 0 [.int .u8 t, u0]) (l0 : g0 < W.heap.size) (p0 : PartAt W u0 b) (hb : W.rangeAt gb 0 [.int .u8 t, v]) (lb : gb < W.heap.size) (pv : PartAt W v b) :
    Calls Tryd.prog 50 #[.slice (some ⟨g0, 0, none⟩) 1 cap, .slice (some ⟨gb, 0, none⟩) 1 cq] W fun e w' => e = .returned (.bool true) ∧ CutS w gf gs t v S w' :=
  (samef_pos g0 0 cap gb 0 cq 1 (by omega) W (fun k hk => ⟨t, b, u0, v, fun W' q => by
    obtain rfl : k = 0 := by omega
    exact ⟨range_below h0 q l0, range_below hb q lb, p0.below q, pv.below q⟩⟩)).mono fun e w' ⟨r1, r2⟩ => ⟨r1, h.below r2⟩
theorem cut_waits (w : World) (gf gs : Nat) (t : Int) (v : Value) (S : List Int) (W : World) (h : CutS w gf gs t v S W) : Calls Tryd.prog 52 #[.pointer (some ⟨gs, 0, none⟩)] W fun e w' => e = .returned (.int .i64 S.length) ∧ W = w' := waits_any gs S 0 W h.st
theorem cut_dropped (w : World) (gf gs : Nat) (t : Int) (v : Value) (S : List Int) (W : World) (h : CutS w gf gs t v S W) : Calls Tryd.prog 51 #[.pointer (some ⟨gs, 0, none⟩)] W fun e w' => e = .returned (.int .i64 0) ∧ W = w' := dropped_any gs S 0 W h.st
end Go.Proofs.YtplihbncmmggjaaDoor
