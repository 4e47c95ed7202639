import Derived.Test.YtffhjjgkoapioaaDoorMk
import Derived.Test.YtffhjjgkoapioaaDoorMf
import Derived.Test.YtffhjjgkoapioaaDoorMe
namespace Go.Proofs.YtffhjjgkoapioaaDoor
set_option linter.unusedSimpArgs false
set_option linter.unusedVariables false
open Go.RowKit
/-- The slice u has the texts ls, each of memory of its own. -/
def RowIn (base : Nat) (ls : List (List Int)) (u : Value) (W : World) : Prop := ∃ vs, W.ownsRow base 22 1 u ls.length vs ∧ ∀ (i : Nat) (x : Value) (l : List Int), vs[i]? = some x → ls[i]? = some l → OwnB W base x l
set_option maxRecDepth 100000 in
theorem own_lt {W : World} {base e size : Nat} {v : Value} {n : Nat} {xs : List Value} (h : W.ownsRow base e size v n xs) : ∀ k, v.ownBlock = some k → k < W.heap.size ∧ base ≤ k := fun k hk => by
  rcases h.2 with ⟨rfl, _⟩ | ⟨g, cap, cur, rfl, hb, hg, _⟩
  · simp [Value.ownBlock] at hk
  · obtain rfl : g = k := by simpa [Value.ownBlock] using hk
    exact ⟨(Array.getElem?_eq_some_iff.1 hg).1, hb⟩
set_option maxRecDepth 100000 in
theorem own_apart {W : World} {base base' e e' size size' : Nat} {v v' : Value} {n n' : Nat} {xs xs' : List Value} (h : W.ownsRow base e size v n xs) (h' : W.ownsRow base' e' size' v' n' xs') (he : e ≠ e') : v.ownBlock = none ∨ v.ownBlock ≠ v'.ownBlock := by
  rcases h.2 with ⟨rfl, _⟩ | ⟨g, cap, cur, rfl, hb, hg, _⟩
  · exact .inl rfl
  · refine .inr fun q => ?_
    rcases h'.2 with ⟨rfl, _⟩ | ⟨g', cap', cur', rfl, hb', hg', _⟩
    · simp [Value.ownBlock] at q
    · obtain rfl : g = g' := by simpa [Value.ownBlock] using q
      rw [hg] at hg'
      simp at hg'
      exact he hg'.2
set_option maxRecDepth 100000 in
theorem own_alloc {W : World} {base e size : Nat} {v : Value} {n : Nat} {xs : List Value} (h : W.ownsRow base e size v n xs) (o : Obj) : (W.alloc o).ownsRow base e size v n xs :=
  h.kept (World.grownBy_alloc W o none) (by
    rcases h.2 with ⟨rfl, _⟩ | ⟨g, cap, cur, rfl, _⟩
    · exact .inl rfl
    · exact .inr (by simp [Value.ownBlock]))
set_option maxRecDepth 100000 in
theorem own_new {W w' : World} {base e size : Nat} {v : Value} {n : Nat} {xs : List Value} (o : Obj) (h : W.ownsRow base e size v n xs) (hg : (W.alloc o).grownBy w' (some W.heap.size)) : w'.ownsRow base e size v n xs :=
  (own_alloc h o).kept hg (by
    rcases h.2 with ⟨rfl, _⟩ | ⟨g, cap, cur, rfl, _, hgg, _⟩
    · exact .inl rfl
    · refine .inr fun q => ?_
      have : g = W.heap.size := by simpa [Value.ownBlock] using q
      have := (Array.getElem?_eq_some_iff.1 hgg).1
      omega)
set_option maxRecDepth 100000 in
theorem rowIn_step {base : Nat} {ls : List (List Int)} {l : List Int} {wr w5 w6 : World} {u v1 v2 : Value} {vs : List Value} {A0 : Obj} (hr : wr.ownsRow base 22 1 u ls.length vs) (hel : ∀ (i : Nat) (x : Value) (l : List Int), vs[i]? = some x → ls[i]? = some l → OwnB wr base x l)
    (g1 : (wr.alloc A0).grownBy w5 (some wr.heap.size)) (o1 : OwnB w5 base v1 l) (o2 : w6.ownsRow base 22 1 v2 (ls.length + 1) (vs ++ [v1])) (g2 : (w5.alloc (.cells #[v1] 22)).grownBy w6 u.ownBlock) : RowIn base (ls ++ [l]) v2 w6 := by
  have hr5 := own_new A0 hr g1
  have keep : ∀ (x : Value) (m : List Int), OwnB w5 base x m → OwnB w6 base x m := fun x m h => (own_alloc h _).kept g2 (own_apart h hr5 (by decide))
  have hvl : vs.length = ls.length := by simpa using hr.1
  refine ⟨vs ++ [v1], by simpa using o2, fun i x m h1 h3 => ?_⟩
  rcases Nat.lt_or_ge i vs.length with hi | hi
  · rw [List.getElem?_append_left hi] at h1
    rw [List.getElem?_append_left (by omega)] at h3
    exact keep x m (own_new A0 (hel i x m h1 h3) g1)
  · have hi' : i < vs.length + 1 := by have := (List.getElem?_eq_some_iff.1 h1).1; simpa using this
    obtain rfl : i = vs.length := by omega
    rw [List.getElem?_append_right (Nat.le_refl _)] at h1
    rw [List.getElem?_append_right (by omega), hvl] at h3
    simp at h1 h3
    subst h1 h3
    exact keep _ _ o1
set_option maxRecDepth 100000 in
theorem RowIn.parts {base : Nat} {ls : List (List Int)} {u : Value} {W : World} (h : RowIn base ls u W) (h0 : 0 < W.heap.size) : PartsAt W u ls := by
  obtain ⟨vs, hr, hel⟩ := h
  have hvl : vs.length = ls.length := by simpa using hr.1
  have hp : ∀ (i : Nat) (x : Value) (l : List Int), vs[i]? = some x → ls[i]? = some l → PartAt W x l := fun i x l h1 h2 => (hel i x l h1 h2).partG h0
  rcases hr.2 with ⟨rfl, hn0⟩ | ⟨g, cap, cur, rfl, _, hgb, r1, r2, r3, r4⟩
  · have : vs = [] := List.eq_nil_of_length_eq_zero (by omega)
    subst this
    exact ⟨none, 0, 0, 0, [], by rw [hn0], by omega, by omega, fun h => by omega, hvl, fun j v hv => by simp at hv, h0, fun i x l h => by simp at h⟩
  · refine ⟨some ⟨g, 0, none⟩, g, 0, cap, vs, rfl, r1, r2, fun _ => rfl, hvl, fun j x hx => ?_, (Array.getElem?_eq_some_iff.1 hgb).1, hp⟩
    rw [Nat.zero_add, cell_of_row W g j cur 22 (0, 0) hgb]
    rw [← r4, List.getElem?_take] at hx
    split at hx
    · simpa using hx
    · cases hx
def chunksTo (bs : List Int) (k : Nat) : List (List Int) := (piecesTo bs.length k).map (fun p => textOf bs p.1)
set_option maxRecDepth 100000 in
theorem chunksTo_length (bs : List Int) (k : Nat) : (chunksTo bs k).length = k := by simp [chunksTo, piecesTo]
set_option maxRecDepth 100000 in
theorem chunksTo_succ (bs : List Int) (k : Nat) (h : 32 * k < bs.length) : chunksTo bs (k + 1) = chunksTo bs k ++ [textOf bs (32 * k, min 32 (bs.length - 32 * k))] := by
  unfold chunksTo
  rw [piecesTo_succ, List.map_append]
  congr 1
  have e : (pieceAt bs.length k).1 = (32 * k, min 32 (bs.length - 32 * k)) := by unfold pieceAt; simp; omega
  show [textOf bs (pieceAt bs.length k).1] = _
  rw [e]
set_option maxRecDepth 100000 in
theorem ownB_empty (w : World) (base : Nat) (h : base ≤ w.heap.size) : OwnB (w.alloc (.cells #[] 5)) base (.slice (some ⟨w.heap.size, 0, none⟩) 0 0) [] :=
  ⟨rfl, Or.inr ⟨w.heap.size, 0, #[], rfl, h, heap_alloc_new _ _, Nat.le_refl _, by unfold maxLen; omega, rfl, rfl⟩⟩
set_option maxRecDepth 100000 in
set_option maxHeartbeats 2000000 in
theorem rchunks_any (v : Value) (bs : List Int) (w : World) (h0 : 0 < w.heap.size) (hp : PartAt w v bs) (hn : bs.length ≤ 1000000000000) :
    Calls Tryd.prog 29 #[v] w fun e w' => ∃ v', e = .returned v' ∧ PartsAt w' v' (chunksL bs) ∧ Below w.heap.size w w' := by
  obtain ⟨ii, hi, hz0, hz1, hz2⟩ := info_parts info22
  obtain ⟨av, b, o, cp, rfl, hcp, hcp2, hav, hr, hb, _⟩ := hp
  have HR : Hid (w.rangeAt b o (vB bs).toList) := hr
  clear hr
  go_enter Tryd.func29, Tryd.ntmps29
  go_wp2
  go_loopw [3, 4] (fun u i wr => ∃ k : Nat, k ≤ (bs.length + 31) / 32 ∧ i = .int .i64 ((32 * k : Nat) : Int) ∧ Below w.heap.size w wr ∧ Hid (RowIn w.heap.size (chunksTo bs k) u wr)) (fun _ i _ => bs.length + 32 - (intOf i).toNat)
  case atStart => exact ⟨0, by omega, rfl, Below.refl _ _, ⟨[], ⟨rfl, Or.inl ⟨rfl, rfl⟩⟩, fun i x l h => by simp at h⟩⟩
  case round =>
    obtain ⟨k, hk, rfl, bl, RI⟩ := hrel
    have hbs := bl.size
    by_cases hlt : 32 * k < bs.length
    · obtain rfl := hav (by omega)
      obtain ⟨vs, hrow, hel⟩ := RI.out
      have hcl := chunksTo_length bs k
      have CS := chunksTo_succ bs k hlt
      have hk1 : k + 1 ≤ (bs.length + 31) / 32 := by omega
      have HE : Hid (Value.int .i64 (((32 * k : Nat) : Int) + 32) = Value.int .i64 ((32 * (k + 1) : Nat) : Int)) := by unfold Hid; rw [show ((32 * k : Nat) : Int) + 32 = ((32 * (k + 1) : Nat) : Int) by omega]
      have HD : Hid (bs.length + 32 - (intOf (Value.int .i64 (((32 * k : Nat) : Int) + 32))).toNat < bs.length + 32 - (intOf (Value.int .i64 ((32 * k : Nat) : Int))).toNat) := by unfold Hid; simp only [intOf]; omega
      obtain ⟨p, hpk⟩ : ∃ p, p = 32 * k := ⟨_, rfl⟩
      rw [← hpk] at hlt CS HE HD ⊢
      have HPK : Hid (p = 32 * k) := hpk
      clear hpk
      obtain ⟨m, hm⟩ : ∃ m, m = min 32 (bs.length - p) := ⟨_, rfl⟩
      have hys : (textOf bs (p, m)).length = m := by simp [textOf]; omega
      rw [← hm] at CS
      have HCS : Hid (chunksTo bs (k + 1) = chunksTo bs k ++ [textOf bs (p, m)]) := CS
      have hm1 : 1 ≤ m := by omega
      have hm2 : m ≤ 32 := by omega
      have HM : Hid ((min ((p : Int) + 32) (bs.length : Int)).toNat - p = m) := by unfold Hid; omega
      have j1 : (0 : Int) ≤ (p : Int) := by omega
      have j2 : (p : Int) ≤ min ((p : Int) + 32) (bs.length : Int) := by omega
      have j3 : min ((p : Int) + 32) (bs.length : Int) ≤ (cp : Int) := by omega
      have PA : Hid (∀ w', Below w.heap.size w w' → PartAt w' (.slice (some ⟨b, o + p, none⟩) ((min ((p : Int) + 32) (bs.length : Int)).toNat - p) (cp - p)) (textOf bs (p, m))) := fun w' q => by
        rw [HM.out]
        exact ⟨some ⟨b, o + p, none⟩, b, o + p, cp - p, by rw [hys], by omega, by omega, fun _ => rfl, range_take (range_drop (range_below HR.out q hb) p) m, Nat.lt_of_lt_of_le hb q.size, fun h => by cases h⟩
      have bA : Below w.heap.size w (wr.alloc (.cells #[] 5)) := bl.alloc hbs _
      have hrow' : wr.ownsRow w.heap.size 22 1 u3 k vs := by rw [hcl] at hrow; exact hrow
      have HROW : Hid (wr.ownsRow w.heap.size 22 1 u3 k vs) := hrow'
      have HST : Hid (∀ (w5 w6 : World) (v1 v2 : Value), (wr.alloc (.cells #[] 5)).grownBy w5 (some wr.heap.size) → OwnB w5 w.heap.size v1 (textOf bs (p, m)) → w6.ownsRow w.heap.size 22 1 v2 (k + 1) (vs ++ [v1]) → (w5.alloc (.cells #[v1] 22)).grownBy w6 u3.ownBlock → RowIn w.heap.size (chunksTo bs (k + 1)) v2 w6) := fun w5 w6 v1 v2 k1 k2 k3 k4 => by
        rw [HCS.out]
        exact rowIn_step hrow hel k1 k2 (by rw [hcl]; exact k3) k4
      have HNE : Hid (textOf bs (p, m) ≠ []) := fun e => by rw [e] at hys; simp only [List.length_nil] at hys; omega
      clear RI hrow hel hrow' hcl CS hm hav
      have APP : Hid (∀ (ops : Array Oper) (rest : List Oper) (q : Oper) (a : Act) (Q : Exit → Act → World → Prop), q.guard = none → (q.op = .call { callee := .builtin .append, args := #[.tmp 12, .tmp 20], argTypes := #[22, 22] }) → a.eval (.tmp 12) = (Value.slice (some ⟨wr.heap.size, 0, none⟩) 0 0) → a.eval (.tmp 20) = (.slice (some ⟨b, o + p, none⟩) ((min ((p : Int) + 32) (bs.length : Int)).toNat - p) (cp - p)) →
          (∀ g c w5, OwnB w5 w.heap.size (.slice (some ⟨g, 0, none⟩) m c) (textOf bs (p, m)) → (wr.alloc (.cells #[] 5)).grownBy w5 (some wr.heap.size) → Below w.heap.size w w5 → wpList Tryd.prog ops Q rest (a.put q.dst (.slice (some ⟨g, 0, none⟩) m c)) w5) → wpList Tryd.prog ops Q (q :: rest) a (wr.alloc (Obj.cells #[] 5))) := by
        intro ops rest q a Q hg ho h1 h2 hK
        refine appendB hg _ _ ho w.heap.size _ [] h1 (ownB_empty wr w.heap.size hbs) _ (textOf bs (p, m)) h2 (PA.out _ bA) (by simp only [List.length_nil, hys]; omega) (by simp; omega) ?_
        intro v1 w5 o1 g1 d1
        have o1' : OwnB w5 w.heap.size v1 (textOf bs (p, m)) := o1
        have q5 : Below w.heap.size w w5 := bA.grown g1 (by simp; omega) (fun j hj => by simp [Value.ownBlock] at hj; omega)
        obtain ⟨g, c, hv1, _, _⟩ := o1'.form HNE.out
        rw [hys] at hv1
        subst hv1
        exact hK g c w5 o1' g1 q5
      clear PA bA HNE
      go_wp2_with (first | (at_builtin; refine APP.out _ _ _ _ _ rfl rfl rfl rfl ?_; intro g c w5 o1 g1 q5) | (at_builtin; refine wpList_append_own_at _ rfl _ _ 29 rfl w.heap.size 22 ii (.slice none 0 0) 1 24 Tryd.underlying29 hi hz0 hz1 hz2 rfl (by omega) u3 k vs rfl (own_alloc (own_new _ HROW.out g1) _) ⟨w5.heap.size, 0, none⟩ 1 1 [_] rfl rfl (cell_one_new _ _ _) (by simp [Value.oneCell']) (by unfold maxLen; omega) (by omega) (by have := q5.size; simp; omega) ?_; intro v2 w6 o2 g2 _ d2))
      have q6 : Below w.heap.size w w6 := (q5.alloc q5.size _).grown g2 (by have := q5.size; simp; omega) (fun j hj => (own_lt HROW.out j hj).2)
      exact ⟨⟨k + 1, hk1, HE.out, q6, HST.out w5 w6 _ v2 g1 o1 o2 g2⟩, HD.out⟩
    · have ek : chunksTo bs k = chunksL bs := by unfold chunksTo chunksL; rw [show k = (bs.length + 31) / 32 by omega]
      have RI' : Hid (RowIn w.heap.size (chunksL bs) u3 wr) := by rw [ek] at RI; exact RI
      clear RI ek
      go_wp2
      go_ret
      exact ⟨_, rfl, RI'.out.parts (by omega), bl⟩
end Go.Proofs.YtffhjjgkoapioaaDoor
