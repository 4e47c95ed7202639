import Derived.Test.YtffhjjgkoapioaaDoorOd
namespace Go.Proofs.YtffhjjgkoapioaaDoor
set_option linter.unusedSimpArgs false
set_option linter.unusedVariables false
open Go.RowKit
attribute [local go_sem ↓] Go.wp_at_zero Go.wp_at_succ
/-- What is hashed on the way up, the leaf's text first. -/
def textN (bl : List Bool) (c : List Int) (pr : List (List Int)) : Nat → List Int
  | 0 => 0 :: c
  | j + 1 => if bl[j]?.getD false = true then 1 :: (hashOf (textN bl c pr j) ++ pr[j]?.getD []) else 1 :: (pr[j]?.getD [] ++ hashOf (textN bl c pr j))
def textsTo (bl : List Bool) (c : List Int) (pr : List (List Int)) (k : Nat) : List (List Int) := (List.range (k + 1)).map (textN bl c pr)
set_option maxRecDepth 100000 in
theorem textsTo_length (bl : List Bool) (c : List Int) (pr : List (List Int)) (k : Nat) : (textsTo bl c pr k).length = k + 1 := by simp [textsTo]
set_option maxRecDepth 100000 in
theorem textsTo_at (bl : List Bool) (c : List Int) (pr : List (List Int)) (k j : Nat) (h : j ≤ k) : (textsTo bl c pr k)[j]? = some (textN bl c pr j) := by
  unfold textsTo
  rw [List.getElem?_map, List.getElem?_range (by omega)]; rfl
set_option maxRecDepth 100000 in
theorem textsTo_succ (bl : List Bool) (c : List Int) (pr : List (List Int)) (k : Nat) : textsTo bl c pr (k + 1) = textsTo bl c pr k ++ [textN bl c pr (k + 1)] := by
  unfold textsTo
  rw [List.range_succ, List.map_append]; rfl
set_option maxRecDepth 100000 in
theorem textN_len (bl : List Bool) (c : List Int) (pr : List (List Int)) (hH : Hashes pr) (j : Nat) (hj : j ≤ pr.length) (hc : c.length ≤ 140737488351232) : (textN bl c pr j).length ≤ 140737488351233 := by
  cases j with
  | zero => simp [textN]; omega
  | succ j =>
    have := (hash_at hH j (by omega)).1
    unfold textN
    split <;> simp [hashOf_length, this]
set_option maxRecDepth 100000 in
theorem textN_bytes (bl : List Bool) (c : List Int) (pr : List (List Int)) (hH : Hashes pr) (j : Nat) (hj : j ≤ pr.length) (hc : Bytes c) : Bytes (textN bl c pr j) := by
  cases j with
  | zero => exact Bytes.cons (by omega) hc
  | succ j =>
    have := (hash_at hH j (by omega)).2
    unfold textN
    split
    · exact Bytes.cons (by omega) ((hashOf_bytes _).append this)
    · exact Bytes.cons (by omega) (this.append (hashOf_bytes _))
set_option maxRecDepth 100000 in
theorem OwnB.mono {w : World} {base base' : Nat} {v : Value} {l : List Int} (h : OwnB w base v l) (hb : base' ≤ base) : OwnB w base' v l := by
  obtain ⟨h1, h2⟩ := h
  refine ⟨h1, ?_⟩
  rcases h2 with h2 | ⟨g, cap, cur, hv, hg, r⟩
  · exact Or.inl h2
  · exact Or.inr ⟨g, cap, cur, hv, by omega, r⟩
set_option maxRecDepth 100000 in
theorem own_below' {W W' : World} {base e size : Nat} {v : Value} {n : Nat} {xs : List Value} (h : W.ownsRow base e size v n xs) (hb : Below W.heap.size W W') : W'.ownsRow base e size v n xs :=
  h.kept (grown_below hb none) (by
    rcases h.2 with ⟨rfl, _⟩ | ⟨g, cap, cur, rfl, _⟩
    · exact .inl rfl
    · exact .inr (by simp [Value.ownBlock]))
set_option maxRecDepth 100000 in
theorem rowIn_more {base : Nat} {ls : List (List Int)} {l : List Int} {wr w5 w6 : World} {u v1 v2 : Value} {vs : List Value} (hr : wr.ownsRow base 22 1 u ls.length vs) (hel : ∀ (i : Nat) (x : Value) (l : List Int), vs[i]? = some x → ls[i]? = some l → OwnB wr base x l)
    (b5 : Below wr.heap.size wr w5) (o1 : OwnB w5 base v1 l) (o2 : w6.ownsRow base 22 1 v2 (ls.length + 1) (vs ++ [v1])) (g2 : (w5.alloc (.cells #[v1] 22)).grownBy w6 u.ownBlock) : RowIn base (ls ++ [l]) v2 w6 := by
  have hr5 := own_below' hr b5
  have keep : ∀ (x : Value) (m : List Int), OwnB w5 base x m → OwnB w6 base x m := fun x m h => (own_alloc h _).kept g2 (own_apart h hr5 (by decide))
  have hvl : vs.length = ls.length := by simpa using hr.1
  refine ⟨vs ++ [v1], by simpa using o2, fun i x m h1 h3 => ?_⟩
  rcases Nat.lt_or_ge i vs.length with hi | hi
  · rw [List.getElem?_append_left hi] at h1
    rw [List.getElem?_append_left (by omega)] at h3
    exact keep x m (own_below' (hel i x m h1 h3) b5)
  · have hi' : i < vs.length + 1 := by have := (List.getElem?_eq_some_iff.1 h1).1; simpa using this
    obtain rfl : i = vs.length := by omega
    rw [List.getElem?_append_right (Nat.le_refl _)] at h1
    rw [List.getElem?_append_right (by omega), hvl] at h3
    simp at h1 h3
    subst h1 h3
    exact keep _ _ o1
set_option maxRecDepth 100000 in
/-- A text more, at a step of a drawn region. -/
theorem step_append29 {ops : Array Oper} {o : Oper} {a : Act} {w : World} {K : Act → World → Prop} {Q : Exit → Act → World → Prop} {E : Prop} (hgd : o.guard = none) (s x : Operand)
    (ho : o.op = .call { callee := .builtin .append, args := #[s, x], argTypes := #[29, 29] }) (base : Nat) (v : Value) (k : Nat) (vs : List Value) (hv : a.eval s = v) (hown : w.ownsRow base 22 1 v k vs)
    (y : Value) (hy : y.oneCell' = true) (hx : a.eval x = .slice (some ⟨w.heap.size, 0, none⟩) 1 1) (hn : k ≤ 1000000) (hbase : base ≤ w.heap.size)
    (hK : ∀ v' w', w'.ownsRow base 22 1 v' (k + 1) (vs ++ [y]) → (w.alloc (.cells #[y] 22)).grownBy w' v.ownBlock → K (a.put o.dst v') w') : if Region.wanted o (yielded ops a.tmps) = true then Oper.wp Tryd.prog o a (w.alloc (.cells #[y] 22)) K Q else E := by
  have hw : Region.wanted o (yielded ops a.tmps) = true := by simp [Region.wanted, hgd]
  rw [if_pos hw]
  obtain ⟨i, hi, hz0, hz1, hz2⟩ := info_parts info22
  obtain ⟨v', w', hr, h2, h3, h4, h5⟩ := run_append_own_at (P := Tryd.prog) (w.alloc (.cells #[y] 22)) base 29 o.type 22 i (.slice none 0 0) 1 24 Tryd.underlying29 hi hz0 hz1 hz2 rfl (by omega) v k vs (own_alloc hown _) ⟨w.heap.size, 0, none⟩ 1 1 [y] rfl (cell_one_new _ _ _)
    (by simpa using hy) (by unfold maxLen; omega) (by omega) (by simp; omega)
  unfold Oper.wp
  simp [execOp, ho, resolve, invoke, builtin, hv, hx, hr, Result.andThen]
  exact hK v' w' h2 h3
set_option maxRecDepth 100000 in
/-- Join of a byte and two texts, in a region's order. -/
theorem join_step (y z : Value) (a b : List Int) (W : World) (h0 : 0 < W.heap.size) (hy : PartAt W y a) (hz : PartAt W z b) (hn : a.length + b.length ≤ 1000) :
    Calls Tryd.prog 19 #[.slice (some ⟨W.heap.size + 1, 0, none⟩) 3 3] ((W.alloc (Obj.cells #[Value.int .u8 1] 5)).alloc (Obj.cells #[.slice (some ⟨W.heap.size, 0, none⟩) 1 1, y, z] 22)).drew
      fun e w' => ∃ g c, e = .returned (.slice (some ⟨g, 0, none⟩) (1 + (a.length + b.length)) c) ∧ OwnB w' W.heap.size (.slice (some ⟨g, 0, none⟩) (1 + (a.length + b.length)) c) (1 :: (a ++ b)) ∧ Below W.heap.size W w' := by
  have hp0 : PartAt (W.alloc (Obj.cells #[Value.int .u8 1] 5)) (.slice (some ⟨W.heap.size, 0, none⟩) 1 1) [1] := part_new W [1] (by simp)
  have e : (W.alloc (Obj.cells #[Value.int .u8 1] 5)).heap.size = W.heap.size + 1 := by simp
  have b1 : Below W.heap.size W (W.alloc (Obj.cells #[Value.int .u8 1] 5)) := (Below.refl _ _).alloc (Nat.le_refl _) _
  rw [← e]
  have k1 := hy.alloc (Obj.cells #[Value.int .u8 1] 5)
  have k2 := hz.alloc (Obj.cells #[Value.int .u8 1] 5)
  generalize W.alloc (Obj.cells #[Value.int .u8 1] 5) = W1 at *
  have b2 : Below W1.heap.size W1 (W1.alloc (Obj.cells #[.slice (some ⟨W.heap.size, 0, none⟩) 1 1, y, z] 22)).drew := below_drew ((Below.refl _ _).alloc (Nat.le_refl _) _)
  refine (join_any W1.heap.size 0 3 3 [_, _, _] [[1], a, b] rfl rfl _ (by have := b2.size; omega) range_three (by simp) (three_parts (hp0.alloc _).drew (k1.alloc _).drew (k2.alloc _).drew) (by simp; omega) (by omega)).mono ?_
  rintro e' w5 ⟨x, rfl, o5, b5⟩
  have o6 : OwnB w5 W.heap.size x (1 :: (a ++ b)) := by
    have := o5.mono (base' := W.heap.size) (by have := b2.size; have := b1.size; simp; omega)
    simpa using this
  obtain ⟨g, c, hx, _, _⟩ := o6.form (by simp)
  have hl : (1 :: (a ++ b)).length = 1 + (a.length + b.length) := by simp; omega
  rw [hl] at hx
  subst hx
  exact ⟨g, c, rfl, o6, b1.trans ((b2.trans (b5.mono b2.size)).mono b1.size)⟩
end Go.Proofs.YtffhjjgkoapioaaDoor
