import Derived.Test.YtffhjjgkoapioaaDoorOe
import Derived.Test.YtffhjjgkoapioaaDoorOverWalk
namespace Go.Proofs.YtffhjjgkoapioaaDoor
set_option linter.unusedSimpArgs false
set_option linter.unusedVariables false
open Go.RowKit
attribute [local go_sem ↓] Go.wp_at_zero Go.wp_at_succ
set_option maxRecDepth 100000 in
theorem row_form {W : World} {base e : Nat} {u : Value} {n : Nat} {vs : List Value} (h : W.ownsRow base e 1 u n vs) (hn : 0 < n) : ∃ g cap, u = .slice (some ⟨g, 0, none⟩) n cap ∧ ∀ j x, vs[j]? = some x → W.cell? ⟨g, j, none⟩ = some x := by
  rcases h.2 with ⟨rfl, h0⟩ | ⟨g, cap, cur, rfl, hb, hgb, r1, r2, r3, r4⟩
  · omega
  · refine ⟨g, cap, rfl, fun j x hx => ?_⟩
    rw [cell_of_row W g j cur e (0, 0) hgb]
    rw [← r4, List.getElem?_take] at hx
    split at hx
    · simpa using hx
    · cases hx
set_option maxRecDepth 100000 in
theorem bool_form {W : World} {base : Nat} {bt : List Bool} {u : Value} (h : BoolRow base bt u W) : ∃ av g cap, u = .slice av bt.length cap ∧ (0 < bt.length → av = some ⟨g, 0, none⟩) := by
  rcases h.2 with ⟨rfl, h0⟩ | ⟨g, cap, cur, rfl, _⟩
  · exact ⟨none, 0, 0, by rw [h0], fun h => by omega⟩
  · exact ⟨some ⟨g, 0, none⟩, g, cap, rfl, fun _ => rfl⟩
set_option maxRecDepth 100000 in
theorem own_mono {W : World} {base base' e size : Nat} {v : Value} {n : Nat} {xs : List Value} (h : W.ownsRow base e size v n xs) (hb : base' ≤ base) : W.ownsRow base' e size v n xs := by
  obtain ⟨h1, h2⟩ := h
  refine ⟨h1, ?_⟩
  rcases h2 with h2 | ⟨g, cap, cur, hv, hg, r⟩
  · exact Or.inl h2
  · exact Or.inr ⟨g, cap, cur, hv, by omega, r⟩
set_option maxRecDepth 100000 in
theorem part_range {w : World} {b o : Nat} {l : List Int} (h : w.rangeAt b o (List.map (Value.int .u8) l)) (hl : l.length = 32) (hb : b < w.heap.size) : PartAt w (.slice (some ⟨b, o, none⟩) 32 32) l :=
  ⟨some ⟨b, o, none⟩, b, o, 32, by rw [hl], by omega, by omega, fun _ => rfl, by simpa [vB] using h, hb, fun h => by cases h⟩
set_option maxRecDepth 100000 in
theorem own_one (w : World) (base : Nat) (x : Value) (h : base ≤ w.heap.size) : (w.alloc (.cells #[x] 22)).ownsRow base 22 1 (.slice (some ⟨w.heap.size, 0, none⟩) 1 1) 1 [x] :=
  ⟨rfl, Or.inr ⟨w.heap.size, 1, #[x], rfl, h, heap_alloc_new _ _, Nat.le_refl _, by unfold maxLen; omega, rfl, rfl⟩⟩
set_option maxRecDepth 100000 in
theorem texts_step {w wr w4 w6 : World} {u v2 tv x : Value} {ls : List (List Int)} {l : List Int} {bt : List Bool} {vs : List Value} (b0 : Below w.heap.size w wr) (hrow : wr.ownsRow w.heap.size 22 1 u ls.length vs) (hel : ∀ (i : Nat) (x : Value) (l : List Int), vs[i]? = some x → ls[i]? = some l → OwnB wr w.heap.size x l)
    (hB : BoolRow w.heap.size bt tv wr) (b4 : Below wr.heap.size wr w4) (o1 : OwnB w4 w.heap.size x l) (o2 : w6.ownsRow w.heap.size 22 1 v2 (ls.length + 1) (vs ++ [x])) (g2 : (w4.alloc (.cells #[x] 22)).grownBy w6 u.ownBlock) :
    Below w.heap.size w w6 ∧ RowIn w.heap.size (ls ++ [l]) v2 w6 ∧ BoolRow w.heap.size bt tv w6 := by
  have hs := b0.size
  have h4 := own_below' hrow b4
  have hB4 : w4.ownsRow w.heap.size 4 1 tv bt.length (bt.map Value.bool) := own_below' hB b4
  have b04 : Below w.heap.size w w4 := b0.trans (b4.mono hs)
  have hs4 := b04.size
  exact ⟨(b04.alloc hs4 _).grown g2 (by simp; omega) (fun j hj => (own_lt h4 j hj).2), rowIn_more hrow hel b4 o1 o2 g2, (own_alloc hB4 _).kept g2 (own_apart hB4 h4 (by decide))⟩
set_option maxRecDepth 100000 in
theorem join0 (v : Value) (c : List Int) (w : World) (h0 : 0 < w.heap.size) (hp : PartAt w v c) (hc : c.length ≤ 140737488351232) :
    Calls Tryd.prog 19 #[.slice (some ⟨w.heap.size + 1, 0, none⟩) 2 2] ((w.alloc (Obj.cells #[.int .u8 0] 5)).alloc (Obj.cells #[.slice (some ⟨w.heap.size, 0, none⟩) 1 1, v] 22)) fun e w'' => ∃ g k, e = .returned (.slice (some ⟨g, 0, none⟩) (c.length + 1) k) ∧ OwnB w'' w.heap.size (.slice (some ⟨g, 0, none⟩) (c.length + 1) k) (0 :: c) ∧ Below w.heap.size w w'' := by
  have hbw : Below w.heap.size w (w.alloc (Obj.cells #[.int .u8 0] 5)) := (Below.refl _ _).alloc (Nat.le_refl _) _
  have hp0 : PartAt (w.alloc (Obj.cells #[.int .u8 0] 5)) (.slice (some ⟨w.heap.size, 0, none⟩) 1 1) [0] := part_new w [0] (by simp)
  have hp1 := hp.alloc (Obj.cells #[.int .u8 0] 5)
  have e : (w.alloc (Obj.cells #[.int .u8 0] 5)).heap.size = w.heap.size + 1 := by simp
  rw [← e]
  generalize w.alloc (Obj.cells #[.int .u8 0] 5) = w1 at *
  have b2 : Below w1.heap.size w1 (w1.alloc (Obj.cells #[.slice (some ⟨w.heap.size, 0, none⟩) 1 1, v] 22)) := (Below.refl _ _).alloc (Nat.le_refl _) _
  refine (join_any w1.heap.size 0 2 2 [_, _] [[0], c] rfl rfl _ (by have := b2.size; omega) range_two' (by simp) (two_parts' (hp0.alloc _) (hp1.alloc _)) (by simp; omega) (by omega)).mono ?_
  rintro e' w5 ⟨x, rfl, o5, b5⟩
  have o6 : OwnB w5 w.heap.size x (0 :: c) := by
    have := o5.mono (base' := w.heap.size) (by have := b2.size; have := hbw.size; simp; omega)
    simpa using this
  obtain ⟨g, k, hx, _, _⟩ := o6.form (by simp)
  rw [List.length_cons] at hx
  subst hx
  exact ⟨g, k, rfl, o6, hbw.trans ((b2.trans (b5.mono b2.size)).mono hbw.size)⟩
set_option maxRecDepth 100000 in
set_option maxHeartbeats 4000000 in
theorem texts_any (n i d : Nat) (c : List Int) (pr : List (List Int)) (v pv : Value) (w : World) (hdep : depthN n i = d) (hin : i < n) (hn : n ≤ 1073741824) (hd : d ≤ 1000) (hpl : pr.length = d) (h0 : 0 < w.heap.size) (hp : PartAt w v c) (hc : c.length ≤ 140737488351232) (hby : Bytes c) (hl : ListAt w pv pr) (hH : Hashes pr) :
    Calls Tryd.prog 44 #[.int .i64 n, .int .i64 i, v, pv] w fun e w' => ∃ u, e = .returned u ∧ PartsAt w' u (textsTo (turnsD d n i) c pr d) ∧ Below w.heap.size w w' := by
  have C15 : Hid (Calls Tryd.prog 19 #[.slice (some ⟨w.heap.size + 1, 0, none⟩) 2 2] ((w.alloc (Obj.cells #[.int .u8 0] 5)).alloc (Obj.cells #[.slice (some ⟨w.heap.size, 0, none⟩) 1 1, v] 22)) fun e w'' => ∃ g k, e = .returned (.slice (some ⟨g, 0, none⟩) (c.length + 1) k) ∧ OwnB w'' w.heap.size (.slice (some ⟨g, 0, none⟩) (c.length + 1) k) (0 :: c) ∧ Below w.heap.size w w'') := join0 v c w h0 hp hc
  have C57 : Hid (∀ w' : World, Calls Tryd.prog 69 #[.int .i64 n, .int .i64 i] w' fun e w'' => ∃ v, e = .returned v ∧ BoolRow w'.heap.size (turnsD d n i) v w'' ∧ Below w'.heap.size w' w'') := fun w' => turns_any d n i w' hdep hin hn hd
  have hbl := turnsD_length d n i
  have TL : Hid (∀ j ≤ d, (textN (turnsD d n i) c pr j).length ≤ 140737488351233) := fun j hj => textN_len _ c pr hH j (by omega) hc
  have TB : Hid (∀ j ≤ d, Bytes (textN (turnsD d n i) c pr j)) := fun j hj => textN_bytes _ c pr hH j (by omega) hby
  generalize turnsD d n i = bt at *
  obtain ⟨av, b, o, cp, rfl, hcp, hcp2, hav, hr, hb, _⟩ := hl
  have HR : Hid (∀ (k : Nat), k < d → ∀ w', Below w.heap.size w w' → PartAt w' (.slice (some ⟨b, o + k * 32, none⟩) 32 32) (pr[k]?.getD [])) := fun k hk w' q => part_range (range_below (range_at hr hH k (by omega)) q hb) (hash_at hH k (by omega)).1 (Nat.lt_of_lt_of_le hb q.size)
  have HP : Hid (∀ (k : Nat), k < d → (pr[k]?.getD []).length = 32) := fun k hk => (hash_at hH k (by omega)).1
  obtain ⟨avx, _, _, cpx, rfl, _⟩ := hp
  rw [hpl] at hcp hav ⊢
  clear hdep hin hn hr hH hby hb
  go_enter Tryd.func44, Tryd.ntmps44
  go_wp2_with fail
  refine C15.out.mono ?_
  rintro e w5 ⟨g0, c0, rfl, o5, b5⟩
  have s5 := b5.size
  have O5 : Hid (OwnB w5 w.heap.size (.slice (some ⟨g0, 0, none⟩) (c.length + 1) c0) (0 :: c)) := o5
  clear o5 C15
  go_wp2_with fail
  refine (C57.out _).mono ?_
  rintro e w7 ⟨tv, rfl, oB, b7⟩
  have sA : (w5.alloc (.cells #[.slice (some ⟨g0, 0, none⟩) (c.length + 1) c0] 22)).heap.size = w5.heap.size + 1 := by simp
  have R0 : Hid (RowIn w.heap.size (textsTo bt c pr 0) (.slice (some ⟨w5.heap.size, 0, none⟩) 1 1) w7) := by
    refine ⟨[_], own_below' (own_one w5 w.heap.size (.slice (some ⟨g0, 0, none⟩) (c.length + 1) c0) s5) b7, fun i x l k1 k2 => ?_⟩
    match i, k1, k2 with
    | 0, k1, k2 =>
      simp [textsTo, textN] at k1 k2
      subst k1 k2
      exact own_below' (own_alloc O5.out _) b7
    | n + 1, k1, _ => simp at k1
  have B0 : Hid (BoolRow w.heap.size bt tv w7) := own_mono oB (by omega)
  have bl0 : Below w.heap.size w w7 := (b5.alloc s5 _).trans (b7.mono (by omega))
  have s7 := bl0.size
  obtain ⟨avb, gb, cpb, htv, havb⟩ := bool_form oB
  subst htv
  rw [hbl] at havb B0
  rw [hbl]
  clear b7 O5 oB C57 sA b5
  go_wp2_with fail
  go_loopw [9, 23] (fun u i wr => ∃ k : Nat, k ≤ d ∧ i = .int .i64 k ∧ Below w.heap.size w wr ∧ Hid (RowIn w.heap.size (textsTo bt c pr k) u wr) ∧ Hid (BoolRow w.heap.size bt (.slice avb d cpb) wr)) (fun _ i _ => d - (intOf i).toNat)
  case atStart => exact ⟨0, by omega, rfl, bl0, R0, B0⟩
  case round =>
    obtain ⟨k, hk, rfl, bl, RI, BI⟩ := hrel
    have hbs := bl.size
    by_cases hlt : k < d
    · obtain rfl := hav (by omega)
      obtain rfl := havb (by omega)
      obtain ⟨vs, hrow, hel⟩ := RI.out
      have htl := textsTo_length bt c pr k
      have hvl : vs.length = k + 1 := by have := hrow.1; rw [htl] at this; simpa using this
      obtain ⟨x, hx⟩ : ∃ x, vs[k]? = some x := ⟨vs[k], List.getElem?_eq_getElem (by omega)⟩
      obtain ⟨t, ht⟩ : ∃ t, bt[k]? = some t := ⟨bt[k], List.getElem?_eq_getElem (by omega)⟩
      have ox := hel k x _ hx (textsTo_at bt c pr k k (Nat.le_refl _))
      have px := ox.partG (by omega)
      have C14 : Hid (Calls Tryd.prog 18 #[x] wr fun e w' => e = .returned (.agg (vB (hashOf (textN bt c pr k)))) ∧ Below wr.heap.size wr w') := rsum_big x _ wr px (by have := TL.out k (by omega); omega) (TB.out k (by omega))
      have TS := textsTo_succ bt c pr k
      rw [show textN bt c pr (k + 1) = if t = true then 1 :: (hashOf (textN bt c pr k) ++ pr[k]?.getD []) else 1 :: (pr[k]?.getD [] ++ hashOf (textN bt c pr k)) by rw [textN, ht]; rfl] at TS
      obtain ⟨H, hHH⟩ : ∃ H, H = hashOf (textN bt c pr k) := ⟨_, rfl⟩
      have hlen : H.length = 32 := by rw [hHH]; exact hashOf_length _
      rw [← hHH] at C14 TS
      obtain ⟨P, hPP⟩ : ∃ P, P = pr[k]?.getD [] := ⟨_, rfl⟩
      have hPl : P.length = 32 := by rw [hPP]; exact HP.out k hlt
      have PZ : Hid (∀ w', Below w.heap.size w w' → PartAt w' (.slice (some ⟨b, o + k * 32, none⟩) 32 32) P) := by rw [hPP]; exact HR.out k hlt
      rw [← hPP] at TS
      obtain ⟨gu, cu, hu, hcu⟩ := row_form hrow (by omega)
      obtain ⟨gb', cb', hu', hcb⟩ := row_form BI.out (by omega)
      have hgb : gb' = gb := by simp at hu'; exact hu'.1.symm
      subst hgb
      have hc1 := hcu k x hx
      have hc2 := hcb k (.bool t) (by rw [List.getElem?_map, ht]; rfl)
      obtain ⟨avy, _, _, cpy, hxv, _⟩ := px
      subst hxv
      have HST : Hid (∀ (w4 w6 : World) (y v2 : Value) (l : List Int), textsTo bt c pr (k + 1) = textsTo bt c pr k ++ [l] → Below wr.heap.size wr w4 → OwnB w4 w.heap.size y l → w6.ownsRow w.heap.size 22 1 v2 (k + 1 + 1) (vs ++ [y]) → (w4.alloc (.cells #[y] 22)).grownBy w6 u9.ownBlock → Below w.heap.size w w6 ∧ Hid (RowIn w.heap.size (textsTo bt c pr (k + 1)) v2 w6) ∧ Hid (BoolRow w.heap.size bt (.slice (some ⟨gb', 0, none⟩) d cpb) w6)) := fun w4 w6 y v2 l e k1 k2 k3 k4 => by
        rw [e]
        exact texts_step bl hrow hel BI.out k1 k2 (by rw [htl]; exact k3) k4
      have HROW : Hid (wr.ownsRow w.heap.size 22 1 u9 (k + 1) vs) := by rw [htl] at hrow; exact hrow
      rw [htl] at hu
      have j1 : (0 : Int) ≤ (k : Int) := by omega
      have j2 : (k : Int) < (d : Int) := by omega
      have HTS : Hid (textsTo bt c pr (k + 1) = textsTo bt c pr k ++ [if t = true then 1 :: (H ++ P) else 1 :: (P ++ H)]) := TS
      have HD : Hid (d - (intOf (Value.int .i64 ((k : Int) + 1))).toNat < d - (intOf (Value.int .i64 (k : Int))).toNat) := by unfold Hid; simp only [intOf]; omega
      clear RI hrow hel TS hHH hPP ox hcu hcb hu' ht hx BI HR HP TL TB htl
      subst hu
      cases t with
      | true =>
        go_wp2_with (first | (go_at_call 18; refine C14.out.mono ?_; rintro e w3 ⟨rfl, b3⟩) | (refine store24n rfl _ _ rfl H hlen rfl rfl ?_; intro Wd f1 f2 _ _))
        have b3d : Below wr.heap.size wr Wd := b3.trans (f2.mono b3.size)
        have b0d : Below w.heap.size w Wd := bl.trans (b3d.mono hbs)
        have sd := b0d.size
        have sd3 := b3d.size
        have J := join_step (.slice (some ⟨w3.heap.size, 0, none⟩) 32 32) (.slice (some ⟨b, o + k * 32, none⟩) 32 32) H P Wd (by omega) (part_row f1 hlen) (PZ.out _ b0d) (by omega)
        refine wp_region_noPanic ?_
        refine wp_region_held_drew (S := fun _ => True) (by kernel_rfl) (trivial) (fun hHeld => ?_)
        try simp only [Act.put, List.setIfInBounds_toArray, List.set_cons_zero, List.set_cons_succ]
        refine wpAnyH_take (i := 0) (oi := { dst := some 36, op := Go.Op.move (Go.Operand.tmp 9), type := 29, pos := "ref.go:163", after := #[], guard := none }) (v := ?_) rfl (by kernel_rfl) (by kernel_rfl) (by kernel_rfl) (fun _ _ _ h => h) (Or.inl ⟨by rfl, ?_⟩) hHeld ?_
        rotate_left 1
        · (intro wq hSq; (try dsimp only at hSq); go_simp; first | done | with_reducible rfl)
        try simp only [Act.put, List.setIfInBounds_toArray, List.set_cons_zero, List.set_cons_succ]
        refine wpAnyH_take (i := 2) (oi := { dst := some 38, op := Go.Op.slice 24 (Go.Operand.tmp 13) none none none, type := 22, pos := "ref.go:163", after := #[], guard := none }) (v := ?_) rfl (by kernel_rfl) (by kernel_rfl) (by kernel_rfl) (fun _ _ _ h => h) (Or.inl ⟨by rfl, ?_⟩) hHeld ?_
        rotate_left 1
        · (intro wq hSq; (try dsimp only at hSq); go_simp; first | done | with_reducible rfl)
        try simp only [Act.put, List.setIfInBounds_toArray, List.set_cons_zero, List.set_cons_succ]
        refine wpAnyH_take (i := 3) (oi := { dst := some 39, op := Go.Op.move (Go.Operand.tmp 3), type := 44, pos := "ref.go:163", after := #[], guard := none }) (v := ?_) rfl (by kernel_rfl) (by kernel_rfl) (by kernel_rfl) (fun _ _ _ h => h) (Or.inl ⟨by rfl, ?_⟩) hHeld ?_
        rotate_left 1
        · (intro wq hSq; (try dsimp only at hSq); go_simp; first | done | with_reducible rfl)
        try simp only [Act.put, List.setIfInBounds_toArray, List.set_cons_zero, List.set_cons_succ]
        refine wpAnyH_take (i := 4) (oi := { dst := some 40, op := Go.Op.move (Go.Operand.tmp 12), type := 3, pos := "ref.go:163", after := #[], guard := none }) (v := ?_) rfl (by kernel_rfl) (by kernel_rfl) (by kernel_rfl) (fun _ _ _ h => h) (Or.inl ⟨by rfl, ?_⟩) hHeld ?_
        rotate_left 1
        · (intro wq hSq; (try dsimp only at hSq); go_simp; first | done | with_reducible rfl)
        try simp only [Act.put, List.setIfInBounds_toArray, List.set_cons_zero, List.set_cons_succ]
        refine wpAnyH_take (i := 5) (oi := { dst := some 41, op := Go.Op.indexAddr 44 (Go.Operand.tmp 39) (Go.Operand.tmp 40), type := 0, pos := "ref.go:163", after := #[{ on := 3, ground := Go.Ground.data }, { on := 4, ground := Go.Ground.data }], guard := none }) (v := ?_) rfl (by kernel_rfl) (by kernel_rfl) (by kernel_rfl) (fun _ _ _ h => h) (Or.inl ⟨by rfl, ?_⟩) hHeld ?_
        rotate_left 1
        · (intro wq hSq; (try dsimp only at hSq); go_simp; first | done | with_reducible rfl)
        try simp only [Act.put, List.setIfInBounds_toArray, List.set_cons_zero, List.set_cons_succ]
        refine wpAnyH_take (i := 6) (oi := { dst := some 42, op := Go.Op.slice 24 (Go.Operand.tmp 41) none none none, type := 22, pos := "ref.go:163", after := #[{ on := 5, ground := Go.Ground.data }], guard := none }) (v := ?_) rfl (by kernel_rfl) (by kernel_rfl) (by kernel_rfl) (fun _ _ _ h => h) (Or.inl ⟨by rfl, ?_⟩) hHeld ?_
        rotate_left 1
        · (intro wq hSq; (try dsimp only at hSq); go_simp; first | done | with_reducible rfl)
        try simp only [Act.put, List.setIfInBounds_toArray, List.set_cons_zero, List.set_cons_succ]
        refine wpAnyH_ready (rs := [1]) (by kernel_rfl) (by simp) ?_
        refine AllReadyH.cons (o := { dst := some 37, op := Go.Op.buildSlice 22 1 #[(0, Go.Operand.const (Go.Value.int Go.IntKind.u8 1))], type := 22, pos := "ref.go:163", after := #[], guard := none }) rfl (fun K hK => ?_) AllReadyH.nil
        go_simp
        refine hK.out _ _ (trivial) (fun hHeld1 => ?_)
        clear hK K hHeld
        try simp only [Act.put, List.setIfInBounds_toArray, List.set_cons_zero, List.set_cons_succ]
        refine wpAnyH_ready (rs := [7]) (by kernel_rfl) (by simp) ?_
        refine AllReadyH.cons (o := { dst := some 43, op := Go.Op.buildSlice 29 3 #[(0, Go.Operand.tmp 37), (1, Go.Operand.tmp 38), (2, Go.Operand.tmp 42)], type := 29, pos := "ref.go:163", after := #[{ on := 1, ground := Go.Ground.data }, { on := 2, ground := Go.Ground.data }, { on := 6, ground := Go.Ground.data }], guard := none }) rfl (fun K hK => ?_) AllReadyH.nil
        go_simp
        refine hK.out _ _ (trivial) (fun hHeld2 => ?_)
        clear hK K hHeld1
        try simp only [Act.put, List.setIfInBounds_toArray, List.set_cons_zero, List.set_cons_succ]
        refine wpAnyH_ready (rs := [8]) (by kernel_rfl) (by simp) ?_
        refine AllReadyH.cons (o := { dst := some 44, op := Go.Op.call { callee := Go.Callee.value (Go.Operand.func 19), args := #[Go.Operand.tmp 43], argTypes := #[29] }, type := 22, pos := "ref.go:163", after := #[{ on := 7, ground := Go.Ground.data }], guard := none }) rfl (fun K hK => ?_) AllReadyH.nil
        go_simp
        refine J.mono ?_
        rintro e w4 ⟨g4, c4, rfl, o4', b4⟩
        have b34 : Below wr.heap.size wr w4 := b3d.trans (b4.mono sd3)
        have o4 := o4'.mono sd
        simp only [hlen, hPl] at o4
        refine hK.out _ _ (trivial) (fun hHeld3 => ?_)
        clear hK K hHeld2
        try simp only [Act.put, List.setIfInBounds_toArray, List.set_cons_zero, List.set_cons_succ]
        refine wpAnyH_ready (rs := [9]) (by kernel_rfl) (by simp) ?_
        refine AllReadyH.cons (o := { dst := some 45, op := Go.Op.buildSlice 29 1 #[(0, Go.Operand.tmp 44)], type := 29, pos := "ref.go:163", after := #[{ on := 8, ground := Go.Ground.data }], guard := none }) rfl (fun K hK => ?_) AllReadyH.nil
        go_simp
        refine hK.out _ _ (trivial) (fun hHeld4 => ?_)
        clear hK K hHeld3
        try simp only [Act.put, List.setIfInBounds_toArray, List.set_cons_zero, List.set_cons_succ]
        refine wpAnyH_ready (rs := [10]) (by kernel_rfl) (by simp) ?_
        refine AllReadyH.cons (o := { dst := some 46, op := Go.Op.call { callee := Go.Callee.builtin Go.Builtin.append, args := #[Go.Operand.tmp 36, Go.Operand.tmp 45], argTypes := #[29, 29] }, type := 29, pos := "ref.go:163", after := #[{ on := 0, ground := Go.Ground.data }, { on := 9, ground := Go.Ground.data }, { on := 8, ground := Go.Ground.chain }], guard := none }) rfl (fun K hK => ?_) AllReadyH.nil
        refine step_append29 rfl _ _ rfl w.heap.size _ (k + 1) vs (by rfl) (own_below' HROW.out b34) _ rfl (by rfl) (by omega) (by have := b34.size; omega) ?_
        intro v2 w6 o2 g2
        refine hK.out _ _ (trivial) (fun hHeld5 => ?_)
        clear hK K hHeld4
        try simp only [Act.put, List.setIfInBounds_toArray, List.set_cons_zero, List.set_cons_succ]
        refine wpAnyH_take (i := 11) (oi := { dst := some 9, op := Go.Op.assign (Go.Operand.tmp 46), type := 29, pos := "ref.go:163", after := #[{ on := 10, ground := Go.Ground.data }, { on := 10, ground := Go.Ground.chain }, { on := 0, ground := Go.Ground.phase }, { on := 1, ground := Go.Ground.phase }, { on := 2, ground := Go.Ground.phase }, { on := 3, ground := Go.Ground.phase }, { on := 4, ground := Go.Ground.phase }, { on := 5, ground := Go.Ground.phase }, { on := 6, ground := Go.Ground.phase }, { on := 7, ground := Go.Ground.phase }, { on := 8, ground := Go.Ground.phase }, { on := 9, ground := Go.Ground.phase }, { on := 10, ground := Go.Ground.phase }], guard := none }) (v := ?_) rfl (by kernel_rfl) (by kernel_rfl) (by kernel_rfl) (fun _ _ _ h => h) (Or.inl ⟨by rfl, ?_⟩) hHeld5 ?_
        rotate_left 1
        · (intro wq hSq; (try dsimp only at hSq); go_simp; first | done | with_reducible rfl)
        try simp only [Act.put, List.setIfInBounds_toArray, List.set_cons_zero, List.set_cons_succ]
        refine wpAnyH_done (by kernel_rfl) ?_ _
        refine NoPanic.normal ?_
        have st := HST.out _ _ _ _ _ (by simpa using HTS.out) b34 o4 o2 g2
        go_wp2_with fail
        go_roundw
        case rel => exact ⟨k + 1, by omega, by go_num, st.1, st.2.1, st.2.2⟩
        case measure => exact HD.out
      | false =>
        go_wp2_with (first | (go_at_call 18; refine C14.out.mono ?_; rintro e w3 ⟨rfl, b3⟩) | (refine store24n rfl _ _ rfl H hlen rfl rfl ?_; intro Wd f1 f2 _ _))
        have b3d : Below wr.heap.size wr Wd := b3.trans (f2.mono b3.size)
        have b0d : Below w.heap.size w Wd := bl.trans (b3d.mono hbs)
        have sd := b0d.size
        have sd3 := b3d.size
        have J := join_step (.slice (some ⟨b, o + k * 32, none⟩) 32 32) (.slice (some ⟨w3.heap.size, 0, none⟩) 32 32) P H Wd (by omega) (PZ.out _ b0d) (part_row f1 hlen) (by omega)
        refine wp_region_noPanic ?_
        refine wp_region_held_drew (S := fun _ => True) (by kernel_rfl) (trivial) (fun hHeld => ?_)
        try simp only [Act.put, List.setIfInBounds_toArray, List.set_cons_zero, List.set_cons_succ]
        refine wpAnyH_take (i := 0) (oi := { dst := some 47, op := Go.Op.move (Go.Operand.tmp 9), type := 29, pos := "ref.go:165", after := #[], guard := none }) (v := ?_) rfl (by kernel_rfl) (by kernel_rfl) (by kernel_rfl) (fun _ _ _ h => h) (Or.inl ⟨by rfl, ?_⟩) hHeld ?_
        rotate_left 1
        · (intro wq hSq; (try dsimp only at hSq); go_simp; first | done | with_reducible rfl)
        try simp only [Act.put, List.setIfInBounds_toArray, List.set_cons_zero, List.set_cons_succ]
        refine wpAnyH_take (i := 2) (oi := { dst := some 49, op := Go.Op.move (Go.Operand.tmp 3), type := 44, pos := "ref.go:165", after := #[], guard := none }) (v := ?_) rfl (by kernel_rfl) (by kernel_rfl) (by kernel_rfl) (fun _ _ _ h => h) (Or.inl ⟨by rfl, ?_⟩) hHeld ?_
        rotate_left 1
        · (intro wq hSq; (try dsimp only at hSq); go_simp; first | done | with_reducible rfl)
        try simp only [Act.put, List.setIfInBounds_toArray, List.set_cons_zero, List.set_cons_succ]
        refine wpAnyH_take (i := 3) (oi := { dst := some 50, op := Go.Op.move (Go.Operand.tmp 12), type := 3, pos := "ref.go:165", after := #[], guard := none }) (v := ?_) rfl (by kernel_rfl) (by kernel_rfl) (by kernel_rfl) (fun _ _ _ h => h) (Or.inl ⟨by rfl, ?_⟩) hHeld ?_
        rotate_left 1
        · (intro wq hSq; (try dsimp only at hSq); go_simp; first | done | with_reducible rfl)
        try simp only [Act.put, List.setIfInBounds_toArray, List.set_cons_zero, List.set_cons_succ]
        refine wpAnyH_take (i := 4) (oi := { dst := some 51, op := Go.Op.indexAddr 44 (Go.Operand.tmp 49) (Go.Operand.tmp 50), type := 0, pos := "ref.go:165", after := #[{ on := 2, ground := Go.Ground.data }, { on := 3, ground := Go.Ground.data }], guard := none }) (v := ?_) rfl (by kernel_rfl) (by kernel_rfl) (by kernel_rfl) (fun _ _ _ h => h) (Or.inl ⟨by rfl, ?_⟩) hHeld ?_
        rotate_left 1
        · (intro wq hSq; (try dsimp only at hSq); go_simp; first | done | with_reducible rfl)
        try simp only [Act.put, List.setIfInBounds_toArray, List.set_cons_zero, List.set_cons_succ]
        refine wpAnyH_take (i := 5) (oi := { dst := some 52, op := Go.Op.slice 24 (Go.Operand.tmp 51) none none none, type := 22, pos := "ref.go:165", after := #[{ on := 4, ground := Go.Ground.data }], guard := none }) (v := ?_) rfl (by kernel_rfl) (by kernel_rfl) (by kernel_rfl) (fun _ _ _ h => h) (Or.inl ⟨by rfl, ?_⟩) hHeld ?_
        rotate_left 1
        · (intro wq hSq; (try dsimp only at hSq); go_simp; first | done | with_reducible rfl)
        try simp only [Act.put, List.setIfInBounds_toArray, List.set_cons_zero, List.set_cons_succ]
        refine wpAnyH_take (i := 6) (oi := { dst := some 53, op := Go.Op.slice 24 (Go.Operand.tmp 13) none none none, type := 22, pos := "ref.go:165", after := #[], guard := none }) (v := ?_) rfl (by kernel_rfl) (by kernel_rfl) (by kernel_rfl) (fun _ _ _ h => h) (Or.inl ⟨by rfl, ?_⟩) hHeld ?_
        rotate_left 1
        · (intro wq hSq; (try dsimp only at hSq); go_simp; first | done | with_reducible rfl)
        try simp only [Act.put, List.setIfInBounds_toArray, List.set_cons_zero, List.set_cons_succ]
        refine wpAnyH_ready (rs := [1]) (by kernel_rfl) (by simp) ?_
        refine AllReadyH.cons (o := { dst := some 48, op := Go.Op.buildSlice 22 1 #[(0, Go.Operand.const (Go.Value.int Go.IntKind.u8 1))], type := 22, pos := "ref.go:165", after := #[], guard := none }) rfl (fun K hK => ?_) AllReadyH.nil
        go_simp
        refine hK.out _ _ (trivial) (fun hHeld1 => ?_)
        clear hK K hHeld
        try simp only [Act.put, List.setIfInBounds_toArray, List.set_cons_zero, List.set_cons_succ]
        refine wpAnyH_ready (rs := [7]) (by kernel_rfl) (by simp) ?_
        refine AllReadyH.cons (o := { dst := some 54, op := Go.Op.buildSlice 29 3 #[(0, Go.Operand.tmp 48), (1, Go.Operand.tmp 52), (2, Go.Operand.tmp 53)], type := 29, pos := "ref.go:165", after := #[{ on := 1, ground := Go.Ground.data }, { on := 5, ground := Go.Ground.data }, { on := 6, ground := Go.Ground.data }], guard := none }) rfl (fun K hK => ?_) AllReadyH.nil
        go_simp
        refine hK.out _ _ (trivial) (fun hHeld2 => ?_)
        clear hK K hHeld1
        try simp only [Act.put, List.setIfInBounds_toArray, List.set_cons_zero, List.set_cons_succ]
        refine wpAnyH_ready (rs := [8]) (by kernel_rfl) (by simp) ?_
        refine AllReadyH.cons (o := { dst := some 55, op := Go.Op.call { callee := Go.Callee.value (Go.Operand.func 19), args := #[Go.Operand.tmp 54], argTypes := #[29] }, type := 22, pos := "ref.go:165", after := #[{ on := 7, ground := Go.Ground.data }], guard := none }) rfl (fun K hK => ?_) AllReadyH.nil
        go_simp
        refine J.mono ?_
        rintro e w4 ⟨g4, c4, rfl, o4', b4⟩
        have b34 : Below wr.heap.size wr w4 := b3d.trans (b4.mono sd3)
        have o4 := o4'.mono sd
        simp only [hlen, hPl] at o4
        refine hK.out _ _ (trivial) (fun hHeld3 => ?_)
        clear hK K hHeld2
        try simp only [Act.put, List.setIfInBounds_toArray, List.set_cons_zero, List.set_cons_succ]
        refine wpAnyH_ready (rs := [9]) (by kernel_rfl) (by simp) ?_
        refine AllReadyH.cons (o := { dst := some 56, op := Go.Op.buildSlice 29 1 #[(0, Go.Operand.tmp 55)], type := 29, pos := "ref.go:165", after := #[{ on := 8, ground := Go.Ground.data }], guard := none }) rfl (fun K hK => ?_) AllReadyH.nil
        go_simp
        refine hK.out _ _ (trivial) (fun hHeld4 => ?_)
        clear hK K hHeld3
        try simp only [Act.put, List.setIfInBounds_toArray, List.set_cons_zero, List.set_cons_succ]
        refine wpAnyH_ready (rs := [10]) (by kernel_rfl) (by simp) ?_
        refine AllReadyH.cons (o := { dst := some 57, op := Go.Op.call { callee := Go.Callee.builtin Go.Builtin.append, args := #[Go.Operand.tmp 47, Go.Operand.tmp 56], argTypes := #[29, 29] }, type := 29, pos := "ref.go:165", after := #[{ on := 0, ground := Go.Ground.data }, { on := 9, ground := Go.Ground.data }, { on := 8, ground := Go.Ground.chain }], guard := none }) rfl (fun K hK => ?_) AllReadyH.nil
        refine step_append29 rfl _ _ rfl w.heap.size _ (k + 1) vs (by rfl) (own_below' HROW.out b34) _ rfl (by rfl) (by omega) (by have := b34.size; omega) ?_
        intro v2 w6 o2 g2
        refine hK.out _ _ (trivial) (fun hHeld5 => ?_)
        clear hK K hHeld4
        try simp only [Act.put, List.setIfInBounds_toArray, List.set_cons_zero, List.set_cons_succ]
        refine wpAnyH_take (i := 11) (oi := { dst := some 9, op := Go.Op.assign (Go.Operand.tmp 57), type := 29, pos := "ref.go:165", after := #[{ on := 10, ground := Go.Ground.data }, { on := 10, ground := Go.Ground.chain }, { on := 0, ground := Go.Ground.phase }, { on := 1, ground := Go.Ground.phase }, { on := 2, ground := Go.Ground.phase }, { on := 3, ground := Go.Ground.phase }, { on := 4, ground := Go.Ground.phase }, { on := 5, ground := Go.Ground.phase }, { on := 6, ground := Go.Ground.phase }, { on := 7, ground := Go.Ground.phase }, { on := 8, ground := Go.Ground.phase }, { on := 9, ground := Go.Ground.phase }, { on := 10, ground := Go.Ground.phase }], guard := none }) (v := ?_) rfl (by kernel_rfl) (by kernel_rfl) (by kernel_rfl) (fun _ _ _ h => h) (Or.inl ⟨by rfl, ?_⟩) hHeld5 ?_
        rotate_left 1
        · (intro wq hSq; (try dsimp only at hSq); go_simp; first | done | with_reducible rfl)
        try simp only [Act.put, List.setIfInBounds_toArray, List.set_cons_zero, List.set_cons_succ]
        refine wpAnyH_done (by kernel_rfl) ?_ _
        refine NoPanic.normal ?_
        have st := HST.out _ _ _ _ _ (by simpa using HTS.out) b34 o4 o2 g2
        go_wp2_with fail
        go_roundw
        case rel => exact ⟨k + 1, by omega, by go_num, st.1, st.2.1, st.2.2⟩
        case measure => exact HD.out
    · obtain rfl : k = d := by omega
      go_wp2
      go_ret
      exact ⟨_, rfl, RI.out.parts (by omega), bl⟩
end Go.Proofs.YtffhjjgkoapioaaDoor
