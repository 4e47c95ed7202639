import Derived.Test.YtffhjjgkoapioaaDoorOg
import Derived.Test.YtffhjjgkoapioaaDoorPb
import Derived.Test.YtffhjjgkoapioaaDoorMk
import Derived.Test.YtffhjjgkoapioaaDoorOb
namespace Go.Proofs.YtffhjjgkoapioaaDoor
set_option linter.unusedSimpArgs false
set_option linter.unusedVariables false
open Go.RowKit
/-- A cell of a row of the call's own is written. -/
theorem own_set {w : World} {base e size : Nat} {v : Value} {n : Nat} {xs : List Value} (h : w.ownsRow base e size v n xs) {g : Nat} (hg : v.ownBlock = some g) (j : Nat) (u : Value) : (w.setCell ⟨g, j, none⟩ u).ownsRow base e size v n (xs.set j u) := by
  obtain ⟨h1, h2⟩ := h
  refine ⟨by rw [List.length_set]; exact h1, ?_⟩
  rcases h2 with ⟨rfl, _⟩ | ⟨g', cap, cur, rfl, hb, hh, r1, r2, r3, r4⟩
  · cases hg
  · obtain rfl : g' = g := by simpa [Value.ownBlock] using hg
    refine Or.inr ⟨g', cap, cur.setIfInBounds j u, rfl, hb, heap_setCell_same _ g' j cur e u hh, r1, r2, by simpa using r3, ?_⟩
    rw [Array.toList_setIfInBounds, ← r4, List.take_set]
theorem own_keep {w w' : World} {base e size : Nat} {v : Value} {n : Nat} {xs : List Value} (h : w.ownsRow base e size v n xs) {g : Nat} (hg : w.grownBy w' (some g)) (hne : v.ownBlock ≠ some g) : w'.ownsRow base e size v n xs := h.kept hg (Or.inr hne)
theorem flat_set : ∀ (pr : List (List Int)) (q r : Nat) (h : List Int) (x : Int), Hashes pr → pr[q]? = some h → r < 32 → (pr.set q (h.set r x)).flatten = pr.flatten.set (q * 32 + r) x
  | [], q, r, h, x, _, hq, _ => by simp at hq
  | a :: l, 0, r, h, x, hH, hq, hr => by
    have ha := (hH a (by simp)).1
    simp at hq
    subst hq
    simp only [List.set_cons_zero, List.flatten_cons]
    rw [Nat.zero_mul, Nat.zero_add, List.set_append_left _ _ (by omega)]
  | a :: l, q + 1, r, h, x, hH, hq, hr => by
    have ha := (hH a (by simp)).1
    have ih := flat_set l q r h x (fun y hy => hH y (by simp [hy])) (by simpa using hq) hr
    simp only [List.set_cons_succ, List.flatten_cons]
    rw [ih, List.set_append_right _ _ (by omega)]
    congr 2
    omega
theorem vB_setL (l : List Int) (j : Nat) (x : Int) : (vB l).toList.set j (.int .u8 x) = (vB (l.set j x)).toList := by
  simp [vB, List.map_set]
theorem bytes_set {l : List Int} (h : Bytes l) (j : Nat) (x : Int) (h0 : 0 ≤ x) (h1 : x ≤ 255) : Bytes (l.set j x) := fun y hy => by
  rcases List.mem_or_eq_of_mem_set hy with hy | hy
  · exact h y hy
  · subst hy; exact ⟨h0, h1⟩
theorem hashes_set {pr : List (List Int)} (hH : Hashes pr) (q : Nat) (h : List Int) (hh : h.length = 32 ∧ Bytes h) : Hashes (pr.set q h) := fun y hy => by
  rcases List.mem_or_eq_of_mem_set hy with hy | hy
  · exact hH y hy
  · subst hy; exact hh
end Go.Proofs.YtffhjjgkoapioaaDoor
namespace Go.Proofs.YtffhjjgkoapioaaDoor
set_option linter.unusedSimpArgs false
set_option linter.unusedVariables false
open Go.RowKit
/-- The root, the chunk and the proof, each in a block of its own. -/
structure St6 (w : World) (B g cap : Nat) (u : Value) (R c : List Int) (pr : List (List Int)) (W : World) : Prop where
  bel : Below w.heap.size w W
  root : W.heap[B]? = some (.cells (vB R) 24)
  own : W.ownsRow 0 5 1 (.slice (some ⟨g, 0, none⟩) c.length cap) c.length (vB c).toList
  row : W.ownsRow 0 24 32 u pr.length (vB pr.flatten).toList
  gB : g ≠ B
  uB : u.ownBlock ≠ some B
  ug : u.ownBlock ≠ some g
  lB : w.heap.size ≤ B
  lg : w.heap.size ≤ g
  lu : ∀ k, u.ownBlock = some k → w.heap.size ≤ k
theorem own_belowR {W W' : World} {base e size : Nat} {v : Value} {n : Nat} {xs : List Value} (h : W.ownsRow base e size v n xs) (hb : Below W.heap.size W W') : W'.ownsRow base e size v n xs :=
  h.kept (grown_below hb none) (by
    rcases h.2 with ⟨rfl, _⟩ | ⟨g, cap, cur, rfl, _⟩
    · exact .inl rfl
    · exact .inr (by simp [Value.ownBlock]))
section
variable {w : World} {B g cap : Nat} {u : Value} {R c : List Int} {pr : List (List Int)} {W : World}
theorem St6.below (h : St6 w B g cap u R c pr W) {W' : World} (hb : Below W.heap.size W W') : St6 w B g cap u R c pr W' :=
  ⟨h.bel.trans (hb.mono h.bel.size), by rw [hb.block B (Array.getElem?_eq_some_iff.1 h.root).1]; exact h.root, own_belowR h.own hb, own_belowR h.row hb, h.gB, h.uB, h.ug, h.lB, h.lg, h.lu⟩
theorem St6.drew (h : St6 w B g cap u R c pr W) : St6 w B g cap u R c pr W.drew := h.below (Below.refl _ _).drew
theorem St6.part (h : St6 w B g cap u R c pr W) : PartAt W (.slice (some ⟨g, 0, none⟩) c.length cap) c :=
  OwnB.partG (base := 0) h.own (by have := (Array.getElem?_eq_some_iff.1 h.root).1; omega)
theorem St6.list (h : St6 w B g cap u R c pr W) : ListAt W u pr :=
  HashRow.list (base := 0) h.row (by have := (Array.getElem?_eq_some_iff.1 h.root).1; omega)
theorem St6.range (h : St6 w B g cap u R c pr W) : W.rangeAt B 0 (List.map (Value.int .u8) R) := by
  have := range_of_block h.root
  simpa [vB] using this
theorem St6.turnR (h : St6 w B g cap u R c pr W) (r : Nat) (x : Int) : St6 w B g cap u (R.set r x) c pr (W.setCell ⟨B, r, none⟩ (.int .u8 x)) :=
  ⟨h.bel.grown (grown_setCell _ _ _ _) h.bel.size (fun k hk => by injection hk with hk; subst hk; exact h.lB), by rw [heap_setCell_same _ B r _ 24 _ h.root, vB_set], own_keep h.own (grown_setCell _ _ _ _) (by simpa [Value.ownBlock] using h.gB), own_keep h.row (grown_setCell _ _ _ _) h.uB, h.gB, h.uB, h.ug, h.lB, h.lg, h.lu⟩
theorem St6.turnC (h : St6 w B g cap u R c pr W) (r : Nat) (x : Int) : St6 w B g cap u R (c.set r x) pr (W.setCell ⟨g, r, none⟩ (.int .u8 x)) := by
  have h2 := own_set h.own (g := g) rfl r (.int .u8 x)
  rw [vB_setL] at h2
  refine ⟨h.bel.grown (grown_setCell _ _ _ _) h.bel.size (fun k hk => by injection hk with hk; subst hk; exact h.lg), ?_, by rw [List.length_set]; exact h2, own_keep h.row (grown_setCell _ _ _ _) h.ug, h.gB, h.uB, h.ug, h.lB, h.lg, h.lu⟩
  rw [heap_setCell_other _ _ _ _ h.gB.symm]; exact h.root
theorem St6.turnP (h : St6 w B g cap u R c pr W) (hH : Hashes pr) (gp : Nat) (hu : u.ownBlock = some gp) (q r : Nat) (hh : List Int) (hq : pr[q]? = some hh) (hr : r < 32) (x : Int) : St6 w B g cap u R c (pr.set q (hh.set r x)) (W.setCell ⟨gp, q * 32 + r, none⟩ (.int .u8 x)) := by
  have h2 := own_set h.row hu (q * 32 + r) (.int .u8 x)
  rw [vB_setL, ← flat_set pr q r hh x hH hq hr] at h2
  have n1 : B ≠ gp := fun e => h.uB (by rw [hu, e])
  have n2 : g ≠ gp := fun e => h.ug (by rw [hu, e])
  refine ⟨h.bel.grown (grown_setCell _ _ _ _) h.bel.size (fun k hk => by injection hk with hk; subst hk; exact h.lu _ hu), ?_, own_keep h.own (grown_setCell _ _ _ _) (by simpa [Value.ownBlock] using n2), by rw [List.length_set]; exact h2, h.gB, h.uB, h.ug, h.lB, h.lg, h.lu⟩
  rw [heap_setCell_other _ _ _ _ n1]; exact h.root
theorem St6.cellR (h : St6 w B g cap u R c pr W) (r : Nat) (hr : r < R.length) : W.cell? ⟨B, r, none⟩ = some (.int .u8 (gi R r)) ∧ W.frozen? ⟨B, r, none⟩ = false :=
  ⟨row_cell h.root (vB_at R r hr), frozen_of_row _ _ _ _ _ h.root⟩
theorem own_cell {w : World} {base e size : Nat} {v : Value} {n : Nat} {xs : List Value} (h : w.ownsRow base e size v n xs) {g : Nat} (hg : v.ownBlock = some g) (j : Nat) (x : Value) (hx : xs[j]? = some x) : w.cell? ⟨g, j, none⟩ = some x ∧ w.frozen? ⟨g, j, none⟩ = false := by
  rcases h.2 with ⟨rfl, _⟩ | ⟨g', cap, cur, rfl, hb, hh, r1, r2, r3, r4⟩
  · cases hg
  · obtain rfl : g' = g := by simpa [Value.ownBlock] using hg
    refine ⟨?_, frozen_of_row _ _ _ _ _ hh⟩
    rw [← r4, List.getElem?_take] at hx
    split at hx
    · exact row_cell hh (by simpa using hx)
    · cases hx
theorem St6.cellC (h : St6 w B g cap u R c pr W) (r : Nat) (hr : r < c.length) : W.cell? ⟨g, r, none⟩ = some (.int .u8 (gi c r)) ∧ W.frozen? ⟨g, r, none⟩ = false :=
  own_cell h.own rfl r _ (by rw [Array.getElem?_toList]; exact vB_at c r hr)
theorem St6.cellP (h : St6 w B g cap u R c pr W) (gp : Nat) (hu : u.ownBlock = some gp) (r : Nat) (hr : r < pr.flatten.length) : W.cell? ⟨gp, r, none⟩ = some (.int .u8 (gi pr.flatten r)) ∧ W.frozen? ⟨gp, r, none⟩ = false :=
  own_cell h.row hu r _ (by rw [Array.getElem?_toList]; exact vB_at _ r hr)
end
theorem rowU_form {W : World} {base e size : Nat} {n : Nat} {u : Value} {xs : List Value} (h : W.ownsRow base e size u n xs) : ∃ av g cap, u = .slice av n cap ∧ (0 < n → av = some ⟨g, 0, none⟩) := by
  rcases h.2 with ⟨rfl, h0⟩ | ⟨g, cap, cur, rfl, _⟩
  · exact ⟨none, 0, 0, by rw [h0], fun h => by omega⟩
  · exact ⟨some ⟨g, 0, none⟩, g, cap, rfl, fun _ => rfl⟩
/-- The state behind the chunk's copy. -/
theorem st6_first (w w2 w3 w4 w5 w6 : World) (u v6 : Value) (R c : List Int) (pr : List (List Int)) (b2 : Below w.heap.size w w2) (p3 : HashRow w2.heap.size pr u w3) (b3 : Below w2.heap.size w2 w3) (b4 : Below w3.heap.size w3 w4) (f1 : w5.heap[w4.heap.size]? = some (.cells (vB R) 24)) (f2 : Below w4.heap.size w4 w5)
    (hc : 0 < c.length) (o6 : OwnB w6 w5.heap.size v6 ([] ++ c)) (g6 : (w5.alloc (.cells #[] 5)).grownBy w6 (some w5.heap.size)) :
    ∃ g cap, v6 = .slice (some ⟨g, 0, none⟩) c.length cap ∧ St6 w w4.heap.size g cap u R c pr w6 := by
  have s2 := b2.size
  have s3 := b3.size
  have s4 := b4.size
  have s5 : w4.heap.size < w5.heap.size := (Array.getElem?_eq_some_iff.1 f1).1
  have o6' : OwnB w6 w5.heap.size v6 c := o6
  obtain ⟨g, cap, rfl, hg, _⟩ := o6'.form (fun e => by rw [e] at hc; simp at hc)
  have b35 : Below w3.heap.size w3 (w5.alloc (.cells #[] 5)) := (b4.trans (f2.mono b4.size)).alloc (by omega) _
  have hlt := World.ownsRow.lt p3
  have b05 : Below w.heap.size w (w5.alloc (.cells #[] 5)) := ((b2.trans (b3.mono b2.size)).trans (b35.mono (by omega)))
  have r5 : (w5.alloc (.cells #[] 5)).ownsRow w2.heap.size 24 32 u pr.length (vB pr.flatten).toList := own_belowR p3 b35
  refine ⟨g, cap, rfl, b05.grown g6 b05.size (fun k hk => by injection hk with hk; omega), ?_, own_mono o6' (Nat.zero_le _), own_mono (own_keep r5 g6 (fun e => ?_)) (Nat.zero_le _), by omega, fun e => ?_, fun e => ?_, by omega, by omega, fun k e => ?_⟩
  · rw [g6.block _ (by simp; omega) (fun e => by injection e with e; omega), Below.heap_alloc _ _ _ s5]; exact f1
  · have := (hlt _ e).2; omega
  · have := (hlt _ e).2; omega
  · have := (hlt _ e).2; omega
  · have := (hlt _ e).1; omega
theorem u8_add (x y : Int) : 0 ≤ IntKind.u8.wrap (x + y) ∧ IntKind.u8.wrap (x + y) ≤ 255 := by
  rw [show IntKind.u8.wrap (x + y) = (x + y) % 256 from rfl]; omega
end Go.Proofs.YtffhjjgkoapioaaDoor
namespace Go.Proofs.YtffhjjgkoapioaaDoor
set_option linter.unusedSimpArgs false
set_option linter.unusedVariables false
open Go.RowKit
set_option maxRecDepth 100000 in
set_option maxHeartbeats 4000000 in
theorem turned0 (av : Option Addr) (N cp : Nat) (i other at_ by_ how : Int) (ls : List (List Int)) (n K m : Nat) (c : List Int) (pr : List (List Int)) (R : List Int) (CB : List Int → Int → List Int → List (List Int) → Bool) (w : World)
    (hN0 : 0 < N) (hN : N ≤ 2000) (hn : ls.length = n) (hn1 : n ≤ 1000) (hK : (i % 18446744073709551616) % (n : Int) = (K : Int)) (hc : ls[K]? = some c) (hc0 : 0 < c.length) (hc32 : c.length ≤ 32) (hcb : Bytes c) (hPH : Hashes pr) (hpm : pr.length = m) (hm : m ≤ 1000) (hR : R.length = 32) (hRb : Bytes R)
    (ha0 : 0 ≤ at_) (ha1 : at_ ≤ 18446744073709551615) (hb0 : 0 ≤ by_) (hb1 : by_ ≤ 255) (hh0 : 0 ≤ how) (hh1 : how ≤ 255) (hq : how % 4 = 0) (r : Nat) (hr : at_ % 32 = (r : Int)) (hr32 : r < 32)
    (K1 : ∀ w', Below w.heap.size w w' → Calls Tryd.prog 29 #[.slice av N cp] w' fun e w'' => ∃ u, e = .returned u ∧ PartsAt w'' u ls ∧ Below w'.heap.size w' w'')
    (K2 : ∀ w', Below w.heap.size w w' → Calls Tryd.prog 39 #[.slice av N cp, .int .i64 K] w' fun e w'' => ∃ u, e = .returned (.tuple #[u, .int .i64 0]) ∧ HashRow w'.heap.size pr u w'' ∧ Below w'.heap.size w' w'')
    (K3 : ∀ w', Below w.heap.size w w' → Calls Tryd.prog 33 #[.slice av N cp] w' fun e w'' => e = .returned (.agg (vB R)) ∧ Below w'.heap.size w' w'')
    (K4 : ∀ w' R' (k' : Int) x u c' pr', Below w.heap.size w w' → R'.length = 32 → PartAt w' x c' → c'.length ≤ 32 → Bytes c' → ListAt w' u pr' → Hashes pr' → pr'.length ≤ 1000 → Calls Tryd.prog 41 #[.agg (vB R'), .int .i64 n, .int .i64 k', x, u] w' fun e w'' => e = .returned (.bool (CB R' k' c' pr')) ∧ Below w'.heap.size w' w'')
    (K5 : ∀ w' R' (k' : Int) x u c' pr', Below w.heap.size w w' → R'.length = 32 → PartAt w' x c' → c'.length ≤ 32 → Bytes c' → ListAt w' u pr' → Hashes pr' → pr'.length ≤ 1000 → Calls Tryd.prog 42 #[.agg (vB R'), .int .i64 n, .int .i64 k', x, u] w' fun e w'' => e = .returned (.bool (CB R' k' c' pr')) ∧ Below w'.heap.size w' w'') :
    Calls Tryd.prog 10 #[.slice av N cp, .int .i64 i, .int .i64 other, .int .u64 at_, .int .u8 by_, .int .u8 how] w fun e w' => e = .returned (.bool true) ∧ Below w.heap.size w w' := by
  have C1 : Hid (∀ w', Below w.heap.size w w' → Calls Tryd.prog 29 #[.slice av N cp] w' fun e w'' => ∃ u, e = .returned u ∧ PartsAt w'' u ls ∧ Below w'.heap.size w' w'') := K1
  have C2 : Hid (∀ w', Below w.heap.size w w' → Calls Tryd.prog 39 #[.slice av N cp, .int .i64 K] w' fun e w'' => ∃ u, e = .returned (.tuple #[u, .int .i64 0]) ∧ HashRow w'.heap.size pr u w'' ∧ Below w'.heap.size w' w'') := K2
  have C3 : Hid (∀ w', Below w.heap.size w w' → Calls Tryd.prog 33 #[.slice av N cp] w' fun e w'' => e = .returned (.agg (vB R)) ∧ Below w'.heap.size w' w'') := K3
  clear K1 K2 K3
  have hKn : K < n := by rw [← hn]; exact (List.getElem?_eq_some_iff.1 hc).1
  have j0 : ¬ (2000 : Int) < (N : Int) := by omega
  have j1 : ¬ (N : Int) = 0 := by omega
  have j0' : decide ((2000 : Int) < (N : Int)) = false := by simp; omega
  have j1' : ((N : Int) == 0) = false := by simp; omega
  have j2 : (n : Int) % 18446744073709551616 = (n : Int) := by omega
  have j3 : ¬ (n : Int) = 0 := by omega
  have i0 : (r : Int) < 32 := by omega
  have i1 : (0 : Int) ≤ (r : Int) := by omega
  go_enter Tryd.func10, Tryd.ntmps10
  go_wp2_with fail
  refine (awake2_any _).mono ?_
  rintro e w1 ⟨rfl, b1⟩
  go_wp2_with fail
  refine (C1.out _ b1).mono ?_
  rintro e w2 ⟨u2, rfl, p2, b2⟩
  obtain ⟨avl, bl, ol, cpl, vs, rfl, q1, q2, q3, q4, q5, q6, q7⟩ := p2
  rw [hn]
  have b02 := b1.trans (b2.mono b1.size)
  have hKw : (IntKind.u64.wrap i).tmod (n : Int) = (K : Int) := by
    rw [show IntKind.u64.wrap i = i % 18446744073709551616 from rfl, Int.tmod_eq_emod_of_nonneg (by omega)]; exact hK
  go_wp2_with fail
  refine (C2.out _ b02).mono ?_
  rintro e w3 ⟨u3, rfl, p3, b3⟩
  have b03 := b02.trans (b3.mono b02.size)
  obtain ⟨avp, gp, cpp, rfl, hvp⟩ := rowU_form p3
  rw [hpm] at p3 hvp ⊢
  go_wp2_with fail
  refine (C3.out _ b03).mono ?_
  rintro e w4 ⟨rfl, b4⟩
  obtain ⟨x, hx⟩ : ∃ x, vs[K]? = some x := ⟨vs[K]'(by omega), List.getElem?_eq_getElem (by omega)⟩
  have hpx := q7 K x c hx hc
  have hcx := q5 K x hx
  have hav := q3 (by omega)
  subst hav
  have hKi : (K : Int) < (n : Int) := by omega
  have b24 : Below w2.heap.size w2 w4 := b3.trans (b4.mono b3.size)
  have E5 : Hid (∀ w5 : World, Below w4.heap.size w4 w5 → (w5.alloc (.cells #[] 5)).cell? ⟨bl, ol + K, none⟩ = some x ∧ PartAt (w5.alloc (.cells #[] 5)) x c ∧ OwnB (w5.alloc (.cells #[] 5)) w5.heap.size (.slice (some ⟨w5.heap.size, 0, none⟩) 0 0) []) := fun w5 f2 => by
    have b25 : Below w2.heap.size w2 (w5.alloc (.cells #[] 5)) := (b24.trans (f2.mono b24.size)).alloc (b24.trans (f2.mono b24.size)).size _
    exact ⟨by rw [b25.cell (show bl < w2.heap.size from q6)]; exact hcx, hpx.below b25, ownB_empty w5 _ (Nat.le_refl _)⟩
  have E6 : Hid (∀ (w5 w6 : World) (v6 : Value), w5.heap[w4.heap.size]? = some (.cells (vB R) 24) → Below w4.heap.size w4 w5 → OwnB w6 w5.heap.size v6 ([] ++ c) → (w5.alloc (.cells #[] 5)).grownBy w6 (some w5.heap.size) → ∃ g cap, v6 = .slice (some ⟨g, 0, none⟩) c.length cap ∧ St6 w w4.heap.size g cap (.slice avp m cpp) R c pr w6) := fun w5 w6 v6 f1 f2 o6 g6 =>
    st6_first w w2 w3 w4 w5 w6 _ v6 R c pr b02 p3 b3 b4 f1 f2 hc0 o6 g6
  clear C1 C2 C3 hKw hK q7 q5 hcx hpx p3 b1 b2 b3 b4 b02 b03 b24 hx hc q1 q2 q3 q4 q6 hn
  go_wp2_with (first | (refine store24n rfl _ _ rfl R hR rfl rfl ?_; intro w5 f1 f2 f3 f4; obtain ⟨e51, e52, e53⟩ := E5.out w5 f2; have E52 : Hid (PartAt (w5.alloc (.cells #[] 5)) x c) := e52; have E53 : Hid (OwnB (w5.alloc (.cells #[] 5)) w5.heap.size (.slice (some ⟨w5.heap.size, 0, none⟩) 0 0) []) := e53; have F1 : Hid (w5.heap[w4.heap.size]? = some (.cells (vB R) 24)) := f1; have F2 : Hid (Below w4.heap.size w4 w5) := f2; clear e52 e53 f3 f4 f1 f2) | (at_builtin; refine appendB rfl _ _ rfl w5.heap.size _ [] rfl E53.out x c rfl E52.out (by simp; omega) (by simp) ?_; intro v6 w6 o6 g6 d6; obtain ⟨g, cap, rfl, s6⟩ := E6.out w5 w6 v6 F1.out F2.out o6 g6; clear o6 g6 d6 e51 E52 E53 F1 F2; have S6 : Hid (St6 w w4.heap.size g cap (.slice avp m cpp) R c pr w6) := s6; obtain ⟨cr, fr⟩ := s6.cellR r (by omega); clear s6))
  clear cr fr
  generalize hx8 : (gi R r + by_) % 256 = x8
  clear hx8
  have HS : Hid (St6 w w4.heap.size g cap (.slice avp m cpp) (R.set r x8) c pr (w6.setCell ⟨w4.heap.size, r, none⟩ (.int .u8 x8))) := S6.out.turnR r _
  have hR' : (R.set r x8).length = 32 := by rw [List.length_set]; exact hR
  generalize R.set r x8 = R1 at *
  have hcl' : c.length = c.length := rfl
  have hcb' := hcb
  have hPH' := hPH
  have D4 : Hid (∀ w', St6 w w4.heap.size g cap (.slice avp m cpp) (R1) (c) (pr) w' → Calls Tryd.prog 41 #[.agg (List.map (Value.int .u8) (R1)).toArray, .int .i64 n, .int .i64 K, .slice (some ⟨g, 0, none⟩) c.length cap, .slice avp m cpp] w' fun e w'' => e = .returned (.bool (CB (R1) K (c) (pr))) ∧ Below w'.heap.size w' w'') := fun w' h => K4 w' _ _ _ _ _ _ h.bel hR' (by have := h.part; rw [hcl'] at this; exact this) (by omega) hcb' h.list hPH' (by omega)
  have D5 : Hid (∀ w', St6 w w4.heap.size g cap (.slice avp m cpp) (R1) (c) (pr) w' → Calls Tryd.prog 42 #[.agg (List.map (Value.int .u8) (R1)).toArray, .int .i64 n, .int .i64 K, .slice (some ⟨g, 0, none⟩) c.length cap, .slice avp m cpp] w' fun e w'' => e = .returned (.bool (CB (R1) K (c) (pr))) ∧ Below w'.heap.size w' w'') := fun w' h => K5 w' _ _ _ _ _ _ h.bel hR' (by have := h.part; rw [hcl'] at this; exact this) (by omega) hcb' h.list hPH' (by omega)
  have hi : (Tryd.prog.info? 24).map (·.size) = some (List.map (Value.int .u8) (R1)).length := by rw [List.length_map, hR']; kernel_rfl
  generalize CB (R1) K (c) (pr) = X at *
  clear K4 K5 S6
  refine wp_region_noPanic ?_
  refine wp_region_held_drew (S := fun w' => St6 w w4.heap.size g cap (.slice avp m cpp) (R1) (c) (pr) w') (by kernel_rfl) (HS.out.drew) (fun hHeld => ?_)
  try simp only [Act.put, List.setIfInBounds_toArray, List.set_cons_zero, List.set_cons_succ]
  refine wpAnyH_take (i := 0) (oi := { dst := some 106, op := Go.Op.load 24 (Go.Operand.tmp 17), type := 24, pos := "law.go:95", after := #[], guard := none }) (v := .agg (List.toArray (List.map (Value.int .u8) (R1)))) rfl (by kernel_rfl) (by kernel_rfl) (by kernel_rfl) (fun _ _ _ h => h) (yieldsIf_load_mid (by rfl) _ _ rfl (w4.heap.size) (0) rfl (List.map (Value.int .u8) (R1)) _ (fun _ h => St6.range h) Tryd.underlying24 rfl (hi)) hHeld ?_
  try simp only [Act.put, List.setIfInBounds_toArray, List.set_cons_zero, List.set_cons_succ]
  refine wpAnyH_take (i := 1) (oi := { dst := some 107, op := Go.Op.move (Go.Operand.tmp 13), type := 29, pos := "law.go:95", after := #[], guard := none }) (v := ?_) rfl (by kernel_rfl) (by kernel_rfl) (by kernel_rfl) (fun _ _ _ h => h) (Or.inl ⟨by rfl, ?_⟩) hHeld ?_
  rotate_left 1
  · (intro wq hSq; (try dsimp only at hSq); go_simp; first | done | with_reducible rfl)
  try simp only [Act.put, List.setIfInBounds_toArray, List.set_cons_zero, List.set_cons_succ]
  refine wpAnyH_take (i := 2) (oi := { dst := some 108, op := Go.Op.call { callee := Go.Callee.builtin Go.Builtin.len, args := #[Go.Operand.tmp 107], argTypes := #[29] }, type := 3, pos := "law.go:95", after := #[{ on := 1, ground := Go.Ground.data }], guard := none }) (v := ?_) rfl (by kernel_rfl) (by kernel_rfl) (by kernel_rfl) (fun _ _ _ h => h) (Or.inl ⟨by rfl, ?_⟩) hHeld ?_
  rotate_left 1
  · (intro wq hSq; (try dsimp only at hSq); go_simp; first | done | with_reducible rfl)
  try simp only [Act.put, List.setIfInBounds_toArray, List.set_cons_zero, List.set_cons_succ]
  refine wpAnyH_take (i := 3) (oi := { dst := some 109, op := Go.Op.move (Go.Operand.tmp 14), type := 3, pos := "law.go:95", after := #[], guard := none }) (v := ?_) rfl (by kernel_rfl) (by kernel_rfl) (by kernel_rfl) (fun _ _ _ h => h) (Or.inl ⟨by rfl, ?_⟩) hHeld ?_
  rotate_left 1
  · (intro wq hSq; (try dsimp only at hSq); go_simp; first | done | with_reducible rfl)
  try simp only [Act.put, List.setIfInBounds_toArray, List.set_cons_zero, List.set_cons_succ]
  refine wpAnyH_take (i := 4) (oi := { dst := some 110, op := Go.Op.move (Go.Operand.tmp 18), type := 22, pos := "law.go:95", after := #[], guard := none }) (v := ?_) rfl (by kernel_rfl) (by kernel_rfl) (by kernel_rfl) (fun _ _ _ h => h) (Or.inl ⟨by rfl, ?_⟩) hHeld ?_
  rotate_left 1
  · (intro wq hSq; (try dsimp only at hSq); go_simp; first | done | with_reducible rfl)
  try simp only [Act.put, List.setIfInBounds_toArray, List.set_cons_zero, List.set_cons_succ]
  refine wpAnyH_take (i := 5) (oi := { dst := some 111, op := Go.Op.move (Go.Operand.tmp 15), type := 44, pos := "law.go:95", after := #[], guard := none }) (v := ?_) rfl (by kernel_rfl) (by kernel_rfl) (by kernel_rfl) (fun _ _ _ h => h) (Or.inl ⟨by rfl, ?_⟩) hHeld ?_
  rotate_left 1
  · (intro wq hSq; (try dsimp only at hSq); go_simp; first | done | with_reducible rfl)
  try simp only [Act.put, List.setIfInBounds_toArray, List.set_cons_zero, List.set_cons_succ]
  refine wpAnyH_take (i := 7) (oi := { dst := some 113, op := Go.Op.load 24 (Go.Operand.tmp 17), type := 24, pos := "law.go:95", after := #[], guard := none }) (v := .agg (List.toArray (List.map (Value.int .u8) (R1)))) rfl (by kernel_rfl) (by kernel_rfl) (by kernel_rfl) (fun _ _ _ h => h) (yieldsIf_load_mid (by rfl) _ _ rfl (w4.heap.size) (0) rfl (List.map (Value.int .u8) (R1)) _ (fun _ h => St6.range h) Tryd.underlying24 rfl (hi)) hHeld ?_
  try simp only [Act.put, List.setIfInBounds_toArray, List.set_cons_zero, List.set_cons_succ]
  refine wpAnyH_take (i := 8) (oi := { dst := some 114, op := Go.Op.move (Go.Operand.tmp 13), type := 29, pos := "law.go:95", after := #[], guard := none }) (v := ?_) rfl (by kernel_rfl) (by kernel_rfl) (by kernel_rfl) (fun _ _ _ h => h) (Or.inl ⟨by rfl, ?_⟩) hHeld ?_
  rotate_left 1
  · (intro wq hSq; (try dsimp only at hSq); go_simp; first | done | with_reducible rfl)
  try simp only [Act.put, List.setIfInBounds_toArray, List.set_cons_zero, List.set_cons_succ]
  refine wpAnyH_take (i := 9) (oi := { dst := some 115, op := Go.Op.call { callee := Go.Callee.builtin Go.Builtin.len, args := #[Go.Operand.tmp 114], argTypes := #[29] }, type := 3, pos := "law.go:95", after := #[{ on := 8, ground := Go.Ground.data }], guard := none }) (v := ?_) rfl (by kernel_rfl) (by kernel_rfl) (by kernel_rfl) (fun _ _ _ h => h) (Or.inl ⟨by rfl, ?_⟩) hHeld ?_
  rotate_left 1
  · (intro wq hSq; (try dsimp only at hSq); go_simp; first | done | with_reducible rfl)
  try simp only [Act.put, List.setIfInBounds_toArray, List.set_cons_zero, List.set_cons_succ]
  refine wpAnyH_take (i := 10) (oi := { dst := some 116, op := Go.Op.move (Go.Operand.tmp 14), type := 3, pos := "law.go:95", after := #[], guard := none }) (v := ?_) rfl (by kernel_rfl) (by kernel_rfl) (by kernel_rfl) (fun _ _ _ h => h) (Or.inl ⟨by rfl, ?_⟩) hHeld ?_
  rotate_left 1
  · (intro wq hSq; (try dsimp only at hSq); go_simp; first | done | with_reducible rfl)
  try simp only [Act.put, List.setIfInBounds_toArray, List.set_cons_zero, List.set_cons_succ]
  refine wpAnyH_take (i := 11) (oi := { dst := some 117, op := Go.Op.move (Go.Operand.tmp 18), type := 22, pos := "law.go:95", after := #[], guard := none }) (v := ?_) rfl (by kernel_rfl) (by kernel_rfl) (by kernel_rfl) (fun _ _ _ h => h) (Or.inl ⟨by rfl, ?_⟩) hHeld ?_
  rotate_left 1
  · (intro wq hSq; (try dsimp only at hSq); go_simp; first | done | with_reducible rfl)
  try simp only [Act.put, List.setIfInBounds_toArray, List.set_cons_zero, List.set_cons_succ]
  refine wpAnyH_take (i := 12) (oi := { dst := some 118, op := Go.Op.move (Go.Operand.tmp 15), type := 44, pos := "law.go:95", after := #[], guard := none }) (v := ?_) rfl (by kernel_rfl) (by kernel_rfl) (by kernel_rfl) (fun _ _ _ h => h) (Or.inl ⟨by rfl, ?_⟩) hHeld ?_
  rotate_left 1
  · (intro wq hSq; (try dsimp only at hSq); go_simp; first | done | with_reducible rfl)
  try simp only [Act.put, List.setIfInBounds_toArray, List.set_cons_zero, List.set_cons_succ]
  refine wpAnyH_ready (rs := [6]) (by kernel_rfl) (by simp) ?_
  refine AllReadyH.cons (o := { dst := some 112, op := Go.Op.call { callee := Go.Callee.value (Go.Operand.func 41), args := #[Go.Operand.tmp 106, Go.Operand.tmp 108, Go.Operand.tmp 109, Go.Operand.tmp 110, Go.Operand.tmp 111], argTypes := #[24, 3, 3, 22, 44] }, type := 4, pos := "law.go:95", after := #[{ on := 0, ground := Go.Ground.data }, { on := 2, ground := Go.Ground.data }, { on := 3, ground := Go.Ground.data }, { on := 4, ground := Go.Ground.data }, { on := 5, ground := Go.Ground.data }], guard := none }) rfl (fun K hK => ?_) AllReadyH.nil
  go_simp
  refine (D4.out _ ‹_›).mono ?_
  rintro e w8 ⟨rfl, b8⟩
  refine hK.out _ _ (St6.below ‹_› b8) (fun hHeld1 => ?_)
  clear hK K hHeld
  try simp only [Act.put, List.setIfInBounds_toArray, List.set_cons_zero, List.set_cons_succ]
  refine wpAnyH_ready (rs := [13]) (by kernel_rfl) (by simp) ?_
  refine AllReadyH.cons (o := { dst := some 119, op := Go.Op.call { callee := Go.Callee.value (Go.Operand.func 42), args := #[Go.Operand.tmp 113, Go.Operand.tmp 115, Go.Operand.tmp 116, Go.Operand.tmp 117, Go.Operand.tmp 118], argTypes := #[24, 3, 3, 22, 44] }, type := 4, pos := "law.go:95", after := #[{ on := 7, ground := Go.Ground.data }, { on := 9, ground := Go.Ground.data }, { on := 10, ground := Go.Ground.data }, { on := 11, ground := Go.Ground.data }, { on := 12, ground := Go.Ground.data }, { on := 6, ground := Go.Ground.chain }], guard := none }) rfl (fun K hK => ?_) AllReadyH.nil
  go_simp
  refine (D5.out _ ‹_›).mono ?_
  rintro e w9 ⟨rfl, b9⟩
  refine hK.out _ _ (St6.below ‹_› b9) (fun hHeld2 => ?_)
  clear hK K hHeld1
  try simp only [Act.put, List.setIfInBounds_toArray, List.set_cons_zero, List.set_cons_succ]
  refine wpAnyH_take (i := 14) (oi := { dst := some 120, op := Go.Op.binOp Go.BinOp.eql 4 (Go.Operand.tmp 112) (Go.Operand.tmp 119) 4, type := 4, pos := "law.go:95", after := #[{ on := 6, ground := Go.Ground.data }, { on := 13, ground := Go.Ground.data }], guard := none }) (v := ?_) rfl (by kernel_rfl) (by kernel_rfl) (by kernel_rfl) (fun _ _ _ h => h) (Or.inl ⟨by rfl, ?_⟩) hHeld2 ?_
  rotate_left 1
  · (intro wq hSq; (try dsimp only at hSq); go_simp; first | done | with_reducible rfl)
  try simp only [Act.put, List.setIfInBounds_toArray, List.set_cons_zero, List.set_cons_succ]
  refine wpAnyH_take (i := 15) (oi := { dst := some 12, op := Go.Op.assign (Go.Operand.tmp 120), type := 4, pos := "law.go:95", after := #[{ on := 14, ground := Go.Ground.data }, { on := 13, ground := Go.Ground.chain }, { on := 0, ground := Go.Ground.phase }, { on := 1, ground := Go.Ground.phase }, { on := 2, ground := Go.Ground.phase }, { on := 3, ground := Go.Ground.phase }, { on := 4, ground := Go.Ground.phase }, { on := 5, ground := Go.Ground.phase }, { on := 6, ground := Go.Ground.phase }, { on := 7, ground := Go.Ground.phase }, { on := 8, ground := Go.Ground.phase }, { on := 9, ground := Go.Ground.phase }, { on := 10, ground := Go.Ground.phase }, { on := 11, ground := Go.Ground.phase }, { on := 12, ground := Go.Ground.phase }, { on := 13, ground := Go.Ground.phase }, { on := 14, ground := Go.Ground.phase }], guard := none }) (v := ?_) rfl (by kernel_rfl) (by kernel_rfl) (by kernel_rfl) (fun _ _ _ h => h) (Or.inl ⟨by rfl, ?_⟩) hHeld2 ?_
  rotate_left 1
  · (intro wq hSq; (try dsimp only at hSq); go_simp; first | done | with_reducible rfl)
  try simp only [Act.put, List.setIfInBounds_toArray, List.set_cons_zero, List.set_cons_succ]
  refine wpAnyH_done (by kernel_rfl) ?_ _
  refine NoPanic.normal ?_
  go_wp2
  go_ret
  exact ⟨by simp, hHeld2.bel⟩
end Go.Proofs.YtffhjjgkoapioaaDoor
namespace Go.Proofs.YtffhjjgkoapioaaDoor
set_option linter.unusedSimpArgs false
set_option linter.unusedVariables false
open Go.RowKit
set_option maxRecDepth 100000 in
set_option maxHeartbeats 4000000 in
theorem turned1 (av : Option Addr) (N cp : Nat) (i other at_ by_ how : Int) (ls : List (List Int)) (n K m : Nat) (c : List Int) (pr : List (List Int)) (R : List Int) (CB : List Int → Int → List Int → List (List Int) → Bool) (w : World)
    (hN0 : 0 < N) (hN : N ≤ 2000) (hn : ls.length = n) (hn1 : n ≤ 1000) (hK : (i % 18446744073709551616) % (n : Int) = (K : Int)) (hc : ls[K]? = some c) (hc0 : 0 < c.length) (hc32 : c.length ≤ 32) (hcb : Bytes c) (hPH : Hashes pr) (hpm : pr.length = m) (hm : m ≤ 1000) (hR : R.length = 32) (hRb : Bytes R)
    (ha0 : 0 ≤ at_) (ha1 : at_ ≤ 18446744073709551615) (hb0 : 0 ≤ by_) (hb1 : by_ ≤ 255) (hh0 : 0 ≤ how) (hh1 : how ≤ 255) (hq : how % 4 = 1) (r : Nat) (hr : at_ % (c.length : Int) = (r : Int)) (hr32 : r < c.length)
    (K1 : ∀ w', Below w.heap.size w w' → Calls Tryd.prog 29 #[.slice av N cp] w' fun e w'' => ∃ u, e = .returned u ∧ PartsAt w'' u ls ∧ Below w'.heap.size w' w'')
    (K2 : ∀ w', Below w.heap.size w w' → Calls Tryd.prog 39 #[.slice av N cp, .int .i64 K] w' fun e w'' => ∃ u, e = .returned (.tuple #[u, .int .i64 0]) ∧ HashRow w'.heap.size pr u w'' ∧ Below w'.heap.size w' w'')
    (K3 : ∀ w', Below w.heap.size w w' → Calls Tryd.prog 33 #[.slice av N cp] w' fun e w'' => e = .returned (.agg (vB R)) ∧ Below w'.heap.size w' w'')
    (K4 : ∀ w' R' (k' : Int) x u c' pr', Below w.heap.size w w' → R'.length = 32 → PartAt w' x c' → c'.length ≤ 32 → Bytes c' → ListAt w' u pr' → Hashes pr' → pr'.length ≤ 1000 → Calls Tryd.prog 41 #[.agg (vB R'), .int .i64 n, .int .i64 k', x, u] w' fun e w'' => e = .returned (.bool (CB R' k' c' pr')) ∧ Below w'.heap.size w' w'')
    (K5 : ∀ w' R' (k' : Int) x u c' pr', Below w.heap.size w w' → R'.length = 32 → PartAt w' x c' → c'.length ≤ 32 → Bytes c' → ListAt w' u pr' → Hashes pr' → pr'.length ≤ 1000 → Calls Tryd.prog 42 #[.agg (vB R'), .int .i64 n, .int .i64 k', x, u] w' fun e w'' => e = .returned (.bool (CB R' k' c' pr')) ∧ Below w'.heap.size w' w'') :
    Calls Tryd.prog 10 #[.slice av N cp, .int .i64 i, .int .i64 other, .int .u64 at_, .int .u8 by_, .int .u8 how] w fun e w' => e = .returned (.bool true) ∧ Below w.heap.size w w' := by
  have C1 : Hid (∀ w', Below w.heap.size w w' → Calls Tryd.prog 29 #[.slice av N cp] w' fun e w'' => ∃ u, e = .returned u ∧ PartsAt w'' u ls ∧ Below w'.heap.size w' w'') := K1
  have C2 : Hid (∀ w', Below w.heap.size w w' → Calls Tryd.prog 39 #[.slice av N cp, .int .i64 K] w' fun e w'' => ∃ u, e = .returned (.tuple #[u, .int .i64 0]) ∧ HashRow w'.heap.size pr u w'' ∧ Below w'.heap.size w' w'') := K2
  have C3 : Hid (∀ w', Below w.heap.size w w' → Calls Tryd.prog 33 #[.slice av N cp] w' fun e w'' => e = .returned (.agg (vB R)) ∧ Below w'.heap.size w' w'') := K3
  clear K1 K2 K3
  have hKn : K < n := by rw [← hn]; exact (List.getElem?_eq_some_iff.1 hc).1
  have j0 : ¬ (2000 : Int) < (N : Int) := by omega
  have j1 : ¬ (N : Int) = 0 := by omega
  have j0' : decide ((2000 : Int) < (N : Int)) = false := by simp; omega
  have j1' : ((N : Int) == 0) = false := by simp; omega
  have j2 : (n : Int) % 18446744073709551616 = (n : Int) := by omega
  have j3 : ¬ (n : Int) = 0 := by omega
  have i0 : (r : Int) < (c.length : Int) := by omega
  have i1 : (0 : Int) ≤ (r : Int) := by omega
  have i2 : (c.length : Int) % 18446744073709551616 = (c.length : Int) := by omega
  have i3 : ¬ (c.length : Int) = 0 := by omega
  go_enter Tryd.func10, Tryd.ntmps10
  go_wp2_with fail
  refine (awake2_any _).mono ?_
  rintro e w1 ⟨rfl, b1⟩
  go_wp2_with fail
  refine (C1.out _ b1).mono ?_
  rintro e w2 ⟨u2, rfl, p2, b2⟩
  obtain ⟨avl, bl, ol, cpl, vs, rfl, q1, q2, q3, q4, q5, q6, q7⟩ := p2
  rw [hn]
  have b02 := b1.trans (b2.mono b1.size)
  have hKw : (IntKind.u64.wrap i).tmod (n : Int) = (K : Int) := by
    rw [show IntKind.u64.wrap i = i % 18446744073709551616 from rfl, Int.tmod_eq_emod_of_nonneg (by omega)]; exact hK
  go_wp2_with fail
  refine (C2.out _ b02).mono ?_
  rintro e w3 ⟨u3, rfl, p3, b3⟩
  have b03 := b02.trans (b3.mono b02.size)
  obtain ⟨avp, gp, cpp, rfl, hvp⟩ := rowU_form p3
  rw [hpm] at p3 hvp ⊢
  go_wp2_with fail
  refine (C3.out _ b03).mono ?_
  rintro e w4 ⟨rfl, b4⟩
  obtain ⟨x, hx⟩ : ∃ x, vs[K]? = some x := ⟨vs[K]'(by omega), List.getElem?_eq_getElem (by omega)⟩
  have hpx := q7 K x c hx hc
  have hcx := q5 K x hx
  have hav := q3 (by omega)
  subst hav
  have hKi : (K : Int) < (n : Int) := by omega
  have b24 : Below w2.heap.size w2 w4 := b3.trans (b4.mono b3.size)
  have E5 : Hid (∀ w5 : World, Below w4.heap.size w4 w5 → (w5.alloc (.cells #[] 5)).cell? ⟨bl, ol + K, none⟩ = some x ∧ PartAt (w5.alloc (.cells #[] 5)) x c ∧ OwnB (w5.alloc (.cells #[] 5)) w5.heap.size (.slice (some ⟨w5.heap.size, 0, none⟩) 0 0) []) := fun w5 f2 => by
    have b25 : Below w2.heap.size w2 (w5.alloc (.cells #[] 5)) := (b24.trans (f2.mono b24.size)).alloc (b24.trans (f2.mono b24.size)).size _
    exact ⟨by rw [b25.cell (show bl < w2.heap.size from q6)]; exact hcx, hpx.below b25, ownB_empty w5 _ (Nat.le_refl _)⟩
  have E6 : Hid (∀ (w5 w6 : World) (v6 : Value), w5.heap[w4.heap.size]? = some (.cells (vB R) 24) → Below w4.heap.size w4 w5 → OwnB w6 w5.heap.size v6 ([] ++ c) → (w5.alloc (.cells #[] 5)).grownBy w6 (some w5.heap.size) → ∃ g cap, v6 = .slice (some ⟨g, 0, none⟩) c.length cap ∧ St6 w w4.heap.size g cap (.slice avp m cpp) R c pr w6) := fun w5 w6 v6 f1 f2 o6 g6 =>
    st6_first w w2 w3 w4 w5 w6 _ v6 R c pr b02 p3 b3 b4 f1 f2 hc0 o6 g6
  clear C1 C2 C3 hKw hK q7 q5 hcx hpx p3 b1 b2 b3 b4 b02 b03 b24 hx hc q1 q2 q3 q4 q6 hn
  go_wp2_with (first | (refine store24n rfl _ _ rfl R hR rfl rfl ?_; intro w5 f1 f2 f3 f4; obtain ⟨e51, e52, e53⟩ := E5.out w5 f2; have E52 : Hid (PartAt (w5.alloc (.cells #[] 5)) x c) := e52; have E53 : Hid (OwnB (w5.alloc (.cells #[] 5)) w5.heap.size (.slice (some ⟨w5.heap.size, 0, none⟩) 0 0) []) := e53; have F1 : Hid (w5.heap[w4.heap.size]? = some (.cells (vB R) 24)) := f1; have F2 : Hid (Below w4.heap.size w4 w5) := f2; clear e52 e53 f3 f4 f1 f2) | (at_builtin; refine appendB rfl _ _ rfl w5.heap.size _ [] rfl E53.out x c rfl E52.out (by simp; omega) (by simp) ?_; intro v6 w6 o6 g6 d6; obtain ⟨g, cap, rfl, s6⟩ := E6.out w5 w6 v6 F1.out F2.out o6 g6; clear o6 g6 d6 e51 E52 E53 F1 F2; have S6 : Hid (St6 w w4.heap.size g cap (.slice avp m cpp) R c pr w6) := s6; obtain ⟨cr, fr⟩ := s6.cellC r hr32; clear s6))
  clear cr fr
  have x8b : 0 ≤ (gi c r + by_) % 256 ∧ (gi c r + by_) % 256 ≤ 255 := by omega
  generalize (gi c r + by_) % 256 = x8 at *
  have HS : Hid (St6 w w4.heap.size g cap (.slice avp m cpp) R (c.set r x8) pr (w6.setCell ⟨g, r, none⟩ (.int .u8 x8))) := S6.out.turnC r _
  have hR' := hR
  have hcl' : (c.set r x8).length = c.length := List.length_set
  have hcb' : Bytes (c.set r x8) := bytes_set hcb r x8 x8b.1 x8b.2
  have hPH' := hPH
  have D4 : Hid (∀ w', St6 w w4.heap.size g cap (.slice avp m cpp) (R) (c.set r x8) (pr) w' → Calls Tryd.prog 41 #[.agg (List.map (Value.int .u8) (R)).toArray, .int .i64 n, .int .i64 K, .slice (some ⟨g, 0, none⟩) c.length cap, .slice avp m cpp] w' fun e w'' => e = .returned (.bool (CB (R) K (c.set r x8) (pr))) ∧ Below w'.heap.size w' w'') := fun w' h => K4 w' _ _ _ _ _ _ h.bel hR' (by have := h.part; rw [hcl'] at this; exact this) (by omega) hcb' h.list hPH' (by omega)
  have D5 : Hid (∀ w', St6 w w4.heap.size g cap (.slice avp m cpp) (R) (c.set r x8) (pr) w' → Calls Tryd.prog 42 #[.agg (List.map (Value.int .u8) (R)).toArray, .int .i64 n, .int .i64 K, .slice (some ⟨g, 0, none⟩) c.length cap, .slice avp m cpp] w' fun e w'' => e = .returned (.bool (CB (R) K (c.set r x8) (pr))) ∧ Below w'.heap.size w' w'') := fun w' h => K5 w' _ _ _ _ _ _ h.bel hR' (by have := h.part; rw [hcl'] at this; exact this) (by omega) hcb' h.list hPH' (by omega)
  have hi : (Tryd.prog.info? 24).map (·.size) = some (List.map (Value.int .u8) (R)).length := by rw [List.length_map, hR']; kernel_rfl
  generalize CB (R) K (c.set r x8) (pr) = X at *
  clear K4 K5 S6
  refine wp_region_noPanic ?_
  refine wp_region_held_drew (S := fun w' => St6 w w4.heap.size g cap (.slice avp m cpp) (R) (c.set r x8) (pr) w') (by kernel_rfl) (HS.out.drew) (fun hHeld => ?_)
  try simp only [Act.put, List.setIfInBounds_toArray, List.set_cons_zero, List.set_cons_succ]
  refine wpAnyH_take (i := 0) (oi := { dst := some 106, op := Go.Op.load 24 (Go.Operand.tmp 17), type := 24, pos := "law.go:95", after := #[], guard := none }) (v := .agg (List.toArray (List.map (Value.int .u8) (R)))) rfl (by kernel_rfl) (by kernel_rfl) (by kernel_rfl) (fun _ _ _ h => h) (yieldsIf_load_mid (by rfl) _ _ rfl (w4.heap.size) (0) rfl (List.map (Value.int .u8) (R)) _ (fun _ h => St6.range h) Tryd.underlying24 rfl (hi)) hHeld ?_
  try simp only [Act.put, List.setIfInBounds_toArray, List.set_cons_zero, List.set_cons_succ]
  refine wpAnyH_take (i := 1) (oi := { dst := some 107, op := Go.Op.move (Go.Operand.tmp 13), type := 29, pos := "law.go:95", after := #[], guard := none }) (v := ?_) rfl (by kernel_rfl) (by kernel_rfl) (by kernel_rfl) (fun _ _ _ h => h) (Or.inl ⟨by rfl, ?_⟩) hHeld ?_
  rotate_left 1
  · (intro wq hSq; (try dsimp only at hSq); go_simp; first | done | with_reducible rfl)
  try simp only [Act.put, List.setIfInBounds_toArray, List.set_cons_zero, List.set_cons_succ]
  refine wpAnyH_take (i := 2) (oi := { dst := some 108, op := Go.Op.call { callee := Go.Callee.builtin Go.Builtin.len, args := #[Go.Operand.tmp 107], argTypes := #[29] }, type := 3, pos := "law.go:95", after := #[{ on := 1, ground := Go.Ground.data }], guard := none }) (v := ?_) rfl (by kernel_rfl) (by kernel_rfl) (by kernel_rfl) (fun _ _ _ h => h) (Or.inl ⟨by rfl, ?_⟩) hHeld ?_
  rotate_left 1
  · (intro wq hSq; (try dsimp only at hSq); go_simp; first | done | with_reducible rfl)
  try simp only [Act.put, List.setIfInBounds_toArray, List.set_cons_zero, List.set_cons_succ]
  refine wpAnyH_take (i := 3) (oi := { dst := some 109, op := Go.Op.move (Go.Operand.tmp 14), type := 3, pos := "law.go:95", after := #[], guard := none }) (v := ?_) rfl (by kernel_rfl) (by kernel_rfl) (by kernel_rfl) (fun _ _ _ h => h) (Or.inl ⟨by rfl, ?_⟩) hHeld ?_
  rotate_left 1
  · (intro wq hSq; (try dsimp only at hSq); go_simp; first | done | with_reducible rfl)
  try simp only [Act.put, List.setIfInBounds_toArray, List.set_cons_zero, List.set_cons_succ]
  refine wpAnyH_take (i := 4) (oi := { dst := some 110, op := Go.Op.move (Go.Operand.tmp 18), type := 22, pos := "law.go:95", after := #[], guard := none }) (v := ?_) rfl (by kernel_rfl) (by kernel_rfl) (by kernel_rfl) (fun _ _ _ h => h) (Or.inl ⟨by rfl, ?_⟩) hHeld ?_
  rotate_left 1
  · (intro wq hSq; (try dsimp only at hSq); go_simp; first | done | with_reducible rfl)
  try simp only [Act.put, List.setIfInBounds_toArray, List.set_cons_zero, List.set_cons_succ]
  refine wpAnyH_take (i := 5) (oi := { dst := some 111, op := Go.Op.move (Go.Operand.tmp 15), type := 44, pos := "law.go:95", after := #[], guard := none }) (v := ?_) rfl (by kernel_rfl) (by kernel_rfl) (by kernel_rfl) (fun _ _ _ h => h) (Or.inl ⟨by rfl, ?_⟩) hHeld ?_
  rotate_left 1
  · (intro wq hSq; (try dsimp only at hSq); go_simp; first | done | with_reducible rfl)
  try simp only [Act.put, List.setIfInBounds_toArray, List.set_cons_zero, List.set_cons_succ]
  refine wpAnyH_take (i := 7) (oi := { dst := some 113, op := Go.Op.load 24 (Go.Operand.tmp 17), type := 24, pos := "law.go:95", after := #[], guard := none }) (v := .agg (List.toArray (List.map (Value.int .u8) (R)))) rfl (by kernel_rfl) (by kernel_rfl) (by kernel_rfl) (fun _ _ _ h => h) (yieldsIf_load_mid (by rfl) _ _ rfl (w4.heap.size) (0) rfl (List.map (Value.int .u8) (R)) _ (fun _ h => St6.range h) Tryd.underlying24 rfl (hi)) hHeld ?_
  try simp only [Act.put, List.setIfInBounds_toArray, List.set_cons_zero, List.set_cons_succ]
  refine wpAnyH_take (i := 8) (oi := { dst := some 114, op := Go.Op.move (Go.Operand.tmp 13), type := 29, pos := "law.go:95", after := #[], guard := none }) (v := ?_) rfl (by kernel_rfl) (by kernel_rfl) (by kernel_rfl) (fun _ _ _ h => h) (Or.inl ⟨by rfl, ?_⟩) hHeld ?_
  rotate_left 1
  · (intro wq hSq; (try dsimp only at hSq); go_simp; first | done | with_reducible rfl)
  try simp only [Act.put, List.setIfInBounds_toArray, List.set_cons_zero, List.set_cons_succ]
  refine wpAnyH_take (i := 9) (oi := { dst := some 115, op := Go.Op.call { callee := Go.Callee.builtin Go.Builtin.len, args := #[Go.Operand.tmp 114], argTypes := #[29] }, type := 3, pos := "law.go:95", after := #[{ on := 8, ground := Go.Ground.data }], guard := none }) (v := ?_) rfl (by kernel_rfl) (by kernel_rfl) (by kernel_rfl) (fun _ _ _ h => h) (Or.inl ⟨by rfl, ?_⟩) hHeld ?_
  rotate_left 1
  · (intro wq hSq; (try dsimp only at hSq); go_simp; first | done | with_reducible rfl)
  try simp only [Act.put, List.setIfInBounds_toArray, List.set_cons_zero, List.set_cons_succ]
  refine wpAnyH_take (i := 10) (oi := { dst := some 116, op := Go.Op.move (Go.Operand.tmp 14), type := 3, pos := "law.go:95", after := #[], guard := none }) (v := ?_) rfl (by kernel_rfl) (by kernel_rfl) (by kernel_rfl) (fun _ _ _ h => h) (Or.inl ⟨by rfl, ?_⟩) hHeld ?_
  rotate_left 1
  · (intro wq hSq; (try dsimp only at hSq); go_simp; first | done | with_reducible rfl)
  try simp only [Act.put, List.setIfInBounds_toArray, List.set_cons_zero, List.set_cons_succ]
  refine wpAnyH_take (i := 11) (oi := { dst := some 117, op := Go.Op.move (Go.Operand.tmp 18), type := 22, pos := "law.go:95", after := #[], guard := none }) (v := ?_) rfl (by kernel_rfl) (by kernel_rfl) (by kernel_rfl) (fun _ _ _ h => h) (Or.inl ⟨by rfl, ?_⟩) hHeld ?_
  rotate_left 1
  · (intro wq hSq; (try dsimp only at hSq); go_simp; first | done | with_reducible rfl)
  try simp only [Act.put, List.setIfInBounds_toArray, List.set_cons_zero, List.set_cons_succ]
  refine wpAnyH_take (i := 12) (oi := { dst := some 118, op := Go.Op.move (Go.Operand.tmp 15), type := 44, pos := "law.go:95", after := #[], guard := none }) (v := ?_) rfl (by kernel_rfl) (by kernel_rfl) (by kernel_rfl) (fun _ _ _ h => h) (Or.inl ⟨by rfl, ?_⟩) hHeld ?_
  rotate_left 1
  · (intro wq hSq; (try dsimp only at hSq); go_simp; first | done | with_reducible rfl)
  try simp only [Act.put, List.setIfInBounds_toArray, List.set_cons_zero, List.set_cons_succ]
  refine wpAnyH_ready (rs := [6]) (by kernel_rfl) (by simp) ?_
  refine AllReadyH.cons (o := { dst := some 112, op := Go.Op.call { callee := Go.Callee.value (Go.Operand.func 41), args := #[Go.Operand.tmp 106, Go.Operand.tmp 108, Go.Operand.tmp 109, Go.Operand.tmp 110, Go.Operand.tmp 111], argTypes := #[24, 3, 3, 22, 44] }, type := 4, pos := "law.go:95", after := #[{ on := 0, ground := Go.Ground.data }, { on := 2, ground := Go.Ground.data }, { on := 3, ground := Go.Ground.data }, { on := 4, ground := Go.Ground.data }, { on := 5, ground := Go.Ground.data }], guard := none }) rfl (fun K hK => ?_) AllReadyH.nil
  go_simp
  refine (D4.out _ ‹_›).mono ?_
  rintro e w8 ⟨rfl, b8⟩
  refine hK.out _ _ (St6.below ‹_› b8) (fun hHeld1 => ?_)
  clear hK K hHeld
  try simp only [Act.put, List.setIfInBounds_toArray, List.set_cons_zero, List.set_cons_succ]
  refine wpAnyH_ready (rs := [13]) (by kernel_rfl) (by simp) ?_
  refine AllReadyH.cons (o := { dst := some 119, op := Go.Op.call { callee := Go.Callee.value (Go.Operand.func 42), args := #[Go.Operand.tmp 113, Go.Operand.tmp 115, Go.Operand.tmp 116, Go.Operand.tmp 117, Go.Operand.tmp 118], argTypes := #[24, 3, 3, 22, 44] }, type := 4, pos := "law.go:95", after := #[{ on := 7, ground := Go.Ground.data }, { on := 9, ground := Go.Ground.data }, { on := 10, ground := Go.Ground.data }, { on := 11, ground := Go.Ground.data }, { on := 12, ground := Go.Ground.data }, { on := 6, ground := Go.Ground.chain }], guard := none }) rfl (fun K hK => ?_) AllReadyH.nil
  go_simp
  refine (D5.out _ ‹_›).mono ?_
  rintro e w9 ⟨rfl, b9⟩
  refine hK.out _ _ (St6.below ‹_› b9) (fun hHeld2 => ?_)
  clear hK K hHeld1
  try simp only [Act.put, List.setIfInBounds_toArray, List.set_cons_zero, List.set_cons_succ]
  refine wpAnyH_take (i := 14) (oi := { dst := some 120, op := Go.Op.binOp Go.BinOp.eql 4 (Go.Operand.tmp 112) (Go.Operand.tmp 119) 4, type := 4, pos := "law.go:95", after := #[{ on := 6, ground := Go.Ground.data }, { on := 13, ground := Go.Ground.data }], guard := none }) (v := ?_) rfl (by kernel_rfl) (by kernel_rfl) (by kernel_rfl) (fun _ _ _ h => h) (Or.inl ⟨by rfl, ?_⟩) hHeld2 ?_
  rotate_left 1
  · (intro wq hSq; (try dsimp only at hSq); go_simp; first | done | with_reducible rfl)
  try simp only [Act.put, List.setIfInBounds_toArray, List.set_cons_zero, List.set_cons_succ]
  refine wpAnyH_take (i := 15) (oi := { dst := some 12, op := Go.Op.assign (Go.Operand.tmp 120), type := 4, pos := "law.go:95", after := #[{ on := 14, ground := Go.Ground.data }, { on := 13, ground := Go.Ground.chain }, { on := 0, ground := Go.Ground.phase }, { on := 1, ground := Go.Ground.phase }, { on := 2, ground := Go.Ground.phase }, { on := 3, ground := Go.Ground.phase }, { on := 4, ground := Go.Ground.phase }, { on := 5, ground := Go.Ground.phase }, { on := 6, ground := Go.Ground.phase }, { on := 7, ground := Go.Ground.phase }, { on := 8, ground := Go.Ground.phase }, { on := 9, ground := Go.Ground.phase }, { on := 10, ground := Go.Ground.phase }, { on := 11, ground := Go.Ground.phase }, { on := 12, ground := Go.Ground.phase }, { on := 13, ground := Go.Ground.phase }, { on := 14, ground := Go.Ground.phase }], guard := none }) (v := ?_) rfl (by kernel_rfl) (by kernel_rfl) (by kernel_rfl) (fun _ _ _ h => h) (Or.inl ⟨by rfl, ?_⟩) hHeld2 ?_
  rotate_left 1
  · (intro wq hSq; (try dsimp only at hSq); go_simp; first | done | with_reducible rfl)
  try simp only [Act.put, List.setIfInBounds_toArray, List.set_cons_zero, List.set_cons_succ]
  refine wpAnyH_done (by kernel_rfl) ?_ _
  refine NoPanic.normal ?_
  go_wp2
  go_ret
  exact ⟨by simp, hHeld2.bel⟩
end Go.Proofs.YtffhjjgkoapioaaDoor
