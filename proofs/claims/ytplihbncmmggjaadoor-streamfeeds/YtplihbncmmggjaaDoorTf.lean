import Derived.Test.YtplihbncmmggjaaDoorTe
namespace Go.Proofs.YtplihbncmmggjaaDoor
set_option linter.unusedSimpArgs false
set_option linter.unusedVariables false
open Go.RowKit
theorem str_add1 (bs : List Int) : strOfNums bs ++ (⟨#[1]⟩ : ByteArray) = strOfNums (bs ++ [1]) := by
  have h := ByteArray.mk_append_mk (bs.map fun n => UInt8.ofNat n.toNat) [1]
  unfold strOfNums
  rw [h]
  simp
theorem feedF_len : ∀ (n : Nat) (l : List Int), Bytes l → (feedF n l).2.2.length + (feedF n l).2.1 ≤ l.length ∧ Bytes (feedF n l).2.2
  | 0, l, hb => ⟨by show l.length + 0 ≤ l.length; omega, hb⟩
  | n + 1, l, hb => by
    unfold feedF
    by_cases h0 : l = []
    · rw [if_pos h0]; exact ⟨by simp, fun x hx => by cases hx⟩
    rw [if_neg h0]
    by_cases h4 : (decR l).2.2.2 = 4
    · rw [if_pos h4]; exact ⟨by show l.length + 0 ≤ l.length; omega, hb⟩
    rw [if_neg h4]
    have hl := List.length_pos_iff.2 h0
    by_cases hz : (decR l).2.2.2 = 0
    · rw [if_pos hz]
      have ih := feedF_len n (l.drop (decR l).2.2.1.toNat) (fun x hx => hb x (List.drop_subset _ _ hx))
      rw [List.length_drop] at ih
      exact ⟨Nat.le_trans ih.1 (by omega), ih.2⟩
    · rw [if_neg hz]
      have ih := feedF_len n (l.drop 1) (fun x hx => hb x (List.drop_subset _ _ hx))
      rw [List.length_drop] at ih
      refine ⟨?_, ih.2⟩
      show (feedF n (l.drop 1)).2.2.length + ((feedF n (l.drop 1)).2.1 + 1) ≤ l.length
      omega
theorem feedR_len (l : List Int) (hb : Bytes l) : (feedR l).2.2.length + (feedR l).2.1 ≤ l.length ∧ Bytes (feedR l).2.2 := feedF_len _ l hb
theorem own_part0 {w : World} {base : Nat} {v : Value} {a b : List Int} (h : OwnB w base v (a ++ b)) (hb : 0 < b.length) : ∃ g cp, v = .slice (some ⟨g, 0, none⟩) (a.length + b.length) cp ∧ base ≤ g ∧ g < w.heap.size ∧ a.length + b.length ≤ cp ∧ (∀ w', w'.heap[g]? = w.heap[g]? → w.heap.size ≤ w'.heap.size → PartAt w' (.slice (some ⟨g, 0, none⟩) a.length cp) a ∧ PartAt w' (.slice (some ⟨g, 0, none⟩) (a.length + b.length) cp) (a ++ b)) ∧ ∃ C, w.heap[g]? = some (.cells C 5) := by
  obtain ⟨h1, h2⟩ := h
  rcases h2 with ⟨_, hz⟩ | ⟨g, cap, cur, q1, q2, q3, q4, q5, q6, q7⟩
  · rw [List.length_append] at hz; omega
  · rw [List.length_append] at q1 q4 q7
    have hlt := (Array.getElem?_eq_some_iff.1 q3).1
    unfold maxLen at q5
    refine ⟨g, cap, q1, q2, hlt, q4, fun w' hk hs => ?_, cur, q3⟩
    have hr : w'.rangeAt g 0 (vB (a ++ b)).toList := fun j x hx => by
      rw [Nat.zero_add, World.cell?_of_block (w := w) hk]
      rw [← q7] at hx
      have hj : cur.toList[j]? = some x := by
        rw [List.getElem?_take] at hx
        by_cases hj : j < (a.length + b.length) * 1
        · rw [if_pos hj] at hx; exact hx
        · rw [if_neg hj] at hx; cases hx
      exact row_cell q3 (by simpa using hj)
    refine ⟨⟨some ⟨g, 0, none⟩, g, 0, cap, rfl, by omega, by omega, fun _ => rfl, fun j x hx => ?_, by omega, fun h => by cases h⟩, ⟨some ⟨g, 0, none⟩, g, 0, cap, by rw [List.length_append], by rw [List.length_append]; omega, by omega, fun _ => rfl, hr, by omega, fun h => by cases h⟩⟩
    refine hr j x ?_
    simp only [vB, List.getElem?_map] at hx ⊢
    have hj : j < a.length := by
      rcases Nat.lt_or_ge j a.length with q | q
      · exact q
      · rw [List.getElem?_eq_none q] at hx; cases hx
    rw [List.getElem?_append_left hj]; exact hx
set_option maxHeartbeats 1000000 in
set_option maxRecDepth 100000 in
theorem snil_long (av : Option Addr) (n cp : Nat) (hn : 3000 < n) (w : World) (hL : Laid w) : Calls Tryd.prog 17 #[.slice av n cp] w fun e w' => e = .returned (.bool true) ∧ Below w.heap.size w w' := by
  have AW : Hid (∀ W, Below w.heap.size w W → Calls Tryd.prog 46 #[] W fun e w' => e = .returned (.bool true) ∧ Below w.heap.size w w') := fun W q => (awake6_any W (hL.below q hL.two)).mono fun e w' ⟨r1, r2⟩ => ⟨r1, q.trans (r2.mono q.size)⟩
  have d1 : decide ((3000 : Int) < (n : Int)) = true := decide_eq_true (by omega)
  clear hn hL
  go_enter Tryd.func17, Tryd.ntmps17
  go_wp2_with fail
  refine (AW.out _ (Below.refl _ _)).mono ?_
  rintro e w2 ⟨rfl, b2⟩
  go_wp2_with fail
  refine (AW.out _ b2).mono ?_
  rintro e w3 ⟨rfl, b3⟩
  go_wp2
  go_ret
  exact ⟨rfl, b3⟩
set_option maxHeartbeats 4000000 in
set_option maxRecDepth 100000 in
theorem snil_do (av : Option Addr) (n cp : Nat) (b : List Int) (hbn : b.length = n) (hb : Bytes b) (hn : n ≤ 3000) (w : World) (hL : Laid w) (hp : PartAt w (.slice av n cp) b) : Calls Tryd.prog 17 #[.slice av n cp] w fun e w' => e = .returned (.bool true) ∧ Below w.heap.size w w' := by
  have h2 := hL.two
  have AW : Hid (Calls Tryd.prog 46 #[] w fun e w' => e = .returned (.bool true) ∧ Below w.heap.size w w') := awake6_any w hL
  have LW : Hid (Laid w) := hL
  have H2 : Hid (2 ≤ w.heap.size) := h2
  have HB : Hid (Bytes b ∧ b.length = n) := ⟨hb, hbn⟩
  have HP : Hid (PartAt w (.slice av n cp) b) := hp
  have d1 : decide ((3000 : Int) < (n : Int)) = false := decide_eq_false (by omega)
  clear hL h2 hb hbn hp
  go_enter Tryd.func17, Tryd.ntmps17
  go_wp2_with fail
  refine AW.out.mono ?_
  rintro e w2 ⟨rfl, b2⟩
  clear AW
  -- the box of t, and an empty row
  have b3 : Below w.heap.size w (w2.alloc (.cells #[.string ⟨#[]⟩, .int .i64 0] 78)) := b2.alloc b2.size _
  have b4 : Below w.heap.size w ((w2.alloc (.cells #[.string ⟨#[]⟩, .int .i64 0] 78)).alloc (.cells #[] 5)) := b3.alloc b3.size _
  have OE : Hid (OwnB ((w2.alloc (.cells #[.string ⟨#[]⟩, .int .i64 0] 78)).alloc (.cells #[] 5)) (w2.heap.size + 1) (.slice (some ⟨w2.heap.size + 1, 0, none⟩) 0 0) []) := by
    refine ⟨rfl, Or.inr ⟨w2.heap.size + 1, 0, #[], rfl, Nat.le_refl _, ?_, Nat.le_refl _, by unfold maxLen; omega, rfl, rfl⟩⟩
    have := heap_alloc_new (w2.alloc (.cells #[.string ⟨#[]⟩, .int .i64 0] 78)) (.cells #[] 5)
    rw [show (w2.alloc (.cells #[.string ⟨#[]⟩, .int .i64 0] 78)).heap.size = w2.heap.size + 1 by simp] at this
    exact this
  have SB : Hid (SBox ((w2.alloc (.cells #[.string ⟨#[]⟩, .int .i64 0] 78)).alloc (.cells #[] 5)) w2.heap.size [] 0) := by
    unfold Hid SBox; rw [Below.heap_alloc _ _ _ (by simp)]; exact heap_alloc_new _ _
  have B2 : Hid (Below w.heap.size w w2) := b2
  have B4 : Hid (Below w.heap.size w ((w2.alloc (.cells #[.string ⟨#[]⟩, .int .i64 0] 78)).alloc (.cells #[] 5))) := b4
  have P4 : Hid (PartAt ((w2.alloc (.cells #[.string ⟨#[]⟩, .int .i64 0] 78)).alloc (.cells #[] 5)) (.slice av n cp) b) := HP.out.below b4
  have HN : Hid (([] : List Int).length + b.length ≤ 140737488355328) := by unfold Hid; rw [HB.out.2]; simp; omega
  have HS : Hid (w2.heap.size + 1 ≤ ((w2.alloc (.cells #[.string ⟨#[]⟩, .int .i64 0] 78)).alloc (.cells #[] 5)).heap.size) := by unfold Hid; simp
  have hsz := b2.size
  clear b2 b3 b4
  have HN2 : Hid (b.length + ([1] : List Int).length ≤ 140737488355328) := by unfold Hid; rw [HB.out.2]; simp; omega
  go_wp2_with (first | (at_builtin; refine appendB rfl _ _ rfl (w2.heap.size + 1) _ [] rfl OE.out _ b rfl P4.out HN.out HS.out ?_; intro v5 w5 o5 g50 d5; have g5 : ((w2.alloc (.cells #[.string ⟨#[]⟩, .int .i64 0] 78)).alloc (.cells #[] 5)).grownBy w5 (some (w2.heap.size + 1)) := g50; have O5 : Hid (OwnB w5 (w2.heap.size + 1) v5 b) := o5; have X5 : Hid (SBox w5 w2.heap.size [] 0) := (by unfold Hid SBox; rw [g5.block _ SB.out.lt (fun e => by injection e with e; omega)]; exact SB.out); have B5 : Hid (Below w.heap.size w w5) := B4.out.grown g5 B4.out.size (fun k hk => by injection hk; omega); have O6 : Hid (OwnB (w5.alloc (.cells #[.int .u8 1] 5)) (w2.heap.size + 1) v5 b) := own_belowR O5.out ((Below.refl _ _).alloc (Nat.le_refl _) _); have P6 : Hid (PartAt (w5.alloc (.cells #[.int .u8 1] 5)) (.slice (some ⟨w5.heap.size, 0, none⟩) 1 1) [1]) := part_new w5 [1] (by simp); have S6 : Hid (w2.heap.size + 1 ≤ (w5.alloc (.cells #[.int .u8 1] 5)).heap.size) := (by have := X5.out.lt; unfold Hid; simp; omega); clear o5 g5 g50 d5 OE P4 HN HS) | (at_builtin; refine appendB rfl _ _ rfl (w2.heap.size + 1) v5 b rfl O6.out _ [1] rfl P6.out HN2.out S6.out ?_; intro v7 w7 o7 g7 d7; have X6 : SBox (w5.alloc (.cells #[.int .u8 1] 5)) w2.heap.size [] 0 := X5.out.below ((Below.refl _ _).alloc (Nat.le_refl _) _); have X7 : Hid (SBox w7 w2.heap.size [] 0) := (by unfold Hid SBox; rw [g7.block _ X6.lt (fun e => by have := OwnB.row O6.out _ e.symm; omega)]; exact X6); have B6 : Below w.heap.size w (w5.alloc (.cells #[.int .u8 1] 5)) := B5.out.alloc B5.out.size _; have B7 : Hid (Below w.heap.size w w7) := B6.grown g7 B6.size (fun k hk => by have := OwnB.row O6.out _ hk; omega); have O7 : Hid (OwnB w7 (w2.heap.size + 1) v7 (b ++ [1])) := o7; obtain ⟨gc, cc, hv0, r1, r2, r3, r4, C, r5⟩ := own_part0 o7 (by simp); have hv : v7 = .slice (some ⟨gc, 0, none⟩) (n + 1) cc := (by rw [hv0, HB.out.2]; rfl); subst hv; have hcc : n + 1 ≤ cc := (by rw [← HB.out.2]; exact r3); have hcc1 : n ≤ cc := (by omega); have hcc2 : (n : Int) ≤ (cc : Int) := (by omega); have R1 : Hid (w2.heap.size + 1 ≤ gc ∧ gc < w7.heap.size) := ⟨r1, r2⟩; have R4 : Hid (∀ w', w'.heap[gc]? = w7.heap[gc]? → w7.heap.size ≤ w'.heap.size → PartAt w' (.slice (some ⟨gc, 0, none⟩) n cc) b ∧ PartAt w' (.slice (some ⟨gc, 0, none⟩) (n + 1) cc) (b ++ [1])) := (fun w' a1 a2 => by have q := r4 w' a1 a2; rw [HB.out.2] at q; exact q); clear o7 g7 d7 hv0 r1 r2 r3 r4 r5 X6 B6 O5 X5 B5 O6 P6 S6 O7))
  have FD : Hid (Calls Tryd.prog 48 #[.pointer (some ⟨w2.heap.size, 0, none⟩), .slice (some ⟨gc, 0, none⟩) n cc] w7 fun e w' => ∃ u wl d, e = .returned u ∧ SBox w' w2.heap.size wl d ∧ wl.length ≤ 500000 ∧ Bytes wl ∧ (∃ D : Nat, d = (D : Int) ∧ D ≤ 1000000000) ∧ w7.grownBy w' (some w2.heap.size)) := by
    have h2 := H2.out
    have q := feed_any w2.heap.size [] b 0 (fun x hx => by cases hx) HB.out.1 (by simp) (by rw [HB.out.2]; omega) (by omega) _ w7 (LW.out.below B7.out h2) (by omega) X7.out (R4.out w7 rfl (Nat.le_refl _)).1
    have ql := feedR_len ([] ++ b) HB.out.1
    have hl : ([] ++ b : List Int).length = n := by simp; exact HB.out.2
    exact q.mono fun e w' ⟨u, us, r1, r2, r3, r4⟩ => ⟨u, _, _, r1, r3, by omega, ql.2, ⟨(feedR ([] ++ b)).2.1, by simp, by omega⟩, r4⟩
  refine FD.out.mono ?_
  rintro e w8 ⟨u8, wl, d, rfl, x8, l8, h8, ⟨D8, hd8, hD8⟩, g8⟩
  subst hd8
  have b8 : Below w.heap.size w w8 := B7.out.grown g8 B7.out.size (fun k hk => by injection hk; omega)
  have b9 : Below w.heap.size w (w8.alloc (Obj.cells #[.int .u8 122, .int .u8 122] 5 (2, 3))) := b8.alloc b8.size _
  have FE : Hid (Calls Tryd.prog 48 #[.pointer (some ⟨w2.heap.size, 0, none⟩), .slice (some ⟨w8.heap.size, 0, none⟩) 2 2] (w8.alloc (Obj.cells #[.int .u8 122, .int .u8 122] 5 (2, 3))) fun e w' => ∃ u, e = .returned u ∧ Below w.heap.size w w' ∧ w'.heap[gc]? = w7.heap[gc]? ∧ w7.heap.size ≤ w'.heap.size) := by
    have h2 := H2.out
    have k9 : Below w8.heap.size w8 (w8.alloc (Obj.cells #[.int .u8 122, .int .u8 122] 5 (2, 3))) := (Below.refl _ _).alloc (Nat.le_refl _) _
    have q := feed_any w2.heap.size wl [122, 122] D8 h8 (fun x hx => by simp at hx; omega) l8 (by simp) hD8 _ (w8.alloc (Obj.cells #[.int .u8 122, .int .u8 122] 5 (2, 3))) (LW.out.below b9 h2) (by omega) (x8.below k9) (part_mark w8 [122, 122] (2, 3) (by simp))
    have hr := R1.out
    refine q.mono fun e w' ⟨u, us, r1, r2, r3, r4⟩ => ⟨u, r1, b9.grown r4 b9.size (fun k hk => by injection hk; omega), ?_, ?_⟩
    · have hs := g8.size
      rw [r4.block gc (by simp; omega) (fun e => by injection e with e; omega), k9.block gc (by omega), g8.block gc hr.2 (fun e => by injection e with e; omega)]
    · have hs := g8.size
      have := r4.size
      simp at this
      omega
  have hkc : (convert 22 22 (.slice (some ⟨w8.heap.size, 0, none⟩) 2 2)).run Tryd.prog (w8.alloc (Obj.cells #[.int .u8 122, .int .u8 122] 5)) = .ok (.slice (some ⟨w8.heap.size, 0, none⟩) 2 2) (w8.alloc (Obj.cells #[.int .u8 122, .int .u8 122] 5 (2, 3))) := Lib.run_convert_bytes_const (P := Tryd.prog) w8 22 5 #[.int .u8 122, .int .u8 122] 2 2 Tryd.underlying22 Tryd.underlying5
  clear FD x8 l8 h8 hD8 g8 b8 b9 X7 B7 SB B4
  go_wp2_with fail
  refine FE.out.mono ?_
  rintro e w10 ⟨u10, rfl, b10, k10, s10⟩
  have c1 : (convert 22 9 (.slice (some ⟨gc, 0, none⟩) (n + 1) cc)).run Tryd.prog w10 = .ok (.string (strOfNums (b ++ [1]))) w10 := run_conv (R4.out w10 k10 s10).2
  have c2 : (convert 22 9 (.slice av n cp)).run Tryd.prog w10 = .ok (.string (strOfNums b)) w10 := run_conv (HP.out.below b10)
  have c3 := str_add1 b
  have c4 : ¬ 9223372036854775807 < (strOfNums b).size + 1 := by rw [strOfNums_size, HB.out.2]; omega
  have B10 : Hid (Below w.heap.size w w10) := b10
  have FN : Hid (Calls Tryd.prog 48 #[.pointer none, .slice av n cp] w10 fun e w' => e = .returned (.slice none 0 0) ∧ w10 = w') := feed_nil _ w10
  have DN : Hid (Calls Tryd.prog 51 #[.pointer none] w10 fun e w' => e = .returned (.int .i64 0) ∧ w10 = w') := dropped_nil w10
  have WN : Hid (Calls Tryd.prog 52 #[.pointer none] w10 fun e w' => e = .returned (.int .i64 0) ∧ w10 = w') := waits_nil w10
  clear FE hkc b10 k10 s10 R4 R1
  generalize strOfNums (b ++ [1]) = S1 at *
  generalize strOfNums b = S2 at *
  go_wp2_with fail
  refine FN.out.mono ?_
  rintro e w11 ⟨rfl, rfl⟩
  go_wp2_with fail
  refine DN.out.mono ?_
  rintro e w11 ⟨rfl, rfl⟩
  go_wp2_with fail
  refine WN.out.mono ?_
  rintro e w11 ⟨rfl, rfl⟩
  go_wp2
  go_ret
  exact ⟨by first | rfl | simp, B10.out⟩
theorem streamNil_walk (v : Value) (b : List Int) (w : World) (hL : Laid w) (hb : Bytes b) (hp : PartAt w v b) : Calls Tryd.prog 17 #[v] w fun e w' => e = .returned (.bool true) ∧ Below w.heap.size w w' := by
  obtain ⟨av, bb, oo, cp, hv, _⟩ := id hp
  subst hv
  by_cases hn : 3000 < b.length
  · exact snil_long av b.length cp hn w hL
  · exact snil_do av b.length cp b rfl hb (by omega) w hL hp
end Go.Proofs.YtplihbncmmggjaaDoor
