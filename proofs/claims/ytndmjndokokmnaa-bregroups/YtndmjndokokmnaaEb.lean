import Derived.Test.YtndmjndokokmnaaEa
namespace Go.Proofs.Ytndmjndokokmnaa
set_option linter.unusedSimpArgs false
set_option linter.unusedVariables false
open Go.RowKit
open Go.Deep
theorem storeG55 {ops : Array Oper} {rest : List Oper} {o : Oper} {a : Act} {w : World} {Q : Exit → Act → World → Prop} (hgd : o.guard = none) (x y : Operand) (ho : o.op = .store 55 x y) (g : Nat) (hg : w.heap.size = g) (hx : a.eval x = .pointer (some ⟨g, 0, none⟩)) (hd : Hd) (av : Option Addr) (n cp : Nat) (hy : a.eval y = vN hd (.slice av n cp))
    (h : wpList Try.prog ops Q rest (a.put o.dst undef) (w.alloc (.cells (cN hd (.slice av n cp)).toArray 55))) : wpList Try.prog ops Q (o :: rest) a (w.alloc (.cells #[.int .i64 0, .int .u8 0, .int .u64 0, .int .u64 0, .int .u64 0, .int .u64 0, .int .i64 0, .int .i64 0, .int .i64 0, .slice none 0 0] 55)) := by
  subst hg
  exact storeN55 hgd x y ho hx hd av n cp hy h
theorem sameL_len : ∀ (l m : List T), sameL l m = true → l.length = m.length := fun l m h => by rw [(sameL_iff l m).1 h]
theorem sameL_step (l m : List T) (j : Nat) (t t' : T) (h1 : l[j]? = some t) (h2 : m[j]? = some t') : sameL (l.drop j) (m.drop j) = (sameT t t' && sameL (l.drop (j + 1)) (m.drop (j + 1))) := by
  have a1 := (List.getElem?_eq_some_iff.1 h1).1
  have a2 := (List.getElem?_eq_some_iff.1 h2).1
  rw [List.drop_eq_getElem_cons a1, List.drop_eq_getElem_cons a2, sameL_cons]
  rw [List.getElem?_eq_getElem a1] at h1
  rw [List.getElem?_eq_getElem a2] at h2
  injection h1 with h1
  injection h2 with h2
  rw [h1, h2]
set_option maxHeartbeats 2000000 in
set_option maxRecDepth 100000 in
theorem eqfunc_any (l m : List T) (ih : ∀ t ∈ l, ∀ (t' : T) (w : World) (u v : Value), SV AnyB w u t.kids → SV AnyB w v t'.kids → Calls Try.prog 50 #[vN t.hd u, vN t'.hd v] w fun e w' => e = .returned (.bool (sameT t t')) ∧ Below w.heap.size w w')
    (w : World) (u v : Value) (hu : SV AnyB w u l) (hv : SV AnyB w v m) : Calls Try.prog 72 #[u, v, .func (Fn.func 50) #[] #[]] w fun e w' => e = .returned (.bool (sameL l m)) ∧ Below w.heap.size w w' := by
  obtain ⟨av, cp, b, o, rfl, h1, h2, h3, h4⟩ := hu
  obtain ⟨bv, cq, b2, o2, rfl, k1, k2, k3, k4⟩ := hv
  by_cases hlen : l.length = m.length
  · obtain ⟨n, hn⟩ : ∃ n, n = l.length := ⟨_, rfl⟩
    have HN : Hid (n = l.length) := hn
    have HM : Hid (n = m.length) := by unfold Hid; omega
    have HL : Hid (LAt AnyB w b o l) := h4
    have HL2 : Hid (LAt AnyB w b2 o2 m) := k4
    have HA : Hid (0 < n → av = some ⟨b, o, none⟩) := by rw [hn]; exact h3
    have HA2 : Hid (0 < n → bv = some ⟨b2, o2, none⟩) := by rw [HM.out]; exact k3
    have IH : Hid (∀ t ∈ l, ∀ (t' : T) (w : World) (u v : Value), SV AnyB w u t.kids → SV AnyB w v t'.kids → Calls Try.prog 50 #[vN t.hd u, vN t'.hd v] w fun e w' => e = .returned (.bool (sameT t t')) ∧ Below w.heap.size w w') := ih
    rw [← hn] at h1 ⊢
    rw [show m.length = n from by omega] at k1 ⊢
    obtain ⟨R, hR⟩ : ∃ R, R = sameL l m := ⟨_, rfl⟩
    have HR0 : Hid (sameL l m = R) := hR.symm
    rw [← hR]
    clear hn h3 h4 k3 k4 ih hlen hR
    go_enter Try.func72, Try.ntmps72
    go_wp2
    go_loopw [17] (fun i wr => ∃ (j : Nat), j ≤ n ∧ i = .int .i64 j ∧ Hid (sameL (l.drop j) (m.drop j) = R) ∧ Below w.heap.size w wr) (fun i _ => n - (intOf i).toNat)
    case atStart => exact ⟨0, by omega, rfl, HR0.out, Below.refl _ _⟩
    case round =>
      obtain ⟨j, hj, rfl, HF, bw0⟩ := hrel
      have BW : Hid (Below w.heap.size w wr) := bw0
      clear bw0
      by_cases hlt : j < n
      · obtain rfl := HA.out (by omega)
        obtain rfl := HA2.out (by omega)
        obtain ⟨t, ht⟩ : ∃ t, l[j]? = some t := ⟨l[j]'(by rw [← HN.out]; exact hlt), List.getElem?_eq_getElem (by rw [← HN.out]; exact hlt)⟩
        obtain ⟨t2, ht2⟩ : ∃ t, m[j]? = some t := ⟨m[j]'(by rw [← HM.out]; exact hlt), List.getElem?_eq_getElem (by rw [← HM.out]; exact hlt)⟩
        have hmem := List.mem_of_getElem? ht
        have hat := HL.out.get ht
        have hat2 := HL2.out.get ht2
        have hIH := IH.out t hmem t2
        have hst := sameL_step l m j t t2 ht ht2
        rw [HF.out] at hst
        obtain ⟨h', l', rfl⟩ := t.out
        obtain ⟨g', m', rfl⟩ := t2.out
        rw [T.hd_mk, T.kids_mk, T.hd_mk, T.kids_mk] at hIH
        obtain ⟨u', r1, _, r3, r4⟩ := hat.out
        obtain ⟨v', s1, _, s3, s4⟩ := hat2.out
        have HR : Hid (wr.rangeAt b (o + j * 10) (cN h' u')) := range_block r1 (BW.out.block b r3)
        have HS : Hid ((wr.alloc (.cells (cN h' u').toArray 55)).rangeAt b2 (o2 + j * 10) (cN g' v')) := range_block s1 (by rw [Below.heap_alloc _ _ _ (Nat.lt_of_lt_of_le s3 BW.out.size), BW.out.block b2 s3])
        obtain ⟨av', cp', b', o', hu', _⟩ := id r4
        obtain ⟨bv', cq', b2', o2', hv', _⟩ := id s4
        have hz1 : (wr.alloc (.cells (cN h' u').toArray 55)).heap.size = wr.heap.size + 1 := by simp
        have HX : Hid (((wr.alloc (.cells (cN h' u').toArray 55)).alloc (.cells (cN g' v').toArray 55)).rangeAt wr.heap.size 0 (cN h' u')) := range_block (BoxN.new 55 wr h' u').range (Below.heap_alloc _ _ _ (by simp))
        have HY : Hid (((wr.alloc (.cells (cN h' u').toArray 55)).alloc (.cells (cN g' v').toArray 55)).rangeAt (wr.heap.size + 1) 0 (cN g' v')) := by
          have := (BoxN.new 55 (wr.alloc (.cells (cN h' u').toArray 55)) g' v').range; rw [hz1] at this; exact this
        have HB : Hid (Below w.heap.size w ((wr.alloc (.cells (cN h' u').toArray 55)).alloc (.cells (cN g' v').toArray 55))) := (BW.out.alloc BW.out.size _).alloc (by rw [hz1]; have := BW.out.size; omega) _
        have CALL : Hid (∀ W, Below w.heap.size w W → Calls Try.prog 50 #[vN h' u', vN g' v'] W fun e w' => e = .returned (.bool (sameT (.mk h' l') (.mk g' m'))) ∧ Below w.heap.size w w') := fun W hW =>
          (hIH W u' v' (r4.below hW) (s4.below hW)).mono fun e w' ⟨q1, q2⟩ => ⟨q1, hW.trans (q2.mono hW.size)⟩
        subst hu' hv'
        have i1 : (j : Int) < (n : Int) := by omega
        have i0 : (0 : Int) ≤ (j : Int) := by omega
        have HLT : Hid (j < n) := hlt
        cases hB : sameT (.mk h' l') (.mk g' m') with
        | false =>
          rw [hB] at hst CALL
          have HE : Hid (false = R) := by rw [hst]; rfl
          clear hmem hat hat2 hIH r1 r3 r4 s1 s3 s4 ht ht2 hlt hst hB hz1
          go_wp2_with (first | (refine loadN55 rfl _ rfl b (o + j * 10) rfl h' _ HR.out ?_) | (refine loadN55 rfl _ rfl b2 (o2 + j * 10) rfl g' _ HS.out ?_) | (refine storeG55 rfl _ _ rfl wr.heap.size rfl rfl h' av' l'.length cp' rfl ?_) | (refine storeG55 rfl _ _ rfl (wr.heap.size + 1) (by simp) rfl g' bv' m'.length cq' rfl ?_) | (refine loadN55 rfl _ rfl wr.heap.size 0 rfl h' _ HX.out ?_) | (refine loadN55 rfl _ rfl (wr.heap.size + 1) 0 rfl g' _ HY.out ?_) | (go_at_call 50; refine (CALL.out _ HB.out).mono ?_; rintro e w6 ⟨rfl, b6⟩))
          go_ret
          exact ⟨ret_bool HE.out, by assumption⟩
        | true =>
          rw [hB] at hst CALL
          have HF2 : Hid (sameL (l.drop (j + 1)) (m.drop (j + 1)) = R) := by rw [hst]; rfl
          clear hmem hat hat2 hIH r1 r3 r4 s1 s3 s4 ht ht2 hlt hst hB hz1 HF
          go_wp2_with (first | (refine loadN55 rfl _ rfl b (o + j * 10) rfl h' _ HR.out ?_) | (refine loadN55 rfl _ rfl b2 (o2 + j * 10) rfl g' _ HS.out ?_) | (refine storeG55 rfl _ _ rfl wr.heap.size rfl rfl h' av' l'.length cp' rfl ?_) | (refine storeG55 rfl _ _ rfl (wr.heap.size + 1) (by simp) rfl g' bv' m'.length cq' rfl ?_) | (refine loadN55 rfl _ rfl wr.heap.size 0 rfl h' _ HX.out ?_) | (refine loadN55 rfl _ rfl (wr.heap.size + 1) 0 rfl g' _ HY.out ?_) | (go_at_call 50; refine (CALL.out _ HB.out).mono ?_; rintro e w6 ⟨rfl, b6⟩))
          go_roundw
          case rel => exact ⟨j + 1, by have := HLT.out; omega, by go_num, HF2.out, by assumption⟩
          case measure => have := HLT.out; simp [intOf]; omega
      · have i1 : ¬ (j : Int) < (n : Int) := by omega
        have HE : Hid (true = R) := by
          rw [← HF.out, List.drop_eq_nil_of_le (by rw [← HN.out]; omega), List.drop_eq_nil_of_le (by rw [← HM.out]; omega)]; rfl
        clear hlt HF
        go_wp2
        go_ret
        exact ⟨ret_bool HE.out, BW.out⟩
  · have HE : Hid (sameL l m = false) := by
      unfold Hid; rw [Bool.eq_false_iff]; exact fun e => hlen (sameL_len l m e)
    have hne : ((l.length : Int) == (m.length : Int)) = false := by simp; omega
    have hne2 : ¬ (l.length : Int) = (m.length : Int) := by omega
    rw [HE.out]
    generalize l.length = n at *
    generalize m.length = n2 at *
    clear hlen h3 h4 k3 k4 ih
    go_enter Try.func72, Try.ntmps72
    go_wp2
    go_ret
    exact ⟨rfl, Below.refl _ _⟩
set_option maxHeartbeats 2000000 in
set_option maxRecDepth 100000 in
/-- The program's Same. -/
theorem same_any (t : T) : ∀ (t' : T) (w : World) (u v : Value), SV AnyB w u t.kids → SV AnyB w v t'.kids → Calls Try.prog 50 #[vN t.hd u, vN t'.hd v] w fun e w' => e = .returned (.bool (sameT t t')) ∧ Below w.heap.size w w' := by
  induction t using T.ind; rename_i h l ih; intro t' w u v hu hv
  obtain ⟨g, m, rfl⟩ := t'.out
  rw [T.kids_mk] at hu hv
  rw [T.hd_mk, T.hd_mk, sameT_mk]
  have hz1 : (w.alloc (.cells (cN h u).toArray 55)).heap.size = w.heap.size + 1 := by simp
  have HX : Hid (((w.alloc (.cells (cN h u).toArray 55)).alloc (.cells (cN g v).toArray 55)).rangeAt w.heap.size 0 (cN h u)) := range_block (BoxN.new 55 w h u).range (Below.heap_alloc _ _ _ (by simp))
  have HX2 : Hid (BoxN 55 ((w.alloc (.cells (cN h u).toArray 55)).alloc (.cells (cN g v).toArray 55)) w.heap.size h u) := (BoxN.new 55 w h u).blk (Below.heap_alloc _ _ _ (by simp))
  have HY2 : Hid (BoxN 55 ((w.alloc (.cells (cN h u).toArray 55)).alloc (.cells (cN g v).toArray 55)) (w.heap.size + 1) g v) := by
    have := BoxN.new 55 (w.alloc (.cells (cN h u).toArray 55)) g v; rw [hz1] at this; exact this
  have HY : Hid (((w.alloc (.cells (cN h u).toArray 55)).alloc (.cells (cN g v).toArray 55)).rangeAt (w.heap.size + 1) 0 (cN g v)) := HY2.out.range
  have HZ : Hid (((w.alloc (.cells (cN h u).toArray 55)).alloc (.cells (cN g v).toArray 55)).heap.size = w.heap.size + 1 + 1) := by unfold Hid; simp
  have HB : Hid (Below w.heap.size w ((w.alloc (.cells (cN h u).toArray 55)).alloc (.cells (cN g v).toArray 55))) := ((Below.refl _ _).alloc (Nat.le_refl _) _).alloc (by rw [hz1]; omega) _
  have AL : Hid (Calls Try.prog 71 #[vN h u, vN g v] ((w.alloc (.cells (cN h u).toArray 55)).alloc (.cells (cN g v).toArray 55)) fun e w' => e = .returned (.bool (sameH h g)) ∧ Below (w.heap.size + 1 + 1) ((w.alloc (.cells (cN h u).toArray 55)).alloc (.cells (cN g v).toArray 55)) w') := by
    have := alike_any h g u v ((w.alloc (.cells (cN h u).toArray 55)).alloc (.cells (cN g v).toArray 55)); rw [HZ.out] at this; exact this
  have EF : Hid (∀ W, Below w.heap.size w W → Calls Try.prog 72 #[u, v, .func (Fn.func 50) #[] #[]] W fun e w' => e = .returned (.bool (sameL l m)) ∧ Below W.heap.size W w') := fun W hW =>
    eqfunc_any l m (fun t ht => ih t ht) W u v (hu.below hW) (hv.below hW)
  obtain ⟨av, cp, _, _, rfl, _⟩ := hu
  obtain ⟨bv, cq, _, _, rfl, _⟩ := hv
  clear ih hz1
  generalize sameL l m = R at *
  cases hB : sameH h g with
  | false =>
    rw [hB] at AL
    obtain ⟨k, c, x0, x1, x2, x3, nn, lo, hi⟩ := h
    obtain ⟨k', c', y0, y1, y2, y3, n', lo', hi'⟩ := g
    clear hB
    change Calls Try.prog 50 #[.agg #[.int .i64 k, .int .u8 (c : Int), .int .u64 (x0 : Int), .int .u64 x1, .int .u64 x2, .int .u64 x3, .int .i64 nn, .int .i64 lo, .int .i64 hi, .slice av l.length cp], .agg #[.int .i64 k', .int .u8 (c' : Int), .int .u64 (y0 : Int), .int .u64 y1, .int .u64 y2, .int .u64 y3, .int .i64 n', .int .i64 lo', .int .i64 hi', .slice bv m.length cq]] w _
    go_enter Try.func50, Try.ntmps50
    go_wp2_with (first | (refine loadN55 rfl _ rfl w.heap.size 0 rfl ⟨k, c, x0, x1, x2, x3, nn, lo, hi⟩ _ HX.out ?_) | (refine loadN55 rfl _ rfl (w.heap.size + 1) 0 rfl ⟨k', c', y0, y1, y2, y3, n', lo', hi'⟩ _ HY.out ?_) | (go_at_call 71; refine AL.out.mono ?_; rintro e w1 ⟨rfl, b1⟩; have B1 : Hid (Below w.heap.size w w1) := HB.out.trans (b1.mono (by omega))))
    go_ret
    exact ⟨rfl, B1.out⟩
  | true =>
    rw [hB] at AL
    obtain ⟨k, c, x0, x1, x2, x3, nn, lo, hi⟩ := h
    obtain ⟨k', c', y0, y1, y2, y3, n', lo', hi'⟩ := g
    clear hB
    change Calls Try.prog 50 #[.agg #[.int .i64 k, .int .u8 (c : Int), .int .u64 (x0 : Int), .int .u64 x1, .int .u64 x2, .int .u64 x3, .int .i64 nn, .int .i64 lo, .int .i64 hi, .slice av l.length cp], .agg #[.int .i64 k', .int .u8 (c' : Int), .int .u64 (y0 : Int), .int .u64 y1, .int .u64 y2, .int .u64 y3, .int .i64 n', .int .i64 lo', .int .i64 hi', .slice bv m.length cq]] w _
    go_enter Try.func50, Try.ntmps50
    go_wp2_with (first | (refine loadN55 rfl _ rfl w.heap.size 0 rfl ⟨k, c, x0, x1, x2, x3, nn, lo, hi⟩ _ HX.out ?_) | (refine loadN55 rfl _ rfl (w.heap.size + 1) 0 rfl ⟨k', c', y0, y1, y2, y3, n', lo', hi'⟩ _ HY.out ?_) | (go_at_call 71; refine AL.out.mono ?_; rintro e w1 ⟨rfl, b1⟩; have B1 : Hid (Below w.heap.size w w1) := HB.out.trans (b1.mono (by omega)); have c0 := (HX2.out.below b1 (by omega)).cell 9 _ rfl; have c1 := (HY2.out.below b1 (by omega)).cell 9 _ rfl; clear b1) | (go_at_call 72; refine (EF.out _ B1.out).mono ?_; rintro e w2 ⟨rfl, b2⟩))
    go_ret
    exact ⟨rfl, B1.out.trans (b2.mono B1.out.size)⟩
end Go.Proofs.Ytndmjndokokmnaa
