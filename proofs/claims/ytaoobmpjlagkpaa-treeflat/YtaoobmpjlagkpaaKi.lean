import Derived.Test.YtaoobmpjlagkpaaKh
import Derived.Test.YtaoobmpjlagkpaaEb
namespace Go.Proofs.Ytaoobmpjlagkpaa
set_option linter.unusedSimpArgs false
set_option linter.unusedVariables false
open Go.RowKit
open Go.Deep
theorem flatK_id (k : Int) : ∀ l : List T, (∀ t ∈ l, t.hd.k ≠ k) → flatK k l = l
  | [], _ => rfl
  | t :: r, h => by
    simp only [flatK]
    rw [if_neg (h t (by simp)), flatK_id k r fun x hx => h x (by simp [hx])]; rfl
theorem flat_one (l : List T) (h : ∀ t ∈ l, t.hd.k ≠ 8) : flatK 8 [joinT l] = l := by
  have e : joinT l = onlyT 8 l := by unfold joinT; rw [flatK_id 8 l h]
  rw [e]
  by_cases h1 : l.length = 1
  · obtain ⟨t, rfl⟩ := List.length_eq_one_iff.1 h1
    rw [onlyT_one]; exact flatK_id 8 [t] h
  · rw [onlyT_more 8 l h1]
    simp only [flatK]
    rw [if_pos (by rw [T.hd_mk]; rfl), T.kids_mk, List.append_nil]
/-- Join of two joins is the join of all. -/
theorem join_two (a b : List T) (ha : ∀ t ∈ a, t.hd.k ≠ 8) (hb : ∀ t ∈ b, t.hd.k ≠ 8) : joinT [joinT a, joinT b] = joinT (a ++ b) := by
  have e : flatK 8 [joinT a, joinT b] = a ++ b := by
    rw [show [joinT a, joinT b] = [joinT a] ++ [joinT b] from rfl, flatK_append, flat_one a ha, flat_one b hb]
  have e2 : flatK 8 (a ++ b) = a ++ b := flatK_id 8 _ fun t ht => by
    rcases List.mem_append.1 ht with q | q
    · exact ha t q
    · exact hb t q
  unfold joinT
  rw [show flatK 8 [onlyT 8 (flatK 8 a), onlyT 8 (flatK 8 b)] = a ++ b from e, e2]
set_option maxRecDepth 100000 in
theorem buildR55_2 (h g : Hd) (u v : Value) (w : World) : (Instr.buildSlice 53 2 #[(0, vN h u), (1, vN g v)]).run Try.prog w = .ok (.slice (some ⟨w.heap.size, 0, none⟩) 2 2) (w.alloc (.cells (cN h u ++ cN g v).toArray 55)) := by
  kernel_rfl
theorem step_build2 {ops : Array Oper} {o : Oper} {a : Act} {w : World} {K : Act → World → Prop} {Q : Exit → Act → World → Prop} {Z : Prop} (hgd : o.guard = none) (x y : Operand) (ho : o.op = .buildSlice 53 2 #[(0, x), (1, y)]) (h g : Hd) (u v : Value) (hx : a.eval x = vN h u) (hy : a.eval y = vN g v)
    (hK : K (a.put o.dst (.slice (some ⟨w.heap.size, 0, none⟩) 2 2)) (w.alloc (.cells (cN h u ++ cN g v).toArray 55))) : if Region.wanted o (yielded ops a.tmps) = true then Oper.wp Try.prog o a w K Q else Z := by
  have hw : Region.wanted o (yielded ops a.tmps) = true := by simp [Region.wanted, hgd]
  rw [if_pos hw]
  have hrun := buildR55_2 h g u v w
  unfold Oper.wp execOp
  simp only [ho]
  rw [show (#[(0, x), (1, y)].map fun (i, x) => (i, a.eval x)) = #[(0, vN h u), (1, vN g v)] by simp [hx, hy]]
  simp only [Sem.run_bind, hrun, Result.andThen_ok]
  exact hK
theorem sv_pair (t s : T) (w : World) (u v : Value) (hu : SV AnyB w u t.kids) (hv : SV AnyB w v s.kids) : SV AnyB (w.alloc (.cells (cN t.hd u ++ cN s.hd v).toArray 55)) (.slice (some ⟨w.heap.size, 0, none⟩) 2 2) [t, s] := by
  have b : Below w.heap.size w (w.alloc (.cells (cN t.hd u ++ cN s.hd v).toArray 55)) := (Below.refl _ _).alloc (Nat.le_refl _) _
  have hg := heap_alloc_last w (.cells (cN t.hd u ++ cN s.hd v).toArray 55)
  have lt : w.heap.size < (w.alloc (.cells (cN t.hd u ++ cN s.hd v).toArray 55)).heap.size := by simp
  have su := hu.below b
  have sv := hv.below b
  refine ⟨some ⟨w.heap.size, 0, none⟩, 2, w.heap.size, 0, rfl, Nat.le_refl _, by omega, fun _ => rfl, ?_⟩
  obtain ⟨h1, l1, rfl⟩ := t.out
  obtain ⟨h2, l2, rfl⟩ := s.out
  rw [T.kids_mk] at su sv
  rw [LAt_cons, LAt_cons]
  refine ⟨NAt.mk (u := u) (fun j x hx => ?_) trivial lt su, NAt.mk (u := v) (fun j x hx => ?_) trivial lt sv, trivial⟩
  · rw [cell_of_row _ _ _ _ 55 (0, 0) hg, Nat.zero_add]
    have hj := (List.getElem?_eq_some_iff.1 hx).1
    rw [T.hd_mk, T.hd_mk, List.getElem?_toArray, List.getElem?_append_left hj]; exact hx
  · rw [cell_of_row _ _ _ _ 55 (0, 0) hg]
    rw [T.hd_mk, T.hd_mk, List.getElem?_toArray, List.getElem?_append_right (by rw [cN_len]; omega), cN_len, show 0 + 10 + j - 10 = j by omega]; exact hx
theorem own_empty (w : World) : OwnT 55 (fun b => b < w.heap.size) w.heap.size (w.alloc (.cells #[] 55)) (.slice (some ⟨w.heap.size, 0, none⟩) 0 0) [] :=
  ⟨[], rfl, by have q := World.ownsRow_lit (base := w.heap.size) (e := 55) (size := 10) w #[] 0 (Nat.le_refl _) (by unfold maxLen; omega) rfl; exact q, fun k t u h => by simp at h⟩
/-- TreeFlat's memory at its end. -/
structure FlW (w W : World) (x y : Value) (la lb : List T) (h9 : Hd) (l9 : List T) (u9 : Value) (g : Nat) : Prop where
  bx : BoxN 55 W g h9 u9
  s9 : SV AnyB W u9 l9
  sx : SV AnyB W x la
  sy : SV AnyB W y lb
  bel : Below w.heap.size w W
theorem FlW.below {w W W' : World} {x y : Value} {la lb : List T} {h9 : Hd} {l9 : List T} {u9 : Value} {g : Nat} (k : FlW w W x y la lb h9 l9 u9 g) (b : Below W.heap.size W W') : FlW w W' x y la lb h9 l9 u9 g :=
  ⟨k.bx.below b k.bx.lt, k.s9.below b, k.sx.below b, k.sy.below b, k.bel.trans (b.mono k.bel.size)⟩
/-- Two rows, one behind the other, behind an empty one. -/
theorem two_rows {w W w7 : World} {x y v7 : Value} {la lb : List T} (bw : Below w.heap.size w W) (sx : SV AnyB W x la) (sy : SV AnyB W y lb) (O7 : OwnT 55 (fun b => b < W.heap.size) W.heap.size w7 v7 ([] ++ la)) (g7 : (W.alloc (.cells #[] 55)).grownBy w7 (Value.slice (some ⟨W.heap.size, 0, none⟩) 0 0).ownBlock) :
    Below W.heap.size W w7 ∧ SV (fun b => b < W.heap.size ∧ some b ≠ v7.ownBlock) w7 y lb ∧ SV AnyB w7 x la := by
  have b0 : Below W.heap.size W (W.alloc (.cells #[] 55)) := (Below.refl _ _).alloc (Nat.le_refl _) _
  have b7 : Below W.heap.size W w7 := b0.grown g7 b0.size (fun k hk => by have : some W.heap.size = some k := hk; injection this; omega)
  refine ⟨b7, ?_, sx.below b7⟩
  have q1 : SV (fun b => b < W.heap.size) W y lb := sy.weak fun b _ hb => hb
  exact (q1.below b7).weak fun b q _ => ⟨q, fun e => by have := (O7.low b e.symm).1; omega⟩
set_option maxHeartbeats 8000000 in
set_option maxRecDepth 100000 in
theorem treeFlat_walk (la lb : List T) (w : World) (a : Option Addr) (n0 c : Nat) (a2 : Option Addr) (m0 c2 : Nat) (hs : SV AnyB w (.slice a n0 c) la) (hs2 : SV AnyB w (.slice a2 m0 c2) lb) : Calls Try.prog 12 #[.slice a n0 c, .slice a2 m0 c2] w fun e w' => e = .returned (.bool true) ∧ Below w.heap.size w w' := by
  have AW : Hid (∀ W, Calls Try.prog 28 #[] W fun e w' => e = .returned (.bool true) ∧ Below W.heap.size W w') := fun W => awake_any W
  obtain ⟨av, cp, b, o, e0, h1, h2, h3, h4⟩ := hs
  injection e0 with ea en ec
  subst ea en ec
  obtain ⟨av2, cp2, bq, oq, e02, h12, h22, h32, h42⟩ := hs2
  injection e02 with ea2 en2 ec2
  subst ea2 en2 ec2
  obtain ⟨n, hn⟩ : ∃ n, n = la.length := ⟨_, rfl⟩
  obtain ⟨m, hm⟩ : ∃ m, m = lb.length := ⟨_, rfl⟩
  have HN_la : Hid (n = la.length) := hn
  have HL_la : Hid (LAt AnyB w b o la) := h4
  have HA_la : Hid (0 < n → a = some ⟨b, o, none⟩) := by rw [hn]; exact h3
  have HN_lb : Hid (m = lb.length) := hm
  have HLB : Hid (LAt AnyB w bq oq lb) := h42
  have HA_lb : Hid (0 < m → a2 = some ⟨bq, oq, none⟩) := by rw [hm]; exact h32
  rw [← hn] at h1 ⊢
  rw [← hm] at h12 ⊢
  clear hn hm h3 h4 h32 h42
  by_cases hn15 : 15 < n
  · have i1 : (15 : Int) < (n : Int) := by omega
    clear HN_la HL_la HA_la HN_lb HLB HA_lb hn15
    go_enter Try.func12, Try.ntmps12
    go_wp2_with (first | (go_at_call 28; refine (AW.out w).mono ?_; rintro e w1 ⟨rfl, b1⟩))
    all_goals (try (refine (AW.out _).mono ?_; rintro e w3 ⟨rfl, b3⟩))
    go_wp2_with fail
    all_goals (try (refine (AW.out _).mono ?_; rintro e w3 ⟨rfl, b3⟩))
    go_wp2
    go_ret
    exact ⟨rfl, b1.trans (b3.mono b1.size)⟩
  have i2 : ¬ (15 : Int) < (n : Int) := by omega
  by_cases hm15 : 15 < m
  · have i1 : (15 : Int) < (m : Int) := by omega
    clear HN_la HL_la HA_la HN_lb HLB HA_lb hn15 hm15
    go_enter Try.func12, Try.ntmps12
    go_wp2_with (first | (go_at_call 28; refine (AW.out w).mono ?_; rintro e w1 ⟨rfl, b1⟩))
    all_goals (try (refine (AW.out _).mono ?_; rintro e w3 ⟨rfl, b3⟩))
    go_wp2_with fail
    all_goals (try (refine (AW.out _).mono ?_; rintro e w3 ⟨rfl, b3⟩))
    go_wp2
    go_ret
    exact ⟨rfl, b1.trans (b3.mono b1.size)⟩
  have i3 : ¬ (15 : Int) < (m : Int) := by omega
  have hn6 : n ≤ 15 := by omega
  have hm6 : m ≤ 15 := by omega
  clear hn15 hm15
  go_enter Try.func12, Try.ntmps12
  have BR : Hid (Below w.heap.size w w) := Below.refl _ _
  go_wp2_with (first | (go_at_call 28; refine (AW.out w).mono ?_; rintro e w1 ⟨rfl, b1⟩; have RW0 : Hid (RowW 55 (fun b => w.heap.size ≤ b) w w1 (.slice none 0 0) []) := ⟨OwnT.nil _ _ _ _, b1⟩; clear b1))
  go_loopw [25, 5] (fun i v wr => ∃ (j : Nat) (va : Option Addr) (vl vc : Nat), j ≤ n ∧ i = .int .i64 j ∧ v = .slice va vl vc ∧ Hid (RowW 55 (fun b => w.heap.size ≤ b) w wr (.slice va vl vc) (la.take j)) ∧ Hid (∀ t ∈ la.take j, countT t < 400 ∧ t.hd.k ≠ 8)) (fun i _ _ => n - (intOf i).toNat)
  case atStart => exact ⟨0, none, 0, 0, by omega, rfl, rfl, RW0.out, fun t ht => by simp at ht⟩
  case round =>
    obtain ⟨j, va, vl, vc, hj, rfl, rfl, RW, FW⟩ := hrel
    by_cases hlt : j < n
    · obtain rfl := HA_la.out (by omega)
      obtain ⟨t, ht⟩ : ∃ t, la[j]? = some t := ⟨la[j]'(by rw [← HN_la.out]; exact hlt), List.getElem?_eq_getElem (by rw [← HN_la.out]; exact hlt)⟩
      have hat := HL_la.out.get ht
      have HTK := take_snocT la j t ht
      have HTL : Hid ((la.take j).length ≤ 1000000) := by unfold Hid; rw [List.length_take]; omega
      have hfc : fewT t = true → countT t < 400 := fun h => few_count h
      obtain ⟨h', l', rfl⟩ := t.out
      have HTK : Hid (la.take (j + 1) = la.take j ++ [T.mk h' l']) := HTK
      obtain ⟨u', r1, _, r3, r4⟩ := hat.out
      have HBL : Hid (b < wr.heap.size) := Nat.lt_of_lt_of_le r3 RW.out.bel.size
      have HR : Hid (wr.rangeAt b (o + j * 10) (cN h' u')) := range_block r1 (RW.out.bel.block b r3)
      have FA : Hid (Calls Try.prog 29 #[vN h' u'] wr fun e w' => e = .returned (.bool (fewT (.mk h' l'))) ∧ Below wr.heap.size wr w') := by
        have q := few_any (.mk h' l') wr u' (by rw [T.kids_mk]; exact r4.below RW.out.bel); rw [T.hd_mk] at q; exact q
      obtain ⟨av', cp', b', o', hu', _⟩ := id r4
      have i1 : (j : Int) < (n : Int) := by omega
      have i0 : (0 : Int) ≤ (j : Int) := by omega
      have HLT : Hid (j < n) := hlt
      have FINR : Hid (∀ w2, Below wr.heap.size wr w2 → Below w.heap.size w w2) := fun w2 q => (BR.out.trans (RW.out.bel.mono BR.out.size)).trans (q.mono (Nat.le_trans BR.out.size RW.out.bel.size))
      cases hf : fewT (.mk h' l') with
      | false =>
        rw [hf] at FA
        subst hu'
        clear hat r1 r3 r4 ht hlt hfc hf
        go_wp2_with (first | (refine loadN51 rfl _ rfl b (o + j * 10) rfl h' _ HR.out ?_) | (go_at_call 29; refine FA.out.mono ?_; rintro e w2 ⟨rfl, b2⟩))
        go_ret
        exact ⟨rfl, FINR.out _ b2⟩
      | true =>
        rw [hf] at FA
        have hc4 := hfc hf
        by_cases h8 : h'.k = 8
        · have h8b : (h'.k == 8) = true := by simpa using h8
          subst hu'
          clear hat r1 r3 r4 ht hlt hfc hf h8
          go_wp2_with (first | (refine loadN51 rfl _ rfl b (o + j * 10) rfl h' _ HR.out ?_) | (go_at_call 29; refine FA.out.mono ?_; rintro e w2 ⟨rfl, b2⟩; have c0 : w2.cell? ⟨b, o + j * 10, none⟩ = some (.int .i64 h'.k) := (by have q := (range_block HR.out (b2.block b HBL.out)) 0 _ rfl; simpa using q); have B2 : Hid (Below wr.heap.size wr w2) := b2; clear b2))
          go_ret
          exact ⟨rfl, FINR.out _ B2.out⟩
        · have h8b : (h'.k == 8) = false := by simpa using h8
          have FW2 : Hid (∀ t ∈ la.take (j + 1), countT t < 400 ∧ t.hd.k ≠ 8) := by
            unfold Hid; rw [HTK.out]
            intro t ht2
            rcases List.mem_append.1 ht2 with q | q
            · exact FW.out t q
            · rw [List.mem_singleton.1 q]; exact ⟨hc4, by rw [T.hd_mk]; exact h8⟩
          have TH : Hid (∀ X, Below w.heap.size w X → Calls Try.prog 30 #[vN h' u'] X fun e w' => ∃ u6, e = .returned (vN h' u6) ∧ SV (fun b => X.heap.size ≤ b) w' u6 l' ∧ Below X.heap.size X w') := fun X hW => by
            have q := theirs_any (.mk h' l') X u' (by rw [T.kids_mk]; exact r4.below hW) (by omega); rw [T.hd_mk, T.kids_mk] at q; exact q
          have NEW : Hid (∀ (w2 w6 : World) (u6 : Value), Below wr.heap.size wr w2 → Below w2.heap.size w2 w6 → SV (fun b => w2.heap.size ≤ b) w6 u6 l' → OwnT 55 (fun b => w.heap.size ≤ b) w.heap.size w6 (.slice va vl vc) (la.take j) ∧ Below w.heap.size w w6 ∧ SV (fun b => w.heap.size ≤ b ∧ some b ≠ (Value.slice va vl vc).ownBlock) w6 u6 (T.mk h' l').kids) := fun w2 w6 u6 q0 q1 q2 => by
            have b6 : Below wr.heap.size wr w6 := q0.trans (q1.mono q0.size)
            rw [T.kids_mk]
            refine ⟨RW.out.own.below b6, RW.out.bel.trans (b6.mono RW.out.bel.size), q2.weak fun b q _ => ?_⟩
            have z1 := q0.size
            have z2 := RW.out.bel.size
            refine ⟨by omega, fun e => ?_⟩
            have := (RW.out.own.low b e.symm).2
            omega
          have FIN : Hid (∀ (w6 w7 : World) (v7 : Value) (ms : List T), Below w.heap.size w w6 → OwnT 55 (fun b => w.heap.size ≤ b) w.heap.size w7 v7 (la.take j ++ ms) → w6.grownBy w7 (Value.slice va vl vc).ownBlock → RowW 55 (fun b => w.heap.size ≤ b) w w7 v7 (la.take j ++ ms)) := fun w6 w7 v7 ms q2 q3 q4 => ⟨q3, q2.grown q4 q2.size fun g hg => (RW.out.own.low g hg).1⟩
          subst hu'
          clear hat r1 r3 r4 ht hlt hfc hf hc4 h8 FINR
          go_wp2_with (first | (refine loadN51 rfl _ rfl b (o + j * 10) rfl h' _ HR.out ?_) | (go_at_call 29; refine FA.out.mono ?_; rintro e w2 ⟨rfl, b2⟩; have B2 : Hid (Below wr.heap.size wr w2) := b2; have HR2 : Hid (w2.rangeAt b (o + j * 10) (cN h' (.slice av' l'.length cp'))) := range_block HR.out (b2.block b HBL.out); have c0 : w2.cell? ⟨b, o + j * 10, none⟩ = some (.int .i64 h'.k) := (by have q := HR2.out 0 _ rfl; simpa using q); clear b2) | (refine loadN51 rfl _ rfl b (o + j * 10) rfl h' _ HR2.out ?_) | (go_at_call 30; refine (TH.out _ (RW.out.bel.trans (B2.out.mono RW.out.bel.size))).mono ?_; rintro e w6 ⟨u6, rfl, s6, b6⟩; obtain ⟨O6, B6, S6⟩ := NEW.out w2 w6 u6 B2.out b6 s6; have O6 : Hid (OwnT 55 (fun b => w.heap.size ≤ b) w.heap.size w6 (.slice va vl vc) (la.take j)) := O6; have S6 : Hid (SV (fun b => w.heap.size ≤ b ∧ some b ≠ (Value.slice va vl vc).ownBlock) w6 u6 (T.mk h' l').kids) := S6; have B6 : Hid (Below w.heap.size w w6) := B6; clear s6 b6 c0) | (refine build55 rfl _ rfl h' u6 rfl ?_) | (refine snoc55 rfl _ _ rfl (fun b => w.heap.size ≤ b) w.heap.size (.slice va vl vc) (la.take j) rfl O6.out (T.mk h' l') u6 S6.out rfl HTL.out B6.out.size ?_; intro v7 w7 O7 g7; have R7 := FIN.out _ w7 v7 [T.mk h' l'] (B6.out.alloc B6.out.size _) O7 g7; obtain ⟨va7, vc7, e7⟩ := O7.form; clear O7 g7; subst e7; obtain ⟨vl7, hvl7⟩ : ∃ vl7, vl7 = (la.take j ++ [T.mk h' l']).length := ⟨_, rfl⟩; rw [← hvl7] at R7 ⊢; have R7 : Hid (RowW 55 (fun b => w.heap.size ≤ b) w w7 (.slice va7 vl7 vc7) (la.take j ++ [T.mk h' l'])) := R7; clear hvl7))
          go_roundw
          case rel => exact ⟨j + 1, va7, vl7, vc7, by have := HLT.out; omega, by go_num, rfl, by rw [HTK.out]; exact R7.out, FW2.out⟩
          case measure => have := HLT.out; simp [intOf]; omega
    · have i1 : ¬ (j : Int) < (n : Int) := by omega
      have htk : la.take j = la := List.take_of_length_le (by rw [← HN_la.out]; omega)
      have HC_la : Hid (countL la ≤ 6000) := by
        have q := count_few la (fun t ht => by have := FW.out t; rw [htk] at this; exact (this ht).1)
        have := HN_la.out
        unfold Hid; omega
      have H8_la : Hid (∀ t ∈ la, t.hd.k ≠ 8) := fun t ht => by have := FW.out t; rw [htk] at this; exact (this ht).2
      have BW1 : Hid (Below w.heap.size w wr) := RW.out.bel
      have SX : Hid (SV AnyB wr (.slice va vl vc) la) := by have q := RW.out.own; rw [htk] at q; exact q.sv.any
      have LB1 : LAt AnyB wr bq oq lb ∧ True := ⟨(keepBoth (S' := AnyB) RW.out.bel.size (fun b _ hb => ⟨trivial, RW.out.bel.block b hb⟩)).2 lb bq oq HLB.out, trivial⟩
      have HL_lb : Hid (LAt AnyB wr bq oq lb) := LB1.1
      have RW0 : Hid (RowW 55 (fun b => wr.heap.size ≤ b) wr wr (.slice none 0 0) []) := ⟨OwnT.nil _ _ _ _, Below.refl _ _⟩
      clear LB1 HLB RW FW htk hlt hj
      obtain ⟨xa, hxa⟩ : ∃ xa, xa = va := ⟨_, rfl⟩
      rw [← hxa] at SX ⊢
      obtain ⟨xl, hxl⟩ : ∃ xl, xl = vl := ⟨_, rfl⟩
      rw [← hxl] at SX ⊢
      obtain ⟨xc, hxc⟩ : ∃ xc, xc = vc := ⟨_, rfl⟩
      rw [← hxc] at SX ⊢
      obtain ⟨W1, hW1⟩ : ∃ W1, W1 = wr := ⟨_, rfl⟩
      rw [← hW1] at SX BW1 HL_lb RW0 ⊢
      clear hxa hxl hxc hW1
      go_wp2
      go_loopw [53, 6] (fun i v wr => ∃ (j : Nat) (va : Option Addr) (vl vc : Nat), j ≤ m ∧ i = .int .i64 j ∧ v = .slice va vl vc ∧ Hid (RowW 55 (fun b => W1.heap.size ≤ b) W1 wr (.slice va vl vc) (lb.take j)) ∧ Hid (∀ t ∈ lb.take j, countT t < 400 ∧ t.hd.k ≠ 8)) (fun i _ _ => m - (intOf i).toNat)
      case atStart => exact ⟨0, none, 0, 0, by omega, rfl, rfl, RW0.out, fun t ht => by simp at ht⟩
      case round =>
        obtain ⟨j, va, vl, vc, hj, rfl, rfl, RW, FW⟩ := hrel
        by_cases hlt : j < m
        · obtain rfl := HA_lb.out (by omega)
          obtain ⟨t, ht⟩ : ∃ t, lb[j]? = some t := ⟨lb[j]'(by rw [← HN_lb.out]; exact hlt), List.getElem?_eq_getElem (by rw [← HN_lb.out]; exact hlt)⟩
          have hat := HL_lb.out.get ht
          have HTK := take_snocT lb j t ht
          have HTL : Hid ((lb.take j).length ≤ 1000000) := by unfold Hid; rw [List.length_take]; omega
          have hfc : fewT t = true → countT t < 400 := fun h => few_count h
          obtain ⟨h', l', rfl⟩ := t.out
          have HTK : Hid (lb.take (j + 1) = lb.take j ++ [T.mk h' l']) := HTK
          obtain ⟨u', r1, _, r3, r4⟩ := hat.out
          have HBL : Hid (bq < wr.heap.size) := Nat.lt_of_lt_of_le r3 RW.out.bel.size
          have HR : Hid (wr.rangeAt bq (oq + j * 10) (cN h' u')) := range_block r1 (RW.out.bel.block bq r3)
          have FA : Hid (Calls Try.prog 29 #[vN h' u'] wr fun e w' => e = .returned (.bool (fewT (.mk h' l'))) ∧ Below wr.heap.size wr w') := by
            have q := few_any (.mk h' l') wr u' (by rw [T.kids_mk]; exact r4.below RW.out.bel); rw [T.hd_mk] at q; exact q
          obtain ⟨av', cp', b', o', hu', _⟩ := id r4
          have i1 : (j : Int) < (m : Int) := by omega
          have i0 : (0 : Int) ≤ (j : Int) := by omega
          have HLT : Hid (j < m) := hlt
          have FINR : Hid (∀ w2, Below wr.heap.size wr w2 → Below w.heap.size w w2) := fun w2 q => (BW1.out.trans (RW.out.bel.mono BW1.out.size)).trans (q.mono (Nat.le_trans BW1.out.size RW.out.bel.size))
          cases hf : fewT (.mk h' l') with
          | false =>
            rw [hf] at FA
            subst hu'
            clear hat r1 r3 r4 ht hlt hfc hf
            go_wp2_with (first | (refine loadN51 rfl _ rfl bq (oq + j * 10) rfl h' _ HR.out ?_) | (go_at_call 29; refine FA.out.mono ?_; rintro e w2 ⟨rfl, b2⟩))
            go_ret
            exact ⟨rfl, FINR.out _ b2⟩
          | true =>
            rw [hf] at FA
            have hc4 := hfc hf
            by_cases h8 : h'.k = 8
            · have h8b : (h'.k == 8) = true := by simpa using h8
              subst hu'
              clear hat r1 r3 r4 ht hlt hfc hf h8
              go_wp2_with (first | (refine loadN51 rfl _ rfl bq (oq + j * 10) rfl h' _ HR.out ?_) | (go_at_call 29; refine FA.out.mono ?_; rintro e w2 ⟨rfl, b2⟩; have c0 : w2.cell? ⟨bq, oq + j * 10, none⟩ = some (.int .i64 h'.k) := (by have q := (range_block HR.out (b2.block bq HBL.out)) 0 _ rfl; simpa using q); have B2 : Hid (Below wr.heap.size wr w2) := b2; clear b2))
              go_ret
              exact ⟨rfl, FINR.out _ B2.out⟩
            · have h8b : (h'.k == 8) = false := by simpa using h8
              have FW2 : Hid (∀ t ∈ lb.take (j + 1), countT t < 400 ∧ t.hd.k ≠ 8) := by
                unfold Hid; rw [HTK.out]
                intro t ht2
                rcases List.mem_append.1 ht2 with q | q
                · exact FW.out t q
                · rw [List.mem_singleton.1 q]; exact ⟨hc4, by rw [T.hd_mk]; exact h8⟩
              have TH : Hid (∀ X, Below W1.heap.size W1 X → Calls Try.prog 30 #[vN h' u'] X fun e w' => ∃ u6, e = .returned (vN h' u6) ∧ SV (fun b => X.heap.size ≤ b) w' u6 l' ∧ Below X.heap.size X w') := fun X hW => by
                have q := theirs_any (.mk h' l') X u' (by rw [T.kids_mk]; exact r4.below hW) (by omega); rw [T.hd_mk, T.kids_mk] at q; exact q
              have NEW : Hid (∀ (w2 w6 : World) (u6 : Value), Below wr.heap.size wr w2 → Below w2.heap.size w2 w6 → SV (fun b => w2.heap.size ≤ b) w6 u6 l' → OwnT 55 (fun b => W1.heap.size ≤ b) W1.heap.size w6 (.slice va vl vc) (lb.take j) ∧ Below W1.heap.size W1 w6 ∧ SV (fun b => W1.heap.size ≤ b ∧ some b ≠ (Value.slice va vl vc).ownBlock) w6 u6 (T.mk h' l').kids) := fun w2 w6 u6 q0 q1 q2 => by
                have b6 : Below wr.heap.size wr w6 := q0.trans (q1.mono q0.size)
                rw [T.kids_mk]
                refine ⟨RW.out.own.below b6, RW.out.bel.trans (b6.mono RW.out.bel.size), q2.weak fun b q _ => ?_⟩
                have z1 := q0.size
                have z2 := RW.out.bel.size
                refine ⟨by omega, fun e => ?_⟩
                have := (RW.out.own.low b e.symm).2
                omega
              have FIN : Hid (∀ (w6 w7 : World) (v7 : Value) (ms : List T), Below W1.heap.size W1 w6 → OwnT 55 (fun b => W1.heap.size ≤ b) W1.heap.size w7 v7 (lb.take j ++ ms) → w6.grownBy w7 (Value.slice va vl vc).ownBlock → RowW 55 (fun b => W1.heap.size ≤ b) W1 w7 v7 (lb.take j ++ ms)) := fun w6 w7 v7 ms q2 q3 q4 => ⟨q3, q2.grown q4 q2.size fun g hg => (RW.out.own.low g hg).1⟩
              subst hu'
              clear hat r1 r3 r4 ht hlt hfc hf hc4 h8 FINR
              go_wp2_with (first | (refine loadN51 rfl _ rfl bq (oq + j * 10) rfl h' _ HR.out ?_) | (go_at_call 29; refine FA.out.mono ?_; rintro e w2 ⟨rfl, b2⟩; have B2 : Hid (Below wr.heap.size wr w2) := b2; have HR2 : Hid (w2.rangeAt bq (oq + j * 10) (cN h' (.slice av' l'.length cp'))) := range_block HR.out (b2.block bq HBL.out); have c0 : w2.cell? ⟨bq, oq + j * 10, none⟩ = some (.int .i64 h'.k) := (by have q := HR2.out 0 _ rfl; simpa using q); clear b2) | (refine loadN51 rfl _ rfl bq (oq + j * 10) rfl h' _ HR2.out ?_) | (go_at_call 30; refine (TH.out _ (RW.out.bel.trans (B2.out.mono RW.out.bel.size))).mono ?_; rintro e w6 ⟨u6, rfl, s6, b6⟩; obtain ⟨O6, B6, S6⟩ := NEW.out w2 w6 u6 B2.out b6 s6; have O6 : Hid (OwnT 55 (fun b => W1.heap.size ≤ b) W1.heap.size w6 (.slice va vl vc) (lb.take j)) := O6; have S6 : Hid (SV (fun b => W1.heap.size ≤ b ∧ some b ≠ (Value.slice va vl vc).ownBlock) w6 u6 (T.mk h' l').kids) := S6; have B6 : Hid (Below W1.heap.size W1 w6) := B6; clear s6 b6 c0) | (refine build55 rfl _ rfl h' u6 rfl ?_) | (refine snoc55 rfl _ _ rfl (fun b => W1.heap.size ≤ b) W1.heap.size (.slice va vl vc) (lb.take j) rfl O6.out (T.mk h' l') u6 S6.out rfl HTL.out B6.out.size ?_; intro v7 w7 O7 g7; have R7 := FIN.out _ w7 v7 [T.mk h' l'] (B6.out.alloc B6.out.size _) O7 g7; obtain ⟨va7, vc7, e7⟩ := O7.form; clear O7 g7; subst e7; obtain ⟨vl7, hvl7⟩ : ∃ vl7, vl7 = (lb.take j ++ [T.mk h' l']).length := ⟨_, rfl⟩; rw [← hvl7] at R7 ⊢; have R7 : Hid (RowW 55 (fun b => W1.heap.size ≤ b) W1 w7 (.slice va7 vl7 vc7) (lb.take j ++ [T.mk h' l'])) := R7; clear hvl7))
              go_roundw
              case rel => exact ⟨j + 1, va7, vl7, vc7, by have := HLT.out; omega, by go_num, rfl, by rw [HTK.out]; exact R7.out, FW2.out⟩
              case measure => have := HLT.out; simp [intOf]; omega
        · have i1 : ¬ (j : Int) < (m : Int) := by omega
          have htk : lb.take j = lb := List.take_of_length_le (by rw [← HN_lb.out]; omega)
          have HC_lb : Hid (countL lb ≤ 6000) := by
            have q := count_few lb (fun t ht => by have := FW.out t; rw [htk] at this; exact (this ht).1)
            have := HN_lb.out
            unfold Hid; omega
          have H8_lb : Hid (∀ t ∈ lb, t.hd.k ≠ 8) := fun t ht => by have := FW.out t; rw [htk] at this; exact (this ht).2
          have SX2 : Hid (SV AnyB wr (.slice xa xl xc) la) := SX.out.below RW.out.bel
          have SY2 : Hid (SV AnyB wr (.slice va vl vc) lb) := by have q := RW.out.own; rw [htk] at q; exact q.sv.any
          have BW2 : Hid (Below w.heap.size w wr) := BW1.out.trans (RW.out.bel.mono BW1.out.size)
          have hca := HC_la.out
          have hcb := HC_lb.out
          have hla := len_le_countL la
          have hlb := len_le_countL lb
          have hj1 := joinT_count la
          have hj2 := joinT_count lb
          have hj3 := joinT_count (la ++ lb)
          have hcab := countL_append la lb
          have hc2 : countL [joinT la, joinT lb] ≤ 1000000 := by simp only [countL_cons, countL_nil]; omega
          have e2 := join_two la lb H8_la.out H8_lb.out
          have JA : Hid (∀ W u, SV AnyB W u (la ++ lb) → Calls Try.prog 43 #[u] W (NodeA (joinT (la ++ lb)).hd (joinT (la ++ lb)).kids W)) := fun W u h => (join_any (la ++ lb) (by omega) W u h).mono fun e w' q => nodeA q
          have JX0 : Hid (∀ W u, SV AnyB W u la → Calls Try.prog 43 #[u] W (NodeA (joinT la).hd (joinT la).kids W)) := fun W u h => (join_any la (by omega) W u h).mono fun e w' q => nodeA q
          have JY0 : Hid (∀ W u, SV AnyB W u lb → Calls Try.prog 43 #[u] W (NodeA (joinT lb).hd (joinT lb).kids W)) := fun W u h => (join_any lb (by omega) W u h).mono fun e w' q => nodeA q
          have JZ : Hid (∀ W u, SV AnyB W u [joinT la, joinT lb] → Calls Try.prog 43 #[u] W (NodeA (joinT (la ++ lb)).hd (joinT (la ++ lb)).kids W)) := fun W u h => (join_any [joinT la, joinT lb] hc2 W u h).mono fun e w' q => by have q := nodeA q; rw [e2] at q; exact q
          have SM : Hid (∀ W u1 u2, SV AnyB W u1 (joinT (la ++ lb)).kids → SV AnyB W u2 (joinT (la ++ lb)).kids → Calls Try.prog 47 #[vN (joinT (la ++ lb)).hd u1, vN (joinT (la ++ lb)).hd u2] W fun e w' => e = .returned (.bool true) ∧ Below W.heap.size W w') := fun W u1 u2 q1 q2 => by
            have q := same_any (joinT (la ++ lb)) (joinT (la ++ lb)) W u1 u2 q1 q2; rw [same_refl.1] at q; exact q
          have OE : Hid (OwnT 55 (fun b => b < wr.heap.size) wr.heap.size (wr.alloc (.cells #[] 55)) (.slice (some ⟨wr.heap.size, 0, none⟩) 0 0) []) := own_empty wr
          have BE : Hid (Below wr.heap.size wr (wr.alloc (.cells #[] 55))) := (Below.refl _ _).alloc (Nat.le_refl _) _
          have XE : Hid (SV (fun b => b < wr.heap.size ∧ some b ≠ (Value.slice (some ⟨wr.heap.size, 0, none⟩) 0 0).ownBlock) (wr.alloc (.cells #[] 55)) (.slice xa xl xc) la) := by
            have q1 : SV (fun b => b < wr.heap.size) wr (.slice xa xl xc) la := SX2.out.weak fun b _ hb => hb
            exact (q1.below BE.out).weak fun b q _ => ⟨q, fun e => by have h : some b = some wr.heap.size := e; injection h; omega⟩
          have LN1 : Hid (([] : List T).length + la.length ≤ 1000000) := by unfold Hid; simp; omega
          have LN2 : Hid (([] ++ la : List T).length + lb.length ≤ 1000000) := by unfold Hid; simp; omega
          obtain ⟨h9, l9, e9⟩ := (joinT (la ++ lb)).out
          obtain ⟨h1, l1, e1⟩ := (joinT la).out
          obtain ⟨h2, l2, e3⟩ := (joinT lb).out
          rw [e9] at JA JZ SM
          rw [e1] at JX0 JZ
          rw [e3] at JY0 JZ
          simp only [T.hd_mk, T.kids_mk] at JA JZ SM JX0 JY0
          clear e9 e1 e3 e2 hc2 hcab hj1 hj2 hj3 hla hlb hca hcb htk hlt HC_la HC_lb H8_la H8_lb FW HL_la HL_lb HA_la HA_lb HN_la HN_lb
          have hwz : wr.heap.size ≤ (wr.alloc (.cells #[] 55)).heap.size := BE.out.size
          go_wp2_with (first | (refine app55 rfl _ _ rfl rfl (fun b => b < wr.heap.size) wr.heap.size (.slice (some ⟨wr.heap.size, 0, none⟩) 0 0) [] rfl OE.out la _ XE.out rfl LN1.out BE.out.size ?_; intro v7 w7 O7 g7; obtain ⟨b7, y7, x7⟩ := two_rows BW2.out SX2.out SY2.out O7 g7; have O7 : Hid (OwnT 55 (fun b => b < wr.heap.size) wr.heap.size w7 v7 ([] ++ la)) := O7; have B7 : Hid (Below wr.heap.size wr w7) := b7; have Y7 : Hid (SV (fun b => b < wr.heap.size ∧ some b ≠ v7.ownBlock) w7 (.slice va vl vc) lb) := y7; clear b7 y7 x7 g7) | (refine app55 rfl _ _ rfl rfl (fun b => b < wr.heap.size) wr.heap.size v7 ([] ++ la) rfl O7.out lb _ Y7.out rfl LN2.out B7.out.size ?_; intro v8 w8 O8 g8; have B8 : Hid (Below wr.heap.size wr w8) := B7.out.grown g8 B7.out.size (fun k hk => (O7.out.low k hk).1); have S8 : Hid (SV AnyB w8 v8 (la ++ lb)) := (by have q := O8.sv.any; rw [List.nil_append] at q; exact q); clear O8 g8) | (go_at_call 43; refine (JA.out _ _ S8.out).mono ?_; rintro e w9 ⟨u9, rfl, s9, b9⟩; obtain ⟨av9, cp9, bb9, oo9, hu9, hr9⟩ := id s9; clear hr9; subst hu9; have S9 : Hid (SV AnyB w9 (.slice av9 l9.length cp9) l9) := s9; have B9 : Hid (Below wr.heap.size wr w9) := B8.out.trans (b9.mono B8.out.size); clear s9 b9) | (refine storeN55 rfl _ _ rfl rfl h9 av9 l9.length cp9 rfl ?_))
          have SWD : FlW w (w9.alloc (.cells (cN h9 (.slice av9 l9.length cp9)).toArray 55)).drew (.slice xa xl xc) (.slice va vl vc) la lb h9 l9 (.slice av9 l9.length cp9) w9.heap.size := by
            have bA : Below w9.heap.size w9 (w9.alloc (.cells (cN h9 (.slice av9 l9.length cp9)).toArray 55)).drew := ((Below.refl _ _).alloc (Nat.le_refl _) _).drew
            have bT : Below wr.heap.size wr (w9.alloc (.cells (cN h9 (.slice av9 l9.length cp9)).toArray 55)).drew := B9.out.trans (bA.mono B9.out.size)
            exact ⟨(BoxN.new 55 w9 h9 (.slice av9 l9.length cp9)).blk rfl, S9.out.below bA, SX2.out.below bT, SY2.out.below bT, BW2.out.trans (bT.mono BW2.out.size)⟩
          obtain ⟨g, hg⟩ : ∃ g, g = w9.heap.size := ⟨_, rfl⟩
          rw [← hg] at SWD ⊢
          generalize (w9.alloc (.cells (cN h9 (.slice av9 l9.length cp9)).toArray 55)) = wA at *
          have JX : Hid (∀ W, FlW w W (.slice xa xl xc) (.slice va vl vc) la lb h9 l9 (.slice av9 l9.length cp9) g → Calls Try.prog 43 #[(.slice xa xl xc)] W (NodeA h1 l1 W)) := fun W q => JX0.out W _ q.sx
          have JY : Hid (∀ W, FlW w W (.slice xa xl xc) (.slice va vl vc) la lb h9 l9 (.slice av9 l9.length cp9) g → Calls Try.prog 43 #[(.slice va vl vc)] W (NodeA h2 l2 W)) := fun W q => JY0.out W _ q.sy
          clear hg S9 B9 B8 S8 B7 Y7 O7 OE BE XE LN1 LN2 JX0 JY0 JA SX2 SY2 BW2 SX BW1 RW hwz
          refine wp_region_noPanic ?_
          refine wp_region_held_drew (S := fun W => FlW w W (.slice xa xl xc) (.slice va vl vc) la lb h9 l9 (.slice av9 l9.length cp9) g) (by kernel_rfl) (SWD) (fun hHeld => ?_)
          try simp only [Act.put, List.setIfInBounds_toArray, List.set_cons_zero, List.set_cons_succ]
          refine wpAnyH_take (i := 0) (oi := { dst := some 85, op := Go.Op.load 55 (Go.Operand.tmp 9), type := 55, pos := "law.go:103", after := #[], guard := none }) (v := vN h9 (.slice av9 l9.length cp9)) rfl (by kernel_rfl) (by kernel_rfl) (by kernel_rfl) (fun _ _ _ h => h) (yieldsIf_load_mid rfl 55 _ rfl g 0 rfl (cN h9 (.slice av9 l9.length cp9)) _ (fun wq hSq => hSq.bx.range) Try.underlying55 rfl size55) hHeld ?_
          try simp only [Act.put, List.setIfInBounds_toArray, List.set_cons_zero, List.set_cons_succ]
          refine wpAnyH_take (i := 1) (oi := { dst := some 86, op := Go.Op.move (Go.Operand.tmp 5), type := 53, pos := "law.go:103", after := #[], guard := none }) (v := ?_) rfl (by kernel_rfl) (by kernel_rfl) (by kernel_rfl) (fun _ _ _ h => h) (Or.inl ⟨by rfl, ?_⟩) hHeld ?_
          rotate_left 1
          · (intro wq hSq; (try dsimp only at hSq); go_simp; first | done | with_reducible rfl)
          try simp only [Act.put, List.setIfInBounds_toArray, List.set_cons_zero, List.set_cons_succ]
          refine wpAnyH_take (i := 3) (oi := { dst := some 88, op := Go.Op.move (Go.Operand.tmp 6), type := 53, pos := "law.go:103", after := #[], guard := none }) (v := ?_) rfl (by kernel_rfl) (by kernel_rfl) (by kernel_rfl) (fun _ _ _ h => h) (Or.inl ⟨by rfl, ?_⟩) hHeld ?_
          rotate_left 1
          · (intro wq hSq; (try dsimp only at hSq); go_simp; first | done | with_reducible rfl)
          try simp only [Act.put, List.setIfInBounds_toArray, List.set_cons_zero, List.set_cons_succ]
          refine wpAnyH_ready (rs := [2]) (by kernel_rfl) (by simp) ?_
          refine AllReadyH.cons (o := { dst := some 87, op := Go.Op.call { callee := Go.Callee.value (Go.Operand.func 43), args := #[Go.Operand.tmp 86], argTypes := #[53] }, type := 55, pos := "law.go:103", after := #[{ on := 1, ground := Go.Ground.data }], guard := none }) rfl (fun K hK => ?_) AllReadyH.nil
          go_simp
          refine (JX.out _ (by assumption)).mono ?_
          rintro e w21 ⟨u21, rfl, s21, b21⟩
          have SW21 : FlW w w21 (.slice xa xl xc) (.slice va vl vc) la lb h9 l9 (.slice av9 l9.length cp9) g := FlW.below (by assumption) b21
          have T21 : Hid (SV AnyB w21 u21 l1) := s21
          clear s21 b21
          refine hK.out _ _ (SW21) (fun hHeld1 => ?_)
          clear hK K hHeld
          try simp only [Act.put, List.setIfInBounds_toArray, List.set_cons_zero, List.set_cons_succ]
          refine wpAnyH_ready (rs := [4]) (by kernel_rfl) (by simp) ?_
          refine AllReadyH.cons (o := { dst := some 89, op := Go.Op.call { callee := Go.Callee.value (Go.Operand.func 43), args := #[Go.Operand.tmp 88], argTypes := #[53] }, type := 55, pos := "law.go:103", after := #[{ on := 3, ground := Go.Ground.data }, { on := 2, ground := Go.Ground.chain }], guard := none }) rfl (fun K hK => ?_) AllReadyH.nil
          go_simp
          refine (JY.out _ (by assumption)).mono ?_
          rintro e w22 ⟨u22, rfl, s22, b22⟩
          have SW22 : FlW w w22 (.slice xa xl xc) (.slice va vl vc) la lb h9 l9 (.slice av9 l9.length cp9) g := FlW.below (by assumption) b22
          have T22 : Hid (SV AnyB w22 u22 l2) := s22
          have T21b : Hid (SV AnyB w22 u21 l1) := T21.out.below b22
          clear s22 b22
          refine hK.out _ _ (SW22) (fun hHeld2 => ?_)
          clear hK K hHeld1
          try simp only [Act.put, List.setIfInBounds_toArray, List.set_cons_zero, List.set_cons_succ]
          refine wpAnyH_ready (rs := [5]) (by kernel_rfl) (by simp) ?_
          refine AllReadyH.cons (o := { dst := some 90, op := Go.Op.buildSlice 53 2 #[(0, Go.Operand.tmp 87), (1, Go.Operand.tmp 89)], type := 53, pos := "law.go:103", after := #[{ on := 2, ground := Go.Ground.data }, { on := 4, ground := Go.Ground.data }], guard := none }) rfl (fun K hK => ?_) AllReadyH.nil
          refine step_build2 rfl _ _ rfl h1 h2 u21 u22 (by rfl) (by rfl) ?_
          have BQ : Below w22.heap.size w22 (w22.alloc (.cells (cN h1 u21 ++ cN h2 u22).toArray 55)) := (Below.refl _ _).alloc (Nat.le_refl _) _
          have SW23 : FlW w (w22.alloc (.cells (cN h1 u21 ++ cN h2 u22).toArray 55)) (.slice xa xl xc) (.slice va vl vc) la lb h9 l9 (.slice av9 l9.length cp9) g := FlW.below (by assumption) BQ
          have P23 : Hid (SV AnyB (w22.alloc (.cells (cN h1 u21 ++ cN h2 u22).toArray 55)) (.slice (some ⟨w22.heap.size, 0, none⟩) 2 2) [T.mk h1 l1, T.mk h2 l2]) := (by have q := sv_pair (T.mk h1 l1) (T.mk h2 l2) w22 u21 u22 (by rw [T.kids_mk]; exact T21b.out) (by rw [T.kids_mk]; exact T22.out); rw [T.hd_mk, T.hd_mk] at q; exact q)
          clear BQ
          refine hK.out _ _ (SW23) (fun hHeld3 => ?_)
          clear hK K hHeld2
          try simp only [Act.put, List.setIfInBounds_toArray, List.set_cons_zero, List.set_cons_succ]
          refine wpAnyH_ready (rs := [6]) (by kernel_rfl) (by simp) ?_
          refine AllReadyH.cons (o := { dst := some 91, op := Go.Op.call { callee := Go.Callee.value (Go.Operand.func 43), args := #[Go.Operand.tmp 90], argTypes := #[53] }, type := 55, pos := "law.go:103", after := #[{ on := 5, ground := Go.Ground.data }, { on := 4, ground := Go.Ground.chain }], guard := none }) rfl (fun K hK => ?_) AllReadyH.nil
          go_simp
          refine (JZ.out _ _ P23.out).mono ?_
          rintro e w24 ⟨u24, rfl, s24, b24⟩
          have SW24 : FlW w w24 (.slice xa xl xc) (.slice va vl vc) la lb h9 l9 (.slice av9 l9.length cp9) g := FlW.below (by assumption) b24
          have T24 : Hid (SV AnyB w24 u24 l9) := s24
          clear s24 b24
          refine hK.out _ _ (SW24) (fun hHeld4 => ?_)
          clear hK K hHeld3
          try simp only [Act.put, List.setIfInBounds_toArray, List.set_cons_zero, List.set_cons_succ]
          refine wpAnyH_ready (rs := [7]) (by kernel_rfl) (by simp) ?_
          refine AllReadyH.cons (o := { dst := some 92, op := Go.Op.call { callee := Go.Callee.value (Go.Operand.func 47), args := #[Go.Operand.tmp 85, Go.Operand.tmp 91], argTypes := #[55, 55] }, type := 4, pos := "law.go:103", after := #[{ on := 0, ground := Go.Ground.data }, { on := 6, ground := Go.Ground.data }, { on := 6, ground := Go.Ground.chain }], guard := none }) rfl (fun K hK => ?_) AllReadyH.nil
          go_simp
          refine (SM.out _ _ _ SW24.s9 T24.out).mono ?_
          rintro e w25 ⟨rfl, b25⟩
          have SW25 : FlW w w25 (.slice xa xl xc) (.slice va vl vc) la lb h9 l9 (.slice av9 l9.length cp9) g := FlW.below (by assumption) b25
          clear b25
          refine hK.out _ _ (SW25) (fun hHeld5 => ?_)
          clear hK K hHeld4
          try simp only [Act.put, List.setIfInBounds_toArray, List.set_cons_zero, List.set_cons_succ]
          refine wpAnyH_take (i := 8) (oi := { dst := some 4, op := Go.Op.assign (Go.Operand.tmp 92), type := 4, pos := "law.go:103", after := #[{ on := 7, ground := Go.Ground.data }, { on := 7, ground := Go.Ground.chain }, { on := 0, ground := Go.Ground.phase }, { on := 1, ground := Go.Ground.phase }, { on := 2, ground := Go.Ground.phase }, { on := 3, ground := Go.Ground.phase }, { on := 4, ground := Go.Ground.phase }, { on := 5, ground := Go.Ground.phase }, { on := 6, ground := Go.Ground.phase }, { on := 7, ground := Go.Ground.phase }], guard := none }) (v := ?_) rfl (by kernel_rfl) (by kernel_rfl) (by kernel_rfl) (fun _ _ _ h => h) (Or.inl ⟨by rfl, ?_⟩) hHeld5 ?_
          rotate_left 1
          · (intro wq hSq; (try dsimp only at hSq); go_simp; first | done | with_reducible rfl)
          try simp only [Act.put, List.setIfInBounds_toArray, List.set_cons_zero, List.set_cons_succ]
          refine wpAnyH_done (by kernel_rfl) ?_ _
          refine NoPanic.normal ?_
          go_wp2
          go_ret
          exact ⟨rfl, SW25.bel⟩
end Go.Proofs.Ytaoobmpjlagkpaa
