import Derived.Test.YtjkccnfmmkhapaaSa
namespace Go.Proofs.Ytjkccnfmmkhapaa
set_option linter.unusedSimpArgs false
set_option linter.unusedVariables false
open Go.RowKit
/-- The law's own reader: what is left, in memory that was there at the beginning; or a bad one. -/
def PSt (w0 w : World) (g : Nat) : Option (List Int) → Prop
  | some l => ∃ v, w.heap[g]? = some (.cells #[v, .bool false] 42) ∧ PartAt w0 v l ∧ Bytes l ∧ l.length ≤ 5000
  | none => ∃ av n cp, w.heap[g]? = some (.cells #[.slice av n cp, .bool true] 42) ∧ n ≤ 5000
theorem PSt.lt {w0 w : World} {g : Nat} {st : Option (List Int)} (h : PSt w0 w g st) : g < w.heap.size := by
  cases st with
  | none => obtain ⟨_, _, _, h1, _⟩ := h; exact (Array.getElem?_eq_some_iff.1 h1).1
  | some l => obtain ⟨_, h1, _⟩ := h; exact (Array.getElem?_eq_some_iff.1 h1).1
theorem PSt.keep {w0 w w' : World} {g : Nat} {st : Option (List Int)} (h : PSt w0 w g st) (hg : w'.heap[g]? = w.heap[g]?) : PSt w0 w' g st := by
  cases st with
  | none => obtain ⟨a, b, c, h1, h2⟩ := h; exact ⟨a, b, c, by rw [hg]; exact h1, h2⟩
  | some l => obtain ⟨v, h1, h2⟩ := h; exact ⟨v, by rw [hg]; exact h1, h2⟩
theorem PSt.below {w0 w w' : World} {g : Nat} {st : Option (List Int)} (h : PSt w0 w g st) (hb : Below w.heap.size w w') : PSt w0 w' g st := h.keep (hb.block g h.lt)
/-- What a call on it leaves. -/
def Ptook (w0 w : World) (g : Nat) (st : Option (List Int)) (l : List Int) (e : Ending) (w' : World) : Prop := ∃ v, e = .returned v ∧ PartAt w0 v l ∧ PSt w0 w' g st ∧ w.grownBy w' (some g)
theorem PartAt.pos {w : World} {v : Value} {l : List Int} (h : PartAt w v l) : 0 < w.heap.size := by
  obtain ⟨_, b, _, _, _, _, _, _, _, h6, _⟩ := h; omega
theorem nilPart (w : World) (h : 0 < w.heap.size) : PartAt w (.slice none 0 0) [] := ⟨none, 0, 0, 0, rfl, Nat.le_refl _, by omega, fun h => by simp at h, fun j v hv => by simp [vB] at hv, h, fun _ => rfl⟩
set_option maxHeartbeats 1000000 in
set_option maxRecDepth 100000 in
theorem ptake_none (w0 w : World) (g : Nat) (k : Int) (h0 : 0 < w0.heap.size) (h : PSt w0 w g none) : Calls Try.prog 17 #[.pointer (some ⟨g, 0, none⟩), .int .i64 k] w (Ptook w0 w g none []) := by
  obtain ⟨av, n, cp, h1, h2⟩ := h
  have c1 := row_cell (j := 1) h1 rfl
  have f1 := unfrozen (j := 1) h1
  have H1 : Hid (w.heap[g]? = some (.cells #[.slice av n cp, .bool true] 42)) := h1
  clear h1
  go_enter Try.func17, Try.ntmps17
  go_wp2
  go_ret
  refine ⟨_, rfl, nilPart w0 h0, ⟨av, n, cp, ?_, h2⟩, grown_setCell _ _ _ _⟩
  rw [heap_setCell_same _ g 1 _ 42 _ H1.out]; rfl
set_option maxHeartbeats 1000000 in
set_option maxRecDepth 100000 in
theorem ptake_short (w0 w : World) (g : Nat) (l : List Int) (k : Nat) (hk : l.length < k) (hk2 : k ≤ 100000) (h : PSt w0 w g (some l)) : Calls Try.prog 17 #[.pointer (some ⟨g, 0, none⟩), .int .i64 k] w (Ptook w0 w g none []) := by
  obtain ⟨v, h1, hp, hb, hl⟩ := h
  have h0 := hp.pos
  obtain ⟨av, b, o, cp, rfl, _⟩ := hp
  have c0 := row_cell (j := 0) h1 rfl
  have c1 := row_cell (j := 1) h1 rfl
  have f1 := unfrozen (j := 1) h1
  have H1 : Hid (w.heap[g]? = some (.cells #[.slice av l.length cp, .bool false] 42)) := h1
  have hlt : decide ((l.length : Int) < (k : Int)) = true := by simp; omega
  have hlt' : (l.length : Int) < (k : Int) := by omega
  clear h1 hb
  go_enter Try.func17, Try.ntmps17
  go_wp2
  go_ret
  refine ⟨_, rfl, nilPart w0 h0, ⟨av, l.length, cp, ?_, hl⟩, grown_setCell _ _ _ _⟩
  rw [heap_setCell_same _ g 1 _ 42 _ H1.out]; rfl
theorem rangeV_take {w : World} {b o : Nat} {l : List Int} (h : w.rangeAt b o (vB l).toList) (k : Nat) : w.rangeAt b o (vB (l.take k)).toList := fun j v hv => by
  refine h j v ?_
  simp [vB, List.getElem?_take] at hv ⊢
  exact hv.2
theorem rangeV_drop {w : World} {b o : Nat} {l : List Int} (h : w.rangeAt b o (vB l).toList) (k : Nat) : w.rangeAt b (o + k) (vB (l.drop k)).toList := fun j v hv => by
  have := h (k + j) v (by simp [vB] at hv ⊢; exact hv)
  rw [Nat.add_assoc]; exact this
set_option maxHeartbeats 1000000 in
set_option maxRecDepth 100000 in
theorem ptake_nil (w0 w : World) (g : Nat) (h : PSt w0 w g (some [])) : Calls Try.prog 17 #[.pointer (some ⟨g, 0, none⟩), .int .i64 0] w (Ptook w0 w g (some []) []) := by
  obtain ⟨v, h1, hp, hb, hl⟩ := h
  have h0 := hp.pos
  obtain ⟨av, b, o, cp, rfl, q1, q2, q3, q4, q5, q6⟩ := hp
  have HP : Hid (∀ (a' : Option Addr) (c' : Nat), (a' = none → c' = 0) → c' ≤ 9223372036854775807 → PartAt w0 (.slice a' 0 c') []) := fun a' c' r1 r2 => ⟨a', b, o, c', rfl, by simp, r2, fun h => by simp at h, q4, q5, r1⟩
  have c0 := row_cell (j := 0) h1 rfl
  have c1 := row_cell (j := 1) h1 rfl
  have f0 := unfrozen (j := 0) h1
  have H1 : Hid (w.heap[g]? = some (.cells #[.slice av ([] : List Int).length cp, .bool false] 42)) := h1
  have H3 : Hid (Bytes ([] : List Int)) := hb
  rw [List.length_nil] at c0
  cases av with
  | none =>
    obtain rfl := q6 rfl
    clear h1 q4 q3 hb
    go_enter Try.func17, Try.ntmps17
    go_wp2
    go_ret
    refine ⟨_, rfl, HP.out _ _ (fun _ => rfl) (by omega), ⟨_, ?_, HP.out none 0 (fun _ => rfl) (by omega), H3.out, by simp⟩, grown_setCell _ _ _ _⟩
    rw [heap_setCell_same _ g 0 _ 42 _ H1.out]; rfl
  | some a =>
    clear h1 q4 q3 hb q6
    have hc0 : (0 : Int) ≤ (cp : Int) := by omega
    go_enter Try.func17, Try.ntmps17
    go_wp2
    go_ret
    refine ⟨.slice (some a) 0 cp, rfl, HP.out _ _ (fun h => by cases h) q2, ⟨.slice (some a) 0 cp, ?_, HP.out _ _ (fun h => by cases h) q2, H3.out, by simp⟩, grown_setCell _ _ _ _⟩
    rw [heap_setCell_same _ g 0 _ 42 _ H1.out]; rfl
set_option maxHeartbeats 1000000 in
set_option maxRecDepth 100000 in
theorem ptake_good (w0 w : World) (g : Nat) (l : List Int) (k : Nat) (h0 : 0 < l.length) (hk : k ≤ l.length) (h : PSt w0 w g (some l)) : Calls Try.prog 17 #[.pointer (some ⟨g, 0, none⟩), .int .i64 k] w (Ptook w0 w g (some (l.drop k)) (l.take k)) := by
  obtain ⟨v, h1, hp, hb, hl⟩ := h
  obtain ⟨av, b, o, cp, rfl, q1, q2, q3, q4, q5, q6⟩ := hp
  obtain rfl := q3 h0
  have e1 : (l.take k).length = k := by simp; omega
  have e2 : (l.drop k).length = l.length - k := by simp
  have HB2 : Hid (Bytes (l.drop k)) := fun x hx => hb x (List.mem_of_mem_drop hx)
  have HT : Hid (PartAt w0 (.slice (some ⟨b, o, none⟩) k cp) (l.take k)) := ⟨some ⟨b, o, none⟩, b, o, cp, by rw [e1], by omega, q2, fun _ => rfl, rangeV_take q4 k, q5, fun h => by cases h⟩
  have c0 := row_cell (j := 0) h1 rfl
  have c1 := row_cell (j := 1) h1 rfl
  have f0 := unfrozen (j := 0) h1
  have H1 : Hid (w.heap[g]? = some (.cells #[.slice (some ⟨b, o, none⟩) l.length cp, .bool false] 42)) := h1
  have hlt : decide ((l.length : Int) < (k : Int)) = false := by simp; omega
  have hlt' : (k : Int) ≤ (l.length : Int) := by omega
  have hkc : (k : Int) ≤ (cp : Int) := by omega
  have hk0 : (0 : Int) ≤ (k : Int) := by omega
  by_cases hcp : cp = k
  · have e3 : l.drop k = [] := List.drop_eq_nil_of_le (by omega)
    have e4 : l.length = k := by omega
    have HD : Hid (∀ a' : Addr, PartAt w0 (.slice (some a') 0 0) (l.drop k)) := fun a' => by rw [e3]; exact ⟨some a', b, o, 0, rfl, by simp, by omega, fun h => by simp at h, fun j v hv => by simp [vB] at hv, q5, fun h => by cases h⟩
    have HL : Hid ((l.drop k).length ≤ 5000) := by unfold Hid; omega
    subst hcp
    rw [e4] at c0 c1 H1
    clear h1 hb q4 q3 q6 e3 hlt hlt' hkc e4
    go_enter Try.func17, Try.ntmps17
    go_wp2
    go_ret
    refine ⟨_, rfl, HT.out, ⟨_, ?_, HD.out ⟨b, o, none⟩, HB2.out, HL.out⟩, grown_setCell _ _ _ _⟩
    rw [heap_setCell_same _ g 0 _ 42 _ H1.out]; rfl
  · have HD : Hid (PartAt w0 (.slice (some ⟨b, o + k, none⟩) (l.length - k) (cp - k)) (l.drop k)) := ⟨some ⟨b, o + k, none⟩, b, o + k, cp - k, by rw [e2], by omega, by omega, fun _ => rfl, rangeV_drop q4 k, q5, fun h => by cases h⟩
    have HL : Hid ((l.drop k).length ≤ 5000) := by unfold Hid; omega
    clear h1 hb q4 q3 q6
    go_enter Try.func17, Try.ntmps17
    go_wp2
    go_ret
    refine ⟨_, rfl, HT.out, ⟨_, ?_, HD.out, HB2.out, HL.out⟩, grown_setCell _ _ _ _⟩
    rw [heap_setCell_same _ g 0 _ 42 _ H1.out]; rfl
theorem ptake_h (w0 w : World) (g : Nat) (st : Option (List Int)) (k : Nat) (hk : k ≤ 100000) (h0 : 0 < w0.heap.size) (h : PSt w0 w g st) : Calls Try.prog 17 #[.pointer (some ⟨g, 0, none⟩), .int .i64 k] w (Ptook w0 w g (takeSt st k) (takeV st k)) := by
  cases st with
  | none => exact ptake_none w0 w g k h0 h
  | some l =>
    unfold takeSt takeV
    simp only
    by_cases hkl : k ≤ l.length
    · rw [if_pos hkl, if_pos hkl]
      rcases Nat.eq_zero_or_pos l.length with hl | hl
      · obtain rfl := List.eq_nil_of_length_eq_zero hl
        obtain rfl : k = 0 := by simpa using hkl
        exact ptake_nil w0 w g h
      · exact ptake_good w0 w g l k hl hkl h
    · rw [if_neg hkl, if_neg hkl]
      exact ptake_short w0 w g l k (by omega) hk h
/-- What number leaves. -/
def Pnum (w0 w : World) (g : Nat) (st : Option (List Int)) (n : Int) (e : Ending) (w' : World) : Prop := e = .returned (.int .u64 n) ∧ PSt w0 w' g st ∧ w.grownBy w' (some g)
theorem PSt.cells {w0 w : World} {g : Nat} {st : Option (List Int)} (h : PSt w0 w g st) : ∃ av n cp b, w.heap[g]? = some (.cells #[.slice av n cp, .bool b] 42) ∧ n ≤ 5000 := by
  cases st with
  | none => obtain ⟨a, b, c, h1, h2⟩ := h; exact ⟨a, b, c, _, h1, h2⟩
  | some l => obtain ⟨v, h1, ⟨av, b, o, cp, rfl, _⟩, _, hl⟩ := h; exact ⟨av, _, cp, _, h1, hl⟩
set_option maxHeartbeats 1000000 in
set_option maxRecDepth 100000 in
theorem pnumber_no (w0 w : World) (g : Nat) (st : Option (List Int)) (k : Int) (hs : sizeB k = false) (h : PSt w0 w g st) : Calls Try.prog 14 #[.pointer (some ⟨g, 0, none⟩), .int .i64 k] w (Pnum w0 w g none 0) := by
  obtain ⟨av, n, cp, bb, h1, h2⟩ := h.cells
  have hff := of_decide_eq_false hs
  have z8 : (k != 8) = true := by simp; omega
  have z1 : (k != 1) = true := by simp; omega
  have z2 : (k != 2) = true := by simp; omega
  have z4 : (k != 4) = true := by simp; omega
  have y8 : ¬ k = 8 := by omega
  have y1 : ¬ k = 1 := by omega
  have y2 : ¬ k = 2 := by omega
  have y4 : ¬ k = 4 := by omega
  have c1 := row_cell (j := 1) h1 rfl
  have f1 := unfrozen (j := 1) h1
  have H1 : Hid (w.heap[g]? = some (.cells #[.slice av n cp, .bool bb] 42)) := h1
  clear h1 h hs hff
  go_enter Try.func14, Try.ntmps14
  go_wp2
  go_ret
  refine ⟨rfl, ⟨av, n, cp, ?_, h2⟩, grown_setCell _ _ _ _⟩
  rw [heap_setCell_same _ g 1 _ 42 _ H1.out]; rfl
set_option maxHeartbeats 1000000 in
set_option maxRecDepth 100000 in
theorem pnumber_yes (w0 w : World) (g : Nat) (st : Option (List Int)) (m : Nat) (hm : m = 1 ∨ m = 2 ∨ m = 4 ∨ m = 8) (h0 : 0 < w0.heap.size) (hB : Below w0.heap.size w0 w) (hg : w0.heap.size ≤ g) (hV : Bytes (takeV st m)) (h : PSt w0 w g st) : Calls Try.prog 14 #[.pointer (some ⟨g, 0, none⟩), .int .i64 (m : Int)] w (Pnum w0 w g (takeSt st m) (valB (takeV st m))) := by
  have T : Hid (Calls Try.prog 17 #[.pointer (some ⟨g, 0, none⟩), .int .i64 (m : Int)] w (Ptook w0 w g (takeSt st m) (takeV st m))) := ptake_h w0 w g st m (by omega) h0 h
  have hlv := takeV_length st m
  have HBV : Hid (Bytes (takeV st m)) := hV
  have hm8 : m ≤ 8 := by omega
  generalize takeV st m = V at *
  generalize takeSt st m = S1 at *
  clear h hV
  rcases hm with rfl | rfl | rfl | rfl
  all_goals
    go_enter Try.func14, Try.ntmps14
    go_wp2_with fail
    refine T.out.mono ?_
    rintro e w2 ⟨v, rfl, p2, s2, g2⟩
    have B2 : Below w0.heap.size w0 w2 := hB.grown g2 hB.size (fun k hk => by injection hk with hk; subst hk; exact hg)
    obtain ⟨av, b, o, cp, rfl, q1, q2, q3, q4, q5, q6⟩ := p2
    have CELL : Hid (∀ j, j < V.length → w2.cell? ⟨b, o + j, none⟩ = some (.int .u8 (gi V j))) := fun j hj => by rw [B2.cell (show b < w0.heap.size from q5)]; exact rangeB q4 j hj
    have S2 : Hid (PSt w0 w2 g S1) := s2
    clear s2 q4 B2 T
    go_wp2_with fail
    go_loop [30, 5] (fun i n => ∃ j : Nat, j ≤ V.length ∧ i = .int .i64 j ∧ n = .int .u64 (valB (V.take j))) (fun i _ => V.length - (intOf i).toNat)
    case atStart => exact ⟨0, by omega, rfl, rfl⟩
    case round =>
      obtain ⟨j, hj, rfl, rfl⟩ := hrel
      by_cases hlt : j < V.length
      · obtain rfl := q3 (by omega)
        have hc := CELL.out j hlt
        have hji : (j : Int) < (V.length : Int) := by omega
        have HS : Hid (stepB (valB (V.take j)) (gi V j) = valB (V.take (j + 1))) := by
          unfold Hid
          rw [← valB_snoc, List.take_add_one]
          congr 2
          unfold gi; simp [hlt]
        have hbj := HBV.out (gi V j) (by unfold gi; simp [hlt])
        have hgm : gi V j % 18446744073709551616 = gi V j := by omega
        generalize valB (V.take j) = N at *
        generalize gi V j = X at *
        go_wp2
        exact ⟨⟨j + 1, by omega, by go_num, by rw [← HS.out]; rfl⟩, by simp [intOf]; omega⟩
      · have ej : j = V.length := by omega
        subst ej
        rw [List.take_length]
        go_wp2
        go_ret
        exact ⟨rfl, S2.out, g2⟩
theorem pnumber_h (w0 w : World) (g : Nat) (st : Option (List Int)) (k : Int) (h0 : 0 < w0.heap.size) (hB : Below w0.heap.size w0 w) (hg : w0.heap.size ≤ g) (h : PSt w0 w g st) : Calls Try.prog 14 #[.pointer (some ⟨g, 0, none⟩), .int .i64 k] w (Pnum w0 w g (rnumSt st k) (rnumV st k)) := by
  have hV : ∀ m, Bytes (takeV st m) := fun m x hx => by
    cases st with
    | none => simp [takeV] at hx
    | some l =>
      obtain ⟨_, _, _, hb, _⟩ := h
      unfold takeV at hx; simp only at hx; split at hx
      · exact hb x (List.mem_of_mem_take hx)
      · simp at hx
  unfold rnumSt rnumV
  cases hs : sizeB k with
  | false => simp only [Bool.false_eq_true, if_false]; exact pnumber_no w0 w g st k hs h
  | true =>
    obtain ⟨m, rfl, hm⟩ := sizeB_cases hs
    simp only [if_true, Int.toNat_natCast]
    exact pnumber_yes w0 w g st m hm h0 hB hg (hV m) h
end Go.Proofs.Ytjkccnfmmkhapaa
