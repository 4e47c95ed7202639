import Derived.Test.YtndmjndokokmnaaRx
namespace Go.Proofs.Ytndmjndokokmnaa
set_option linter.unusedSimpArgs false
set_option linter.unusedVariables false
open Go.RowKit
open Go.Deep
theorem RG.out {w : World} {g k : Nat} {l : List UInt8} (h : RG w g l k) : ∃ s : ByteArray, w.cell? ⟨g, 0, none⟩ = some (.string s) ∧ s.data.toList = l ∧ w.cell? ⟨g, 1, none⟩ = some (.int .i64 (k : Int)) ∧ w.frozen? ⟨g, 0, none⟩ = false ∧ w.frozen? ⟨g, 1, none⟩ = false ∧ g < w.heap.size := h
theorem BoxN.cellO {E : TypeId} {w : World} {g r o : Nat} {h : Hd} {u v : Value} (k : BoxN E w g h u) (hr : g ≠ r) : BoxN E (w.setCell ⟨r, o, none⟩ v) g h u := k.blk (Below.heap_setCell _ _ _ _ hr)
theorem extract_drop (s : ByteArray) (n : Nat) : (s.extract n s.size).data.toList = s.data.toList.drop n := by
  rw [Lib.extract_data, List.take_of_length_le]
  rw [List.length_drop, ← Lib.size_eq]; exact Nat.le_refl _
set_option maxHeartbeats 2000000 in
set_option maxRecDepth 100000 in
theorem counted_any (S : Nat → Prop) (g k : Nat) (l : List UInt8) (h : Hd) (ls : List T) (w : World) (u : Value) (hr : RG w g l k) (hp : 2 ≤ l.length) (hl : l.length ≤ 4000000) (hM : MaxL w) (hg0 : 0 < g) (hu : SV S w u ls) (hS : ∀ b, S b → b ≠ g) :
    Calls Try.prog 107 #[.pointer (some ⟨g, 0, none⟩), vN h u] w (TreO (fun b => S b ∨ w.heap.size ≤ b) (match countP (l.drop 2) with
      | none => .error l
      | some (m, q, r') => .ok (tRep (m : Int) q (.mk h ls), k, r')) w g) := by
  have HU : Hid (SV (fun b => S b ∧ b < w.heap.size) w u ls) := hu.weak fun b q1 q2 => ⟨q1, q2⟩
  have HS : Hid (∀ b, S b → b ≠ g) := hS
  have HR : Hid (RG w g l k) := hr
  obtain ⟨s, hc, hs, hc1, hf, hf1, hg⟩ := hr
  obtain ⟨R, hR⟩ : ∃ R : Except (List UInt8) (T × Nat × List UInt8), R = (match countP (l.drop 2) with
      | none => .error l
      | some (m, q, r') => .ok (tRep (m : Int) q (.mk h ls), k, r')) := ⟨_, rfl⟩
  rw [← hR]
  have HRR : Hid (R = (match (if (Lib.cut (l.drop 2) [92, 125]).2.2 then (timesQ (Lib.cut (l.drop 2) [92, 125]).1).map fun x => (x.1, x.2, (Lib.cut (l.drop 2) [92, 125]).2.1) else none) with
      | none => .error l
      | some (m, q, r') => .ok (tRep (m : Int) q (.mk h ls), k, r'))) := hR
  have hcl := cut_len (l.drop 2) [92, 125]
  have hdl : (l.drop 2).length ≤ 4000000 := by rw [List.length_drop]; omega
  obtain ⟨x1, y1, bb, sz⟩ := two_boxes 55 w h hd0 u (.slice none 0 0)
  have X1 : Hid (BoxN 55 ((w.alloc (.cells (cN h u).toArray 55)).alloc (.cells (cN hd0 (.slice none 0 0)).toArray 55)) w.heap.size h u) := x1
  have Y1 : Hid (BoxN 55 ((w.alloc (.cells (cN h u).toArray 55)).alloc (.cells (cN hd0 (.slice none 0 0)).toArray 55)) (w.heap.size + 1) hd0 (.slice none 0 0)) := y1
  have B1 : Hid (Below w.heap.size w ((w.alloc (.cells (cN h u).toArray 55)).alloc (.cells (cN hd0 (.slice none 0 0)).toArray 55))) := bb
  have CU : Hid (∀ W, MaxL W → Calls Try.prog 113 #[.string (s.extract 2 s.size), .string ⟨#[92, 125]⟩] W fun e w' => e = .returned (.tuple #[.string ⟨(Lib.cut (l.drop 2) [92, 125]).1.toArray⟩, .string ⟨(Lib.cut (l.drop 2) [92, 125]).2.1.toArray⟩, .bool (Lib.cut (l.drop 2) [92, 125]).2.2]) ∧ Below W.heap.size W w' ∧ MaxL w') := fun W hW => by
    have q := cut_any (s.extract 2 s.size) [92, 125] (by rw [Lib.size_eq, extract_drop, hs]; exact hdl) W hW
    rw [extract_drop, hs] at q; exact q
  have MX : Hid (MaxL ((w.alloc (.cells (cN h u).toArray 55)).alloc (.cells (cN hd0 (.slice none 0 0)).toArray 55))) := (hM.alloc _).alloc _
  clear hR
  generalize Lib.cut (l.drop 2) [92, 125] = q at *
  obtain ⟨inner, rest, closed⟩ := q
  simp only at CU hcl HRR
  have TM : Hid (∀ W, MaxL W → Calls Try.prog 122 #[.string ⟨inner.toArray⟩] W (TimO (timesQ inner) W)) := fun W hW => bounds_any inner (by omega) W hW
  have hss : (2 : Int) ≤ s.size := by rw [Lib.size_eq, hs]; omega
  have hsm : (s.size : Int) ≤ 4000000 := by rw [Lib.size_eq, hs]; omega
  generalize timesQ inner = o at *
  clear x1 y1 bb sz hu hM hcl hdl hs hp hl hS
  obtain ⟨kk, c, x0, x1, x2, x3, nn, lo, hi⟩ := h
  change Calls Try.prog 107 #[.pointer (some ⟨g, 0, none⟩), .agg #[.int .i64 kk, .int .u8 (c : Int), .int .u64 (x0 : Int), .int .u64 x1, .int .u64 x2, .int .u64 x3, .int .i64 nn, .int .i64 lo, .int .i64 hi, u]] w _
  go_enter Try.func107, Try.ntmps107
  go_wp2_with fail
  refine (CU.out _ MX.out).mono ?_
  rintro e w2 ⟨rfl, b2, m2⟩
  have B2 : Hid (Below w.heap.size w w2) := B1.out.trans (b2.mono B1.out.size)
  have M2 : Hid (MaxL w2) := m2
  have X2 : Hid (BoxN 55 w2 w.heap.size ⟨kk, c, x0, x1, x2, x3, nn, lo, hi⟩ u) := X1.out.below b2 X1.out.lt
  have Y2 : Hid (BoxN 55 w2 (w.heap.size + 1) hd0 (.slice none 0 0)) := Y1.out.below b2 Y1.out.lt
  clear b2 m2 CU MX X1 Y1 B1
  go_wp2_with fail
  refine (TM.out _ M2.out).mono ?_
  rintro e w3 ⟨a, b, rfl, hab, b3, m3⟩
  have HAB : Hid (∀ x, o = some x → a = (x.1 : Int) ∧ b = x.2) := hab
  have B3 : Hid (Below w.heap.size w w3) := B2.out.trans (b3.mono B2.out.size)
  have X3 : Hid (BoxN 55 w3 w.heap.size ⟨kk, c, x0, x1, x2, x3, nn, lo, hi⟩ u) := X2.out.below b3 X2.out.lt
  have Y3 : Hid (BoxN 55 w3 (w.heap.size + 1) hd0 (.slice none 0 0)) := Y2.out.below b3 Y2.out.lt
  have R3 : Hid (RG w3 g l k) := HR.out.below B3.out hg
  clear b3 m3 hab TM X2 Y2 M2 B2 hc hc1 hf hf1
  cases closed with
  | false =>
    have HE : Hid (R = .error l) := HRR
    clear HRR
    go_wp2_with (refine storeB55 rfl _ _ rfl (w.heap.size + 1) rfl hd0 (.slice none 0 0) rfl rfl hd0 _ Y3.out ?_)
    exact bodyPost_ret (v := .tuple #[vN hd0 (.slice none 0 0), .bool false]) (res55b 4 5 Try.results107 _ _ (w.heap.size + 1) _ _ _ rfl rfl (BoxN.row Y3.out _ _)) rfl (by rw [HE.out]; exact ⟨k, rfl, R3.out.row _ _ (by omega), grown_row (grown_below B3.out _) (by omega) _⟩)
  | true =>
    cases o with
    | none =>
      have HE : Hid (R = .error l) := HRR
      clear HRR
      go_wp2_with (refine storeB55 rfl _ _ rfl (w.heap.size + 1) rfl hd0 (.slice none 0 0) rfl rfl hd0 _ Y3.out ?_)
      exact bodyPost_ret (v := .tuple #[vN hd0 (.slice none 0 0), .bool false]) (res55b 4 5 Try.results107 _ _ (w.heap.size + 1) _ _ _ rfl rfl (BoxN.row Y3.out _ _)) rfl (by rw [HE.out]; exact ⟨k, rfl, R3.out.row _ _ (by omega), grown_row (grown_below B3.out _) (by omega) _⟩)
    | some x =>
      obtain ⟨m, q⟩ := x
      obtain ⟨rfl, rfl⟩ := HAB.out _ rfl
      have HE : Hid (R = .ok (tRep (m : Int) b (.mk ⟨kk, c, x0, x1, x2, x3, nn, lo, hi⟩ ls), k, rest)) := HRR
      obtain ⟨s3, hc, _, hc1, hf, hf1, hg3⟩ := R3.out.out
      have hz4 : (w3.setCell ⟨g, 0, none⟩ (.string ⟨rest.toArray⟩)).heap.size = w3.heap.size := size_set0 _ _ _
      have R4 : Hid (RG (w3.setCell ⟨g, 0, none⟩ (.string ⟨rest.toArray⟩)) g rest k) := by have := R3.out.set ⟨rest.toArray⟩; rwa [mkl] at this
      have X4 : Hid (BoxN 55 (w3.setCell ⟨g, 0, none⟩ (.string ⟨rest.toArray⟩)) w.heap.size ⟨kk, c, x0, x1, x2, x3, nn, lo, hi⟩ u) := X3.out.cellO (by omega)
      have Y4 : Hid (BoxN 55 (w3.setCell ⟨g, 0, none⟩ (.string ⟨rest.toArray⟩)) (w.heap.size + 1) hd0 (.slice none 0 0)) := Y3.out.cellO (by omega)
      have G4 : Hid (w.grownBy (w3.setCell ⟨g, 0, none⟩ (.string ⟨rest.toArray⟩)) (some g)) := grown_trans (grown_below B3.out _) (grown_cell _ _ _ _)
      have U4 : Hid (SV (fun b => S b ∧ b < w.heap.size) (w3.setCell ⟨g, 0, none⟩ (.string ⟨rest.toArray⟩)) u ls) := (HU.out.below B3.out).keep (by rw [hz4]; omega) fun b q1 q2 => ⟨q1, Below.heap_setCell _ _ _ _ (HS.out b q1.1)⟩
      have hw3 : w.heap.size ≤ w3.heap.size := B3.out.size
      have hy := Y3.out.lt
      have RP : Hid (Calls Try.prog 106 #[.int .i64 (m : Int), .int .i64 b, .agg #[.int .i64 kk, .int .u8 (c : Int), .int .u64 (x0 : Int), .int .u64 x1, .int .u64 x2, .int .u64 x3, .int .i64 nn, .int .i64 lo, .int .i64 hi, u]] (w3.setCell ⟨g, 0, none⟩ (.string ⟨rest.toArray⟩)) fun e w' => ∃ u', e = .returned (vN (hRep (m : Int) b) u') ∧ SV (fun x => (S x ∧ x < w.heap.size) ∨ w3.heap.size ≤ x) w' u' [.mk ⟨kk, c, x0, x1, x2, x3, nn, lo, hi⟩ ls] ∧ Below w3.heap.size (w3.setCell ⟨g, 0, none⟩ (.string ⟨rest.toArray⟩)) w') := by
        have := repeat_any (fun b => S b ∧ b < w.heap.size) (m : Int) b ⟨kk, c, x0, x1, x2, x3, nn, lo, hi⟩ ls _ u U4.out
        rw [hz4] at this; exact this
      clear HRR HAB X3 Y3 R3 hc1 hf1 hg3 HU U4 hz4
      go_wp2_with (first | (refine loadN55 rfl _ rfl w.heap.size 0 rfl ⟨kk, c, x0, x1, x2, x3, nn, lo, hi⟩ _ X4.out.range ?_) | (go_at_call 106; refine RP.out.mono ?_; rintro e w5 ⟨u5, rfl, s5, b5⟩; have S5 : Hid (SV (fun x => (S x ∧ x < w.heap.size) ∨ w3.heap.size ≤ x) w5 u5 [.mk ⟨kk, c, x0, x1, x2, x3, nn, lo, hi⟩ ls]) := s5; have O5 : Hid (u5.oneCell' = true) := s5.one; have Y5 : Hid (BoxN 55 w5 (w.heap.size + 1) hd0 (.slice none 0 0)) := Y4.out.below b5 (by omega); have R5 : Hid (RG w5 g rest k) := R4.out.below b5 (by omega); have G5 : Hid (w.grownBy w5 (some g)) := grown_trans G4.out (grown_below (by rw [size_set0]; exact b5) _); clear s5 b5) | (refine storeB55 rfl _ _ rfl (w.heap.size + 1) rfl (hRep (m : Int) b) u5 O5.out rfl hd0 _ Y5.out ?_))
      exact bodyPost_ret (v := .tuple #[vN (hRep (m : Int) b) u5, .bool true]) (res55b 4 5 Try.results107 _ _ (w.heap.size + 1) _ _ _ rfl rfl (BoxN.row Y5.out _ _)) rfl (by
        rw [HE.out]
        refine ⟨u5, rfl, ?_, R5.out.row _ _ (by omega), grown_row G5.out (by omega) _⟩
        exact S5.out.keep (by simp [World.setRow]) fun b q _ => ⟨(by rcases q with q | q; exact .inl q.1; exact .inr (by omega)), setRow_other _ _ _ _ (by omega)⟩)
end Go.Proofs.Ytndmjndokokmnaa
