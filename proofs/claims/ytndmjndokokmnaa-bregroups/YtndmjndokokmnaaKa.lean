import Derived.Test.YtndmjndokokmnaaTi
import Derived.Deep.MidRow
import Derived.Laws.MakeOwn
namespace Go.Proofs.Ytndmjndokokmnaa
set_option linter.unusedSimpArgs false
set_option linter.unusedVariables false
open Go.RowKit
open Go.Deep
theorem size_setC (g : Nat) : ∀ (vs : List Value) (o : Nat) (w : World), (w.setCells g o vs).heap.size = w.heap.size
  | [], _, _ => rfl
  | v :: r, o, w => by
    show ((w.setCell ⟨g, o, none⟩ v).setCells g (o + 1) r).heap.size = _
    rw [size_setC g r]; simp [World.setCell]
theorem heap_setC (g : Nat) {i : Nat} (hi : i ≠ g) : ∀ (vs : List Value) (o : Nat) (w : World), (w.setCells g o vs).heap[i]? = w.heap[i]?
  | [], _, _ => rfl
  | v :: r, o, w => by
    show ((w.setCell ⟨g, o, none⟩ v).setCells g (o + 1) r).heap[i]? = _
    rw [heap_setC g hi r]; exact Below.heap_setCell _ _ _ _ hi
theorem below_setC {B : Nat} {a : World} {g : Nat} (hg : B ≤ g) : ∀ (vs : List Value) (o : Nat) {w : World}, Below B a w → Below B a (w.setCells g o vs)
  | [], _, _, h => h
  | v :: r, o, w, h => below_setC hg r (o + 1) (h.setCell (p := ⟨g, o, none⟩) hg v)
theorem frozen_block {w w' : World} {b o : Nat} (e : w'.heap[b]? = w.heap[b]?) : w'.frozen? ⟨b, o, none⟩ = w.frozen? ⟨b, o, none⟩ := by simp [World.frozen?, e]
/-- A row of n nodes of the call's own, of which the first j are there. -/
structure RowT (base : Nat) (W : World) (g n j : Nat) (l : List T) : Prop where
  lt : g < W.heap.size
  th : W.there g 0 (n * 10)
  has : ∀ (k : Nat) (t : T), k < j → l[k]? = some t → ∃ u, W.rangeAt g (k * 10) (cN t.hd u) ∧ SV (fun b => base ≤ b ∧ b ≠ g) W u t.kids
theorem RowT.start {base : Nat} {W : World} {g n : Nat} {cs : Array Value} {l : List T} (hg : W.heap[g]? = some (.cells cs 55)) (hs : cs.size = n * 10) : RowT base W g n 0 l :=
  ⟨(Array.getElem?_eq_some_iff.1 hg).1, fun j hj => by
    rw [Nat.zero_add]
    exact ⟨by rw [cell_of_row W g j cs 55 (0, 0) hg]; simp; omega, unfrozen hg⟩, fun k t hk => by omega⟩
theorem RowT.keep {base : Nat} {W W' : World} {g n j : Nat} {l : List T} (h : RowT base W g n j l) (hb : base ≤ g) (hs : W.heap.size ≤ W'.heap.size) (hk : ∀ b, base ≤ b → b < W.heap.size → W'.heap[b]? = W.heap[b]?) : RowT base W' g n j l := by
  have hg := hk g hb h.lt
  refine ⟨Nat.lt_of_lt_of_le h.lt hs, fun q hq => ?_, fun k t hkj ht => ?_⟩
  · rw [World.cell?_of_block (w := W) hg, frozen_block (w := W) hg]; exact h.th q hq
  · obtain ⟨u, r, s⟩ := h.has k t hkj ht
    exact ⟨u, range_block r hg, s.keep hs fun b q1 q2 => ⟨q1, hk b q1.1 q2⟩⟩
theorem RowT.below {base : Nat} {W W' : World} {g n j : Nat} {l : List T} (h : RowT base W g n j l) (hb : base ≤ g) (b : Below W.heap.size W W') : RowT base W' g n j l :=
  h.keep hb b.size fun k _ hk => b.block k hk
theorem RowT.at {base : Nat} {W : World} {g n j k : Nat} {l : List T} (h : RowT base W g n j l) (hk : k < n) : W.there g (k * 10) 10 := fun q hq => by
  have := h.th (k * 10 + q) (by omega)
  rw [Nat.zero_add] at this; exact this
theorem cN_len (h : Hd) (u : Value) : (cN h u).length = 10 := rfl
theorem RowT.put {base : Nat} {W : World} {g n j : Nat} {l : List T} (h : RowT base W g n j l) (t : T) (ht : l[j]? = some t) (hj : j < n) (u : Value) (hu : SV (fun b => base ≤ b ∧ b ≠ g) W u t.kids) : RowT base (W.setCells g (j * 10) (cN t.hd u)) g n (j + 1) l := by
  have hz := size_setC g (cN t.hd u) (j * 10) W
  have ks : ∀ (v : Value) (m : List T), SV (fun b => base ≤ b ∧ b ≠ g) W v m → SV (fun b => base ≤ b ∧ b ≠ g) (W.setCells g (j * 10) (cN t.hd u)) v m := fun v m s =>
    s.keep (by omega) fun b q1 _ => ⟨q1, heap_setC g q1.2 _ _ _⟩
  refine ⟨by rw [hz]; exact h.lt, World.there_setCells h.th _ _ _, fun k t' hk ht' => ?_⟩
  by_cases hkj : k = j
  · subst hkj
    rw [ht] at ht'; injection ht' with ht'; subst ht'
    exact ⟨u, World.rangeAt_setCells_same _ _ _ _ (by rw [cN_len]; exact h.at hj), ks _ _ hu⟩
  · obtain ⟨v, r, s⟩ := h.has k t' (by omega) ht'
    exact ⟨v, World.rangeAt_setCells_apart r _ _ _ (.inr (by rw [cN_len, cN_len]; omega)), ks _ _ s⟩
theorem RowT.sv {base : Nat} {W : World} {g n : Nat} {l : List T} (h : RowT base W g n n l) (hn : n = l.length) (hb : base ≤ g) (hm : n ≤ 9223372036854775807) : SV (fun b => base ≤ b) W (.slice (some ⟨g, 0, none⟩) n n) l := by
  refine ⟨some ⟨g, 0, none⟩, n, g, 0, by rw [hn], by omega, hm, fun _ => rfl, LAt.of fun k t ht => ?_⟩
  obtain ⟨u, r, s⟩ := h.has k t (by rw [hn]; exact (List.getElem?_eq_some_iff.1 ht).1) ht
  obtain ⟨hd, m, rfl⟩ := t.out
  rw [T.hd_mk] at r
  rw [T.kids_mk] at s
  exact NAt.mk (u := u) (by rw [Nat.zero_add]; exact r) hb h.lt (s.weak fun b q _ => q.1)
/-- make([]Node, n). -/
theorem make53 (n : Nat) (h : n ≤ 1000000) : ∃ cs : Array Value, cs.size = n * 10 ∧ ∀ w : World, (Instr.makeSlice 53 (.int .i64 n) (.int .i64 n)).run Try.prog w = .ok (.slice (some ⟨w.heap.size, 0, none⟩) n n) (w.alloc (.cells cs 55)) := by
  obtain ⟨i, z, hi, hz, h1, h2, h3⟩ := info_partsT info55
  refine ⟨madeCells z.cells (n * 10), size_madeCells z.cells (n * 10), fun w => ?_⟩
  have := run_make (P := Try.prog) w 53 55 i z Try.underlying53 hi hz .i64 .i64 n n (by omega) (by omega) (by rw [h2]; omega) (by omega)
  simpa [h1] using this
/-- What copyOf answers of a tree. -/
def CopyP (t : T) : Prop := ∀ (w : World) (u : Value), SV AnyB w u t.kids → countT t ≤ 1000000 → Calls Try.prog 90 #[vN t.hd u] w fun e w' => ∃ u', e = .returned (vN t.hd u') ∧ SV (fun b => w.heap.size ≤ b) w' u' t.kids ∧ Below w.heap.size w w'
set_option maxHeartbeats 2000000 in
set_option maxRecDepth 100000 in
theorem copies_of (l : List T) (ih : ∀ t ∈ l, CopyP t) (hc : countL l ≤ 1000000) (w : World) (u : Value) (hu : SV AnyB w u l) : Calls Try.prog 89 #[u] w fun e w' => ∃ u', e = .returned u' ∧ SV (fun b => w.heap.size ≤ b) w' u' l ∧ Below w.heap.size w w' := by
  obtain ⟨av, cp, b, o, rfl, h1, h2, h3, h4⟩ := hu
  have hll := len_le_countL l
  obtain ⟨n, hn⟩ : ∃ n, n = l.length := ⟨_, rfl⟩
  have HN : Hid (n = l.length) := hn
  have HL : Hid (LAt AnyB w b o l) := h4
  have HA : Hid (0 < n → av = some ⟨b, o, none⟩) := by rw [hn]; exact h3
  have HC : Hid (countL l ≤ 1000000) := hc
  have IH : Hid (∀ t ∈ l, CopyP t) := ih
  have hn6 : n ≤ 1000000 := by omega
  rw [← hn] at h1 ⊢
  clear hn h3 h4 hc ih hll
  by_cases hn0 : n = 0
  · have hl0 : l = [] := List.eq_nil_of_length_eq_zero (by rw [← HN.out]; exact hn0)
    subst hl0
    clear HN HL HA HC IH
    subst hn0
    go_enter Try.func89, Try.ntmps89
    go_wp2
    go_ret
    exact ⟨_, rfl, SV.nil _ _, Below.refl _ _⟩
  have hn1 : ((n : Int) == 0) = false := by simpa using hn0
  have hn2 : ¬ (n : Int) = 0 := by omega
  obtain ⟨cs, hcs, hmk⟩ := make53 n hn6
  obtain rfl := HA.out (by omega)
  have R0 : Hid (RowT w.heap.size (w.alloc (.cells cs 55)) w.heap.size n 0 l) := RowT.start (heap_alloc_last w _) hcs
  have BW0 : Hid (Below w.heap.size w (w.alloc (.cells cs 55))) := (Below.refl _ _).alloc (Nat.le_refl _) _
  clear hcs hn0
  go_enter Try.func89, Try.ntmps89
  go_wp2
  go_loopw [14] (fun i wr => ∃ j : Nat, j ≤ n ∧ i = .int .i64 j ∧ Hid (RowT w.heap.size wr w.heap.size n j l) ∧ Hid (Below w.heap.size w wr)) (fun i _ => n - (intOf i).toNat)
  case atStart => exact ⟨0, by omega, rfl, R0.out, BW0.out⟩
  case round =>
    obtain ⟨j, hj, rfl, RW, BW⟩ := hrel
    by_cases hlt : j < n
    · obtain ⟨t, ht⟩ : ∃ t, l[j]? = some t := ⟨l[j]'(by rw [← HN.out]; exact hlt), List.getElem?_eq_getElem (by rw [← HN.out]; exact hlt)⟩
      have hmem := List.mem_of_getElem? ht
      have hat := HL.out.get ht
      have hct : countT t ≤ 1000000 := by have := count_mem hmem; have := HC.out; omega
      have hIH := IH.out t hmem
      have HT : Hid (l[j]? = some t) := ht
      obtain ⟨h', l', rfl⟩ := t.out
      obtain ⟨u', r1, _, r3, r4⟩ := hat.out
      have HR : Hid (wr.rangeAt b (o + j * 10) (cN h' u')) := range_block r1 (BW.out.block b r3)
      obtain ⟨av', cp', b', o', hu', _⟩ := id r4
      have CALL : Hid (∀ W, Below w.heap.size w W → Calls Try.prog 90 #[vN h' u'] W fun e w' => ∃ u6, e = .returned (vN h' u6) ∧ SV (fun b => W.heap.size ≤ b) w' u6 l' ∧ Below W.heap.size W w') := fun W hW => by
        have q := hIH W u' (by rw [T.kids_mk]; exact r4.below hW) hct
        rw [T.hd_mk, T.kids_mk] at q; exact q
      have hBX : Hid (Below wr.heap.size wr (wr.alloc (.cells (cN h' u').toArray 55))) := (Below.refl _ _).alloc (Nat.le_refl _) _
      have HB : Hid ((wr.alloc (.cells (cN h' u').toArray 55)).rangeAt wr.heap.size 0 (cN h' u')) := (BoxN.new 55 wr h' u').range
      subst hu'
      have i1 : (j : Int) < (n : Int) := by omega
      have i0 : (0 : Int) ≤ (j : Int) := by omega
      have HLT : Hid (j < n) := hlt
      have hwz : w.heap.size < wr.heap.size := RW.out.lt
      clear hmem hat hIH r1 r3 r4 ht hlt hct
      go_wp2_with (first | (refine loadN55 rfl _ rfl b (o + j * 10) rfl h' _ HR.out ?_) | (refine storeN55 rfl _ _ rfl rfl h' av' l'.length cp' rfl ?_) | (refine loadN55 rfl _ rfl wr.heap.size 0 rfl h' _ HB.out ?_) | (go_at_call 90; refine (CALL.out _ (BW.out.trans (hBX.out.mono BW.out.size))).mono ?_; rintro e w6 ⟨u6, rfl, s6, b6⟩; have B6 : Hid (Below wr.heap.size wr w6) := hBX.out.trans (b6.mono hBX.out.size); have R6 : Hid (RowT w.heap.size w6 w.heap.size n j l) := RW.out.below (Nat.le_refl _) B6.out; have S6 : Hid (SV (fun b => w.heap.size ≤ b ∧ b ≠ w.heap.size) w6 u6 l') := s6.weak (fun x hx _ => by have h7 := hBX.out.size; have : wr.heap.size ≤ x := Nat.le_trans h7 hx; exact ⟨by omega, by omega⟩); have O6 : Hid (u6.oneCell' = true) := s6.one; clear s6 b6) | (refine wpList_store_mid rfl 55 _ _ rfl w.heap.size (j * 10) (cN h' u6).toArray (by rfl) (by rfl) (R6.out.at HLT.out) size55 (all_oneCell_toArray (cN_ok O6.out)) ?_; rw [show (cN h' u6).toArray.toList = cN h' u6 from rfl]; have R7 : Hid (RowT w.heap.size (w6.setCells w.heap.size (j * 10) (cN h' u6)) w.heap.size n (j + 1) l) := (by have q := R6.out.put (T.mk h' l') HT.out HLT.out u6 (by rw [T.kids_mk]; exact S6.out); rw [T.hd_mk] at q; exact q); have B7 : Hid (Below w.heap.size w (w6.setCells w.heap.size (j * 10) (cN h' u6))) := below_setC (Nat.le_refl _) _ _ (BW.out.trans (B6.out.mono BW.out.size)); generalize (w6.setCells w.heap.size (j * 10) (cN h' u6)) = w7 at *))
      go_roundw
      case rel => exact ⟨j + 1, by have := HLT.out; omega, by go_num, R7.out, B7.out⟩
      case measure => have := HLT.out; simp [intOf]; omega
    · have i1 : ¬ (j : Int) < (n : Int) := by omega
      have hjn : j = n := by omega
      have RE : Hid (SV (fun b => w.heap.size ≤ b) wr (.slice (some ⟨w.heap.size, 0, none⟩) n n) l) := by
        have q := RW.out
        rw [hjn] at q
        exact q.sv HN.out (Nat.le_refl _) (by omega)
      clear hlt hjn
      go_wp2
      go_ret
      exact ⟨_, rfl, RE.out, BW.out⟩
end Go.Proofs.Ytndmjndokokmnaa
