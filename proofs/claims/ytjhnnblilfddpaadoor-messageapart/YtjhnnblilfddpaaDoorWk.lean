import Derived.Test.YtjhnnblilfddpaaDoorWj
namespace Go.Proofs.YtjhnnblilfddpaaDoor
set_option linter.unusedSimpArgs false
set_option linter.unusedVariables false
open Go.RowKit
/-- The value v is a slice that holds the bytes bs, in memory that w has. -/
def PartAt (w : World) (v : Value) (bs : List Int) : Prop := ∃ (av : Option Addr) (b o cp : Nat), v = .slice av bs.length cp ∧ bs.length ≤ cp ∧ cp ≤ 9223372036854775807 ∧ (0 < bs.length → av = some ⟨b, o, none⟩) ∧ w.rangeAt b o (vB bs).toList ∧ b < w.heap.size ∧ (av = none → cp = 0)
theorem range_below {w w' : World} {b o : Nat} {cs : List Value} (h : w.rangeAt b o cs) (hb : Below w.heap.size w w') (hlt : b < w.heap.size) : w'.rangeAt b o cs := fun j v hv => by
  rw [hb.cell (show b < w.heap.size from hlt)]; exact h j v hv
theorem PartAt.below {w w' : World} {v : Value} {bs : List Int} (h : PartAt w v bs) (hb : Below w.heap.size w w') : PartAt w' v bs := by
  obtain ⟨av, b, o, cp, h1, h2, h3, h4, h5, h6, h7⟩ := h
  exact ⟨av, b, o, cp, h1, h2, h3, h4, range_below h5 hb h6, Nat.lt_of_lt_of_le h6 hb.size, h7⟩
theorem remB_nil : remB [] = zs 64 := by simp [remB]
/-- Write, of whatever slice. -/
theorem write_part (hb : Nat) (all bs ws : List Int) (hws : ws.length = 8) (hwa : all ≠ [] → ws = wordsOf all) (w : World) (hL : Laid w) (h2 : 2 ≤ hb)
    (hh : w.heap[hb]? = some (.cells (hObj ws (remB all) all.length) 37)) (v : Value) (w0 : World) (hv : PartAt w0 v bs) (hb0 : Below w0.heap.size w0 w) (hne : w0.heap.size ≤ hb) (hn : all.length + bs.length ≤ 1152921504606846976) :
    Calls Tryd.prog 20 #[.pointer (some ⟨hb, 0, none⟩), v] w fun e w' => e = .returned (.tuple #[]) ∧
      w'.heap[hb]? = some (.cells (hObj (wordsOf (all ++ bs)) (remB (all ++ bs)) (all ++ bs).length) 37) ∧ w.grownBy w' (some hb) := by
  obtain ⟨av, b, o, cp, rfl, h1, h3, h4, h5, h6, _⟩ := hv
  exact write_any hb all bs ws hws hwa w hL h2 hh av b o cp h1 h3 h4 (range_below h5 hb0 h6) (by omega) hn
set_option maxRecDepth 100000 in
set_option maxHeartbeats 1000000 in
theorem of_any (pb po n pc : Nat) (vs : List Value) (bss : List (List Int)) (hvn : vs.length = n) (hbn : bss.length = n) (w : World) (hL : Laid w) (hr : w.rangeAt pb po vs) (hpb : pb < w.heap.size)
    (hp : ∀ (i : Nat) (v : Value) (bs : List Int), vs[i]? = some v → bss[i]? = some bs → PartAt w v bs) (hn : bss.flatten.length ≤ 1000000000000000000) (hn63 : n ≤ 4611686018427387904) :
    Calls Tryd.prog 17 #[.slice (some ⟨pb, po, none⟩) n pc] w fun e w' => e = .returned (.agg (vB (hashOf bss.flatten))) ∧ Below w.heap.size w w' := by
  have hz := zero38
  have h2 := hL.two
  go_enter Tryd.func17, Tryd.ntmps17
  go_wp2
  go_loopw [8] (fun i wr => ∃ (k : Nat) (ws : List Int), k ≤ n ∧ i = .int .i64 k ∧ Below w.heap.size w wr ∧ w.heap.size + 2 ≤ wr.heap.size ∧ wr.heap[w.heap.size]? = some (.cells (vB (zs 32)) 24) ∧ ws.length = 8 ∧ ((bss.take k).flatten ≠ [] → ws = wordsOf (bss.take k).flatten) ∧ wr.heap[w.heap.size + 1]? = some (.cells (hObj ws (remB (bss.take k).flatten) (bss.take k).flatten.length) 37)) (fun i _ => n - (intOf i).toNat)
  case atStart =>
    exact ⟨0, zs 8, by omega, rfl, ((Below.refl _ _).alloc (Nat.le_refl _) _).alloc (by simp) _, by simp, heap_alloc2_old _ _ _, rfl, fun h => absurd rfl h, by rw [List.take_zero, List.flatten_nil, remB_nil]; exact heap_alloc2_new _ _ _⟩
  case round =>
    obtain ⟨k, ws, hk, rfl, hbl, hsz, h0, hws, hwa, h1⟩ := hrel
    by_cases hlt : k < n
    · obtain ⟨v, hv⟩ : ∃ v, vs[k]? = some v := ⟨vs[k], List.getElem?_eq_getElem (by omega)⟩
      obtain ⟨bs, hbs⟩ : ∃ bs, bss[k]? = some bs := ⟨bss[k], List.getElem?_eq_getElem (by omega)⟩
      have hpk := hp k v bs hv hbs
      have htk : (bss.take (k + 1)).flatten = (bss.take k).flatten ++ bs := by
        rw [List.take_add_one, hbs]; simp
      have hlk : (bss.take k).flatten.length + bs.length ≤ 1000000000000000000 := by
        have e : bss.flatten = (bss.take (k + 1)).flatten ++ (bss.drop (k + 1)).flatten := by rw [← List.flatten_append, List.take_append_drop]
        rw [e, htk] at hn
        simp only [List.length_append] at hn
        omega
      have hc : wr.cell? ⟨pb, po + k, none⟩ = some v := by rw [hbl.cell (show pb < w.heap.size from hpb)]; exact hr k v hv
      have HTK : Hid ((bss.take (k + 1)).flatten = (bss.take k).flatten ++ bs) := htk
      have HWA : Hid ((bss.take k).flatten ≠ [] → ws = wordsOf (bss.take k).flatten) := hwa
      clear htk hwa hv hbs hp hn
      generalize (bss.take k).flatten = A at *
      go_wp2_with fail
      have hLr := hL.below hbl hL.two
      refine (write_part (w.heap.size + 1) A bs ws hws HWA.out wr hLr (by omega) h1 v w hpk hbl (by omega) (by omega)).mono ?_
      rintro e w4 ⟨rfl, h4, g4⟩
      have b4 : Below w.heap.size w w4 := hbl.grown g4 (by omega) (fun k hk => by injection hk; omega)
      have h40 : w4.heap[w.heap.size]? = some (.cells (vB (zs 32)) 24) := by rw [g4.block _ (by omega) (by simp)]; exact h0
      have s4 : w.heap.size + 2 ≤ w4.heap.size := Nat.le_trans hsz g4.size
      clear h1 h0 hc hbl hsz g4 hLr
      go_wp2
      go_roundw
      case rel =>
        refine ⟨k + 1, wordsOf (A ++ bs), by omega, by go_num, b4, s4, h40, wordsOf_length _, ?_, ?_⟩
        · intro _; rw [HTK.out]
        · rw [HTK.out]; exact h4
      case measure => simp [intOf]; omega
    · have ek : (bss.take k).flatten = bss.flatten := by rw [List.take_of_length_le (by omega)]
      rw [ek] at h1 hwa
      have HWA : Hid (bss.flatten ≠ [] → ws = wordsOf bss.flatten) := hwa
      clear ek hp hwa
      have hLr := hL.below hbl hL.two
      go_wp2_with fail
      refine (sum_any (w.heap.size + 1) bss.flatten ws hws HWA.out wr hLr h1 hn).mono ?_
      rintro e w5 ⟨rfl, b5⟩
      have h50 : w5.heap[w.heap.size]? = some (.cells (vB (zs 32)) 24) := by rw [b5.block _ (by omega)]; exact h0
      have b05 : Below w.heap.size w w5 := hbl.trans (b5.mono (by omega))
      clear h1 h0 hbl b5 hLr
      go_wp2_with (first | (refine store24 rfl _ _ rfl _ (hashOf bss.flatten) rfl rfl (hashOf_length bss.flatten) 24 (zs 32) rfl h50 ?_))
      exact bodyPost_ret (v := .agg (vB (hashOf bss.flatten))) (results_cell_row (p := 2) (ty := 24) Tryd.results17 _ _ w.heap.size 24 _ (0, 0) _ rfl (setRow_same h50) Tryd.underlying24 rfl (by rw [vB_size, hashOf_length]; kernel_rfl)) rfl ⟨rfl, below_setRow b05 (Nat.le_refl _) _⟩
set_option maxRecDepth 100000 in
set_option maxHeartbeats 1000000 in
theorem sum1_any (v : Value) (bs : List Int) (w : World) (hL : Laid w) (hp : PartAt w v bs) (hn : bs.length ≤ 1000000000000000000) :
    Calls Tryd.prog 41 #[v] w fun e w' => e = .returned (.agg (vB (hashOf bs))) ∧ Below w.heap.size w w' := by
  have h2 := hL.two
  obtain ⟨av, b, o, cp, hv, hrest⟩ := hp
  subst hv
  go_enter Tryd.func41, Tryd.ntmps41
  go_wp2_with fail
  have hbw : Below w.heap.size w ((w.alloc (Obj.cells (vB (zs 32)) 24)).alloc (Obj.cells #[.slice av bs.length cp] 22)) := ((Below.refl _ _).alloc (Nat.le_refl _) _).alloc (by simp) _
  have f0 := heap_alloc2_old w (Obj.cells (vB (zs 32)) 24) (Obj.cells #[.slice av bs.length cp] 22)
  have f1 := heap_alloc2_new w (Obj.cells (vB (zs 32)) 24) (Obj.cells #[.slice av bs.length cp] 22)
  have fs : ((w.alloc (Obj.cells (vB (zs 32)) 24)).alloc (Obj.cells #[.slice av bs.length cp] 22)).heap.size = w.heap.size + 2 := by simp
  refine (of_any (w.heap.size + 1) 0 1 1 [.slice av bs.length cp] [bs] rfl rfl ((w.alloc (Obj.cells (vB (zs 32)) 24)).alloc (Obj.cells #[.slice av bs.length cp] 22)) (hL.below hbw h2) ?_ (by omega) ?_ (by simpa using hn) (by omega)).mono ?_
  · intro j v hv
    have hj : j = 0 := by have := (List.getElem?_eq_some_iff.1 hv).1; simp at this; exact this
    subst hj
    simp at hv; subst hv
    exact row_cell f1 rfl
  · intro i v bs' hv hbs
    have hi : i = 0 := by have := (List.getElem?_eq_some_iff.1 hv).1; simp at this; exact this
    subst hi
    simp at hv hbs; subst hv hbs
    exact PartAt.below ⟨av, b, o, cp, rfl, hrest⟩ hbw
  · rintro e w5 ⟨rfl, b5⟩
    have h50 : w5.heap[w.heap.size]? = some (.cells (vB (zs 32)) 24) := by rw [b5.block _ (by omega)]; exact f0
    have b05 : Below w.heap.size w w5 := hbw.trans (b5.mono (by omega))
    clear b5 f0 f1 fs hbw
    have ef : [bs].flatten = bs := by simp
    rw [ef]
    clear ef
    go_wp2_with (first | (refine store24 rfl _ _ rfl _ (hashOf bs) rfl rfl (hashOf_length bs) 24 (zs 32) rfl h50 ?_))
    exact bodyPost_ret (v := .agg (vB (hashOf bs))) (results_cell_row (p := 2) (ty := 24) Tryd.results41 _ _ w.heap.size 24 _ (0, 0) _ rfl (setRow_same h50) Tryd.underlying24 rfl (by rw [vB_size, hashOf_length]; kernel_rfl)) rfl ⟨rfl, below_setRow b05 (Nat.le_refl _) _⟩
end Go.Proofs.YtjhnnblilfddpaaDoor
