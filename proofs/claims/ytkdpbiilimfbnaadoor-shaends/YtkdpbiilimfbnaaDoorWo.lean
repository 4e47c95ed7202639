import Derived.Test.YtkdpbiilimfbnaaDoorWn
import Derived.Laws.BytesArg
import Derived.Laws.Concat
namespace Go.Proofs.YtkdpbiilimfbnaaDoor
set_option linter.unusedSimpArgs false
set_option linter.unusedVariables false
open Go.RowKit
set_option maxHeartbeats 400000 in
theorem reset_nil (w : World) : Calls Tryd.prog 19 #[.pointer none] w fun e w' => e = .returned (.tuple #[]) ∧ w' = w := by
  go_enter Tryd.func19, Tryd.ntmps19
  go_wp2
  exact bodyPost_ret (v := .tuple #[]) (by simp [results, Tryd.results19, go_sem]) rfl ⟨rfl, rfl⟩
set_option maxHeartbeats 400000 in
theorem len_nil (w : World) : Calls Tryd.prog 18 #[.pointer none] w fun e w' => e = .returned (.int .i64 0) ∧ w' = w := by
  go_enter Tryd.func18, Tryd.ntmps18
  go_wp2
  go_ret
  exact ⟨rfl, rfl⟩
theorem ownB_new (w : World) : OwnB (w.alloc (.cells #[] 5)) w.heap.size (.slice (some ⟨w.heap.size, 0, none⟩) 0 0) [] :=
  ⟨rfl, Or.inr ⟨w.heap.size, 0, #[], rfl, Nat.le_refl _, heap_alloc_new _ _, Nat.le_refl _, by unfold maxLen; omega, rfl, rfl⟩⟩
theorem run_conv {w : World} {v : Value} {bs : List Int} (h : PartAt w v bs) : (convert 22 9 v).run Tryd.prog w = .ok (.string (strOfNums bs)) w := by
  obtain ⟨av, b, o, cp, rfl, h1, h2, h3, h4, h5, h6⟩ := h
  cases av with
  | none =>
    have hl0 : bs.length = 0 := by
      rcases Nat.eq_zero_or_pos bs.length with h0 | h0
      · exact h0
      · have := h3 h0; cases this
    have hy : bs = [] := List.eq_nil_of_length_eq_zero hl0
    subst hy
    rw [run_convert_bytes_nil w 22 5 Tryd.underlying22 Tryd.underlying5 _ _ 9 Tryd.underlying9]
    rfl
  | some ad =>
    rcases Nat.eq_zero_or_pos bs.length with h0 | h0
    · have hy : bs = [] := List.eq_nil_of_length_eq_zero h0
      subst hy
      rw [run_convert_bytes_string w 22 9 5 _ _ _ Tryd.underlying22 Tryd.underlying5 Tryd.underlying9]
      exact run_bytesToString w ad 0 cp [] (by simpa using run_loadCells_list (P := Tryd.prog) w ad [] (by simp))
    · have e := h3 h0
      injection e with e; subst e
      exact run_convert_bytes_arg w 22 5 Tryd.underlying22 Tryd.underlying5 b o bs.length cp bs rfl (fun i hi => rangeB h4 i hi) 9 Tryd.underlying9
theorem eq24_zero (w : World) : (Op.equalIn 10000 24 (.agg (vB (zs 32))) (.agg #[.int .u8 0, .int .u8 0, .int .u8 0, .int .u8 0, .int .u8 0, .int .u8 0, .int .u8 0, .int .u8 0, .int .u8 0, .int .u8 0, .int .u8 0, .int .u8 0, .int .u8 0, .int .u8 0, .int .u8 0, .int .u8 0, .int .u8 0, .int .u8 0, .int .u8 0, .int .u8 0, .int .u8 0, .int .u8 0, .int .u8 0, .int .u8 0, .int .u8 0, .int .u8 0, .int .u8 0, .int .u8 0, .int .u8 0, .int .u8 0, .int .u8 0, .int .u8 0])).run Tryd.prog w = .ok true w := eq24_self 9998 (zs 32) rfl w
theorem str_add (bs : List Int) : strOfNums bs ++ (⟨#[7]⟩ : ByteArray) = strOfNums (bs ++ [7]) := by
  have h := ByteArray.mk_append_mk (bs.map fun n => UInt8.ofNat n.toNat) [7]
  unfold strOfNums
  rw [h]
  simp
theorem range_first {w : World} {b o : Nat} {x y : List Int} (h : w.rangeAt b o (vB (x ++ y)).toList) : w.rangeAt b o (vB x).toList := fun j v hv => by
  refine h j v ?_
  have hj : j < x.length := by have := (List.getElem?_eq_some_iff.1 hv).1; rw [Array.length_toList, vB_size] at this; exact this
  unfold vB at hv ⊢
  simp [List.getElem?_append, hj] at hv ⊢
  exact hv
theorem range_two {w : World} {x y : Value} {t : TypeId} (h : (w.alloc (Obj.cells #[x, y] t)).heap[w.heap.size]? = some (Obj.cells #[x, y] t)) : (w.alloc (Obj.cells #[x, y] t)).drew.rangeAt w.heap.size 0 [x, y] := fun j v hv => by
  rw [Nat.zero_add]
  show (w.alloc (Obj.cells #[x, y] t)).cell? _ = _
  rw [cell_of_row _ _ j _ t (0, 0) h]; simpa using hv
theorem two_parts {w : World} {x : Value} {bs : List Int} (h : PartAt w x bs) : ∀ (i : Nat) (v : Value) (l : List Int), [x, x][i]? = some v → [bs, bs][i]? = some l → PartAt w v l := fun i v l h1 h2 => by
  match i, h1, h2 with
  | 0, h1, h2 => simp at h1 h2; subst h1 h2; exact h
  | 1, h1, h2 => simp at h1 h2; subst h1 h2; exact h
theorem OwnB.alloc {w : World} {base : Nat} {v : Value} {l : List Int} (h : OwnB w base v l) (ob : Obj) : OwnB (w.alloc ob) base v l := by
  obtain ⟨h1, h2⟩ := h
  refine ⟨h1, ?_⟩
  rcases h2 with h2 | ⟨g, cap, cur, hv, hg, hh, r⟩
  · exact Or.inl h2
  · exact Or.inr ⟨g, cap, cur, hv, hg, by rw [Below.heap_alloc _ _ _ (Array.getElem?_eq_some_iff.1 hh).1]; exact hh, r⟩
theorem part_new (w : World) (l : List Int) (hl : l.length ≤ 9223372036854775807) : PartAt (w.alloc (.cells (vB l) 5)) (.slice (some ⟨w.heap.size, 0, none⟩) l.length l.length) l :=
  ⟨some ⟨w.heap.size, 0, none⟩, w.heap.size, 0, l.length, rfl, Nat.le_refl _, hl, fun _ => rfl, range_of_block (heap_alloc_new _ _), by simp, fun h => by cases h⟩
set_option maxRecDepth 100000 in
set_option maxHeartbeats 1000000 in
theorem shaNil_walk (v : Value) (bs : List Int) (w : World) (hL : Laid w) (hp : PartAt w v bs) (hn : bs.length ≤ 140737488351232) :
    Calls Tryd.prog 8 #[v] w fun e w' => e = .returned (.bool true) ∧ Below w.heap.size w w' := by
  have h2 := hL.two
  have hp0 := hp
  obtain ⟨av, b, o, cp, hv, hrest⟩ := hp
  subst hv
  go_enter Tryd.func8, Tryd.ntmps8
  go_wp2_with fail
  refine (awake_any _ hL).mono ?_
  rintro e w1 ⟨rfl, b1⟩
  go_wp2_with (first | (go_at_call 16; refine (write_nil _ _).mono ?_; rintro e w' ⟨rfl, h'⟩; have h'' := h'.symm; clear h'; subst h'') | (go_at_call 19; refine (reset_nil _).mono ?_; rintro e w' ⟨rfl, h'⟩; have h'' := h'.symm; clear h'; subst h'') | (at_builtin; refine appendB rfl _ _ rfl w1.heap.size _ [] rfl (ownB_new w1) _ bs rfl (hp0.below (b1.alloc b1.size _)) (by simp; omega) (by simp) ?_; intro v1 w2 o1 g1 d1) | (at_builtin; refine appendB rfl _ _ rfl w1.heap.size v1 ([] ++ bs) rfl (o1.alloc _) _ [7] rfl (part_new w2 [7] (by decide)) (by simp; omega) (Nat.le_trans (Nat.le_trans (Nat.le_succ _) (by simpa using g1.size)) (by simp)) ?_; intro v2 w3 o2 g2 d2))
  have b1s := b1.size
  have b2 : Below w.heap.size w w2 := (b1.alloc b1.size _).grown g1 (by simp; omega) (fun k hk => by injection hk with hk; subst hk; exact b1s)
  have e1 : v1.ownBlock = some w1.heap.size ∨ v1.ownBlock = some (w1.heap.size + 1) := by
    rcases d1 with d1 | d1
    · exact Or.inl d1
    · exact Or.inr (by rw [d1]; simp)
  have b3 : Below w.heap.size w w3 := (b2.alloc b2.size _).grown g2 (by have := b2.size; simp; omega) (fun k hk => by rcases e1 with e1 | e1 <;> (rw [e1] at hk; injection hk with hk; omega))
  have s3 := b3.size
  have o3 : OwnB w3 w1.heap.size v2 (bs ++ [7]) := by simpa using o2
  clear g1 d1 g2 d2 e1 o2 o1 b2
  obtain ⟨hl3, h3⟩ := o3
  rcases h3 with ⟨_, h3⟩ | ⟨g, cap, cur, hv2, hg, hcur, hncap, hcapm, hcs, htk⟩
  · simp at h3
  subst hv2
  have hncap' : bs.length + 1 ≤ cap := by simpa using hncap
  have hgl : g < w3.heap.size := (Array.getElem?_eq_some_iff.1 hcur).1
  have htk' : (cur.toList).take (bs.length + 1) = (vB (bs ++ [7])).toList := by simpa using htk
  have hrc : w3.rangeAt g 0 (vB (bs ++ [7])).toList := fun j v hv => by
    rw [Nat.zero_add, cell_of_row w3 g j cur 5 (0, 0) hcur]
    rw [← htk'] at hv
    rw [List.getElem?_take] at hv
    split at hv
    · simpa using hv
    · cases hv
  have hpc7 : PartAt w3 (.slice (some ⟨g, 0, none⟩) (bs.length + 1) cap) (bs ++ [7]) := ⟨some ⟨g, 0, none⟩, g, 0, cap, by simp, by simpa using hncap', hcapm, fun _ => rfl, hrc, hgl, fun h => by cases h⟩
  have hpc : PartAt w3 (.slice (some ⟨g, 0, none⟩) bs.length cap) bs := ⟨some ⟨g, 0, none⟩, g, 0, cap, rfl, by omega, hcapm, fun _ => rfl, range_first hrc, hgl, fun h => by cases h⟩
  have hL3 := hL.below b3 h2
  clear hncap hrest
  simp only [List.length_append, List.length_cons, List.length_nil, Nat.zero_add]
  have hci : (bs.length : Int) ≤ (cap : Int) := by omega
  have bw : Below w3.heap.size w3 (w3.alloc (Obj.cells #[Value.slice (some ⟨g, 0, none⟩) bs.length cap, Value.slice (some ⟨g, 0, none⟩) bs.length cap] 22)).drew := ((Below.refl _ _).alloc (Nat.le_refl _) _).drew
  have fw := heap_alloc_new w3 (Obj.cells #[Value.slice (some ⟨g, 0, none⟩) bs.length cap, Value.slice (some ⟨g, 0, none⟩) bs.length cap] 22)
  have BW : Hid (Below w3.heap.size w3 (w3.alloc (Obj.cells #[Value.slice (some ⟨g, 0, none⟩) bs.length cap, Value.slice (some ⟨g, 0, none⟩) bs.length cap] 22)).drew) := bw
  have FW : Hid ((w3.alloc (Obj.cells #[Value.slice (some ⟨g, 0, none⟩) bs.length cap, Value.slice (some ⟨g, 0, none⟩) bs.length cap] 22)).heap[w3.heap.size]? = some (Obj.cells #[Value.slice (some ⟨g, 0, none⟩) bs.length cap, Value.slice (some ⟨g, 0, none⟩) bs.length cap] 22)) := fw
  clear bw fw htk htk'
  go_region_with (first | (go_at_call 12; refine (of_any _ _ 2 2 [.slice (some ⟨g, 0, none⟩) bs.length cap, .slice (some ⟨g, 0, none⟩) bs.length cap] [bs, bs] rfl rfl _ ?h1 ?h2 ?h3 ?h4 ?h5 ?h6).mono ?_; (case h1 => exact hL3.below BW.out hL3.two); (case h2 => exact range_two FW.out); (case h3 => simp); (case h4 => exact two_parts (hpc.below BW.out)); (case h5 => simp; omega); (case h6 => omega); rintro e w4 ⟨rfl, b4⟩))
  have b34 : Below w3.heap.size w3 w4 := BW.out.trans (b4.mono (by simp))
  have b04 : Below w.heap.size w w4 := b3.trans (b34.mono s3)
  have hc4 := hpc7.below b34
  have hb4 := hp0.below b04
  clear b4 BW FW b34 hpc hpc7 hrc hL3 hcur b3
  go_wp2_with (first | (go_at_call 18; refine (len_nil _).mono ?_; rintro e w' ⟨rfl, h'⟩; have h'' := h'.symm; clear h'; subst h'') | (go_at_call 17; refine (sum_nil _).mono ?_; rintro e w5 ⟨rfl, b5⟩; have b05 := b04.trans (b5.mono b04.size); have e24 := eq24_zero w5; have hsc := run_conv (hc4.below b5); have hsb := run_conv (hb4.below b5); have hsz := strOfNums_size bs; have hadd := str_add bs))
  go_ret
  exact ⟨rfl, b05⟩
end Go.Proofs.YtkdpbiilimfbnaaDoor
