import Derived.Test.YtlcenbhcegmnoaaDoorRk
namespace Go.Proofs.YtlcenbhcegmnoaaDoor
set_option linter.unusedSimpArgs false
set_option linter.unusedVariables false
open Go.RowKit
theorem store35n {ops : Array Oper} {rest : List Oper} {o : Oper} {a : Act} {w0 : World} {Q : Exit → Act → World → Prop} (hgd : o.guard = none) (x y : Operand) (ho : o.op = .store 34 x y) (A : Obj) (l : List Int) (hl : l.length = 8) (hx : a.eval x = .pointer (some ⟨w0.heap.size + 1, 0, none⟩)) (hy : a.eval y = .agg (vW l))
    (h : ∀ w2 : World, w2.heap[w0.heap.size]? = some A → w2.heap[w0.heap.size + 1]? = some (.cells (vW l) 34) → w2.heap.size = w0.heap.size + 2 → Below w0.heap.size w0 w2 → wpList Tryd.prog ops Q rest (a.put o.dst undef) w2) : wpList Tryd.prog ops Q (o :: rest) a ((w0.alloc A).alloc (.cells (vW (zs 8)) 34)) := by
  refine store35 hgd x y ho (w0.heap.size + 1) l hx hy hl 34 (zs 8) rfl (heap_alloc2_new _ _ _) ?_
  rw [setRow_alloc2]
  exact h _ (heap_alloc2_old _ _ _) (heap_alloc2_new _ _ _) (by simp) (((Below.refl _ _).alloc (Nat.le_refl _) _).alloc (by simp) _)
theorem store44n {ops : Array Oper} {rest : List Oper} {o : Oper} {a : Act} {w0 : World} {Q : Exit → Act → World → Prop} (hgd : o.guard = none) (x y : Operand) (ho : o.op = .store 58 x y) (l : List Int) (hl : l.length = 64) (hx : a.eval x = .pointer (some ⟨w0.heap.size, 0, none⟩)) (hy : a.eval y = .agg (vW l))
    (h : ∀ w2 : World, w2.heap[w0.heap.size]? = some (.cells (vW l) 58) → w2.heap.size = w0.heap.size + 1 → Below w0.heap.size w0 w2 → wpList Tryd.prog ops Q rest (a.put o.dst undef) w2) : wpList Tryd.prog ops Q (o :: rest) a (w0.alloc (.cells (vW (zs 64)) 58)) := by
  refine store44 hgd x y ho w0.heap.size l hx hy hl 58 (zs 64) rfl (heap_alloc_new _ _) ?_
  rw [World.setRow_alloc_new]
  exact h _ (heap_alloc_new _ _) (by simp) ((Below.refl _ _).alloc (Nat.le_refl _) _)
theorem OwnB.row {w : World} {base : Nat} {v : Value} {l : List Int} (h : OwnB w base v l) : ∀ k, v.ownBlock = some k → base ≤ k := fun k hk => by
  rcases h.2 with ⟨rfl, _⟩ | ⟨g, cap, cur, rfl, hg, _⟩
  · cases hk
  · simp [Value.ownBlock] at hk; omega
theorem OwnB.form {w : World} {base : Nat} {v : Value} {l : List Int} (h : OwnB w base v l) (hn : l ≠ []) : ∃ g cap, v = .slice (some ⟨g, 0, none⟩) l.length cap ∧ base ≤ g ∧ g < w.heap.size := by
  rcases h.2 with ⟨_, h0⟩ | ⟨g, cap, cur, rfl, hg, hh, _⟩
  · exact absurd (List.eq_nil_of_length_eq_zero h0) hn
  · exact ⟨g, cap, rfl, hg, (Array.getElem?_eq_some_iff.1 hh).1⟩
theorem OwnB.part {w : World} {base : Nat} {v : Value} {l : List Int} (h : OwnB w base v l) (hn : l ≠ []) : PartAt w v l := by
  rcases h.2 with ⟨_, h0⟩ | ⟨g, cap, cur, rfl, hg, hcur, hl, hc, hs, htk⟩
  · exact absurd (List.eq_nil_of_length_eq_zero h0) hn
  · refine ⟨some ⟨g, 0, none⟩, g, 0, cap, rfl, hl, hc, fun _ => rfl, fun j v hv => ?_, (Array.getElem?_eq_some_iff.1 hcur).1, fun h => by cases h⟩
    rw [Nat.zero_add, cell_of_row w g j cur 5 (0, 0) hcur]
    rw [← htk, List.getElem?_take] at hv
    split at hv
    · simpa using hv
    · cases hv
theorem own_zero {w : World} {base : Nat} {v : Value} {bs : List Int} {k : Nat} (h : OwnB w base v ((bs ++ 128 :: zs k) ++ [0])) : OwnB w base v (bs ++ 128 :: zs (k + 1)) := by
  have e : (bs ++ 128 :: zs k) ++ [0] = bs ++ 128 :: zs (k + 1) := by
    simp only [zs, List.replicate_succ', List.append_assoc, List.cons_append]
  rw [← e]; exact h
theorem own_below {w w' : World} {base : Nat} {v : Value} {l : List Int} (h : OwnB w base v l) (hb : Below w.heap.size w w') : OwnB w' base v l := by
  obtain ⟨h1, h2⟩ := h
  refine ⟨h1, ?_⟩
  rcases h2 with h2 | ⟨g, cap, cur, hv, hg, hh, r⟩
  · exact Or.inl h2
  · exact Or.inr ⟨g, cap, cur, hv, hg, by rw [hb.block g (Array.getElem?_eq_some_iff.1 hh).1]; exact hh, r⟩
theorem msg_len (bs : List Int) : (bs ++ padL bs.length).length % 64 = 0 := by rw [List.length_append, padL_length]; unfold padLen; omega
theorem padTo_bytes (n k : Nat) : ∀ x ∈ padTo n k, 0 ≤ x ∧ x ≤ 255 := by
  induction k with
  | zero =>
    intro x hx
    rcases List.mem_or_eq_of_mem_set hx with h | h
    · simp [zs] at h; omega
    · omega
  | succ k ih =>
    intro x hx
    rcases List.mem_or_eq_of_mem_set hx with h | h
    · exact ih x h
    · omega
theorem msg_bytes (bs : List Int) (h : ∀ x ∈ bs, 0 ≤ x ∧ x ≤ 255) : ∀ x ∈ bs ++ padL bs.length, 0 ≤ x ∧ x ≤ 255 := by
  intro x hx
  rcases List.mem_append.1 hx with hx | hx
  · exact h x hx
  · exact padTo_bytes _ _ x hx
set_option maxRecDepth 100000 in
set_option maxHeartbeats 1000000 in
theorem rsum_big (v : Value) (bs : List Int) (w : World) (hp : PartAt w v bs) (hn : bs.length ≤ 140737488352000) (hby : ∀ x ∈ bs, 0 ≤ x ∧ x ≤ 255) :
    Calls Tryd.prog 14 #[v] w fun e w' => e = .returned (.agg (vB (hashOf bs))) ∧ Below w.heap.size w w' := by
  have hp0 := hp
  obtain ⟨av, b, o, cp, hv, hrest⟩ := hp
  subst hv
  go_enter Tryd.func14, Tryd.ntmps14
  go_wp2_with (first | (refine store35n rfl _ _ rfl (Obj.cells (vB (zs 32)) 24) hWords rfl rfl rfl ?_; intro w1 f0 f1 fs fb))
  refine (k256_any _).mono ?_
  rintro e w2 ⟨rfl, b2⟩
  have f20 : w2.heap[w.heap.size]? = some (Obj.cells (vB (zs 32)) 24) := by rw [b2.block _ (by omega)]; exact f0
  have f21 : w2.heap[w.heap.size + 1]? = some (Obj.cells (vW hWords) 34) := by rw [b2.block _ (by omega)]; exact f1
  have s2 : w.heap.size + 2 ≤ w2.heap.size := by have := b2.size; omega
  have b02 : Below w.heap.size w w2 := fb.trans (b2.mono (by omega))
  clear f0 f1 fs fb b2
  go_wp2_with (first | (refine store44n rfl _ _ rfl kWords rfl rfl rfl ?_; intro w3 fk fs3 fb3; have s3 : w2.heap.size + 1 ≤ w3.heap.size := (by omega); clear fs3; have b03 : Below w.heap.size w w3 := b02.trans (fb3.mono (by omega))) | (at_builtin; refine appendB rfl _ _ rfl w3.heap.size _ [] rfl (ownB_new w3) _ bs rfl (hp0.below (b03.alloc b03.size _)) (by simp; omega) (by simp) ?_; intro v1 w4 o1 g1 d1; have s4 : w3.heap.size + 1 ≤ w4.heap.size := (by simpa using g1.size)) | (at_builtin; refine appendB rfl _ _ rfl w3.heap.size v1 ([] ++ bs) rfl (o1.alloc _) _ [128] rfl (part_new w4 [128] (by decide)) (by simp; omega) (by simp; omega) ?_; intro v2 w5 o2 g2 d2))
  have b34 : Below w3.heap.size w3 w4 := ((Below.refl _ _).alloc (Nat.le_refl _) _).grown g1 (by simp) (fun k hk => by injection hk with hk; subst hk; exact Nat.le_refl _)
  have b35 : Below w3.heap.size w3 w5 := (b34.alloc (by omega) _).grown g2 (by simp; omega) o1.row
  have o5 : OwnB w5 w3.heap.size v2 (bs ++ 128 :: zs 0) := by simpa [zs] using o2
  clear g1 d1 g2 d2 o1 o2 b34 s4
  obtain ⟨g5, c5, hv2, hg5, hgl5⟩ := o5.form (by simp)
  have hl5 : (bs ++ 128 :: zs 0).length = bs.length + 1 := by simp [zs]
  rw [hl5] at hv2
  subst hv2
  clear hl5
  go_loopw [5] (fun v wr => ∃ (k g cap : Nat), k ≤ (119 - bs.length % 64) % 64 ∧ v = .slice (some ⟨g, 0, none⟩) (bs.length + 1 + k) cap ∧ OwnB wr w3.heap.size (.slice (some ⟨g, 0, none⟩) (bs.length + 1 + k) cap) (bs ++ 128 :: zs k) ∧ Below w3.heap.size w3 wr) (fun v _ => bs.length + 1 + (119 - bs.length % 64) % 64 - sliceLen v)
  case atStart => exact ⟨0, g5, c5, by omega, rfl, o5, b35⟩
  case round =>
    clear o5 b35 hg5 hgl5
    obtain ⟨k, g, cap, hk, rfl, ho, hbl⟩ := hrel
    by_cases hlt : k < (119 - bs.length % 64) % 64
    · have hne : (((bs.length + 1 + k : Nat) : Int) % 64 != 56) = true := by rw [bne_iff_ne]; omega
      have hbs := hbl.size
      go_wp2_with (first | (at_builtin; refine appendB rfl _ _ rfl w3.heap.size _ (bs ++ 128 :: zs k) rfl (ho.alloc _) _ [0] rfl (part_new wr [0] (by decide)) (by simp [zs_length]; omega) (by simp; omega) ?_; intro v' w' o' g' d'; have o6 : OwnB w' w3.heap.size v' (bs ++ 128 :: zs (k + 1)) := own_zero o'; have b6 : Below w3.heap.size w3 w' := (hbl.alloc hbs _).grown g' (by simp; omega) ho.row; clear o' g' d'; obtain ⟨g6, c6, hv6, hg6, hgl6⟩ := o6.form (by simp); (have hl6 : (bs ++ 128 :: zs (k + 1)).length = bs.length + 1 + (k + 1) := by simp [zs_length]; omega); rw [hl6] at hv6; clear hl6; subst hv6))
      go_roundw
      case rel => exact ⟨k + 1, g6, c6, by omega, rfl, o6, b6⟩
      case measure =>
        show bs.length + 1 + (119 - bs.length % 64) % 64 - (bs.length + 1 + (k + 1)) < bs.length + 1 + (119 - bs.length % 64) % 64 - (bs.length + 1 + k)
        omega
    · have ek : k = (119 - bs.length % 64) % 64 := by omega
      have hne : (((bs.length + 1 + k : Nat) : Int) % 64 != 56) = false := by rw [bne_eq_false_iff_eq]; omega
      have EK : Hid (k = (119 - bs.length % 64) % 64) := ek
      clear ek hlt hk
      have hbs := hbl.size
      go_wp2_with fail
      refine (num_any _ _).mono ?_
      rintro e w6 ⟨gn, rfl, hgn, hcn, b6⟩
      have ho6 := own_below ho b6
      have hp6 : PartAt w6 (.slice (some ⟨gn, 0, none⟩) 8 8) (numTo ((bs.length : Int) * 8) 8) := ⟨some ⟨gn, 0, none⟩, gn, 0, 8, by rw [numTo_length], by rw [numTo_length]; omega, by omega, fun _ => rfl, range_of_block hcn, (Array.getElem?_eq_some_iff.1 hcn).1, fun h => by cases h⟩
      have b36 : Below w3.heap.size w3 w6 := hbl.trans (b6.mono hbs)
      have s6 := b36.size
      have hnl := numTo_length ((bs.length : Int) * 8) 8
      clear hcn hgn b6 ho hbl hbs
      go_wp2_with (first | (at_builtin; refine appendB rfl _ _ rfl w3.heap.size _ (bs ++ 128 :: zs k) rfl ho6 _ (numTo ((bs.length : Int) * 8) 8) rfl hp6 (by simp [zs_length, hnl]; have := EK.out; omega) s6 ?_; intro v7 w7 o7 g7 d7))
      have b37 : Below w3.heap.size w3 w7 := b36.grown g7 s6 ho6.row
      clear g7 d7 ho6 hp6 b36 s6
      have hmsg : (bs ++ 128 :: zs k) ++ numTo ((bs.length : Int) * 8) 8 = bs ++ padL bs.length := msg_eq bs k EK.out
      rw [hmsg] at o7
      clear hmsg
      have hL64 : (bs ++ padL bs.length).length % 64 = 0 := msg_len bs
      have hLle : (bs ++ padL bs.length).length ≤ 140737488355328 := by rw [List.length_append, padL_length]; unfold padLen; omega
      have hLby : Hid (∀ x ∈ bs ++ padL bs.length, 0 ≤ x ∧ x ≤ 255) := msg_bytes bs hby
      have hL64' : Hid ((bs ++ padL bs.length).length % 64 = 0) := hL64
      clear hL64 hby
      have hLne : bs ++ padL bs.length ≠ [] := fun h => by have := congrArg List.length h; rw [List.length_append, padL_length] at this; unfold padLen at this; simp at this
      have FIN : Hid (hashOf bs = outB (wordsOf (bs ++ padL bs.length))) := rfl
      obtain ⟨ga, ca, hv7, hga, hgal⟩ := o7.form hLne
      have hpa := o7.part hLne
      have hcaa : (bs ++ padL bs.length).length ≤ ca ∧ ca ≤ 9223372036854775807 := by
        obtain ⟨_, h⟩ := o7
        rcases h with ⟨h, _⟩ | ⟨g', cap', cur', h, _, _, h', h'', _⟩
        · rw [hv7] at h; cases h
        · rw [hv7] at h; cases h; exact ⟨h', h''⟩
      obtain ⟨hca, hcam⟩ := hcaa
      have hra : w7.rangeAt ga 0 (vB (bs ++ padL bs.length)).toList := by
        obtain ⟨av', b', o', cp', h1', _, _, h3', h4', _, _⟩ := hpa
        rw [hv7] at h1'
        injection h1' with h1a h1b h1c
        have h5 := h3' (List.length_pos_iff.2 hLne)
        rw [← h1a] at h5
        injection h5 with h5; injection h5 with h5a h5b
        subst h5a h5b
        exact h4'
      subst hv7
      have f70 : w7.heap[w.heap.size]? = some (Obj.cells (vB (zs 32)) 24) := by rw [b37.block _ (by omega), fb3.block _ (by omega)]; exact f20
      have f71 : w7.heap[w.heap.size + 1]? = some (Obj.cells (vW hWords) 34) := by rw [b37.block _ (by omega), fb3.block _ (by omega)]; exact f21
      have fk7 : w7.heap[w2.heap.size]? = some (Obj.cells (vW kWords) 58) := by rw [b37.block _ (by omega)]; exact fk
      have b07 : Below w.heap.size w w7 := b03.trans (b37.mono b03.size)
      have s7 := b37.size
      have F70 : Hid (w7.heap[w.heap.size]? = some (Obj.cells (vB (zs 32)) 24)) := f70
      have F71 : Hid (w7.heap[w.heap.size + 1]? = some (Obj.cells (vW hWords) 34)) := f71
      have FK7 : Hid (w7.heap[w2.heap.size]? = some (Obj.cells (vW kWords) 58)) := fk7
      clear f70 f71 fk7 hLne
      clear o7 hpa f20 f21 fk b03 b37 fb3 b02 EK hne hp0 hrest hnl
      generalize bs ++ padL bs.length = L at *
      rw [act_lit _ rfl]
      refine @Code.wp_mono _ _ (postOf 2 (N0 w.heap.size (w.heap.size + 1) w2.heap.size ga L.length ca L.length (wordsOf L) w7)) _ _ _ ?_ ?_
      rotate_left
      · exact loop0 w.heap.size (w.heap.size + 1) w2.heap.size ga ca L w7 _ ⟨rfl, rfl, rfl, rfl, rfl⟩ hL64'.out hca hcam hLby.out hgal (by omega) hra (by omega) (by omega) (by omega) FK7.out F71.out
      rintro e a8 w8 h
      cases e with
      | exit m =>
        obtain ⟨rfl, f8, rfl, ⟨z2, z3, z4, z5, z6⟩, g8, hH8⟩ := h
        have s8 := g8.size
        have hR8 : Hid (w8.heap[w.heap.size]? = some (Obj.cells (vB (zs 32)) 24)) := by unfold Hid; rw [g8.block _ (by omega) (by simp)]; exact F70.out
        have b08 : Below w.heap.size w w8 := ⟨by rw [g8.os, b07.os], by rw [g8.tape, b07.tape], by rw [g8.output, b07.output], by omega, fun k hk => by rw [g8.block k (by omega) (by simp; omega), b07.block k hk]⟩
        have hH8' : Hid (w8.heap[w.heap.size + 1]? = some (.cells (vW (wordsOf L)) 34)) := hH8
        have hwl := wordsOf_length L
        clear hH8 F70 F71 FK7 hra hLby hL64'
        unfold mkA
        go_wp2_with fail
        rw [act_lit _ rfl]
        refine @Code.wp_mono _ _ (postOf 10 (N5 w.heap.size (w.heap.size + 1) w8.heap.size 32 (outB (wordsOf L)) (w8.alloc (.cells (vB (zs 32)) 24)))) _ _ _ ?_ ?_
        rotate_left
        · exact loop5 w.heap.size (w.heap.size + 1) w8.heap.size (wordsOf L) hwl (w8.alloc (.cells (vB (zs 32)) 24)) _ rfl ⟨z2, z3, rfl⟩ (by omega) (by rw [Below.heap_alloc _ _ _ (by omega)]; exact hH8'.out) (heap_alloc_new _ _)
        rintro e a9 w9 h
        cases e with
        | exit m =>
          obtain ⟨rfl, f9, rfl, _, ⟨y2, y3, y18⟩, b9, s9, hO9⟩ := h
          have hR9 : w9.heap[w.heap.size]? = some (Obj.cells (vB (zs 32)) 24) := by rw [b9.block _ (by omega), Below.heap_alloc _ _ _ (by omega)]; exact hR8.out
          have hol : (outB (wordsOf L)).length = 32 := outTo_length _ 8
          have b09 : Below w.heap.size w w9 := b08.trans ((((Below.refl _ _).alloc (Nat.le_refl _) _).trans b9).mono (by omega))
          obtain ⟨OL, hOL⟩ : ∃ OL, OL = outB (wordsOf L) := ⟨_, rfl⟩
          rw [← hOL] at hO9 hol
          rw [← hOL] at FIN
          clear hOL hH8' hR8 b9 b08 b07
          unfold mkA
          go_wp2_with (first | (refine load24 rfl _ rfl _ y18 OL hol 24 hO9 ?_) | (refine store24 rfl _ _ rfl _ OL y2 rfl hol 24 (zs 32) rfl hR9 ?_))
          exact bodyPost_ret (v := .agg (vB OL)) (results_cell_row (p := 2) (ty := 24) Tryd.results14 _ _ w.heap.size 24 _ (0, 0) _ y2 (setRow_same hR9) Tryd.underlying24 rfl (by rw [vB_size, hol]; kernel_rfl)) rfl ⟨by rw [FIN.out], below_setRow b09 (Nat.le_refl _) _⟩
        | _ => exact h.elim
      | _ => exact h.elim
theorem rsum_any (v : Value) (bs : List Int) (w : World) (hp : PartAt w v bs) (hn : bs.length ≤ 140737488351232) (hby : ∀ x ∈ bs, 0 ≤ x ∧ x ≤ 255) :
    Calls Tryd.prog 14 #[v] w fun e w' => e = .returned (.agg (vB (hashOf bs))) ∧ Below w.heap.size w w' := rsum_big v bs w hp (by omega) hby
end Go.Proofs.YtlcenbhcegmnoaaDoor
