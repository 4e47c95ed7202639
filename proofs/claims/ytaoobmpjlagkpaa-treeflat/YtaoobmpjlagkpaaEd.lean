import Derived.Test.YtaoobmpjlagkpaaEc
namespace Go.Proofs.Ytaoobmpjlagkpaa
set_option linter.unusedSimpArgs false
set_option linter.unusedVariables false
open Go.RowKit
open Go.Deep
set_option maxHeartbeats 4000000 in
set_option maxRecDepth 100000 in
/-- The reference's Same. -/
theorem rsame_any (t : T) : ∀ (t' : T) (w : World) (u v : Value), SV AnyB w u t.kids → SV AnyB w v t'.kids → Calls Try.prog 41 #[vN t.hd u, vN t'.hd v] w fun e w' => e = .returned (.bool (sameT t t')) ∧ Below w.heap.size w w' := by
  induction t using T.ind; rename_i h l ih; intro t' w u v hu hv
  obtain ⟨g, m, rfl⟩ := t'.out
  rw [T.kids_mk] at hu hv
  rw [T.hd_mk, T.hd_mk, sameT_mk]
  obtain ⟨av, cp, b, o, rfl, h1, h2, h3, h4⟩ := hu
  obtain ⟨bv, cq, b2, o2, rfl, k1, k2, k3, k4⟩ := hv
  cases hhg : sameH h g with
  | false => exact rsame_no h g av bv l.length cp m.length cq hhg w
  | true =>
    obtain rfl := (sameH_iff h g).1 hhg
    clear hhg
    obtain ⟨n, hn⟩ : ∃ n, n = l.length := ⟨_, rfl⟩
    obtain ⟨n2, hn2⟩ : ∃ n, n = m.length := ⟨_, rfl⟩
    have HN : Hid (n = l.length) := hn
    have HM : Hid (n2 = m.length) := hn2
    have HL : Hid (LAt AnyB w b o l) := h4
    have HL2 : Hid (LAt AnyB w b2 o2 m) := k4
    have HA : Hid (0 < n → av = some ⟨b, o, none⟩) := by rw [hn]; exact h3
    have HA2 : Hid (0 < n2 → bv = some ⟨b2, o2, none⟩) := by rw [hn2]; exact k3
    have IH : Hid (∀ t ∈ l, ∀ (t' : T) (w : World) (u v : Value), SV AnyB w u t.kids → SV AnyB w v t'.kids → Calls Try.prog 41 #[vN t.hd u, vN t'.hd v] w fun e w' => e = .returned (.bool (sameT t t')) ∧ Below w.heap.size w w') := ih
    rw [← hn] at h1 ⊢
    rw [← hn2] at k1 ⊢
    clear hn hn2 h3 h4 k3 k4 ih
    obtain ⟨k, c, x0, x1, x2, x3, nn, lo, hi⟩ := h
    change Calls Try.prog 41 #[.agg #[.int .i64 k, .int .u8 (c : Int), .int .u64 (x0 : Int), .int .u64 x1, .int .u64 x2, .int .u64 x3, .int .i64 nn, .int .i64 lo, .int .i64 hi, .slice av n cp], .agg #[.int .i64 k, .int .u8 (c : Int), .int .u64 (x0 : Int), .int .u64 x1, .int .u64 x2, .int .u64 x3, .int .i64 nn, .int .i64 lo, .int .i64 hi, .slice bv n2 cq]] w _
    have heq : ∀ W, (Op.equalIn 10000 24 (.agg #[.int .u64 ((x0 : Nat) : Int), .int .u64 x1, .int .u64 x2, .int .u64 x3]) (.agg #[.int .u64 ((x0 : Nat) : Int), .int .u64 x1, .int .u64 x2, .int .u64 x3])).run Try.prog W = .ok true W := fun W => by rw [eqS24]; simp
    by_cases hlen : n = n2
    · subst hlen
      obtain ⟨R, hR⟩ : ∃ R, R = sameL l m := ⟨_, rfl⟩
      have HR0 : Hid (sameL l m = R) := hR.symm
      rw [← hR]
      clear hR
      have hz1 : (w.alloc (.cells (cN ⟨k, c, x0, x1, x2, x3, nn, lo, hi⟩ (.slice av n cp)).toArray 51)).heap.size = w.heap.size + 1 := by simp
      have BA0 : Hid (BoxN 51 ((w.alloc (.cells (cN ⟨k, c, x0, x1, x2, x3, nn, lo, hi⟩ (.slice av n cp)).toArray 51)).alloc (.cells (cN ⟨k, c, x0, x1, x2, x3, nn, lo, hi⟩ (.slice bv n cq)).toArray 51)) w.heap.size ⟨k, c, x0, x1, x2, x3, nn, lo, hi⟩ (.slice av n cp)) := (BoxN.new 51 w _ _).blk (Below.heap_alloc _ _ _ (by simp))
      have BB0 : Hid (BoxN 51 ((w.alloc (.cells (cN ⟨k, c, x0, x1, x2, x3, nn, lo, hi⟩ (.slice av n cp)).toArray 51)).alloc (.cells (cN ⟨k, c, x0, x1, x2, x3, nn, lo, hi⟩ (.slice bv n cq)).toArray 51)) (w.heap.size + 1) ⟨k, c, x0, x1, x2, x3, nn, lo, hi⟩ (.slice bv n cq)) := by
        have := BoxN.new 51 (w.alloc (.cells (cN ⟨k, c, x0, x1, x2, x3, nn, lo, hi⟩ (.slice av n cp)).toArray 51)) ⟨k, c, x0, x1, x2, x3, nn, lo, hi⟩ (.slice bv n cq); rw [hz1] at this; exact this
      clear hz1
      go_enter Try.func41, Try.ntmps41
      go_wp2
      go_loopw [58] (fun i wr => ∃ (j : Nat), j ≤ n ∧ i = .int .i64 j ∧ Hid (sameL (l.drop j) (m.drop j) = R) ∧ Hid (Below w.heap.size w wr) ∧ Hid (BoxN 51 wr w.heap.size ⟨k, c, x0, x1, x2, x3, nn, lo, hi⟩ (.slice av n cp)) ∧ Hid (BoxN 51 wr (w.heap.size + 1) ⟨k, c, x0, x1, x2, x3, nn, lo, hi⟩ (.slice bv n cq))) (fun i _ => n - (intOf i).toNat)
      case atStart => exact ⟨0, by omega, rfl, HR0.out, ((Below.refl _ _).alloc (Nat.le_refl _) _).alloc (by simp) _, BA0.out, BB0.out⟩
      case round =>
        obtain ⟨j, hj, rfl, HF, BW, BA, BB⟩ := hrel
        by_cases hlt : j < n
        · obtain rfl := HA.out (by omega)
          obtain rfl := HA2.out (by omega)
          obtain ⟨t, ht⟩ : ∃ t, l[j]? = some t := ⟨l[j]'(by rw [← HN.out]; exact hlt), List.getElem?_eq_getElem (by rw [← HN.out]; exact hlt)⟩
          obtain ⟨t2, ht2⟩ : ∃ t, m[j]? = some t := ⟨m[j]'(by rw [← HM.out]; exact hlt), List.getElem?_eq_getElem (by rw [← HM.out]; exact hlt)⟩
          have hmem := List.mem_of_getElem? ht
          have hat := HL.out.get ht
          have hat2 := HL2.out.get ht2
          have hIH := IH.out t hmem t2
          have hst := sameL_step l m j t t2 ht ht2
          rw [HF.out] at hst
          obtain ⟨h', l', rfl⟩ := t.out
          obtain ⟨g', m', rfl⟩ := t2.out
          rw [T.hd_mk, T.kids_mk, T.hd_mk, T.kids_mk] at hIH
          obtain ⟨u', r1, _, r3, r4⟩ := hat.out
          obtain ⟨v', s1, _, s3, s4⟩ := hat2.out
          have hsz := BW.out.size
          have HR : Hid (∀ W, Below wr.heap.size wr W → W.rangeAt b (o + j * 10) (cN h' u')) := fun W hW => range_block r1 (by rw [hW.block b (by omega), BW.out.block b r3])
          have HS : Hid (∀ W, Below wr.heap.size wr W → W.rangeAt b2 (o2 + j * 10) (cN g' v')) := fun W hW => range_block s1 (by rw [hW.block b2 (by omega), BW.out.block b2 s3])
          have CA : Hid (∀ W, Below wr.heap.size wr W → W.cell? ⟨w.heap.size, 9, none⟩ = some (.slice (some ⟨b, o, none⟩) n cp)) := fun W hW => (BA.out.below hW BA.out.lt).cell 9 _ rfl
          have CB : Hid (∀ W, Below wr.heap.size wr W → W.cell? ⟨w.heap.size + 1, 9, none⟩ = some (.slice (some ⟨b2, o2, none⟩) n cq)) := fun W hW => (BB.out.below hW BB.out.lt).cell 9 _ rfl
          obtain ⟨av', cp', b', o', hu', _⟩ := id r4
          obtain ⟨bv', cq', b2', o2', hv', _⟩ := id s4
          have CALL : Hid (∀ W, Below wr.heap.size wr W → Calls Try.prog 41 #[vN h' u', vN g' v'] W fun e w' => e = .returned (.bool (sameT (.mk h' l') (.mk g' m'))) ∧ Below wr.heap.size wr w') := fun W hW =>
            (hIH W u' v' ((r4.below BW.out).below hW) ((s4.below BW.out).below hW)).mono fun e w' ⟨q1, q2⟩ => ⟨q1, hW.trans (q2.mono hW.size)⟩
          subst hu' hv'
          have i1 : (j : Int) < (n : Int) := by omega
          have i0 : (0 : Int) ≤ (j : Int) := by omega
          have HLT : Hid (j < n) := hlt
          cases hB : sameT (.mk h' l') (.mk g' m') with
          | false =>
            rw [hB] at hst CALL
            have HE : Hid (false = R) := by rw [hst]; rfl
            clear hmem hat hat2 hIH r1 r3 r4 s1 s3 s4 ht ht2 hlt hst hB hsz
            go_wp2
            refine wp_region_noPanic ?_
            refine wp_region_held_drew (S := fun w' => Below wr.heap.size wr w') (by kernel_rfl) ((Below.refl _ _).drew) (fun hHeld => ?_)
            try simp only [Act.put, List.setIfInBounds_toArray, List.set_cons_zero, List.set_cons_succ]
            refine wpAnyH_take (i := 0) (oi := { dst := some 61, op := Go.Op.fieldAddr 51 (Go.Operand.tmp 2) 6, type := 0, pos := "ref.go:166", after := #[], guard := none }) (v := ?_) rfl (by kernel_rfl) (by kernel_rfl) (by kernel_rfl) (fun _ _ _ h => h) (Or.inl ⟨by rfl, ?_⟩) hHeld ?_
            rotate_left 1
            · (intro wq hSq; (try dsimp only at hSq); go_simp; first | done | with_reducible rfl)
            try simp only [Act.put, List.setIfInBounds_toArray, List.set_cons_zero, List.set_cons_succ]
            refine wpAnyH_take (i := 1) (oi := { dst := some 62, op := Go.Op.load 49 (Go.Operand.tmp 61), type := 49, pos := "ref.go:166", after := #[{ on := 0, ground := Go.Ground.data }], guard := none }) (v := ?_) rfl (by kernel_rfl) (by kernel_rfl) (by kernel_rfl) (fun _ _ _ h => h) (Or.inl ⟨by rfl, ?_⟩) hHeld ?_
            rotate_left 1
            · (intro wq hSq; (try dsimp only at hSq); have c := CA.out _ hSq; go_simp; first | done | with_reducible rfl)
            try simp only [Act.put, List.setIfInBounds_toArray, List.set_cons_zero, List.set_cons_succ]
            refine wpAnyH_take (i := 2) (oi := { dst := some 63, op := Go.Op.move (Go.Operand.tmp 5), type := 3, pos := "ref.go:166", after := #[], guard := none }) (v := ?_) rfl (by kernel_rfl) (by kernel_rfl) (by kernel_rfl) (fun _ _ _ h => h) (Or.inl ⟨by rfl, ?_⟩) hHeld ?_
            rotate_left 1
            · (intro wq hSq; (try dsimp only at hSq); go_simp; first | done | with_reducible rfl)
            try simp only [Act.put, List.setIfInBounds_toArray, List.set_cons_zero, List.set_cons_succ]
            refine wpAnyH_take (i := 3) (oi := { dst := some 64, op := Go.Op.indexAddr 49 (Go.Operand.tmp 62) (Go.Operand.tmp 63), type := 0, pos := "ref.go:166", after := #[{ on := 1, ground := Go.Ground.data }, { on := 2, ground := Go.Ground.data }], guard := none }) (v := ?_) rfl (by kernel_rfl) (by kernel_rfl) (by kernel_rfl) (fun _ _ _ h => h) (Or.inl ⟨by rfl, ?_⟩) hHeld ?_
            rotate_left 1
            · (intro wq hSq; (try dsimp only at hSq); go_simp; first | done | with_reducible rfl)
            try simp only [Act.put, List.setIfInBounds_toArray, List.set_cons_zero, List.set_cons_succ]
            refine wpAnyH_take (i := 4) (oi := { dst := some 65, op := Go.Op.load 51 (Go.Operand.tmp 64), type := 51, pos := "ref.go:166", after := #[{ on := 3, ground := Go.Ground.data }], guard := none }) (v := vN h' (.slice av' l'.length cp')) rfl (by kernel_rfl) (by kernel_rfl) (by kernel_rfl) (fun _ _ _ h => h) (yieldsIf_load_mid rfl 51 _ rfl b (o + j * 10) rfl (cN h' (.slice av' l'.length cp')) _ (fun wq hSq => HR.out _ hSq) Try.underlying51 rfl size51) hHeld ?_
            try simp only [Act.put, List.setIfInBounds_toArray, List.set_cons_zero, List.set_cons_succ]
            refine wpAnyH_take (i := 5) (oi := { dst := some 66, op := Go.Op.fieldAddr 51 (Go.Operand.tmp 3) 6, type := 0, pos := "ref.go:166", after := #[], guard := none }) (v := ?_) rfl (by kernel_rfl) (by kernel_rfl) (by kernel_rfl) (fun _ _ _ h => h) (Or.inl ⟨by rfl, ?_⟩) hHeld ?_
            rotate_left 1
            · (intro wq hSq; (try dsimp only at hSq); go_simp; first | done | with_reducible rfl)
            try simp only [Act.put, List.setIfInBounds_toArray, List.set_cons_zero, List.set_cons_succ]
            refine wpAnyH_take (i := 6) (oi := { dst := some 67, op := Go.Op.load 49 (Go.Operand.tmp 66), type := 49, pos := "ref.go:166", after := #[{ on := 5, ground := Go.Ground.data }], guard := none }) (v := ?_) rfl (by kernel_rfl) (by kernel_rfl) (by kernel_rfl) (fun _ _ _ h => h) (Or.inl ⟨by rfl, ?_⟩) hHeld ?_
            rotate_left 1
            · (intro wq hSq; (try dsimp only at hSq); have c := CB.out _ hSq; go_simp; first | done | with_reducible rfl)
            try simp only [Act.put, List.setIfInBounds_toArray, List.set_cons_zero, List.set_cons_succ]
            refine wpAnyH_take (i := 7) (oi := { dst := some 68, op := Go.Op.move (Go.Operand.tmp 5), type := 3, pos := "ref.go:166", after := #[], guard := none }) (v := ?_) rfl (by kernel_rfl) (by kernel_rfl) (by kernel_rfl) (fun _ _ _ h => h) (Or.inl ⟨by rfl, ?_⟩) hHeld ?_
            rotate_left 1
            · (intro wq hSq; (try dsimp only at hSq); go_simp; first | done | with_reducible rfl)
            try simp only [Act.put, List.setIfInBounds_toArray, List.set_cons_zero, List.set_cons_succ]
            refine wpAnyH_take (i := 8) (oi := { dst := some 69, op := Go.Op.indexAddr 49 (Go.Operand.tmp 67) (Go.Operand.tmp 68), type := 0, pos := "ref.go:166", after := #[{ on := 6, ground := Go.Ground.data }, { on := 7, ground := Go.Ground.data }], guard := none }) (v := ?_) rfl (by kernel_rfl) (by kernel_rfl) (by kernel_rfl) (fun _ _ _ h => h) (Or.inl ⟨by rfl, ?_⟩) hHeld ?_
            rotate_left 1
            · (intro wq hSq; (try dsimp only at hSq); go_simp; first | done | with_reducible rfl)
            try simp only [Act.put, List.setIfInBounds_toArray, List.set_cons_zero, List.set_cons_succ]
            refine wpAnyH_take (i := 9) (oi := { dst := some 70, op := Go.Op.load 51 (Go.Operand.tmp 69), type := 51, pos := "ref.go:166", after := #[{ on := 8, ground := Go.Ground.data }], guard := none }) (v := vN g' (.slice bv' m'.length cq')) rfl (by kernel_rfl) (by kernel_rfl) (by kernel_rfl) (fun _ _ _ h => h) (yieldsIf_load_mid rfl 51 _ rfl b2 (o2 + j * 10) rfl (cN g' (.slice bv' m'.length cq')) _ (fun wq hSq => HS.out _ hSq) Try.underlying51 rfl size51) hHeld ?_
            try simp only [Act.put, List.setIfInBounds_toArray, List.set_cons_zero, List.set_cons_succ]
            refine wpAnyH_ready (rs := [10]) (by kernel_rfl) (by simp) ?_
            refine AllReadyH.cons (o := { dst := some 71, op := Go.Op.call { callee := Go.Callee.value (Go.Operand.func 41), args := #[Go.Operand.tmp 65, Go.Operand.tmp 70], argTypes := #[51, 51] }, type := 4, pos := "ref.go:166", after := #[{ on := 4, ground := Go.Ground.data }, { on := 9, ground := Go.Ground.data }], guard := none }) rfl (fun K hK => ?_) AllReadyH.nil
            go_simp
            refine (CALL.out _ (by assumption)).mono ?_
            rintro e w6 ⟨rfl, b6⟩
            refine hK.out _ _ (b6) (fun hHeld1 => ?_)
            clear hK K hHeld
            try simp only [Act.put, List.setIfInBounds_toArray, List.set_cons_zero, List.set_cons_succ]
            have B6 : Hid (Below wr.heap.size wr w6) := b6
            clear b6
            refine wpAnyH_take (i := 11) (oi := { dst := some 72, op := Go.Op.unOp Go.UnOp.not 4 (Go.Operand.tmp 71), type := 4, pos := "ref.go:166", after := #[{ on := 10, ground := Go.Ground.data }], guard := none }) (v := ?_) rfl (by kernel_rfl) (by kernel_rfl) (by kernel_rfl) (fun _ _ _ h => h) (Or.inl ⟨by rfl, ?_⟩) hHeld1 ?_
            rotate_left 1
            · (intro wq hSq; (try dsimp only at hSq); go_simp; first | done | with_reducible rfl)
            try simp only [Act.put, List.setIfInBounds_toArray, List.set_cons_zero, List.set_cons_succ]
            refine wpAnyH_done (by kernel_rfl) ?_ _
            refine NoPanic.normal ?_
            go_wp2
            go_ret
            exact ⟨ret_bool (by first | (rw [← HE.out]; done) | (rw [← HE.out]; rfl)), BW.out.trans (B6.out.mono BW.out.size)⟩
          | true =>
            rw [hB] at hst CALL
            have HF2 : Hid (sameL (l.drop (j + 1)) (m.drop (j + 1)) = R) := by rw [hst]; rfl
            clear hmem hat hat2 hIH r1 r3 r4 s1 s3 s4 ht ht2 hlt hst hB hsz HF
            go_wp2
            refine wp_region_noPanic ?_
            refine wp_region_held_drew (S := fun w' => Below wr.heap.size wr w') (by kernel_rfl) ((Below.refl _ _).drew) (fun hHeld => ?_)
            try simp only [Act.put, List.setIfInBounds_toArray, List.set_cons_zero, List.set_cons_succ]
            refine wpAnyH_take (i := 0) (oi := { dst := some 61, op := Go.Op.fieldAddr 51 (Go.Operand.tmp 2) 6, type := 0, pos := "ref.go:166", after := #[], guard := none }) (v := ?_) rfl (by kernel_rfl) (by kernel_rfl) (by kernel_rfl) (fun _ _ _ h => h) (Or.inl ⟨by rfl, ?_⟩) hHeld ?_
            rotate_left 1
            · (intro wq hSq; (try dsimp only at hSq); go_simp; first | done | with_reducible rfl)
            try simp only [Act.put, List.setIfInBounds_toArray, List.set_cons_zero, List.set_cons_succ]
            refine wpAnyH_take (i := 1) (oi := { dst := some 62, op := Go.Op.load 49 (Go.Operand.tmp 61), type := 49, pos := "ref.go:166", after := #[{ on := 0, ground := Go.Ground.data }], guard := none }) (v := ?_) rfl (by kernel_rfl) (by kernel_rfl) (by kernel_rfl) (fun _ _ _ h => h) (Or.inl ⟨by rfl, ?_⟩) hHeld ?_
            rotate_left 1
            · (intro wq hSq; (try dsimp only at hSq); have c := CA.out _ hSq; go_simp; first | done | with_reducible rfl)
            try simp only [Act.put, List.setIfInBounds_toArray, List.set_cons_zero, List.set_cons_succ]
            refine wpAnyH_take (i := 2) (oi := { dst := some 63, op := Go.Op.move (Go.Operand.tmp 5), type := 3, pos := "ref.go:166", after := #[], guard := none }) (v := ?_) rfl (by kernel_rfl) (by kernel_rfl) (by kernel_rfl) (fun _ _ _ h => h) (Or.inl ⟨by rfl, ?_⟩) hHeld ?_
            rotate_left 1
            · (intro wq hSq; (try dsimp only at hSq); go_simp; first | done | with_reducible rfl)
            try simp only [Act.put, List.setIfInBounds_toArray, List.set_cons_zero, List.set_cons_succ]
            refine wpAnyH_take (i := 3) (oi := { dst := some 64, op := Go.Op.indexAddr 49 (Go.Operand.tmp 62) (Go.Operand.tmp 63), type := 0, pos := "ref.go:166", after := #[{ on := 1, ground := Go.Ground.data }, { on := 2, ground := Go.Ground.data }], guard := none }) (v := ?_) rfl (by kernel_rfl) (by kernel_rfl) (by kernel_rfl) (fun _ _ _ h => h) (Or.inl ⟨by rfl, ?_⟩) hHeld ?_
            rotate_left 1
            · (intro wq hSq; (try dsimp only at hSq); go_simp; first | done | with_reducible rfl)
            try simp only [Act.put, List.setIfInBounds_toArray, List.set_cons_zero, List.set_cons_succ]
            refine wpAnyH_take (i := 4) (oi := { dst := some 65, op := Go.Op.load 51 (Go.Operand.tmp 64), type := 51, pos := "ref.go:166", after := #[{ on := 3, ground := Go.Ground.data }], guard := none }) (v := vN h' (.slice av' l'.length cp')) rfl (by kernel_rfl) (by kernel_rfl) (by kernel_rfl) (fun _ _ _ h => h) (yieldsIf_load_mid rfl 51 _ rfl b (o + j * 10) rfl (cN h' (.slice av' l'.length cp')) _ (fun wq hSq => HR.out _ hSq) Try.underlying51 rfl size51) hHeld ?_
            try simp only [Act.put, List.setIfInBounds_toArray, List.set_cons_zero, List.set_cons_succ]
            refine wpAnyH_take (i := 5) (oi := { dst := some 66, op := Go.Op.fieldAddr 51 (Go.Operand.tmp 3) 6, type := 0, pos := "ref.go:166", after := #[], guard := none }) (v := ?_) rfl (by kernel_rfl) (by kernel_rfl) (by kernel_rfl) (fun _ _ _ h => h) (Or.inl ⟨by rfl, ?_⟩) hHeld ?_
            rotate_left 1
            · (intro wq hSq; (try dsimp only at hSq); go_simp; first | done | with_reducible rfl)
            try simp only [Act.put, List.setIfInBounds_toArray, List.set_cons_zero, List.set_cons_succ]
            refine wpAnyH_take (i := 6) (oi := { dst := some 67, op := Go.Op.load 49 (Go.Operand.tmp 66), type := 49, pos := "ref.go:166", after := #[{ on := 5, ground := Go.Ground.data }], guard := none }) (v := ?_) rfl (by kernel_rfl) (by kernel_rfl) (by kernel_rfl) (fun _ _ _ h => h) (Or.inl ⟨by rfl, ?_⟩) hHeld ?_
            rotate_left 1
            · (intro wq hSq; (try dsimp only at hSq); have c := CB.out _ hSq; go_simp; first | done | with_reducible rfl)
            try simp only [Act.put, List.setIfInBounds_toArray, List.set_cons_zero, List.set_cons_succ]
            refine wpAnyH_take (i := 7) (oi := { dst := some 68, op := Go.Op.move (Go.Operand.tmp 5), type := 3, pos := "ref.go:166", after := #[], guard := none }) (v := ?_) rfl (by kernel_rfl) (by kernel_rfl) (by kernel_rfl) (fun _ _ _ h => h) (Or.inl ⟨by rfl, ?_⟩) hHeld ?_
            rotate_left 1
            · (intro wq hSq; (try dsimp only at hSq); go_simp; first | done | with_reducible rfl)
            try simp only [Act.put, List.setIfInBounds_toArray, List.set_cons_zero, List.set_cons_succ]
            refine wpAnyH_take (i := 8) (oi := { dst := some 69, op := Go.Op.indexAddr 49 (Go.Operand.tmp 67) (Go.Operand.tmp 68), type := 0, pos := "ref.go:166", after := #[{ on := 6, ground := Go.Ground.data }, { on := 7, ground := Go.Ground.data }], guard := none }) (v := ?_) rfl (by kernel_rfl) (by kernel_rfl) (by kernel_rfl) (fun _ _ _ h => h) (Or.inl ⟨by rfl, ?_⟩) hHeld ?_
            rotate_left 1
            · (intro wq hSq; (try dsimp only at hSq); go_simp; first | done | with_reducible rfl)
            try simp only [Act.put, List.setIfInBounds_toArray, List.set_cons_zero, List.set_cons_succ]
            refine wpAnyH_take (i := 9) (oi := { dst := some 70, op := Go.Op.load 51 (Go.Operand.tmp 69), type := 51, pos := "ref.go:166", after := #[{ on := 8, ground := Go.Ground.data }], guard := none }) (v := vN g' (.slice bv' m'.length cq')) rfl (by kernel_rfl) (by kernel_rfl) (by kernel_rfl) (fun _ _ _ h => h) (yieldsIf_load_mid rfl 51 _ rfl b2 (o2 + j * 10) rfl (cN g' (.slice bv' m'.length cq')) _ (fun wq hSq => HS.out _ hSq) Try.underlying51 rfl size51) hHeld ?_
            try simp only [Act.put, List.setIfInBounds_toArray, List.set_cons_zero, List.set_cons_succ]
            refine wpAnyH_ready (rs := [10]) (by kernel_rfl) (by simp) ?_
            refine AllReadyH.cons (o := { dst := some 71, op := Go.Op.call { callee := Go.Callee.value (Go.Operand.func 41), args := #[Go.Operand.tmp 65, Go.Operand.tmp 70], argTypes := #[51, 51] }, type := 4, pos := "ref.go:166", after := #[{ on := 4, ground := Go.Ground.data }, { on := 9, ground := Go.Ground.data }], guard := none }) rfl (fun K hK => ?_) AllReadyH.nil
            go_simp
            refine (CALL.out _ (by assumption)).mono ?_
            rintro e w6 ⟨rfl, b6⟩
            refine hK.out _ _ (b6) (fun hHeld1 => ?_)
            clear hK K hHeld
            try simp only [Act.put, List.setIfInBounds_toArray, List.set_cons_zero, List.set_cons_succ]
            have B6 : Hid (Below wr.heap.size wr w6) := b6
            clear b6
            refine wpAnyH_take (i := 11) (oi := { dst := some 72, op := Go.Op.unOp Go.UnOp.not 4 (Go.Operand.tmp 71), type := 4, pos := "ref.go:166", after := #[{ on := 10, ground := Go.Ground.data }], guard := none }) (v := ?_) rfl (by kernel_rfl) (by kernel_rfl) (by kernel_rfl) (fun _ _ _ h => h) (Or.inl ⟨by rfl, ?_⟩) hHeld1 ?_
            rotate_left 1
            · (intro wq hSq; (try dsimp only at hSq); go_simp; first | done | with_reducible rfl)
            try simp only [Act.put, List.setIfInBounds_toArray, List.set_cons_zero, List.set_cons_succ]
            refine wpAnyH_done (by kernel_rfl) ?_ _
            refine NoPanic.normal ?_
            go_wp2
            go_roundw
            case rel => exact ⟨j + 1, by have := HLT.out; omega, by go_num, HF2.out, BW.out.trans (B6.out.mono BW.out.size), BA.out.below B6.out BA.out.lt, BB.out.below B6.out BB.out.lt⟩
            case measure => have := HLT.out; simp [intOf]; omega
        · have i1 : ¬ (j : Int) < (n : Int) := by omega
          have HE : Hid (true = R) := by
            rw [← HF.out, List.drop_eq_nil_of_le (by rw [← HN.out]; omega), List.drop_eq_nil_of_le (by rw [← HM.out]; omega)]; rfl
          clear hlt HF
          go_wp2
          go_ret
          exact ⟨ret_bool (by first | (rw [← HE.out]; done) | (rw [← HE.out]; rfl)), BW.out⟩
    · have HE : Hid (sameL l m = false) := by
        unfold Hid; rw [Bool.eq_false_iff]; exact fun e => hlen (by rw [HN.out, HM.out]; exact sameL_len l m e)
      have hne : ((n : Int) == (n2 : Int)) = false := by simp; omega
      have hne2 : ¬ (n : Int) = (n2 : Int) := by omega
      clear hlen
      go_enter Try.func41, Try.ntmps41
      go_wp2
      go_ret
      exact ⟨ret_bool (by rw [HE.out]; rfl), ((Below.refl _ _).alloc (Nat.le_refl _) _).alloc (by simp) _⟩
end Go.Proofs.Ytaoobmpjlagkpaa
