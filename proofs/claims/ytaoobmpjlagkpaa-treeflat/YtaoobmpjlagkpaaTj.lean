import Derived.Test.YtaoobmpjlagkpaaTi
namespace Go.Proofs.Ytaoobmpjlagkpaa
set_option linter.unusedSimpArgs false
set_option linter.unusedVariables false
open Go.RowKit
open Go.Deep
set_option maxHeartbeats 2000000 in
set_option maxRecDepth 100000 in
theorem theirs_any (t : T) : ∀ (w : World) (u : Value), SV AnyB w u t.kids → countT t ≤ 1000000 → Calls Try.prog 30 #[vN t.hd u] w fun e w' => ∃ u', e = .returned (vN t.hd u') ∧ SV (fun b => w.heap.size ≤ b) w' u' t.kids ∧ Below w.heap.size w w' := by
  induction t using T.ind; rename_i hd l ih; intro w u hu hc
  obtain ⟨av, cp, b, o, rfl, h1, h2, h3, h4⟩ := hu
  obtain ⟨k, c, x0, x1, x2, x3, nn, lo, hi⟩ := hd
  simp only [T.kids_mk, T.hd_mk] at h1 h3 h4 ih ⊢
  obtain ⟨n, hn⟩ : ∃ n, n = l.length := ⟨_, rfl⟩
  have HN : Hid (n = l.length) := hn
  have HL : Hid (LAt AnyB w b o l) := h4
  have HA : Hid (0 < n → av = some ⟨b, o, none⟩) := by rw [hn]; exact h3
  have HC : Hid (1 + countL l ≤ 1000000) := hc
  have IH : Hid (∀ t ∈ l, ∀ (w : World) (u : Value), SV AnyB w u t.kids → countT t ≤ 1000000 → Calls Try.prog 30 #[vN t.hd u] w fun e w' => ∃ u', e = .returned (vN t.hd u') ∧ SV (fun b => w.heap.size ≤ b) w' u' t.kids ∧ Below w.heap.size w w') := ih
  rw [← hn] at h1 ⊢
  have hsz1 : (w.alloc (.cells (cN ⟨k, c, x0, x1, x2, x3, nn, lo, hi⟩ (.slice av n cp)).toArray 51)).heap.size = w.heap.size + 1 := by simp
  have TW0 : Hid (ThW 51 55 w _ ⟨k, c, x0, x1, x2, x3, nn, lo, hi⟩ (.slice av n cp) (.slice none 0 0) []) := ThW.start 51 55 w ⟨k, c, x0, x1, x2, x3, nn, lo, hi⟩ (.slice av n cp)
  clear hn h3 h4 hc ih
  change Calls Try.prog 30 #[.agg #[.int .i64 k, .int .u8 (c : Int), .int .u64 (x0 : Int), .int .u64 x1, .int .u64 x2, .int .u64 x3, .int .i64 nn, .int .i64 lo, .int .i64 hi, .slice av n cp]] w _
  go_enter Try.func30, Try.ntmps30
  go_wp2
  go_loopw [21] (fun i wr => ∃ (j : Nat) (va : Option Addr) (vl vc : Nat), j ≤ n ∧ i = .int .i64 j ∧ Hid (ThW 51 55 w wr ⟨k, c, x0, x1, x2, x3, nn, lo, hi⟩ (.slice av n cp) (.slice va vl vc) (l.take j))) (fun i _ => n - (intOf i).toNat)
  case atStart => exact ⟨0, none, 0, 0, by omega, rfl, TW0.out⟩
  case round =>
    obtain ⟨j, va, vl, vc, hj, rfl, TW⟩ := hrel
    by_cases hlt : j < n
    · obtain rfl := HA.out (by omega)
      obtain ⟨t, ht⟩ : ∃ t, l[j]? = some t := ⟨l[j]'(by rw [← HN.out]; exact hlt), List.getElem?_eq_getElem (by rw [← HN.out]; exact hlt)⟩
      have hmem := List.mem_of_getElem? ht
      have hat := HL.out.get ht
      have hct : countT t ≤ 1000000 := by have := count_mem hmem; have := HC.out; omega
      have hIH := IH.out t hmem
      have HTK := take_snocT l j t ht
      obtain ⟨h', l', rfl⟩ := t.out
      rw [T.hd_mk, T.kids_mk] at hIH
      have HTK : Hid (l.take (j + 1) = l.take j ++ [T.mk h' l']) := HTK
      obtain ⟨u', r1, _, r3, r4⟩ := hat.out
      have hbw := TW.out.bel
      have hsw := TW.out.sz
      have HTL : Hid ((l.take j).length ≤ 1000000) := by have := len_le_countL l; have := HC.out; unfold Hid; rw [List.length_take]; omega
      have HBL : Hid (b < w.heap.size) := r3
      have CALL : Hid (Calls Try.prog 30 #[vN h' u'] wr.drew fun e w' => ∃ u6, e = .returned (vN h' u6) ∧ SV (fun b => wr.heap.size ≤ b) w' u6 l' ∧ Below wr.drew.heap.size wr.drew w') := hIH wr.drew u' ((r4.below hbw).below ((Below.refl _ _).drew)) hct
      obtain ⟨av', cp', b', o', hu', _⟩ := id r4
      subst hu'
      have RDL : Hid (∀ g, g = w.heap.size ∨ g = w.heap.size + 1 + 1 ∨ g = b → g < wr.heap.size) := fun g hg => by omega
      have RD0 : Hid (RdT 51 55 w.heap.size ⟨k, c, x0, x1, x2, x3, nn, lo, hi⟩ (.slice (some ⟨b, o, none⟩) n cp) (.slice va vl vc) b (o + j * 10) h' (.slice av' l'.length cp') wr.drew) := ⟨TW.out.b0.blk rfl, TW.out.b2.blk rfl, range_block (range_block r1 (hbw.block b r3)) rfl⟩
      have i1 : (j : Int) < (n : Int) := by omega
      have i0 : (0 : Int) ≤ (j : Int) := by omega
      have HLT : Hid (j < n) := hlt
      clear hmem hat hIH r1 r3 r4 ht hlt hct hbw hsw
      go_wp2
      refine wp_region_noPanic ?_
      refine wp_region_M (m := 11) (S := RdT 51 55 w.heap.size ⟨k, c, x0, x1, x2, x3, nn, lo, hi⟩ (.slice (some ⟨b, o, none⟩) n cp) (.slice va vl vc) b (o + j * 10) h' (.slice av' l'.length cp')) (by kernel_rfl) (RD0.out) (fun hHeld => ?_)
      try simp only [Act.put, List.setIfInBounds_toArray, List.set_cons_zero, List.set_cons_succ]
      refine wpAnyM_take (i := 0) (oi := { dst := some 24, op := Go.Op.fieldAddr 55 (Go.Operand.tmp 3) 6, type := 0, pos := "law.go:14", after := #[], guard := none }) (v := ?_) rfl (by kernel_rfl) (by kernel_rfl) (by kernel_rfl) (by kernel_rfl) rfl (fun _ _ _ h => h) (Or.inl ⟨by rfl, ?_⟩) hHeld ?_
      rotate_left 1
      · (intro wq hSq; (try dsimp only at hSq); go_simp; first | done | with_reducible rfl)
      try simp only [Act.put, List.setIfInBounds_toArray, List.set_cons_zero, List.set_cons_succ]
      refine wpAnyM_take (i := 1) (oi := { dst := some 25, op := Go.Op.load 53 (Go.Operand.tmp 24), type := 53, pos := "law.go:14", after := #[{ on := 0, ground := Go.Ground.data }], guard := none }) (v := ?_) rfl (by kernel_rfl) (by kernel_rfl) (by kernel_rfl) (by kernel_rfl) rfl (fun _ _ _ h => h) (Or.inl ⟨by rfl, ?_⟩) hHeld ?_
      rotate_left 1
      · (intro wq hSq; (try dsimp only at hSq); have c := hSq.2.1.cell 9 _ rfl; go_simp; first | done | with_reducible rfl)
      try simp only [Act.put, List.setIfInBounds_toArray, List.set_cons_zero, List.set_cons_succ]
      refine wpAnyM_take (i := 2) (oi := { dst := some 26, op := Go.Op.fieldAddr 51 (Go.Operand.tmp 1) 6, type := 0, pos := "law.go:14", after := #[], guard := none }) (v := ?_) rfl (by kernel_rfl) (by kernel_rfl) (by kernel_rfl) (by kernel_rfl) rfl (fun _ _ _ h => h) (Or.inl ⟨by rfl, ?_⟩) hHeld ?_
      rotate_left 1
      · (intro wq hSq; (try dsimp only at hSq); go_simp; first | done | with_reducible rfl)
      try simp only [Act.put, List.setIfInBounds_toArray, List.set_cons_zero, List.set_cons_succ]
      refine wpAnyM_take (i := 3) (oi := { dst := some 27, op := Go.Op.load 49 (Go.Operand.tmp 26), type := 49, pos := "law.go:14", after := #[{ on := 2, ground := Go.Ground.data }], guard := none }) (v := ?_) rfl (by kernel_rfl) (by kernel_rfl) (by kernel_rfl) (by kernel_rfl) rfl (fun _ _ _ h => h) (Or.inl ⟨by rfl, ?_⟩) hHeld ?_
      rotate_left 1
      · (intro wq hSq; (try dsimp only at hSq); have c := hSq.1.cell 9 _ rfl; go_simp; first | done | with_reducible rfl)
      try simp only [Act.put, List.setIfInBounds_toArray, List.set_cons_zero, List.set_cons_succ]
      refine wpAnyM_take (i := 4) (oi := { dst := some 28, op := Go.Op.move (Go.Operand.tmp 4), type := 3, pos := "law.go:14", after := #[], guard := none }) (v := ?_) rfl (by kernel_rfl) (by kernel_rfl) (by kernel_rfl) (by kernel_rfl) rfl (fun _ _ _ h => h) (Or.inl ⟨by rfl, ?_⟩) hHeld ?_
      rotate_left 1
      · (intro wq hSq; (try dsimp only at hSq); go_simp; first | done | with_reducible rfl)
      try simp only [Act.put, List.setIfInBounds_toArray, List.set_cons_zero, List.set_cons_succ]
      refine wpAnyM_take (i := 5) (oi := { dst := some 29, op := Go.Op.indexAddr 49 (Go.Operand.tmp 27) (Go.Operand.tmp 28), type := 0, pos := "law.go:14", after := #[{ on := 3, ground := Go.Ground.data }, { on := 4, ground := Go.Ground.data }], guard := none }) (v := ?_) rfl (by kernel_rfl) (by kernel_rfl) (by kernel_rfl) (by kernel_rfl) rfl (fun _ _ _ h => h) (Or.inl ⟨by rfl, ?_⟩) hHeld ?_
      rotate_left 1
      · (intro wq hSq; (try dsimp only at hSq); go_simp; first | done | with_reducible rfl)
      try simp only [Act.put, List.setIfInBounds_toArray, List.set_cons_zero, List.set_cons_succ]
      refine wpAnyM_take (i := 6) (oi := { dst := some 30, op := Go.Op.load 51 (Go.Operand.tmp 29), type := 51, pos := "law.go:14", after := #[{ on := 5, ground := Go.Ground.data }], guard := none }) (v := vN h' (.slice av' l'.length cp')) rfl (by kernel_rfl) (by kernel_rfl) (by kernel_rfl) (by kernel_rfl) rfl (fun _ _ _ h => h) (yieldsIf_load_mid rfl 51 _ rfl b (o + j * 10) rfl (cN h' (.slice av' l'.length cp')) _ (fun wq hSq => hSq.2.2) Try.underlying51 rfl size51) hHeld ?_
      try simp only [Act.put, List.setIfInBounds_toArray, List.set_cons_zero, List.set_cons_succ]
      refine wpAnyM_one (i := 7) (o := { dst := some 31, op := Go.Op.call { callee := Go.Callee.value (Go.Operand.func 30), args := #[Go.Operand.tmp 30], argTypes := #[51] }, type := 55, pos := "law.go:14", after := #[{ on := 6, ground := Go.Ground.data }], guard := none }) (by kernel_rfl) rfl (fun K hK => ?_)
      go_simp
      refine CALL.out.mono ?_
      rintro e w6 ⟨u6, rfl, s6, b6⟩
      have B6 : Hid (Below wr.heap.size wr w6) := (((Below.refl _ _).drew).trans b6)
      have RD6 : Hid (RdT 51 55 w.heap.size ⟨k, c, x0, x1, x2, x3, nn, lo, hi⟩ (.slice (some ⟨b, o, none⟩) n cp) (.slice va vl vc) b (o + j * 10) h' (.slice av' l'.length cp') w6) := (by assumption : RdT 51 55 w.heap.size ⟨k, c, x0, x1, x2, x3, nn, lo, hi⟩ (.slice (some ⟨b, o, none⟩) n cp) (.slice va vl vc) b (o + j * 10) h' (.slice av' l'.length cp') wr.drew).step fun g hg => b6.block g (RDL.out g hg)
      have SV6 : Hid (SV (fun x => (w.heap.size + 1 + 1 + 1 ≤ x) ∧ some x ≠ (Value.slice va vl vc).ownBlock) w6 u6 (T.mk h' l').kids) := by
        unfold Hid; rw [T.kids_mk]
        exact s6.weak fun x hx _ => ⟨Nat.le_trans TW.out.sz hx, fun q => by have := (TW.out.own.low x q.symm).2; have hx2 : wr.heap.size ≤ x := hx; omega⟩
      have O6 : Hid (OwnT 55 (fun b => w.heap.size + 1 + 1 + 1 ≤ b) (w.heap.size + 1 + 1 + 1) w6 (.slice va vl vc) (l.take j)) := TW.out.own.below B6.out
      refine hK.out _ _ (fun _ => RD6.out) (fun hHeldQ => ?_)
      have hHeld1 := hHeldQ rfl
      clear hK K hHeldQ hHeld
      try simp only [Act.put, List.setIfInBounds_toArray, List.set_cons_zero, List.set_cons_succ]
      clear s6 b6
      refine wpAnyM_one (i := 8) (o := { dst := some 32, op := Go.Op.buildSlice 53 1 #[(0, Go.Operand.tmp 31)], type := 53, pos := "law.go:14", after := #[{ on := 7, ground := Go.Ground.data }], guard := none }) (by kernel_rfl) rfl (fun K hK => ?_)
      refine step_build55 rfl _ rfl h' u6 (by rfl) ?_
      refine hK.out _ _ (fun _ => RD6.out.step fun g hg => Below.heap_alloc _ _ _ (Nat.lt_of_lt_of_le (RDL.out g hg) B6.out.size)) (fun hHeldQ => ?_)
      have hHeld2 := hHeldQ rfl
      clear hK K hHeldQ hHeld1
      try simp only [Act.put, List.setIfInBounds_toArray, List.set_cons_zero, List.set_cons_succ]
      refine wpAnyM_one (i := 9) (o := { dst := some 33, op := Go.Op.call { callee := Go.Callee.builtin Go.Builtin.append, args := #[Go.Operand.tmp 25, Go.Operand.tmp 32], argTypes := #[53, 53] }, type := 53, pos := "law.go:14", after := #[{ on := 1, ground := Go.Ground.data }, { on := 8, ground := Go.Ground.data }, { on := 7, ground := Go.Ground.chain }], guard := none }) (by kernel_rfl) rfl (fun K hK => ?_)
      refine step_snoc55 rfl _ _ rfl (fun b => w.heap.size + 1 + 1 + 1 ≤ b) (w.heap.size + 1 + 1 + 1) (.slice va vl vc) (l.take j) (by rfl) O6.out (T.mk h' l') u6 SV6.out (by rfl) HTL.out (Nat.le_trans TW.out.sz B6.out.size) ?_
      intro v7 w7 O7 g7
      have RD7 : Hid (RdT 51 55 w.heap.size ⟨k, c, x0, x1, x2, x3, nn, lo, hi⟩ (.slice (some ⟨b, o, none⟩) n cp) (.slice va vl vc) b (o + j * 10) h' (.slice av' l'.length cp') w7) := TW.out.read B6.out _ g7 HBL.out RD6.out
      have TW7 := TW.out.next B6.out _ O7 g7
      obtain ⟨va7, vc7, e7⟩ := O7.form
      subst e7
      obtain ⟨vl7, hvl7⟩ : ∃ vl7, vl7 = (l.take j ++ [T.mk h' l']).length := ⟨_, rfl⟩
      rw [← hvl7] at TW7 ⊢
      have TW7 : Hid (ThW 51 55 w _ ⟨k, c, x0, x1, x2, x3, nn, lo, hi⟩ (.slice (some ⟨b, o, none⟩) n cp) (.slice va7 vl7 vc7) _) := TW7
      refine hK.out _ _ (fun _ => RD7.out) (fun hHeldQ => ?_)
      have hHeld3 := hHeldQ rfl
      clear hK K hHeldQ hHeld2
      try simp only [Act.put, List.setIfInBounds_toArray, List.set_cons_zero, List.set_cons_succ]
      clear O7 g7 hvl7 O6 SV6 CALL
      refine wpAnyM_take (i := 10) (oi := { dst := some 34, op := Go.Op.fieldAddr 55 (Go.Operand.tmp 3) 6, type := 0, pos := "law.go:14", after := #[{ on := 0, ground := Go.Ground.phase }, { on := 1, ground := Go.Ground.phase }, { on := 2, ground := Go.Ground.phase }, { on := 3, ground := Go.Ground.phase }, { on := 4, ground := Go.Ground.phase }, { on := 5, ground := Go.Ground.phase }, { on := 6, ground := Go.Ground.phase }, { on := 7, ground := Go.Ground.phase }, { on := 8, ground := Go.Ground.phase }, { on := 9, ground := Go.Ground.phase }], guard := none }) (v := ?_) rfl (by kernel_rfl) (by kernel_rfl) (by kernel_rfl) (by kernel_rfl) rfl (fun _ _ _ h => h) (Or.inl ⟨by rfl, ?_⟩) hHeld3 ?_
      rotate_left 1
      · (intro wq hSq; (try dsimp only at hSq); go_simp; first | done | with_reducible rfl)
      try simp only [Act.put, List.setIfInBounds_toArray, List.set_cons_zero, List.set_cons_succ]
      refine wpAnyM_one (i := 11) (o := { dst := none, op := Go.Op.store 53 (Go.Operand.tmp 34) (Go.Operand.tmp 33), type := 0, pos := "law.go:14", after := #[{ on := 10, ground := Go.Ground.data }, { on := 9, ground := Go.Ground.data }, { on := 9, ground := Go.Ground.chain }, { on := 0, ground := Go.Ground.phase }, { on := 1, ground := Go.Ground.phase }, { on := 2, ground := Go.Ground.phase }, { on := 3, ground := Go.Ground.phase }, { on := 4, ground := Go.Ground.phase }, { on := 5, ground := Go.Ground.phase }, { on := 6, ground := Go.Ground.phase }, { on := 7, ground := Go.Ground.phase }, { on := 8, ground := Go.Ground.phase }, { on := 9, ground := Go.Ground.phase }], guard := none }) (by kernel_rfl) rfl (fun K hK => ?_)
      have c7 := RD7.out.2.1.cell 9 _ rfl
      have f7 : w7.frozen? ⟨w.heap.size + 1 + 1, 9, none⟩ = false := unfrozen RD7.out.2.1
      go_simp
      refine hK.out _ _ (fun h => by cases h) (fun _ => ?_)
      clear hK K hHeld3
      try simp only [Act.put, List.setIfInBounds_toArray, List.set_cons_zero, List.set_cons_succ]
      refine wpAnyM_done (by kernel_rfl) ?_ _
      refine NoPanic.normal ?_
      go_wp2
      go_roundw
      case rel => exact ⟨j + 1, va7, vl7, vc7, by have := HLT.out; omega, by go_num, by rw [HTK.out]; exact TW7.out⟩
      case measure => have := HLT.out; simp [intOf]; omega
    · have i1 : ¬ (j : Int) < (n : Int) := by omega
      have TWE : Hid (ThW 51 55 w wr ⟨k, c, x0, x1, x2, x3, nn, lo, hi⟩ (.slice av n cp) (.slice va vl vc) l) := by
        have q := TW.out
        rw [List.take_of_length_le (by rw [← HN.out]; omega)] at q
        exact q
      have HR : Hid (wr.rangeAt (w.heap.size + 1 + 1) 0 (cN ⟨k, c, x0, x1, x2, x3, nn, lo, hi⟩ (.slice va vl vc))) := TW.out.b2.range
      clear hlt
      go_wp2_with (first | (refine loadN55 rfl _ rfl (w.heap.size + 1 + 1) 0 rfl ⟨k, c, x0, x1, x2, x3, nn, lo, hi⟩ _ HR.out ?_) | (refine storeB55 rfl _ _ rfl (w.heap.size + 1) rfl ⟨k, c, x0, x1, x2, x3, nn, lo, hi⟩ _ rfl rfl hd0 _ TWE.out.b1 ?_))
      exact bodyPost_ret (v := vN ⟨k, c, x0, x1, x2, x3, nn, lo, hi⟩ (.slice va vl vc)) (res55 2 Try.results30 _ _ (w.heap.size + 1) _ _ rfl (TWE.out.b1.row _ _)) rfl ⟨_, rfl, (TWE.out.own.sv.weak (S' := fun b => w.heap.size + 1 + 1 + 1 ≤ b) (fun x hx _ => by rcases hx with hx | hx <;> exact hx)).keep (by simp [World.setRow]) (fun x hx _ => ⟨Nat.le_trans (by omega) hx, setRow_other _ _ _ _ (by omega)⟩), below_row TWE.out.bel (by omega) _⟩
set_option maxHeartbeats 2000000 in
set_option maxRecDepth 100000 in
theorem ours_any (t : T) : ∀ (w : World) (u : Value), SV AnyB w u t.kids → countT t ≤ 1000000 → Calls Try.prog 42 #[vN t.hd u] w fun e w' => ∃ u', e = .returned (vN t.hd u') ∧ SV (fun b => w.heap.size ≤ b) w' u' t.kids ∧ Below w.heap.size w w' := by
  induction t using T.ind; rename_i hd l ih; intro w u hu hc
  obtain ⟨av, cp, b, o, rfl, h1, h2, h3, h4⟩ := hu
  obtain ⟨k, c, x0, x1, x2, x3, nn, lo, hi⟩ := hd
  simp only [T.kids_mk, T.hd_mk] at h1 h3 h4 ih ⊢
  obtain ⟨n, hn⟩ : ∃ n, n = l.length := ⟨_, rfl⟩
  have HN : Hid (n = l.length) := hn
  have HL : Hid (LAt AnyB w b o l) := h4
  have HA : Hid (0 < n → av = some ⟨b, o, none⟩) := by rw [hn]; exact h3
  have HC : Hid (1 + countL l ≤ 1000000) := hc
  have IH : Hid (∀ t ∈ l, ∀ (w : World) (u : Value), SV AnyB w u t.kids → countT t ≤ 1000000 → Calls Try.prog 42 #[vN t.hd u] w fun e w' => ∃ u', e = .returned (vN t.hd u') ∧ SV (fun b => w.heap.size ≤ b) w' u' t.kids ∧ Below w.heap.size w w') := ih
  rw [← hn] at h1 ⊢
  have hsz1 : (w.alloc (.cells (cN ⟨k, c, x0, x1, x2, x3, nn, lo, hi⟩ (.slice av n cp)).toArray 55)).heap.size = w.heap.size + 1 := by simp
  have TW0 : Hid (ThW 55 51 w _ ⟨k, c, x0, x1, x2, x3, nn, lo, hi⟩ (.slice av n cp) (.slice none 0 0) []) := ThW.start 55 51 w ⟨k, c, x0, x1, x2, x3, nn, lo, hi⟩ (.slice av n cp)
  clear hn h3 h4 hc ih
  change Calls Try.prog 42 #[.agg #[.int .i64 k, .int .u8 (c : Int), .int .u64 (x0 : Int), .int .u64 x1, .int .u64 x2, .int .u64 x3, .int .i64 nn, .int .i64 lo, .int .i64 hi, .slice av n cp]] w _
  go_enter Try.func42, Try.ntmps42
  go_wp2
  go_loopw [21] (fun i wr => ∃ (j : Nat) (va : Option Addr) (vl vc : Nat), j ≤ n ∧ i = .int .i64 j ∧ Hid (ThW 55 51 w wr ⟨k, c, x0, x1, x2, x3, nn, lo, hi⟩ (.slice av n cp) (.slice va vl vc) (l.take j))) (fun i _ => n - (intOf i).toNat)
  case atStart => exact ⟨0, none, 0, 0, by omega, rfl, TW0.out⟩
  case round =>
    obtain ⟨j, va, vl, vc, hj, rfl, TW⟩ := hrel
    by_cases hlt : j < n
    · obtain rfl := HA.out (by omega)
      obtain ⟨t, ht⟩ : ∃ t, l[j]? = some t := ⟨l[j]'(by rw [← HN.out]; exact hlt), List.getElem?_eq_getElem (by rw [← HN.out]; exact hlt)⟩
      have hmem := List.mem_of_getElem? ht
      have hat := HL.out.get ht
      have hct : countT t ≤ 1000000 := by have := count_mem hmem; have := HC.out; omega
      have hIH := IH.out t hmem
      have HTK := take_snocT l j t ht
      obtain ⟨h', l', rfl⟩ := t.out
      rw [T.hd_mk, T.kids_mk] at hIH
      have HTK : Hid (l.take (j + 1) = l.take j ++ [T.mk h' l']) := HTK
      obtain ⟨u', r1, _, r3, r4⟩ := hat.out
      have hbw := TW.out.bel
      have hsw := TW.out.sz
      have HTL : Hid ((l.take j).length ≤ 1000000) := by have := len_le_countL l; have := HC.out; unfold Hid; rw [List.length_take]; omega
      have HBL : Hid (b < w.heap.size) := r3
      have CALL : Hid (Calls Try.prog 42 #[vN h' u'] wr.drew fun e w' => ∃ u6, e = .returned (vN h' u6) ∧ SV (fun b => wr.heap.size ≤ b) w' u6 l' ∧ Below wr.drew.heap.size wr.drew w') := hIH wr.drew u' ((r4.below hbw).below ((Below.refl _ _).drew)) hct
      obtain ⟨av', cp', b', o', hu', _⟩ := id r4
      subst hu'
      have RDL : Hid (∀ g, g = w.heap.size ∨ g = w.heap.size + 1 + 1 ∨ g = b → g < wr.heap.size) := fun g hg => by omega
      have RD0 : Hid (RdT 55 51 w.heap.size ⟨k, c, x0, x1, x2, x3, nn, lo, hi⟩ (.slice (some ⟨b, o, none⟩) n cp) (.slice va vl vc) b (o + j * 10) h' (.slice av' l'.length cp') wr.drew) := ⟨TW.out.b0.blk rfl, TW.out.b2.blk rfl, range_block (range_block r1 (hbw.block b r3)) rfl⟩
      have i1 : (j : Int) < (n : Int) := by omega
      have i0 : (0 : Int) ≤ (j : Int) := by omega
      have HLT : Hid (j < n) := hlt
      clear hmem hat hIH r1 r3 r4 ht hlt hct hbw hsw
      go_wp2
      refine wp_region_noPanic ?_
      refine wp_region_M (m := 11) (S := RdT 55 51 w.heap.size ⟨k, c, x0, x1, x2, x3, nn, lo, hi⟩ (.slice (some ⟨b, o, none⟩) n cp) (.slice va vl vc) b (o + j * 10) h' (.slice av' l'.length cp')) (by kernel_rfl) (RD0.out) (fun hHeld => ?_)
      try simp only [Act.put, List.setIfInBounds_toArray, List.set_cons_zero, List.set_cons_succ]
      refine wpAnyM_take (i := 0) (oi := { dst := some 24, op := Go.Op.fieldAddr 51 (Go.Operand.tmp 3) 6, type := 0, pos := "law.go:23", after := #[], guard := none }) (v := ?_) rfl (by kernel_rfl) (by kernel_rfl) (by kernel_rfl) (by kernel_rfl) rfl (fun _ _ _ h => h) (Or.inl ⟨by rfl, ?_⟩) hHeld ?_
      rotate_left 1
      · (intro wq hSq; (try dsimp only at hSq); go_simp; first | done | with_reducible rfl)
      try simp only [Act.put, List.setIfInBounds_toArray, List.set_cons_zero, List.set_cons_succ]
      refine wpAnyM_take (i := 1) (oi := { dst := some 25, op := Go.Op.load 49 (Go.Operand.tmp 24), type := 49, pos := "law.go:23", after := #[{ on := 0, ground := Go.Ground.data }], guard := none }) (v := ?_) rfl (by kernel_rfl) (by kernel_rfl) (by kernel_rfl) (by kernel_rfl) rfl (fun _ _ _ h => h) (Or.inl ⟨by rfl, ?_⟩) hHeld ?_
      rotate_left 1
      · (intro wq hSq; (try dsimp only at hSq); have c := hSq.2.1.cell 9 _ rfl; go_simp; first | done | with_reducible rfl)
      try simp only [Act.put, List.setIfInBounds_toArray, List.set_cons_zero, List.set_cons_succ]
      refine wpAnyM_take (i := 2) (oi := { dst := some 26, op := Go.Op.fieldAddr 55 (Go.Operand.tmp 1) 6, type := 0, pos := "law.go:23", after := #[], guard := none }) (v := ?_) rfl (by kernel_rfl) (by kernel_rfl) (by kernel_rfl) (by kernel_rfl) rfl (fun _ _ _ h => h) (Or.inl ⟨by rfl, ?_⟩) hHeld ?_
      rotate_left 1
      · (intro wq hSq; (try dsimp only at hSq); go_simp; first | done | with_reducible rfl)
      try simp only [Act.put, List.setIfInBounds_toArray, List.set_cons_zero, List.set_cons_succ]
      refine wpAnyM_take (i := 3) (oi := { dst := some 27, op := Go.Op.load 53 (Go.Operand.tmp 26), type := 53, pos := "law.go:23", after := #[{ on := 2, ground := Go.Ground.data }], guard := none }) (v := ?_) rfl (by kernel_rfl) (by kernel_rfl) (by kernel_rfl) (by kernel_rfl) rfl (fun _ _ _ h => h) (Or.inl ⟨by rfl, ?_⟩) hHeld ?_
      rotate_left 1
      · (intro wq hSq; (try dsimp only at hSq); have c := hSq.1.cell 9 _ rfl; go_simp; first | done | with_reducible rfl)
      try simp only [Act.put, List.setIfInBounds_toArray, List.set_cons_zero, List.set_cons_succ]
      refine wpAnyM_take (i := 4) (oi := { dst := some 28, op := Go.Op.move (Go.Operand.tmp 4), type := 3, pos := "law.go:23", after := #[], guard := none }) (v := ?_) rfl (by kernel_rfl) (by kernel_rfl) (by kernel_rfl) (by kernel_rfl) rfl (fun _ _ _ h => h) (Or.inl ⟨by rfl, ?_⟩) hHeld ?_
      rotate_left 1
      · (intro wq hSq; (try dsimp only at hSq); go_simp; first | done | with_reducible rfl)
      try simp only [Act.put, List.setIfInBounds_toArray, List.set_cons_zero, List.set_cons_succ]
      refine wpAnyM_take (i := 5) (oi := { dst := some 29, op := Go.Op.indexAddr 53 (Go.Operand.tmp 27) (Go.Operand.tmp 28), type := 0, pos := "law.go:23", after := #[{ on := 3, ground := Go.Ground.data }, { on := 4, ground := Go.Ground.data }], guard := none }) (v := ?_) rfl (by kernel_rfl) (by kernel_rfl) (by kernel_rfl) (by kernel_rfl) rfl (fun _ _ _ h => h) (Or.inl ⟨by rfl, ?_⟩) hHeld ?_
      rotate_left 1
      · (intro wq hSq; (try dsimp only at hSq); go_simp; first | done | with_reducible rfl)
      try simp only [Act.put, List.setIfInBounds_toArray, List.set_cons_zero, List.set_cons_succ]
      refine wpAnyM_take (i := 6) (oi := { dst := some 30, op := Go.Op.load 55 (Go.Operand.tmp 29), type := 55, pos := "law.go:23", after := #[{ on := 5, ground := Go.Ground.data }], guard := none }) (v := vN h' (.slice av' l'.length cp')) rfl (by kernel_rfl) (by kernel_rfl) (by kernel_rfl) (by kernel_rfl) rfl (fun _ _ _ h => h) (yieldsIf_load_mid rfl 55 _ rfl b (o + j * 10) rfl (cN h' (.slice av' l'.length cp')) _ (fun wq hSq => hSq.2.2) Try.underlying55 rfl size55) hHeld ?_
      try simp only [Act.put, List.setIfInBounds_toArray, List.set_cons_zero, List.set_cons_succ]
      refine wpAnyM_one (i := 7) (o := { dst := some 31, op := Go.Op.call { callee := Go.Callee.value (Go.Operand.func 42), args := #[Go.Operand.tmp 30], argTypes := #[55] }, type := 51, pos := "law.go:23", after := #[{ on := 6, ground := Go.Ground.data }], guard := none }) (by kernel_rfl) rfl (fun K hK => ?_)
      go_simp
      refine CALL.out.mono ?_
      rintro e w6 ⟨u6, rfl, s6, b6⟩
      have B6 : Hid (Below wr.heap.size wr w6) := (((Below.refl _ _).drew).trans b6)
      have RD6 : Hid (RdT 55 51 w.heap.size ⟨k, c, x0, x1, x2, x3, nn, lo, hi⟩ (.slice (some ⟨b, o, none⟩) n cp) (.slice va vl vc) b (o + j * 10) h' (.slice av' l'.length cp') w6) := (by assumption : RdT 55 51 w.heap.size ⟨k, c, x0, x1, x2, x3, nn, lo, hi⟩ (.slice (some ⟨b, o, none⟩) n cp) (.slice va vl vc) b (o + j * 10) h' (.slice av' l'.length cp') wr.drew).step fun g hg => b6.block g (RDL.out g hg)
      have SV6 : Hid (SV (fun x => (w.heap.size + 1 + 1 + 1 ≤ x) ∧ some x ≠ (Value.slice va vl vc).ownBlock) w6 u6 (T.mk h' l').kids) := by
        unfold Hid; rw [T.kids_mk]
        exact s6.weak fun x hx _ => ⟨Nat.le_trans TW.out.sz hx, fun q => by have := (TW.out.own.low x q.symm).2; have hx2 : wr.heap.size ≤ x := hx; omega⟩
      have O6 : Hid (OwnT 51 (fun b => w.heap.size + 1 + 1 + 1 ≤ b) (w.heap.size + 1 + 1 + 1) w6 (.slice va vl vc) (l.take j)) := TW.out.own.below B6.out
      refine hK.out _ _ (fun _ => RD6.out) (fun hHeldQ => ?_)
      have hHeld1 := hHeldQ rfl
      clear hK K hHeldQ hHeld
      try simp only [Act.put, List.setIfInBounds_toArray, List.set_cons_zero, List.set_cons_succ]
      clear s6 b6
      refine wpAnyM_one (i := 8) (o := { dst := some 32, op := Go.Op.buildSlice 49 1 #[(0, Go.Operand.tmp 31)], type := 49, pos := "law.go:23", after := #[{ on := 7, ground := Go.Ground.data }], guard := none }) (by kernel_rfl) rfl (fun K hK => ?_)
      refine step_build51 rfl _ rfl h' u6 (by rfl) ?_
      refine hK.out _ _ (fun _ => RD6.out.step fun g hg => Below.heap_alloc _ _ _ (Nat.lt_of_lt_of_le (RDL.out g hg) B6.out.size)) (fun hHeldQ => ?_)
      have hHeld2 := hHeldQ rfl
      clear hK K hHeldQ hHeld1
      try simp only [Act.put, List.setIfInBounds_toArray, List.set_cons_zero, List.set_cons_succ]
      refine wpAnyM_one (i := 9) (o := { dst := some 33, op := Go.Op.call { callee := Go.Callee.builtin Go.Builtin.append, args := #[Go.Operand.tmp 25, Go.Operand.tmp 32], argTypes := #[49, 49] }, type := 49, pos := "law.go:23", after := #[{ on := 1, ground := Go.Ground.data }, { on := 8, ground := Go.Ground.data }, { on := 7, ground := Go.Ground.chain }], guard := none }) (by kernel_rfl) rfl (fun K hK => ?_)
      refine step_snoc51 rfl _ _ rfl (fun b => w.heap.size + 1 + 1 + 1 ≤ b) (w.heap.size + 1 + 1 + 1) (.slice va vl vc) (l.take j) (by rfl) O6.out (T.mk h' l') u6 SV6.out (by rfl) HTL.out (Nat.le_trans TW.out.sz B6.out.size) ?_
      intro v7 w7 O7 g7
      have RD7 : Hid (RdT 55 51 w.heap.size ⟨k, c, x0, x1, x2, x3, nn, lo, hi⟩ (.slice (some ⟨b, o, none⟩) n cp) (.slice va vl vc) b (o + j * 10) h' (.slice av' l'.length cp') w7) := TW.out.read B6.out _ g7 HBL.out RD6.out
      have TW7 := TW.out.next B6.out _ O7 g7
      obtain ⟨va7, vc7, e7⟩ := O7.form
      subst e7
      obtain ⟨vl7, hvl7⟩ : ∃ vl7, vl7 = (l.take j ++ [T.mk h' l']).length := ⟨_, rfl⟩
      rw [← hvl7] at TW7 ⊢
      have TW7 : Hid (ThW 55 51 w _ ⟨k, c, x0, x1, x2, x3, nn, lo, hi⟩ (.slice (some ⟨b, o, none⟩) n cp) (.slice va7 vl7 vc7) _) := TW7
      refine hK.out _ _ (fun _ => RD7.out) (fun hHeldQ => ?_)
      have hHeld3 := hHeldQ rfl
      clear hK K hHeldQ hHeld2
      try simp only [Act.put, List.setIfInBounds_toArray, List.set_cons_zero, List.set_cons_succ]
      clear O7 g7 hvl7 O6 SV6 CALL
      refine wpAnyM_take (i := 10) (oi := { dst := some 34, op := Go.Op.fieldAddr 51 (Go.Operand.tmp 3) 6, type := 0, pos := "law.go:23", after := #[{ on := 0, ground := Go.Ground.phase }, { on := 1, ground := Go.Ground.phase }, { on := 2, ground := Go.Ground.phase }, { on := 3, ground := Go.Ground.phase }, { on := 4, ground := Go.Ground.phase }, { on := 5, ground := Go.Ground.phase }, { on := 6, ground := Go.Ground.phase }, { on := 7, ground := Go.Ground.phase }, { on := 8, ground := Go.Ground.phase }, { on := 9, ground := Go.Ground.phase }], guard := none }) (v := ?_) rfl (by kernel_rfl) (by kernel_rfl) (by kernel_rfl) (by kernel_rfl) rfl (fun _ _ _ h => h) (Or.inl ⟨by rfl, ?_⟩) hHeld3 ?_
      rotate_left 1
      · (intro wq hSq; (try dsimp only at hSq); go_simp; first | done | with_reducible rfl)
      try simp only [Act.put, List.setIfInBounds_toArray, List.set_cons_zero, List.set_cons_succ]
      refine wpAnyM_one (i := 11) (o := { dst := none, op := Go.Op.store 49 (Go.Operand.tmp 34) (Go.Operand.tmp 33), type := 0, pos := "law.go:23", after := #[{ on := 10, ground := Go.Ground.data }, { on := 9, ground := Go.Ground.data }, { on := 9, ground := Go.Ground.chain }, { on := 0, ground := Go.Ground.phase }, { on := 1, ground := Go.Ground.phase }, { on := 2, ground := Go.Ground.phase }, { on := 3, ground := Go.Ground.phase }, { on := 4, ground := Go.Ground.phase }, { on := 5, ground := Go.Ground.phase }, { on := 6, ground := Go.Ground.phase }, { on := 7, ground := Go.Ground.phase }, { on := 8, ground := Go.Ground.phase }, { on := 9, ground := Go.Ground.phase }], guard := none }) (by kernel_rfl) rfl (fun K hK => ?_)
      have c7 := RD7.out.2.1.cell 9 _ rfl
      have f7 : w7.frozen? ⟨w.heap.size + 1 + 1, 9, none⟩ = false := unfrozen RD7.out.2.1
      go_simp
      refine hK.out _ _ (fun h => by cases h) (fun _ => ?_)
      clear hK K hHeld3
      try simp only [Act.put, List.setIfInBounds_toArray, List.set_cons_zero, List.set_cons_succ]
      refine wpAnyM_done (by kernel_rfl) ?_ _
      refine NoPanic.normal ?_
      go_wp2
      go_roundw
      case rel => exact ⟨j + 1, va7, vl7, vc7, by have := HLT.out; omega, by go_num, by rw [HTK.out]; exact TW7.out⟩
      case measure => have := HLT.out; simp [intOf]; omega
    · have i1 : ¬ (j : Int) < (n : Int) := by omega
      have TWE : Hid (ThW 55 51 w wr ⟨k, c, x0, x1, x2, x3, nn, lo, hi⟩ (.slice av n cp) (.slice va vl vc) l) := by
        have q := TW.out
        rw [List.take_of_length_le (by rw [← HN.out]; omega)] at q
        exact q
      have HR : Hid (wr.rangeAt (w.heap.size + 1 + 1) 0 (cN ⟨k, c, x0, x1, x2, x3, nn, lo, hi⟩ (.slice va vl vc))) := TW.out.b2.range
      clear hlt
      go_wp2_with (first | (refine loadN51 rfl _ rfl (w.heap.size + 1 + 1) 0 rfl ⟨k, c, x0, x1, x2, x3, nn, lo, hi⟩ _ HR.out ?_) | (refine storeB51 rfl _ _ rfl (w.heap.size + 1) rfl ⟨k, c, x0, x1, x2, x3, nn, lo, hi⟩ _ rfl rfl hd0 _ TWE.out.b1 ?_))
      exact bodyPost_ret (v := vN ⟨k, c, x0, x1, x2, x3, nn, lo, hi⟩ (.slice va vl vc)) (res51 2 Try.results42 _ _ (w.heap.size + 1) _ _ rfl (TWE.out.b1.row _ _)) rfl ⟨_, rfl, (TWE.out.own.sv.weak (S' := fun b => w.heap.size + 1 + 1 + 1 ≤ b) (fun x hx _ => by rcases hx with hx | hx <;> exact hx)).keep (by simp [World.setRow]) (fun x hx _ => ⟨Nat.le_trans (by omega) hx, setRow_other _ _ _ _ (by omega)⟩), below_row TWE.out.bel (by omega) _⟩
end Go.Proofs.Ytaoobmpjlagkpaa
