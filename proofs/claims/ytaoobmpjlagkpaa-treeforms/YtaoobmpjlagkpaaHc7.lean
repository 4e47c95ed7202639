import Derived.Test.YtaoobmpjlagkpaaHb
import Derived.Test.YtaoobmpjlagkpaaHz
namespace Go.Proofs.Ytaoobmpjlagkpaa
set_option linter.unusedSimpArgs false
set_option linter.unusedVariables false
open Go.RowKit
open Go.Deep
set_option maxHeartbeats 8000000 in
set_option maxRecDepth 100000 in
theorem walk_7 (c x0 : Nat) (x1 x2 x3 nn lo hi : Int) (l : List T) (ih : ∀ t ∈ l, WalkP t) (hpl : plainB ⟨7, c, x0, x1, x2, x3, nn, lo, hi⟩ l = true) : WalkP (T.mk ⟨7, c, x0, x1, x2, x3, nn, lo, hi⟩ l) := by
  intro s w u hok hu
  rw [T.kids_mk] at hu
  rw [T.hd_mk]
  have HSV : Hid (SV AnyB w u l) := hu
  obtain ⟨av, cp, b, o, rfl, h1, h2, h3, h4⟩ := hu
  obtain ⟨n, hn⟩ : ∃ n, n = l.length := ⟨_, rfl⟩
  have HN : Hid (n = l.length) := hn
  have HL : Hid (LAt AnyB w b o l) := h4
  have HA : Hid (0 < n → av = some ⟨b, o, none⟩) := by rw [hn]; exact h3
  rw [← hn] at h1 HSV ⊢
  obtain ⟨sb, se⟩ := s
  have HOK : Hid (GsOk ⟨sb, se⟩) := hok
  have HLE : Hid (se.length = 10) := hok.len
  have HS76 : Hid ((Try.prog.info? 76).map (·.size) = some (se.map Value.bool).length) := by unfold Hid; rw [size76, List.length_map, hok.len]
  have hb0 : 0 ≤ sb := hok.b0
  have hb9 : sb ≤ 9 := hok.b9
  have SW0 : Hid (WkW w _ ⟨7, c, x0, x1, x2, x3, nn, lo, hi⟩ (.slice av n cp) l se) := WkW.start w ⟨7, c, x0, x1, x2, x3, nn, lo, hi⟩ (.slice av n cp) l se HSV.out
  have R0 : Hid (World.rangeAt (((w.alloc (.cells (cN ⟨7, c, x0, x1, x2, x3, nn, lo, hi⟩ (.slice av n cp)).toArray 51)).alloc (.cells (se.map Value.bool).toArray 76)).alloc (.cells ((List.replicate 10 false).map Value.bool).toArray 76)) w.heap.size 0 (cN ⟨7, c, x0, x1, x2, x3, nn, lo, hi⟩ (.slice av n cp))) := SW0.out.a.range
  have PL : Hid (∀ W, SV AnyB W (.slice av n cp) l → Calls Try.prog 76 #[vN ⟨7, c, x0, x1, x2, x3, nn, lo, hi⟩ (.slice av n cp)] W fun e w' => e = .returned (.bool (plainB ⟨7, c, x0, x1, x2, x3, nn, lo, hi⟩ l)) ∧ Below W.heap.size W w') := fun W hW => plain_any ⟨7, c, x0, x1, x2, x3, nn, lo, hi⟩ l _ W hW
  clear hn h3 h4 hok
  change Calls Try.prog 55 #[.agg #[.int .i64 7, .int .u8 (c : Int), .int .u64 (x0 : Int), .int .u64 x1, .int .u64 x2, .int .u64 x3, .int .i64 nn, .int .i64 lo, .int .i64 hi, .slice av n cp], .int .i64 sb, .agg (se.map Value.bool).toArray] w _
  rw [hpl] at PL
  have hsw : switchB ⟨7, c, x0, x1, x2, x3, nn, lo, hi⟩ l = true := by unfold switchB; rw [if_neg (by show ¬ (7 : Int) = 8; omega), if_neg (by show ¬ (7 : Int) = 9; omega), if_neg (by show ¬ (7 : Int) = 10; omega)]
  by_cases q1 : nn < 1
  · have PNO : Hid (walkT (T.mk ⟨7, c, x0, x1, x2, x3, nn, lo, hi⟩ l) ⟨sb, se⟩ = none) := walkT_num (by rw [T.hd_mk]; unfold stepN; rw [if_neg (by show ¬ (7 : Int) = 6; omega), if_pos rfl, if_neg]; intro q; have := q.1; simp only at this; omega)
    clear hpl ih hsw
    go_enter Try.func55, Try.ntmps55
    go_wp2_with (first | (refine loadN51 rfl _ rfl w.heap.size 0 rfl ⟨7, c, x0, x1, x2, x3, nn, lo, hi⟩ _ R0.out ?_) | (go_at_call 76; refine (PL.out _ SW0.out.sv).mono ?_; rintro e w1 ⟨rfl, b1⟩; have SW1 : Hid (WkW w w1 ⟨7, c, x0, x1, x2, x3, nn, lo, hi⟩ (.slice av n cp) l se) := SW0.out.below b1; have a0 := SW1.out.a.cell 0 _ rfl; have a6 := SW1.out.a.cell 6 _ rfl; have a7 := SW1.out.a.cell 7 _ rfl; have a8 := SW1.out.a.cell 8 _ rfl; have a9 := SW1.out.a.cell 9 _ rfl; have sz1 : w.heap.size + 1 + 1 < w1.heap.size := SW1.out.r.lt; clear b1))
    have SWR : Hid (WkW w w1.drew ⟨7, c, x0, x1, x2, x3, nn, lo, hi⟩ (.slice av n cp) l se) := SW1.out.below ((Below.refl _ _).drew)
    refine wp_region_noPanic ?_
    refine wp_region_held_drew (S := fun W => BoxA W (w.heap.size + 1) se) (by kernel_rfl) (SWR.out.d) (fun hHeld => ?_)
    try simp only [Act.put, List.setIfInBounds_toArray, List.set_cons_zero, List.set_cons_succ]
    refine wpAnyH_take (i := 0) (oi := { dst := some 50, op := Go.Op.move (Go.Operand.tmp 1), type := 3, pos := "ref.go:277", after := #[], guard := none }) (v := ?_) rfl (by kernel_rfl) (by kernel_rfl) (by kernel_rfl) (fun _ _ _ h => h) (Or.inl ⟨by rfl, ?_⟩) hHeld ?_
    rotate_left 1
    · (intro wq hSq; (try dsimp only at hSq); go_simp; first | done | with_reducible rfl)
    try simp only [Act.put, List.setIfInBounds_toArray, List.set_cons_zero, List.set_cons_succ]
    refine wpAnyH_take (i := 1) (oi := { dst := some 51, op := Go.Op.load 76 (Go.Operand.tmp 5), type := 76, pos := "ref.go:277", after := #[{ on := 2, ground := Go.Ground.gcOnly Go.Departure.lateStores }], guard := none }) (v := .agg (se.map Value.bool).toArray) rfl (by kernel_rfl) (by kernel_rfl) (by kernel_rfl) (fun _ _ _ h => h) (yieldsIf_load_mid rfl 76 _ rfl (w.heap.size + 1) 0 rfl (se.map Value.bool) _ (fun wq hSq => BoxA.range hSq) Try.underlying76 rfl HS76.out) hHeld ?_
    try simp only [Act.put, List.setIfInBounds_toArray, List.set_cons_zero, List.set_cons_succ]
    refine wpAnyH_take (i := 2) (oi := { dst := some 6, op := Go.Op.assign (Go.Operand.tmp 50), type := 3, pos := "ref.go:277", after := #[{ on := 0, ground := Go.Ground.data }, { on := 0, ground := Go.Ground.phase }, { on := 1, ground := Go.Ground.textOnly Go.Departure.lateStores }], guard := none }) (v := ?_) rfl (by kernel_rfl) (by kernel_rfl) (by kernel_rfl) (fun _ _ _ h => h) (Or.inl ⟨by rfl, ?_⟩) hHeld ?_
    rotate_left 1
    · (intro wq hSq; (try dsimp only at hSq); go_simp; first | done | with_reducible rfl)
    try simp only [Act.put, List.setIfInBounds_toArray, List.set_cons_zero, List.set_cons_succ]
    refine wpAnyH_ready (rs := [3]) (by kernel_rfl) (by simp) ?_
    refine AllReadyH.cons (o := { dst := none, op := Go.Op.store 76 (Go.Operand.tmp 7) (Go.Operand.tmp 51), type := 0, pos := "ref.go:277", after := #[{ on := 1, ground := Go.Ground.data }, { on := 2, ground := Go.Ground.chain }, { on := 0, ground := Go.Ground.phase }, { on := 1, ground := Go.Ground.phase }, { on := 2, ground := Go.Ground.phase }], guard := none }) rfl (fun K hK => ?_) AllReadyH.nil
    refine step_storeA rfl _ _ rfl (w.heap.size + 1 + 1) (by rfl) se (List.replicate 10 false) HLE.out (by simp) (by rfl) SWR.out.r ?_
    refine hK.out _ _ (SWR.out.fin.2.2) (fun hHeld1 => ?_)
    clear hK K hHeld
    try simp only [Act.put, List.setIfInBounds_toArray, List.set_cons_zero, List.set_cons_succ]
    refine wpAnyH_take (i := 4) (oi := { dst := some 8, op := Go.Op.assign (Go.Operand.const (Go.Value.bool false)), type := 4, pos := "ref.go:277", after := #[{ on := 3, ground := Go.Ground.chain }, { on := 0, ground := Go.Ground.phase }, { on := 1, ground := Go.Ground.phase }, { on := 2, ground := Go.Ground.phase }, { on := 3, ground := Go.Ground.phase }], guard := none }) (v := ?_) rfl (by kernel_rfl) (by kernel_rfl) (by kernel_rfl) (fun _ _ _ h => h) (Or.inl ⟨by rfl, ?_⟩) hHeld1 ?_
    rotate_left 1
    · (intro wq hSq; (try dsimp only at hSq); go_simp; first | done | with_reducible rfl)
    try simp only [Act.put, List.setIfInBounds_toArray, List.set_cons_zero, List.set_cons_succ]
    refine wpAnyH_done (by kernel_rfl) ?_ _
    refine NoPanic.normal ?_
    go_wp2
    exact bodyPost_ret (v := .tuple #[.int .i64 sb, .agg (se.map Value.bool).toArray, .bool false]) (res55w Try.results55 _ _ (w.heap.size + 1 + 1) se HLE.out rfl SWR.out.fin.1) rfl ⟨false, ⟨sb, se⟩, rfl, HLE.out, (if_neg (by simp)).mpr PNO.out, SWR.out.fin.2.1⟩
  · by_cases q9 : 9 < nn
    · have PNO : Hid (walkT (T.mk ⟨7, c, x0, x1, x2, x3, nn, lo, hi⟩ l) ⟨sb, se⟩ = none) := walkT_num (by rw [T.hd_mk]; unfold stepN; rw [if_neg (by show ¬ (7 : Int) = 6; omega), if_pos rfl, if_neg]; intro q; have := q.2.1; simp only at this; omega)
      clear hpl ih hsw
      go_enter Try.func55, Try.ntmps55
      go_wp2_with (first | (refine loadN51 rfl _ rfl w.heap.size 0 rfl ⟨7, c, x0, x1, x2, x3, nn, lo, hi⟩ _ R0.out ?_) | (go_at_call 76; refine (PL.out _ SW0.out.sv).mono ?_; rintro e w1 ⟨rfl, b1⟩; have SW1 : Hid (WkW w w1 ⟨7, c, x0, x1, x2, x3, nn, lo, hi⟩ (.slice av n cp) l se) := SW0.out.below b1; have a0 := SW1.out.a.cell 0 _ rfl; have a6 := SW1.out.a.cell 6 _ rfl; have a7 := SW1.out.a.cell 7 _ rfl; have a8 := SW1.out.a.cell 8 _ rfl; have a9 := SW1.out.a.cell 9 _ rfl; have sz1 : w.heap.size + 1 + 1 < w1.heap.size := SW1.out.r.lt; clear b1))
      have SWR : Hid (WkW w w1.drew ⟨7, c, x0, x1, x2, x3, nn, lo, hi⟩ (.slice av n cp) l se) := SW1.out.below ((Below.refl _ _).drew)
      refine wp_region_noPanic ?_
      refine wp_region_held_drew (S := fun W => BoxA W (w.heap.size + 1) se) (by kernel_rfl) (SWR.out.d) (fun hHeld => ?_)
      try simp only [Act.put, List.setIfInBounds_toArray, List.set_cons_zero, List.set_cons_succ]
      refine wpAnyH_take (i := 0) (oi := { dst := some 50, op := Go.Op.move (Go.Operand.tmp 1), type := 3, pos := "ref.go:277", after := #[], guard := none }) (v := ?_) rfl (by kernel_rfl) (by kernel_rfl) (by kernel_rfl) (fun _ _ _ h => h) (Or.inl ⟨by rfl, ?_⟩) hHeld ?_
      rotate_left 1
      · (intro wq hSq; (try dsimp only at hSq); go_simp; first | done | with_reducible rfl)
      try simp only [Act.put, List.setIfInBounds_toArray, List.set_cons_zero, List.set_cons_succ]
      refine wpAnyH_take (i := 1) (oi := { dst := some 51, op := Go.Op.load 76 (Go.Operand.tmp 5), type := 76, pos := "ref.go:277", after := #[{ on := 2, ground := Go.Ground.gcOnly Go.Departure.lateStores }], guard := none }) (v := .agg (se.map Value.bool).toArray) rfl (by kernel_rfl) (by kernel_rfl) (by kernel_rfl) (fun _ _ _ h => h) (yieldsIf_load_mid rfl 76 _ rfl (w.heap.size + 1) 0 rfl (se.map Value.bool) _ (fun wq hSq => BoxA.range hSq) Try.underlying76 rfl HS76.out) hHeld ?_
      try simp only [Act.put, List.setIfInBounds_toArray, List.set_cons_zero, List.set_cons_succ]
      refine wpAnyH_take (i := 2) (oi := { dst := some 6, op := Go.Op.assign (Go.Operand.tmp 50), type := 3, pos := "ref.go:277", after := #[{ on := 0, ground := Go.Ground.data }, { on := 0, ground := Go.Ground.phase }, { on := 1, ground := Go.Ground.textOnly Go.Departure.lateStores }], guard := none }) (v := ?_) rfl (by kernel_rfl) (by kernel_rfl) (by kernel_rfl) (fun _ _ _ h => h) (Or.inl ⟨by rfl, ?_⟩) hHeld ?_
      rotate_left 1
      · (intro wq hSq; (try dsimp only at hSq); go_simp; first | done | with_reducible rfl)
      try simp only [Act.put, List.setIfInBounds_toArray, List.set_cons_zero, List.set_cons_succ]
      refine wpAnyH_ready (rs := [3]) (by kernel_rfl) (by simp) ?_
      refine AllReadyH.cons (o := { dst := none, op := Go.Op.store 76 (Go.Operand.tmp 7) (Go.Operand.tmp 51), type := 0, pos := "ref.go:277", after := #[{ on := 1, ground := Go.Ground.data }, { on := 2, ground := Go.Ground.chain }, { on := 0, ground := Go.Ground.phase }, { on := 1, ground := Go.Ground.phase }, { on := 2, ground := Go.Ground.phase }], guard := none }) rfl (fun K hK => ?_) AllReadyH.nil
      refine step_storeA rfl _ _ rfl (w.heap.size + 1 + 1) (by rfl) se (List.replicate 10 false) HLE.out (by simp) (by rfl) SWR.out.r ?_
      refine hK.out _ _ (SWR.out.fin.2.2) (fun hHeld1 => ?_)
      clear hK K hHeld
      try simp only [Act.put, List.setIfInBounds_toArray, List.set_cons_zero, List.set_cons_succ]
      refine wpAnyH_take (i := 4) (oi := { dst := some 8, op := Go.Op.assign (Go.Operand.const (Go.Value.bool false)), type := 4, pos := "ref.go:277", after := #[{ on := 3, ground := Go.Ground.chain }, { on := 0, ground := Go.Ground.phase }, { on := 1, ground := Go.Ground.phase }, { on := 2, ground := Go.Ground.phase }, { on := 3, ground := Go.Ground.phase }], guard := none }) (v := ?_) rfl (by kernel_rfl) (by kernel_rfl) (by kernel_rfl) (fun _ _ _ h => h) (Or.inl ⟨by rfl, ?_⟩) hHeld1 ?_
      rotate_left 1
      · (intro wq hSq; (try dsimp only at hSq); go_simp; first | done | with_reducible rfl)
      try simp only [Act.put, List.setIfInBounds_toArray, List.set_cons_zero, List.set_cons_succ]
      refine wpAnyH_done (by kernel_rfl) ?_ _
      refine NoPanic.normal ?_
      go_wp2
      exact bodyPost_ret (v := .tuple #[.int .i64 sb, .agg (se.map Value.bool).toArray, .bool false]) (res55w Try.results55 _ _ (w.heap.size + 1 + 1) se HLE.out rfl SWR.out.fin.1) rfl ⟨false, ⟨sb, se⟩, rfl, HLE.out, (if_neg (by simp)).mpr PNO.out, SWR.out.fin.2.1⟩
    · obtain ⟨E, hE⟩ : ∃ E, se[nn.toNat]? = some E := ⟨se[nn.toNat]'(by have := HLE.out; omega), List.getElem?_eq_getElem (by have := HLE.out; omega)⟩
      have i0 : (0 : Int) ≤ nn := by omega
      have i10 : nn < 10 := by omega
      have HEE : Hid (se[nn.toNat]? = some E) := hE
      cases E with
      | false =>
        have PNO : Hid (walkT (T.mk ⟨7, c, x0, x1, x2, x3, nn, lo, hi⟩ l) ⟨sb, se⟩ = none) := walkT_num (by rw [T.hd_mk]; unfold stepN; rw [if_neg (by show ¬ (7 : Int) = 6; omega), if_pos rfl, if_neg]; intro q; have := q.2.2; simp only [hE] at this; cases this)
        clear hpl ih hsw hE
        go_enter Try.func55, Try.ntmps55
        go_wp2_with (first | (refine loadN51 rfl _ rfl w.heap.size 0 rfl ⟨7, c, x0, x1, x2, x3, nn, lo, hi⟩ _ R0.out ?_) | (go_at_call 76; refine (PL.out _ SW0.out.sv).mono ?_; rintro e w1 ⟨rfl, b1⟩; have SW1 : Hid (WkW w w1 ⟨7, c, x0, x1, x2, x3, nn, lo, hi⟩ (.slice av n cp) l se) := SW0.out.below b1; have a0 := SW1.out.a.cell 0 _ rfl; have a6 := SW1.out.a.cell 6 _ rfl; have a7 := SW1.out.a.cell 7 _ rfl; have a8 := SW1.out.a.cell 8 _ rfl; have a9 := SW1.out.a.cell 9 _ rfl; have sz1 : w.heap.size + 1 + 1 < w1.heap.size := SW1.out.r.lt; have aE := SW1.out.d.cell nn.toNat _ HEE.out; clear b1))
        have SWR : Hid (WkW w w1.drew ⟨7, c, x0, x1, x2, x3, nn, lo, hi⟩ (.slice av n cp) l se) := SW1.out.below ((Below.refl _ _).drew)
        refine wp_region_noPanic ?_
        refine wp_region_held_drew (S := fun W => BoxA W (w.heap.size + 1) se) (by kernel_rfl) (SWR.out.d) (fun hHeld => ?_)
        try simp only [Act.put, List.setIfInBounds_toArray, List.set_cons_zero, List.set_cons_succ]
        refine wpAnyH_take (i := 0) (oi := { dst := some 50, op := Go.Op.move (Go.Operand.tmp 1), type := 3, pos := "ref.go:277", after := #[], guard := none }) (v := ?_) rfl (by kernel_rfl) (by kernel_rfl) (by kernel_rfl) (fun _ _ _ h => h) (Or.inl ⟨by rfl, ?_⟩) hHeld ?_
        rotate_left 1
        · (intro wq hSq; (try dsimp only at hSq); go_simp; first | done | with_reducible rfl)
        try simp only [Act.put, List.setIfInBounds_toArray, List.set_cons_zero, List.set_cons_succ]
        refine wpAnyH_take (i := 1) (oi := { dst := some 51, op := Go.Op.load 76 (Go.Operand.tmp 5), type := 76, pos := "ref.go:277", after := #[{ on := 2, ground := Go.Ground.gcOnly Go.Departure.lateStores }], guard := none }) (v := .agg (se.map Value.bool).toArray) rfl (by kernel_rfl) (by kernel_rfl) (by kernel_rfl) (fun _ _ _ h => h) (yieldsIf_load_mid rfl 76 _ rfl (w.heap.size + 1) 0 rfl (se.map Value.bool) _ (fun wq hSq => BoxA.range hSq) Try.underlying76 rfl HS76.out) hHeld ?_
        try simp only [Act.put, List.setIfInBounds_toArray, List.set_cons_zero, List.set_cons_succ]
        refine wpAnyH_take (i := 2) (oi := { dst := some 6, op := Go.Op.assign (Go.Operand.tmp 50), type := 3, pos := "ref.go:277", after := #[{ on := 0, ground := Go.Ground.data }, { on := 0, ground := Go.Ground.phase }, { on := 1, ground := Go.Ground.textOnly Go.Departure.lateStores }], guard := none }) (v := ?_) rfl (by kernel_rfl) (by kernel_rfl) (by kernel_rfl) (fun _ _ _ h => h) (Or.inl ⟨by rfl, ?_⟩) hHeld ?_
        rotate_left 1
        · (intro wq hSq; (try dsimp only at hSq); go_simp; first | done | with_reducible rfl)
        try simp only [Act.put, List.setIfInBounds_toArray, List.set_cons_zero, List.set_cons_succ]
        refine wpAnyH_ready (rs := [3]) (by kernel_rfl) (by simp) ?_
        refine AllReadyH.cons (o := { dst := none, op := Go.Op.store 76 (Go.Operand.tmp 7) (Go.Operand.tmp 51), type := 0, pos := "ref.go:277", after := #[{ on := 1, ground := Go.Ground.data }, { on := 2, ground := Go.Ground.chain }, { on := 0, ground := Go.Ground.phase }, { on := 1, ground := Go.Ground.phase }, { on := 2, ground := Go.Ground.phase }], guard := none }) rfl (fun K hK => ?_) AllReadyH.nil
        refine step_storeA rfl _ _ rfl (w.heap.size + 1 + 1) (by rfl) se (List.replicate 10 false) HLE.out (by simp) (by rfl) SWR.out.r ?_
        refine hK.out _ _ (SWR.out.fin.2.2) (fun hHeld1 => ?_)
        clear hK K hHeld
        try simp only [Act.put, List.setIfInBounds_toArray, List.set_cons_zero, List.set_cons_succ]
        refine wpAnyH_take (i := 4) (oi := { dst := some 8, op := Go.Op.assign (Go.Operand.const (Go.Value.bool false)), type := 4, pos := "ref.go:277", after := #[{ on := 3, ground := Go.Ground.chain }, { on := 0, ground := Go.Ground.phase }, { on := 1, ground := Go.Ground.phase }, { on := 2, ground := Go.Ground.phase }, { on := 3, ground := Go.Ground.phase }], guard := none }) (v := ?_) rfl (by kernel_rfl) (by kernel_rfl) (by kernel_rfl) (fun _ _ _ h => h) (Or.inl ⟨by rfl, ?_⟩) hHeld1 ?_
        rotate_left 1
        · (intro wq hSq; (try dsimp only at hSq); go_simp; first | done | with_reducible rfl)
        try simp only [Act.put, List.setIfInBounds_toArray, List.set_cons_zero, List.set_cons_succ]
        refine wpAnyH_done (by kernel_rfl) ?_ _
        refine NoPanic.normal ?_
        go_wp2
        exact bodyPost_ret (v := .tuple #[.int .i64 sb, .agg (se.map Value.bool).toArray, .bool false]) (res55w Try.results55 _ _ (w.heap.size + 1 + 1) se HLE.out rfl SWR.out.fin.1) rfl ⟨false, ⟨sb, se⟩, rfl, HLE.out, (if_neg (by simp)).mpr PNO.out, SWR.out.fin.2.1⟩
      | true =>
        have hst : stepN ⟨7, c, x0, x1, x2, x3, nn, lo, hi⟩ ⟨sb, se⟩ = some ⟨sb, se⟩ := by unfold stepN; rw [if_neg (by show ¬ (7 : Int) = 6; omega), if_pos rfl, if_pos ⟨by show 1 ≤ nn; omega, by show nn ≤ 9; omega, hE⟩]
        have PGO : Hid (walkT (T.mk ⟨7, c, x0, x1, x2, x3, nn, lo, hi⟩ l) ⟨sb, se⟩ = (walkL l 7 ⟨sb, se⟩).bind fun q => some (endN ⟨7, c, x0, x1, x2, x3, nn, lo, hi⟩ q)) := by
          have q := walkT_go (t := T.mk ⟨7, c, x0, x1, x2, x3, nn, lo, hi⟩ l) (s := ⟨sb, se⟩) (s1 := ⟨sb, se⟩) (by rw [T.hd_mk, T.kids_mk]; exact hpl) (by rw [T.hd_mk, T.kids_mk]; exact hsw) (by rw [T.hd_mk]; exact hst)
          rw [T.hd_mk, T.kids_mk] at q; exact q
        have HOK1 : Hid (GsOk ⟨sb, se⟩) := (stepN_ok hst HOK.out).1
        obtain ⟨R, hR⟩ : ∃ R, R = walkL l 7 ⟨sb, se⟩ := ⟨_, rfl⟩
        have HR0 : Hid (walkL l 7 ⟨sb, se⟩ = R) := hR.symm
        rw [← hR] at PGO
        have IH : Hid (∀ t ∈ l, WalkP t) := ih
        clear hR ih hpl hsw hst hE
        go_enter Try.func55, Try.ntmps55
        go_wp2_with (first | (refine loadN51 rfl _ rfl w.heap.size 0 rfl ⟨7, c, x0, x1, x2, x3, nn, lo, hi⟩ _ R0.out ?_) | (go_at_call 76; refine (PL.out _ SW0.out.sv).mono ?_; rintro e w1 ⟨rfl, b1⟩; have SW1 : Hid (WkW w w1 ⟨7, c, x0, x1, x2, x3, nn, lo, hi⟩ (.slice av n cp) l se) := SW0.out.below b1; have a0 := SW1.out.a.cell 0 _ rfl; have a6 := SW1.out.a.cell 6 _ rfl; have a7 := SW1.out.a.cell 7 _ rfl; have a8 := SW1.out.a.cell 8 _ rfl; have a9 := SW1.out.a.cell 9 _ rfl; have sz1 : w.heap.size + 1 + 1 < w1.heap.size := SW1.out.r.lt; have aE := SW1.out.d.cell nn.toNat _ HEE.out; clear b1))
        go_loopw [117, 1] (fun i op wr => ∃ (j : Nat) (bj : Int) (ej : List Bool), j ≤ n ∧ i = .int .i64 j ∧ op = .int .i64 bj ∧ Hid (walkL (l.drop j) 7 ⟨bj, ej⟩ = R) ∧ Hid (WkW w wr ⟨7, c, x0, x1, x2, x3, nn, lo, hi⟩ (.slice av n cp) l ej) ∧ Hid (GsOk ⟨bj, ej⟩)) (fun i _ _ => n - (intOf i).toNat)
        case atStart => exact ⟨0, sb, se, by omega, rfl, rfl, HR0.out, SW1.out, HOK1.out⟩
        case round =>
          obtain ⟨j, bj, ej, hj, rfl, rfl, HF, SWJ, HOJ⟩ := hrel
          have HLJ : Hid (ej.length = 10) := HOJ.out.len
          have HSJ : Hid ((Try.prog.info? 76).map (·.size) = some (ej.map Value.bool).length) := by unfold Hid; rw [size76, List.length_map, HLJ.out]
          by_cases hlt : j < n
          · obtain rfl := HA.out (by omega)
            obtain ⟨t, ht⟩ : ∃ t, l[j]? = some t := ⟨l[j]'(by rw [← HN.out]; exact hlt), List.getElem?_eq_getElem (by rw [← HN.out]; exact hlt)⟩
            have hjl : j < l.length := by rw [← HN.out]; exact hlt
            have HDR : Hid (l.drop j = t :: l.drop (j + 1)) := by
              unfold Hid
              rw [List.drop_eq_getElem_cons hjl]
              rw [List.getElem?_eq_getElem hjl] at ht
              injection ht with ht; rw [ht]
            have hmem := List.mem_of_getElem? ht
            have hat := HL.out.get ht
            have hIH := IH.out t hmem
            obtain ⟨h', l', rfl⟩ := t.out
            obtain ⟨u', r1, _, r3, r4⟩ := hat.out
            have HBL : Hid (b < w.heap.size) := r3
            obtain ⟨av', cp', b', o', hu', _⟩ := id r4
            subst hu'
            have S24 : Hid ((fun W => W.cell? ⟨w.heap.size, 0, none⟩ = some (.int .i64 7) ∧ W.cell? ⟨w.heap.size, 9, none⟩ = some (.slice (some ⟨b, o, none⟩) n cp) ∧ W.cell? ⟨b, o + j * 10, none⟩ = some (.int .i64 h'.k)) wr.drew) := ⟨(SWJ.out.a.blk (w' := wr.drew) rfl).cell 0 _ rfl, (SWJ.out.a.blk (w' := wr.drew) rfl).cell 9 _ rfl, range_block (range_block r1 (SWJ.out.bel.block b r3)) rfl 0 _ rfl⟩
            have i1 : (j : Int) < (n : Int) := by omega
            have i0 : (0 : Int) ≤ (j : Int) := by omega
            have HLT : Hid (j < n) := hlt
            clear hat ht hjl hlt
            · have HF1 : Hid (((walkT (T.mk h' l') ⟨bj, ej⟩).bind fun q => walkL (l.drop (j + 1)) 7 q) = R) := by
                have e1 := HF.out
                rw [HDR.out, walkL_cons, if_neg (by omega)] at e1
                exact e1
              obtain ⟨RT, hRT⟩ : ∃ RT, RT = walkT (T.mk h' l') ⟨bj, ej⟩ := ⟨_, rfl⟩
              have CALL : Hid (Calls Try.prog 55 #[vN h' (.slice av' l'.length cp'), .int .i64 bj, .agg (ej.map Value.bool).toArray] wr.drew.drew (WalkO RT wr.drew.drew)) := by
                have q := hIH ⟨bj, ej⟩ wr.drew.drew (.slice av' l'.length cp') HOJ.out (by rw [T.kids_mk]; exact ((r4.below SWJ.out.bel).below ((Below.refl _ _).drew)).below ((Below.refl _ _).drew))
                rw [T.hd_mk, ← hRT] at q; exact q
              rw [← hRT] at HF1
              have HPO : Hid (∀ q, RT = some q → GsOk q) := fun q e => walk_ok.1 _ _ _ (hRT ▸ e) HOJ.out
              have S27 : Hid ((fun W => WkW w W ⟨7, c, x0, x1, x2, x3, nn, lo, hi⟩ (.slice (some ⟨b, o, none⟩) n cp) l ej ∧ W.rangeAt b (o + j * 10) (cN h' (.slice av' l'.length cp'))) wr.drew.drew) := ⟨(SWJ.out.below ((Below.refl _ _).drew)).below ((Below.refl _ _).drew), range_block (range_block (range_block r1 (SWJ.out.bel.block b r3)) rfl) rfl⟩
              clear hRT hIH r1 r3 r4 HF HDR hmem
              go_wp2
              refine wp_region_noPanic ?_
              refine wp_region_held_drew (S := fun W => W.cell? ⟨w.heap.size, 0, none⟩ = some (.int .i64 7) ∧ W.cell? ⟨w.heap.size, 9, none⟩ = some (.slice (some ⟨b, o, none⟩) n cp) ∧ W.cell? ⟨b, o + j * 10, none⟩ = some (.int .i64 h'.k)) (by kernel_rfl) (S24.out) (fun hHeld => ?_)
              try simp only [Act.put, List.setIfInBounds_toArray, List.set_cons_zero, List.set_cons_succ]
              refine wpAnyH_take (i := 0) (oi := { dst := some 120, op := Go.Op.fieldAddr 51 (Go.Operand.tmp 3) 0, type := 0, pos := "ref.go:294", after := #[], guard := none }) (v := ?_) rfl (by kernel_rfl) (by kernel_rfl) (by kernel_rfl) (fun _ _ _ h => h) (Or.inl ⟨by rfl, ?_⟩) hHeld ?_
              rotate_left 1
              · (intro wq hSq; (try dsimp only at hSq); go_simp; first | done | with_reducible rfl)
              try simp only [Act.put, List.setIfInBounds_toArray, List.set_cons_zero, List.set_cons_succ]
              refine wpAnyH_take (i := 1) (oi := { dst := some 121, op := Go.Op.load 3 (Go.Operand.tmp 120), type := 3, pos := "ref.go:294", after := #[{ on := 0, ground := Go.Ground.data }], guard := none }) (v := ?_) rfl (by kernel_rfl) (by kernel_rfl) (by kernel_rfl) (fun _ _ _ h => h) (Or.inl ⟨by rfl, ?_⟩) hHeld ?_
              rotate_left 1
              · (intro wq hSq; (try dsimp only at hSq); have c := hSq.1; go_simp; first | done | with_reducible rfl)
              try simp only [Act.put, List.setIfInBounds_toArray, List.set_cons_zero, List.set_cons_succ]
              refine wpAnyH_take (i := 2) (oi := { dst := some 122, op := Go.Op.binOp Go.BinOp.eql 3 (Go.Operand.tmp 121) (Go.Operand.const (Go.Value.int Go.IntKind.i64 8)) 3, type := 4, pos := "ref.go:294", after := #[{ on := 1, ground := Go.Ground.data }], guard := none }) (v := .bool false) rfl (by kernel_rfl) (by kernel_rfl) (by kernel_rfl) (fun _ _ _ h => h) (Or.inl ⟨by rfl, ?_⟩) hHeld ?_
              · (intro wq hSq; (try dsimp only at hSq); go_simp; first | done | with_reducible rfl)
              try simp only [Act.put, List.setIfInBounds_toArray, List.set_cons_zero, List.set_cons_succ]
              refine wpAnyH_take (i := 3) (oi := { dst := some 123, op := Go.Op.move (Go.Operand.tmp 122), type := 4, pos := "ref.go:294", after := #[{ on := 2, ground := Go.Ground.data }], guard := none }) (v := ?_) rfl (by kernel_rfl) (by kernel_rfl) (by kernel_rfl) (fun _ _ _ h => h) (Or.inl ⟨by rfl, ?_⟩) hHeld ?_
              rotate_left 1
              · (intro wq hSq; (try dsimp only at hSq); go_simp; first | done | with_reducible rfl)
              try simp only [Act.put, List.setIfInBounds_toArray, List.set_cons_zero, List.set_cons_succ]
              refine wpAnyH_take (i := 4) (oi := { dst := some 124, op := Go.Op.fieldAddr 51 (Go.Operand.tmp 3) 0, type := 0, pos := "ref.go:294", after := #[{ on := 3, ground := Go.Ground.guard }], guard := some (3, false) }) (v := ?_) rfl (by kernel_rfl) (by kernel_rfl) (by kernel_rfl) (fun _ _ _ h => h) (Or.inl ⟨by rfl, ?_⟩) hHeld ?_
              rotate_left 1
              · (intro wq hSq; (try dsimp only at hSq); go_simp; first | done | with_reducible rfl)
              try simp only [Act.put, List.setIfInBounds_toArray, List.set_cons_zero, List.set_cons_succ]
              refine wpAnyH_take (i := 5) (oi := { dst := some 125, op := Go.Op.load 3 (Go.Operand.tmp 124), type := 3, pos := "ref.go:294", after := #[{ on := 4, ground := Go.Ground.data }, { on := 3, ground := Go.Ground.guard }], guard := some (3, false) }) (v := ?_) rfl (by kernel_rfl) (by kernel_rfl) (by kernel_rfl) (fun _ _ _ h => h) (Or.inl ⟨by rfl, ?_⟩) hHeld ?_
              rotate_left 1
              · (intro wq hSq; (try dsimp only at hSq); have c := hSq.1; go_simp; first | done | with_reducible rfl)
              try simp only [Act.put, List.setIfInBounds_toArray, List.set_cons_zero, List.set_cons_succ]
              refine wpAnyH_take (i := 6) (oi := { dst := some 126, op := Go.Op.binOp Go.BinOp.eql 3 (Go.Operand.tmp 125) (Go.Operand.const (Go.Value.int Go.IntKind.i64 9)) 3, type := 4, pos := "ref.go:294", after := #[{ on := 5, ground := Go.Ground.data }, { on := 3, ground := Go.Ground.guard }], guard := some (3, false) }) (v := .bool false) rfl (by kernel_rfl) (by kernel_rfl) (by kernel_rfl) (fun _ _ _ h => h) (Or.inl ⟨by rfl, ?_⟩) hHeld ?_
              · (intro wq hSq; (try dsimp only at hSq); go_simp; first | done | with_reducible rfl)
              try simp only [Act.put, List.setIfInBounds_toArray, List.set_cons_zero, List.set_cons_succ]
              refine wpAnyH_take (i := 7) (oi := { dst := some 127, op := Go.Op.pick (Go.Operand.tmp 123) (Go.Operand.const (Go.Value.bool true)) (Go.Operand.tmp 126), type := 4, pos := "ref.go:294", after := #[{ on := 3, ground := Go.Ground.data }, { on := 6, ground := Go.Ground.data }], guard := none }) (v := .bool false) rfl (by kernel_rfl) (by kernel_rfl) (by kernel_rfl) (fun _ _ _ h => h) (Or.inl ⟨by rfl, ?_⟩) hHeld ?_
              · (intro wq hSq; (try dsimp only at hSq); go_simp; first | done | with_reducible rfl)
              try simp only [Act.put, List.setIfInBounds_toArray, List.set_cons_zero, List.set_cons_succ]
              refine wpAnyH_take (i := 8) (oi := { dst := some 128, op := Go.Op.move (Go.Operand.tmp 127), type := 4, pos := "ref.go:294", after := #[{ on := 7, ground := Go.Ground.data }, { on := 3, ground := Go.Ground.chain }], guard := none }) (v := ?_) rfl (by kernel_rfl) (by kernel_rfl) (by kernel_rfl) (fun _ _ _ h => h) (Or.inl ⟨by rfl, ?_⟩) hHeld ?_
              rotate_left 1
              · (intro wq hSq; (try dsimp only at hSq); go_simp; first | done | with_reducible rfl)
              try simp only [Act.put, List.setIfInBounds_toArray, List.set_cons_zero, List.set_cons_succ]
              refine wpAnyH_take (i := 9) (oi := { dst := some 129, op := Go.Op.fieldAddr 51 (Go.Operand.tmp 3) 6, type := 0, pos := "ref.go:294", after := #[{ on := 8, ground := Go.Ground.guard }], guard := some (8, true) }) (v := undef) rfl (by kernel_rfl) (by kernel_rfl) (by kernel_rfl) (fun _ _ _ h => h) (Or.inr ⟨by rfl, rfl⟩) hHeld ?_
              try simp only [Act.put, List.setIfInBounds_toArray, List.set_cons_zero, List.set_cons_succ]
              refine wpAnyH_take (i := 10) (oi := { dst := some 130, op := Go.Op.load 49 (Go.Operand.tmp 129), type := 49, pos := "ref.go:294", after := #[{ on := 9, ground := Go.Ground.data }, { on := 8, ground := Go.Ground.guard }], guard := some (8, true) }) (v := undef) rfl (by kernel_rfl) (by kernel_rfl) (by kernel_rfl) (fun _ _ _ h => h) (Or.inr ⟨by rfl, rfl⟩) hHeld ?_
              try simp only [Act.put, List.setIfInBounds_toArray, List.set_cons_zero, List.set_cons_succ]
              refine wpAnyH_take (i := 11) (oi := { dst := some 131, op := Go.Op.move (Go.Operand.tmp 10), type := 3, pos := "ref.go:294", after := #[{ on := 8, ground := Go.Ground.guard }], guard := some (8, true) }) (v := undef) rfl (by kernel_rfl) (by kernel_rfl) (by kernel_rfl) (fun _ _ _ h => h) (Or.inr ⟨by rfl, rfl⟩) hHeld ?_
              try simp only [Act.put, List.setIfInBounds_toArray, List.set_cons_zero, List.set_cons_succ]
              refine wpAnyH_take (i := 12) (oi := { dst := some 132, op := Go.Op.indexAddr 49 (Go.Operand.tmp 130) (Go.Operand.tmp 131), type := 0, pos := "ref.go:294", after := #[{ on := 10, ground := Go.Ground.data }, { on := 11, ground := Go.Ground.data }, { on := 8, ground := Go.Ground.guard }], guard := some (8, true) }) (v := undef) rfl (by kernel_rfl) (by kernel_rfl) (by kernel_rfl) (fun _ _ _ h => h) (Or.inr ⟨by rfl, rfl⟩) hHeld ?_
              try simp only [Act.put, List.setIfInBounds_toArray, List.set_cons_zero, List.set_cons_succ]
              refine wpAnyH_take (i := 13) (oi := { dst := some 133, op := Go.Op.fieldAddr 51 (Go.Operand.tmp 132) 0, type := 0, pos := "ref.go:294", after := #[{ on := 12, ground := Go.Ground.data }, { on := 8, ground := Go.Ground.guard }], guard := some (8, true) }) (v := undef) rfl (by kernel_rfl) (by kernel_rfl) (by kernel_rfl) (fun _ _ _ h => h) (Or.inr ⟨by rfl, rfl⟩) hHeld ?_
              try simp only [Act.put, List.setIfInBounds_toArray, List.set_cons_zero, List.set_cons_succ]
              refine wpAnyH_take (i := 14) (oi := { dst := some 134, op := Go.Op.load 3 (Go.Operand.tmp 133), type := 3, pos := "ref.go:294", after := #[{ on := 13, ground := Go.Ground.data }, { on := 8, ground := Go.Ground.guard }], guard := some (8, true) }) (v := undef) rfl (by kernel_rfl) (by kernel_rfl) (by kernel_rfl) (fun _ _ _ h => h) (Or.inr ⟨by rfl, rfl⟩) hHeld ?_
              try simp only [Act.put, List.setIfInBounds_toArray, List.set_cons_zero, List.set_cons_succ]
              refine wpAnyH_take (i := 15) (oi := { dst := some 135, op := Go.Op.fieldAddr 51 (Go.Operand.tmp 3) 0, type := 0, pos := "ref.go:294", after := #[{ on := 8, ground := Go.Ground.guard }], guard := some (8, true) }) (v := undef) rfl (by kernel_rfl) (by kernel_rfl) (by kernel_rfl) (fun _ _ _ h => h) (Or.inr ⟨by rfl, rfl⟩) hHeld ?_
              try simp only [Act.put, List.setIfInBounds_toArray, List.set_cons_zero, List.set_cons_succ]
              refine wpAnyH_take (i := 16) (oi := { dst := some 136, op := Go.Op.load 3 (Go.Operand.tmp 135), type := 3, pos := "ref.go:294", after := #[{ on := 15, ground := Go.Ground.data }, { on := 8, ground := Go.Ground.guard }], guard := some (8, true) }) (v := undef) rfl (by kernel_rfl) (by kernel_rfl) (by kernel_rfl) (fun _ _ _ h => h) (Or.inr ⟨by rfl, rfl⟩) hHeld ?_
              try simp only [Act.put, List.setIfInBounds_toArray, List.set_cons_zero, List.set_cons_succ]
              refine wpAnyH_take (i := 17) (oi := { dst := some 137, op := Go.Op.binOp Go.BinOp.eql 3 (Go.Operand.tmp 134) (Go.Operand.tmp 136) 3, type := 4, pos := "ref.go:294", after := #[{ on := 14, ground := Go.Ground.data }, { on := 16, ground := Go.Ground.data }, { on := 8, ground := Go.Ground.guard }], guard := some (8, true) }) (v := undef) rfl (by kernel_rfl) (by kernel_rfl) (by kernel_rfl) (fun _ _ _ h => h) (Or.inr ⟨by rfl, rfl⟩) hHeld ?_
              try simp only [Act.put, List.setIfInBounds_toArray, List.set_cons_zero, List.set_cons_succ]
              refine wpAnyH_take (i := 18) (oi := { dst := some 138, op := Go.Op.pick (Go.Operand.tmp 128) (Go.Operand.tmp 137) (Go.Operand.const (Go.Value.bool false)), type := 4, pos := "ref.go:294", after := #[{ on := 8, ground := Go.Ground.data }, { on := 17, ground := Go.Ground.data }], guard := none }) (v := .bool false) rfl (by kernel_rfl) (by kernel_rfl) (by kernel_rfl) (fun _ _ _ h => h) (Or.inl ⟨by rfl, ?_⟩) hHeld ?_
              · (intro wq hSq; (try dsimp only at hSq); go_simp; first | done | with_reducible rfl)
              try simp only [Act.put, List.setIfInBounds_toArray, List.set_cons_zero, List.set_cons_succ]
              refine wpAnyH_done (by kernel_rfl) ?_ _
              refine NoPanic.normal ?_
              go_wp2
              refine wp_region_noPanic ?_
              refine wp_region_M (m := 13) (S := fun W => WkW w W ⟨7, c, x0, x1, x2, x3, nn, lo, hi⟩ (.slice (some ⟨b, o, none⟩) n cp) l ej ∧ W.rangeAt b (o + j * 10) (cN h' (.slice av' l'.length cp'))) (by kernel_rfl) (S27.out) (fun hHeld => ?_)
              try simp only [Act.put, List.setIfInBounds_toArray, List.set_cons_zero, List.set_cons_succ]
              refine wpAnyM_take (i := 0) (oi := { dst := some 142, op := Go.Op.fieldAddr 51 (Go.Operand.tmp 3) 6, type := 0, pos := "ref.go:298", after := #[], guard := none }) (v := ?_) rfl (by kernel_rfl) (by kernel_rfl) (by kernel_rfl) (by kernel_rfl) rfl (fun _ _ _ h => h) (Or.inl ⟨by rfl, ?_⟩) hHeld ?_
              rotate_left 1
              · (intro wq hSq; (try dsimp only at hSq); go_simp; first | done | with_reducible rfl)
              try simp only [Act.put, List.setIfInBounds_toArray, List.set_cons_zero, List.set_cons_succ]
              refine wpAnyM_take (i := 1) (oi := { dst := some 143, op := Go.Op.load 49 (Go.Operand.tmp 142), type := 49, pos := "ref.go:298", after := #[{ on := 0, ground := Go.Ground.data }], guard := none }) (v := ?_) rfl (by kernel_rfl) (by kernel_rfl) (by kernel_rfl) (by kernel_rfl) rfl (fun _ _ _ h => h) (Or.inl ⟨by rfl, ?_⟩) hHeld ?_
              rotate_left 1
              · (intro wq hSq; (try dsimp only at hSq); have c := hSq.1.a.cell 9 _ rfl; go_simp; first | done | with_reducible rfl)
              try simp only [Act.put, List.setIfInBounds_toArray, List.set_cons_zero, List.set_cons_succ]
              refine wpAnyM_take (i := 2) (oi := { dst := some 144, op := Go.Op.move (Go.Operand.tmp 10), type := 3, pos := "ref.go:298", after := #[], guard := none }) (v := ?_) rfl (by kernel_rfl) (by kernel_rfl) (by kernel_rfl) (by kernel_rfl) rfl (fun _ _ _ h => h) (Or.inl ⟨by rfl, ?_⟩) hHeld ?_
              rotate_left 1
              · (intro wq hSq; (try dsimp only at hSq); go_simp; first | done | with_reducible rfl)
              try simp only [Act.put, List.setIfInBounds_toArray, List.set_cons_zero, List.set_cons_succ]
              refine wpAnyM_take (i := 3) (oi := { dst := some 145, op := Go.Op.indexAddr 49 (Go.Operand.tmp 143) (Go.Operand.tmp 144), type := 0, pos := "ref.go:298", after := #[{ on := 1, ground := Go.Ground.data }, { on := 2, ground := Go.Ground.data }], guard := none }) (v := ?_) rfl (by kernel_rfl) (by kernel_rfl) (by kernel_rfl) (by kernel_rfl) rfl (fun _ _ _ h => h) (Or.inl ⟨by rfl, ?_⟩) hHeld ?_
              rotate_left 1
              · (intro wq hSq; (try dsimp only at hSq); go_simp; first | done | with_reducible rfl)
              try simp only [Act.put, List.setIfInBounds_toArray, List.set_cons_zero, List.set_cons_succ]
              refine wpAnyM_take (i := 4) (oi := { dst := some 146, op := Go.Op.load 51 (Go.Operand.tmp 145), type := 51, pos := "ref.go:298", after := #[{ on := 3, ground := Go.Ground.data }], guard := none }) (v := vN h' (.slice av' l'.length cp')) rfl (by kernel_rfl) (by kernel_rfl) (by kernel_rfl) (by kernel_rfl) rfl (fun _ _ _ h => h) (yieldsIf_load_mid rfl 51 _ rfl b (o + j * 10) rfl (cN h' (.slice av' l'.length cp')) _ (fun wq hSq => hSq.2) Try.underlying51 rfl size51) hHeld ?_
              try simp only [Act.put, List.setIfInBounds_toArray, List.set_cons_zero, List.set_cons_succ]
              refine wpAnyM_take (i := 5) (oi := { dst := some 147, op := Go.Op.move (Go.Operand.tmp 1), type := 3, pos := "ref.go:298", after := #[], guard := none }) (v := ?_) rfl (by kernel_rfl) (by kernel_rfl) (by kernel_rfl) (by kernel_rfl) rfl (fun _ _ _ h => h) (Or.inl ⟨by rfl, ?_⟩) hHeld ?_
              rotate_left 1
              · (intro wq hSq; (try dsimp only at hSq); go_simp; first | done | with_reducible rfl)
              try simp only [Act.put, List.setIfInBounds_toArray, List.set_cons_zero, List.set_cons_succ]
              refine wpAnyM_take (i := 6) (oi := { dst := some 148, op := Go.Op.load 76 (Go.Operand.tmp 5), type := 76, pos := "ref.go:298", after := #[], guard := none }) (v := .agg (ej.map Value.bool).toArray) rfl (by kernel_rfl) (by kernel_rfl) (by kernel_rfl) (by kernel_rfl) rfl (fun _ _ _ h => h) (yieldsIf_load_mid rfl 76 _ rfl (w.heap.size + 1) 0 rfl (ej.map Value.bool) _ (fun wq hSq => hSq.1.d.range) Try.underlying76 rfl HSJ.out) hHeld ?_
              try simp only [Act.put, List.setIfInBounds_toArray, List.set_cons_zero, List.set_cons_succ]
              refine wpAnyM_one (i := 7) (o := { dst := some 149, op := Go.Op.call { callee := Go.Callee.value (Go.Operand.func 55), args := #[Go.Operand.tmp 146, Go.Operand.tmp 147, Go.Operand.tmp 148], argTypes := #[51, 3, 76] }, type := 80, pos := "ref.go:298", after := #[{ on := 4, ground := Go.Ground.data }, { on := 5, ground := Go.Ground.data }, { on := 6, ground := Go.Ground.data }], guard := none }) (by kernel_rfl) rfl (fun K hK => ?_)
              go_simp
              refine CALL.out.mono ?_
              rintro e w6 ⟨ok, ⟨bq, eq⟩, rfl, l6, p6, b6⟩
              have S6 : Hid ((fun W => WkW w W ⟨7, c, x0, x1, x2, x3, nn, lo, hi⟩ (.slice (some ⟨b, o, none⟩) n cp) l ej ∧ W.rangeAt b (o + j * 10) (cN h' (.slice av' l'.length cp'))) w6) := ⟨S27.out.1.below b6, range_block S27.out.2 (b6.block b (Nat.lt_of_lt_of_le HBL.out S27.out.1.bel.size))⟩
              have LQ : Hid (eq.length = 10) := l6
              have P6 : Hid (if ok = true then RT = some ⟨bq, eq⟩ else RT = none) := p6
              have SQ : Hid (WkW w (w6.setRow (w.heap.size + 1) (eq.map Value.bool).toArray) ⟨7, c, x0, x1, x2, x3, nn, lo, hi⟩ (.slice (some ⟨b, o, none⟩) n cp) l eq) := S6.out.1.next HSV.out eq
              clear b6 l6 p6
              refine hK.out _ _ (fun _ => S6.out) (fun hHeldQ => ?_)
              have hHeld1 := hHeldQ rfl
              clear hK K hHeldQ hHeld
              try simp only [Act.put, List.setIfInBounds_toArray, List.set_cons_zero, List.set_cons_succ]
              refine wpAnyM_take (i := 8) (oi := { dst := some 141, op := Go.Op.move (Go.Operand.tmp 149), type := 80, pos := "ref.go:298", after := #[{ on := 7, ground := Go.Ground.data }], guard := none }) (v := ?_) rfl (by kernel_rfl) (by kernel_rfl) (by kernel_rfl) (by kernel_rfl) rfl (fun _ _ _ h => h) (Or.inl ⟨by rfl, ?_⟩) hHeld1 ?_
              rotate_left 1
              · (intro wq hSq; (try dsimp only at hSq); go_simp; first | done | with_reducible rfl)
              try simp only [Act.put, List.setIfInBounds_toArray, List.set_cons_zero, List.set_cons_succ]
              refine wpAnyM_take (i := 9) (oi := { dst := some 150, op := Go.Op.extract (Go.Operand.tmp 141) 0, type := 3, pos := "ref.go:298", after := #[{ on := 8, ground := Go.Ground.data }], guard := none }) (v := ?_) rfl (by kernel_rfl) (by kernel_rfl) (by kernel_rfl) (by kernel_rfl) rfl (fun _ _ _ h => h) (Or.inl ⟨by rfl, ?_⟩) hHeld1 ?_
              rotate_left 1
              · (intro wq hSq; (try dsimp only at hSq); go_simp; first | done | with_reducible rfl)
              try simp only [Act.put, List.setIfInBounds_toArray, List.set_cons_zero, List.set_cons_succ]
              refine wpAnyM_take (i := 10) (oi := { dst := some 151, op := Go.Op.extract (Go.Operand.tmp 141) 1, type := 76, pos := "ref.go:298", after := #[{ on := 8, ground := Go.Ground.data }, { on := 12, ground := Go.Ground.gcOnly Go.Departure.lateStores }], guard := none }) (v := ?_) rfl (by kernel_rfl) (by kernel_rfl) (by kernel_rfl) (by kernel_rfl) rfl (fun _ _ _ h => h) (Or.inl ⟨by rfl, ?_⟩) hHeld1 ?_
              rotate_left 1
              · (intro wq hSq; (try dsimp only at hSq); go_simp; first | done | with_reducible rfl)
              try simp only [Act.put, List.setIfInBounds_toArray, List.set_cons_zero, List.set_cons_succ]
              refine wpAnyM_takeY (i := 11) (oi := { dst := some 152, op := Go.Op.extract (Go.Operand.tmp 141) 2, type := 4, pos := "ref.go:298", after := #[{ on := 8, ground := Go.Ground.data }, { on := 13, ground := Go.Ground.gcOnly Go.Departure.lateStores }], guard := none }) (v := ?_) rfl (by kernel_rfl) (by kernel_rfl) (by kernel_rfl) (by decide) (fun _ _ _ h => h) (Or.inl ⟨by rfl, ?_⟩) (fun _ => hHeld1) ?_
              rotate_left 1
              · (intro wq hSq; (try dsimp only at hSq); go_simp; first | done | with_reducible rfl)
              try simp only [Act.put, List.setIfInBounds_toArray, List.set_cons_zero, List.set_cons_succ]
              refine wpAnyM_take (i := 12) (oi := { dst := some 1, op := Go.Op.assign (Go.Operand.tmp 150), type := 3, pos := "ref.go:298", after := #[{ on := 9, ground := Go.Ground.data }, { on := 7, ground := Go.Ground.chain }, { on := 0, ground := Go.Ground.phase }, { on := 1, ground := Go.Ground.phase }, { on := 2, ground := Go.Ground.phase }, { on := 3, ground := Go.Ground.phase }, { on := 4, ground := Go.Ground.phase }, { on := 5, ground := Go.Ground.phase }, { on := 6, ground := Go.Ground.phase }, { on := 7, ground := Go.Ground.phase }, { on := 8, ground := Go.Ground.phase }, { on := 9, ground := Go.Ground.phase }, { on := 10, ground := Go.Ground.textOnly Go.Departure.lateStores }, { on := 11, ground := Go.Ground.textOnly Go.Departure.lateStores }], guard := none }) (v := ?_) rfl (by kernel_rfl) (by kernel_rfl) (by kernel_rfl) (by kernel_rfl) rfl (fun _ _ _ h => h) (Or.inl ⟨by rfl, ?_⟩) hHeld1 ?_
              rotate_left 1
              · (intro wq hSq; (try dsimp only at hSq); go_simp; first | done | with_reducible rfl)
              try simp only [Act.put, List.setIfInBounds_toArray, List.set_cons_zero, List.set_cons_succ]
              refine wpAnyM_one (i := 13) (o := { dst := none, op := Go.Op.store 76 (Go.Operand.tmp 5) (Go.Operand.tmp 151), type := 0, pos := "ref.go:298", after := #[{ on := 10, ground := Go.Ground.data }, { on := 12, ground := Go.Ground.chain }, { on := 0, ground := Go.Ground.phase }, { on := 1, ground := Go.Ground.phase }, { on := 2, ground := Go.Ground.phase }, { on := 3, ground := Go.Ground.phase }, { on := 4, ground := Go.Ground.phase }, { on := 5, ground := Go.Ground.phase }, { on := 6, ground := Go.Ground.phase }, { on := 7, ground := Go.Ground.phase }, { on := 8, ground := Go.Ground.phase }, { on := 9, ground := Go.Ground.phase }, { on := 10, ground := Go.Ground.phase }, { on := 11, ground := Go.Ground.textOnly Go.Departure.lateStores }, { on := 12, ground := Go.Ground.phase }], guard := none }) (by kernel_rfl) rfl (fun K hK => ?_)
              refine step_storeA rfl _ _ rfl (w.heap.size + 1) (by rfl) eq ej LQ.out HLJ.out (by rfl) S6.out.1.d ?_
              refine hK.out _ _ (fun h => by cases h) (fun _ => ?_)
              clear hK K hHeld1
              try simp only [Act.put, List.setIfInBounds_toArray, List.set_cons_zero, List.set_cons_succ]
              refine wpAnyM_one (i := 14) (o := { dst := some 11, op := Go.Op.assign (Go.Operand.tmp 152), type := 4, pos := "ref.go:298", after := #[{ on := 11, ground := Go.Ground.data }, { on := 13, ground := Go.Ground.chain }, { on := 0, ground := Go.Ground.phase }, { on := 1, ground := Go.Ground.phase }, { on := 2, ground := Go.Ground.phase }, { on := 3, ground := Go.Ground.phase }, { on := 4, ground := Go.Ground.phase }, { on := 5, ground := Go.Ground.phase }, { on := 6, ground := Go.Ground.phase }, { on := 7, ground := Go.Ground.phase }, { on := 8, ground := Go.Ground.phase }, { on := 9, ground := Go.Ground.phase }, { on := 10, ground := Go.Ground.phase }, { on := 11, ground := Go.Ground.phase }, { on := 12, ground := Go.Ground.phase }, { on := 13, ground := Go.Ground.phase }], guard := none }) (by kernel_rfl) rfl (fun K hK => ?_)
              go_simp
              refine hK.out _ _ (fun h => by cases h) (fun _ => ?_)
              clear hK K
              try simp only [Act.put, List.setIfInBounds_toArray, List.set_cons_zero, List.set_cons_succ]
              refine wpAnyM_done (by kernel_rfl) ?_ _
              refine NoPanic.normal ?_
              obtain ⟨w7, hw7⟩ : ∃ w7, w7 = w6.setRow (w.heap.size + 1) (eq.map Value.bool).toArray := ⟨_, rfl⟩
              rw [← hw7] at SQ ⊢
              clear hw7 S6 S27 CALL
              cases ok with
              | false =>
                have PNO : Hid (walkT (T.mk ⟨7, c, x0, x1, x2, x3, nn, lo, hi⟩ l) ⟨sb, se⟩ = none) := by
                  have e1 : RT = none := P6.out
                  have e2 := HF1.out
                  rw [e1] at e2
                  unfold Hid; rw [PGO.out, ← e2]; rfl
                have HSQ : Hid ((Try.prog.info? 76).map (·.size) = some (eq.map Value.bool).length) := by unfold Hid; rw [size76, List.length_map, LQ.out]
                go_wp2
                have SWR : Hid (WkW w w7.drew ⟨7, c, x0, x1, x2, x3, nn, lo, hi⟩ (.slice (some ⟨b, o, none⟩) n cp) l eq) := SQ.out.below ((Below.refl _ _).drew)
                refine wp_region_noPanic ?_
                refine wp_region_held_drew (S := fun W => BoxA W (w.heap.size + 1) eq) (by kernel_rfl) (SWR.out.d) (fun hHeld => ?_)
                try simp only [Act.put, List.setIfInBounds_toArray, List.set_cons_zero, List.set_cons_succ]
                refine wpAnyH_take (i := 0) (oi := { dst := some 155, op := Go.Op.move (Go.Operand.tmp 1), type := 3, pos := "ref.go:300", after := #[], guard := none }) (v := ?_) rfl (by kernel_rfl) (by kernel_rfl) (by kernel_rfl) (fun _ _ _ h => h) (Or.inl ⟨by rfl, ?_⟩) hHeld ?_
                rotate_left 1
                · (intro wq hSq; (try dsimp only at hSq); go_simp; first | done | with_reducible rfl)
                try simp only [Act.put, List.setIfInBounds_toArray, List.set_cons_zero, List.set_cons_succ]
                refine wpAnyH_take (i := 1) (oi := { dst := some 156, op := Go.Op.load 76 (Go.Operand.tmp 5), type := 76, pos := "ref.go:300", after := #[{ on := 2, ground := Go.Ground.gcOnly Go.Departure.lateStores }], guard := none }) (v := .agg (eq.map Value.bool).toArray) rfl (by kernel_rfl) (by kernel_rfl) (by kernel_rfl) (fun _ _ _ h => h) (yieldsIf_load_mid rfl 76 _ rfl (w.heap.size + 1) 0 rfl (eq.map Value.bool) _ (fun wq hSq => BoxA.range hSq) Try.underlying76 rfl HSQ.out) hHeld ?_
                try simp only [Act.put, List.setIfInBounds_toArray, List.set_cons_zero, List.set_cons_succ]
                refine wpAnyH_take (i := 2) (oi := { dst := some 6, op := Go.Op.assign (Go.Operand.tmp 155), type := 3, pos := "ref.go:300", after := #[{ on := 0, ground := Go.Ground.data }, { on := 0, ground := Go.Ground.phase }, { on := 1, ground := Go.Ground.textOnly Go.Departure.lateStores }], guard := none }) (v := ?_) rfl (by kernel_rfl) (by kernel_rfl) (by kernel_rfl) (fun _ _ _ h => h) (Or.inl ⟨by rfl, ?_⟩) hHeld ?_
                rotate_left 1
                · (intro wq hSq; (try dsimp only at hSq); go_simp; first | done | with_reducible rfl)
                try simp only [Act.put, List.setIfInBounds_toArray, List.set_cons_zero, List.set_cons_succ]
                refine wpAnyH_ready (rs := [3]) (by kernel_rfl) (by simp) ?_
                refine AllReadyH.cons (o := { dst := none, op := Go.Op.store 76 (Go.Operand.tmp 7) (Go.Operand.tmp 156), type := 0, pos := "ref.go:300", after := #[{ on := 1, ground := Go.Ground.data }, { on := 2, ground := Go.Ground.chain }, { on := 0, ground := Go.Ground.phase }, { on := 1, ground := Go.Ground.phase }, { on := 2, ground := Go.Ground.phase }], guard := none }) rfl (fun K hK => ?_) AllReadyH.nil
                refine step_storeA rfl _ _ rfl (w.heap.size + 1 + 1) (by rfl) eq (List.replicate 10 false) LQ.out (by simp) (by rfl) SWR.out.r ?_
                refine hK.out _ _ (SWR.out.fin.2.2) (fun hHeld1 => ?_)
                clear hK K hHeld
                try simp only [Act.put, List.setIfInBounds_toArray, List.set_cons_zero, List.set_cons_succ]
                refine wpAnyH_take (i := 4) (oi := { dst := some 8, op := Go.Op.assign (Go.Operand.const (Go.Value.bool false)), type := 4, pos := "ref.go:300", after := #[{ on := 3, ground := Go.Ground.chain }, { on := 0, ground := Go.Ground.phase }, { on := 1, ground := Go.Ground.phase }, { on := 2, ground := Go.Ground.phase }, { on := 3, ground := Go.Ground.phase }], guard := none }) (v := ?_) rfl (by kernel_rfl) (by kernel_rfl) (by kernel_rfl) (fun _ _ _ h => h) (Or.inl ⟨by rfl, ?_⟩) hHeld1 ?_
                rotate_left 1
                · (intro wq hSq; (try dsimp only at hSq); go_simp; first | done | with_reducible rfl)
                try simp only [Act.put, List.setIfInBounds_toArray, List.set_cons_zero, List.set_cons_succ]
                refine wpAnyH_done (by kernel_rfl) ?_ _
                refine NoPanic.normal ?_
                go_wp2
                exact bodyPost_ret (v := .tuple #[.int .i64 bq, .agg (eq.map Value.bool).toArray, .bool false]) (res55w Try.results55 _ _ (w.heap.size + 1 + 1) eq LQ.out rfl SWR.out.fin.1) rfl ⟨false, ⟨bq, eq⟩, rfl, LQ.out, (if_neg (by simp)).mpr PNO.out, SWR.out.fin.2.1⟩
              | true =>
                have e1 : RT = some ⟨bq, eq⟩ := P6.out
                have HF2 : Hid (walkL (l.drop (j + 1)) 7 ⟨bq, eq⟩ = R) := by
                  have e2 := HF1.out
                  rw [e1] at e2; exact e2
                have HOQ : Hid (GsOk ⟨bq, eq⟩) := HPO.out _ e1
                clear e1 HF1 HPO P6
                go_wp2
                go_roundw
                case rel => exact ⟨j + 1, bq, eq, by have := HLT.out; omega, by go_num, rfl, HF2.out, SQ.out, HOQ.out⟩
                case measure => have := HLT.out; simp [intOf]; omega
          · have i1 : ¬ (j : Int) < (n : Int) := by omega
            have HE : Hid (walkT (T.mk ⟨7, c, x0, x1, x2, x3, nn, lo, hi⟩ l) ⟨sb, se⟩ = some (endN ⟨7, c, x0, x1, x2, x3, nn, lo, hi⟩ ⟨bj, ej⟩)) := by
              have := HF.out
              rw [List.drop_eq_nil_of_le (by rw [← HN.out]; omega), walkL_nil] at this
              unfold Hid; rw [PGO.out, ← this]; rfl
            have aJ0 := SWJ.out.a.cell 0 _ rfl
            have HEK : Hid (endN ⟨7, c, x0, x1, x2, x3, nn, lo, hi⟩ ⟨bj, ej⟩ = ⟨bj, ej⟩) := by unfold Hid endN; rw [if_neg (by show ¬ (7 : Int) = 6; omega)]
            clear hlt HF
            go_wp2
            have SWR : Hid (WkW w wr.drew ⟨7, c, x0, x1, x2, x3, nn, lo, hi⟩ (.slice av n cp) l ej) := SWJ.out.below ((Below.refl _ _).drew)
            refine wp_region_noPanic ?_
            refine wp_region_held_drew (S := fun W => BoxA W (w.heap.size + 1) ej) (by kernel_rfl) (SWR.out.d) (fun hHeld => ?_)
            try simp only [Act.put, List.setIfInBounds_toArray, List.set_cons_zero, List.set_cons_succ]
            refine wpAnyH_take (i := 0) (oi := { dst := some 164, op := Go.Op.move (Go.Operand.tmp 1), type := 3, pos := "ref.go:306", after := #[], guard := none }) (v := ?_) rfl (by kernel_rfl) (by kernel_rfl) (by kernel_rfl) (fun _ _ _ h => h) (Or.inl ⟨by rfl, ?_⟩) hHeld ?_
            rotate_left 1
            · (intro wq hSq; (try dsimp only at hSq); go_simp; first | done | with_reducible rfl)
            try simp only [Act.put, List.setIfInBounds_toArray, List.set_cons_zero, List.set_cons_succ]
            refine wpAnyH_take (i := 1) (oi := { dst := some 165, op := Go.Op.load 76 (Go.Operand.tmp 5), type := 76, pos := "ref.go:306", after := #[{ on := 2, ground := Go.Ground.gcOnly Go.Departure.lateStores }], guard := none }) (v := .agg (ej.map Value.bool).toArray) rfl (by kernel_rfl) (by kernel_rfl) (by kernel_rfl) (fun _ _ _ h => h) (yieldsIf_load_mid rfl 76 _ rfl (w.heap.size + 1) 0 rfl (ej.map Value.bool) _ (fun wq hSq => BoxA.range hSq) Try.underlying76 rfl HSJ.out) hHeld ?_
            try simp only [Act.put, List.setIfInBounds_toArray, List.set_cons_zero, List.set_cons_succ]
            refine wpAnyH_take (i := 2) (oi := { dst := some 6, op := Go.Op.assign (Go.Operand.tmp 164), type := 3, pos := "ref.go:306", after := #[{ on := 0, ground := Go.Ground.data }, { on := 0, ground := Go.Ground.phase }, { on := 1, ground := Go.Ground.textOnly Go.Departure.lateStores }], guard := none }) (v := ?_) rfl (by kernel_rfl) (by kernel_rfl) (by kernel_rfl) (fun _ _ _ h => h) (Or.inl ⟨by rfl, ?_⟩) hHeld ?_
            rotate_left 1
            · (intro wq hSq; (try dsimp only at hSq); go_simp; first | done | with_reducible rfl)
            try simp only [Act.put, List.setIfInBounds_toArray, List.set_cons_zero, List.set_cons_succ]
            refine wpAnyH_ready (rs := [3]) (by kernel_rfl) (by simp) ?_
            refine AllReadyH.cons (o := { dst := none, op := Go.Op.store 76 (Go.Operand.tmp 7) (Go.Operand.tmp 165), type := 0, pos := "ref.go:306", after := #[{ on := 1, ground := Go.Ground.data }, { on := 2, ground := Go.Ground.chain }, { on := 0, ground := Go.Ground.phase }, { on := 1, ground := Go.Ground.phase }, { on := 2, ground := Go.Ground.phase }], guard := none }) rfl (fun K hK => ?_) AllReadyH.nil
            refine step_storeA rfl _ _ rfl (w.heap.size + 1 + 1) (by rfl) ej (List.replicate 10 false) HLJ.out (by simp) (by rfl) SWR.out.r ?_
            refine hK.out _ _ (SWR.out.fin.2.2) (fun hHeld1 => ?_)
            clear hK K hHeld
            try simp only [Act.put, List.setIfInBounds_toArray, List.set_cons_zero, List.set_cons_succ]
            refine wpAnyH_take (i := 4) (oi := { dst := some 8, op := Go.Op.assign (Go.Operand.const (Go.Value.bool true)), type := 4, pos := "ref.go:306", after := #[{ on := 3, ground := Go.Ground.chain }, { on := 0, ground := Go.Ground.phase }, { on := 1, ground := Go.Ground.phase }, { on := 2, ground := Go.Ground.phase }, { on := 3, ground := Go.Ground.phase }], guard := none }) (v := ?_) rfl (by kernel_rfl) (by kernel_rfl) (by kernel_rfl) (fun _ _ _ h => h) (Or.inl ⟨by rfl, ?_⟩) hHeld1 ?_
            rotate_left 1
            · (intro wq hSq; (try dsimp only at hSq); go_simp; first | done | with_reducible rfl)
            try simp only [Act.put, List.setIfInBounds_toArray, List.set_cons_zero, List.set_cons_succ]
            refine wpAnyH_done (by kernel_rfl) ?_ _
            refine NoPanic.normal ?_
            go_wp2
            exact bodyPost_ret (v := .tuple #[.int .i64 bj, .agg (ej.map Value.bool).toArray, .bool true]) (res55w Try.results55 _ _ (w.heap.size + 1 + 1) ej HLJ.out rfl SWR.out.fin.1) rfl ⟨true, ⟨bj, ej⟩, rfl, HLJ.out, (if_pos rfl).mpr (by rw [HE.out, HEK.out]), SWR.out.fin.2.1⟩
end Go.Proofs.Ytaoobmpjlagkpaa
