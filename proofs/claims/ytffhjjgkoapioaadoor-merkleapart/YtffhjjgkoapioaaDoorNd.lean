import Derived.Test.YtffhjjgkoapioaaDoorNc
namespace Go.Proofs.YtffhjjgkoapioaaDoor
set_option linter.unusedSimpArgs false
set_option linter.unusedVariables false
open Go.RowKit Go.Shelf
attribute [local go_sem] Oper.semAt_some
/-- The slice in the box at base + 1 has the hashes hs. -/
def LeavesIn (base : Nat) (hs : List (List Int)) (W : World) : Prop :=
  ∃ v, Boxed W (base + 1) 44 v ∧ HashRow base hs v W ∧ (∀ k, v.ownBlock = some k → k = base ∨ base + 4 ≤ k)
set_option maxRecDepth 100000 in
theorem leavesIn_own {β : Type} (base B : Nat) (f : β → List (List Int)) : OwnFrom B (fun s W => LeavesIn base (f s) W) := by
  rintro s X Y row ⟨v, hv, hr, hb⟩ hg hrow'
  have hrow : ∀ r, row = some r → ∃ o : Obj, X.heap[r]? = some o ∧ o.isCells = false := fun r e => (hrow' r e).2
  refine ⟨v, hv.kept hg (fun e' => ?_), World.ownsRow.kept hr hg ?_, hb⟩
  · obtain ⟨o, ho, hc⟩ := hrow (base + 1) e'.symm
    rw [show X.heap[base + 1]? = _ from hv] at ho; cases ho; cases hc
  · rcases hr.2 with ⟨rfl, _⟩ | ⟨g, cap, cur, rfl, _, hgb, _⟩
    · exact .inl rfl
    · refine .inr fun e' => ?_
      obtain ⟨o, ho, hc⟩ := hrow g (by simpa [Value.ownBlock] using e'.symm)
      rw [hgb] at ho; cases ho; cases hc
set_option maxRecDepth 100000 in
theorem leavesIn_step {base : Nat} {hs : List (List Int)} {h : List Int} {W w5 w6 : World} {v v' : Value} (hv : Boxed W (base + 1) 44 v) (hr : HashRow base hs v W) (hb : ∀ k, v.ownBlock = some k → k = base ∨ base + 4 ≤ k) (hs4 : base + 4 ≤ W.heap.size)
    (b5 : Below W.heap.size W w5) (hown : HashRow base (hs ++ [h]) v' w6) (hg : (w5.alloc (.cells (vB h) 24)).grownBy w6 v.ownBlock) (hd : v'.ownBlock = v.ownBlock ∨ v'.ownBlock = some (w5.alloc (.cells (vB h) 24)).heap.size) :
    LeavesIn base (hs ++ [h]) (w6.setCell ⟨base + 1, 0, none⟩ v') ∧ KeepsOthers W (w6.setCell ⟨base + 1, 0, none⟩ v') ∧ Below base W (w6.setCell ⟨base + 1, 0, none⟩ v') ∧ Keep2 (base + 2) W (w6.setCell ⟨base + 1, 0, none⟩ v') ∧ w6.cell? ⟨base + 1, 0, none⟩ = some v ∧ w6.frozen? ⟨base + 1, 0, none⟩ = false := by
  have g5 : W.grownBy w5 none := grown_below b5 none
  have s5 := b5.size
  have hv5 : Boxed w5 (base + 1) 44 v := hv.kept g5 (by simp)
  have hr5 : HashRow base hs v w5 := hr.below b5
  obtain ⟨a1, a2, a3, a4, a5⟩ := hv5.appended (by decide) hr5 (show base ≤ w5.heap.size by omega) (show base ≤ base + 1 by omega) hown hg
  refine ⟨⟨v', a2, a3, fun k hk => ?_⟩, (KeepsOthers.of_grownBy g5 (fun j o e => by cases e)).trans a4, (Below.refl base W).trans ?_, fun k h1 h3 => ?_, a1.cell, a1.frozen⟩
  · rcases hd with hd | hd
    · exact hb k (hd ▸ hk)
    · rw [hd] at hk; injection hk with hk; simp at hk; omega
  · exact ((Below.refl base W).grown g5 (by omega) (fun k e => by cases e)).trans a5
  · rw [(grownBy_setCell' w6 (base + 1) v').block k (Nat.lt_of_lt_of_le (by simp; omega) hg.size) (by intro e; injection e; omega), hg.block k (by simp; omega) ?_, Below.heap_alloc _ _ _ (by omega), g5.block k (by omega) (by simp)]
    intro e
    have := hb k e.symm
    omega
set_option maxRecDepth 100000 in
theorem step_build_in {F : Fence} {n : Nat} {ops : Array Oper} {o : Oper} {a : Act} {w : World} {K : Act → World → Prop} {Q : Exit → Act → World → Prop} {E : Prop} (hgd : o.guard = none) (x : Operand) (ho : o.op = .buildSlice 44 1 #[(0, x)]) (h : List Int) (hl : h.length = 32) (hx : a.eval x = .agg (vB h))
    (hK : K (a.put o.dst (.slice (some ⟨w.heap.size, 0, none⟩) 1 1)) (w.alloc (.cells (vB h) 24))) : if Region.wanted o (yielded ops a.tmps) = true then Oper.wpIn F n Tryd.prog o a w K Q else E := by
  have hw : Region.wanted o (yielded ops a.tmps) = true := by simp [Region.wanted, hgd]
  rw [if_pos hw]
  have hrun := buildH h hl w
  unfold Oper.wpIn
  refine ⟨by simp [Oper.about, ho], ?_⟩
  rw [Oper.semAt_plain F _ _ (by rw [ho]; intro c hc'; cases hc')]
  unfold execOp
  simp only [ho]
  rw [show (#[(0, x)].map fun (i, x) => (i, a.eval x)) = #[(0, .agg (vB h))] by simp [hx]]
  simp only [Sem.run_bind, hrun, Result.andThen_ok]
  exact hK
set_option maxRecDepth 100000 in
theorem step_append_in {F : Fence} {n : Nat} {ops : Array Oper} {o : Oper} {a : Act} {w : World} {K : Act → World → Prop} {Q : Exit → Act → World → Prop} {E : Prop} (hgd : o.guard = none) (s x : Operand)
    (ho : o.op = .call { callee := .builtin .append, args := #[s, x], argTypes := #[44, 44] }) (base : Nat) (v : Value) (hs : List (List Int)) (hv : a.eval s = v) (hown : HashRow base hs v w)
    (h : List Int) (hl : h.length = 32) (hx : a.eval x = .slice (some ⟨w.heap.size, 0, none⟩) 1 1) (hn : hs.length ≤ 1000000000000) (hbase : base ≤ w.heap.size)
    (hK : ∀ v' w', HashRow base (hs ++ [h]) v' w' → (w.alloc (.cells (vB h) 24)).grownBy w' v.ownBlock → (v'.ownBlock = v.ownBlock ∨ v'.ownBlock = some (w.alloc (.cells (vB h) 24)).heap.size) → K (a.put o.dst v') w') : if Region.wanted o (yielded ops a.tmps) = true then Oper.wpIn F n Tryd.prog o a (w.alloc (.cells (vB h) 24)) K Q else E := by
  have hw : Region.wanted o (yielded ops a.tmps) = true := by simp [Region.wanted, hgd]
  rw [if_pos hw]
  obtain ⟨i, hi, hz0, hz1, hz2⟩ := info_parts info24
  have hh : (vB h).toList.length = 1 * 32 := by rw [Array.length_toList, vB_size, hl]
  obtain ⟨v', w', hr, h2, h3, h4, h5⟩ := run_append_own_at (P := Tryd.prog) (w.alloc (.cells (vB h) 24)) base 44 o.type 24 i (.agg (vB (zs 32))) 32 32 Tryd.underlying44 hi hz0 hz1 hz2 rfl (by omega) v hs.length (vB hs.flatten).toList (own_alloc hown _) ⟨w.heap.size, 0, none⟩ 1 1 (vB h).toList hh cells_of_new
    (fun v hv => by simp [vB] at hv; obtain ⟨y, _, rfl⟩ := hv; rfl) (by unfold maxLen; omega) (by omega) (by simp; omega)
  unfold Oper.wpIn
  refine ⟨by simp [Oper.about, ho, resolve, Target.leads, Sem.run_pure], ?_⟩
  rw [Oper.semAt_plain F _ _ (by rw [ho]; intro c hc'; cases hc')]
  simp [execOp, ho, resolve, invoke, builtin, hv, hx, hr, Result.andThen]
  exact hK v' w' (by unfold HashRow; simpa [vB] using h2) h3 h5
set_option maxRecDepth 100000 in
theorem leaves_map (bs : List Int) : (piecesTo bs.length ((bs.length + 31) / 32)).map (fun p => leafH (textOf bs p.1)) = leavesL bs := by
  unfold leavesL chunksL
  simp only [List.map_map, Function.comp_def]
set_option maxRecDepth 100000 in
theorem make44 (n : Nat) (h : n ≤ 4398046511104) (w : World) : ∃ cs : Array Value, cs.size = n * 32 ∧ (Instr.makeSlice 44 (.int .i64 0) (.int .i64 n)).run Tryd.prog w = .ok (.slice (some ⟨w.heap.size, 0, none⟩) 0 n) (w.alloc (.cells cs 24)) := by
  obtain ⟨i, hi, hz0, hz1, hz2⟩ := info_parts info24
  have := run_make (P := Tryd.prog) w 44 24 i (.agg (vB (zs 32))) Tryd.underlying44 hi hz0 .i64 .i64 0 n (by omega) (by omega) (by rw [hz2]; omega) (by omega)
  refine ⟨_, size_madeCells (Value.cells (.agg (vB (zs 32)))) (n * 32), ?_⟩
  simpa [hz1] using this
set_option maxRecDepth 100000 in
set_option maxHeartbeats 4000000 in
theorem leaves_any (v : Value) (bs : List Int) (w : World) (hL : Laid w) (hp : PartAt w v bs) (hn : bs.length ≤ 1000000000000) :
    Calls Tryd.prog 63 #[v] w fun e w' => ∃ v', e = .returned v' ∧ ListAt w' v' (leavesL bs) ∧ Below w.heap.size w w' := by
  have h2 := hL.two
  have hmx : Tryd.prog.follows .mixedOrders = true := by kernel_rfl
  obtain ⟨av, b, o, cp, rfl, hcp, hcp2, hav, hr, hb, _⟩ := hp
  obtain ⟨cs, hcsz, hm44⟩ := make44 ((bs.length + 31) / 32) (by omega) w
  have CC : Hid (∀ w' : World, Calls Tryd.prog 61 #[.slice av bs.length cp] w' fun e w'' => e = .returned (.int .i64 ((bs.length + 31) / 32 : Nat)) ∧ w'' = w') := fun w' => count_any av bs.length cp (by omega) w'
  refine (callsIn_wide (n := 3)).1 ?_
  refine callsIn_of_wp_marks Tryd.func63 rfl trivial ?_ rfl
  simp only [Tryd.ntmps63, List.size_toArray, List.length_cons, List.length_nil, Nat.reduceAdd, Nat.reduceSub, Array.replicate_succ, Array.replicate_zero, List.push_toArray, List.append_toArray, List.nil_append, List.cons_append]
  obtain ⟨cnt, hcnt⟩ : ∃ c, c = (bs.length + 31) / 32 := ⟨_, rfl⟩
  rw [← hcnt] at CC hm44 hcsz
  have HC : Hid (cnt = (bs.length + 31) / 32) := hcnt
  clear hcnt
  gi_wp2_with (first | (refine ⟨trivial, ?_⟩; gi_at_call 61; refine (callsIn_wide.2 (CC.out _)).mono ?_; rintro e w' ⟨rfl, hw'⟩; have hw'' := hw'.symm; clear hw'; subst hw'') | (refine ⟨trivial, ?_⟩; gi_at_call 62; refine (chunk_in Fence.wide _ trivial rfl _ _ _ _).mono ?_; rintro e w' ⟨rfl, rfl⟩))
  obtain ⟨W0, hW0⟩ : ∃ W0, ((((w.alloc (Obj.cells cs 24)).alloc (Obj.cells #[Value.slice (some ⟨w.heap.size, 0, none⟩) 0 cnt] 44)).alloc (Obj.cells #[Value.slice av bs.length cp] 22)).alloc (Obj.cells #[Value.int IntKind.i64 32] 3)) = W0 := ⟨_, rfl⟩
  rw [hW0]
  have s0 : W0.heap.size = w.heap.size + 4 := by rw [← hW0]; simp
  have B0 : Below w.heap.size w W0 := by rw [← hW0]; exact ((((Below.refl _ _).alloc (Nat.le_refl _) _).alloc (by simp) _).alloc (by simp; omega) _).alloc (by simp; omega) _
  have x1 : Boxed W0 (w.heap.size + 1) 44 (.slice (some ⟨w.heap.size, 0, none⟩) 0 cnt) := by
    rw [← hW0]; exact (Boxed.alloc (Boxed.alloc (by have := Boxed.new (w.alloc (Obj.cells cs 24)) 44 (.slice (some ⟨w.heap.size, 0, none⟩) 0 cnt); rwa [World.size_alloc] at this) _) _)
  have x2 : Boxed W0 (w.heap.size + 1 + 1) 22 (.slice av bs.length cp) := by
    rw [← hW0]; exact (Boxed.alloc (by have := Boxed.new ((w.alloc (Obj.cells cs 24)).alloc (Obj.cells #[Value.slice (some ⟨w.heap.size, 0, none⟩) 0 cnt] 44)) 22 (.slice av bs.length cp); rwa [World.size_alloc, World.size_alloc] at this) _)
  have x3 : Boxed W0 (w.heap.size + 1 + 1 + 1) 3 (.int .i64 32) := by
    rw [← hW0]; have := Boxed.new (((w.alloc (Obj.cells cs 24)).alloc (Obj.cells #[Value.slice (some ⟨w.heap.size, 0, none⟩) 0 cnt] 44)).alloc (Obj.cells #[Value.slice av bs.length cp] 22)) 3 (.int .i64 32); rwa [World.size_alloc, World.size_alloc, World.size_alloc] at this
  have r0 : W0.heap[w.heap.size]? = some (.cells cs 24) := by
    rw [← hW0, Below.heap_alloc _ _ _ (by simp; omega), Below.heap_alloc _ _ _ (by simp; omega), Below.heap_alloc _ _ _ (by simp)]; exact heap_alloc_new _ _
  have i0 : LeavesIn w.heap.size [] W0 := ⟨_, x1, ⟨rfl, Or.inr ⟨w.heap.size, cnt, _, rfl, Nat.le_refl _, r0, Nat.zero_le _, by have := HC.out; unfold maxLen; omega, by rw [hcsz], by simp [vB]⟩⟩, fun k hk => by simp [Value.ownBlock] at hk; omega⟩
  clear hW0 x1 r0 hm44
  refine wpIn_rangeFunc_ownG (F := Fence.wide) rfl (by omega) (gf := 80) (lb := #[.pointer (some ⟨w.heap.size + 1 + 1, 0, none⟩), .pointer (some ⟨w.heap.size + 1 + 1 + 1, 0, none⟩)]) rfl trivial (enters_of Tryd.func80 (by kernel_rfl) rfl)
    (chunk_stops Fence.wide _ trivial rfl (by omega) (w.heap.size + 1 + 1) b o bs.length cp av hav (by omega) hcp hcp2 W0 (by omega) x2.cell x3.cell) (fun h k => h.trans k) (keep2_b (by omega)) (Below.refl _ _) (fun _ => rfl)
    (fun pre W => LeavesIn w.heap.size (pre.map (fun p => leafH (textOf bs p.1))) W ∧ (Below w.heap.size w W ∧ w.heap.size + 4 ≤ W.heap.size))
    (fun _ _ _ => False)
    (OwnFrom.and (leavesIn_own _ _ _) (OwnFrom.and (ownFrom_below (Nat.le_refl _) (by omega)) (fun s X Y row h hg _ => Nat.le_trans h hg.size)))
    (fun _ _ _ _ _ hs _ _ => hs)
    ⟨i0, B0, by omega⟩
    (fun x => { tmps := #[.slice av bs.length cp, undef, .slice none 0 0, .pointer (some ⟨w.heap.size + 1, 0, none⟩), .slice (some ⟨b, o + x.1.1, none⟩) x.1.2 x.1.2, .slice av bs.length cp, .int .i64 cnt, .slice (some ⟨w.heap.size, 0, none⟩) 0 cnt, .slice av bs.length cp, .func (.func 80) #[] #[.pointer (some ⟨w.heap.size + 1 + 1, 0, none⟩), .pointer (some ⟨w.heap.size + 1 + 1 + 1, 0, none⟩)], .slice (some ⟨b, o + x.1.1, none⟩) x.1.2 x.1.2, undef, undef, undef, undef, undef, undef], defers := [] }) ?assign ?body ?done ?stop
  case assign =>
    intro l x W K hK
    gi_wp2
    exact hK
  case body =>
    rintro l pre x W ⟨⟨v, hv, hrow, hbk⟩, hB, hs4⟩ hlt
    have hx := x.2
    have htl := textOf_length bs x
    have hpx : PartAt W (.slice (some ⟨b, o + x.1.1, none⟩) x.1.2 x.1.2) (textOf bs x.1) := ⟨some ⟨b, o + x.1.1, none⟩, b, o + x.1.1, x.1.2, by rw [htl], by omega, by omega, fun _ => rfl, range_take (range_drop (range_below hr hB hb) x.1.1) x.1.2, Nat.lt_of_lt_of_le hb hB.size, fun h => by cases h⟩
    obtain ⟨H, hH⟩ : ∃ H, H = leafH (textOf bs x.1) := ⟨_, rfl⟩
    have hHl : H.length = 32 := by rw [hH]; exact leafH_length _
    have C26 : Hid (Calls Tryd.prog 30 #[.slice (some ⟨b, o + x.1.1, none⟩) x.1.2 x.1.2] W.drew fun e w' => e = .returned (.agg (vB H)) ∧ Below W.heap.size W w') := by
      unfold Hid
      rw [hH]
      refine (leaf_any _ (textOf bs x.1) W.drew ((hL.below hB h2).drew) hpx.drew (by omega)).mono ?_
      rintro e w5 ⟨rfl, b5⟩
      exact ⟨rfl, ⟨b5.os, b5.tape, b5.output, b5.size, b5.block⟩⟩
    have HM : Hid ((pre ++ [x]).map (fun p : Piece bs.length => leafH (textOf bs p.1)) = pre.map (fun p : Piece bs.length => leafH (textOf bs p.1)) ++ [H]) := by unfold Hid; rw [hH, List.map_append]; rfl
    have hkk : (pre.map (fun p : Piece bs.length => leafH (textOf bs p.1))).length ≤ 1000000000000 := by simp; omega
    have HST : Hid (∀ (w5 w6 : World) (v' : Value), Below W.heap.size W w5 → HashRow w.heap.size (pre.map (fun p : Piece bs.length => leafH (textOf bs p.1)) ++ [H]) v' w6 → (w5.alloc (.cells (vB H) 24)).grownBy w6 v.ownBlock → (v'.ownBlock = v.ownBlock ∨ v'.ownBlock = some (w5.alloc (.cells (vB H) 24)).heap.size) → _) := fun w5 w6 v' k0 k1 k2 k3 => leavesIn_step (h := H) hv hrow hbk hs4 k0 k1 k2 k3
    have HF : Hid (∀ (w6 : World) (v' : Value), (LeavesIn w.heap.size (pre.map (fun p : Piece bs.length => leafH (textOf bs p.1)) ++ [H]) (w6.setCell ⟨w.heap.size + 1, 0, none⟩ v') ∧ KeepsOthers W (w6.setCell ⟨w.heap.size + 1, 0, none⟩ v') ∧ Below w.heap.size W (w6.setCell ⟨w.heap.size + 1, 0, none⟩ v') ∧ Keep2 (w.heap.size + 2) W (w6.setCell ⟨w.heap.size + 1, 0, none⟩ v')) → KeepsFrom W0.heap.size W (w6.setCell ⟨w.heap.size + 1, 0, none⟩ v') ∧ Keep2 (w.heap.size + 1 + 1) W (w6.setCell ⟨w.heap.size + 1, 0, none⟩ v') ∧ LeavesIn w.heap.size ((pre ++ [x]).map (fun p : Piece bs.length => leafH (textOf bs p.1))) (w6.setCell ⟨w.heap.size + 1, 0, none⟩ v') ∧ Below w.heap.size w (w6.setCell ⟨w.heap.size + 1, 0, none⟩ v') ∧ w.heap.size + 4 ≤ (w6.setCell ⟨w.heap.size + 1, 0, none⟩ v').heap.size) := fun w6 v' q => ⟨q.2.1.from _, q.2.2.2, by rw [HM.out]; exact q.1, hB.trans q.2.2.1, Nat.le_trans hs4 q.2.1.size⟩
    have hc0 := hv.cell
    have HV : Hid (∀ w', Below W.heap.size W w' → w'.cell? ⟨w.heap.size + 1, 0, none⟩ = some v) := fun w' q => by rw [q.cell (show w.heap.size + 1 < W.heap.size by omega)]; exact hv.cell
    have HRW : Hid (∀ w', Below W.heap.size W w' → HashRow w.heap.size (pre.map (fun p : Piece bs.length => leafH (textOf bs p.1))) v w') := fun w' q => hrow.below q
    obtain ⟨⟨p, m⟩, hx'⟩ := x
    dsimp only at *
    have hbs := hB.size
    generalize hLs : pre.map (fun p : Piece bs.length => leafH (textOf bs p.1)) = ls at *
    clear hLs hrow hH hpx hr
    gi_wp2
    refine wpIn_region_any hmx ?_
    change wpAnyIn _ _ _ _ _ _ _ _ _ (World.drew _)
    refine wpAnyIn_ready (rs := [0, 1]) (by kernel_rfl) (by simp) ?_
    refine (AllReadyIn.cons (o := { dst := some 11, op := Go.Op.load 44 (Go.Operand.tmp 3), type := 44, pos := "merkle.go:135", after := #[], guard := none }) rfl (fun K hK => ?_) (AllReadyIn.cons (o := { dst := some 12, op := Go.Op.move (Go.Operand.tmp 4), type := 22, pos := "merkle.go:135", after := #[], guard := none }) rfl (fun K hK => ?_) AllReadyIn.nil))
    · go_simp
      refine hK _ _ ?_
      clear hK K
      try simp only [Act.put, List.setIfInBounds_toArray, List.set_cons_zero, List.set_cons_succ]
      refine wpAnyIn_ready (rs := [1]) (by kernel_rfl) (by simp) ?_
      refine (AllReadyIn.cons (o := { dst := some 12, op := Go.Op.move (Go.Operand.tmp 4), type := 22, pos := "merkle.go:135", after := #[], guard := none }) rfl (fun K hK => ?_) AllReadyIn.nil)
      · go_simp
        refine hK _ _ ?_
        clear hK K
        try simp only [Act.put, List.setIfInBounds_toArray, List.set_cons_zero, List.set_cons_succ]
        refine wpAnyIn_ready (rs := [2]) (by kernel_rfl) (by simp) ?_
        refine (AllReadyIn.cons (o := { dst := some 13, op := Go.Op.call { callee := Go.Callee.value (Go.Operand.func 30), args := #[Go.Operand.tmp 12], argTypes := #[22] }, type := 24, pos := "merkle.go:135", after := #[{ on := 1, ground := Go.Ground.data }], guard := none }) rfl (fun K hK => ?_) AllReadyIn.nil)
        · go_simp
          refine ⟨trivial, ?_⟩
          refine (CallsIn.inRound l (callsIn_wide.2 C26.out)).mono ?_
          rintro e w5 ⟨rfl, b5⟩
          refine hK _ _ ?_
          clear hK K
          try simp only [Act.put, List.setIfInBounds_toArray, List.set_cons_zero, List.set_cons_succ]
          refine wpAnyIn_ready (rs := [3]) (by kernel_rfl) (by simp) ?_
          refine (AllReadyIn.cons (o := { dst := some 14, op := Go.Op.buildSlice 44 1 #[(0, Go.Operand.tmp 13)], type := 44, pos := "merkle.go:135", after := #[{ on := 2, ground := Go.Ground.data }], guard := none }) rfl (fun K hK => ?_) AllReadyIn.nil)
          · refine step_build_in rfl _ rfl H hHl (by rfl) ?_
            refine hK _ _ ?_
            clear hK K
            try simp only [Act.put, List.setIfInBounds_toArray, List.set_cons_zero, List.set_cons_succ]
            refine wpAnyIn_ready (rs := [4]) (by kernel_rfl) (by simp) ?_
            refine (AllReadyIn.cons (o := { dst := some 15, op := Go.Op.call { callee := Go.Callee.builtin Go.Builtin.append, args := #[Go.Operand.tmp 11, Go.Operand.tmp 14], argTypes := #[44, 44] }, type := 44, pos := "merkle.go:135", after := #[{ on := 0, ground := Go.Ground.data }, { on := 3, ground := Go.Ground.data }, { on := 2, ground := Go.Ground.chain }], guard := none }) rfl (fun K hK => ?_) AllReadyIn.nil)
            · refine step_append_in rfl _ _ rfl w.heap.size v ls (by rfl) (HRW.out _ b5) H hHl (by rfl) hkk (by have := b5.size; omega) ?_
              intro v' w6 o6 g6 d6
              obtain ⟨r1, r2, r3, r4, r5, r6⟩ := HST.out w5 w6 v' b5 o6 g6 d6
              obtain ⟨g', cap', hv'⟩ := ownsRow_succ (show w6.ownsRow w.heap.size 24 32 v' (ls.length + 1) _ by have := o6; unfold HashRow at this; rw [List.length_append] at this; exact this)
              subst hv'
              refine hK _ _ ?_
              clear hK K o6 g6 d6
              try simp only [Act.put, List.setIfInBounds_toArray, List.set_cons_zero, List.set_cons_succ]
              refine wpAnyIn_ready (rs := [5]) (by kernel_rfl) (by simp) ?_
              refine (AllReadyIn.cons (o := { dst := none, op := Go.Op.store 44 (Go.Operand.tmp 3) (Go.Operand.tmp 15), type := 0, pos := "merkle.go:135", after := #[{ on := 4, ground := Go.Ground.data }, { on := 4, ground := Go.Ground.chain }, { on := 0, ground := Go.Ground.phase }, { on := 1, ground := Go.Ground.phase }, { on := 2, ground := Go.Ground.phase }, { on := 3, ground := Go.Ground.phase }, { on := 4, ground := Go.Ground.phase }], guard := none }) rfl (fun K hK => ?_) AllReadyIn.nil)
              · go_simp
                refine hK _ _ ?_
                clear hK K
                try simp only [Act.put, List.setIfInBounds_toArray, List.set_cons_zero, List.set_cons_succ]
                refine wpAnyIn_done (by kernel_rfl) ?_ _
                exact HF.out w6 _ ⟨r1, r2, r3, r4⟩
    · go_simp
      refine hK _ _ ?_
      clear hK K
      try simp only [Act.put, List.setIfInBounds_toArray, List.set_cons_zero, List.set_cons_succ]
      refine wpAnyIn_ready (rs := [0, 2]) (by kernel_rfl) (by simp) ?_
      refine (AllReadyIn.cons (o := { dst := some 11, op := Go.Op.load 44 (Go.Operand.tmp 3), type := 44, pos := "merkle.go:135", after := #[], guard := none }) rfl (fun K hK => ?_) (AllReadyIn.cons (o := { dst := some 13, op := Go.Op.call { callee := Go.Callee.value (Go.Operand.func 30), args := #[Go.Operand.tmp 12], argTypes := #[22] }, type := 24, pos := "merkle.go:135", after := #[{ on := 1, ground := Go.Ground.data }], guard := none }) rfl (fun K hK => ?_) AllReadyIn.nil))
      · go_simp
        refine hK _ _ ?_
        clear hK K
        try simp only [Act.put, List.setIfInBounds_toArray, List.set_cons_zero, List.set_cons_succ]
        refine wpAnyIn_ready (rs := [2]) (by kernel_rfl) (by simp) ?_
        refine (AllReadyIn.cons (o := { dst := some 13, op := Go.Op.call { callee := Go.Callee.value (Go.Operand.func 30), args := #[Go.Operand.tmp 12], argTypes := #[22] }, type := 24, pos := "merkle.go:135", after := #[{ on := 1, ground := Go.Ground.data }], guard := none }) rfl (fun K hK => ?_) AllReadyIn.nil)
        · go_simp
          refine ⟨trivial, ?_⟩
          refine (CallsIn.inRound l (callsIn_wide.2 C26.out)).mono ?_
          rintro e w5 ⟨rfl, b5⟩
          refine hK _ _ ?_
          clear hK K
          try simp only [Act.put, List.setIfInBounds_toArray, List.set_cons_zero, List.set_cons_succ]
          refine wpAnyIn_ready (rs := [3]) (by kernel_rfl) (by simp) ?_
          refine (AllReadyIn.cons (o := { dst := some 14, op := Go.Op.buildSlice 44 1 #[(0, Go.Operand.tmp 13)], type := 44, pos := "merkle.go:135", after := #[{ on := 2, ground := Go.Ground.data }], guard := none }) rfl (fun K hK => ?_) AllReadyIn.nil)
          · refine step_build_in rfl _ rfl H hHl (by rfl) ?_
            refine hK _ _ ?_
            clear hK K
            try simp only [Act.put, List.setIfInBounds_toArray, List.set_cons_zero, List.set_cons_succ]
            refine wpAnyIn_ready (rs := [4]) (by kernel_rfl) (by simp) ?_
            refine (AllReadyIn.cons (o := { dst := some 15, op := Go.Op.call { callee := Go.Callee.builtin Go.Builtin.append, args := #[Go.Operand.tmp 11, Go.Operand.tmp 14], argTypes := #[44, 44] }, type := 44, pos := "merkle.go:135", after := #[{ on := 0, ground := Go.Ground.data }, { on := 3, ground := Go.Ground.data }, { on := 2, ground := Go.Ground.chain }], guard := none }) rfl (fun K hK => ?_) AllReadyIn.nil)
            · refine step_append_in rfl _ _ rfl w.heap.size v ls (by rfl) (HRW.out _ b5) H hHl (by rfl) hkk (by have := b5.size; omega) ?_
              intro v' w6 o6 g6 d6
              obtain ⟨r1, r2, r3, r4, r5, r6⟩ := HST.out w5 w6 v' b5 o6 g6 d6
              obtain ⟨g', cap', hv'⟩ := ownsRow_succ (show w6.ownsRow w.heap.size 24 32 v' (ls.length + 1) _ by have := o6; unfold HashRow at this; rw [List.length_append] at this; exact this)
              subst hv'
              refine hK _ _ ?_
              clear hK K o6 g6 d6
              try simp only [Act.put, List.setIfInBounds_toArray, List.set_cons_zero, List.set_cons_succ]
              refine wpAnyIn_ready (rs := [5]) (by kernel_rfl) (by simp) ?_
              refine (AllReadyIn.cons (o := { dst := none, op := Go.Op.store 44 (Go.Operand.tmp 3) (Go.Operand.tmp 15), type := 0, pos := "merkle.go:135", after := #[{ on := 4, ground := Go.Ground.data }, { on := 4, ground := Go.Ground.chain }, { on := 0, ground := Go.Ground.phase }, { on := 1, ground := Go.Ground.phase }, { on := 2, ground := Go.Ground.phase }, { on := 3, ground := Go.Ground.phase }, { on := 4, ground := Go.Ground.phase }], guard := none }) rfl (fun K hK => ?_) AllReadyIn.nil)
              · go_simp
                refine hK _ _ ?_
                clear hK K
                try simp only [Act.put, List.setIfInBounds_toArray, List.set_cons_zero, List.set_cons_succ]
                refine wpAnyIn_done (by kernel_rfl) ?_ _
                exact HF.out w6 _ ⟨r1, r2, r3, r4⟩
      · go_simp
        refine ⟨trivial, ?_⟩
        refine (CallsIn.inRound l (callsIn_wide.2 C26.out)).mono ?_
        rintro e w5 ⟨rfl, b5⟩
        refine hK _ _ ?_
        clear hK K
        try simp only [Act.put, List.setIfInBounds_toArray, List.set_cons_zero, List.set_cons_succ]
        refine wpAnyIn_ready (rs := [0, 3]) (by kernel_rfl) (by simp) ?_
        refine (AllReadyIn.cons (o := { dst := some 11, op := Go.Op.load 44 (Go.Operand.tmp 3), type := 44, pos := "merkle.go:135", after := #[], guard := none }) rfl (fun K hK => ?_) (AllReadyIn.cons (o := { dst := some 14, op := Go.Op.buildSlice 44 1 #[(0, Go.Operand.tmp 13)], type := 44, pos := "merkle.go:135", after := #[{ on := 2, ground := Go.Ground.data }], guard := none }) rfl (fun K hK => ?_) AllReadyIn.nil))
        · have hcl := HV.out _ b5
          go_simp
          refine hK _ _ ?_
          clear hK K
          try simp only [Act.put, List.setIfInBounds_toArray, List.set_cons_zero, List.set_cons_succ]
          refine wpAnyIn_ready (rs := [3]) (by kernel_rfl) (by simp) ?_
          refine (AllReadyIn.cons (o := { dst := some 14, op := Go.Op.buildSlice 44 1 #[(0, Go.Operand.tmp 13)], type := 44, pos := "merkle.go:135", after := #[{ on := 2, ground := Go.Ground.data }], guard := none }) rfl (fun K hK => ?_) AllReadyIn.nil)
          · refine step_build_in rfl _ rfl H hHl (by rfl) ?_
            refine hK _ _ ?_
            clear hK K
            try simp only [Act.put, List.setIfInBounds_toArray, List.set_cons_zero, List.set_cons_succ]
            refine wpAnyIn_ready (rs := [4]) (by kernel_rfl) (by simp) ?_
            refine (AllReadyIn.cons (o := { dst := some 15, op := Go.Op.call { callee := Go.Callee.builtin Go.Builtin.append, args := #[Go.Operand.tmp 11, Go.Operand.tmp 14], argTypes := #[44, 44] }, type := 44, pos := "merkle.go:135", after := #[{ on := 0, ground := Go.Ground.data }, { on := 3, ground := Go.Ground.data }, { on := 2, ground := Go.Ground.chain }], guard := none }) rfl (fun K hK => ?_) AllReadyIn.nil)
            · refine step_append_in rfl _ _ rfl w.heap.size v ls (by rfl) (HRW.out _ b5) H hHl (by rfl) hkk (by have := b5.size; omega) ?_
              intro v' w6 o6 g6 d6
              obtain ⟨r1, r2, r3, r4, r5, r6⟩ := HST.out w5 w6 v' b5 o6 g6 d6
              obtain ⟨g', cap', hv'⟩ := ownsRow_succ (show w6.ownsRow w.heap.size 24 32 v' (ls.length + 1) _ by have := o6; unfold HashRow at this; rw [List.length_append] at this; exact this)
              subst hv'
              refine hK _ _ ?_
              clear hK K o6 g6 d6
              try simp only [Act.put, List.setIfInBounds_toArray, List.set_cons_zero, List.set_cons_succ]
              refine wpAnyIn_ready (rs := [5]) (by kernel_rfl) (by simp) ?_
              refine (AllReadyIn.cons (o := { dst := none, op := Go.Op.store 44 (Go.Operand.tmp 3) (Go.Operand.tmp 15), type := 0, pos := "merkle.go:135", after := #[{ on := 4, ground := Go.Ground.data }, { on := 4, ground := Go.Ground.chain }, { on := 0, ground := Go.Ground.phase }, { on := 1, ground := Go.Ground.phase }, { on := 2, ground := Go.Ground.phase }, { on := 3, ground := Go.Ground.phase }, { on := 4, ground := Go.Ground.phase }], guard := none }) rfl (fun K hK => ?_) AllReadyIn.nil)
              · go_simp
                refine hK _ _ ?_
                clear hK K
                try simp only [Act.put, List.setIfInBounds_toArray, List.set_cons_zero, List.set_cons_succ]
                refine wpAnyIn_done (by kernel_rfl) ?_ _
                exact HF.out w6 _ ⟨r1, r2, r3, r4⟩
        · refine step_build_in rfl _ rfl H hHl (by rfl) ?_
          refine hK _ _ ?_
          clear hK K
          try simp only [Act.put, List.setIfInBounds_toArray, List.set_cons_zero, List.set_cons_succ]
          refine wpAnyIn_ready (rs := [0]) (by kernel_rfl) (by simp) ?_
          refine (AllReadyIn.cons (o := { dst := some 11, op := Go.Op.load 44 (Go.Operand.tmp 3), type := 44, pos := "merkle.go:135", after := #[], guard := none }) rfl (fun K hK => ?_) AllReadyIn.nil)
          · have hcl : (w5.alloc (Obj.cells (vB H) 24)).cell? ⟨w.heap.size + 1, 0, none⟩ = some v := HV.out _ (b5.alloc b5.size _)
            go_simp
            refine hK _ _ ?_
            clear hK K
            try simp only [Act.put, List.setIfInBounds_toArray, List.set_cons_zero, List.set_cons_succ]
            refine wpAnyIn_ready (rs := [4]) (by kernel_rfl) (by simp) ?_
            refine (AllReadyIn.cons (o := { dst := some 15, op := Go.Op.call { callee := Go.Callee.builtin Go.Builtin.append, args := #[Go.Operand.tmp 11, Go.Operand.tmp 14], argTypes := #[44, 44] }, type := 44, pos := "merkle.go:135", after := #[{ on := 0, ground := Go.Ground.data }, { on := 3, ground := Go.Ground.data }, { on := 2, ground := Go.Ground.chain }], guard := none }) rfl (fun K hK => ?_) AllReadyIn.nil)
            · refine step_append_in rfl _ _ rfl w.heap.size v ls (by rfl) (HRW.out _ b5) H hHl (by rfl) hkk (by have := b5.size; omega) ?_
              intro v' w6 o6 g6 d6
              obtain ⟨r1, r2, r3, r4, r5, r6⟩ := HST.out w5 w6 v' b5 o6 g6 d6
              obtain ⟨g', cap', hv'⟩ := ownsRow_succ (show w6.ownsRow w.heap.size 24 32 v' (ls.length + 1) _ by have := o6; unfold HashRow at this; rw [List.length_append] at this; exact this)
              subst hv'
              refine hK _ _ ?_
              clear hK K o6 g6 d6
              try simp only [Act.put, List.setIfInBounds_toArray, List.set_cons_zero, List.set_cons_succ]
              refine wpAnyIn_ready (rs := [5]) (by kernel_rfl) (by simp) ?_
              refine (AllReadyIn.cons (o := { dst := none, op := Go.Op.store 44 (Go.Operand.tmp 3) (Go.Operand.tmp 15), type := 0, pos := "merkle.go:135", after := #[{ on := 4, ground := Go.Ground.data }, { on := 4, ground := Go.Ground.chain }, { on := 0, ground := Go.Ground.phase }, { on := 1, ground := Go.Ground.phase }, { on := 2, ground := Go.Ground.phase }, { on := 3, ground := Go.Ground.phase }, { on := 4, ground := Go.Ground.phase }], guard := none }) rfl (fun K hK => ?_) AllReadyIn.nil)
              · go_simp
                refine hK _ _ ?_
                clear hK K
                try simp only [Act.put, List.setIfInBounds_toArray, List.set_cons_zero, List.set_cons_succ]
                refine wpAnyIn_done (by kernel_rfl) ?_ _
                exact HF.out w6 _ ⟨r1, r2, r3, r4⟩
  case done =>
    rintro D ys W hD rfl ⟨⟨v, hv, hrow, hbk⟩, hB, hs4⟩ hK
    have hc := hv.cell
    gi_wp2
    refine ⟨by simp, .inl ⟨_, _, rfl, run_takeDeferred hK, ?_⟩⟩
    have hB' : Below w.heap.size w (W.putObj D (.deferred none)) := hB.trans (belowK_b (w := w) (Nat.le_refl _) W D _ _ (by omega) hK rfl rfl)
    have hrow' : HashRow w.heap.size _ v (W.putObj D (.deferred none)) := ownsRow_putObj hrow (.deferred none) hK rfl
    rw [leaves_map bs] at hrow'
    exact ⟨_, results_tmp rfl _ _ _, v, rfl, hrow'.list (by have := hB'.size; omega), hB'⟩
  case stop =>
    rintro D c pre W _ _ h _
    exact h.elim
end Go.Proofs.YtffhjjgkoapioaaDoor
