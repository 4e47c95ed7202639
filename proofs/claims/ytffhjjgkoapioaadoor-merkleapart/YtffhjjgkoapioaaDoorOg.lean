import Derived.Test.YtffhjjgkoapioaaDoorOf
namespace Go.Proofs.YtffhjjgkoapioaaDoor
set_option linter.unusedSimpArgs false
set_option linter.unusedVariables false
open Go.RowKit
attribute [local go_sem ↓] Go.wp_at_zero Go.wp_at_succ
set_option maxRecDepth 100000 in
theorem textN_front (bl xs : List Bool) (c : List Int) (pr : List (List Int)) (j : Nat) (hj : j ≤ bl.length) : textN (bl ++ xs) c pr j = textN bl c pr j := by
  induction j with
  | zero => rfl
  | succ j ih =>
    have e : (bl ++ xs)[j]? = bl[j]? := List.getElem?_append_left (by omega)
    simp only [textN]
    rw [e, ih (by omega)]
set_option maxRecDepth 100000 in
theorem textN_lead (d : Nat) : ∀ (n i : Nat) (c : List Int) (pr : List (List Int)), hashOf (textN (turnsD d n i) c pr d) = leadD d (leafH c) n i pr := by
  induction d with
  | zero => intro n i c pr; rfl
  | succ d ih =>
    intro n i c pr
    have l1 := turnsD_length d (halfN n) i
    have l2 := turnsD_length d (n - halfN n) (i - halfN n)
    unfold turnsD leadD
    by_cases hik : i < halfN n
    · rw [if_pos hik, if_pos hik, ← ih]
      simp only [textN]
      rw [textN_front _ _ _ _ _ (by omega), List.getElem?_append_right (by omega), l1, Nat.sub_self]
      rfl
    · rw [if_neg hik, if_neg hik, ← ih]
      simp only [textN]
      rw [textN_front _ _ _ _ _ (by omega), List.getElem?_append_right (by omega), l2, Nat.sub_self]
      rfl
set_option maxRecDepth 100000 in
set_option maxHeartbeats 1000000 in
theorem rcheck_no (R : List Int) (n i : Int) (v : Value) (av : Option Addr) (m cp : Nat) (w : World) (hd : depthI n i ≠ m) (hm : m ≤ 4611686018427387904) :
    Calls Tryd.prog 42 #[.agg (vB R), .int .i64 n, .int .i64 i, v, .slice av m cp] w fun e w' => e = .returned (.bool false) ∧ Below w.heap.size w w' := by
  have C : Hid (∀ w' : World, Calls Tryd.prog 43 #[.int .i64 n, .int .i64 i] w' fun e w'' => e = .returned (.int .i64 (depthI n i)) ∧ w'' = w') := fun w' => rdepth_any n i w'
  generalize depthI n i = D at *
  have hd' : ¬ (m : Int) = D := fun h => hd h.symm
  have hne : ((m : Int) != D) = true := by simp [hd']
  clear hd hd'
  by_cases hD : D < 0
  all_goals go_enter Tryd.func42, Tryd.ntmps42
  all_goals go_wp2_with (first | (go_at_call 43; refine (C.out _).mono ?_; rintro e w' ⟨rfl, hw'⟩; have hw'' := hw'.symm; clear hw'; subst hw''))
  all_goals go_ret
  all_goals exact ⟨rfl, (Below.refl _ _).alloc (Nat.le_refl _) _⟩
set_option maxRecDepth 100000 in
set_option maxHeartbeats 600000 in
theorem rcheck_yes (R L tx : List Int) (n i : Int) (v : Value) (av : Option Addr) (m cp : Nat) (ls : List (List Int)) (w : World) (hR : R.length = 32) (hLl : L.length = 32) (hm : m ≤ 1000) (hls : ls.length = m + 1) (htx : ls[m]? = some tx)
    (C0 : ∀ w' : World, Calls Tryd.prog 43 #[.int .i64 n, .int .i64 i] w' fun e w'' => e = .returned (.int .i64 m) ∧ w'' = w')
    (C1 : ∀ w', Below w.heap.size w w' → Calls Tryd.prog 44 #[.int .i64 n, .int .i64 i, v, .slice av m cp] w' fun e w'' => ∃ u, e = .returned u ∧ PartsAt w'' u ls ∧ Below w'.heap.size w' w'')
    (C2 : ∀ w' x, PartAt w' x tx → Calls Tryd.prog 18 #[x] w' fun e w'' => e = .returned (.agg (vB L)) ∧ Below w'.heap.size w' w'') :
    Calls Tryd.prog 42 #[.agg (vB R), .int .i64 n, .int .i64 i, v, .slice av m cp] w fun e w' => e = .returned (.bool (decide (L = R))) ∧ Below w.heap.size w w' := by
  have D0 : Hid (∀ w' : World, Calls Tryd.prog 43 #[.int .i64 n, .int .i64 i] w' fun e w'' => e = .returned (.int .i64 m) ∧ w'' = w') := C0
  have D1 : Hid (∀ w', Below w.heap.size w w' → Calls Tryd.prog 44 #[.int .i64 n, .int .i64 i, v, .slice av m cp] w' fun e w'' => ∃ u, e = .returned u ∧ PartsAt w'' u ls ∧ Below w'.heap.size w' w'') := C1
  have D2 : Hid (∀ w' x, PartAt w' x tx → Calls Tryd.prog 18 #[x] w' fun e w'' => e = .returned (.agg (vB L)) ∧ Below w'.heap.size w' w'') := C2
  have e24 := eq24_dec L R hLl hR
  obtain ⟨B, hB⟩ : ∃ B : Bool, B = decide (L = R) := ⟨_, rfl⟩
  rw [← hB]
  rw [← hB] at e24
  have hcl : (List.map (Value.int .u8) R).length = 32 := by simpa using hR
  have hi : (Tryd.prog.info? 24).map (·.size) = some (List.map (Value.int .u8) R).length := by rw [hcl]; kernel_rfl
  have j0 : ¬ (m : Int) < 0 := by omega
  clear C0 C1 C2 hB
  go_enter Tryd.func42, Tryd.ntmps42
  go_wp2_with (first | (go_at_call 43; refine (D0.out _).mono ?_; rintro e w' ⟨rfl, hw'⟩; have hw'' := hw'.symm; clear hw'; subst hw'') | (go_at_call 44; refine (D1.out _ ((Below.refl _ _).alloc (Nat.le_refl _) _)).mono ?_; rintro e W ⟨u, rfl, pu, bW⟩; obtain ⟨avu, bu, ou, cpu, vs, rfl, a1, a2, a3, a4, a5, a6, a7⟩ := pu))
  have bA : Below w.heap.size w (w.alloc (Obj.cells (vB R) 24)) := (Below.refl _ _).alloc (Nat.le_refl _) _
  have f1 : W.heap[w.heap.size]? = some (.cells (vB R) 24) := by rw [bW.block _ (by simp)]; exact heap_alloc_new _ _
  have bw : Below w.heap.size w W := bA.trans (bW.mono bA.size)
  obtain rfl := a3 (by omega)
  obtain ⟨x, hx⟩ : ∃ x, vs[m]? = some x := ⟨vs[m], List.getElem?_eq_getElem (by omega)⟩
  have px := a7 m x tx hx htx
  have C14 : Hid (∀ w', Below W.heap.size W w' → Calls Tryd.prog 18 #[x] w' fun e w'' => e = .returned (.agg (vB L)) ∧ Below W.heap.size W w'') := fun w' q => (D2.out w' x (px.below q)).mono (fun e w5 h => ⟨h.1, q.trans (h.2.mono q.size)⟩)
  have HR : Hid (W.rangeAt w.heap.size 0 (List.map (Value.int .u8) R)) := range_of_block f1
  have hbl : w.heap.size < W.heap.size := (Array.getElem?_eq_some_iff.1 f1).1
  have qx : Hid (W.cell? ⟨bu, ou + m, none⟩ = some x) := a5 m x hx
  have ST : Hid (∀ w', Below W.heap.size W w' → (Below W.heap.size W w' ∧ w'.rangeAt w.heap.size 0 (List.map (Value.int .u8) R)) ∧ w'.cell? ⟨bu, ou + m, none⟩ = some x) := fun w' q => ⟨Held.of HR.out hbl q, by rw [q.cell (show bu < W.heap.size from a6)]; exact qx.out⟩
  obtain ⟨avx, _, _, cpx, hxv, _⟩ := px
  subst hxv
  try rw [hls]
  have jw : IntKind.i64.wrap ((m : Int) + 1 - 1) = (m : Int) := by rw [IntKind.wrap_i64]; omega
  have jw2 : IntKind.i64.wrap (m : Int) = (m : Int) := by rw [IntKind.wrap_i64]; omega
  have j1 : (0 : Int) ≤ (m : Int) := by omega
  have j2 : (m : Int) < (m : Int) + 1 := by omega
  clear a3 a5 a7 D0 D1 D2 f1 hx HR qx
  try go_wp2_with fail
  have hS := ST.out _ (below_drew (Below.refl W.heap.size W))
  refine wp_region_noPanic ?_
  refine wp_region_held_drew (S := fun w' => (Below W.heap.size W w' ∧ w'.rangeAt w.heap.size 0 (List.map (Value.int .u8) R)) ∧ w'.cell? ⟨bu, ou + m, none⟩ = some (Value.slice avx tx.length cpx)) (by kernel_rfl) (hS) (fun hHeld => ?_)
  try simp only [Act.put, List.setIfInBounds_toArray, List.set_cons_zero, List.set_cons_succ]
  refine wpAnyH_take (i := 0) (oi := { dst := some 29, op := Go.Op.move (Go.Operand.tmp 12), type := 29, pos := "ref.go:189", after := #[], guard := none }) (v := ?_) rfl (by kernel_rfl) (by kernel_rfl) (by kernel_rfl) (fun _ _ _ h => h) (Or.inl ⟨by rfl, ?_⟩) hHeld ?_
  rotate_left 1
  · (intro wq hSq; (try dsimp only at hSq); go_simp; first | done | with_reducible rfl)
  try simp only [Act.put, List.setIfInBounds_toArray, List.set_cons_zero, List.set_cons_succ]
  refine wpAnyH_take (i := 1) (oi := { dst := some 30, op := Go.Op.move (Go.Operand.tmp 12), type := 29, pos := "ref.go:189", after := #[], guard := none }) (v := ?_) rfl (by kernel_rfl) (by kernel_rfl) (by kernel_rfl) (fun _ _ _ h => h) (Or.inl ⟨by rfl, ?_⟩) hHeld ?_
  rotate_left 1
  · (intro wq hSq; (try dsimp only at hSq); go_simp; first | done | with_reducible rfl)
  try simp only [Act.put, List.setIfInBounds_toArray, List.set_cons_zero, List.set_cons_succ]
  refine wpAnyH_take (i := 2) (oi := { dst := some 31, op := Go.Op.call { callee := Go.Callee.builtin Go.Builtin.len, args := #[Go.Operand.tmp 30], argTypes := #[29] }, type := 3, pos := "ref.go:189", after := #[{ on := 1, ground := Go.Ground.data }], guard := none }) (v := ?_) rfl (by kernel_rfl) (by kernel_rfl) (by kernel_rfl) (fun _ _ _ h => h) (Or.inl ⟨by rfl, ?_⟩) hHeld ?_
  rotate_left 1
  · (intro wq hSq; (try dsimp only at hSq); go_simp; first | done | with_reducible rfl)
  try simp only [Act.put, List.setIfInBounds_toArray, List.set_cons_zero, List.set_cons_succ]
  refine wpAnyH_take (i := 3) (oi := { dst := some 32, op := Go.Op.binOp Go.BinOp.sub 3 (Go.Operand.tmp 31) (Go.Operand.const (Go.Value.int Go.IntKind.i64 1)) 3, type := 3, pos := "ref.go:189", after := #[{ on := 2, ground := Go.Ground.data }], guard := none }) (v := ?_) rfl (by kernel_rfl) (by kernel_rfl) (by kernel_rfl) (fun _ _ _ h => h) (Or.inl ⟨by rfl, ?_⟩) hHeld ?_
  rotate_left 1
  · (intro wq hSq; (try dsimp only at hSq); go_simp; first | done | with_reducible rfl)
  try simp only [Act.put, List.setIfInBounds_toArray, List.set_cons_zero, List.set_cons_succ]
  refine wpAnyH_take (i := 4) (oi := { dst := some 33, op := Go.Op.indexAddr 29 (Go.Operand.tmp 29) (Go.Operand.tmp 32), type := 0, pos := "ref.go:189", after := #[{ on := 0, ground := Go.Ground.data }, { on := 3, ground := Go.Ground.data }], guard := none }) (v := ?_) rfl (by kernel_rfl) (by kernel_rfl) (by kernel_rfl) (fun _ _ _ h => h) (Or.inl ⟨by rfl, ?_⟩) hHeld ?_
  rotate_left 1
  · (intro wq hSq; (try dsimp only at hSq); go_simp; first | done | with_reducible rfl)
  try simp only [Act.put, List.setIfInBounds_toArray, List.set_cons_zero, List.set_cons_succ]
  refine wpAnyH_take (i := 5) (oi := { dst := some 34, op := Go.Op.load 22 (Go.Operand.tmp 33), type := 22, pos := "ref.go:189", after := #[{ on := 4, ground := Go.Ground.data }], guard := none }) (v := ?_) rfl (by kernel_rfl) (by kernel_rfl) (by kernel_rfl) (fun _ _ _ h => h) (Or.inl ⟨by rfl, ?_⟩) hHeld ?_
  rotate_left 1
  · (intro wq hSq; (try dsimp only at hSq); go_simp; first | done | with_reducible rfl)
  try simp only [Act.put, List.setIfInBounds_toArray, List.set_cons_zero, List.set_cons_succ]
  refine wpAnyH_take (i := 7) (oi := { dst := some 36, op := Go.Op.load 24 (Go.Operand.tmp 5), type := 24, pos := "ref.go:189", after := #[], guard := none }) (v := .agg (List.toArray (List.map (Value.int .u8) R))) rfl (by kernel_rfl) (by kernel_rfl) (by kernel_rfl) (fun _ _ _ h => h) (yieldsIf_load_mid (by rfl) _ _ rfl (w.heap.size) (0) rfl (List.map (Value.int .u8) R) _ (fun _ h => h.1.2) Tryd.underlying24 rfl (hi)) hHeld ?_
  try simp only [Act.put, List.setIfInBounds_toArray, List.set_cons_zero, List.set_cons_succ]
  refine wpAnyH_ready (rs := [6]) (by kernel_rfl) (by simp) ?_
  refine AllReadyH.cons (o := { dst := some 35, op := Go.Op.call { callee := Go.Callee.value (Go.Operand.func 18), args := #[Go.Operand.tmp 34], argTypes := #[22] }, type := 24, pos := "ref.go:189", after := #[{ on := 5, ground := Go.Ground.data }], guard := none }) rfl (fun K hK => ?_) AllReadyH.nil
  go_simp
  refine (C14.out _ (below_drew (Below.refl W.heap.size W))).mono ?_
  rintro e w5 ⟨rfl, b5⟩
  refine hK.out _ _ (ST.out _ b5) (fun hHeld1 => ?_)
  clear hK K hHeld
  try simp only [Act.put, List.setIfInBounds_toArray, List.set_cons_zero, List.set_cons_succ]
  refine wpAnyH_take (i := 8) (oi := { dst := some 37, op := Go.Op.binOp Go.BinOp.eql 24 (Go.Operand.tmp 35) (Go.Operand.tmp 36) 24, type := 4, pos := "ref.go:189", after := #[{ on := 6, ground := Go.Ground.data }, { on := 7, ground := Go.Ground.data }], guard := none }) (v := ?_) rfl (by kernel_rfl) (by kernel_rfl) (by kernel_rfl) (fun _ _ _ h => h) (Or.inl ⟨by rfl, ?_⟩) hHeld1 ?_
  rotate_left 1
  · (intro wq hSq; (try dsimp only at hSq); go_simp; first | done | with_reducible rfl)
  try simp only [Act.put, List.setIfInBounds_toArray, List.set_cons_zero, List.set_cons_succ]
  refine wpAnyH_take (i := 9) (oi := { dst := some 10, op := Go.Op.assign (Go.Operand.tmp 37), type := 4, pos := "ref.go:189", after := #[{ on := 8, ground := Go.Ground.data }, { on := 6, ground := Go.Ground.chain }, { on := 0, ground := Go.Ground.phase }, { on := 1, ground := Go.Ground.phase }, { on := 2, ground := Go.Ground.phase }, { on := 3, ground := Go.Ground.phase }, { on := 4, ground := Go.Ground.phase }, { on := 5, ground := Go.Ground.phase }, { on := 6, ground := Go.Ground.phase }, { on := 7, ground := Go.Ground.phase }, { on := 8, ground := Go.Ground.phase }], guard := none }) (v := ?_) rfl (by kernel_rfl) (by kernel_rfl) (by kernel_rfl) (fun _ _ _ h => h) (Or.inl ⟨by rfl, ?_⟩) hHeld1 ?_
  rotate_left 1
  · (intro wq hSq; (try dsimp only at hSq); go_simp; first | done | with_reducible rfl)
  try simp only [Act.put, List.setIfInBounds_toArray, List.set_cons_zero, List.set_cons_succ]
  refine wpAnyH_done (by kernel_rfl) ?_ _
  refine NoPanic.normal ?_
  go_wp2
  go_ret
  exact ⟨rfl, bw.trans (b5.mono bw.size)⟩
set_option maxRecDepth 100000 in
theorem rcheck_any (R : List Int) (n i : Int) (v pv : Value) (bs : List Int) (pr : List (List Int)) (w : World) (hR : R.length = 32) (h0 : 0 < w.heap.size) (hv : PartAt w v bs) (hbs : bs.length ≤ 140737488351232) (hby : Bytes bs) (hp : ListAt w pv pr) (hH : Hashes pr) (hm : pr.length ≤ 1000) :
    Calls Tryd.prog 42 #[.agg (vB R), .int .i64 n, .int .i64 i, v, pv] w fun e w' => e = .returned (.bool (chkB R n i bs pr)) ∧ Below w.heap.size w w' := by
  have hp0 := hp
  obtain ⟨av, b, o, cp, rfl, _⟩ := hp
  unfold chkB
  by_cases hd : depthI n i = pr.length
  · rw [decide_eq_true hd, Bool.true_and]
    obtain ⟨N, I, rfl, rfl, h1, h3, h4⟩ := depthI_of hd
    have hx : textN (turnsD pr.length N I) bs pr pr.length = textN (turnsD pr.length N I) bs pr pr.length := rfl
    refine rcheck_yes R _ (textN (turnsD pr.length N I) bs pr pr.length) N I v av pr.length cp (textsTo (turnsD pr.length N I) bs pr pr.length) w hR (leadD_hash _ _ _ _ _ ⟨leafH_length bs, hashOf_bytes _⟩).1 hm (textsTo_length _ _ _ _) (textsTo_at _ _ _ _ _ (Nat.le_refl _)) (fun w' => by have := rdepth_any N I w'; rw [hd] at this; exact this) (fun w' q => ?_) (fun w' x px => ?_)
    · exact texts_any N I pr.length bs pr v _ w' h4 h1 h3 hm rfl (by have := q.size; omega) (hv.below q) hbs hby (hp0.below q) hH
    · have := rsum_big x _ w' px (by have := textN_len (turnsD pr.length N I) bs pr hH pr.length (Nat.le_refl _) hbs; omega) (textN_bytes (turnsD pr.length N I) bs pr hH pr.length (Nat.le_refl _) hby)
      rw [textN_lead] at this
      simpa using this
  · rw [decide_eq_false hd, Bool.false_and]
    exact rcheck_no R n i v av pr.length cp w hd (by omega)
end Go.Proofs.YtffhjjgkoapioaaDoor
