import Derived.Test.YtnfhogkjbkhmhaaQa
namespace Go.Proofs.Ytnfhogkjbkhmhaa
set_option linter.unusedSimpArgs false
set_option linter.unusedVariables false
open Go.RowKit
theorem itC_all (x : It) : (itC x).all (·.oneCell') = true := by
  have : (itC x) = (itC x).toList.toArray := by simp
  rw [this]
  apply all_oneCell_toArray; intro v hv
  simp [itC, vB] at hv
  rcases hv with rfl | rfl | rfl | rfl | rfl | ⟨y, _, rfl⟩ <;> rfl
theorem zero34 (W : World) : (zeroValue 34).run Try.prog W = .ok (.agg (itC it0)) W := by kernel_rfl
theorem it0_size : (itC it0).size = 37 := by simp [itC, it0, vB_size, zs]
section
variable {ops : Array Oper} {rest : List Oper} {o : Oper} {a : Act} {w : World} {Q : Exit → Act → World → Prop}
theorem load34m (hgd : o.guard = none) (x : Operand) (ho : o.op = .load 34 x) (g off : Nat) (hx : a.eval x = .pointer (some ⟨g, off, none⟩)) (it : It) (hok : it.Ok) (hg : w.rangeAt g off (itC it).toList)
    (h : wpList Try.prog ops Q rest (a.put o.dst (.agg (itC it))) w) : wpList Try.prog ops Q (o :: rest) a w :=
  wpList_load_mid hgd 34 x ho g off hx (itC it).toList _ hg Try.underlying34 rfl (by rw [Array.length_toList, itC_size it hok]; kernel_rfl) (by simpa using h)
theorem store34n {w0 : World} (hgd : o.guard = none) (x y : Operand) (ho : o.op = .store 34 x y) (it : It) (hok : it.Ok) (hx : a.eval x = .pointer (some ⟨w0.heap.size, 0, none⟩)) (hy : a.eval y = .agg (itC it))
    (h : wpList Try.prog ops Q rest (a.put o.dst undef) (w0.alloc (.cells (itC it) 34))) : wpList Try.prog ops Q (o :: rest) a (w0.alloc (.cells (itC it0) 34)) := by
  refine wpList_store_row hgd 34 x y ho w0.heap.size _ hx hy 34 _ (heap_alloc_new _ _) (by rw [itC_size it hok]; kernel_rfl) (by rw [itC_size it hok, it0_size]) (itC_all it) ?_
  rw [World.setRow_alloc_new]
  exact h
end
/-- Behind the first j items. -/
def PutAt (w : World) (g : Nat) (xs : List It) (j : Nat) (wr : World) : Prop := WSt wr g (allSt (xs.take j)) ∧ Below w.heap.size w wr
theorem put_step (w : World) (g : Nat) (hg : w.heap.size ≤ g) (xs : List It) (j : Nat) (x : It) (hx : xs[j]? = some x) (hok : ∀ x ∈ xs, x.Ok) (hl : xs.length ≤ 100) (wr : World) (h : PutAt w g xs j wr) :
    Calls Try.prog 10 #[.pointer (some ⟨g, 0, none⟩), .agg (itC x)] wr fun e w' => e = .returned (.tuple #[]) ∧ PutAt w g xs (j + 1) w' := by
  have hb := stLen_all _ (xs.take j) rfl (fun y hy => hok y (List.mem_of_mem_take hy))
  have hj : (xs.take j).length ≤ 100 := by simp; omega
  refine (put_h (.pointer (some ⟨g, 0, none⟩)) _ x (hok x (List.mem_of_getElem? hx)) wr (Or.inr ⟨g, rfl, h.1⟩) (by omega)).mono ?_
  rintro e w' ⟨rfl, h1, h2⟩
  refine ⟨rfl, ?_, h.2.grown h2 h.2.size (fun k hk => by injection hk with hk; subst hk; exact hg)⟩
  rcases h1 with ⟨e, _⟩ | ⟨g', e, h1⟩
  · cases e
  · injection e with e; injection e with e; injection e with e; subst e
    rw [allSt_take xs j x hx]; exact h1
theorem step_load_mid {P : Program} {ops : Array Oper} {op : Oper} {a : Act} {w : World} {K : Act → World → Prop} {Q : Exit → Act → World → Prop} {E : Prop} (hgd : op.guard = none) (ty : TypeId) (x : Operand) (ho : op.op = .load ty x)
    (b o : Nat) (hx : a.eval x = .pointer (some ⟨b, o, none⟩)) (cs : Array Value) (d : TypeDesc) (hc : w.rangeAt b o cs.toList)
    (hu : P.underlying ty = some d) (hd : d.isRow = true) (hi : (P.info? ty).map (·.size) = some cs.size)
    (h : K (a.put op.dst (.agg cs)) w) : if Region.wanted op (yielded ops a.tmps) = true then Oper.wp P op a w K Q else E := by
  have hw : Region.wanted op (yielded ops a.tmps) = true := by simp [Region.wanted, hgd]
  rw [if_pos hw]
  exact wp_load_mid ty x ho b o hx cs.toList d hc hu hd (by simpa using hi) (by simpa using h)
/-- The reader, when the first j items were read. -/
def ReadAt (w : World) (g : Nat) (xs : List It) (j : Nat) (wr : World) : Prop := RSt wr g (some (allB (xs.drop j))) ∧ Below w.heap.size w wr
/-- What a read of item j leaves, item j lying in block B. -/
def ReadBy (w : World) (g : Nat) (xs : List It) (j : Nat) (B : Nat) (x : It) (v : Value) (e : Ending) (w' : World) : Prop := e = .returned v ∧ ReadAt w g xs (j + 1) w' ∧ w'.heap[B]? = some (.cells (itC x) 34)
theorem read_by {w : World} {g : Nat} {xs : List It} {j B : Nat} {x : It} {v v' : Value} {st : Option (List Int)} {W : World} (hst : st = some (allB (xs.drop (j + 1)))) (hv : v = v') (hg : w.heap.size ≤ g) (hne : B ≠ g) (hW : ReadAt w g xs j W) (hB : W.heap[B]? = some (.cells (itC x) 34))
    {f : FuncId} {args : Array Value} (h : Calls Try.prog f args W (Rread W (.pointer (some ⟨g, 0, none⟩)) st v)) : Calls Try.prog f args W (ReadBy w g xs j B x v') := by
  refine h.mono ?_
  rintro e w' ⟨rfl, h1, h2⟩
  subst hst hv
  refine ⟨rfl, ⟨?_, hW.2.grown h2 hW.2.size (fun k hk => by injection hk with hk; subst hk; exact hg)⟩, ?_⟩
  · rcases h1 with ⟨e, _⟩ | ⟨g', e, h1⟩
    · cases e
    · injection e with e; injection e with e; injection e with e; subst e
      exact h1
  · rw [h2.block B (Array.getElem?_eq_some_iff.1 hB).1 (fun e => hne (by injection e))]; exact hB
set_option maxHeartbeats 2000000 in
set_option maxRecDepth 100000 in
theorem packBack_walk (v : Value) (xs : List It) (w : World) (h : ItemsAt w v xs) : Calls Try.prog 4 #[v] w fun e w' => e = .returned (.bool true) ∧ Below w.heap.size w w' := by
  have AW : Hid (∀ W : World, Below w.heap.size w W → Calls Try.prog 8 #[] W fun e w' => e = .returned (.bool true) ∧ Below w.heap.size w w') := fun W hW =>
    (awake_any W).mono fun e w' ⟨h1, h2⟩ => ⟨h1, hW.trans (h2.mono hW.size)⟩
  have FW : Hid (∀ W : World, Below w.heap.size w W → Calls Try.prog 9 #[v] W (FewRes xs W)) := fun W hW => few_any v xs W (h.below hW)
  obtain ⟨av, b, o, cp, rfl, h1, h2, h3, h4, h5, h6, h7⟩ := h
  have R : Hid (∀ (W : World) (j : Nat) (x : It), Below w.heap.size w W → xs[j]? = some x → W.rangeAt b (o + j * 37) (itC x).toList) := fun W j x hW hx => range_below (h4 j x hx) hW (h5 (by have := (List.getElem?_eq_some_iff.1 hx).1; omega))
  have OK : Hid (∀ x ∈ xs, x.Ok) := h6
  clear h4 h6
  go_enter Try.func4, Try.ntmps4
  go_wp2_with fail
  refine (AW.out _ (Below.refl _ _)).mono ?_
  rintro e w1 ⟨rfl, b1⟩
  go_wp2_with fail
  refine (FW.out _ b1).mono ?_
  rintro e w2 ⟨c, rfl, hc, h'⟩
  have h'' := h'.symm; clear h'; subst h''
  cases c
  · go_wp2_with fail
    refine (AW.out _ b1).mono ?_
    rintro e w3 ⟨rfl, b3⟩
    go_wp2
    go_ret
    exact ⟨rfl, b3⟩
  have hl := hc rfl
  clear hc AW FW
  go_wp2
  have B1 : Hid (Below w.heap.size w (w1.alloc (.cells #[.pointer none, .int .i64 0, .bool false] 27))) := b1.alloc b1.size _
  go_loopw [19] (fun i wr => ∃ j : Nat, j ≤ xs.length ∧ i = .int .i64 j ∧ PutAt w1 w1.heap.size xs j wr) (fun i _ => xs.length - (intOf i).toNat)
  case atStart => exact ⟨0, by omega, rfl, wst_new w1, (Below.refl _ _).alloc (Nat.le_refl _) _⟩
  case round =>
    obtain ⟨j, hj, rfl, hp⟩ := hrel
    by_cases hlt : j < xs.length
    · obtain ⟨x, hx⟩ : ∃ x, xs[j]? = some x := ⟨xs[j], List.getElem?_eq_getElem hlt⟩
      have hav := h3 (by omega)
      subst hav
      have hji : (j : Int) < (xs.length : Int) := by omega
      have hr := R.out wr j x (b1.trans (hp.2.mono b1.size)) hx
      have P : Hid (Calls Try.prog 10 #[.pointer (some ⟨w1.heap.size, 0, none⟩), .agg (itC x)] wr fun e w' => e = .returned (.tuple #[]) ∧ PutAt w1 w1.heap.size xs (j + 1) w') := put_step w1 _ (Nat.le_refl _) xs j x hx OK.out hl wr hp
      have hok := OK.out x (List.mem_of_getElem? hx)
      clear hp
      go_wp2_with (first | (refine load34m rfl _ rfl _ _ rfl x hok hr ?_))
      refine P.out.mono ?_
      rintro e w3 ⟨rfl, hp3⟩
      go_wp2
      go_roundw
      case rel => exact ⟨j + 1, by omega, by go_num, hp3⟩
      case measure => simp [intOf]; omega
    · have ej : xs.take j = xs := List.take_of_length_le (by omega)
      have hp' : WSt wr w1.heap.size (allSt xs) := by have := hp.1; rwa [ej] at this
      have bw : Below w1.heap.size w1 wr := hp.2
      clear hp ej
      cases hst : allSt xs with
      | none =>
        rw [hst] at hp'
        have C1 : Hid (Calls Try.prog 12 #[.pointer (some ⟨w1.heap.size, 0, none⟩)] wr fun e w' => e = .returned (.bool true) ∧ w' = wr) := wBad_any _ none wr hp'
        have C2 : Hid (Calls Try.prog 13 #[.pointer (some ⟨w1.heap.size, 0, none⟩)] wr fun e w' => e = .returned (.slice none 0 0) ∧ w' = wr) := bytes_none _ wr (Or.inr ⟨_, rfl, hp'⟩)
        clear hp'
        go_wp2_with (first | (go_at_call 12; refine C1.out.mono ?_; rintro e w' ⟨rfl, h'⟩; have h'' := h'.symm; clear h'; subst h'') | (go_at_call 13; refine C2.out.mono ?_; rintro e w' ⟨rfl, h'⟩; have h'' := h'.symm; clear h'; subst h''))
        go_ret
        exact ⟨rfl, b1.trans (bw.mono b1.size)⟩
      | some L =>
        rw [hst] at hp'
        obtain ⟨hLe, hall⟩ := allSt_some _ xs rfl L hst
        have hLb : Bytes L := by rw [hLe]; exact allB_bytes xs OK.out
        have hLl : L.length ≤ 7000000 := by have := stLen_all _ xs rfl OK.out; rw [hst] at this; simp only [stLen] at this; omega
        have C1 : Hid (Calls Try.prog 12 #[.pointer (some ⟨w1.heap.size, 0, none⟩)] wr fun e w' => e = .returned (.bool false) ∧ w' = wr) := wBad_any _ (some L) wr hp'
        have C2 : Hid (Calls Try.prog 13 #[.pointer (some ⟨w1.heap.size, 0, none⟩)] wr fun e w' => ∃ G, e = .returned (.slice (some ⟨G, 0, none⟩) L.length L.length) ∧ Below w1.heap.size w1 w' ∧ (convert 28 9 (.slice (some ⟨G, 0, none⟩) L.length L.length)).run Try.prog w' = .ok (.string (strOfNums L)) w') :=
          (bytes_good _ L wr hp' hLb).mono fun e w' ⟨G, h1, h2, h3, h4⟩ => ⟨G, h1, bw.trans (h4.mono bw.size), run_conv28 rfl (range_of_block h2)⟩
        have C3 : Hid (∀ (W : World) (vv : Value), Below w1.heap.size w1 W → (convert 28 9 vv).run Try.prog W = .ok (.string (strOfNums L)) W → Calls Try.prog 14 #[vv] W fun e w' => ∃ g, e = .returned (.pointer (some ⟨g, 0, none⟩)) ∧ ReadAt w1 g xs 0 w' ∧ w1.heap.size ≤ g) := fun W vv hW hv =>
          (read_any vv L hLb (by omega) W hv).mono fun e w' ⟨g, h1, h2, h3, h4⟩ => ⟨g, h1, ⟨by rw [List.drop_zero, ← hLe]; exact h2, hW.trans (h4.mono hW.size)⟩, Nat.le_trans hW.size h3⟩
        have ALL : Hid (∀ x ∈ xs, ∃ l, itSt x = some l) := hall
        clear hp' hall hLb hst hLe hLl B1
        generalize hLn : L.length = Ln at *
        clear hLn
        go_wp2_with (first | (go_at_call 12; refine C1.out.mono ?_; rintro e w' ⟨rfl, h'⟩; have h'' := h'.symm; clear h'; subst h'') | (go_at_call 13; refine C2.out.mono ?_; rintro e w3 ⟨G, rfl, b3, h3'⟩) | (go_at_call 14; refine (C3.out _ _ b3 h3').mono ?_; rintro e w4 ⟨gr, rfl, hr4, hgr⟩))
        clear C1 C2 C3 b3 h3'
        go_loopw [36] (fun i wr => ∃ j : Nat, j ≤ xs.length ∧ i = .int .i64 j ∧ ReadAt w1 gr xs j wr) (fun i _ => xs.length - (intOf i).toNat)
        case atStart => exact ⟨0, by omega, rfl, hr4⟩
        case round =>
          obtain ⟨j, hj, rfl, hp⟩ := hrel
          by_cases hlt : j < xs.length
          · obtain ⟨x, hx⟩ : ∃ x, xs[j]? = some x := ⟨xs[j], List.getElem?_eq_getElem hlt⟩
            have hav := h3 (by omega)
            subst hav
            have hji : (j : Int) < (xs.length : Int) := by omega
            have hok := OK.out x (List.mem_of_getElem? hx)
            have hr := R.out wr j x (b1.trans (hp.2.mono b1.size)) hx
            obtain ⟨bx, hbx⟩ := ALL.out x (List.mem_of_getElem? hx)
            have hcons := allB_cons xs j x bx hx hbx
            have hgl : gr < wr.heap.size := hp.1.lt
            have hWb : Below wr.heap.size wr (wr.alloc (.cells (itC x) 34)).drew := ((Below.refl _ _).alloc (Nat.le_refl _) _).drew
            have hRW : ReadAt w1 gr xs j (wr.alloc (.cells (itC x) 34)).drew := ⟨hp.1.below hWb, hp.2.trans (hWb.mono hp.2.size)⟩
            have hBW : (wr.alloc (.cells (itC x) 34)).drew.heap[wr.heap.size]? = some (.cells (itC x) 34) := heap_alloc_new wr _
            have hne : wr.heap.size ≠ gr := by omega
            have C19 : Hid (∀ W, ReadAt w1 gr xs (j + 1) W → Calls Try.prog 19 #[.pointer (some ⟨gr, 0, none⟩)] W fun e w' => e = .returned (.bool false) ∧ w' = W) := fun W hW => rBad_h _ _ W (Or.inr ⟨gr, rfl, hW.1⟩)
            have hz := zero34
            have c0 := row_cell (heap_alloc_new wr (.cells (itC x) 34)) (itC_0 x)
            have c1 := row_cell (heap_alloc_new wr (.cells (itC x) 34)) (itC_1 x)
            have c2 := row_cell (heap_alloc_new wr (.cells (itC x) 34)) (itC_2 x)
            have c3 := row_cell (heap_alloc_new wr (.cells (itC x) 34)) (itC_3 x)
            have c4 := row_cell (heap_alloc_new wr (.cells (itC x) 34)) (itC_4 x)
            by_cases k0 : x.kind = 0
            · have hit : numSt x.n x.size = some bx := by unfold itSt at hbx; rwa [if_pos k0] at hbx
              have hback := num_back x.n x.size bx (allB (xs.drop (j + 1))) hok.n0 hit
              have CN : Hid (Calls Try.prog 15 #[.pointer (some ⟨gr, 0, none⟩), .int .i64 x.size] (wr.alloc (.cells (itC x) 34)).drew (ReadBy w1 gr xs j wr.heap.size x (.int .u64 x.n))) :=
                read_by (st := rnumSt (some (allB (xs.drop j))) x.size) (by rw [hcons]; exact hback.2) (by rw [hcons, hback.1]) hgr hne hRW hBW (rnumber_h _ _ x.size _ (Or.inr ⟨gr, rfl, hRW.1⟩))
              clear hit hback hRW hBW hWb hcons hbx hp c3 c4 hr4
              go_wp2_with (first | (refine load34m rfl _ rfl _ _ rfl x hok hr ?_) | (refine store34n rfl _ _ rfl x hok rfl rfl ?_))
              go_region_with (first | (go_at_call 15; refine CN.out.mono ?_; rintro e w5 ⟨rfl, hr5, k5⟩; have d1 := row_cell k5 (itC_1 x); have R5 : Hid (ReadAt w1 gr xs (j + 1) w5) := hr5; clear hr5 k5))
              all_goals
                go_wp2_with (first | (go_at_call 19; refine (C19.out _ R5.out).mono ?_; rintro e w' ⟨rfl, h'⟩; have h'' := h'.symm; clear h'; subst h''))
                go_roundw
                case rel => exact ⟨j + 1, by omega, by go_num, R5.out⟩
                case measure => simp [intOf]; omega
            by_cases k1 : x.kind = 1
            · have hit : truthSt x.b = some bx := by unfold itSt at hbx; rwa [if_neg k0, if_pos k1] at hbx
              have hback := truth_back x.b bx (allB (xs.drop (j + 1))) hit
              have CN : Hid (Calls Try.prog 16 #[.pointer (some ⟨gr, 0, none⟩)] (wr.alloc (.cells (itC x) 34)).drew (ReadBy w1 gr xs j wr.heap.size x (.bool x.b))) :=
                read_by (st := rtruthSt (some (allB (xs.drop j)))) (by rw [hcons]; exact hback.2) (by rw [hcons, hback.1]) hgr hne hRW hBW (rtruth_h _ _ _ (Or.inr ⟨gr, rfl, hRW.1⟩))
              clear hback hRW hBW hWb hcons hbx hp hr4 c1 c2 c4
              go_wp2_with (first | (refine load34m rfl _ rfl _ _ rfl x hok hr ?_) | (refine store34n rfl _ _ rfl x hok rfl rfl ?_))
              go_region_with (first | (go_at_call 16; refine CN.out.mono ?_; rintro e w5 ⟨rfl, hr5, k5⟩; have d1 := row_cell k5 (itC_3 x); have R5 : Hid (ReadAt w1 gr xs (j + 1) w5) := hr5; clear hr5 k5))
              all_goals
                go_wp2_with (first | (go_at_call 19; refine (C19.out _ R5.out).mono ?_; rintro e w' ⟨rfl, h'⟩; have h'' := h'.symm; clear h'; subst h''))
                go_roundw
                case rel => exact ⟨j + 1, by omega, by go_num, R5.out⟩
                case measure => simp [intOf]; omega
            by_cases k2 : x.kind = 2
            · have hit : textSt x.s = some bx := by unfold itSt at hbx; rwa [if_neg k0, if_neg k1, if_pos k2] at hbx
              have hback := text_back x.s bx (allB (xs.drop (j + 1))) hit
              have CN : Hid (Calls Try.prog 17 #[.pointer (some ⟨gr, 0, none⟩)] (wr.alloc (.cells (itC x) 34)).drew (ReadBy w1 gr xs j wr.heap.size x (.string x.s))) :=
                read_by (st := rtextSt (some (allB (xs.drop j)))) (by rw [hcons]; exact hback.2) (by rw [hcons, hback.1, str_nB]) hgr hne hRW hBW (rtext_h _ _ _ (Or.inr ⟨gr, rfl, hRW.1⟩))
              clear hback hRW hBW hWb hcons hbx hp hr4 c1 c2 c3
              go_wp2_with (first | (refine load34m rfl _ rfl _ _ rfl x hok hr ?_) | (refine store34n rfl _ _ rfl x hok rfl rfl ?_))
              go_region_with (first | (go_at_call 17; refine CN.out.mono ?_; rintro e w5 ⟨rfl, hr5, k5⟩; have d1 := row_cell k5 (itC_4 x); have R5 : Hid (ReadAt w1 gr xs (j + 1) w5) := hr5; clear hr5 k5))
              all_goals
                go_wp2_with (first | (go_at_call 19; refine (C19.out _ R5.out).mono ?_; rintro e w' ⟨rfl, h'⟩; have h'' := h'.symm; clear h'; subst h''))
                go_roundw
                case rel => exact ⟨j + 1, by omega, by go_num, R5.out⟩
                case measure => simp [intOf]; omega
            · have hit : bx = x.h := by unfold itSt at hbx; rw [if_neg k0, if_neg k1, if_neg k2] at hbx; injection hbx with hbx; exact hbx.symm
              subst hit
              have hback := hash_back x.h (allB (xs.drop (j + 1))) hok.hl
              have CN : Hid (Calls Try.prog 18 #[.pointer (some ⟨gr, 0, none⟩)] (wr.alloc (.cells (itC x) 34)).drew (ReadBy w1 gr xs j wr.heap.size x (.agg (vB x.h)))) :=
                read_by (st := takeSt (some (allB (xs.drop j))) 32) (by rw [hcons]; exact hback.2) (by rw [hcons, hback.1]) hgr hne hRW hBW (rhash_h _ _ _ (Or.inr ⟨gr, rfl, hRW.1⟩))
              have rng : (wr.alloc (.cells (itC x) 34)).drew.rangeAt wr.heap.size 5 (vB x.h).toList := range_h hBW
              have hl32 : (Try.prog.info? 32).map (·.size) = some (vB x.h).size := by rw [vB_size, hok.hl]; kernel_rfl
              clear hback hRW hBW hWb hcons hbx hp hr4 c1 c2 c3 c4
              go_wp2_with (first | (refine load34m rfl _ rfl _ _ rfl x hok hr ?_) | (refine store34n rfl _ _ rfl x hok rfl rfl ?_))
              have rng' : (wr.alloc (.cells (itC x) 34)).drew.rangeAt wr.heap.size 5 (List.map (Value.int .u8) x.h) := by rw [← vB_toList]; exact rng
              have hu32 := Try.underlying32
              have hl33 : (Try.prog.info? 32).map (·.size) = some (List.map (Value.int .u8) x.h).length := by rw [List.length_map, hok.hl]; kernel_rfl
              have e32 : ∀ W : World, (Op.equalIn 10000 32 (.agg (vB x.h)) (.agg (List.map (Value.int .u8) x.h).toArray)).run Try.prog W = .ok true W := fun W => eq32_self 9998 x.h hok.hl W
              have hS : (wr.alloc (.cells (itC x) 34)).rangeAt wr.heap.size 5 (List.map (Value.int .u8) x.h) := rng'
              go_region_held3 (fun w' => w'.rangeAt wr.heap.size 5 (List.map (Value.int .u8) x.h)) (first | exact hS | exact rng' | exact rng5) (first | (go_at_call 18; refine CN.out.mono ?_; rintro e w5 ⟨rfl, hr5, k5⟩; have rng5 : w5.rangeAt wr.heap.size 5 (List.map (Value.int .u8) x.h) := (by rw [← vB_toList]; exact range_h k5); have R5 : Hid (ReadAt w1 gr xs (j + 1) w5) := hr5; clear hr5 k5))
              all_goals
                go_wp2_with (first | (go_at_call 19; refine (C19.out _ R5.out).mono ?_; rintro e w' ⟨rfl, h'⟩; have h'' := h'.symm; clear h'; subst h''))
                go_roundw
                case rel => exact ⟨j + 1, by omega, by go_num, R5.out⟩
                case measure => simp [intOf]; omega
          · have ej : xs.drop j = [] := List.drop_eq_nil_of_le (by omega)
            have hr5 := hp.1
            rw [ej] at hr5
            have D : Hid (∀ w', Below w1.heap.size w1 w' → Below w.heap.size w w') := fun w' hh => b1.trans (hh.mono b1.size)
            have C5 : Hid (Calls Try.prog 20 #[.pointer (some ⟨gr, 0, none⟩)] wr fun e w' => e = .returned (.bool true) ∧ w' = wr) := done_h _ (some []) wr (Or.inr ⟨gr, rfl, hr5⟩)
            have C6 : Hid (Calls Try.prog 21 #[.pointer (some ⟨gr, 0, none⟩)] wr fun e w' => e = .returned (.int .i64 0) ∧ w' = wr) := left_h _ (some []) wr (Or.inr ⟨gr, rfl, hr5⟩)
            have bwr := hp.2
            clear hr5 hp hr4
            go_wp2_with (first | (go_at_call 20; refine C5.out.mono ?_; rintro e w' ⟨rfl, h'⟩; have h'' := h'.symm; clear h'; subst h'') | (go_at_call 21; refine C6.out.mono ?_; rintro e w' ⟨rfl, h'⟩; have h'' := h'.symm; clear h'; subst h''))
            go_ret
            exact ⟨rfl, D.out _ bwr⟩
end Go.Proofs.Ytnfhogkjbkhmhaa
