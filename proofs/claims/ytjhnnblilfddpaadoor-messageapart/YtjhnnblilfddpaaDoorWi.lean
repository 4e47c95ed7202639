import Derived.Test.YtjhnnblilfddpaaDoorWh
namespace Go.Proofs.YtjhnnblilfddpaaDoor
set_option linter.unusedSimpArgs false
set_option linter.unusedVariables false
open Go.RowKit
set_option maxHeartbeats 400000 in
theorem write_nil (v : Value) (w : World) : Calls Tryd.prog 20 #[.pointer none, v] w fun e w' => e = .returned (.tuple #[]) ∧ w' = w := by
  go_enter Tryd.func20, Tryd.ntmps20
  go_wp2
  exact bodyPost_ret (v := .tuple #[]) (by simp [results, Tryd.results20, go_sem]) rfl ⟨rfl, rfl⟩
/-- How long a slice is. -/
def sliceLen : Value → Nat
  | .slice _ n _ => n
  | _ => 0
theorem rangeB {w : World} {b o : Nat} {bs : List Int} (hr : w.rangeAt b o (vB bs).toList) (j : Nat) (hj : j < bs.length) : w.cell? ⟨b, o + j, none⟩ = some (.int .u8 (gi bs j)) :=
  hr j _ (by have := vB_at bs j hj; simpa using this)
theorem range_start {w : World} (hL : Laid w) : w.rangeAt 0 0 (vW hWords).toList := fun j v hv => by
  have hj : j < 8 := by have := (List.getElem?_eq_some_iff.1 hv).1; rw [Array.length_toList, vW_size] at this; exact this
  have e : (vW hWords).toList[j]? = some (.int .u32 (gi hWords j)) := by have := vW_at hWords j hj; simpa using this
  rw [e] at hv; cases hv
  rw [Nat.zero_add]; exact hL.start j hj
theorem step_copy_run {P : Program} {ops : Array Oper} {o : Oper} {a : Act} {w : World} {K : Act → World → Prop} {Q : Exit → Act → World → Prop} {E : Prop} (hgd : o.guard = none) (d s : Operand) (dT sT : TypeId)
    (ho : o.op = .call { callee := .builtin .copy, args := #[d, s], argTypes := #[dT, sT] }) (dv sv : Value) (hd : a.eval d = dv) (hs : a.eval s = sv) (v : Value) (w' : World)
    (hrun : (Builtin.copy_ #[dT, sT] o.type #[dv, sv]).run P w = .ok v w') (h : K (a.put o.dst v) w') :
    if Region.wanted o (yielded ops a.tmps) = true then Oper.wp P o a w K Q else E := by
  have hw : Region.wanted o (yielded ops a.tmps) = true := by simp [Region.wanted, hgd]
  rw [if_pos hw]
  unfold Oper.wp
  simp [execOp, ho, resolve, invoke, builtin, hd, hs, hrun, Result.andThen]
  exact h
theorem slice36 (hb o n : Nat) (W : World) : (Instr.sliceAt 35 (.pointer (some ⟨hb, o, none⟩)) (some (.int .i64 ((n : Int) % 64))) none none).run Tryd.prog W = .ok (.slice (some ⟨hb, o + n % 64, none⟩) (64 - n % 64) (64 - n % 64)) W := by
  have hs : (Tryd.prog.info? 5).map (·.size) = some 1 := by kernel_rfl
  have e : ((n : Int) % 64) = ((n % 64 : Nat) : Int) := by omega
  have hlt : n % 64 < 64 := Nat.mod_lt _ (by decide)
  rw [e]
  generalize n % 64 = r at *
  have e2 : (r : Int) ≤ 64 := by omega
  cases hi : Tryd.prog.info? 5 with
  | none => simp [hi] at hs
  | some i =>
    have hz : i.size = 1 := by simpa [hi] using hs
    have hne : ¬ 64 = r := by omega
    simp [Instr.sliceAt, run_underlying Tryd.underlying35 W, Instr.sureAddr, Instr.sliceBounds, run_sliceBound, sizeOf, typeInfo, hi, hz, hne, e2, Addr.add_mid, Nat.le_of_lt hlt]
theorem slice36t (hb o n : Nat) (W : World) : (Instr.sliceAt 35 (.pointer (some ⟨hb, o, none⟩)) (some (.int .i64 ((n : Int).tmod 64))) none none).run Tryd.prog W = .ok (.slice (some ⟨hb, o + n % 64, none⟩) (64 - n % 64) (64 - n % 64)) W := by
  rw [Int.tmod_eq_emod_of_nonneg (by omega)]; exact slice36 hb o n W
theorem range_rest {w wr : World} {b o hb : Nat} {bs done rest : List Int} (hr : w.rangeAt b o (vB bs).toList) (hbs : bs = done ++ rest) (hgr : w.grownBy wr (some hb)) (hne : b ≠ hb) : wr.rangeAt b (o + done.length) (vB rest).toList := fun j v hv => by
  have e : (vB bs).toList[done.length + j]? = some v := by
    rw [hbs]; unfold vB at hv ⊢
    rw [List.map_append, List.getElem?_append_right (by simp)]
    simpa using hv
  have hc := hr (done.length + j) v e
  rw [← Nat.add_assoc] at hc
  exact hgr.cell hc (fun h => hne (by injection h))
theorem copy_run {wr : World} {hb b : Nat} {W B : List Int} {n : Nat} (hh : wr.heap[hb]? = some (.cells (hObj W B n) 37)) (hW : W.length = 8) (hB : B.length = 64) (o : Nat) (rest x rest' : List Int) (cq : Nat) (hx : rest = x ++ rest')
    (hxl : x.length = min rest.length (64 - n % 64)) (hr : wr.rangeAt b o (vB rest).toList) (k2 : n % 64 + x.length ≤ 64) (w2 : World) (hw : w2.heap = wr.heap) :
    (Builtin.copy_ #[22, 22] 3 #[.slice (some ⟨hb, 8 + n % 64, none⟩) (64 - n % 64) (64 - n % 64), .slice (some ⟨b, o, none⟩) rest.length cq]).run Tryd.prog w2 = .ok (.int .i64 x.length) (w2.setCells hb (8 + n % 64) (vB x).toList) := by
  have hc : ∀ a : Addr, w2.cell? a = wr.cell? a := fun a => World.cell?_of_block (by rw [hw])
  have hf : ∀ a : Addr, w2.frozen? a = wr.frozen? a := fun a => World.frozen?_of_block (by rw [hw])
  have ht := there_of_row hh (8 + n % 64) x.length (by rw [hObj_size _ _ _ hW hB]; omega)
  have hl : (vB x).toList.length = x.length := by rw [Array.length_toList, vB_size]
  have h := run_copy_cells (P := Tryd.prog) w2 22 22 3 5 hb (8 + n % 64) (64 - n % 64) (64 - n % 64) ⟨b, o, none⟩ rest.length cq (vB x).toList Tryd.underlying22 (by kernel_rfl) (by rw [hl, hxl])
    (fun j v hv => by
      rw [Addr.add_mid, hc]
      refine hr j v ?_
      rw [hx]; simp only [vB] at hv ⊢
      have hj : j < x.length := by have := (List.getElem?_eq_some_iff.1 hv).1; simpa using this
      simp [List.getElem?_append, hj] at hv ⊢
      exact hv)
    (fun j hj => by rw [hc]; exact (ht j (by omega)).1) (fun j hj => by rw [hf]; exact (ht j (by omega)).2)
    (fun v hv => by simp [vB] at hv; obtain ⟨y, _, rfl⟩ := hv; rfl)
  rw [hl] at h
  exact h
set_option maxRecDepth 100000 in
set_option maxHeartbeats 2000000 in
theorem write_any (hb : Nat) (all bs ws : List Int) (hws : ws.length = 8) (hwa : all ≠ [] → ws = wordsOf all) (w : World) (hL : Laid w) (h2 : 2 ≤ hb)
    (hh : w.heap[hb]? = some (.cells (hObj ws (remB all) all.length) 37)) (av : Option Addr) (b o cp : Nat) (hcp : bs.length ≤ cp) (hcp2 : cp ≤ 9223372036854775807)
    (hav : 0 < bs.length → av = some ⟨b, o, none⟩) (hr : w.rangeAt b o (vB bs).toList) (hne : b ≠ hb) (hn : all.length + bs.length ≤ 1152921504606846976) :
    Calls Tryd.prog 20 #[.pointer (some ⟨hb, 0, none⟩), .slice av bs.length cp] w fun e w' => e = .returned (.tuple #[]) ∧
      w'.heap[hb]? = some (.cells (hObj (wordsOf (all ++ bs)) (remB (all ++ bs)) (all ++ bs).length) 37) ∧ w.grownBy w' (some hb) := by
  have hbl := remB_length all
  have hcn := row_cell hh (hObj_n ws _ all.length hws hbl)
  have hst := range_start hL
  have hth : w.there hb 0 (vW hWords).size := there_of_row hh 0 _ (by rw [hObj_size _ _ _ hws hbl]; decide)
  have HA : Hid (0 < bs.length → av = some ⟨b, o, none⟩) := hav
  clear hav
  by_cases h0 : all.length = 0
  case' pos =>
    have h0' : ((all.length : Int) == 0) = true := by simp [h0]
    have hall : all = [] := List.eq_nil_of_length_eq_zero h0
    have g1 := setWords hh hws hWords rfl
    have g2 := grown_setCells w hb 0 (vW hWords).toList
    have hwh : Hid (hWords = wordsOf all) := by rw [hall]; rfl
    clear h0 hall
    go_enter Tryd.func20, Tryd.ntmps20
    go_wp2_with (first | (refine wpList_load_mid rfl 34 _ rfl 0 0 rfl (vW hWords).toList _ hst Tryd.underlying34 rfl (by kernel_rfl) ?_) | (refine wpList_store_mid rfl 34 _ _ rfl hb 0 (vW hWords) rfl rfl hth (by kernel_rfl) (vW_all _) ?_))
    generalize w.setCells hb 0 (vW hWords).toList = w1 at *
    rw [hwh.out] at g1
    clear hcn hst hth hh hwh hwa
    simp only [Act.put, List.setIfInBounds_toArray, List.set_cons_succ, List.set_cons_zero]
  case' neg =>
    have h0' : ((all.length : Int) == 0) = false := by rw [beq_eq_false_iff_ne]; omega
    have g1 := hh
    have g2 := World.grownBy.refl w (some hb)
    rw [hwa (fun e => h0 (by rw [e]; rfl))] at g1
    clear h0 hst hth hh hwa
    go_enter Tryd.func20, Tryd.ntmps20
    go_wp2
    clear hcn
  all_goals
    go_loopw [1] (fun v wr => ∃ (done rest : List Int) (av' : Option Addr) (cq : Nat), bs = done ++ rest ∧ v = .slice av' rest.length cq ∧ rest.length ≤ cq ∧ cq ≤ 9223372036854775807 ∧ (0 < rest.length → av' = some ⟨b, o + done.length, none⟩) ∧ wr.heap[hb]? = some (.cells (hObj (wordsOf (all ++ done)) (remB (all ++ done)) (all ++ done).length) 37) ∧ w.grownBy wr (some hb)) (fun v _ => sliceLen v)
    case atStart => exact ⟨[], bs, av, cp, rfl, rfl, hcp, hcp2, HA.out, by simpa using g1, g2⟩
    case round =>
      obtain ⟨done, rest, av', cq, hbs, rfl, hcq, hcq2, hav', hhr, hgr⟩ := hrel
      by_cases hlt : 0 < rest.length
      · have hv := hav' hlt
        subst hv
        clear hav' HA g1 g2
        have hLr := grown_laid hL hgr h2
        have hlen : (all ++ done).length = all.length + done.length := by simp
        have hlen2 : bs.length = done.length + rest.length := by rw [hbs]; simp
        have hnA : (all ++ done).length + rest.length ≤ 1152921504606846976 := by omega
        have hbr := remB_length (all ++ done)
        have hwr := wordsOf_length (all ++ done)
        have hrr : wr.rangeAt b (o + done.length) (vB rest).toList := range_rest hr hbs hgr hne
        have HBS : Hid (bs = done ++ rest) := hbs
        clear hlen2 hlen hbs
        generalize hA : all ++ done = A at *
        have HAA : Hid (all ++ done = A) := hA
        clear hA
        obtain ⟨x, rest', hx, hxl⟩ : ∃ x rest', rest = x ++ rest' ∧ x.length = min rest.length (64 - A.length % 64) := ⟨rest.take (min rest.length (64 - A.length % 64)), rest.drop (min rest.length (64 - A.length % 64)), by simp, by simp⟩
        have hrl : rest.length = x.length + rest'.length := by rw [hx]; simp
        have k0 : 0 < x.length := by omega
        have k1 : x.length ≤ rest.length := by omega
        have k2 : A.length % 64 + x.length ≤ 64 := by omega
        have hcp : ∀ W : World, W.heap = wr.heap → (Builtin.copy_ #[22, 22] 3 #[.slice (some ⟨hb, 8 + A.length % 64, none⟩) (64 - A.length % 64) (64 - A.length % 64), .slice (some ⟨b, o + done.length, none⟩) rest.length cq]).run Tryd.prog W = .ok (.int .i64 x.length) (W.setCells hb (8 + A.length % 64) (vB x).toList) := copy_run hhr hwr hbr (o + done.length) rest x rest' cq hx hxl hrr k2
        have HX : Hid (rest = x ++ rest') := hx
        have HXL : Hid (x.length = min rest.length (64 - A.length % 64)) := hxl
        have HRL : Hid (rest.length = x.length + rest'.length) := hrl
        clear hx hxl hrl
        have hcn := row_cell hhr (hObj_n _ _ A.length hwr hbr)
        have hsl := slice36t hb 8 A.length
        have HCP : Hid (∀ W : World, W.heap = wr.heap → (Builtin.copy_ #[22, 22] 3 #[.slice (some ⟨hb, 8 + A.length % 64, none⟩) (64 - A.length % 64) (64 - A.length % 64), .slice (some ⟨b, o + done.length, none⟩) rest.length cq]).run Tryd.prog W = .ok (.int .i64 x.length) (W.setCells hb (8 + A.length % 64) (vB x).toList)) := hcp
        clear hcp
        go_wp2
        go_region_held3 (fun w' => w'.cell? ⟨hb, 72, none⟩ = some (.int .i64 (A.length : Int))) (first | go_keep | (rw [World.cell?_setCells_out _ _ _ _ _ (fun _ _ => Or.inr (by simp [vB_size]; omega))]; exact hcn)) ((refine step_copy_run (by rfl) (.tmp 27) (.tmp 28) 22 22 (by rfl) _ _ (by rfl) (by rfl) _ _ (HCP.out _ (by rfl)) ?_))
        have hpl : (putAt (remB A) (A.length % 64) x).length = 64 := by rw [putAt_length _ _ _ (by omega)]; exact hbr
        have h3 := setPart (w := wr.drew) hhr hwr hbr (A.length % 64) x k2
        have g3 : w.grownBy (wr.drew.setCells hb (8 + A.length % 64) (vB x).toList) (some hb) := grown_trans (grown_drewN hgr 1) (grown_setCells _ _ _ _)
        generalize wr.drew.setCells hb (8 + A.length % 64) (vB x).toList = w3 at *
        clear hcn HCP hsl hrr
        have hcn := row_cell h3 (hObj_n _ _ A.length hwr hpl)
        have hfz : w3.frozen? ⟨hb, 72, none⟩ = false := frozen_of_row _ _ _ _ _ h3
        by_cases hfull : (A.length + x.length) % 64 = 0
        · have hfb : (((A.length : Int) + (x.length : Int)) % 64 == 0) = true := by rw [beq_iff_eq]; omega
          have h4 := setLen h3 hwr hpl (A.length + x.length)
          rw [Int.natCast_add] at h4
          have g4 : w.grownBy (w3.setCell ⟨hb, 72, none⟩ (.int .i64 ((A.length : Int) + (x.length : Int)))) (some hb) := grown_trans g3 (grown_setCell _ _ _ _)
          go_wp2
          all_goals
            clear hcn hfz h3 g3 hhr hgr hLr
            generalize w3.setCell ⟨hb, 72, none⟩ (.int .i64 ((A.length : Int) + (x.length : Int))) = w4 at *
            have hL4 := grown_laid hL g4 h2
            refine region8 _ (fun _ _ _ _ _ h => h) _ _ hb (wordsOf A) (putAt (remB A) (A.length % 64) x) hwr hpl _ h4 rfl rfl hL4 ?_
            intro w5 hb5
            have hlt4 : hb < w4.heap.size := (Array.getElem?_eq_some_iff.1 h4).1
            have h5 := setWords (w := w5) (by rw [hb5.block hb hlt4]; exact h4) hwr (comp (wordsOf A) (putAt (remB A) (A.length % 64) x)) (comp_length _ _)
            have g5 := grown_trans (grown_trans g4 (grown_below hb5 (some hb))) (grown_setCells w5 hb 0 (vW (comp (wordsOf A) (putAt (remB A) (A.length % 64) x))).toList)
            generalize w5.setCells hb 0 (vW (comp (wordsOf A) (putAt (remB A) (A.length % 64) x))).toList = w6 at *
            have hth6 : w6.there hb 8 (vB (zs 64)).size := there_of_row h5 8 _ (by rw [hObj_size _ _ _ (comp_length _ _) hpl]; decide)
            have h6 := setBlock h5 (comp_length _ _) hpl (zs 64) rfl
            have g6 := grown_trans g5 (grown_setCells w6 hb 8 (vB (zs 64)).toList)
            simp only [Act.put, List.setIfInBounds_toArray, List.set_cons_succ, List.set_cons_zero]
            go_wp2_with (first | (refine wpList_store_mid rfl 35 _ _ rfl hb 8 (vB (zs 64)) rfl rfl hth6 (by kernel_rfl) (vB_all _) ?_))
            have hxx : all ++ (done ++ x) = A ++ x := by rw [← HAA.out]; simp
            have hrl' : rest.length - x.length = rest'.length := by have := HRL.out; omega
            have hf64 : A.length % 64 + x.length = 64 := by omega
            have hbs' : bs = (done ++ x) ++ rest' := by rw [HBS.out, HX.out]; simp
            go_roundw
            case rel =>
              (repeat apply Exists.intro)
              refine ⟨?_, rfl⟩
              refine ⟨done ++ x, rest', _, _, hbs', by rw [← hrl'], ?_, ?_, ?_, ?_, g6⟩
              · omega
              · omega
              · intro hpos
                first | (exfalso; omega) | (simp only [List.length_append]; rw [Nat.add_assoc])
              · rw [hxx, words_full A x hf64, rem_full A x hf64, List.length_append]; exact h6
            case measure =>
              show rest.length - x.length < rest.length
              omega
        · have hfb : (((A.length : Int) + (x.length : Int)) % 64 == 0) = false := by rw [beq_eq_false_iff_ne]; omega
          have h4 := setLen h3 hwr hpl (A.length + x.length)
          rw [Int.natCast_add] at h4
          have g4 : w.grownBy (w3.setCell ⟨hb, 72, none⟩ (.int .i64 ((A.length : Int) + (x.length : Int)))) (some hb) := grown_trans g3 (grown_setCell _ _ _ _)
          have hxx : all ++ (done ++ x) = A ++ x := by rw [← HAA.out]; simp
          have hrl' : Hid (rest.length - x.length = rest'.length) := by have := HRL.out; unfold Hid; omega
          have hf64 : A.length % 64 + x.length < 64 := by omega
          have hbs' : Hid (bs = (done ++ x) ++ rest') := by unfold Hid; rw [HBS.out, HX.out]; simp
          go_wp2
          all_goals
            go_roundw
            case rel =>
              have hrl'' := hrl'.out
              refine ⟨done ++ x, rest', _, _, hbs'.out, by rw [← hrl''], ?_, ?_, ?_, ?_, g4⟩
              · omega
              · omega
              · intro hpos
                rw [if_neg (by omega), List.length_append, Nat.add_assoc]
              · rw [hxx, words_step A x hf64, rem_step A x hf64, List.length_append]; exact h4
            case measure =>
              show rest.length - x.length < rest.length
              omega
      · have er : rest = [] := List.eq_nil_of_length_eq_zero (by omega)
        have hbs' : Hid (bs = done) := by unfold Hid; rw [hbs, er]; simp
        clear hbs er hav'
        go_wp2
        go_end0
        refine ⟨rfl, ?_, hgr⟩
        rw [hbs'.out]; exact hhr
end Go.Proofs.YtjhnnblilfddpaaDoor
