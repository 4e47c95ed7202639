import Derived.Test.YtjhnnblilfddpaaDoorMd
import Derived.Lib.AppendZeros
namespace Go.Proofs.YtjhnnblilfddpaaDoor
set_option linter.unusedSimpArgs false
set_option linter.unusedVariables false
open Go.RowKit
theorem zeroCells1 (n : Nat) : (Builtin.zeroCells (Value.int .u8 0).cells n).size = n := by
  rw [size_zeroCells]; simp [Value.cells]
set_option maxRecDepth 100000 in
set_option maxHeartbeats 1000000 in
/-- slices.Grow of nothing: room of the call's own. -/
theorem grow_any (n : Nat) (hn : n ≤ 1000000000000) (w : World) : Calls Tryd.prog 74 #[.slice none 0 0, .int .i64 n] w fun e w' => ∃ v, e = .returned v ∧ OwnB w' w.heap.size v [] ∧ Below w.heap.size w w' := by
  rcases Nat.eq_zero_or_pos n with h | h
  · subst h
    go_enter Tryd.func74, Tryd.ntmps74
    go_wp2
    go_ret
    exact ⟨_, rfl, ownB_nil _ _, Below.refl _ _⟩
  · obtain ⟨i, hi, hz0, hz1, hz2⟩ := info_parts info5
    have hap := Lib.run_append_nil_zeros (P := Tryd.prog) w 22 3 22 5 i (.int .u8 0) .i64 .i64 Tryd.underlying22 Tryd.underlying3 hi hz0 n h (by omega) (by omega) (by rw [hz2]; omega)
    have hcap := grownCap_ge w n 0 5
    have hcm := grownCap_le_maxLen w n 0 5 (by unfold maxLen; omega)
    unfold maxLen at hcm
    generalize grownCap w n 0 5 = cap at *
    have HOWN : Hid (OwnB (w.drew.alloc (.cells (Builtin.zeroCells (Value.int .u8 0).cells n ++ Builtin.zeroCells (Value.int .u8 0).cells (cap - n)) 5)) w.heap.size (.slice (some ⟨w.heap.size, 0, none⟩) 0 cap) []) := by
      refine ⟨rfl, Or.inr ⟨w.heap.size, cap, _, rfl, Nat.le_refl _, heap_alloc_new w.drew _, Nat.zero_le _, by unfold maxLen; omega, ?_, rfl⟩⟩
      rw [Array.size_append, zeroCells1, zeroCells1]; omega
    have HB : Hid (Below w.heap.size w (w.drew.alloc (.cells (Builtin.zeroCells (Value.int .u8 0).cells n ++ Builtin.zeroCells (Value.int .u8 0).cells (cap - n)) 5))) := ((Below.refl _ _).drew).alloc (Nat.le_refl _) _
    have hni : (0 : Int) < (n : Int) := by omega
    generalize (w.drew.alloc (.cells (Builtin.zeroCells (Value.int .u8 0).cells n ++ Builtin.zeroCells (Value.int .u8 0).cells (cap - n)) 5)) = w2 at *
    go_enter Tryd.func74, Tryd.ntmps74
    go_wp2_with (first | (at_builtin; refine Lib.wpList_append_run _ rfl _ _ _ _ rfl _ _ rfl rfl _ _ hap ?_))
    go_ret
    exact ⟨_, rfl, HOWN.out, HB.out⟩
set_option maxRecDepth 100000 in
set_option maxHeartbeats 1000000 in
/-- slices.Concat. -/
theorem concat_any (pb po n pc : Nat) (vs : List Value) (bss : List (List Int)) (hvn : vs.length = n) (hbn : bss.length = n) (w : World) (h0 : 0 < w.heap.size) (hr : w.rangeAt pb po vs) (hpb : pb < w.heap.size)
    (hp : ∀ (i : Nat) (v : Value) (bs : List Int), vs[i]? = some v → bss[i]? = some bs → PartAt w v bs) (hn : bss.flatten.length ≤ 1000000000) (hn63 : n ≤ 1000) :
    Calls Tryd.prog 52 #[.slice (some ⟨pb, po, none⟩) n pc] w fun e w' => ∃ v, e = .returned v ∧ OwnB w' w.heap.size v bss.flatten ∧ Below w.heap.size w w' := by
  have GR : Hid (∀ m : Nat, m ≤ 1000000000 → Calls Tryd.prog 74 #[.slice none 0 0, .int .i64 m] w fun e w' => ∃ v, e = .returned v ∧ OwnB w' w.heap.size v [] ∧ Below w.heap.size w w') := fun m hm => grow_any m (by omega) w
  have LEN : Hid (∀ k, (bss.take k).flatten.length ≤ 1000000000) := fun k => by
    have e : bss.flatten = (bss.take k).flatten ++ (bss.drop k).flatten := by rw [← List.flatten_append, List.take_append_drop]
    rw [e, List.length_append] at hn; omega
  have HP : Hid (∀ (i : Nat) (v : Value) (bs : List Int), vs[i]? = some v → bss[i]? = some bs → PartAt w v bs) := hp
  have HR : Hid (w.rangeAt pb po vs) := hr
  have HF : Hid (bss.flatten.length ≤ 1000000000) := hn
  clear hp hr hn
  go_enter Tryd.func52, Tryd.ntmps52
  go_wp2
  go_loop [11, 3] (fun i s => ∃ k : Nat, k ≤ n ∧ i = .int .i64 k ∧ s = .int .i64 ((bss.take k).flatten.length : Nat)) (fun i _ => n - (intOf i).toNat)
  case atStart => exact ⟨0, by omega, rfl, rfl⟩
  case round =>
    obtain ⟨k, hk, rfl, rfl⟩ := hrel
    by_cases hlt : k < n
    · obtain ⟨x, hv⟩ : ∃ v, vs[k]? = some v := ⟨vs[k], List.getElem?_eq_getElem (by omega)⟩
      obtain ⟨bs, hbs⟩ : ∃ bs, bss[k]? = some bs := ⟨bss[k], List.getElem?_eq_getElem (by omega)⟩
      obtain ⟨av, b, o, cp, rfl, _⟩ := HP.out k x bs hv hbs
      have hc : w.cell? ⟨pb, po + k, none⟩ = some _ := HR.out k _ hv
      have htk : (bss.take (k + 1)).flatten.length = (bss.take k).flatten.length + bs.length := by
        rw [List.take_add_one, hbs]; simp
      have h1 := LEN.out k
      have h2 := LEN.out (k + 1)
      have HT : Hid ((bss.take (k + 1)).flatten.length = (bss.take k).flatten.length + bs.length) := htk
      rw [htk] at h2
      generalize (bss.take k).flatten.length = A at *
      have hpos : ¬ ((A : Int) + (bs.length : Int) < 0) := by omega
      clear htk hbs hv
      go_wp2
      exact ⟨⟨k + 1, by omega, by go_num, by rw [HT.out]; go_num⟩, by simp [intOf]; omega⟩
    · have ek : (bss.take k).flatten = bss.flatten := by rw [List.take_of_length_le (by omega)]
      rw [ek]
      have GR2 : Hid (Calls Tryd.prog 74 #[.slice none 0 0, .int .i64 (bss.flatten.length : Nat)] w fun e w' => ∃ v, e = .returned v ∧ OwnB w' w.heap.size v [] ∧ Below w.heap.size w w') := GR.out _ HF.out
      generalize bss.flatten.length = TT at GR2 ⊢
      go_wp2_with fail
      refine GR2.out.mono ?_
      rintro e w2 ⟨v2, rfl, o2, b2⟩
      have O2 : Hid (OwnB w2 w.heap.size v2 []) := o2
      clear o2 ek
      go_wp2
      go_loopw [27, 6] (fun i v wr => ∃ k : Nat, k ≤ n ∧ i = .int .i64 k ∧ Below w.heap.size w wr ∧ OwnB wr w.heap.size v (bss.take k).flatten) (fun i _ _ => n - (intOf i).toNat)
      case atStart => exact ⟨0, by omega, rfl, b2, by rw [List.take_zero, List.flatten_nil]; exact O2.out⟩
      case round =>
        clear O2 b2
        obtain ⟨k, hk, rfl, hbl, ho⟩ := hrel
        by_cases hlt : k < n
        · obtain ⟨x, hv⟩ : ∃ v, vs[k]? = some v := ⟨vs[k], List.getElem?_eq_getElem (by omega)⟩
          obtain ⟨bs, hbs⟩ : ∃ bs, bss[k]? = some bs := ⟨bss[k], List.getElem?_eq_getElem (by omega)⟩
          have hpk := (HP.out k x bs hv hbs).below hbl
          have HTK : Hid ((bss.take (k + 1)).flatten = (bss.take k).flatten ++ bs) := by
            unfold Hid; rw [List.take_add_one, hbs]; simp
          have hlk : (bss.take k).flatten.length + bs.length ≤ 140737488355328 := by
            have := LEN.out (k + 1)
            rw [HTK.out, List.length_append] at this
            omega
          have hc : wr.cell? ⟨pb, po + k, none⟩ = some x := by rw [hbl.cell (show pb < w.heap.size from hpb)]; exact HR.out k x hv
          have hbs' := hbl.size
          clear hv hbs
          go_wp2_with (first | (at_builtin; refine appendB rfl _ _ rfl w.heap.size u6 (bss.take k).flatten rfl ho x bs rfl hpk hlk hbs' ?_; intro v' w' o' g' d'))
          go_roundw
          case rel => exact ⟨k + 1, by omega, by go_num, hbl.grown g' hbs' ho.row, by rw [HTK.out]; exact o'⟩
          case measure => simp [intOf]; omega
        · have ek : (bss.take k).flatten = bss.flatten := by rw [List.take_of_length_le (by omega)]
          rw [ek] at ho
          have HO : Hid (OwnB wr w.heap.size u6 bss.flatten) := ho
          clear ek ho
          go_wp2
          go_ret
          exact ⟨_, rfl, HO.out, hbl⟩
set_option maxRecDepth 100000 in
set_option maxHeartbeats 400000 in
/-- bytes.Equal. -/
theorem equal_any (x y : Value) (a b : List Int) (w : World) (ha : PartAt w x a) (hb : PartAt w y b) : Calls Tryd.prog 55 #[x, y] w fun e w' => e = .returned (.bool ((strOfNums a).toList == (strOfNums b).toList)) ∧ w' = w := by
  have c1 := run_conv ha
  have c2 := run_conv hb
  generalize strOfNums a = A at *
  generalize strOfNums b = B at *
  clear ha hb
  go_enter Tryd.func55, Tryd.ntmps55
  go_wp2
  go_ret
  exact ⟨rfl, rfl⟩
theorem eqnil_some (a : Addr) (n c : Nat) (w : World) : (binOp .eql 22 (.slice (some a) n c) (.slice none 0 0)).run Tryd.prog w = .ok (.bool false) w := by kernel_rfl
theorem eqnil_none (w : World) : (binOp .eql 22 (.slice none 0 0) (.slice none 0 0)).run Tryd.prog w = .ok (.bool true) w := by kernel_rfl
set_option maxRecDepth 100000 in
set_option maxHeartbeats 400000 in
/-- bytes.Clone. -/
theorem bclone_any (x : Value) (l : List Int) (w : World) (hp : PartAt w x l) (hl : l.length ≤ 1000000000) : Calls Tryd.prog 56 #[x] w fun e w' => ∃ v, e = .returned v ∧ PartAt w' v l ∧ Below w.heap.size w w' := by
  have hp0 := hp
  obtain ⟨av, b, o, cp, rfl, q1, q2, q3, q4, q5, q6⟩ := hp
  cases av with
  | none =>
    have P0 : Hid (PartAt w (.slice none l.length cp) l) := hp0
    have h0 : l.length = 0 := by
      rcases Nat.eq_zero_or_pos l.length with h | h
      · exact h
      · have := q3 h; cases this
    have hc := q6 rfl
    subst hc
    have hl0 : l = [] := List.eq_nil_of_length_eq_zero h0
    subst hl0
    clear q1 q3 q4 hp0 q6 h0
    rw [List.length_nil] at P0 ⊢
    have heq := eqnil_none w
    go_enter Tryd.func56, Tryd.ntmps56
    go_wp2
    go_ret
    exact ⟨_, rfl, P0.out, Below.refl _ _⟩
  | some a =>
    have E5 : Hid (PartAt (w.alloc (.cells #[] 5)) (.slice (some a) l.length cp) l ∧ OwnB (w.alloc (.cells #[] 5)) w.heap.size (.slice (some ⟨w.heap.size, 0, none⟩) 0 0) []) :=
      ⟨hp0.below ((Below.refl _ _).alloc (Nat.le_refl _) _), ⟨rfl, Or.inr ⟨w.heap.size, 0, #[], rfl, Nat.le_refl _, heap_alloc_new _ _, Nat.le_refl _, by unfold maxLen; omega, rfl, rfl⟩⟩⟩
    have B1 : Hid (Below w.heap.size w (w.alloc (.cells #[] 5))) := (Below.refl _ _).alloc (Nat.le_refl _) _
    clear q1 q3 q4 hp0 q6
    have heq := eqnil_some a l.length cp w
    go_enter Tryd.func56, Tryd.ntmps56
    go_wp2_with (first | (at_builtin; refine appendB rfl _ _ rfl w.heap.size _ [] rfl E5.out.2 _ l rfl E5.out.1 (by simp; omega) (by simp) ?_; intro v6 w6 o6 g6 d6))
    go_ret
    have b6 : Below w.heap.size w w6 := B1.out.grown g6 B1.out.size (fun k hk => by injection hk with hk; subst hk; exact Nat.le_refl _)
    exact ⟨_, rfl, by simpa using OwnB.partG o6 (by have := g6.size; simp at this; omega), b6⟩
end Go.Proofs.YtjhnnblilfddpaaDoor
