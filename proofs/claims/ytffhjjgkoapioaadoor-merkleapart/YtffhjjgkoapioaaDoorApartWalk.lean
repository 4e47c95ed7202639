import Derived.Test.YtffhjjgkoapioaaDoorUz
namespace Go.Proofs.YtffhjjgkoapioaaDoor
set_option linter.unusedSimpArgs false
set_option linter.unusedVariables false
open Go.RowKit
set_option maxRecDepth 100000 in
set_option maxHeartbeats 1000000 in
theorem mapart_out (av : Option Addr) (N cp : Nat) (i : Int) (avc : Option Addr) (nc cpc : Nat) (avp : Option Addr) (np cpp : Nat) (w : World) (h : 2000 < N ∨ N = 0 ∨ 100 < nc ∨ 60 < np) (hN : N ≤ 4611686018427387904) (hc : nc ≤ 4611686018427387904) (hp : np ≤ 4611686018427387904) :
    Calls Tryd.prog 11 #[.slice av N cp, .int .i64 i, .slice avc nc cpc, .slice avp np cpp] w fun e w' => e = .returned (.bool true) ∧ Below w.heap.size w w' := by
  by_cases h1 : 2000 < N
  · have j0' : decide ((2000 : Int) < (N : Int)) = true := by simp; omega
    go_enter Tryd.func11, Tryd.ntmps11
    go_wp2_with fail
    refine (awake2_any _).mono ?_
    rintro e w1 ⟨rfl, b1⟩
    go_wp2_with fail
    refine (awake2_any _).mono ?_
    rintro e w2 ⟨rfl, b2⟩
    go_wp2
    go_ret
    exact ⟨rfl, b1.trans (b2.mono b1.size)⟩
  have j0' : decide ((2000 : Int) < (N : Int)) = false := by simp; omega
  by_cases h2 : N = 0
  · subst h2
    go_enter Tryd.func11, Tryd.ntmps11
    go_wp2_with fail
    refine (awake2_any _).mono ?_
    rintro e w1 ⟨rfl, b1⟩
    go_wp2_with fail
    refine (awake2_any _).mono ?_
    rintro e w2 ⟨rfl, b2⟩
    go_wp2
    go_ret
    exact ⟨rfl, b1.trans (b2.mono b1.size)⟩
  have j1' : ((N : Int) == 0) = false := by simp; omega
  by_cases h3 : 100 < nc
  · have j4' : decide ((100 : Int) < (nc : Int)) = true := by simp; omega
    go_enter Tryd.func11, Tryd.ntmps11
    go_wp2_with fail
    refine (awake2_any _).mono ?_
    rintro e w1 ⟨rfl, b1⟩
    go_wp2_with fail
    refine (awake2_any _).mono ?_
    rintro e w2 ⟨rfl, b2⟩
    go_wp2
    go_ret
    exact ⟨rfl, b1.trans (b2.mono b1.size)⟩
  · have j4' : decide ((100 : Int) < (nc : Int)) = false := by simp; omega
    have j5' : decide ((60 : Int) < (np : Int)) = true := by simp; omega
    go_enter Tryd.func11, Tryd.ntmps11
    go_wp2_with fail
    refine (awake2_any _).mono ?_
    rintro e w1 ⟨rfl, b1⟩
    go_wp2_with fail
    refine (awake2_any _).mono ?_
    rintro e w2 ⟨rfl, b2⟩
    go_wp2
    go_ret
    exact ⟨rfl, b1.trans (b2.mono b1.size)⟩
theorem str_same (a : List Int) : ((strOfNums a).toList == (strOfNums a).toList) = true := by simp
theorem depthI_inA (n I : Nat) (h : I < n) (hn : n ≤ 1073741824) : depthI n I = ((depthN n I : Nat) : Int) := by
  unfold depthI
  rw [if_neg (by omega)]
  simp
theorem chkB_true {R : List Int} {n i : Int} {bs : List Int} {pr : List (List Int)} (h : chkB R n i bs pr = true) : depthI n i = pr.length ∧ leadD pr.length (leafH bs) n.toNat i.toNat pr = R := by
  unfold chkB at h
  rw [Bool.and_eq_true] at h
  exact ⟨of_decide_eq_true h.1, of_decide_eq_true h.2⟩
theorem texts_bytes (bl : List Bool) (c : List Int) (pr : List (List Int)) (d : Nat) (hd : d ≤ pr.length) (hH : Hashes pr) (hc : Bytes c) : ∀ l ∈ textsTo bl c pr d, Bytes l := fun l hl => by
  unfold textsTo at hl
  obtain ⟨j, hj, rfl⟩ := List.mem_map.1 hl
  have := List.mem_range.1 hj
  exact textN_bytes bl c pr hH j (by omega) hc
theorem texts_len (bl : List Bool) (c : List Int) (pr : List (List Int)) (d : Nat) (hd : d ≤ pr.length) (hH : Hashes pr) (hc : c.length ≤ 140737488351232) : ∀ l ∈ textsTo bl c pr d, l.length ≤ 140737488351233 := fun l hl => by
  unfold textsTo at hl
  obtain ⟨j, hj, rfl⟩ := List.mem_map.1 hl
  have := List.mem_range.1 hj
  exact textN_len bl c pr hH j (by omega) hc
set_option maxRecDepth 100000 in
set_option maxHeartbeats 1000000 in
theorem merkleApart_walk (v : Value) (bs : List Int) (i : Int) (vc : Value) (ch : List Int) (vp : Value) (pf : List (List Int)) (w : World) (hL : Laid w) (hp : PartAt w v bs) (hn : bs.length ≤ 140737488351232) (hby : Bytes bs)
    (hpc : PartAt w vc ch) (hnc : ch.length ≤ 140737488351232) (hbc : Bytes ch) (hpp : ListAt w vp pf) (hHp : Hashes pf) (hnp : pf.length ≤ 140737488351232) :
    Calls Tryd.prog 11 #[v, .int .i64 i, vc, vp] w fun e w' => e = .returned (.bool true) ∧ Below w.heap.size w w' := by
  have h2 := hL.two
  have hp0 := hp
  have hpc0 := hpc
  have hpp0 := hpp
  obtain ⟨av, b, o, cp, rfl, _⟩ := hp
  obtain ⟨avc, bc, oc, cpc, rfl, _⟩ := hpc
  obtain ⟨avp, bp, op, cpp, rfl, _⟩ := hpp
  by_cases h : 2000 < bs.length ∨ bs.length = 0 ∨ 100 < ch.length ∨ 60 < pf.length
  · exact mapart_out av bs.length cp i avc ch.length cpc avp pf.length cpp w h (by omega) (by omega) (by omega)
  have hl := leavesL_length bs
  have hcl := chunksL_length bs
  have hle : (leavesL bs).length = (chunksL bs).length := by omega
  obtain ⟨n, hnn⟩ : ∃ n, (chunksL bs).length = n := ⟨_, rfl⟩
  have hn1 : 0 < n := by omega
  obtain ⟨K, hK⟩ : ∃ K : Nat, (i % 18446744073709551616) % (n : Int) = (K : Int) := ⟨((i % 18446744073709551616) % (n : Int)).toNat, by have := Int.emod_nonneg (i % 18446744073709551616) (show (n : Int) ≠ 0 by omega); omega⟩
  have hKn : K < n := by have := Int.emod_lt_of_pos (i % 18446744073709551616) (show (0 : Int) < (n : Int) by omega); omega
  have hI : K < (leavesL bs).length := by omega
  obtain ⟨c, hc⟩ : ∃ c, (chunksL bs)[K]? = some c := ⟨(chunksL bs)[K]'(by omega), List.getElem?_eq_getElem (by omega)⟩
  have hcs := chunksL_small bs c (List.mem_of_getElem? hc)
  have hcb := chunksL_bytes bs hby c (List.mem_of_getElem? hc)
  have hR := overH_hash _ (leavesL_hashes bs)
  have K1 : ∀ w', Below w.heap.size w w' → Calls Tryd.prog 29 #[.slice av bs.length cp] w' fun e w'' => ∃ u, e = .returned u ∧ PartsAt w'' u (chunksL bs) ∧ Below w'.heap.size w' w'' := fun w' k => rchunks_any _ bs w' (by have := k.size; omega) (hp0.below k) (by omega)
  have K2 : ∀ w', Below w.heap.size w w' → Calls Tryd.prog 32 #[.slice av bs.length cp] w' fun e w'' => e = .returned (.agg (vB (overH (leavesL bs)))) ∧ Below w'.heap.size w' w'' := fun w' k => root_any _ bs w' (hL.below k h2) (hp0.below k) (by omega)
  have K3 : ∀ w', Below w.heap.size w w' → Calls Tryd.prog 41 #[.agg (vB (overH (leavesL bs))), .int .i64 n, .int .i64 K, .slice avc ch.length cpc, .slice avp pf.length cpp] w' fun e w'' => e = .returned (.bool (chkB (overH (leavesL bs)) n K ch pf)) ∧ Below w'.heap.size w' w'' := fun w' k => check_any _ n K _ _ ch pf w' hR.1 (hL.below k h2) (hpc0.below k) (by omega) (hpp0.below k) hHp (by omega)
  cases hchk : chkB (overH (leavesL bs)) n K ch pf with
  | false =>
    rw [hchk] at K3
    exact mapart_no av bs.length cp i avc ch.length cpc avp pf.length cpp (chunksL bs) n K c ch (overH (leavesL bs)) w (by omega) (by omega) (by omega) (by omega) hnn (by omega) hK hc K1 K2 K3
  | true =>
    rw [hchk] at K3
    by_cases hcc : ch = c
    · refine mapart_same av bs.length cp i avc ch.length cpc avp pf.length cpp (chunksL bs) n K c ch (overH (leavesL bs)) w (by omega) (by omega) (by omega) (by omega) hnn (by omega) hK hc K1 K2 _ _ rfl rfl ?_ (fun w' k => hpc0.below k) K3
      rw [hcc]; exact str_same c
    · obtain ⟨e1, e2⟩ := chkB_true hchk
      rw [depthI_inA n K hKn (by omega)] at e1
      have e3 : depthN n K = pf.length := by omega
      rw [Int.toNat_natCast, Int.toNat_natCast] at e2
      have hd := depthN_small _ (leavesL bs).length K (Nat.le_refl _)
      have hpl := pathD_length (depthN (leavesL bs).length K) (leavesL bs) K
      have hPH := pathD_hashes (depthN (leavesL bs).length K) (leavesL bs) K (leavesL_hashes bs)
      have hlead := lead_path _ (leavesL bs) K rfl hI
      have hlc : (leavesL bs)[K]?.getD [] = leafH c := by unfold leavesL; rw [List.getElem?_map, hc, Option.map_some, Option.getD_some]
      rw [hlc] at hlead
      clear hlc
      have hln : (leavesL bs).length = n := by omega
      rw [hln] at hlead hpl hPH hd
      have K4 : ∀ w', Below w.heap.size w w' → Calls Tryd.prog 39 #[.slice av bs.length cp, .int .i64 K] w' fun e w'' => ∃ u, e = .returned (.tuple #[u, .int .i64 0]) ∧ ListAt w'' u (pathD (depthN n K) (leavesL bs) K) ∧ Below w'.heap.size w' w'' := fun w' k => by
        have q := rproof_in (.slice av bs.length cp) bs K w' (by have := k.size; omega) (hp0.below k) (by omega) hby hI
        rw [hln] at q
        exact q.mono fun e w5 ⟨u, r1, r2, r3⟩ => ⟨u, r1, r2.list (by have := r3.size; have := k.size; omega), r3⟩
      generalize pathD (depthN n K) (leavesL bs) K = pr at *
      rw [e3] at hlead hpl
      have t1 := textN_lead pf.length n K ch pf
      have t2 := textN_lead pf.length n K c pr
      have hclash := clash_up (turnsD pf.length n K) c ch pr pf pf.length hpl rfl hPH hHp hcc (by rw [t1, t2, e2, hlead])
      have hXb := texts_bytes (turnsD pf.length n K) ch pf pf.length (Nat.le_refl _) hHp hbc
      have hYb := texts_bytes (turnsD pf.length n K) c pr pf.length (by omega) hPH hcb
      have hXl := texts_len (turnsD pf.length n K) ch pf pf.length (Nat.le_refl _) hHp (by omega)
      have hYl := texts_len (turnsD pf.length n K) c pr pf.length (by omega) hPH (by omega)
      refine mapart_on av bs.length cp i avc ch.length cpc avp pf.length cpp (chunksL bs) n K c ch (overH (leavesL bs)) w (by omega) (by omega) (by omega) (by omega) hnn (by omega) hK hc K1 K2 _ _ rfl rfl (str_ne ch c hbc hcb hcc) (fun w' k => hpc0.below k) pr
        (textsTo (turnsD pf.length n K) ch pf pf.length) (textsTo (turnsD pf.length n K) c pr pf.length) (pf.length + 1) hashOf (by omega) (textsTo_length _ _ _ _) (textsTo_length _ _ _ _) hXb hYb hashOf_length ?_ K3 K4
        (fun w' k => texts_any n K pf.length ch pf _ _ w' e3 hKn (by omega) (by omega) rfl (by have := k.size; omega) (hpc0.below k) (by omega) hbc (hpp0.below k) hHp)
        (fun w' y u k py pu => texts_any n K pf.length c pr y u w' e3 hKn (by omega) (by omega) hpl (by have := k.size; omega) py (by omega) hcb pu hPH)
        (fun w' y l hl py => ?_)
      · obtain ⟨k, hk, q1, q2⟩ := hclash
        exact ⟨k, _, _, textsTo_at _ _ _ _ _ hk, textsTo_at _ _ _ _ _ hk, q1, q2⟩
      · rcases hl with hl | hl
        · exact rsum_big y l w' py (by have := hXl l hl; omega) (hXb l hl)
        · exact rsum_big y l w' py (by have := hYl l hl; omega) (hYb l hl)
end Go.Proofs.YtffhjjgkoapioaaDoor
