import Derived.Test.YtnpjknnalekdpaaDoorTc
namespace Go.Proofs.YtnpjknnalekdpaaDoor
set_option linter.unusedSimpArgs false
set_option linter.unusedVariables false
open Go.RowKit
theorem own_lowerR {w : World} {base base' e size : Nat} {v : Value} {n : Nat} {xs : List Value} (h : w.ownsRow base e size v n xs) (hb : base' ≤ base) : w.ownsRow base' e size v n xs := by
  obtain ⟨h1, h2⟩ := h
  refine ⟨h1, ?_⟩
  rcases h2 with h2 | ⟨g, cap, cur, q1, q2, q⟩
  · exact .inl h2
  · exact .inr ⟨g, cap, cur, q1, Nat.le_trans hb q2, q⟩
theorem info46 : (Tryd.prog.info? 46).map (fun i => (i.size, i.zero.map (·.cells.size))) = some (2, some 2) := by kernel_rfl
theorem feedR_step (l : List Int) (G : List (Int × List Int)) (d : Nat) (l' : List Int) (h : feedR l = (G ++ (feedR l').1, d + (feedR l').2.1, (feedR l').2.2)) :
    (l' = [] ∨ (decR l').2.2.2 = 4 → feedR l = (G, d, l')) ∧
    (l' ≠ [] → (decR l').2.2.2 = 0 → feedR l = ((G ++ [((decR l').1, (decR l').2.1)]) ++ (feedR (l'.drop (decR l').2.2.1.toNat)).1, d + (feedR (l'.drop (decR l').2.2.1.toNat)).2.1, (feedR (l'.drop (decR l').2.2.1.toNat)).2.2)) ∧
    (l' ≠ [] → ¬ (decR l').2.2.2 = 4 → ¬ (decR l').2.2.2 = 0 → feedR l = (G ++ (feedR (l'.drop 1)).1, (d + 1) + (feedR (l'.drop 1)).2.1, (feedR (l'.drop 1)).2.2)) := by
  refine ⟨fun q => ?_, fun q1 q2 => ?_, fun q1 q2 q3 => ?_⟩
  · have e : feedR l' = ([], 0, l') := by
      rcases q with q | q
      · rw [q]; rfl
      · exact feedR_short l' q
    rw [h, e]; simp
  · rw [h, feedR_ok l' q1 q2]; simp
  · rw [h, feedR_drop l' q1 q2 q3]
    simp; omega
theorem grown_box {w wr : World} {g : Nat} (h : w.grownBy wr (some g)) (o : Nat) (x : Value) : w.grownBy (wr.setCell ⟨g, o, none⟩ x) (some g) :=
  grown_trans h ⟨rfl, rfl, rfl, by simp [World.setCell], fun k hk e => Below.heap_setCell _ _ _ _ (fun q => e (by rw [q]))⟩
set_option maxHeartbeats 4000000 in
set_option maxRecDepth 100000 in
theorem feed_any (g : Nat) (wl b : List Int) (D : Nat) (hwb : Bytes wl) (hb : Bytes b) (hwl : wl.length ≤ 500000) (hbl : b.length ≤ 500000) (hD : D ≤ 1000000000) (v : Value) (w : World) (hL : Laid w) (hg2 : 2 ≤ g) (hbox : SBox w g wl D) (hp : PartAt w v b) :
    Calls Tryd.prog 48 #[.pointer (some ⟨g, 0, none⟩), v] w fun e w' => ∃ u us, e = .returned u ∧ FrO w' w.heap.size u (feedR (wl ++ b)).1 us ∧ SBox w' g (feedR (wl ++ b)).2.2 ((D : Int) + (feedR (wl ++ b)).2.1) ∧ w.grownBy w' (some g) := by
  obtain ⟨cap, hcv, v1, w1, hap, p1, bl1⟩ := append_conv w wl b hwb (by omega) v hp (by omega)
  obtain ⟨l, hl⟩ : ∃ l, l = wl ++ b := ⟨_, rfl⟩
  have hlB : Bytes l := by rw [hl]; exact hwb.app hb
  have hlL : l.length ≤ 1000000 := by rw [hl, List.length_append]; omega
  rw [← hl] at p1 ⊢
  have CV : Hid ((convert 9 22 (.string (strOfNums wl))).run Tryd.prog w = .ok (.slice (some ⟨w.heap.size, 0, none⟩) wl.length cap) (Lib.bytesWorld w 5 (strOfNums wl))) := hcv
  have AP : Hid ((Builtin.append_ #[22, 22] 22 #[.slice (some ⟨w.heap.size, 0, none⟩) wl.length cap, v]).run Tryd.prog (Lib.bytesWorld w 5 (strOfNums wl)) = .ok v1 w1) := hap
  have c0 := hbox.c0
  have hgl := hbox.lt
  have SB1 : Hid (SBox w1 g wl D) := hbox.below bl1
  have B1 : Hid (Below w.heap.size w w1) := bl1
  have P1 : Hid (PartT w1 v1 l) := p1
  have LW : Hid (Laid w) := hL
  have HB : Hid (Bytes l ∧ l.length ≤ 1000000) := ⟨hlB, hlL⟩
  obtain ⟨va, vb, vo, vc, hv1, _⟩ := id p1
  subst hv1
  clear hcv hap p1 bl1 hbox hwb hb hp hL hl hlB hlL hwl hbl
  have K : ∀ (wr : World), w.grownBy wr (some g) → Laid wr := fun wr gr => LW.out.below ((Below.refl 2 w).grown gr (by omega) (fun k hk => by injection hk; omega)) (Nat.le_refl _)
  have HK : Hid (∀ (wr : World), w.grownBy wr (some g) → Laid wr) := K
  have G1 : Hid (w.grownBy w1 (some g)) := grown_below B1.out _
  clear K
  have cv := CV.out
  go_enter Tryd.func48, Tryd.ntmps48
  go_wp2_with (first | (at_builtin; refine Lib.wpList_append_run _ rfl _ _ _ _ rfl _ _ rfl rfl _ _ AP.out ?_))
  clear cv c0 CV AP
  go_loopw [5, 6] (fun s5 s6 wr => ∃ (G : List (Int × List Int)) (us : List Value) (d : Nat) (l' : List Int), FrO wr w.heap.size s5 G us ∧ PartT wr s6 l' ∧ SBox wr g wl ((D : Int) + d) ∧ w.grownBy wr (some g) ∧ Hid (feedR l = (G ++ (feedR l').1, d + (feedR l').2.1, (feedR l').2.2)) ∧ Hid (Bytes l') ∧ l'.length + d + G.length ≤ 1000000) (fun _ s6 _ => lenV s6)
  case atStart =>
    exact ⟨[], [], 0, l, FrO.nil _ _, P1.out, by simpa using SB1.out, G1.out, by unfold Hid; simp, HB.out.1, by simpa using HB.out.2⟩
  case round =>
    obtain ⟨G, us, d, l', hF, hP, hS, hG, hR, hBl, hLn⟩ := hrel
    obtain ⟨av, bb, oo, cp, hv6, q1, q2, q3, q4, q5, q6, q7⟩ := id hP
    subst hv6
    have hst := feedR_step l G d l' hR.out
    have HF : Hid (FrO wr w.heap.size u5 G us) := hF
    have HP : Hid (PartT wr (.slice av l'.length cp) l') := hP
    have HS : Hid (SBox wr g wl ((D : Int) + d)) := hS
    have HG : Hid (w.grownBy wr (some g)) := hG
    have hsz : w.heap.size ≤ wr.heap.size := hG.size
    by_cases h0 : l' = []
    · have hz : l'.length = 0 := by rw [h0]; rfl
      have HE : Hid (feedR l = (G, d, l')) := hst.1 (.inl h0)
      have cv : (convert 22 9 (.slice av l'.length cp)).run Tryd.prog wr = .ok (.string (strOfNums l')) wr := run_conv hP.part
      have hc := hS.c0
      have hf : wr.frozen? ⟨g, 0, none⟩ = false := unfrozen hS
      rw [hz] at cv ⊢
      clear hst h0 hF hP hS hG hR hBl q3 q4 q5 q6 q7 hz
      go_wp2
      go_ret
      exact ⟨u5, us, rfl, by rw [HE.out]; exact HF.out.box hgl _ _, by rw [HE.out]; exact HS.out.wait l', grown_box HG.out _ _⟩
    · have hpos : 0 < l'.length := List.length_pos_iff.2 h0
      have hav := q3 hpos
      subst hav
      have hposi : (0 : Int) < (l'.length : Int) := by omega
      have DEC : Hid (Calls Tryd.prog 32 #[.slice (some ⟨bb, oo, none⟩) l'.length cp] wr (DecO (decR l') wr)) := decode_anyT _ l' wr (HK.out wr hG) hP.part hBl.out
      obtain ⟨n, hn⟩ : ∃ n, n = l'.length := ⟨_, rfl⟩
      have HN : Hid (n = l'.length) := hn
      rw [← hn] at DEC HP hposi hpos q1 ⊢
      clear hF hP hS hG hR q3 q6 q7
      obtain ⟨t, bd, sz, c, hdr⟩ : ∃ t bd sz c, decR l' = (t, bd, sz, c) := ⟨_, _, _, _, rfl⟩
      have dok := decR_ok l' hBl.out
      have dpos := decR_pos l'
      rw [hdr] at DEC hst dok dpos
      simp only at hst dok dpos
      have DEC : Hid (Calls Tryd.prog 32 #[.slice (some ⟨bb, oo, none⟩) n cp] wr (fun e w' => ∃ uv L uc, e = .returned (.tuple #[.agg #[.int .u8 t, .slice uv L uc], .int .i64 sz, .int .i64 c]) ∧ OwnB w' wr.heap.size (.slice uv L uc) bd ∧ Below wr.heap.size wr w')) := DEC.out.mono fun e w' ⟨u, r1, r2, r3⟩ => by
        obtain ⟨uv, ub, uo, uc, hu, _⟩ := r2.partG (by have := r3.size; omega)
        subst hu
        exact ⟨uv, _, uc, r1, r2, r3⟩
      have hW2 : ∀ w2, Below wr.heap.size wr w2 → FrO w2 w.heap.size u5 G us ∧ PartT w2 (.slice (some ⟨bb, oo, none⟩) n cp) l' ∧ SBox w2 g wl ((D : Int) + d) ∧ w.grownBy w2 (some g) := fun w2 b2 =>
        ⟨HF.out.below b2, HP.out.below b2, HS.out.below b2, grown_trans HG.out (grown_below b2 _)⟩
      have HW2 : Hid (∀ w2, Below wr.heap.size wr w2 → FrO w2 w.heap.size u5 G us ∧ PartT w2 (.slice (some ⟨bb, oo, none⟩) n cp) l' ∧ SBox w2 g wl ((D : Int) + d) ∧ w.grownBy w2 (some g)) := hW2
      clear hW2 HF HP HS HG hdr
      by_cases hc4 : c = 4
      · subst hc4
        have HE : Hid (feedR l = (G, d, l')) := hst.1 (.inr rfl)
        clear hst dok dpos hn
        go_wp2_with fail
        refine DEC.out.mono ?_
        rintro e w2 ⟨uv, L, uc, rfl, o2, b2⟩
        obtain ⟨w3, hw3⟩ : ∃ W, W = w2.alloc (.cells #[.int .u8 t, .slice uv L uc] 46) := ⟨_, rfl⟩
        have b3 : Below wr.heap.size wr w3 := by rw [hw3]; exact b2.alloc b2.size _
        obtain ⟨f3, p3, x3, gr3⟩ := HW2.out w3 b3
        have HW3 : Hid (w3 = w2.alloc (.cells #[.int .u8 t, .slice uv L uc] 46)) := hw3
        have cv : (convert 22 9 (.slice (some ⟨bb, oo, none⟩) n cp)).run Tryd.prog w3 = .ok (.string (strOfNums l')) w3 := run_conv p3.part
        have hc := x3.c0
        have hf : w3.frozen? ⟨g, 0, none⟩ = false := unfrozen x3
        have F3 : Hid (FrO w3 w.heap.size u5 G us) := f3
        have X3 : Hid (SBox w3 g wl ((D : Int) + d)) := x3
        have GR3 : Hid (w.grownBy w3 (some g)) := gr3
        clear f3 p3 x3 gr3 b2 b3 o2 DEC HW2
        rw [hw3] at cv hc hf
        clear hw3
        go_wp2
        rw [← HW3.out]
        go_ret
        exact ⟨u5, us, rfl, by rw [HE.out]; exact F3.out.box hgl _ _, by rw [HE.out]; exact X3.out.wait l', grown_box GR3.out _ _⟩
      · by_cases hc0 : c = 0
        · subst hc0
          have dk := dok rfl
          have dp := dpos rfl
          have HE := hst.2.1 h0 rfl
          obtain ⟨K, hK⟩ : ∃ K : Nat, sz = (K : Int) := ⟨sz.toNat, by omega⟩
          subst hK
          have HE : Hid (feedR l = ((G ++ [(t, bd)]) ++ (feedR (l'.drop K)).1, d + (feedR (l'.drop K)).2.1, (feedR (l'.drop K)).2.2)) := HE
          have hKn : K ≤ n := by have := dk.2.2.2.2; rw [hn]; omega
          have hK10 : 10 ≤ K := by omega
          have hKi : (K : Int) ≤ (n : Int) := by omega
          have hK0 : (0 : Int) ≤ (K : Int) := by omega
          have B' : Hid (Bytes (l'.drop K)) := fun x hx => hBl.out x (List.drop_subset _ _ hx)
          have ln1 : (l'.drop K).length = n - K := by rw [List.length_drop, HN.out]
          have ln2 : (l'.drop K).length + d + (G ++ [(t, bd)]).length ≤ 1000000 := by rw [List.length_append]; simp only [List.length_cons, List.length_nil]; omega
          have LN2 : Hid ((l'.drop K).length + d + (G ++ [(t, bd)]).length ≤ 1000000) := ln2
          have PN : Hid (∀ W, PartT W (.slice (some ⟨bb, oo, none⟩) n cp) l' → ¬ cp = K → PartT W (.slice (some ⟨bb, oo + K, none⟩) (n - K) (cp - K)) (l'.drop K)) := fun W p hcp => by
            obtain ⟨av', bb', oo', cp', hv', p1, p2, p3, p4, p5, p6, p7⟩ := p
            injection hv' with hv1 hv2 hv3
            subst hv3
            have := p3 (by omega)
            rw [this] at hv1
            injection hv1 with hv1
            injection hv1 with hv4 hv5
            subst hv4
            subst hv5
            have r := range_subT p4 K (n - K)
            rw [List.take_of_length_le (by omega)] at r
            exact ⟨some ⟨bb, oo + K, none⟩, bb, oo + K, cp - K, by rw [ln1], by omega, by omega, fun _ => rfl, r, p5, (fun h => by cases h), fun _ => p7 (by omega)⟩
          have PZ : Hid (∀ W, PartT W (.slice (some ⟨bb, oo, none⟩) n cp) l' → cp = K → PartT W (.slice (some ⟨bb, oo, none⟩) 0 0) (l'.drop K)) := fun W p hcp => by
            obtain ⟨av', bb', oo', cp', hv', p1, p2, p3, p4, p5, p6, p7⟩ := p
            have e : l'.drop K = [] := List.eq_nil_of_length_eq_zero (by omega)
            rw [e]
            exact ⟨some ⟨bb, oo, none⟩, bb', oo, 0, rfl, Nat.le_refl _, by omega, fun h => by simp at h, (fun j v hv => by simp [vB] at hv), p5, (fun h => by cases h), fun h => by simp at h⟩
          have hi1 := info46
          have hi2 : (Tryd.prog.info? 46).map (fun i => decide (i.bytes ≤ 64)) = some true := by kernel_rfl
          cases hi : Tryd.prog.info? 46 with
          | none => rw [hi] at hi1; cases hi1
          | some ii =>
            rw [hi] at hi1 hi2
            simp only [Option.map_some] at hi1 hi2
            injection hi1 with hi1
            injection hi1 with hi3 hi4
            injection hi2 with hi2
            have hi2 := of_decide_eq_true hi2
            cases hz : ii.zero with
            | none => rw [hz] at hi4; cases hi4
            | some zz =>
              rw [hz] at hi4
              simp only [Option.map_some] at hi4
              injection hi4 with hi4
              have HI : Hid (Tryd.prog.info? 46 = some ii) := hi
              have HZ : Hid (ii.zero = some zz) := hz
              have H3 : Hid (ii.size = 2) := hi3
              have H4 : Hid (zz.cells.size = 2) := hi4
              have H2 : Hid (ii.bytes ≤ 64) := hi2
              clear hst dok dpos hn hi hz hi3 hi4 hi2 dk dp ln2
              go_wp2_with fail
              refine DEC.out.mono ?_
              rintro e w2 ⟨uv, L, uc, rfl, o2, b2⟩
              have b3 : Below wr.heap.size wr (w2.alloc (.cells #[.int .u8 t, .slice uv L uc] 46)) := b2.alloc b2.size _
              have b4 : Below wr.heap.size wr ((w2.alloc (.cells #[.int .u8 t, .slice uv L uc] 46)).alloc (.cells #[.int .u8 t, .slice uv L uc] 46)) := b3.alloc b3.size _
              have q4 : Below w2.heap.size w2 ((w2.alloc (.cells #[.int .u8 t, .slice uv L uc] 46)).alloc (.cells #[.int .u8 t, .slice uv L uc] 46)) := ((Below.refl _ _).alloc (Nat.le_refl _) _).alloc (by simp) _
              obtain ⟨w4, hw4⟩ : ∃ W, W = (w2.alloc (.cells #[.int .u8 t, .slice uv L uc] 46)).alloc (.cells #[.int .u8 t, .slice uv L uc] 46) := ⟨_, rfl⟩
              rw [← hw4] at b4 q4
              obtain ⟨f4, p4, x4, gr4⟩ := HW2.out w4 b4
              have g3 := heap_alloc_new w2 (.cells #[.int .u8 t, .slice uv L uc] 46)
              have d0 := row_cell (j := 0) g3 rfl
              have d1 := row_cell (j := 1) g3 rfl
              have g4 : w4.heap[w2.heap.size + 1]? = some (.cells #[.int .u8 t, .slice uv L uc] 46) := by
                have := heap_alloc_new (w2.alloc (.cells #[.int .u8 t, .slice uv L uc] 46)) (.cells #[.int .u8 t, .slice uv L uc] 46)
                rw [show (w2.alloc (.cells #[.int .u8 t, .slice uv L uc] 46)).heap.size = w2.heap.size + 1 by simp] at this
                rw [hw4]; exact this
              have NEWS : Hid (∀ j x, ([.int .u8 t, .slice uv L uc] : List Value)[j]? = some x → w4.cell? ((⟨w2.heap.size + 1, 0, none⟩ : Addr).add j) = some x) := fun j x hj => by
                rw [Addr.add_mid, Nat.zero_add]
                exact row_cell g4 (by simpa using hj)
              have O4 : Hid (OwnB w4 w.heap.size (.slice uv L uc) bd) := own_belowR (own_lowerR o2 hsz) q4
              have F4 : Hid (FrO w4 w.heap.size u5 G us) := f4
              have P4 : Hid (PartT w4 (.slice (some ⟨bb, oo, none⟩) n cp) l') := p4
              have X4 : Hid (SBox w4 g wl ((D : Int) + d)) := x4
              have GR4 : Hid (w.grownBy w4 (some g)) := gr4
              have HW4 : Hid (w4 = (w2.alloc (.cells #[.int .u8 t, .slice uv L uc] 46)).alloc (.cells #[.int .u8 t, .slice uv L uc] 46)) := hw4
              have hG1 : Hid (G.length ≤ 1000000) := Nat.le_trans (Nat.le_add_left _ _) hLn
              clear f4 p4 x4 gr4 b2 b3 b4 o2 DEC HW2 g3 g4 q4 hw4
              have H1N : Hid (∀ x ∈ ([.int .u8 t, .slice uv L uc] : List Value), x.oneCell' = true) := by
                intro x hx
                simp only [List.mem_cons, List.not_mem_nil, or_false] at hx
                rcases hx with rfl | rfl <;> rfl
              have H63 : Hid (G.length + 1 ≤ maxLen) := by unfold Hid maxLen; have := hG1.out; omega
              have HBY : Hid ((G.length + 1) * ii.bytes ≤ 140737488355328) := by
                have h1 := hG1.out
                have h2 := H2.out
                have := Nat.mul_le_mul (show G.length + 1 ≤ 1000001 by omega) h2
                exact Nat.le_trans this (by omega)
              have HBS : Hid (w.heap.size ≤ w4.heap.size) := GR4.out.size
              by_cases hcp : cp = K
              · have hnK : n = K := by omega
                have nK0 : n - K = 0 := by omega
                rw [hnK] at P4 PN PZ hposi hpos q1 hKn hKi ln1 HN ⊢
                rw [hcp] at P4 PN PZ q1 q2 ⊢
                go_wp2_with (first | (at_builtin; rw [← HW4.out]; refine wpList_append_own_at _ rfl _ _ 79 rfl w.heap.size 46 ii zz 2 ii.bytes Tryd.underlying79 HI.out HZ.out H3.out rfl H4.out (by omega) u5 G.length (cellsF G us) rfl F4.out.own ⟨w2.heap.size + 1, 0, none⟩ 1 1 [.int .u8 t, .slice uv L uc] rfl rfl NEWS.out H1N.out H63.out HBY.out HBS.out ?_; intro v5 w5 o5 g5 i5 d5; have F5 : Hid (FrO w5 w.heap.size v5 (G ++ [(t, bd)]) (us ++ [.slice uv L uc])) := F4.out.snoc t bd _ O4.out o5 g5; have P5 : Hid (PartT w5 (.slice (some ⟨bb, oo, none⟩) K K) l') := P4.out.keep g5.size (fun b C m hC => g5.block b (Array.getElem?_eq_some_iff.1 hC).1 (F4.out.five b C m hC)); have X5 : Hid (SBox w5 g wl ((D : Int) + d)) := (by unfold Hid SBox; rw [g5.block g X4.out.lt (fun e => by have := F4.out.low g e.symm; omega)]; exact X4.out); have GR5 : Hid (w.grownBy w5 (some g)) := grown_own GR4.out g5 (fun b hb => F4.out.low b hb); clear o5 g5 i5 d5 F4 P4 X4 GR4 O4 NEWS H1N H63 HBY HBS HI HZ H3 H4))
                have PQ : Hid (PartT w5 (.slice (some ⟨bb, oo, none⟩) 0 0) (l'.drop K)) := PZ.out _ P5.out (by first | trivial | rfl)
                go_roundw
                case rel => exact ⟨G ++ [(t, bd)], us ++ [.slice uv L uc], d, l'.drop K, F5.out, PQ.out, X5.out, GR5.out, HE.out, B'.out, LN2.out⟩
                case measure => simp [lenV]; omega
              · go_wp2_with (first | (at_builtin; rw [← HW4.out]; refine wpList_append_own_at _ rfl _ _ 79 rfl w.heap.size 46 ii zz 2 ii.bytes Tryd.underlying79 HI.out HZ.out H3.out rfl H4.out (by omega) u5 G.length (cellsF G us) rfl F4.out.own ⟨w2.heap.size + 1, 0, none⟩ 1 1 [.int .u8 t, .slice uv L uc] rfl rfl NEWS.out H1N.out H63.out HBY.out HBS.out ?_; intro v5 w5 o5 g5 i5 d5; have F5 : Hid (FrO w5 w.heap.size v5 (G ++ [(t, bd)]) (us ++ [.slice uv L uc])) := F4.out.snoc t bd _ O4.out o5 g5; have P5 : Hid (PartT w5 (.slice (some ⟨bb, oo, none⟩) n cp) l') := P4.out.keep g5.size (fun b C m hC => g5.block b (Array.getElem?_eq_some_iff.1 hC).1 (F4.out.five b C m hC)); have X5 : Hid (SBox w5 g wl ((D : Int) + d)) := (by unfold Hid SBox; rw [g5.block g X4.out.lt (fun e => by have := F4.out.low g e.symm; omega)]; exact X4.out); have GR5 : Hid (w.grownBy w5 (some g)) := grown_own GR4.out g5 (fun b hb => F4.out.low b hb); clear o5 g5 i5 d5 F4 P4 X4 GR4 O4 NEWS H1N H63 HBY HBS HI HZ H3 H4))
                have PQ : Hid (PartT w5 (.slice (some ⟨bb, oo + K, none⟩) (n - K) (cp - K)) (l'.drop K)) := PN.out _ P5.out hcp
                go_roundw
                case rel => exact ⟨G ++ [(t, bd)], us ++ [.slice uv L uc], d, l'.drop K, F5.out, PQ.out, X5.out, GR5.out, HE.out, B'.out, LN2.out⟩
                case measure => simp [lenV]; omega
        · have HE := hst.2.2 h0 hc4 hc0
          have HE : Hid (feedR l = (G ++ (feedR (l'.drop 1)).1, (d + 1) + (feedR (l'.drop 1)).2.1, (feedR (l'.drop 1)).2.2)) := HE
          have z4 : (c == 4) = false := by simpa using hc4
          have z0 : (c == 0) = false := by simpa using hc0
          have B' : Hid (Bytes (l'.drop 1)) := fun x hx => hBl.out x (List.drop_subset _ _ hx)
          have ln1 : (l'.drop 1).length = n - 1 := by rw [List.length_drop, HN.out]
          have ln2 : (l'.drop 1).length + (d + 1) + G.length ≤ 1000000 := by omega
          have wD : IntKind.i64.wrap ((D : Int) + d + 1) = (D : Int) + d + 1 := wrapI _ (by omega) (by omega)
          have n1 : (1 : Int) ≤ (n : Int) := by omega
          have n2 : 1 ≤ n := by omega
          have PN : Hid (∀ W, PartT W (.slice (some ⟨bb, oo, none⟩) n cp) l' → ¬ cp = 1 → PartT W (.slice (some ⟨bb, oo + 1, none⟩) (n - 1) (cp - 1)) (l'.drop 1)) := fun W p hcp => by
            obtain ⟨av', bb', oo', cp', hv', p1, p2, p3, p4, p5, p6, p7⟩ := p
            injection hv' with hv1 hv2 hv3
            subst hv3
            have := p3 (by omega)
            rw [this] at hv1
            injection hv1 with hv1
            injection hv1 with hv4 hv5
            subst hv4
            subst hv5
            have r := range_subT p4 1 (n - 1)
            rw [List.take_of_length_le (by omega)] at r
            exact ⟨some ⟨bb, oo + 1, none⟩, bb, oo + 1, cp - 1, by rw [ln1], by omega, by omega, fun _ => rfl, r, p5, (fun h => by cases h), fun _ => p7 (by omega)⟩
          have PZ : Hid (∀ W, PartT W (.slice (some ⟨bb, oo, none⟩) n cp) l' → cp = 1 → PartT W (.slice (some ⟨bb, oo, none⟩) 0 0) (l'.drop 1)) := fun W p hcp => by
            obtain ⟨av', bb', oo', cp', hv', p1, p2, p3, p4, p5, p6, p7⟩ := p
            have e : l'.drop 1 = [] := List.eq_nil_of_length_eq_zero (by omega)
            rw [e]
            exact ⟨some ⟨bb, oo, none⟩, bb', oo, 0, rfl, Nat.le_refl _, by omega, fun h => by simp at h, (fun j v hv => by simp [vB] at hv), p5, (fun h => by cases h), fun h => by simp at h⟩
          clear hst dok dpos hn
          go_wp2_with fail
          refine DEC.out.mono ?_
          rintro e w2 ⟨uv, L, uc, rfl, o2, b2⟩
          obtain ⟨w3, hw3⟩ : ∃ W, W = w2.alloc (.cells #[.int .u8 t, .slice uv L uc] 46) := ⟨_, rfl⟩
          have b3 : Below wr.heap.size wr w3 := by rw [hw3]; exact b2.alloc b2.size _
          obtain ⟨f3, p3, x3, gr3⟩ := HW2.out w3 b3
          have HW3 : Hid (w3 = w2.alloc (.cells #[.int .u8 t, .slice uv L uc] 46)) := hw3
          have hc := x3.c1
          have hf : w3.frozen? ⟨g, 1, none⟩ = false := unfrozen x3
          have F3 : Hid (FrO (w3.setCell ⟨g, 1, none⟩ (.int .i64 ((D : Int) + d + 1))) w.heap.size u5 G us) := f3.box hgl _ _
          have X3 : Hid (SBox (w3.setCell ⟨g, 1, none⟩ (.int .i64 ((D : Int) + d + 1))) g wl ((D : Int) + ((d + 1 : Nat) : Int))) := by
            have e : (D : Int) + ((d + 1 : Nat) : Int) = (D : Int) + d + 1 := by omega
            rw [e]; exact x3.drop _
          have GR3 : Hid (w.grownBy (w3.setCell ⟨g, 1, none⟩ (.int .i64 ((D : Int) + d + 1))) (some g)) := grown_box gr3 _ _
          have P3 : Hid (PartT (w3.setCell ⟨g, 1, none⟩ (.int .i64 ((D : Int) + d + 1))) (.slice (some ⟨bb, oo, none⟩) n cp) l') := p3.sbox x3 _ _
          clear f3 p3 x3 gr3 b2 b3 o2 DEC HW2
          rw [hw3] at hc hf
          clear hw3
          by_cases hcp : cp = 1
          · have hn1 : n = 1 := by omega
            have PQ : Hid (PartT (w3.setCell ⟨g, 1, none⟩ (.int .i64 ((D : Int) + d + 1))) (.slice (some ⟨bb, oo, none⟩) 0 0) (l'.drop 1)) := PZ.out _ P3.out hcp
            clear P3 PN PZ
            subst hcp
            subst hn1
            go_wp2
            rw [← HW3.out]
            go_roundw
            case rel => exact ⟨G, us, d + 1, l'.drop 1, F3.out, PQ.out, X3.out, GR3.out, HE.out, B'.out, ln2⟩
            case measure => simp [lenV]
          · have PQ : Hid (PartT (w3.setCell ⟨g, 1, none⟩ (.int .i64 ((D : Int) + d + 1))) (.slice (some ⟨bb, oo + 1, none⟩) (n - 1) (cp - 1)) (l'.drop 1)) := PN.out _ P3.out hcp
            clear P3 PN PZ
            go_wp2
            rw [← HW3.out]
            go_roundw
            case rel => exact ⟨G, us, d + 1, l'.drop 1, F3.out, PQ.out, X3.out, GR3.out, HE.out, B'.out, ln2⟩
            case measure => simp [lenV]; omega
end Go.Proofs.YtnpjknnalekdpaaDoor
