import Derived.Test.YtplihbncmmggjaaDoorGg
import Derived.Test.YtplihbncmmggjaaDoorGz
namespace Go.Proofs.YtplihbncmmggjaaDoor
set_option linter.unusedSimpArgs false
set_option linter.unusedVariables false
open Go.RowKit
set_option maxHeartbeats 1000000 in
set_option maxRecDepth 100000 in
theorem wown_other (g : Nat) (st : Option (List Int)) (m : Msg) (hm : m.Ok) (h1 : ¬ m.kind = 1) (h2 : ¬ m.kind = 2) (h3 : ¬ m.kind = 3) (h6 : ¬ m.kind = 6) (w : World) (hgl : g < w.heap.size) (hs : WSt w g st) (hl : stLen st ≤ 1000) : Calls Tryd.prog 69 #[.pointer (some ⟨g, 0, none⟩), .agg (mC m).toArray] w fun e w' => e = .returned (.tuple #[]) ∧ WSt w' g (ownSt st m) ∧ w.grownBy w' (some g) := by
  have hg0 := heap_alloc_new w (.cells (mC m).toArray 68)
  have k0 : KW w g w.heap.size m (w.alloc (.cells (mC m).toArray 68)) st :=
    ⟨hs.keep (by rw [Below.heap_alloc _ _ _ hgl]) (fun k cs h => by rw [Below.heap_alloc _ _ _ (Array.getElem?_eq_some_iff.1 h).1]; exact h), hg0, by omega, grown_below ((Below.refl _ _).alloc (Nat.le_refl _) _) _⟩
  have K1 : Hid (KW w g w.heap.size m (w.alloc (.cells (mC m).toArray 68)) st) := k0
  have HX : Hid (ownSt st m = st) := by unfold Hid ownSt; rw [if_neg h1, if_neg h2, if_neg (by omega)]
  have d0 := row_cell hg0 (mC_0 m)
  have z1 : (m.kind == 1) = false := by simpa using h1
  have z2 : (m.kind == 2) = false := by simpa using h2
  have z3 : (m.kind == 3) = false := by simpa using h3
  have z6 : (m.kind == 6) = false := by simpa using h6
  clear hg0 k0 hs hm hl h1 h2 h3 h6
  go_enter Tryd.func69, Tryd.ntmps69
  go_wp2
  exact fell Tryd.results69 rfl ⟨rfl, by rw [HX.out]; exact K1.out.st, K1.out.gr⟩
theorem wown_any (g : Nat) (st : Option (List Int)) (m : Msg) (hm : m.Ok) (hc : m.kind = 2 → m.yes = false → 0 ≤ m.code ∧ m.code ≤ 255) (w : World) (hgl : g < w.heap.size) (hs : WSt w g st) (hl : stLen st ≤ 1000) : Calls Tryd.prog 69 #[.pointer (some ⟨g, 0, none⟩), .agg (mC m).toArray] w fun e w' => e = .returned (.tuple #[]) ∧ WSt w' g (ownSt st m) ∧ w.grownBy w' (some g) := by
  by_cases h1 : m.kind = 1
  · exact wown_1 g st m hm h1 w hgl hs hl
  by_cases h2 : m.kind = 2
  · cases hy : m.yes with
    | true => exact wown_2y g st m hm h2 hy w hgl hs hl
    | false => exact wown_2n g st m hm h2 hy (hc h2 hy) w hgl hs hl
  by_cases h3 : m.kind = 3
  · exact wown_3 g st m hm h3 w hgl hs hl
  by_cases h6 : m.kind = 6
  · exact wown_6 g st m hm h6 w hgl hs hl
  exact wown_other g st m hm h1 h2 h3 h6 w hgl hs hl
/-- A truth's byte. -/
def tb (b : Bool) : Int := if b = true then 1 else 0
/-- The bytes of what only a kind has. -/
def ownB (m : Msg) : List Int :=
  if m.kind = 1 then numB m.base 4 ++ ([tb m.quiet] ++ ([tb m.ext] ++ (m.hash ++ (numB m.s.size 2 ++ nB m.s))))
  else if m.kind = 2 then (if m.yes = true then [1] ++ (m.vh ++ m.vr) else [0] ++ [m.code])
  else if m.kind = 3 ∨ m.kind = 6 then [tb m.commit] else []
def bodyB (m : Msg) : List Int := [m.frm] ++ ([m.to] ++ (numB m.id 4 ++ ownB m))
theorem num1 (n : Int) (h0 : 0 ≤ n) (h1 : n ≤ 255) : numSt n 1 = some [n] := by
  unfold numSt fitsB
  rw [show sizeB 1 = true from rfl, show ((1 : Int).toNat) = 1 from rfl, decide_eq_true (by omega)]
  simp [numB]; omega
theorem num4 (n : Int) (h0 : 0 ≤ n) (h1 : n ≤ 4294967295) : numSt n 4 = some (numB n 4) := by
  unfold numSt fitsB
  rw [show sizeB 4 = true from rfl, show ((4 : Int).toNat) = 4 from rfl, decide_eq_true (by omega)]; rfl
theorem num2 (n : Nat) (h1 : n ≤ 500) : numSt (n : Int) 2 = some (numB n 2) := by
  unfold numSt fitsB
  rw [show sizeB 2 = true from rfl, show ((2 : Int).toNat) = 2 from rfl, decide_eq_true (by omega)]; rfl
theorem truth1 (b : Bool) : truthSt b = some [tb b] := by
  unfold truthSt tb
  cases b
  · exact num1 0 (by omega) (by omega)
  · exact num1 1 (by omega) (by omega)
/-- What formed says. -/
theorem form_all {m : Msg} (h : formB m = true) : (1 ≤ m.kind ∧ m.kind ≤ 6) ∧ (0 ≤ m.frm ∧ m.frm ≤ 16) ∧ (0 ≤ m.to ∧ m.to ≤ 16) ∧ m.frm ≠ m.to ∧ 0 < m.id ∧ m.id ≤ 4294967295 ∧ m = ofKind m ∧ inB m = true := by
  unfold formB kindB nodeB at h
  simp only [Bool.and_eq_true, decide_eq_true_eq, Bool.not_eq_true', beq_eq_false_iff_ne] at h
  obtain ⟨h1, h2, h3, h4, h5, h6, h7, h8⟩ := h
  exact ⟨h1, h2, h3, h4, h5, h6, (eqM_iff _ _).1 h7, h8⟩
theorem own_bytes (m : Msg) (hm : m.Ok) (h : formB m = true) (l : List Int) : ownSt (some l) m = some (l ++ ownB m) ∧ (ownB m).length ≤ 540 ∧ Bytes (ownB m) := by
  obtain ⟨h1, _, _, _, _, _, _, h8⟩ := form_all h
  unfold inB at h8
  have hb1 : ∀ b : Bool, Bytes [tb b] := fun b x hx => by simp at hx; subst hx; unfold tb; split <;> omega
  unfold ownSt ownB
  by_cases k1 : m.kind = 1
  · rw [if_pos k1] at h8
    have h9 := of_decide_eq_true h8
    simp only [if_pos k1]
    refine ⟨?_, ?_, ?_⟩
    · unfold textSt
      rw [num4 m.base hm.b.1 h9.1, truth1, truth1, num2 m.s.size h9.2]
      simp only [addSt, List.append_assoc]
    · simp only [List.length_append, numB_length, List.length_cons, List.length_nil, hm.h, nB_length]; omega
    · exact (numB_bytes _ _).app ((hb1 _).app ((hb1 _).app (hm.hb.app ((numB_bytes _ _).app (nB_bytes _)))))
  · rw [if_neg k1] at h8
    simp only [if_neg k1]
    by_cases k2 : m.kind = 2
    · rw [if_pos k2] at h8
      simp only [if_pos k2]
      cases hy : m.yes with
      | true =>
        simp only [if_true]
        refine ⟨?_, ?_, ?_⟩
        · rw [truth1]; simp only [addSt, tb, if_true, List.append_assoc]
        · simp only [List.length_append, List.length_cons, List.length_nil, hm.v, hm.r]; omega
        · exact Bytes.app (hb1 true) (hm.vb.app hm.rb)
      | false =>
        rw [hy] at h8
        simp at h8
        simp only [Bool.false_eq_true, if_false]
        refine ⟨?_, ?_, ?_⟩
        · rw [truth1, num1 m.code (by omega) (by omega)]; simp only [addSt, tb, Bool.false_eq_true, if_false, List.append_assoc]
        · simp
        · exact Bytes.app (hb1 false) (fun x hx => by simp at hx; subst hx; omega)
    · simp only [if_neg k2]
      by_cases k3 : m.kind = 3 ∨ m.kind = 6
      · simp only [if_pos k3]
        exact ⟨by rw [truth1]; rfl, by simp, hb1 _⟩
      · simp only [if_neg k3]
        exact ⟨by simp, by simp, fun x hx => by cases hx⟩
set_option maxHeartbeats 1000000 in
set_option maxRecDepth 100000 in
theorem mencode_no (m : Msg) (hm : m.Ok) (h : formB m = false) (w : World) : Calls Tryd.prog 39 #[.agg (mC m).toArray] w fun e w' => e = .returned (.tuple #[.slice none 0 0, .int .i64 1]) ∧ Below w.heap.size w w' := by
  have b1 : Below w.heap.size w (w.alloc (.cells (mC m).toArray 68)) := (Below.refl _ _).alloc (Nat.le_refl _) _
  have FM : Hid (Calls Tryd.prog 41 #[.agg (mC m).toArray] (w.alloc (.cells (mC m).toArray 68)) fun e w' => e = .returned (.bool false) ∧ Below w.heap.size w w') := by
    have q := formed_any m hm (w.alloc (.cells (mC m).toArray 68))
    rw [h] at q
    exact q.mono fun e w' ⟨r1, r2⟩ => ⟨r1, b1.trans (r2.mono b1.size)⟩
  have G1 : Hid (BoxM 68 (w.alloc (.cells (mC m).toArray 68)) w.heap.size m) := heap_alloc_new w (.cells (mC m).toArray 68)
  have HM : Hid (m.Ok) := hm
  clear hm h b1
  go_enter Tryd.func39, Tryd.ntmps39
  go_wp2_with (first | (refine loadM68 rfl _ rfl w.heap.size rfl m HM.out G1.out ?_))
  refine FM.out.mono ?_
  rintro e w2 ⟨rfl, b2⟩
  go_wp2
  go_ret2
  exact ⟨rfl, b2⟩
set_option maxHeartbeats 1000000 in
set_option maxRecDepth 100000 in
theorem mencode_yes (m : Msg) (hm : m.Ok) (h : formB m = true) (w : World) (hL : Laid w) : Calls Tryd.prog 39 #[.agg (mC m).toArray] w fun e w' => ∃ u, e = .returned (.tuple #[u, .int .i64 0]) ∧ PartAt w' u (encB m.kind (bodyB m)) ∧ Below w.heap.size w w' := by
  have h2 := hL.two
  obtain ⟨f1, f2, f3, f4, f5, f6, f7, f8⟩ := form_all h
  have hob := own_bytes m hm h ([m.frm] ++ ([m.to] ++ numB m.id 4))
  have hbl : (bodyB m).length ≤ 1000 := by unfold bodyB; simp only [List.length_append, List.length_cons, List.length_nil, numB_length]; omega
  have hbb : Bytes (bodyB m) := Bytes.cons' (by omega) (Bytes.cons' (by omega) ((numB_bytes _ _).app hob.2.2))
  have b1 : Below w.heap.size w (w.alloc (.cells (mC m).toArray 68)) := (Below.refl _ _).alloc (Nat.le_refl _) _
  have FM : Hid (Calls Tryd.prog 41 #[.agg (mC m).toArray] (w.alloc (.cells (mC m).toArray 68)) fun e w' => e = .returned (.bool true) ∧ BoxM 68 w' w.heap.size m ∧ Below w.heap.size w w') := by
    have q := formed_any m hm (w.alloc (.cells (mC m).toArray 68))
    rw [h] at q
    exact q.mono fun e w' ⟨r1, r2⟩ => ⟨r1, BoxM.below (heap_alloc_new w (.cells (mC m).toArray 68)) r2, b1.trans (r2.mono b1.size)⟩
  have G1 : Hid (BoxM 68 (w.alloc (.cells (mC m).toArray 68)) w.heap.size m) := heap_alloc_new w (.cells (mC m).toArray 68)
  have HM : Hid (m.Ok) := hm
  have HS : Hid (addSt (addSt (addSt (some []) (numSt m.frm 1)) (numSt m.to 1)) (numSt m.id 4) = some ([m.frm] ++ ([m.to] ++ numB m.id 4))) := by
    unfold Hid
    rw [num1 m.frm (by omega) (by omega), num1 m.to (by omega) (by omega), num4 m.id (by omega) f6]
    simp only [addSt, List.nil_append, List.append_assoc]
  have WO : Hid (∀ (W : World) (g : Nat), g < W.heap.size → WSt W g (some ([m.frm] ++ ([m.to] ++ numB m.id 4))) → Calls Tryd.prog 69 #[.pointer (some ⟨g, 0, none⟩), .agg (mC m).toArray] W fun e w' => e = .returned (.tuple #[]) ∧ WSt w' g (some (bodyB m)) ∧ W.grownBy w' (some g)) := fun W g hg hs => by
    have q := wown_any g _ m hm (fun k2 hy => by
      unfold inB at f8
      rw [if_neg (by omega), if_pos k2, hy] at f8
      simp at f8
      omega) W hg hs (by simp [stLen, numB_length])
    rw [hob.1] at q
    refine q.mono fun e w' ⟨r1, r2, r3⟩ => ⟨r1, ?_, r3⟩
    have e1 : bodyB m = [m.frm] ++ ([m.to] ++ numB m.id 4) ++ ownB m := by unfold bodyB; simp only [List.append_assoc]
    rw [e1]; exact r2
  have BY : Hid (∀ (W : World) (g : Nat), WSt W g (some (bodyB m)) → Calls Tryd.prog 62 #[.pointer (some ⟨g, 0, none⟩)] W fun e w' => ∃ G, e = .returned (.slice (some ⟨G, 0, none⟩) (bodyB m).length (bodyB m).length) ∧ PartAt w' (.slice (some ⟨G, 0, none⟩) (bodyB m).length (bodyB m).length) (bodyB m) ∧ Below W.heap.size W w') := fun W g hs =>
    (bytes_good g _ W hs hbb).mono fun e w' ⟨G, r1, r2, r3, r4⟩ => ⟨G, r1, partRow r2 _ rfl (by omega), r4⟩
  have EN : Hid (∀ (W : World) (x : Value), Below w.heap.size w W → PartAt W x (bodyB m) → Calls Tryd.prog 30 #[.agg #[.int .u8 m.kind, x]] W fun e w' => ∃ u, e = .returned (.tuple #[u, .int .i64 0]) ∧ PartAt w' u (encB m.kind (bodyB m)) ∧ Below W.heap.size W w') := fun W x q p =>
    (encode_any m.kind (by omega) x (bodyB m) (by omega) hbb W (hL.below q h2) p).mono fun e w' r => by
      obtain ⟨r1, r2⟩ := r
      rw [if_neg (by omega), if_neg (by omega)] at r2
      obtain ⟨u, r3, r4⟩ := r2
      exact ⟨u, r3, r4, r1⟩
  have a1 : m.frm % 18446744073709551616 = m.frm := by omega
  have a2 : m.to % 18446744073709551616 = m.to := by omega
  have a3 : m.kind % 256 = m.kind := by omega
  have a4 : IntKind.u64.wrap m.frm = m.frm := by rw [show IntKind.u64.wrap m.frm = m.frm % 18446744073709551616 from rfl]; omega
  have a5 : IntKind.u64.wrap m.to = m.to := by rw [show IntKind.u64.wrap m.to = m.to % 18446744073709551616 from rfl]; omega
  have a6 : IntKind.u8.wrap m.kind = m.kind := by rw [show IntKind.u8.wrap m.kind = m.kind % 256 from rfl]; omega
  have HB : Hid ((0 ≤ m.frm ∧ m.frm ≤ 16) ∧ (0 ≤ m.to ∧ m.to ≤ 16) ∧ 0 < m.id ∧ m.id ≤ 4294967295) := ⟨f2, f3, f5, f6⟩
  clear hm h b1 hob hbl hbb h2 hL f1 f2 f3 f4 f5 f6 f7 f8
  go_enter Tryd.func39, Tryd.ntmps39
  go_wp2_with (first | (refine loadM68 rfl _ rfl w.heap.size rfl m HM.out G1.out ?_))
  refine FM.out.mono ?_
  rintro e w2 ⟨rfl, g2, b2⟩
  obtain ⟨g, hgg⟩ : ∃ g, g = w2.heap.size := ⟨_, rfl⟩
  have b23 : Below w2.heap.size w2 (w2.alloc (.cells #[.pointer none, .int .i64 0, .bool false] 102)) := (Below.refl _ _).alloc (Nat.le_refl _) _
  have k3 : KW (w2.alloc (.cells #[.pointer none, .int .i64 0, .bool false] 102)) g w.heap.size m (w2.alloc (.cells #[.pointer none, .int .i64 0, .bool false] 102)) (some []) :=
    ⟨⟨.pointer none, [], by rw [hgg]; exact heap_alloc_new _ _, rfl, rfl, by simp⟩, g2.below b23, by have := g2.lt; omega, World.grownBy.refl _ _⟩
  have B3 : Hid (Below w.heap.size w (w2.alloc (.cells #[.pointer none, .int .i64 0, .bool false] 102))) := b2.trans (b23.mono b2.size)
  have GL : Hid (g < (w2.alloc (.cells #[.pointer none, .int .i64 0, .bool false] 102)).heap.size ∧ w.heap.size < g) := ⟨by rw [hgg]; simp, by have := g2.lt; omega⟩
  obtain ⟨w3, hw3⟩ : ∃ W, W = w2.alloc (.cells #[.pointer none, .int .i64 0, .bool false] 102) := ⟨_, rfl⟩
  have c1 := row_cell k3.box (mC_1 m)
  have K3 : Hid (KW w3 g w.heap.size m w3 (some [])) := by rw [hw3]; exact k3
  have HW3 : Hid (w3 = w2.alloc (.cells #[.pointer none, .int .i64 0, .bool false] 102)) := hw3
  have HG : Hid (g = w2.heap.size) := hgg
  rw [← hw3] at B3 GL
  clear k3 hw3 g2 b2 b23 hgg FM G1
  go_wp2_with fail
  rw [← HW3.out, ← HG.out]
  clear c1
  refine (kw_number K3.out (by simp [stLen]) m.frm HB.out.1.1 (by have := HB.out.1.2; omega) 1).mono ?_
  rintro e w4 ⟨rfl, k4⟩
  have K4 : Hid (KW w3 g w.heap.size m w4 (addSt (some []) (numSt m.frm 1))) := k4
  have c2 := row_cell k4.box (mC_2 m)
  clear k4
  go_wp2_with fail
  clear c2
  refine (kw_number K4.out (Nat.le_trans (stLen_addk _ _ 0 8 (by simp [stLen]) (stLen_numk _ _)) (by omega)) m.to HB.out.2.1.1 (by have := HB.out.2.1.2; omega) 1).mono ?_
  rintro e w5 ⟨rfl, k5⟩
  have K5 : Hid (KW w3 g w.heap.size m w5 (addSt (addSt (some []) (numSt m.frm 1)) (numSt m.to 1))) := k5
  have c3 := row_cell k5.box (mC_3 m)
  clear k5
  go_wp2_with fail
  clear c3
  refine (kw_number K5.out (Nat.le_trans (stLen_addk _ _ 8 8 (stLen_addk _ _ 0 8 (by simp [stLen]) (stLen_numk _ _)) (stLen_numk _ _)) (by omega)) m.id (by have := HB.out.2.2.1; omega) (by have := HB.out.2.2.2; omega) 4).mono ?_
  rintro e w6 ⟨rfl, k6⟩
  rw [HS.out] at k6
  have K6 : Hid (KW w3 g w.heap.size m w6 (some ([m.frm] ++ ([m.to] ++ numB m.id 4)))) := k6
  clear k6 K3 K4 K5
  go_wp2_with (first | (refine loadM68 rfl _ rfl w.heap.size rfl m HM.out K6.out.box ?_))
  refine (WO.out w6 g (Nat.lt_of_lt_of_le GL.out.1 K6.out.gr.size) K6.out.st).mono ?_
  rintro e w7 ⟨rfl, s7, g7⟩
  have K7 : Hid (KW w3 g w.heap.size m w7 (some (bodyB m))) := K6.out.step s7 g7
  have B7 : Hid (Below w.heap.size w w7.drew) := (B3.out.grown K7.out.gr B3.out.size (fun k hk => by injection hk with hk; have := GL.out.2; omega)).drew
  have H7 : Hid (BoxM 68 w7.drew w.heap.size m) := K7.out.box
  have S7 : Hid (WSt w7.drew g (some (bodyB m))) := K7.out.st.keep rfl (fun k cs h => h)
  clear s7 g7 K6 K7 WO B3
  go_wp2_with fail
  refine wp_region_noPanic ?_
  refine wp_region_held_drew (S := fun w' => BoxM 68 w' w.heap.size m) (by kernel_rfl) (H7.out) (fun hHeld => ?_)
  try simp only [Act.put, List.setIfInBounds_toArray, List.set_cons_zero, List.set_cons_succ]
  refine wpAnyH_take (i := 0) (oi := ⟨some 21, .fieldAddr 68 (.tmp 1) 0, 0, "message.go:58", #[], none⟩) (v := ?_) rfl (by kernel_rfl) (by kernel_rfl) (by kernel_rfl) (fun _ _ _ h => h) (Or.inl ⟨by rfl, ?_⟩) hHeld ?_
  rotate_left 1
  · (intro wq hSq; (try dsimp only at hSq); go_simp; first | done | with_reducible rfl)
  try simp only [Act.put, List.setIfInBounds_toArray, List.set_cons_zero, List.set_cons_succ]
  refine wpAnyH_take (i := 1) (oi := ⟨some 22, .load 3 (.tmp 21), 3, "message.go:58", #[⟨0, .data⟩], none⟩) (v := ?_) rfl (by kernel_rfl) (by kernel_rfl) (by kernel_rfl) (fun _ _ _ h => h) (Or.inl ⟨by rfl, ?_⟩) hHeld ?_
  rotate_left 1
  · (intro wq hSq; (try dsimp only at hSq); have hq := row_cell hSq (mC_0 m); go_simp; first | done | with_reducible rfl)
  try simp only [Act.put, List.setIfInBounds_toArray, List.set_cons_zero, List.set_cons_succ]
  refine wpAnyH_take (i := 2) (oi := ⟨some 23, .convert 3 5 (.tmp 22), 5, "message.go:58", #[⟨1, .data⟩], none⟩) (v := ?_) rfl (by kernel_rfl) (by kernel_rfl) (by kernel_rfl) (fun _ _ _ h => h) (Or.inl ⟨by rfl, ?_⟩) hHeld ?_
  rotate_left 1
  · (intro wq hSq; (try dsimp only at hSq); go_simp; first | done | with_reducible rfl)
  try simp only [Act.put, List.setIfInBounds_toArray, List.set_cons_zero, List.set_cons_succ]
  refine wpAnyH_ready (rs := [3]) (by kernel_rfl) (by simp) ?_
  refine AllReadyH.cons (o := ⟨some 24, .call ⟨.value (.func 62), #[.tmp 4], #[102]⟩, 22, "message.go:58", #[], none⟩) rfl (fun K hK => ?_) AllReadyH.nil
  go_simp
  refine (BY.out _ g S7.out).mono ?_
  rintro e w8 ⟨G, rfl, p8, b8⟩
  have H8 : Hid (BoxM 68 w8 w.heap.size m) := H7.out.below b8
  have B8 : Hid (Below w.heap.size w w8) := B7.out.trans (b8.mono B7.out.size)
  have P8 : Hid (PartAt w8 (.slice (some ⟨G, 0, none⟩) (bodyB m).length (bodyB m).length) (bodyB m)) := p8
  clear p8 b8
  refine hK.out _ _ (H8.out) (fun hHeld1 => ?_)
  clear hK K hHeld
  try simp only [Act.put, List.setIfInBounds_toArray, List.set_cons_zero, List.set_cons_succ]
  refine wpAnyH_take (i := 4) (oi := ⟨some 25, .build 46 #[(0, .tmp 23), (1, .tmp 24)], 46, "message.go:58", #[⟨2, .data⟩, ⟨3, .data⟩], none⟩) (v := ?_) rfl (by kernel_rfl) (by kernel_rfl) (by kernel_rfl) (fun _ _ _ h => h) (Or.inl ⟨by rfl, ?_⟩) hHeld1 ?_
  rotate_left 1
  · (intro wq hSq; (try dsimp only at hSq); go_simp; first | done | with_reducible rfl)
  try simp only [Act.put, List.setIfInBounds_toArray, List.set_cons_zero, List.set_cons_succ]
  refine wpAnyH_ready (rs := [5]) (by kernel_rfl) (by simp) ?_
  refine AllReadyH.cons (o := ⟨some 26, .call ⟨.value (.func 30), #[.tmp 25], #[46]⟩, 43, "message.go:58", #[⟨4, .data⟩, ⟨3, .chain⟩], none⟩) rfl (fun K hK => ?_) AllReadyH.nil
  go_simp
  refine (EN.out w8 _ B8.out P8.out).mono ?_
  rintro e w9 ⟨u, rfl, p9, b9⟩
  have H9 : Hid (BoxM 68 w9 w.heap.size m) := H8.out.below b9
  have B9 : Hid (Below w.heap.size w w9) := B8.out.trans (b9.mono B8.out.size)
  have P9 : Hid (PartAt w9 u (encB m.kind (bodyB m))) := p9
  clear p9 b9
  refine hK.out _ _ (H9.out) (fun hHeld2 => ?_)
  clear hK K hHeld1
  try simp only [Act.put, List.setIfInBounds_toArray, List.set_cons_zero, List.set_cons_succ]
  refine wpAnyH_take (i := 6) (oi := ⟨some 27, .extract (.tmp 26) 0, 22, "message.go:58", #[⟨5, .data⟩], none⟩) (v := ?_) rfl (by kernel_rfl) (by kernel_rfl) (by kernel_rfl) (fun _ _ _ h => h) (Or.inl ⟨by rfl, ?_⟩) hHeld2 ?_
  rotate_left 1
  · (intro wq hSq; (try dsimp only at hSq); go_simp; first | done | with_reducible rfl)
  try simp only [Act.put, List.setIfInBounds_toArray, List.set_cons_zero, List.set_cons_succ]
  refine wpAnyH_take (i := 7) (oi := ⟨some 28, .extract (.tmp 26) 1, 42, "message.go:58", #[⟨5, .data⟩], none⟩) (v := ?_) rfl (by kernel_rfl) (by kernel_rfl) (by kernel_rfl) (fun _ _ _ h => h) (Or.inl ⟨by rfl, ?_⟩) hHeld2 ?_
  rotate_left 1
  · (intro wq hSq; (try dsimp only at hSq); go_simp; first | done | with_reducible rfl)
  try simp only [Act.put, List.setIfInBounds_toArray, List.set_cons_zero, List.set_cons_succ]
  refine wpAnyH_take (i := 8) (oi := ⟨some 2, .assign (.tmp 27), 22, "message.go:58", #[⟨6, .data⟩, ⟨5, .chain⟩, ⟨0, .phase⟩, ⟨1, .phase⟩, ⟨2, .phase⟩, ⟨3, .phase⟩, ⟨4, .phase⟩, ⟨5, .phase⟩, ⟨6, .phase⟩, ⟨7, .phase⟩], none⟩) (v := ?_) rfl (by kernel_rfl) (by kernel_rfl) (by kernel_rfl) (fun _ _ _ h => h) (Or.inl ⟨by rfl, ?_⟩) hHeld2 ?_
  rotate_left 1
  · (intro wq hSq; (try dsimp only at hSq); go_simp; first | done | with_reducible rfl)
  try simp only [Act.put, List.setIfInBounds_toArray, List.set_cons_zero, List.set_cons_succ]
  refine wpAnyH_take (i := 9) (oi := ⟨some 3, .assign (.tmp 28), 42, "message.go:58", #[⟨7, .data⟩, ⟨8, .chain⟩, ⟨0, .phase⟩, ⟨1, .phase⟩, ⟨2, .phase⟩, ⟨3, .phase⟩, ⟨4, .phase⟩, ⟨5, .phase⟩, ⟨6, .phase⟩, ⟨7, .phase⟩, ⟨8, .phase⟩], none⟩) (v := ?_) rfl (by kernel_rfl) (by kernel_rfl) (by kernel_rfl) (fun _ _ _ h => h) (Or.inl ⟨by rfl, ?_⟩) hHeld2 ?_
  rotate_left 1
  · (intro wq hSq; (try dsimp only at hSq); go_simp; first | done | with_reducible rfl)
  try simp only [Act.put, List.setIfInBounds_toArray, List.set_cons_zero, List.set_cons_succ]
  refine wpAnyH_done (by kernel_rfl) ?_ _
  refine NoPanic.normal ?_
  go_wp2
  go_ret2
  exact ⟨u, rfl, P9.out, B9.out⟩
end Go.Proofs.YtplihbncmmggjaaDoor
