import Derived.Test.YtndmjndokokmnaaRg
namespace Go.Proofs.Ytndmjndokokmnaa
set_option linter.unusedSimpArgs false
set_option linter.unusedVariables false
open Go.RowKit
open Go.Deep
theorem index_lit (d : UInt8) (w : World) : Calls Try.prog 131 #[.string ⟨#[46, 91, 93, 42, 94, 36, 47, 92, 38, 45]⟩, .int .u8 (d.toNat : Int)] w fun e w' => ∃ r : Int, e = .returned (.int .i64 r) ∧ decide (0 ≤ r) = litB.contains d ∧ w = w' := by
  refine (Try.strings_IndexByte ⟨#[46, 91, 93, 42, 94, 36, 47, 92, 38, 45]⟩ (d.toNat : Int) w).mono ?_
  rintro e w' ⟨rfl, rfl⟩
  refine ⟨_, rfl, ?_, rfl⟩
  rw [indexByte_in]
  congr 1
  simp
theorem ne8 (d n : UInt8) (h : d ≠ n) : ((d.toNat : Int) == (n.toNat : Int)) = false := by
  rw [beq_eq_false_iff_ne]; intro q; exact h (UInt8.toNat_inj.1 (by omega))
set_option maxHeartbeats 2000000 in
set_option maxRecDepth 100000 in
theorem pair_group {grp : Nat → List UInt8 → Except (List UInt8) (T × Nat × List UInt8)} {n : Nat} (hG : PatC grp n) (g k : Nat) (l t' : List UInt8) (d : UInt8) (hlt : l = 92 :: d :: t') (w : World) (hr : RG w g l k) (hn : l.length ≤ n) (hl : l.length ≤ 900000) (hM : MaxL w) (hg0 : 0 < g) (hk : k ≤ 9) (h40 : d = 40) :
    Calls Try.prog 119 #[.pointer (some ⟨g, 0, none⟩)] w (TreO (fun b => w.heap.size ≤ b) (pairP grp k l (40 :: t')) w g) := by
  have CALL : Hid (Calls Try.prog 130 #[.pointer (some ⟨g, 0, none⟩)] (w.alloc (.cells (cN hd0 (.slice none 0 0)).toArray 55)) fun e w' => ∃ h' u ok, e = .returned (.tuple #[vN h' u, .bool ok]) ∧ Sub (pairP grp k l (40 :: t')) w g h' u ok w') := (group_any hG g k l t' (by rw [hlt, h40]) _ (hr.alloc _) hn hl (hM.alloc _) hg0 hk).mono fun e w' q => sub_of hr.lt q
  obtain ⟨s, hc, hs, hc1, hf, hf1, hg⟩ := hr
  obtain ⟨h1, hv0⟩ := at1 s 92 d t' (by rw [hs, hlt])
  have hv : (s[1]'h1).toNat = d.toNat := by rw [hv0]
  have hz : ¬ (s.size : Int) < 2 := by omega
  have hdl := d.toNat_lt
  have e40 : ((d.toNat : Int) == 40) = true := by rw [h40]; rfl
  clear hG hs hlt hv0 hn hl hM
  go_enter Try.func119, Try.ntmps119
  go_wp2_with (first | (go_at_call 130; refine CALL.out.mono ?_; rintro e w2 ⟨h', u, ok, rfl, sb⟩; have SB : Hid (Sub (pairP grp k l (40 :: t')) w g h' u ok w2) := sb; clear sb) | (refine storeB55 rfl _ _ rfl w.heap.size rfl h' u SB.out.one rfl hd0 _ SB.out.box ?_))
  exact bodyPost_ret (v := .tuple #[vN h' u, .bool ok]) (res55b 2 3 Try.results119 _ _ w.heap.size _ _ _ rfl rfl (BoxN.row SB.out.box _ _)) rfl (SB.out.fin hg)
set_option maxHeartbeats 2000000 in
set_option maxRecDepth 100000 in
theorem pair_back {grp : Nat → List UInt8 → Except (List UInt8) (T × Nat × List UInt8)} {n : Nat} (hG : PatC grp n) (g k : Nat) (l t' : List UInt8) (d : UInt8) (hlt : l = 92 :: d :: t') (w : World) (hr : RG w g l k) (hn : l.length ≤ n) (hl : l.length ≤ 900000) (hM : MaxL w) (hg0 : 0 < g) (hk : k ≤ 9) (h40 : d ≠ 40) (h49 : 49 ≤ d.toNat) (h57 : d.toNat ≤ 57) :
    Calls Try.prog 119 #[.pointer (some ⟨g, 0, none⟩)] w (TreO (fun b => w.heap.size ≤ b) (.ok (.mk (hBack ((d.toNat : Int) - 48)) [], k, t')) w g) := by
  have CALL : Hid (Calls Try.prog 121 #[.pointer (some ⟨g, 0, none⟩), .int .i64 2, .agg #[.int .i64 7, .int .u8 0, .int .u64 0, .int .u64 0, .int .u64 0, .int .u64 0, .int .i64 ((d.toNat : Int) - 48), .int .i64 0, .int .i64 0, .slice none 0 0]] (w.alloc (.cells (cN hd0 (.slice none 0 0)).toArray 55)) fun e w' => ∃ h' u ok, e = .returned (.tuple #[vN h' u, .bool ok]) ∧ Sub (.ok (.mk (hBack ((d.toNat : Int) - 48)) [], k, t')) w g h' u ok w') := past_sub g k 2 l t' (hBack ((d.toNat : Int) - 48)) w hr (by rw [hlt]; simp) (by rw [hlt]; rfl) (by omega)
  obtain ⟨s, hc, hs, hc1, hf, hf1, hg⟩ := hr
  obtain ⟨h1, hv0⟩ := at1 s 92 d t' (by rw [hs, hlt])
  have hv : (s[1]'h1).toNat = d.toNat := by rw [hv0]
  have hz : ¬ (s.size : Int) < 2 := by omega
  have hdl := d.toNat_lt
  have e40 : ((d.toNat : Int) == 40) = false := ne8 d 40 h40
  have i49 : (49 : Int) ≤ (d.toNat : Int) := by omega
  have i57 : (d.toNat : Int) ≤ 57 := by omega
  have k1 : ((d.toNat : Int) - 48) % 256 = (d.toNat : Int) - 48 := by omega
  clear hG hs hlt hv0 hn hl hM
  go_enter Try.func119, Try.ntmps119
  go_wp2_with (first | (go_at_call 121; refine CALL.out.mono ?_; rintro e w2 ⟨h', u, ok, rfl, sb⟩; have SB : Hid (Sub (.ok (.mk (hBack ((d.toNat : Int) - 48)) [], k, t')) w g h' u ok w2) := sb; clear sb) | (refine storeB55 rfl _ _ rfl w.heap.size rfl h' u SB.out.one rfl hd0 _ SB.out.box ?_))
  exact bodyPost_ret (v := .tuple #[vN h' u, .bool ok]) (res55b 2 3 Try.results119 _ _ w.heap.size _ _ _ rfl rfl (BoxN.row SB.out.box _ _)) rfl (SB.out.fin hg)
set_option maxHeartbeats 2000000 in
set_option maxRecDepth 100000 in
theorem pair_n {grp : Nat → List UInt8 → Except (List UInt8) (T × Nat × List UInt8)} {n : Nat} (hG : PatC grp n) (g k : Nat) (l t' : List UInt8) (d : UInt8) (hlt : l = 92 :: d :: t') (w : World) (hr : RG w g l k) (hn : l.length ≤ n) (hl : l.length ≤ 900000) (hM : MaxL w) (hg0 : 0 < g) (hk : k ≤ 9) (h110 : d = 110) :
    Calls Try.prog 119 #[.pointer (some ⟨g, 0, none⟩)] w (TreO (fun b => w.heap.size ≤ b) (.ok (.mk (hLit 10) [], k, t')) w g) := by
  have CALL : Hid (Calls Try.prog 121 #[.pointer (some ⟨g, 0, none⟩), .int .i64 2, .agg #[.int .i64 1, .int .u8 10, .int .u64 0, .int .u64 0, .int .u64 0, .int .u64 0, .int .i64 0, .int .i64 0, .int .i64 0, .slice none 0 0]] (w.alloc (.cells (cN hd0 (.slice none 0 0)).toArray 55)) fun e w' => ∃ h' u ok, e = .returned (.tuple #[vN h' u, .bool ok]) ∧ Sub (.ok (.mk (hLit 10) [], k, t')) w g h' u ok w') := past_sub g k 2 l t' (hLit 10) w hr (by rw [hlt]; simp) (by rw [hlt]; rfl) (by omega)
  obtain ⟨s, hc, hs, hc1, hf, hf1, hg⟩ := hr
  obtain ⟨h1, hv0⟩ := at1 s 92 d t' (by rw [hs, hlt])
  have hv : (s[1]'h1).toNat = d.toNat := by rw [hv0]
  have hz : ¬ (s.size : Int) < 2 := by omega
  have hdl := d.toNat_lt
  have e40 : ((d.toNat : Int) == 40) = false := by rw [h110]; rfl
  have i49 : (49 : Int) ≤ (d.toNat : Int) := by rw [h110]; decide
  have i57 : ¬ (d.toNat : Int) ≤ 57 := by rw [h110]; decide
  have e110 : ((d.toNat : Int) == 110) = true := by rw [h110]; rfl
  clear hG hs hlt hv0 hn hl hM
  go_enter Try.func119, Try.ntmps119
  go_wp2_with (first | (go_at_call 121; refine CALL.out.mono ?_; rintro e w2 ⟨h', u, ok, rfl, sb⟩; have SB : Hid (Sub (.ok (.mk (hLit 10) [], k, t')) w g h' u ok w2) := sb; clear sb) | (refine storeB55 rfl _ _ rfl w.heap.size rfl h' u SB.out.one rfl hd0 _ SB.out.box ?_))
  exact bodyPost_ret (v := .tuple #[vN h' u, .bool ok]) (res55b 2 3 Try.results119 _ _ w.heap.size _ _ _ rfl rfl (BoxN.row SB.out.box _ _)) rfl (SB.out.fin hg)
set_option maxHeartbeats 2000000 in
set_option maxRecDepth 100000 in
theorem pair_lit_lo {grp : Nat → List UInt8 → Except (List UInt8) (T × Nat × List UInt8)} {n : Nat} (hG : PatC grp n) (g k : Nat) (l t' : List UInt8) (d : UInt8) (hlt : l = 92 :: d :: t') (w : World) (hr : RG w g l k) (hn : l.length ≤ n) (hl : l.length ≤ 900000) (hM : MaxL w) (hg0 : 0 < g) (hk : k ≤ 9) (h40 : d ≠ 40) (h49 : d.toNat < 49) (h110 : d ≠ 110) (hin : litB.contains d = true) :
    Calls Try.prog 119 #[.pointer (some ⟨g, 0, none⟩)] w (TreO (fun b => w.heap.size ≤ b) (.ok (.mk (hLit d) [], k, t')) w g) := by
  have CALL : Hid (Calls Try.prog 121 #[.pointer (some ⟨g, 0, none⟩), .int .i64 2, .agg #[.int .i64 1, .int .u8 (d.toNat : Int), .int .u64 0, .int .u64 0, .int .u64 0, .int .u64 0, .int .i64 0, .int .i64 0, .int .i64 0, .slice none 0 0]] (w.alloc (.cells (cN hd0 (.slice none 0 0)).toArray 55)) fun e w' => ∃ h' u ok, e = .returned (.tuple #[vN h' u, .bool ok]) ∧ Sub (.ok (.mk (hLit d) [], k, t')) w g h' u ok w') := past_sub g k 2 l t' (hLit d) w hr (by rw [hlt]; simp) (by rw [hlt]; rfl) (by omega)
  obtain ⟨s, hc, hs, hc1, hf, hf1, hg⟩ := hr
  obtain ⟨h1, hv0⟩ := at1 s 92 d t' (by rw [hs, hlt])
  have hv : (s[1]'h1).toNat = d.toNat := by rw [hv0]
  have hz : ¬ (s.size : Int) < 2 := by omega
  have hdl := d.toNat_lt
  have e40 : ((d.toNat : Int) == 40) = false := ne8 d 40 h40
  have i49 : ¬ (49 : Int) ≤ (d.toNat : Int) := by omega
  have e110 : ((d.toNat : Int) == 110) = false := ne8 d 110 h110
  have IX : Hid (∀ w, Calls Try.prog 131 #[.string ⟨#[46, 91, 93, 42, 94, 36, 47, 92, 38, 45]⟩, .int .u8 (d.toNat : Int)] w fun e w' => ∃ r : Int, e = .returned (.int .i64 r) ∧ decide (0 ≤ r) = true ∧ w = w') := fun w => by have := index_lit d w; rwa [hin] at this
  clear hG hs hlt hv0 hn hl hM
  go_enter Try.func119, Try.ntmps119
  go_wp2_with (first | (go_at_call 131; refine (IX.out _).mono ?_; rintro e w1 ⟨r, rfl, hr0, rfl⟩; have hr1 := of_decide_eq_true hr0; clear hr0) | (go_at_call 121; refine CALL.out.mono ?_; rintro e w2 ⟨h', u, ok, rfl, sb⟩; have SB : Hid (Sub (.ok (.mk (hLit d) [], k, t')) w g h' u ok w2) := sb; clear sb) | (refine storeB55 rfl _ _ rfl w.heap.size rfl h' u SB.out.one rfl hd0 _ SB.out.box ?_))
  exact bodyPost_ret (v := .tuple #[vN h' u, .bool ok]) (res55b 2 3 Try.results119 _ _ w.heap.size _ _ _ rfl rfl (BoxN.row SB.out.box _ _)) rfl (SB.out.fin hg)
set_option maxHeartbeats 2000000 in
set_option maxRecDepth 100000 in
theorem pair_no_lo (S : Nat → Prop) (g k : Nat) (l t' : List UInt8) (d : UInt8) (hlt : l = 92 :: d :: t') (w : World) (hr : RG w g l k) (h40 : d ≠ 40) (h49 : d.toNat < 49) (h110 : d ≠ 110) (hin : litB.contains d = false) :
    Calls Try.prog 119 #[.pointer (some ⟨g, 0, none⟩)] w (TreO S (.error l) w g) := by
  have HR : Hid (RG w g l k) := hr
  obtain ⟨s, hc, hs, hc1, hf, hf1, hg⟩ := hr
  have Y0 : Hid (BoxN 55 (w.alloc (.cells (cN hd0 (.slice none 0 0)).toArray 55)) w.heap.size hd0 (.slice none 0 0)) := BoxN.new 55 w hd0 (.slice none 0 0)
  have B0 : Hid (Below w.heap.size w (w.alloc (.cells (cN hd0 (.slice none 0 0)).toArray 55))) := (Below.refl _ _).alloc (Nat.le_refl _) _
  obtain ⟨h1, hv0⟩ := at1 s 92 d t' (by rw [hs, hlt])
  have hv : (s[1]'h1).toNat = d.toNat := by rw [hv0]
  have hz : ¬ (s.size : Int) < 2 := by omega
  have hdl := d.toNat_lt
  have e40 : ((d.toNat : Int) == 40) = false := ne8 d 40 h40
  have i49 : ¬ (49 : Int) ≤ (d.toNat : Int) := by omega
  have e110 : ((d.toNat : Int) == 110) = false := ne8 d 110 h110
  have IX : Hid (∀ w, Calls Try.prog 131 #[.string ⟨#[46, 91, 93, 42, 94, 36, 47, 92, 38, 45]⟩, .int .u8 (d.toNat : Int)] w fun e w' => ∃ r : Int, e = .returned (.int .i64 r) ∧ decide (0 ≤ r) = false ∧ w = w') := fun w => by have := index_lit d w; rwa [hin] at this
  clear hs hlt hv0
  go_enter Try.func119, Try.ntmps119
  go_wp2_with (first | (go_at_call 131; refine (IX.out _).mono ?_; rintro e w1 ⟨r, rfl, hr0, rfl⟩; have hr1 := of_decide_eq_false hr0; clear hr0)  | (refine storeB55 rfl _ _ rfl w.heap.size rfl hd0 (.slice none 0 0) rfl rfl hd0 _ Y0.out ?_))
  exact bodyPost_ret (v := .tuple #[vN hd0 (.slice none 0 0), .bool false]) (res55b 2 3 Try.results119 _ _ w.heap.size _ _ _ rfl rfl (BoxN.row Y0.out _ _)) rfl ⟨k, rfl, (HR.out.alloc _).row _ _ (by omega), grown_row (grown_below B0.out _) (Nat.le_refl _) _⟩
set_option maxHeartbeats 2000000 in
set_option maxRecDepth 100000 in
theorem pair_lit_hi {grp : Nat → List UInt8 → Except (List UInt8) (T × Nat × List UInt8)} {n : Nat} (hG : PatC grp n) (g k : Nat) (l t' : List UInt8) (d : UInt8) (hlt : l = 92 :: d :: t') (w : World) (hr : RG w g l k) (hn : l.length ≤ n) (hl : l.length ≤ 900000) (hM : MaxL w) (hg0 : 0 < g) (hk : k ≤ 9) (h40 : d ≠ 40) (h49 : 57 < d.toNat) (h110 : d ≠ 110) (hin : litB.contains d = true) :
    Calls Try.prog 119 #[.pointer (some ⟨g, 0, none⟩)] w (TreO (fun b => w.heap.size ≤ b) (.ok (.mk (hLit d) [], k, t')) w g) := by
  have CALL : Hid (Calls Try.prog 121 #[.pointer (some ⟨g, 0, none⟩), .int .i64 2, .agg #[.int .i64 1, .int .u8 (d.toNat : Int), .int .u64 0, .int .u64 0, .int .u64 0, .int .u64 0, .int .i64 0, .int .i64 0, .int .i64 0, .slice none 0 0]] (w.alloc (.cells (cN hd0 (.slice none 0 0)).toArray 55)) fun e w' => ∃ h' u ok, e = .returned (.tuple #[vN h' u, .bool ok]) ∧ Sub (.ok (.mk (hLit d) [], k, t')) w g h' u ok w') := past_sub g k 2 l t' (hLit d) w hr (by rw [hlt]; simp) (by rw [hlt]; rfl) (by omega)
  obtain ⟨s, hc, hs, hc1, hf, hf1, hg⟩ := hr
  obtain ⟨h1, hv0⟩ := at1 s 92 d t' (by rw [hs, hlt])
  have hv : (s[1]'h1).toNat = d.toNat := by rw [hv0]
  have hz : ¬ (s.size : Int) < 2 := by omega
  have hdl := d.toNat_lt
  have e40 : ((d.toNat : Int) == 40) = false := ne8 d 40 h40
  have i49 : (49 : Int) ≤ (d.toNat : Int) := by omega
  have i57 : ¬ (d.toNat : Int) ≤ 57 := by omega
  have e110 : ((d.toNat : Int) == 110) = false := ne8 d 110 h110
  have IX : Hid (∀ w, Calls Try.prog 131 #[.string ⟨#[46, 91, 93, 42, 94, 36, 47, 92, 38, 45]⟩, .int .u8 (d.toNat : Int)] w fun e w' => ∃ r : Int, e = .returned (.int .i64 r) ∧ decide (0 ≤ r) = true ∧ w = w') := fun w => by have := index_lit d w; rwa [hin] at this
  clear hG hs hlt hv0 hn hl hM
  go_enter Try.func119, Try.ntmps119
  go_wp2_with (first | (go_at_call 131; refine (IX.out _).mono ?_; rintro e w1 ⟨r, rfl, hr0, rfl⟩; have hr1 := of_decide_eq_true hr0; clear hr0) | (go_at_call 121; refine CALL.out.mono ?_; rintro e w2 ⟨h', u, ok, rfl, sb⟩; have SB : Hid (Sub (.ok (.mk (hLit d) [], k, t')) w g h' u ok w2) := sb; clear sb) | (refine storeB55 rfl _ _ rfl w.heap.size rfl h' u SB.out.one rfl hd0 _ SB.out.box ?_))
  exact bodyPost_ret (v := .tuple #[vN h' u, .bool ok]) (res55b 2 3 Try.results119 _ _ w.heap.size _ _ _ rfl rfl (BoxN.row SB.out.box _ _)) rfl (SB.out.fin hg)
set_option maxHeartbeats 2000000 in
set_option maxRecDepth 100000 in
theorem pair_no_hi (S : Nat → Prop) (g k : Nat) (l t' : List UInt8) (d : UInt8) (hlt : l = 92 :: d :: t') (w : World) (hr : RG w g l k) (h40 : d ≠ 40) (h49 : 57 < d.toNat) (h110 : d ≠ 110) (hin : litB.contains d = false) :
    Calls Try.prog 119 #[.pointer (some ⟨g, 0, none⟩)] w (TreO S (.error l) w g) := by
  have HR : Hid (RG w g l k) := hr
  obtain ⟨s, hc, hs, hc1, hf, hf1, hg⟩ := hr
  have Y0 : Hid (BoxN 55 (w.alloc (.cells (cN hd0 (.slice none 0 0)).toArray 55)) w.heap.size hd0 (.slice none 0 0)) := BoxN.new 55 w hd0 (.slice none 0 0)
  have B0 : Hid (Below w.heap.size w (w.alloc (.cells (cN hd0 (.slice none 0 0)).toArray 55))) := (Below.refl _ _).alloc (Nat.le_refl _) _
  obtain ⟨h1, hv0⟩ := at1 s 92 d t' (by rw [hs, hlt])
  have hv : (s[1]'h1).toNat = d.toNat := by rw [hv0]
  have hz : ¬ (s.size : Int) < 2 := by omega
  have hdl := d.toNat_lt
  have e40 : ((d.toNat : Int) == 40) = false := ne8 d 40 h40
  have i49 : (49 : Int) ≤ (d.toNat : Int) := by omega
  have i57 : ¬ (d.toNat : Int) ≤ 57 := by omega
  have e110 : ((d.toNat : Int) == 110) = false := ne8 d 110 h110
  have IX : Hid (∀ w, Calls Try.prog 131 #[.string ⟨#[46, 91, 93, 42, 94, 36, 47, 92, 38, 45]⟩, .int .u8 (d.toNat : Int)] w fun e w' => ∃ r : Int, e = .returned (.int .i64 r) ∧ decide (0 ≤ r) = false ∧ w = w') := fun w => by have := index_lit d w; rwa [hin] at this
  clear hs hlt hv0
  go_enter Try.func119, Try.ntmps119
  go_wp2_with (first | (go_at_call 131; refine (IX.out _).mono ?_; rintro e w1 ⟨r, rfl, hr0, rfl⟩; have hr1 := of_decide_eq_false hr0; clear hr0)  | (refine storeB55 rfl _ _ rfl w.heap.size rfl hd0 (.slice none 0 0) rfl rfl hd0 _ Y0.out ?_))
  exact bodyPost_ret (v := .tuple #[vN hd0 (.slice none 0 0), .bool false]) (res55b 2 3 Try.results119 _ _ w.heap.size _ _ _ rfl rfl (BoxN.row Y0.out _ _)) rfl ⟨k, rfl, (HR.out.alloc _).row _ _ (by omega), grown_row (grown_below B0.out _) (Nat.le_refl _) _⟩
theorem pair_any {grp : Nat → List UInt8 → Except (List UInt8) (T × Nat × List UInt8)} {n : Nat} (hG : PatC grp n) (g k : Nat) (l t : List UInt8) (hlt : l = 92 :: t) (w : World) (hr : RG w g l k) (hn : l.length ≤ n) (hl : l.length ≤ 900000) (hM : MaxL w) (hg0 : 0 < g) (hk : k ≤ 9) :
    Calls Try.prog 119 #[.pointer (some ⟨g, 0, none⟩)] w (TreO (fun b => w.heap.size ≤ b) (pairP grp k l t) w g) := by
  match t, hlt with
  | [], hlt => exact pair_short _ g k l 92 hlt w hr
  | d :: t', hlt =>
    by_cases h40 : d = 40
    · have := pair_group hG g k l t' d hlt w hr hn hl hM hg0 hk h40
      rw [h40]; exact this
    · have hP : pairP grp k l (d :: t') = if 49 ≤ d.toNat ∧ d.toNat ≤ 57 then .ok (.mk (hBack ((d.toNat : Int) - 48)) [], k, t') else if d = 110 then .ok (.mk (hLit 10) [], k, t') else if litB.contains d then .ok (.mk (hLit d) [], k, t') else .error l := by
        show (if d = 40 then _ else _) = _
        rw [if_neg h40]
      rw [hP]
      by_cases h49 : 49 ≤ d.toNat ∧ d.toNat ≤ 57
      · rw [if_pos h49]; exact pair_back hG g k l t' d hlt w hr hn hl hM hg0 hk h40 h49.1 h49.2
      · rw [if_neg h49]
        by_cases h110 : d = 110
        · rw [if_pos h110]; exact pair_n hG g k l t' d hlt w hr hn hl hM hg0 hk h110
        · rw [if_neg h110]
          cases hin : litB.contains d with
          | true =>
            rw [if_pos rfl]
            by_cases hlo : d.toNat < 49
            · exact pair_lit_lo hG g k l t' d hlt w hr hn hl hM hg0 hk h40 hlo h110 hin
            · exact pair_lit_hi hG g k l t' d hlt w hr hn hl hM hg0 hk h40 (by omega) h110 hin
          | false =>
            rw [if_neg (by simp)]
            by_cases hlo : d.toNat < 49
            · exact pair_no_lo _ g k l t' d hlt w hr h40 hlo h110 hin
            · exact pair_no_hi _ g k l t' d hlt w hr h40 (by omega) h110 hin
end Go.Proofs.Ytndmjndokokmnaa
