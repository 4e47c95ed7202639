import Derived.Test.YtndmjndokokmnaaRh
namespace Go.Proofs.Ytndmjndokokmnaa
set_option linter.unusedSimpArgs false
set_option linter.unusedVariables false
open Go.RowKit
open Go.Deep
def brkP (k : Nat) (l t : List UInt8) : Except (List UInt8) (T × Nat × List UInt8) := match exprP t with
  | none => .error l
  | some (m, t') => .ok (.mk (hIn m) [], k, t')
set_option maxHeartbeats 2000000 in
set_option maxRecDepth 100000 in
theorem atom_pair {grp : Nat → List UInt8 → Except (List UInt8) (T × Nat × List UInt8)} {n : Nat} (hG : PatC grp n) (g k : Nat) (l t : List UInt8) (c : UInt8) (first : Bool) (hlt : l = c :: t) (w : World) (hr : RG w g l k) (hn : l.length ≤ n) (hl : l.length ≤ 900000) (hM : MaxL w) (hg0 : 0 < g) (hk : k ≤ 9) (hc0 : c = 92) :
    Calls Try.prog 105 #[.pointer (some ⟨g, 0, none⟩), .bool first] w (TreO (fun b => w.heap.size ≤ b) (pairP grp k l t) w g) := by
  have CALL : Hid (Calls Try.prog 119 #[.pointer (some ⟨g, 0, none⟩)] (w.alloc (.cells (cN hd0 (.slice none 0 0)).toArray 55)) fun e w' => ∃ h' u ok, e = .returned (.tuple #[vN h' u, .bool ok]) ∧ Sub (pairP grp k l t) w g h' u ok w') := (pair_any hG g k l t (by rw [hlt, hc0]) _ (hr.alloc _) hn hl (hM.alloc _) hg0 hk).mono fun e w' q => sub_of hr.lt q
  have HR : Hid (RG w g l k) := hr
  obtain ⟨s, hc, hs, hc1, hf, hf1, hg⟩ := hr
  obtain ⟨h1, hv0⟩ := at0 s c t (by rw [hs, hlt])
  have hv : (s[0]'h1).toNat = c.toNat := by rw [hv0]
  have hcl := c.toNat_lt
  have hsl : s.toList = l := by rw [Lib.toList_data, hs]
  have e92 : ((c.toNat : Int) == 92) = true := by rw [hc0]; rfl
  have e91 : ((c.toNat : Int) == 91) = false := by rw [hc0]; rfl
  have e10 : ((c.toNat : Int) == 10) = false := by rw [hc0]; rfl
  have e42 : ((c.toNat : Int) == 42) = false := by rw [hc0]; rfl
  have e46 : ((c.toNat : Int) == 46) = false := by rw [hc0]; rfl
  clear hG hs hlt hv0 hn hl hM hsl
  go_enter Try.func105, Try.ntmps105
  go_wp2_with (first | (go_at_call 119; refine CALL.out.mono ?_; rintro e w2 ⟨h', u, ok, rfl, sb⟩; have SB : Hid (Sub (pairP grp k l t) w g h' u ok w2) := sb; clear sb) | (refine storeB55 rfl _ _ rfl w.heap.size rfl h' u SB.out.one rfl hd0 _ SB.out.box ?_))
  exact bodyPost_ret (v := .tuple #[vN h' u, .bool ok]) (res55b 4 5 Try.results105 _ _ w.heap.size _ _ _ rfl rfl (BoxN.row SB.out.box _ _)) rfl (SB.out.fin hg)
set_option maxHeartbeats 2000000 in
set_option maxRecDepth 100000 in
theorem atom_set {grp : Nat → List UInt8 → Except (List UInt8) (T × Nat × List UInt8)} {n : Nat} (hG : PatC grp n) (g k : Nat) (l t : List UInt8) (c : UInt8) (first : Bool) (hlt : l = c :: t) (w : World) (hr : RG w g l k) (hn : l.length ≤ n) (hl : l.length ≤ 900000) (hM : MaxL w) (hg0 : 0 < g) (hk : k ≤ 9) (hc0 : c = 91) :
    Calls Try.prog 105 #[.pointer (some ⟨g, 0, none⟩), .bool first] w (TreO (fun b => w.heap.size ≤ b) (brkP k l t) w g) := by
  have CALL : Hid (Calls Try.prog 120 #[.pointer (some ⟨g, 0, none⟩)] (w.alloc (.cells (cN hd0 (.slice none 0 0)).toArray 55)) fun e w' => ∃ h' u ok, e = .returned (.tuple #[vN h' u, .bool ok]) ∧ Sub (brkP k l t) w g h' u ok w') := (bracket_any120 _ g k l t (by rw [hlt, hc0]) _ (hr.alloc _) (by omega) (hM.alloc _)).mono fun e w' q => sub_of hr.lt q
  have HR : Hid (RG w g l k) := hr
  obtain ⟨s, hc, hs, hc1, hf, hf1, hg⟩ := hr
  obtain ⟨h1, hv0⟩ := at0 s c t (by rw [hs, hlt])
  have hv : (s[0]'h1).toNat = c.toNat := by rw [hv0]
  have hcl := c.toNat_lt
  have hsl : s.toList = l := by rw [Lib.toList_data, hs]
  clear hsl
  have e92 : ((c.toNat : Int) == 92) = false := by rw [hc0]; rfl
  have e91 : ((c.toNat : Int) == 91) = true := by rw [hc0]; rfl
  have e10 : ((c.toNat : Int) == 10) = false := by rw [hc0]; rfl
  have e42 : ((c.toNat : Int) == 42) = false := by rw [hc0]; rfl
  have e46 : ((c.toNat : Int) == 46) = false := by rw [hc0]; rfl
  have hsl := hv
  clear hG hs hlt hv0 hn hl hM hsl
  go_enter Try.func105, Try.ntmps105
  go_wp2_with (first | (go_at_call 120; refine CALL.out.mono ?_; rintro e w2 ⟨h', u, ok, rfl, sb⟩; have SB : Hid (Sub (brkP k l t) w g h' u ok w2) := sb; clear sb) | (refine storeB55 rfl _ _ rfl w.heap.size rfl h' u SB.out.one rfl hd0 _ SB.out.box ?_))
  exact bodyPost_ret (v := .tuple #[vN h' u, .bool ok]) (res55b 4 5 Try.results105 _ _ w.heap.size _ _ _ rfl rfl (BoxN.row SB.out.box _ _)) rfl (SB.out.fin hg)
set_option maxHeartbeats 2000000 in
set_option maxRecDepth 100000 in
theorem atom_nl {grp : Nat → List UInt8 → Except (List UInt8) (T × Nat × List UInt8)} {n : Nat} (hG : PatC grp n) (g k : Nat) (l t : List UInt8) (c : UInt8) (first : Bool) (hlt : l = c :: t) (w : World) (hr : RG w g l k) (hn : l.length ≤ n) (hl : l.length ≤ 900000) (hM : MaxL w) (hg0 : 0 < g) (hk : k ≤ 9) (hc0 : c = 10) :
    Calls Try.prog 105 #[.pointer (some ⟨g, 0, none⟩), .bool first] w (TreO (fun b => w.heap.size ≤ b) (.error l) w g) := by
  have HR : Hid (RG w g l k) := hr
  obtain ⟨s, hc, hs, hc1, hf, hf1, hg⟩ := hr
  have Y0 : Hid (BoxN 55 (w.alloc (.cells (cN hd0 (.slice none 0 0)).toArray 55)) w.heap.size hd0 (.slice none 0 0)) := BoxN.new 55 w hd0 (.slice none 0 0)
  have B0 : Hid (Below w.heap.size w (w.alloc (.cells (cN hd0 (.slice none 0 0)).toArray 55))) := (Below.refl _ _).alloc (Nat.le_refl _) _
  obtain ⟨h1, hv0⟩ := at0 s c t (by rw [hs, hlt])
  have hv : (s[0]'h1).toNat = c.toNat := by rw [hv0]
  have hcl := c.toNat_lt
  have e92 : ((c.toNat : Int) == 92) = false := by rw [hc0]; rfl
  have e91 : ((c.toNat : Int) == 91) = false := by rw [hc0]; rfl
  have e10 : ((c.toNat : Int) == 10) = true := by rw [hc0]; rfl
  have e42 : ((c.toNat : Int) == 42) = false := by rw [hc0]; rfl
  have e46 : ((c.toNat : Int) == 46) = false := by rw [hc0]; rfl
  clear hG hs hlt hv0 hn hl hM
  go_enter Try.func105, Try.ntmps105
  go_wp2_with (refine storeB55 rfl _ _ rfl w.heap.size rfl hd0 (.slice none 0 0) rfl rfl hd0 _ Y0.out ?_)
  exact bodyPost_ret (v := .tuple #[vN hd0 (.slice none 0 0), .bool false]) (res55b 4 5 Try.results105 _ _ w.heap.size _ _ _ rfl rfl (BoxN.row Y0.out _ _)) rfl ⟨k, rfl, (HR.out.alloc _).row _ _ (by omega), grown_row (grown_below B0.out _) (Nat.le_refl _) _⟩
set_option maxHeartbeats 2000000 in
set_option maxRecDepth 100000 in
theorem atom_star {grp : Nat → List UInt8 → Except (List UInt8) (T × Nat × List UInt8)} {n : Nat} (hG : PatC grp n) (g k : Nat) (l t : List UInt8) (c : UInt8) (hlt : l = c :: t) (w : World) (hr : RG w g l k) (hn : l.length ≤ n) (hl : l.length ≤ 900000) (hM : MaxL w) (hg0 : 0 < g) (hk : k ≤ 9) (hc0 : c = 42) :
    Calls Try.prog 105 #[.pointer (some ⟨g, 0, none⟩), .bool false] w (TreO (fun b => w.heap.size ≤ b) (.error l) w g) := by
  have HR : Hid (RG w g l k) := hr
  obtain ⟨s, hc, hs, hc1, hf, hf1, hg⟩ := hr
  have Y0 : Hid (BoxN 55 (w.alloc (.cells (cN hd0 (.slice none 0 0)).toArray 55)) w.heap.size hd0 (.slice none 0 0)) := BoxN.new 55 w hd0 (.slice none 0 0)
  have B0 : Hid (Below w.heap.size w (w.alloc (.cells (cN hd0 (.slice none 0 0)).toArray 55))) := (Below.refl _ _).alloc (Nat.le_refl _) _
  obtain ⟨h1, hv0⟩ := at0 s c t (by rw [hs, hlt])
  have hv : (s[0]'h1).toNat = c.toNat := by rw [hv0]
  have hcl := c.toNat_lt
  have e92 : ((c.toNat : Int) == 92) = false := by rw [hc0]; rfl
  have e91 : ((c.toNat : Int) == 91) = false := by rw [hc0]; rfl
  have e10 : ((c.toNat : Int) == 10) = false := by rw [hc0]; rfl
  have e42 : ((c.toNat : Int) == 42) = true := by rw [hc0]; rfl
  have e46 : ((c.toNat : Int) == 46) = false := by rw [hc0]; rfl
  clear hG hs hlt hv0 hn hl hM
  go_enter Try.func105, Try.ntmps105
  go_wp2_with (refine storeB55 rfl _ _ rfl w.heap.size rfl hd0 (.slice none 0 0) rfl rfl hd0 _ Y0.out ?_)
  exact bodyPost_ret (v := .tuple #[vN hd0 (.slice none 0 0), .bool false]) (res55b 4 5 Try.results105 _ _ w.heap.size _ _ _ rfl rfl (BoxN.row Y0.out _ _)) rfl ⟨k, rfl, (HR.out.alloc _).row _ _ (by omega), grown_row (grown_below B0.out _) (Nat.le_refl _) _⟩
set_option maxHeartbeats 2000000 in
set_option maxRecDepth 100000 in
theorem atom_dot {grp : Nat → List UInt8 → Except (List UInt8) (T × Nat × List UInt8)} {n : Nat} (hG : PatC grp n) (g k : Nat) (l t : List UInt8) (c : UInt8) (first : Bool) (hlt : l = c :: t) (w : World) (hr : RG w g l k) (hn : l.length ≤ n) (hl : l.length ≤ 900000) (hM : MaxL w) (hg0 : 0 < g) (hk : k ≤ 9) (hc0 : c = 46) :
    Calls Try.prog 105 #[.pointer (some ⟨g, 0, none⟩), .bool first] w (TreO (fun b => w.heap.size ≤ b) (.ok (.mk (Hd.of 2) [], k, t)) w g) := by
  have CALL : Hid (Calls Try.prog 121 #[.pointer (some ⟨g, 0, none⟩), .int .i64 1, .agg #[.int .i64 2, .int .u8 0, .int .u64 0, .int .u64 0, .int .u64 0, .int .u64 0, .int .i64 0, .int .i64 0, .int .i64 0, .slice none 0 0]] (w.alloc (.cells (cN hd0 (.slice none 0 0)).toArray 55)) fun e w' => ∃ h' u ok, e = .returned (.tuple #[vN h' u, .bool ok]) ∧ Sub (.ok (.mk (Hd.of 2) [], k, t)) w g h' u ok w') := past_sub g k 1 l t (Hd.of 2) w hr (by rw [hlt]; simp) (by rw [hlt]; rfl) (by omega)
  have HR : Hid (RG w g l k) := hr
  obtain ⟨s, hc, hs, hc1, hf, hf1, hg⟩ := hr
  obtain ⟨h1, hv0⟩ := at0 s c t (by rw [hs, hlt])
  have hv : (s[0]'h1).toNat = c.toNat := by rw [hv0]
  have hcl := c.toNat_lt
  have hsl : s.toList = l := by rw [Lib.toList_data, hs]
  have e92 : ((c.toNat : Int) == 92) = false := by rw [hc0]; rfl
  have e91 : ((c.toNat : Int) == 91) = false := by rw [hc0]; rfl
  have e10 : ((c.toNat : Int) == 10) = false := by rw [hc0]; rfl
  have e42 : ((c.toNat : Int) == 42) = false := by rw [hc0]; rfl
  have e46 : ((c.toNat : Int) == 46) = true := by rw [hc0]; rfl
  clear hG hs hlt hv0 hn hl hM hsl
  go_enter Try.func105, Try.ntmps105
  go_wp2_with (first | (go_at_call 121; refine CALL.out.mono ?_; rintro e w2 ⟨h', u, ok, rfl, sb⟩; have SB : Hid (Sub (.ok (.mk (Hd.of 2) [], k, t)) w g h' u ok w2) := sb; clear sb) | (refine storeB55 rfl _ _ rfl w.heap.size rfl h' u SB.out.one rfl hd0 _ SB.out.box ?_))
  exact bodyPost_ret (v := .tuple #[vN h' u, .bool ok]) (res55b 4 5 Try.results105 _ _ w.heap.size _ _ _ rfl rfl (BoxN.row SB.out.box _ _)) rfl (SB.out.fin hg)
set_option maxHeartbeats 2000000 in
set_option maxRecDepth 100000 in
theorem atom_end1 {grp : Nat → List UInt8 → Except (List UInt8) (T × Nat × List UInt8)} {n : Nat} (hG : PatC grp n) (g k : Nat) (l t : List UInt8) (c : UInt8) (first : Bool) (hlt : l = c :: t) (w : World) (hr : RG w g l k) (hn : l.length ≤ n) (hl : l.length ≤ 900000) (hM : MaxL w) (hg0 : 0 < g) (hk : k ≤ 9) (hc0 : c = 36) (ht : t = []) :
    Calls Try.prog 105 #[.pointer (some ⟨g, 0, none⟩), .bool first] w (TreO (fun b => w.heap.size ≤ b) (.ok (.mk (Hd.of 5) [], k, t)) w g) := by
  have CALL : Hid (Calls Try.prog 121 #[.pointer (some ⟨g, 0, none⟩), .int .i64 1, .agg #[.int .i64 5, .int .u8 0, .int .u64 0, .int .u64 0, .int .u64 0, .int .u64 0, .int .i64 0, .int .i64 0, .int .i64 0, .slice none 0 0]] (w.alloc (.cells (cN hd0 (.slice none 0 0)).toArray 55)) fun e w' => ∃ h' u ok, e = .returned (.tuple #[vN h' u, .bool ok]) ∧ Sub (.ok (.mk (Hd.of 5) [], k, t)) w g h' u ok w') := past_sub g k 1 l t (Hd.of 5) w hr (by rw [hlt]; simp) (by rw [hlt]; rfl) (by omega)
  have HR : Hid (RG w g l k) := hr
  obtain ⟨s, hc, hs, hc1, hf, hf1, hg⟩ := hr
  obtain ⟨h1, hv0⟩ := at0 s c t (by rw [hs, hlt])
  have hv : (s[0]'h1).toNat = c.toNat := by rw [hv0]
  have hcl := c.toNat_lt
  have hsl : s.toList = l := by rw [Lib.toList_data, hs]
  have e92 : ((c.toNat : Int) == 92) = false := by rw [hc0]; rfl
  have e91 : ((c.toNat : Int) == 91) = false := by rw [hc0]; rfl
  have e10 : ((c.toNat : Int) == 10) = false := by rw [hc0]; rfl
  have e42 : ((c.toNat : Int) == 42) = false := by rw [hc0]; rfl
  have e46 : ((c.toNat : Int) == 46) = false := by rw [hc0]; rfl
  have tq : (s.toList == [36]) = true := by rw [hsl, hlt, hc0, ht]; rfl
  clear hG hs hlt hv0 hn hl hM hsl
  go_enter Try.func105, Try.ntmps105
  go_wp2_with (first | (go_at_call 121; refine CALL.out.mono ?_; rintro e w2 ⟨h', u, ok, rfl, sb⟩; have SB : Hid (Sub (.ok (.mk (Hd.of 5) [], k, t)) w g h' u ok w2) := sb; clear sb) | (refine storeB55 rfl _ _ rfl w.heap.size rfl h' u SB.out.one rfl hd0 _ SB.out.box ?_))
  exact bodyPost_ret (v := .tuple #[vN h' u, .bool ok]) (res55b 4 5 Try.results105 _ _ w.heap.size _ _ _ rfl rfl (BoxN.row SB.out.box _ _)) rfl (SB.out.fin hg)
set_option maxHeartbeats 2000000 in
set_option maxRecDepth 100000 in
theorem atom_end2 {grp : Nat → List UInt8 → Except (List UInt8) (T × Nat × List UInt8)} {n : Nat} (hG : PatC grp n) (g k : Nat) (l t : List UInt8) (c : UInt8) (first : Bool) (hlt : l = c :: t) (w : World) (hr : RG w g l k) (hn : l.length ≤ n) (hl : l.length ≤ 900000) (hM : MaxL w) (hg0 : 0 < g) (hk : k ≤ 9) (hc0 : c = 36) (ht : t ≠ []) (hp : pre [92, 41] t = true) :
    Calls Try.prog 105 #[.pointer (some ⟨g, 0, none⟩), .bool first] w (TreO (fun b => w.heap.size ≤ b) (.ok (.mk (Hd.of 5) [], k, t)) w g) := by
  have CALL : Hid (Calls Try.prog 121 #[.pointer (some ⟨g, 0, none⟩), .int .i64 1, .agg #[.int .i64 5, .int .u8 0, .int .u64 0, .int .u64 0, .int .u64 0, .int .u64 0, .int .i64 0, .int .i64 0, .int .i64 0, .slice none 0 0]] (w.alloc (.cells (cN hd0 (.slice none 0 0)).toArray 55)) fun e w' => ∃ h' u ok, e = .returned (.tuple #[vN h' u, .bool ok]) ∧ Sub (.ok (.mk (Hd.of 5) [], k, t)) w g h' u ok w') := past_sub g k 1 l t (Hd.of 5) w hr (by rw [hlt]; simp) (by rw [hlt]; rfl) (by omega)
  have HR : Hid (RG w g l k) := hr
  obtain ⟨s, hc, hs, hc1, hf, hf1, hg⟩ := hr
  obtain ⟨h1, hv0⟩ := at0 s c t (by rw [hs, hlt])
  have hv : (s[0]'h1).toNat = c.toNat := by rw [hv0]
  have hcl := c.toNat_lt
  have hsl : s.toList = l := by rw [Lib.toList_data, hs]
  have e92 : ((c.toNat : Int) == 92) = false := by rw [hc0]; rfl
  have e91 : ((c.toNat : Int) == 91) = false := by rw [hc0]; rfl
  have e10 : ((c.toNat : Int) == 10) = false := by rw [hc0]; rfl
  have e42 : ((c.toNat : Int) == 42) = false := by rw [hc0]; rfl
  have e46 : ((c.toNat : Int) == 46) = false := by rw [hc0]; rfl
  have tq : (s.toList == [36]) = false := by rw [hsl, hlt, beq_eq_false_iff_ne]; intro q; injection q with q1 q2; exact ht q2
  have BG : Hid (∀ W, RG W g l k → Calls Try.prog 92 #[.pointer (some ⟨g, 0, none⟩), .string ⟨#[36, 92, 41]⟩] W fun e w' => e = .returned (.bool true) ∧ W = w') := fun W hW => begins92 g k l ⟨#[36, 92, 41]⟩ true (by rw [hlt, hc0]; simpa [pre, List.isPrefixOf] using hp) W hW
  clear hG hs hlt hv0 hn hl hM hsl
  go_enter Try.func105, Try.ntmps105
  go_wp2_with (first | (go_at_call 92; refine (BG.out _ (HR.out.alloc _)).mono ?_; rintro e w1 ⟨rfl, rfl⟩) | (go_at_call 121; refine CALL.out.mono ?_; rintro e w2 ⟨h', u, ok, rfl, sb⟩; have SB : Hid (Sub (.ok (.mk (Hd.of 5) [], k, t)) w g h' u ok w2) := sb; clear sb) | (refine storeB55 rfl _ _ rfl w.heap.size rfl h' u SB.out.one rfl hd0 _ SB.out.box ?_))
  exact bodyPost_ret (v := .tuple #[vN h' u, .bool ok]) (res55b 4 5 Try.results105 _ _ w.heap.size _ _ _ rfl rfl (BoxN.row SB.out.box _ _)) rfl (SB.out.fin hg)
set_option maxHeartbeats 2000000 in
set_option maxRecDepth 100000 in
theorem atom_lit1 {grp : Nat → List UInt8 → Except (List UInt8) (T × Nat × List UInt8)} {n : Nat} (hG : PatC grp n) (g k : Nat) (l t : List UInt8) (c : UInt8) (hlt : l = c :: t) (w : World) (hr : RG w g l k) (hn : l.length ≤ n) (hl : l.length ≤ 900000) (hM : MaxL w) (hg0 : 0 < g) (hk : k ≤ 9) (hc0 : c = 42) :
    Calls Try.prog 105 #[.pointer (some ⟨g, 0, none⟩), .bool true] w (TreO (fun b => w.heap.size ≤ b) (.ok (.mk (hLit 42) [], k, t)) w g) := by
  have CALL : Hid (Calls Try.prog 121 #[.pointer (some ⟨g, 0, none⟩), .int .i64 1, .agg #[.int .i64 1, .int .u8 42, .int .u64 0, .int .u64 0, .int .u64 0, .int .u64 0, .int .i64 0, .int .i64 0, .int .i64 0, .slice none 0 0]] (w.alloc (.cells (cN hd0 (.slice none 0 0)).toArray 55)) fun e w' => ∃ h' u ok, e = .returned (.tuple #[vN h' u, .bool ok]) ∧ Sub (.ok (.mk (hLit 42) [], k, t)) w g h' u ok w') := past_sub g k 1 l t (hLit 42) w hr (by rw [hlt]; simp) (by rw [hlt]; rfl) (by omega)
  have HR : Hid (RG w g l k) := hr
  obtain ⟨s, hc, hs, hc1, hf, hf1, hg⟩ := hr
  obtain ⟨h1, hv0⟩ := at0 s c t (by rw [hs, hlt])
  have hv : (s[0]'h1).toNat = c.toNat := by rw [hv0]
  have hcl := c.toNat_lt
  have hsl : s.toList = l := by rw [Lib.toList_data, hs]
  have e92 : ((c.toNat : Int) == 92) = false := by rw [hc0]; rfl
  have e91 : ((c.toNat : Int) == 91) = false := by rw [hc0]; rfl
  have e10 : ((c.toNat : Int) == 10) = false := by rw [hc0]; rfl
  have e42 : ((c.toNat : Int) == 42) = true := by rw [hc0]; rfl
  have e46 : ((c.toNat : Int) == 46) = false := by rw [hc0]; rfl
  have he : ¬ (c = 36 ∧ (t = [] ∨ pre [92, 41] t = true)) := by rw [hc0]; rintro ⟨q, _⟩; cases q
  have tq : (s.toList == [36]) = false := by rw [hsl, hlt, beq_eq_false_iff_ne]; intro q; injection q with q1 q2; exact he ⟨q1, .inl q2⟩
  have BG : Hid (∀ W, RG W g l k → Calls Try.prog 92 #[.pointer (some ⟨g, 0, none⟩), .string ⟨#[36, 92, 41]⟩] W fun e w' => e = .returned (.bool false) ∧ W = w') := fun W hW => begins92 g k l ⟨#[36, 92, 41]⟩ false (by rw [hlt]; cases hq : pre (⟨#[36, 92, 41]⟩ : ByteArray).data.toList (c :: t) with | false => rfl | true => exact absurd hq (by simp [pre, List.isPrefixOf] at he ⊢; intro h; exact he h.symm |>.2)) W hW
  clear hG hs hlt hv0 hn hl hM hsl
  go_enter Try.func105, Try.ntmps105
  go_wp2_with (first | (go_at_call 92; refine (BG.out _ (HR.out.alloc _)).mono ?_; rintro e w1 ⟨rfl, rfl⟩) | (go_at_call 121; refine CALL.out.mono ?_; rintro e w2 ⟨h', u, ok, rfl, sb⟩; have SB : Hid (Sub (.ok (.mk (hLit 42) [], k, t)) w g h' u ok w2) := sb; clear sb) | (refine storeB55 rfl _ _ rfl w.heap.size rfl h' u SB.out.one rfl hd0 _ SB.out.box ?_))
  exact bodyPost_ret (v := .tuple #[vN h' u, .bool ok]) (res55b 4 5 Try.results105 _ _ w.heap.size _ _ _ rfl rfl (BoxN.row SB.out.box _ _)) rfl (SB.out.fin hg)
set_option maxHeartbeats 2000000 in
set_option maxRecDepth 100000 in
theorem atom_lit2 {grp : Nat → List UInt8 → Except (List UInt8) (T × Nat × List UInt8)} {n : Nat} (hG : PatC grp n) (g k : Nat) (l t : List UInt8) (c : UInt8) (first : Bool) (hlt : l = c :: t) (w : World) (hr : RG w g l k) (hn : l.length ≤ n) (hl : l.length ≤ 900000) (hM : MaxL w) (hg0 : 0 < g) (hk : k ≤ 9) (h92 : c ≠ 92) (h91 : c ≠ 91) (h10 : c ≠ 10) (h42 : c ≠ 42) (h46 : c ≠ 46) (he : ¬ (c = 36 ∧ (t = [] ∨ pre [92, 41] t = true))) :
    Calls Try.prog 105 #[.pointer (some ⟨g, 0, none⟩), .bool first] w (TreO (fun b => w.heap.size ≤ b) (.ok (.mk (hLit c) [], k, t)) w g) := by
  have CALL : Hid (Calls Try.prog 121 #[.pointer (some ⟨g, 0, none⟩), .int .i64 1, .agg #[.int .i64 1, .int .u8 (c.toNat : Int), .int .u64 0, .int .u64 0, .int .u64 0, .int .u64 0, .int .i64 0, .int .i64 0, .int .i64 0, .slice none 0 0]] (w.alloc (.cells (cN hd0 (.slice none 0 0)).toArray 55)) fun e w' => ∃ h' u ok, e = .returned (.tuple #[vN h' u, .bool ok]) ∧ Sub (.ok (.mk (hLit c) [], k, t)) w g h' u ok w') := past_sub g k 1 l t (hLit c) w hr (by rw [hlt]; simp) (by rw [hlt]; rfl) (by omega)
  have HR : Hid (RG w g l k) := hr
  obtain ⟨s, hc, hs, hc1, hf, hf1, hg⟩ := hr
  obtain ⟨h1, hv0⟩ := at0 s c t (by rw [hs, hlt])
  have hv : (s[0]'h1).toNat = c.toNat := by rw [hv0]
  have hcl := c.toNat_lt
  have hsl : s.toList = l := by rw [Lib.toList_data, hs]
  have e92 : ((c.toNat : Int) == 92) = false := ne8 c 92 h92
  have e91 : ((c.toNat : Int) == 91) = false := ne8 c 91 h91
  have e10 : ((c.toNat : Int) == 10) = false := ne8 c 10 h10
  have e42 : ((c.toNat : Int) == 42) = false := ne8 c 42 h42
  have e46 : ((c.toNat : Int) == 46) = false := ne8 c 46 h46
  have tq : (s.toList == [36]) = false := by rw [hsl, hlt, beq_eq_false_iff_ne]; intro q; injection q with q1 q2; exact he ⟨q1, .inl q2⟩
  have BG : Hid (∀ W, RG W g l k → Calls Try.prog 92 #[.pointer (some ⟨g, 0, none⟩), .string ⟨#[36, 92, 41]⟩] W fun e w' => e = .returned (.bool false) ∧ W = w') := fun W hW => begins92 g k l ⟨#[36, 92, 41]⟩ false (by rw [hlt]; cases hq : pre (⟨#[36, 92, 41]⟩ : ByteArray).data.toList (c :: t) with | false => rfl | true => exact absurd hq (by simp [pre, List.isPrefixOf] at he ⊢; intro h; exact he h.symm |>.2)) W hW
  clear hG hs hlt hv0 hn hl hM hsl
  go_enter Try.func105, Try.ntmps105
  go_wp2_with (first | (go_at_call 92; refine (BG.out _ (HR.out.alloc _)).mono ?_; rintro e w1 ⟨rfl, rfl⟩) | (go_at_call 121; refine CALL.out.mono ?_; rintro e w2 ⟨h', u, ok, rfl, sb⟩; have SB : Hid (Sub (.ok (.mk (hLit c) [], k, t)) w g h' u ok w2) := sb; clear sb) | (refine storeB55 rfl _ _ rfl w.heap.size rfl h' u SB.out.one rfl hd0 _ SB.out.box ?_))
  exact bodyPost_ret (v := .tuple #[vN h' u, .bool ok]) (res55b 4 5 Try.results105 _ _ w.heap.size _ _ _ rfl rfl (BoxN.row SB.out.box _ _)) rfl (SB.out.fin hg)
theorem atom_any {grp : Nat → List UInt8 → Except (List UInt8) (T × Nat × List UInt8)} {n : Nat} (hG : PatC grp n) (g k : Nat) (l : List UInt8) (first : Bool) (hl0 : l ≠ []) (w : World) (hr : RG w g l k) (hn : l.length ≤ n) (hl : l.length ≤ 900000) (hM : MaxL w) (hg0 : 0 < g) (hk : k ≤ 9) :
    Calls Try.prog 105 #[.pointer (some ⟨g, 0, none⟩), .bool first] w (TreO (fun b => w.heap.size ≤ b) (atomP grp first k l) w g) := by
  obtain ⟨c, t, hlt⟩ : ∃ c t, l = c :: t := by
    cases l with
    | nil => exact absurd rfl hl0
    | cons c t => exact ⟨c, t, rfl⟩
  have hA : atomP grp first k l = if c = 92 then pairP grp k l t
    else if c = 91 then (match exprP t with
      | none => .error l
      | some (m, t') => .ok (.mk (hIn m) [], k, t'))
    else if c = 10 ∨ (c = 42 ∧ first = false) then .error l
    else if c = 46 then .ok (.mk (Hd.of 2) [], k, t)
    else if c = 36 ∧ (t = [] ∨ pre [92, 41] t = true) then .ok (.mk (Hd.of 5) [], k, t)
    else .ok (.mk (hLit c) [], k, t) := by rw [hlt]; rfl
  rw [hA]
  by_cases h92 : c = 92
  · rw [if_pos h92]; exact atom_pair hG g k l t c first hlt w hr hn hl hM hg0 hk h92
  · rw [if_neg h92]
    by_cases h91 : c = 91
    · rw [if_pos h91]; exact atom_set hG g k l t c first hlt w hr hn hl hM hg0 hk h91
    · rw [if_neg h91]
      by_cases h10 : c = 10
      · rw [if_pos (.inl h10)]; exact atom_nl hG g k l t c first hlt w hr hn hl hM hg0 hk h10
      · by_cases h42 : c = 42
        · cases first with
          | false => rw [if_pos (.inr ⟨h42, rfl⟩)]; exact atom_star hG g k l t c hlt w hr hn hl hM hg0 hk h42
          | true =>
            rw [if_neg (by rintro (q | ⟨_, q⟩); exact h10 q; cases q), if_neg (by rw [h42]; decide), if_neg (by rw [h42]; rintro ⟨q, _⟩; cases q)]
            rw [show hLit c = hLit 42 by rw [h42]]
            exact atom_lit1 hG g k l t c hlt w hr hn hl hM hg0 hk h42
        · rw [if_neg (by rintro (q | ⟨q, _⟩); exact h10 q; exact h42 q)]
          by_cases h46 : c = 46
          · rw [if_pos h46]; exact atom_dot hG g k l t c first hlt w hr hn hl hM hg0 hk h46
          · rw [if_neg h46]
            by_cases he : c = 36 ∧ (t = [] ∨ pre [92, 41] t = true)
            · rw [if_pos he]
              by_cases ht : t = []
              · exact atom_end1 hG g k l t c first hlt w hr hn hl hM hg0 hk he.1 ht
              · exact atom_end2 hG g k l t c first hlt w hr hn hl hM hg0 hk he.1 ht (he.2.resolve_left ht)
            · rw [if_neg he]
              exact atom_lit2 hG g k l t c first hlt w hr hn hl hM hg0 hk h92 h91 h10 h42 h46 he
end Go.Proofs.Ytndmjndokokmnaa
