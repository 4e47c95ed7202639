import Derived.Test.YtplihbncmmggjaaDoorJa
namespace Go.Proofs.YtplihbncmmggjaaDoor
set_option linter.unusedSimpArgs false
set_option linter.unusedVariables false
open Go.RowKit
set_option maxHeartbeats 1000000 in
set_option maxRecDepth 100000 in
theorem rown_other (B g gm : Nat) (w0 w : World) (m : Msg) (st : Option (List Int)) (h1 : ¬ m.kind = 1) (h2 : ¬ m.kind = 2) (h3 : ¬ m.kind = 3) (h6 : ¬ m.kind = 6) (k : RW B w0 g gm m w st) : Calls Tryd.prog 92 #[.pointer (some ⟨g, 0, none⟩), .pointer (some ⟨gm, 0, none⟩)] w fun e w' => e = .returned (.tuple #[]) ∧ RW B w0 g gm (rownM st m) w' (rownS st m) := by
  have HX : Hid (rownM st m = m ∧ rownS st m = st) := by
    unfold Hid rownM rownS; rw [if_neg h1, if_neg h2, if_neg (by omega), if_neg h1, if_neg h2, if_neg (by omega)]; exact ⟨rfl, rfl⟩
  have K : Hid (RW B w0 g gm m w st) := k
  have c0 := row_cell k.box (mC_0 m)
  have z1 : (m.kind == 1) = false := by simpa using h1
  have z2 : (m.kind == 2) = false := by simpa using h2
  have z3 : (m.kind == 3) = false := by simpa using h3
  have z6 : (m.kind == 6) = false := by simpa using h6
  clear k h1 h2 h3 h6
  go_enter Tryd.func92, Tryd.ntmps92
  go_wp2
  exact fell Tryd.results92 rfl ⟨rfl, by rw [HX.out.1, HX.out.2]; exact K.out⟩
set_option maxHeartbeats 1000000 in
set_option maxRecDepth 100000 in
theorem rown_3 (B g gm : Nat) (w0 w : World) (m : Msg) (st : Option (List Int)) (hk : m.kind = 3) (k : RW B w0 g gm m w st) : Calls Tryd.prog 92 #[.pointer (some ⟨g, 0, none⟩), .pointer (some ⟨gm, 0, none⟩)] w fun e w' => e = .returned (.tuple #[]) ∧ RW B w0 g gm (rownM st m) w' (rownS st m) := by
  have HX : Hid (rownM st m = { m with commit := rtruthV st } ∧ rownS st m = rtruthSt st) := by
    unfold Hid rownM rownS; rw [if_neg (by omega), if_neg (by omega), if_pos (by omega), if_neg (by omega), if_neg (by omega), if_pos (by omega)]; exact ⟨rfl, rfl⟩
  have K : Hid (RW B w0 g gm m w st) := k
  have c0 := row_cell k.box (mC_0 m)
  rw [hk] at c0
  clear k hk
  go_enter Tryd.func92, Tryd.ntmps92
  go_wp2_with fail
  refine (rw_truth K.out).mono ?_
  rintro e W1 ⟨rfl, k1⟩
  have o1 := row_cell k1.box (mC_106 m k1.ok)
  have f1 : W1.frozen? ⟨gm, 106, none⟩ = false := unfrozen k1.box
  have K1 : Hid (RW B w0 g gm { m with commit := rtruthV st } (W1.setCell ⟨gm, 106, none⟩ (.bool (rtruthV st))) (rtruthSt st)) := k1.cell 106 _ (set_commit m k1.ok _) ⟨k1.ok.k, k1.ok.f, k1.ok.t, k1.ok.i, k1.ok.b, k1.ok.c, k1.ok.s, k1.ok.h, k1.ok.v, k1.ok.r, k1.ok.hb, k1.ok.vb, k1.ok.rb⟩
  clear k1 c0 K
  generalize rtruthV st = V at *
  go_wp2
  exact fell Tryd.results92 rfl ⟨rfl, by rw [HX.out.1, HX.out.2]; exact K1.out⟩
set_option maxHeartbeats 1000000 in
set_option maxRecDepth 100000 in
theorem rown_6 (B g gm : Nat) (w0 w : World) (m : Msg) (st : Option (List Int)) (hk : m.kind = 6) (k : RW B w0 g gm m w st) : Calls Tryd.prog 92 #[.pointer (some ⟨g, 0, none⟩), .pointer (some ⟨gm, 0, none⟩)] w fun e w' => e = .returned (.tuple #[]) ∧ RW B w0 g gm (rownM st m) w' (rownS st m) := by
  have HX : Hid (rownM st m = { m with commit := rtruthV st } ∧ rownS st m = rtruthSt st) := by
    unfold Hid rownM rownS; rw [if_neg (by omega), if_neg (by omega), if_pos (by omega), if_neg (by omega), if_neg (by omega), if_pos (by omega)]; exact ⟨rfl, rfl⟩
  have K : Hid (RW B w0 g gm m w st) := k
  have c0 := row_cell k.box (mC_0 m)
  rw [hk] at c0
  clear k hk
  go_enter Tryd.func92, Tryd.ntmps92
  go_wp2_with fail
  refine (rw_truth K.out).mono ?_
  rintro e W1 ⟨rfl, k1⟩
  have o1 := row_cell k1.box (mC_106 m k1.ok)
  have f1 : W1.frozen? ⟨gm, 106, none⟩ = false := unfrozen k1.box
  have K1 : Hid (RW B w0 g gm { m with commit := rtruthV st } (W1.setCell ⟨gm, 106, none⟩ (.bool (rtruthV st))) (rtruthSt st)) := k1.cell 106 _ (set_commit m k1.ok _) ⟨k1.ok.k, k1.ok.f, k1.ok.t, k1.ok.i, k1.ok.b, k1.ok.c, k1.ok.s, k1.ok.h, k1.ok.v, k1.ok.r, k1.ok.hb, k1.ok.vb, k1.ok.rb⟩
  clear k1 c0 K
  generalize rtruthV st = V at *
  go_wp2
  exact fell Tryd.results92 rfl ⟨rfl, by rw [HX.out.1, HX.out.2]; exact K1.out⟩
set_option maxHeartbeats 1000000 in
set_option maxRecDepth 100000 in
theorem rown_2n (B g gm : Nat) (w0 w : World) (m : Msg) (st : Option (List Int)) (hk : m.kind = 2) (hy : rtruthV st = false) (k : RW B w0 g gm m w st) : Calls Tryd.prog 92 #[.pointer (some ⟨g, 0, none⟩), .pointer (some ⟨gm, 0, none⟩)] w fun e w' => e = .returned (.tuple #[]) ∧ RW B w0 g gm (rownM st m) w' (rownS st m) := by
  have HX : Hid (rownM st m = { m with yes := false, code := rnumV (rtruthSt st) 1 } ∧ rownS st m = rnumSt (rtruthSt st) 1) := by
    unfold Hid rownM rownS; rw [if_neg (by omega), if_pos hk, hy, if_neg (by simp), if_neg (by omega), if_pos hk, if_neg (by simp)]; exact ⟨rfl, rfl⟩
  have K : Hid (RW B w0 g gm m w st) := k
  have c0 := row_cell k.box (mC_0 m)
  rw [hk] at c0
  clear k hk
  have T1 := rw_truth (st := st) K.out
  rw [hy] at T1
  have T1 : Hid (Calls Tryd.prog 97 #[.pointer (some ⟨g, 0, none⟩)] w fun e W' => e = .returned (.bool false) ∧ RW B w0 g gm m W' (rtruthSt st)) := T1
  clear hy
  generalize rtruthSt st = s1 at *
  go_enter Tryd.func92, Tryd.ntmps92
  go_wp2_with fail
  refine T1.out.mono ?_
  rintro e W1 ⟨rfl, k1⟩
  have o1 := row_cell k1.box (mC_40 m k1.ok)
  have f1 : W1.frozen? ⟨gm, 40, none⟩ = false := unfrozen k1.box
  have k1b : RW B w0 g gm { m with yes := false } (W1.setCell ⟨gm, 40, none⟩ (.bool false)) s1 := k1.cell 40 _ (set_yes m k1.ok _) ⟨k1.ok.k, k1.ok.f, k1.ok.t, k1.ok.i, k1.ok.b, k1.ok.c, k1.ok.s, k1.ok.h, k1.ok.v, k1.ok.r, k1.ok.hb, k1.ok.vb, k1.ok.rb⟩
  have K1 : Hid (RW B w0 g gm { m with yes := false } (W1.setCell ⟨gm, 40, none⟩ (.bool false)) s1) := k1b
  clear k1 k1b c0 K T1
  go_wp2_with fail
  refine (rw_num K1.out 1).mono ?_
  rintro e W2 ⟨rfl, k2⟩
  have bd := rnum64 K1.out.bst 1 1 rfl (by omega)
  have o2 := row_cell k2.box (mC_41 _ k2.ok)
  have f2 : W2.frozen? ⟨gm, 41, none⟩ = false := unfrozen k2.box
  have K2 : Hid (RW B w0 g gm { m with yes := false, code := rnumV s1 1 } (W2.setCell ⟨gm, 41, none⟩ (.int .i64 (rnumV s1 1))) (rnumSt s1 1)) := k2.cell 41 _ (set_code _ k2.ok _) ⟨k2.ok.k, k2.ok.f, k2.ok.t, k2.ok.i, k2.ok.b, by (show -9223372036854775808 ≤ rnumV s1 1 ∧ rnumV s1 1 ≤ 9223372036854775807); omega, k2.ok.s, k2.ok.h, k2.ok.v, k2.ok.r, k2.ok.hb, k2.ok.vb, k2.ok.rb⟩
  have hw : IntKind.i64.wrap (rnumV s1 1) = rnumV s1 1 := wrapI _ bd.1 (by omega)
  clear k2 K1 o1 f1
  generalize rnumV s1 1 = V at *
  go_wp2
  exact fell Tryd.results92 rfl ⟨rfl, by rw [HX.out.1, HX.out.2]; exact K2.out⟩
set_option maxHeartbeats 1000000 in
set_option maxRecDepth 100000 in
theorem rown_2y (B g gm : Nat) (w0 w : World) (m : Msg) (st : Option (List Int)) (hk : m.kind = 2) (hy : rtruthV st = true) (k : RW B w0 g gm m w st) : Calls Tryd.prog 92 #[.pointer (some ⟨g, 0, none⟩), .pointer (some ⟨gm, 0, none⟩)] w fun e w' => e = .returned (.tuple #[]) ∧ RW B w0 g gm (rownM st m) w' (rownS st m) := by
  have HX : Hid (rownM st m = { m with yes := true, vh := rhashV (rtruthSt st), vr := rhashV (takeSt (rtruthSt st) 32) } ∧ rownS st m = takeSt (takeSt (rtruthSt st) 32) 32) := by
    unfold Hid rownM rownS; rw [if_neg (by omega), if_pos hk, hy, if_pos rfl, if_neg (by omega), if_pos hk, if_pos rfl]; exact ⟨rfl, rfl⟩
  have K : Hid (RW B w0 g gm m w st) := k
  have c0 := row_cell k.box (mC_0 m)
  rw [hk] at c0
  clear k hk
  have T1 := rw_truth (st := st) K.out
  rw [hy] at T1
  have T1 : Hid (Calls Tryd.prog 97 #[.pointer (some ⟨g, 0, none⟩)] w fun e W' => e = .returned (.bool true) ∧ RW B w0 g gm m W' (rtruthSt st)) := T1
  clear hy
  generalize rtruthSt st = s1 at *
  have L1 : Hid ((rhashV s1).length = 32) := rhash_len s1
  have L2 : Hid ((rhashV (takeSt s1 32)).length = 32) := rhash_len _
  go_enter Tryd.func92, Tryd.ntmps92
  go_wp2_with fail
  refine T1.out.mono ?_
  rintro e W1 ⟨rfl, k1⟩
  have o1 := row_cell k1.box (mC_40 m k1.ok)
  have f1 : W1.frozen? ⟨gm, 40, none⟩ = false := unfrozen k1.box
  have k1b : RW B w0 g gm { m with yes := true } (W1.setCell ⟨gm, 40, none⟩ (.bool true)) s1 := k1.cell 40 _ (set_yes m k1.ok _) ⟨k1.ok.k, k1.ok.f, k1.ok.t, k1.ok.i, k1.ok.b, k1.ok.c, k1.ok.s, k1.ok.h, k1.ok.v, k1.ok.r, k1.ok.hb, k1.ok.vb, k1.ok.rb⟩
  have K1 : Hid (RW B w0 g gm { m with yes := true } (W1.setCell ⟨gm, 40, none⟩ (.bool true)) s1) := k1b
  have hb1 : Hid (Bytes (rhashV s1)) := rhash_bytes k1.bst
  clear k1 k1b c0 K T1
  go_wp2_with fail
  refine (rw_hash K1.out).mono ?_
  rintro e W2 ⟨rfl, k2⟩
  have hb2 : Hid (Bytes (rhashV (takeSt s1 32))) := rhash_bytes k2.bst
  generalize rhashV s1 = H1 at *
  have T2 : Hid (W2.there gm 42 32) := there_of k2.box 42 32 (by rw [mC_length _ k2.ok]; omega)
  have k2b : RW B w0 g gm { m with yes := true, vh := H1 } (W2.setCells gm 42 (vB H1).toList) (takeSt s1 32) := k2.cells 42 _ (by rw [mC_length _ k2.ok, vBl, L1.out]; omega) (set_vh _ k2.ok H1 L1.out) ⟨k2.ok.k, k2.ok.f, k2.ok.t, k2.ok.i, k2.ok.b, k2.ok.c, k2.ok.s, k2.ok.h, L1.out, k2.ok.r, k2.ok.hb, hb1.out, k2.ok.rb⟩
  have K2 : Hid (RW B w0 g gm { m with yes := true, vh := H1 } (W2.setCells gm 42 (vB H1).toList) (takeSt s1 32)) := k2b
  clear k2 k2b o1 f1
  generalize takeSt s1 32 = s2 at *
  go_wp2_with (first | (refine storeH rfl _ _ rfl gm 42 rfl H1 L1.out rfl T2.out ?_))
  refine (rw_hash K2.out).mono ?_
  rintro e W3 ⟨rfl, k3⟩
  generalize rhashV s2 = H2 at *
  have T3 : Hid (W3.there gm 74 32) := there_of k3.box 74 32 (by rw [mC_length _ k3.ok]; omega)
  have K3 : Hid (RW B w0 g gm { m with yes := true, vh := H1, vr := H2 } (W3.setCells gm 74 (vB H2).toList) (takeSt s2 32)) := k3.cells 74 _ (by rw [mC_length _ k3.ok, vBl, L2.out]; omega) (set_vr _ k3.ok H2 L2.out) ⟨k3.ok.k, k3.ok.f, k3.ok.t, k3.ok.i, k3.ok.b, k3.ok.c, k3.ok.s, k3.ok.h, k3.ok.v, L2.out, k3.ok.hb, k3.ok.vb, hb2.out⟩
  clear k3 K2
  go_wp2_with (first | (refine storeH rfl _ _ rfl gm 74 rfl H2 L2.out rfl T3.out ?_))
  exact fell Tryd.results92 rfl ⟨rfl, by rw [HX.out.1, HX.out.2]; exact K3.out⟩
set_option maxHeartbeats 2000000 in
set_option maxRecDepth 100000 in
theorem rown_1 (B g gm : Nat) (w0 w : World) (m : Msg) (st : Option (List Int)) (hk : m.kind = 1) (k : RW B w0 g gm m w st) : Calls Tryd.prog 92 #[.pointer (some ⟨g, 0, none⟩), .pointer (some ⟨gm, 0, none⟩)] w fun e w' => e = .returned (.tuple #[]) ∧ RW B w0 g gm (rownM st m) w' (rownS st m) := by
  have HX : Hid (rownM st m = { m with base := rnumV st 4, quiet := rtruthV (rnumSt st 4), ext := rtruthV (rtruthSt (rnumSt st 4)), hash := rhashV (rtruthSt (rtruthSt (rnumSt st 4))), s := strOfNums (rtextV (takeSt (rtruthSt (rtruthSt (rnumSt st 4))) 32)) } ∧ rownS st m = rtextSt (takeSt (rtruthSt (rtruthSt (rnumSt st 4))) 32)) := by
    unfold Hid rownM rownS; rw [if_pos hk, if_pos hk]; exact ⟨rfl, rfl⟩
  have K : Hid (RW B w0 g gm m w st) := k
  have c0 := row_cell k.box (mC_0 m)
  rw [hk] at c0
  clear k hk
  go_enter Tryd.func92, Tryd.ntmps92
  go_wp2_with fail
  refine (rw_num K.out 4).mono ?_
  rintro e W1 ⟨rfl, k1⟩
  have bd := rnum64 K.out.bst 4 4 rfl (by omega)
  have o1 := row_cell k1.box (mC_4 m)
  have f1 : W1.frozen? ⟨gm, 4, none⟩ = false := unfrozen k1.box
  have k1b : RW B w0 g gm { m with base := rnumV st 4 } (W1.setCell ⟨gm, 4, none⟩ (.int .u64 (rnumV st 4))) (rnumSt st 4) := k1.cell 4 _ (set_base m _) ⟨k1.ok.k, k1.ok.f, k1.ok.t, k1.ok.i, by (show 0 ≤ rnumV st 4 ∧ rnumV st 4 ≤ 18446744073709551615); omega, k1.ok.c, k1.ok.s, k1.ok.h, k1.ok.v, k1.ok.r, k1.ok.hb, k1.ok.vb, k1.ok.rb⟩
  generalize rnumV st 4 = v1 at *
  generalize rnumSt st 4 = s1 at *
  have K1 : Hid (RW B w0 g gm { m with base := v1 } (W1.setCell ⟨gm, 4, none⟩ (.int .u64 v1)) s1) := k1b
  clear k1 k1b c0 K bd
  go_wp2_with fail
  refine (rw_truth K1.out).mono ?_
  rintro e W2 ⟨rfl, k2⟩
  have o2 := row_cell k2.box (mC_6 _)
  have f2 : W2.frozen? ⟨gm, 6, none⟩ = false := unfrozen k2.box
  have k2b : RW B w0 g gm { m with base := v1, quiet := rtruthV s1 } (W2.setCell ⟨gm, 6, none⟩ (.bool (rtruthV s1))) (rtruthSt s1) := k2.cell 6 _ (set_quiet _ _) ⟨k2.ok.k, k2.ok.f, k2.ok.t, k2.ok.i, k2.ok.b, k2.ok.c, k2.ok.s, k2.ok.h, k2.ok.v, k2.ok.r, k2.ok.hb, k2.ok.vb, k2.ok.rb⟩
  generalize rtruthV s1 = v2 at *
  generalize rtruthSt s1 = s2 at *
  have K2 : Hid (RW B w0 g gm { m with base := v1, quiet := v2 } (W2.setCell ⟨gm, 6, none⟩ (.bool v2)) s2) := k2b
  clear k2 k2b K1 o1 f1
  go_wp2_with fail
  refine (rw_truth K2.out).mono ?_
  rintro e W3 ⟨rfl, k3⟩
  have o3 := row_cell k3.box (mC_7 _)
  have f3 : W3.frozen? ⟨gm, 7, none⟩ = false := unfrozen k3.box
  have k3b : RW B w0 g gm { m with base := v1, quiet := v2, ext := rtruthV s2 } (W3.setCell ⟨gm, 7, none⟩ (.bool (rtruthV s2))) (rtruthSt s2) := k3.cell 7 _ (set_ext _ _) ⟨k3.ok.k, k3.ok.f, k3.ok.t, k3.ok.i, k3.ok.b, k3.ok.c, k3.ok.s, k3.ok.h, k3.ok.v, k3.ok.r, k3.ok.hb, k3.ok.vb, k3.ok.rb⟩
  generalize rtruthV s2 = v3 at *
  generalize rtruthSt s2 = s3 at *
  have K3 : Hid (RW B w0 g gm { m with base := v1, quiet := v2, ext := v3 } (W3.setCell ⟨gm, 7, none⟩ (.bool v3)) s3) := k3b
  clear k3 k3b K2 o2 f2
  go_wp2_with fail
  refine (rw_hash K3.out).mono ?_
  rintro e W4 ⟨rfl, k4⟩
  have hb4 := rhash_bytes K3.out.bst
  have L4 : Hid ((rhashV s3).length = 32) := rhash_len s3
  generalize rhashV s3 = H4 at *
  have T4 : Hid (W4.there gm 8 32) := there_of k4.box 8 32 (by rw [mC_length _ k4.ok]; omega)
  have k4b : RW B w0 g gm { m with base := v1, quiet := v2, ext := v3, hash := H4 } (W4.setCells gm 8 (vB H4).toList) (takeSt s3 32) := k4.cells 8 _ (by rw [mC_length _ k4.ok, vBl, L4.out]; omega) (set_hash _ k4.ok H4 L4.out) ⟨k4.ok.k, k4.ok.f, k4.ok.t, k4.ok.i, k4.ok.b, k4.ok.c, k4.ok.s, L4.out, k4.ok.v, k4.ok.r, hb4, k4.ok.vb, k4.ok.rb⟩
  generalize takeSt s3 32 = s4 at *
  have K4 : Hid (RW B w0 g gm { m with base := v1, quiet := v2, ext := v3, hash := H4 } (W4.setCells gm 8 (vB H4).toList) s4) := k4b
  clear k4 k4b K3 o3 f3 hb4
  go_wp2_with (first | (refine storeH rfl _ _ rfl gm 8 rfl H4 L4.out rfl T4.out ?_))
  refine (rw_text K4.out).mono ?_
  rintro e W5 ⟨rfl, k5⟩
  have tl := rtext_le K4.out.bst
  have o5 := row_cell k5.box (mC_5 _)
  have f5 : W5.frozen? ⟨gm, 5, none⟩ = false := unfrozen k5.box
  have K5 : Hid (RW B w0 g gm { m with base := v1, quiet := v2, ext := v3, hash := H4, s := strOfNums (rtextV s4) } (W5.setCell ⟨gm, 5, none⟩ (.string (strOfNums (rtextV s4)))) (rtextSt s4)) := k5.cell 5 _ (set_s _ _) ⟨k5.ok.k, k5.ok.f, k5.ok.t, k5.ok.i, k5.ok.b, k5.ok.c, by (show (strOfNums (rtextV s4)).size ≤ 9223372036854775807); rw [strOfNums_size]; omega, k5.ok.h, k5.ok.v, k5.ok.r, k5.ok.hb, k5.ok.vb, k5.ok.rb⟩
  clear k5 K4 tl T4
  generalize strOfNums (rtextV s4) = S5 at *
  go_wp2
  exact fell Tryd.results92 rfl ⟨rfl, by rw [HX.out.1, HX.out.2]; exact K5.out⟩
theorem rown_any (B g gm : Nat) (w0 w : World) (m : Msg) (st : Option (List Int)) (k : RW B w0 g gm m w st) : Calls Tryd.prog 92 #[.pointer (some ⟨g, 0, none⟩), .pointer (some ⟨gm, 0, none⟩)] w fun e w' => e = .returned (.tuple #[]) ∧ RW B w0 g gm (rownM st m) w' (rownS st m) := by
  by_cases h1 : m.kind = 1
  · exact rown_1 B g gm w0 w m st h1 k
  by_cases h2 : m.kind = 2
  · cases hy : rtruthV st with
    | true => exact rown_2y B g gm w0 w m st h2 hy k
    | false => exact rown_2n B g gm w0 w m st h2 hy k
  by_cases h3 : m.kind = 3
  · exact rown_3 B g gm w0 w m st h3 k
  by_cases h6 : m.kind = 6
  · exact rown_6 B g gm w0 w m st h6 k
  exact rown_other B g gm w0 w m st h1 h2 h3 h6 k
end Go.Proofs.YtplihbncmmggjaaDoor
