import Derived.Test.YtndmjndokokmnaaXc
namespace Go.Proofs.Ytndmjndokokmnaa
set_option linter.unusedSimpArgs false
set_option linter.unusedVariables false
open Go.RowKit
theorem sign_none (g : Nat) (l : List UInt8) (h : signP l = none) :
    Hid (∀ w, RB w g l → Calls Try.prog 100 #[.pointer (some ⟨g, 0, none⟩)] w fun e w' => ∃ (c : Nat) (l' : List UInt8), c < 256 ∧ e = .returned (.tuple #[.int .u8 c, .bool false]) ∧ RB w' g l' ∧ w.grownBy w' (some g)) := fun w r => (sign_any g l w r).mono fun e w' ⟨c, ok, l', he, r', gr, h1, h2⟩ => by
  rw [h] at h1
  cases ok
  · exact ⟨c.toNat, l', c.toNat_lt, he, r', gr⟩
  · cases h1
theorem sign_some (g : Nat) (l : List UInt8) (c : UInt8) (t : List UInt8) (h : signP l = some (c, t)) :
    Hid (∀ w, RB w g l → Calls Try.prog 100 #[.pointer (some ⟨g, 0, none⟩)] w fun e w' => e = .returned (.tuple #[.int .u8 (c.toNat : Int), .bool true]) ∧ RB w' g t ∧ w.grownBy w' (some g)) := fun w r => (sign_any g l w r).mono fun e w' ⟨c', ok, l', he, r', gr, h1, h2⟩ => by
  rw [h] at h1 h2
  cases ok
  · cases h1
  · have := h2 rfl
    simp only [Option.some.injEq, Prod.mk.injEq] at this
    obtain ⟨rfl, rfl⟩ := this
    exact ⟨he, r', gr⟩
theorem byte_any (g : Nat) (l : List UInt8) (p : ByteArray) :
    Hid (∀ w, RB w g l → Calls Try.prog 98 #[.pointer (some ⟨g, 0, none⟩), .string p] w (ByteO (byteA p.data.toList l) w g)) := fun w h => byteAhead_any g l p w h
theorem with_zero (f t : Nat) (hf : f < 256) (ht : t < 256) :
    Hid (∀ w, Calls Try.prog 21 #[.agg #[.int .u64 0, .int .u64 0, .int .u64 0, .int .u64 0], .int .u8 f, .int .u8 t] w fun e w' => ∃ y0 y1 y2 y3, e = .returned (.agg #[.int .u64 y0, .int .u64 y1, .int .u64 y2, .int .u64 y3]) ∧ S4V (S4.zero.rng f t) y0 y1 y2 y3 ∧ Below w.heap.size w w') := fun w => with_any14 S4.zero f t hf ht 0 0 0 0 S4V.nought w
set_option maxHeartbeats 2000000 in
set_option maxRecDepth 100000 in
theorem member_eq (g : Nat) (l : List UInt8) (w : World) (h : RB w g l) (hM : MaxL w) (hl : l.length ≤ 4000000) (hg0 : 0 < g) (h1 : pre [91, 61] l = true) :
    Calls Try.prog 78 #[.pointer (some ⟨g, 0, none⟩)] w (SetO (memberP l) w g) := by
  have ST0 : Hid (St w (w.alloc (.cells #[.int .u64 0, .int .u64 0, .int .u64 0, .int .u64 0] 26)) g l) := St.start h hM hg0 26
  have G1 := skip_hit g l ⟨#[91, 61]⟩ h1
  have G2 := byte_any g (l.drop 2) ⟨#[61, 93]⟩
  have HE : Hid (memberP l = (byteA [61, 93] (l.drop 2)).map (fun x => (S4.zero.rng x.1.toNat x.1.toNat, x.2))) := by unfold Hid memberP; rw [if_pos h1]
  rw [HE.out]
  clear h hM hl h1 HE
  go_enter Try.func78, Try.ntmps78
  go_wp2_with fail
  refine (G1.out _ ST0.out.rb).mono ?_
  rintro e w1 ⟨rfl, r, gr⟩
  have ST1 : Hid (St w w1 g (l.drop 2)) := ST0.out.grown r gr
  clear r gr
  go_wp2_with fail
  refine (G2.out _ ST1.out.rb).mono ?_
  rintro e w2 ⟨c, ok, l', rfl, r, gr, h5, h6⟩
  have ST2 : Hid (St w w2 g l') := ST1.out.grown r gr
  have H5 : Hid ((byteA [61, 93] (l.drop 2)).isSome = ok ∧ (ok = true → byteA [61, 93] (l.drop 2) = some (c, l'))) := ⟨h5, h6⟩
  have hcl := c.toNat_lt
  have G3 := with_zero c.toNat c.toNat hcl hcl
  clear r gr h5 h6 hcl
  go_wp2_with fail
  refine (G3.out _).mono ?_
  rintro e w3 ⟨y0, y1, y2, y3, rfl, sv, b2⟩
  have ST3 : Hid (St w w3 g (l')) := ST2.out.below b2
  have HSV := (show Hid _ from sv)
  clear sv b2
  obtain ⟨⟨ca, cb, cc, cd⟩, fa, fb, fc, fd⟩ := id ST3.out.box
  go_wp2
  refine bodyPost_ret (v := .tuple #[.agg #[.int .u64 y0, .int .u64 y1, .int .u64 y2, .int .u64 y3], .bool ok]) (by simp [results, Try.results78, go_sem, ca, cb, cc, cd, fa, fb, fc, fd]) rfl ⟨y0, y1, y2, y3, ok, l', rfl, (ST3.out.put _ _ _ _).1, (ST3.out.put _ _ _ _).2, ?_, fun hq => ?_⟩
  · rw [Option.isSome_map]; exact H5.out.1
  · rw [H5.out.2 hq]; exact ⟨_, rfl, HSV.out⟩
set_option maxHeartbeats 2000000 in
set_option maxRecDepth 100000 in
theorem member_class (g : Nat) (l : List UInt8) (w : World) (h : RB w g l) (hM : MaxL w) (hl : l.length ≤ 4000000) (hg0 : 0 < g) (h1 : pre [91, 61] l = false) (h2 : pre [91, 58] l = true) :
    Calls Try.prog 78 #[.pointer (some ⟨g, 0, none⟩)] w (SetO (memberP l) w g) := by
  have ST0 : Hid (St w (w.alloc (.cells #[.int .u64 0, .int .u64 0, .int .u64 0, .int .u64 0] 26)) g l) := St.start h hM hg0 26
  have G1 := skip_miss g l ⟨#[91, 61]⟩ h1
  have G2 := skip_hit g l ⟨#[91, 58]⟩ h2
  have hl2 : (l.drop 2).length ≤ 4000000 := by rw [List.length_drop]; omega
  have G3 : Hid (∀ W, RB W g (l.drop 2) → MaxL W → Calls Try.prog 99 #[.pointer (some ⟨g, 0, none⟩)] W (SetO (classP (l.drop 2)) W g)) := fun W r m => class_rd g (l.drop 2) W r m hl2 hg0
  have HE : Hid (memberP l = classP (l.drop 2)) := by unfold Hid memberP; rw [h1, if_neg (by simp), if_pos h2]
  rw [HE.out]
  clear h hM hl hl2 h1 h2 HE
  go_enter Try.func78, Try.ntmps78
  go_wp2_with fail
  refine (G1.out _ ST0.out.rb).mono ?_
  rintro e w1 ⟨rfl, r, gr⟩
  have ST1 : Hid (St w w1 g (l)) := ST0.out.grown r gr
  clear r gr
  go_wp2_with fail
  refine (G2.out _ ST1.out.rb).mono ?_
  rintro e w2 ⟨rfl, r, gr⟩
  have ST2 : Hid (St w w2 g (l.drop 2)) := ST1.out.grown r gr
  clear r gr
  go_wp2_with fail
  refine (G3.out _ ST2.out.rb ST2.out.max).mono ?_
  rintro e w3 ⟨y0, y1, y2, y3, ok, l', rfl, r, gr, h5⟩
  have ST3 : Hid (St w w3 g l') := ST2.out.grown r gr
  have H5 := (show Hid _ from h5)
  clear r gr h5
  obtain ⟨⟨ca, cb, cc, cd⟩, fa, fb, fc, fd⟩ := id ST3.out.box
  go_wp2
  exact bodyPost_ret (v := .tuple #[.agg #[.int .u64 y0, .int .u64 y1, .int .u64 y2, .int .u64 y3], .bool ok]) (by simp [results, Try.results78, go_sem, ca, cb, cc, cd, fa, fb, fc, fd]) rfl ⟨y0, y1, y2, y3, ok, l', rfl, (ST3.out.put _ _ _ _).1, (ST3.out.put _ _ _ _).2, H5.out⟩
set_option maxHeartbeats 2000000 in
set_option maxRecDepth 100000 in
theorem member_none (g : Nat) (l : List UInt8) (w : World) (h : RB w g l) (hM : MaxL w) (hl : l.length ≤ 4000000) (hg0 : 0 < g) (h1 : pre [91, 61] l = false) (h2 : pre [91, 58] l = false) (hs : signP l = none) :
    Calls Try.prog 78 #[.pointer (some ⟨g, 0, none⟩)] w (SetO (memberP l) w g) := by
  have ST0 : Hid (St w (w.alloc (.cells #[.int .u64 0, .int .u64 0, .int .u64 0, .int .u64 0] 26)) g l) := St.start h hM hg0 26
  have G1 := skip_miss g l ⟨#[91, 61]⟩ h1
  have G2 := skip_miss g l ⟨#[91, 58]⟩ h2
  have G3 := sign_none g l hs
  have HE : Hid (memberP l = none) := by unfold Hid memberP; rw [h1, h2, hs]; rfl
  rw [HE.out]
  clear h hM hl h1 h2 hs HE
  go_enter Try.func78, Try.ntmps78
  go_wp2_with fail
  refine (G1.out _ ST0.out.rb).mono ?_
  rintro e w1 ⟨rfl, r, gr⟩
  have ST1 : Hid (St w w1 g (l)) := ST0.out.grown r gr
  clear r gr
  go_wp2_with fail
  refine (G2.out _ ST1.out.rb).mono ?_
  rintro e w2 ⟨rfl, r, gr⟩
  have ST2 : Hid (St w w2 g (l)) := ST1.out.grown r gr
  clear r gr
  go_wp2_with fail
  refine (G3.out _ ST2.out.rb).mono ?_
  rintro e w3 ⟨cx, lx, hcx, rfl, r, gr⟩
  have ST3 : Hid (St w w3 g lx) := ST2.out.grown r gr
  clear r gr
  obtain ⟨⟨ca, cb, cc, cd⟩, fa, fb, fc, fd⟩ := id ST3.out.box
  go_wp2
  exact bodyPost_ret (v := .tuple #[.agg #[.int .u64 0, .int .u64 0, .int .u64 0, .int .u64 0], .bool false]) (by simp [results, Try.results78, go_sem, ca, cb, cc, cd, fa, fb, fc, fd]) rfl ⟨0, 0, 0, 0, false, lx, rfl, (ST3.out.put _ _ _ _).1, (ST3.out.put _ _ _ _).2, rfl, fun q => by cases q⟩
set_option maxHeartbeats 2000000 in
set_option maxRecDepth 100000 in
theorem member_a (g : Nat) (l : List UInt8) (w : World) (h : RB w g l) (hM : MaxL w) (hl : l.length ≤ 4000000) (hg0 : 0 < g) (h1 : pre [91, 61] l = false) (h2 : pre [91, 58] l = false) (f : UInt8) (t : List UInt8) (hs : signP l = some (f, t)) (h3 : pre [45, 93] t = true) :
    Calls Try.prog 78 #[.pointer (some ⟨g, 0, none⟩)] w (SetO (memberP l) w g) := by
  have ST0 : Hid (St w (w.alloc (.cells #[.int .u64 0, .int .u64 0, .int .u64 0, .int .u64 0] 26)) g l) := St.start h hM hg0 26
  have G1 := skip_miss g l ⟨#[91, 61]⟩ h1
  have G2 := skip_miss g l ⟨#[91, 58]⟩ h2
  have G3 := sign_some g l f t hs
  have HE : Hid (memberP l = tailP f t) := by unfold Hid memberP; rw [h1, h2, hs]; rfl
  rw [HE.out]
  have hfl := f.toNat_lt
  have G4 := begins_bool g t ⟨#[45, 93]⟩ true h3
  have G5 := with_zero f.toNat f.toNat hfl hfl
  have HT : Hid (tailP f t = some (S4.zero.rng f.toNat f.toNat, t)) := by unfold Hid tailP; rw [h3]; rfl
  rw [HT.out]
  clear h hM hl h1 h2 hs HE HT
  clear h3
  go_enter Try.func78, Try.ntmps78
  go_wp2_with fail
  refine (G1.out _ ST0.out.rb).mono ?_
  rintro e w1 ⟨rfl, r, gr⟩
  have ST1 : Hid (St w w1 g (l)) := ST0.out.grown r gr
  clear r gr
  go_wp2_with fail
  refine (G2.out _ ST1.out.rb).mono ?_
  rintro e w2 ⟨rfl, r, gr⟩
  have ST2 : Hid (St w w2 g (l)) := ST1.out.grown r gr
  clear r gr
  go_wp2_with fail
  refine (G3.out _ ST2.out.rb).mono ?_
  rintro e w3 ⟨rfl, r, gr⟩
  have ST3 : Hid (St w w3 g (t)) := ST2.out.grown r gr
  clear r gr
  go_wp2_with fail
  refine (G4.out _ ST3.out.rb).mono ?_
  rintro e w' ⟨rfl, hww⟩
  subst hww
  go_wp2_with fail
  refine (G5.out _).mono ?_
  rintro e w4b ⟨y0, y1, y2, y3, rfl, sv, b2⟩
  have ST4 : Hid (St w w4b g (t)) := ST3.out.below b2
  have HSV := (show Hid _ from sv)
  clear sv b2
  obtain ⟨⟨ca, cb, cc, cd⟩, fa, fb, fc, fd⟩ := id ST4.out.box
  go_wp2
  exact bodyPost_ret (v := .tuple #[.agg #[.int .u64 y0, .int .u64 y1, .int .u64 y2, .int .u64 y3], .bool true]) (by simp [results, Try.results78, go_sem, ca, cb, cc, cd, fa, fb, fc, fd]) rfl ⟨y0, y1, y2, y3, true, t, rfl, (ST4.out.put _ _ _ _).1, (ST4.out.put _ _ _ _).2, rfl, fun _ => ⟨_, rfl, HSV.out⟩⟩
set_option maxHeartbeats 2000000 in
set_option maxRecDepth 100000 in
theorem member_b (g : Nat) (l : List UInt8) (w : World) (h : RB w g l) (hM : MaxL w) (hl : l.length ≤ 4000000) (hg0 : 0 < g) (h1 : pre [91, 61] l = false) (h2 : pre [91, 58] l = false) (f : UInt8) (t : List UInt8) (hs : signP l = some (f, t)) (h3 : pre [45, 93] t = false) (h4 : pre [45] t = false) :
    Calls Try.prog 78 #[.pointer (some ⟨g, 0, none⟩)] w (SetO (memberP l) w g) := by
  have ST0 : Hid (St w (w.alloc (.cells #[.int .u64 0, .int .u64 0, .int .u64 0, .int .u64 0] 26)) g l) := St.start h hM hg0 26
  have G1 := skip_miss g l ⟨#[91, 61]⟩ h1
  have G2 := skip_miss g l ⟨#[91, 58]⟩ h2
  have G3 := sign_some g l f t hs
  have HE : Hid (memberP l = tailP f t) := by unfold Hid memberP; rw [h1, h2, hs]; rfl
  rw [HE.out]
  have hfl := f.toNat_lt
  have G4 := begins_bool g t ⟨#[45, 93]⟩ false h3
  have G6 := skip_miss g t ⟨#[45]⟩ h4
  have G5 := with_zero f.toNat f.toNat hfl hfl
  have HT : Hid (tailP f t = some (S4.zero.rng f.toNat f.toNat, t)) := by unfold Hid tailP; rw [h3, h4]; rfl
  rw [HT.out]
  clear h hM hl h1 h2 hs HE HT
  clear h3 h4
  go_enter Try.func78, Try.ntmps78
  go_wp2_with fail
  refine (G1.out _ ST0.out.rb).mono ?_
  rintro e w1 ⟨rfl, r, gr⟩
  have ST1 : Hid (St w w1 g (l)) := ST0.out.grown r gr
  clear r gr
  go_wp2_with fail
  refine (G2.out _ ST1.out.rb).mono ?_
  rintro e w2 ⟨rfl, r, gr⟩
  have ST2 : Hid (St w w2 g (l)) := ST1.out.grown r gr
  clear r gr
  go_wp2_with fail
  refine (G3.out _ ST2.out.rb).mono ?_
  rintro e w3 ⟨rfl, r, gr⟩
  have ST3 : Hid (St w w3 g (t)) := ST2.out.grown r gr
  clear r gr
  go_wp2_with fail
  refine (G4.out _ ST3.out.rb).mono ?_
  rintro e w' ⟨rfl, hww⟩
  subst hww
  go_wp2_with fail
  refine (G6.out _ ST3.out.rb).mono ?_
  rintro e w4b ⟨rfl, r, gr⟩
  have ST4 : Hid (St w w4b g (t)) := ST3.out.grown r gr
  clear r gr
  go_wp2_with fail
  refine (G5.out _).mono ?_
  rintro e w5 ⟨y0, y1, y2, y3, rfl, sv, b2⟩
  have ST5 : Hid (St w w5 g (t)) := ST4.out.below b2
  have HSV := (show Hid _ from sv)
  clear sv b2
  obtain ⟨⟨ca, cb, cc, cd⟩, fa, fb, fc, fd⟩ := id ST5.out.box
  go_wp2
  exact bodyPost_ret (v := .tuple #[.agg #[.int .u64 y0, .int .u64 y1, .int .u64 y2, .int .u64 y3], .bool true]) (by simp [results, Try.results78, go_sem, ca, cb, cc, cd, fa, fb, fc, fd]) rfl ⟨y0, y1, y2, y3, true, t, rfl, (ST5.out.put _ _ _ _).1, (ST5.out.put _ _ _ _).2, rfl, fun _ => ⟨_, rfl, HSV.out⟩⟩
set_option maxHeartbeats 2000000 in
set_option maxRecDepth 100000 in
theorem member_c (g : Nat) (l : List UInt8) (w : World) (h : RB w g l) (hM : MaxL w) (hl : l.length ≤ 4000000) (hg0 : 0 < g) (h1 : pre [91, 61] l = false) (h2 : pre [91, 58] l = false) (f : UInt8) (t : List UInt8) (hs : signP l = some (f, t)) (h3 : pre [45, 93] t = false) (h4 : pre [45] t = true) (mb : Bool) (h5 : pre [45] (t.drop 1) = mb) (h6 : signP (t.drop 1) = none) :
    Calls Try.prog 78 #[.pointer (some ⟨g, 0, none⟩)] w (SetO (memberP l) w g) := by
  have ST0 : Hid (St w (w.alloc (.cells #[.int .u64 0, .int .u64 0, .int .u64 0, .int .u64 0] 26)) g l) := St.start h hM hg0 26
  have G1 := skip_miss g l ⟨#[91, 61]⟩ h1
  have G2 := skip_miss g l ⟨#[91, 58]⟩ h2
  have G3 := sign_some g l f t hs
  have HE : Hid (memberP l = tailP f t) := by unfold Hid memberP; rw [h1, h2, hs]; rfl
  rw [HE.out]
  have hfl := f.toNat_lt
  have G4 := begins_bool g t ⟨#[45, 93]⟩ false h3
  have G6 := skip_hit g t ⟨#[45]⟩ h4
  have G7 := begins_bool g (t.drop 1) ⟨#[45]⟩ mb h5
  have G8 := sign_none g (t.drop 1) h6
  have HT : Hid (tailP f t = none) := by unfold Hid tailP; rw [h3, h4, h6]; rfl
  rw [HT.out]
  clear h hM hl h1 h2 hs HE HT h3 h4 h5 h6
  go_enter Try.func78, Try.ntmps78
  go_wp2_with fail
  refine (G1.out _ ST0.out.rb).mono ?_
  rintro e w1 ⟨rfl, r, gr⟩
  have ST1 : Hid (St w w1 g (l)) := ST0.out.grown r gr
  clear r gr
  go_wp2_with fail
  refine (G2.out _ ST1.out.rb).mono ?_
  rintro e w2 ⟨rfl, r, gr⟩
  have ST2 : Hid (St w w2 g (l)) := ST1.out.grown r gr
  clear r gr
  go_wp2_with fail
  refine (G3.out _ ST2.out.rb).mono ?_
  rintro e w3 ⟨rfl, r, gr⟩
  have ST3 : Hid (St w w3 g (t)) := ST2.out.grown r gr
  clear r gr
  go_wp2_with fail
  refine (G4.out _ ST3.out.rb).mono ?_
  rintro e w' ⟨rfl, hww⟩
  subst hww
  go_wp2_with fail
  refine (G6.out _ ST3.out.rb).mono ?_
  rintro e w4b ⟨rfl, r, gr⟩
  have ST4 : Hid (St w w4b g (t.drop 1)) := ST3.out.grown r gr
  clear r gr
  go_wp2_with fail
  refine (G7.out _ ST4.out.rb).mono ?_
  rintro e w' ⟨rfl, hww⟩
  subst hww
  go_wp2_with fail
  refine (G8.out _ ST4.out.rb).mono ?_
  rintro e w5 ⟨cx, lx, hcx, rfl, r, gr⟩
  have ST5 : Hid (St w w5 g lx) := ST4.out.grown r gr
  clear r gr
  obtain ⟨⟨ca, cb, cc, cd⟩, fa, fb, fc, fd⟩ := id ST5.out.box
  go_wp2
  exact bodyPost_ret (v := .tuple #[.agg #[.int .u64 0, .int .u64 0, .int .u64 0, .int .u64 0], .bool false]) (by simp [results, Try.results78, go_sem, ca, cb, cc, cd, fa, fb, fc, fd]) rfl ⟨0, 0, 0, 0, false, lx, rfl, (ST5.out.put _ _ _ _).1, (ST5.out.put _ _ _ _).2, rfl, fun q => by cases q⟩
set_option maxHeartbeats 2000000 in
set_option maxRecDepth 100000 in
theorem member_d (g : Nat) (l : List UInt8) (w : World) (h : RB w g l) (hM : MaxL w) (hl : l.length ≤ 4000000) (hg0 : 0 < g) (h1 : pre [91, 61] l = false) (h2 : pre [91, 58] l = false) (f : UInt8) (t : List UInt8) (hs : signP l = some (f, t)) (h3 : pre [45, 93] t = false) (h4 : pre [45] t = true) (mb : Bool) (h5 : pre [45] (t.drop 1) = mb) (g2 : UInt8) (t2 : List UInt8) (h6 : signP (t.drop 1) = some (g2, t2)) (h7 : g2.toNat < f.toNat) :
    Calls Try.prog 78 #[.pointer (some ⟨g, 0, none⟩)] w (SetO (memberP l) w g) := by
  have ST0 : Hid (St w (w.alloc (.cells #[.int .u64 0, .int .u64 0, .int .u64 0, .int .u64 0] 26)) g l) := St.start h hM hg0 26
  have G1 := skip_miss g l ⟨#[91, 61]⟩ h1
  have G2 := skip_miss g l ⟨#[91, 58]⟩ h2
  have G3 := sign_some g l f t hs
  have HE : Hid (memberP l = tailP f t) := by unfold Hid memberP; rw [h1, h2, hs]; rfl
  rw [HE.out]
  have hfl := f.toNat_lt
  have G4 := begins_bool g t ⟨#[45, 93]⟩ false h3
  have G6 := skip_hit g t ⟨#[45]⟩ h4
  have G7 := begins_bool g (t.drop 1) ⟨#[45]⟩ mb h5
  have G8 := sign_some g (t.drop 1) g2 t2 h6
  have hgl := g2.toNat_lt
  have hlt : (g2.toNat : Int) < (f.toNat : Int) := by omega
  have HT : Hid (tailP f t = none) := by unfold Hid tailP; rw [h3, h4, h6]; simp only [Bool.not_true, Bool.or_self, Bool.false_eq_true, if_false]; rw [if_pos (.inl h7)]
  rw [HT.out]
  clear h hM hl h1 h2 hs HE HT h3 h4 h5 h6 h7
  go_enter Try.func78, Try.ntmps78
  go_wp2_with fail
  refine (G1.out _ ST0.out.rb).mono ?_
  rintro e w1 ⟨rfl, r, gr⟩
  have ST1 : Hid (St w w1 g (l)) := ST0.out.grown r gr
  clear r gr
  go_wp2_with fail
  refine (G2.out _ ST1.out.rb).mono ?_
  rintro e w2 ⟨rfl, r, gr⟩
  have ST2 : Hid (St w w2 g (l)) := ST1.out.grown r gr
  clear r gr
  go_wp2_with fail
  refine (G3.out _ ST2.out.rb).mono ?_
  rintro e w3 ⟨rfl, r, gr⟩
  have ST3 : Hid (St w w3 g (t)) := ST2.out.grown r gr
  clear r gr
  go_wp2_with fail
  refine (G4.out _ ST3.out.rb).mono ?_
  rintro e w' ⟨rfl, hww⟩
  subst hww
  go_wp2_with fail
  refine (G6.out _ ST3.out.rb).mono ?_
  rintro e w4b ⟨rfl, r, gr⟩
  have ST4 : Hid (St w w4b g (t.drop 1)) := ST3.out.grown r gr
  clear r gr
  go_wp2_with fail
  refine (G7.out _ ST4.out.rb).mono ?_
  rintro e w' ⟨rfl, hww⟩
  subst hww
  go_wp2_with fail
  refine (G8.out _ ST4.out.rb).mono ?_
  rintro e w5 ⟨rfl, r, gr⟩
  have ST5 : Hid (St w w5 g (t2)) := ST4.out.grown r gr
  clear r gr
  obtain ⟨⟨ca, cb, cc, cd⟩, fa, fb, fc, fd⟩ := id ST5.out.box
  go_wp2
  exact bodyPost_ret (v := .tuple #[.agg #[.int .u64 0, .int .u64 0, .int .u64 0, .int .u64 0], .bool false]) (by simp [results, Try.results78, go_sem, ca, cb, cc, cd, fa, fb, fc, fd]) rfl ⟨0, 0, 0, 0, false, t2, rfl, (ST5.out.put _ _ _ _).1, (ST5.out.put _ _ _ _).2, rfl, fun q => by cases q⟩
set_option maxHeartbeats 2000000 in
set_option maxRecDepth 100000 in
theorem member_e (g : Nat) (l : List UInt8) (w : World) (h : RB w g l) (hM : MaxL w) (hl : l.length ≤ 4000000) (hg0 : 0 < g) (h1 : pre [91, 61] l = false) (h2 : pre [91, 58] l = false) (f : UInt8) (t : List UInt8) (hs : signP l = some (f, t)) (h3 : pre [45, 93] t = false) (h4 : pre [45] t = true) (h5 : pre [45] (t.drop 1) = false) (g2 : UInt8) (t2 : List UInt8) (h6 : signP (t.drop 1) = some (g2, t2)) (h7 : ¬ g2.toNat < f.toNat) :
    Calls Try.prog 78 #[.pointer (some ⟨g, 0, none⟩)] w (SetO (memberP l) w g) := by
  have ST0 : Hid (St w (w.alloc (.cells #[.int .u64 0, .int .u64 0, .int .u64 0, .int .u64 0] 26)) g l) := St.start h hM hg0 26
  have G1 := skip_miss g l ⟨#[91, 61]⟩ h1
  have G2 := skip_miss g l ⟨#[91, 58]⟩ h2
  have G3 := sign_some g l f t hs
  have HE : Hid (memberP l = tailP f t) := by unfold Hid memberP; rw [h1, h2, hs]; rfl
  rw [HE.out]
  have hfl := f.toNat_lt
  have G4 := begins_bool g t ⟨#[45, 93]⟩ false h3
  have G6 := skip_hit g t ⟨#[45]⟩ h4
  have G7 := begins_bool g (t.drop 1) ⟨#[45]⟩ false h5
  have G8 := sign_some g (t.drop 1) g2 t2 h6
  have hgl := g2.toNat_lt
  have hlt : ¬ (g2.toNat : Int) < (f.toNat : Int) := by omega
  have G9 := with_zero f.toNat g2.toNat hfl hgl
  have HT : Hid (tailP f t = some (S4.zero.rng f.toNat g2.toNat, t2)) := by unfold Hid tailP; rw [h3, h4, h6]; simp only [Bool.not_true, Bool.or_self, Bool.false_eq_true, if_false]; rw [if_neg (by rw [h5]; rintro (q | ⟨q, _⟩); exact h7 q; cases q)]
  rw [HT.out]
  clear h hM hl h1 h2 hs HE HT h3 h4 h5 h6 h7
  go_enter Try.func78, Try.ntmps78
  go_wp2_with fail
  refine (G1.out _ ST0.out.rb).mono ?_
  rintro e w1 ⟨rfl, r, gr⟩
  have ST1 : Hid (St w w1 g (l)) := ST0.out.grown r gr
  clear r gr
  go_wp2_with fail
  refine (G2.out _ ST1.out.rb).mono ?_
  rintro e w2 ⟨rfl, r, gr⟩
  have ST2 : Hid (St w w2 g (l)) := ST1.out.grown r gr
  clear r gr
  go_wp2_with fail
  refine (G3.out _ ST2.out.rb).mono ?_
  rintro e w3 ⟨rfl, r, gr⟩
  have ST3 : Hid (St w w3 g (t)) := ST2.out.grown r gr
  clear r gr
  go_wp2_with fail
  refine (G4.out _ ST3.out.rb).mono ?_
  rintro e w' ⟨rfl, hww⟩
  subst hww
  go_wp2_with fail
  refine (G6.out _ ST3.out.rb).mono ?_
  rintro e w4b ⟨rfl, r, gr⟩
  have ST4 : Hid (St w w4b g (t.drop 1)) := ST3.out.grown r gr
  clear r gr
  go_wp2_with fail
  refine (G7.out _ ST4.out.rb).mono ?_
  rintro e w' ⟨rfl, hww⟩
  subst hww
  go_wp2_with fail
  refine (G8.out _ ST4.out.rb).mono ?_
  rintro e w5 ⟨rfl, r, gr⟩
  have ST5 : Hid (St w w5 g (t2)) := ST4.out.grown r gr
  clear r gr
  go_wp2_with fail
  refine (G9.out _).mono ?_
  rintro e w6 ⟨y0, y1, y2, y3, rfl, sv, b2⟩
  have ST6 : Hid (St w w6 g (t2)) := ST5.out.below b2
  have HSV := (show Hid _ from sv)
  clear sv b2
  obtain ⟨⟨ca, cb, cc, cd⟩, fa, fb, fc, fd⟩ := id ST6.out.box
  go_wp2
  exact bodyPost_ret (v := .tuple #[.agg #[.int .u64 y0, .int .u64 y1, .int .u64 y2, .int .u64 y3], .bool true]) (by simp [results, Try.results78, go_sem, ca, cb, cc, cd, fa, fb, fc, fd]) rfl ⟨y0, y1, y2, y3, true, t2, rfl, (ST6.out.put _ _ _ _).1, (ST6.out.put _ _ _ _).2, rfl, fun _ => ⟨_, rfl, HSV.out⟩⟩
set_option maxHeartbeats 2000000 in
set_option maxRecDepth 100000 in
theorem member_f (g : Nat) (l : List UInt8) (w : World) (h : RB w g l) (hM : MaxL w) (hl : l.length ≤ 4000000) (hg0 : 0 < g) (h1 : pre [91, 61] l = false) (h2 : pre [91, 58] l = false) (f : UInt8) (t : List UInt8) (hs : signP l = some (f, t)) (h3 : pre [45, 93] t = false) (h4 : pre [45] t = true) (h5 : pre [45] (t.drop 1) = true) (g2 : UInt8) (t2 : List UInt8) (h6 : signP (t.drop 1) = some (g2, t2)) (h7 : ¬ g2.toNat < f.toNat) (h8 : pre [93] t2 = true) :
    Calls Try.prog 78 #[.pointer (some ⟨g, 0, none⟩)] w (SetO (memberP l) w g) := by
  have ST0 : Hid (St w (w.alloc (.cells #[.int .u64 0, .int .u64 0, .int .u64 0, .int .u64 0] 26)) g l) := St.start h hM hg0 26
  have G1 := skip_miss g l ⟨#[91, 61]⟩ h1
  have G2 := skip_miss g l ⟨#[91, 58]⟩ h2
  have G3 := sign_some g l f t hs
  have HE : Hid (memberP l = tailP f t) := by unfold Hid memberP; rw [h1, h2, hs]; rfl
  rw [HE.out]
  have hfl := f.toNat_lt
  have G4 := begins_bool g t ⟨#[45, 93]⟩ false h3
  have G6 := skip_hit g t ⟨#[45]⟩ h4
  have G7 := begins_bool g (t.drop 1) ⟨#[45]⟩ true h5
  have G8 := sign_some g (t.drop 1) g2 t2 h6
  have hgl := g2.toNat_lt
  have hlt : ¬ (g2.toNat : Int) < (f.toNat : Int) := by omega
  have G9 := with_zero f.toNat g2.toNat hfl hgl
  have G10 := begins_bool g t2 ⟨#[93]⟩ true h8
  have HT : Hid (tailP f t = some (S4.zero.rng f.toNat g2.toNat, t2)) := by unfold Hid tailP; rw [h3, h4, h6]; simp only [Bool.not_true, Bool.or_self, Bool.false_eq_true, if_false]; rw [if_neg (by rw [h8]; rintro (q | ⟨_, q⟩); exact h7 q; cases q)]
  rw [HT.out]
  clear h hM hl h1 h2 hs HE HT h3 h4 h5 h6 h7 h8
  go_enter Try.func78, Try.ntmps78
  go_wp2_with fail
  refine (G1.out _ ST0.out.rb).mono ?_
  rintro e w1 ⟨rfl, r, gr⟩
  have ST1 : Hid (St w w1 g (l)) := ST0.out.grown r gr
  clear r gr
  go_wp2_with fail
  refine (G2.out _ ST1.out.rb).mono ?_
  rintro e w2 ⟨rfl, r, gr⟩
  have ST2 : Hid (St w w2 g (l)) := ST1.out.grown r gr
  clear r gr
  go_wp2_with fail
  refine (G3.out _ ST2.out.rb).mono ?_
  rintro e w3 ⟨rfl, r, gr⟩
  have ST3 : Hid (St w w3 g (t)) := ST2.out.grown r gr
  clear r gr
  go_wp2_with fail
  refine (G4.out _ ST3.out.rb).mono ?_
  rintro e w' ⟨rfl, hww⟩
  subst hww
  go_wp2_with fail
  refine (G6.out _ ST3.out.rb).mono ?_
  rintro e w4b ⟨rfl, r, gr⟩
  have ST4 : Hid (St w w4b g (t.drop 1)) := ST3.out.grown r gr
  clear r gr
  go_wp2_with fail
  refine (G7.out _ ST4.out.rb).mono ?_
  rintro e w' ⟨rfl, hww⟩
  subst hww
  go_wp2_with fail
  refine (G8.out _ ST4.out.rb).mono ?_
  rintro e w5 ⟨rfl, r, gr⟩
  have ST5 : Hid (St w w5 g (t2)) := ST4.out.grown r gr
  clear r gr
  go_wp2_with fail
  refine (G10.out _ ST5.out.rb).mono ?_
  rintro e w' ⟨rfl, hww⟩
  subst hww
  go_wp2_with fail
  refine (G9.out _).mono ?_
  rintro e w6 ⟨y0, y1, y2, y3, rfl, sv, b2⟩
  have ST6 : Hid (St w w6 g (t2)) := ST5.out.below b2
  have HSV := (show Hid _ from sv)
  clear sv b2
  obtain ⟨⟨ca, cb, cc, cd⟩, fa, fb, fc, fd⟩ := id ST6.out.box
  go_wp2
  exact bodyPost_ret (v := .tuple #[.agg #[.int .u64 y0, .int .u64 y1, .int .u64 y2, .int .u64 y3], .bool true]) (by simp [results, Try.results78, go_sem, ca, cb, cc, cd, fa, fb, fc, fd]) rfl ⟨y0, y1, y2, y3, true, t2, rfl, (ST6.out.put _ _ _ _).1, (ST6.out.put _ _ _ _).2, rfl, fun _ => ⟨_, rfl, HSV.out⟩⟩
set_option maxHeartbeats 2000000 in
set_option maxRecDepth 100000 in
theorem member_g (g : Nat) (l : List UInt8) (w : World) (h : RB w g l) (hM : MaxL w) (hl : l.length ≤ 4000000) (hg0 : 0 < g) (h1 : pre [91, 61] l = false) (h2 : pre [91, 58] l = false) (f : UInt8) (t : List UInt8) (hs : signP l = some (f, t)) (h3 : pre [45, 93] t = false) (h4 : pre [45] t = true) (h5 : pre [45] (t.drop 1) = true) (g2 : UInt8) (t2 : List UInt8) (h6 : signP (t.drop 1) = some (g2, t2)) (h7 : ¬ g2.toNat < f.toNat) (h8 : pre [93] t2 = false) :
    Calls Try.prog 78 #[.pointer (some ⟨g, 0, none⟩)] w (SetO (memberP l) w g) := by
  have ST0 : Hid (St w (w.alloc (.cells #[.int .u64 0, .int .u64 0, .int .u64 0, .int .u64 0] 26)) g l) := St.start h hM hg0 26
  have G1 := skip_miss g l ⟨#[91, 61]⟩ h1
  have G2 := skip_miss g l ⟨#[91, 58]⟩ h2
  have G3 := sign_some g l f t hs
  have HE : Hid (memberP l = tailP f t) := by unfold Hid memberP; rw [h1, h2, hs]; rfl
  rw [HE.out]
  have hfl := f.toNat_lt
  have G4 := begins_bool g t ⟨#[45, 93]⟩ false h3
  have G6 := skip_hit g t ⟨#[45]⟩ h4
  have G7 := begins_bool g (t.drop 1) ⟨#[45]⟩ true h5
  have G8 := sign_some g (t.drop 1) g2 t2 h6
  have hgl := g2.toNat_lt
  have hlt : ¬ (g2.toNat : Int) < (f.toNat : Int) := by omega
  have G10 := begins_bool g t2 ⟨#[93]⟩ false h8
  have HT : Hid (tailP f t = none) := by unfold Hid tailP; rw [h3, h4, h6]; simp only [Bool.not_true, Bool.or_self, Bool.false_eq_true, if_false]; rw [if_pos (.inr ⟨h5, h8⟩)]
  rw [HT.out]
  clear h hM hl h1 h2 hs HE HT h3 h4 h5 h6 h7 h8
  go_enter Try.func78, Try.ntmps78
  go_wp2_with fail
  refine (G1.out _ ST0.out.rb).mono ?_
  rintro e w1 ⟨rfl, r, gr⟩
  have ST1 : Hid (St w w1 g (l)) := ST0.out.grown r gr
  clear r gr
  go_wp2_with fail
  refine (G2.out _ ST1.out.rb).mono ?_
  rintro e w2 ⟨rfl, r, gr⟩
  have ST2 : Hid (St w w2 g (l)) := ST1.out.grown r gr
  clear r gr
  go_wp2_with fail
  refine (G3.out _ ST2.out.rb).mono ?_
  rintro e w3 ⟨rfl, r, gr⟩
  have ST3 : Hid (St w w3 g (t)) := ST2.out.grown r gr
  clear r gr
  go_wp2_with fail
  refine (G4.out _ ST3.out.rb).mono ?_
  rintro e w' ⟨rfl, hww⟩
  subst hww
  go_wp2_with fail
  refine (G6.out _ ST3.out.rb).mono ?_
  rintro e w4b ⟨rfl, r, gr⟩
  have ST4 : Hid (St w w4b g (t.drop 1)) := ST3.out.grown r gr
  clear r gr
  go_wp2_with fail
  refine (G7.out _ ST4.out.rb).mono ?_
  rintro e w' ⟨rfl, hww⟩
  subst hww
  go_wp2_with fail
  refine (G8.out _ ST4.out.rb).mono ?_
  rintro e w5 ⟨rfl, r, gr⟩
  have ST5 : Hid (St w w5 g (t2)) := ST4.out.grown r gr
  clear r gr
  go_wp2_with fail
  refine (G10.out _ ST5.out.rb).mono ?_
  rintro e w' ⟨rfl, hww⟩
  subst hww
  obtain ⟨⟨ca, cb, cc, cd⟩, fa, fb, fc, fd⟩ := id ST5.out.box
  go_wp2
  exact bodyPost_ret (v := .tuple #[.agg #[.int .u64 0, .int .u64 0, .int .u64 0, .int .u64 0], .bool false]) (by simp [results, Try.results78, go_sem, ca, cb, cc, cd, fa, fb, fc, fd]) rfl ⟨0, 0, 0, 0, false, t2, rfl, (ST5.out.put _ _ _ _).1, (ST5.out.put _ _ _ _).2, rfl, fun q => by cases q⟩
theorem member_any (g : Nat) (l : List UInt8) (w : World) (h : RB w g l) (hM : MaxL w) (hl : l.length ≤ 4000000) (hg0 : 0 < g) :
    Calls Try.prog 78 #[.pointer (some ⟨g, 0, none⟩)] w (SetO (memberP l) w g) := by
  cases h1 : pre [91, 61] l
  · cases h2 : pre [91, 58] l
    · cases hs : signP l with
      | none => exact member_none g l w h hM hl hg0 h1 h2 hs
      | some x =>
        obtain ⟨f, t⟩ := x
        cases h3 : pre [45, 93] t
        · cases h4 : pre [45] t
          · exact member_b g l w h hM hl hg0 h1 h2 f t hs h3 h4
          · cases h6 : signP (t.drop 1) with
            | none => exact member_c g l w h hM hl hg0 h1 h2 f t hs h3 h4 _ rfl h6
            | some x2 =>
              obtain ⟨g2, t2⟩ := x2
              by_cases h7 : g2.toNat < f.toNat
              · exact member_d g l w h hM hl hg0 h1 h2 f t hs h3 h4 _ rfl g2 t2 h6 h7
              · cases h5 : pre [45] (t.drop 1)
                · exact member_e g l w h hM hl hg0 h1 h2 f t hs h3 h4 h5 g2 t2 h6 h7
                · cases h8 : pre [93] t2
                  · exact member_g g l w h hM hl hg0 h1 h2 f t hs h3 h4 h5 g2 t2 h6 h7 h8
                  · exact member_f g l w h hM hl hg0 h1 h2 f t hs h3 h4 h5 g2 t2 h6 h7 h8
        · exact member_a g l w h hM hl hg0 h1 h2 f t hs h3
    · exact member_class g l w h hM hl hg0 h1 h2
  · exact member_eq g l w h hM hl hg0 h1
end Go.Proofs.Ytndmjndokokmnaa
