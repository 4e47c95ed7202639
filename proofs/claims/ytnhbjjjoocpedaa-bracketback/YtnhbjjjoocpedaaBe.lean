import Derived.Test.YtnhbjjjoocpedaaBd
namespace Go.Proofs.Ytnhbjjjoocpedaa
set_option linter.unusedSimpArgs false
set_option linter.unusedVariables false
open Go.RowKit
set_option maxHeartbeats 4000000 in
set_option maxRecDepth 100000 in
theorem written_any (s : S4) (x0 x1 x2 x3 : Int) (hs : SV s x0 x1 x2 x3) (w : World) : Calls Try.prog 28 #[.agg #[.int .u64 x0, .int .u64 x1, .int .u64 x2, .int .u64 x3]] w fun e w' => ∃ t : ByteArray, e = .returned (.string t) ∧ t.data.toList = writtenP s ∧ Below w.heap.size w w' := by
  have HA : Hid (∀ (c : Nat) (w : World), c < 256 → Calls Try.prog 10 #[.agg #[.int .u64 x0, .int .u64 x1, .int .u64 x2, .int .u64 x3], .int .u8 c] w fun e w' => e = .returned (.bool (s.has c)) ∧ Below w.heap.size w w') := fun c w hc => has_any10 s x0 x1 x2 x3 hs c w hc
  have W0 : Hid (WWt w x0 x1 x2 x3 [] ((w.alloc (.cells #[.int .u64 x0, .int .u64 x1, .int .u64 x2, .int .u64 x3] 26)).alloc (.cells #[.pointer none, .slice none 0 0] 63))) := WWt.start w x0 x1 x2 x3
  clear hs
  go_enter Try.func28, Try.ntmps28
  go_wp2
  go_loopw [4] (fun s4 wr' => ∃ (f n : Nat) (bs : List UInt8), s4 = .int .i64 f ∧ f ≤ 256 ∧ Hid (WWt w x0 x1 x2 x3 bs wr') ∧ Hid (OutW s bs n f)) (fun s4 _ => 256 - (intOf s4).toNat)
  case atStart => exact ⟨0, 257, [], rfl, by omega, W0.out, OutW.start s⟩
  case round =>
    obtain ⟨f, n, bs, rfl, hf, WW, OW⟩ := hrel
    clear W0
    by_cases hlt : f ≤ 255
    · have hfi : (f : Int) ≤ 255 := by omega
      have hwf : IntKind.u8.wrap (f : Int) = f := by rw [IntKind.wrap_u8]; omega
      obtain ⟨⟨ca, cb, cc, cd⟩, fa, fb, fc, fd⟩ := id WW.out.box
      cases hh : s.has f with
      | false =>
        have H1 : Hid (∀ w, Calls Try.prog 10 #[.agg #[.int .u64 x0, .int .u64 x1, .int .u64 x2, .int .u64 x3], .int .u8 f] w fun e w' => e = .returned (.bool false) ∧ Below w.heap.size w w') := fun w => by have := HA.out f w (by omega); rw [hh] at this; exact this
        have ON : Hid (OutW s bs (n - 1) (f + 1)) := OW.out.skip hlt hh
        clear HA OW hh
        go_wp2_with fail
        refine (H1.out _).mono ?_
        rintro e w1 ⟨rfl, b1⟩
        have W1 : Hid (WWt w x0 x1 x2 x3 bs w1) := WW.out.below b1
        clear b1 WW H1 ca cb cc cd fa fb fc fd
        go_wp2
        go_roundw
        case rel => exact ⟨f + 1, n - 1, bs, by first | rfl | (congr 1), by omega, W1.out, ON.out⟩
        case measure => simp [intOf]; omega
      | true =>
        have H1 : Hid (∀ w, Calls Try.prog 10 #[.agg #[.int .u64 x0, .int .u64 x1, .int .u64 x2, .int .u64 x3], .int .u8 f] w fun e w' => e = .returned (.bool true) ∧ Below w.heap.size w w') := fun w => by have := HA.out f w (by omega); rw [hh] at this; exact this
        have HH : Hid (s.has f = true) := hh
        clear hh
        go_wp2_with fail
        refine (H1.out _).mono ?_
        rintro e w1 ⟨rfl, b1⟩
        have W1 : Hid (WWt w x0 x1 x2 x3 bs w1) := WW.out.below b1
        clear b1 WW H1 ca cb cc cd fa fb fc fd
        go_wp2
        go_loopw [5] (fun s5 wi => ∃ t : Nat, s5 = .int .i64 t ∧ f ≤ t ∧ t ≤ 255 ∧ Hid (EndR s f t) ∧ Hid (WWt w x0 x1 x2 x3 bs wi)) (fun s5 _ => 255 - (intOf s5).toNat)
        case atStart => exact ⟨f, rfl, by omega, by omega, EndR.start s f, W1.out⟩
        case round =>
          obtain ⟨t, rfl, hft, ht, ER, WI⟩ := hrel
          clear W1
          have hti : (t : Int) ≤ 255 := by omega
          obtain ⟨⟨ca, cb, cc, cd⟩, fa, fb, fc, fd⟩ := id WI.out.box
          by_cases hgo : t < 255 ∧ s.has (t + 1) = true
          · have ER1 : Hid (EndR s f (t + 1)) := ER.out.step hgo.1 hgo.2
            have H1 : Hid (∀ w, Calls Try.prog 10 #[.agg #[.int .u64 x0, .int .u64 x1, .int .u64 x2, .int .u64 x3], .int .u8 ((t : Int) + 1)] w fun e w' => e = .returned (.bool true) ∧ Below w.heap.size w w') := fun w => by
              have := HA.out (t + 1) w (by omega); rw [hgo.2] at this; exact this
            have hwt : IntKind.u8.wrap ((t : Int) + 1) = (t : Int) + 1 := by rw [IntKind.wrap_u8]; omega
            have htl : (t : Int) < 255 := by have := hgo.1; omega
            have htn : t < 255 := hgo.1
            clear hgo ER
            go_wp2_with fail
            refine (H1.out _).mono ?_
            rintro e w2 ⟨rfl, b2⟩
            have W2 : Hid (WWt w x0 x1 x2 x3 bs w2) := WI.out.below b2
            clear b2 WI H1 ca cb cc cd fa fb fc fd
            go_wp2
            go_roundw
            case rel => exact ⟨t + 1, by first | rfl | (congr 1), by omega, by omega, ER1.out, W2.out⟩
            case measure => simp [intOf]; omega
          · have ES : Hid (endRun s 256 f = t) := ER.out.stop hgo
            have OR : Hid (OutW s (bs ++ rangeW (UInt8.ofNat f) (UInt8.ofNat t)) (n - 1) (t + 1)) := OW.out.run hlt HH.out ES.out
            have R34 : Hid (∀ w, Calls Try.prog 34 #[.int .u8 f, .int .u8 t] w fun e w' => ∃ q : ByteArray, e = .returned (.string q) ∧ q.data.toList = rangeW (UInt8.ofNat f) (UInt8.ofNat t) ∧ Below w.heap.size w w') := fun w => range34 f t hft (by omega) w
            have hwt2 : IntKind.u8.wrap (t : Int) = t := by rw [IntKind.wrap_u8]; omega
            have hbl : bs.length ≤ 2827 := OW.out.len
            by_cases htl : t < 255
            · have hno : s.has (t + 1) = false := by
                cases e : s.has (t + 1) with
                | false => rfl
                | true => exact absurd ⟨htl, e⟩ hgo
              have H1 : Hid (∀ w, Calls Try.prog 10 #[.agg #[.int .u64 x0, .int .u64 x1, .int .u64 x2, .int .u64 x3], .int .u8 ((t : Int) + 1)] w fun e w' => e = .returned (.bool false) ∧ Below w.heap.size w w') := fun w => by
                have := HA.out (t + 1) w (by omega); rw [hno] at this; exact this
              have hwt : IntKind.u8.wrap ((t : Int) + 1) = (t : Int) + 1 := by rw [IntKind.wrap_u8]; omega
              have htli : (t : Int) < 255 := by omega
              clear hgo ER ES hno
              go_wp2_with fail
              refine (H1.out _).mono ?_
              rintro e w2 ⟨rfl, b2⟩
              have W2 : Hid (WWt w x0 x1 x2 x3 bs w2) := WI.out.below b2
              clear b2 WI H1 ca cb cc cd fa fb fc fd
              go_wp2_with fail
              refine (R34.out _).mono ?_
              rintro e w3 ⟨q, rfl, hq, b3⟩
              have W3 : Hid (WWt w x0 x1 x2 x3 bs w3) := W2.out.below b3
              have HQ : Hid (q.data.toList = rangeW (UInt8.ofNat f) (UInt8.ofNat t)) := hq
              have hqs : q.size ≤ 11 := by rw [Lib.size_eq, hq]; exact range_len _ _
              clear b3 W2 R34 hq
              go_wp2_with fail
              refine (writeString_any (w.heap.size + 1) (w.heap.size + 1) _ q _ W3.out.bld (by rw [Lib.byteCells_length]; omega) (by have := W3.out.size; omega)).mono ?_
              rintro e w4 ⟨rfl, k4, b4⟩
              have W4 : Hid (WWt w x0 x1 x2 x3 (bs ++ rangeW (UInt8.ofNat f) (UInt8.ofNat t)) w4) := W3.out.put HQ.out b4 k4
              clear b4 k4 W3 HQ
              go_wp2
              go_roundw
              case rel => exact ⟨t + 1, n - 1, _, by first | rfl | (congr 1), by omega, W4.out, OR.out⟩
              case measure => simp [intOf]; omega
            · have htli : ¬ (t : Int) < 255 := by omega
              clear hgo ER ES
              go_wp2_with fail
              refine (R34.out _).mono ?_
              rintro e w3 ⟨q, rfl, hq, b3⟩
              have W3 : Hid (WWt w x0 x1 x2 x3 bs w3) := WI.out.below b3
              have HQ : Hid (q.data.toList = rangeW (UInt8.ofNat f) (UInt8.ofNat t)) := hq
              have hqs : q.size ≤ 11 := by rw [Lib.size_eq, hq]; exact range_len _ _
              clear b3 WI R34 hq ca cb cc cd fa fb fc fd
              go_wp2_with fail
              refine (writeString_any (w.heap.size + 1) (w.heap.size + 1) _ q _ W3.out.bld (by rw [Lib.byteCells_length]; omega) (by have := W3.out.size; omega)).mono ?_
              rintro e w4 ⟨rfl, k4, b4⟩
              have W4 : Hid (WWt w x0 x1 x2 x3 (bs ++ rangeW (UInt8.ofNat f) (UInt8.ofNat t)) w4) := W3.out.put HQ.out b4 k4
              clear b4 k4 W3 HQ
              go_wp2
              go_roundw
              case rel => exact ⟨t + 1, n - 1, _, by first | rfl | (congr 1), by omega, W4.out, OR.out⟩
              case measure => simp [intOf]; omega
    · have hfi : ¬ (f : Int) ≤ 255 := by omega
      obtain rfl : f = 256 := by omega
      have OE : Hid (bs = writtenP s) := OW.out.done
      clear OW HA
      go_wp2_with fail
      refine (Try.Builder_String_any (w.heap.size + 1) (w.heap.size + 1) bs _ WW.out.bld (by have := WW.out.size; omega)).mono ?_
      rintro e w2 ⟨rfl, b2⟩
      have B2 : Hid (Below w.heap.size w w2) := WW.out.bel.trans (b2.mono (by omega))
      clear b2 WW
      go_wp2
      go_ret
      exact ⟨_, rfl, by rw [← OE.out], B2.out⟩
end Go.Proofs.Ytnhbjjjoocpedaa
