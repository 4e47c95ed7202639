import Derived.Test.YtnpjknnalekdpaaDoorTd
import Derived.Test.YtnpjknnalekdpaaDoorFw
namespace Go.Proofs.YtnpjknnalekdpaaDoor
set_option linter.unusedSimpArgs false
set_option linter.unusedVariables false
open Go.RowKit
theorem FrO.form {w : World} {base : Nat} {v : Value} {fs : List (Int × List Int)} {us : List Value} (h : FrO w base v fs us) : ∃ av cp, v = .slice av fs.length cp := by
  rcases h.own.2 with ⟨q, q0⟩ | ⟨g0, cap, cur0, q1, _⟩
  · exact ⟨none, 0, by rw [q, q0]⟩
  · exact ⟨_, cap, q1⟩
set_option maxHeartbeats 1000000 in
set_option maxRecDepth 100000 in
theorem dropped_any (g : Nat) (wl : List Int) (D : Int) (w : World) (hb : SBox w g wl D) : Calls Tryd.prog 51 #[.pointer (some ⟨g, 0, none⟩)] w fun e w' => e = .returned (.int .i64 D) ∧ w = w' := by
  have c := hb.c1
  clear hb
  go_enter Tryd.func51, Tryd.ntmps51
  go_wp2
  go_ret
  exact ⟨rfl, rfl⟩
set_option maxHeartbeats 1000000 in
set_option maxRecDepth 100000 in
theorem waits_any (g : Nat) (wl : List Int) (D : Int) (w : World) (hb : SBox w g wl D) : Calls Tryd.prog 52 #[.pointer (some ⟨g, 0, none⟩)] w fun e w' => e = .returned (.int .i64 wl.length) ∧ w = w' := by
  have c := hb.c0
  have hs : ((strOfNums wl).size : Int) = (wl.length : Int) := by rw [strOfNums_size]
  generalize strOfNums wl = S at *
  have HS : Hid ((S.size : Int) = (wl.length : Int)) := hs
  clear hb hs
  go_enter Tryd.func52, Tryd.ntmps52
  go_wp2
  go_ret
  exact ⟨by rw [← HS.out]; rfl, rfl⟩
theorem part_mark (W : World) (l : List Int) (m : Nat × Nat) (hl : l.length ≤ 1000000) : PartAt (W.alloc (Obj.cells (vB l) 5 m)) (.slice (some ⟨W.heap.size, 0, none⟩) l.length l.length) l :=
  ⟨some ⟨W.heap.size, 0, none⟩, W.heap.size, 0, l.length, rfl, Nat.le_refl _, by omega, fun _ => rfl, fun j v hv => by
      rw [Nat.zero_add, cell_of_row _ _ j _ 5 m (heap_alloc_new W _)]
      simpa using hv, by simp, fun h => by cases h⟩
set_option maxRecDepth 100000 in
theorem feed_xyz : feedR ([] ++ [120, 121, 122]) = ([], 3, []) := by kernel_rfl
set_option maxHeartbeats 1000000 in
set_option maxRecDepth 100000 in
theorem awake6_any (w : World) (hL : Laid w) : Calls Tryd.prog 46 #[] w fun e w' => e = .returned (.bool true) ∧ Below w.heap.size w w' := by
  have h2 := hL.two
  have b1 : Below w.heap.size w (w.alloc (.cells #[.string ⟨#[]⟩, .int .i64 0] 78)) := (Below.refl _ _).alloc (Nat.le_refl _) _
  have b2 : Below w.heap.size w ((w.alloc (.cells #[.string ⟨#[]⟩, .int .i64 0] 78)).alloc (Obj.cells #[.int .u8 120, .int .u8 121, .int .u8 122] 5 (3, 4))) := b1.alloc b1.size _
  have sb : SBox ((w.alloc (.cells #[.string ⟨#[]⟩, .int .i64 0] 78)).alloc (Obj.cells #[.int .u8 120, .int .u8 121, .int .u8 122] 5 (3, 4))) w.heap.size [] 0 := by
    unfold SBox; rw [Below.heap_alloc _ _ _ (by simp)]; exact heap_alloc_new _ _
  have FD : Hid (Calls Tryd.prog 48 #[.pointer (some ⟨w.heap.size, 0, none⟩), .slice (some ⟨w.heap.size + 1, 0, none⟩) 3 3] ((w.alloc (.cells #[.string ⟨#[]⟩, .int .i64 0] 78)).alloc (Obj.cells #[.int .u8 120, .int .u8 121, .int .u8 122] 5 (3, 4))) fun e w' => ∃ av cp, e = .returned (.slice av 0 cp) ∧ SBox w' w.heap.size [] 3 ∧ Below w.heap.size w w') := by
    have pm := part_mark (w.alloc (.cells #[.string ⟨#[]⟩, .int .i64 0] 78)) [120, 121, 122] (3, 4) (by simp)
    rw [show (w.alloc (.cells #[.string ⟨#[]⟩, .int .i64 0] 78)).heap.size = w.heap.size + 1 by simp] at pm
    have q := feed_any w.heap.size [] [120, 121, 122] 0 (fun x hx => by cases hx) (fun x hx => by simp at hx; omega) (by simp) (by simp) (by omega) _ _ (hL.below b2 h2) h2 sb pm
    rw [feed_xyz] at q
    exact q.mono fun e w' ⟨u, us, r1, r2, r3, r4⟩ => by
      obtain ⟨av, cp, hu⟩ := r2.form
      exact ⟨av, cp, by rw [r1, hu]; rfl, by simpa using r3, b2.grown r4 b2.size (fun k hk => by injection hk; omega)⟩
  have kc := fun (w : World) (C : Array Value) (n c : Nat) => Lib.run_convert_bytes_const (P := Tryd.prog) w 22 5 C n c Tryd.underlying22 Tryd.underlying5
  have hkc : (convert 22 22 (.slice (some ⟨w.heap.size + 1, 0, none⟩) 3 3)).run Tryd.prog ((w.alloc (.cells #[.string ⟨#[]⟩, .int .i64 0] 78)).alloc (Obj.cells #[.int .u8 120, .int .u8 121, .int .u8 122] 5)) = .ok (.slice (some ⟨w.heap.size + 1, 0, none⟩) 3 3) ((w.alloc (.cells #[.string ⟨#[]⟩, .int .i64 0] 78)).alloc (Obj.cells #[.int .u8 120, .int .u8 121, .int .u8 122] 5 (3, 4))) := by
    have := kc (w.alloc (.cells #[.string ⟨#[]⟩, .int .i64 0] 78)) #[.int .u8 120, .int .u8 121, .int .u8 122] 3 3
    rw [show (w.alloc (.cells #[.string ⟨#[]⟩, .int .i64 0] 78)).heap.size = w.heap.size + 1 by simp] at this
    exact this
  clear kc h2 b1 b2 sb hL
  go_enter Tryd.func46, Tryd.ntmps46
  go_wp2_with fail
  refine FD.out.mono ?_
  rintro e w3 ⟨av, cp, rfl, s3, b3⟩
  have DR : Hid (Calls Tryd.prog 51 #[.pointer (some ⟨w.heap.size, 0, none⟩)] w3 fun e w' => e = .returned (.int .i64 3) ∧ w3 = w') := dropped_any w.heap.size [] 3 w3 s3
  clear hkc FD s3
  go_wp2_with fail
  refine DR.out.mono ?_
  rintro e w4 ⟨rfl, rfl⟩
  go_wp2
  go_ret
  exact ⟨rfl, b3⟩
end Go.Proofs.YtnpjknnalekdpaaDoor
