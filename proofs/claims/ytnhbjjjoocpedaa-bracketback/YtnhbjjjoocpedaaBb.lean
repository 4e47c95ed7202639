import Derived.Test.YtnhbjjjoocpedaaYd
import Derived.Test.YtnhbjjjoocpedaaPb
namespace Go.Proofs.Ytnhbjjjoocpedaa
set_option linter.unusedSimpArgs false
set_option linter.unusedVariables false
open Go.RowKit
theorem conv1 (w : World) (a : Int) : (convert 47 9 (.slice (some ⟨w.heap.size, 0, none⟩) 1 1)).run Try.prog (w.alloc (.cells #[.int .u8 a] 5)) = .ok (.string (strOfNums [a])) (w.alloc (.cells #[.int .u8 a] 5)) :=
  run_convert_bytes_arg _ 47 5 Try.underlying47 Try.underlying5 w.heap.size 0 1 1 [a] rfl (fun i hi => by
    have h : i = 0 := by omega
    rcases h with rfl <;> go_simp <;> rfl) 9 Try.underlying9
set_option maxHeartbeats 1000000 in
set_option maxRecDepth 100000 in
theorem sign42_no (c : Nat) (hc : c < 256) (h : ¬ isSpecial c) (w : World) : Calls Try.prog 42 #[.int .u8 c] w fun e w' => ∃ t : ByteArray, e = .returned (.string t) ∧ t.data.toList = signW (UInt8.ofNat c) ∧ Below w.heap.size w w' := by
  have h1 : ((c : Int) == 91) = false := by rw [beq_eq_false_iff_ne]; intro q; exact h (.inl (by omega))
  have h2 : ((c : Int) == 93) = false := by rw [beq_eq_false_iff_ne]; intro q; exact h (.inr (.inl (by omega)))
  have h3 : ((c : Int) == 94) = false := by rw [beq_eq_false_iff_ne]; intro q; exact h (.inr (.inr (.inl (by omega))))
  have h4 : ((c : Int) == 45) = false := by rw [beq_eq_false_iff_ne]; intro q; exact h (.inr (.inr (.inr (.inl (by omega)))))
  have h5 : ((c : Int) == 92) = false := by rw [beq_eq_false_iff_ne]; intro q; exact h (.inr (.inr (.inr (.inr (.inl (by omega))))))
  have h6 : ((c : Int) == 10) = false := by rw [beq_eq_false_iff_ne]; intro q; exact h (.inr (.inr (.inr (.inr (.inr (by omega))))))
  have nc : (UInt8.ofNat c).toNat = c := by simp; omega
  obtain ⟨T, hT⟩ : ∃ T, strOfNums [(c : Int)] = T := ⟨_, rfl⟩
  have hTd : T.data.toList = [UInt8.ofNat c] := by rw [← hT, strOfNums_data]; simp
  have CV : Hid (∀ W : World, (convert 47 9 (.slice (some ⟨W.heap.size, 0, none⟩) 1 1)).run Try.prog (W.alloc (.cells #[.int .u8 c] 5)) = .ok (.string T) (W.alloc (.cells #[.int .u8 c] 5))) := fun W => by rw [← hT]; exact conv1 W c
  have HS : Hid (signW (UInt8.ofNat c) = [UInt8.ofNat c]) := by
    have ne : ∀ k : UInt8, isSpecial k.toNat → UInt8.ofNat c ≠ k := fun k hk q => h (by rw [← q, nc] at hk; exact hk)
    show signW (UInt8.ofNat c) = [UInt8.ofNat c]
    unfold signW
    rw [if_neg (ne 10 (.inr (.inr (.inr (.inr (.inr rfl)))))), if_neg]
    rintro (q | q | q | q | q)
    · exact ne 91 (.inl rfl) q
    · exact ne 93 (.inr (.inl rfl)) q
    · exact ne 94 (.inr (.inr (.inl rfl))) q
    · exact ne 45 (.inr (.inr (.inr (.inl rfl)))) q
    · exact ne 92 (.inr (.inr (.inr (.inr (.inl rfl))))) q
  have cv := CV.out w
  clear h nc hT CV
  go_enter Try.func42, Try.ntmps42
  go_wp2
  go_ret
  exact ⟨T, rfl, by rw [HS.out, hTd], (Below.refl _ _).alloc (Nat.le_refl _) _⟩
set_option maxHeartbeats 1000000 in
set_option maxRecDepth 100000 in
theorem sign42_91 (w : World) : Calls Try.prog 42 #[.int .u8 91] w fun e w' => ∃ t : ByteArray, e = .returned (.string t) ∧ t.data.toList = signW (UInt8.ofNat 91) ∧ Below w.heap.size w w' := by
  obtain ⟨T, hT⟩ : ∃ T, strOfNums [(91 : Int)] = T := ⟨_, rfl⟩
  have hTd : T.data.toList = [91] := by rw [← hT, strOfNums_data]; rfl
  have hTs : T.size = 1 := by rw [Lib.size_eq, hTd]; rfl
  have cv : (convert 47 9 (.slice (some ⟨w.heap.size, 0, none⟩) 1 1)).run Try.prog (w.alloc (.cells #[.int .u8 91] 5)) = .ok (.string T) (w.alloc (.cells #[.int .u8 91] 5)) := by rw [← hT]; exact conv1 w 91
  clear hT
  go_enter Try.func42, Try.ntmps42
  go_wp2
  go_ret
  exact ⟨_, rfl, by rw [app_data, app_data, hTd]; rfl, (Below.refl _ _).alloc (Nat.le_refl _) _⟩
set_option maxHeartbeats 1000000 in
set_option maxRecDepth 100000 in
theorem sign42_93 (w : World) : Calls Try.prog 42 #[.int .u8 93] w fun e w' => ∃ t : ByteArray, e = .returned (.string t) ∧ t.data.toList = signW (UInt8.ofNat 93) ∧ Below w.heap.size w w' := by
  obtain ⟨T, hT⟩ : ∃ T, strOfNums [(93 : Int)] = T := ⟨_, rfl⟩
  have hTd : T.data.toList = [93] := by rw [← hT, strOfNums_data]; rfl
  have hTs : T.size = 1 := by rw [Lib.size_eq, hTd]; rfl
  have cv : (convert 47 9 (.slice (some ⟨w.heap.size, 0, none⟩) 1 1)).run Try.prog (w.alloc (.cells #[.int .u8 93] 5)) = .ok (.string T) (w.alloc (.cells #[.int .u8 93] 5)) := by rw [← hT]; exact conv1 w 93
  clear hT
  go_enter Try.func42, Try.ntmps42
  go_wp2
  go_ret
  exact ⟨_, rfl, by rw [app_data, app_data, hTd]; rfl, (Below.refl _ _).alloc (Nat.le_refl _) _⟩
set_option maxHeartbeats 1000000 in
set_option maxRecDepth 100000 in
theorem sign42_94 (w : World) : Calls Try.prog 42 #[.int .u8 94] w fun e w' => ∃ t : ByteArray, e = .returned (.string t) ∧ t.data.toList = signW (UInt8.ofNat 94) ∧ Below w.heap.size w w' := by
  obtain ⟨T, hT⟩ : ∃ T, strOfNums [(94 : Int)] = T := ⟨_, rfl⟩
  have hTd : T.data.toList = [94] := by rw [← hT, strOfNums_data]; rfl
  have hTs : T.size = 1 := by rw [Lib.size_eq, hTd]; rfl
  have cv : (convert 47 9 (.slice (some ⟨w.heap.size, 0, none⟩) 1 1)).run Try.prog (w.alloc (.cells #[.int .u8 94] 5)) = .ok (.string T) (w.alloc (.cells #[.int .u8 94] 5)) := by rw [← hT]; exact conv1 w 94
  clear hT
  go_enter Try.func42, Try.ntmps42
  go_wp2
  go_ret
  exact ⟨_, rfl, by rw [app_data, app_data, hTd]; rfl, (Below.refl _ _).alloc (Nat.le_refl _) _⟩
set_option maxHeartbeats 1000000 in
set_option maxRecDepth 100000 in
theorem sign42_45 (w : World) : Calls Try.prog 42 #[.int .u8 45] w fun e w' => ∃ t : ByteArray, e = .returned (.string t) ∧ t.data.toList = signW (UInt8.ofNat 45) ∧ Below w.heap.size w w' := by
  obtain ⟨T, hT⟩ : ∃ T, strOfNums [(45 : Int)] = T := ⟨_, rfl⟩
  have hTd : T.data.toList = [45] := by rw [← hT, strOfNums_data]; rfl
  have hTs : T.size = 1 := by rw [Lib.size_eq, hTd]; rfl
  have cv : (convert 47 9 (.slice (some ⟨w.heap.size, 0, none⟩) 1 1)).run Try.prog (w.alloc (.cells #[.int .u8 45] 5)) = .ok (.string T) (w.alloc (.cells #[.int .u8 45] 5)) := by rw [← hT]; exact conv1 w 45
  clear hT
  go_enter Try.func42, Try.ntmps42
  go_wp2
  go_ret
  exact ⟨_, rfl, by rw [app_data, app_data, hTd]; rfl, (Below.refl _ _).alloc (Nat.le_refl _) _⟩
set_option maxHeartbeats 1000000 in
set_option maxRecDepth 100000 in
theorem sign42_92 (w : World) : Calls Try.prog 42 #[.int .u8 92] w fun e w' => ∃ t : ByteArray, e = .returned (.string t) ∧ t.data.toList = signW (UInt8.ofNat 92) ∧ Below w.heap.size w w' := by
  obtain ⟨T, hT⟩ : ∃ T, strOfNums [(92 : Int)] = T := ⟨_, rfl⟩
  have hTd : T.data.toList = [92] := by rw [← hT, strOfNums_data]; rfl
  have hTs : T.size = 1 := by rw [Lib.size_eq, hTd]; rfl
  have cv : (convert 47 9 (.slice (some ⟨w.heap.size, 0, none⟩) 1 1)).run Try.prog (w.alloc (.cells #[.int .u8 92] 5)) = .ok (.string T) (w.alloc (.cells #[.int .u8 92] 5)) := by rw [← hT]; exact conv1 w 92
  clear hT
  go_enter Try.func42, Try.ntmps42
  go_wp2
  go_ret
  exact ⟨_, rfl, by rw [app_data, app_data, hTd]; rfl, (Below.refl _ _).alloc (Nat.le_refl _) _⟩
set_option maxHeartbeats 1000000 in
set_option maxRecDepth 100000 in
theorem sign42_nl (w : World) : Calls Try.prog 42 #[.int .u8 (10 : Nat)] w fun e w' => ∃ t : ByteArray, e = .returned (.string t) ∧ t.data.toList = signW (UInt8.ofNat 10) ∧ Below w.heap.size w w' := by
  go_enter Try.func42, Try.ntmps42
  go_wp2
  go_ret
  exact ⟨_, rfl, rfl, Below.refl _ _⟩
theorem sign42 (c : Nat) (hc : c < 256) (w : World) : Calls Try.prog 42 #[.int .u8 c] w fun e w' => ∃ t : ByteArray, e = .returned (.string t) ∧ t.data.toList = signW (UInt8.ofNat c) ∧ Below w.heap.size w w' := by
  by_cases h : isSpecial c
  · rcases h with h | h | h | h | h | h
    · subst h; exact sign42_91 w
    · subst h; exact sign42_93 w
    · subst h; exact sign42_94 w
    · subst h; exact sign42_45 w
    · subst h; exact sign42_92 w
    · subst h; exact sign42_nl w
  · exact sign42_no c hc h w
end Go.Proofs.Ytnhbjjjoocpedaa
