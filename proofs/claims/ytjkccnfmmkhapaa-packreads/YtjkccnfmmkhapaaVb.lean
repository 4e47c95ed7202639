import Derived.Test.YtjkccnfmmkhapaaVa
namespace Go.Proofs.Ytjkccnfmmkhapaa
set_option linter.unusedSimpArgs false
set_option linter.unusedVariables false
open Go.RowKit
/-- Both readers. -/
structure RdAt (w0 : World) (gr gp : Nat) (sr sp : Option (List Int)) (wr : World) : Prop where
  rd : RSt wr gr sr
  pl : PSt w0 wr gp sp
  bel : Below w0.heap.size w0 wr
  ne : gr ≠ gp
  lr : w0.heap.size ≤ gr
  lp : w0.heap.size ≤ gp
section
variable {w0 : World} {gr gp : Nat} {sr sp s' : Option (List Int)} {wr w' : World}
theorem RdAt.below (h : RdAt w0 gr gp sr sp wr) (hb : Below wr.heap.size wr w') : RdAt w0 gr gp sr sp w' := ⟨h.rd.below hb, h.pl.below hb, h.bel.trans (hb.mono h.bel.size), h.ne, h.lr, h.lp⟩
theorem RdAt.drew (h : RdAt w0 gr gp sr sp wr) : RdAt w0 gr gp sr sp wr.drew := h.below (Below.refl _ _).drew
theorem RdAt.byR (h : RdAt w0 gr gp sr sp wr) (h1 : RHnd w' (.pointer (some ⟨gr, 0, none⟩)) s') (hg : wr.grownBy w' (some gr)) : RdAt w0 gr gp s' sp w' := by
  refine ⟨?_, h.pl.keep (hg.block gp h.pl.lt (fun e => h.ne (by injection e with e; exact e.symm))), h.bel.grown hg h.bel.size (fun k hk => by injection hk with hk; subst hk; exact h.lr), h.ne, h.lr, h.lp⟩
  rcases h1 with ⟨e, _⟩ | ⟨g', e, h1⟩
  · cases e
  · injection e with e; injection e with e; injection e with e; subst e; exact h1
theorem RdAt.byP (h : RdAt w0 gr gp sr sp wr) (h1 : PSt w0 w' gp s') (hg : wr.grownBy w' (some gp)) : RdAt w0 gr gp sr s' w' :=
  ⟨h.rd.keep (hg.block gr h.rd.lt (fun e => h.ne (by injection e with e))), h1, h.bel.grown hg h.bel.size (fun k hk => by injection hk with hk; subst hk; exact h.lp), h.ne, h.lr, h.lp⟩
theorem RdAt.hnd (h : RdAt w0 gr gp sr sp wr) : RHnd wr (.pointer (some ⟨gr, 0, none⟩)) sr := Or.inr ⟨gr, rfl, h.rd⟩
theorem RdAt.far (h : RdAt w0 gr gp sr sp wr) {B : Nat} (h1 : B ≠ gr) (h2 : B ≠ gp) (hB : w0.heap.size ≤ B) (cs : Array Value) : RdAt w0 gr gp sr sp (wr.setRow B cs) :=
  ⟨h.rd.keep (setRow_far _ _ _ _ h1.symm), h.pl.keep (setRow_far _ _ _ _ h2.symm), below_setRow h.bel hB cs, h.ne, h.lr, h.lp⟩
end
theorem copyV (w : World) (B : Nat) (v : Value) (V : List Int) (hp : PartAt w v V) (hV : V.length = 32 ∨ V = []) (hg : w.heap[B]? = some (.cells (vB (zs 32)) 32)) :
    ∃ n : Int, (Builtin.copy_ #[28, 28] 3 #[.slice (some ⟨B, 0, none⟩) 32 32, v]).run Try.prog w = .ok (.int .i64 n) (w.setRow B (vB (if V.length = 32 then V else zs 32))) := by
  obtain ⟨av, b, o, cp, rfl, q1, q2, q3, q4, q5, q6⟩ := hp
  rcases hV with hV | rfl
  · obtain rfl := q3 (by omega)
    refine ⟨32, ?_⟩
    rw [if_pos hV, run_copy_row Try.prog w 28 28 3 5 B 0 32 32 ⟨b, o, none⟩ V.length cp (vB (zs 32)) 32 (vB V).toList Try.underlying28 size5 hg (by rw [Array.length_toList, vB_size, hV]; rfl) (fun j u hu => by rw [Addr.add_mid]; exact q4 j u hu) (by rw [Array.length_toList, vB_size, vB_size, hV, zs_length]; omega) (fun u hu => by simp [vB] at hu; obtain ⟨y, _, rfl⟩ := hu; rfl)]
    rw [Array.length_toList, vB_size, hV, List.take_zero, List.nil_append, List.drop_eq_nil_of_le (by simp [vB, zs]), List.append_nil]
    rfl
  · refine ⟨0, ?_⟩
    rw [if_neg (by simp), setRow_self w B _ 32 (0, 0) hg]
    cases av with
    | none => obtain rfl := q6 rfl; exact run_copy_nil Try.prog w 28 28 3 5 ⟨B, 0, none⟩ 32 32 Try.underlying28 (by rw [size5]; rfl)
    | some a =>
      have := run_copy_row Try.prog w 28 28 3 5 B 0 32 32 a 0 cp (vB (zs 32)) 32 [] Try.underlying28 size5 hg rfl (fun j u hu => by simp at hu) (by simp) (fun u hu => by simp at hu)
      rw [List.length_nil] at this ⊢
      rw [this]
      have e : (List.take 0 (vB (zs 32)).toList ++ [] ++ List.drop (0 + 0) (vB (zs 32)).toList).toArray = vB (zs 32) := by simp
      rw [e, setRow_self w B _ 32 (0, 0) hg]
      rfl
theorem rnum_zero (st : Option (List Int)) (k : Nat) (h : takeSt st k = none) : takeV st k = [] := by
  cases st with
  | none => rfl
  | some l => unfold takeSt at h; unfold takeV; simp only at h ⊢; split at h; · cases h
              · rename_i hh; rw [if_neg hh]
end Go.Proofs.Ytjkccnfmmkhapaa
