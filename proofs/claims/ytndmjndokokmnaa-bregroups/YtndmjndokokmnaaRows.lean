/-
  NARROWER THAN 'FOR EVERY INPUT', by the rows' own cells (each row's printed sentence says how): TreeForms: loops · TreeJoins: loops · TreeSame: loops · TreeFlat: loops.
  DERIVED. THE GIVEN ROWS OF THIS SEAT. 13 by the template 'for every input the law returns true; each argument reads behind the call as it read before'; 0 by the template 'total and deterministic' (their statements: YtndmjndokokmnaaTotals.lean).
  GIVEN WITH THE SEED: the statements are not yours to turn. If you find one false, say at which input.
  Laid BY PROGRAM, IN A SANDBOX (cutbox-rows.mjs): the forced cells as the released guide's own fill.sh prints them over the translation b1593026f81d0b71… (all of the seat's roots in one cut). By AI agents, Wed Nov 11 2026. No macro, syntax, notation, axiom, sorry.
-/
import Derived.Test.YtndmjndokokmnaaChecked
import GoSem.Claim
import GoSem.ClaimJoined
import GoSem.ClaimMapViews
import Derived.JoinedTies
import Derived.KernelRfl
namespace Go.Proofs.Ytndmjndokokmnaa
/- THE CELL 'sum', in the pinned program and in every row, IS THE sha256 OF THE DUMP (.gsa) THAT YtndmjndokokmnaaProg.lean LOADS. Nothing in Lean hashes anything: it is a label: what it is worth is what the hold of that sum in a sandbox is worth. -/
noncomputable def Try.pinned : Pinned := { name := "ytndmjndokokmnaa", sum := "b1593026f81d0b71eda971640e92e2f7ce28500b24bc305b6682061c1fce1a41", checked := Try.checked }
namespace Rows
def none {H : Type} : Left H := { results := [], args := [] }

/-- 'redactorlaw07.BracketSets': WHATEVER THE INPUT: true; the input reads as it did. -/
def bracketSetsSpec : ChangeSpec := { name := "bracketSets", fn := fun _ => fun
  | [d1, d2, d3, d4] => { results := [.lit (.bool true)], args := [d1, d2, d3, d4] }
  | _ => none }
def bracketSetsRow : OpenClaim := { program := "ytndmjndokokmnaa", sum := "b1593026f81d0b71eda971640e92e2f7ce28500b24bc305b6682061c1fce1a41", func := "redactor/redactorlaw07.BracketSets", spec := "bracketSets", inPlace := ["internal/bytealg.IndexByteString", "internal/bytealg.IndexString"], named := ["internal/bytealg.MaxLen"], apart := false }
def BracketSetsSaid : Prop := bracketSetsRow.holds Try.pinned (OpenSpec.ofChange bracketSetsSpec)

/-- ITS FALSE NEIGHBOUR: 'it returns false'. Refute it at one input. -/
def bracketSetsWrong : ChangeSpec := { name := "bracketSets", fn := fun _ => fun
  | [d1, d2, d3, d4] => { results := [.lit (.bool false)], args := [d1, d2, d3, d4] }
  | _ => none }
def BracketSetsWrongFalsely : Prop := bracketSetsRow.holds Try.pinned (OpenSpec.ofChange bracketSetsWrong)

/-- 'redactorlaw07.BracketClasses': WHATEVER THE INPUT: true; the input reads as it did. -/
def bracketClassesSpec : ChangeSpec := { name := "bracketClasses", fn := fun _ => fun
  | [d] => { results := [.lit (.bool true)], args := [d] }
  | _ => none }
def bracketClassesRow : OpenClaim := { program := "ytndmjndokokmnaa", sum := "b1593026f81d0b71eda971640e92e2f7ce28500b24bc305b6682061c1fce1a41", func := "redactor/redactorlaw07.BracketClasses", spec := "bracketClasses", inPlace := ["internal/bytealg.IndexByteString", "internal/bytealg.IndexString"], named := ["internal/bytealg.MaxLen"], apart := false }
def BracketClassesSaid : Prop := bracketClassesRow.holds Try.pinned (OpenSpec.ofChange bracketClassesSpec)

/-- ITS FALSE NEIGHBOUR: 'it returns false'. Refute it at one input. -/
def bracketClassesWrong : ChangeSpec := { name := "bracketClasses", fn := fun _ => fun
  | [d] => { results := [.lit (.bool false)], args := [d] }
  | _ => none }
def BracketClassesWrongFalsely : Prop := bracketClassesRow.holds Try.pinned (OpenSpec.ofChange bracketClassesWrong)

/-- 'redactorlaw07.BracketParses': WHATEVER THE INPUT: true; the input reads as it did. -/
def bracketParsesSpec : ChangeSpec := { name := "bracketParses", fn := fun _ => fun
  | [d1, d2] => { results := [.lit (.bool true)], args := [d1, d2] }
  | _ => none }
def bracketParsesRow : OpenClaim := { program := "ytndmjndokokmnaa", sum := "b1593026f81d0b71eda971640e92e2f7ce28500b24bc305b6682061c1fce1a41", func := "redactor/redactorlaw07.BracketParses", spec := "bracketParses", inPlace := ["internal/bytealg.IndexByteString", "internal/bytealg.IndexString"], named := ["internal/bytealg.MaxLen"], apart := false }
def BracketParsesSaid : Prop := bracketParsesRow.holds Try.pinned (OpenSpec.ofChange bracketParsesSpec)

/-- ITS FALSE NEIGHBOUR: 'it returns false'. Refute it at one input. -/
def bracketParsesWrong : ChangeSpec := { name := "bracketParses", fn := fun _ => fun
  | [d1, d2] => { results := [.lit (.bool false)], args := [d1, d2] }
  | _ => none }
def BracketParsesWrongFalsely : Prop := bracketParsesRow.holds Try.pinned (OpenSpec.ofChange bracketParsesWrong)

/-- 'redactorlaw07.BracketBack': WHATEVER THE INPUT: true; the input reads as it did. -/
def bracketBackSpec : ChangeSpec := { name := "bracketBack", fn := fun _ => fun
  | [d1, d2, d3] => { results := [.lit (.bool true)], args := [d1, d2, d3] }
  | _ => none }
def bracketBackRow : OpenClaim := { program := "ytndmjndokokmnaa", sum := "b1593026f81d0b71eda971640e92e2f7ce28500b24bc305b6682061c1fce1a41", func := "redactor/redactorlaw07.BracketBack", spec := "bracketBack", inPlace := ["internal/bytealg.IndexByteString", "internal/bytealg.IndexString", "internal/abi.NoEscape"], named := ["internal/bytealg.MaxLen"], apart := false }
def BracketBackSaid : Prop := bracketBackRow.holds Try.pinned (OpenSpec.ofChange bracketBackSpec)

/-- ITS FALSE NEIGHBOUR: 'it returns false'. Refute it at one input. -/
def bracketBackWrong : ChangeSpec := { name := "bracketBack", fn := fun _ => fun
  | [d1, d2, d3] => { results := [.lit (.bool false)], args := [d1, d2, d3] }
  | _ => none }
def BracketBackWrongFalsely : Prop := bracketBackRow.holds Try.pinned (OpenSpec.ofChange bracketBackWrong)

/-- 'redactorlaw07.BracketNot': WHATEVER THE INPUT: true; the input reads as it did. -/
def bracketNotSpec : ChangeSpec := { name := "bracketNot", fn := fun _ => fun
  | [d] => { results := [.lit (.bool true)], args := [d] }
  | _ => none }
def bracketNotRow : OpenClaim := { program := "ytndmjndokokmnaa", sum := "b1593026f81d0b71eda971640e92e2f7ce28500b24bc305b6682061c1fce1a41", func := "redactor/redactorlaw07.BracketNot", spec := "bracketNot", inPlace := ["internal/bytealg.IndexByteString", "internal/bytealg.IndexString"], named := ["internal/bytealg.MaxLen"], apart := false }
def BracketNotSaid : Prop := bracketNotRow.holds Try.pinned (OpenSpec.ofChange bracketNotSpec)

/-- ITS FALSE NEIGHBOUR: 'it returns false'. Refute it at one input. -/
def bracketNotWrong : ChangeSpec := { name := "bracketNot", fn := fun _ => fun
  | [d] => { results := [.lit (.bool false)], args := [d] }
  | _ => none }
def BracketNotWrongFalsely : Prop := bracketNotRow.holds Try.pinned (OpenSpec.ofChange bracketNotWrong)

/-- 'redactorlaw07.BracketRange': WHATEVER THE INPUT: true; the input reads as it did. -/
def bracketRangeSpec : ChangeSpec := { name := "bracketRange", fn := fun _ => fun
  | [d1, d2] => { results := [.lit (.bool true)], args := [d1, d2] }
  | _ => none }
def bracketRangeRow : OpenClaim := { program := "ytndmjndokokmnaa", sum := "b1593026f81d0b71eda971640e92e2f7ce28500b24bc305b6682061c1fce1a41", func := "redactor/redactorlaw07.BracketRange", spec := "bracketRange", inPlace := ["internal/bytealg.IndexByteString", "internal/bytealg.IndexString"], named := ["internal/bytealg.MaxLen"], apart := false }
def BracketRangeSaid : Prop := bracketRangeRow.holds Try.pinned (OpenSpec.ofChange bracketRangeSpec)

/-- ITS FALSE NEIGHBOUR: 'it returns false'. Refute it at one input. -/
def bracketRangeWrong : ChangeSpec := { name := "bracketRange", fn := fun _ => fun
  | [d1, d2] => { results := [.lit (.bool false)], args := [d1, d2] }
  | _ => none }
def BracketRangeWrongFalsely : Prop := bracketRangeRow.holds Try.pinned (OpenSpec.ofChange bracketRangeWrong)

/-- 'redactorlaw08.TreeForms': WHATEVER THE INPUT: true; the input reads as it did. -/
def treeFormsSpec : ChangeSpec := { name := "treeForms", fn := fun _ => fun
  | [d] => { results := [.lit (.bool true)], args := [d] }
  | _ => none }
def treeFormsRow : OpenClaim := { program := "ytndmjndokokmnaa", sum := "b1593026f81d0b71eda971640e92e2f7ce28500b24bc305b6682061c1fce1a41", func := "redactor/redactorlaw08.TreeForms", spec := "treeForms", unfollowed := true, recurses := true, loops := true, apart := false }
def TreeFormsSaid : Prop := treeFormsRow.holds Try.pinned (OpenSpec.ofChange treeFormsSpec)

/-- ITS FALSE NEIGHBOUR: 'it returns false'. Refute it at one input. -/
def treeFormsWrong : ChangeSpec := { name := "treeForms", fn := fun _ => fun
  | [d] => { results := [.lit (.bool false)], args := [d] }
  | _ => none }
def TreeFormsWrongFalsely : Prop := treeFormsRow.holds Try.pinned (OpenSpec.ofChange treeFormsWrong)

/-- 'redactorlaw08.TreeJoins': WHATEVER THE INPUT: true; the input reads as it did. -/
def treeJoinsSpec : ChangeSpec := { name := "treeJoins", fn := fun _ => fun
  | [d] => { results := [.lit (.bool true)], args := [d] }
  | _ => none }
def treeJoinsRow : OpenClaim := { program := "ytndmjndokokmnaa", sum := "b1593026f81d0b71eda971640e92e2f7ce28500b24bc305b6682061c1fce1a41", func := "redactor/redactorlaw08.TreeJoins", spec := "treeJoins", unfollowed := true, recurses := true, loops := true, apart := false }
def TreeJoinsSaid : Prop := treeJoinsRow.holds Try.pinned (OpenSpec.ofChange treeJoinsSpec)

/-- ITS FALSE NEIGHBOUR: 'it returns false'. Refute it at one input. -/
def treeJoinsWrong : ChangeSpec := { name := "treeJoins", fn := fun _ => fun
  | [d] => { results := [.lit (.bool false)], args := [d] }
  | _ => none }
def TreeJoinsWrongFalsely : Prop := treeJoinsRow.holds Try.pinned (OpenSpec.ofChange treeJoinsWrong)

/-- 'redactorlaw08.TreeSame': WHATEVER THE INPUT: true; the input reads as it did. -/
def treeSameSpec : ChangeSpec := { name := "treeSame", fn := fun _ => fun
  | [d1, d2] => { results := [.lit (.bool true)], args := [d1, d2] }
  | _ => none }
def treeSameRow : OpenClaim := { program := "ytndmjndokokmnaa", sum := "b1593026f81d0b71eda971640e92e2f7ce28500b24bc305b6682061c1fce1a41", func := "redactor/redactorlaw08.TreeSame", spec := "treeSame", unfollowed := true, recurses := true, loops := true, apart := false }
def TreeSameSaid : Prop := treeSameRow.holds Try.pinned (OpenSpec.ofChange treeSameSpec)

/-- ITS FALSE NEIGHBOUR: 'it returns false'. Refute it at one input. -/
def treeSameWrong : ChangeSpec := { name := "treeSame", fn := fun _ => fun
  | [d1, d2] => { results := [.lit (.bool false)], args := [d1, d2] }
  | _ => none }
def TreeSameWrongFalsely : Prop := treeSameRow.holds Try.pinned (OpenSpec.ofChange treeSameWrong)

/-- 'redactorlaw08.TreeFlat': WHATEVER THE INPUT: true; the input reads as it did. -/
def treeFlatSpec : ChangeSpec := { name := "treeFlat", fn := fun _ => fun
  | [d1, d2] => { results := [.lit (.bool true)], args := [d1, d2] }
  | _ => none }
def treeFlatRow : OpenClaim := { program := "ytndmjndokokmnaa", sum := "b1593026f81d0b71eda971640e92e2f7ce28500b24bc305b6682061c1fce1a41", func := "redactor/redactorlaw08.TreeFlat", spec := "treeFlat", unfollowed := true, recurses := true, loops := true, apart := false }
def TreeFlatSaid : Prop := treeFlatRow.holds Try.pinned (OpenSpec.ofChange treeFlatSpec)

/-- ITS FALSE NEIGHBOUR: 'it returns false'. Refute it at one input. -/
def treeFlatWrong : ChangeSpec := { name := "treeFlat", fn := fun _ => fun
  | [d1, d2] => { results := [.lit (.bool false)], args := [d1, d2] }
  | _ => none }
def TreeFlatWrongFalsely : Prop := treeFlatRow.holds Try.pinned (OpenSpec.ofChange treeFlatWrong)

/-- 'redactorlaw09.BreParses': WHATEVER THE INPUT: true; the input reads as it did. -/
def breParsesSpec : ChangeSpec := { name := "breParses", fn := fun _ => fun
  | [d] => { results := [.lit (.bool true)], args := [d] }
  | _ => none }
def breParsesRow : OpenClaim := { program := "ytndmjndokokmnaa", sum := "b1593026f81d0b71eda971640e92e2f7ce28500b24bc305b6682061c1fce1a41", func := "redactor/redactorlaw09.BreParses", spec := "breParses", inPlace := ["internal/bytealg.IndexByteString", "internal/bytealg.IndexString"], unfollowed := true, recurses := true, named := ["internal/bytealg.MaxLen"], apart := false }
def BreParsesSaid : Prop := breParsesRow.holds Try.pinned (OpenSpec.ofChange breParsesSpec)

/-- ITS FALSE NEIGHBOUR: 'it returns false'. Refute it at one input. -/
def breParsesWrong : ChangeSpec := { name := "breParses", fn := fun _ => fun
  | [d] => { results := [.lit (.bool false)], args := [d] }
  | _ => none }
def BreParsesWrongFalsely : Prop := breParsesRow.holds Try.pinned (OpenSpec.ofChange breParsesWrong)

/-- 'redactorlaw09.BreTurned': WHATEVER THE INPUT: true; the input reads as it did. -/
def breTurnedSpec : ChangeSpec := { name := "breTurned", fn := fun _ => fun
  | [d1, d2, d3, d4] => { results := [.lit (.bool true)], args := [d1, d2, d3, d4] }
  | _ => none }
def breTurnedRow : OpenClaim := { program := "ytndmjndokokmnaa", sum := "b1593026f81d0b71eda971640e92e2f7ce28500b24bc305b6682061c1fce1a41", func := "redactor/redactorlaw09.BreTurned", spec := "breTurned", inPlace := ["internal/bytealg.IndexByteString", "internal/bytealg.IndexString"], unfollowed := true, recurses := true, named := ["internal/bytealg.MaxLen"], apart := false }
def BreTurnedSaid : Prop := breTurnedRow.holds Try.pinned (OpenSpec.ofChange breTurnedSpec)

/-- ITS FALSE NEIGHBOUR: 'it returns false'. Refute it at one input. -/
def breTurnedWrong : ChangeSpec := { name := "breTurned", fn := fun _ => fun
  | [d1, d2, d3, d4] => { results := [.lit (.bool false)], args := [d1, d2, d3, d4] }
  | _ => none }
def BreTurnedWrongFalsely : Prop := breTurnedRow.holds Try.pinned (OpenSpec.ofChange breTurnedWrong)

/-- 'redactorlaw09.BreGroups': WHATEVER THE INPUT: true; the input reads as it did. -/
def breGroupsSpec : ChangeSpec := { name := "breGroups", fn := fun _ => fun
  | [d] => { results := [.lit (.bool true)], args := [d] }
  | _ => none }
def breGroupsRow : OpenClaim := { program := "ytndmjndokokmnaa", sum := "b1593026f81d0b71eda971640e92e2f7ce28500b24bc305b6682061c1fce1a41", func := "redactor/redactorlaw09.BreGroups", spec := "breGroups", inPlace := ["internal/bytealg.IndexByteString", "internal/bytealg.IndexString"], unfollowed := true, recurses := true, named := ["internal/bytealg.MaxLen"], apart := false }
def BreGroupsSaid : Prop := breGroupsRow.holds Try.pinned (OpenSpec.ofChange breGroupsSpec)

/-- ITS FALSE NEIGHBOUR: 'it returns false'. Refute it at one input. -/
def breGroupsWrong : ChangeSpec := { name := "breGroups", fn := fun _ => fun
  | [d] => { results := [.lit (.bool false)], args := [d] }
  | _ => none }
def BreGroupsWrongFalsely : Prop := breGroupsRow.holds Try.pinned (OpenSpec.ofChange breGroupsWrong)

/- THE SECOND FORM. 'bulk': how many values and letters a reading holds, each counted each time it is reached (what is shared counts as often as it is met; a slice's spare places count too). A statement '..UptoSaid' is the law's where the arguments, and the package variables that the reading takes, are together of bulk at most 1048576: NARROWER than '..Said'. Prove '..Said' where nothing that the law and all that it calls make is longer than what came in: it says more and counts as full. Else prove '..UptoSaid'. A law counts once. -/
mutual
def uptoBulk {H : Type} : DataW H → Nat
  | .lit (.string bytes) => bytes.length + 1
  | .lit _ => 1
  | .nil => 1
  | .ptr d => uptoBulk d + 1
  | .slice elems spare => uptoBulkAll elems + uptoBulkAll spare + 1
  | .agg parts => uptoBulkAll parts + 1
  | .iface _ d => uptoBulk d + 1
  | .map entries => uptoBulkEntries entries + 1
  | .held _ => 1
def uptoBulkAll {H : Type} : List (DataW H) → Nat
  | [] => 0
  | d :: r => uptoBulk d + uptoBulkAll r
def uptoBulkEntries {H : Type} : List (Lit × DataW H) → Nat
  | [] => 0
  | x :: r => uptoBulkEntry x + uptoBulkEntries r
def uptoBulkEntry {H : Type} : Lit × DataW H → Nat
  | (.string bytes, d) => bytes.length + uptoBulk d + 1
  | (_, d) => uptoBulk d + 1
 end
def uptoSmall : (H : Type) → List (DataW H) → Bool := fun _ ds => decide (uptoBulkAll ds ≤ 1048576)
def OpenSpec.upto (s : _root_.Go.ChangeSpec) : _root_.Go.OpenSpec := { _root_.Go.OpenSpec.ofChange s with cond := some uptoSmall }

/-- 'redactorlaw07.BracketSets', WHERE WHAT IT READS IS OF BULK AT MOST 1048576: true; the input reads as it did. -/
def bracketSetsUptoRow : OpenClaim := { program := "ytndmjndokokmnaa", sum := "b1593026f81d0b71eda971640e92e2f7ce28500b24bc305b6682061c1fce1a41", func := "redactor/redactorlaw07.BracketSets", spec := "bracketSets", inPlace := ["internal/bytealg.IndexByteString", "internal/bytealg.IndexString"], named := ["internal/bytealg.MaxLen"], apart := false, narrowed := true }
def BracketSetsUptoSaid : Prop := bracketSetsUptoRow.holds Try.pinned (OpenSpec.upto bracketSetsSpec)

/-- 'redactorlaw07.BracketClasses', WHERE WHAT IT READS IS OF BULK AT MOST 1048576: true; the input reads as it did. -/
def bracketClassesUptoRow : OpenClaim := { program := "ytndmjndokokmnaa", sum := "b1593026f81d0b71eda971640e92e2f7ce28500b24bc305b6682061c1fce1a41", func := "redactor/redactorlaw07.BracketClasses", spec := "bracketClasses", inPlace := ["internal/bytealg.IndexByteString", "internal/bytealg.IndexString"], named := ["internal/bytealg.MaxLen"], apart := false, narrowed := true }
def BracketClassesUptoSaid : Prop := bracketClassesUptoRow.holds Try.pinned (OpenSpec.upto bracketClassesSpec)

/-- 'redactorlaw07.BracketParses', WHERE WHAT IT READS IS OF BULK AT MOST 1048576: true; the input reads as it did. -/
def bracketParsesUptoRow : OpenClaim := { program := "ytndmjndokokmnaa", sum := "b1593026f81d0b71eda971640e92e2f7ce28500b24bc305b6682061c1fce1a41", func := "redactor/redactorlaw07.BracketParses", spec := "bracketParses", inPlace := ["internal/bytealg.IndexByteString", "internal/bytealg.IndexString"], named := ["internal/bytealg.MaxLen"], apart := false, narrowed := true }
def BracketParsesUptoSaid : Prop := bracketParsesUptoRow.holds Try.pinned (OpenSpec.upto bracketParsesSpec)

/-- 'redactorlaw07.BracketBack', WHERE WHAT IT READS IS OF BULK AT MOST 1048576: true; the input reads as it did. -/
def bracketBackUptoRow : OpenClaim := { program := "ytndmjndokokmnaa", sum := "b1593026f81d0b71eda971640e92e2f7ce28500b24bc305b6682061c1fce1a41", func := "redactor/redactorlaw07.BracketBack", spec := "bracketBack", inPlace := ["internal/bytealg.IndexByteString", "internal/bytealg.IndexString", "internal/abi.NoEscape"], named := ["internal/bytealg.MaxLen"], apart := false, narrowed := true }
def BracketBackUptoSaid : Prop := bracketBackUptoRow.holds Try.pinned (OpenSpec.upto bracketBackSpec)

/-- 'redactorlaw07.BracketNot', WHERE WHAT IT READS IS OF BULK AT MOST 1048576: true; the input reads as it did. -/
def bracketNotUptoRow : OpenClaim := { program := "ytndmjndokokmnaa", sum := "b1593026f81d0b71eda971640e92e2f7ce28500b24bc305b6682061c1fce1a41", func := "redactor/redactorlaw07.BracketNot", spec := "bracketNot", inPlace := ["internal/bytealg.IndexByteString", "internal/bytealg.IndexString"], named := ["internal/bytealg.MaxLen"], apart := false, narrowed := true }
def BracketNotUptoSaid : Prop := bracketNotUptoRow.holds Try.pinned (OpenSpec.upto bracketNotSpec)

/-- 'redactorlaw07.BracketRange', WHERE WHAT IT READS IS OF BULK AT MOST 1048576: true; the input reads as it did. -/
def bracketRangeUptoRow : OpenClaim := { program := "ytndmjndokokmnaa", sum := "b1593026f81d0b71eda971640e92e2f7ce28500b24bc305b6682061c1fce1a41", func := "redactor/redactorlaw07.BracketRange", spec := "bracketRange", inPlace := ["internal/bytealg.IndexByteString", "internal/bytealg.IndexString"], named := ["internal/bytealg.MaxLen"], apart := false, narrowed := true }
def BracketRangeUptoSaid : Prop := bracketRangeUptoRow.holds Try.pinned (OpenSpec.upto bracketRangeSpec)

/-- 'redactorlaw08.TreeForms', WHERE WHAT IT READS IS OF BULK AT MOST 1048576: true; the input reads as it did. -/
def treeFormsUptoRow : OpenClaim := { program := "ytndmjndokokmnaa", sum := "b1593026f81d0b71eda971640e92e2f7ce28500b24bc305b6682061c1fce1a41", func := "redactor/redactorlaw08.TreeForms", spec := "treeForms", unfollowed := true, recurses := true, loops := true, apart := false, narrowed := true }
def TreeFormsUptoSaid : Prop := treeFormsUptoRow.holds Try.pinned (OpenSpec.upto treeFormsSpec)

/-- 'redactorlaw08.TreeJoins', WHERE WHAT IT READS IS OF BULK AT MOST 1048576: true; the input reads as it did. -/
def treeJoinsUptoRow : OpenClaim := { program := "ytndmjndokokmnaa", sum := "b1593026f81d0b71eda971640e92e2f7ce28500b24bc305b6682061c1fce1a41", func := "redactor/redactorlaw08.TreeJoins", spec := "treeJoins", unfollowed := true, recurses := true, loops := true, apart := false, narrowed := true }
def TreeJoinsUptoSaid : Prop := treeJoinsUptoRow.holds Try.pinned (OpenSpec.upto treeJoinsSpec)

/-- 'redactorlaw08.TreeSame', WHERE WHAT IT READS IS OF BULK AT MOST 1048576: true; the input reads as it did. -/
def treeSameUptoRow : OpenClaim := { program := "ytndmjndokokmnaa", sum := "b1593026f81d0b71eda971640e92e2f7ce28500b24bc305b6682061c1fce1a41", func := "redactor/redactorlaw08.TreeSame", spec := "treeSame", unfollowed := true, recurses := true, loops := true, apart := false, narrowed := true }
def TreeSameUptoSaid : Prop := treeSameUptoRow.holds Try.pinned (OpenSpec.upto treeSameSpec)

/-- 'redactorlaw08.TreeFlat', WHERE WHAT IT READS IS OF BULK AT MOST 1048576: true; the input reads as it did. -/
def treeFlatUptoRow : OpenClaim := { program := "ytndmjndokokmnaa", sum := "b1593026f81d0b71eda971640e92e2f7ce28500b24bc305b6682061c1fce1a41", func := "redactor/redactorlaw08.TreeFlat", spec := "treeFlat", unfollowed := true, recurses := true, loops := true, apart := false, narrowed := true }
def TreeFlatUptoSaid : Prop := treeFlatUptoRow.holds Try.pinned (OpenSpec.upto treeFlatSpec)

/-- 'redactorlaw09.BreParses', WHERE WHAT IT READS IS OF BULK AT MOST 1048576: true; the input reads as it did. -/
def breParsesUptoRow : OpenClaim := { program := "ytndmjndokokmnaa", sum := "b1593026f81d0b71eda971640e92e2f7ce28500b24bc305b6682061c1fce1a41", func := "redactor/redactorlaw09.BreParses", spec := "breParses", inPlace := ["internal/bytealg.IndexByteString", "internal/bytealg.IndexString"], unfollowed := true, recurses := true, named := ["internal/bytealg.MaxLen"], apart := false, narrowed := true }
def BreParsesUptoSaid : Prop := breParsesUptoRow.holds Try.pinned (OpenSpec.upto breParsesSpec)

/-- 'redactorlaw09.BreTurned', WHERE WHAT IT READS IS OF BULK AT MOST 1048576: true; the input reads as it did. -/
def breTurnedUptoRow : OpenClaim := { program := "ytndmjndokokmnaa", sum := "b1593026f81d0b71eda971640e92e2f7ce28500b24bc305b6682061c1fce1a41", func := "redactor/redactorlaw09.BreTurned", spec := "breTurned", inPlace := ["internal/bytealg.IndexByteString", "internal/bytealg.IndexString"], unfollowed := true, recurses := true, named := ["internal/bytealg.MaxLen"], apart := false, narrowed := true }
def BreTurnedUptoSaid : Prop := breTurnedUptoRow.holds Try.pinned (OpenSpec.upto breTurnedSpec)

/-- 'redactorlaw09.BreGroups', WHERE WHAT IT READS IS OF BULK AT MOST 1048576: true; the input reads as it did. -/
def breGroupsUptoRow : OpenClaim := { program := "ytndmjndokokmnaa", sum := "b1593026f81d0b71eda971640e92e2f7ce28500b24bc305b6682061c1fce1a41", func := "redactor/redactorlaw09.BreGroups", spec := "breGroups", inPlace := ["internal/bytealg.IndexByteString", "internal/bytealg.IndexString"], unfollowed := true, recurses := true, named := ["internal/bytealg.MaxLen"], apart := false, narrowed := true }
def BreGroupsUptoSaid : Prop := breGroupsUptoRow.holds Try.pinned (OpenSpec.upto breGroupsSpec)

end Rows
end Go.Proofs.Ytndmjndokokmnaa
