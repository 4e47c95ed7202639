/-
  NARROWER THAN 'FOR EVERY INPUT', by the rows' own cells (each row's printed sentence says how): ShaParts: laid · ShaPieces: laid · ShaResets: laid · FrameEncodes: laid · FrameDecodes: laid · FrameBack: laid · FrameTurned: laid · MessageEncodes: laid · MessageDecodes: laid · MessageTurned: laid · MessageApart: laid · StreamFeeds: laid · StreamFrames: laid · StreamJunk: laid · StreamNil: laid · StreamCut: laid.
  DERIVED. THE GIVEN ROWS OF THIS SEAT. 16 by the template 'for every input the law returns true; each argument reads behind the call as it read before'; 0 by the template 'total and deterministic' (their statements: YtnpjknnalekdpaaDoorTotals.lean).
  GIVEN WITH THE SEED: the statements are not yours to turn. If you find one false, say at which input.
  Laid BY PROGRAM, IN A SANDBOX (cutbox-rows.mjs): the forced cells as the released guide's own fill.sh prints them over the translation ec1d0eb559750bb5… (all of the seat's roots in one cut). By AI agents, Wed Nov 11 2026. No macro, syntax, notation, axiom, sorry.
-/
import Derived.Test.YtnpjknnalekdpaaDoorChecked
import GoSem.Claim
import GoSem.ClaimJoined
import GoSem.ClaimMapViews
import Derived.JoinedTies
import Derived.KernelRfl
namespace Go.Proofs.YtnpjknnalekdpaaDoor
/- THE CELL 'sum', in the pinned program and in every row, IS THE sha256 OF THE DUMP (.gsa) THAT YtnpjknnalekdpaaDoorProg.lean LOADS. Nothing in Lean hashes anything: it is a label: what it is worth is what the hold of that sum in a sandbox is worth. -/
noncomputable def Tryd.pinned : Pinned := { name := "ytnpjknnalekdpaadoor", sum := "ec1d0eb559750bb5a8fe3c20c2730804e5e7b3b15de51248834973ab16af36f5", checked := Tryd.checked }
namespace Rows
def none {H : Type} : Left H := { results := [], args := [] }

/- WHAT THE LISTED PACKAGE-LEVEL VARIABLES READ AS WHEN THE CALL BEGINS. Each datum BY PROGRAM (the guide's laid-datum.mjs) off the statement by which the dump's own 'gosem.cut.vars' lays the variable. In a bare row this is a premise. The card (YtnpjknnalekdpaaDoorCards.lean) ties it to the program's text. -/
def laid_redactor_sha_startWords {H : Type} : DataW H := .agg [.lit (.int .u32 1779033703), .lit (.int .u32 3144134277), .lit (.int .u32 1013904242), .lit (.int .u32 2773480762), .lit (.int .u32 1359893119), .lit (.int .u32 2600822924), .lit (.int .u32 528734635), .lit (.int .u32 1541459225)]
def laid_redactor_sha_roundWords {H : Type} : DataW H := .agg [.lit (.int .u32 1116352408), .lit (.int .u32 1899447441), .lit (.int .u32 3049323471), .lit (.int .u32 3921009573), .lit (.int .u32 961987163), .lit (.int .u32 1508970993), .lit (.int .u32 2453635748), .lit (.int .u32 2870763221), .lit (.int .u32 3624381080), .lit (.int .u32 310598401), .lit (.int .u32 607225278), .lit (.int .u32 1426881987), .lit (.int .u32 1925078388), .lit (.int .u32 2162078206), .lit (.int .u32 2614888103), .lit (.int .u32 3248222580), .lit (.int .u32 3835390401), .lit (.int .u32 4022224774), .lit (.int .u32 264347078), .lit (.int .u32 604807628), .lit (.int .u32 770255983), .lit (.int .u32 1249150122), .lit (.int .u32 1555081692), .lit (.int .u32 1996064986), .lit (.int .u32 2554220882), .lit (.int .u32 2821834349), .lit (.int .u32 2952996808), .lit (.int .u32 3210313671), .lit (.int .u32 3336571891), .lit (.int .u32 3584528711), .lit (.int .u32 113926993), .lit (.int .u32 338241895), .lit (.int .u32 666307205), .lit (.int .u32 773529912), .lit (.int .u32 1294757372), .lit (.int .u32 1396182291), .lit (.int .u32 1695183700), .lit (.int .u32 1986661051), .lit (.int .u32 2177026350), .lit (.int .u32 2456956037), .lit (.int .u32 2730485921), .lit (.int .u32 2820302411), .lit (.int .u32 3259730800), .lit (.int .u32 3345764771), .lit (.int .u32 3516065817), .lit (.int .u32 3600352804), .lit (.int .u32 4094571909), .lit (.int .u32 275423344), .lit (.int .u32 430227734), .lit (.int .u32 506948616), .lit (.int .u32 659060556), .lit (.int .u32 883997877), .lit (.int .u32 958139571), .lit (.int .u32 1322822218), .lit (.int .u32 1537002063), .lit (.int .u32 1747873779), .lit (.int .u32 1955562222), .lit (.int .u32 2024104815), .lit (.int .u32 2227730452), .lit (.int .u32 2361852424), .lit (.int .u32 2428436474), .lit (.int .u32 2756734187), .lit (.int .u32 3204031479), .lit (.int .u32 3329325298)]

/-- 'redactorlaw01.ShaParts': WHATEVER THE INPUT: true; the input reads as it did. -/
def shaPartsSpec : ChangeSpec := { name := "shaParts", fn := fun _ => fun
  | [d1, d2, d3] => { results := [.lit (.bool true)], args := [d1, d2, d3] }
  | _ => none }
def shaPartsRow : OpenClaim := { program := "ytnpjknnalekdpaadoor", sum := "ec1d0eb559750bb5a8fe3c20c2730804e5e7b3b15de51248834973ab16af36f5", func := "redactor/redactorlaw01.ShaParts", spec := "shaParts", named := ["redactor/sha.startWords", "redactor/sha.roundWords"], apart := false, laid := [("redactor/sha.startWords", laid_redactor_sha_startWords), ("redactor/sha.roundWords", laid_redactor_sha_roundWords)] }
def ShaPartsSaid : Prop := shaPartsRow.holds Tryd.pinned (OpenSpec.ofChange shaPartsSpec)

/-- ITS FALSE NEIGHBOUR: 'it returns false'. Refute it at one input. -/
def shaPartsWrong : ChangeSpec := { name := "shaParts", fn := fun _ => fun
  | [d1, d2, d3] => { results := [.lit (.bool false)], args := [d1, d2, d3] }
  | _ => none }
def ShaPartsWrongFalsely : Prop := shaPartsRow.holds Tryd.pinned (OpenSpec.ofChange shaPartsWrong)

/-- 'redactorlaw01.ShaPieces': WHATEVER THE INPUT: true; the input reads as it did. -/
def shaPiecesSpec : ChangeSpec := { name := "shaPieces", fn := fun _ => fun
  | [d] => { results := [.lit (.bool true)], args := [d] }
  | _ => none }
def shaPiecesRow : OpenClaim := { program := "ytnpjknnalekdpaadoor", sum := "ec1d0eb559750bb5a8fe3c20c2730804e5e7b3b15de51248834973ab16af36f5", func := "redactor/redactorlaw01.ShaPieces", spec := "shaPieces", named := ["redactor/sha.startWords", "redactor/sha.roundWords"], apart := false, laid := [("redactor/sha.startWords", laid_redactor_sha_startWords), ("redactor/sha.roundWords", laid_redactor_sha_roundWords)] }
def ShaPiecesSaid : Prop := shaPiecesRow.holds Tryd.pinned (OpenSpec.ofChange shaPiecesSpec)

/-- ITS FALSE NEIGHBOUR: 'it returns false'. Refute it at one input. -/
def shaPiecesWrong : ChangeSpec := { name := "shaPieces", fn := fun _ => fun
  | [d] => { results := [.lit (.bool false)], args := [d] }
  | _ => none }
def ShaPiecesWrongFalsely : Prop := shaPiecesRow.holds Tryd.pinned (OpenSpec.ofChange shaPiecesWrong)

/-- 'redactorlaw01.ShaResets': WHATEVER THE INPUT: true; the input reads as it did. -/
def shaResetsSpec : ChangeSpec := { name := "shaResets", fn := fun _ => fun
  | [d1, d2] => { results := [.lit (.bool true)], args := [d1, d2] }
  | _ => none }
def shaResetsRow : OpenClaim := { program := "ytnpjknnalekdpaadoor", sum := "ec1d0eb559750bb5a8fe3c20c2730804e5e7b3b15de51248834973ab16af36f5", func := "redactor/redactorlaw01.ShaResets", spec := "shaResets", named := ["redactor/sha.startWords", "redactor/sha.roundWords"], apart := false, laid := [("redactor/sha.startWords", laid_redactor_sha_startWords), ("redactor/sha.roundWords", laid_redactor_sha_roundWords)] }
def ShaResetsSaid : Prop := shaResetsRow.holds Tryd.pinned (OpenSpec.ofChange shaResetsSpec)

/-- ITS FALSE NEIGHBOUR: 'it returns false'. Refute it at one input. -/
def shaResetsWrong : ChangeSpec := { name := "shaResets", fn := fun _ => fun
  | [d1, d2] => { results := [.lit (.bool false)], args := [d1, d2] }
  | _ => none }
def ShaResetsWrongFalsely : Prop := shaResetsRow.holds Tryd.pinned (OpenSpec.ofChange shaResetsWrong)

/-- 'redactorlaw04.FrameEncodes': WHATEVER THE INPUT: true; the input reads as it did. -/
def frameEncodesSpec : ChangeSpec := { name := "frameEncodes", fn := fun _ => fun
  | [d1, d2] => { results := [.lit (.bool true)], args := [d1, d2] }
  | _ => none }
def frameEncodesRow : OpenClaim := { program := "ytnpjknnalekdpaadoor", sum := "ec1d0eb559750bb5a8fe3c20c2730804e5e7b3b15de51248834973ab16af36f5", func := "redactor/redactorlaw04.FrameEncodes", spec := "frameEncodes", named := ["redactor/sha.startWords", "redactor/sha.roundWords"], apart := false, laid := [("redactor/sha.startWords", laid_redactor_sha_startWords), ("redactor/sha.roundWords", laid_redactor_sha_roundWords)] }
def FrameEncodesSaid : Prop := frameEncodesRow.holds Tryd.pinned (OpenSpec.ofChange frameEncodesSpec)

/-- ITS FALSE NEIGHBOUR: 'it returns false'. Refute it at one input. -/
def frameEncodesWrong : ChangeSpec := { name := "frameEncodes", fn := fun _ => fun
  | [d1, d2] => { results := [.lit (.bool false)], args := [d1, d2] }
  | _ => none }
def FrameEncodesWrongFalsely : Prop := frameEncodesRow.holds Tryd.pinned (OpenSpec.ofChange frameEncodesWrong)

/-- 'redactorlaw04.FrameDecodes': WHATEVER THE INPUT: true; the input reads as it did. -/
def frameDecodesSpec : ChangeSpec := { name := "frameDecodes", fn := fun _ => fun
  | [d] => { results := [.lit (.bool true)], args := [d] }
  | _ => none }
def frameDecodesRow : OpenClaim := { program := "ytnpjknnalekdpaadoor", sum := "ec1d0eb559750bb5a8fe3c20c2730804e5e7b3b15de51248834973ab16af36f5", func := "redactor/redactorlaw04.FrameDecodes", spec := "frameDecodes", named := ["redactor/sha.startWords", "redactor/sha.roundWords"], apart := false, laid := [("redactor/sha.startWords", laid_redactor_sha_startWords), ("redactor/sha.roundWords", laid_redactor_sha_roundWords)] }
def FrameDecodesSaid : Prop := frameDecodesRow.holds Tryd.pinned (OpenSpec.ofChange frameDecodesSpec)

/-- ITS FALSE NEIGHBOUR: 'it returns false'. Refute it at one input. -/
def frameDecodesWrong : ChangeSpec := { name := "frameDecodes", fn := fun _ => fun
  | [d] => { results := [.lit (.bool false)], args := [d] }
  | _ => none }
def FrameDecodesWrongFalsely : Prop := frameDecodesRow.holds Tryd.pinned (OpenSpec.ofChange frameDecodesWrong)

/-- 'redactorlaw04.FrameBack': WHATEVER THE INPUT: true; the input reads as it did. -/
def frameBackSpec : ChangeSpec := { name := "frameBack", fn := fun _ => fun
  | [d1, d2, d3, d4] => { results := [.lit (.bool true)], args := [d1, d2, d3, d4] }
  | _ => none }
def frameBackRow : OpenClaim := { program := "ytnpjknnalekdpaadoor", sum := "ec1d0eb559750bb5a8fe3c20c2730804e5e7b3b15de51248834973ab16af36f5", func := "redactor/redactorlaw04.FrameBack", spec := "frameBack", named := ["redactor/sha.startWords", "redactor/sha.roundWords"], apart := false, laid := [("redactor/sha.startWords", laid_redactor_sha_startWords), ("redactor/sha.roundWords", laid_redactor_sha_roundWords)] }
def FrameBackSaid : Prop := frameBackRow.holds Tryd.pinned (OpenSpec.ofChange frameBackSpec)

/-- ITS FALSE NEIGHBOUR: 'it returns false'. Refute it at one input. -/
def frameBackWrong : ChangeSpec := { name := "frameBack", fn := fun _ => fun
  | [d1, d2, d3, d4] => { results := [.lit (.bool false)], args := [d1, d2, d3, d4] }
  | _ => none }
def FrameBackWrongFalsely : Prop := frameBackRow.holds Tryd.pinned (OpenSpec.ofChange frameBackWrong)

/-- 'redactorlaw04.FrameTurned': WHATEVER THE INPUT: true; the input reads as it did. -/
def frameTurnedSpec : ChangeSpec := { name := "frameTurned", fn := fun _ => fun
  | [d1, d2, d3, d4] => { results := [.lit (.bool true)], args := [d1, d2, d3, d4] }
  | _ => none }
def frameTurnedRow : OpenClaim := { program := "ytnpjknnalekdpaadoor", sum := "ec1d0eb559750bb5a8fe3c20c2730804e5e7b3b15de51248834973ab16af36f5", func := "redactor/redactorlaw04.FrameTurned", spec := "frameTurned", named := ["redactor/sha.startWords", "redactor/sha.roundWords"], apart := false, laid := [("redactor/sha.startWords", laid_redactor_sha_startWords), ("redactor/sha.roundWords", laid_redactor_sha_roundWords)] }
def FrameTurnedSaid : Prop := frameTurnedRow.holds Tryd.pinned (OpenSpec.ofChange frameTurnedSpec)

/-- ITS FALSE NEIGHBOUR: 'it returns false'. Refute it at one input. -/
def frameTurnedWrong : ChangeSpec := { name := "frameTurned", fn := fun _ => fun
  | [d1, d2, d3, d4] => { results := [.lit (.bool false)], args := [d1, d2, d3, d4] }
  | _ => none }
def FrameTurnedWrongFalsely : Prop := frameTurnedRow.holds Tryd.pinned (OpenSpec.ofChange frameTurnedWrong)

/-- 'redactorlaw05.MessageEncodes': WHATEVER THE INPUT: true; the input reads as it did. -/
def messageEncodesSpec : ChangeSpec := { name := "messageEncodes", fn := fun _ => fun
  | [d] => { results := [.lit (.bool true)], args := [d] }
  | _ => none }
def messageEncodesRow : OpenClaim := { program := "ytnpjknnalekdpaadoor", sum := "ec1d0eb559750bb5a8fe3c20c2730804e5e7b3b15de51248834973ab16af36f5", func := "redactor/redactorlaw05.MessageEncodes", spec := "messageEncodes", named := ["redactor/sha.startWords", "redactor/sha.roundWords"], apart := false, laid := [("redactor/sha.startWords", laid_redactor_sha_startWords), ("redactor/sha.roundWords", laid_redactor_sha_roundWords)] }
def MessageEncodesSaid : Prop := messageEncodesRow.holds Tryd.pinned (OpenSpec.ofChange messageEncodesSpec)

/-- ITS FALSE NEIGHBOUR: 'it returns false'. Refute it at one input. -/
def messageEncodesWrong : ChangeSpec := { name := "messageEncodes", fn := fun _ => fun
  | [d] => { results := [.lit (.bool false)], args := [d] }
  | _ => none }
def MessageEncodesWrongFalsely : Prop := messageEncodesRow.holds Tryd.pinned (OpenSpec.ofChange messageEncodesWrong)

/-- 'redactorlaw05.MessageDecodes': WHATEVER THE INPUT: true; the input reads as it did. -/
def messageDecodesSpec : ChangeSpec := { name := "messageDecodes", fn := fun _ => fun
  | [d] => { results := [.lit (.bool true)], args := [d] }
  | _ => none }
def messageDecodesRow : OpenClaim := { program := "ytnpjknnalekdpaadoor", sum := "ec1d0eb559750bb5a8fe3c20c2730804e5e7b3b15de51248834973ab16af36f5", func := "redactor/redactorlaw05.MessageDecodes", spec := "messageDecodes", named := ["redactor/sha.startWords", "redactor/sha.roundWords"], apart := false, laid := [("redactor/sha.startWords", laid_redactor_sha_startWords), ("redactor/sha.roundWords", laid_redactor_sha_roundWords)] }
def MessageDecodesSaid : Prop := messageDecodesRow.holds Tryd.pinned (OpenSpec.ofChange messageDecodesSpec)

/-- ITS FALSE NEIGHBOUR: 'it returns false'. Refute it at one input. -/
def messageDecodesWrong : ChangeSpec := { name := "messageDecodes", fn := fun _ => fun
  | [d] => { results := [.lit (.bool false)], args := [d] }
  | _ => none }
def MessageDecodesWrongFalsely : Prop := messageDecodesRow.holds Tryd.pinned (OpenSpec.ofChange messageDecodesWrong)

/-- 'redactorlaw05.MessageTurned': WHATEVER THE INPUT: true; the input reads as it did. -/
def messageTurnedSpec : ChangeSpec := { name := "messageTurned", fn := fun _ => fun
  | [d1, d2, d3, d4] => { results := [.lit (.bool true)], args := [d1, d2, d3, d4] }
  | _ => none }
def messageTurnedRow : OpenClaim := { program := "ytnpjknnalekdpaadoor", sum := "ec1d0eb559750bb5a8fe3c20c2730804e5e7b3b15de51248834973ab16af36f5", func := "redactor/redactorlaw05.MessageTurned", spec := "messageTurned", named := ["redactor/sha.startWords", "redactor/sha.roundWords"], apart := false, laid := [("redactor/sha.startWords", laid_redactor_sha_startWords), ("redactor/sha.roundWords", laid_redactor_sha_roundWords)] }
def MessageTurnedSaid : Prop := messageTurnedRow.holds Tryd.pinned (OpenSpec.ofChange messageTurnedSpec)

/-- ITS FALSE NEIGHBOUR: 'it returns false'. Refute it at one input. -/
def messageTurnedWrong : ChangeSpec := { name := "messageTurned", fn := fun _ => fun
  | [d1, d2, d3, d4] => { results := [.lit (.bool false)], args := [d1, d2, d3, d4] }
  | _ => none }
def MessageTurnedWrongFalsely : Prop := messageTurnedRow.holds Tryd.pinned (OpenSpec.ofChange messageTurnedWrong)

/-- 'redactorlaw05.MessageApart': WHATEVER THE INPUT: true; the input reads as it did. -/
def messageApartSpec : ChangeSpec := { name := "messageApart", fn := fun _ => fun
  | [d1, d2] => { results := [.lit (.bool true)], args := [d1, d2] }
  | _ => none }
def messageApartRow : OpenClaim := { program := "ytnpjknnalekdpaadoor", sum := "ec1d0eb559750bb5a8fe3c20c2730804e5e7b3b15de51248834973ab16af36f5", func := "redactor/redactorlaw05.MessageApart", spec := "messageApart", named := ["redactor/sha.startWords", "redactor/sha.roundWords"], apart := false, laid := [("redactor/sha.startWords", laid_redactor_sha_startWords), ("redactor/sha.roundWords", laid_redactor_sha_roundWords)] }
def MessageApartSaid : Prop := messageApartRow.holds Tryd.pinned (OpenSpec.ofChange messageApartSpec)

/-- ITS FALSE NEIGHBOUR: 'it returns false'. Refute it at one input. -/
def messageApartWrong : ChangeSpec := { name := "messageApart", fn := fun _ => fun
  | [d1, d2] => { results := [.lit (.bool false)], args := [d1, d2] }
  | _ => none }
def MessageApartWrongFalsely : Prop := messageApartRow.holds Tryd.pinned (OpenSpec.ofChange messageApartWrong)

/-- 'redactorlaw06.StreamFeeds': WHATEVER THE INPUT: true; the input reads as it did. -/
def streamFeedsSpec : ChangeSpec := { name := "streamFeeds", fn := fun _ => fun
  | [d] => { results := [.lit (.bool true)], args := [d] }
  | _ => none }
def streamFeedsRow : OpenClaim := { program := "ytnpjknnalekdpaadoor", sum := "ec1d0eb559750bb5a8fe3c20c2730804e5e7b3b15de51248834973ab16af36f5", func := "redactor/redactorlaw06.StreamFeeds", spec := "streamFeeds", named := ["redactor/sha.startWords", "redactor/sha.roundWords"], apart := false, laid := [("redactor/sha.startWords", laid_redactor_sha_startWords), ("redactor/sha.roundWords", laid_redactor_sha_roundWords)] }
def StreamFeedsSaid : Prop := streamFeedsRow.holds Tryd.pinned (OpenSpec.ofChange streamFeedsSpec)

/-- ITS FALSE NEIGHBOUR: 'it returns false'. Refute it at one input. -/
def streamFeedsWrong : ChangeSpec := { name := "streamFeeds", fn := fun _ => fun
  | [d] => { results := [.lit (.bool false)], args := [d] }
  | _ => none }
def StreamFeedsWrongFalsely : Prop := streamFeedsRow.holds Tryd.pinned (OpenSpec.ofChange streamFeedsWrong)

/-- 'redactorlaw06.StreamFrames': WHATEVER THE INPUT: true; the input reads as it did. -/
def streamFramesSpec : ChangeSpec := { name := "streamFrames", fn := fun _ => fun
  | [d1, d2] => { results := [.lit (.bool true)], args := [d1, d2] }
  | _ => none }
def streamFramesRow : OpenClaim := { program := "ytnpjknnalekdpaadoor", sum := "ec1d0eb559750bb5a8fe3c20c2730804e5e7b3b15de51248834973ab16af36f5", func := "redactor/redactorlaw06.StreamFrames", spec := "streamFrames", named := ["redactor/sha.startWords", "redactor/sha.roundWords"], apart := false, laid := [("redactor/sha.startWords", laid_redactor_sha_startWords), ("redactor/sha.roundWords", laid_redactor_sha_roundWords)] }
def StreamFramesSaid : Prop := streamFramesRow.holds Tryd.pinned (OpenSpec.ofChange streamFramesSpec)

/-- ITS FALSE NEIGHBOUR: 'it returns false'. Refute it at one input. -/
def streamFramesWrong : ChangeSpec := { name := "streamFrames", fn := fun _ => fun
  | [d1, d2] => { results := [.lit (.bool false)], args := [d1, d2] }
  | _ => none }
def StreamFramesWrongFalsely : Prop := streamFramesRow.holds Tryd.pinned (OpenSpec.ofChange streamFramesWrong)

/-- 'redactorlaw06.StreamJunk': WHATEVER THE INPUT: true; the input reads as it did. -/
def streamJunkSpec : ChangeSpec := { name := "streamJunk", fn := fun _ => fun
  | [d] => { results := [.lit (.bool true)], args := [d] }
  | _ => none }
def streamJunkRow : OpenClaim := { program := "ytnpjknnalekdpaadoor", sum := "ec1d0eb559750bb5a8fe3c20c2730804e5e7b3b15de51248834973ab16af36f5", func := "redactor/redactorlaw06.StreamJunk", spec := "streamJunk", named := ["redactor/sha.startWords", "redactor/sha.roundWords"], apart := false, laid := [("redactor/sha.startWords", laid_redactor_sha_startWords), ("redactor/sha.roundWords", laid_redactor_sha_roundWords)] }
def StreamJunkSaid : Prop := streamJunkRow.holds Tryd.pinned (OpenSpec.ofChange streamJunkSpec)

/-- ITS FALSE NEIGHBOUR: 'it returns false'. Refute it at one input. -/
def streamJunkWrong : ChangeSpec := { name := "streamJunk", fn := fun _ => fun
  | [d] => { results := [.lit (.bool false)], args := [d] }
  | _ => none }
def StreamJunkWrongFalsely : Prop := streamJunkRow.holds Tryd.pinned (OpenSpec.ofChange streamJunkWrong)

/-- 'redactorlaw06.StreamNil': WHATEVER THE INPUT: true; the input reads as it did. -/
def streamNilSpec : ChangeSpec := { name := "streamNil", fn := fun _ => fun
  | [d] => { results := [.lit (.bool true)], args := [d] }
  | _ => none }
def streamNilRow : OpenClaim := { program := "ytnpjknnalekdpaadoor", sum := "ec1d0eb559750bb5a8fe3c20c2730804e5e7b3b15de51248834973ab16af36f5", func := "redactor/redactorlaw06.StreamNil", spec := "streamNil", named := ["redactor/sha.startWords", "redactor/sha.roundWords"], apart := false, laid := [("redactor/sha.startWords", laid_redactor_sha_startWords), ("redactor/sha.roundWords", laid_redactor_sha_roundWords)] }
def StreamNilSaid : Prop := streamNilRow.holds Tryd.pinned (OpenSpec.ofChange streamNilSpec)

/-- ITS FALSE NEIGHBOUR: 'it returns false'. Refute it at one input. -/
def streamNilWrong : ChangeSpec := { name := "streamNil", fn := fun _ => fun
  | [d] => { results := [.lit (.bool false)], args := [d] }
  | _ => none }
def StreamNilWrongFalsely : Prop := streamNilRow.holds Tryd.pinned (OpenSpec.ofChange streamNilWrong)

/-- 'redactorlaw06.StreamCut': WHATEVER THE INPUT: true; the input reads as it did. -/
def streamCutSpec : ChangeSpec := { name := "streamCut", fn := fun _ => fun
  | [d1, d2, d3] => { results := [.lit (.bool true)], args := [d1, d2, d3] }
  | _ => none }
def streamCutRow : OpenClaim := { program := "ytnpjknnalekdpaadoor", sum := "ec1d0eb559750bb5a8fe3c20c2730804e5e7b3b15de51248834973ab16af36f5", func := "redactor/redactorlaw06.StreamCut", spec := "streamCut", named := ["redactor/sha.startWords", "redactor/sha.roundWords"], apart := false, laid := [("redactor/sha.startWords", laid_redactor_sha_startWords), ("redactor/sha.roundWords", laid_redactor_sha_roundWords)] }
def StreamCutSaid : Prop := streamCutRow.holds Tryd.pinned (OpenSpec.ofChange streamCutSpec)

/-- ITS FALSE NEIGHBOUR: 'it returns false'. Refute it at one input. -/
def streamCutWrong : ChangeSpec := { name := "streamCut", fn := fun _ => fun
  | [d1, d2, d3] => { results := [.lit (.bool false)], args := [d1, d2, d3] }
  | _ => none }
def StreamCutWrongFalsely : Prop := streamCutRow.holds Tryd.pinned (OpenSpec.ofChange streamCutWrong)

/- THE SECOND FORM. 'bulk': how many values and letters a reading holds, each counted each time it is reached (what is shared counts as often as it is met; a slice's spare places count too). A statement '..UptoSaid' is the law's where the arguments, and the package variables that the reading takes, are together of bulk at most 1048576: NARROWER than '..Said'. Prove '..Said' where nothing that the law and all that it calls make is longer than what came in: it says more and counts as full. Else prove '..UptoSaid'. A law counts once. -/
mutual
def uptoBulk {H : Type} : DataW H → Nat
  | .lit (.string bytes) => bytes.length + 1
  | .lit _ => 1
  | .nil => 1
  | .ptr d => uptoBulk d + 1
  | .slice elems spare => uptoBulkAll elems + uptoBulkAll spare + 1
  | .agg parts => uptoBulkAll parts + 1
  | .iface _ d => uptoBulk d + 1
  | .map entries => uptoBulkEntries entries + 1
  | .held _ => 1
def uptoBulkAll {H : Type} : List (DataW H) → Nat
  | [] => 0
  | d :: r => uptoBulk d + uptoBulkAll r
def uptoBulkEntries {H : Type} : List (Lit × DataW H) → Nat
  | [] => 0
  | x :: r => uptoBulkEntry x + uptoBulkEntries r
def uptoBulkEntry {H : Type} : Lit × DataW H → Nat
  | (.string bytes, d) => bytes.length + uptoBulk d + 1
  | (_, d) => uptoBulk d + 1
 end
def uptoSmall : (H : Type) → List (DataW H) → Bool := fun _ ds => decide (uptoBulkAll ds ≤ 1048576)
def OpenSpec.upto (s : _root_.Go.ChangeSpec) : _root_.Go.OpenSpec := { _root_.Go.OpenSpec.ofChange s with cond := some uptoSmall }

/-- 'redactorlaw01.ShaParts', WHERE WHAT IT READS IS OF BULK AT MOST 1048576: true; the input reads as it did. -/
def shaPartsUptoRow : OpenClaim := { program := "ytnpjknnalekdpaadoor", sum := "ec1d0eb559750bb5a8fe3c20c2730804e5e7b3b15de51248834973ab16af36f5", func := "redactor/redactorlaw01.ShaParts", spec := "shaParts", named := ["redactor/sha.startWords", "redactor/sha.roundWords"], apart := false, laid := [("redactor/sha.startWords", laid_redactor_sha_startWords), ("redactor/sha.roundWords", laid_redactor_sha_roundWords)], narrowed := true }
def ShaPartsUptoSaid : Prop := shaPartsUptoRow.holds Tryd.pinned (OpenSpec.upto shaPartsSpec)

/-- 'redactorlaw01.ShaPieces', WHERE WHAT IT READS IS OF BULK AT MOST 1048576: true; the input reads as it did. -/
def shaPiecesUptoRow : OpenClaim := { program := "ytnpjknnalekdpaadoor", sum := "ec1d0eb559750bb5a8fe3c20c2730804e5e7b3b15de51248834973ab16af36f5", func := "redactor/redactorlaw01.ShaPieces", spec := "shaPieces", named := ["redactor/sha.startWords", "redactor/sha.roundWords"], apart := false, laid := [("redactor/sha.startWords", laid_redactor_sha_startWords), ("redactor/sha.roundWords", laid_redactor_sha_roundWords)], narrowed := true }
def ShaPiecesUptoSaid : Prop := shaPiecesUptoRow.holds Tryd.pinned (OpenSpec.upto shaPiecesSpec)

/-- 'redactorlaw01.ShaResets', WHERE WHAT IT READS IS OF BULK AT MOST 1048576: true; the input reads as it did. -/
def shaResetsUptoRow : OpenClaim := { program := "ytnpjknnalekdpaadoor", sum := "ec1d0eb559750bb5a8fe3c20c2730804e5e7b3b15de51248834973ab16af36f5", func := "redactor/redactorlaw01.ShaResets", spec := "shaResets", named := ["redactor/sha.startWords", "redactor/sha.roundWords"], apart := false, laid := [("redactor/sha.startWords", laid_redactor_sha_startWords), ("redactor/sha.roundWords", laid_redactor_sha_roundWords)], narrowed := true }
def ShaResetsUptoSaid : Prop := shaResetsUptoRow.holds Tryd.pinned (OpenSpec.upto shaResetsSpec)

/-- 'redactorlaw04.FrameEncodes', WHERE WHAT IT READS IS OF BULK AT MOST 1048576: true; the input reads as it did. -/
def frameEncodesUptoRow : OpenClaim := { program := "ytnpjknnalekdpaadoor", sum := "ec1d0eb559750bb5a8fe3c20c2730804e5e7b3b15de51248834973ab16af36f5", func := "redactor/redactorlaw04.FrameEncodes", spec := "frameEncodes", named := ["redactor/sha.startWords", "redactor/sha.roundWords"], apart := false, laid := [("redactor/sha.startWords", laid_redactor_sha_startWords), ("redactor/sha.roundWords", laid_redactor_sha_roundWords)], narrowed := true }
def FrameEncodesUptoSaid : Prop := frameEncodesUptoRow.holds Tryd.pinned (OpenSpec.upto frameEncodesSpec)

/-- 'redactorlaw04.FrameDecodes', WHERE WHAT IT READS IS OF BULK AT MOST 1048576: true; the input reads as it did. -/
def frameDecodesUptoRow : OpenClaim := { program := "ytnpjknnalekdpaadoor", sum := "ec1d0eb559750bb5a8fe3c20c2730804e5e7b3b15de51248834973ab16af36f5", func := "redactor/redactorlaw04.FrameDecodes", spec := "frameDecodes", named := ["redactor/sha.startWords", "redactor/sha.roundWords"], apart := false, laid := [("redactor/sha.startWords", laid_redactor_sha_startWords), ("redactor/sha.roundWords", laid_redactor_sha_roundWords)], narrowed := true }
def FrameDecodesUptoSaid : Prop := frameDecodesUptoRow.holds Tryd.pinned (OpenSpec.upto frameDecodesSpec)

/-- 'redactorlaw04.FrameBack', WHERE WHAT IT READS IS OF BULK AT MOST 1048576: true; the input reads as it did. -/
def frameBackUptoRow : OpenClaim := { program := "ytnpjknnalekdpaadoor", sum := "ec1d0eb559750bb5a8fe3c20c2730804e5e7b3b15de51248834973ab16af36f5", func := "redactor/redactorlaw04.FrameBack", spec := "frameBack", named := ["redactor/sha.startWords", "redactor/sha.roundWords"], apart := false, laid := [("redactor/sha.startWords", laid_redactor_sha_startWords), ("redactor/sha.roundWords", laid_redactor_sha_roundWords)], narrowed := true }
def FrameBackUptoSaid : Prop := frameBackUptoRow.holds Tryd.pinned (OpenSpec.upto frameBackSpec)

/-- 'redactorlaw04.FrameTurned', WHERE WHAT IT READS IS OF BULK AT MOST 1048576: true; the input reads as it did. -/
def frameTurnedUptoRow : OpenClaim := { program := "ytnpjknnalekdpaadoor", sum := "ec1d0eb559750bb5a8fe3c20c2730804e5e7b3b15de51248834973ab16af36f5", func := "redactor/redactorlaw04.FrameTurned", spec := "frameTurned", named := ["redactor/sha.startWords", "redactor/sha.roundWords"], apart := false, laid := [("redactor/sha.startWords", laid_redactor_sha_startWords), ("redactor/sha.roundWords", laid_redactor_sha_roundWords)], narrowed := true }
def FrameTurnedUptoSaid : Prop := frameTurnedUptoRow.holds Tryd.pinned (OpenSpec.upto frameTurnedSpec)

/-- 'redactorlaw05.MessageEncodes', WHERE WHAT IT READS IS OF BULK AT MOST 1048576: true; the input reads as it did. -/
def messageEncodesUptoRow : OpenClaim := { program := "ytnpjknnalekdpaadoor", sum := "ec1d0eb559750bb5a8fe3c20c2730804e5e7b3b15de51248834973ab16af36f5", func := "redactor/redactorlaw05.MessageEncodes", spec := "messageEncodes", named := ["redactor/sha.startWords", "redactor/sha.roundWords"], apart := false, laid := [("redactor/sha.startWords", laid_redactor_sha_startWords), ("redactor/sha.roundWords", laid_redactor_sha_roundWords)], narrowed := true }
def MessageEncodesUptoSaid : Prop := messageEncodesUptoRow.holds Tryd.pinned (OpenSpec.upto messageEncodesSpec)

/-- 'redactorlaw05.MessageDecodes', WHERE WHAT IT READS IS OF BULK AT MOST 1048576: true; the input reads as it did. -/
def messageDecodesUptoRow : OpenClaim := { program := "ytnpjknnalekdpaadoor", sum := "ec1d0eb559750bb5a8fe3c20c2730804e5e7b3b15de51248834973ab16af36f5", func := "redactor/redactorlaw05.MessageDecodes", spec := "messageDecodes", named := ["redactor/sha.startWords", "redactor/sha.roundWords"], apart := false, laid := [("redactor/sha.startWords", laid_redactor_sha_startWords), ("redactor/sha.roundWords", laid_redactor_sha_roundWords)], narrowed := true }
def MessageDecodesUptoSaid : Prop := messageDecodesUptoRow.holds Tryd.pinned (OpenSpec.upto messageDecodesSpec)

/-- 'redactorlaw05.MessageTurned', WHERE WHAT IT READS IS OF BULK AT MOST 1048576: true; the input reads as it did. -/
def messageTurnedUptoRow : OpenClaim := { program := "ytnpjknnalekdpaadoor", sum := "ec1d0eb559750bb5a8fe3c20c2730804e5e7b3b15de51248834973ab16af36f5", func := "redactor/redactorlaw05.MessageTurned", spec := "messageTurned", named := ["redactor/sha.startWords", "redactor/sha.roundWords"], apart := false, laid := [("redactor/sha.startWords", laid_redactor_sha_startWords), ("redactor/sha.roundWords", laid_redactor_sha_roundWords)], narrowed := true }
def MessageTurnedUptoSaid : Prop := messageTurnedUptoRow.holds Tryd.pinned (OpenSpec.upto messageTurnedSpec)

/-- 'redactorlaw05.MessageApart', WHERE WHAT IT READS IS OF BULK AT MOST 1048576: true; the input reads as it did. -/
def messageApartUptoRow : OpenClaim := { program := "ytnpjknnalekdpaadoor", sum := "ec1d0eb559750bb5a8fe3c20c2730804e5e7b3b15de51248834973ab16af36f5", func := "redactor/redactorlaw05.MessageApart", spec := "messageApart", named := ["redactor/sha.startWords", "redactor/sha.roundWords"], apart := false, laid := [("redactor/sha.startWords", laid_redactor_sha_startWords), ("redactor/sha.roundWords", laid_redactor_sha_roundWords)], narrowed := true }
def MessageApartUptoSaid : Prop := messageApartUptoRow.holds Tryd.pinned (OpenSpec.upto messageApartSpec)

/-- 'redactorlaw06.StreamFeeds', WHERE WHAT IT READS IS OF BULK AT MOST 1048576: true; the input reads as it did. -/
def streamFeedsUptoRow : OpenClaim := { program := "ytnpjknnalekdpaadoor", sum := "ec1d0eb559750bb5a8fe3c20c2730804e5e7b3b15de51248834973ab16af36f5", func := "redactor/redactorlaw06.StreamFeeds", spec := "streamFeeds", named := ["redactor/sha.startWords", "redactor/sha.roundWords"], apart := false, laid := [("redactor/sha.startWords", laid_redactor_sha_startWords), ("redactor/sha.roundWords", laid_redactor_sha_roundWords)], narrowed := true }
def StreamFeedsUptoSaid : Prop := streamFeedsUptoRow.holds Tryd.pinned (OpenSpec.upto streamFeedsSpec)

/-- 'redactorlaw06.StreamFrames', WHERE WHAT IT READS IS OF BULK AT MOST 1048576: true; the input reads as it did. -/
def streamFramesUptoRow : OpenClaim := { program := "ytnpjknnalekdpaadoor", sum := "ec1d0eb559750bb5a8fe3c20c2730804e5e7b3b15de51248834973ab16af36f5", func := "redactor/redactorlaw06.StreamFrames", spec := "streamFrames", named := ["redactor/sha.startWords", "redactor/sha.roundWords"], apart := false, laid := [("redactor/sha.startWords", laid_redactor_sha_startWords), ("redactor/sha.roundWords", laid_redactor_sha_roundWords)], narrowed := true }
def StreamFramesUptoSaid : Prop := streamFramesUptoRow.holds Tryd.pinned (OpenSpec.upto streamFramesSpec)

/-- 'redactorlaw06.StreamJunk', WHERE WHAT IT READS IS OF BULK AT MOST 1048576: true; the input reads as it did. -/
def streamJunkUptoRow : OpenClaim := { program := "ytnpjknnalekdpaadoor", sum := "ec1d0eb559750bb5a8fe3c20c2730804e5e7b3b15de51248834973ab16af36f5", func := "redactor/redactorlaw06.StreamJunk", spec := "streamJunk", named := ["redactor/sha.startWords", "redactor/sha.roundWords"], apart := false, laid := [("redactor/sha.startWords", laid_redactor_sha_startWords), ("redactor/sha.roundWords", laid_redactor_sha_roundWords)], narrowed := true }
def StreamJunkUptoSaid : Prop := streamJunkUptoRow.holds Tryd.pinned (OpenSpec.upto streamJunkSpec)

/-- 'redactorlaw06.StreamNil', WHERE WHAT IT READS IS OF BULK AT MOST 1048576: true; the input reads as it did. -/
def streamNilUptoRow : OpenClaim := { program := "ytnpjknnalekdpaadoor", sum := "ec1d0eb559750bb5a8fe3c20c2730804e5e7b3b15de51248834973ab16af36f5", func := "redactor/redactorlaw06.StreamNil", spec := "streamNil", named := ["redactor/sha.startWords", "redactor/sha.roundWords"], apart := false, laid := [("redactor/sha.startWords", laid_redactor_sha_startWords), ("redactor/sha.roundWords", laid_redactor_sha_roundWords)], narrowed := true }
def StreamNilUptoSaid : Prop := streamNilUptoRow.holds Tryd.pinned (OpenSpec.upto streamNilSpec)

/-- 'redactorlaw06.StreamCut', WHERE WHAT IT READS IS OF BULK AT MOST 1048576: true; the input reads as it did. -/
def streamCutUptoRow : OpenClaim := { program := "ytnpjknnalekdpaadoor", sum := "ec1d0eb559750bb5a8fe3c20c2730804e5e7b3b15de51248834973ab16af36f5", func := "redactor/redactorlaw06.StreamCut", spec := "streamCut", named := ["redactor/sha.startWords", "redactor/sha.roundWords"], apart := false, laid := [("redactor/sha.startWords", laid_redactor_sha_startWords), ("redactor/sha.roundWords", laid_redactor_sha_roundWords)], narrowed := true }
def StreamCutUptoSaid : Prop := streamCutUptoRow.holds Tryd.pinned (OpenSpec.upto streamCutSpec)

end Rows
end Go.Proofs.YtnpjknnalekdpaaDoor
