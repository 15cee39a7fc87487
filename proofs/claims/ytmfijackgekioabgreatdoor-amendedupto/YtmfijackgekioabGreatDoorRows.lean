/-
  NARROWER THAN 'FOR EVERY INPUT', by the rows' own cells (each row's printed sentence says how): Cut: laid · Turned: laid · Amended: laid · Limited: laid.
  DERIVED. THE GIVEN ROWS OF THIS SEAT. 4 by the template 'for every input the law returns true; each argument reads behind the call as it read before'; 0 by the template 'total and deterministic' (their statements: YtmfijackgekioabGreatDoorTotals.lean).
  GIVEN WITH THE SEED: the statements are not yours to turn. If you find one false, say at which input.
  Laid BY PROGRAM, IN A SANDBOX (cutbox-rows.mjs): the forced cells as the released guide's own fill.sh prints them over the translation efd8f80a0aeb343a… (all of the seat's roots in one cut). By AI agents, Wed Nov 11 2026. No macro, syntax, notation, axiom, sorry.
-/
import Derived.Test.YtmfijackgekioabGreatDoorChecked
import GoSem.Claim
import GoSem.ClaimJoined
import GoSem.ClaimMapViews
import Derived.JoinedTies
import Derived.KernelRfl
namespace Go.Proofs.YtmfijackgekioabGreatDoor
/- THE CELL 'sum', in the pinned program and in every row, IS THE sha256 OF THE DUMP (.gsa) THAT YtmfijackgekioabGreatDoorProg.lean LOADS. Nothing in Lean hashes anything: it is a label: what it is worth is what the hold of that sum in a sandbox is worth. -/
noncomputable def Tryz.pinned : Pinned := { name := "ytmfijackgekioabgreatdoor", sum := "efd8f80a0aeb343a18c6d242d6a950ad399d86392294dcf8635121e733d49534", checked := Tryz.checked }
namespace Rows
def none {H : Type} : Left H := { results := [], args := [] }

/- WHAT THE LISTED PACKAGE-LEVEL VARIABLES READ AS WHEN THE CALL BEGINS. Each datum BY PROGRAM (the guide's laid-datum.mjs) off the statement by which the dump's own 'gosem.cut.vars' lays the variable. In a bare row this is a premise. The card (YtmfijackgekioabGreatDoorCards.lean) ties it to the program's text. -/
def laid_mosaic_picture_sevenPasses {H : Type} : DataW H := .agg [.agg [.lit (.int .i64 0), .lit (.int .i64 0), .lit (.int .i64 8), .lit (.int .i64 8), .lit (.int .i64 0), .lit (.int .i64 0)], .agg [.lit (.int .i64 4), .lit (.int .i64 0), .lit (.int .i64 8), .lit (.int .i64 8), .lit (.int .i64 0), .lit (.int .i64 0)], .agg [.lit (.int .i64 0), .lit (.int .i64 4), .lit (.int .i64 4), .lit (.int .i64 8), .lit (.int .i64 0), .lit (.int .i64 0)], .agg [.lit (.int .i64 2), .lit (.int .i64 0), .lit (.int .i64 4), .lit (.int .i64 4), .lit (.int .i64 0), .lit (.int .i64 0)], .agg [.lit (.int .i64 0), .lit (.int .i64 2), .lit (.int .i64 2), .lit (.int .i64 4), .lit (.int .i64 0), .lit (.int .i64 0)], .agg [.lit (.int .i64 1), .lit (.int .i64 0), .lit (.int .i64 2), .lit (.int .i64 2), .lit (.int .i64 0), .lit (.int .i64 0)], .agg [.lit (.int .i64 0), .lit (.int .i64 1), .lit (.int .i64 1), .lit (.int .i64 2), .lit (.int .i64 0), .lit (.int .i64 0)]]

/-- 'mosaickeep.Cut': WHATEVER THE INPUT: true; the input reads as it did. -/
def cutSpec : ChangeSpec := { name := "cut", fn := fun _ => fun
  | [d1, d2, d3, d4, d5, d6, d7, d8, d9] => { results := [.lit (.bool true)], args := [d1, d2, d3, d4, d5, d6, d7, d8, d9] }
  | _ => none }
def cutRow : OpenClaim := { program := "ytmfijackgekioabgreatdoor", sum := "efd8f80a0aeb343a18c6d242d6a950ad399d86392294dcf8635121e733d49534", func := "mosaic/mosaickeep.Cut", spec := "cut", inPlace := ["internal/abi.NoEscape", "internal/bytealg.MakeNoZero"], unfollowed := true, recurses := true, named := ["mosaic/picture.sevenPasses"], plainKeys := false, apart := false, laid := [("mosaic/picture.sevenPasses", laid_mosaic_picture_sevenPasses)] }
def CutSaid : Prop := cutRow.holds Tryz.pinned (OpenSpec.ofChange cutSpec)

/-- ITS FALSE NEIGHBOUR: 'it returns false'. Refute it at one input. -/
def cutWrong : ChangeSpec := { name := "cut", fn := fun _ => fun
  | [d1, d2, d3, d4, d5, d6, d7, d8, d9] => { results := [.lit (.bool false)], args := [d1, d2, d3, d4, d5, d6, d7, d8, d9] }
  | _ => none }
def CutWrongFalsely : Prop := cutRow.holds Tryz.pinned (OpenSpec.ofChange cutWrong)

/-- 'mosaickeep.Turned': WHATEVER THE INPUT: true; the input reads as it did. -/
def turnedSpec : ChangeSpec := { name := "turned", fn := fun _ => fun
  | [d1, d2, d3, d4, d5, d6, d7, d8, d9, d10] => { results := [.lit (.bool true)], args := [d1, d2, d3, d4, d5, d6, d7, d8, d9, d10] }
  | _ => none }
def turnedRow : OpenClaim := { program := "ytmfijackgekioabgreatdoor", sum := "efd8f80a0aeb343a18c6d242d6a950ad399d86392294dcf8635121e733d49534", func := "mosaic/mosaickeep.Turned", spec := "turned", inPlace := ["internal/abi.NoEscape", "internal/bytealg.MakeNoZero"], unfollowed := true, recurses := true, named := ["mosaic/picture.sevenPasses"], plainKeys := false, apart := false, laid := [("mosaic/picture.sevenPasses", laid_mosaic_picture_sevenPasses)] }
def TurnedSaid : Prop := turnedRow.holds Tryz.pinned (OpenSpec.ofChange turnedSpec)

/-- ITS FALSE NEIGHBOUR: 'it returns false'. Refute it at one input. -/
def turnedWrong : ChangeSpec := { name := "turned", fn := fun _ => fun
  | [d1, d2, d3, d4, d5, d6, d7, d8, d9, d10] => { results := [.lit (.bool false)], args := [d1, d2, d3, d4, d5, d6, d7, d8, d9, d10] }
  | _ => none }
def TurnedWrongFalsely : Prop := turnedRow.holds Tryz.pinned (OpenSpec.ofChange turnedWrong)

/-- 'mosaickeep.Amended': WHATEVER THE INPUT: true; the input reads as it did. -/
def amendedSpec : ChangeSpec := { name := "amended", fn := fun _ => fun
  | [d1, d2, d3, d4, d5, d6, d7, d8, d9] => { results := [.lit (.bool true)], args := [d1, d2, d3, d4, d5, d6, d7, d8, d9] }
  | _ => none }
def amendedRow : OpenClaim := { program := "ytmfijackgekioabgreatdoor", sum := "efd8f80a0aeb343a18c6d242d6a950ad399d86392294dcf8635121e733d49534", func := "mosaic/mosaickeep.Amended", spec := "amended", inPlace := ["internal/abi.NoEscape", "internal/bytealg.MakeNoZero"], unfollowed := true, recurses := true, named := ["mosaic/picture.sevenPasses"], plainKeys := false, apart := false, laid := [("mosaic/picture.sevenPasses", laid_mosaic_picture_sevenPasses)] }
def AmendedSaid : Prop := amendedRow.holds Tryz.pinned (OpenSpec.ofChange amendedSpec)

/-- ITS FALSE NEIGHBOUR: 'it returns false'. Refute it at one input. -/
def amendedWrong : ChangeSpec := { name := "amended", fn := fun _ => fun
  | [d1, d2, d3, d4, d5, d6, d7, d8, d9] => { results := [.lit (.bool false)], args := [d1, d2, d3, d4, d5, d6, d7, d8, d9] }
  | _ => none }
def AmendedWrongFalsely : Prop := amendedRow.holds Tryz.pinned (OpenSpec.ofChange amendedWrong)

/-- 'mosaickeep.Limited': WHATEVER THE INPUT: true; the input reads as it did. -/
def limitedSpec : ChangeSpec := { name := "limited", fn := fun _ => fun
  | [d1, d2, d3, d4, d5, d6] => { results := [.lit (.bool true)], args := [d1, d2, d3, d4, d5, d6] }
  | _ => none }
def limitedRow : OpenClaim := { program := "ytmfijackgekioabgreatdoor", sum := "efd8f80a0aeb343a18c6d242d6a950ad399d86392294dcf8635121e733d49534", func := "mosaic/mosaickeep.Limited", spec := "limited", inPlace := ["internal/abi.NoEscape", "internal/bytealg.MakeNoZero"], unfollowed := true, recurses := true, named := ["mosaic/picture.sevenPasses"], plainKeys := false, apart := false, laid := [("mosaic/picture.sevenPasses", laid_mosaic_picture_sevenPasses)] }
def LimitedSaid : Prop := limitedRow.holds Tryz.pinned (OpenSpec.ofChange limitedSpec)

/-- ITS FALSE NEIGHBOUR: 'it returns false'. Refute it at one input. -/
def limitedWrong : ChangeSpec := { name := "limited", fn := fun _ => fun
  | [d1, d2, d3, d4, d5, d6] => { results := [.lit (.bool false)], args := [d1, d2, d3, d4, d5, d6] }
  | _ => none }
def LimitedWrongFalsely : Prop := limitedRow.holds Tryz.pinned (OpenSpec.ofChange limitedWrong)

/- THE SECOND FORM. 'bulk': how many values and letters a reading holds, each counted each time it is reached (what is shared counts as often as it is met; a slice's spare places count too). A statement '..UptoSaid' is the law's where the arguments, and the package variables that the reading takes, are together of bulk at most 1048576: NARROWER than '..Said'. Prove '..Said' where nothing that the law and all that it calls make is longer than what came in: it says more and counts as full. Else prove '..UptoSaid'. A law counts once. -/
mutual
def uptoBulk {H : Type} : DataW H → Nat
  | .lit (.string bytes) => bytes.length + 1
  | .lit _ => 1
  | .nil => 1
  | .ptr d => uptoBulk d + 1
  | .slice elems spare => uptoBulkAll elems + uptoBulkAll spare + 1
  | .agg parts => uptoBulkAll parts + 1
  | .iface _ d => uptoBulk d + 1
  | .map entries => uptoBulkEntries entries + 1
  | .held _ => 1
def uptoBulkAll {H : Type} : List (DataW H) → Nat
  | [] => 0
  | d :: r => uptoBulk d + uptoBulkAll r
def uptoBulkEntries {H : Type} : List (Lit × DataW H) → Nat
  | [] => 0
  | x :: r => uptoBulkEntry x + uptoBulkEntries r
def uptoBulkEntry {H : Type} : Lit × DataW H → Nat
  | (.string bytes, d) => bytes.length + uptoBulk d + 1
  | (_, d) => uptoBulk d + 1
 end
def uptoSmall : (H : Type) → List (DataW H) → Bool := fun _ ds => decide (uptoBulkAll ds ≤ 1048576)
def OpenSpec.upto (s : _root_.Go.ChangeSpec) : _root_.Go.OpenSpec := { _root_.Go.OpenSpec.ofChange s with cond := some uptoSmall }

/-- 'mosaickeep.Cut', WHERE WHAT IT READS IS OF BULK AT MOST 1048576: true; the input reads as it did. -/
def cutUptoRow : OpenClaim := { program := "ytmfijackgekioabgreatdoor", sum := "efd8f80a0aeb343a18c6d242d6a950ad399d86392294dcf8635121e733d49534", func := "mosaic/mosaickeep.Cut", spec := "cut", inPlace := ["internal/abi.NoEscape", "internal/bytealg.MakeNoZero"], unfollowed := true, recurses := true, named := ["mosaic/picture.sevenPasses"], plainKeys := false, apart := false, laid := [("mosaic/picture.sevenPasses", laid_mosaic_picture_sevenPasses)], narrowed := true }
def CutUptoSaid : Prop := cutUptoRow.holds Tryz.pinned (OpenSpec.upto cutSpec)

/-- 'mosaickeep.Turned', WHERE WHAT IT READS IS OF BULK AT MOST 1048576: true; the input reads as it did. -/
def turnedUptoRow : OpenClaim := { program := "ytmfijackgekioabgreatdoor", sum := "efd8f80a0aeb343a18c6d242d6a950ad399d86392294dcf8635121e733d49534", func := "mosaic/mosaickeep.Turned", spec := "turned", inPlace := ["internal/abi.NoEscape", "internal/bytealg.MakeNoZero"], unfollowed := true, recurses := true, named := ["mosaic/picture.sevenPasses"], plainKeys := false, apart := false, laid := [("mosaic/picture.sevenPasses", laid_mosaic_picture_sevenPasses)], narrowed := true }
def TurnedUptoSaid : Prop := turnedUptoRow.holds Tryz.pinned (OpenSpec.upto turnedSpec)

/-- 'mosaickeep.Amended', WHERE WHAT IT READS IS OF BULK AT MOST 1048576: true; the input reads as it did. -/
def amendedUptoRow : OpenClaim := { program := "ytmfijackgekioabgreatdoor", sum := "efd8f80a0aeb343a18c6d242d6a950ad399d86392294dcf8635121e733d49534", func := "mosaic/mosaickeep.Amended", spec := "amended", inPlace := ["internal/abi.NoEscape", "internal/bytealg.MakeNoZero"], unfollowed := true, recurses := true, named := ["mosaic/picture.sevenPasses"], plainKeys := false, apart := false, laid := [("mosaic/picture.sevenPasses", laid_mosaic_picture_sevenPasses)], narrowed := true }
def AmendedUptoSaid : Prop := amendedUptoRow.holds Tryz.pinned (OpenSpec.upto amendedSpec)

/-- 'mosaickeep.Limited', WHERE WHAT IT READS IS OF BULK AT MOST 1048576: true; the input reads as it did. -/
def limitedUptoRow : OpenClaim := { program := "ytmfijackgekioabgreatdoor", sum := "efd8f80a0aeb343a18c6d242d6a950ad399d86392294dcf8635121e733d49534", func := "mosaic/mosaickeep.Limited", spec := "limited", inPlace := ["internal/abi.NoEscape", "internal/bytealg.MakeNoZero"], unfollowed := true, recurses := true, named := ["mosaic/picture.sevenPasses"], plainKeys := false, apart := false, laid := [("mosaic/picture.sevenPasses", laid_mosaic_picture_sevenPasses)], narrowed := true }
def LimitedUptoSaid : Prop := limitedUptoRow.holds Tryz.pinned (OpenSpec.upto limitedSpec)

end Rows
end Go.Proofs.YtmfijackgekioabGreatDoor
