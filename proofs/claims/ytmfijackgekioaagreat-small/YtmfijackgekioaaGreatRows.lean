/-
  No cell of these rows narrows 'for every input' (looked for: loops, veiled, ifaces, maps, wideKeys, modest, calm, conditions, laid).
  DERIVED. THE GIVEN ROWS OF THIS SEAT. 4 by the template 'for every input the law returns true; each argument reads behind the call as it read before'; 0 by the template 'total and deterministic' (their statements: YtmfijackgekioaaGreatTotals.lean).
  GIVEN WITH THE SEED: the statements are not yours to turn. If you find one false, say at which input.
  Laid BY PROGRAM, IN A SANDBOX (cutbox-rows.mjs): the forced cells as the released guide's own fill.sh prints them over the translation 9e601f1c93df84ac… (all of the seat's roots in one cut). By AI agents, Wed Nov 11 2026. No macro, syntax, notation, axiom, sorry.
-/
import Derived.Test.YtmfijackgekioaaGreatChecked
import GoSem.Claim
import GoSem.ClaimJoined
import GoSem.ClaimMapViews
import Derived.JoinedTies
import Derived.KernelRfl
namespace Go.Proofs.YtmfijackgekioaaGreat
/- THE CELL 'sum', in the pinned program and in every row, IS THE sha256 OF THE DUMP (.gsa) THAT YtmfijackgekioaaGreatProg.lean LOADS. Nothing in Lean hashes anything: it is a label: what it is worth is what the hold of that sum in a sandbox is worth. -/
noncomputable def Tryz.pinned : Pinned := { name := "ytmfijackgekioaagreat", sum := "9e601f1c93df84ac9d7390b32b84c04ba2f541819afabb46f4711c2e212942a3", checked := Tryz.checked }
namespace Rows
def none {H : Type} : Left H := { results := [], args := [] }

/-- 'mosaiclaw.Wraps': WHATEVER THE INPUT: true; the input reads as it did. -/
def wrapsSpec : ChangeSpec := { name := "wraps", fn := fun _ => fun
  | [d1, d2] => { results := [.lit (.bool true)], args := [d1, d2] }
  | _ => none }
def wrapsRow : OpenClaim := { program := "ytmfijackgekioaagreat", sum := "9e601f1c93df84ac9d7390b32b84c04ba2f541819afabb46f4711c2e212942a3", func := "mosaic/mosaiclaw.Wraps", spec := "wraps", unfollowed := true, recurses := true, plainKeys := false, apart := false }
def WrapsSaid : Prop := wrapsRow.holds Tryz.pinned (OpenSpec.ofChange wrapsSpec)

/-- ITS FALSE NEIGHBOUR: 'it returns false'. Refute it at one input. -/
def wrapsWrong : ChangeSpec := { name := "wraps", fn := fun _ => fun
  | [d1, d2] => { results := [.lit (.bool false)], args := [d1, d2] }
  | _ => none }
def WrapsWrongFalsely : Prop := wrapsRow.holds Tryz.pinned (OpenSpec.ofChange wrapsWrong)

/-- 'mosaickeep.Packed': WHATEVER THE INPUT: true; the input reads as it did. -/
def packedSpec : ChangeSpec := { name := "packed", fn := fun _ => fun
  | [d1, d2, d3, d4] => { results := [.lit (.bool true)], args := [d1, d2, d3, d4] }
  | _ => none }
def packedRow : OpenClaim := { program := "ytmfijackgekioaagreat", sum := "9e601f1c93df84ac9d7390b32b84c04ba2f541819afabb46f4711c2e212942a3", func := "mosaic/mosaickeep.Packed", spec := "packed", unfollowed := true, recurses := true, plainKeys := false, apart := false }
def PackedSaid : Prop := packedRow.holds Tryz.pinned (OpenSpec.ofChange packedSpec)

/-- ITS FALSE NEIGHBOUR: 'it returns false'. Refute it at one input. -/
def packedWrong : ChangeSpec := { name := "packed", fn := fun _ => fun
  | [d1, d2, d3, d4] => { results := [.lit (.bool false)], args := [d1, d2, d3, d4] }
  | _ => none }
def PackedWrongFalsely : Prop := packedRow.holds Tryz.pinned (OpenSpec.ofChange packedWrong)

/-- 'mosaickeep.Small': WHATEVER THE INPUT: true; the input reads as it did. -/
def smallSpec : ChangeSpec := { name := "small", fn := fun _ => fun
  | [d1, d2, d3] => { results := [.lit (.bool true)], args := [d1, d2, d3] }
  | _ => none }
def smallRow : OpenClaim := { program := "ytmfijackgekioaagreat", sum := "9e601f1c93df84ac9d7390b32b84c04ba2f541819afabb46f4711c2e212942a3", func := "mosaic/mosaickeep.Small", spec := "small", unfollowed := true, recurses := true, plainKeys := false, apart := false }
def SmallSaid : Prop := smallRow.holds Tryz.pinned (OpenSpec.ofChange smallSpec)

/-- ITS FALSE NEIGHBOUR: 'it returns false'. Refute it at one input. -/
def smallWrong : ChangeSpec := { name := "small", fn := fun _ => fun
  | [d1, d2, d3] => { results := [.lit (.bool false)], args := [d1, d2, d3] }
  | _ => none }
def SmallWrongFalsely : Prop := smallRow.holds Tryz.pinned (OpenSpec.ofChange smallWrong)

/-- 'mosaickeep.Wrapped': WHATEVER THE INPUT: true; the input reads as it did. -/
def wrappedSpec : ChangeSpec := { name := "wrapped", fn := fun _ => fun
  | [d1, d2, d3, d4] => { results := [.lit (.bool true)], args := [d1, d2, d3, d4] }
  | _ => none }
def wrappedRow : OpenClaim := { program := "ytmfijackgekioaagreat", sum := "9e601f1c93df84ac9d7390b32b84c04ba2f541819afabb46f4711c2e212942a3", func := "mosaic/mosaickeep.Wrapped", spec := "wrapped", unfollowed := true, recurses := true, plainKeys := false, apart := false }
def WrappedSaid : Prop := wrappedRow.holds Tryz.pinned (OpenSpec.ofChange wrappedSpec)

/-- ITS FALSE NEIGHBOUR: 'it returns false'. Refute it at one input. -/
def wrappedWrong : ChangeSpec := { name := "wrapped", fn := fun _ => fun
  | [d1, d2, d3, d4] => { results := [.lit (.bool false)], args := [d1, d2, d3, d4] }
  | _ => none }
def WrappedWrongFalsely : Prop := wrappedRow.holds Tryz.pinned (OpenSpec.ofChange wrappedWrong)

/- THE SECOND FORM. 'bulk': how many values and letters a reading holds, each counted each time it is reached (what is shared counts as often as it is met; a slice's spare places count too). A statement '..UptoSaid' is the law's where the arguments, and the package variables that the reading takes, are together of bulk at most 1048576: NARROWER than '..Said'. Prove '..Said' where nothing that the law and all that it calls make is longer than what came in: it says more and counts as full. Else prove '..UptoSaid'. A law counts once. -/
mutual
def uptoBulk {H : Type} : DataW H → Nat
  | .lit (.string bytes) => bytes.length + 1
  | .lit _ => 1
  | .nil => 1
  | .ptr d => uptoBulk d + 1
  | .slice elems spare => uptoBulkAll elems + uptoBulkAll spare + 1
  | .agg parts => uptoBulkAll parts + 1
  | .iface _ d => uptoBulk d + 1
  | .map entries => uptoBulkEntries entries + 1
  | .held _ => 1
def uptoBulkAll {H : Type} : List (DataW H) → Nat
  | [] => 0
  | d :: r => uptoBulk d + uptoBulkAll r
def uptoBulkEntries {H : Type} : List (Lit × DataW H) → Nat
  | [] => 0
  | x :: r => uptoBulkEntry x + uptoBulkEntries r
def uptoBulkEntry {H : Type} : Lit × DataW H → Nat
  | (.string bytes, d) => bytes.length + uptoBulk d + 1
  | (_, d) => uptoBulk d + 1
 end
def uptoSmall : (H : Type) → List (DataW H) → Bool := fun _ ds => decide (uptoBulkAll ds ≤ 1048576)
def OpenSpec.upto (s : _root_.Go.ChangeSpec) : _root_.Go.OpenSpec := { _root_.Go.OpenSpec.ofChange s with cond := some uptoSmall }

/-- 'mosaiclaw.Wraps', WHERE WHAT IT READS IS OF BULK AT MOST 1048576: true; the input reads as it did. -/
def wrapsUptoRow : OpenClaim := { program := "ytmfijackgekioaagreat", sum := "9e601f1c93df84ac9d7390b32b84c04ba2f541819afabb46f4711c2e212942a3", func := "mosaic/mosaiclaw.Wraps", spec := "wraps", unfollowed := true, recurses := true, plainKeys := false, apart := false, narrowed := true }
def WrapsUptoSaid : Prop := wrapsUptoRow.holds Tryz.pinned (OpenSpec.upto wrapsSpec)

/-- 'mosaickeep.Packed', WHERE WHAT IT READS IS OF BULK AT MOST 1048576: true; the input reads as it did. -/
def packedUptoRow : OpenClaim := { program := "ytmfijackgekioaagreat", sum := "9e601f1c93df84ac9d7390b32b84c04ba2f541819afabb46f4711c2e212942a3", func := "mosaic/mosaickeep.Packed", spec := "packed", unfollowed := true, recurses := true, plainKeys := false, apart := false, narrowed := true }
def PackedUptoSaid : Prop := packedUptoRow.holds Tryz.pinned (OpenSpec.upto packedSpec)

/-- 'mosaickeep.Small', WHERE WHAT IT READS IS OF BULK AT MOST 1048576: true; the input reads as it did. -/
def smallUptoRow : OpenClaim := { program := "ytmfijackgekioaagreat", sum := "9e601f1c93df84ac9d7390b32b84c04ba2f541819afabb46f4711c2e212942a3", func := "mosaic/mosaickeep.Small", spec := "small", unfollowed := true, recurses := true, plainKeys := false, apart := false, narrowed := true }
def SmallUptoSaid : Prop := smallUptoRow.holds Tryz.pinned (OpenSpec.upto smallSpec)

/-- 'mosaickeep.Wrapped', WHERE WHAT IT READS IS OF BULK AT MOST 1048576: true; the input reads as it did. -/
def wrappedUptoRow : OpenClaim := { program := "ytmfijackgekioaagreat", sum := "9e601f1c93df84ac9d7390b32b84c04ba2f541819afabb46f4711c2e212942a3", func := "mosaic/mosaickeep.Wrapped", spec := "wrapped", unfollowed := true, recurses := true, plainKeys := false, apart := false, narrowed := true }
def WrappedUptoSaid : Prop := wrappedUptoRow.holds Tryz.pinned (OpenSpec.upto wrappedSpec)

end Rows
end Go.Proofs.YtmfijackgekioaaGreat
