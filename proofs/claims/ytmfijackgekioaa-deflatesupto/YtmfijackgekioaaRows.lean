/-
  No cell of these rows narrows 'for every input' (looked for: loops, veiled, ifaces, maps, wideKeys, modest, calm, conditions, laid).
  DERIVED. THE GIVEN ROWS OF THIS SEAT. 4 by the template 'for every input the law returns true; each argument reads behind the call as it read before'; 0 by the template 'total and deterministic' (their statements: YtmfijackgekioaaTotals.lean).
  GIVEN WITH THE SEED: the statements are not yours to turn. If you find one false, say at which input.
  Laid BY PROGRAM, IN A SANDBOX (cutbox-rows.mjs): the forced cells as the released guide's own fill.sh prints them over the translation 1b2f9efab465e930… (all of the seat's roots in one cut). By AI agents, Wed Nov 11 2026. No macro, syntax, notation, axiom, sorry.
-/
import Derived.Test.YtmfijackgekioaaChecked
import GoSem.Claim
import GoSem.ClaimJoined
import GoSem.ClaimMapViews
import Derived.JoinedTies
import Derived.KernelRfl
namespace Go.Proofs.Ytmfijackgekioaa
/- THE CELL 'sum', in the pinned program and in every row, IS THE sha256 OF THE DUMP (.gsa) THAT YtmfijackgekioaaProg.lean LOADS. Nothing in Lean hashes anything: it is a label: what it is worth is what the hold of that sum in a sandbox is worth. -/
noncomputable def Try.pinned : Pinned := { name := "ytmfijackgekioaa", sum := "1b2f9efab465e93025e26d9a4c749b124a44ded3cd31dbbaf4a0a093662b815e", checked := Try.checked }
namespace Rows
def none {H : Type} : Left H := { results := [], args := [] }

/-- 'mosaiclaw.Sums': WHATEVER THE INPUT: true; the input reads as it did. -/
def sumsSpec : ChangeSpec := { name := "sums", fn := fun _ => fun
  | [d] => { results := [.lit (.bool true)], args := [d] }
  | _ => none }
def sumsRow : OpenClaim := { program := "ytmfijackgekioaa", sum := "1b2f9efab465e93025e26d9a4c749b124a44ded3cd31dbbaf4a0a093662b815e", func := "mosaic/mosaiclaw.Sums", spec := "sums", plainKeys := false, apart := false }
def SumsSaid : Prop := sumsRow.holds Try.pinned (OpenSpec.ofChange sumsSpec)

/-- ITS FALSE NEIGHBOUR: 'it returns false'. Refute it at one input. -/
def sumsWrong : ChangeSpec := { name := "sums", fn := fun _ => fun
  | [d] => { results := [.lit (.bool false)], args := [d] }
  | _ => none }
def SumsWrongFalsely : Prop := sumsRow.holds Try.pinned (OpenSpec.ofChange sumsWrong)

/-- 'mosaiclaw.Inflates': WHATEVER THE INPUT: true; the input reads as it did. -/
def inflatesSpec : ChangeSpec := { name := "inflates", fn := fun _ => fun
  | [d1, d2] => { results := [.lit (.bool true)], args := [d1, d2] }
  | _ => none }
def inflatesRow : OpenClaim := { program := "ytmfijackgekioaa", sum := "1b2f9efab465e93025e26d9a4c749b124a44ded3cd31dbbaf4a0a093662b815e", func := "mosaic/mosaiclaw.Inflates", spec := "inflates", unfollowed := true, recurses := true, plainKeys := false, apart := false }
def InflatesSaid : Prop := inflatesRow.holds Try.pinned (OpenSpec.ofChange inflatesSpec)

/-- ITS FALSE NEIGHBOUR: 'it returns false'. Refute it at one input. -/
def inflatesWrong : ChangeSpec := { name := "inflates", fn := fun _ => fun
  | [d1, d2] => { results := [.lit (.bool false)], args := [d1, d2] }
  | _ => none }
def InflatesWrongFalsely : Prop := inflatesRow.holds Try.pinned (OpenSpec.ofChange inflatesWrong)

/-- 'mosaiclaw.Deflates': WHATEVER THE INPUT: true; the input reads as it did. -/
def deflatesSpec : ChangeSpec := { name := "deflates", fn := fun _ => fun
  | [d1, d2] => { results := [.lit (.bool true)], args := [d1, d2] }
  | _ => none }
def deflatesRow : OpenClaim := { program := "ytmfijackgekioaa", sum := "1b2f9efab465e93025e26d9a4c749b124a44ded3cd31dbbaf4a0a093662b815e", func := "mosaic/mosaiclaw.Deflates", spec := "deflates", unfollowed := true, recurses := true, plainKeys := false, apart := false }
def DeflatesSaid : Prop := deflatesRow.holds Try.pinned (OpenSpec.ofChange deflatesSpec)

/-- ITS FALSE NEIGHBOUR: 'it returns false'. Refute it at one input. -/
def deflatesWrong : ChangeSpec := { name := "deflates", fn := fun _ => fun
  | [d1, d2] => { results := [.lit (.bool false)], args := [d1, d2] }
  | _ => none }
def DeflatesWrongFalsely : Prop := deflatesRow.holds Try.pinned (OpenSpec.ofChange deflatesWrong)

/-- 'mosaiclaw.Unwraps': WHATEVER THE INPUT: true; the input reads as it did. -/
def unwrapsSpec : ChangeSpec := { name := "unwraps", fn := fun _ => fun
  | [d1, d2] => { results := [.lit (.bool true)], args := [d1, d2] }
  | _ => none }
def unwrapsRow : OpenClaim := { program := "ytmfijackgekioaa", sum := "1b2f9efab465e93025e26d9a4c749b124a44ded3cd31dbbaf4a0a093662b815e", func := "mosaic/mosaiclaw.Unwraps", spec := "unwraps", unfollowed := true, recurses := true, plainKeys := false, apart := false }
def UnwrapsSaid : Prop := unwrapsRow.holds Try.pinned (OpenSpec.ofChange unwrapsSpec)

/-- ITS FALSE NEIGHBOUR: 'it returns false'. Refute it at one input. -/
def unwrapsWrong : ChangeSpec := { name := "unwraps", fn := fun _ => fun
  | [d1, d2] => { results := [.lit (.bool false)], args := [d1, d2] }
  | _ => none }
def UnwrapsWrongFalsely : Prop := unwrapsRow.holds Try.pinned (OpenSpec.ofChange unwrapsWrong)

/- THE SECOND FORM. 'bulk': how many values and letters a reading holds, each counted each time it is reached (what is shared counts as often as it is met; a slice's spare places count too). A statement '..UptoSaid' is the law's where the arguments, and the package variables that the reading takes, are together of bulk at most 1048576: NARROWER than '..Said'. Prove '..Said' where nothing that the law and all that it calls make is longer than what came in: it says more and counts as full. Else prove '..UptoSaid'. A law counts once. -/
mutual
def uptoBulk {H : Type} : DataW H → Nat
  | .lit (.string bytes) => bytes.length + 1
  | .lit _ => 1
  | .nil => 1
  | .ptr d => uptoBulk d + 1
  | .slice elems spare => uptoBulkAll elems + uptoBulkAll spare + 1
  | .agg parts => uptoBulkAll parts + 1
  | .iface _ d => uptoBulk d + 1
  | .map entries => uptoBulkEntries entries + 1
  | .held _ => 1
def uptoBulkAll {H : Type} : List (DataW H) → Nat
  | [] => 0
  | d :: r => uptoBulk d + uptoBulkAll r
def uptoBulkEntries {H : Type} : List (Lit × DataW H) → Nat
  | [] => 0
  | x :: r => uptoBulkEntry x + uptoBulkEntries r
def uptoBulkEntry {H : Type} : Lit × DataW H → Nat
  | (.string bytes, d) => bytes.length + uptoBulk d + 1
  | (_, d) => uptoBulk d + 1
 end
def uptoSmall : (H : Type) → List (DataW H) → Bool := fun _ ds => decide (uptoBulkAll ds ≤ 1048576)
def OpenSpec.upto (s : _root_.Go.ChangeSpec) : _root_.Go.OpenSpec := { _root_.Go.OpenSpec.ofChange s with cond := some uptoSmall }

/-- 'mosaiclaw.Sums', WHERE WHAT IT READS IS OF BULK AT MOST 1048576: true; the input reads as it did. -/
def sumsUptoRow : OpenClaim := { program := "ytmfijackgekioaa", sum := "1b2f9efab465e93025e26d9a4c749b124a44ded3cd31dbbaf4a0a093662b815e", func := "mosaic/mosaiclaw.Sums", spec := "sums", plainKeys := false, apart := false, narrowed := true }
def SumsUptoSaid : Prop := sumsUptoRow.holds Try.pinned (OpenSpec.upto sumsSpec)

/-- 'mosaiclaw.Inflates', WHERE WHAT IT READS IS OF BULK AT MOST 1048576: true; the input reads as it did. -/
def inflatesUptoRow : OpenClaim := { program := "ytmfijackgekioaa", sum := "1b2f9efab465e93025e26d9a4c749b124a44ded3cd31dbbaf4a0a093662b815e", func := "mosaic/mosaiclaw.Inflates", spec := "inflates", unfollowed := true, recurses := true, plainKeys := false, apart := false, narrowed := true }
def InflatesUptoSaid : Prop := inflatesUptoRow.holds Try.pinned (OpenSpec.upto inflatesSpec)

/-- 'mosaiclaw.Deflates', WHERE WHAT IT READS IS OF BULK AT MOST 1048576: true; the input reads as it did. -/
def deflatesUptoRow : OpenClaim := { program := "ytmfijackgekioaa", sum := "1b2f9efab465e93025e26d9a4c749b124a44ded3cd31dbbaf4a0a093662b815e", func := "mosaic/mosaiclaw.Deflates", spec := "deflates", unfollowed := true, recurses := true, plainKeys := false, apart := false, narrowed := true }
def DeflatesUptoSaid : Prop := deflatesUptoRow.holds Try.pinned (OpenSpec.upto deflatesSpec)

/-- 'mosaiclaw.Unwraps', WHERE WHAT IT READS IS OF BULK AT MOST 1048576: true; the input reads as it did. -/
def unwrapsUptoRow : OpenClaim := { program := "ytmfijackgekioaa", sum := "1b2f9efab465e93025e26d9a4c749b124a44ded3cd31dbbaf4a0a093662b815e", func := "mosaic/mosaiclaw.Unwraps", spec := "unwraps", unfollowed := true, recurses := true, plainKeys := false, apart := false, narrowed := true }
def UnwrapsUptoSaid : Prop := unwrapsUptoRow.holds Try.pinned (OpenSpec.upto unwrapsSpec)

end Rows
end Go.Proofs.Ytmfijackgekioaa
