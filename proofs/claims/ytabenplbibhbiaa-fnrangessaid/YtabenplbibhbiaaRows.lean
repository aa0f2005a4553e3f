/-
  No cell of these rows narrows 'for every input' (looked for: loops, veiled, ifaces, maps, wideKeys, modest, calm, conditions, laid).
  DERIVED. THE GIVEN ROWS OF THIS SEAT. 6 by the template 'for every input the law returns true; each argument reads behind the call as it read before'; 0 by the template 'total and deterministic' (their statements: YtabenplbibhbiaaTotals.lean).
  GIVEN WITH THE SEED: the statements are not yours to turn. If you find one false, say at which input.
  Laid BY PROGRAM, IN A SANDBOX (cutbox-rows.mjs): the forced cells as the released guide's own fill.sh prints them over the translation 42b456fa02f6bc1a… (all of the seat's roots in one cut). By AI agents, Wed Nov 11 2026. No macro, syntax, notation, axiom, sorry.
-/
import Derived.Test.YtabenplbibhbiaaChecked
import GoSem.Claim
import GoSem.ClaimJoined
import GoSem.ClaimMapViews
import Derived.JoinedTies
import Derived.KernelRfl
namespace Go.Proofs.Ytabenplbibhbiaa
/- THE CELL 'sum', in the pinned program and in every row, IS THE sha256 OF THE DUMP (.gsa) THAT YtabenplbibhbiaaProg.lean LOADS. Nothing in Lean hashes anything: it is a label: what it is worth is what the hold of that sum in a sandbox is worth. -/
noncomputable def Try.pinned : Pinned := { name := "ytabenplbibhbiaa", sum := "42b456fa02f6bc1afc017590f38e598f85535601eb65b07ab9c88543ce0b3dfb", checked := Try.checked }
namespace Rows
def none {H : Type} : Left H := { results := [], args := [] }

/-- 'laws.FnRanges': WHATEVER THE INPUT: true; the input reads as it did. -/
def fnRangesSpec : ChangeSpec := { name := "fnRanges", fn := fun _ => fun
  | [d] => { results := [.lit (.bool true)], args := [d] }
  | _ => none }
def fnRangesRow : OpenClaim := { program := "ytabenplbibhbiaa", sum := "42b456fa02f6bc1afc017590f38e598f85535601eb65b07ab9c88543ce0b3dfb", func := "loop.example/g00331/laws.FnRanges", spec := "fnRanges", apart := false }
def FnRangesSaid : Prop := fnRangesRow.holds Try.pinned (OpenSpec.ofChange fnRangesSpec)

/-- ITS FALSE NEIGHBOUR: 'it returns false'. Refute it at one input. -/
def fnRangesWrong : ChangeSpec := { name := "fnRanges", fn := fun _ => fun
  | [d] => { results := [.lit (.bool false)], args := [d] }
  | _ => none }
def FnRangesWrongFalsely : Prop := fnRangesRow.holds Try.pinned (OpenSpec.ofChange fnRangesWrong)

/-- 'laws.FnExactRangesFault': WHATEVER THE INPUT: true; the input reads as it did. -/
def fnExactRangesFaultSpec : ChangeSpec := { name := "fnExactRangesFault", fn := fun _ => fun
  | [d] => { results := [.lit (.bool true)], args := [d] }
  | _ => none }
def fnExactRangesFaultRow : OpenClaim := { program := "ytabenplbibhbiaa", sum := "42b456fa02f6bc1afc017590f38e598f85535601eb65b07ab9c88543ce0b3dfb", func := "loop.example/g00331/laws.FnExactRangesFault", spec := "fnExactRangesFault", apart := false }
def FnExactRangesFaultSaid : Prop := fnExactRangesFaultRow.holds Try.pinned (OpenSpec.ofChange fnExactRangesFaultSpec)

/-- ITS FALSE NEIGHBOUR: 'it returns false'. Refute it at one input. -/
def fnExactRangesFaultWrong : ChangeSpec := { name := "fnExactRangesFault", fn := fun _ => fun
  | [d] => { results := [.lit (.bool false)], args := [d] }
  | _ => none }
def FnExactRangesFaultWrongFalsely : Prop := fnExactRangesFaultRow.holds Try.pinned (OpenSpec.ofChange fnExactRangesFaultWrong)

/-- 'laws.FnExactWholeRange': WHATEVER THE INPUT: true; the input reads as it did. -/
def fnExactWholeRangeSpec : ChangeSpec := { name := "fnExactWholeRange", fn := fun _ => fun
  | [d] => { results := [.lit (.bool true)], args := [d] }
  | _ => none }
def fnExactWholeRangeRow : OpenClaim := { program := "ytabenplbibhbiaa", sum := "42b456fa02f6bc1afc017590f38e598f85535601eb65b07ab9c88543ce0b3dfb", func := "loop.example/g00331/laws.FnExactWholeRange", spec := "fnExactWholeRange", apart := false }
def FnExactWholeRangeSaid : Prop := fnExactWholeRangeRow.holds Try.pinned (OpenSpec.ofChange fnExactWholeRangeSpec)

/-- ITS FALSE NEIGHBOUR: 'it returns false'. Refute it at one input. -/
def fnExactWholeRangeWrong : ChangeSpec := { name := "fnExactWholeRange", fn := fun _ => fun
  | [d] => { results := [.lit (.bool false)], args := [d] }
  | _ => none }
def FnExactWholeRangeWrongFalsely : Prop := fnExactWholeRangeRow.holds Try.pinned (OpenSpec.ofChange fnExactWholeRangeWrong)

/-- 'laws.FnExactRouteOf': WHATEVER THE INPUT: true; the input reads as it did. -/
def fnExactRouteOfSpec : ChangeSpec := { name := "fnExactRouteOf", fn := fun _ => fun
  | [d1, d2] => { results := [.lit (.bool true)], args := [d1, d2] }
  | _ => none }
def fnExactRouteOfRow : OpenClaim := { program := "ytabenplbibhbiaa", sum := "42b456fa02f6bc1afc017590f38e598f85535601eb65b07ab9c88543ce0b3dfb", func := "loop.example/g00331/laws.FnExactRouteOf", spec := "fnExactRouteOf", apart := false }
def FnExactRouteOfSaid : Prop := fnExactRouteOfRow.holds Try.pinned (OpenSpec.ofChange fnExactRouteOfSpec)

/-- ITS FALSE NEIGHBOUR: 'it returns false'. Refute it at one input. -/
def fnExactRouteOfWrong : ChangeSpec := { name := "fnExactRouteOf", fn := fun _ => fun
  | [d1, d2] => { results := [.lit (.bool false)], args := [d1, d2] }
  | _ => none }
def FnExactRouteOfWrongFalsely : Prop := fnExactRouteOfRow.holds Try.pinned (OpenSpec.ofChange fnExactRouteOfWrong)

/-- 'laws.FnExactSplitRange': WHATEVER THE INPUT: true; the input reads as it did. -/
def fnExactSplitRangeSpec : ChangeSpec := { name := "fnExactSplitRange", fn := fun _ => fun
  | [d1, d2] => { results := [.lit (.bool true)], args := [d1, d2] }
  | _ => none }
def fnExactSplitRangeRow : OpenClaim := { program := "ytabenplbibhbiaa", sum := "42b456fa02f6bc1afc017590f38e598f85535601eb65b07ab9c88543ce0b3dfb", func := "loop.example/g00331/laws.FnExactSplitRange", spec := "fnExactSplitRange", apart := false }
def FnExactSplitRangeSaid : Prop := fnExactSplitRangeRow.holds Try.pinned (OpenSpec.ofChange fnExactSplitRangeSpec)

/-- ITS FALSE NEIGHBOUR: 'it returns false'. Refute it at one input. -/
def fnExactSplitRangeWrong : ChangeSpec := { name := "fnExactSplitRange", fn := fun _ => fun
  | [d1, d2] => { results := [.lit (.bool false)], args := [d1, d2] }
  | _ => none }
def FnExactSplitRangeWrongFalsely : Prop := fnExactSplitRangeRow.holds Try.pinned (OpenSpec.ofChange fnExactSplitRangeWrong)

/-- 'laws.FnExactMergeRange': WHATEVER THE INPUT: true; the input reads as it did. -/
def fnExactMergeRangeSpec : ChangeSpec := { name := "fnExactMergeRange", fn := fun _ => fun
  | [d1, d2] => { results := [.lit (.bool true)], args := [d1, d2] }
  | _ => none }
def fnExactMergeRangeRow : OpenClaim := { program := "ytabenplbibhbiaa", sum := "42b456fa02f6bc1afc017590f38e598f85535601eb65b07ab9c88543ce0b3dfb", func := "loop.example/g00331/laws.FnExactMergeRange", spec := "fnExactMergeRange", apart := false }
def FnExactMergeRangeSaid : Prop := fnExactMergeRangeRow.holds Try.pinned (OpenSpec.ofChange fnExactMergeRangeSpec)

/-- ITS FALSE NEIGHBOUR: 'it returns false'. Refute it at one input. -/
def fnExactMergeRangeWrong : ChangeSpec := { name := "fnExactMergeRange", fn := fun _ => fun
  | [d1, d2] => { results := [.lit (.bool false)], args := [d1, d2] }
  | _ => none }
def FnExactMergeRangeWrongFalsely : Prop := fnExactMergeRangeRow.holds Try.pinned (OpenSpec.ofChange fnExactMergeRangeWrong)

/- THE SECOND FORM. 'bulk': how many values and letters a reading holds, each counted each time it is reached (what is shared counts as often as it is met; a slice's spare places count too). A statement '..UptoSaid' is the law's where the arguments, and the package variables that the reading takes, are together of bulk at most 1048576: NARROWER than '..Said'. Prove '..Said' where nothing that the law and all that it calls make is longer than what came in: it says more and counts as full. Else prove '..UptoSaid'. A law counts once. -/
mutual
def uptoBulk {H : Type} : DataW H → Nat
  | .lit (.string bytes) => bytes.length + 1
  | .lit _ => 1
  | .nil => 1
  | .ptr d => uptoBulk d + 1
  | .slice elems spare => uptoBulkAll elems + uptoBulkAll spare + 1
  | .agg parts => uptoBulkAll parts + 1
  | .iface _ d => uptoBulk d + 1
  | .map entries => uptoBulkEntries entries + 1
  | .held _ => 1
def uptoBulkAll {H : Type} : List (DataW H) → Nat
  | [] => 0
  | d :: r => uptoBulk d + uptoBulkAll r
def uptoBulkEntries {H : Type} : List (Lit × DataW H) → Nat
  | [] => 0
  | x :: r => uptoBulkEntry x + uptoBulkEntries r
def uptoBulkEntry {H : Type} : Lit × DataW H → Nat
  | (.string bytes, d) => bytes.length + uptoBulk d + 1
  | (_, d) => uptoBulk d + 1
 end
def uptoSmall : (H : Type) → List (DataW H) → Bool := fun _ ds => decide (uptoBulkAll ds ≤ 1048576)
def OpenSpec.upto (s : _root_.Go.ChangeSpec) : _root_.Go.OpenSpec := { _root_.Go.OpenSpec.ofChange s with cond := some uptoSmall }

/-- 'laws.FnRanges', WHERE WHAT IT READS IS OF BULK AT MOST 1048576: true; the input reads as it did. -/
def fnRangesUptoRow : OpenClaim := { program := "ytabenplbibhbiaa", sum := "42b456fa02f6bc1afc017590f38e598f85535601eb65b07ab9c88543ce0b3dfb", func := "loop.example/g00331/laws.FnRanges", spec := "fnRanges", apart := false, narrowed := true }
def FnRangesUptoSaid : Prop := fnRangesUptoRow.holds Try.pinned (OpenSpec.upto fnRangesSpec)

/-- 'laws.FnExactRangesFault', WHERE WHAT IT READS IS OF BULK AT MOST 1048576: true; the input reads as it did. -/
def fnExactRangesFaultUptoRow : OpenClaim := { program := "ytabenplbibhbiaa", sum := "42b456fa02f6bc1afc017590f38e598f85535601eb65b07ab9c88543ce0b3dfb", func := "loop.example/g00331/laws.FnExactRangesFault", spec := "fnExactRangesFault", apart := false, narrowed := true }
def FnExactRangesFaultUptoSaid : Prop := fnExactRangesFaultUptoRow.holds Try.pinned (OpenSpec.upto fnExactRangesFaultSpec)

/-- 'laws.FnExactWholeRange', WHERE WHAT IT READS IS OF BULK AT MOST 1048576: true; the input reads as it did. -/
def fnExactWholeRangeUptoRow : OpenClaim := { program := "ytabenplbibhbiaa", sum := "42b456fa02f6bc1afc017590f38e598f85535601eb65b07ab9c88543ce0b3dfb", func := "loop.example/g00331/laws.FnExactWholeRange", spec := "fnExactWholeRange", apart := false, narrowed := true }
def FnExactWholeRangeUptoSaid : Prop := fnExactWholeRangeUptoRow.holds Try.pinned (OpenSpec.upto fnExactWholeRangeSpec)

/-- 'laws.FnExactRouteOf', WHERE WHAT IT READS IS OF BULK AT MOST 1048576: true; the input reads as it did. -/
def fnExactRouteOfUptoRow : OpenClaim := { program := "ytabenplbibhbiaa", sum := "42b456fa02f6bc1afc017590f38e598f85535601eb65b07ab9c88543ce0b3dfb", func := "loop.example/g00331/laws.FnExactRouteOf", spec := "fnExactRouteOf", apart := false, narrowed := true }
def FnExactRouteOfUptoSaid : Prop := fnExactRouteOfUptoRow.holds Try.pinned (OpenSpec.upto fnExactRouteOfSpec)

/-- 'laws.FnExactSplitRange', WHERE WHAT IT READS IS OF BULK AT MOST 1048576: true; the input reads as it did. -/
def fnExactSplitRangeUptoRow : OpenClaim := { program := "ytabenplbibhbiaa", sum := "42b456fa02f6bc1afc017590f38e598f85535601eb65b07ab9c88543ce0b3dfb", func := "loop.example/g00331/laws.FnExactSplitRange", spec := "fnExactSplitRange", apart := false, narrowed := true }
def FnExactSplitRangeUptoSaid : Prop := fnExactSplitRangeUptoRow.holds Try.pinned (OpenSpec.upto fnExactSplitRangeSpec)

/-- 'laws.FnExactMergeRange', WHERE WHAT IT READS IS OF BULK AT MOST 1048576: true; the input reads as it did. -/
def fnExactMergeRangeUptoRow : OpenClaim := { program := "ytabenplbibhbiaa", sum := "42b456fa02f6bc1afc017590f38e598f85535601eb65b07ab9c88543ce0b3dfb", func := "loop.example/g00331/laws.FnExactMergeRange", spec := "fnExactMergeRange", apart := false, narrowed := true }
def FnExactMergeRangeUptoSaid : Prop := fnExactMergeRangeUptoRow.holds Try.pinned (OpenSpec.upto fnExactMergeRangeSpec)

end Rows
end Go.Proofs.Ytabenplbibhbiaa
