/-
  No cell of these rows narrows 'for every input' (looked for: loops, veiled, ifaces, maps, wideKeys, modest, calm, conditions, laid).
  DERIVED. THE GIVEN ROWS OF THIS SEAT. 5 by the template 'for every input the law returns true; each argument reads behind the call as it read before'; 0 by the template 'total and deterministic' (their statements: YtglcedhkbbckiaaGreatTotals.lean).
  GIVEN WITH THE SEED: the statements are not yours to turn. If you find one false, say at which input.
  Laid BY PROGRAM, IN A SANDBOX (cutbox-rows.mjs): the forced cells as the released guide's own fill.sh prints them over the translation 69faf210198b0955… (all of the seat's roots in one cut). By AI agents, Wed Nov 11 2026. No macro, syntax, notation, axiom, sorry.
-/
import Derived.Test.YtglcedhkbbckiaaGreatChecked
import GoSem.Claim
import GoSem.ClaimJoined
import GoSem.ClaimMapViews
import Derived.JoinedTies
import Derived.KernelRfl
namespace Go.Proofs.YtglcedhkbbckiaaGreat
/- THE CELL 'sum', in the pinned program and in every row, IS THE sha256 OF THE DUMP (.gsa) THAT YtglcedhkbbckiaaGreatProg.lean LOADS. Nothing in Lean hashes anything: it is a label: what it is worth is what the hold of that sum in a sandbox is worth. -/
noncomputable def Tryz.pinned : Pinned := { name := "ytglcedhkbbckiaagreat", sum := "69faf210198b0955e927389158fc2b276d5c1fe8f885522828cc5f2de193f8d9", checked := Tryz.checked }
namespace Rows
def none {H : Type} : Left H := { results := [], args := [] }

/-- 'laws.FnExactLiveTxns': WHATEVER THE INPUT: true; the input reads as it did. -/
def fnExactLiveTxnsSpec : ChangeSpec := { name := "fnExactLiveTxns", fn := fun _ => fun
  | [d] => { results := [.lit (.bool true)], args := [d] }
  | _ => none }
def fnExactLiveTxnsRow : OpenClaim := { program := "ytglcedhkbbckiaagreat", sum := "69faf210198b0955e927389158fc2b276d5c1fe8f885522828cc5f2de193f8d9", func := "loop.example/g00331/laws.FnExactLiveTxns", spec := "fnExactLiveTxns", unfollowed := true, recurses := true, plainKeys := false, apart := false }
def FnExactLiveTxnsSaid : Prop := fnExactLiveTxnsRow.holds Tryz.pinned (OpenSpec.ofChange fnExactLiveTxnsSpec)

/-- ITS FALSE NEIGHBOUR: 'it returns false'. Refute it at one input. -/
def fnExactLiveTxnsWrong : ChangeSpec := { name := "fnExactLiveTxns", fn := fun _ => fun
  | [d] => { results := [.lit (.bool false)], args := [d] }
  | _ => none }
def FnExactLiveTxnsWrongFalsely : Prop := fnExactLiveTxnsRow.holds Tryz.pinned (OpenSpec.ofChange fnExactLiveTxnsWrong)

/-- 'laws.FnExactAtomicRight': WHATEVER THE INPUT: true; the input reads as it did. -/
def fnExactAtomicRightSpec : ChangeSpec := { name := "fnExactAtomicRight", fn := fun _ => fun
  | [d] => { results := [.lit (.bool true)], args := [d] }
  | _ => none }
def fnExactAtomicRightRow : OpenClaim := { program := "ytglcedhkbbckiaagreat", sum := "69faf210198b0955e927389158fc2b276d5c1fe8f885522828cc5f2de193f8d9", func := "loop.example/g00331/laws.FnExactAtomicRight", spec := "fnExactAtomicRight", unfollowed := true, recurses := true, plainKeys := false, apart := false }
def FnExactAtomicRightSaid : Prop := fnExactAtomicRightRow.holds Tryz.pinned (OpenSpec.ofChange fnExactAtomicRightSpec)

/-- ITS FALSE NEIGHBOUR: 'it returns false'. Refute it at one input. -/
def fnExactAtomicRightWrong : ChangeSpec := { name := "fnExactAtomicRight", fn := fun _ => fun
  | [d] => { results := [.lit (.bool false)], args := [d] }
  | _ => none }
def FnExactAtomicRightWrongFalsely : Prop := fnExactAtomicRightRow.holds Tryz.pinned (OpenSpec.ofChange fnExactAtomicRightWrong)

/-- 'laws.FnExactSerialRight': WHATEVER THE INPUT: true; the input reads as it did. -/
def fnExactSerialRightSpec : ChangeSpec := { name := "fnExactSerialRight", fn := fun _ => fun
  | [d] => { results := [.lit (.bool true)], args := [d] }
  | _ => none }
def fnExactSerialRightRow : OpenClaim := { program := "ytglcedhkbbckiaagreat", sum := "69faf210198b0955e927389158fc2b276d5c1fe8f885522828cc5f2de193f8d9", func := "loop.example/g00331/laws.FnExactSerialRight", spec := "fnExactSerialRight", inPlace := ["slices.overlaps[loop.example/g00331/impl.Done]", "slices.overlaps[loop.example/g00331/impl.Pair]"], unfollowed := true, recurses := true, plainKeys := false, apart := false }
def FnExactSerialRightSaid : Prop := fnExactSerialRightRow.holds Tryz.pinned (OpenSpec.ofChange fnExactSerialRightSpec)

/-- ITS FALSE NEIGHBOUR: 'it returns false'. Refute it at one input. -/
def fnExactSerialRightWrong : ChangeSpec := { name := "fnExactSerialRight", fn := fun _ => fun
  | [d] => { results := [.lit (.bool false)], args := [d] }
  | _ => none }
def FnExactSerialRightWrongFalsely : Prop := fnExactSerialRightRow.holds Tryz.pinned (OpenSpec.ofChange fnExactSerialRightWrong)

/-- 'laws.FnExactCommittedOf': WHATEVER THE INPUT: true; the input reads as it did. -/
def fnExactCommittedOfSpec : ChangeSpec := { name := "fnExactCommittedOf", fn := fun _ => fun
  | [d] => { results := [.lit (.bool true)], args := [d] }
  | _ => none }
def fnExactCommittedOfRow : OpenClaim := { program := "ytglcedhkbbckiaagreat", sum := "69faf210198b0955e927389158fc2b276d5c1fe8f885522828cc5f2de193f8d9", func := "loop.example/g00331/laws.FnExactCommittedOf", spec := "fnExactCommittedOf", inPlace := ["slices.overlaps[loop.example/g00331/impl.Done]"], unfollowed := true, recurses := true, plainKeys := false, apart := false }
def FnExactCommittedOfSaid : Prop := fnExactCommittedOfRow.holds Tryz.pinned (OpenSpec.ofChange fnExactCommittedOfSpec)

/-- ITS FALSE NEIGHBOUR: 'it returns false'. Refute it at one input. -/
def fnExactCommittedOfWrong : ChangeSpec := { name := "fnExactCommittedOf", fn := fun _ => fun
  | [d] => { results := [.lit (.bool false)], args := [d] }
  | _ => none }
def FnExactCommittedOfWrongFalsely : Prop := fnExactCommittedOfRow.holds Tryz.pinned (OpenSpec.ofChange fnExactCommittedOfWrong)

/-- 'laws.FnExactModelAt': WHATEVER THE INPUT: true; the input reads as it did. -/
def fnExactModelAtSpec : ChangeSpec := { name := "fnExactModelAt", fn := fun _ => fun
  | [d1, d2] => { results := [.lit (.bool true)], args := [d1, d2] }
  | _ => none }
def fnExactModelAtRow : OpenClaim := { program := "ytglcedhkbbckiaagreat", sum := "69faf210198b0955e927389158fc2b276d5c1fe8f885522828cc5f2de193f8d9", func := "loop.example/g00331/laws.FnExactModelAt", spec := "fnExactModelAt", inPlace := ["slices.overlaps[loop.example/g00331/impl.Pair]", "slices.overlaps[loop.example/g00331/impl.Done]"], unfollowed := true, recurses := true, plainKeys := false, apart := false }
def FnExactModelAtSaid : Prop := fnExactModelAtRow.holds Tryz.pinned (OpenSpec.ofChange fnExactModelAtSpec)

/-- ITS FALSE NEIGHBOUR: 'it returns false'. Refute it at one input. -/
def fnExactModelAtWrong : ChangeSpec := { name := "fnExactModelAt", fn := fun _ => fun
  | [d1, d2] => { results := [.lit (.bool false)], args := [d1, d2] }
  | _ => none }
def FnExactModelAtWrongFalsely : Prop := fnExactModelAtRow.holds Tryz.pinned (OpenSpec.ofChange fnExactModelAtWrong)

/- THE SECOND FORM. 'bulk': how many values and letters a reading holds, each counted each time it is reached (what is shared counts as often as it is met; a slice's spare places count too). A statement '..UptoSaid' is the law's where the arguments, and the package variables that the reading takes, are together of bulk at most 1048576: NARROWER than '..Said'. Prove '..Said' where nothing that the law and all that it calls make is longer than what came in: it says more and counts as full. Else prove '..UptoSaid'. A law counts once. -/
mutual
def uptoBulk {H : Type} : DataW H → Nat
  | .lit (.string bytes) => bytes.length + 1
  | .lit _ => 1
  | .nil => 1
  | .ptr d => uptoBulk d + 1
  | .slice elems spare => uptoBulkAll elems + uptoBulkAll spare + 1
  | .agg parts => uptoBulkAll parts + 1
  | .iface _ d => uptoBulk d + 1
  | .map entries => uptoBulkEntries entries + 1
  | .held _ => 1
def uptoBulkAll {H : Type} : List (DataW H) → Nat
  | [] => 0
  | d :: r => uptoBulk d + uptoBulkAll r
def uptoBulkEntries {H : Type} : List (Lit × DataW H) → Nat
  | [] => 0
  | x :: r => uptoBulkEntry x + uptoBulkEntries r
def uptoBulkEntry {H : Type} : Lit × DataW H → Nat
  | (.string bytes, d) => bytes.length + uptoBulk d + 1
  | (_, d) => uptoBulk d + 1
 end
def uptoSmall : (H : Type) → List (DataW H) → Bool := fun _ ds => decide (uptoBulkAll ds ≤ 1048576)
def OpenSpec.upto (s : _root_.Go.ChangeSpec) : _root_.Go.OpenSpec := { _root_.Go.OpenSpec.ofChange s with cond := some uptoSmall }

/-- 'laws.FnExactLiveTxns', WHERE WHAT IT READS IS OF BULK AT MOST 1048576: true; the input reads as it did. -/
def fnExactLiveTxnsUptoRow : OpenClaim := { program := "ytglcedhkbbckiaagreat", sum := "69faf210198b0955e927389158fc2b276d5c1fe8f885522828cc5f2de193f8d9", func := "loop.example/g00331/laws.FnExactLiveTxns", spec := "fnExactLiveTxns", unfollowed := true, recurses := true, plainKeys := false, apart := false, narrowed := true }
def FnExactLiveTxnsUptoSaid : Prop := fnExactLiveTxnsUptoRow.holds Tryz.pinned (OpenSpec.upto fnExactLiveTxnsSpec)

/-- 'laws.FnExactAtomicRight', WHERE WHAT IT READS IS OF BULK AT MOST 1048576: true; the input reads as it did. -/
def fnExactAtomicRightUptoRow : OpenClaim := { program := "ytglcedhkbbckiaagreat", sum := "69faf210198b0955e927389158fc2b276d5c1fe8f885522828cc5f2de193f8d9", func := "loop.example/g00331/laws.FnExactAtomicRight", spec := "fnExactAtomicRight", unfollowed := true, recurses := true, plainKeys := false, apart := false, narrowed := true }
def FnExactAtomicRightUptoSaid : Prop := fnExactAtomicRightUptoRow.holds Tryz.pinned (OpenSpec.upto fnExactAtomicRightSpec)

/-- 'laws.FnExactSerialRight', WHERE WHAT IT READS IS OF BULK AT MOST 1048576: true; the input reads as it did. -/
def fnExactSerialRightUptoRow : OpenClaim := { program := "ytglcedhkbbckiaagreat", sum := "69faf210198b0955e927389158fc2b276d5c1fe8f885522828cc5f2de193f8d9", func := "loop.example/g00331/laws.FnExactSerialRight", spec := "fnExactSerialRight", inPlace := ["slices.overlaps[loop.example/g00331/impl.Done]", "slices.overlaps[loop.example/g00331/impl.Pair]"], unfollowed := true, recurses := true, plainKeys := false, apart := false, narrowed := true }
def FnExactSerialRightUptoSaid : Prop := fnExactSerialRightUptoRow.holds Tryz.pinned (OpenSpec.upto fnExactSerialRightSpec)

/-- 'laws.FnExactCommittedOf', WHERE WHAT IT READS IS OF BULK AT MOST 1048576: true; the input reads as it did. -/
def fnExactCommittedOfUptoRow : OpenClaim := { program := "ytglcedhkbbckiaagreat", sum := "69faf210198b0955e927389158fc2b276d5c1fe8f885522828cc5f2de193f8d9", func := "loop.example/g00331/laws.FnExactCommittedOf", spec := "fnExactCommittedOf", inPlace := ["slices.overlaps[loop.example/g00331/impl.Done]"], unfollowed := true, recurses := true, plainKeys := false, apart := false, narrowed := true }
def FnExactCommittedOfUptoSaid : Prop := fnExactCommittedOfUptoRow.holds Tryz.pinned (OpenSpec.upto fnExactCommittedOfSpec)

/-- 'laws.FnExactModelAt', WHERE WHAT IT READS IS OF BULK AT MOST 1048576: true; the input reads as it did. -/
def fnExactModelAtUptoRow : OpenClaim := { program := "ytglcedhkbbckiaagreat", sum := "69faf210198b0955e927389158fc2b276d5c1fe8f885522828cc5f2de193f8d9", func := "loop.example/g00331/laws.FnExactModelAt", spec := "fnExactModelAt", inPlace := ["slices.overlaps[loop.example/g00331/impl.Pair]", "slices.overlaps[loop.example/g00331/impl.Done]"], unfollowed := true, recurses := true, plainKeys := false, apart := false, narrowed := true }
def FnExactModelAtUptoSaid : Prop := fnExactModelAtUptoRow.holds Tryz.pinned (OpenSpec.upto fnExactModelAtSpec)

end Rows
end Go.Proofs.YtglcedhkbbckiaaGreat
