/-
  No cell of these rows narrows 'for every input' (looked for: loops, veiled, ifaces, maps, wideKeys, modest, calm, conditions, laid).
  DERIVED. THE GIVEN ROWS OF THIS SEAT. 6 by the template 'for every input the law returns true; each argument reads behind the call as it read before'; 0 by the template 'total and deterministic' (their statements: YtjimckfkbkfggaaTotals.lean).
  GIVEN WITH THE SEED: the statements are not yours to turn. If you find one false, say at which input.
  Laid BY PROGRAM, IN A SANDBOX (cutbox-rows.mjs): the forced cells as the released guide's own fill.sh prints them over the translation cbe585af3de65638… (all of the seat's roots in one cut). By AI agents, Wed Nov 11 2026. No macro, syntax, notation, axiom, sorry.
-/
import Derived.Test.YtjimckfkbkfggaaChecked
import GoSem.Claim
import GoSem.ClaimJoined
import GoSem.ClaimMapViews
import Derived.JoinedTies
import Derived.KernelRfl
namespace Go.Proofs.Ytjimckfkbkfggaa
/- THE CELL 'sum', in the pinned program and in every row, IS THE sha256 OF THE DUMP (.gsa) THAT YtjimckfkbkfggaaProg.lean LOADS. Nothing in Lean hashes anything: it is a label: what it is worth is what the hold of that sum in a sandbox is worth. -/
noncomputable def Try.pinned : Pinned := { name := "ytjimckfkbkfggaa", sum := "cbe585af3de656381059d675ff37888275e5c16bf43575f3ec5b590ddfab5498", checked := Try.checked }
namespace Rows
def none {H : Type} : Left H := { results := [], args := [] }

/-- 'laws.FnTxns': WHATEVER THE INPUT: true; the input reads as it did. -/
def fnTxnsSpec : ChangeSpec := { name := "fnTxns", fn := fun _ => fun
  | [d] => { results := [.lit (.bool true)], args := [d] }
  | _ => none }
def fnTxnsRow : OpenClaim := { program := "ytjimckfkbkfggaa", sum := "cbe585af3de656381059d675ff37888275e5c16bf43575f3ec5b590ddfab5498", func := "loop.example/g00331/laws.FnTxns", spec := "fnTxns", unfollowed := true, recurses := true, apart := false }
def FnTxnsSaid : Prop := fnTxnsRow.holds Try.pinned (OpenSpec.ofChange fnTxnsSpec)

/-- ITS FALSE NEIGHBOUR: 'it returns false'. Refute it at one input. -/
def fnTxnsWrong : ChangeSpec := { name := "fnTxns", fn := fun _ => fun
  | [d] => { results := [.lit (.bool false)], args := [d] }
  | _ => none }
def FnTxnsWrongFalsely : Prop := fnTxnsRow.holds Try.pinned (OpenSpec.ofChange fnTxnsWrong)

/-- 'laws.FnExactTxnFault': WHATEVER THE INPUT: true; the input reads as it did. -/
def fnExactTxnFaultSpec : ChangeSpec := { name := "fnExactTxnFault", fn := fun _ => fun
  | [d] => { results := [.lit (.bool true)], args := [d] }
  | _ => none }
def fnExactTxnFaultRow : OpenClaim := { program := "ytjimckfkbkfggaa", sum := "cbe585af3de656381059d675ff37888275e5c16bf43575f3ec5b590ddfab5498", func := "loop.example/g00331/laws.FnExactTxnFault", spec := "fnExactTxnFault", unfollowed := true, recurses := true, apart := false }
def FnExactTxnFaultSaid : Prop := fnExactTxnFaultRow.holds Try.pinned (OpenSpec.ofChange fnExactTxnFaultSpec)

/-- ITS FALSE NEIGHBOUR: 'it returns false'. Refute it at one input. -/
def fnExactTxnFaultWrong : ChangeSpec := { name := "fnExactTxnFault", fn := fun _ => fun
  | [d] => { results := [.lit (.bool false)], args := [d] }
  | _ => none }
def FnExactTxnFaultWrongFalsely : Prop := fnExactTxnFaultRow.holds Try.pinned (OpenSpec.ofChange fnExactTxnFaultWrong)

/-- 'laws.FnExactNewTxn': WHATEVER THE INPUT: true; the input reads as it did. -/
def fnExactNewTxnSpec : ChangeSpec := { name := "fnExactNewTxn", fn := fun _ => fun
  | [d1, d2, d3, d4] => { results := [.lit (.bool true)], args := [d1, d2, d3, d4] }
  | _ => none }
def fnExactNewTxnRow : OpenClaim := { program := "ytjimckfkbkfggaa", sum := "cbe585af3de656381059d675ff37888275e5c16bf43575f3ec5b590ddfab5498", func := "loop.example/g00331/laws.FnExactNewTxn", spec := "fnExactNewTxn", unfollowed := true, recurses := true, apart := false }
def FnExactNewTxnSaid : Prop := fnExactNewTxnRow.holds Try.pinned (OpenSpec.ofChange fnExactNewTxnSpec)

/-- ITS FALSE NEIGHBOUR: 'it returns false'. Refute it at one input. -/
def fnExactNewTxnWrong : ChangeSpec := { name := "fnExactNewTxn", fn := fun _ => fun
  | [d1, d2, d3, d4] => { results := [.lit (.bool false)], args := [d1, d2, d3, d4] }
  | _ => none }
def FnExactNewTxnWrongFalsely : Prop := fnExactNewTxnRow.holds Try.pinned (OpenSpec.ofChange fnExactNewTxnWrong)

/-- 'laws.FnExactPrimaryOf': WHATEVER THE INPUT: true; the input reads as it did. -/
def fnExactPrimaryOfSpec : ChangeSpec := { name := "fnExactPrimaryOf", fn := fun _ => fun
  | [d] => { results := [.lit (.bool true)], args := [d] }
  | _ => none }
def fnExactPrimaryOfRow : OpenClaim := { program := "ytjimckfkbkfggaa", sum := "cbe585af3de656381059d675ff37888275e5c16bf43575f3ec5b590ddfab5498", func := "loop.example/g00331/laws.FnExactPrimaryOf", spec := "fnExactPrimaryOf", unfollowed := true, recurses := true, apart := false }
def FnExactPrimaryOfSaid : Prop := fnExactPrimaryOfRow.holds Try.pinned (OpenSpec.ofChange fnExactPrimaryOfSpec)

/-- ITS FALSE NEIGHBOUR: 'it returns false'. Refute it at one input. -/
def fnExactPrimaryOfWrong : ChangeSpec := { name := "fnExactPrimaryOf", fn := fun _ => fun
  | [d] => { results := [.lit (.bool false)], args := [d] }
  | _ => none }
def FnExactPrimaryOfWrongFalsely : Prop := fnExactPrimaryOfRow.holds Try.pinned (OpenSpec.ofChange fnExactPrimaryOfWrong)

/-- 'laws.FnExactIsOver': WHATEVER THE INPUT: true; the input reads as it did. -/
def fnExactIsOverSpec : ChangeSpec := { name := "fnExactIsOver", fn := fun _ => fun
  | [d] => { results := [.lit (.bool true)], args := [d] }
  | _ => none }
def fnExactIsOverRow : OpenClaim := { program := "ytjimckfkbkfggaa", sum := "cbe585af3de656381059d675ff37888275e5c16bf43575f3ec5b590ddfab5498", func := "loop.example/g00331/laws.FnExactIsOver", spec := "fnExactIsOver", unfollowed := true, recurses := true, apart := false }
def FnExactIsOverSaid : Prop := fnExactIsOverRow.holds Try.pinned (OpenSpec.ofChange fnExactIsOverSpec)

/-- ITS FALSE NEIGHBOUR: 'it returns false'. Refute it at one input. -/
def fnExactIsOverWrong : ChangeSpec := { name := "fnExactIsOver", fn := fun _ => fun
  | [d] => { results := [.lit (.bool false)], args := [d] }
  | _ => none }
def FnExactIsOverWrongFalsely : Prop := fnExactIsOverRow.holds Try.pinned (OpenSpec.ofChange fnExactIsOverWrong)

/-- 'laws.FnExactStepsLeft': WHATEVER THE INPUT: true; the input reads as it did. -/
def fnExactStepsLeftSpec : ChangeSpec := { name := "fnExactStepsLeft", fn := fun _ => fun
  | [d] => { results := [.lit (.bool true)], args := [d] }
  | _ => none }
def fnExactStepsLeftRow : OpenClaim := { program := "ytjimckfkbkfggaa", sum := "cbe585af3de656381059d675ff37888275e5c16bf43575f3ec5b590ddfab5498", func := "loop.example/g00331/laws.FnExactStepsLeft", spec := "fnExactStepsLeft", unfollowed := true, recurses := true, apart := false }
def FnExactStepsLeftSaid : Prop := fnExactStepsLeftRow.holds Try.pinned (OpenSpec.ofChange fnExactStepsLeftSpec)

/-- ITS FALSE NEIGHBOUR: 'it returns false'. Refute it at one input. -/
def fnExactStepsLeftWrong : ChangeSpec := { name := "fnExactStepsLeft", fn := fun _ => fun
  | [d] => { results := [.lit (.bool false)], args := [d] }
  | _ => none }
def FnExactStepsLeftWrongFalsely : Prop := fnExactStepsLeftRow.holds Try.pinned (OpenSpec.ofChange fnExactStepsLeftWrong)

/- THE SECOND FORM. 'bulk': how many values and letters a reading holds, each counted each time it is reached (what is shared counts as often as it is met; a slice's spare places count too). A statement '..UptoSaid' is the law's where the arguments, and the package variables that the reading takes, are together of bulk at most 1048576: NARROWER than '..Said'. Prove '..Said' where nothing that the law and all that it calls make is longer than what came in: it says more and counts as full. Else prove '..UptoSaid'. A law counts once. -/
mutual
def uptoBulk {H : Type} : DataW H → Nat
  | .lit (.string bytes) => bytes.length + 1
  | .lit _ => 1
  | .nil => 1
  | .ptr d => uptoBulk d + 1
  | .slice elems spare => uptoBulkAll elems + uptoBulkAll spare + 1
  | .agg parts => uptoBulkAll parts + 1
  | .iface _ d => uptoBulk d + 1
  | .map entries => uptoBulkEntries entries + 1
  | .held _ => 1
def uptoBulkAll {H : Type} : List (DataW H) → Nat
  | [] => 0
  | d :: r => uptoBulk d + uptoBulkAll r
def uptoBulkEntries {H : Type} : List (Lit × DataW H) → Nat
  | [] => 0
  | x :: r => uptoBulkEntry x + uptoBulkEntries r
def uptoBulkEntry {H : Type} : Lit × DataW H → Nat
  | (.string bytes, d) => bytes.length + uptoBulk d + 1
  | (_, d) => uptoBulk d + 1
 end
def uptoSmall : (H : Type) → List (DataW H) → Bool := fun _ ds => decide (uptoBulkAll ds ≤ 1048576)
def OpenSpec.upto (s : _root_.Go.ChangeSpec) : _root_.Go.OpenSpec := { _root_.Go.OpenSpec.ofChange s with cond := some uptoSmall }

/-- 'laws.FnTxns', WHERE WHAT IT READS IS OF BULK AT MOST 1048576: true; the input reads as it did. -/
def fnTxnsUptoRow : OpenClaim := { program := "ytjimckfkbkfggaa", sum := "cbe585af3de656381059d675ff37888275e5c16bf43575f3ec5b590ddfab5498", func := "loop.example/g00331/laws.FnTxns", spec := "fnTxns", unfollowed := true, recurses := true, apart := false, narrowed := true }
def FnTxnsUptoSaid : Prop := fnTxnsUptoRow.holds Try.pinned (OpenSpec.upto fnTxnsSpec)

/-- 'laws.FnExactTxnFault', WHERE WHAT IT READS IS OF BULK AT MOST 1048576: true; the input reads as it did. -/
def fnExactTxnFaultUptoRow : OpenClaim := { program := "ytjimckfkbkfggaa", sum := "cbe585af3de656381059d675ff37888275e5c16bf43575f3ec5b590ddfab5498", func := "loop.example/g00331/laws.FnExactTxnFault", spec := "fnExactTxnFault", unfollowed := true, recurses := true, apart := false, narrowed := true }
def FnExactTxnFaultUptoSaid : Prop := fnExactTxnFaultUptoRow.holds Try.pinned (OpenSpec.upto fnExactTxnFaultSpec)

/-- 'laws.FnExactNewTxn', WHERE WHAT IT READS IS OF BULK AT MOST 1048576: true; the input reads as it did. -/
def fnExactNewTxnUptoRow : OpenClaim := { program := "ytjimckfkbkfggaa", sum := "cbe585af3de656381059d675ff37888275e5c16bf43575f3ec5b590ddfab5498", func := "loop.example/g00331/laws.FnExactNewTxn", spec := "fnExactNewTxn", unfollowed := true, recurses := true, apart := false, narrowed := true }
def FnExactNewTxnUptoSaid : Prop := fnExactNewTxnUptoRow.holds Try.pinned (OpenSpec.upto fnExactNewTxnSpec)

/-- 'laws.FnExactPrimaryOf', WHERE WHAT IT READS IS OF BULK AT MOST 1048576: true; the input reads as it did. -/
def fnExactPrimaryOfUptoRow : OpenClaim := { program := "ytjimckfkbkfggaa", sum := "cbe585af3de656381059d675ff37888275e5c16bf43575f3ec5b590ddfab5498", func := "loop.example/g00331/laws.FnExactPrimaryOf", spec := "fnExactPrimaryOf", unfollowed := true, recurses := true, apart := false, narrowed := true }
def FnExactPrimaryOfUptoSaid : Prop := fnExactPrimaryOfUptoRow.holds Try.pinned (OpenSpec.upto fnExactPrimaryOfSpec)

/-- 'laws.FnExactIsOver', WHERE WHAT IT READS IS OF BULK AT MOST 1048576: true; the input reads as it did. -/
def fnExactIsOverUptoRow : OpenClaim := { program := "ytjimckfkbkfggaa", sum := "cbe585af3de656381059d675ff37888275e5c16bf43575f3ec5b590ddfab5498", func := "loop.example/g00331/laws.FnExactIsOver", spec := "fnExactIsOver", unfollowed := true, recurses := true, apart := false, narrowed := true }
def FnExactIsOverUptoSaid : Prop := fnExactIsOverUptoRow.holds Try.pinned (OpenSpec.upto fnExactIsOverSpec)

/-- 'laws.FnExactStepsLeft', WHERE WHAT IT READS IS OF BULK AT MOST 1048576: true; the input reads as it did. -/
def fnExactStepsLeftUptoRow : OpenClaim := { program := "ytjimckfkbkfggaa", sum := "cbe585af3de656381059d675ff37888275e5c16bf43575f3ec5b590ddfab5498", func := "loop.example/g00331/laws.FnExactStepsLeft", spec := "fnExactStepsLeft", unfollowed := true, recurses := true, apart := false, narrowed := true }
def FnExactStepsLeftUptoSaid : Prop := fnExactStepsLeftUptoRow.holds Try.pinned (OpenSpec.upto fnExactStepsLeftSpec)

end Rows
end Go.Proofs.Ytjimckfkbkfggaa
