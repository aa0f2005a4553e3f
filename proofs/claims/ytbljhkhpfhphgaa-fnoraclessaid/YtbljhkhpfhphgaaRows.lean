/-
  No cell of these rows narrows 'for every input' (looked for: loops, veiled, ifaces, maps, wideKeys, modest, calm, conditions, laid).
  DERIVED. THE GIVEN ROWS OF THIS SEAT. 6 by the template 'for every input the law returns true; each argument reads behind the call as it read before'; 0 by the template 'total and deterministic' (their statements: YtbljhkhpfhphgaaTotals.lean).
  GIVEN WITH THE SEED: the statements are not yours to turn. If you find one false, say at which input.
  Laid BY PROGRAM, IN A SANDBOX (cutbox-rows.mjs): the forced cells as the released guide's own fill.sh prints them over the translation be086ce6bc4b2193… (all of the seat's roots in one cut). By AI agents, Wed Nov 11 2026. No macro, syntax, notation, axiom, sorry.
-/
import Derived.Test.YtbljhkhpfhphgaaChecked
import GoSem.Claim
import GoSem.ClaimJoined
import GoSem.ClaimMapViews
import Derived.JoinedTies
import Derived.KernelRfl
namespace Go.Proofs.Ytbljhkhpfhphgaa
/- THE CELL 'sum', in the pinned program and in every row, IS THE sha256 OF THE DUMP (.gsa) THAT YtbljhkhpfhphgaaProg.lean LOADS. Nothing in Lean hashes anything: it is a label: what it is worth is what the hold of that sum in a sandbox is worth. -/
noncomputable def Try.pinned : Pinned := { name := "ytbljhkhpfhphgaa", sum := "be086ce6bc4b2193c256ac16a251b072c5131d26af5eb25e20fc6180fd9af7f1", checked := Try.checked }
namespace Rows
def none {H : Type} : Left H := { results := [], args := [] }

/-- 'laws.FnOracles': WHATEVER THE INPUT: true; the input reads as it did. -/
def fnOraclesSpec : ChangeSpec := { name := "fnOracles", fn := fun _ => fun
  | [d] => { results := [.lit (.bool true)], args := [d] }
  | _ => none }
def fnOraclesRow : OpenClaim := { program := "ytbljhkhpfhphgaa", sum := "be086ce6bc4b2193c256ac16a251b072c5131d26af5eb25e20fc6180fd9af7f1", func := "loop.example/g00331/laws.FnOracles", spec := "fnOracles", unfollowed := true, recurses := true, apart := false }
def FnOraclesSaid : Prop := fnOraclesRow.holds Try.pinned (OpenSpec.ofChange fnOraclesSpec)

/-- ITS FALSE NEIGHBOUR: 'it returns false'. Refute it at one input. -/
def fnOraclesWrong : ChangeSpec := { name := "fnOracles", fn := fun _ => fun
  | [d] => { results := [.lit (.bool false)], args := [d] }
  | _ => none }
def FnOraclesWrongFalsely : Prop := fnOraclesRow.holds Try.pinned (OpenSpec.ofChange fnOraclesWrong)

/-- 'laws.FnExactOracleFault': WHATEVER THE INPUT: true; the input reads as it did. -/
def fnExactOracleFaultSpec : ChangeSpec := { name := "fnExactOracleFault", fn := fun _ => fun
  | [d] => { results := [.lit (.bool true)], args := [d] }
  | _ => none }
def fnExactOracleFaultRow : OpenClaim := { program := "ytbljhkhpfhphgaa", sum := "be086ce6bc4b2193c256ac16a251b072c5131d26af5eb25e20fc6180fd9af7f1", func := "loop.example/g00331/laws.FnExactOracleFault", spec := "fnExactOracleFault", apart := false }
def FnExactOracleFaultSaid : Prop := fnExactOracleFaultRow.holds Try.pinned (OpenSpec.ofChange fnExactOracleFaultSpec)

/-- ITS FALSE NEIGHBOUR: 'it returns false'. Refute it at one input. -/
def fnExactOracleFaultWrong : ChangeSpec := { name := "fnExactOracleFault", fn := fun _ => fun
  | [d] => { results := [.lit (.bool false)], args := [d] }
  | _ => none }
def FnExactOracleFaultWrongFalsely : Prop := fnExactOracleFaultRow.holds Try.pinned (OpenSpec.ofChange fnExactOracleFaultWrong)

/-- 'laws.FnExactNewOracle': WHATEVER THE INPUT: true; the input reads as it did. -/
def fnExactNewOracleSpec : ChangeSpec := { name := "fnExactNewOracle", fn := fun _ => fun
  | [d] => { results := [.lit (.bool true)], args := [d] }
  | _ => none }
def fnExactNewOracleRow : OpenClaim := { program := "ytbljhkhpfhphgaa", sum := "be086ce6bc4b2193c256ac16a251b072c5131d26af5eb25e20fc6180fd9af7f1", func := "loop.example/g00331/laws.FnExactNewOracle", spec := "fnExactNewOracle", apart := false }
def FnExactNewOracleSaid : Prop := fnExactNewOracleRow.holds Try.pinned (OpenSpec.ofChange fnExactNewOracleSpec)

/-- ITS FALSE NEIGHBOUR: 'it returns false'. Refute it at one input. -/
def fnExactNewOracleWrong : ChangeSpec := { name := "fnExactNewOracle", fn := fun _ => fun
  | [d] => { results := [.lit (.bool false)], args := [d] }
  | _ => none }
def FnExactNewOracleWrongFalsely : Prop := fnExactNewOracleRow.holds Try.pinned (OpenSpec.ofChange fnExactNewOracleWrong)

/-- 'laws.FnExactGrantTs': WHATEVER THE INPUT: true; the input reads as it did. -/
def fnExactGrantTsSpec : ChangeSpec := { name := "fnExactGrantTs", fn := fun _ => fun
  | [d] => { results := [.lit (.bool true)], args := [d] }
  | _ => none }
def fnExactGrantTsRow : OpenClaim := { program := "ytbljhkhpfhphgaa", sum := "be086ce6bc4b2193c256ac16a251b072c5131d26af5eb25e20fc6180fd9af7f1", func := "loop.example/g00331/laws.FnExactGrantTs", spec := "fnExactGrantTs", apart := false }
def FnExactGrantTsSaid : Prop := fnExactGrantTsRow.holds Try.pinned (OpenSpec.ofChange fnExactGrantTsSpec)

/-- ITS FALSE NEIGHBOUR: 'it returns false'. Refute it at one input. -/
def fnExactGrantTsWrong : ChangeSpec := { name := "fnExactGrantTs", fn := fun _ => fun
  | [d] => { results := [.lit (.bool false)], args := [d] }
  | _ => none }
def FnExactGrantTsWrongFalsely : Prop := fnExactGrantTsRow.holds Try.pinned (OpenSpec.ofChange fnExactGrantTsWrong)

/-- 'laws.FnExactCrashOracle': WHATEVER THE INPUT: true; the input reads as it did. -/
def fnExactCrashOracleSpec : ChangeSpec := { name := "fnExactCrashOracle", fn := fun _ => fun
  | [d] => { results := [.lit (.bool true)], args := [d] }
  | _ => none }
def fnExactCrashOracleRow : OpenClaim := { program := "ytbljhkhpfhphgaa", sum := "be086ce6bc4b2193c256ac16a251b072c5131d26af5eb25e20fc6180fd9af7f1", func := "loop.example/g00331/laws.FnExactCrashOracle", spec := "fnExactCrashOracle", apart := false }
def FnExactCrashOracleSaid : Prop := fnExactCrashOracleRow.holds Try.pinned (OpenSpec.ofChange fnExactCrashOracleSpec)

/-- ITS FALSE NEIGHBOUR: 'it returns false'. Refute it at one input. -/
def fnExactCrashOracleWrong : ChangeSpec := { name := "fnExactCrashOracle", fn := fun _ => fun
  | [d] => { results := [.lit (.bool false)], args := [d] }
  | _ => none }
def FnExactCrashOracleWrongFalsely : Prop := fnExactCrashOracleRow.holds Try.pinned (OpenSpec.ofChange fnExactCrashOracleWrong)

/-- 'laws.FnExactGrantMany': WHATEVER THE INPUT: true; the input reads as it did. -/
def fnExactGrantManySpec : ChangeSpec := { name := "fnExactGrantMany", fn := fun _ => fun
  | [d1, d2] => { results := [.lit (.bool true)], args := [d1, d2] }
  | _ => none }
def fnExactGrantManyRow : OpenClaim := { program := "ytbljhkhpfhphgaa", sum := "be086ce6bc4b2193c256ac16a251b072c5131d26af5eb25e20fc6180fd9af7f1", func := "loop.example/g00331/laws.FnExactGrantMany", spec := "fnExactGrantMany", unfollowed := true, recurses := true, apart := false }
def FnExactGrantManySaid : Prop := fnExactGrantManyRow.holds Try.pinned (OpenSpec.ofChange fnExactGrantManySpec)

/-- ITS FALSE NEIGHBOUR: 'it returns false'. Refute it at one input. -/
def fnExactGrantManyWrong : ChangeSpec := { name := "fnExactGrantMany", fn := fun _ => fun
  | [d1, d2] => { results := [.lit (.bool false)], args := [d1, d2] }
  | _ => none }
def FnExactGrantManyWrongFalsely : Prop := fnExactGrantManyRow.holds Try.pinned (OpenSpec.ofChange fnExactGrantManyWrong)

/- THE SECOND FORM. 'bulk': how many values and letters a reading holds, each counted each time it is reached (what is shared counts as often as it is met; a slice's spare places count too). A statement '..UptoSaid' is the law's where the arguments, and the package variables that the reading takes, are together of bulk at most 1048576: NARROWER than '..Said'. Prove '..Said' where nothing that the law and all that it calls make is longer than what came in: it says more and counts as full. Else prove '..UptoSaid'. A law counts once. -/
mutual
def uptoBulk {H : Type} : DataW H → Nat
  | .lit (.string bytes) => bytes.length + 1
  | .lit _ => 1
  | .nil => 1
  | .ptr d => uptoBulk d + 1
  | .slice elems spare => uptoBulkAll elems + uptoBulkAll spare + 1
  | .agg parts => uptoBulkAll parts + 1
  | .iface _ d => uptoBulk d + 1
  | .map entries => uptoBulkEntries entries + 1
  | .held _ => 1
def uptoBulkAll {H : Type} : List (DataW H) → Nat
  | [] => 0
  | d :: r => uptoBulk d + uptoBulkAll r
def uptoBulkEntries {H : Type} : List (Lit × DataW H) → Nat
  | [] => 0
  | x :: r => uptoBulkEntry x + uptoBulkEntries r
def uptoBulkEntry {H : Type} : Lit × DataW H → Nat
  | (.string bytes, d) => bytes.length + uptoBulk d + 1
  | (_, d) => uptoBulk d + 1
 end
def uptoSmall : (H : Type) → List (DataW H) → Bool := fun _ ds => decide (uptoBulkAll ds ≤ 1048576)
def OpenSpec.upto (s : _root_.Go.ChangeSpec) : _root_.Go.OpenSpec := { _root_.Go.OpenSpec.ofChange s with cond := some uptoSmall }

/-- 'laws.FnOracles', WHERE WHAT IT READS IS OF BULK AT MOST 1048576: true; the input reads as it did. -/
def fnOraclesUptoRow : OpenClaim := { program := "ytbljhkhpfhphgaa", sum := "be086ce6bc4b2193c256ac16a251b072c5131d26af5eb25e20fc6180fd9af7f1", func := "loop.example/g00331/laws.FnOracles", spec := "fnOracles", unfollowed := true, recurses := true, apart := false, narrowed := true }
def FnOraclesUptoSaid : Prop := fnOraclesUptoRow.holds Try.pinned (OpenSpec.upto fnOraclesSpec)

/-- 'laws.FnExactOracleFault', WHERE WHAT IT READS IS OF BULK AT MOST 1048576: true; the input reads as it did. -/
def fnExactOracleFaultUptoRow : OpenClaim := { program := "ytbljhkhpfhphgaa", sum := "be086ce6bc4b2193c256ac16a251b072c5131d26af5eb25e20fc6180fd9af7f1", func := "loop.example/g00331/laws.FnExactOracleFault", spec := "fnExactOracleFault", apart := false, narrowed := true }
def FnExactOracleFaultUptoSaid : Prop := fnExactOracleFaultUptoRow.holds Try.pinned (OpenSpec.upto fnExactOracleFaultSpec)

/-- 'laws.FnExactNewOracle', WHERE WHAT IT READS IS OF BULK AT MOST 1048576: true; the input reads as it did. -/
def fnExactNewOracleUptoRow : OpenClaim := { program := "ytbljhkhpfhphgaa", sum := "be086ce6bc4b2193c256ac16a251b072c5131d26af5eb25e20fc6180fd9af7f1", func := "loop.example/g00331/laws.FnExactNewOracle", spec := "fnExactNewOracle", apart := false, narrowed := true }
def FnExactNewOracleUptoSaid : Prop := fnExactNewOracleUptoRow.holds Try.pinned (OpenSpec.upto fnExactNewOracleSpec)

/-- 'laws.FnExactGrantTs', WHERE WHAT IT READS IS OF BULK AT MOST 1048576: true; the input reads as it did. -/
def fnExactGrantTsUptoRow : OpenClaim := { program := "ytbljhkhpfhphgaa", sum := "be086ce6bc4b2193c256ac16a251b072c5131d26af5eb25e20fc6180fd9af7f1", func := "loop.example/g00331/laws.FnExactGrantTs", spec := "fnExactGrantTs", apart := false, narrowed := true }
def FnExactGrantTsUptoSaid : Prop := fnExactGrantTsUptoRow.holds Try.pinned (OpenSpec.upto fnExactGrantTsSpec)

/-- 'laws.FnExactCrashOracle', WHERE WHAT IT READS IS OF BULK AT MOST 1048576: true; the input reads as it did. -/
def fnExactCrashOracleUptoRow : OpenClaim := { program := "ytbljhkhpfhphgaa", sum := "be086ce6bc4b2193c256ac16a251b072c5131d26af5eb25e20fc6180fd9af7f1", func := "loop.example/g00331/laws.FnExactCrashOracle", spec := "fnExactCrashOracle", apart := false, narrowed := true }
def FnExactCrashOracleUptoSaid : Prop := fnExactCrashOracleUptoRow.holds Try.pinned (OpenSpec.upto fnExactCrashOracleSpec)

/-- 'laws.FnExactGrantMany', WHERE WHAT IT READS IS OF BULK AT MOST 1048576: true; the input reads as it did. -/
def fnExactGrantManyUptoRow : OpenClaim := { program := "ytbljhkhpfhphgaa", sum := "be086ce6bc4b2193c256ac16a251b072c5131d26af5eb25e20fc6180fd9af7f1", func := "loop.example/g00331/laws.FnExactGrantMany", spec := "fnExactGrantMany", unfollowed := true, recurses := true, apart := false, narrowed := true }
def FnExactGrantManyUptoSaid : Prop := fnExactGrantManyUptoRow.holds Try.pinned (OpenSpec.upto fnExactGrantManySpec)

end Rows
end Go.Proofs.Ytbljhkhpfhphgaa
