/-
  No cell of these rows narrows 'for every input' (looked for: loops, veiled, ifaces, maps, wideKeys, modest, calm, conditions, laid).
  DERIVED. THE GIVEN ROWS OF THIS SEAT. 6 by the template 'for every input the law returns true; each argument reads behind the call as it read before'; 0 by the template 'total and deterministic' (their statements: YtegfpgdipmfgfaaTotals.lean).
  GIVEN WITH THE SEED: the statements are not yours to turn. If you find one false, say at which input.
  Laid BY PROGRAM, IN A SANDBOX (cutbox-rows.mjs): the forced cells as the released guide's own fill.sh prints them over the translation 1c6db7260f18f4aa… (all of the seat's roots in one cut). By AI agents, Wed Nov 11 2026. No macro, syntax, notation, axiom, sorry.
-/
import Derived.Test.YtegfpgdipmfgfaaChecked
import GoSem.Claim
import GoSem.ClaimJoined
import GoSem.ClaimMapViews
import Derived.JoinedTies
import Derived.KernelRfl
namespace Go.Proofs.Ytegfpgdipmfgfaa
/- THE CELL 'sum', in the pinned program and in every row, IS THE sha256 OF THE DUMP (.gsa) THAT YtegfpgdipmfgfaaProg.lean LOADS. Nothing in Lean hashes anything: it is a label: what it is worth is what the hold of that sum in a sandbox is worth. -/
noncomputable def Try.pinned : Pinned := { name := "ytegfpgdipmfgfaa", sum := "1c6db7260f18f4aa9d52c1b96bc2c7b2d858af9022bf0fd13a23f76f678d73cc", checked := Try.checked }
namespace Rows
def none {H : Type} : Left H := { results := [], args := [] }

/-- 'laws.FnPlans': WHATEVER THE INPUT: true; the input reads as it did. -/
def fnPlansSpec : ChangeSpec := { name := "fnPlans", fn := fun _ => fun
  | [d] => { results := [.lit (.bool true)], args := [d] }
  | _ => none }
def fnPlansRow : OpenClaim := { program := "ytegfpgdipmfgfaa", sum := "1c6db7260f18f4aa9d52c1b96bc2c7b2d858af9022bf0fd13a23f76f678d73cc", func := "loop.example/g00331/laws.FnPlans", spec := "fnPlans", inPlace := ["slices.overlaps[loop.example/g00331/impl.Pair]"], unfollowed := true, recurses := true, apart := false }
def FnPlansSaid : Prop := fnPlansRow.holds Try.pinned (OpenSpec.ofChange fnPlansSpec)

/-- ITS FALSE NEIGHBOUR: 'it returns false'. Refute it at one input. -/
def fnPlansWrong : ChangeSpec := { name := "fnPlans", fn := fun _ => fun
  | [d] => { results := [.lit (.bool false)], args := [d] }
  | _ => none }
def FnPlansWrongFalsely : Prop := fnPlansRow.holds Try.pinned (OpenSpec.ofChange fnPlansWrong)

/-- 'laws.FnExactFsOpFault': WHATEVER THE INPUT: true; the input reads as it did. -/
def fnExactFsOpFaultSpec : ChangeSpec := { name := "fnExactFsOpFault", fn := fun _ => fun
  | [d] => { results := [.lit (.bool true)], args := [d] }
  | _ => none }
def fnExactFsOpFaultRow : OpenClaim := { program := "ytegfpgdipmfgfaa", sum := "1c6db7260f18f4aa9d52c1b96bc2c7b2d858af9022bf0fd13a23f76f678d73cc", func := "loop.example/g00331/laws.FnExactFsOpFault", spec := "fnExactFsOpFault", apart := false }
def FnExactFsOpFaultSaid : Prop := fnExactFsOpFaultRow.holds Try.pinned (OpenSpec.ofChange fnExactFsOpFaultSpec)

/-- ITS FALSE NEIGHBOUR: 'it returns false'. Refute it at one input. -/
def fnExactFsOpFaultWrong : ChangeSpec := { name := "fnExactFsOpFault", fn := fun _ => fun
  | [d] => { results := [.lit (.bool false)], args := [d] }
  | _ => none }
def FnExactFsOpFaultWrongFalsely : Prop := fnExactFsOpFaultRow.holds Try.pinned (OpenSpec.ofChange fnExactFsOpFaultWrong)

/-- 'laws.FnExactEmptyFs': WHATEVER THE INPUT: true; the input reads as it did. -/
def fnExactEmptyFsSpec : ChangeSpec := { name := "fnExactEmptyFs", fn := fun _ => fun
  | [d] => { results := [.lit (.bool true)], args := [d] }
  | _ => none }
def fnExactEmptyFsRow : OpenClaim := { program := "ytegfpgdipmfgfaa", sum := "1c6db7260f18f4aa9d52c1b96bc2c7b2d858af9022bf0fd13a23f76f678d73cc", func := "loop.example/g00331/laws.FnExactEmptyFs", spec := "fnExactEmptyFs", apart := false }
def FnExactEmptyFsSaid : Prop := fnExactEmptyFsRow.holds Try.pinned (OpenSpec.ofChange fnExactEmptyFsSpec)

/-- ITS FALSE NEIGHBOUR: 'it returns false'. Refute it at one input. -/
def fnExactEmptyFsWrong : ChangeSpec := { name := "fnExactEmptyFs", fn := fun _ => fun
  | [d] => { results := [.lit (.bool false)], args := [d] }
  | _ => none }
def FnExactEmptyFsWrongFalsely : Prop := fnExactEmptyFsRow.holds Try.pinned (OpenSpec.ofChange fnExactEmptyFsWrong)

/-- 'laws.FnExactCompileFs': WHATEVER THE INPUT: true; the input reads as it did. -/
def fnExactCompileFsSpec : ChangeSpec := { name := "fnExactCompileFs", fn := fun _ => fun
  | [d1, d2] => { results := [.lit (.bool true)], args := [d1, d2] }
  | _ => none }
def fnExactCompileFsRow : OpenClaim := { program := "ytegfpgdipmfgfaa", sum := "1c6db7260f18f4aa9d52c1b96bc2c7b2d858af9022bf0fd13a23f76f678d73cc", func := "loop.example/g00331/laws.FnExactCompileFs", spec := "fnExactCompileFs", inPlace := ["slices.overlaps[loop.example/g00331/impl.Pair]"], unfollowed := true, recurses := true, apart := false }
def FnExactCompileFsSaid : Prop := fnExactCompileFsRow.holds Try.pinned (OpenSpec.ofChange fnExactCompileFsSpec)

/-- ITS FALSE NEIGHBOUR: 'it returns false'. Refute it at one input. -/
def fnExactCompileFsWrong : ChangeSpec := { name := "fnExactCompileFs", fn := fun _ => fun
  | [d1, d2] => { results := [.lit (.bool false)], args := [d1, d2] }
  | _ => none }
def FnExactCompileFsWrongFalsely : Prop := fnExactCompileFsRow.holds Try.pinned (OpenSpec.ofChange fnExactCompileFsWrong)

/-- 'laws.FnExactIsFsDir': WHATEVER THE INPUT: true; the input reads as it did. -/
def fnExactIsFsDirSpec : ChangeSpec := { name := "fnExactIsFsDir", fn := fun _ => fun
  | [d1, d2] => { results := [.lit (.bool true)], args := [d1, d2] }
  | _ => none }
def fnExactIsFsDirRow : OpenClaim := { program := "ytegfpgdipmfgfaa", sum := "1c6db7260f18f4aa9d52c1b96bc2c7b2d858af9022bf0fd13a23f76f678d73cc", func := "loop.example/g00331/laws.FnExactIsFsDir", spec := "fnExactIsFsDir", inPlace := ["slices.overlaps[loop.example/g00331/impl.Pair]"], unfollowed := true, recurses := true, apart := false }
def FnExactIsFsDirSaid : Prop := fnExactIsFsDirRow.holds Try.pinned (OpenSpec.ofChange fnExactIsFsDirSpec)

/-- ITS FALSE NEIGHBOUR: 'it returns false'. Refute it at one input. -/
def fnExactIsFsDirWrong : ChangeSpec := { name := "fnExactIsFsDir", fn := fun _ => fun
  | [d1, d2] => { results := [.lit (.bool false)], args := [d1, d2] }
  | _ => none }
def FnExactIsFsDirWrongFalsely : Prop := fnExactIsFsDirRow.holds Try.pinned (OpenSpec.ofChange fnExactIsFsDirWrong)

/-- 'laws.FnExactChildOf': WHATEVER THE INPUT: true; the input reads as it did. -/
def fnExactChildOfSpec : ChangeSpec := { name := "fnExactChildOf", fn := fun _ => fun
  | [d1, d2, d3] => { results := [.lit (.bool true)], args := [d1, d2, d3] }
  | _ => none }
def fnExactChildOfRow : OpenClaim := { program := "ytegfpgdipmfgfaa", sum := "1c6db7260f18f4aa9d52c1b96bc2c7b2d858af9022bf0fd13a23f76f678d73cc", func := "loop.example/g00331/laws.FnExactChildOf", spec := "fnExactChildOf", inPlace := ["slices.overlaps[loop.example/g00331/impl.Pair]"], unfollowed := true, recurses := true, apart := false }
def FnExactChildOfSaid : Prop := fnExactChildOfRow.holds Try.pinned (OpenSpec.ofChange fnExactChildOfSpec)

/-- ITS FALSE NEIGHBOUR: 'it returns false'. Refute it at one input. -/
def fnExactChildOfWrong : ChangeSpec := { name := "fnExactChildOf", fn := fun _ => fun
  | [d1, d2, d3] => { results := [.lit (.bool false)], args := [d1, d2, d3] }
  | _ => none }
def FnExactChildOfWrongFalsely : Prop := fnExactChildOfRow.holds Try.pinned (OpenSpec.ofChange fnExactChildOfWrong)

/- THE SECOND FORM. 'bulk': how many values and letters a reading holds, each counted each time it is reached (what is shared counts as often as it is met; a slice's spare places count too). A statement '..UptoSaid' is the law's where the arguments, and the package variables that the reading takes, are together of bulk at most 1048576: NARROWER than '..Said'. Prove '..Said' where nothing that the law and all that it calls make is longer than what came in: it says more and counts as full. Else prove '..UptoSaid'. A law counts once. -/
mutual
def uptoBulk {H : Type} : DataW H → Nat
  | .lit (.string bytes) => bytes.length + 1
  | .lit _ => 1
  | .nil => 1
  | .ptr d => uptoBulk d + 1
  | .slice elems spare => uptoBulkAll elems + uptoBulkAll spare + 1
  | .agg parts => uptoBulkAll parts + 1
  | .iface _ d => uptoBulk d + 1
  | .map entries => uptoBulkEntries entries + 1
  | .held _ => 1
def uptoBulkAll {H : Type} : List (DataW H) → Nat
  | [] => 0
  | d :: r => uptoBulk d + uptoBulkAll r
def uptoBulkEntries {H : Type} : List (Lit × DataW H) → Nat
  | [] => 0
  | x :: r => uptoBulkEntry x + uptoBulkEntries r
def uptoBulkEntry {H : Type} : Lit × DataW H → Nat
  | (.string bytes, d) => bytes.length + uptoBulk d + 1
  | (_, d) => uptoBulk d + 1
 end
def uptoSmall : (H : Type) → List (DataW H) → Bool := fun _ ds => decide (uptoBulkAll ds ≤ 1048576)
def OpenSpec.upto (s : _root_.Go.ChangeSpec) : _root_.Go.OpenSpec := { _root_.Go.OpenSpec.ofChange s with cond := some uptoSmall }

/-- 'laws.FnPlans', WHERE WHAT IT READS IS OF BULK AT MOST 1048576: true; the input reads as it did. -/
def fnPlansUptoRow : OpenClaim := { program := "ytegfpgdipmfgfaa", sum := "1c6db7260f18f4aa9d52c1b96bc2c7b2d858af9022bf0fd13a23f76f678d73cc", func := "loop.example/g00331/laws.FnPlans", spec := "fnPlans", inPlace := ["slices.overlaps[loop.example/g00331/impl.Pair]"], unfollowed := true, recurses := true, apart := false, narrowed := true }
def FnPlansUptoSaid : Prop := fnPlansUptoRow.holds Try.pinned (OpenSpec.upto fnPlansSpec)

/-- 'laws.FnExactFsOpFault', WHERE WHAT IT READS IS OF BULK AT MOST 1048576: true; the input reads as it did. -/
def fnExactFsOpFaultUptoRow : OpenClaim := { program := "ytegfpgdipmfgfaa", sum := "1c6db7260f18f4aa9d52c1b96bc2c7b2d858af9022bf0fd13a23f76f678d73cc", func := "loop.example/g00331/laws.FnExactFsOpFault", spec := "fnExactFsOpFault", apart := false, narrowed := true }
def FnExactFsOpFaultUptoSaid : Prop := fnExactFsOpFaultUptoRow.holds Try.pinned (OpenSpec.upto fnExactFsOpFaultSpec)

/-- 'laws.FnExactEmptyFs', WHERE WHAT IT READS IS OF BULK AT MOST 1048576: true; the input reads as it did. -/
def fnExactEmptyFsUptoRow : OpenClaim := { program := "ytegfpgdipmfgfaa", sum := "1c6db7260f18f4aa9d52c1b96bc2c7b2d858af9022bf0fd13a23f76f678d73cc", func := "loop.example/g00331/laws.FnExactEmptyFs", spec := "fnExactEmptyFs", apart := false, narrowed := true }
def FnExactEmptyFsUptoSaid : Prop := fnExactEmptyFsUptoRow.holds Try.pinned (OpenSpec.upto fnExactEmptyFsSpec)

/-- 'laws.FnExactCompileFs', WHERE WHAT IT READS IS OF BULK AT MOST 1048576: true; the input reads as it did. -/
def fnExactCompileFsUptoRow : OpenClaim := { program := "ytegfpgdipmfgfaa", sum := "1c6db7260f18f4aa9d52c1b96bc2c7b2d858af9022bf0fd13a23f76f678d73cc", func := "loop.example/g00331/laws.FnExactCompileFs", spec := "fnExactCompileFs", inPlace := ["slices.overlaps[loop.example/g00331/impl.Pair]"], unfollowed := true, recurses := true, apart := false, narrowed := true }
def FnExactCompileFsUptoSaid : Prop := fnExactCompileFsUptoRow.holds Try.pinned (OpenSpec.upto fnExactCompileFsSpec)

/-- 'laws.FnExactIsFsDir', WHERE WHAT IT READS IS OF BULK AT MOST 1048576: true; the input reads as it did. -/
def fnExactIsFsDirUptoRow : OpenClaim := { program := "ytegfpgdipmfgfaa", sum := "1c6db7260f18f4aa9d52c1b96bc2c7b2d858af9022bf0fd13a23f76f678d73cc", func := "loop.example/g00331/laws.FnExactIsFsDir", spec := "fnExactIsFsDir", inPlace := ["slices.overlaps[loop.example/g00331/impl.Pair]"], unfollowed := true, recurses := true, apart := false, narrowed := true }
def FnExactIsFsDirUptoSaid : Prop := fnExactIsFsDirUptoRow.holds Try.pinned (OpenSpec.upto fnExactIsFsDirSpec)

/-- 'laws.FnExactChildOf', WHERE WHAT IT READS IS OF BULK AT MOST 1048576: true; the input reads as it did. -/
def fnExactChildOfUptoRow : OpenClaim := { program := "ytegfpgdipmfgfaa", sum := "1c6db7260f18f4aa9d52c1b96bc2c7b2d858af9022bf0fd13a23f76f678d73cc", func := "loop.example/g00331/laws.FnExactChildOf", spec := "fnExactChildOf", inPlace := ["slices.overlaps[loop.example/g00331/impl.Pair]"], unfollowed := true, recurses := true, apart := false, narrowed := true }
def FnExactChildOfUptoSaid : Prop := fnExactChildOfUptoRow.holds Try.pinned (OpenSpec.upto fnExactChildOfSpec)

end Rows
end Go.Proofs.Ytegfpgdipmfgfaa
