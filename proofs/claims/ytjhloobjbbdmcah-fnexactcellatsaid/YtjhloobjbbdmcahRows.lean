/-
  No cell of these rows narrows 'for every input' (looked for: loops, veiled, ifaces, maps, wideKeys, modest, calm, conditions, laid).
  DERIVED. THE GIVEN ROWS OF THIS SEAT. 5 by the template 'for every input the law returns true; each argument reads behind the call as it read before'; 0 by the template 'total and deterministic' (their statements: YtjhloobjbbdmcahTotals.lean).
  GIVEN WITH THE SEED: the statements are not yours to turn. If you find one false, say at which input.
  Laid BY PROGRAM, IN A SANDBOX (cutbox-rows.mjs): the forced cells as the released guide's own fill.sh prints them over the translation 7028d764451356e7… (all of the seat's roots in one cut). By AI agents, Wed Nov 11 2026. No macro, syntax, notation, axiom, sorry.
-/
import Derived.Test.YtjhloobjbbdmcahChecked
import GoSem.Claim
import GoSem.ClaimJoined
import GoSem.ClaimMapViews
import Derived.JoinedTies
import Derived.KernelRfl
namespace Go.Proofs.Ytjhloobjbbdmcah
/- THE CELL 'sum', in the pinned program and in every row, IS THE sha256 OF THE DUMP (.gsa) THAT YtjhloobjbbdmcahProg.lean LOADS. Nothing in Lean hashes anything: it is a label: what it is worth is what the hold of that sum in a sandbox is worth. -/
noncomputable def Try.pinned : Pinned := { name := "ytjhloobjbbdmcah", sum := "7028d764451356e7856fdc6ea00d1fa24a1ee73fdabb9279438e3d956e1743e6", checked := Try.checked }
namespace Rows
def none {H : Type} : Left H := { results := [], args := [] }

/-- 'laws.FnExactLockAt': WHATEVER THE INPUT: true; the input reads as it did. -/
def fnExactLockAtSpec : ChangeSpec := { name := "fnExactLockAt", fn := fun _ => fun
  | [d1, d2] => { results := [.lit (.bool true)], args := [d1, d2] }
  | _ => none }
def fnExactLockAtRow : OpenClaim := { program := "ytjhloobjbbdmcah", sum := "7028d764451356e7856fdc6ea00d1fa24a1ee73fdabb9279438e3d956e1743e6", func := "loop.example/g00331/laws.FnExactLockAt", spec := "fnExactLockAt", plainKeys := false, apart := false }
def FnExactLockAtSaid : Prop := fnExactLockAtRow.holds Try.pinned (OpenSpec.ofChange fnExactLockAtSpec)

/-- ITS FALSE NEIGHBOUR: 'it returns false'. Refute it at one input. -/
def fnExactLockAtWrong : ChangeSpec := { name := "fnExactLockAt", fn := fun _ => fun
  | [d1, d2] => { results := [.lit (.bool false)], args := [d1, d2] }
  | _ => none }
def FnExactLockAtWrongFalsely : Prop := fnExactLockAtRow.holds Try.pinned (OpenSpec.ofChange fnExactLockAtWrong)

/-- 'laws.FnExactCellAt': WHATEVER THE INPUT: true; the input reads as it did. -/
def fnExactCellAtSpec : ChangeSpec := { name := "fnExactCellAt", fn := fun _ => fun
  | [d1, d2, d3] => { results := [.lit (.bool true)], args := [d1, d2, d3] }
  | _ => none }
def fnExactCellAtRow : OpenClaim := { program := "ytjhloobjbbdmcah", sum := "7028d764451356e7856fdc6ea00d1fa24a1ee73fdabb9279438e3d956e1743e6", func := "loop.example/g00331/laws.FnExactCellAt", spec := "fnExactCellAt", plainKeys := false, apart := false }
def FnExactCellAtSaid : Prop := fnExactCellAtRow.holds Try.pinned (OpenSpec.ofChange fnExactCellAtSpec)

/-- ITS FALSE NEIGHBOUR: 'it returns false'. Refute it at one input. -/
def fnExactCellAtWrong : ChangeSpec := { name := "fnExactCellAt", fn := fun _ => fun
  | [d1, d2, d3] => { results := [.lit (.bool false)], args := [d1, d2, d3] }
  | _ => none }
def FnExactCellAtWrongFalsely : Prop := fnExactCellAtRow.holds Try.pinned (OpenSpec.ofChange fnExactCellAtWrong)

/-- 'laws.FnExactLastWrite': WHATEVER THE INPUT: true; the input reads as it did. -/
def fnExactLastWriteSpec : ChangeSpec := { name := "fnExactLastWrite", fn := fun _ => fun
  | [d1, d2, d3] => { results := [.lit (.bool true)], args := [d1, d2, d3] }
  | _ => none }
def fnExactLastWriteRow : OpenClaim := { program := "ytjhloobjbbdmcah", sum := "7028d764451356e7856fdc6ea00d1fa24a1ee73fdabb9279438e3d956e1743e6", func := "loop.example/g00331/laws.FnExactLastWrite", spec := "fnExactLastWrite", plainKeys := false, apart := false }
def FnExactLastWriteSaid : Prop := fnExactLastWriteRow.holds Try.pinned (OpenSpec.ofChange fnExactLastWriteSpec)

/-- ITS FALSE NEIGHBOUR: 'it returns false'. Refute it at one input. -/
def fnExactLastWriteWrong : ChangeSpec := { name := "fnExactLastWrite", fn := fun _ => fun
  | [d1, d2, d3] => { results := [.lit (.bool false)], args := [d1, d2, d3] }
  | _ => none }
def FnExactLastWriteWrongFalsely : Prop := fnExactLastWriteRow.holds Try.pinned (OpenSpec.ofChange fnExactLastWriteWrong)

/-- 'laws.FnExactWriteOf': WHATEVER THE INPUT: true; the input reads as it did. -/
def fnExactWriteOfSpec : ChangeSpec := { name := "fnExactWriteOf", fn := fun _ => fun
  | [d1, d2, d3] => { results := [.lit (.bool true)], args := [d1, d2, d3] }
  | _ => none }
def fnExactWriteOfRow : OpenClaim := { program := "ytjhloobjbbdmcah", sum := "7028d764451356e7856fdc6ea00d1fa24a1ee73fdabb9279438e3d956e1743e6", func := "loop.example/g00331/laws.FnExactWriteOf", spec := "fnExactWriteOf", plainKeys := false, apart := false }
def FnExactWriteOfSaid : Prop := fnExactWriteOfRow.holds Try.pinned (OpenSpec.ofChange fnExactWriteOfSpec)

/-- ITS FALSE NEIGHBOUR: 'it returns false'. Refute it at one input. -/
def fnExactWriteOfWrong : ChangeSpec := { name := "fnExactWriteOf", fn := fun _ => fun
  | [d1, d2, d3] => { results := [.lit (.bool false)], args := [d1, d2, d3] }
  | _ => none }
def FnExactWriteOfWrongFalsely : Prop := fnExactWriteOfRow.holds Try.pinned (OpenSpec.ofChange fnExactWriteOfWrong)

/-- 'laws.FnExactSameStores': WHATEVER THE INPUT: true; the input reads as it did. -/
def fnExactSameStoresSpec : ChangeSpec := { name := "fnExactSameStores", fn := fun _ => fun
  | [d1, d2] => { results := [.lit (.bool true)], args := [d1, d2] }
  | _ => none }
def fnExactSameStoresRow : OpenClaim := { program := "ytjhloobjbbdmcah", sum := "7028d764451356e7856fdc6ea00d1fa24a1ee73fdabb9279438e3d956e1743e6", func := "loop.example/g00331/laws.FnExactSameStores", spec := "fnExactSameStores", plainKeys := false, apart := false }
def FnExactSameStoresSaid : Prop := fnExactSameStoresRow.holds Try.pinned (OpenSpec.ofChange fnExactSameStoresSpec)

/-- ITS FALSE NEIGHBOUR: 'it returns false'. Refute it at one input. -/
def fnExactSameStoresWrong : ChangeSpec := { name := "fnExactSameStores", fn := fun _ => fun
  | [d1, d2] => { results := [.lit (.bool false)], args := [d1, d2] }
  | _ => none }
def FnExactSameStoresWrongFalsely : Prop := fnExactSameStoresRow.holds Try.pinned (OpenSpec.ofChange fnExactSameStoresWrong)

/- THE SECOND FORM. 'bulk': how many values and letters a reading holds, each counted each time it is reached (what is shared counts as often as it is met; a slice's spare places count too). A statement '..UptoSaid' is the law's where the arguments, and the package variables that the reading takes, are together of bulk at most 1048576: NARROWER than '..Said'. Prove '..Said' where nothing that the law and all that it calls make is longer than what came in: it says more and counts as full. Else prove '..UptoSaid'. A law counts once. -/
mutual
def uptoBulk {H : Type} : DataW H → Nat
  | .lit (.string bytes) => bytes.length + 1
  | .lit _ => 1
  | .nil => 1
  | .ptr d => uptoBulk d + 1
  | .slice elems spare => uptoBulkAll elems + uptoBulkAll spare + 1
  | .agg parts => uptoBulkAll parts + 1
  | .iface _ d => uptoBulk d + 1
  | .map entries => uptoBulkEntries entries + 1
  | .held _ => 1
def uptoBulkAll {H : Type} : List (DataW H) → Nat
  | [] => 0
  | d :: r => uptoBulk d + uptoBulkAll r
def uptoBulkEntries {H : Type} : List (Lit × DataW H) → Nat
  | [] => 0
  | x :: r => uptoBulkEntry x + uptoBulkEntries r
def uptoBulkEntry {H : Type} : Lit × DataW H → Nat
  | (.string bytes, d) => bytes.length + uptoBulk d + 1
  | (_, d) => uptoBulk d + 1
 end
def uptoSmall : (H : Type) → List (DataW H) → Bool := fun _ ds => decide (uptoBulkAll ds ≤ 1048576)
def OpenSpec.upto (s : _root_.Go.ChangeSpec) : _root_.Go.OpenSpec := { _root_.Go.OpenSpec.ofChange s with cond := some uptoSmall }

/-- 'laws.FnExactLockAt', WHERE WHAT IT READS IS OF BULK AT MOST 1048576: true; the input reads as it did. -/
def fnExactLockAtUptoRow : OpenClaim := { program := "ytjhloobjbbdmcah", sum := "7028d764451356e7856fdc6ea00d1fa24a1ee73fdabb9279438e3d956e1743e6", func := "loop.example/g00331/laws.FnExactLockAt", spec := "fnExactLockAt", plainKeys := false, apart := false, narrowed := true }
def FnExactLockAtUptoSaid : Prop := fnExactLockAtUptoRow.holds Try.pinned (OpenSpec.upto fnExactLockAtSpec)

/-- 'laws.FnExactCellAt', WHERE WHAT IT READS IS OF BULK AT MOST 1048576: true; the input reads as it did. -/
def fnExactCellAtUptoRow : OpenClaim := { program := "ytjhloobjbbdmcah", sum := "7028d764451356e7856fdc6ea00d1fa24a1ee73fdabb9279438e3d956e1743e6", func := "loop.example/g00331/laws.FnExactCellAt", spec := "fnExactCellAt", plainKeys := false, apart := false, narrowed := true }
def FnExactCellAtUptoSaid : Prop := fnExactCellAtUptoRow.holds Try.pinned (OpenSpec.upto fnExactCellAtSpec)

/-- 'laws.FnExactLastWrite', WHERE WHAT IT READS IS OF BULK AT MOST 1048576: true; the input reads as it did. -/
def fnExactLastWriteUptoRow : OpenClaim := { program := "ytjhloobjbbdmcah", sum := "7028d764451356e7856fdc6ea00d1fa24a1ee73fdabb9279438e3d956e1743e6", func := "loop.example/g00331/laws.FnExactLastWrite", spec := "fnExactLastWrite", plainKeys := false, apart := false, narrowed := true }
def FnExactLastWriteUptoSaid : Prop := fnExactLastWriteUptoRow.holds Try.pinned (OpenSpec.upto fnExactLastWriteSpec)

/-- 'laws.FnExactWriteOf', WHERE WHAT IT READS IS OF BULK AT MOST 1048576: true; the input reads as it did. -/
def fnExactWriteOfUptoRow : OpenClaim := { program := "ytjhloobjbbdmcah", sum := "7028d764451356e7856fdc6ea00d1fa24a1ee73fdabb9279438e3d956e1743e6", func := "loop.example/g00331/laws.FnExactWriteOf", spec := "fnExactWriteOf", plainKeys := false, apart := false, narrowed := true }
def FnExactWriteOfUptoSaid : Prop := fnExactWriteOfUptoRow.holds Try.pinned (OpenSpec.upto fnExactWriteOfSpec)

/-- 'laws.FnExactSameStores', WHERE WHAT IT READS IS OF BULK AT MOST 1048576: true; the input reads as it did. -/
def fnExactSameStoresUptoRow : OpenClaim := { program := "ytjhloobjbbdmcah", sum := "7028d764451356e7856fdc6ea00d1fa24a1ee73fdabb9279438e3d956e1743e6", func := "loop.example/g00331/laws.FnExactSameStores", spec := "fnExactSameStores", plainKeys := false, apart := false, narrowed := true }
def FnExactSameStoresUptoSaid : Prop := fnExactSameStoresUptoRow.holds Try.pinned (OpenSpec.upto fnExactSameStoresSpec)

end Rows
end Go.Proofs.Ytjhloobjbbdmcah
