/-
  No cell of these rows narrows 'for every input' (looked for: loops, veiled, ifaces, maps, wideKeys, modest, calm, conditions, laid).
  DERIVED. THE GIVEN ROWS OF THIS SEAT. 5 by the template 'for every input the law returns true; each argument reads behind the call as it read before'; 0 by the template 'total and deterministic' (their statements: YtjhloobjbbdmcajTotals.lean).
  GIVEN WITH THE SEED: the statements are not yours to turn. If you find one false, say at which input.
  Laid BY PROGRAM, IN A SANDBOX (cutbox-rows.mjs): the forced cells as the released guide's own fill.sh prints them over the translation d0be89d06605ed6e… (all of the seat's roots in one cut). By AI agents, Wed Nov 11 2026. No macro, syntax, notation, axiom, sorry.
-/
import Derived.Test.YtjhloobjbbdmcajChecked
import GoSem.Claim
import GoSem.ClaimJoined
import GoSem.ClaimMapViews
import Derived.JoinedTies
import Derived.KernelRfl
namespace Go.Proofs.Ytjhloobjbbdmcaj
/- THE CELL 'sum', in the pinned program and in every row, IS THE sha256 OF THE DUMP (.gsa) THAT YtjhloobjbbdmcajProg.lean LOADS. Nothing in Lean hashes anything: it is a label: what it is worth is what the hold of that sum in a sandbox is worth. -/
noncomputable def Try.pinned : Pinned := { name := "ytjhloobjbbdmcaj", sum := "d0be89d06605ed6e449f7e0218c6151bb5cf866bc574178665529f12979a024f", checked := Try.checked }
namespace Rows
def none {H : Type} : Left H := { results := [], args := [] }

/-- 'laws.FnExactBlockedAt': WHATEVER THE INPUT: true; the input reads as it did. -/
def fnExactBlockedAtSpec : ChangeSpec := { name := "fnExactBlockedAt", fn := fun _ => fun
  | [d1, d2, d3] => { results := [.lit (.bool true)], args := [d1, d2, d3] }
  | _ => none }
def fnExactBlockedAtRow : OpenClaim := { program := "ytjhloobjbbdmcaj", sum := "d0be89d06605ed6e449f7e0218c6151bb5cf866bc574178665529f12979a024f", func := "loop.example/g00331/laws.FnExactBlockedAt", spec := "fnExactBlockedAt", plainKeys := false, apart := false }
def FnExactBlockedAtSaid : Prop := fnExactBlockedAtRow.holds Try.pinned (OpenSpec.ofChange fnExactBlockedAtSpec)

/-- ITS FALSE NEIGHBOUR: 'it returns false'. Refute it at one input. -/
def fnExactBlockedAtWrong : ChangeSpec := { name := "fnExactBlockedAt", fn := fun _ => fun
  | [d1, d2, d3] => { results := [.lit (.bool false)], args := [d1, d2, d3] }
  | _ => none }
def FnExactBlockedAtWrongFalsely : Prop := fnExactBlockedAtRow.holds Try.pinned (OpenSpec.ofChange fnExactBlockedAtWrong)

/-- 'laws.FnExactStatusOf': WHATEVER THE INPUT: true; the input reads as it did. -/
def fnExactStatusOfSpec : ChangeSpec := { name := "fnExactStatusOf", fn := fun _ => fun
  | [d1, d2, d3] => { results := [.lit (.bool true)], args := [d1, d2, d3] }
  | _ => none }
def fnExactStatusOfRow : OpenClaim := { program := "ytjhloobjbbdmcaj", sum := "d0be89d06605ed6e449f7e0218c6151bb5cf866bc574178665529f12979a024f", func := "loop.example/g00331/laws.FnExactStatusOf", spec := "fnExactStatusOf", plainKeys := false, apart := false }
def FnExactStatusOfSaid : Prop := fnExactStatusOfRow.holds Try.pinned (OpenSpec.ofChange fnExactStatusOfSpec)

/-- ITS FALSE NEIGHBOUR: 'it returns false'. Refute it at one input. -/
def fnExactStatusOfWrong : ChangeSpec := { name := "fnExactStatusOf", fn := fun _ => fun
  | [d1, d2, d3] => { results := [.lit (.bool false)], args := [d1, d2, d3] }
  | _ => none }
def FnExactStatusOfWrongFalsely : Prop := fnExactStatusOfRow.holds Try.pinned (OpenSpec.ofChange fnExactStatusOfWrong)

/-- 'laws.FnExactCommitOf': WHATEVER THE INPUT: true; the input reads as it did. -/
def fnExactCommitOfSpec : ChangeSpec := { name := "fnExactCommitOf", fn := fun _ => fun
  | [d1, d2, d3] => { results := [.lit (.bool true)], args := [d1, d2, d3] }
  | _ => none }
def fnExactCommitOfRow : OpenClaim := { program := "ytjhloobjbbdmcaj", sum := "d0be89d06605ed6e449f7e0218c6151bb5cf866bc574178665529f12979a024f", func := "loop.example/g00331/laws.FnExactCommitOf", spec := "fnExactCommitOf", plainKeys := false, apart := false }
def FnExactCommitOfSaid : Prop := fnExactCommitOfRow.holds Try.pinned (OpenSpec.ofChange fnExactCommitOfSpec)

/-- ITS FALSE NEIGHBOUR: 'it returns false'. Refute it at one input. -/
def fnExactCommitOfWrong : ChangeSpec := { name := "fnExactCommitOf", fn := fun _ => fun
  | [d1, d2, d3] => { results := [.lit (.bool false)], args := [d1, d2, d3] }
  | _ => none }
def FnExactCommitOfWrongFalsely : Prop := fnExactCommitOfRow.holds Try.pinned (OpenSpec.ofChange fnExactCommitOfWrong)

/-- 'laws.FnExactOldestLock': WHATEVER THE INPUT: true; the input reads as it did. -/
def fnExactOldestLockSpec : ChangeSpec := { name := "fnExactOldestLock", fn := fun _ => fun
  | [d] => { results := [.lit (.bool true)], args := [d] }
  | _ => none }
def fnExactOldestLockRow : OpenClaim := { program := "ytjhloobjbbdmcaj", sum := "d0be89d06605ed6e449f7e0218c6151bb5cf866bc574178665529f12979a024f", func := "loop.example/g00331/laws.FnExactOldestLock", spec := "fnExactOldestLock", plainKeys := false, apart := false }
def FnExactOldestLockSaid : Prop := fnExactOldestLockRow.holds Try.pinned (OpenSpec.ofChange fnExactOldestLockSpec)

/-- ITS FALSE NEIGHBOUR: 'it returns false'. Refute it at one input. -/
def fnExactOldestLockWrong : ChangeSpec := { name := "fnExactOldestLock", fn := fun _ => fun
  | [d] => { results := [.lit (.bool false)], args := [d] }
  | _ => none }
def FnExactOldestLockWrongFalsely : Prop := fnExactOldestLockRow.holds Try.pinned (OpenSpec.ofChange fnExactOldestLockWrong)

/-- 'laws.FnExactCountWrites': WHATEVER THE INPUT: true; the input reads as it did. -/
def fnExactCountWritesSpec : ChangeSpec := { name := "fnExactCountWrites", fn := fun _ => fun
  | [d1, d2] => { results := [.lit (.bool true)], args := [d1, d2] }
  | _ => none }
def fnExactCountWritesRow : OpenClaim := { program := "ytjhloobjbbdmcaj", sum := "d0be89d06605ed6e449f7e0218c6151bb5cf866bc574178665529f12979a024f", func := "loop.example/g00331/laws.FnExactCountWrites", spec := "fnExactCountWrites", plainKeys := false, apart := false }
def FnExactCountWritesSaid : Prop := fnExactCountWritesRow.holds Try.pinned (OpenSpec.ofChange fnExactCountWritesSpec)

/-- ITS FALSE NEIGHBOUR: 'it returns false'. Refute it at one input. -/
def fnExactCountWritesWrong : ChangeSpec := { name := "fnExactCountWrites", fn := fun _ => fun
  | [d1, d2] => { results := [.lit (.bool false)], args := [d1, d2] }
  | _ => none }
def FnExactCountWritesWrongFalsely : Prop := fnExactCountWritesRow.holds Try.pinned (OpenSpec.ofChange fnExactCountWritesWrong)

/- THE SECOND FORM. 'bulk': how many values and letters a reading holds, each counted each time it is reached (what is shared counts as often as it is met; a slice's spare places count too). A statement '..UptoSaid' is the law's where the arguments, and the package variables that the reading takes, are together of bulk at most 1048576: NARROWER than '..Said'. Prove '..Said' where nothing that the law and all that it calls make is longer than what came in: it says more and counts as full. Else prove '..UptoSaid'. A law counts once. -/
mutual
def uptoBulk {H : Type} : DataW H → Nat
  | .lit (.string bytes) => bytes.length + 1
  | .lit _ => 1
  | .nil => 1
  | .ptr d => uptoBulk d + 1
  | .slice elems spare => uptoBulkAll elems + uptoBulkAll spare + 1
  | .agg parts => uptoBulkAll parts + 1
  | .iface _ d => uptoBulk d + 1
  | .map entries => uptoBulkEntries entries + 1
  | .held _ => 1
def uptoBulkAll {H : Type} : List (DataW H) → Nat
  | [] => 0
  | d :: r => uptoBulk d + uptoBulkAll r
def uptoBulkEntries {H : Type} : List (Lit × DataW H) → Nat
  | [] => 0
  | x :: r => uptoBulkEntry x + uptoBulkEntries r
def uptoBulkEntry {H : Type} : Lit × DataW H → Nat
  | (.string bytes, d) => bytes.length + uptoBulk d + 1
  | (_, d) => uptoBulk d + 1
 end
def uptoSmall : (H : Type) → List (DataW H) → Bool := fun _ ds => decide (uptoBulkAll ds ≤ 1048576)
def OpenSpec.upto (s : _root_.Go.ChangeSpec) : _root_.Go.OpenSpec := { _root_.Go.OpenSpec.ofChange s with cond := some uptoSmall }

/-- 'laws.FnExactBlockedAt', WHERE WHAT IT READS IS OF BULK AT MOST 1048576: true; the input reads as it did. -/
def fnExactBlockedAtUptoRow : OpenClaim := { program := "ytjhloobjbbdmcaj", sum := "d0be89d06605ed6e449f7e0218c6151bb5cf866bc574178665529f12979a024f", func := "loop.example/g00331/laws.FnExactBlockedAt", spec := "fnExactBlockedAt", plainKeys := false, apart := false, narrowed := true }
def FnExactBlockedAtUptoSaid : Prop := fnExactBlockedAtUptoRow.holds Try.pinned (OpenSpec.upto fnExactBlockedAtSpec)

/-- 'laws.FnExactStatusOf', WHERE WHAT IT READS IS OF BULK AT MOST 1048576: true; the input reads as it did. -/
def fnExactStatusOfUptoRow : OpenClaim := { program := "ytjhloobjbbdmcaj", sum := "d0be89d06605ed6e449f7e0218c6151bb5cf866bc574178665529f12979a024f", func := "loop.example/g00331/laws.FnExactStatusOf", spec := "fnExactStatusOf", plainKeys := false, apart := false, narrowed := true }
def FnExactStatusOfUptoSaid : Prop := fnExactStatusOfUptoRow.holds Try.pinned (OpenSpec.upto fnExactStatusOfSpec)

/-- 'laws.FnExactCommitOf', WHERE WHAT IT READS IS OF BULK AT MOST 1048576: true; the input reads as it did. -/
def fnExactCommitOfUptoRow : OpenClaim := { program := "ytjhloobjbbdmcaj", sum := "d0be89d06605ed6e449f7e0218c6151bb5cf866bc574178665529f12979a024f", func := "loop.example/g00331/laws.FnExactCommitOf", spec := "fnExactCommitOf", plainKeys := false, apart := false, narrowed := true }
def FnExactCommitOfUptoSaid : Prop := fnExactCommitOfUptoRow.holds Try.pinned (OpenSpec.upto fnExactCommitOfSpec)

/-- 'laws.FnExactOldestLock', WHERE WHAT IT READS IS OF BULK AT MOST 1048576: true; the input reads as it did. -/
def fnExactOldestLockUptoRow : OpenClaim := { program := "ytjhloobjbbdmcaj", sum := "d0be89d06605ed6e449f7e0218c6151bb5cf866bc574178665529f12979a024f", func := "loop.example/g00331/laws.FnExactOldestLock", spec := "fnExactOldestLock", plainKeys := false, apart := false, narrowed := true }
def FnExactOldestLockUptoSaid : Prop := fnExactOldestLockUptoRow.holds Try.pinned (OpenSpec.upto fnExactOldestLockSpec)

/-- 'laws.FnExactCountWrites', WHERE WHAT IT READS IS OF BULK AT MOST 1048576: true; the input reads as it did. -/
def fnExactCountWritesUptoRow : OpenClaim := { program := "ytjhloobjbbdmcaj", sum := "d0be89d06605ed6e449f7e0218c6151bb5cf866bc574178665529f12979a024f", func := "loop.example/g00331/laws.FnExactCountWrites", spec := "fnExactCountWrites", plainKeys := false, apart := false, narrowed := true }
def FnExactCountWritesUptoSaid : Prop := fnExactCountWritesUptoRow.holds Try.pinned (OpenSpec.upto fnExactCountWritesSpec)

end Rows
end Go.Proofs.Ytjhloobjbbdmcaj
