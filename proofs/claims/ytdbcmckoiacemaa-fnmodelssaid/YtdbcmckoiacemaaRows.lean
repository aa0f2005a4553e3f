/-
  No cell of these rows narrows 'for every input' (looked for: loops, veiled, ifaces, maps, wideKeys, modest, calm, conditions, laid).
  DERIVED. THE GIVEN ROWS OF THIS SEAT. 4 by the template 'for every input the law returns true; each argument reads behind the call as it read before'; 0 by the template 'total and deterministic' (their statements: YtdbcmckoiacemaaTotals.lean).
  GIVEN WITH THE SEED: the statements are not yours to turn. If you find one false, say at which input.
  Laid BY PROGRAM, IN A SANDBOX (cutbox-rows.mjs): the forced cells as the released guide's own fill.sh prints them over the translation d66e15ebc9e3f4f6… (all of the seat's roots in one cut). By AI agents, Wed Nov 11 2026. No macro, syntax, notation, axiom, sorry.
-/
import Derived.Test.YtdbcmckoiacemaaChecked
import GoSem.Claim
import GoSem.ClaimJoined
import GoSem.ClaimMapViews
import Derived.JoinedTies
import Derived.KernelRfl
namespace Go.Proofs.Ytdbcmckoiacemaa
/- THE CELL 'sum', in the pinned program and in every row, IS THE sha256 OF THE DUMP (.gsa) THAT YtdbcmckoiacemaaProg.lean LOADS. Nothing in Lean hashes anything: it is a label: what it is worth is what the hold of that sum in a sandbox is worth. -/
noncomputable def Try.pinned : Pinned := { name := "ytdbcmckoiacemaa", sum := "d66e15ebc9e3f4f6a8c4e997a8b29384f13c8a4b943f65bc4dc4190223871ead", checked := Try.checked }
namespace Rows
def none {H : Type} : Left H := { results := [], args := [] }

/-- 'laws.FnModels': WHATEVER THE INPUT: true; the input reads as it did. -/
def fnModelsSpec : ChangeSpec := { name := "fnModels", fn := fun _ => fun
  | [d] => { results := [.lit (.bool true)], args := [d] }
  | _ => none }
def fnModelsRow : OpenClaim := { program := "ytdbcmckoiacemaa", sum := "d66e15ebc9e3f4f6a8c4e997a8b29384f13c8a4b943f65bc4dc4190223871ead", func := "loop.example/g00331/laws.FnModels", spec := "fnModels", inPlace := ["slices.overlaps[loop.example/g00331/impl.Pair]"], unfollowed := true, recurses := true, apart := false }
def FnModelsSaid : Prop := fnModelsRow.holds Try.pinned (OpenSpec.ofChange fnModelsSpec)

/-- ITS FALSE NEIGHBOUR: 'it returns false'. Refute it at one input. -/
def fnModelsWrong : ChangeSpec := { name := "fnModels", fn := fun _ => fun
  | [d] => { results := [.lit (.bool false)], args := [d] }
  | _ => none }
def FnModelsWrongFalsely : Prop := fnModelsRow.holds Try.pinned (OpenSpec.ofChange fnModelsWrong)

/-- 'laws.FnExactPairsFault': WHATEVER THE INPUT: true; the input reads as it did. -/
def fnExactPairsFaultSpec : ChangeSpec := { name := "fnExactPairsFault", fn := fun _ => fun
  | [d] => { results := [.lit (.bool true)], args := [d] }
  | _ => none }
def fnExactPairsFaultRow : OpenClaim := { program := "ytdbcmckoiacemaa", sum := "d66e15ebc9e3f4f6a8c4e997a8b29384f13c8a4b943f65bc4dc4190223871ead", func := "loop.example/g00331/laws.FnExactPairsFault", spec := "fnExactPairsFault", apart := false }
def FnExactPairsFaultSaid : Prop := fnExactPairsFaultRow.holds Try.pinned (OpenSpec.ofChange fnExactPairsFaultSpec)

/-- ITS FALSE NEIGHBOUR: 'it returns false'. Refute it at one input. -/
def fnExactPairsFaultWrong : ChangeSpec := { name := "fnExactPairsFault", fn := fun _ => fun
  | [d] => { results := [.lit (.bool false)], args := [d] }
  | _ => none }
def FnExactPairsFaultWrongFalsely : Prop := fnExactPairsFaultRow.holds Try.pinned (OpenSpec.ofChange fnExactPairsFaultWrong)

/-- 'laws.FnExactApplyItems': WHATEVER THE INPUT: true; the input reads as it did. -/
def fnExactApplyItemsSpec : ChangeSpec := { name := "fnExactApplyItems", fn := fun _ => fun
  | [d1, d2] => { results := [.lit (.bool true)], args := [d1, d2] }
  | _ => none }
def fnExactApplyItemsRow : OpenClaim := { program := "ytdbcmckoiacemaa", sum := "d66e15ebc9e3f4f6a8c4e997a8b29384f13c8a4b943f65bc4dc4190223871ead", func := "loop.example/g00331/laws.FnExactApplyItems", spec := "fnExactApplyItems", inPlace := ["slices.overlaps[loop.example/g00331/impl.Pair]"], unfollowed := true, recurses := true, apart := false }
def FnExactApplyItemsSaid : Prop := fnExactApplyItemsRow.holds Try.pinned (OpenSpec.ofChange fnExactApplyItemsSpec)

/-- ITS FALSE NEIGHBOUR: 'it returns false'. Refute it at one input. -/
def fnExactApplyItemsWrong : ChangeSpec := { name := "fnExactApplyItems", fn := fun _ => fun
  | [d1, d2] => { results := [.lit (.bool false)], args := [d1, d2] }
  | _ => none }
def FnExactApplyItemsWrongFalsely : Prop := fnExactApplyItemsRow.holds Try.pinned (OpenSpec.ofChange fnExactApplyItemsWrong)

/-- 'laws.FnExactValueIn': WHATEVER THE INPUT: true; the input reads as it did. -/
def fnExactValueInSpec : ChangeSpec := { name := "fnExactValueIn", fn := fun _ => fun
  | [d1, d2] => { results := [.lit (.bool true)], args := [d1, d2] }
  | _ => none }
def fnExactValueInRow : OpenClaim := { program := "ytdbcmckoiacemaa", sum := "d66e15ebc9e3f4f6a8c4e997a8b29384f13c8a4b943f65bc4dc4190223871ead", func := "loop.example/g00331/laws.FnExactValueIn", spec := "fnExactValueIn", inPlace := ["slices.overlaps[loop.example/g00331/impl.Pair]"], unfollowed := true, recurses := true, apart := false }
def FnExactValueInSaid : Prop := fnExactValueInRow.holds Try.pinned (OpenSpec.ofChange fnExactValueInSpec)

/-- ITS FALSE NEIGHBOUR: 'it returns false'. Refute it at one input. -/
def fnExactValueInWrong : ChangeSpec := { name := "fnExactValueIn", fn := fun _ => fun
  | [d1, d2] => { results := [.lit (.bool false)], args := [d1, d2] }
  | _ => none }
def FnExactValueInWrongFalsely : Prop := fnExactValueInRow.holds Try.pinned (OpenSpec.ofChange fnExactValueInWrong)

/- THE SECOND FORM. 'bulk': how many values and letters a reading holds, each counted each time it is reached (what is shared counts as often as it is met; a slice's spare places count too). A statement '..UptoSaid' is the law's where the arguments, and the package variables that the reading takes, are together of bulk at most 1048576: NARROWER than '..Said'. Prove '..Said' where nothing that the law and all that it calls make is longer than what came in: it says more and counts as full. Else prove '..UptoSaid'. A law counts once. -/
mutual
def uptoBulk {H : Type} : DataW H → Nat
  | .lit (.string bytes) => bytes.length + 1
  | .lit _ => 1
  | .nil => 1
  | .ptr d => uptoBulk d + 1
  | .slice elems spare => uptoBulkAll elems + uptoBulkAll spare + 1
  | .agg parts => uptoBulkAll parts + 1
  | .iface _ d => uptoBulk d + 1
  | .map entries => uptoBulkEntries entries + 1
  | .held _ => 1
def uptoBulkAll {H : Type} : List (DataW H) → Nat
  | [] => 0
  | d :: r => uptoBulk d + uptoBulkAll r
def uptoBulkEntries {H : Type} : List (Lit × DataW H) → Nat
  | [] => 0
  | x :: r => uptoBulkEntry x + uptoBulkEntries r
def uptoBulkEntry {H : Type} : Lit × DataW H → Nat
  | (.string bytes, d) => bytes.length + uptoBulk d + 1
  | (_, d) => uptoBulk d + 1
 end
def uptoSmall : (H : Type) → List (DataW H) → Bool := fun _ ds => decide (uptoBulkAll ds ≤ 1048576)
def OpenSpec.upto (s : _root_.Go.ChangeSpec) : _root_.Go.OpenSpec := { _root_.Go.OpenSpec.ofChange s with cond := some uptoSmall }

/-- 'laws.FnModels', WHERE WHAT IT READS IS OF BULK AT MOST 1048576: true; the input reads as it did. -/
def fnModelsUptoRow : OpenClaim := { program := "ytdbcmckoiacemaa", sum := "d66e15ebc9e3f4f6a8c4e997a8b29384f13c8a4b943f65bc4dc4190223871ead", func := "loop.example/g00331/laws.FnModels", spec := "fnModels", inPlace := ["slices.overlaps[loop.example/g00331/impl.Pair]"], unfollowed := true, recurses := true, apart := false, narrowed := true }
def FnModelsUptoSaid : Prop := fnModelsUptoRow.holds Try.pinned (OpenSpec.upto fnModelsSpec)

/-- 'laws.FnExactPairsFault', WHERE WHAT IT READS IS OF BULK AT MOST 1048576: true; the input reads as it did. -/
def fnExactPairsFaultUptoRow : OpenClaim := { program := "ytdbcmckoiacemaa", sum := "d66e15ebc9e3f4f6a8c4e997a8b29384f13c8a4b943f65bc4dc4190223871ead", func := "loop.example/g00331/laws.FnExactPairsFault", spec := "fnExactPairsFault", apart := false, narrowed := true }
def FnExactPairsFaultUptoSaid : Prop := fnExactPairsFaultUptoRow.holds Try.pinned (OpenSpec.upto fnExactPairsFaultSpec)

/-- 'laws.FnExactApplyItems', WHERE WHAT IT READS IS OF BULK AT MOST 1048576: true; the input reads as it did. -/
def fnExactApplyItemsUptoRow : OpenClaim := { program := "ytdbcmckoiacemaa", sum := "d66e15ebc9e3f4f6a8c4e997a8b29384f13c8a4b943f65bc4dc4190223871ead", func := "loop.example/g00331/laws.FnExactApplyItems", spec := "fnExactApplyItems", inPlace := ["slices.overlaps[loop.example/g00331/impl.Pair]"], unfollowed := true, recurses := true, apart := false, narrowed := true }
def FnExactApplyItemsUptoSaid : Prop := fnExactApplyItemsUptoRow.holds Try.pinned (OpenSpec.upto fnExactApplyItemsSpec)

/-- 'laws.FnExactValueIn', WHERE WHAT IT READS IS OF BULK AT MOST 1048576: true; the input reads as it did. -/
def fnExactValueInUptoRow : OpenClaim := { program := "ytdbcmckoiacemaa", sum := "d66e15ebc9e3f4f6a8c4e997a8b29384f13c8a4b943f65bc4dc4190223871ead", func := "loop.example/g00331/laws.FnExactValueIn", spec := "fnExactValueIn", inPlace := ["slices.overlaps[loop.example/g00331/impl.Pair]"], unfollowed := true, recurses := true, apart := false, narrowed := true }
def FnExactValueInUptoSaid : Prop := fnExactValueInUptoRow.holds Try.pinned (OpenSpec.upto fnExactValueInSpec)

end Rows
end Go.Proofs.Ytdbcmckoiacemaa
