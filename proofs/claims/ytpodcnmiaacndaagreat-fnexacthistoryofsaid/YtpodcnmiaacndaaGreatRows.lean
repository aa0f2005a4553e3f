/-
  No cell of these rows narrows 'for every input' (looked for: loops, veiled, ifaces, maps, wideKeys, modest, calm, conditions, laid).
  DERIVED. THE GIVEN ROWS OF THIS SEAT. 4 by the template 'for every input the law returns true; each argument reads behind the call as it read before'; 0 by the template 'total and deterministic' (their statements: YtpodcnmiaacndaaGreatTotals.lean).
  GIVEN WITH THE SEED: the statements are not yours to turn. If you find one false, say at which input.
  Laid BY PROGRAM, IN A SANDBOX (cutbox-rows.mjs): the forced cells as the released guide's own fill.sh prints them over the translation 08986ebb68ed0860… (all of the seat's roots in one cut). By AI agents, Wed Nov 11 2026. No macro, syntax, notation, axiom, sorry.
-/
import Derived.Test.YtpodcnmiaacndaaGreatChecked
import GoSem.Claim
import GoSem.ClaimJoined
import GoSem.ClaimMapViews
import Derived.JoinedTies
import Derived.KernelRfl
namespace Go.Proofs.YtpodcnmiaacndaaGreat
/- THE CELL 'sum', in the pinned program and in every row, IS THE sha256 OF THE DUMP (.gsa) THAT YtpodcnmiaacndaaGreatProg.lean LOADS. Nothing in Lean hashes anything: it is a label: what it is worth is what the hold of that sum in a sandbox is worth. -/
noncomputable def Tryz.pinned : Pinned := { name := "ytpodcnmiaacndaagreat", sum := "08986ebb68ed086061bdf024fbd8b2c0de6de53da569d144a9bc6d49d08f4644", checked := Tryz.checked }
namespace Rows
def none {H : Type} : Left H := { results := [], args := [] }

/-- 'laws.FnExactFsWorldFault': WHATEVER THE INPUT: true; the input reads as it did. -/
def fnExactFsWorldFaultSpec : ChangeSpec := { name := "fnExactFsWorldFault", fn := fun _ => fun
  | [d] => { results := [.lit (.bool true)], args := [d] }
  | _ => none }
def fnExactFsWorldFaultRow : OpenClaim := { program := "ytpodcnmiaacndaagreat", sum := "08986ebb68ed086061bdf024fbd8b2c0de6de53da569d144a9bc6d49d08f4644", func := "loop.example/g00331/laws.FnExactFsWorldFault", spec := "fnExactFsWorldFault", unfollowed := true, recurses := true, plainKeys := false, apart := false }
def FnExactFsWorldFaultSaid : Prop := fnExactFsWorldFaultRow.holds Tryz.pinned (OpenSpec.ofChange fnExactFsWorldFaultSpec)

/-- ITS FALSE NEIGHBOUR: 'it returns false'. Refute it at one input. -/
def fnExactFsWorldFaultWrong : ChangeSpec := { name := "fnExactFsWorldFault", fn := fun _ => fun
  | [d] => { results := [.lit (.bool false)], args := [d] }
  | _ => none }
def FnExactFsWorldFaultWrongFalsely : Prop := fnExactFsWorldFaultRow.holds Tryz.pinned (OpenSpec.ofChange fnExactFsWorldFaultWrong)

/-- 'laws.FnExactHistoryOf': WHATEVER THE INPUT: true; the input reads as it did. -/
def fnExactHistoryOfSpec : ChangeSpec := { name := "fnExactHistoryOf", fn := fun _ => fun
  | [d] => { results := [.lit (.bool true)], args := [d] }
  | _ => none }
def fnExactHistoryOfRow : OpenClaim := { program := "ytpodcnmiaacndaagreat", sum := "08986ebb68ed086061bdf024fbd8b2c0de6de53da569d144a9bc6d49d08f4644", func := "loop.example/g00331/laws.FnExactHistoryOf", spec := "fnExactHistoryOf", inPlace := ["slices.overlaps[loop.example/g00331/impl.Done]"], unfollowed := true, recurses := true, plainKeys := false, apart := false }
def FnExactHistoryOfSaid : Prop := fnExactHistoryOfRow.holds Tryz.pinned (OpenSpec.ofChange fnExactHistoryOfSpec)

/-- ITS FALSE NEIGHBOUR: 'it returns false'. Refute it at one input. -/
def fnExactHistoryOfWrong : ChangeSpec := { name := "fnExactHistoryOf", fn := fun _ => fun
  | [d] => { results := [.lit (.bool false)], args := [d] }
  | _ => none }
def FnExactHistoryOfWrongFalsely : Prop := fnExactHistoryOfRow.holds Tryz.pinned (OpenSpec.ofChange fnExactHistoryOfWrong)

/-- 'laws.FnExactHistoryRight': WHATEVER THE INPUT: true; the input reads as it did. -/
def fnExactHistoryRightSpec : ChangeSpec := { name := "fnExactHistoryRight", fn := fun _ => fun
  | [d] => { results := [.lit (.bool true)], args := [d] }
  | _ => none }
def fnExactHistoryRightRow : OpenClaim := { program := "ytpodcnmiaacndaagreat", sum := "08986ebb68ed086061bdf024fbd8b2c0de6de53da569d144a9bc6d49d08f4644", func := "loop.example/g00331/laws.FnExactHistoryRight", spec := "fnExactHistoryRight", inPlace := ["slices.overlaps[loop.example/g00331/impl.Pair]", "slices.overlaps[loop.example/g00331/impl.Done]"], unfollowed := true, recurses := true, plainKeys := false, apart := false }
def FnExactHistoryRightSaid : Prop := fnExactHistoryRightRow.holds Tryz.pinned (OpenSpec.ofChange fnExactHistoryRightSpec)

/-- ITS FALSE NEIGHBOUR: 'it returns false'. Refute it at one input. -/
def fnExactHistoryRightWrong : ChangeSpec := { name := "fnExactHistoryRight", fn := fun _ => fun
  | [d] => { results := [.lit (.bool false)], args := [d] }
  | _ => none }
def FnExactHistoryRightWrongFalsely : Prop := fnExactHistoryRightRow.holds Tryz.pinned (OpenSpec.ofChange fnExactHistoryRightWrong)

/-- 'laws.FnExactViewOf': WHATEVER THE INPUT: true; the input reads as it did. -/
def fnExactViewOfSpec : ChangeSpec := { name := "fnExactViewOf", fn := fun _ => fun
  | [d] => { results := [.lit (.bool true)], args := [d] }
  | _ => none }
def fnExactViewOfRow : OpenClaim := { program := "ytpodcnmiaacndaagreat", sum := "08986ebb68ed086061bdf024fbd8b2c0de6de53da569d144a9bc6d49d08f4644", func := "loop.example/g00331/laws.FnExactViewOf", spec := "fnExactViewOf", inPlace := ["slices.overlaps[loop.example/g00331/impl.Pair]", "slices.overlaps[loop.example/g00331/impl.Done]"], unfollowed := true, recurses := true, plainKeys := false, apart := false }
def FnExactViewOfSaid : Prop := fnExactViewOfRow.holds Tryz.pinned (OpenSpec.ofChange fnExactViewOfSpec)

/-- ITS FALSE NEIGHBOUR: 'it returns false'. Refute it at one input. -/
def fnExactViewOfWrong : ChangeSpec := { name := "fnExactViewOf", fn := fun _ => fun
  | [d] => { results := [.lit (.bool false)], args := [d] }
  | _ => none }
def FnExactViewOfWrongFalsely : Prop := fnExactViewOfRow.holds Tryz.pinned (OpenSpec.ofChange fnExactViewOfWrong)

/- THE SECOND FORM. 'bulk': how many values and letters a reading holds, each counted each time it is reached (what is shared counts as often as it is met; a slice's spare places count too). A statement '..UptoSaid' is the law's where the arguments, and the package variables that the reading takes, are together of bulk at most 1048576: NARROWER than '..Said'. Prove '..Said' where nothing that the law and all that it calls make is longer than what came in: it says more and counts as full. Else prove '..UptoSaid'. A law counts once. -/
mutual
def uptoBulk {H : Type} : DataW H → Nat
  | .lit (.string bytes) => bytes.length + 1
  | .lit _ => 1
  | .nil => 1
  | .ptr d => uptoBulk d + 1
  | .slice elems spare => uptoBulkAll elems + uptoBulkAll spare + 1
  | .agg parts => uptoBulkAll parts + 1
  | .iface _ d => uptoBulk d + 1
  | .map entries => uptoBulkEntries entries + 1
  | .held _ => 1
def uptoBulkAll {H : Type} : List (DataW H) → Nat
  | [] => 0
  | d :: r => uptoBulk d + uptoBulkAll r
def uptoBulkEntries {H : Type} : List (Lit × DataW H) → Nat
  | [] => 0
  | x :: r => uptoBulkEntry x + uptoBulkEntries r
def uptoBulkEntry {H : Type} : Lit × DataW H → Nat
  | (.string bytes, d) => bytes.length + uptoBulk d + 1
  | (_, d) => uptoBulk d + 1
 end
def uptoSmall : (H : Type) → List (DataW H) → Bool := fun _ ds => decide (uptoBulkAll ds ≤ 1048576)
def OpenSpec.upto (s : _root_.Go.ChangeSpec) : _root_.Go.OpenSpec := { _root_.Go.OpenSpec.ofChange s with cond := some uptoSmall }

/-- 'laws.FnExactFsWorldFault', WHERE WHAT IT READS IS OF BULK AT MOST 1048576: true; the input reads as it did. -/
def fnExactFsWorldFaultUptoRow : OpenClaim := { program := "ytpodcnmiaacndaagreat", sum := "08986ebb68ed086061bdf024fbd8b2c0de6de53da569d144a9bc6d49d08f4644", func := "loop.example/g00331/laws.FnExactFsWorldFault", spec := "fnExactFsWorldFault", unfollowed := true, recurses := true, plainKeys := false, apart := false, narrowed := true }
def FnExactFsWorldFaultUptoSaid : Prop := fnExactFsWorldFaultUptoRow.holds Tryz.pinned (OpenSpec.upto fnExactFsWorldFaultSpec)

/-- 'laws.FnExactHistoryOf', WHERE WHAT IT READS IS OF BULK AT MOST 1048576: true; the input reads as it did. -/
def fnExactHistoryOfUptoRow : OpenClaim := { program := "ytpodcnmiaacndaagreat", sum := "08986ebb68ed086061bdf024fbd8b2c0de6de53da569d144a9bc6d49d08f4644", func := "loop.example/g00331/laws.FnExactHistoryOf", spec := "fnExactHistoryOf", inPlace := ["slices.overlaps[loop.example/g00331/impl.Done]"], unfollowed := true, recurses := true, plainKeys := false, apart := false, narrowed := true }
def FnExactHistoryOfUptoSaid : Prop := fnExactHistoryOfUptoRow.holds Tryz.pinned (OpenSpec.upto fnExactHistoryOfSpec)

/-- 'laws.FnExactHistoryRight', WHERE WHAT IT READS IS OF BULK AT MOST 1048576: true; the input reads as it did. -/
def fnExactHistoryRightUptoRow : OpenClaim := { program := "ytpodcnmiaacndaagreat", sum := "08986ebb68ed086061bdf024fbd8b2c0de6de53da569d144a9bc6d49d08f4644", func := "loop.example/g00331/laws.FnExactHistoryRight", spec := "fnExactHistoryRight", inPlace := ["slices.overlaps[loop.example/g00331/impl.Pair]", "slices.overlaps[loop.example/g00331/impl.Done]"], unfollowed := true, recurses := true, plainKeys := false, apart := false, narrowed := true }
def FnExactHistoryRightUptoSaid : Prop := fnExactHistoryRightUptoRow.holds Tryz.pinned (OpenSpec.upto fnExactHistoryRightSpec)

/-- 'laws.FnExactViewOf', WHERE WHAT IT READS IS OF BULK AT MOST 1048576: true; the input reads as it did. -/
def fnExactViewOfUptoRow : OpenClaim := { program := "ytpodcnmiaacndaagreat", sum := "08986ebb68ed086061bdf024fbd8b2c0de6de53da569d144a9bc6d49d08f4644", func := "loop.example/g00331/laws.FnExactViewOf", spec := "fnExactViewOf", inPlace := ["slices.overlaps[loop.example/g00331/impl.Pair]", "slices.overlaps[loop.example/g00331/impl.Done]"], unfollowed := true, recurses := true, plainKeys := false, apart := false, narrowed := true }
def FnExactViewOfUptoSaid : Prop := fnExactViewOfUptoRow.holds Tryz.pinned (OpenSpec.upto fnExactViewOfSpec)

end Rows
end Go.Proofs.YtpodcnmiaacndaaGreat
