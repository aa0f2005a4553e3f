/-
  Own text. The walks of the laws FnExactSplitRange and FnExactMergeRange: over every row of ranges and every number they return true and turn nothing that was there.
-/
import Derived.Test.YtabenplbibhbiaaRngM
import Derived.Test.YtabenplbibhbiaaRngL
namespace Go.Proofs.Ytabenplbibhbiaa
open Go.RowKit

theorem exactSplitRange_walk (v : Value) (n : Nat) (F : Nat → Int) (a : Int) (w : World) (h : Row w 0 3 n F v) (hn : n ≤ 9223372036854775807) (hF : ∀ p, (Lit.int .i64 (F p)).wf = true) (ha : (Lit.int .i64 a).wf = true) :
    Calls Try.prog 7 #[v, .int .i64 a] w fun e w' => e = .returned (.bool true) ∧ Below w.heap.size w w' := by
  refine exactSplitRange_over v n F a w h hn hF ha (fun hb => ?_)
  obtain ⟨c, m, G, hm, hA⟩ := SplitAns.get n F a
  exact ⟨c, m, G, hm, fun yo yc x hx hc => specSplit_is yo yc 0 n F a c m G x hx hc hb hA, fun yo yc x hx _ => implSplit_is yo yc 0 n F a c m G x hx hb hA⟩
theorem exactMergeRange_walk (v : Value) (n : Nat) (F : Nat → Int) (a : Int) (w : World) (h : Row w 0 3 n F v) (hn : n ≤ 9223372036854775807) (hF : ∀ p, (Lit.int .i64 (F p)).wf = true) (ha : (Lit.int .i64 a).wf = true) :
    Calls Try.prog 8 #[v, .int .i64 a] w fun e w' => e = .returned (.bool true) ∧ Below w.heap.size w w' := by
  refine exactMergeRange_over v n F a w h hn hF ha (fun hb => ?_)
  obtain ⟨c, m, G, hm, hA⟩ := MergeAns.get n F a
  exact ⟨c, m, G, hm, fun yo yc x hx hc => specMerge_is yo yc 0 n F a c m G x hx hc hb hA, fun yo yc x hx _ => implMerge_is yo yc 0 n F a c m G x hx hb hA⟩
end Go.Proofs.Ytabenplbibhbiaa
