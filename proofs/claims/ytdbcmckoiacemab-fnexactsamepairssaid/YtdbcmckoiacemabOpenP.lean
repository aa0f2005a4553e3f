/-
  Own text. A slice of pairs that came in, opened: a row of whole numbers, each of which fits.
-/
import Derived.Test.YtdbcmckoiacemabOpenU
namespace Go.Proofs.Ytdbcmckoiacemab
open Go.ChangeShapes Go.WideShapes Go.ChangeAt Go.RowKit Go.Joins Go.Deep

set_option maxRecDepth 100000 in
/-- Pairs that came in, opened. -/
theorem open_pairs {H : Type} {enc : TypeId × Value → H} {W : World} {base : Nat} {v : Value} {d : DataW H} {p : List MemPlace} (hv : Value.okWide Try.prog W .any base 22 v) (h : DataW.Trod enc Try.prog W 0 (fun _ => true) true 22 v d p) :
    ∃ n F, Row W 0 2 n F v ∧ n ≤ 9223372036854775807 ∧ ∀ p, (Lit.int .i64 (F p)).wf = true := by
  obtain ⟨a, l, c, rfl⟩ := okWide_slice Try.underlying22 hv
  obtain ⟨fuel, hf⟩ := h
  have hf' : DataW.trod enc Try.prog W 0 (fun _ => true) true fuel 22 [.slice a l c] = some (d, p) := by simpa [Value.cells] using hf
  obtain ⟨n, F, r, b, f⟩ := open_row (m := 2) Try.underlying22 Try.underlying31 (by kernel_rfl) (by decide) rfl (fun j f hf => by
    match j, hf with
    | 0, hf => cases hf; exact ⟨rfl, by kernel_rfl, Try.underlying2⟩
    | 1, hf => cases hf; exact ⟨rfl, by kernel_rfl, Try.underlying2⟩) hf'
  exact ⟨n, F, r, by simpa [maxLen] using b, f⟩
end Go.Proofs.Ytdbcmckoiacemab
