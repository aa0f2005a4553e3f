/-
  Own text. A store that came in, opened: three rows of whole numbers, each of which fits.
-/
import Derived.Test.YtkaeolbnafhjaaaGreatRows
import Derived.WalkKit
import Derived.ProofKit
import Derived.OpenShut
import Derived.Test.YtkaeolbnafhjaaaGreatColsO
namespace Go.Proofs.YtkaeolbnafhjaaaGreat
open Go.ChangeShapes Go.WideShapes Go.ChangeAt Go.RowKit Go.Joins

set_option maxRecDepth 100000 in
/-- A store that came in, opened. -/
theorem open_store {H : Type} {enc : TypeId × Value → H} {W : World} {base : Nat} {v : Value} {d : DataW H} {p : List MemPlace} (hv : Value.okWide Tryz.prog W .any base 26 v) (h : DataW.Trod enc Tryz.prog W 0 (fun _ => true) true 26 v d p) :
    ∃ S v0 v1 v2, v = .agg #[v0, v1, v2] ∧ St W 0 S v0 v1 v2 ∧ S.nc ≤ 9223372036854775807 ∧ S.nl ≤ 9223372036854775807 ∧ S.nw ≤ 9223372036854775807 ∧ (∀ p, (Lit.int .i64 (S.c p)).wf = true) ∧ (∀ p, (Lit.int .i64 (S.l p)).wf = true) ∧ ∀ p, (Lit.int .i64 (S.k p)).wf = true := by
  obtain ⟨v0, v1, v2, y0, y1, y2, n, rfl, _, _, t0, t1, t2⟩ := open_agg3 Tryz.underlying26 (by kernel_rfl) (by kernel_rfl) hv h
  obtain ⟨n0, F0, r0, l0, f0⟩ := open_row (m := 3) Tryz.underlying22 Tryz.underlying124 (by kernel_rfl) (by decide) rfl (fun j f hf => by
    match j, hf with
    | 0, hf => cases hf; exact ⟨rfl, by kernel_rfl, Tryz.underlying2⟩
    | 1, hf => cases hf; exact ⟨rfl, by kernel_rfl, Tryz.underlying2⟩
    | 2, hf => cases hf; exact ⟨rfl, by kernel_rfl, Tryz.underlying2⟩) t0
  obtain ⟨n1, F1, r1, l1, f1⟩ := open_row (m := 5) Tryz.underlying23 Tryz.underlying128 (by kernel_rfl) (by decide) rfl (fun j f hf => by
    match j, hf with
    | 0, hf => cases hf; exact ⟨rfl, by kernel_rfl, Tryz.underlying2⟩
    | 1, hf => cases hf; exact ⟨rfl, by kernel_rfl, Tryz.underlying2⟩
    | 2, hf => cases hf; exact ⟨rfl, by kernel_rfl, Tryz.underlying2⟩
    | 3, hf => cases hf; exact ⟨rfl, by kernel_rfl, Tryz.underlying2⟩
    | 4, hf => cases hf; exact ⟨rfl, by kernel_rfl, Tryz.underlying2⟩) t1
  obtain ⟨n2, F2, r2, l2, f2⟩ := open_row (m := 4) Tryz.underlying24 Tryz.underlying132 (by kernel_rfl) (by decide) rfl (fun j f hf => by
    match j, hf with
    | 0, hf => cases hf; exact ⟨rfl, by kernel_rfl, Tryz.underlying2⟩
    | 1, hf => cases hf; exact ⟨rfl, by kernel_rfl, Tryz.underlying2⟩
    | 2, hf => cases hf; exact ⟨rfl, by kernel_rfl, Tryz.underlying2⟩
    | 3, hf => cases hf; exact ⟨rfl, by kernel_rfl, Tryz.underlying2⟩) t2
  exact ⟨⟨n0, F0, n1, F1, n2, F2⟩, v0, v1, v2, rfl, ⟨r0, r1, r2⟩, by simpa [maxLen] using l0, by simpa [maxLen] using l1, by simpa [maxLen] using l2, f0, f1, f2⟩

end Go.Proofs.YtkaeolbnafhjaaaGreat
