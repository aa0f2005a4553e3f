/-
  What is proved: at every two stores the law FnExactJoinStores returns true, which says that impl.JoinStores answers as spec.JoinStores, leaves its arguments as they were, and that its answer owns its memory; no condition.
-/
import Derived.Test.YtknbeggnlhiamaaGreatRows
import Derived.WalkKit
import Derived.ProofKit
import Derived.OpenShut
import Derived.ShutString
import Derived.Test.YtknbeggnlhiamaaGreatPk7
namespace Go.Proofs.YtknbeggnlhiamaaGreat.fnExactJoinStores
open Go.ChangeShapes Go.WideShapes Go.ChangeAt Go.RowKit Go.Joins
set_option linter.unusedVariables false

theorem own : ownKnob Tryz.prog.godebug = none := by kernel_rfl
theorem laid : laidOutB Tryz.prog = true := by kernel_rfl

set_option maxRecDepth 100000 in
/-- A store that came in, opened. -/
theorem open_store {H : Type} {enc : TypeId × Value → H} {W : World} {base : Nat} {v : Value} {d : DataW H} {p : List MemPlace} (hv : Value.okWide Tryz.prog W .any base 26 v) (h : DataW.Trod enc Tryz.prog W 0 (fun _ => true) true 26 v d p) :
    ∃ S v0 v1 v2, v = .agg #[v0, v1, v2] ∧ St W 0 S v0 v1 v2 ∧ S.nc ≤ 9223372036854775807 ∧ S.nl ≤ 9223372036854775807 ∧ S.nw ≤ 9223372036854775807 := by
  obtain ⟨v0, v1, v2, y0, y1, y2, n, rfl, _, _, t0, t1, t2⟩ := open_agg3 Tryz.underlying26 (by kernel_rfl) (by kernel_rfl) hv h
  obtain ⟨n0, F0, r0, l0, _⟩ := open_row (m := 3) Tryz.underlying22 Tryz.underlying70 (by kernel_rfl) (by decide) rfl (fun j f hf => by
    match j, hf with
    | 0, hf => cases hf; exact ⟨rfl, by kernel_rfl, Tryz.underlying2⟩
    | 1, hf => cases hf; exact ⟨rfl, by kernel_rfl, Tryz.underlying2⟩
    | 2, hf => cases hf; exact ⟨rfl, by kernel_rfl, Tryz.underlying2⟩) t0
  obtain ⟨n1, F1, r1, l1, _⟩ := open_row (m := 5) Tryz.underlying23 Tryz.underlying72 (by kernel_rfl) (by decide) rfl (fun j f hf => by
    match j, hf with
    | 0, hf => cases hf; exact ⟨rfl, by kernel_rfl, Tryz.underlying2⟩
    | 1, hf => cases hf; exact ⟨rfl, by kernel_rfl, Tryz.underlying2⟩
    | 2, hf => cases hf; exact ⟨rfl, by kernel_rfl, Tryz.underlying2⟩
    | 3, hf => cases hf; exact ⟨rfl, by kernel_rfl, Tryz.underlying2⟩
    | 4, hf => cases hf; exact ⟨rfl, by kernel_rfl, Tryz.underlying2⟩) t1
  obtain ⟨n2, F2, r2, l2, _⟩ := open_row (m := 4) Tryz.underlying24 Tryz.underlying74 (by kernel_rfl) (by decide) rfl (fun j f hf => by
    match j, hf with
    | 0, hf => cases hf; exact ⟨rfl, by kernel_rfl, Tryz.underlying2⟩
    | 1, hf => cases hf; exact ⟨rfl, by kernel_rfl, Tryz.underlying2⟩
    | 2, hf => cases hf; exact ⟨rfl, by kernel_rfl, Tryz.underlying2⟩
    | 3, hf => cases hf; exact ⟨rfl, by kernel_rfl, Tryz.underlying2⟩) t2
  exact ⟨⟨n0, F0, n1, F1, n2, F2⟩, v0, v1, v2, rfl, ⟨r0, r1, r2⟩, by simpa [maxLen] using l0, by simpa [maxLen] using l1, by simpa [maxLen] using l2⟩

set_option maxRecDepth 100000 in
theorem lifted (os : Os) (started : os.Started) (H : Type) (enc : TypeId × Value → H) :
    ReturnsInHanded {} Tryz.checked os 3 .any (Rows.fnExactJoinStoresSpec.pre6 enc Tryz.prog Tryz.f3 Rows.fnExactJoinStoresRow.domain false) (Rows.fnExactJoinStoresSpec.post enc Tryz.prog Tryz.f3 false true false false) := by
  refine returnsInHanded_of_change (C := Tryz.checked) own started (by kernel_rfl) Tryz.func3
    (ChangeSpec.witness6 (enc := enc) (C := Tryz.checked) false ⟨#[], #[.agg #[.slice none 0 0, .slice none 0 0, .slice none 0 0], .agg #[.slice none 0 0, .slice none 0 0, .slice none 0 0]], []⟩ 8 (by kernel_rfl) (by kernel_rfl) (by kernel_rfl) (by kernel_rfl)) ?_
  intro W base args ds gs before hval0 hW hcnd _
  have hval : ∀ (j : Nat) t v, Tryz.f3.params[j]? = some t → args[j]? = some v → Value.okWide Tryz.prog W .any base t v := hval0
  have hW' := hW
  obtain ⟨p, q, hA0, hV, rfl, hfz, hnd⟩ := hW
  have hA : DataW.TrodAll enc Tryz.prog W 0 (fun _ => true) true Tryz.f3.params.toList args.toList ds p := hA0
  rw [Tryz.params3] at hA hval
  obtain ⟨v0, vs0, d0, ds0, p0, q0, hargs, rfl, rfl, h0, r0⟩ := trodAll_cons hA
  obtain ⟨v1, vs1, d1, ds1, p1, q1, rfl, rfl, rfl, h1, r1⟩ := trodAll_cons r0
  obtain ⟨rfl, rfl, rfl⟩ := trodAll_nil r1
  obtain rfl : args = #[v0, v1] := by cases args; simp_all
  obtain ⟨rfl, rfl⟩ := trodVars_none hV
  obtain ⟨S, a0, a1, a2, rfl, hS, s0, s1, s2⟩ := open_store (hval 0 26 v0 rfl rfl) h0
  obtain ⟨T, b0, b1, b2, rfl, hT, t0, t1, t2⟩ := open_store (hval 1 26 v1 rfl rfl) h1
  clear hA0 hval0
  simp only [List.append_nil] at hW'
  have hlt : ∀ x ∈ p0 ++ p1, x.block < W.heap.size := fun x hx => by simpa using hW'.lt x hx
  refine (exactJoinStores_walk S T a0 a1 a2 b0 b1 b2 W hS hT s0 s1 s2 t0 t1 t2 (join_ans S T)).mono fun e W' ⟨he, hg⟩ => ?_
  subst he
  exact ⟨_, rfl, _, _, _, [], p0 ++ p1, [], hW', (trodAll_cons_mk (shut_bool Tryz.underlying4 _) trodAll_mk0),
    trodAll_mk2 (Below.trod laid (by kernel_rfl) (of_decide_eq_true (by kernel_rfl)) h0 hg (fun x hx => hlt x (List.mem_append_left _ hx))) (Below.trod laid (by kernel_rfl) (of_decide_eq_true (by kernel_rfl)) h1 hg (fun x hx => hlt x (List.mem_append_right _ hx))), rfl, hg.frame _, fun h => by cases h⟩

theorem over : Rows.fnExactJoinStoresRow.holds Tryz.pinned (OpenSpec.ofChange Rows.fnExactJoinStoresSpec) :=
  OpenClaim.holds_of_wide 3 Tryz.f3 rfl rfl rfl rfl rfl rfl rfl ⟨rfl, rfl, rfl, rfl, rfl⟩ rfl rfl rfl rfl rfl (by kernel_rfl) Tryz.func3 (by kernel_rfl)
    (of_decide_eq_true (by kernel_rfl)) (by unfold Func.isWrapper; first | (rw [if_pos (by decide +kernel)]; kernel_rfl) | (rw [if_neg (by decide +kernel)]; exact ⟨rfl, rfl⟩))
    (fun os started H enc _ => lifted os started H enc)

theorem proved : Rows.FnExactJoinStoresSaid :=
  over
#print axioms proved
end Go.Proofs.YtknbeggnlhiamaaGreat.fnExactJoinStores
