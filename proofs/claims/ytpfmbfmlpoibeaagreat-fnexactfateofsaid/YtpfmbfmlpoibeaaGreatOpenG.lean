/-
  Own text, merged of OpenS, OpenG.
-/
import Derived.Test.YtpfmbfmlpoibeaaGreatRows
import Derived.WalkKit
import Derived.ProofKit
import Derived.OpenShut
import Derived.Test.YtpfmbfmlpoibeaaGreatColsO
import Derived.Test.YtpfmbfmlpoibeaaGreatGrpC
namespace Go.Proofs.YtpfmbfmlpoibeaaGreat
section
open Go.ChangeShapes Go.WideShapes Go.ChangeAt Go.RowKit Go.Joins
-- Own text. A store that came in, opened: three rows of whole numbers, each of which fits.
set_option maxRecDepth 100000 in
/-- A store that came in, opened. -/
theorem open_store {H : Type} {enc : TypeId × Value → H} {W : World} {base : Nat} {v : Value} {d : DataW H} {p : List MemPlace} (hv : Value.okWide Tryz.prog W .any base 151 v) (h : DataW.Trod enc Tryz.prog W 0 (fun _ => true) true 151 v d p) :
    ∃ S v0 v1 v2, v = .agg #[v0, v1, v2] ∧ St W 0 S v0 v1 v2 ∧ S.nc ≤ 9223372036854775807 ∧ S.nl ≤ 9223372036854775807 ∧ S.nw ≤ 9223372036854775807 ∧ (∀ p, (Lit.int .i64 (S.c p)).wf = true) ∧ (∀ p, (Lit.int .i64 (S.l p)).wf = true) ∧ ∀ p, (Lit.int .i64 (S.k p)).wf = true := by
  obtain ⟨v0, v1, v2, y0, y1, y2, n, rfl, _, _, t0, t1, t2⟩ := open_agg3 Tryz.underlying151 (by kernel_rfl) (by kernel_rfl) hv h
  obtain ⟨n0, F0, r0, l0, f0⟩ := open_row (m := 3) Tryz.underlying147 Tryz.underlying213 (by kernel_rfl) (by decide) rfl (fun j f hf => by
    match j, hf with
    | 0, hf => cases hf; exact ⟨rfl, by kernel_rfl, Tryz.underlying2⟩
    | 1, hf => cases hf; exact ⟨rfl, by kernel_rfl, Tryz.underlying2⟩
    | 2, hf => cases hf; exact ⟨rfl, by kernel_rfl, Tryz.underlying2⟩) t0
  obtain ⟨n1, F1, r1, l1, f1⟩ := open_row (m := 5) Tryz.underlying148 Tryz.underlying215 (by kernel_rfl) (by decide) rfl (fun j f hf => by
    match j, hf with
    | 0, hf => cases hf; exact ⟨rfl, by kernel_rfl, Tryz.underlying2⟩
    | 1, hf => cases hf; exact ⟨rfl, by kernel_rfl, Tryz.underlying2⟩
    | 2, hf => cases hf; exact ⟨rfl, by kernel_rfl, Tryz.underlying2⟩
    | 3, hf => cases hf; exact ⟨rfl, by kernel_rfl, Tryz.underlying2⟩
    | 4, hf => cases hf; exact ⟨rfl, by kernel_rfl, Tryz.underlying2⟩) t1
  obtain ⟨n2, F2, r2, l2, f2⟩ := open_row (m := 4) Tryz.underlying149 Tryz.underlying217 (by kernel_rfl) (by decide) rfl (fun j f hf => by
    match j, hf with
    | 0, hf => cases hf; exact ⟨rfl, by kernel_rfl, Tryz.underlying2⟩
    | 1, hf => cases hf; exact ⟨rfl, by kernel_rfl, Tryz.underlying2⟩
    | 2, hf => cases hf; exact ⟨rfl, by kernel_rfl, Tryz.underlying2⟩
    | 3, hf => cases hf; exact ⟨rfl, by kernel_rfl, Tryz.underlying2⟩) t2
  exact ⟨⟨n0, F0, n1, F1, n2, F2⟩, v0, v1, v2, rfl, ⟨r0, r1, r2⟩, by simpa [maxLen] using l0, by simpa [maxLen] using l1, by simpa [maxLen] using l2, f0, f1, f2⟩
end

section
open Go.ChangeShapes Go.WideShapes Go.ChangeAt Go.RowKit Go.Joins Go.Deep
-- Own text. Groups that came in, opened: a row of ranges and a row of stores.
instance : Inhabited Sto := ⟨⟨0, fun _ => 0, 0, fun _ => 0, 0, fun _ => 0⟩⟩
set_option maxRecDepth 100000 in
theorem open_stos {H : Type} {enc : TypeId × Value → H} {w : World} {base : Nat} {spare : Nat → Bool} {held : Bool} {fuel : Nat} {v : Value} {x : DataW H × List MemPlace}
    (h : DataW.trod enc Tryz.prog w base spare held fuel 48 [v] = some x) :
    ∃ n S V, Stos w base n S V v ∧ n ≤ maxLen ∧ ∀ i, i < n → (S i).nc ≤ maxLen ∧ (S i).nl ≤ maxLen ∧ (S i).nw ≤ maxLen := by
  rcases open_slice Tryz.underlying48 h with ⟨h0, _⟩ | ⟨a, len, cap, q, n, D, Pl, hv, hb, hl, hm, hmm, rfl, hx⟩
  · simp only [List.cons.injEq, and_true] at h0
    subst h0
    exact ⟨0, fun _ => default, fun _ _ => .bool true, ⟨⟨_, _, rfl, fun h => absurd h (Nat.lt_irrefl 0)⟩, fun i hi => absurd hi (Nat.not_lt_zero i)⟩, Nat.zero_le _, fun i hi => absurd hi (Nat.not_lt_zero i)⟩
  simp only [List.cons.injEq, and_true] at hv
  subst hv
  have hlq : len ≤ q := by rw [hmm]; split <;> omega
  have hce : Tryz.prog.cellsOf 151 = 3 := by kernel_rfl
  have each : ∀ i, i < len → ∃ y : Sto × (Nat → Value), ((w.cell? (a.add (i * 3)) = some (y.2 0) ∧ w.cell? (a.add (i * 3 + 1)) = some (y.2 1) ∧ w.cell? (a.add (i * 3 + 2)) = some (y.2 2)) ∧ St w base y.1 (y.2 0) (y.2 1) (y.2 2)) ∧ y.1.nc ≤ maxLen ∧ y.1.nl ≤ maxLen ∧ y.1.nw ≤ maxLen := by
    intro i hi
    obtain ⟨cs', h1, h2⟩ := hx i (by omega)
    rw [hce] at h1
    obtain ⟨_, hlen, hcell⟩ := World.cells?_some h1
    obtain ⟨xs, k, hk, hxy, _, hxl, hf⟩ := DataW.trod_struct Tryz.underlying151 h2
    match cs', hlen with
    | [u0, u1, u2], _ =>
      have t0 : DataW.trod enc Tryz.prog w base spare held k 147 (List.take (Tryz.prog.cellsOf 147) (List.drop 0 [u0, u1, u2])) = xs[0]? := hf 0 _ rfl
      have t1 : DataW.trod enc Tryz.prog w base spare held k 148 (List.take (Tryz.prog.cellsOf 148) (List.drop 1 [u0, u1, u2])) = xs[1]? := hf 1 _ rfl
      have t2 : DataW.trod enc Tryz.prog w base spare held k 149 (List.take (Tryz.prog.cellsOf 149) (List.drop 2 [u0, u1, u2])) = xs[2]? := hf 2 _ rfl
      rw [show Tryz.prog.cellsOf 147 = 1 by kernel_rfl] at t0
      rw [show Tryz.prog.cellsOf 148 = 1 by kernel_rfl] at t1
      rw [show Tryz.prog.cellsOf 149 = 1 by kernel_rfl] at t2
      simp only [List.drop_zero, List.drop_succ_cons, List.take_succ_cons, List.take_zero] at t0 t1 t2
      obtain ⟨z0, hz0⟩ : ∃ z, xs[0]? = some z := ⟨xs[0]'(by rw [hxl]; decide), by simp⟩
      obtain ⟨z1, hz1⟩ : ∃ z, xs[1]? = some z := ⟨xs[1]'(by rw [hxl]; decide), by simp⟩
      obtain ⟨z2, hz2⟩ : ∃ z, xs[2]? = some z := ⟨xs[2]'(by rw [hxl]; decide), by simp⟩
      rw [hz0] at t0
      rw [hz1] at t1
      rw [hz2] at t2
      obtain ⟨n0, F0, r0, l0, _⟩ := open_row (m := 3) Tryz.underlying147 Tryz.underlying213 (by kernel_rfl) (by decide) rfl (fun j f hf => by
        match j, hf with
        | 0, hf => cases hf; exact ⟨rfl, by kernel_rfl, Tryz.underlying2⟩
        | 1, hf => cases hf; exact ⟨rfl, by kernel_rfl, Tryz.underlying2⟩
        | 2, hf => cases hf; exact ⟨rfl, by kernel_rfl, Tryz.underlying2⟩) t0
      obtain ⟨n1, F1, r1, l1, _⟩ := open_row (m := 5) Tryz.underlying148 Tryz.underlying215 (by kernel_rfl) (by decide) rfl (fun j f hf => by
        match j, hf with
        | 0, hf => cases hf; exact ⟨rfl, by kernel_rfl, Tryz.underlying2⟩
        | 1, hf => cases hf; exact ⟨rfl, by kernel_rfl, Tryz.underlying2⟩
        | 2, hf => cases hf; exact ⟨rfl, by kernel_rfl, Tryz.underlying2⟩
        | 3, hf => cases hf; exact ⟨rfl, by kernel_rfl, Tryz.underlying2⟩
        | 4, hf => cases hf; exact ⟨rfl, by kernel_rfl, Tryz.underlying2⟩) t1
      obtain ⟨n2, F2, r2, l2, _⟩ := open_row (m := 4) Tryz.underlying149 Tryz.underlying217 (by kernel_rfl) (by decide) rfl (fun j f hf => by
        match j, hf with
        | 0, hf => cases hf; exact ⟨rfl, by kernel_rfl, Tryz.underlying2⟩
        | 1, hf => cases hf; exact ⟨rfl, by kernel_rfl, Tryz.underlying2⟩
        | 2, hf => cases hf; exact ⟨rfl, by kernel_rfl, Tryz.underlying2⟩
        | 3, hf => cases hf; exact ⟨rfl, by kernel_rfl, Tryz.underlying2⟩) t2
      have e0 := hcell 0 (by decide)
      have e1 := hcell 1 (by decide)
      have e2 := hcell 2 (by decide)
      rw [add_add] at e0 e1 e2
      refine ⟨(⟨n0, F0, n1, F1, n2, F2⟩, fun j => if j = 0 then u0 else if j = 1 then u1 else u2), ⟨⟨?_, ?_, ?_⟩, r0, r1, r2⟩, l0, l1, l2⟩
      · exact e0
      · exact e1
      · exact e2
  obtain ⟨Y, hY⟩ := choose_lt (α := Sto × (Nat → Value)) each
  refine ⟨len, fun i => (Y i).1, fun i j => (Y i).2 j, ⟨⟨_, _, rfl, fun hn => ?_⟩, fun i hi => (hY i hi).1.2⟩, Nat.le_trans hl hm, fun i hi => (hY i hi).2⟩
  obtain ⟨b, o, s⟩ := a
  have h0 := (hY 0 hn).1.1.1
  obtain rfl : s = none := by simpa [Addr.add] using World.cell?_spot h0
  refine ⟨b, o, rfl, hb, World.block_lt_of_cell? w _ h0, fun i hi => ?_⟩
  obtain ⟨c0, c1, c2⟩ := (hY i hi).1.1
  rw [WideShapes.add_plain] at c0 c1 c2
  exact ⟨c0, c1, c2⟩
set_option maxRecDepth 100000 in
/-- Groups that came in, opened. -/
theorem open_groups {H : Type} {enc : TypeId × Value → H} {W : World} {base : Nat} {v : Value} {d : DataW H} {p : List MemPlace} (hv : Value.okWide Tryz.prog W .any base 50 v) (h : DataW.Trod enc Tryz.prog W 0 (fun _ => true) true 50 v d p) :
    ∃ nr F n S V vr vs, v = .agg #[vr, vs] ∧ Grs W 0 nr F n S V vr vs ∧ nr ≤ 9223372036854775807 ∧ n ≤ 9223372036854775807 ∧ ∀ i, i < n → BigS (S i) := by
  obtain ⟨v0, v1, y0, y1, m, rfl, _, _, t0, t1⟩ := open_agg2 Tryz.underlying50 (by kernel_rfl) (by kernel_rfl) hv h
  obtain ⟨nr, F, r0, l0, _⟩ := open_row (m := 3) Tryz.underlying47 Tryz.underlying154 (by kernel_rfl) (by decide) rfl (fun j f hf => by
    match j, hf with
    | 0, hf => cases hf; exact ⟨rfl, by kernel_rfl, Tryz.underlying2⟩
    | 1, hf => cases hf; exact ⟨rfl, by kernel_rfl, Tryz.underlying2⟩
    | 2, hf => cases hf; exact ⟨rfl, by kernel_rfl, Tryz.underlying2⟩) t0
  obtain ⟨n, S, V, s1, l1, ls⟩ := open_stos t1
  exact ⟨nr, F, n, S, V, v0, v1, rfl, ⟨r0, s1⟩, by simpa [maxLen] using l0, by simpa [maxLen] using l1, fun i hi => by
    obtain ⟨h0, h1, h2⟩ := ls i hi
    exact ⟨by simpa [maxLen] using h0, by simpa [maxLen] using h1, by simpa [maxLen] using h2⟩⟩
end
end Go.Proofs.YtpfmbfmlpoibeaaGreat
