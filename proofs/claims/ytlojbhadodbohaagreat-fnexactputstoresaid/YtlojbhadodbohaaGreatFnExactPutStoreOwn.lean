/-
  What is proved: over all groups, every place and every store the program's PutStore answers what the model's does, in memory of its own, and turns nothing; no condition.
-/
import Derived.Test.YtlojbhadodbohaaGreatRows
import Derived.WalkKit
import Derived.ProofKit
import Derived.OpenShut
import Derived.ShutString
import Derived.Test.YtlojbhadodbohaaGreatOpenG
import Derived.Test.YtlojbhadodbohaaGreatPutW
namespace Go.Proofs.YtlojbhadodbohaaGreat
open Go.RowKit

theorem sum_leP (f : Nat → Nat) (b : Nat) : ∀ n, (∀ i, i < n → f i ≤ b) → sumN f n ≤ n * b
  | 0, _ => Nat.zero_le _
  | n + 1, h => by
    have h1 := sum_leP f b n (fun i hi => h i (by omega))
    have h2 := h n (Nat.lt_succ_self n)
    rw [sumN, Nat.succ_mul]
    omega
theorem small_of {nr : Nat} {F : Nat → Int} {n : Nat} {R : Nat → Sto} (h : groupsF nr F n R = 0) : SmallG nr n R := by
  obtain ⟨hg, hn, hs, _⟩ := groupsF_zero h
  have h6 := hg.n6
  have hb : ∀ i, i < n → (R i).nc ≤ 200 ∧ (R i).nl ≤ 200 ∧ (R i).nw ≤ 200 := fun i hi => (storeF_zero (hs i hi).1).1
  refine ⟨by omega, by omega, fun i hi => ?_, ?_⟩
  · have := hb i hi
    unfold SmallS
    omega
  · have := sum_leP (sizeT R) 600 n (fun i hi => by have := hb i hi; unfold sizeT; omega)
    omega
theorem PutAns.get (nr : Nat) (F : Nat → Int) (n : Nat) (S : Nat → Sto) (pl : Int) (T : Sto) : ∃ c nr' F' n' R, SmallG nr' n' R ∧ PutAns nr F n S pl T c nr' F' n' R := by
  have small : SmallG 0 0 S := ⟨by omega, by omega, fun i hi => absurd hi (Nat.not_lt_zero i), by simp [sumN]⟩
  by_cases hz : groupsF nr F n S = 0
  · by_cases hp : 0 ≤ pl ∧ pl < n
    · obtain ⟨j, rfl⟩ : ∃ j : Nat, pl = j := ⟨pl.toNat, by omega⟩
      have hj : j < n := by omega
      by_cases h2 : groupsF nr F n (putT S j T) = 0
      · exact ⟨0, nr, F, n, putT S j T, small_of h2, Or.inr ⟨hz, j, rfl, hj, h2, rfl, rfl, rfl, rfl, rfl⟩⟩
      · exact ⟨_, 0, F, 0, S, small, Or.inl ⟨Or.inr (Or.inr ⟨hz, j, rfl, hj, h2, rfl⟩), rfl, rfl⟩⟩
    · exact ⟨3, 0, F, 0, S, small, Or.inl ⟨Or.inr (Or.inl ⟨hz, hp, rfl⟩), rfl, rfl⟩⟩
  · exact ⟨_, 0, F, 0, S, small, Or.inl ⟨Or.inl ⟨hz, rfl⟩, rfl, rfl⟩⟩
theorem implPutStore_is (nr : Nat) (F : Nat → Int) (n : Nat) (S : Nat → Sto) (V : Nat → Nat → Value) (vr vs : Value) (pl : Int) (T : Sto) (t0 t1 t2 : Value) (c : Int) (nr' : Nat) (F' : Nat → Int) (n' : Nat) (R : Nat → Sto) (w : World) (h : Grs w 0 nr F n S V vr vs) (hs : St w 0 T t0 t1 t2) (hr : nr ≤ 9223372036854775807) (hn : n ≤ 9223372036854775807) (ha : PutAns nr F n S pl T c nr' F' n' R) :
    Calls Tryz.prog 12 #[.agg #[vr, vs], .int .i64 pl, .agg #[t0, t1, t2]] w (ResGr w c nr' F' n' R) := by
  rcases ha with ⟨hA, rfl, rfl⟩ | ⟨hz, j, rfl, hj, h2, rfl, rfl, rfl, rfl, rfl⟩
  · rcases hA with hA | hA | ⟨hz, j, rfl, hj, h2, hc⟩
    · exact implPutStore_bad nr F n S V vr vs pl T t0 t1 t2 c F' R 0 w h hs hr hn (Or.inl hA)
    · exact implPutStore_bad nr F n S V vr vs pl T t0 t1 t2 c F' R 0 w h hs hr hn (Or.inr hA)
    · exact implPutStore_full nr F n S V vr vs j T t0 t1 t2 c F' R 0 w h hs hr hn hj hz hc.symm (by rw [hc]; exact h2)
  · have e := (groupsF_zero hz).2.1
    subst e
    exact implPutStore_done _ _ _ _ V vr vs j T t0 t1 t2 0 w h hs hr hn hj hz h2
theorem specPutStore_is (nr : Nat) (F : Nat → Int) (n : Nat) (S : Nat → Sto) (V : Nat → Nat → Value) (vr vs : Value) (pl : Int) (T : Sto) (t0 t1 t2 : Value) (c : Int) (nr' : Nat) (F' : Nat → Int) (n' : Nat) (R : Nat → Sto) (w : World) (h : Grs w 0 nr F n S V vr vs) (hs : St w 0 T t0 t1 t2) (hr : nr ≤ 9223372036854775807) (hn : n ≤ 9223372036854775807) (ht : T.nc ≤ 1048576 ∧ T.nl ≤ 1048576 ∧ T.nw ≤ 1048576) (ha : PutAns nr F n S pl T c nr' F' n' R) :
    Calls Tryz.prog 9 #[.agg #[vr, vs], .int .i64 pl, .agg #[t0, t1, t2]] w (ResGw w c nr' F' n' R) := by
  rcases ha with ⟨hA, rfl, rfl⟩ | ⟨hz, j, rfl, hj, h2, rfl, rfl, rfl, rfl, rfl⟩
  · rcases hA with hA | hA | ⟨hz, j, rfl, hj, h2, hc⟩
    · exact specPutStore_bad nr F n S V vr vs pl T t0 t1 t2 c F' R 0 w h hs hr hn (Or.inl hA)
    · exact specPutStore_bad nr F n S V vr vs pl T t0 t1 t2 c F' R 0 w h hs hr hn (Or.inr hA)
    · exact specPutStore_full nr F n S V vr vs j T t0 t1 t2 c F' R 0 w h hs hr hn ht hj hz hc.symm (by rw [hc]; exact h2)
  · exact specPutStore_done _ _ _ _ V vr vs j T t0 t1 t2 0 w h hs hr hn ht hj hz h2
theorem putStore_walk (nr : Nat) (F : Nat → Int) (n : Nat) (S : Nat → Sto) (V : Nat → Nat → Value) (vr vs : Value) (pl : Int) (T : Sto) (t0 t1 t2 : Value) (w : World) (h : Grs w 0 nr F n S V vr vs) (h' : St w 0 T t0 t1 t2) (hr : nr ≤ 9223372036854775807) (hn : n ≤ 9223372036854775807) (hs : ∀ i, i < n → BigS (S i)) (tc : T.nc ≤ 9223372036854775807) (tl : T.nl ≤ 9223372036854775807) (tw : T.nw ≤ 9223372036854775807)
    (_ : (∀ p, (Lit.int .i64 (T.c p)).wf = true) ∧ (∀ p, (Lit.int .i64 (T.l p)).wf = true) ∧ ∀ p, (Lit.int .i64 (T.k p)).wf = true) (_ : (Lit.int .i64 pl).wf = true) :
    Calls Tryz.prog 3 #[.agg #[vr, vs], .int .i64 pl, .agg #[t0, t1, t2]] w fun e w' => e = .returned (.bool true) ∧ Below w.heap.size w w' :=
  exactPutStore_walk nr F n S V vr vs pl T t0 t1 t2 w h h' hr hn hs ⟨tc, tl, tw⟩ (fun _ ht => by
    obtain ⟨c, nr', F', n', R, hR, hA⟩ := PutAns.get nr F n S pl T
    exact ⟨c, nr', F', n', R, hR, fun V' y0 y1 z0 z1 z2 x h1 h2 => specPutStore_is nr F n S V' y0 y1 pl T z0 z1 z2 c nr' F' n' R x h1 h2 hr hn ht hA, fun V' y0 y1 z0 z1 z2 x h1 h2 => implPutStore_is nr F n S V' y0 y1 pl T z0 z1 z2 c nr' F' n' R x h1 h2 hr hn hA⟩)
end Go.Proofs.YtlojbhadodbohaaGreat
namespace Go.Proofs.YtlojbhadodbohaaGreat.fnExactPutStore
open Go.ChangeShapes Go.WideShapes Go.ChangeAt Go.RowKit Go.Joins
set_option linter.unusedVariables false

theorem own : ownKnob Tryz.prog.godebug = none := by kernel_rfl
theorem laid : laidOutB Tryz.prog = true := by kernel_rfl

set_option maxRecDepth 100000 in
theorem lifted (os : Os) (started : os.Started) (H : Type) (enc : TypeId × Value → H) :
    ReturnsInHanded {} Tryz.checked os 3 .any (Rows.fnExactPutStoreSpec.pre6 enc Tryz.prog Tryz.f3 Rows.fnExactPutStoreRow.domain false) (Rows.fnExactPutStoreSpec.post enc Tryz.prog Tryz.f3 false true false false) := by
  refine returnsInHanded_of_change (C := Tryz.checked) own started (by kernel_rfl) Tryz.func3
    (ChangeSpec.witness6 (enc := enc) (C := Tryz.checked) false ⟨#[], #[.agg #[.slice none 0 0, .slice none 0 0], .int .i64 0, .agg #[.slice none 0 0, .slice none 0 0, .slice none 0 0]], []⟩ 8 (by kernel_rfl) (by kernel_rfl) (by kernel_rfl) (by kernel_rfl)) ?_
  intro W base args ds gs before hval0 hW hcnd _
  have hval : ∀ (j : Nat) t v, Tryz.f3.params[j]? = some t → args[j]? = some v → Value.okWide Tryz.prog W .any base t v := hval0
  have hW' := hW
  obtain ⟨p, q, hA0, hV, rfl, hfz, hnd⟩ := hW
  have hA : DataW.TrodAll enc Tryz.prog W 0 (fun _ => true) true Tryz.f3.params.toList args.toList ds p := hA0
  rw [Tryz.params3] at hA hval
  obtain ⟨v0, vs0, d0, ds0, p0, q0, hargs, rfl, rfl, h0, r0⟩ := trodAll_cons hA
  obtain ⟨v1, vs1, d1, ds1, p1, q1, rfl, rfl, rfl, h1, r1⟩ := trodAll_cons r0
  obtain ⟨v2, vs2, d2, ds2, p2, q2, rfl, rfl, rfl, h2, r2⟩ := trodAll_cons r1
  obtain ⟨rfl, rfl, rfl⟩ := trodAll_nil r2
  obtain rfl : args = #[v0, v1, v2] := by cases args; simp_all
  obtain ⟨rfl, rfl⟩ := trodVars_none hV
  obtain ⟨nr0, F0, n0, S0, V0, b00, b01, rfl, hS0, s00, s01, s02⟩ := open_groups (hval 0 25 v0 rfl rfl) h0
  obtain ⟨a1, rfl, rfl, rfl, w1⟩ := open_int Tryz.underlying2 (hval 1 2 v1 rfl rfl) h1
  obtain ⟨S2, b20, b21, b22, rfl, hS2, s20, s21, s22, u2⟩ := open_store (hval 2 30 v2 rfl rfl) h2
  clear hA0 hval0
  simp only [List.append_nil] at hW'
  have hlt : ∀ x ∈ p0 ++ p2, x.block < W.heap.size := fun x hx => by simpa using hW'.lt x (by simpa using hx)
  refine (putStore_walk nr0 F0 n0 S0 V0 b00 b01 a1 S2 b20 b21 b22 W hS0 hS2 s00 s01 s02 s20 s21 s22 u2 w1).mono fun e W' ⟨he, hg⟩ => ?_
  subst he
  refine ⟨_, rfl, _, _, _, [], p0 ++ p2, [], hW', (trodAll_cons_mk (shut_bool Tryz.underlying4 _) trodAll_mk0), ?_, rfl, hg.frame _, fun h => by cases h⟩
  have T := (trodAll_cons_mk (Below.trod laid (by kernel_rfl) (of_decide_eq_true (by kernel_rfl)) h0 hg (fun x hx => hlt x (List.mem_append_left _ hx))) (trodAll_cons_mk (shut_int Tryz.underlying2 w1) (trodAll_cons_mk (Below.trod laid (by kernel_rfl) (of_decide_eq_true (by kernel_rfl)) h2 hg (fun x hx => hlt x (List.mem_append_right _ hx))) trodAll_mk0)))
  simp only [List.append_nil] at T
  exact T

theorem over : Rows.fnExactPutStoreRow.holds Tryz.pinned (OpenSpec.ofChange Rows.fnExactPutStoreSpec) :=
  OpenClaim.holds_of_wide 3 Tryz.f3 rfl rfl rfl rfl rfl rfl rfl ⟨rfl, rfl, rfl, rfl, rfl⟩ rfl rfl rfl rfl rfl (by kernel_rfl) Tryz.func3 (by kernel_rfl)
    (of_decide_eq_true (by kernel_rfl)) (by unfold Func.isWrapper; first | (rw [if_pos (by decide +kernel)]; kernel_rfl) | (rw [if_neg (by decide +kernel)]; exact ⟨rfl, rfl⟩))
    (fun os started H enc _ => lifted os started H enc)

theorem proved : Rows.FnExactPutStoreSaid :=
  over
#print axioms proved
end Go.Proofs.YtlojbhadodbohaaGreat.fnExactPutStore
