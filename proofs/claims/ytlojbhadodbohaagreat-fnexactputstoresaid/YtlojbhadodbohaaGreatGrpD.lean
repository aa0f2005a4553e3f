/-
  Own text. What the model's GroupsFault answers, as a plain function; l7Outside, l7Full, l7Fault.
-/
import Derived.Test.YtlojbhadodbohaaGreatGrpC
import Derived.Test.YtlojbhadodbohaaGreatColsK
import Derived.Test.YtlojbhadodbohaaGreatPartB
import Derived.Test.YtlojbhadodbohaaGreatRngD
namespace Go.Proofs.YtlojbhadodbohaaGreat
open Go.RowKit

/-- Has a store a key that is not in a range? -/
def strayS (S : Sto) (fr to : Int) : Prop := keepN S.c 3 fr (to - 1) S.nc ≠ S.nc ∨ keepN S.l 5 fr (to - 1) S.nl ≠ S.nl ∨ keepN S.k 4 fr (to - 1) S.nw ≠ S.nw
instance (S : Sto) (fr to : Int) : Decidable (strayS S fr to) := by unfold strayS; exact inferInstance
noncomputable def oneF (F : Nat → Int) (S : Nat → Sto) (i : Nat) : Int := if storeF (S i) ≠ 0 then storeF (S i) else if strayS (S i) (F (i * 3)) (F (i * 3 + 1)) then 3 else 0
def fullG (n : Nat) (S : Nat → Sto) : Prop := 200 < sumN (fun i => (S i).nc) n ∨ 200 < sumN (fun i => (S i).nl) n ∨ 200 < sumN (fun i => (S i).nw) n
instance (n : Nat) (S : Nat → Sto) : Decidable (fullG n S) := by unfold fullG; exact inferInstance
noncomputable def groupsF (nr : Nat) (F : Nat → Int) (n : Nat) (S : Nat → Sto) : Int :=
  if rangesF nr F ≠ 0 then rangesF nr F else if n ≠ nr then 1 else if scan (oneF F S) n ≠ 0 then scan (oneF F S) n else if fullG n S then 2 else 0
theorem keep_all {F : Nat → Int} {m : Nat} {a b : Int} : ∀ n, keepN F m a b n = n ↔ ∀ i, i < n → a ≤ F (i * m) ∧ F (i * m) ≤ b
  | 0 => ⟨fun _ i hi => absurd hi (Nat.not_lt_zero i), fun _ => rfl⟩
  | n + 1 => by
    have ih := keep_all (F := F) (m := m) (a := a) (b := b) n
    have hle := keep_le F m a b n
    by_cases h : a ≤ F (n * m) ∧ F (n * m) ≤ b
    · rw [(keep_yes h).2]
      refine ⟨fun e i hi => ?_, fun q => by have := ih.2 (fun i hi => q i (by omega)); omega⟩
      rcases Nat.lt_or_ge i n with q | q
      · exact ih.1 (by omega) i q
      · obtain rfl : i = n := by omega
        exact h
    · rw [(keep_no h).2]
      exact ⟨fun e => by omega, fun q => absurd (q n (by omega)) h⟩
theorem sum_le {f : Nat → Nat} {c : Nat} : ∀ n, (∀ i, i < n → f i ≤ c) → sumN f n ≤ n * c
  | 0, _ => by simp [sumN]
  | n + 1, h => by
    have := sum_le n (fun i hi => h i (by omega))
    have h2 := h n (by omega)
    show sumN f n + f n ≤ (n + 1) * c
    rw [Nat.succ_mul]
    omega
theorem Good.to {n : Nat} {F : Nat → Int} (h : Good n F) : ∀ d i, i + d + 1 = n → F (i * 3 + 1) ≤ 200
  | 0, i, e => by
    have := h.last
    rw [show n - 1 = i by omega] at this
    omega
  | d + 1, i, e => by
    have h1 := h.to d (i + 1) (by omega)
    have h2 := h.lt (i + 1) (by omega)
    have h3 := h.next i (by omega)
    omega
theorem Good.fromZ {n : Nat} {F : Nat → Int} (h : Good n F) : ∀ i, i < n → 0 ≤ F (i * 3)
  | 0, _ => by have := h.first; simp; omega
  | i + 1, hi => by
    have h1 := h.fromZ i (by omega)
    have h2 := h.lt i (by omega)
    have h3 := h.next i hi
    omega
theorem Good.bounds {n : Nat} {F : Nat → Int} (h : Good n F) (i : Nat) (hi : i < n) : 0 ≤ F (i * 3) ∧ F (i * 3) < F (i * 3 + 1) ∧ F (i * 3 + 1) ≤ 200 :=
  ⟨h.fromZ i hi, h.lt i hi, h.to (n - 1 - i) i (by omega)⟩

def OutE (w : World) (b oo : Nat) (v0 v1 v2 u0 u1 u2 : Value) (q : Nat) (x : World) : Prop :=
  Below w.heap.size w x ∧ (x.cell? ⟨b, oo, none⟩ = some v0 ∧ x.cell? ⟨b, oo + 1, none⟩ = some v1 ∧ x.cell? ⟨b, oo + 2, none⟩ = some v2) ∧ Blk3 x q u0 u1 u2
set_option maxRecDepth 100000 in
set_option maxHeartbeats 4000000 in
theorem l7Outside_any (S : Sto) (b oo : Nat) (v0 v1 v2 : Value) (fr to ep : Int) (w : World) (h : LiesO w b oo S v0 v1 v2) (hn : S.nc ≤ 200 ∧ S.nl ≤ 200 ∧ S.nw ≤ 200) (ht : 0 ≤ to ∧ to ≤ 200) :
    Calls Tryz.prog 76 #[.pointer (some ⟨b, oo, none⟩), .agg #[.int .i64 fr, .int .i64 to, .int .i64 ep]] w fun e w' => e = .returned (.bool (decide (strayS S fr to))) ∧ Below w.heap.size w w' := by
  obtain ⟨a0, c0, a1, c1, a2, c2, rfl, rfl, rfl⟩ := h.2.form
  have H : Hid (LiesO w b oo S (.slice a0 S.nc c0) (.slice a1 S.nl c1) (.slice a2 S.nw c2)) := h
  have HT : Hid ((S.nc ≤ 200 ∧ S.nl ≤ 200 ∧ S.nw ≤ 200) ∧ 0 ≤ to ∧ to ≤ 200) := ⟨hn, ht⟩
  obtain ⟨x0, hx0⟩ : ∃ x, keepN S.c 3 fr (to - 1) S.nc = x := ⟨_, rfl⟩
  obtain ⟨x1, hx1⟩ : ∃ x, keepN S.l 5 fr (to - 1) S.nl = x := ⟨_, rfl⟩
  obtain ⟨x2, hx2⟩ : ∃ x, keepN S.k 4 fr (to - 1) S.nw = x := ⟨_, rfl⟩
  have HP : Hid ((partS S fr to).nc = x0 ∧ (partS S fr to).nl = x1 ∧ (partS S fr to).nw = x2) := ⟨hx0, hx1, hx2⟩
  have HS : Hid (strayS S fr to ↔ (x0 ≠ S.nc ∨ x1 ≠ S.nl ∨ x2 ≠ S.nw)) := by unfold Hid strayS; rw [hx0, hx1, hx2]
  clear h hn ht hx0 hx1 hx2
  go_enter Tryz.func76, Tryz.ntmps76
  go_wp2_with fail
  refine (l2Part_anyO S b oo _ _ _ fr to _ (H.out.later (below_alloc _ _)) HT.out.1 HT.out.2).mono ?_
  rintro e w1 ⟨d0, e0, d1, e1, d2, e2, rfl, _, q1⟩
  rw [HP.out.1, HP.out.2.1, HP.out.2.2]
  have B1 : Below w.heap.size w w1 := (below_alloc w _).trans (q1.mono (by simp))
  have hb := H.out.lt
  have L2 : Hid (OutE w b oo (.slice a0 S.nc c0) (.slice a1 S.nl c1) (.slice a2 S.nw c2) (.slice d0 x0 e0) (.slice d1 x1 e1) (.slice d2 x2 e2) w1.heap.size (w1.alloc (.cells #[.slice d0 x0 e0, .slice d1 x1 e1, .slice d2 x2 e2] 45))) := ⟨B1.trans ((below_alloc _ _).mono B1.size), ((H.out.later B1).later (below_alloc _ _)).1, Blk3.new _ _ _ _ _⟩
  clear q1 B1
  go_wp2_with fail
  generalize w1.alloc (.cells #[.slice d0 x0 e0, .slice d1 x1 e1, .slice d2 x2 e2] 45) = w2 at L2 ⊢
  obtain ⟨HB, ⟨p0, p1, p2⟩, ⟨y0, y1, y2⟩, _⟩ := L2.out
  have HB' : Hid (Below w.heap.size w w2) := HB
  clear HB H HP L2
  by_cases h0 : x0 = S.nc
  case neg =>
    have d : ((x0 : Int) != (S.nc : Int)) = true := bne_iff_ne.2 (by omega)
    have E : Hid (decide (strayS S fr to) = true) := decide_eq_true (HS.out.2 (Or.inl h0))
    clear h0 HS
    go_quiet (fail)
    go_wp2
    go_ret
    exact ⟨by rw [E.out]; rfl, below_dr HB'.out _⟩
  by_cases h1 : x1 = S.nl
  case neg =>
    have d : ((x1 : Int) != (S.nl : Int)) = true := bne_iff_ne.2 (by omega)
    have E : Hid (decide (strayS S fr to) = true) := decide_eq_true (HS.out.2 (Or.inr (Or.inl h1)))
    subst h0
    clear h1 HS
    go_quiet (fail)
    go_wp2
    go_ret
    exact ⟨by rw [E.out]; rfl, below_dr HB'.out _⟩
  by_cases h2 : x2 = S.nw
  case neg =>
    have d : ((x2 : Int) != (S.nw : Int)) = true := bne_iff_ne.2 (by omega)
    have E : Hid (decide (strayS S fr to) = true) := decide_eq_true (HS.out.2 (Or.inr (Or.inr h2)))
    subst h0 h1
    clear h2 HS
    go_quiet (fail)
    go_wp2
    go_ret
    exact ⟨by rw [E.out]; rfl, below_dr HB'.out _⟩
  have E : Hid (decide (strayS S fr to) = false) := decide_eq_false (fun q => by have := HS.out.1 q; omega)
  subst h0 h1 h2
  clear HS
  go_quiet (fail)
  go_wp2
  go_ret
  exact ⟨by rw [E.out]; rfl, below_dr HB'.out _⟩
end Go.Proofs.YtlojbhadodbohaaGreat
