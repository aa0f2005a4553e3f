/-
  Own text, merged of GrpD, GrpE.
-/
import Derived.Test.YtpfmbfmlpoibeaaGreatGrpC
import Derived.Test.YtpfmbfmlpoibeaaGreatColsK
import Derived.Test.YtpfmbfmlpoibeaaGreatPartB
import Derived.Test.YtpfmbfmlpoibeaaGreatRngD
import Derived.Test.YtpfmbfmlpoibeaaGreatStorP
namespace Go.Proofs.YtpfmbfmlpoibeaaGreat
section
open Go.RowKit
-- Own text. What the model's GroupsFault answers, as a plain function; l7Outside, l7Full, l7Fault.
/-- Has a store a key that is not in a range? -/
def strayS (S : Sto) (fr to : Int) : Prop := keepN S.c 3 fr (to - 1) S.nc ≠ S.nc ∨ keepN S.l 5 fr (to - 1) S.nl ≠ S.nl ∨ keepN S.k 4 fr (to - 1) S.nw ≠ S.nw
instance (S : Sto) (fr to : Int) : Decidable (strayS S fr to) := by unfold strayS; exact inferInstance
noncomputable def oneF (F : Nat → Int) (S : Nat → Sto) (i : Nat) : Int := if storeF (S i) ≠ 0 then storeF (S i) else if strayS (S i) (F (i * 3)) (F (i * 3 + 1)) then 3 else 0
def fullG (n : Nat) (S : Nat → Sto) : Prop := 200 < sumN (fun i => (S i).nc) n ∨ 200 < sumN (fun i => (S i).nl) n ∨ 200 < sumN (fun i => (S i).nw) n
instance (n : Nat) (S : Nat → Sto) : Decidable (fullG n S) := by unfold fullG; exact inferInstance
noncomputable def groupsF (nr : Nat) (F : Nat → Int) (n : Nat) (S : Nat → Sto) : Int :=
  if rangesF nr F ≠ 0 then rangesF nr F else if n ≠ nr then 1 else if scan (oneF F S) n ≠ 0 then scan (oneF F S) n else if fullG n S then 2 else 0
theorem keep_all {F : Nat → Int} {m : Nat} {a b : Int} : ∀ n, keepN F m a b n = n ↔ ∀ i, i < n → a ≤ F (i * m) ∧ F (i * m) ≤ b
  | 0 => ⟨fun _ i hi => absurd hi (Nat.not_lt_zero i), fun _ => rfl⟩
  | n + 1 => by
    have ih := keep_all (F := F) (m := m) (a := a) (b := b) n
    have hle := keep_le F m a b n
    by_cases h : a ≤ F (n * m) ∧ F (n * m) ≤ b
    · rw [(keep_yes h).2]
      refine ⟨fun e i hi => ?_, fun q => by have := ih.2 (fun i hi => q i (by omega)); omega⟩
      rcases Nat.lt_or_ge i n with q | q
      · exact ih.1 (by omega) i q
      · obtain rfl : i = n := by omega
        exact h
    · rw [(keep_no h).2]
      exact ⟨fun e => by omega, fun q => absurd (q n (by omega)) h⟩
theorem sum_le {f : Nat → Nat} {c : Nat} : ∀ n, (∀ i, i < n → f i ≤ c) → sumN f n ≤ n * c
  | 0, _ => by simp [sumN]
  | n + 1, h => by
    have := sum_le n (fun i hi => h i (by omega))
    have h2 := h n (by omega)
    show sumN f n + f n ≤ (n + 1) * c
    rw [Nat.succ_mul]
    omega
theorem Good.to {n : Nat} {F : Nat → Int} (h : Good n F) : ∀ d i, i + d + 1 = n → F (i * 3 + 1) ≤ 200
  | 0, i, e => by
    have := h.last
    rw [show n - 1 = i by omega] at this
    omega
  | d + 1, i, e => by
    have h1 := h.to d (i + 1) (by omega)
    have h2 := h.lt (i + 1) (by omega)
    have h3 := h.next i (by omega)
    omega
theorem Good.fromZ {n : Nat} {F : Nat → Int} (h : Good n F) : ∀ i, i < n → 0 ≤ F (i * 3)
  | 0, _ => by have := h.first; simp; omega
  | i + 1, hi => by
    have h1 := h.fromZ i (by omega)
    have h2 := h.lt i (by omega)
    have h3 := h.next i hi
    omega
theorem Good.bounds {n : Nat} {F : Nat → Int} (h : Good n F) (i : Nat) (hi : i < n) : 0 ≤ F (i * 3) ∧ F (i * 3) < F (i * 3 + 1) ∧ F (i * 3 + 1) ≤ 200 :=
  ⟨h.fromZ i hi, h.lt i hi, h.to (n - 1 - i) i (by omega)⟩

def OutE (w : World) (b oo : Nat) (v0 v1 v2 u0 u1 u2 : Value) (q : Nat) (x : World) : Prop :=
  Below w.heap.size w x ∧ (x.cell? ⟨b, oo, none⟩ = some v0 ∧ x.cell? ⟨b, oo + 1, none⟩ = some v1 ∧ x.cell? ⟨b, oo + 2, none⟩ = some v2) ∧ Blk3 x q u0 u1 u2
set_option maxRecDepth 100000 in
set_option maxHeartbeats 4000000 in
theorem l7Outside_any (S : Sto) (b oo : Nat) (v0 v1 v2 : Value) (fr to ep : Int) (w : World) (h : LiesO w b oo S v0 v1 v2) (hn : S.nc ≤ 200 ∧ S.nl ≤ 200 ∧ S.nw ≤ 200) (ht : 0 ≤ to ∧ to ≤ 200) :
    Calls Tryz.prog 78 #[.pointer (some ⟨b, oo, none⟩), .agg #[.int .i64 fr, .int .i64 to, .int .i64 ep]] w fun e w' => e = .returned (.bool (decide (strayS S fr to))) ∧ Below w.heap.size w w' := by
  obtain ⟨a0, c0, a1, c1, a2, c2, rfl, rfl, rfl⟩ := h.2.form
  have H : Hid (LiesO w b oo S (.slice a0 S.nc c0) (.slice a1 S.nl c1) (.slice a2 S.nw c2)) := h
  have HT : Hid ((S.nc ≤ 200 ∧ S.nl ≤ 200 ∧ S.nw ≤ 200) ∧ 0 ≤ to ∧ to ≤ 200) := ⟨hn, ht⟩
  obtain ⟨x0, hx0⟩ : ∃ x, keepN S.c 3 fr (to - 1) S.nc = x := ⟨_, rfl⟩
  obtain ⟨x1, hx1⟩ : ∃ x, keepN S.l 5 fr (to - 1) S.nl = x := ⟨_, rfl⟩
  obtain ⟨x2, hx2⟩ : ∃ x, keepN S.k 4 fr (to - 1) S.nw = x := ⟨_, rfl⟩
  have HP : Hid ((partS S fr to).nc = x0 ∧ (partS S fr to).nl = x1 ∧ (partS S fr to).nw = x2) := ⟨hx0, hx1, hx2⟩
  have HS : Hid (strayS S fr to ↔ (x0 ≠ S.nc ∨ x1 ≠ S.nl ∨ x2 ≠ S.nw)) := by unfold Hid strayS; rw [hx0, hx1, hx2]
  clear h hn ht hx0 hx1 hx2
  go_enter Tryz.func78, Tryz.ntmps78
  go_wp2_with fail
  refine (l2Part_anyO S b oo _ _ _ fr to _ (H.out.later (below_alloc _ _)) HT.out.1 HT.out.2).mono ?_
  rintro e w1 ⟨d0, e0, d1, e1, d2, e2, rfl, _, q1⟩
  rw [HP.out.1, HP.out.2.1, HP.out.2.2]
  have B1 : Below w.heap.size w w1 := (below_alloc w _).trans (q1.mono (by simp))
  have hb := H.out.lt
  have L2 : Hid (OutE w b oo (.slice a0 S.nc c0) (.slice a1 S.nl c1) (.slice a2 S.nw c2) (.slice d0 x0 e0) (.slice d1 x1 e1) (.slice d2 x2 e2) w1.heap.size (w1.alloc (.cells #[.slice d0 x0 e0, .slice d1 x1 e1, .slice d2 x2 e2] 37))) := ⟨B1.trans ((below_alloc _ _).mono B1.size), ((H.out.later B1).later (below_alloc _ _)).1, Blk3.new _ _ _ _ _⟩
  clear q1 B1
  go_wp2_with fail
  generalize w1.alloc (.cells #[.slice d0 x0 e0, .slice d1 x1 e1, .slice d2 x2 e2] 37) = w2 at L2 ⊢
  obtain ⟨HB, ⟨p0, p1, p2⟩, ⟨y0, y1, y2⟩, _⟩ := L2.out
  have HB' : Hid (Below w.heap.size w w2) := HB
  clear HB H HP L2
  by_cases h0 : x0 = S.nc
  case neg =>
    have d : ((x0 : Int) != (S.nc : Int)) = true := bne_iff_ne.2 (by omega)
    have E : Hid (decide (strayS S fr to) = true) := decide_eq_true (HS.out.2 (Or.inl h0))
    clear h0 HS
    go_quiet (fail)
    go_wp2
    go_ret
    exact ⟨by rw [E.out]; rfl, below_dr HB'.out _⟩
  by_cases h1 : x1 = S.nl
  case neg =>
    have d : ((x1 : Int) != (S.nl : Int)) = true := bne_iff_ne.2 (by omega)
    have E : Hid (decide (strayS S fr to) = true) := decide_eq_true (HS.out.2 (Or.inr (Or.inl h1)))
    subst h0
    clear h1 HS
    go_quiet (fail)
    go_wp2
    go_ret
    exact ⟨by rw [E.out]; rfl, below_dr HB'.out _⟩
  by_cases h2 : x2 = S.nw
  case neg =>
    have d : ((x2 : Int) != (S.nw : Int)) = true := bne_iff_ne.2 (by omega)
    have E : Hid (decide (strayS S fr to) = true) := decide_eq_true (HS.out.2 (Or.inr (Or.inr h2)))
    subst h0 h1
    clear h2 HS
    go_quiet (fail)
    go_wp2
    go_ret
    exact ⟨by rw [E.out]; rfl, below_dr HB'.out _⟩
  have E : Hid (decide (strayS S fr to) = false) := decide_eq_false (fun q => by have := HS.out.1 q; omega)
  subst h0 h1 h2
  clear HS
  go_quiet (fail)
  go_wp2
  go_ret
  exact ⟨by rw [E.out]; rfl, below_dr HB'.out _⟩
end

section
open Go.RowKit
-- Own text. What the model's l7Full and l7Fault answer.
/-- Block b holds groups: its two lists, and all that is in them. -/
def LiesG (w : World) (b nr : Nat) (F : Nat → Int) (n : Nat) (S : Nat → Sto) (V : Nat → Nat → Value) (vr vs : Value) : Prop := (w.cell? ⟨b, 0, none⟩ = some vr ∧ w.cell? ⟨b, 1, none⟩ = some vs) ∧ Grs w 0 nr F n S V vr vs
theorem LiesG.lt {w : World} {b nr : Nat} {F : Nat → Int} {n : Nat} {S : Nat → Sto} {V : Nat → Nat → Value} {vr vs : Value} (h : LiesG w b nr F n S V vr vs) : b < w.heap.size := World.block_lt_of_cell? w ⟨b, 0, none⟩ h.1.1
theorem LiesG.later {w w' : World} {b nr : Nat} {F : Nat → Int} {n : Nat} {S : Nat → Sto} {V : Nat → Nat → Value} {vr vs : Value} (h : LiesG w b nr F n S V vr vs) (hb : Below w.heap.size w w') : LiesG w' b nr F n S V vr vs :=
  ⟨⟨(hb.cell (p := ⟨b, 0, none⟩) h.lt).trans h.1.1, (hb.cell (p := ⟨b, 1, none⟩) h.lt).trans h.1.2⟩, h.2.later hb⟩
theorem sum_small {f : Nat → Nat} {n k : Nat} (h : ∀ i, i < n → f i ≤ 200) (hn : n ≤ 6) (hk : k ≤ n) : sumN f k ≤ 1200 := by
  have h1 := sum_le (f := f) (c := 200) k (fun i hi => h i (by omega))
  have h2 : k * 200 ≤ 6 * 200 := Nat.mul_le_mul_right 200 (by omega)
  omega
set_option maxRecDepth 100000 in
set_option maxHeartbeats 4000000 in
theorem l7Full_any (nr : Nat) (F : Nat → Int) (n : Nat) (S : Nat → Sto) (V : Nat → Nat → Value) (vr vs : Value) (b : Nat) (w : World) (h : LiesG w b nr F n S V vr vs) (hn : n ≤ 6) (hs : ∀ i, i < n → (S i).nc ≤ 200 ∧ (S i).nl ≤ 200 ∧ (S i).nw ≤ 200) :
    Calls Tryz.prog 79 #[.pointer (some ⟨b, 0, none⟩)] w fun e w' => e = .returned (.bool (decide (fullG n S))) ∧ Below w.heap.size w w' := by
  obtain ⟨a0, c0, a1, c1, rfl, rfl⟩ := h.2.form
  have H : Hid (LiesG w b nr F n S V (.slice a0 nr c0) (.slice a1 n c1)) := h
  have HN : Hid (∀ i, i < n → (S i).nc ≤ 200 ∧ (S i).nl ≤ 200 ∧ (S i).nw ≤ 200) := hs
  clear h hs
  go_enter Tryz.func79, Tryz.ntmps79
  go_wp2
  go_loopw [3, 4, 5, 6] (fun x y z i wr => ∃ (k p0 p1 p2 : Nat), k ≤ n ∧ x = .int .i64 p0 ∧ y = .int .i64 p1 ∧ z = .int .i64 p2 ∧ i = .int .i64 k ∧ Hid (p0 = sumN (fun i => (S i).nc) k ∧ p1 = sumN (fun i => (S i).nl) k ∧ p2 = sumN (fun i => (S i).nw) k) ∧ Hid (Below w.heap.size w wr)) (fun _ _ _ i _ => n - (intOf i).toNat)
  case atStart => exact ⟨0, 0, 0, 0, Nat.zero_le _, rfl, rfl, rfl, rfl, ⟨rfl, rfl, rfl⟩, Below.refl _ _⟩
  case round =>
    obtain ⟨k, p0, p1, p2, hk, rfl, rfl, rfl, rfl, HS, hR⟩ := hrel
    have hl0 := (H.out.later hR.out).1.2
    have q0 : p0 ≤ 1200 := by rw [HS.out.1]; exact sum_small (fun i hi => (HN.out i hi).1) hn hk
    have q1 : p1 ≤ 1200 := by rw [HS.out.2.1]; exact sum_small (fun i hi => (HN.out i hi).2.1) hn hk
    have q2 : p2 ≤ 1200 := by rw [HS.out.2.2]; exact sum_small (fun i hi => (HN.out i hi).2.2) hn hk
    by_cases hlt : k < n
    · obtain ⟨g, o, rfl, _, hg, ⟨b0, b1, b2⟩, sk⟩ := (H.out.later hR.out).2.2.at hlt
      obtain ⟨i0, d0, i1, d1, i2, d2, e0, e1, e2⟩ := sk.form
      rw [e0] at b0
      rw [e1] at b1
      rw [e2] at b2
      clear sk e0 e1 e2
      obtain ⟨n0, hn0⟩ : ∃ x, (S k).nc = x := ⟨_, rfl⟩
      obtain ⟨n1, hn1⟩ : ∃ x, (S k).nl = x := ⟨_, rfl⟩
      obtain ⟨n2, hn2⟩ : ∃ x, (S k).nw = x := ⟨_, rfl⟩
      rw [hn0] at b0
      rw [hn1] at b1
      rw [hn2] at b2
      have hB := HN.out k hlt
      rw [hn0, hn1, hn2] at hB
      obtain ⟨m0, m1, m2⟩ := hB
      have HS1 : Hid (p0 + n0 = sumN (fun i => (S i).nc) (k + 1) ∧ p1 + n1 = sumN (fun i => (S i).nl) (k + 1) ∧ p2 + n2 = sumN (fun i => (S i).nw) (k + 1)) := by
        refine ⟨?_, ?_, ?_⟩
        · show _ = sumN (fun i => (S i).nc) k + (S k).nc
          rw [HS.out.1, hn0]
        · show _ = sumN (fun i => (S i).nl) k + (S k).nl
          rw [HS.out.2.1, hn1]
        · show _ = sumN (fun i => (S i).nw) k + (S k).nw
          rw [HS.out.2.2, hn2]
      clear hn0 hn1 hn2 HS
      go_wp2
      go_roundw
      case rel => exact ⟨k + 1, p0 + n0, p1 + n1, p2 + n2, by omega, by go_num, by go_num, by go_num, by go_num, HS1, hR⟩
      case measure => simp [intOf]; omega
    · obtain rfl : k = n := by omega
      have HF : Hid (fullG k S ↔ (200 < p0 ∨ 200 < p1 ∨ 200 < p2)) := by unfold Hid fullG; rw [← HS.out.1, ← HS.out.2.1, ← HS.out.2.2]
      clear HS
      by_cases r0 : 200 < p0
      · have d : decide ((200 : Int) < (p0 : Int)) = true := decide_eq_true (by omega)
        have E : Hid (decide (fullG k S) = true) := decide_eq_true (HF.out.2 (Or.inl r0))
        clear r0 HF
        go_wp2
        go_ret
        exact ⟨by rw [E.out]; rfl, hR.out⟩
      have d0 : decide ((200 : Int) < (p0 : Int)) = false := decide_eq_false (by omega)
      by_cases r1 : 200 < p1
      · have d : decide ((200 : Int) < (p1 : Int)) = true := decide_eq_true (by omega)
        have E : Hid (decide (fullG k S) = true) := decide_eq_true (HF.out.2 (Or.inr (Or.inl r1)))
        clear r0 r1 HF
        go_wp2
        go_ret
        exact ⟨by rw [E.out]; rfl, hR.out⟩
      have d1 : decide ((200 : Int) < (p1 : Int)) = false := decide_eq_false (by omega)
      by_cases r2 : 200 < p2
      · have d : decide ((200 : Int) < (p2 : Int)) = true := decide_eq_true (by omega)
        have E : Hid (decide (fullG k S) = true) := decide_eq_true (HF.out.2 (Or.inr (Or.inr r2)))
        clear r0 r1 r2 HF
        go_wp2
        go_ret
        exact ⟨by rw [E.out]; rfl, hR.out⟩
      have d2 : decide ((200 : Int) < (p2 : Int)) = false := decide_eq_false (by omega)
      have E : Hid (decide (fullG k S) = false) := decide_eq_false (fun q => by have := HF.out.1 q; omega)
      clear r0 r1 r2 HF
      go_wp2
      go_ret
      exact ⟨by rw [E.out]; rfl, hR.out⟩
set_option maxRecDepth 100000 in
set_option maxHeartbeats 8000000 in
theorem l7Fault_any (nr : Nat) (F : Nat → Int) (n : Nat) (S : Nat → Sto) (V : Nat → Nat → Value) (vr vs : Value) (b : Nat) (w : World) (h : LiesG w b nr F n S V vr vs) (hr : nr ≤ 9223372036854775807) (hn : n ≤ 9223372036854775807) :
    Calls Tryz.prog 36 #[.pointer (some ⟨b, 0, none⟩)] w fun e w' => e = .returned (.int .i64 (groupsF nr F n S)) ∧ Below w.heap.size w w' := by
  obtain ⟨a0, c0, a1, c1, rfl, rfl⟩ := h.2.form
  have H : Hid (LiesG w b nr F n S V (.slice a0 nr c0) (.slice a1 n c1)) := h
  obtain ⟨p0, p1⟩ := h.1
  clear h
  obtain ⟨f, hf⟩ : ∃ f, rangesF nr F = f := ⟨_, rfl⟩
  have HF : Hid (rangesF nr F = f) := hf
  go_enter Tryz.func36, Tryz.ntmps36
  go_wp2_with fail
  refine (l6Fault_any _ 0 nr F _ H.out.2.1 hr).mono ?_
  rw [hf]
  rintro e w1 ⟨rfl, q1⟩
  have B1 : Hid (Below w.heap.size w w1) := q1
  clear q1 hf p0 p1
  by_cases hz : f = 0
  case neg =>
    have d : (f == 0) = false := beq_eq_false_iff_ne.2 hz
    have d' : (f != 0) = true := bne_iff_ne.2 hz
    have E : Hid (groupsF nr F n S = f) := by unfold Hid groupsF; rw [HF.out, if_pos hz]
    clear hz HF
    go_wp2
    go_ret
    exact ⟨by rw [E.out]; rfl, B1.out⟩
  subst hz
  have G : Hid (Good nr F) := good_of HF.out
  obtain ⟨p0, p1⟩ := (H.out.later B1.out).1
  by_cases hnn : n = nr
  case neg =>
    have d : ((n : Int) != (nr : Int)) = true := bne_iff_ne.2 (by omega)
    have E : Hid (groupsF nr F n S = 1) := by unfold Hid groupsF; rw [HF.out, if_neg (by decide), if_pos hnn]
    clear HF hnn
    go_wp2_with fail
    go_quiet (fail)
    go_wp2
    go_ret
    exact ⟨by rw [E.out]; rfl, below_dr B1.out _⟩
  have HG : Hid (groupsF nr F n S = if scan (oneF F S) n ≠ 0 then scan (oneF F S) n else if fullG n S then 2 else 0) := by unfold Hid groupsF; rw [HF.out, if_neg (by decide), if_neg (fun q => q hnn)]
  have hn6 : n ≤ 6 := by have := G.out.n6; omega
  subst hnn
  clear HF
  go_wp2_with fail
  go_quiet (fail)
  go_wp2_with fail
  clear p0 p1
  go_loopw [4] (fun i wr => ∃ k : Nat, k ≤ n ∧ i = .int .i64 k ∧ Hid (scan (oneF F S) k = 0) ∧ Hid (Below w.heap.size w wr)) (fun i _ => n - (intOf i).toNat)
  case atStart => exact ⟨0, Nat.zero_le _, rfl, rfl, below_dr B1.out _⟩
  case round =>
    obtain ⟨k, hk, rfl, HS, hR⟩ := hrel
    have HL : Hid (LiesG wr b n F n S V (.slice a0 n c0) (.slice a1 n c1)) := H.out.later hR.out
    obtain ⟨p0, p1⟩ := HL.out.1
    by_cases hlt : k < n
    · obtain ⟨g, o, rfl, _, hg, ⟨b0, b1, b2⟩, sk⟩ := HL.out.2.2.at hlt
      obtain ⟨gr, oR, rfl, _, hgr, t0, t1, t2⟩ := HL.out.2.1.at3 hlt
      have LS : Hid (LiesO wr g (o + k * 3) (S k) (V k 0) (V k 1) (V k 2)) := ⟨⟨b0, b1, b2⟩, sk⟩
      clear b0 b1 b2 sk t0 t1 t2
      obtain ⟨fs, hfs⟩ : ∃ x, storeF (S k) = x := ⟨_, rfl⟩
      have HFS : Hid (storeF (S k) = fs) := hfs
      go_wp2_with fail
      refine (l2Fault_anyO (S k) g (o + k * 3) _ _ _ _ LS.out).mono ?_
      rw [hfs]
      rintro e w3 ⟨rfl, q3⟩
      have B3 : Hid (Below w.heap.size w w3) := hR.out.trans (q3.mono hR.out.size)
      have LS3 : Hid (LiesO w3 g (o + k * 3) (S k) (V k 0) (V k 1) (V k 2)) := LS.out.later q3
      clear q3 hfs p0 p1 LS
      by_cases hz : fs = 0
      case neg =>
        have d : (fs == 0) = false := beq_eq_false_iff_ne.2 hz
        have d' : (fs != 0) = true := bne_iff_ne.2 hz
        have E : Hid (groupsF n F n S = fs) := by
          have h1 : oneF F S k = fs := by unfold oneF; rw [HFS.out, if_pos hz]
          have h2 : scan (oneF F S) n = fs := (scan_stop HS.out (by rw [h1]; exact hz) hlt).trans h1
          unfold Hid
          rw [HG.out, h2, if_pos hz]
        clear hz HFS HG HS
        go_wp2
        go_ret
        exact ⟨by rw [E.out]; rfl, B3.out⟩
      subst hz
      obtain ⟨p0, p1⟩ := (H.out.later B3.out).1
      obtain ⟨gr', oR', he, _, _, t0, t1, t2⟩ := (H.out.later B3.out).2.1.at3 hlt
      simp only [Option.some.injEq, Addr.mk.injEq, and_true] at he
      obtain ⟨rfl, rfl⟩ := he
      obtain ⟨fr, hfr⟩ : ∃ x, F (k * 3) = x := ⟨_, rfl⟩
      obtain ⟨to, hto⟩ : ∃ x, F (k * 3 + 1) = x := ⟨_, rfl⟩
      obtain ⟨ep, hep⟩ : ∃ x, F (k * 3 + 2) = x := ⟨_, rfl⟩
      rw [hfr] at t0
      rw [hto] at t1
      rw [hep] at t2
      have HFT : Hid (F (k * 3) = fr ∧ F (k * 3 + 1) = to) := ⟨hfr, hto⟩
      have hbd : Hid (0 ≤ to ∧ to ≤ 200) := by
        have := G.out.bounds k hlt
        rw [hfr, hto] at this
        exact ⟨by omega, by omega⟩
      clear hfr hto hep
      have Z := storeF_zero HFS.out
      have HZ : Hid ((S k).nc ≤ 200 ∧ (S k).nl ≤ 200 ∧ (S k).nw ≤ 200) := Z.1
      clear Z
      go_wp2_with fail
      refine (l7Outside_any (S k) g (o + k * 3) _ _ _ fr to ep _ LS3.out HZ.out hbd.out).mono ?_
      by_cases hst : strayS (S k) fr to
      · rw [decide_eq_true hst]
        rintro e w4 ⟨rfl, q4⟩
        have B4 : Hid (Below w.heap.size w w4) := B3.out.trans (q4.mono B3.out.size)
        have E : Hid (groupsF n F n S = 3) := by
          have h1 : oneF F S k = 3 := by unfold oneF; rw [HFS.out, if_neg (by decide), HFT.out.1, HFT.out.2, if_pos hst]
          have h2 : scan (oneF F S) n = 3 := (scan_stop HS.out (by rw [h1]; decide) hlt).trans h1
          unfold Hid
          rw [HG.out, h2, if_pos (by decide)]
        clear q4 hst HFS HG HS p0 p1 t0 t1 t2
        go_wp2
        go_ret
        exact ⟨by rw [E.out]; rfl, B4.out⟩
      · rw [decide_eq_false hst]
        rintro e w4 ⟨rfl, q4⟩
        have B4 : Hid (Below w.heap.size w w4) := B3.out.trans (q4.mono B3.out.size)
        have HS1 : Hid (scan (oneF F S) (k + 1) = 0) := scan_go HS.out (by unfold oneF; rw [HFS.out, if_neg (by decide), HFT.out.1, HFT.out.2, if_neg hst])
        clear q4 hst HFS HS p0 p1 t0 t1 t2
        go_wp2
        go_roundw
        case rel => exact ⟨k + 1, by omega, by go_num, HS1, B4⟩
        case measure => simp [intOf]; omega
    · obtain rfl : k = n := by omega
      have HSS : Hid (∀ i, i < k → (S i).nc ≤ 200 ∧ (S i).nl ≤ 200 ∧ (S i).nw ≤ 200) := fun i hi => by
        have h1 := scan_zero HS.out i hi
        unfold oneF at h1
        split at h1
        · rename_i q; exact absurd h1 q
        · rename_i q; exact (storeF_zero (Classical.not_not.1 q)).1
      have E : Hid (groupsF k F k S = if fullG k S then 2 else 0) := by unfold Hid; rw [HG.out, HS.out, if_neg (by decide)]
      clear HS HG hlt
      go_wp2_with fail
      refine (l7Full_any k F k S V _ _ b _ HL.out hn6 HSS.out).mono ?_
      by_cases hfu : fullG k S
      · rw [decide_eq_true hfu]
        have E2 : Hid (groupsF k F k S = 2) := by unfold Hid; rw [E.out, if_pos hfu]
        rintro e w4 ⟨rfl, q4⟩
        have B4 : Hid (Below w.heap.size w w4) := hR.out.trans (q4.mono hR.out.size)
        clear q4 hfu E
        go_wp2
        go_ret
        exact ⟨by rw [E2.out]; rfl, B4.out⟩
      · rw [decide_eq_false hfu]
        have E2 : Hid (groupsF k F k S = 0) := by unfold Hid; rw [E.out, if_neg hfu]
        rintro e w4 ⟨rfl, q4⟩
        have B4 : Hid (Below w.heap.size w w4) := hR.out.trans (q4.mono hR.out.size)
        clear q4 hfu E
        go_wp2
        go_ret
        exact ⟨by rw [E2.out]; rfl, B4.out⟩
/-- What l7For reads: the two lists of the groups. -/
def ForE (b : Nat) (vr vs : Value) (x : World) : Prop := x.cell? ⟨b, 0, none⟩ = some vr ∧ x.cell? ⟨b, 1, none⟩ = some vs
set_option maxRecDepth 100000 in
set_option maxHeartbeats 4000000 in
theorem l7For_is (nr : Nat) (F : Nat → Int) (n : Nat) (S : Nat → Sto) (V : Nat → Nat → Value) (ar : Option Addr) (cr g o c1 : Nat) (key : Int) (j b : Nat) (w : World) (h : LiesG w b nr F n S V (.slice ar nr cr) (.slice (some ⟨g, o, none⟩) n c1)) (hr : nr ≤ 6) (hj : AtR nr F key j) (hjn : j < n) :
    Calls Tryz.prog 29 #[.pointer (some ⟨b, 0, none⟩), .int .i64 key] w fun e w' => e = .returned (.pointer (some ⟨g, o + j * 3, none⟩)) ∧ w' = w.drew := by
  have H : Hid (LiesG w b nr F n S V (.slice ar nr cr) (.slice (some ⟨g, o, none⟩) n c1)) := h
  have HJ : Hid (AtR nr F key j) := hj
  have p := h.1
  clear h hj
  go_enter Tryz.func29, Tryz.ntmps29
  go_wp2_with fail
  refine wp_region_held_drew (S := ForE b (.slice ar nr cr) (.slice (some ⟨g, o, none⟩) n c1)) (by kernel_rfl) p (fun hS => ?_)
  refine wpAnyH_take (i := 0) (v := ?_) rfl (by kernel_rfl) (by kernel_rfl) (by kernel_rfl) (fun _ _ _ h => h) (Or.inl ⟨by kernel_rfl, ?_⟩) hS ?_
  rotate_left
  · intro wx hx
    obtain ⟨hx0, hx1⟩ := hx
    go_simp
    try with_reducible rfl
  refine wpAnyH_take (i := 1) (v := ?_) rfl (by kernel_rfl) (by kernel_rfl) (by kernel_rfl) (fun _ _ _ h => h) (Or.inl ⟨by kernel_rfl, ?_⟩) hS ?_
  rotate_left
  · intro wx hx
    obtain ⟨hx0, hx1⟩ := hx
    go_simp
    try with_reducible rfl
  refine wpAnyH_take (i := 2) (v := ?_) rfl (by kernel_rfl) (by kernel_rfl) (by kernel_rfl) (fun _ _ _ h => h) (Or.inl ⟨by kernel_rfl, ?_⟩) hS ?_
  rotate_left
  · intro wx hx
    obtain ⟨hx0, hx1⟩ := hx
    go_simp
    try with_reducible rfl
  refine wpAnyH_take (i := 3) (v := ?_) rfl (by kernel_rfl) (by kernel_rfl) (by kernel_rfl) (fun _ _ _ h => h) (Or.inl ⟨by kernel_rfl, ?_⟩) hS ?_
  rotate_left
  · intro wx hx
    obtain ⟨hx0, hx1⟩ := hx
    go_simp
    try with_reducible rfl
  refine wpAnyH_take (i := 4) (v := ?_) rfl (by kernel_rfl) (by kernel_rfl) (by kernel_rfl) (fun _ _ _ h => h) (Or.inl ⟨by kernel_rfl, ?_⟩) hS ?_
  rotate_left
  · intro wx hx
    obtain ⟨hx0, hx1⟩ := hx
    go_simp
    try with_reducible rfl
  refine wpAnyH_take (i := 5) (v := ?_) rfl (by kernel_rfl) (by kernel_rfl) (by kernel_rfl) (fun _ _ _ h => h) (Or.inl ⟨by kernel_rfl, ?_⟩) hS ?_
  rotate_left
  · intro wx hx
    obtain ⟨hx0, hx1⟩ := hx
    go_simp
    try with_reducible rfl
  refine wpAnyH_take (i := 6) (v := ?_) rfl (by kernel_rfl) (by kernel_rfl) (by kernel_rfl) (fun _ _ _ h => h) (Or.inl ⟨by kernel_rfl, ?_⟩) hS ?_
  rotate_left
  · intro wx hx
    obtain ⟨hx0, hx1⟩ := hx
    go_simp
    try with_reducible rfl
  refine wpAnyH_take (i := 7) (v := ?_) rfl (by kernel_rfl) (by kernel_rfl) (by kernel_rfl) (fun _ _ _ h => h) (Or.inl ⟨by kernel_rfl, ?_⟩) hS ?_
  rotate_left
  · intro wx hx
    obtain ⟨hx0, hx1⟩ := hx
    go_simp
    try with_reducible rfl
  refine wpAnyH_take (i := 8) (v := ?_) rfl (by kernel_rfl) (by kernel_rfl) (by kernel_rfl) (fun _ _ _ h => h) (Or.inl ⟨by kernel_rfl, ?_⟩) hS ?_
  rotate_left
  · intro wx hx
    obtain ⟨hx0, hx1⟩ := hx
    go_simp
    try with_reducible rfl
  refine wpAnyH_ready (rs := [9]) (by kernel_rfl) (by simp) ?_
  refine AllReadyH.cons rfl (fun K hK => ?_) AllReadyH.nil
  go_simp
  go_wp2_with fail
  refine (l6Route_is _ 0 nr F key j _ (H.out.2.1.drewN 1) HJ.out (by omega)).mono ?_
  rintro e w1 ⟨rfl, rfl⟩
  go_wp2_with fail
  refine hK.out _ _ hS (fun hS => ?_)
  clear hK K
  refine wpAnyH_take (i := 10) (v := ?_) rfl (by kernel_rfl) (by kernel_rfl) (by kernel_rfl) (fun _ _ _ h => h) (Or.inl ⟨by kernel_rfl, ?_⟩) hS ?_
  rotate_left
  · intro wx hx
    obtain ⟨hx0, hx1⟩ := hx
    go_simp
    try with_reducible rfl
  refine wpAnyH_take (i := 11) (v := ?_) rfl (by kernel_rfl) (by kernel_rfl) (by kernel_rfl) (fun _ _ _ h => h) (Or.inl ⟨by kernel_rfl, ?_⟩) hS ?_
  rotate_left
  · intro wx hx
    obtain ⟨hx0, hx1⟩ := hx
    go_simp
    try with_reducible rfl
  refine wpAnyH_done (by kernel_rfl) ?_ _
  clear hS
  go_simp
  go_wp2
  go_ret
  exact ⟨rfl, rfl⟩
end
end Go.Proofs.YtpfmbfmlpoibeaaGreat
