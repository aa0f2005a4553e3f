/-
  Own text, merged of StorP, GrpE, WldG, WldH, WldI, WldJ, WldK, TxnD, TxnE, TxnG, TxnH, WldL, TxsB, OrcB, WldE.
-/
import Derived.Test.YtpfmifpjmcmlaaaGreatPk3
namespace Go.Proofs.YtpfmifpjmcmlaaaGreat
open Go.RowKit Go.Maps

theorem storeF_zero {S : Sto} (h : storeF S = 0) : (S.nc ≤ 200 ∧ S.nl ≤ 200 ∧ S.nw ≤ 200) ∧ scan (cellF S.c) S.nc = 0 ∧ scan (lockF S.l) S.nl = 0 ∧ scan (writeF S.k) S.nw = 0 ∧ needs S ∧ once S := by
  unfold storeF at h
  by_cases h0 : 200 < S.nc ∨ 200 < S.nl ∨ 200 < S.nw
  · rw [if_pos h0] at h; exact absurd h (by decide)
  rw [if_neg h0] at h
  by_cases h1 : scan (cellF S.c) S.nc = 0
  case neg => rw [if_pos h1] at h; exact absurd h h1
  rw [if_neg (fun q => q h1)] at h
  by_cases h2 : scan (lockF S.l) S.nl = 0
  case neg => rw [if_pos h2] at h; exact absurd h h2
  rw [if_neg (fun q => q h2)] at h
  by_cases h3 : scan (writeF S.k) S.nw = 0
  case neg => rw [if_pos h3] at h; exact absurd h h3
  rw [if_neg (fun q => q h3)] at h
  by_cases h4 : needs S
  case neg => rw [if_pos h4] at h; exact absurd h (by decide)
  rw [if_neg (fun q => q h4)] at h
  by_cases h5 : once S
  case neg => rw [if_pos h5] at h; exact absurd h (by decide)
  exact ⟨⟨by omega, by omega, by omega⟩, h1, h2, h3, h4, h5⟩
end Go.Proofs.YtpfmifpjmcmlaaaGreat

namespace Go.Proofs.YtpfmifpjmcmlaaaGreat
section
open Go.RowKit
/-- Has a store a key that is not in a range? -/
def strayS (S : Sto) (fr tto : Int) : Prop := keepN S.c 3 fr (tto - 1) S.nc ≠ S.nc ∨ keepN S.l 5 fr (tto - 1) S.nl ≠ S.nl ∨ keepN S.k 4 fr (tto - 1) S.nw ≠ S.nw
instance (S : Sto) (fr tto : Int) : Decidable (strayS S fr tto) := by unfold strayS; exact inferInstance
noncomputable def oneF (F : Nat → Int) (S : Nat → Sto) (i : Nat) : Int := if storeF (S i) ≠ 0 then storeF (S i) else if strayS (S i) (F (i * 3)) (F (i * 3 + 1)) then 3 else 0
def fullG (n : Nat) (S : Nat → Sto) : Prop := 200 < sumN (fun i => (S i).nc) n ∨ 200 < sumN (fun i => (S i).nl) n ∨ 200 < sumN (fun i => (S i).nw) n
instance (n : Nat) (S : Nat → Sto) : Decidable (fullG n S) := by unfold fullG; exact inferInstance
noncomputable def groupsF (nr : Nat) (F : Nat → Int) (n : Nat) (S : Nat → Sto) : Int :=
  if rangesF nr F ≠ 0 then rangesF nr F else if n ≠ nr then 1 else if scan (oneF F S) n ≠ 0 then scan (oneF F S) n else if fullG n S then 2 else 0
theorem keep_all {F : Nat → Int} {m : Nat} {a b : Int} : ∀ n, keepN F m a b n = n ↔ ∀ i, i < n → a ≤ F (i * m) ∧ F (i * m) ≤ b
  | 0 => ⟨fun _ i hi => absurd hi (Nat.not_lt_zero i), fun _ => rfl⟩
  | n + 1 => by
    have ih := keep_all (F := F) (m := m) (a := a) (b := b) n
    have hle := keep_le F m a b n
    by_cases h : a ≤ F (n * m) ∧ F (n * m) ≤ b
    · rw [(keep_yes h).2]
      refine ⟨fun e i hi => ?_, fun q => by have := ih.2 (fun i hi => q i (by omega)); omega⟩
      rcases Nat.lt_or_ge i n with q | q
      · exact ih.1 (by omega) i q
      · obtain rfl : i = n := by omega
        exact h
    · rw [(keep_no h).2]
      exact ⟨fun e => by omega, fun q => absurd (q n (by omega)) h⟩
theorem sum_le {f : Nat → Nat} {c : Nat} : ∀ n, (∀ i, i < n → f i ≤ c) → sumN f n ≤ n * c
  | 0, _ => by simp [sumN]
  | n + 1, h => by
    have := sum_le n (fun i hi => h i (by omega))
    have h2 := h n (by omega)
    show sumN f n + f n ≤ (n + 1) * c
    rw [Nat.succ_mul]
    omega
theorem Good.to {n : Nat} {F : Nat → Int} (h : Good n F) : ∀ d i, i + d + 1 = n → F (i * 3 + 1) ≤ 200
  | 0, i, e => by
    have := h.last
    rw [show n - 1 = i by omega] at this
    omega
  | d + 1, i, e => by
    have h1 := h.to d (i + 1) (by omega)
    have h2 := h.lt (i + 1) (by omega)
    have h3 := h.next i (by omega)
    omega
theorem Good.fromZ {n : Nat} {F : Nat → Int} (h : Good n F) : ∀ i, i < n → 0 ≤ F (i * 3)
  | 0, _ => by have := h.first; simp; omega
  | i + 1, hi => by
    have h1 := h.fromZ i (by omega)
    have h2 := h.lt i (by omega)
    have h3 := h.next i hi
    omega
theorem Good.bounds {n : Nat} {F : Nat → Int} (h : Good n F) (i : Nat) (hi : i < n) : 0 ≤ F (i * 3) ∧ F (i * 3) < F (i * 3 + 1) ∧ F (i * 3 + 1) ≤ 200 :=
  ⟨h.fromZ i hi, h.lt i hi, h.to (n - 1 - i) i (by omega)⟩

def OutE (w : World) (b oo : Nat) (v0 v1 v2 u0 u1 u2 : Value) (q : Nat) (x : World) : Prop :=
  Below w.heap.size w x ∧ (x.cell? ⟨b, oo, none⟩ = some v0 ∧ x.cell? ⟨b, oo + 1, none⟩ = some v1 ∧ x.cell? ⟨b, oo + 2, none⟩ = some v2) ∧ Blk3 x q u0 u1 u2
set_option maxRecDepth 100000 in
set_option maxHeartbeats 4000000 in
theorem l7Outside_any (S : Sto) (b oo : Nat) (v0 v1 v2 : Value) (fr tto ep : Int) (w : World) (h : LiesO w b oo S v0 v1 v2) (hn : S.nc ≤ 200 ∧ S.nl ≤ 200 ∧ S.nw ≤ 200) (ht : 0 ≤ tto ∧ tto ≤ 200) :
    Calls Tryz.prog 103 #[.pointer (some ⟨b, oo, none⟩), .agg #[.int .i64 fr, .int .i64 tto, .int .i64 ep]] w fun e w' => e = .returned (.bool (decide (strayS S fr tto))) ∧ Below w.heap.size w w' := by
  obtain ⟨a0, c0, a1, c1, a2, c2, rfl, rfl, rfl⟩ := h.2.form
  have H : Hid (LiesO w b oo S (.slice a0 S.nc c0) (.slice a1 S.nl c1) (.slice a2 S.nw c2)) := h
  have HT : Hid ((S.nc ≤ 200 ∧ S.nl ≤ 200 ∧ S.nw ≤ 200) ∧ 0 ≤ tto ∧ tto ≤ 200) := ⟨hn, ht⟩
  obtain ⟨x0, hx0⟩ : ∃ x, keepN S.c 3 fr (tto - 1) S.nc = x := ⟨_, rfl⟩
  obtain ⟨x1, hx1⟩ : ∃ x, keepN S.l 5 fr (tto - 1) S.nl = x := ⟨_, rfl⟩
  obtain ⟨x2, hx2⟩ : ∃ x, keepN S.k 4 fr (tto - 1) S.nw = x := ⟨_, rfl⟩
  have HP : Hid ((partS S fr tto).nc = x0 ∧ (partS S fr tto).nl = x1 ∧ (partS S fr tto).nw = x2) := ⟨hx0, hx1, hx2⟩
  have HS : Hid (strayS S fr tto ↔ (x0 ≠ S.nc ∨ x1 ≠ S.nl ∨ x2 ≠ S.nw)) := by unfold Hid strayS; rw [hx0, hx1, hx2]
  clear h hn ht hx0 hx1 hx2
  go_enter Tryz.func103, Tryz.ntmps103
  go_wp2_with fail
  refine (l2Part_anyO S b oo _ _ _ fr tto _ (H.out.later (below_alloc _ _)) HT.out.1 HT.out.2).mono ?_
  rintro e w1 ⟨d0, e0, d1, e1, d2, e2, rfl, _, q1⟩
  rw [HP.out.1, HP.out.2.1, HP.out.2.2]
  have B1 : Below w.heap.size w w1 := (below_alloc w _).trans (q1.mono (by simp))
  have hb := H.out.lt
  have L2 : Hid (OutE w b oo (.slice a0 S.nc c0) (.slice a1 S.nl c1) (.slice a2 S.nw c2) (.slice d0 x0 e0) (.slice d1 x1 e1) (.slice d2 x2 e2) w1.heap.size (w1.alloc (.cells #[.slice d0 x0 e0, .slice d1 x1 e1, .slice d2 x2 e2] 127))) := ⟨B1.trans ((below_alloc _ _).mono B1.size), ((H.out.later B1).later (below_alloc _ _)).1, Blk3.new _ _ _ _ _⟩
  clear q1 B1
  go_wp2_with fail
  generalize w1.alloc (.cells #[.slice d0 x0 e0, .slice d1 x1 e1, .slice d2 x2 e2] 127) = w2 at L2 ⊢
  obtain ⟨HB, ⟨p0, p1, p2⟩, ⟨y0, y1, y2⟩, _⟩ := L2.out
  have HB' : Hid (Below w.heap.size w w2) := HB
  clear HB H HP L2
  by_cases h0 : x0 = S.nc
  case neg =>
    have d : ((x0 : Int) != (S.nc : Int)) = true := bne_iff_ne.2 (by omega)
    have E : Hid (decide (strayS S fr tto) = true) := decide_eq_true (HS.out.2 (Or.inl h0))
    clear h0 HS
    go_quiet (fail)
    go_wp2
    go_ret
    exact ⟨by rw [E.out]; rfl, below_dr HB'.out _⟩
  by_cases h1 : x1 = S.nl
  case neg =>
    have d : ((x1 : Int) != (S.nl : Int)) = true := bne_iff_ne.2 (by omega)
    have E : Hid (decide (strayS S fr tto) = true) := decide_eq_true (HS.out.2 (Or.inr (Or.inl h1)))
    subst h0
    clear h1 HS
    go_quiet (fail)
    go_wp2
    go_ret
    exact ⟨by rw [E.out]; rfl, below_dr HB'.out _⟩
  by_cases h2 : x2 = S.nw
  case neg =>
    have d : ((x2 : Int) != (S.nw : Int)) = true := bne_iff_ne.2 (by omega)
    have E : Hid (decide (strayS S fr tto) = true) := decide_eq_true (HS.out.2 (Or.inr (Or.inr h2)))
    subst h0 h1
    clear h2 HS
    go_quiet (fail)
    go_wp2
    go_ret
    exact ⟨by rw [E.out]; rfl, below_dr HB'.out _⟩
  have E : Hid (decide (strayS S fr tto) = false) := decide_eq_false (fun q => by have := HS.out.1 q; omega)
  subst h0 h1 h2
  clear HS
  go_quiet (fail)
  go_wp2
  go_ret
  exact ⟨by rw [E.out]; rfl, below_dr HB'.out _⟩
end

section
open Go.RowKit
theorem sum_small {f : Nat → Nat} {n k : Nat} (h : ∀ i, i < n → f i ≤ 200) (hn : n ≤ 6) (hk : k ≤ n) : sumN f k ≤ 1200 := by
  have h1 := sum_le (f := f) (c := 200) k (fun i hi => h i (by omega))
  have h2 : k * 200 ≤ 6 * 200 := Nat.mul_le_mul_right 200 (by omega)
  omega
end
end Go.Proofs.YtpfmifpjmcmlaaaGreat

namespace Go.Proofs.YtpfmifpjmcmlaaaGreat
open Go.RowKit

set_option maxHeartbeats 1000000 in
theorem l5Fault_at (a b : Int) (g : Nat) (w : World) (c0 : w.cell? ⟨g, 1, none⟩ = some (.int .i64 a)) (c1 : w.cell? ⟨g, 2, none⟩ = some (.int .i64 b)) :
    Calls Tryz.prog 68 #[.pointer (some ⟨g, 1, none⟩)] w fun e w' => e = .returned (.int .i64 (oFault a b)) ∧ ∃ n, w' = w.drewN n := by
  by_cases h1 : a < 1
  · rw [oFault_range (by omega)]
    go_enter Tryz.func68, Tryz.ntmps68
    go_wp2
    first | (go_ret; exact ⟨rfl, rfl⟩) | (go_ret; exact ⟨rfl, 0, rfl⟩) | (go_quiet (fail); go_wp2; go_ret; exact ⟨rfl, _, rfl⟩)
  by_cases h2 : 100000 < a
  · rw [oFault_range (by omega)]
    have d1 : decide (a ≤ 100000) = false := decide_eq_false (by omega)
    go_enter Tryz.func68, Tryz.ntmps68
    go_wp2
    first | (go_ret; exact ⟨rfl, rfl⟩) | (go_ret; exact ⟨rfl, 0, rfl⟩) | (go_quiet (fail); go_wp2; go_ret; exact ⟨rfl, _, rfl⟩)
  have d1 : decide (a ≤ 100000) = true := decide_eq_true (by omega)
  by_cases h3 : b < 1
  · rw [oFault_range (by omega)]
    go_enter Tryz.func68, Tryz.ntmps68
    go_wp2
    first | (go_ret; exact ⟨rfl, rfl⟩) | (go_ret; exact ⟨rfl, 0, rfl⟩) | (go_quiet (fail); go_wp2; go_ret; exact ⟨rfl, _, rfl⟩)
  by_cases h4 : 100000 < b
  · rw [oFault_range (by omega)]
    have d2 : decide (b ≤ 100000) = false := decide_eq_false (by omega)
    go_enter Tryz.func68, Tryz.ntmps68
    go_wp2
    first | (go_ret; exact ⟨rfl, rfl⟩) | (go_ret; exact ⟨rfl, 0, rfl⟩) | (go_quiet (fail); go_wp2; go_ret; exact ⟨rfl, _, rfl⟩)
  have d2 : decide (b ≤ 100000) = true := decide_eq_true (by omega)
  by_cases h5 : b < a
  · rw [oFault_form (by omega) h5]
    go_enter Tryz.func68, Tryz.ntmps68
    go_wp2
    first | (go_ret; exact ⟨rfl, rfl⟩) | (go_ret; exact ⟨rfl, 0, rfl⟩) | (go_quiet (fail); go_wp2; go_ret; exact ⟨rfl, _, rfl⟩)
  · rw [oFault_ok (by omega) h5]
    go_enter Tryz.func68, Tryz.ntmps68
    go_wp2
    first | (go_ret; exact ⟨rfl, rfl⟩) | (go_ret; exact ⟨rfl, 0, rfl⟩) | (go_quiet (fail); go_wp2; go_ret; exact ⟨rfl, _, rfl⟩)
/-- Block b holds a world, in it groups: their two lists, and all that is in them. -/
def LiesW (w : World) (b nr : Nat) (F : Nat → Int) (n : Nat) (S : Nat → Sto) (V : Nat → Nat → Value) (vr vs : Value) : Prop := (w.cell? ⟨b, 3, none⟩ = some vr ∧ w.cell? ⟨b, 4, none⟩ = some vs) ∧ Grs w 0 nr F n S V vr vs
theorem LiesW.lt {w : World} {b nr : Nat} {F : Nat → Int} {n : Nat} {S : Nat → Sto} {V : Nat → Nat → Value} {vr vs : Value} (h : LiesW w b nr F n S V vr vs) : b < w.heap.size := World.block_lt_of_cell? w ⟨b, 3, none⟩ h.1.1
theorem LiesW.later {w w' : World} {b nr : Nat} {F : Nat → Int} {n : Nat} {S : Nat → Sto} {V : Nat → Nat → Value} {vr vs : Value} (h : LiesW w b nr F n S V vr vs) (hb : Below w.heap.size w w') : LiesW w' b nr F n S V vr vs :=
  ⟨⟨(hb.cell (p := ⟨b, 3, none⟩) h.lt).trans h.1.1, (hb.cell (p := ⟨b, 4, none⟩) h.lt).trans h.1.2⟩, h.2.later hb⟩
set_option maxRecDepth 100000 in
set_option maxHeartbeats 4000000 in
theorem l7Full_at (nr : Nat) (F : Nat → Int) (n : Nat) (S : Nat → Sto) (V : Nat → Nat → Value) (vr vs : Value) (b : Nat) (w : World) (h : LiesW w b nr F n S V vr vs) (hn : n ≤ 6) (hs : ∀ i, i < n → (S i).nc ≤ 200 ∧ (S i).nl ≤ 200 ∧ (S i).nw ≤ 200) :
    Calls Tryz.prog 104 #[.pointer (some ⟨b, 3, none⟩)] w fun e w' => e = .returned (.bool (decide (fullG n S))) ∧ Below w.heap.size w w' := by
  obtain ⟨a0, c0, a1, c1, rfl, rfl⟩ := h.2.form
  have H : Hid (LiesW w b nr F n S V (.slice a0 nr c0) (.slice a1 n c1)) := h
  have HN : Hid (∀ i, i < n → (S i).nc ≤ 200 ∧ (S i).nl ≤ 200 ∧ (S i).nw ≤ 200) := hs
  clear h hs
  go_enter Tryz.func104, Tryz.ntmps104
  go_wp2
  go_loopw [3, 4, 5, 6] (fun x y z i wr => ∃ (k p0 p1 p2 : Nat), k ≤ n ∧ x = .int .i64 p0 ∧ y = .int .i64 p1 ∧ z = .int .i64 p2 ∧ i = .int .i64 k ∧ Hid (p0 = sumN (fun i => (S i).nc) k ∧ p1 = sumN (fun i => (S i).nl) k ∧ p2 = sumN (fun i => (S i).nw) k) ∧ Hid (Below w.heap.size w wr)) (fun _ _ _ i _ => n - (intOf i).toNat)
  case atStart => exact ⟨0, 0, 0, 0, Nat.zero_le _, rfl, rfl, rfl, rfl, ⟨rfl, rfl, rfl⟩, Below.refl _ _⟩
  case round =>
    obtain ⟨k, p0, p1, p2, hk, rfl, rfl, rfl, rfl, HS, hR⟩ := hrel
    have hl0 := (H.out.later hR.out).1.2
    have q0 : p0 ≤ 1200 := by rw [HS.out.1]; exact sum_small (fun i hi => (HN.out i hi).1) hn hk
    have q1 : p1 ≤ 1200 := by rw [HS.out.2.1]; exact sum_small (fun i hi => (HN.out i hi).2.1) hn hk
    have q2 : p2 ≤ 1200 := by rw [HS.out.2.2]; exact sum_small (fun i hi => (HN.out i hi).2.2) hn hk
    by_cases hlt : k < n
    · obtain ⟨g, o, rfl, _, hg, ⟨b0, b1, b2⟩, sk⟩ := (H.out.later hR.out).2.2.at hlt
      obtain ⟨i0, d0, i1, d1, i2, d2, e0, e1, e2⟩ := sk.form
      rw [e0] at b0
      rw [e1] at b1
      rw [e2] at b2
      clear sk e0 e1 e2
      obtain ⟨n0, hn0⟩ : ∃ x, (S k).nc = x := ⟨_, rfl⟩
      obtain ⟨n1, hn1⟩ : ∃ x, (S k).nl = x := ⟨_, rfl⟩
      obtain ⟨n2, hn2⟩ : ∃ x, (S k).nw = x := ⟨_, rfl⟩
      rw [hn0] at b0
      rw [hn1] at b1
      rw [hn2] at b2
      have hB := HN.out k hlt
      rw [hn0, hn1, hn2] at hB
      obtain ⟨m0, m1, m2⟩ := hB
      have HS1 : Hid (p0 + n0 = sumN (fun i => (S i).nc) (k + 1) ∧ p1 + n1 = sumN (fun i => (S i).nl) (k + 1) ∧ p2 + n2 = sumN (fun i => (S i).nw) (k + 1)) := by
        refine ⟨?_, ?_, ?_⟩
        · show _ = sumN (fun i => (S i).nc) k + (S k).nc
          rw [HS.out.1, hn0]
        · show _ = sumN (fun i => (S i).nl) k + (S k).nl
          rw [HS.out.2.1, hn1]
        · show _ = sumN (fun i => (S i).nw) k + (S k).nw
          rw [HS.out.2.2, hn2]
      clear hn0 hn1 hn2 HS
      go_wp2
      go_roundw
      case rel => exact ⟨k + 1, p0 + n0, p1 + n1, p2 + n2, by omega, by go_num, by go_num, by go_num, by go_num, HS1, hR⟩
      case measure => simp [intOf]; omega
    · obtain rfl : k = n := by omega
      have HF : Hid (fullG k S ↔ (200 < p0 ∨ 200 < p1 ∨ 200 < p2)) := by unfold Hid fullG; rw [← HS.out.1, ← HS.out.2.1, ← HS.out.2.2]
      clear HS
      by_cases r0 : 200 < p0
      · have d : decide ((200 : Int) < (p0 : Int)) = true := decide_eq_true (by omega)
        have E : Hid (decide (fullG k S) = true) := decide_eq_true (HF.out.2 (Or.inl r0))
        clear r0 HF
        go_wp2
        go_ret
        exact ⟨by rw [E.out]; rfl, hR.out⟩
      have d0 : decide ((200 : Int) < (p0 : Int)) = false := decide_eq_false (by omega)
      by_cases r1 : 200 < p1
      · have d : decide ((200 : Int) < (p1 : Int)) = true := decide_eq_true (by omega)
        have E : Hid (decide (fullG k S) = true) := decide_eq_true (HF.out.2 (Or.inr (Or.inl r1)))
        clear r0 r1 HF
        go_wp2
        go_ret
        exact ⟨by rw [E.out]; rfl, hR.out⟩
      have d1 : decide ((200 : Int) < (p1 : Int)) = false := decide_eq_false (by omega)
      by_cases r2 : 200 < p2
      · have d : decide ((200 : Int) < (p2 : Int)) = true := decide_eq_true (by omega)
        have E : Hid (decide (fullG k S) = true) := decide_eq_true (HF.out.2 (Or.inr (Or.inr r2)))
        clear r0 r1 r2 HF
        go_wp2
        go_ret
        exact ⟨by rw [E.out]; rfl, hR.out⟩
      have d2 : decide ((200 : Int) < (p2 : Int)) = false := decide_eq_false (by omega)
      have E : Hid (decide (fullG k S) = false) := decide_eq_false (fun q => by have := HF.out.1 q; omega)
      clear r0 r1 r2 HF
      go_wp2
      go_ret
      exact ⟨by rw [E.out]; rfl, hR.out⟩
set_option maxRecDepth 100000 in
set_option maxHeartbeats 8000000 in
theorem l7Fault_at (nr : Nat) (F : Nat → Int) (n : Nat) (S : Nat → Sto) (V : Nat → Nat → Value) (vr vs : Value) (b : Nat) (w : World) (h : LiesW w b nr F n S V vr vs) (hr : nr ≤ 9223372036854775807) (hn : n ≤ 9223372036854775807) :
    Calls Tryz.prog 69 #[.pointer (some ⟨b, 3, none⟩)] w fun e w' => e = .returned (.int .i64 (groupsF nr F n S)) ∧ Below w.heap.size w w' := by
  obtain ⟨a0, c0, a1, c1, rfl, rfl⟩ := h.2.form
  have H : Hid (LiesW w b nr F n S V (.slice a0 nr c0) (.slice a1 n c1)) := h
  obtain ⟨p0, p1⟩ := h.1
  clear h
  obtain ⟨f, hf⟩ : ∃ f, rangesF nr F = f := ⟨_, rfl⟩
  have HF : Hid (rangesF nr F = f) := hf
  go_enter Tryz.func69, Tryz.ntmps69
  go_wp2_with fail
  refine (l6Fault_any _ 0 nr F _ H.out.2.1 hr).mono ?_
  rw [hf]
  rintro e w1 ⟨rfl, q1⟩
  have B1 : Hid (Below w.heap.size w w1) := q1
  clear q1 hf p0 p1
  by_cases hz : f = 0
  case neg =>
    have d : (f == 0) = false := beq_eq_false_iff_ne.2 hz
    have d' : (f != 0) = true := bne_iff_ne.2 hz
    have E : Hid (groupsF nr F n S = f) := by unfold Hid groupsF; rw [HF.out, if_pos hz]
    clear hz HF
    go_wp2
    go_ret
    exact ⟨by rw [E.out]; rfl, B1.out⟩
  subst hz
  have G : Hid (Good nr F) := good_of HF.out
  obtain ⟨p0, p1⟩ := (H.out.later B1.out).1
  by_cases hnn : n = nr
  case neg =>
    have d : ((n : Int) != (nr : Int)) = true := bne_iff_ne.2 (by omega)
    have E : Hid (groupsF nr F n S = 1) := by unfold Hid groupsF; rw [HF.out, if_neg (by decide), if_pos hnn]
    clear HF hnn
    go_wp2_with fail
    go_quiet (fail)
    go_wp2
    go_ret
    exact ⟨by rw [E.out]; rfl, below_dr B1.out _⟩
  have HG : Hid (groupsF nr F n S = if scan (oneF F S) n ≠ 0 then scan (oneF F S) n else if fullG n S then 2 else 0) := by unfold Hid groupsF; rw [HF.out, if_neg (by decide), if_neg (fun q => q hnn)]
  have hn6 : n ≤ 6 := by have := G.out.n6; omega
  subst hnn
  clear HF
  go_wp2_with fail
  go_quiet (fail)
  go_wp2_with fail
  clear p0 p1
  go_loopw [4] (fun i wr => ∃ k : Nat, k ≤ n ∧ i = .int .i64 k ∧ Hid (scan (oneF F S) k = 0) ∧ Hid (Below w.heap.size w wr)) (fun i _ => n - (intOf i).toNat)
  case atStart => exact ⟨0, Nat.zero_le _, rfl, rfl, below_dr B1.out _⟩
  case round =>
    obtain ⟨k, hk, rfl, HS, hR⟩ := hrel
    have HL : Hid (LiesW wr b n F n S V (.slice a0 n c0) (.slice a1 n c1)) := H.out.later hR.out
    obtain ⟨p0, p1⟩ := HL.out.1
    by_cases hlt : k < n
    · obtain ⟨g, o, rfl, _, hg, ⟨b0, b1, b2⟩, sk⟩ := HL.out.2.2.at hlt
      obtain ⟨gr, oR, rfl, _, hgr, t0, t1, t2⟩ := HL.out.2.1.at3 hlt
      have LS : Hid (LiesO wr g (o + k * 3) (S k) (V k 0) (V k 1) (V k 2)) := ⟨⟨b0, b1, b2⟩, sk⟩
      clear b0 b1 b2 sk t0 t1 t2
      obtain ⟨fs, hfs⟩ : ∃ x, storeF (S k) = x := ⟨_, rfl⟩
      have HFS : Hid (storeF (S k) = fs) := hfs
      go_wp2_with fail
      refine (l2Fault_anyO (S k) g (o + k * 3) _ _ _ _ LS.out).mono ?_
      rw [hfs]
      rintro e w3 ⟨rfl, q3⟩
      have B3 : Hid (Below w.heap.size w w3) := hR.out.trans (q3.mono hR.out.size)
      have LS3 : Hid (LiesO w3 g (o + k * 3) (S k) (V k 0) (V k 1) (V k 2)) := LS.out.later q3
      clear q3 hfs p0 p1 LS
      by_cases hz : fs = 0
      case neg =>
        have d : (fs == 0) = false := beq_eq_false_iff_ne.2 hz
        have d' : (fs != 0) = true := bne_iff_ne.2 hz
        have E : Hid (groupsF n F n S = fs) := by
          have h1 : oneF F S k = fs := by unfold oneF; rw [HFS.out, if_pos hz]
          have h2 : scan (oneF F S) n = fs := (scan_stop HS.out (by rw [h1]; exact hz) hlt).trans h1
          unfold Hid
          rw [HG.out, h2, if_pos hz]
        clear hz HFS HG HS
        go_wp2
        go_ret
        exact ⟨by rw [E.out]; rfl, B3.out⟩
      subst hz
      obtain ⟨p0, p1⟩ := (H.out.later B3.out).1
      obtain ⟨gr', oR', he, _, _, t0, t1, t2⟩ := (H.out.later B3.out).2.1.at3 hlt
      simp only [Option.some.injEq, Addr.mk.injEq, and_true] at he
      obtain ⟨rfl, rfl⟩ := he
      obtain ⟨fr, hfr⟩ : ∃ x, F (k * 3) = x := ⟨_, rfl⟩
      obtain ⟨tto, hto⟩ : ∃ x, F (k * 3 + 1) = x := ⟨_, rfl⟩
      obtain ⟨ep, hep⟩ : ∃ x, F (k * 3 + 2) = x := ⟨_, rfl⟩
      rw [hfr] at t0
      rw [hto] at t1
      rw [hep] at t2
      have HFT : Hid (F (k * 3) = fr ∧ F (k * 3 + 1) = tto) := ⟨hfr, hto⟩
      have hbd : Hid (0 ≤ tto ∧ tto ≤ 200) := by
        have := G.out.bounds k hlt
        rw [hfr, hto] at this
        exact ⟨by omega, by omega⟩
      clear hfr hto hep
      have Z := storeF_zero HFS.out
      have HZ : Hid ((S k).nc ≤ 200 ∧ (S k).nl ≤ 200 ∧ (S k).nw ≤ 200) := Z.1
      clear Z
      go_wp2_with fail
      refine (l7Outside_any (S k) g (o + k * 3) _ _ _ fr tto ep _ LS3.out HZ.out hbd.out).mono ?_
      by_cases hst : strayS (S k) fr tto
      · rw [decide_eq_true hst]
        rintro e w4 ⟨rfl, q4⟩
        have B4 : Hid (Below w.heap.size w w4) := B3.out.trans (q4.mono B3.out.size)
        have E : Hid (groupsF n F n S = 3) := by
          have h1 : oneF F S k = 3 := by unfold oneF; rw [HFS.out, if_neg (by decide), HFT.out.1, HFT.out.2, if_pos hst]
          have h2 : scan (oneF F S) n = 3 := (scan_stop HS.out (by rw [h1]; decide) hlt).trans h1
          unfold Hid
          rw [HG.out, h2, if_pos (by decide)]
        clear q4 hst HFS HG HS p0 p1 t0 t1 t2
        go_wp2
        go_ret
        exact ⟨by rw [E.out]; rfl, B4.out⟩
      · rw [decide_eq_false hst]
        rintro e w4 ⟨rfl, q4⟩
        have B4 : Hid (Below w.heap.size w w4) := B3.out.trans (q4.mono B3.out.size)
        have HS1 : Hid (scan (oneF F S) (k + 1) = 0) := scan_go HS.out (by unfold oneF; rw [HFS.out, if_neg (by decide), HFT.out.1, HFT.out.2, if_neg hst])
        clear q4 hst HFS HS p0 p1 t0 t1 t2
        go_wp2
        go_roundw
        case rel => exact ⟨k + 1, by omega, by go_num, HS1, B4⟩
        case measure => simp [intOf]; omega
    · obtain rfl : k = n := by omega
      have HSS : Hid (∀ i, i < k → (S i).nc ≤ 200 ∧ (S i).nl ≤ 200 ∧ (S i).nw ≤ 200) := fun i hi => by
        have h1 := scan_zero HS.out i hi
        unfold oneF at h1
        split at h1
        · rename_i q; exact absurd h1 q
        · rename_i q; exact (storeF_zero (Classical.not_not.1 q)).1
      have E : Hid (groupsF k F k S = if fullG k S then 2 else 0) := by unfold Hid; rw [HG.out, HS.out, if_neg (by decide)]
      clear HS HG hlt
      go_wp2_with fail
      refine (l7Full_at k F k S V _ _ b _ HL.out hn6 HSS.out).mono ?_
      by_cases hfu : fullG k S
      · rw [decide_eq_true hfu]
        have E2 : Hid (groupsF k F k S = 2) := by unfold Hid; rw [E.out, if_pos hfu]
        rintro e w4 ⟨rfl, q4⟩
        have B4 : Hid (Below w.heap.size w w4) := hR.out.trans (q4.mono hR.out.size)
        clear q4 hfu E
        go_wp2
        go_ret
        exact ⟨by rw [E2.out]; rfl, B4.out⟩
      · rw [decide_eq_false hfu]
        have E2 : Hid (groupsF k F k S = 0) := by unfold Hid; rw [E.out, if_neg hfu]
        rintro e w4 ⟨rfl, q4⟩
        have B4 : Hid (Below w.heap.size w w4) := hR.out.trans (q4.mono hR.out.size)
        clear q4 hfu E
        go_wp2
        go_ret
        exact ⟨by rw [E2.out]; rfl, B4.out⟩
end Go.Proofs.YtpfmifpjmcmlaaaGreat

namespace Go.Proofs.YtpfmifpjmcmlaaaGreat
open Go.RowKit

/-- A transaction that lies in block b from cell q on. -/
def LiesX (w : World) (b q : Nat) (s c u st a : Int) (n : Nat) (F : Nat → Int) (y : Value) : Prop :=
  (w.cell? ⟨b, q, none⟩ = some (.int .i64 s) ∧ w.cell? ⟨b, q + 1, none⟩ = some (.int .i64 c) ∧ w.cell? ⟨b, q + 2, none⟩ = some (.int .i64 u) ∧ w.cell? ⟨b, q + 3, none⟩ = some (.int .i64 st) ∧ w.cell? ⟨b, q + 4, none⟩ = some (.int .i64 a) ∧ w.cell? ⟨b, q + 5, none⟩ = some y) ∧ Row w 0 3 n F y ∧ CapOk y
theorem LiesX.lt {w : World} {b q : Nat} {s c u st a : Int} {n : Nat} {F : Nat → Int} {y : Value} (h : LiesX w b q s c u st a n F y) : b < w.heap.size := World.block_lt_of_cell? w ⟨b, q, none⟩ h.1.1
theorem LiesX.later {w x : World} {b q : Nat} {s c u st a : Int} {n : Nat} {F : Nat → Int} {y : Value} (h : LiesX w b q s c u st a n F y) (hb : Below w.heap.size w x) : LiesX x b q s c u st a n F y := by
  have hk : ∀ i, x.cell? ⟨b, i, none⟩ = w.cell? ⟨b, i, none⟩ := fun i => hb.cell (p := ⟨b, i, none⟩) h.lt
  obtain ⟨⟨h0, h1, h2, h3, h4, h5⟩, hr, hc⟩ := h
  exact ⟨⟨(hk _).trans h0, (hk _).trans h1, (hk _).trans h2, (hk _).trans h3, (hk _).trans h4, (hk _).trans h5⟩, hr.later hb, hc⟩

set_option maxRecDepth 100000 in
set_option maxHeartbeats 4000000 in
theorem l8Fault_at (b q6 : Nat) (s c u st a : Int) (n : Nat) (F : Nat → Int) (y : Value) (w : World) (h : LiesX w b q6 s c u st a n F y) (hn : n ≤ 9223372036854775807) :
    Calls Tryz.prog 70 #[.pointer (some ⟨b, q6, none⟩)] w fun e w' => e = .returned (.int .i64 (txnF s c u st a n F)) ∧ Below w.heap.size w w' := by
  obtain ⟨ao, cp, rfl⟩ := h.2.1.form
  have hcp : n ≤ cp := h.2.2 _ _ _ rfl
  have H : Hid (LiesX w b q6 s c u st a n F (.slice ao n cp)) := h
  obtain ⟨⟨p0, p1, p2, p3, p4, p5⟩, _⟩ := h
  by_cases h0 : 1 ≤ s ∧ s ≤ 100000
  case neg =>
    have D0 : Hid (decide (1 ≤ s ∧ s ≤ 100000) = false) := decide_eq_false h0
    have E : Hid (txnF s c u st a n F = 3) := txnF_range (Or.inl h0)
    clear h0
    go_enter Tryz.func70, Tryz.ntmps70
    go_wp2_with fail
    refine (tsT_is _ _ D0.out _).mono ?_
    rintro e w9 ⟨rfl, hw9⟩
    obtain rfl := hw9.symm
    go_wp2
    go_ret
    exact ⟨by rw [E.out]; rfl, Below.refl _ _⟩
  have D0 : Hid (decide (1 ≤ s ∧ s ≤ 100000) = true) := decide_eq_true h0
  by_cases h1 : 0 ≤ c ∧ c ≤ 100000
  case neg =>
    have D1 : Hid (decide (0 ≤ c ∧ c ≤ 100000) = false) := decide_eq_false h1
    have E : Hid (txnF s c u st a n F = 3) := txnF_range (Or.inr (Or.inl h1))
    clear h0 h1
    go_enter Tryz.func70, Tryz.ntmps70
    go_wp2_with fail
    refine (tsT_is _ _ D0.out _).mono ?_
    rintro e w9 ⟨rfl, hw9⟩
    obtain rfl := hw9.symm
    go_wp2_with fail
    refine (inT_is _ _ _ _ D1.out _).mono ?_
    rintro e w9 ⟨rfl, hw9⟩
    obtain rfl := hw9.symm
    go_wp2
    go_ret
    exact ⟨by rw [E.out]; rfl, Below.refl _ _⟩
  have D1 : Hid (decide (0 ≤ c ∧ c ≤ 100000) = true) := decide_eq_true h1
  by_cases h2 : 0 ≤ u ∧ u ≤ 100000
  case neg =>
    have D2 : Hid (decide (0 ≤ u ∧ u ≤ 100000) = false) := decide_eq_false h2
    have E : Hid (txnF s c u st a n F = 3) := txnF_range (Or.inr (Or.inr (Or.inl h2)))
    clear h0 h1 h2
    go_enter Tryz.func70, Tryz.ntmps70
    go_wp2_with fail
    refine (tsT_is _ _ D0.out _).mono ?_
    rintro e w9 ⟨rfl, hw9⟩
    obtain rfl := hw9.symm
    go_wp2_with fail
    refine (inT_is _ _ _ _ D1.out _).mono ?_
    rintro e w9 ⟨rfl, hw9⟩
    obtain rfl := hw9.symm
    go_wp2_with fail
    refine (inT_is _ _ _ _ D2.out _).mono ?_
    rintro e w9 ⟨rfl, hw9⟩
    obtain rfl := hw9.symm
    go_wp2
    go_ret
    exact ⟨by rw [E.out]; rfl, Below.refl _ _⟩
  have D2 : Hid (decide (0 ≤ u ∧ u ≤ 100000) = true) := decide_eq_true h2
  by_cases h3 : 1 ≤ st ∧ st ≤ 7
  case neg =>
    have D3 : Hid (decide (1 ≤ st ∧ st ≤ 7) = false) := decide_eq_false h3
    have E : Hid (txnF s c u st a n F = 3) := txnF_range (Or.inr (Or.inr (Or.inr h3)))
    clear h0 h1 h2 h3
    go_enter Tryz.func70, Tryz.ntmps70
    go_wp2_with fail
    refine (tsT_is _ _ D0.out _).mono ?_
    rintro e w9 ⟨rfl, hw9⟩
    obtain rfl := hw9.symm
    go_wp2_with fail
    refine (inT_is _ _ _ _ D1.out _).mono ?_
    rintro e w9 ⟨rfl, hw9⟩
    obtain rfl := hw9.symm
    go_wp2_with fail
    refine (inT_is _ _ _ _ D2.out _).mono ?_
    rintro e w9 ⟨rfl, hw9⟩
    obtain rfl := hw9.symm
    go_wp2_with fail
    refine (inT_is _ _ _ _ D3.out _).mono ?_
    rintro e w9 ⟨rfl, hw9⟩
    obtain rfl := hw9.symm
    go_wp2
    go_ret
    exact ⟨by rw [E.out]; rfl, Below.refl _ _⟩
  have D3 : Hid (decide (1 ≤ st ∧ st ≤ 7) = true) := decide_eq_true h3
  have HI : Hid (InB s c u st) := ⟨h0, h1, h2, h3⟩
  clear h0 h1 h2 h3
  by_cases hm : n < 1 ∨ 12 < n
  · have D4 : Hid (decide (1 ≤ (n : Int) ∧ (n : Int) ≤ 12) = false) := decide_eq_false (by omega)
    have E : Hid (txnF s c u st a n F = 2) := txnF_many HI.out hm
    clear hm
    go_enter Tryz.func70, Tryz.ntmps70
    go_wp2_with fail
    refine (tsT_is _ _ D0.out _).mono ?_
    rintro e w9 ⟨rfl, hw9⟩
    obtain rfl := hw9.symm
    go_wp2_with fail
    refine (inT_is _ _ _ _ D1.out _).mono ?_
    rintro e w9 ⟨rfl, hw9⟩
    obtain rfl := hw9.symm
    go_wp2_with fail
    refine (inT_is _ _ _ _ D2.out _).mono ?_
    rintro e w9 ⟨rfl, hw9⟩
    obtain rfl := hw9.symm
    go_wp2_with fail
    refine (inT_is _ _ _ _ D3.out _).mono ?_
    rintro e w9 ⟨rfl, hw9⟩
    obtain rfl := hw9.symm
    go_wp2_with fail
    refine (inT_is _ _ _ _ D4.out _).mono ?_
    rintro e w9 ⟨rfl, hw9⟩
    obtain rfl := hw9.symm
    go_wp2
    go_ret
    exact ⟨by rw [E.out]; rfl, Below.refl _ _⟩
  have D4 : Hid (decide (1 ≤ (n : Int) ∧ (n : Int) ≤ 12) = true) := decide_eq_true (by omega)
  have HM : Hid (¬ (n < 1 ∨ 12 < n)) := hm
  have hn1 : 1 ≤ n := by omega
  have hn12 : n ≤ 12 := by omega
  clear hm hn
  go_enter Tryz.func70, Tryz.ntmps70
  go_wp2_with fail
  refine (tsT_is _ _ D0.out _).mono ?_
  rintro e w9 ⟨rfl, hw9⟩
  obtain rfl := hw9.symm
  go_wp2_with fail
  refine (inT_is _ _ _ _ D1.out _).mono ?_
  rintro e w9 ⟨rfl, hw9⟩
  obtain rfl := hw9.symm
  go_wp2_with fail
  refine (inT_is _ _ _ _ D2.out _).mono ?_
  rintro e w9 ⟨rfl, hw9⟩
  obtain rfl := hw9.symm
  go_wp2_with fail
  refine (inT_is _ _ _ _ D3.out _).mono ?_
  rintro e w9 ⟨rfl, hw9⟩
  obtain rfl := hw9.symm
  go_wp2_with fail
  refine (inT_is _ _ _ _ D4.out _).mono ?_
  rintro e w9 ⟨rfl, hw9⟩
  obtain rfl := hw9.symm
  obtain ⟨f, hf⟩ : ∃ f, itemsF F n 0 = f := ⟨_, rfl⟩
  have HF : Hid (itemsF F n 0 = f) := hf
  clear hf D0 D1 D2 D3 D4
  go_wp2
  go_loopw [4] (fun i wr => ∃ k : Nat, k ≤ n ∧ i = .int .i64 k ∧ Hid (itemsF F (n - k) k = f) ∧ Hid (Below w.heap.size w wr)) (fun i _ => n - (intOf i).toNat)
  case atStart => exact ⟨0, Nat.zero_le _, rfl, HF, Below.refl _ _⟩
  case round =>
    obtain ⟨k, hk, rfl, HS, HB⟩ := hrel
    obtain ⟨⟨p0, p1, p2, p3, p4, p5⟩, hrow, _⟩ := H.out.later HB.out
    by_cases hlt : k < n
    case neg =>
      have en : n - k = 0 := by omega
      have E0 : Hid (itemsF F n 0 = 0) := by
        have := HS.out
        rw [en, itemsF] at this
        rw [HF.out, this]; exact rfl
      clear HS HF
      by_cases h4 : 0 ≤ a ∧ a ≤ n
      case neg =>
        have D5 : Hid (decide (0 ≤ a ∧ a ≤ (n : Int)) = false) := decide_eq_false h4
        have E : Hid (txnF s c u st a n F = 3) := txnF_at HI.out HM.out E0.out h4
        clear h4 en
        go_wp2_with fail
        refine (inT_is _ _ _ _ D5.out _).mono ?_
        rintro e w9 ⟨rfl, hw9⟩
        obtain rfl := hw9.symm
        go_wp2
        go_ret
        exact ⟨by rw [E.out]; rfl, HB.out⟩
      have D5 : Hid (decide (0 ≤ a ∧ a ≤ (n : Int)) = true) := decide_eq_true h4
      have HA : Hid (0 ≤ a ∧ a ≤ n) := h4
      clear h4 en
      obtain ⟨_, _, _, hst1, hst7⟩ := HI.out
      have h7 : st = 1 ∨ st = 2 ∨ st = 3 ∨ st = 4 ∨ st = 5 ∨ st = 6 ∨ st = 7 := by omega
      clear hst1 hst7
      rcases h7 with rfl | h7
      · by_cases hc : c = 0
        · have E : Hid (txnF s c u 1 a n F = 0) := txnF_ok HI.out HM.out E0.out HA.out (by omega)
          subst hc
          go_wp2_with fail
          refine (inT_is _ _ _ _ D5.out _).mono ?_
          rintro e w9 ⟨rfl, hw9⟩
          obtain rfl := hw9.symm
          go_wp2_with fail
          go_quiet (fail)
          go_wp2
          go_ret
          exact ⟨by rw [E.out]; rfl, below_dt HB.out _⟩
        · have E : Hid (txnF s c u 1 a n F = 1) := txnF_form HI.out HM.out E0.out HA.out (Or.inr ⟨rfl, hc⟩)
          have d : (c != 0) = true := bne_iff_ne.2 hc
          clear hc
          go_wp2_with fail
          refine (inT_is _ _ _ _ D5.out _).mono ?_
          rintro e w9 ⟨rfl, hw9⟩
          obtain rfl := hw9.symm
          go_wp2_with fail
          go_quiet (fail)
          go_wp2
          go_ret
          exact ⟨by rw [E.out]; rfl, below_dt HB.out _⟩
      have hc : c ≤ s ∨ s < c := by omega
      rcases h7 with rfl | rfl | rfl | h7
      iterate 3
        rcases hc with hc | hc
        · have E := (show Hid (txnF s c u _ a n F = 1) from txnF_form HI.out HM.out E0.out HA.out (Or.inl ⟨by omega, hc⟩))
          have d : decide (c ≤ s) = true := decide_eq_true hc
          clear hc
          go_wp2_with fail
          refine (inT_is _ _ _ _ D5.out _).mono ?_
          rintro e w9 ⟨rfl, hw9⟩
          obtain rfl := hw9.symm
          go_wp2_with fail
          go_quiet (fail)
          go_wp2
          go_ret
          exact ⟨by rw [E.out]; rfl, below_dt HB.out _⟩
        · have E := (show Hid (txnF s c u _ a n F = 0) from txnF_ok HI.out HM.out E0.out HA.out (by omega))
          have d : decide (c ≤ s) = false := decide_eq_false (by omega)
          clear hc
          go_wp2_with fail
          refine (inT_is _ _ _ _ D5.out _).mono ?_
          rintro e w9 ⟨rfl, hw9⟩
          obtain rfl := hw9.symm
          go_wp2_with fail
          go_quiet (fail)
          go_wp2
          go_ret
          exact ⟨by rw [E.out]; rfl, below_dt HB.out _⟩
      have E : Hid (txnF s c u st a n F = 0) := txnF_ok HI.out HM.out E0.out HA.out (by omega)
      clear hc
      rcases h7 with rfl | rfl | rfl
      iterate 3
        · go_wp2_with fail
          refine (inT_is _ _ _ _ D5.out _).mono ?_
          rintro e w9 ⟨rfl, hw9⟩
          obtain rfl := hw9.symm
          go_wp2_with fail
          go_quiet (fail)
          go_wp2
          go_ret
          exact ⟨by rw [E.out]; rfl, below_dt HB.out _⟩
    obtain ⟨g, o, rfl, _, hg, x0, x1, x2⟩ := hrow.at3 hlt
    have hm : Hid (0 < n - k ∧ n - k - 1 = n - (k + 1)) := ⟨by omega, by omega⟩
    obtain ⟨n0, N0⟩ : ∃ x, F (k * 3) = x := ⟨_, rfl⟩
    rw [N0] at x0
    obtain ⟨n1, N1⟩ : ∃ x, F (k * 3 + 1) = x := ⟨_, rfl⟩
    rw [N1] at x1
    obtain ⟨n2, N2⟩ : ∃ x, F (k * 3 + 2) = x := ⟨_, rfl⟩
    rw [N2] at x2
    have NN : Hid (F (k * 3) = n0 ∧ F (k * 3 + 1) = n1 ∧ F (k * 3 + 2) = n2) := ⟨N0, N1, N2⟩
    clear N0 N1 N2
    obtain ⟨q, hq⟩ : ∃ q, itemF n0 n1 n2 = q := ⟨_, rfl⟩
    have HQ : Hid (itemF n0 n1 n2 = q) := hq
    have HQ' : Hid (itemF (F (k * 3)) (F (k * 3 + 1)) (F (k * 3 + 2)) = q) := by
      unfold Hid
      rw [NN.out.1, NN.out.2.1, NN.out.2.2]; exact hq
    clear hq
    by_cases h5 : q = 0
    case neg =>
      have E0 := HS.out
      rw [itemsF_bad hm.out.1 HQ'.out h5] at E0
      have E : Hid (txnF s c u st a n F = q) := txnF_item HI.out HM.out (HF.out.trans E0.symm) h5
      have d : (q != 0) = true := bne_iff_ne.2 h5
      clear h5 HS E0 HF HQ'
      go_wp2_with fail
      refine (l8Item_is _ _ _ _).mono ?_
      rintro e w1 ⟨rfl, q1⟩
      rw [HQ.out]
      have HB : Hid (Below w.heap.size w w1) := HB.out.trans (q1.mono HB.out.size)
      clear q1
      go_wp2
      go_ret
      exact ⟨by rw [E.out]; rfl, HB.out⟩
    subst h5
    obtain ⟨r, hr⟩ : ∃ r, hasI F n0 k = r := ⟨_, rfl⟩
    have HR : Hid (hasI F n0 k = r) := hr
    have HR' : Hid (hasI F (F (k * 3)) k = r) := by unfold Hid; rw [NN.out.1]; exact hr
    clear hr
    have hrow' : Hid (Row wr 0 3 k F (.slice (some ⟨g, o, none⟩) k cp)) := by
      obtain ⟨ao, cp', hv, hrw⟩ := hrow
      simp only [Value.slice.injEq] at hv
      obtain ⟨hv, _, rfl⟩ := hv
      refine ⟨_, _, rfl, fun hk0 => ?_⟩
      obtain ⟨g', o', hv', hb', hg', hc'⟩ := hrw (by omega)
      rw [← hv] at hv'
      exact ⟨g', o', hv', hb', hg', fun p hp => hc' p (by omega)⟩
    cases r with
    | true =>
      have E0 := HS.out
      rw [itemsF_two hm.out.1 HQ'.out HR'.out] at E0
      have E : Hid (txnF s c u st a n F = 6) := txnF_item HI.out HM.out (HF.out.trans E0.symm) (by omega)
      clear HS E0 HF HQ' HR'
      go_wp2_with fail
      refine (l8Item_is _ _ _ _).mono ?_
      rintro e w1 ⟨rfl, q1⟩
      rw [HQ.out]
      have HB : Hid (Below w.heap.size w w1) := HB.out.trans (q1.mono HB.out.size)
      obtain ⟨⟨p0, p1, p2, p3, p4, p5⟩, hrow1, _⟩ := H.out.later HB.out
      have hkc : k ≤ cp := by omega
      have x0 := (q1.cell (p := ⟨g, o + k * 3, none⟩) hg).trans x0
      have RK : Hid (∀ x, Row x 0 3 k F (.slice (some ⟨g, o, none⟩) k cp) → Calls Tryz.prog 106 #[.slice (some ⟨g, o, none⟩) k cp, .int .i64 n0] x fun e w' => e = .returned (.bool true) ∧ w' = x) := fun x hx => l8Has_is _ 0 k F n0 true HR.out x hx (by omega)
      have R1 : Hid (Row w1 0 3 k F (.slice (some ⟨g, o, none⟩) k cp)) := hrow'.out.later q1
      clear q1 hrow hrow' hrow1
      go_wp2_with fail
      go_quiet (first | (go_at_call 106; refine Calls.quiet_of_same (RK.out _ R1.out)))
      go_wp2
      go_ret
      exact ⟨by rw [E.out]; rfl, below_dt HB.out _⟩
    | false =>
      have E : Hid (itemsF F (n - (k + 1)) (k + 1) = f) := by
        have E0 := HS.out
        rw [itemsF_on hm.out.1 HQ'.out HR'.out, hm.out.2] at E0
        exact E0
      clear HS HF HQ' HR'
      go_wp2_with fail
      refine (l8Item_is _ _ _ _).mono ?_
      rintro e w1 ⟨rfl, q1⟩
      rw [HQ.out]
      have HB : Hid (Below w.heap.size w w1) := HB.out.trans (q1.mono HB.out.size)
      obtain ⟨⟨p0, p1, p2, p3, p4, p5⟩, hrow1, _⟩ := H.out.later HB.out
      have hkc : k ≤ cp := by omega
      have x0 := (q1.cell (p := ⟨g, o + k * 3, none⟩) hg).trans x0
      have RK : Hid (∀ x, Row x 0 3 k F (.slice (some ⟨g, o, none⟩) k cp) → Calls Tryz.prog 106 #[.slice (some ⟨g, o, none⟩) k cp, .int .i64 n0] x fun e w' => e = .returned (.bool false) ∧ w' = x) := fun x hx => l8Has_is _ 0 k F n0 false HR.out x hx (by omega)
      have R1 : Hid (Row w1 0 3 k F (.slice (some ⟨g, o, none⟩) k cp)) := hrow'.out.later q1
      clear q1 hrow hrow' hrow1
      go_wp2_with fail
      go_quiet (first | (go_at_call 106; refine Calls.quiet_of_same (RK.out _ R1.out)))
      go_wp2
      go_roundw
      case rel => exact ⟨k + 1, by omega, by go_num, E, below_dt HB.out _⟩
      case measure => simp [intOf]; omega
end Go.Proofs.YtpfmifpjmcmlaaaGreat

namespace Go.Proofs.YtpfmifpjmcmlaaaGreat
open Go.RowKit

/-- Has one of the first k transactions the start of number i? -/
def takenT (T : Nat → Tx) (i k : Nat) : Prop := ∃ j, j < k ∧ (T j).s = (T i).s
theorem takenT_none (T : Nat → Tx) (i : Nat) : ¬ takenT T i 0 := fun ⟨_, hj, _⟩ => absurd hj (Nat.not_lt_zero _)
theorem takenT_go {T : Nat → Tx} {i k : Nat} (h : ¬ takenT T i k) (h2 : (T k).s ≠ (T i).s) : ¬ takenT T i (k + 1) := fun ⟨j, hj, e⟩ => by
  rcases Nat.lt_or_ge j k with q | q
  · exact h ⟨j, q, e⟩
  · obtain rfl : j = k := by omega
    exact h2 e
noncomputable def txF (t : Tx) : Int := txnF t.s t.c t.u t.st t.a t.m t.L
open Classical in
noncomputable def placeF (nx : Int) (T : Nat → Tx) (i : Nat) : Int := if txF (T i) ≠ 0 then txF (T i) else if nx ≤ (T i).s ∨ nx ≤ (T i).c then 3 else if takenT T i i then 6 else 0
theorem placeF_txn {nx : Int} {T : Nat → Tx} {i : Nat} (h : txF (T i) ≠ 0) : placeF nx T i = txF (T i) := by unfold placeF; rw [if_pos h]
theorem placeF_next {nx : Int} {T : Nat → Tx} {i : Nat} (h : txF (T i) = 0) (h2 : nx ≤ (T i).s ∨ nx ≤ (T i).c) : placeF nx T i = 3 := by unfold placeF; rw [if_neg (fun q => q h), if_pos h2]
theorem placeF_taken {nx : Int} {T : Nat → Tx} {i : Nat} (h : txF (T i) = 0) (h2 : ¬ (nx ≤ (T i).s ∨ nx ≤ (T i).c)) (h3 : takenT T i i) : placeF nx T i = 6 := by unfold placeF; rw [if_neg (fun q => q h), if_neg h2, if_pos h3]
theorem placeF_ok {nx : Int} {T : Nat → Tx} {i : Nat} (h : txF (T i) = 0) (h2 : ¬ (nx ≤ (T i).s ∨ nx ≤ (T i).c)) (h3 : ¬ takenT T i i) : placeF nx T i = 0 := by unfold placeF; rw [if_neg (fun q => q h), if_neg h2, if_neg h3]
noncomputable def worldF (nw nx bd : Int) (nr : Nat) (F : Nat → Int) (n : Nat) (S : Nat → Sto) (nt : Nat) (T : Nat → Tx) : Int :=
  if ¬ (0 ≤ nw ∧ nw ≤ 100000) then 3 else if oFault nx bd ≠ 0 then oFault nx bd else if groupsF nr F n S ≠ 0 then groupsF nr F n S else if 16 < nt then 2 else scan (placeF nx T) nt
section
variable {nw nx bd : Int} {nr : Nat} {F : Nat → Int} {n : Nat} {S : Nat → Sto} {nt : Nat} {T : Nat → Tx}
theorem worldF_now (h : ¬ (0 ≤ nw ∧ nw ≤ 100000)) : worldF nw nx bd nr F n S nt T = 3 := by unfold worldF; rw [if_pos h]
theorem worldF_oracle (h : 0 ≤ nw ∧ nw ≤ 100000) (h1 : oFault nx bd ≠ 0) : worldF nw nx bd nr F n S nt T = oFault nx bd := by unfold worldF; rw [if_neg (fun q => q h), if_pos h1]
theorem worldF_groups (h : 0 ≤ nw ∧ nw ≤ 100000) (h1 : oFault nx bd = 0) (h2 : groupsF nr F n S ≠ 0) : worldF nw nx bd nr F n S nt T = groupsF nr F n S := by unfold worldF; rw [if_neg (fun q => q h), if_neg (fun q => q h1), if_pos h2]
theorem worldF_many (h : 0 ≤ nw ∧ nw ≤ 100000) (h1 : oFault nx bd = 0) (h2 : groupsF nr F n S = 0) (h3 : 16 < nt) : worldF nw nx bd nr F n S nt T = 2 := by unfold worldF; rw [if_neg (fun q => q h), if_neg (fun q => q h1), if_neg (fun q => q h2), if_pos h3]
theorem worldF_txns (h : 0 ≤ nw ∧ nw ≤ 100000) (h1 : oFault nx bd = 0) (h2 : groupsF nr F n S = 0) (h3 : ¬ 16 < nt) : worldF nw nx bd nr F n S nt T = scan (placeF nx T) nt := by unfold worldF; rw [if_neg (fun q => q h), if_neg (fun q => q h1), if_neg (fun q => q h2), if_neg h3]
end
theorem Txs.lies {w : World} {B n : Nat} {T : Nat → Tx} {V : Nat → Value} {ao : Option Addr} {cp : Nat} (h : Txs w B n T V (.slice ao n cp)) {i : Nat} (hi : i < n) :
    ∃ g o, ao = some ⟨g, o, none⟩ ∧ g < w.heap.size ∧ LiesX w g (o + i * 6) (T i).s (T i).c (T i).u (T i).st (T i).a (T i).m (T i).L (V i) := by
  obtain ⟨g, o, ha, _, hg, hc, hr, hp⟩ := h.at hi
  exact ⟨g, o, ha, hg, hc, hr.mono (Nat.zero_le _), hp⟩
/-- Block b holds a world. -/
def LiesD (w : World) (b : Nat) (nw nx bd : Int) (nr : Nat) (F : Nat → Int) (n : Nat) (S : Nat → Sto) (V : Nat → Nat → Value) (vr vs : Value) (nt : Nat) (T : Nat → Tx) (X : Nat → Value) (vt : Value) : Prop :=
  Blk6 w b (.int .i64 nw) (.int .i64 nx) (.int .i64 bd) vr vs vt ∧ Grs w 0 nr F n S V vr vs ∧ Txs w 0 nt T X vt
theorem LiesD.later {w w' : World} {b : Nat} {nw nx bd : Int} {nr : Nat} {F : Nat → Int} {n : Nat} {S : Nat → Sto} {V : Nat → Nat → Value} {vr vs : Value} {nt : Nat} {T : Nat → Tx} {X : Nat → Value} {vt : Value} (h : LiesD w b nw nx bd nr F n S V vr vs nt T X vt) (hb : Below w.heap.size w w') : LiesD w' b nw nx bd nr F n S V vr vs nt T X vt := ⟨h.1.later hb, h.2.1.later hb, h.2.2.later hb⟩
theorem LiesD.groups {w : World} {b : Nat} {nw nx bd : Int} {nr : Nat} {F : Nat → Int} {n : Nat} {S : Nat → Sto} {V : Nat → Nat → Value} {vr vs : Value} {nt : Nat} {T : Nat → Tx} {X : Nat → Value} {vt : Value} (h : LiesD w b nw nx bd nr F n S V vr vs nt T X vt) : LiesW w b nr F n S V vr vs := ⟨⟨h.1.1.2.2.2.1, h.1.1.2.2.2.2.1⟩, h.2.1⟩
end Go.Proofs.YtpfmifpjmcmlaaaGreat

namespace Go.Proofs.YtpfmifpjmcmlaaaGreat
open Go.RowKit

theorem l9Time_at (now : Int) (r : Bool) (hr : decide (0 ≤ now ∧ now ≤ 100000) = r) (w : World) :
    Calls Tryz.prog 67 #[.int .i64 now] w fun e w' => e = .returned (.bool r) ∧ w' = w := by
  go_enter Tryz.func67, Tryz.ntmps67
  go_wp2_with fail
  refine (inT_is _ _ _ _ hr _).mono ?_
  rintro e w1 ⟨rfl, rfl⟩
  go_wp2
  go_ret
  exact ⟨rfl, rfl⟩
set_option maxRecDepth 100000 in
set_option maxHeartbeats 8000000 in
theorem l10Fault_any (b : Nat) (nw nx bd : Int) (nr : Nat) (F : Nat → Int) (n : Nat) (S : Nat → Sto) (V : Nat → Nat → Value) (vr vs : Value) (nt : Nat) (T : Nat → Tx) (X : Nat → Value) (vt : Value) (w : World) (h : LiesD w b nw nx bd nr F n S V vr vs nt T X vt) (hr : nr ≤ 9223372036854775807) (hn : n ≤ 9223372036854775807) (ht : nt ≤ 9223372036854775807) (hm : ∀ i, i < nt → (T i).m ≤ 9223372036854775807) :
    Calls Tryz.prog 34 #[.pointer (some ⟨b, 0, none⟩)] w fun e w' => e = .returned (.int .i64 (worldF nw nx bd nr F n S nt T)) ∧ Below w.heap.size w w' := by
  obtain ⟨a0, c0, a1, c1, rfl, rfl⟩ := h.2.1.form
  obtain ⟨a2, c2, rfl⟩ := h.2.2.form
  have H : Hid (LiesD w b nw nx bd nr F n S V (.slice a0 nr c0) (.slice a1 n c1) nt T X (.slice a2 nt c2)) := h
  have HM : Hid (∀ i, i < nt → (T i).m ≤ 9223372036854775807) := hm
  obtain ⟨⟨⟨p0, p1, p2, p3, p4, p5⟩, _⟩, _⟩ := h
  clear hm
  by_cases h0 : 0 ≤ nw ∧ nw ≤ 100000
  case neg =>
    have D0 : Hid (decide (0 ≤ nw ∧ nw ≤ 100000) = false) := decide_eq_false h0
    have E : Hid (worldF nw nx bd nr F n S nt T = 3) := worldF_now h0
    clear h0
    go_enter Tryz.func34, Tryz.ntmps34
    go_wp2_with fail
    refine (l9Time_at nw false D0.out _).mono ?_
    rintro e w1 ⟨rfl, rfl⟩
    go_wp2
    go_ret
    exact ⟨by rw [E.out]; rfl, Below.refl _ _⟩
  have D0 : Hid (decide (0 ≤ nw ∧ nw ≤ 100000) = true) := decide_eq_true h0
  have H0 : Hid (0 ≤ nw ∧ nw ≤ 100000) := h0
  clear h0
  obtain ⟨f, hf⟩ : ∃ f, oFault nx bd = f := ⟨_, rfl⟩
  have HF : Hid (oFault nx bd = f) := hf
  clear hf
  go_enter Tryz.func34, Tryz.ntmps34
  go_wp2_with fail
  refine (l9Time_at nw true D0.out _).mono ?_
  rintro e w1 ⟨rfl, rfl⟩
  go_wp2_with fail
  refine (l5Fault_at nx bd b _ p1 p2).mono ?_
  rw [HF.out]
  rintro e w2 ⟨rfl, q, rfl⟩
  have B2 : Hid (Below w1.heap.size w1 (w1.drewN q)) := below_dt (Below.refl _ _) _
  by_cases hz : f = 0
  case neg =>
    have d : (f == 0) = false := beq_eq_false_iff_ne.2 hz
    have d' : (f != 0) = true := bne_iff_ne.2 hz
    have E : Hid (worldF nw nx bd nr F n S nt T = f) := (worldF_oracle H0.out (by rw [HF.out]; exact hz)).trans HF.out
    clear hz HF
    go_wp2
    go_ret
    exact ⟨by rw [E.out]; rfl, B2.out⟩
  subst hz
  have L2 : Hid (LiesD (w1.drewN q) b nw nx bd nr F n S V (.slice a0 nr c0) (.slice a1 n c1) nt T X (.slice a2 nt c2)) := H.out.later B2.out
  generalize w1.drewN q = w2 at B2 L2 ⊢
  clear p0 p1 p2 p3 p4 p5 D0
  obtain ⟨⟨⟨p0, p1, p2, p3, p4, p5⟩, _⟩, _⟩ := L2.out
  obtain ⟨f, hf⟩ : ∃ f, groupsF nr F n S = f := ⟨_, rfl⟩
  have HG : Hid (groupsF nr F n S = f) := hf
  clear hf
  go_wp2_with fail
  refine (l7Fault_at nr F n S V _ _ b _ L2.out.groups hr hn).mono ?_
  rw [HG.out]
  rintro e w3 ⟨rfl, q3⟩
  have B3 : Hid (Below w1.heap.size w1 w3) := B2.out.trans (q3.mono B2.out.size)
  clear q3 L2 B2 p0 p1 p2 p3 p4 p5
  obtain ⟨⟨⟨p0, p1, p2, p3, p4, p5⟩, _⟩, _⟩ := H.out.later B3.out
  by_cases hz : f = 0
  case neg =>
    have d : (f == 0) = false := beq_eq_false_iff_ne.2 hz
    have d' : (f != 0) = true := bne_iff_ne.2 hz
    have E : Hid (worldF nw nx bd nr F n S nt T = f) := (worldF_groups H0.out HF.out (by rw [HG.out]; exact hz)).trans HG.out
    clear hz HF HG
    go_wp2
    go_ret
    exact ⟨by rw [E.out]; rfl, B3.out⟩
  subst hz
  by_cases h16 : 16 < nt
  · have d : decide ((16 : Int) < (nt : Int)) = true := decide_eq_true (by omega)
    have E : Hid (worldF nw nx bd nr F n S nt T = 2) := worldF_many H0.out HF.out HG.out h16
    clear h16 HF HG
    go_wp2
    go_ret
    exact ⟨by rw [E.out]; rfl, B3.out⟩
  have d : decide ((16 : Int) < (nt : Int)) = false := decide_eq_false (by omega)
  have EW : Hid (worldF nw nx bd nr F n S nt T = scan (placeF nx T) nt) := worldF_txns H0.out HF.out HG.out h16
  have hn16 : nt ≤ 16 := by omega
  clear h16 HF HG H0
  go_wp2_with fail
  clear p0 p1 p2 p3 p4 p5
  go_loopw [5] (fun i wr => ∃ k : Nat, k ≤ nt ∧ i = .int .i64 k ∧ Hid (scan (placeF nx T) k = 0) ∧ Hid (Below w1.heap.size w1 wr)) (fun i _ => nt - (intOf i).toNat)
  case atStart => exact ⟨0, Nat.zero_le _, rfl, rfl, B3⟩
  case round =>
    obtain ⟨k, hk, rfl, HS, HB⟩ := hrel
    have LR : Hid (LiesD wr b nw nx bd nr F n S V (.slice a0 nr c0) (.slice a1 n c1) nt T X (.slice a2 nt c2)) := H.out.later HB.out
    obtain ⟨⟨⟨p0, p1, p2, p3, p4, p5⟩, _⟩, _⟩ := LR.out
    by_cases hlt : k < nt
    case neg =>
      obtain rfl : k = nt := by omega
      have E : Hid (worldF nw nx bd nr F n S k T = 0) := EW.out.trans HS.out
      go_wp2
      go_ret
      exact ⟨by rw [E.out]; rfl, HB.out⟩
    obtain ⟨g, o, rfl, hg, LX⟩ := LR.out.2.2.lies hlt
    have LX : Hid (LiesX wr g (o + k * 6) (T k).s (T k).c (T k).u (T k).st (T k).a (T k).m (T k).L (X k)) := LX
    obtain ⟨f, hf⟩ : ∃ f, txF (T k) = f := ⟨_, rfl⟩
    have HF : Hid (txF (T k) = f) := hf
    have HF' : Hid (txnF (T k).s (T k).c (T k).u (T k).st (T k).a (T k).m (T k).L = f) := hf
    clear hf
    go_wp2_with fail
    refine (l8Fault_at g (o + k * 6) _ _ _ _ _ _ _ _ _ LX.out (HM.out k hlt)).mono ?_
    rw [HF'.out]
    rintro e w4 ⟨rfl, q4⟩
    have B4 : Hid (Below w1.heap.size w1 w4) := HB.out.trans (q4.mono HB.out.size)
    have LX4 : Hid (LiesX w4 g (o + k * 6) (T k).s (T k).c (T k).u (T k).st (T k).a (T k).m (T k).L (X k)) := LX.out.later q4
    clear q4 HB LR LX p0 p1 p2 p3 p4 p5 HF'
    by_cases hz : f = 0
    case neg =>
      have d : (f == 0) = false := beq_eq_false_iff_ne.2 hz
      have d' : (f != 0) = true := bne_iff_ne.2 hz
      have E : Hid (worldF nw nx bd nr F n S nt T = f) := by
        have h1 : placeF nx T k = f := (placeF_txn (by rw [HF.out]; exact hz)).trans HF.out
        exact EW.out.trans ((scan_stop HS.out (by rw [h1]; exact hz) hlt).trans h1)
      clear hz HF HS EW
      go_wp2
      go_ret
      exact ⟨by rw [E.out]; rfl, B4.out⟩
    subst hz
    obtain ⟨⟨⟨p0, p1, p2, p3, p4, p5⟩, _⟩, _⟩ := H.out.later B4.out
    obtain ⟨⟨x0, x1, _, _, _, _⟩, _⟩ := LX4.out
    obtain ⟨s, hs⟩ : ∃ x, (T k).s = x := ⟨_, rfl⟩
    obtain ⟨c, hc⟩ : ∃ x, (T k).c = x := ⟨_, rfl⟩
    rw [hs] at x0
    rw [hc] at x1
    have HSC : Hid ((T k).s = s ∧ (T k).c = c) := ⟨hs, hc⟩
    clear hs hc
    by_cases h1 : nx ≤ s
    · have d1 : decide (nx ≤ s) = true := decide_eq_true h1
      have E : Hid (worldF nw nx bd nr F n S nt T = 3) := by
        have e1 : placeF nx T k = 3 := placeF_next HF.out (Or.inl (by rw [HSC.out.1]; exact h1))
        exact EW.out.trans ((scan_stop HS.out (by rw [e1]; decide) hlt).trans e1)
      clear h1 HF HS EW
      go_wp2_with fail
      go_quiet (fail)
      go_wp2
      go_ret
      exact ⟨by rw [E.out]; rfl, below_dt B4.out _⟩
    have d1 : decide (nx ≤ s) = false := decide_eq_false h1
    by_cases h2 : nx ≤ c
    · have d2 : decide (nx ≤ c) = true := decide_eq_true h2
      have E : Hid (worldF nw nx bd nr F n S nt T = 3) := by
        have e1 : placeF nx T k = 3 := placeF_next HF.out (Or.inr (by rw [HSC.out.2]; exact h2))
        exact EW.out.trans ((scan_stop HS.out (by rw [e1]; decide) hlt).trans e1)
      clear h1 h2 HF HS EW
      go_wp2_with fail
      go_quiet (fail)
      go_wp2
      go_ret
      exact ⟨by rw [E.out]; rfl, below_dt B4.out _⟩
    have d2 : decide (nx ≤ c) = false := decide_eq_false h2
    have HX : Hid (¬ (nx ≤ (T k).s ∨ nx ≤ (T k).c)) := by
      unfold Hid
      rw [HSC.out.1, HSC.out.2]
      omega
    clear h1 h2
    go_wp2_with fail
    go_quiet (fail)
    go_wp2_with fail
    clear p0 p1 p2 p3 p4 p5 x0 x1 d1 d2
    go_loopw [8] (fun i wx => ∃ m : Nat, m ≤ k ∧ i = .int .i64 m ∧ Hid (¬ takenT T k m) ∧ Hid (Below w1.heap.size w1 wx)) (fun i _ => k - (intOf i).toNat)
    case atStart => exact ⟨0, Nat.zero_le _, rfl, takenT_none T k, below_dt B4.out _⟩
    case round =>
      obtain ⟨m, hmk, rfl, HT, HB⟩ := hrel
      obtain ⟨⟨⟨p0, p1, p2, p3, p4, p5⟩, _⟩, _, hx⟩ := H.out.later HB.out
      by_cases hlm : m < k
      case neg =>
        obtain rfl : m = k := by omega
        have HS1 : Hid (scan (placeF nx T) (m + 1) = 0) := scan_go HS.out (placeF_ok HF.out HX.out HT.out)
        clear HS HF HX HT HSC hx
        go_wp2
        go_roundw
        case rel => exact ⟨m + 1, by omega, by go_num, HS1, HB⟩
        case measure => simp [intOf]; omega
      obtain ⟨g1, o1, e1, _, _, ⟨x0, _⟩, _⟩ := hx.at hlt
      simp only [Option.some.injEq, Addr.mk.injEq, and_true] at e1
      obtain ⟨rfl, rfl⟩ := e1
      obtain ⟨g1, o1, e1, _, _, ⟨y0, _⟩, _⟩ := hx.at (i := m) (by omega)
      simp only [Option.some.injEq, Addr.mk.injEq, and_true] at e1
      obtain ⟨rfl, rfl⟩ := e1
      rw [HSC.out.1] at x0
      obtain ⟨r, hr'⟩ : ∃ x, (T m).s = x := ⟨_, rfl⟩
      rw [hr'] at y0
      have HR : Hid ((T m).s = r) := hr'
      clear hr' hx
      by_cases he : r = s
      · have E : Hid (worldF nw nx bd nr F n S nt T = 6) := by
          have e1 : placeF nx T k = 6 := placeF_taken HF.out HX.out ⟨m, hlm, by rw [HR.out, HSC.out.1]; exact he⟩
          exact EW.out.trans ((scan_stop HS.out (by rw [e1]; decide) hlt).trans e1)
        have d1 : (r == s) = true := beq_iff_eq.2 he
        clear he HF HS EW HT HX HR
        go_wp2_with fail
        go_quiet (fail)
        go_wp2
        go_ret
        exact ⟨by rw [E.out]; rfl, below_dt HB.out _⟩
      have d1 : (r == s) = false := beq_eq_false_iff_ne.2 he
      have HT1 : Hid (¬ takenT T k (m + 1)) := takenT_go HT.out (by rw [HR.out, HSC.out.1]; exact he)
      clear he HT HR
      go_wp2_with fail
      go_quiet (fail)
      go_wp2
      go_roundw
      case rel => exact ⟨m + 1, by omega, by go_num, HT1, below_dt HB.out _⟩
      case measure => simp [intOf]; omega
end Go.Proofs.YtpfmifpjmcmlaaaGreat

namespace Go.Proofs.YtpfmifpjmcmlaaaGreat
open Go.RowKit

set_option maxHeartbeats 1000000 in
theorem specWorldFault_any (nw nx bd : Int) (nr : Nat) (F : Nat → Int) (n : Nat) (S : Nat → Sto) (V : Nat → Nat → Value) (vr vs : Value) (nt : Nat) (T : Nat → Tx) (X : Nat → Value) (vt : Value) (B : Nat) (w : World) (h : Grs w B nr F n S V vr vs) (hx : Txs w B nt T X vt) (hr : nr ≤ 9223372036854775807) (hn : n ≤ 9223372036854775807) (ht : nt ≤ 9223372036854775807) (hm : ∀ i, i < nt → (T i).m ≤ 9223372036854775807) :
    Calls Tryz.prog 9 #[.agg #[.int .i64 nw, .int .i64 nx, .int .i64 bd, vr, vs, vt]] w fun e w' => e = .returned (.int .i64 (worldF nw nx bd nr F n S nt T)) ∧ Below w.heap.size w w' := by
  obtain ⟨a0, c0, a1, c1, rfl, rfl⟩ := h.form
  obtain ⟨a2, c2, rfl⟩ := hx.form
  have H : Hid (LiesD (w.alloc (.cells #[.int .i64 nw, .int .i64 nx, .int .i64 bd, .slice a0 nr c0, .slice a1 n c1, .slice a2 nt c2] 40)) w.heap.size nw nx bd nr F n S V (.slice a0 nr c0) (.slice a1 n c1) nt T X (.slice a2 nt c2)) := ⟨Blk6.new w _ _ _ _ _ _ _, (h.mono (Nat.zero_le _)).alloc _, (hx.mono (Nat.zero_le _)).alloc _⟩
  have HM : Hid (∀ i, i < nt → (T i).m ≤ 9223372036854775807) := hm
  clear h hx hm
  obtain ⟨f, E⟩ : ∃ f, Hid (worldF nw nx bd nr F n S nt T = f) := ⟨_, rfl⟩
  go_enter Tryz.func9, Tryz.ntmps9
  go_wp2_with fail
  refine (l10Fault_any _ nw nx bd nr F n S V _ _ nt T X _ _ H.out hr hn ht HM.out).mono ?_
  rw [E.out]
  rintro e w1 ⟨rfl, q1⟩
  have HB : Hid (Below w.heap.size w w1) := (below_alloc _ _).trans (q1.mono (by simp))
  clear q1
  go_wp2
  go_ret
  exact ⟨by rw [E.out]; rfl, HB.out⟩
end Go.Proofs.YtpfmifpjmcmlaaaGreat

namespace Go.Proofs.YtpfmifpjmcmlaaaGreat
open Go.RowKit

theorem isTimeT_is (v : Int) (r : Bool) (hr : decide (1 ≤ v ∧ v ≤ 100000) = r) (w : World) :
    Calls Tryz.prog 75 #[.int .i64 v] w fun e w' => e = .returned (.bool r) ∧ w' = w := by
  by_cases h1 : 1 ≤ v
  · by_cases h2 : v ≤ 100000
    · have d : decide (v ≤ 100000) = true := decide_eq_true h2
      rw [decide_eq_true (show 1 ≤ v ∧ v ≤ 100000 from ⟨h1, h2⟩)] at hr
      subst hr
      go_enter Tryz.func75, Tryz.ntmps75
      go_wp2
      go_ret
      exact ⟨rfl, rfl⟩
    · have d : decide (v ≤ 100000) = false := decide_eq_false h2
      rw [decide_eq_false (show ¬ (1 ≤ v ∧ v ≤ 100000) from fun h => h2 h.2)] at hr
      subst hr
      go_enter Tryz.func75, Tryz.ntmps75
      go_wp2
      go_ret
      exact ⟨rfl, rfl⟩
  · have d : decide (1 ≤ v) = false := decide_eq_false h1
    rw [decide_eq_false (show ¬ (1 ≤ v ∧ v ≤ 100000) from fun h => h1 h.1)] at hr
    subst hr
    go_enter Tryz.func75, Tryz.ntmps75
    go_wp2
    go_ret
    exact ⟨rfl, rfl⟩
theorem isValueT_is (v : Int) (r : Bool) (hr : decide (0 ≤ v ∧ v ≤ 9999) = r) (w : World) :
    Calls Tryz.prog 152 #[.int .i64 v] w fun e w' => e = .returned (.bool r) ∧ w' = w := by
  by_cases h1 : 0 ≤ v
  · by_cases h2 : v ≤ 9999
    · have d : decide (v ≤ 9999) = true := decide_eq_true h2
      rw [decide_eq_true (show 0 ≤ v ∧ v ≤ 9999 from ⟨h1, h2⟩)] at hr
      subst hr
      go_enter Tryz.func152, Tryz.ntmps152
      go_wp2
      go_ret
      exact ⟨rfl, rfl⟩
    · have d : decide (v ≤ 9999) = false := decide_eq_false h2
      rw [decide_eq_false (show ¬ (0 ≤ v ∧ v ≤ 9999) from fun h => h2 h.2)] at hr
      subst hr
      go_enter Tryz.func152, Tryz.ntmps152
      go_wp2
      go_ret
      exact ⟨rfl, rfl⟩
  · have d : decide (0 ≤ v) = false := decide_eq_false h1
    rw [decide_eq_false (show ¬ (0 ≤ v ∧ v ≤ 9999) from fun h => h1 h.1)] at hr
    subst hr
    go_enter Tryz.func152, Tryz.ntmps152
    go_wp2
    go_ret
    exact ⟨rfl, rfl⟩
theorem isUntilT_is (v : Int) (r : Bool) (hr : decide (0 ≤ v ∧ v ≤ 100000) = r) (w : World) :
    Calls Tryz.prog 74 #[.int .i64 v] w fun e w' => e = .returned (.bool r) ∧ w' = w := by
  by_cases h1 : 0 ≤ v
  · by_cases h2 : v ≤ 100000
    · have d : decide (v ≤ 100000) = true := decide_eq_true h2
      rw [decide_eq_true (show 0 ≤ v ∧ v ≤ 100000 from ⟨h1, h2⟩)] at hr
      subst hr
      go_enter Tryz.func74, Tryz.ntmps74
      go_wp2
      go_ret
      exact ⟨rfl, rfl⟩
    · have d : decide (v ≤ 100000) = false := decide_eq_false h2
      rw [decide_eq_false (show ¬ (0 ≤ v ∧ v ≤ 100000) from fun h => h2 h.2)] at hr
      subst hr
      go_enter Tryz.func74, Tryz.ntmps74
      go_wp2
      go_ret
      exact ⟨rfl, rfl⟩
  · have d : decide (0 ≤ v) = false := decide_eq_false h1
    rw [decide_eq_false (show ¬ (0 ≤ v ∧ v ≤ 100000) from fun h => h1 h.1)] at hr
    subst hr
    go_enter Tryz.func74, Tryz.ntmps74
    go_wp2
    go_ret
    exact ⟨rfl, rfl⟩
theorem keyAmong1_is (k kd v key : Int) (bc : Nat) (r : Bool) (hr : (k == key) = r) (w : World) (hc : w.cell? ⟨bc, 0, none⟩ = some (.int .i64 key)) :
    Calls Tryz.prog 168 #[.agg #[.int .i64 k, .int .i64 kd, .int .i64 v], .pointer (some ⟨bc, 0, none⟩)] w fun e w' => e = .returned (.bool r) ∧ Below w.heap.size w w' := by
  have hlt := World.block_lt_of_cell? w _ hc
  go_enter Tryz.func168, Tryz.ntmps168
  go_wp2
  go_ret
  exact ⟨by first | rfl | (rw [← hr]; rfl), below_alloc _ _⟩
set_option maxRecDepth 100000 in
set_option maxHeartbeats 4000000 in
theorem indexItem_is (bc : Nat) (key : Int) (B n : Nat) (F : Nat → Int) (v : Value) (r : Bool) (hr : hasI F key n = r) (w : World) (h : Row w B 3 n F v) (hn : n ≤ 9223372036854775807) (hw : w.cell? ⟨bc, 0, none⟩ = some (.int .i64 key)) :
    Calls Tryz.prog 187 #[v, .func (.func 168) #[] #[.pointer (some ⟨bc, 0, none⟩)]] w fun e w' => ∃ z : Int, e = .returned (.int .i64 z) ∧ decide (0 ≤ z) = r ∧ Below w.heap.size w w' := by
  obtain ⟨ao, cp, rfl⟩ := h.form
  have hbc := World.block_lt_of_cell? w _ hw
  have H : Hid (Row w B 3 n F (.slice ao n cp)) := h
  have HR : Hid (hasI F key n = r) := hr
  have HW : Hid (w.cell? ⟨bc, 0, none⟩ = some (.int .i64 key)) := hw
  clear h hr hw
  go_enter Tryz.func187, Tryz.ntmps187
  go_wp2
  go_loopw [8] (fun i wr => ∃ k : Nat, k ≤ n ∧ i = .int .i64 k ∧ Hid (hasI F key k = false) ∧ Hid (Below w.heap.size w wr)) (fun i _ => n - (intOf i).toNat)
  case atStart => exact ⟨0, Nat.zero_le _, rfl, rfl, Below.refl _ _⟩
  case round =>
    obtain ⟨k, hk, rfl, HS, HB⟩ := hrel
    by_cases hlt : k < n
    case neg =>
      obtain rfl : n = k := by omega
      go_wp2
      go_ret
      exact ⟨-1, rfl, HS.out.symm.trans HR.out, HB.out⟩
    obtain ⟨g, o, rfl, _, hg, x0, x1, x2⟩ := (H.out.later HB.out).at3 hlt
    obtain ⟨n0, N0⟩ : ∃ x, F (k * 3) = x := ⟨_, rfl⟩
    rw [N0] at x0
    obtain ⟨n1, N1⟩ : ∃ x, F (k * 3 + 1) = x := ⟨_, rfl⟩
    rw [N1] at x1
    obtain ⟨n2, N2⟩ : ∃ x, F (k * 3 + 2) = x := ⟨_, rfl⟩
    rw [N2] at x2
    have HC : Hid (wr.cell? ⟨bc, 0, none⟩ = some (.int .i64 key)) := (HB.out.cell (p := ⟨bc, 0, none⟩) hbc).trans HW.out
    by_cases hz : n0 = key
    · have hx : hasI F key n = true := hasI_true.2 ⟨k, hlt, N0.trans hz⟩
      have E : Hid (true = r) := hx.symm.trans HR.out
      have D : Hid ((n0 == key) = true) := by unfold Hid; rw [hz]; exact beq_self_eq_true _
      clear hx N0 N1 N2 hz
      go_wp2_with fail
      refine (keyAmong1_is n0 n1 n2 key bc true D.out _ HC.out).mono ?_
      rintro e w1 ⟨rfl, q1⟩
      have HB1 : Hid (Below w.heap.size w w1) := HB.out.trans (q1.mono HB.out.size)
      clear q1
      go_wp2
      go_ret
      exact ⟨k, rfl, by rw [← E.out]; exact decide_eq_true (by omega), HB1.out⟩
    · have E : Hid (hasI F key (k + 1) = false) := by
        unfold Hid
        rw [hasI, HS.out, N0, beq_eq_false_iff_ne.2 hz]; rfl
      have D : Hid ((n0 == key) = false) := beq_eq_false_iff_ne.2 hz
      clear N0 N1 N2 hz HS
      go_wp2_with fail
      refine (keyAmong1_is n0 n1 n2 key bc false D.out _ HC.out).mono ?_
      rintro e w1 ⟨rfl, q1⟩
      have HB1 : Hid (Below w.heap.size w w1) := HB.out.trans (q1.mono HB.out.size)
      clear q1
      go_wp2
      go_roundw
      case rel => exact ⟨k + 1, by omega, by go_num, E, HB1⟩
      case measure => simp [intOf]; omega
set_option maxHeartbeats 1000000 in
theorem containsItem_is (bc : Nat) (key : Int) (B n : Nat) (F : Nat → Int) (v : Value) (r : Bool) (hr : hasI F key n = r) (w : World) (h : Row w B 3 n F v) (hn : n ≤ 9223372036854775807) (hw : w.cell? ⟨bc, 0, none⟩ = some (.int .i64 key)) :
    Calls Tryz.prog 167 #[v, .func (.func 168) #[] #[.pointer (some ⟨bc, 0, none⟩)]] w fun e w' => e = .returned (.bool r) ∧ Below w.heap.size w w' := by
  obtain ⟨ao, cp, rfl⟩ := h.form
  have H : Hid (Row w B 3 n F (.slice ao n cp)) := h
  have HR : Hid (hasI F key n = r) := hr
  have HW : Hid (w.cell? ⟨bc, 0, none⟩ = some (.int .i64 key)) := hw
  clear h hr hw
  go_enter Tryz.func167, Tryz.ntmps167
  go_wp2_with fail
  refine (indexItem_is bc key B n F _ r HR.out _ H.out hn HW.out).mono ?_
  rintro e w1 ⟨z, rfl, hz, q1⟩
  have HZ : Hid (decide (0 ≤ z) = r) := hz
  have Q : Hid (Below w.heap.size w w1) := q1
  clear q1 hz
  go_wp2
  go_ret
  exact ⟨by rw [← HZ.out]; first | rfl | (congr 3), Q.out⟩
set_option maxHeartbeats 1000000 in
theorem keyAmong_is (v : Value) (B n : Nat) (F : Nat → Int) (key : Int) (r : Bool) (hr : hasI F key n = r) (w : World) (h : Row w B 3 n F v) (hn : n ≤ 9223372036854775807) :
    Calls Tryz.prog 127 #[v, .int .i64 key] w fun e w' => e = .returned (.bool r) ∧ Below w.heap.size w w' := by
  obtain ⟨ao, cp, rfl⟩ := h.form
  have H : Hid (Row w B 3 n F (.slice ao n cp)) := h
  have HR : Hid (hasI F key n = r) := hr
  clear h hr
  go_enter Tryz.func127, Tryz.ntmps127
  go_wp2_with fail
  refine (containsItem_is w.heap.size key B n F _ r HR.out _ (H.out.alloc _) hn (World.cell?_alloc_mark w _ _ _ 0)).mono ?_
  rintro e w1 ⟨rfl, q1⟩
  have Q : Hid (Below w.heap.size w w1) := (below_alloc _ _).trans (q1.mono (by simp))
  clear q1
  go_wp2
  go_ret
  exact ⟨rfl, Q.out⟩
/-- What the program tells of kind and value. -/
def valF (kd v : Int) : Int := if ¬ (1 ≤ kd ∧ kd ≤ 3) ∨ ¬ (0 ≤ v ∧ v ≤ 9999) then 3 else if v ≠ 0 ∧ kd ≠ 1 then 1 else 0
theorem itemF_val {k kd v : Int} (h : faultOf k = 0) : itemF k kd v = valF kd v := by unfold itemF valF; rw [if_neg (fun q => q h)]
set_option maxHeartbeats 1000000 in
theorem itemValue_is (k kd v : Int) (w : World) :
    Calls Tryz.prog 163 #[.agg #[.int .i64 k, .int .i64 kd, .int .i64 v]] w fun e w' => e = .returned (.int .i64 (valF kd v)) ∧ Below w.heap.size w w' := by
  by_cases h1 : 1 ≤ kd ∧ kd ≤ 3
  case neg =>
    have E : Hid (valF kd v = 3) := by unfold Hid valF; rw [if_pos (Or.inl h1)]
    have d1 : (kd == 1) = false := beq_eq_false_iff_ne.2 (by omega)
    have d2 : (kd == 2) = false := beq_eq_false_iff_ne.2 (by omega)
    have d3 : (kd == 3) = false := beq_eq_false_iff_ne.2 (by omega)
    clear h1
    go_enter Tryz.func163, Tryz.ntmps163
    go_wp2
    go_ret
    exact ⟨by rw [E.out]; rfl, below_alloc _ _⟩
  have hk : kd = 1 ∨ kd = 2 ∨ kd = 3 := by omega
  by_cases h2 : 0 ≤ v ∧ v ≤ 9999
  case neg =>
    have E : Hid (valF kd v = 3) := by unfold Hid valF; rw [if_pos (Or.inr h2)]
    have D : Hid (decide (0 ≤ v ∧ v ≤ 9999) = false) := decide_eq_false h2
    clear h1 h2
    rcases hk with rfl | rfl | rfl
    · go_enter Tryz.func163, Tryz.ntmps163
      go_wp2_with fail
      refine (isValueT_is _ _ D.out _).mono ?_
      rintro e w1 ⟨rfl, rfl⟩
      go_wp2
      go_ret
      exact ⟨by rw [E.out]; rfl, below_alloc _ _⟩
    · go_enter Tryz.func163, Tryz.ntmps163
      go_wp2_with fail
      refine (isValueT_is _ _ D.out _).mono ?_
      rintro e w1 ⟨rfl, rfl⟩
      go_wp2_with fail
      refine (isValueT_is _ _ D.out _).mono ?_
      rintro e w1 ⟨rfl, rfl⟩
      go_wp2
      go_ret
      exact ⟨by rw [E.out]; rfl, below_alloc _ _⟩
    · go_enter Tryz.func163, Tryz.ntmps163
      go_wp2_with fail
      refine (isValueT_is _ _ D.out _).mono ?_
      rintro e w1 ⟨rfl, rfl⟩
      go_wp2_with fail
      refine (isValueT_is _ _ D.out _).mono ?_
      rintro e w1 ⟨rfl, rfl⟩
      go_wp2
      go_ret
      exact ⟨by rw [E.out]; rfl, below_alloc _ _⟩
  have D : Hid (decide (0 ≤ v ∧ v ≤ 9999) = true) := decide_eq_true h2
  have HN : Hid (¬ (¬ (1 ≤ kd ∧ kd ≤ 3) ∨ ¬ (0 ≤ v ∧ v ≤ 9999))) := by
    rintro (q | q)
    · exact q h1
    · exact q h2
  clear h1 h2
  rcases hk with rfl | hk
  · have E : Hid (valF 1 v = 0) := by unfold Hid valF; rw [if_neg HN.out, if_neg (fun q => q.2 rfl)]
    go_enter Tryz.func163, Tryz.ntmps163
    go_wp2_with fail
    refine (isValueT_is _ _ D.out _).mono ?_
    rintro e w1 ⟨rfl, rfl⟩
    go_wp2
    go_ret
    exact ⟨by rw [E.out]; rfl, below_alloc _ _⟩
  by_cases h3 : v = 0
  · have E : Hid (valF kd v = 0) := by unfold Hid valF; rw [if_neg HN.out, if_neg (fun q => q.1 h3)]
    subst h3
    rcases hk with rfl | rfl
    · go_enter Tryz.func163, Tryz.ntmps163
      go_wp2_with fail
      refine (isValueT_is _ _ D.out _).mono ?_
      rintro e w1 ⟨rfl, rfl⟩
      go_wp2_with fail
      refine (isValueT_is _ _ D.out _).mono ?_
      rintro e w1 ⟨rfl, rfl⟩
      go_wp2
      go_ret
      exact ⟨by rw [E.out]; rfl, below_alloc _ _⟩
    · go_enter Tryz.func163, Tryz.ntmps163
      go_wp2_with fail
      refine (isValueT_is _ _ D.out _).mono ?_
      rintro e w1 ⟨rfl, rfl⟩
      go_wp2_with fail
      refine (isValueT_is _ _ D.out _).mono ?_
      rintro e w1 ⟨rfl, rfl⟩
      go_wp2
      go_ret
      exact ⟨by rw [E.out]; rfl, below_alloc _ _⟩
  · have E : Hid (valF kd v = 1) := by unfold Hid valF; rw [if_neg HN.out, if_pos ⟨h3, by omega⟩]
    have d : (v != 0) = true := bne_iff_ne.2 h3
    clear h3
    rcases hk with rfl | rfl
    · go_enter Tryz.func163, Tryz.ntmps163
      go_wp2_with fail
      refine (isValueT_is _ _ D.out _).mono ?_
      rintro e w1 ⟨rfl, rfl⟩
      go_wp2
      go_ret
      exact ⟨by rw [E.out]; rfl, below_alloc _ _⟩
    · go_enter Tryz.func163, Tryz.ntmps163
      go_wp2_with fail
      refine (isValueT_is _ _ D.out _).mono ?_
      rintro e w1 ⟨rfl, rfl⟩
      go_wp2
      go_ret
      exact ⟨by rw [E.out]; rfl, below_alloc _ _⟩
end Go.Proofs.YtpfmifpjmcmlaaaGreat

namespace Go.Proofs.YtpfmifpjmcmlaaaGreat
open Go.RowKit

theorem row_ahead {w : World} {g o n cp k B : Nat} {F : Nat → Int} (hrow : Row w B 3 n F (.slice (some ⟨g, o, none⟩) n cp)) (hk : k ≤ n) : Row w B 3 k F (.slice (some ⟨g, o, none⟩) k cp) := by
  obtain ⟨ao, cp', hv, hrw⟩ := hrow
  simp only [Value.slice.injEq] at hv
  obtain ⟨hv, _, rfl⟩ := hv
  refine ⟨_, _, rfl, fun hk0 => ?_⟩
  obtain ⟨g', o', hv', hb', hg', hc'⟩ := hrw (by omega)
  rw [← hv] at hv'
  exact ⟨g', o', hv', hb', hg', fun p hp => hc' p (by omega)⟩
set_option maxRecDepth 100000 in
set_option maxHeartbeats 4000000 in
theorem itemsFault_is (y : Value) (B n : Nat) (F : Nat → Int) (w : World) (h : Row w B 3 n F y) (hcap : CapOk y) (hn : n ≤ 12) :
    Calls Tryz.prog 122 #[y] w fun e w' => e = .returned (.int .i64 (itemsF F n 0)) ∧ Below w.heap.size w w' := by
  obtain ⟨ao, cp, rfl⟩ := h.form
  have hcp : n ≤ cp := hcap _ _ _ rfl
  have H : Hid (Row w B 3 n F (.slice ao n cp)) := h
  clear h hcap
  obtain ⟨f, hf⟩ : ∃ f, itemsF F n 0 = f := ⟨_, rfl⟩
  have HF : Hid (itemsF F n 0 = f) := hf
  rw [hf]
  clear hf
  go_enter Tryz.func122, Tryz.ntmps122
  go_wp2
  go_loopw [9] (fun i wr => ∃ k : Nat, k ≤ n ∧ i = .int .i64 k ∧ Hid (itemsF F (n - k) k = f) ∧ Hid (Below w.heap.size w wr)) (fun i _ => n - (intOf i).toNat)
  case atStart => exact ⟨0, Nat.zero_le _, rfl, HF, Below.refl _ _⟩
  case round =>
    obtain ⟨k, hk, rfl, HS, HB⟩ := hrel
    by_cases hlt : k < n
    case neg =>
      have en : n - k = 0 := by omega
      have E : Hid (f = 0) := by
        have := HS.out
        rw [en, itemsF] at this
        exact this.symm
      clear HS HF
      go_wp2
      go_ret
      exact ⟨by rw [E.out]; rfl, HB.out⟩
    have hrow := H.out.later HB.out
    obtain ⟨g, o, rfl, _, hg, x0, x1, x2⟩ := hrow.at3 hlt
    have hm : Hid (0 < n - k ∧ n - k - 1 = n - (k + 1)) := ⟨by omega, by omega⟩
    obtain ⟨n0, N0⟩ : ∃ x, F (k * 3) = x := ⟨_, rfl⟩
    rw [N0] at x0
    obtain ⟨n1, N1⟩ : ∃ x, F (k * 3 + 1) = x := ⟨_, rfl⟩
    rw [N1] at x1
    obtain ⟨n2, N2⟩ : ∃ x, F (k * 3 + 2) = x := ⟨_, rfl⟩
    rw [N2] at x2
    have NN : Hid (F (k * 3) = n0 ∧ F (k * 3 + 1) = n1 ∧ F (k * 3 + 2) = n2) := ⟨N0, N1, N2⟩
    clear N0 N1 N2
    by_cases h5 : faultOf n0 = 0
    case neg =>
      obtain ⟨q, hq⟩ : ∃ q, faultOf n0 = q := ⟨_, rfl⟩
      have HQ : Hid (faultOf n0 = q) := hq
      have E : Hid (f = q) := by
        have E0 := HS.out
        rw [itemsF_bad (f := q) hm.out.1 (by rw [NN.out.1]; unfold itemF; rw [if_pos h5]; exact hq) (by rw [← hq]; exact h5)] at E0
        exact E0.symm
      have d : (q != 0) = true := bne_iff_ne.2 (by rw [← hq]; exact h5)
      clear h5 hq HS HF
      go_wp2_with fail
      refine (keyFault_any _ _).mono ?_
      rintro e w9 ⟨rfl, hw9⟩
      obtain rfl := hw9.symm
      rw [HQ.out]
      go_wp2
      go_ret
      refine ⟨by rw [E.out]; rfl, ?_⟩
      repeat (first | exact Below.refl _ _ | exact HB.out | refine Below.setCell ?_ (by first | omega | (simp <;> omega) | (have := HB.out.size; simp <;> omega)) _ | refine Below.alloc ?_ (by first | omega | (simp <;> omega) | (have := HB.out.size; simp <;> omega)) _)
    have HK : Hid (faultOf n0 = 0) := h5
    clear h5
    obtain ⟨q, hq⟩ : ∃ q, valF n1 n2 = q := ⟨_, rfl⟩
    have HQ : Hid (valF n1 n2 = q) := hq
    have HQ' : Hid (itemF (F (k * 3)) (F (k * 3 + 1)) (F (k * 3 + 2)) = q) := by
      unfold Hid
      rw [NN.out.1, NN.out.2.1, NN.out.2.2, itemF_val HK.out]; exact hq
    clear hq
    have hkc : k ≤ cp := by omega
    have HZ : Hid (w.heap.size ≤ wr.heap.size) := HB.out.size
    have RK : Hid (Row wr B 3 k F (.slice (some ⟨g, o, none⟩) k cp)) := row_ahead hrow hk
    clear hrow
    by_cases h5 : q = 0
    case neg =>
      have E : Hid (f = q) := by
        have E0 := HS.out
        rw [itemsF_bad hm.out.1 HQ'.out h5] at E0
        exact E0.symm
      have d : (q != 0) = true := bne_iff_ne.2 h5
      clear h5 HS HF HQ'
      go_wp2_with fail
      refine (keyFault_any _ _).mono ?_
      rintro e w9 ⟨rfl, hw9⟩
      obtain rfl := hw9.symm
      rw [HK.out]
      go_wp2_with fail
      refine (itemValue_is _ _ _ _).mono ?_
      rintro e w1 ⟨rfl, q1⟩
      rw [HQ.out]
      have HB1 : Hid (Below w.heap.size w w1) := by
        refine Below.trans ?_ (q1.mono ?_)
        · repeat (first | exact Below.refl _ _ | exact HB.out | refine Below.setCell ?_ (by first | omega | (simp <;> omega) | (have := HB.out.size; simp <;> omega)) _ | refine Below.alloc ?_ (by first | omega | (simp <;> omega) | (have := HB.out.size; simp <;> omega)) _)
        · have := HZ.out; simp; omega
      clear q1
      go_wp2
      go_ret
      exact ⟨by rw [E.out]; rfl, HB1.out⟩
    subst h5
    obtain ⟨r, hr⟩ : ∃ r, hasI F n0 k = r := ⟨_, rfl⟩
    have HR : Hid (hasI F n0 k = r) := hr
    have HR' : Hid (hasI F (F (k * 3)) k = r) := by unfold Hid; rw [NN.out.1]; exact hr
    clear hr
    have K0 : Hid (Blk3 (wr.alloc (.cells #[.int .i64 n0, .int .i64 n1, .int .i64 n2] 80)) wr.heap.size (.int .i64 n0) (.int .i64 n1) (.int .i64 n2)) := Blk3.new wr _ _ _ _
    cases r with
    | true =>
      have E : Hid (f = 6) := by
        have E0 := HS.out
        rw [itemsF_two hm.out.1 HQ'.out HR'.out] at E0
        exact E0.symm
      clear HS HF HQ' HR'
      go_wp2_with fail
      refine (keyFault_any _ _).mono ?_
      rintro e w9 ⟨rfl, hw9⟩
      obtain rfl := hw9.symm
      rw [HK.out]
      go_wp2_with fail
      refine (itemValue_is _ _ _ _).mono ?_
      rintro e w1 ⟨rfl, q1⟩
      rw [HQ.out]
      have HB1 : Hid (Below w.heap.size w w1) := by
        refine Below.trans ?_ (q1.mono ?_)
        · repeat (first | exact Below.refl _ _ | exact HB.out | refine Below.setCell ?_ (by first | omega | (simp <;> omega) | (have := HB.out.size; simp <;> omega)) _ | refine Below.alloc ?_ (by first | omega | (simp <;> omega) | (have := HB.out.size; simp <;> omega)) _)
        · have := HZ.out; simp; omega
      have HB2 : Hid (Below wr.heap.size wr w1) := by
        refine Below.trans ?_ (q1.mono ?_)
        · repeat (first | exact Below.refl _ _ | exact HB.out | refine Below.setCell ?_ (by first | omega | (simp <;> omega) | (have := HB.out.size; simp <;> omega)) _ | refine Below.alloc ?_ (by first | omega | (simp <;> omega) | (have := HB.out.size; simp <;> omega)) _)
        · simp
      have R1 : Hid (Row w1 B 3 k F (.slice (some ⟨g, o, none⟩) k cp)) := RK.out.later HB2.out
      obtain ⟨⟨k0, k1, k2⟩, _⟩ := K0.out.later q1
      have hlt1 := World.block_lt_of_cell? w1 _ k0
      clear q1 K0 HB
      have h0S : (fun x : World => x.cell? ⟨wr.heap.size, 0, none⟩ = some (.int .i64 n0) ∧ Below w1.heap.size w1 x) w1.drew := ⟨k0, Below.drew (Below.refl _ _)⟩
      go_wp2_with fail
      refine wp_region_held_drew (S := fun x : World => x.cell? ⟨wr.heap.size, 0, none⟩ = some (.int .i64 n0) ∧ Below w1.heap.size w1 x) (by kernel_rfl) h0S (fun hS => ?_)
      clear h0S
      refine tkH 0 ?_ hS (fun wx hx => ?_) ?_; rotate_left
      · obtain ⟨hx0, _⟩ := hx; go_simp; try with_reducible rfl
      refine tkH 1 ?_ hS (fun wx hx => ?_) ?_; rotate_left
      · obtain ⟨hx0, _⟩ := hx; go_simp; try with_reducible rfl
      refine tkH 2 ?_ hS (fun wx hx => ?_) ?_; rotate_left
      · obtain ⟨hx0, _⟩ := hx; go_simp; try with_reducible rfl
      refine tkH 3 ?_ hS (fun wx hx => ?_) ?_; rotate_left
      · obtain ⟨hx0, _⟩ := hx; go_simp; try with_reducible rfl
      refine tkH 4 ?_ hS (fun wx hx => ?_) ?_; rotate_left
      · obtain ⟨hx0, _⟩ := hx; go_simp; try with_reducible rfl
      refine rdH 5 (fun K hK => ?_)
      go_simp
      go_wp2_with fail
      refine (keyAmong_is _ B k F n0 true HR.out _ (R1.out.later hS.2) (by omega)).mono ?_
      rintro e w2 ⟨rfl, q2⟩
      go_wp2_with fail
      refine hK.out _ _ ⟨(q2.cell (p := ⟨wr.heap.size, 0, none⟩) (Nat.lt_of_lt_of_le hlt1 hS.2.size)).trans hS.1, hS.2.trans (q2.mono hS.2.size)⟩ (fun hS => ?_)
      clear hK K q2
      refine wpAnyH_done (by kernel_rfl) ?_ _
      have HB3 : Hid (Below w.heap.size w w2) := HB1.out.trans (hS.2.mono HB1.out.size)
      go_simp
      go_wp2
      go_ret
      exact ⟨by rw [E.out]; rfl, HB3.out⟩
    | false =>
      have E : Hid (itemsF F (n - (k + 1)) (k + 1) = f) := by
        have E0 := HS.out
        rw [itemsF_on hm.out.1 HQ'.out HR'.out, hm.out.2] at E0
        exact E0
      clear HS HF HQ' HR'
      go_wp2_with fail
      refine (keyFault_any _ _).mono ?_
      rintro e w9 ⟨rfl, hw9⟩
      obtain rfl := hw9.symm
      rw [HK.out]
      go_wp2_with fail
      refine (itemValue_is _ _ _ _).mono ?_
      rintro e w1 ⟨rfl, q1⟩
      rw [HQ.out]
      have HB1 : Hid (Below w.heap.size w w1) := by
        refine Below.trans ?_ (q1.mono ?_)
        · repeat (first | exact Below.refl _ _ | exact HB.out | refine Below.setCell ?_ (by first | omega | (simp <;> omega) | (have := HB.out.size; simp <;> omega)) _ | refine Below.alloc ?_ (by first | omega | (simp <;> omega) | (have := HB.out.size; simp <;> omega)) _)
        · have := HZ.out; simp; omega
      have HB2 : Hid (Below wr.heap.size wr w1) := by
        refine Below.trans ?_ (q1.mono ?_)
        · repeat (first | exact Below.refl _ _ | exact HB.out | refine Below.setCell ?_ (by first | omega | (simp <;> omega) | (have := HB.out.size; simp <;> omega)) _ | refine Below.alloc ?_ (by first | omega | (simp <;> omega) | (have := HB.out.size; simp <;> omega)) _)
        · simp
      have R1 : Hid (Row w1 B 3 k F (.slice (some ⟨g, o, none⟩) k cp)) := RK.out.later HB2.out
      obtain ⟨⟨k0, k1, k2⟩, _⟩ := K0.out.later q1
      have hlt1 := World.block_lt_of_cell? w1 _ k0
      clear q1 K0 HB
      have h0S : (fun x : World => x.cell? ⟨wr.heap.size, 0, none⟩ = some (.int .i64 n0) ∧ Below w1.heap.size w1 x) w1.drew := ⟨k0, Below.drew (Below.refl _ _)⟩
      go_wp2_with fail
      refine wp_region_held_drew (S := fun x : World => x.cell? ⟨wr.heap.size, 0, none⟩ = some (.int .i64 n0) ∧ Below w1.heap.size w1 x) (by kernel_rfl) h0S (fun hS => ?_)
      clear h0S
      refine tkH 0 ?_ hS (fun wx hx => ?_) ?_; rotate_left
      · obtain ⟨hx0, _⟩ := hx; go_simp; try with_reducible rfl
      refine tkH 1 ?_ hS (fun wx hx => ?_) ?_; rotate_left
      · obtain ⟨hx0, _⟩ := hx; go_simp; try with_reducible rfl
      refine tkH 2 ?_ hS (fun wx hx => ?_) ?_; rotate_left
      · obtain ⟨hx0, _⟩ := hx; go_simp; try with_reducible rfl
      refine tkH 3 ?_ hS (fun wx hx => ?_) ?_; rotate_left
      · obtain ⟨hx0, _⟩ := hx; go_simp; try with_reducible rfl
      refine tkH 4 ?_ hS (fun wx hx => ?_) ?_; rotate_left
      · obtain ⟨hx0, _⟩ := hx; go_simp; try with_reducible rfl
      refine rdH 5 (fun K hK => ?_)
      go_simp
      go_wp2_with fail
      refine (keyAmong_is _ B k F n0 false HR.out _ (R1.out.later hS.2) (by omega)).mono ?_
      rintro e w2 ⟨rfl, q2⟩
      go_wp2_with fail
      refine hK.out _ _ ⟨(q2.cell (p := ⟨wr.heap.size, 0, none⟩) (Nat.lt_of_lt_of_le hlt1 hS.2.size)).trans hS.1, hS.2.trans (q2.mono hS.2.size)⟩ (fun hS => ?_)
      clear hK K q2
      refine wpAnyH_done (by kernel_rfl) ?_ _
      have HB3 : Hid (Below w.heap.size w w2) := HB1.out.trans (hS.2.mono HB1.out.size)
      go_simp
      go_wp2
      go_roundw
      case rel => exact ⟨k + 1, by omega, by go_num, E, HB3⟩
      case measure => simp [intOf]; omega
end Go.Proofs.YtpfmifpjmcmlaaaGreat

namespace Go.Proofs.YtpfmifpjmcmlaaaGreat
open Go.RowKit

/-- The type that stands for a state. -/
def StT (st : Int) (t : TypeId) : Prop := (st = 1 ∧ t = 205) ∨ (st = 2 ∧ t = 206) ∨ (st = 3 ∧ t = 207) ∨ (st = 4 ∧ t = 202) ∨ (st = 5 ∧ t = 208) ∨ (st = 6 ∧ t = 203) ∨ (st = 7 ∧ t = 204)
theorem StT.get {st : Int} (h : 1 ≤ st ∧ st ≤ 7) : ∃ t, StT st t := by
  have h7 : st = 1 ∨ st = 2 ∨ st = 3 ∨ st = 4 ∨ st = 5 ∨ st = 6 ∨ st = 7 := by omega
  unfold StT
  rcases h7 with h | h | h | h | h | h | h
  · exact ⟨_, Or.inl ⟨h, rfl⟩⟩
  · exact ⟨_, Or.inr (Or.inl ⟨h, rfl⟩)⟩
  · exact ⟨_, Or.inr (Or.inr (Or.inl ⟨h, rfl⟩))⟩
  · exact ⟨_, Or.inr (Or.inr (Or.inr (Or.inl ⟨h, rfl⟩)))⟩
  · exact ⟨_, Or.inr (Or.inr (Or.inr (Or.inr (Or.inl ⟨h, rfl⟩))))⟩
  · exact ⟨_, Or.inr (Or.inr (Or.inr (Or.inr (Or.inr (Or.inl ⟨h, rfl⟩)))))⟩
  · exact ⟨_, Or.inr (Or.inr (Or.inr (Or.inr (Or.inr (Or.inr ⟨h, rfl⟩)))))⟩
set_option maxHeartbeats 1000000 in
theorem stateOf_is (s c u st a : Int) (ao : Option Addr) (n cp : Nat) (t : TypeId) (ht : StT st t) (_ : n ≤ 12) (w : World) :
    Calls Tryz.prog 98 #[.agg #[.int .i64 s, .int .i64 c, .int .i64 u, .int .i64 st, .int .i64 a, .slice ao n cp]] w fun e w' => e = .returned (.iface t (.agg #[.int .i64 n, .int .i64 a])) ∧ Below w.heap.size w w' := by
  rcases ht with ⟨rfl, rfl⟩ | ⟨rfl, rfl⟩ | ⟨rfl, rfl⟩ | ⟨rfl, rfl⟩ | ⟨rfl, rfl⟩ | ⟨rfl, rfl⟩ | ⟨rfl, rfl⟩
  all_goals
    go_enter Tryz.func98, Tryz.ntmps98
    go_wp2
    go_ret
    exact ⟨rfl, (below_alloc _ _).alloc (by simp) _⟩
theorem as_first_first (v : Value) (w : World) : (Instr.typeAssert (.iface 205 v) 150 205 true).run Tryz.prog w = .ok (.tuple #[v, .bool true]) w := by kernel_rfl
theorem as_first_second (v : Value) (w : World) : (Instr.typeAssert (.iface 205 v) 150 206 true).run Tryz.prog w = .ok (.tuple #[.agg #[.int .i64 0, .int .i64 0], .bool false]) w := by kernel_rfl
theorem as_first_rest (v : Value) (w : World) : (Instr.typeAssert (.iface 205 v) 150 207 true).run Tryz.prog w = .ok (.tuple #[.agg #[.int .i64 0, .int .i64 0], .bool false]) w := by kernel_rfl
theorem as_first_done (v : Value) (w : World) : (Instr.typeAssert (.iface 205 v) 150 202 true).run Tryz.prog w = .ok (.tuple #[.agg #[.int .i64 0, .int .i64 0], .bool false]) w := by kernel_rfl
theorem as_second_first (v : Value) (w : World) : (Instr.typeAssert (.iface 206 v) 150 205 true).run Tryz.prog w = .ok (.tuple #[.agg #[.int .i64 0, .int .i64 0], .bool false]) w := by kernel_rfl
theorem as_second_second (v : Value) (w : World) : (Instr.typeAssert (.iface 206 v) 150 206 true).run Tryz.prog w = .ok (.tuple #[v, .bool true]) w := by kernel_rfl
theorem as_second_rest (v : Value) (w : World) : (Instr.typeAssert (.iface 206 v) 150 207 true).run Tryz.prog w = .ok (.tuple #[.agg #[.int .i64 0, .int .i64 0], .bool false]) w := by kernel_rfl
theorem as_second_done (v : Value) (w : World) : (Instr.typeAssert (.iface 206 v) 150 202 true).run Tryz.prog w = .ok (.tuple #[.agg #[.int .i64 0, .int .i64 0], .bool false]) w := by kernel_rfl
theorem as_rest_first (v : Value) (w : World) : (Instr.typeAssert (.iface 207 v) 150 205 true).run Tryz.prog w = .ok (.tuple #[.agg #[.int .i64 0, .int .i64 0], .bool false]) w := by kernel_rfl
theorem as_rest_second (v : Value) (w : World) : (Instr.typeAssert (.iface 207 v) 150 206 true).run Tryz.prog w = .ok (.tuple #[.agg #[.int .i64 0, .int .i64 0], .bool false]) w := by kernel_rfl
theorem as_rest_rest (v : Value) (w : World) : (Instr.typeAssert (.iface 207 v) 150 207 true).run Tryz.prog w = .ok (.tuple #[v, .bool true]) w := by kernel_rfl
theorem as_rest_done (v : Value) (w : World) : (Instr.typeAssert (.iface 207 v) 150 202 true).run Tryz.prog w = .ok (.tuple #[.agg #[.int .i64 0, .int .i64 0], .bool false]) w := by kernel_rfl
theorem as_done_first (v : Value) (w : World) : (Instr.typeAssert (.iface 202 v) 150 205 true).run Tryz.prog w = .ok (.tuple #[.agg #[.int .i64 0, .int .i64 0], .bool false]) w := by kernel_rfl
theorem as_done_second (v : Value) (w : World) : (Instr.typeAssert (.iface 202 v) 150 206 true).run Tryz.prog w = .ok (.tuple #[.agg #[.int .i64 0, .int .i64 0], .bool false]) w := by kernel_rfl
theorem as_done_rest (v : Value) (w : World) : (Instr.typeAssert (.iface 202 v) 150 207 true).run Tryz.prog w = .ok (.tuple #[.agg #[.int .i64 0, .int .i64 0], .bool false]) w := by kernel_rfl
theorem as_done_done (v : Value) (w : World) : (Instr.typeAssert (.iface 202 v) 150 202 true).run Tryz.prog w = .ok (.tuple #[v, .bool true]) w := by kernel_rfl
theorem as_undo_first (v : Value) (w : World) : (Instr.typeAssert (.iface 208 v) 150 205 true).run Tryz.prog w = .ok (.tuple #[.agg #[.int .i64 0, .int .i64 0], .bool false]) w := by kernel_rfl
theorem as_undo_second (v : Value) (w : World) : (Instr.typeAssert (.iface 208 v) 150 206 true).run Tryz.prog w = .ok (.tuple #[.agg #[.int .i64 0, .int .i64 0], .bool false]) w := by kernel_rfl
theorem as_undo_rest (v : Value) (w : World) : (Instr.typeAssert (.iface 208 v) 150 207 true).run Tryz.prog w = .ok (.tuple #[.agg #[.int .i64 0, .int .i64 0], .bool false]) w := by kernel_rfl
theorem as_undo_done (v : Value) (w : World) : (Instr.typeAssert (.iface 208 v) 150 202 true).run Tryz.prog w = .ok (.tuple #[.agg #[.int .i64 0, .int .i64 0], .bool false]) w := by kernel_rfl
theorem as_gone_first (v : Value) (w : World) : (Instr.typeAssert (.iface 203 v) 150 205 true).run Tryz.prog w = .ok (.tuple #[.agg #[.int .i64 0, .int .i64 0], .bool false]) w := by kernel_rfl
theorem as_gone_second (v : Value) (w : World) : (Instr.typeAssert (.iface 203 v) 150 206 true).run Tryz.prog w = .ok (.tuple #[.agg #[.int .i64 0, .int .i64 0], .bool false]) w := by kernel_rfl
theorem as_gone_rest (v : Value) (w : World) : (Instr.typeAssert (.iface 203 v) 150 207 true).run Tryz.prog w = .ok (.tuple #[.agg #[.int .i64 0, .int .i64 0], .bool false]) w := by kernel_rfl
theorem as_gone_done (v : Value) (w : World) : (Instr.typeAssert (.iface 203 v) 150 202 true).run Tryz.prog w = .ok (.tuple #[.agg #[.int .i64 0, .int .i64 0], .bool false]) w := by kernel_rfl
theorem as_left_first (v : Value) (w : World) : (Instr.typeAssert (.iface 204 v) 150 205 true).run Tryz.prog w = .ok (.tuple #[.agg #[.int .i64 0, .int .i64 0], .bool false]) w := by kernel_rfl
theorem as_left_second (v : Value) (w : World) : (Instr.typeAssert (.iface 204 v) 150 206 true).run Tryz.prog w = .ok (.tuple #[.agg #[.int .i64 0, .int .i64 0], .bool false]) w := by kernel_rfl
theorem as_left_rest (v : Value) (w : World) : (Instr.typeAssert (.iface 204 v) 150 207 true).run Tryz.prog w = .ok (.tuple #[.agg #[.int .i64 0, .int .i64 0], .bool false]) w := by kernel_rfl
theorem as_left_done (v : Value) (w : World) : (Instr.typeAssert (.iface 204 v) 150 202 true).run Tryz.prog w = .ok (.tuple #[.agg #[.int .i64 0, .int .i64 0], .bool false]) w := by kernel_rfl
/-- Whether Commit suits the state. -/
def SuitsT (s c st : Int) (r : Bool) : Prop := (st = 1 ∧ r = (c == 0)) ∨ ((st = 2 ∨ st = 3 ∨ st = 4) ∧ r = decide (s < c)) ∨ ((st = 5 ∨ st = 6 ∨ st = 7) ∧ r = true)
set_option maxHeartbeats 1000000 in
theorem commitSuits_is (s c u st a : Int) (ao : Option Addr) (n cp : Nat) (r : Bool) (hr : SuitsT s c st r) (hn : n ≤ 12) (w : World) :
    Calls Tryz.prog 123 #[.agg #[.int .i64 s, .int .i64 c, .int .i64 u, .int .i64 st, .int .i64 a, .slice ao n cp]] w fun e w' => e = .returned (.bool r) ∧ Below w.heap.size w w' := by
  obtain ⟨t, ht⟩ : ∃ t, StT st t := StT.get (by rcases hr with ⟨h, _⟩ | ⟨h, _⟩ | ⟨h, _⟩ <;> omega)
  rcases hr with ⟨rfl, rfl⟩ | ⟨h, rfl⟩ | ⟨h, rfl⟩
  · have HT : Hid (StT _ t) := ht
    clear ht
    go_enter Tryz.func123, Tryz.ntmps123
    go_wp2_with fail
    refine (stateOf_is _ _ _ _ _ _ _ _ t HT.out hn _).mono ?_
    rintro e w1 ⟨rfl, q1⟩
    have Q : Hid (Below w.heap.size w w1) := (below_alloc _ _).trans (q1.mono (by simp))
    obtain ⟨⟨k0, k1, k2, k3, k4, k5⟩, _⟩ := (Blk6.new w (.int .i64 s) (.int .i64 c) (.int .i64 u) (.int .i64 1) (.int .i64 a) (.slice ao n cp) 87).later q1
    clear q1
    obtain rfl : t = 205 := by
      rcases HT.out with h | h | h | h | h | h | h
      · exact h.2
      all_goals omega
    have t0 := as_first_first
    have t1 := as_first_second
    have t2 := as_first_rest
    have t3 := as_first_done
    go_wp2
    go_ret
    exact ⟨rfl, Q.out⟩
  · rcases h with rfl | rfl | rfl
    · have HT : Hid (StT _ t) := ht
      clear ht
      go_enter Tryz.func123, Tryz.ntmps123
      go_wp2_with fail
      refine (stateOf_is _ _ _ _ _ _ _ _ t HT.out hn _).mono ?_
      rintro e w1 ⟨rfl, q1⟩
      have Q : Hid (Below w.heap.size w w1) := (below_alloc _ _).trans (q1.mono (by simp))
      obtain ⟨⟨k0, k1, k2, k3, k4, k5⟩, _⟩ := (Blk6.new w (.int .i64 s) (.int .i64 c) (.int .i64 u) (.int .i64 2) (.int .i64 a) (.slice ao n cp) 87).later q1
      clear q1
      obtain rfl : t = 206 := by
        rcases HT.out with h | h | h | h | h | h | h
        · omega
        · exact h.2
        all_goals omega
      have t0 := as_second_first
      have t1 := as_second_second
      have t2 := as_second_rest
      have t3 := as_second_done
      go_wp2
      go_ret
      exact ⟨rfl, Q.out⟩
    · have HT : Hid (StT _ t) := ht
      clear ht
      go_enter Tryz.func123, Tryz.ntmps123
      go_wp2_with fail
      refine (stateOf_is _ _ _ _ _ _ _ _ t HT.out hn _).mono ?_
      rintro e w1 ⟨rfl, q1⟩
      have Q : Hid (Below w.heap.size w w1) := (below_alloc _ _).trans (q1.mono (by simp))
      obtain ⟨⟨k0, k1, k2, k3, k4, k5⟩, _⟩ := (Blk6.new w (.int .i64 s) (.int .i64 c) (.int .i64 u) (.int .i64 3) (.int .i64 a) (.slice ao n cp) 87).later q1
      clear q1
      obtain rfl : t = 207 := by
        rcases HT.out with h | h | h | h | h | h | h
        · omega
        · omega
        · exact h.2
        all_goals omega
      have t0 := as_rest_first
      have t1 := as_rest_second
      have t2 := as_rest_rest
      have t3 := as_rest_done
      go_wp2
      go_ret
      exact ⟨rfl, Q.out⟩
    · have HT : Hid (StT _ t) := ht
      clear ht
      go_enter Tryz.func123, Tryz.ntmps123
      go_wp2_with fail
      refine (stateOf_is _ _ _ _ _ _ _ _ t HT.out hn _).mono ?_
      rintro e w1 ⟨rfl, q1⟩
      have Q : Hid (Below w.heap.size w w1) := (below_alloc _ _).trans (q1.mono (by simp))
      obtain ⟨⟨k0, k1, k2, k3, k4, k5⟩, _⟩ := (Blk6.new w (.int .i64 s) (.int .i64 c) (.int .i64 u) (.int .i64 4) (.int .i64 a) (.slice ao n cp) 87).later q1
      clear q1
      obtain rfl : t = 202 := by
        rcases HT.out with h | h | h | h | h | h | h
        · omega
        · omega
        · omega
        · exact h.2
        all_goals omega
      have t0 := as_done_first
      have t1 := as_done_second
      have t2 := as_done_rest
      have t3 := as_done_done
      go_wp2
      go_ret
      exact ⟨rfl, Q.out⟩
  · rcases h with rfl | rfl | rfl
    · have HT : Hid (StT _ t) := ht
      clear ht
      go_enter Tryz.func123, Tryz.ntmps123
      go_wp2_with fail
      refine (stateOf_is _ _ _ _ _ _ _ _ t HT.out hn _).mono ?_
      rintro e w1 ⟨rfl, q1⟩
      have Q : Hid (Below w.heap.size w w1) := (below_alloc _ _).trans (q1.mono (by simp))
      obtain ⟨⟨k0, k1, k2, k3, k4, k5⟩, _⟩ := (Blk6.new w (.int .i64 s) (.int .i64 c) (.int .i64 u) (.int .i64 5) (.int .i64 a) (.slice ao n cp) 87).later q1
      clear q1
      obtain rfl : t = 208 := by
        rcases HT.out with h | h | h | h | h | h | h
        · omega
        · omega
        · omega
        · omega
        · exact h.2
        all_goals omega
      have t0 := as_undo_first
      have t1 := as_undo_second
      have t2 := as_undo_rest
      have t3 := as_undo_done
      go_wp2
      go_ret
      exact ⟨rfl, Q.out⟩
    · have HT : Hid (StT _ t) := ht
      clear ht
      go_enter Tryz.func123, Tryz.ntmps123
      go_wp2_with fail
      refine (stateOf_is _ _ _ _ _ _ _ _ t HT.out hn _).mono ?_
      rintro e w1 ⟨rfl, q1⟩
      have Q : Hid (Below w.heap.size w w1) := (below_alloc _ _).trans (q1.mono (by simp))
      obtain ⟨⟨k0, k1, k2, k3, k4, k5⟩, _⟩ := (Blk6.new w (.int .i64 s) (.int .i64 c) (.int .i64 u) (.int .i64 6) (.int .i64 a) (.slice ao n cp) 87).later q1
      clear q1
      obtain rfl : t = 203 := by
        rcases HT.out with h | h | h | h | h | h | h
        · omega
        · omega
        · omega
        · omega
        · omega
        · exact h.2
        · omega
      have t0 := as_gone_first
      have t1 := as_gone_second
      have t2 := as_gone_rest
      have t3 := as_gone_done
      go_wp2
      go_ret
      exact ⟨rfl, Q.out⟩
    · have HT : Hid (StT _ t) := ht
      clear ht
      go_enter Tryz.func123, Tryz.ntmps123
      go_wp2_with fail
      refine (stateOf_is _ _ _ _ _ _ _ _ t HT.out hn _).mono ?_
      rintro e w1 ⟨rfl, q1⟩
      have Q : Hid (Below w.heap.size w w1) := (below_alloc _ _).trans (q1.mono (by simp))
      obtain ⟨⟨k0, k1, k2, k3, k4, k5⟩, _⟩ := (Blk6.new w (.int .i64 s) (.int .i64 c) (.int .i64 u) (.int .i64 7) (.int .i64 a) (.slice ao n cp) 87).later q1
      clear q1
      obtain rfl : t = 204 := by
        rcases HT.out with h | h | h | h | h | h | h
        · omega
        · omega
        · omega
        · omega
        · omega
        · omega
        · exact h.2
      have t0 := as_left_first
      have t1 := as_left_second
      have t2 := as_left_rest
      have t3 := as_left_done
      go_wp2
      go_ret
      exact ⟨rfl, Q.out⟩
end Go.Proofs.YtpfmifpjmcmlaaaGreat

namespace Go.Proofs.YtpfmifpjmcmlaaaGreat
open Go.RowKit

theorem SuitsT.get {s c st : Int} (h : 1 ≤ st ∧ st ≤ 7) : ∃ r, SuitsT s c st r := by
  have h7 : st = 1 ∨ (st = 2 ∨ st = 3 ∨ st = 4) ∨ (st = 5 ∨ st = 6 ∨ st = 7) := by omega
  rcases h7 with h | h | h
  · exact ⟨_, Or.inl ⟨h, rfl⟩⟩
  · exact ⟨_, Or.inr (Or.inl ⟨h, rfl⟩)⟩
  · exact ⟨_, Or.inr (Or.inr ⟨h, rfl⟩)⟩
theorem SuitsT.no {s c st : Int} (h : SuitsT s c st false) : (st = 2 ∨ st = 3 ∨ st = 4) ∧ c ≤ s ∨ st = 1 ∧ c ≠ 0 := by
  rcases h with ⟨h, e⟩ | ⟨h, e⟩ | ⟨h, e⟩
  · exact Or.inr ⟨h, beq_eq_false_iff_ne.1 e.symm⟩
  · exact Or.inl ⟨h, by have := of_decide_eq_false e.symm; omega⟩
  · cases e
theorem SuitsT.yes {s c st : Int} (h : SuitsT s c st true) : ¬ ((st = 2 ∨ st = 3 ∨ st = 4) ∧ c ≤ s ∨ st = 1 ∧ c ≠ 0) := by
  rcases h with ⟨h, e⟩ | ⟨h, e⟩ | ⟨h, e⟩
  · have := eq_of_beq e.symm; omega
  · have := of_decide_eq_true e.symm; omega
  · omega
set_option maxRecDepth 100000 in
set_option maxHeartbeats 4000000 in
theorem implTxnFault_none (s u st a : Int) (n : Nat) (F : Nat → Int) (y : Value) (w : World) (h : Row w 0 3 n F y) (hcap : CapOk y) :
    Calls Tryz.prog 80 #[.agg #[.int .i64 s, .int .i64 0, .int .i64 u, .int .i64 st, .int .i64 a, y]] w fun e w' => e = .returned (.int .i64 (txnF s 0 u st a n F)) ∧ Below w.heap.size w w' := by
  obtain ⟨ao, cp, rfl⟩ := h.form
  have H : Hid (Row w 0 3 n F (.slice ao n cp)) := h
  clear h
  by_cases h0 : 1 ≤ s ∧ s ≤ 100000
  case neg =>
    have D0 : Hid (decide (1 ≤ s ∧ s ≤ 100000) = false) := decide_eq_false h0
    have E : Hid (txnF s 0 u st a n F = 3) := txnF_range (Or.inl h0)
    clear h0
    go_enter Tryz.func80, Tryz.ntmps80
    go_wp2_with fail
    refine (isTimeT_is _ _ D0.out _).mono ?_
    rintro e w9 ⟨rfl, hw9⟩
    obtain rfl := hw9.symm
    go_wp2
    go_ret
    exact ⟨by rw [E.out]; rfl, below_alloc _ _⟩
  have D0 : Hid (decide (1 ≤ s ∧ s ≤ 100000) = true) := decide_eq_true h0
  by_cases h2 : 0 ≤ u ∧ u ≤ 100000
  case neg =>
    have D2 : Hid (decide (0 ≤ u ∧ u ≤ 100000) = false) := decide_eq_false h2
    have E : Hid (txnF s 0 u st a n F = 3) := txnF_range (Or.inr (Or.inr (Or.inl h2)))
    clear h0 h2
    go_enter Tryz.func80, Tryz.ntmps80
    go_wp2_with fail
    refine (isTimeT_is _ _ D0.out _).mono ?_
    rintro e w9 ⟨rfl, hw9⟩
    obtain rfl := hw9.symm
    go_wp2_with fail
    refine (isUntilT_is _ _ D2.out _).mono ?_
    rintro e w9 ⟨rfl, hw9⟩
    obtain rfl := hw9.symm
    go_wp2
    go_ret
    exact ⟨by rw [E.out]; rfl, below_alloc _ _⟩
  have D2 : Hid (decide (0 ≤ u ∧ u ≤ 100000) = true) := decide_eq_true h2
  by_cases h3 : 1 ≤ st ∧ st ≤ 7
  case neg =>
    have E : Hid (txnF s 0 u st a n F = 3) := txnF_range (Or.inr (Or.inr (Or.inr h3)))
    by_cases h4 : st < 1
    focus
      have d : decide (st < 1) = true := decide_eq_true h4
    rotate_left
    focus
      have d : decide (st < 1) = false := decide_eq_false h4
      have d7 : decide (7 < st) = true := decide_eq_true (by omega)
    rotate_left
    all_goals
      clear h0 h2 h3 h4
      go_enter Tryz.func80, Tryz.ntmps80
      go_wp2_with fail
      refine (isTimeT_is _ _ D0.out _).mono ?_
      rintro e w9 ⟨rfl, hw9⟩
      obtain rfl := hw9.symm
      go_wp2_with fail
      refine (isUntilT_is _ _ D2.out _).mono ?_
      rintro e w9 ⟨rfl, hw9⟩
      obtain rfl := hw9.symm
      go_wp2
      go_ret
      exact ⟨by rw [E.out]; rfl, below_alloc _ _⟩
  have d : decide (st < 1) = false := decide_eq_false (by omega)
  have d7 : decide (7 < st) = false := decide_eq_false (by omega)
  have HI : Hid (InB s 0 u st) := ⟨h0, ⟨by omega, by omega⟩, h2, h3⟩
  clear h0 h2
  by_cases hm : n < 1 ∨ 12 < n
  · have E : Hid (txnF s 0 u st a n F = 2) := txnF_many HI.out hm
    clear h3
    by_cases hm1 : n < 1
    · obtain rfl : n = 0 := by omega
      clear hm hm1
      go_enter Tryz.func80, Tryz.ntmps80
      go_wp2_with fail
      refine (isTimeT_is _ _ D0.out _).mono ?_
      rintro e w9 ⟨rfl, hw9⟩
      obtain rfl := hw9.symm
      go_wp2_with fail
      refine (isUntilT_is _ _ D2.out _).mono ?_
      rintro e w9 ⟨rfl, hw9⟩
      obtain rfl := hw9.symm
      go_wp2
      go_ret
      exact ⟨by rw [E.out]; rfl, below_alloc _ _⟩
    · have e1 : decide ((n : Int) < 1) = false := decide_eq_false (by omega)
      have e2 : decide ((12 : Int) < (n : Int)) = true := decide_eq_true (by omega)
      clear hm hm1
      go_enter Tryz.func80, Tryz.ntmps80
      go_wp2_with fail
      refine (isTimeT_is _ _ D0.out _).mono ?_
      rintro e w9 ⟨rfl, hw9⟩
      obtain rfl := hw9.symm
      go_wp2_with fail
      refine (isUntilT_is _ _ D2.out _).mono ?_
      rintro e w9 ⟨rfl, hw9⟩
      obtain rfl := hw9.symm
      go_wp2
      go_ret
      exact ⟨by rw [E.out]; rfl, below_alloc _ _⟩
  have HM : Hid (¬ (n < 1 ∨ 12 < n)) := hm
  have e1 : decide ((n : Int) < 1) = false := decide_eq_false (by omega)
  have e2 : decide ((12 : Int) < (n : Int)) = false := decide_eq_false (by omega)
  have hn12 : n ≤ 12 := by omega
  clear hm
  obtain ⟨f, hf⟩ : ∃ f, itemsF F n 0 = f := ⟨_, rfl⟩
  have HF : Hid (itemsF F n 0 = f) := hf
  clear hf
  by_cases hf : f = 0
  case neg =>
    have E : Hid (txnF s 0 u st a n F = f) := txnF_item HI.out HM.out HF.out hf
    have df : (f != 0) = true := bne_iff_ne.2 hf
    clear hf h3
    go_enter Tryz.func80, Tryz.ntmps80
    go_wp2_with fail
    refine (isTimeT_is _ _ D0.out _).mono ?_
    rintro e w9 ⟨rfl, hw9⟩
    obtain rfl := hw9.symm
    go_wp2_with fail
    refine (isUntilT_is _ _ D2.out _).mono ?_
    rintro e w9 ⟨rfl, hw9⟩
    obtain rfl := hw9.symm
    go_wp2_with fail
    refine (itemsFault_is _ 0 n F _ (H.out.alloc _) hcap hn12).mono ?_
    rintro e w1 ⟨rfl, q1⟩
    rw [HF.out]
    have Q : Hid (Below w.heap.size w w1) := (below_alloc _ _).trans (q1.mono (by simp))
    obtain ⟨⟨k0, k1, k2, k3, k4, k5⟩, _⟩ := (Blk6.new w (.int .i64 s) (.int .i64 0) (.int .i64 u) (.int .i64 st) (.int .i64 a) (.slice ao n cp) 87).later q1
    clear q1
    go_wp2
    go_ret
    exact ⟨by rw [E.out]; rfl, Q.out⟩
  subst hf
  by_cases ha : 0 ≤ a ∧ a ≤ n
  case neg =>
    have E : Hid (txnF s 0 u st a n F = 3) := txnF_at HI.out HM.out HF.out ha
    by_cases ha0 : a < 0
    focus
      have da : decide (a < 0) = true := decide_eq_true ha0
    rotate_left
    focus
      have da : decide (a < 0) = false := decide_eq_false ha0
      have db : decide ((n : Int) < a) = true := decide_eq_true (by omega)
    rotate_left
    all_goals
      clear ha ha0 h3
      go_enter Tryz.func80, Tryz.ntmps80
      go_wp2_with fail
      refine (isTimeT_is _ _ D0.out _).mono ?_
      rintro e w9 ⟨rfl, hw9⟩
      obtain rfl := hw9.symm
      go_wp2_with fail
      refine (isUntilT_is _ _ D2.out _).mono ?_
      rintro e w9 ⟨rfl, hw9⟩
      obtain rfl := hw9.symm
      go_wp2_with fail
      refine (itemsFault_is _ 0 n F _ (H.out.alloc _) hcap hn12).mono ?_
      rintro e w1 ⟨rfl, q1⟩
      rw [HF.out]
      have Q : Hid (Below w.heap.size w w1) := (below_alloc _ _).trans (q1.mono (by simp))
      obtain ⟨⟨k0, k1, k2, k3, k4, k5⟩, _⟩ := (Blk6.new w (.int .i64 s) (.int .i64 0) (.int .i64 u) (.int .i64 st) (.int .i64 a) (.slice ao n cp) 87).later q1
      clear q1
      go_wp2
      go_ret
      exact ⟨by rw [E.out]; rfl, Q.out⟩
  have da : decide (a < 0) = false := decide_eq_false (by omega)
  have db : decide ((n : Int) < a) = false := decide_eq_false (by omega)
  obtain ⟨r, hr⟩ : ∃ r, SuitsT s 0 st r := SuitsT.get h3
  have HR : Hid (SuitsT s 0 st r) := hr
  have HA : Hid (0 ≤ a ∧ a ≤ n) := ha
  clear ha h3 hr
  cases r with
  | false =>
    have E : Hid (txnF s 0 u st a n F = 1) := txnF_form HI.out HM.out HF.out HA.out HR.out.no
    go_enter Tryz.func80, Tryz.ntmps80
    go_wp2_with fail
    refine (isTimeT_is _ _ D0.out _).mono ?_
    rintro e w9 ⟨rfl, hw9⟩
    obtain rfl := hw9.symm
    go_wp2_with fail
    refine (isUntilT_is _ _ D2.out _).mono ?_
    rintro e w9 ⟨rfl, hw9⟩
    obtain rfl := hw9.symm
    go_wp2_with fail
    refine (itemsFault_is _ 0 n F _ (H.out.alloc _) hcap hn12).mono ?_
    rintro e w1 ⟨rfl, q1⟩
    rw [HF.out]
    have Q : Hid (Below w.heap.size w w1) := (below_alloc _ _).trans (q1.mono (by simp))
    obtain ⟨⟨k0, k1, k2, k3, k4, k5⟩, _⟩ := (Blk6.new w (.int .i64 s) (.int .i64 0) (.int .i64 u) (.int .i64 st) (.int .i64 a) (.slice ao n cp) 87).later q1
    clear q1
    go_wp2_with fail
    refine (commitSuits_is s 0 u st a ao n cp _ HR.out hn12 _).mono ?_
    rintro e w2 ⟨rfl, q2⟩
    have Q : Hid (Below w.heap.size w w2) := Q.out.trans (q2.mono Q.out.size)
    clear q2
    go_wp2
    go_ret
    exact ⟨by rw [E.out]; rfl, Q.out⟩
  | true =>
    have E : Hid (txnF s 0 u st a n F = 0) := txnF_ok HI.out HM.out HF.out HA.out HR.out.yes
    go_enter Tryz.func80, Tryz.ntmps80
    go_wp2_with fail
    refine (isTimeT_is _ _ D0.out _).mono ?_
    rintro e w9 ⟨rfl, hw9⟩
    obtain rfl := hw9.symm
    go_wp2_with fail
    refine (isUntilT_is _ _ D2.out _).mono ?_
    rintro e w9 ⟨rfl, hw9⟩
    obtain rfl := hw9.symm
    go_wp2_with fail
    refine (itemsFault_is _ 0 n F _ (H.out.alloc _) hcap hn12).mono ?_
    rintro e w1 ⟨rfl, q1⟩
    rw [HF.out]
    have Q : Hid (Below w.heap.size w w1) := (below_alloc _ _).trans (q1.mono (by simp))
    obtain ⟨⟨k0, k1, k2, k3, k4, k5⟩, _⟩ := (Blk6.new w (.int .i64 s) (.int .i64 0) (.int .i64 u) (.int .i64 st) (.int .i64 a) (.slice ao n cp) 87).later q1
    clear q1
    go_wp2_with fail
    refine (commitSuits_is s 0 u st a ao n cp _ HR.out hn12 _).mono ?_
    rintro e w2 ⟨rfl, q2⟩
    have Q : Hid (Below w.heap.size w w2) := Q.out.trans (q2.mono Q.out.size)
    clear q2
    go_wp2
    go_ret
    exact ⟨by rw [E.out]; rfl, Q.out⟩
set_option maxRecDepth 100000 in
set_option maxHeartbeats 4000000 in
theorem implTxnFault_some (s c u st a : Int) (n : Nat) (F : Nat → Int) (y : Value) (w : World) (h : Row w 0 3 n F y) (hcap : CapOk y) (hc0 : c ≠ 0) (h1 : 0 ≤ c ∧ c ≤ 100000) :
    Calls Tryz.prog 80 #[.agg #[.int .i64 s, .int .i64 c, .int .i64 u, .int .i64 st, .int .i64 a, y]] w fun e w' => e = .returned (.int .i64 (txnF s c u st a n F)) ∧ Below w.heap.size w w' := by
  obtain ⟨ao, cp, rfl⟩ := h.form
  have H : Hid (Row w 0 3 n F (.slice ao n cp)) := h
  clear h
  have dc : (c != 0) = true := bne_iff_ne.2 hc0
  have DC : Hid (decide (1 ≤ c ∧ c ≤ 100000) = true) := decide_eq_true (by omega)
  by_cases h0 : 1 ≤ s ∧ s ≤ 100000
  case neg =>
    have D0 : Hid (decide (1 ≤ s ∧ s ≤ 100000) = false) := decide_eq_false h0
    have E : Hid (txnF s c u st a n F = 3) := txnF_range (Or.inl h0)
    clear h0
    go_enter Tryz.func80, Tryz.ntmps80
    go_wp2_with fail
    refine (isTimeT_is _ _ DC.out _).mono ?_
    rintro e w9 ⟨rfl, hw9⟩
    obtain rfl := hw9.symm
    go_wp2_with fail
    refine (isTimeT_is _ _ D0.out _).mono ?_
    rintro e w9 ⟨rfl, hw9⟩
    obtain rfl := hw9.symm
    go_wp2
    go_ret
    exact ⟨by rw [E.out]; rfl, below_alloc _ _⟩
  have D0 : Hid (decide (1 ≤ s ∧ s ≤ 100000) = true) := decide_eq_true h0
  by_cases h2 : 0 ≤ u ∧ u ≤ 100000
  case neg =>
    have D2 : Hid (decide (0 ≤ u ∧ u ≤ 100000) = false) := decide_eq_false h2
    have E : Hid (txnF s c u st a n F = 3) := txnF_range (Or.inr (Or.inr (Or.inl h2)))
    clear h0 h2
    go_enter Tryz.func80, Tryz.ntmps80
    go_wp2_with fail
    refine (isTimeT_is _ _ DC.out _).mono ?_
    rintro e w9 ⟨rfl, hw9⟩
    obtain rfl := hw9.symm
    go_wp2_with fail
    refine (isTimeT_is _ _ D0.out _).mono ?_
    rintro e w9 ⟨rfl, hw9⟩
    obtain rfl := hw9.symm
    go_wp2_with fail
    refine (isUntilT_is _ _ D2.out _).mono ?_
    rintro e w9 ⟨rfl, hw9⟩
    obtain rfl := hw9.symm
    go_wp2
    go_ret
    exact ⟨by rw [E.out]; rfl, below_alloc _ _⟩
  have D2 : Hid (decide (0 ≤ u ∧ u ≤ 100000) = true) := decide_eq_true h2
  by_cases h3 : 1 ≤ st ∧ st ≤ 7
  case neg =>
    have E : Hid (txnF s c u st a n F = 3) := txnF_range (Or.inr (Or.inr (Or.inr h3)))
    by_cases h4 : st < 1
    focus
      have d : decide (st < 1) = true := decide_eq_true h4
    rotate_left
    focus
      have d : decide (st < 1) = false := decide_eq_false h4
      have d7 : decide (7 < st) = true := decide_eq_true (by omega)
    rotate_left
    all_goals
      clear h0 h2 h3 h4
      go_enter Tryz.func80, Tryz.ntmps80
      go_wp2_with fail
      refine (isTimeT_is _ _ DC.out _).mono ?_
      rintro e w9 ⟨rfl, hw9⟩
      obtain rfl := hw9.symm
      go_wp2_with fail
      refine (isTimeT_is _ _ D0.out _).mono ?_
      rintro e w9 ⟨rfl, hw9⟩
      obtain rfl := hw9.symm
      go_wp2_with fail
      refine (isUntilT_is _ _ D2.out _).mono ?_
      rintro e w9 ⟨rfl, hw9⟩
      obtain rfl := hw9.symm
      go_wp2
      go_ret
      exact ⟨by rw [E.out]; rfl, below_alloc _ _⟩
  have d : decide (st < 1) = false := decide_eq_false (by omega)
  have d7 : decide (7 < st) = false := decide_eq_false (by omega)
  have HI : Hid (InB s c u st) := ⟨h0, h1, h2, h3⟩
  clear h0 h2
  by_cases hm : n < 1 ∨ 12 < n
  · have E : Hid (txnF s c u st a n F = 2) := txnF_many HI.out hm
    clear h3
    by_cases hm1 : n < 1
    · obtain rfl : n = 0 := by omega
      clear hm hm1
      go_enter Tryz.func80, Tryz.ntmps80
      go_wp2_with fail
      refine (isTimeT_is _ _ DC.out _).mono ?_
      rintro e w9 ⟨rfl, hw9⟩
      obtain rfl := hw9.symm
      go_wp2_with fail
      refine (isTimeT_is _ _ D0.out _).mono ?_
      rintro e w9 ⟨rfl, hw9⟩
      obtain rfl := hw9.symm
      go_wp2_with fail
      refine (isUntilT_is _ _ D2.out _).mono ?_
      rintro e w9 ⟨rfl, hw9⟩
      obtain rfl := hw9.symm
      go_wp2
      go_ret
      exact ⟨by rw [E.out]; rfl, below_alloc _ _⟩
    · have e1 : decide ((n : Int) < 1) = false := decide_eq_false (by omega)
      have e2 : decide ((12 : Int) < (n : Int)) = true := decide_eq_true (by omega)
      clear hm hm1
      go_enter Tryz.func80, Tryz.ntmps80
      go_wp2_with fail
      refine (isTimeT_is _ _ DC.out _).mono ?_
      rintro e w9 ⟨rfl, hw9⟩
      obtain rfl := hw9.symm
      go_wp2_with fail
      refine (isTimeT_is _ _ D0.out _).mono ?_
      rintro e w9 ⟨rfl, hw9⟩
      obtain rfl := hw9.symm
      go_wp2_with fail
      refine (isUntilT_is _ _ D2.out _).mono ?_
      rintro e w9 ⟨rfl, hw9⟩
      obtain rfl := hw9.symm
      go_wp2
      go_ret
      exact ⟨by rw [E.out]; rfl, below_alloc _ _⟩
  have HM : Hid (¬ (n < 1 ∨ 12 < n)) := hm
  have e1 : decide ((n : Int) < 1) = false := decide_eq_false (by omega)
  have e2 : decide ((12 : Int) < (n : Int)) = false := decide_eq_false (by omega)
  have hn12 : n ≤ 12 := by omega
  clear hm
  obtain ⟨f, hf⟩ : ∃ f, itemsF F n 0 = f := ⟨_, rfl⟩
  have HF : Hid (itemsF F n 0 = f) := hf
  clear hf
  by_cases hf : f = 0
  case neg =>
    have E : Hid (txnF s c u st a n F = f) := txnF_item HI.out HM.out HF.out hf
    have df : (f != 0) = true := bne_iff_ne.2 hf
    clear hf h3
    go_enter Tryz.func80, Tryz.ntmps80
    go_wp2_with fail
    refine (isTimeT_is _ _ DC.out _).mono ?_
    rintro e w9 ⟨rfl, hw9⟩
    obtain rfl := hw9.symm
    go_wp2_with fail
    refine (isTimeT_is _ _ D0.out _).mono ?_
    rintro e w9 ⟨rfl, hw9⟩
    obtain rfl := hw9.symm
    go_wp2_with fail
    refine (isUntilT_is _ _ D2.out _).mono ?_
    rintro e w9 ⟨rfl, hw9⟩
    obtain rfl := hw9.symm
    go_wp2_with fail
    refine (itemsFault_is _ 0 n F _ (H.out.alloc _) hcap hn12).mono ?_
    rintro e w1 ⟨rfl, q1⟩
    rw [HF.out]
    have Q : Hid (Below w.heap.size w w1) := (below_alloc _ _).trans (q1.mono (by simp))
    obtain ⟨⟨k0, k1, k2, k3, k4, k5⟩, _⟩ := (Blk6.new w (.int .i64 s) (.int .i64 c) (.int .i64 u) (.int .i64 st) (.int .i64 a) (.slice ao n cp) 87).later q1
    clear q1
    go_wp2
    go_ret
    exact ⟨by rw [E.out]; rfl, Q.out⟩
  subst hf
  by_cases ha : 0 ≤ a ∧ a ≤ n
  case neg =>
    have E : Hid (txnF s c u st a n F = 3) := txnF_at HI.out HM.out HF.out ha
    by_cases ha0 : a < 0
    focus
      have da : decide (a < 0) = true := decide_eq_true ha0
    rotate_left
    focus
      have da : decide (a < 0) = false := decide_eq_false ha0
      have db : decide ((n : Int) < a) = true := decide_eq_true (by omega)
    rotate_left
    all_goals
      clear ha ha0 h3
      go_enter Tryz.func80, Tryz.ntmps80
      go_wp2_with fail
      refine (isTimeT_is _ _ DC.out _).mono ?_
      rintro e w9 ⟨rfl, hw9⟩
      obtain rfl := hw9.symm
      go_wp2_with fail
      refine (isTimeT_is _ _ D0.out _).mono ?_
      rintro e w9 ⟨rfl, hw9⟩
      obtain rfl := hw9.symm
      go_wp2_with fail
      refine (isUntilT_is _ _ D2.out _).mono ?_
      rintro e w9 ⟨rfl, hw9⟩
      obtain rfl := hw9.symm
      go_wp2_with fail
      refine (itemsFault_is _ 0 n F _ (H.out.alloc _) hcap hn12).mono ?_
      rintro e w1 ⟨rfl, q1⟩
      rw [HF.out]
      have Q : Hid (Below w.heap.size w w1) := (below_alloc _ _).trans (q1.mono (by simp))
      obtain ⟨⟨k0, k1, k2, k3, k4, k5⟩, _⟩ := (Blk6.new w (.int .i64 s) (.int .i64 c) (.int .i64 u) (.int .i64 st) (.int .i64 a) (.slice ao n cp) 87).later q1
      clear q1
      go_wp2
      go_ret
      exact ⟨by rw [E.out]; rfl, Q.out⟩
  have da : decide (a < 0) = false := decide_eq_false (by omega)
  have db : decide ((n : Int) < a) = false := decide_eq_false (by omega)
  obtain ⟨r, hr⟩ : ∃ r, SuitsT s c st r := SuitsT.get h3
  have HR : Hid (SuitsT s c st r) := hr
  have HA : Hid (0 ≤ a ∧ a ≤ n) := ha
  clear ha h3 hr
  cases r with
  | false =>
    have E : Hid (txnF s c u st a n F = 1) := txnF_form HI.out HM.out HF.out HA.out HR.out.no
    go_enter Tryz.func80, Tryz.ntmps80
    go_wp2_with fail
    refine (isTimeT_is _ _ DC.out _).mono ?_
    rintro e w9 ⟨rfl, hw9⟩
    obtain rfl := hw9.symm
    go_wp2_with fail
    refine (isTimeT_is _ _ D0.out _).mono ?_
    rintro e w9 ⟨rfl, hw9⟩
    obtain rfl := hw9.symm
    go_wp2_with fail
    refine (isUntilT_is _ _ D2.out _).mono ?_
    rintro e w9 ⟨rfl, hw9⟩
    obtain rfl := hw9.symm
    go_wp2_with fail
    refine (itemsFault_is _ 0 n F _ (H.out.alloc _) hcap hn12).mono ?_
    rintro e w1 ⟨rfl, q1⟩
    rw [HF.out]
    have Q : Hid (Below w.heap.size w w1) := (below_alloc _ _).trans (q1.mono (by simp))
    obtain ⟨⟨k0, k1, k2, k3, k4, k5⟩, _⟩ := (Blk6.new w (.int .i64 s) (.int .i64 c) (.int .i64 u) (.int .i64 st) (.int .i64 a) (.slice ao n cp) 87).later q1
    clear q1
    go_wp2_with fail
    refine (commitSuits_is s c u st a ao n cp _ HR.out hn12 _).mono ?_
    rintro e w2 ⟨rfl, q2⟩
    have Q : Hid (Below w.heap.size w w2) := Q.out.trans (q2.mono Q.out.size)
    clear q2
    go_wp2
    go_ret
    exact ⟨by rw [E.out]; rfl, Q.out⟩
  | true =>
    have E : Hid (txnF s c u st a n F = 0) := txnF_ok HI.out HM.out HF.out HA.out HR.out.yes
    go_enter Tryz.func80, Tryz.ntmps80
    go_wp2_with fail
    refine (isTimeT_is _ _ DC.out _).mono ?_
    rintro e w9 ⟨rfl, hw9⟩
    obtain rfl := hw9.symm
    go_wp2_with fail
    refine (isTimeT_is _ _ D0.out _).mono ?_
    rintro e w9 ⟨rfl, hw9⟩
    obtain rfl := hw9.symm
    go_wp2_with fail
    refine (isUntilT_is _ _ D2.out _).mono ?_
    rintro e w9 ⟨rfl, hw9⟩
    obtain rfl := hw9.symm
    go_wp2_with fail
    refine (itemsFault_is _ 0 n F _ (H.out.alloc _) hcap hn12).mono ?_
    rintro e w1 ⟨rfl, q1⟩
    rw [HF.out]
    have Q : Hid (Below w.heap.size w w1) := (below_alloc _ _).trans (q1.mono (by simp))
    obtain ⟨⟨k0, k1, k2, k3, k4, k5⟩, _⟩ := (Blk6.new w (.int .i64 s) (.int .i64 c) (.int .i64 u) (.int .i64 st) (.int .i64 a) (.slice ao n cp) 87).later q1
    clear q1
    go_wp2_with fail
    refine (commitSuits_is s c u st a ao n cp _ HR.out hn12 _).mono ?_
    rintro e w2 ⟨rfl, q2⟩
    have Q : Hid (Below w.heap.size w w2) := Q.out.trans (q2.mono Q.out.size)
    clear q2
    go_wp2
    go_ret
    exact ⟨by rw [E.out]; rfl, Q.out⟩
set_option maxHeartbeats 1000000 in
theorem implTxnFault_any (s c u st a : Int) (n : Nat) (F : Nat → Int) (y : Value) (w : World) (h : Row w 0 3 n F y) (hcap : CapOk y) :
    Calls Tryz.prog 80 #[.agg #[.int .i64 s, .int .i64 c, .int .i64 u, .int .i64 st, .int .i64 a, y]] w fun e w' => e = .returned (.int .i64 (txnF s c u st a n F)) ∧ Below w.heap.size w w' := by
  by_cases hc : c = 0
  · subst hc
    exact implTxnFault_none s u st a n F y w h hcap
  by_cases h1 : 0 ≤ c ∧ c ≤ 100000
  · exact implTxnFault_some s c u st a n F y w h hcap hc h1
  obtain ⟨ao, cp, rfl⟩ := h.form
  have dc : (c != 0) = true := bne_iff_ne.2 hc
  have DC : Hid (decide (1 ≤ c ∧ c ≤ 100000) = false) := decide_eq_false (by omega)
  have E : Hid (txnF s c u st a n F = 3) := txnF_range (Or.inr (Or.inl h1))
  clear h hcap
  obtain ⟨r, hr⟩ : ∃ r, decide (1 ≤ s ∧ s ≤ 100000) = r := ⟨_, rfl⟩
  have D0 : Hid (decide (1 ≤ s ∧ s ≤ 100000) = r) := hr
  clear hr hc h1
  cases r with
  | false =>
    go_enter Tryz.func80, Tryz.ntmps80
    go_wp2_with fail
    refine (isTimeT_is _ _ DC.out _).mono ?_
    rintro e w9 ⟨rfl, hw9⟩
    obtain rfl := hw9.symm
    go_wp2_with fail
    refine (isTimeT_is _ _ D0.out _).mono ?_
    rintro e w9 ⟨rfl, hw9⟩
    obtain rfl := hw9.symm
    go_wp2
    go_ret
    exact ⟨by rw [E.out]; rfl, below_alloc _ _⟩
  | true =>
    go_enter Tryz.func80, Tryz.ntmps80
    go_wp2_with fail
    refine (isTimeT_is _ _ DC.out _).mono ?_
    rintro e w9 ⟨rfl, hw9⟩
    obtain rfl := hw9.symm
    go_wp2_with fail
    refine (isTimeT_is _ _ D0.out _).mono ?_
    rintro e w9 ⟨rfl, hw9⟩
    obtain rfl := hw9.symm
    go_wp2
    go_ret
    exact ⟨by rw [E.out]; rfl, below_alloc _ _⟩
end Go.Proofs.YtpfmifpjmcmlaaaGreat

namespace Go.Proofs.YtpfmifpjmcmlaaaGreat
open Go.RowKit

theorem isNowW_is (now : Int) (r : Bool) (hr : decide (0 ≤ now ∧ now ≤ 100000) = r) (w : World) :
    Calls Tryz.prog 38 #[.int .i64 now] w fun e w' => e = .returned (.bool r) ∧ w' = w := by
  go_enter Tryz.func38, Tryz.ntmps38
  go_wp2_with fail
  refine (isUntil_is now r hr _).mono ?_
  rintro e w1 ⟨rfl, hw1⟩
  obtain rfl := hw1.symm
  go_wp2
  go_ret
  exact ⟨rfl, rfl⟩
/-- The box of a world, the box of one of its transactions, and the rows; nothing old has turned. -/
structure PlE (w : World) (nw nx bd : Int) (vr vs : Value) (nt : Nat) (T : Nat → Tx) (X : Nat → Value) (vt : Value) (t : Tx) (y : Value) (x : World) : Prop where
  below : Below w.heap.size w x
  kw : Blk6 x w.heap.size (.int .i64 nw) (.int .i64 nx) (.int .i64 bd) vr vs vt
  kt : Blk6 x (w.heap.size + 1) (.int .i64 t.s) (.int .i64 t.c) (.int .i64 t.u) (.int .i64 t.st) (.int .i64 t.a) y
  txs : Txs x 0 nt T X vt
theorem PlE.later {w : World} {nw nx bd : Int} {vr vs : Value} {nt : Nat} {T : Nat → Tx} {X : Nat → Value} {vt : Value} {t : Tx} {y : Value} {x x' : World} (h : PlE w nw nx bd vr vs nt T X vt t y x) (hb : Below x.heap.size x x') : PlE w nw nx bd vr vs nt T X vt t y x' :=
  ⟨h.below.trans (hb.mono h.below.size), h.kw.later hb, h.kt.later hb, h.txs.later hb⟩
theorem below_pl {B : Nat} {a w : World} (h : Below B a w) (q : Nat) : Below B a (w.drewN q) := ⟨h.os, h.tape, h.output, h.size, h.block⟩
set_option maxRecDepth 100000 in
set_option maxHeartbeats 8000000 in
theorem implPlace_any (nw nx bd : Int) (vr vs : Value) (nt : Nat) (T : Nat → Tx) (X : Nat → Value) (vt : Value) (k : Nat) (w : World) (hx : Txs w 0 nt T X vt) (hk : k < nt) (hn16 : nt ≤ 16) :
    Calls Tryz.prog 41 #[.agg #[.int .i64 nw, .int .i64 nx, .int .i64 bd, vr, vs, vt], .int .i64 k] w fun e w' => e = .returned (.int .i64 (placeF nx T k)) ∧ Below w.heap.size w w' := by
  obtain ⟨a2, c2, rfl⟩ := hx.form
  have H : Hid (Txs w 0 nt T X (.slice a2 nt c2)) := hx
  obtain ⟨g, o, ha2, _, hg, ⟨x0, x1, x2, x3, x4, x5⟩, hrow, hcap⟩ := hx.at hk
  subst ha2
  clear hx
  obtain ⟨t, ht⟩ : ∃ t, T k = t := ⟨_, rfl⟩
  have HT : Hid (T k = t) := ht
  rw [ht] at x0 x1 x2 x3 x4 hrow
  obtain ⟨y, hy⟩ : ∃ y, X k = y := ⟨_, rfl⟩
  rw [hy] at x5 hrow hcap
  clear ht hy
  obtain ⟨yo, yc, rfl⟩ := hrow.form
  have HR : Hid (Row w 0 3 t.m t.L (.slice yo t.m yc) ∧ CapOk (.slice yo t.m yc)) := ⟨hrow, hcap⟩
  have P0 : Hid (PlE w nw nx bd vr vs nt T X (.slice (some ⟨g, o, none⟩) nt c2) t (.slice yo t.m yc) ((w.alloc (.cells #[.int .i64 nw, .int .i64 nx, .int .i64 bd, vr, vs, .slice (some ⟨g, o, none⟩) nt c2] 40)).alloc (.cells #[.int .i64 t.s, .int .i64 t.c, .int .i64 t.u, .int .i64 t.st, .int .i64 t.a, .slice yo t.m yc] 87))) :=
    ⟨(below_alloc _ _).alloc (by simp) _, (Blk6.new w _ _ _ _ _ _ _).alloc _, by have := Blk6.new (w.alloc (.cells #[.int .i64 nw, .int .i64 nx, .int .i64 bd, vr, vs, .slice (some ⟨g, o, none⟩) nt c2] 40)) (.int .i64 t.s) (.int .i64 t.c) (.int .i64 t.u) (.int .i64 t.st) (.int .i64 t.a) (.slice yo t.m yc) 87; rwa [World.size_alloc] at this, (H.out.alloc _).alloc _⟩
  clear hrow hcap
  obtain ⟨f, hf⟩ : ∃ f, txnF t.s t.c t.u t.st t.a t.m t.L = f := ⟨_, rfl⟩
  have HF : Hid (txnF t.s t.c t.u t.st t.a t.m t.L = f) := hf
  have HF' : Hid (txF (T k) = f) := by unfold Hid; rw [HT.out]; exact hf
  clear hf
  go_enter Tryz.func41, Tryz.ntmps41
  go_wp2_with fail
  refine (implTxnFault_any _ _ _ _ _ _ _ _ _ ((HR.out.1.alloc _).alloc _) HR.out.2).mono ?_
  rw [HF.out]
  rintro e w1 ⟨rfl, q1⟩
  have P1 : Hid (PlE w nw nx bd vr vs nt T X (.slice (some ⟨g, o, none⟩) nt c2) t (.slice yo t.m yc) w1) := P0.out.later q1
  clear q1 P0 x0 x1 x2 x3 x4 x5
  by_cases hz : f = 0
  case neg =>
    have d' : (f != 0) = true := bne_iff_ne.2 hz
    have E : Hid (placeF nx T k = f) := (placeF_txn (by rw [HF'.out]; exact hz)).trans HF'.out
    clear hz HF HF'
    go_wp2
    go_ret
    exact ⟨by rw [E.out]; rfl, P1.out.below⟩
  subst hz
  obtain ⟨⟨p0, p1, p2, p3, p4, p5⟩, _⟩ := P1.out.kw
  obtain ⟨⟨t0, t1, t2, t3, t4, t5⟩, _⟩ := P1.out.kt
  obtain ⟨s, hs⟩ : ∃ x, t.s = x := ⟨_, rfl⟩
  obtain ⟨c, hc⟩ : ∃ x, t.c = x := ⟨_, rfl⟩
  rw [hs] at t0
  rw [hc] at t1
  have HSC : Hid (t.s = s ∧ t.c = c) := ⟨hs, hc⟩
  clear hs hc
  by_cases h1 : nx ≤ s
  · have d1 : decide (s ≥ nx) = true := decide_eq_true h1
    have E : Hid (placeF nx T k = 3) := placeF_next HF'.out (Or.inl (by rw [HT.out, HSC.out.1]; exact h1))
    clear HF HF'
    go_wp2
    go_ret
    exact ⟨by rw [E.out]; rfl, P1.out.below⟩
  have d1 : decide (s ≥ nx) = false := decide_eq_false h1
  by_cases h2 : nx ≤ c
  · have d2 : decide (c ≥ nx) = true := decide_eq_true h2
    have E : Hid (placeF nx T k = 3) := placeF_next HF'.out (Or.inr (by rw [HT.out, HSC.out.2]; exact h2))
    clear HF HF'
    go_wp2
    go_ret
    exact ⟨by rw [E.out]; rfl, P1.out.below⟩
  have d2 : decide (c ≥ nx) = false := decide_eq_false h2
  have HX : Hid (¬ (nx ≤ (T k).s ∨ nx ≤ (T k).c)) := by
    unfold Hid
    rw [HT.out, HSC.out.1, HSC.out.2]
    omega
  go_wp2
  clear p0 p1 p2 p3 p4 p5 t0 t1 t2 t3 t4 t5 h1 h2 d1 d2
  go_loopw [33] (fun i wr => ∃ m : Nat, m ≤ k ∧ i = .int .i64 m ∧ Hid (¬ takenT T k m) ∧ Hid (PlE w nw nx bd vr vs nt T X (.slice (some ⟨g, o, none⟩) nt c2) t (.slice yo t.m yc) wr)) (fun i _ => k - (intOf i).toNat)
  case atStart => exact ⟨0, Nat.zero_le _, rfl, takenT_none T k, P1⟩
  case round =>
    clear P1
    obtain ⟨m, hmk, rfl, HN, HB⟩ := hrel
    by_cases hlm : m < k
    case neg =>
      obtain rfl : m = k := by omega
      have E : Hid (placeF nx T m = 0) := placeF_ok HF'.out HX.out HN.out
      go_wp2
      go_ret
      exact ⟨by rw [E.out]; rfl, HB.out.below⟩
    obtain ⟨⟨p0, p1, p2, p3, p4, p5⟩, _⟩ := HB.out.kw
    obtain ⟨⟨t0, t1, t2, t3, t4, t5⟩, _⟩ := HB.out.kt
    rw [HSC.out.1] at t0
    obtain ⟨g1, o1, e1, _, _, ⟨y0, _⟩, _⟩ := HB.out.txs.at (i := m) (by omega)
    simp only [Option.some.injEq, Addr.mk.injEq, and_true] at e1
    obtain ⟨rfl, rfl⟩ := e1
    obtain ⟨r, hr'⟩ : ∃ x, (T m).s = x := ⟨_, rfl⟩
    rw [hr'] at y0
    have HRR : Hid ((T m).s = r) := hr'
    clear hr'
    have hmn : m < nt := by omega
    by_cases he : r = s
    · have E : Hid (placeF nx T k = 6) := placeF_taken HF'.out HX.out ⟨m, hlm, by rw [HRR.out, HT.out, HSC.out.1]; exact he⟩
      have d1 : (r == s) = true := beq_iff_eq.2 he
      clear he HF HF' HN HX HRR
      go_wp2_with fail
      go_quiet (fail)
      go_wp2
      go_ret
      exact ⟨by rw [E.out]; rfl, below_pl HB.out.below _⟩
    · have HN1 : Hid (¬ takenT T k (m + 1)) := takenT_go HN.out (by rw [HRR.out, HT.out, HSC.out.1]; exact he)
      have d1 : (r == s) = false := beq_eq_false_iff_ne.2 he
      clear he HN HRR
      go_wp2_with fail
      go_quiet (fail)
      go_wp2
      go_roundw
      case rel => exact ⟨m + 1, by omega, by go_num, HN1, HB.out.later (below_pl (Below.refl _ _) _)⟩
      case measure => simp [intOf]; omega
end Go.Proofs.YtpfmifpjmcmlaaaGreat

namespace Go.Proofs.YtpfmifpjmcmlaaaGreat
open Go.RowKit

def sizeX (T : Nat → Tx) (i : Nat) : Nat := (T i).m
def SxAns (n : Nat) (T : Nat → Tx) (left r : Int) : Prop := r = -1 ∨ (0 ≤ r ∧ n ≤ 1048576 ∧ ((sumN (sizeX T) n : Nat) : Int) ≤ left ∧ ∀ i, i < n → (T i).m ≤ 1048576)
set_option maxRecDepth 100000 in
set_option maxHeartbeats 4000000 in
theorem szTxnS_any (n : Nat) (T : Nat → Tx) (V : Nat → Value) (v : Value) (B : Nat) (left : Int) (w : World) (h : Txs w B n T V v) (hn : n ≤ 9223372036854775807) (hs : ∀ i, i < n → (T i).m ≤ 9223372036854775807) (h0 : 0 ≤ left) (h2 : left ≤ 1048576) :
    Calls Tryz.prog 33 #[v, .int .i64 left] w fun e w' => ∃ r, e = .returned (.int .i64 r) ∧ SxAns n T left r ∧ Below w.heap.size w w' := by
  obtain ⟨ao, cp, rfl⟩ := h.form
  have H : Hid (Txs w B n T V (.slice ao n cp)) := h
  have HN : Hid (∀ i, i < n → (T i).m ≤ 9223372036854775807) := hs
  clear h hs
  by_cases hl : left < n
  · have d : decide (left - n < 0) = true := decide_eq_true (by omega)
    go_enter Tryz.func33, Tryz.ntmps33
    go_wp2
    go_ret
    exact ⟨-1, rfl, Or.inl rfl, Below.refl _ _⟩
  have d : decide (left - n < 0) = false := decide_eq_false (by omega)
  go_enter Tryz.func33, Tryz.ntmps33
  go_wp2
  go_loopw [1, 5] (fun j i wr => ∃ (k : Nat) (L : Int), k ≤ n ∧ j = .int .i64 L ∧ i = .int .i64 k ∧ Hid ((0 ≤ L ∧ L + (sumN (sizeX T) k : Nat) ≤ left) ∧ ∀ i, i < k → (T i).m ≤ 1048576) ∧ Hid (Below w.heap.size w wr)) (fun _ i _ => n - (intOf i).toNat)
  case atStart => exact ⟨0, left - n, Nat.zero_le _, rfl, rfl, ⟨by simp only [sumN]; omega, fun i hi => absurd hi (Nat.not_lt_zero i)⟩, Below.refl _ _⟩
  case round =>
    obtain ⟨k, L, hk, rfl, rfl, hL, hR⟩ := hrel
    by_cases hlt : k < n
    · obtain ⟨g, o, rfl, _, hg, ⟨c0, c1, c2, c3, c4, c5⟩, rk, _⟩ := H.out.at hlt
      have b0 := (hR.out.cell (p := ⟨g, o + k * 6, none⟩) hg).trans c0
      have b1 := (hR.out.cell (p := ⟨g, o + k * 6 + 1, none⟩) hg).trans c1
      have b2 := (hR.out.cell (p := ⟨g, o + k * 6 + 2, none⟩) hg).trans c2
      have b3 := (hR.out.cell (p := ⟨g, o + k * 6 + 3, none⟩) hg).trans c3
      have b4 := (hR.out.cell (p := ⟨g, o + k * 6 + 4, none⟩) hg).trans c4
      have b5 := (hR.out.cell (p := ⟨g, o + k * 6 + 5, none⟩) hg).trans c5
      obtain ⟨a1, d1, e1⟩ := rk.form
      rw [e1] at b5
      clear c0 c1 c2 c3 c4 c5 rk e1
      have hB : Hid ((T k).m ≤ 9223372036854775807) := HN.out k hlt
      obtain ⟨t0, ht⟩ : ∃ t, T k = t := ⟨_, rfl⟩
      have HK : Hid (T k = t0) := ht
      rw [ht] at b0 b1 b2 b3 b4 b5 hB
      obtain ⟨s', c', u', st', a', m', L'⟩ := t0
      clear ht
      by_cases hfit : (m' : Int) ≤ L
      · go_wp2_with fail
        refine (szTxn_ok _ _ _ _ _ _ _ _ _ _ hfit (by have := hL.out.1; omega)).mono ?_
        rintro e w1 ⟨rfl, q1⟩
        have HB : Hid (Below w.heap.size w w1) := hR.out.trans (q1.mono hR.out.size)
        have dd : decide (L - m' < 0) = false := decide_eq_false (by omega)
        clear q1 hR b0 b1 b2 b3 b4 b5
        go_wp2
        go_roundw
        case rel =>
          have hst : sumN (sizeX T) (k + 1) = sumN (sizeX T) k + m' := by show sumN (sizeX T) k + (T k).m = _; rw [HK.out]
          refine ⟨k + 1, L - m', by omega, by go_num, by go_num, ⟨by have := hL.out.1; rw [hst]; omega, fun i hi => ?_⟩, HB⟩
          by_cases q : i = k
          · subst q
            have h1 := hL.out.1
            rw [HK.out]
            show m' ≤ 1048576
            omega
          · exact hL.out.2 i (by omega)
        case measure => simp [intOf]; omega
      · go_wp2_with fail
        refine (szTxn_no _ _ _ _ _ _ _ _ _ _ (by omega) hL.out.1.1 (by have := hL.out.1; omega) hB.out).mono ?_
        rintro e w1 ⟨rfl, q1⟩
        have HB : Hid (Below w.heap.size w w1) := hR.out.trans (q1.mono hR.out.size)
        clear q1 hR b0 b1 b2 b3 b4 b5
        go_wp2
        go_ret
        exact ⟨-1, rfl, Or.inl rfl, HB.out⟩
    · obtain rfl : k = n := by omega
      go_wp2
      go_ret
      exact ⟨L, rfl, Or.inr ⟨hL.out.1.1, by omega, by have := hL.out.1; omega, hL.out.2⟩, hR.out⟩
/-- Two transactions at a place. -/
def Two6 (w : World) (g o g' o' k : Nat) (t : Tx) (u u' : Value) (x : World) : Prop :=
  Below w.heap.size w x ∧ (x.cell? ⟨g, o + k * 6, none⟩ = some (.int .i64 t.s) ∧ x.cell? ⟨g, o + k * 6 + 1, none⟩ = some (.int .i64 t.c) ∧ x.cell? ⟨g, o + k * 6 + 2, none⟩ = some (.int .i64 t.u) ∧ x.cell? ⟨g, o + k * 6 + 3, none⟩ = some (.int .i64 t.st) ∧ x.cell? ⟨g, o + k * 6 + 4, none⟩ = some (.int .i64 t.a) ∧ x.cell? ⟨g, o + k * 6 + 5, none⟩ = some u) ∧
    (x.cell? ⟨g', o' + k * 6, none⟩ = some (.int .i64 t.s) ∧ x.cell? ⟨g', o' + k * 6 + 1, none⟩ = some (.int .i64 t.c) ∧ x.cell? ⟨g', o' + k * 6 + 2, none⟩ = some (.int .i64 t.u) ∧ x.cell? ⟨g', o' + k * 6 + 3, none⟩ = some (.int .i64 t.st) ∧ x.cell? ⟨g', o' + k * 6 + 4, none⟩ = some (.int .i64 t.a) ∧ x.cell? ⟨g', o' + k * 6 + 5, none⟩ = some u') ∧ g < x.heap.size ∧ g' < x.heap.size
theorem Two6.later {w : World} {g o g' o' k : Nat} {t : Tx} {u u' : Value} {x x' : World} (h : Two6 w g o g' o' k t u u' x) (hb : Below x.heap.size x x') : Two6 w g o g' o' k t u u' x' := by
  obtain ⟨h0, ⟨a0, a1, a2, a3, a4, a5⟩, ⟨b0, b1, b2, b3, b4, b5⟩, hg, hg'⟩ := h
  have k1 : ∀ p, x'.cell? ⟨g, p, none⟩ = x.cell? ⟨g, p, none⟩ := fun p => hb.cell (p := ⟨g, p, none⟩) hg
  have k2 : ∀ p, x'.cell? ⟨g', p, none⟩ = x.cell? ⟨g', p, none⟩ := fun p => hb.cell (p := ⟨g', p, none⟩) hg'
  exact ⟨h0.trans (hb.mono h0.size), ⟨(k1 _).trans a0, (k1 _).trans a1, (k1 _).trans a2, (k1 _).trans a3, (k1 _).trans a4, (k1 _).trans a5⟩, ⟨(k2 _).trans b0, (k2 _).trans b1, (k2 _).trans b2, (k2 _).trans b3, (k2 _).trans b4, (k2 _).trans b5⟩, Nat.lt_of_lt_of_le hg hb.size, Nat.lt_of_lt_of_le hg' hb.size⟩
set_option maxRecDepth 100000 in
set_option maxHeartbeats 4000000 in
theorem eqTxnS_same (n : Nat) (T : Nat → Tx) (V U : Nat → Value) (va vb : Value) (Ba Bb : Nat) (w : World) (ha : Txs w Ba n T V va) (hb : Txs w Bb n T U vb) (hn : n ≤ 1048576) (hs : ∀ i, i < n → (T i).m ≤ 1048576) :
    Calls Tryz.prog 44 #[va, vb] w fun e w' => e = .returned (.bool true) ∧ Below w.heap.size w w' := by
  obtain ⟨ao, cp, rfl⟩ := ha.form
  obtain ⟨ao', cp', rfl⟩ := hb.form
  have H : Hid (Txs w Ba n T V (.slice ao n cp)) := ha
  have H' : Hid (Txs w Bb n T U (.slice ao' n cp')) := hb
  have HN : Hid (∀ i, i < n → (T i).m ≤ 1048576) := hs
  clear ha hb hs
  go_enter Tryz.func44, Tryz.ntmps44
  go_wp2
  go_loopw [5] (fun i wr => ∃ k : Nat, k ≤ n ∧ i = .int .i64 k ∧ Hid (Below w.heap.size w wr)) (fun i _ => n - (intOf i).toNat)
  case atStart => exact ⟨0, Nat.zero_le _, rfl, Below.refl _ _⟩
  case round =>
    obtain ⟨k, hk, rfl, hR⟩ := hrel
    by_cases hlt : k < n
    · obtain ⟨g, o, rfl, _, hg, hc, rk, _⟩ := (H.out.later hR.out).at hlt
      obtain ⟨g', o', rfl, _, hg', hc', rk', _⟩ := (H'.out.later hR.out).at hlt
      obtain ⟨a1, d1, e1⟩ := rk.form
      obtain ⟨a1', d1', e1'⟩ := rk'.form
      rw [e1] at hc rk
      rw [e1'] at hc' rk'
      have hN : Hid ((T k).m ≤ 1048576) := HN.out k hlt
      obtain ⟨t0, ht⟩ : ∃ t, T k = t := ⟨_, rfl⟩
      rw [ht] at hc hc' rk rk' hN
      have SK : Hid (Row wr Ba 3 t0.m t0.L (.slice a1 t0.m d1) ∧ Row wr Bb 3 t0.m t0.L (.slice a1' t0.m d1')) := ⟨rk, rk'⟩
      have TT : Hid (Two6 w g o g' o' k t0 (.slice a1 t0.m d1) (.slice a1' t0.m d1') wr) := ⟨hR.out, hc, hc', hg, hg'⟩
      obtain ⟨s', c', u', st', a', m', L'⟩ := t0
      clear ht rk rk' hc hc' hg hg' e1 e1'
      go_wp2_with fail
      refine wp_region_held_drew (S := Two6 w g o g' o' k ⟨s', c', u', st', a', m', L'⟩ (.slice a1 m' d1) (.slice a1' m' d1')) (by kernel_rfl) (TT.out.later (Below.drew (Below.refl _ _))) (fun hS => ?_)
      refine tkH 0 ?_ hS (fun wx hx => ?_) ?_; rotate_left
      · obtain ⟨_, ⟨hx0, hx1, hx2, hx3, hx4, hx5⟩, ⟨hy0, hy1, hy2, hy3, hy4, hy5⟩, _⟩ := hx; go_simp; try with_reducible rfl
      refine tkH 1 ?_ hS (fun wx hx => ?_) ?_; rotate_left
      · obtain ⟨_, ⟨hx0, hx1, hx2, hx3, hx4, hx5⟩, ⟨hy0, hy1, hy2, hy3, hy4, hy5⟩, _⟩ := hx; go_simp; try with_reducible rfl
      refine tkH 2 ?_ hS (fun wx hx => ?_) ?_; rotate_left
      · obtain ⟨_, ⟨hx0, hx1, hx2, hx3, hx4, hx5⟩, ⟨hy0, hy1, hy2, hy3, hy4, hy5⟩, _⟩ := hx; go_simp; try with_reducible rfl
      refine tkH 3 ?_ hS (fun wx hx => ?_) ?_; rotate_left
      · obtain ⟨_, ⟨hx0, hx1, hx2, hx3, hx4, hx5⟩, ⟨hy0, hy1, hy2, hy3, hy4, hy5⟩, _⟩ := hx; go_simp; try with_reducible rfl
      refine tkH 4 ?_ hS (fun wx hx => ?_) ?_; rotate_left
      · obtain ⟨_, ⟨hx0, hx1, hx2, hx3, hx4, hx5⟩, ⟨hy0, hy1, hy2, hy3, hy4, hy5⟩, _⟩ := hx; go_simp; try with_reducible rfl
      refine tkH 5 ?_ hS (fun wx hx => ?_) ?_; rotate_left
      · obtain ⟨_, ⟨hx0, hx1, hx2, hx3, hx4, hx5⟩, ⟨hy0, hy1, hy2, hy3, hy4, hy5⟩, _⟩ := hx; go_simp; try with_reducible rfl
      refine tkH 6 ?_ hS (fun wx hx => ?_) ?_; rotate_left
      · obtain ⟨_, ⟨hx0, hx1, hx2, hx3, hx4, hx5⟩, ⟨hy0, hy1, hy2, hy3, hy4, hy5⟩, _⟩ := hx; go_simp; try with_reducible rfl
      refine tkH 7 ?_ hS (fun wx hx => ?_) ?_; rotate_left
      · obtain ⟨_, ⟨hx0, hx1, hx2, hx3, hx4, hx5⟩, ⟨hy0, hy1, hy2, hy3, hy4, hy5⟩, _⟩ := hx; go_simp; try with_reducible rfl
      refine rdH 8 (fun K hK => ?_)
      go_simp
      go_wp2_with fail
      refine (eqTxn_same s' c' u' st' a' m' L' _ _ Ba Bb _ (SK.out.1.later (below_dr (Below.refl _ _) 1)) (SK.out.2.later (below_dr (Below.refl _ _) 1)) hN.out).mono ?_
      rintro e w1 ⟨rfl, q1⟩
      have hS' := hS.later q1
      clear q1
      go_wp2_with fail
      refine hK.out _ _ hS' (fun hS => ?_)
      clear hK K hS' TT
      refine tkH 9 ?_ hS (fun wx hx => ?_) ?_; rotate_left
      · obtain ⟨_, ⟨hx0, hx1, hx2, hx3, hx4, hx5⟩, ⟨hy0, hy1, hy2, hy3, hy4, hy5⟩, _⟩ := hx; go_simp; try with_reducible rfl
      refine wpAnyH_done (by kernel_rfl) ?_ _
      have HB : Hid (Below w.heap.size w w1) := hS.1
      clear hS hR SK
      go_simp
      go_wp2
      go_roundw
      case rel => exact ⟨k + 1, by omega, by go_num, HB⟩
      case measure => simp [intOf]; omega
    · obtain rfl : k = n := by omega
      go_wp2
      go_ret
      exact ⟨rfl, hR.out⟩
end Go.Proofs.YtpfmifpjmcmlaaaGreat

namespace Go.Proofs.YtpfmifpjmcmlaaaGreat
open Go.RowKit

theorem toOracle_any (a b : Int) (w : World) :
    Calls Tryz.prog 35 #[.agg #[.int .i64 a, .int .i64 b]] w fun e w' => e = .returned (.agg #[.int .i64 a, .int .i64 b]) ∧ Below w.heap.size w w' := by
  go_enter Tryz.func35, Tryz.ntmps35
  go_wp2
  exact bodyPost_ret (v := .agg #[.int .i64 a, .int .i64 b]) (by simp [results, Tryz.results35, go_sem]) rfl ⟨rfl, by repeat (first | exact Below.refl _ _ | refine Below.setCell ?_ (by first | omega | (simp <;> omega)) _ | refine Below.alloc ?_ (by first | omega | (simp <;> omega)) _)⟩
theorem eqOracle_same (a b : Int) (w : World) :
    Calls Tryz.prog 42 #[.agg #[.int .i64 a, .int .i64 b], .agg #[.int .i64 a, .int .i64 b]] w fun e w' => e = .returned (.bool true) ∧ w' = (w.alloc (.cells #[.int .i64 a, .int .i64 b] 33)).alloc (.cells #[.int .i64 a, .int .i64 b] 33) := by
  go_enter Tryz.func42, Tryz.ntmps42
  go_wp2
  go_ret
  exact ⟨rfl, rfl⟩
end Go.Proofs.YtpfmifpjmcmlaaaGreat

namespace Go.Proofs.YtpfmifpjmcmlaaaGreat
open Go.RowKit

theorem setCell_otherE {x : World} {b i j : Nat} {u v : Value} (hn : i ≠ j) (h : x.cell? ⟨b, i, none⟩ = some u) : (x.setCell ⟨b, j, none⟩ v).cell? ⟨b, i, none⟩ = some u := (World.cell?_setCell_other _ _ _ _ (fun e => hn (congrArg Addr.off e).symm)).trans h
theorem Blk6.put0 {x : World} {b : Nat} {a0 a1 a2 a3 a4 a5 : Value} (h : Blk6 x b a0 a1 a2 a3 a4 a5) (c0 : Value) : Blk6 (x.setCell ⟨b, 0, none⟩ c0) b c0 a1 a2 a3 a4 a5 := by
  obtain ⟨⟨h0, h1, h2, h3, h4, h5⟩, f0, f1, f2, f3, f4, f5⟩ := h
  refine ⟨⟨?_, ?_, ?_, ?_, ?_, ?_⟩, by simpa using f0, by simpa using f1, by simpa using f2, by simpa using f3, by simpa using f4, by simpa using f5⟩
  · exact World.cell?_setCell_same _ _ _ h0
  · exact setCell_otherE (by decide) h1
  · exact setCell_otherE (by decide) h2
  · exact setCell_otherE (by decide) h3
  · exact setCell_otherE (by decide) h4
  · exact setCell_otherE (by decide) h5
theorem Blk6.put12 {x : World} {b : Nat} {a0 a1 a2 a3 a4 a5 : Value} (h : Blk6 x b a0 a1 a2 a3 a4 a5) (c1 c2 : Value) : Blk6 ((x.setCell ⟨b, 1, none⟩ c1).setCell ⟨b, 2, none⟩ c2) b a0 c1 c2 a3 a4 a5 := by
  obtain ⟨⟨h0, h1, h2, h3, h4, h5⟩, f0, f1, f2, f3, f4, f5⟩ := h
  refine ⟨⟨?_, ?_, ?_, ?_, ?_, ?_⟩, by simpa using f0, by simpa using f1, by simpa using f2, by simpa using f3, by simpa using f4, by simpa using f5⟩
  · exact setCell_otherE (by decide) (setCell_otherE (by decide) h0)
  · exact setCell_otherE (by decide) (World.cell?_setCell_same _ _ _ h1)
  · exact World.cell?_setCell_same _ _ _ (setCell_otherE (by decide) h2)
  · exact setCell_otherE (by decide) (setCell_otherE (by decide) h3)
  · exact setCell_otherE (by decide) (setCell_otherE (by decide) h4)
  · exact setCell_otherE (by decide) (setCell_otherE (by decide) h5)
theorem Blk6.put34 {x : World} {b : Nat} {a0 a1 a2 a3 a4 a5 : Value} (h : Blk6 x b a0 a1 a2 a3 a4 a5) (c3 c4 : Value) : Blk6 ((x.setCell ⟨b, 3, none⟩ c3).setCell ⟨b, 4, none⟩ c4) b a0 a1 a2 c3 c4 a5 := by
  obtain ⟨⟨h0, h1, h2, h3, h4, h5⟩, f0, f1, f2, f3, f4, f5⟩ := h
  refine ⟨⟨?_, ?_, ?_, ?_, ?_, ?_⟩, by simpa using f0, by simpa using f1, by simpa using f2, by simpa using f3, by simpa using f4, by simpa using f5⟩
  · exact setCell_otherE (by decide) (setCell_otherE (by decide) h0)
  · exact setCell_otherE (by decide) (setCell_otherE (by decide) h1)
  · exact setCell_otherE (by decide) (setCell_otherE (by decide) h2)
  · exact setCell_otherE (by decide) (World.cell?_setCell_same _ _ _ h3)
  · exact World.cell?_setCell_same _ _ _ (setCell_otherE (by decide) h4)
  · exact setCell_otherE (by decide) (setCell_otherE (by decide) h5)
theorem Blk6.putAll {x : World} {b : Nat} {a0 a1 a2 a3 a4 a5 : Value} (h : Blk6 x b a0 a1 a2 a3 a4 a5) (c0 c1 c2 c3 c4 c5 : Value) : Blk6 ((((((x.setCell ⟨b, 0, none⟩ c0).setCell ⟨b, 1, none⟩ c1).setCell ⟨b, 2, none⟩ c2).setCell ⟨b, 3, none⟩ c3).setCell ⟨b, 4, none⟩ c4).setCell ⟨b, 5, none⟩ c5) b c0 c1 c2 c3 c4 c5 := by
  obtain ⟨⟨h0, h1, h2, h3, h4, h5⟩, f0, f1, f2, f3, f4, f5⟩ := h
  refine ⟨⟨?_, ?_, ?_, ?_, ?_, ?_⟩, by simpa using f0, by simpa using f1, by simpa using f2, by simpa using f3, by simpa using f4, by simpa using f5⟩
  · exact setCell_otherE (by decide) (setCell_otherE (by decide) (setCell_otherE (by decide) (setCell_otherE (by decide) (setCell_otherE (by decide) (World.cell?_setCell_same _ _ _ h0)))))
  · exact setCell_otherE (by decide) (setCell_otherE (by decide) (setCell_otherE (by decide) (setCell_otherE (by decide) (World.cell?_setCell_same _ _ _ (setCell_otherE (by decide) h1)))))
  · exact setCell_otherE (by decide) (setCell_otherE (by decide) (setCell_otherE (by decide) (World.cell?_setCell_same _ _ _ (setCell_otherE (by decide) (setCell_otherE (by decide) h2)))))
  · exact setCell_otherE (by decide) (setCell_otherE (by decide) (World.cell?_setCell_same _ _ _ (setCell_otherE (by decide) (setCell_otherE (by decide) (setCell_otherE (by decide) h3)))))
  · exact setCell_otherE (by decide) (World.cell?_setCell_same _ _ _ (setCell_otherE (by decide) (setCell_otherE (by decide) (setCell_otherE (by decide) (setCell_otherE (by decide) h4)))))
  · exact World.cell?_setCell_same _ _ _ (setCell_otherE (by decide) (setCell_otherE (by decide) (setCell_otherE (by decide) (setCell_otherE (by decide) (setCell_otherE (by decide) h5)))))

theorem Blk6.farE {x : World} {b : Nat} {a0 a1 a2 a3 a4 a5 : Value} (h : Blk6 x b a0 a1 a2 a3 a4 a5) {p : Addr} (hp : b ≠ p.block) (u : Value) : Blk6 (x.setCell p u) b a0 a1 a2 a3 a4 a5 := h.kept (Below.heap_setCell x p u b hp)
set_option maxRecDepth 100000 in
set_option maxHeartbeats 4000000 in
theorem eqWorldT_same (nw nx bd : Int) (nr : Nat) (F : Nat → Int) (n : Nat) (S : Nat → Sto) (V U : Nat → Nat → Value) (ra : Option Addr) (rc : Nat) (sa : Option Addr) (sc : Nat) (qa : Option Addr) (qc : Nat) (pa : Option Addr) (pc : Nat) (nt : Nat) (T : Nat → Tx) (X Y : Nat → Value) (ta : Option Addr) (tc : Nat) (ya : Option Addr) (yc : Nat) (B B' : Nat) (w : World) (h : Grs w B nr F n S V (.slice ra nr rc) (.slice sa n sc)) (h' : Grs w B' nr F n S U (.slice qa nr qc) (.slice pa n pc)) (ht : Txs w B nt T X (.slice ta nt tc)) (ht' : Txs w B' nt T Y (.slice ya nt yc)) (hs : nr ≤ 1048576 ∧ n ≤ 1048576 ∧ ∀ i, i < n → SmallS (S i)) (hx : nt ≤ 1048576 ∧ ∀ i, i < nt → (T i).m ≤ 1048576) :
    Calls Tryz.prog 12 #[.agg #[.int .i64 nw, .int .i64 nx, .int .i64 bd, .slice ra nr rc, .slice sa n sc, .slice ta nt tc], .agg #[.int .i64 nw, .int .i64 nx, .int .i64 bd, .slice qa nr qc, .slice pa n pc, .slice ya nt yc]] w fun e w' => e = .returned (.bool true) ∧ Below w.heap.size w w' := by
  have H : Hid (Grs w B nr F n S V (.slice ra nr rc) (.slice sa n sc) ∧ Grs w B' nr F n S U (.slice qa nr qc) (.slice pa n pc)) := ⟨h, h'⟩
  have HX : Hid (Txs w B nt T X (.slice ta nt tc) ∧ Txs w B' nt T Y (.slice ya nt yc)) := ⟨ht, ht'⟩
  have HN : Hid ((nr ≤ 1048576 ∧ n ≤ 1048576 ∧ ∀ i, i < n → SmallS (S i)) ∧ (nt ≤ 1048576 ∧ ∀ i, i < nt → (T i).m ≤ 1048576)) := ⟨hs, hx⟩
  clear h h' hs ht ht' hx
  go_enter Tryz.func12, Tryz.ntmps12
  go_wp2_with fail
  refine (eqOracle_same nx bd _).mono ?_
  rintro e w1 ⟨rfl, hw1⟩
  have q1 : Below w.heap.size w w1 := by
    rw [hw1]
    exact ((((Below.refl w.heap.size w).alloc (Nat.le_refl _) _).alloc (by simp) _).alloc (by simp; omega) _).alloc (by simp; omega) _
  have B0 : Hid (Blk6 w1 w.heap.size (.int .i64 nw) (.int .i64 nx) (.int .i64 bd) (.slice ra nr rc) (.slice sa n sc) (.slice ta nt tc) ∧ Blk6 w1 (w.heap.size + 1) (.int .i64 nw) (.int .i64 nx) (.int .i64 bd) (.slice qa nr qc) (.slice pa n pc) (.slice ya nt yc)) := by
    have k := Blk6.new w (.int .i64 nw) (.int .i64 nx) (.int .i64 bd) (.slice ra nr rc) (.slice sa n sc) (.slice ta nt tc) 40
    have k' := Blk6.new (w.alloc (.cells #[.int .i64 nw, .int .i64 nx, .int .i64 bd, .slice ra nr rc, .slice sa n sc, .slice ta nt tc] 40)) (.int .i64 nw) (.int .i64 nx) (.int .i64 bd) (.slice qa nr qc) (.slice pa n pc) (.slice ya nt yc) 40
    rw [World.size_alloc] at k'
    rw [hw1]
    exact ⟨((k.later (below_alloc _ _)).later (below_alloc _ _)).later (below_alloc _ _), (k'.later (below_alloc _ _)).later (below_alloc _ _)⟩
  have Q1 : Hid (Below w.heap.size w w1) := q1
  clear hw1 q1
  obtain ⟨⟨⟨s0, s1, s2, s3, s4, s5⟩, _⟩, ⟨t0, t1, t2, t3, t4, t5⟩, _⟩ := B0.out
  go_wp2_with fail
  refine (eqGroups_same nr F n S V U _ _ _ _ B B' _ (H.out.1.later Q1.out) (H.out.2.later Q1.out) HN.out.1.1 HN.out.1.2.1 HN.out.1.2.2).mono ?_
  rintro e w2 ⟨rfl, q2⟩
  have Q : Hid (Below w.heap.size w w2) := Q1.out.trans (q2.mono Q1.out.size)
  have B2 : Hid (Blk6 w2 w.heap.size (.int .i64 nw) (.int .i64 nx) (.int .i64 bd) (.slice ra nr rc) (.slice sa n sc) (.slice ta nt tc) ∧ Blk6 w2 (w.heap.size + 1) (.int .i64 nw) (.int .i64 nx) (.int .i64 bd) (.slice qa nr qc) (.slice pa n pc) (.slice ya nt yc)) := ⟨B0.out.1.later q2, B0.out.2.later q2⟩
  clear s0 s1 s2 s3 s4 s5 t0 t1 t2 t3 t4 t5 q2 Q1 B0
  obtain ⟨⟨⟨s0, s1, s2, s3, s4, s5⟩, _⟩, ⟨t0, t1, t2, t3, t4, t5⟩, _⟩ := B2.out
  go_wp2_with fail
  refine (eqTxnS_same nt T X Y _ _ B B' _ (HX.out.1.later Q.out) (HX.out.2.later Q.out) HN.out.2.1 HN.out.2.2).mono ?_
  rintro e w3 ⟨rfl, q3⟩
  have Q3 : Hid (Below w.heap.size w w3) := Q.out.trans (q3.mono Q.out.size)
  clear q3 Q s0 s1 s2 s3 s4 s5 t0 t1 t2 t3 t4 t5 B2
  go_wp2
  go_ret
  exact ⟨rfl, Q3.out⟩
/-- A world that a call has laid: groups and transactions, each in blocks of its own. -/
def NewWd (w : World) (nw nx bd : Int) (nr : Nat) (F : Nat → Int) (n : Nat) (S : Nat → Sto) (nt : Nat) (T : Nat → Tx) (e : Ending) (w' : World) : Prop :=
  ∃ ra rc g U z gt Y zt, e = .returned (.agg #[.int .i64 nw, .int .i64 nx, .int .i64 bd, .slice ra nr rc, .slice (some ⟨g, 0, none⟩) n n, .slice (some ⟨gt, 0, none⟩) nt nt]) ∧ FineG w' w.heap.size nr F n S ra rc g U z ∧ (z n ≤ gt ∧ gt < w'.heap.size ∧ FillT w' gt nt nt T Y ∧ FineT w' zt nt T Y ∧ zt 0 = gt + 1 ∧ (∀ i, i ≤ nt → gt < zt i) ∧ zt nt ≤ w'.heap.size) ∧ Below w.heap.size w w'
end Go.Proofs.YtpfmifpjmcmlaaaGreat

