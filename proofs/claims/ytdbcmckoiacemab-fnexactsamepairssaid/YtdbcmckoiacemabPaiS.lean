/-
  Own text. What slices.Equal answers over two rows of structs: whether they have as many elements, and all their numbers alike.
-/
import Derived.Test.YtdbcmckoiacemabPaiA
import Derived.Laws.StructEq
namespace Go.Proofs.Ytdbcmckoiacemab
open Go.RowKit

/-- Two rows are alike. -/
def AlikeP (m n : Nat) (F : Nat → Int) (n' : Nat) (G : Nat → Int) : Prop := n = n' ∧ ∀ p, p < n * m → F p = G p
/-- Of the first k elements all numbers are alike. -/
def UptoP (N : Nat) (F G : Nat → Int) : Prop := ∀ p, p < N → F p = G p
theorem UptoP.no {N p : Nat} {F G : Nat → Int} (h : UptoP N F G) (hp : p < N) (hne : F p ≠ G p) : False := hne (h p hp)

theorem neqPair (x0 x1 y0 y1 : Int) (r : Bool) (hr : decide (x0 = y0 ∧ x1 = y1) = r) (w : World) : (binOp .neq 29 (.agg #[.int .i64 x0, .int .i64 x1]) (.agg #[.int .i64 y0, .int .i64 y1])).run Try.prog w = .ok (.bool (!r)) w := by
  have hS : Try.prog.underlying 29 = some (.struct (Try.prog.fieldsOf 29)) := by kernel_rfl
  have hp : Try.prog.stoodInHeld 29 = false := by kernel_rfl
  have u2 := Try.underlying2
  have a2 := Try.isAgg2
  have z2 := Try.sizeOf2
  rw [run_neq_struct, show (10000 : Nat) = 9999 + 1 from rfl, run_equalIn_agg w 9999 _ _ _ hS hp]
  simp only [Program.fieldsOf, Try.underlying29]
  subst hr
  go_simp
  by_cases h0 : x0 = y0 <;> by_cases h1 : x1 = y1 <;> simp [h0, h1]

theorem uptoPair {k : Nat} {F G : Nat → Int} (hU : Hid (UptoP (k * 2) F G)) (he : F (k * 2) = G (k * 2) ∧ F (k * 2 + 1) = G (k * 2 + 1)) : UptoP ((k + 1) * 2) F G := fun p hp => by
        rcases Nat.lt_or_ge p (k * 2) with h | h
        · exact hU.out p h
        · obtain rfl | rfl : p = k * 2 ∨ p = k * 2 + 1 := by omega
          · exact he.1
          · exact he.2

set_option maxHeartbeats 1000000 in
theorem equalPair_any (va vb : Value) (Ba Bb n n' : Nat) (F G : Nat → Int) (r : Bool) (w : World) (ha : Row w Ba 2 n F va) (hb : Row w Bb 2 n' G vb) (hn : n ≤ 1048576) (hn' : n' ≤ 1048576) (hr : r = true ↔ AlikeP 2 n F n' G) :
    Calls Try.prog 10 #[va, vb] w fun e w' => e = .returned (.bool r) ∧ ∃ q, w' = w.drewN q := by
  obtain ⟨ao, ca, rfl⟩ := ha.form
  obtain ⟨bo, cb, rfl⟩ := hb.form
  have HA : Hid (Row w Ba 2 n F (.slice ao n ca)) := ha
  have HB : Hid (Row w Bb 2 n' G (.slice bo n' cb)) := hb
  have HR : Hid (r = true ↔ AlikeP 2 n F n' G) := hr
  clear ha hb hr
  have hgd : Try.prog.eqGuardType Try.prog.depth 29 = false := by kernel_rfl
  by_cases hne : n = n'
  case neg =>
    have E : Hid (r = false) := by
      cases r with
      | false => rfl
      | true => exact absurd (HR.out.1 rfl).1 hne
    have d : ((n : Int) != (n' : Int)) = true := bne_iff_ne.2 (by omega)
    clear hne hn hn' hgd HA HB HR
    go_enter Try.func10, Try.ntmps10
    go_wp2
    go_ret
    exact ⟨by rw [E.out]; rfl, 0, rfl⟩
  subst hne
  go_enter Try.func10, Try.ntmps10
  go_wp2
  go_loopw [13] (fun i wr => ∃ k q : Nat, k ≤ n ∧ i = .int .i64 k ∧ Hid (UptoP (k * 2) F G) ∧ wr = w.drewN q) (fun i _ => n - (intOf i).toNat)
  case atStart => exact ⟨0, 0, Nat.zero_le _, rfl, fun p hp => absurd hp (by omega), rfl⟩
  case round =>
    obtain ⟨k, q, hk, rfl, hU, rfl⟩ := hrel
    by_cases hlt : k < n
    · obtain ⟨g, o, rfl, _, hg, c0, c1⟩ := HA.out.at2 hlt
      obtain ⟨g', o', rfl, _, hg', d0, d1⟩ := HB.out.at2 hlt
      by_cases he : F (k * 2) = G (k * 2) ∧ F (k * 2 + 1) = G (k * 2 + 1)
      · have hq := neqPair (F (k * 2)) (F (k * 2 + 1)) (G (k * 2)) (G (k * 2 + 1)) true (decide_eq_true he)
        have hU2 : Hid (UptoP ((k + 1) * 2) F G) := uptoPair hU he
        clear he hU
        go_wp2
        go_quiet (fail)
        go_wp2
        go_roundw
        case rel => exact ⟨k + 1, _, by omega, by go_num, hU2, rfl⟩
        case measure => simp [intOf]; omega
      · have hq := neqPair (F (k * 2)) (F (k * 2 + 1)) (G (k * 2)) (G (k * 2 + 1)) false (decide_eq_false he)
        have E : Hid (r = false) := by
          cases r with
          | false => rfl
          | true =>
            have h := (HR.out.1 rfl).2
            exact absurd ⟨h _ (by omega), h _ (by omega)⟩ he
        clear he hU
        go_wp2
        go_quiet (fail)
        go_wp2
        go_ret
        exact ⟨by rw [E.out]; rfl, _, World.drewN_drewN _ _ _⟩
    · obtain rfl : k = n := by omega
      have E : Hid (r = true) := HR.out.2 ⟨rfl, hU.out⟩
      clear hU
      go_wp2
      go_ret
      exact ⟨by rw [E.out]; rfl, _, rfl⟩

set_option maxHeartbeats 1000000 in
theorem specSamePairs_any (va vb : Value) (Ba Bb n n' : Nat) (F G : Nat → Int) (r : Bool) (w : World) (ha : Row w Ba 2 n F va) (hb : Row w Bb 2 n' G vb) (hn : n ≤ 1048576) (hn' : n' ≤ 1048576) (hr : r = true ↔ AlikeP 2 n F n' G) :
    Calls Try.prog 5 #[va, vb] w fun e w' => e = .returned (.bool r) ∧ ∃ q, w' = w.drewN q := by
  obtain ⟨ao, ca, rfl⟩ := ha.form
  obtain ⟨bo, cb, rfl⟩ := hb.form
  have HA : Hid (Row w Ba 2 n F (.slice ao n ca)) := ha
  have HB : Hid (Row w Bb 2 n' G (.slice bo n' cb)) := hb
  have HR : Hid (r = true ↔ AlikeP 2 n F n' G) := hr
  clear ha hb hr
  have hgd : Try.prog.eqGuardType Try.prog.depth 29 = false := by kernel_rfl
  by_cases hne : n = n'
  case neg =>
    have E : Hid (r = false) := by
      cases r with
      | false => rfl
      | true => exact absurd (HR.out.1 rfl).1 hne
    have d : ((n : Int) != (n' : Int)) = true := bne_iff_ne.2 (by omega)
    clear hne hn hn' hgd HA HB HR
    go_enter Try.func5, Try.ntmps5
    go_wp2
    go_ret
    exact ⟨by rw [E.out]; rfl, 0, rfl⟩
  subst hne
  go_enter Try.func5, Try.ntmps5
  go_wp2
  go_loopw [5] (fun i wr => ∃ k q : Nat, k ≤ n ∧ i = .int .i64 k ∧ Hid (UptoP (k * 2) F G) ∧ wr = w.drewN q) (fun i _ => n - (intOf i).toNat)
  case atStart => exact ⟨0, 0, Nat.zero_le _, rfl, fun p hp => absurd hp (by omega), rfl⟩
  case round =>
    obtain ⟨k, q, hk, rfl, hU, rfl⟩ := hrel
    by_cases hlt : k < n
    · obtain ⟨g, o, rfl, _, hg, c0, c1⟩ := HA.out.at2 hlt
      obtain ⟨g', o', rfl, _, hg', d0, d1⟩ := HB.out.at2 hlt
      by_cases he : F (k * 2) = G (k * 2) ∧ F (k * 2 + 1) = G (k * 2 + 1)
      · have hq := neqPair (F (k * 2)) (F (k * 2 + 1)) (G (k * 2)) (G (k * 2 + 1)) true (decide_eq_true he)
        have hU2 : Hid (UptoP ((k + 1) * 2) F G) := uptoPair hU he
        clear he hU
        go_wp2
        go_quiet (fail)
        go_wp2
        go_roundw
        case rel => exact ⟨k + 1, _, by omega, by go_num, hU2, rfl⟩
        case measure => simp [intOf]; omega
      · have hq := neqPair (F (k * 2)) (F (k * 2 + 1)) (G (k * 2)) (G (k * 2 + 1)) false (decide_eq_false he)
        have E : Hid (r = false) := by
          cases r with
          | false => rfl
          | true =>
            have h := (HR.out.1 rfl).2
            exact absurd ⟨h _ (by omega), h _ (by omega)⟩ he
        clear he hU
        go_wp2
        go_quiet (fail)
        go_wp2
        go_ret
        exact ⟨by rw [E.out]; rfl, _, World.drewN_drewN _ _ _⟩
    · obtain rfl : k = n := by omega
      have E : Hid (r = true) := HR.out.2 ⟨rfl, hU.out⟩
      clear hU
      go_wp2
      go_ret
      exact ⟨by rw [E.out]; rfl, _, rfl⟩
theorem implSamePairs_any (va vb : Value) (Ba Bb n n' : Nat) (F G : Nat → Int) (r : Bool) (w : World) (ha : Row w Ba 2 n F va) (hb : Row w Bb 2 n' G vb) (hn : n ≤ 1048576) (hn' : n' ≤ 1048576) (hr : r = true ↔ AlikeP 2 n F n' G) :
    Calls Try.prog 7 #[va, vb] w fun e w' => e = .returned (.bool r) ∧ ∃ q, w' = w.drewN q := by
  have H : Hid (Row w Ba 2 n F va ∧ Row w Bb 2 n' G vb ∧ (r = true ↔ AlikeP 2 n F n' G)) := ⟨ha, hb, hr⟩
  clear ha hb hr
  go_enter Try.func7, Try.ntmps7
  go_wp2_with fail
  refine (equalPair_any _ _ _ _ _ _ _ _ r _ H.out.1 H.out.2.1 hn hn' H.out.2.2).mono ?_
  rintro e w1 ⟨rfl, q, rfl⟩
  go_wp2
  go_ret
  exact ⟨rfl, q, rfl⟩
theorem below_dnS {B : Nat} {a w : World} (h : Below B a w) (q : Nat) : Below B a (w.drewN q) := ⟨h.os, h.tape, h.output, h.size, h.block⟩
set_option maxRecDepth 100000 in
set_option maxHeartbeats 2000000 in
theorem exactSamePairs_walk (v v' : Value) (n n' : Nat) (F F' : Nat → Int) (w : World) (h : Row w 0 2 n F v) (h' : Row w 0 2 n' F' v') (hn : n ≤ 9223372036854775807) (hn' : n' ≤ 9223372036854775807) :
    Calls Try.prog 3 #[v, v'] w fun e w' => e = .returned (.bool true) ∧ Below w.heap.size w w' := by
  obtain ⟨ao, cp, rfl⟩ := h.form
  obtain ⟨bo, cq, rfl⟩ := h'.form
  have H : Hid (Row w 0 2 n F (.slice ao n cp) ∧ Row w 0 2 n' F' (.slice bo n' cq)) := ⟨h, h'⟩
  clear h h'
  by_cases hs : (1048576 : Int) < n
  · go_enter Try.func3, Try.ntmps3
    go_wp2_with fail
    refine (szPairS_no _ _ _ _ _ hs (by omega) (by omega) hn).mono ?_
    rintro e w1 ⟨rfl, rfl⟩
    go_wp2
    go_ret
    exact ⟨rfl, Below.refl _ _⟩
  have hb : n ≤ 1048576 := by omega
  have dz : decide ((1048576 : Int) - n < 0) = false := decide_eq_false (by omega)
  clear hs
  by_cases hs : (1048576 : Int) - n < n'
  · go_enter Try.func3, Try.ntmps3
    go_wp2_with fail
    refine (szPairS_ok _ _ _ _ _ (by omega) (by omega)).mono ?_
    rintro e w1 ⟨rfl, hw1⟩
    obtain rfl := hw1.symm
    go_wp2_with fail
    refine (szPairS_no _ _ _ _ _ hs (by omega) (by omega) hn').mono ?_
    rintro e w1 ⟨rfl, rfl⟩
    go_wp2
    go_ret
    exact ⟨rfl, Below.refl _ _⟩
  have hb' : n' ≤ 1048576 := by omega
  have dz' : decide ((1048576 : Int) - n - n' < 0) = false := decide_eq_false (by omega)
  obtain ⟨r, HR⟩ : ∃ r : Bool, Hid (r = true ↔ AlikeP 2 n F n' F') := by
    by_cases hh : AlikeP 2 n F n' F'
    · exact ⟨true, fun _ => hh, fun _ => rfl⟩
    · exact ⟨false, fun q => absurd q (by decide), fun q => absurd q hh⟩
  have dr : (r != r) = false := by cases r <;> rfl
  go_enter Try.func3, Try.ntmps3
  go_wp2_with fail
  refine (szPairS_ok _ _ _ _ _ (by omega) (by omega)).mono ?_
  rintro e w1 ⟨rfl, hw1⟩
  obtain rfl := hw1.symm
  go_wp2_with fail
  refine (szPairS_ok _ _ _ _ _ (by omega) (by omega)).mono ?_
  rintro e w1 ⟨rfl, hw1⟩
  obtain rfl := hw1.symm
  clear hs
  go_wp2_with fail
  refine (toPairS_any _ 0 n F _ H.out.1 hb).mono ?_
  rintro e w2 ⟨u2, rfl, r2, _, q2⟩
  have Q2 : Hid (Below w.heap.size w w2) := q2
  have R2 : Hid (Row w2 0 2 n F u2) := r2.mono (Nat.zero_le _)
  clear r2 q2
  go_wp2_with fail
  refine (toPairS_any _ 0 n' F' _ (H.out.2.later Q2.out) hb').mono ?_
  rintro e w3 ⟨u3, rfl, r3, _, q3⟩
  have Q3 : Hid (Below w.heap.size w w3) := Q2.out.trans (q3.mono Q2.out.size)
  have R3 : Hid (Row w3 0 2 n F u2 ∧ Row w3 0 2 n' F' u3) := ⟨R2.out.later q3, r3.mono (Nat.zero_le _)⟩
  clear r3 q3 Q2 R2
  go_wp2_with fail
  refine (specSamePairs_any _ _ _ _ _ _ _ _ r _ R3.out.1 R3.out.2 hb hb' HR.out).mono ?_
  rintro e w4 ⟨rfl, q4, hw4⟩
  have Q4 : Hid (Below w.heap.size w w4) := by rw [hw4]; exact below_dnS Q3.out _
  clear hw4 Q3 R3
  go_wp2_with fail
  refine (toPairS_any _ 0 n F _ (H.out.1.later Q4.out) hb).mono ?_
  rintro e w5 ⟨u5, rfl, r5, _, q5⟩
  have Q5 : Hid (Below w.heap.size w w5) := Q4.out.trans (q5.mono Q4.out.size)
  have R5 : Hid (Row w5 0 2 n F u5) := r5.mono (Nat.zero_le _)
  clear r5 q5 Q4
  go_wp2_with fail
  refine (toPairS_any _ 0 n' F' _ (H.out.2.later Q5.out) hb').mono ?_
  rintro e w6 ⟨u6, rfl, r6, _, q6⟩
  have Q6 : Hid (Below w.heap.size w w6) := Q5.out.trans (q6.mono Q5.out.size)
  have R6 : Hid (Row w6 0 2 n F u5 ∧ Row w6 0 2 n' F' u6) := ⟨R5.out.later q6, r6.mono (Nat.zero_le _)⟩
  clear r6 q6 Q5 R5
  go_wp2_with fail
  refine (implSamePairs_any _ _ _ _ _ _ _ _ r _ R6.out.1 R6.out.2 hb hb' HR.out).mono ?_
  rintro e w7 ⟨rfl, q7, hw7⟩
  have Q7 : Hid (Below w.heap.size w w7) := by rw [hw7]; exact below_dnS Q6.out _
  have R7 : Hid (Row w7 0 2 n F u5 ∧ Row w7 0 2 n' F' u6) := by rw [hw7]; exact ⟨R6.out.1.drewN _, R6.out.2.drewN _⟩
  clear hw7 Q6 R6
  go_wp2_with fail
  refine (toPairS_any _ 0 n F _ (H.out.1.later Q7.out) hb).mono ?_
  rintro e w8 ⟨u8, rfl, r8, _, q8⟩
  have Q8 : Hid (Below w.heap.size w w8) := Q7.out.trans (q8.mono Q7.out.size)
  have R8 : Hid ((Row w8 0 2 n F u5 ∧ Row w8 0 2 n' F' u6) ∧ Row w8 0 2 n F u8) := ⟨⟨R7.out.1.later q8, R7.out.2.later q8⟩, r8.mono (Nat.zero_le _)⟩
  clear r8 q8 Q7 R7
  go_wp2_with fail
  refine (eqPairS_same _ _ 0 0 n F _ R8.out.1.1 R8.out.2 hb).mono ?_
  rintro e w9 ⟨rfl, q9⟩
  have Q9 : Hid (Below w.heap.size w w9) := Q8.out.trans (q9.mono Q8.out.size)
  have R9 : Hid (Row w9 0 2 n' F' u6) := R8.out.1.2.later q9
  clear q9 Q8 R8
  go_wp2_with fail
  refine (toPairS_any _ 0 n' F' _ (H.out.2.later Q9.out) hb').mono ?_
  rintro e wa ⟨ua, rfl, ra, _, qa⟩
  have Qa : Hid (Below w.heap.size w wa) := Q9.out.trans (qa.mono Q9.out.size)
  have Ra : Hid (Row wa 0 2 n' F' u6 ∧ Row wa 0 2 n' F' ua) := ⟨R9.out.later qa, ra.mono (Nat.zero_le _)⟩
  clear ra qa Q9 R9
  go_wp2_with fail
  refine (eqPairS_same _ _ 0 0 n' F' _ Ra.out.1 Ra.out.2 hb').mono ?_
  rintro e wb ⟨rfl, qb⟩
  have Qb : Hid (Below w.heap.size w wb) := Qa.out.trans (qb.mono Qa.out.size)
  clear qb Qa Ra
  go_wp2
  go_ret
  exact ⟨rfl, Qb.out⟩
end Go.Proofs.Ytdbcmckoiacemab
