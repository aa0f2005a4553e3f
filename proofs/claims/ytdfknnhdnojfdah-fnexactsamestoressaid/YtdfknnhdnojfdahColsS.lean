/-
  Own text. What slices.Equal answers over two rows of structs: whether they have as many elements, and all their numbers alike.
-/
import Derived.Test.YtdfknnhdnojfdahColsE
import Derived.Laws.StructEq
namespace Go.Proofs.Ytdfknnhdnojfdah
open Go.RowKit

/-- Two rows are alike. -/
def Alike (m n : Nat) (F : Nat → Int) (n' : Nat) (G : Nat → Int) : Prop := n = n' ∧ ∀ p, p < n * m → F p = G p
/-- Of the first k elements all numbers are alike. -/
def Upto (N : Nat) (F G : Nat → Int) : Prop := ∀ p, p < N → F p = G p
theorem Upto.no {N p : Nat} {F G : Nat → Int} (h : Upto N F G) (hp : p < N) (hne : F p ≠ G p) : False := hne (h p hp)

theorem neqCell (x0 x1 x2 y0 y1 y2 : Int) (r : Bool) (hr : decide (x0 = y0 ∧ x1 = y1 ∧ x2 = y2) = r) (w : World) : (binOp .neq 77 (.agg #[.int .i64 x0, .int .i64 x1, .int .i64 x2]) (.agg #[.int .i64 y0, .int .i64 y1, .int .i64 y2])).run Try.prog w = .ok (.bool (!r)) w := by
  have hS : Try.prog.underlying 77 = some (.struct (Try.prog.fieldsOf 77)) := by kernel_rfl
  have hp : Try.prog.stoodInHeld 77 = false := by kernel_rfl
  have u2 := Try.underlying2
  have a2 := Try.isAgg2
  have z2 := Try.sizeOf2
  rw [run_neq_struct, show (10000 : Nat) = 9999 + 1 from rfl, run_equalIn_agg w 9999 _ _ _ hS hp]
  simp only [Program.fieldsOf, Try.underlying77]
  subst hr
  go_simp
  by_cases h0 : x0 = y0 <;> by_cases h1 : x1 = y1 <;> by_cases h2 : x2 = y2 <;> simp [h0, h1, h2]

theorem neqLock (x0 x1 x2 x3 x4 y0 y1 y2 y3 y4 : Int) (r : Bool) (hr : decide (x0 = y0 ∧ x1 = y1 ∧ x2 = y2 ∧ x3 = y3 ∧ x4 = y4) = r) (w : World) : (binOp .neq 60 (.agg #[.int .i64 x0, .int .i64 x1, .int .i64 x2, .int .i64 x3, .int .i64 x4]) (.agg #[.int .i64 y0, .int .i64 y1, .int .i64 y2, .int .i64 y3, .int .i64 y4])).run Try.prog w = .ok (.bool (!r)) w := by
  have hS : Try.prog.underlying 60 = some (.struct (Try.prog.fieldsOf 60)) := by kernel_rfl
  have hp : Try.prog.stoodInHeld 60 = false := by kernel_rfl
  have u2 := Try.underlying2
  have a2 := Try.isAgg2
  have z2 := Try.sizeOf2
  rw [run_neq_struct, show (10000 : Nat) = 9999 + 1 from rfl, run_equalIn_agg w 9999 _ _ _ hS hp]
  simp only [Program.fieldsOf, Try.underlying60]
  subst hr
  go_simp
  by_cases h0 : x0 = y0 <;> by_cases h1 : x1 = y1 <;> by_cases h2 : x2 = y2 <;> by_cases h3 : x3 = y3 <;> by_cases h4 : x4 = y4 <;> simp [h0, h1, h2, h3, h4]

theorem neqWrite (x0 x1 x2 x3 y0 y1 y2 y3 : Int) (r : Bool) (hr : decide (x0 = y0 ∧ x1 = y1 ∧ x2 = y2 ∧ x3 = y3) = r) (w : World) : (binOp .neq 87 (.agg #[.int .i64 x0, .int .i64 x1, .int .i64 x2, .int .i64 x3]) (.agg #[.int .i64 y0, .int .i64 y1, .int .i64 y2, .int .i64 y3])).run Try.prog w = .ok (.bool (!r)) w := by
  have hS : Try.prog.underlying 87 = some (.struct (Try.prog.fieldsOf 87)) := by kernel_rfl
  have hp : Try.prog.stoodInHeld 87 = false := by kernel_rfl
  have u2 := Try.underlying2
  have a2 := Try.isAgg2
  have z2 := Try.sizeOf2
  rw [run_neq_struct, show (10000 : Nat) = 9999 + 1 from rfl, run_equalIn_agg w 9999 _ _ _ hS hp]
  simp only [Program.fieldsOf, Try.underlying87]
  subst hr
  go_simp
  by_cases h0 : x0 = y0 <;> by_cases h1 : x1 = y1 <;> by_cases h2 : x2 = y2 <;> by_cases h3 : x3 = y3 <;> simp [h0, h1, h2, h3]

theorem uptoCell {k : Nat} {F G : Nat → Int} (hU : Hid (Upto (k * 3) F G)) (he : F (k * 3) = G (k * 3) ∧ F (k * 3 + 1) = G (k * 3 + 1) ∧ F (k * 3 + 2) = G (k * 3 + 2)) : Upto ((k + 1) * 3) F G := fun p hp => by
        rcases Nat.lt_or_ge p (k * 3) with h | h
        · exact hU.out p h
        · obtain rfl | rfl | rfl : p = k * 3 ∨ p = k * 3 + 1 ∨ p = k * 3 + 2 := by omega
          · exact he.1
          · exact he.2.1
          · exact he.2.2

set_option maxHeartbeats 1000000 in
theorem equalCell_any (va vb : Value) (Ba Bb n n' : Nat) (F G : Nat → Int) (r : Bool) (w : World) (ha : Row w Ba 3 n F va) (hb : Row w Bb 3 n' G vb) (hn : n ≤ 1048576) (hn' : n' ≤ 1048576) (hr : r = true ↔ Alike 3 n F n' G) :
    Calls Try.prog 55 #[va, vb] w fun e w' => e = .returned (.bool r) ∧ ∃ q, w' = w.drewN q := by
  obtain ⟨ao, ca, rfl⟩ := ha.form
  obtain ⟨bo, cb, rfl⟩ := hb.form
  have HA : Hid (Row w Ba 3 n F (.slice ao n ca)) := ha
  have HB : Hid (Row w Bb 3 n' G (.slice bo n' cb)) := hb
  have HR : Hid (r = true ↔ Alike 3 n F n' G) := hr
  clear ha hb hr
  have hgd : Try.prog.eqGuardType Try.prog.depth 77 = false := by kernel_rfl
  by_cases hne : n = n'
  case neg =>
    have E : Hid (r = false) := by
      cases r with
      | false => rfl
      | true => exact absurd (HR.out.1 rfl).1 hne
    have d : ((n : Int) != (n' : Int)) = true := bne_iff_ne.2 (by omega)
    clear hne hn hn' hgd HA HB HR
    go_enter Try.func55, Try.ntmps55
    go_wp2
    go_ret
    exact ⟨by rw [E.out]; rfl, 0, rfl⟩
  subst hne
  go_enter Try.func55, Try.ntmps55
  go_wp2
  go_loopw [13] (fun i wr => ∃ k q : Nat, k ≤ n ∧ i = .int .i64 k ∧ Hid (Upto (k * 3) F G) ∧ wr = w.drewN q) (fun i _ => n - (intOf i).toNat)
  case atStart => exact ⟨0, 0, Nat.zero_le _, rfl, fun p hp => absurd hp (by omega), rfl⟩
  case round =>
    obtain ⟨k, q, hk, rfl, hU, rfl⟩ := hrel
    by_cases hlt : k < n
    · obtain ⟨g, o, rfl, _, hg, c0, c1, c2⟩ := HA.out.at3 hlt
      obtain ⟨g', o', rfl, _, hg', d0, d1, d2⟩ := HB.out.at3 hlt
      by_cases he : F (k * 3) = G (k * 3) ∧ F (k * 3 + 1) = G (k * 3 + 1) ∧ F (k * 3 + 2) = G (k * 3 + 2)
      · have hq := neqCell (F (k * 3)) (F (k * 3 + 1)) (F (k * 3 + 2)) (G (k * 3)) (G (k * 3 + 1)) (G (k * 3 + 2)) true (decide_eq_true he)
        have hU2 : Hid (Upto ((k + 1) * 3) F G) := uptoCell hU he
        clear he hU
        go_wp2
        go_quiet (fail)
        go_wp2
        go_roundw
        case rel => exact ⟨k + 1, _, by omega, by go_num, hU2, rfl⟩
        case measure => simp [intOf]; omega
      · have hq := neqCell (F (k * 3)) (F (k * 3 + 1)) (F (k * 3 + 2)) (G (k * 3)) (G (k * 3 + 1)) (G (k * 3 + 2)) false (decide_eq_false he)
        have E : Hid (r = false) := by
          cases r with
          | false => rfl
          | true =>
            have h := (HR.out.1 rfl).2
            exact absurd ⟨h _ (by omega), h _ (by omega), h _ (by omega)⟩ he
        clear he hU
        go_wp2
        go_quiet (fail)
        go_wp2
        go_ret
        exact ⟨by rw [E.out]; rfl, _, World.drewN_drewN _ _ _⟩
    · obtain rfl : k = n := by omega
      have E : Hid (r = true) := HR.out.2 ⟨rfl, hU.out⟩
      clear hU
      go_wp2
      go_ret
      exact ⟨by rw [E.out]; rfl, _, rfl⟩

theorem uptoLock {k : Nat} {F G : Nat → Int} (hU : Hid (Upto (k * 5) F G)) (he : F (k * 5) = G (k * 5) ∧ F (k * 5 + 1) = G (k * 5 + 1) ∧ F (k * 5 + 2) = G (k * 5 + 2) ∧ F (k * 5 + 3) = G (k * 5 + 3) ∧ F (k * 5 + 4) = G (k * 5 + 4)) : Upto ((k + 1) * 5) F G := fun p hp => by
        rcases Nat.lt_or_ge p (k * 5) with h | h
        · exact hU.out p h
        · obtain rfl | rfl | rfl | rfl | rfl : p = k * 5 ∨ p = k * 5 + 1 ∨ p = k * 5 + 2 ∨ p = k * 5 + 3 ∨ p = k * 5 + 4 := by omega
          · exact he.1
          · exact he.2.1
          · exact he.2.2.1
          · exact he.2.2.2.1
          · exact he.2.2.2.2

set_option maxHeartbeats 1000000 in
theorem equalLock_any (va vb : Value) (Ba Bb n n' : Nat) (F G : Nat → Int) (r : Bool) (w : World) (ha : Row w Ba 5 n F va) (hb : Row w Bb 5 n' G vb) (hn : n ≤ 1048576) (hn' : n' ≤ 1048576) (hr : r = true ↔ Alike 5 n F n' G) :
    Calls Try.prog 56 #[va, vb] w fun e w' => e = .returned (.bool r) ∧ ∃ q, w' = w.drewN q := by
  obtain ⟨ao, ca, rfl⟩ := ha.form
  obtain ⟨bo, cb, rfl⟩ := hb.form
  have HA : Hid (Row w Ba 5 n F (.slice ao n ca)) := ha
  have HB : Hid (Row w Bb 5 n' G (.slice bo n' cb)) := hb
  have HR : Hid (r = true ↔ Alike 5 n F n' G) := hr
  clear ha hb hr
  have hgd : Try.prog.eqGuardType Try.prog.depth 60 = false := by kernel_rfl
  by_cases hne : n = n'
  case neg =>
    have E : Hid (r = false) := by
      cases r with
      | false => rfl
      | true => exact absurd (HR.out.1 rfl).1 hne
    have d : ((n : Int) != (n' : Int)) = true := bne_iff_ne.2 (by omega)
    clear hne hn hn' hgd HA HB HR
    go_enter Try.func56, Try.ntmps56
    go_wp2
    go_ret
    exact ⟨by rw [E.out]; rfl, 0, rfl⟩
  subst hne
  go_enter Try.func56, Try.ntmps56
  go_wp2
  go_loopw [13] (fun i wr => ∃ k q : Nat, k ≤ n ∧ i = .int .i64 k ∧ Hid (Upto (k * 5) F G) ∧ wr = w.drewN q) (fun i _ => n - (intOf i).toNat)
  case atStart => exact ⟨0, 0, Nat.zero_le _, rfl, fun p hp => absurd hp (by omega), rfl⟩
  case round =>
    obtain ⟨k, q, hk, rfl, hU, rfl⟩ := hrel
    by_cases hlt : k < n
    · obtain ⟨g, o, rfl, _, hg, c0, c1, c2, c3, c4⟩ := HA.out.at5 hlt
      obtain ⟨g', o', rfl, _, hg', d0, d1, d2, d3, d4⟩ := HB.out.at5 hlt
      by_cases he : F (k * 5) = G (k * 5) ∧ F (k * 5 + 1) = G (k * 5 + 1) ∧ F (k * 5 + 2) = G (k * 5 + 2) ∧ F (k * 5 + 3) = G (k * 5 + 3) ∧ F (k * 5 + 4) = G (k * 5 + 4)
      · have hq := neqLock (F (k * 5)) (F (k * 5 + 1)) (F (k * 5 + 2)) (F (k * 5 + 3)) (F (k * 5 + 4)) (G (k * 5)) (G (k * 5 + 1)) (G (k * 5 + 2)) (G (k * 5 + 3)) (G (k * 5 + 4)) true (decide_eq_true he)
        have hU2 : Hid (Upto ((k + 1) * 5) F G) := uptoLock hU he
        clear he hU
        go_wp2
        go_quiet (fail)
        go_wp2
        go_roundw
        case rel => exact ⟨k + 1, _, by omega, by go_num, hU2, rfl⟩
        case measure => simp [intOf]; omega
      · have hq := neqLock (F (k * 5)) (F (k * 5 + 1)) (F (k * 5 + 2)) (F (k * 5 + 3)) (F (k * 5 + 4)) (G (k * 5)) (G (k * 5 + 1)) (G (k * 5 + 2)) (G (k * 5 + 3)) (G (k * 5 + 4)) false (decide_eq_false he)
        have E : Hid (r = false) := by
          cases r with
          | false => rfl
          | true =>
            have h := (HR.out.1 rfl).2
            exact absurd ⟨h _ (by omega), h _ (by omega), h _ (by omega), h _ (by omega), h _ (by omega)⟩ he
        clear he hU
        go_wp2
        go_quiet (fail)
        go_wp2
        go_ret
        exact ⟨by rw [E.out]; rfl, _, World.drewN_drewN _ _ _⟩
    · obtain rfl : k = n := by omega
      have E : Hid (r = true) := HR.out.2 ⟨rfl, hU.out⟩
      clear hU
      go_wp2
      go_ret
      exact ⟨by rw [E.out]; rfl, _, rfl⟩

theorem uptoWrite {k : Nat} {F G : Nat → Int} (hU : Hid (Upto (k * 4) F G)) (he : F (k * 4) = G (k * 4) ∧ F (k * 4 + 1) = G (k * 4 + 1) ∧ F (k * 4 + 2) = G (k * 4 + 2) ∧ F (k * 4 + 3) = G (k * 4 + 3)) : Upto ((k + 1) * 4) F G := fun p hp => by
        rcases Nat.lt_or_ge p (k * 4) with h | h
        · exact hU.out p h
        · obtain rfl | rfl | rfl | rfl : p = k * 4 ∨ p = k * 4 + 1 ∨ p = k * 4 + 2 ∨ p = k * 4 + 3 := by omega
          · exact he.1
          · exact he.2.1
          · exact he.2.2.1
          · exact he.2.2.2

set_option maxHeartbeats 1000000 in
theorem equalWrite_any (va vb : Value) (Ba Bb n n' : Nat) (F G : Nat → Int) (r : Bool) (w : World) (ha : Row w Ba 4 n F va) (hb : Row w Bb 4 n' G vb) (hn : n ≤ 1048576) (hn' : n' ≤ 1048576) (hr : r = true ↔ Alike 4 n F n' G) :
    Calls Try.prog 57 #[va, vb] w fun e w' => e = .returned (.bool r) ∧ ∃ q, w' = w.drewN q := by
  obtain ⟨ao, ca, rfl⟩ := ha.form
  obtain ⟨bo, cb, rfl⟩ := hb.form
  have HA : Hid (Row w Ba 4 n F (.slice ao n ca)) := ha
  have HB : Hid (Row w Bb 4 n' G (.slice bo n' cb)) := hb
  have HR : Hid (r = true ↔ Alike 4 n F n' G) := hr
  clear ha hb hr
  have hgd : Try.prog.eqGuardType Try.prog.depth 87 = false := by kernel_rfl
  by_cases hne : n = n'
  case neg =>
    have E : Hid (r = false) := by
      cases r with
      | false => rfl
      | true => exact absurd (HR.out.1 rfl).1 hne
    have d : ((n : Int) != (n' : Int)) = true := bne_iff_ne.2 (by omega)
    clear hne hn hn' hgd HA HB HR
    go_enter Try.func57, Try.ntmps57
    go_wp2
    go_ret
    exact ⟨by rw [E.out]; rfl, 0, rfl⟩
  subst hne
  go_enter Try.func57, Try.ntmps57
  go_wp2
  go_loopw [13] (fun i wr => ∃ k q : Nat, k ≤ n ∧ i = .int .i64 k ∧ Hid (Upto (k * 4) F G) ∧ wr = w.drewN q) (fun i _ => n - (intOf i).toNat)
  case atStart => exact ⟨0, 0, Nat.zero_le _, rfl, fun p hp => absurd hp (by omega), rfl⟩
  case round =>
    obtain ⟨k, q, hk, rfl, hU, rfl⟩ := hrel
    by_cases hlt : k < n
    · obtain ⟨g, o, rfl, _, hg, c0, c1, c2, c3⟩ := HA.out.at4 hlt
      obtain ⟨g', o', rfl, _, hg', d0, d1, d2, d3⟩ := HB.out.at4 hlt
      by_cases he : F (k * 4) = G (k * 4) ∧ F (k * 4 + 1) = G (k * 4 + 1) ∧ F (k * 4 + 2) = G (k * 4 + 2) ∧ F (k * 4 + 3) = G (k * 4 + 3)
      · have hq := neqWrite (F (k * 4)) (F (k * 4 + 1)) (F (k * 4 + 2)) (F (k * 4 + 3)) (G (k * 4)) (G (k * 4 + 1)) (G (k * 4 + 2)) (G (k * 4 + 3)) true (decide_eq_true he)
        have hU2 : Hid (Upto ((k + 1) * 4) F G) := uptoWrite hU he
        clear he hU
        go_wp2
        go_quiet (fail)
        go_wp2
        go_roundw
        case rel => exact ⟨k + 1, _, by omega, by go_num, hU2, rfl⟩
        case measure => simp [intOf]; omega
      · have hq := neqWrite (F (k * 4)) (F (k * 4 + 1)) (F (k * 4 + 2)) (F (k * 4 + 3)) (G (k * 4)) (G (k * 4 + 1)) (G (k * 4 + 2)) (G (k * 4 + 3)) false (decide_eq_false he)
        have E : Hid (r = false) := by
          cases r with
          | false => rfl
          | true =>
            have h := (HR.out.1 rfl).2
            exact absurd ⟨h _ (by omega), h _ (by omega), h _ (by omega), h _ (by omega)⟩ he
        clear he hU
        go_wp2
        go_quiet (fail)
        go_wp2
        go_ret
        exact ⟨by rw [E.out]; rfl, _, World.drewN_drewN _ _ _⟩
    · obtain rfl : k = n := by omega
      have E : Hid (r = true) := HR.out.2 ⟨rfl, hU.out⟩
      clear hU
      go_wp2
      go_ret
      exact ⟨by rw [E.out]; rfl, _, rfl⟩
end Go.Proofs.Ytdfknnhdnojfdah
