/-
  Own text. How many writes a key has, the least start of all locks: plain words, and what the program's columns tell.
-/
import Derived.Test.YtpakmdihbfegeaaGreatDoorStorA
namespace Go.Proofs.YtpakmdihbfegeaaGreatDoor
open Go.RowKit

/-- How many of the first n writes a key has. -/
def cntW (k : Nat → Int) (key : Int) : Nat → Nat
  | 0 => 0
  | n + 1 => cntW k key n + (if k (n * 4) = key then 1 else 0)
theorem cntW_le (k : Nat → Int) (key : Int) : ∀ n, cntW k key n ≤ n
  | 0 => Nat.le_refl _
  | n + 1 => by
    have ih := cntW_le k key n
    unfold cntW
    split <;> omega
theorem cntW_yes {k : Nat → Int} {key : Int} {n : Nat} (h : k (n * 4) = key) : cntW k key (n + 1) = cntW k key n + 1 := by rw [cntW, if_pos h]
theorem cntW_no {k : Nat → Int} {key : Int} {n : Nat} (h : k (n * 4) ≠ key) : cntW k key (n + 1) = cntW k key n := by rw [cntW, if_neg h]; rfl
/-- The least start of the first n locks. -/
def lowL (l : Nat → Int) : Nat → Int
  | 0 => 0
  | 1 => l 1
  | n + 2 => if l ((n + 1) * 5 + 1) < lowL l (n + 1) then l ((n + 1) * 5 + 1) else lowL l (n + 1)
set_option maxRecDepth 100000 in
set_option maxHeartbeats 4000000 in
theorem oldestStart_is (B b N : Nat) (m : Int → Int → Option Int) (nl : Nat) (l : Nat → Int) (nw : Nat) (k : Nat → Int) (g : Nat) (u1 u2 : Value) (w : World) (h : Cols w B b N m nl l nw k g u1 u2) (hn : nl ≤ 200) :
    Calls Tryz.prog 105 #[.pointer (some ⟨b, 0, none⟩)] w fun e w' => e = .returned (.tuple #[.int .i64 (lowL l nl), .bool (decide (0 < nl))]) ∧ Below w.heap.size w w' := by
  obtain ⟨a1, c1, rfl⟩ := h.2.2.2.2.1.form
  have H : Hid (Row w B 5 nl l (.slice a1 nl c1)) := h.2.2.2.2.1.row.1
  have p1 := h.2.2.1.1.2.1
  have hb := h.2.2.1.lt
  clear h
  go_enter Tryz.func105, Tryz.ntmps105
  go_wp2
  clear p1
  go_loopw [2, 3, 11] (fun n ok i wr => ∃ q : Nat, q ≤ nl ∧ i = .int .i64 q ∧ n = .int .i64 (lowL l q) ∧ ok = .bool (decide (0 < q)) ∧ Hid (Below w.heap.size w wr)) (fun _ _ i _ => nl - (intOf i).toNat)
  case atStart => exact ⟨0, Nat.zero_le _, rfl, rfl, rfl, Below.refl _ _⟩
  case round =>
    obtain ⟨q, hq, rfl, rfl, rfl, HB⟩ := hrel
    by_cases hlt : q < nl
    case neg =>
      obtain rfl : nl = q := by omega
      obtain ⟨r, hr⟩ : ∃ r, decide (0 < nl) = r := ⟨_, rfl⟩
      have HR : Hid (decide (0 < nl) = r) := hr
      rw [hr]
      clear hr
      go_wp2
      go_ret2
      exact ⟨by rw [HR.out]; rfl, HB.out⟩
    obtain ⟨g', o, rfl, _, hg, x0, x1, x2, x3, x4⟩ := (H.out.later HB.out).at5 hlt
    obtain ⟨n0, N0⟩ : ∃ x, l (q * 5) = x := ⟨_, rfl⟩
    obtain ⟨n1, N1⟩ : ∃ x, l (q * 5 + 1) = x := ⟨_, rfl⟩
    obtain ⟨n2, N2⟩ : ∃ x, l (q * 5 + 2) = x := ⟨_, rfl⟩
    obtain ⟨n3, N3⟩ : ∃ x, l (q * 5 + 3) = x := ⟨_, rfl⟩
    obtain ⟨n4, N4⟩ : ∃ x, l (q * 5 + 4) = x := ⟨_, rfl⟩
    rw [N0] at x0
    rw [N1] at x1
    rw [N2] at x2
    rw [N3] at x3
    rw [N4] at x4
    have HB2 : Hid (Below w.heap.size w (wr.alloc (.cells #[.int .i64 n0, .int .i64 n1, .int .i64 n2, .int .i64 n3, .int .i64 n4] 59))) := HB.out.alloc HB.out.size _
    cases q with
    | zero =>
      have E : Hid (lowL l 1 = n1) := by unfold Hid lowL; simpa using N1
      clear N0 N1 N2 N3 N4 HB
      simp only [Nat.lt_irrefl, decide_false]
      simp only [Nat.zero_mul, Nat.add_zero] at x0 x1 x2 x3 x4
      go_wp2
      go_roundw
      case rel => exact ⟨1, by omega, by rfl, by rw [E.out], rfl, HB2⟩
      case measure => simp [intOf]; omega
    | succ q =>
      have E : Hid (lowL l (q + 1 + 1) = if n1 < lowL l (q + 1) then n1 else lowL l (q + 1)) := by unfold Hid; rw [← N1]; rfl
      have hd : decide (0 < q + 1) = true := decide_eq_true (Nat.succ_pos q)
      have hd2 : Hid (decide (0 < q + 1 + 1) = true) := decide_eq_true (Nat.succ_pos _)
      rw [hd]
      obtain ⟨y, hy⟩ : ∃ y, lowL l (q + 1) = y := ⟨_, rfl⟩
      rw [hy] at E
      rw [hy]
      clear N0 N1 N2 N3 N4 HB hy hd
      by_cases h1 : n1 < y
      · have E2 : Hid (lowL l (q + 1 + 1) = n1) := E.out.trans (if_pos h1)
        clear E
        go_wp2
        go_roundw
        case rel => exact ⟨q + 1 + 1, by omega, by go_num, by rw [E2.out], by rw [hd2.out], HB2⟩
        case measure => simp [intOf]; omega
      · have E2 : Hid (lowL l (q + 1 + 1) = y) := E.out.trans (if_neg h1)
        have d1 : decide (n1 < y) = false := decide_eq_false h1
        clear E h1
        go_wp2
        go_roundw
        case rel => exact ⟨q + 1 + 1, by omega, by go_num, by rw [E2.out], by rw [hd2.out], HB2⟩
        case measure => simp [intOf]; omega
end Go.Proofs.YtpakmdihbfegeaaGreatDoor
