/-
  Own text. Chapter 8, the model: what TxnFault is, as a plain function of the numbers of a transaction; no condition but the row's own.
-/
import Derived.Test.YtdbcmckoiacemaaKeysA
import Derived.Test.YtdbcmckoiacemaaColsA
import Derived.BigQuiet
import Derived.Deep.QuietTactic
import Derived.Deep.RegionHeld
namespace Go.Proofs.Ytdbcmckoiacemaa
open Go.RowKit

/-- Whether one of the first k items has the key. -/
def hasI (F : Nat → Int) (key : Int) : Nat → Bool
  | 0 => false
  | k + 1 => hasI F key k || F (k * 3) == key
theorem hasI_true {F : Nat → Int} {key : Int} : ∀ {n : Nat}, hasI F key n = true ↔ ∃ i, i < n ∧ F (i * 3) = key
  | 0 => ⟨fun h => Bool.noConfusion h, fun h => by obtain ⟨i, hi, _⟩ := h; exact absurd hi (Nat.not_lt_zero i)⟩
  | n + 1 => by
    rw [hasI, Bool.or_eq_true, hasI_true (n := n), beq_iff_eq]
    refine ⟨fun h => ?_, fun ⟨i, hi, e⟩ => ?_⟩
    · rcases h with ⟨i, hi, e⟩ | e
      · exact ⟨i, by omega, e⟩
      · exact ⟨n, by omega, e⟩
    · rcases Nat.lt_or_ge i n with h | h
      · exact Or.inl ⟨i, h, e⟩
      · obtain rfl : i = n := by omega
        exact Or.inr e
/-- What is told of an item. -/
def itemF (k kd v : Int) : Int := if faultOf k ≠ 0 then faultOf k else if ¬ (1 ≤ kd ∧ kd ≤ 3) ∨ ¬ (0 ≤ v ∧ v ≤ 9999) then 3 else if v ≠ 0 ∧ kd ≠ 1 then 1 else 0
/-- What is told of m items from number k on. -/
def itemsF (F : Nat → Int) : Nat → Nat → Int
  | 0, _ => 0
  | m + 1, k => if itemF (F (k * 3)) (F (k * 3 + 1)) (F (k * 3 + 2)) ≠ 0 then itemF (F (k * 3)) (F (k * 3 + 1)) (F (k * 3 + 2)) else if hasI F (F (k * 3)) k = true then 6 else itemsF F m (k + 1)
theorem itemsF_bad {F : Nat → Int} {m k : Nat} {f : Int} (hm : 0 < m) (h : itemF (F (k * 3)) (F (k * 3 + 1)) (F (k * 3 + 2)) = f) (h0 : f ≠ 0) : itemsF F m k = f := by
  obtain ⟨m, rfl⟩ : ∃ q, m = q + 1 := ⟨m - 1, by omega⟩
  rw [itemsF, if_pos (by rw [h]; exact h0), h]
theorem itemsF_two {F : Nat → Int} {m k : Nat} (hm : 0 < m) (h : itemF (F (k * 3)) (F (k * 3 + 1)) (F (k * 3 + 2)) = 0) (h0 : hasI F (F (k * 3)) k = true) : itemsF F m k = 6 := by
  obtain ⟨m, rfl⟩ : ∃ q, m = q + 1 := ⟨m - 1, by omega⟩
  rw [itemsF, if_neg (fun q => q h), if_pos h0]
theorem itemsF_on {F : Nat → Int} {m k : Nat} (hm : 0 < m) (h : itemF (F (k * 3)) (F (k * 3 + 1)) (F (k * 3 + 2)) = 0) (h0 : hasI F (F (k * 3)) k = false) : itemsF F m k = itemsF F (m - 1) (k + 1) := by
  obtain ⟨m, rfl⟩ : ∃ q, m = q + 1 := ⟨m - 1, by omega⟩
  rw [itemsF, if_neg (fun q => q h), if_neg (by rw [h0]; exact Bool.false_ne_true)]; rfl
/-- What is told of a transaction. -/
def txnF (s c u st a : Int) (n : Nat) (F : Nat → Int) : Int :=
  if ¬ (1 ≤ s ∧ s ≤ 100000) ∨ ¬ (0 ≤ c ∧ c ≤ 100000) ∨ ¬ (0 ≤ u ∧ u ≤ 100000) ∨ ¬ (1 ≤ st ∧ st ≤ 7) then 3
  else if n < 1 ∨ 12 < n then 2
  else if itemsF F n 0 ≠ 0 then itemsF F n 0
  else if ¬ (0 ≤ a ∧ a ≤ n) then 3
  else if (st = 2 ∨ st = 3 ∨ st = 4) ∧ c ≤ s ∨ st = 1 ∧ c ≠ 0 then 1 else 0
theorem txnF_range {s c u st a : Int} {n : Nat} {F : Nat → Int} (h : ¬ (1 ≤ s ∧ s ≤ 100000) ∨ ¬ (0 ≤ c ∧ c ≤ 100000) ∨ ¬ (0 ≤ u ∧ u ≤ 100000) ∨ ¬ (1 ≤ st ∧ st ≤ 7)) : txnF s c u st a n F = 3 := by unfold txnF; rw [if_pos h]
/-- The first four numbers are as they should be. -/
def InB (s c u st : Int) : Prop := (1 ≤ s ∧ s ≤ 100000) ∧ (0 ≤ c ∧ c ≤ 100000) ∧ (0 ≤ u ∧ u ≤ 100000) ∧ (1 ≤ st ∧ st ≤ 7)
theorem InB.not {s c u st : Int} (h : InB s c u st) : ¬ (¬ (1 ≤ s ∧ s ≤ 100000) ∨ ¬ (0 ≤ c ∧ c ≤ 100000) ∨ ¬ (0 ≤ u ∧ u ≤ 100000) ∨ ¬ (1 ≤ st ∧ st ≤ 7)) := by
  obtain ⟨h0, h1, h2, h3⟩ := h
  rintro (q | q | q | q)
  · exact q h0
  · exact q h1
  · exact q h2
  · exact q h3
theorem txnF_many {s c u st a : Int} {n : Nat} {F : Nat → Int} (h : InB s c u st) (hn : n < 1 ∨ 12 < n) : txnF s c u st a n F = 2 := by unfold txnF; rw [if_neg h.not, if_pos hn]
theorem txnF_item {s c u st a : Int} {n : Nat} {F : Nat → Int} (h : InB s c u st) (hn : ¬ (n < 1 ∨ 12 < n)) {f : Int} (hf : itemsF F n 0 = f) (h0 : f ≠ 0) : txnF s c u st a n F = f := by unfold txnF; rw [if_neg h.not, if_neg hn, if_pos (by rw [hf]; exact h0), hf]
theorem txnF_at {s c u st a : Int} {n : Nat} {F : Nat → Int} (h : InB s c u st) (hn : ¬ (n < 1 ∨ 12 < n)) (hf : itemsF F n 0 = 0) (ha : ¬ (0 ≤ a ∧ a ≤ n)) : txnF s c u st a n F = 3 := by unfold txnF; rw [if_neg h.not, if_neg hn, if_neg (fun q => q hf), if_pos ha]
theorem txnF_form {s c u st a : Int} {n : Nat} {F : Nat → Int} (h : InB s c u st) (hn : ¬ (n < 1 ∨ 12 < n)) (hf : itemsF F n 0 = 0) (ha : 0 ≤ a ∧ a ≤ n) (hc : (st = 2 ∨ st = 3 ∨ st = 4) ∧ c ≤ s ∨ st = 1 ∧ c ≠ 0) : txnF s c u st a n F = 1 := by unfold txnF; rw [if_neg h.not, if_neg hn, if_neg (fun q => q hf), if_neg (fun q => q ha), if_pos hc]
theorem txnF_ok {s c u st a : Int} {n : Nat} {F : Nat → Int} (h : InB s c u st) (hn : ¬ (n < 1 ∨ 12 < n)) (hf : itemsF F n 0 = 0) (ha : 0 ≤ a ∧ a ≤ n) (hc : ¬ ((st = 2 ∨ st = 3 ∨ st = 4) ∧ c ≤ s ∨ st = 1 ∧ c ≠ 0)) : txnF s c u st a n F = 0 := by unfold txnF; rw [if_neg h.not, if_neg hn, if_neg (fun q => q hf), if_neg (fun q => q ha), if_neg hc]

theorem inT_is (v lo hi : Int) (r : Bool) (hr : decide (lo ≤ v ∧ v ≤ hi) = r) (w : World) :
    Calls Try.prog 40 #[.int .i64 v, .int .i64 lo, .int .i64 hi] w fun e w' => e = .returned (.bool r) ∧ w' = w := by
  by_cases h1 : lo ≤ v
  · by_cases h2 : v ≤ hi
    · have d : decide (v ≤ hi) = true := decide_eq_true h2
      rw [decide_eq_true (show lo ≤ v ∧ v ≤ hi from ⟨h1, h2⟩)] at hr
      subst hr
      go_enter Try.func40, Try.ntmps40
      go_wp2
      go_ret
      exact ⟨rfl, rfl⟩
    · have d : decide (v ≤ hi) = false := decide_eq_false h2
      rw [decide_eq_false (show ¬ (lo ≤ v ∧ v ≤ hi) from fun h => h2 h.2)] at hr
      subst hr
      go_enter Try.func40, Try.ntmps40
      go_wp2
      go_ret
      exact ⟨rfl, rfl⟩
  · have d : decide (lo ≤ v) = false := decide_eq_false h1
    rw [decide_eq_false (show ¬ (lo ≤ v ∧ v ≤ hi) from fun h => h1 h.1)] at hr
    subst hr
    go_enter Try.func40, Try.ntmps40
    go_wp2
    go_ret
    exact ⟨rfl, rfl⟩
set_option maxHeartbeats 1000000 in
theorem l8Has_is (v : Value) (B n : Nat) (F : Nat → Int) (key : Int) (r : Bool) (hr : hasI F key n = r) (w : World) (h : Row w B 3 n F v) (hn : n ≤ 9223372036854775807) :
    Calls Try.prog 56 #[v, .int .i64 key] w fun e w' => e = .returned (.bool r) ∧ w' = w := by
  obtain ⟨ao, cp, rfl⟩ := h.form
  have H : Hid (Row w B 3 n F (.slice ao n cp)) := h
  have HR : Hid (hasI F key n = r) := hr
  clear h hr
  go_enter Try.func56, Try.ntmps56
  go_wp2
  go_loop [5] (fun i => ∃ k : Nat, k ≤ n ∧ i = .int .i64 k ∧ Hid (hasI F key k = false)) (fun i => n - (intOf i).toNat)
  case atStart => exact ⟨0, Nat.zero_le _, rfl, rfl⟩
  case round =>
    obtain ⟨k, hk, rfl, HS⟩ := hrel
    by_cases hlt : k < n
    case neg =>
      obtain rfl : n = k := by omega
      have E : Hid (r = false) := HR.out.symm.trans HS.out
      clear HS HR
      go_wp2
      go_ret
      exact ⟨by rw [E.out]; rfl, rfl⟩
    obtain ⟨g, o, rfl, _, hg, x0, _, _⟩ := H.out.at3 hlt
    obtain ⟨n0, N0⟩ : ∃ x, F (k * 3) = x := ⟨_, rfl⟩
    rw [N0] at x0
    by_cases hz : n0 = key
    · have E : Hid (r = true) := HR.out.symm.trans (hasI_true.2 ⟨k, hlt, N0.trans hz⟩)
      clear HS HR N0
      subst hz
      go_wp2
      go_ret
      exact ⟨by rw [E.out]; rfl, rfl⟩
    · have E : Hid (hasI F key (k + 1) = false) := by
        unfold Hid
        rw [hasI, HS.out, N0, beq_eq_false_iff_ne.2 hz]; rfl
      have d : (n0 == key) = false := beq_eq_false_iff_ne.2 hz
      clear HS N0 hz
      go_wp2
      go_round
      case rel => exact ⟨k + 1, by omega, by go_num, E⟩
      case measure => simp [intOf]; omega
end Go.Proofs.Ytdbcmckoiacemaa
