/-
  Own text. The walk of the law FnKeys: over every code of bytes it returns true and turns nothing that was there.
-/
import Derived.Test.YtdfknnhdnojfdaaDoorDrawD
import Derived.Test.YtdfknnhdnojfdaaDoorKeysM
import Derived.Test.YtdfknnhdnojfdaaDoorKeysI
import Derived.Deep.RegionHeld
import Derived.Deep.DeepCutAuto
namespace Go.Proofs.YtdfknnhdnojfdaaDoor
open Go.RowKit

theorem field_text0 (x : Int) (t : ByteArray) (w : World) : (Instr.field 29 (.agg #[.int .i64 x, .string t]) 0).run Tryd.prog w = .ok (.int .i64 x) w := by kernel_rfl
theorem field_text1 (x : Int) (t : ByteArray) (w : World) : (Instr.field 29 (.agg #[.int .i64 x, .string t]) 1).run Tryd.prog w = .ok (.string t) w := by kernel_rfl
theorem field_int0 (x y : Int) (w : World) : (Instr.field 26 (.agg #[.int .i64 x, .int .i64 y]) 0).run Tryd.prog w = .ok (.int .i64 x) w := by kernel_rfl
theorem field_int1 (x y : Int) (w : World) : (Instr.field 26 (.agg #[.int .i64 x, .int .i64 y]) 1).run Tryd.prog w = .ok (.int .i64 y) w := by kernel_rfl
theorem field_parts0 (a b c d : Int) (w : World) : (Instr.field 33 (.agg #[.int .i64 a, .int .i64 b, .int .i64 c, .int .i64 d]) 0).run Tryd.prog w = .ok (.int .i64 a) w := by kernel_rfl
theorem field_ints0 (x : Int) (o : Option Addr) (n c : Nat) (w : World) : (Instr.field 41 (.agg #[.int .i64 x, .slice o n c]) 0).run Tryd.prog w = .ok (.int .i64 x) w := by kernel_rfl
theorem keyTx_ok {k : Int} (h : faultOf k = 0) : keyTx k = textOf k := by unfold keyTx; rw [if_pos h]

theorem ofBoth_parts {k : Int} (h : faultOf k = 0) : ofBoth (partK k) (partA k) (partB k) = (0, k) := by
  rcases parts_ways k with ⟨h', _⟩ | ⟨rfl, _, e1, e2, e3⟩ | ⟨h1, h2, _, e1, e2, e3⟩ | ⟨h1, h2, h3, _, e1, e2, e3⟩ | ⟨h1, h2, _, e1, e2, e3⟩
  · exact absurd h h'
  · rw [e1, e2, e3, ofBoth_ok (by omega) (by omega) (by omega), if_neg (by omega), if_neg (by omega), if_neg (by omega)]
  · rw [e1, e2, e3, ofBoth_ok (by omega) (by omega) (by omega), if_pos rfl]; congr 1; omega
  · rw [e1, e2, e3, ofBoth_ok (by omega) (by omega) (by omega), if_neg (by omega), if_pos rfl]; congr 1; omega
  · rw [e1, e2, e3, ofBoth_ok (by omega) (by omega) (by omega), if_neg (by omega), if_neg (by omega), if_pos rfl]; congr 1; omega
theorem kl_mem {lo x : Int} : ∀ {n : Nat}, x ∈ kl lo n ↔ (lo ≤ x ∧ x < lo + n ∧ faultOf x = 0)
  | 0 => by simp [kl]; intro h1 h2; omega
  | n + 1 => by
    by_cases hf : faultOf (lo + n) = 0
    · rw [kl_yes hf, List.mem_append, kl_mem (n := n)]
      simp only [List.mem_cons, List.not_mem_nil, or_false]
      constructor
      · rintro (⟨a, b, c⟩ | rfl)
        · exact ⟨a, by omega, c⟩
        · exact ⟨by omega, by omega, hf⟩
      · rintro ⟨a, b, c⟩
        by_cases e : x = lo + n
        · exact Or.inr e
        · exact Or.inl ⟨a, by omega, c⟩
    · rw [kl_no hf, kl_mem (n := n)]
      constructor
      · rintro ⟨a, b, c⟩; exact ⟨a, by omega, c⟩
      · rintro ⟨a, b, c⟩
        refine ⟨a, ?_, c⟩
        by_cases e : x = lo + n
        · rw [e] at c; exact absurd c hf
        · omega
/-- What both KeysIn answer: a code and a list of keys within the bounds; with code 0 all of them. -/
theorem keysIn_info (a b : Int) : ∃ (c : Int) (L : List Int), L.length ≤ 200 ∧ (∀ x ∈ L, a ≤ x ∧ x < b ∧ faultOf x = 0) ∧ (c = 0 → ∀ x, faultOf x = 0 → a ≤ x → x < b → x ∈ L)
    ∧ Hid (∀ w, Calls Tryd.prog 16 #[.int .i64 a, .int .i64 b] w fun e w' => ∃ v, e = .returned (.agg #[.int .i64 c, v]) ∧ Ints w' w.heap.size v L ∧ Below w.heap.size w w')
    ∧ Hid (∀ w, Calls Tryd.prog 15 #[.int .i64 a, .int .i64 b] w fun e w' => ∃ v, e = .returned (.agg #[.int .i64 c, v]) ∧ Ints w' w.heap.size v L ∧ Below w.heap.size w w') := by
  by_cases h : (a < 0 ∨ 200 < a) ∨ (b < 0 ∨ 200 < b)
  · exact ⟨3, [], Nat.zero_le _, fun x hx => by simp at hx, fun h3 => by omega,
      fun w => (specKeysIn_range a b w h).mono fun e w' ⟨he, hw⟩ => ⟨_, he, hw ▸ Ints.nil _ _, hw ▸ (Below.refl _ _).alloc (Nat.le_refl _) _⟩,
      fun w => (implKeysIn_range a b w h).mono fun e w' ⟨he, hw⟩ => ⟨_, he, hw ▸ Ints.nil _ _, hw ▸ (Below.refl _ _).alloc (Nat.le_refl _) _⟩⟩
  · refine ⟨0, kl a (b - a).toNat, Nat.le_trans (kl_le _ _) (by omega), fun x hx => ?_, fun _ x hx h1 h2 => ?_, fun w => specKeysIn_ok a b w (by omega) (by omega) (by omega) (by omega), fun w => implKeysIn_ok a b w (by omega) (by omega) (by omega) (by omega)⟩
    · have := kl_mem.1 hx; exact ⟨this.1, by omega, this.2.2⟩
    · exact kl_mem.2 ⟨h1, by omega, hx⟩
set_option maxHeartbeats 400000 in
theorem lwHas_any (v : Value) (B : Nat) (xs : List Int) (x : Int) (r : Bool) (hr : Hid (decide (x ∈ xs) = r)) (w : World) (h : Ints w B v xs) (hl : xs.length ≤ 1000) :
    Calls Tryd.prog 17 #[v, .int .i64 x] w fun e w' => e = .returned (.bool r) ∧ w' = w := by
  obtain ⟨ao, ca, rfl⟩ := h.form
  have H0 : Hid (Ints w B (.slice ao xs.length ca) xs) := h
  clear h
  go_enter Tryd.func17, Tryd.ntmps17
  go_wp2
  go_loop [5] (fun i => ∃ n : Nat, n ≤ xs.length ∧ i = .int .i64 n ∧ Hid (x ∉ xs.take n)) (fun i => xs.length - (intOf i).toNat)
  case atStart => exact ⟨0, Nat.zero_le _, rfl, by unfold Hid; simp⟩
  case round =>
    obtain ⟨n, hn, rfl, hno⟩ := hrel
    by_cases hlt : n < xs.length
    · obtain ⟨g, rfl, _, hc, _⟩ := H0.out.at hlt
      have ht : xs.take (n + 1) = xs.take n ++ [xs[n]] := by rw [List.take_succ_eq_append_getElem hlt]
      by_cases hx : xs[n] = x
      · obtain rfl : r = true := hr.out.symm.trans (decide_eq_true (hx ▸ List.getElem_mem hlt))
        have dx : (xs[n] == x) = true := beq_iff_eq.2 hx
        clear ht hx
        go_wp2
        go_ret
        exact ⟨rfl, rfl⟩
      · have HN : Hid (x ∉ xs.take (n + 1)) := by
          unfold Hid; rw [ht, List.mem_append]
          rintro (h1 | h1)
          · exact hno.out h1
          · simp at h1; exact hx h1.symm
        have dx : (xs[n] == x) = false := beq_eq_false_iff_ne.2 hx
        clear ht hx
        go_wp2
        go_round
        case rel => exact ⟨n + 1, by omega, by go_num, HN⟩
        case measure => simp [intOf]; omega
    · obtain rfl : r = false := hr.out.symm.trans (decide_eq_false (by have := hno.out; rw [List.take_of_length_le (by omega)] at this; exact this))
      go_wp2
      go_ret
      exact ⟨rfl, rfl⟩

end Go.Proofs.YtdfknnhdnojfdaaDoor
