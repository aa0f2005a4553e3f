/-
  Own text. impl.readKey and impl.ParseKey answer the key whose text they were given, or say that there is none: every text that a program can hold.
-/
import Derived.Test.YtdfknnhdnojfdaaDoorKeysG
import Derived.Test.YtdfknnhdnojfdaaDoorKeysC
import Derived.WalkMore
namespace Go.Proofs.YtdfknnhdnojfdaaDoor
open Go.RowKit

/-- Out of a scope by at most n jumps: a goto goes on at its label. -/
def jumpsN (P : Program) (c : Code) (Q : Exit → Act → World → Prop) : Nat → Exit → Act → World → Prop
  | 0, e, a, w => Exit.noGoto Q e a w
  | n + 1, .goto l, a, w => ∃ rest, findLabel c l = some rest ∧ rest.wp P (jumpsN P c Q n) a w
  | _ + 1, e, a, w => Q e a w
section
variable {P : Program} {a : Act} {w : World} {Q : Exit → Act → World → Prop}
theorem jumpsN_ret (c : Code) (n : Nat) : jumpsN P c Q (n + 1) .ret a w = Q .ret a w := rfl
theorem jumpsN_ret0 (c : Code) : jumpsN P c Q 0 .ret a w = Q .ret a w := rfl
theorem jumpsN_goto (c : Code) (n l : Nat) : jumpsN P c Q (n + 1) (.goto l) a w = ∃ rest, findLabel c l = some rest ∧ rest.wp P (jumpsN P c Q n) a w := rfl
theorem arrives_jumpsN {c : Code} (n : Nat) : ∀ (c' : Code) (a : Act) (w : World), c'.wp P (jumpsN P c Q n) a w → ∀ b k cs, ∃ e a' w', Q e a' w' ∧ Arrives P (lone (b.at a (.code c' :: .inScope c :: k)) cs w) b k cs e a' w' := by
  induction n with
  | zero =>
    intro c' a w h b k cs
    obtain ⟨e, a₁, w₁, hq, harr⟩ := h b (.inScope c :: k) cs
    cases e with
    | normal => exact ⟨.normal, a₁, w₁, hq, Steps.trans harr (.one step_inScope)⟩
    | exit id => exact ⟨.exit id, a₁, w₁, hq, fun k' hk => harr k' (by simp [exitTo, hk])⟩
    | goto l' => exact absurd hq (by simp [jumpsN, Exit.noGoto])
    | ret => exact ⟨_, a₁, w₁, hq, harr⟩
    | panic ch => exact ⟨_, a₁, w₁, hq, harr⟩
    | outgrown => exact ⟨_, a₁, w₁, hq, harr⟩
  | succ n ih =>
    intro c' a w h b k cs
    obtain ⟨e, a₁, w₁, hq, harr⟩ := h b (.inScope c :: k) cs
    cases e with
    | normal => exact ⟨.normal, a₁, w₁, hq, Steps.trans harr (.one step_inScope)⟩
    | exit id => exact ⟨.exit id, a₁, w₁, hq, fun k' hk => harr k' (by simp [exitTo, hk])⟩
    | goto l' =>
      obtain ⟨rest, hf, hw⟩ := hq
      have hg : gotoIn l' (.inScope c :: k) = some (.code rest :: .inScope c :: k) := by simp [gotoIn, hf]
      obtain ⟨e₂, a₂, w₂, hq₂, harr₂⟩ := ih rest a₁ w₁ hw b k cs
      exact ⟨e₂, a₂, w₂, hq₂, .of_steps (harr _ hg) harr₂⟩
    | ret => exact ⟨_, a₁, w₁, hq, harr⟩
    | panic ch => exact ⟨_, a₁, w₁, hq, harr⟩
    | outgrown => exact ⟨_, a₁, w₁, hq, harr⟩
/-- A scope out of which the run comes by at most n jumps, whatever their labels. -/
theorem wp_scope_jumpsN {c : Code} (n : Nat) (h : c.wp P (jumpsN P c Q n) a w) : (Code.scope c).wp P Q a w := by
  intro b k cs
  obtain ⟨e, a₁, w₁, hq, harr⟩ := arrives_jumpsN n c a w h b k cs
  exact ⟨e, a₁, w₁, hq, .of_steps (.one step_scope) harr⟩
end

/-- The digit at place i of a text, at most 'most'. -/
def DigitAt (s : ByteArray) (i : Nat) (most d : Int) : Prop := ∃ h : i < s.size, (s[i].toNat : Int) = 48 + d ∧ 0 ≤ d ∧ d ≤ most
set_option maxHeartbeats 400000 in
theorem digitAt_no1 (s : ByteArray) (most : Int) (w : World) (hn : ∀ d, ¬ DigitAt s 1 most d) :
    Calls Tryd.prog 36 #[.string s, .int .i64 1, .int .i64 most] w fun e w' => e = .returned (.int .i64 (-1)) ∧ w' = w := by
  by_cases hi : 1 < s.size
  · have hq : ∀ d : Int, (s[1].toNat : Int) = 48 + d → 0 ≤ d → ¬ d ≤ most := fun d h1 h2 h3 => hn d ⟨hi, h1, h2, h3⟩
    clear hn
    obtain ⟨c, hc⟩ : ∃ c : UInt8, s[1] = c := ⟨_, rfl⟩
    rw [hc] at hq
    have hb : c.toNat < 256 := c.toNat_lt
    by_cases h48 : (c.toNat : Int) < 48
    · clear hq
      go_enter Tryd.func36, Tryd.ntmps36
      go_wp2
      go_ret
      exact ⟨rfl, rfl⟩
    · have hm : most < (c.toNat : Int) - 48 := by
        have := hq ((c.toNat : Int) - 48) (by omega) (by omega); omega
      have dm : decide (most < (c.toNat : Int) - 48) = true := decide_eq_true hm
      clear hq
      go_enter Tryd.func36, Tryd.ntmps36
      go_wp2
      go_ret
      exact ⟨rfl, rfl⟩
  · have hi' : s.size ≤ 1 := by omega
    clear hn hi
    go_enter Tryd.func36, Tryd.ntmps36
    go_wp2
    go_ret
    exact ⟨rfl, rfl⟩
set_option maxHeartbeats 400000 in
theorem digitAt_yes1 (s : ByteArray) (most d : Int) (w : World) (h : DigitAt s 1 most d) :
    Calls Tryd.prog 36 #[.string s, .int .i64 1, .int .i64 most] w fun e w' => e = .returned (.int .i64 d) ∧ w' = w := by
  obtain ⟨hi, hd, h0, hm⟩ := h
  obtain ⟨c, hc⟩ : ∃ c : UInt8, s[1] = c := ⟨_, rfl⟩
  rw [hc] at hd
  have hb : c.toNat < 256 := c.toNat_lt
  have h48 : 48 ≤ (c.toNat : Int) := by omega
  have hm' : (c.toNat : Int) - 48 ≤ most := by omega
  have dm : decide (most < (c.toNat : Int) - 48) = false := decide_eq_false (by omega)
  have Hd : Hid ((c.toNat : Int) - 48 = d) := by show _ - _ = _; omega
  clear hd
  go_enter Tryd.func36, Tryd.ntmps36
  go_wp2
  go_ret
  exact ⟨ret_i Hd.out, rfl⟩
set_option maxHeartbeats 400000 in
theorem digitAt_no3 (s : ByteArray) (most : Int) (w : World) (hn : ∀ d, ¬ DigitAt s 3 most d) :
    Calls Tryd.prog 36 #[.string s, .int .i64 3, .int .i64 most] w fun e w' => e = .returned (.int .i64 (-1)) ∧ w' = w := by
  by_cases hi : 3 < s.size
  · have hq : ∀ d : Int, (s[3].toNat : Int) = 48 + d → 0 ≤ d → ¬ d ≤ most := fun d h1 h2 h3 => hn d ⟨hi, h1, h2, h3⟩
    clear hn
    obtain ⟨c, hc⟩ : ∃ c : UInt8, s[3] = c := ⟨_, rfl⟩
    rw [hc] at hq
    have hb : c.toNat < 256 := c.toNat_lt
    by_cases h48 : (c.toNat : Int) < 48
    · clear hq
      go_enter Tryd.func36, Tryd.ntmps36
      go_wp2
      go_ret
      exact ⟨rfl, rfl⟩
    · have hm : most < (c.toNat : Int) - 48 := by
        have := hq ((c.toNat : Int) - 48) (by omega) (by omega); omega
      have dm : decide (most < (c.toNat : Int) - 48) = true := decide_eq_true hm
      clear hq
      go_enter Tryd.func36, Tryd.ntmps36
      go_wp2
      go_ret
      exact ⟨rfl, rfl⟩
  · have hi' : s.size ≤ 3 := by omega
    clear hn hi
    go_enter Tryd.func36, Tryd.ntmps36
    go_wp2
    go_ret
    exact ⟨rfl, rfl⟩
set_option maxHeartbeats 400000 in
theorem digitAt_yes3 (s : ByteArray) (most d : Int) (w : World) (h : DigitAt s 3 most d) :
    Calls Tryd.prog 36 #[.string s, .int .i64 3, .int .i64 most] w fun e w' => e = .returned (.int .i64 d) ∧ w' = w := by
  obtain ⟨hi, hd, h0, hm⟩ := h
  obtain ⟨c, hc⟩ : ∃ c : UInt8, s[3] = c := ⟨_, rfl⟩
  rw [hc] at hd
  have hb : c.toNat < 256 := c.toNat_lt
  have h48 : 48 ≤ (c.toNat : Int) := by omega
  have hm' : (c.toNat : Int) - 48 ≤ most := by omega
  have dm : decide (most < (c.toNat : Int) - 48) = false := decide_eq_false (by omega)
  have Hd : Hid ((c.toNat : Int) - 48 = d) := by show _ - _ = _; omega
  clear hd
  go_enter Tryd.func36, Tryd.ntmps36
  go_wp2
  go_ret
  exact ⟨ret_i Hd.out, rfl⟩
end Go.Proofs.YtdfknnhdnojfdaaDoor
