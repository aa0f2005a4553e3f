/-
  Own text, merged of RngC, RngD.
-/
import Derived.Test.YtpfmbfmlpoibeaaGreatColsA
import Derived.BigQuiet
import Derived.Deep.QuietTactic
import Derived.Deep.RegionHeld
import Derived.Test.YtpfmbfmlpoibeaaGreatStorQ
import Derived.WalkSmall
namespace Go.Proofs.YtpfmbfmlpoibeaaGreat
section
open Go.RowKit
-- Own text. Chapter 6: what RangesFault and the place of a key's range are, the program's and the model's: the same plain functions of the row; no condition but the row's own.
/-- What is told of m ranges from number k on, where a is To of the one ahead. -/
def rFrom (F : Nat → Int) : Nat → Nat → Int → Int
  | 0, _, a => if a = 200 then 0 else 1
  | m + 1, k, a => if ¬ (1 ≤ F (k * 3 + 2) ∧ F (k * 3 + 2) ≤ 9999) ∨ F (k * 3 + 1) ≤ F (k * 3) then 3 else if F (k * 3) ≠ a then 1 else rFrom F m (k + 1) (F (k * 3 + 1))
/-- What is told of a row of ranges. -/
def rangesF (n : Nat) (F : Nat → Int) : Int := if n < 1 ∨ 6 < n then 2 else rFrom F n 0 0
theorem rFrom_bad {F : Nat → Int} {m k : Nat} {a : Int} (hm : 0 < m) (h : ¬ (1 ≤ F (k * 3 + 2) ∧ F (k * 3 + 2) ≤ 9999) ∨ F (k * 3 + 1) ≤ F (k * 3)) : rFrom F m k a = 3 := by
  obtain ⟨m, rfl⟩ : ∃ q, m = q + 1 := ⟨m - 1, by omega⟩
  unfold rFrom; rw [if_pos h]
theorem rFrom_off {F : Nat → Int} {m k : Nat} {a : Int} (hm : 0 < m) (h : ¬ (¬ (1 ≤ F (k * 3 + 2) ∧ F (k * 3 + 2) ≤ 9999) ∨ F (k * 3 + 1) ≤ F (k * 3))) (h2 : F (k * 3) ≠ a) : rFrom F m k a = 1 := by
  obtain ⟨m, rfl⟩ : ∃ q, m = q + 1 := ⟨m - 1, by omega⟩
  unfold rFrom; rw [if_neg h, if_pos h2]
theorem rFrom_on {F : Nat → Int} {m k : Nat} {a : Int} (hm : 0 < m) (h : ¬ (¬ (1 ≤ F (k * 3 + 2) ∧ F (k * 3 + 2) ≤ 9999) ∨ F (k * 3 + 1) ≤ F (k * 3))) (h2 : F (k * 3) = a) : rFrom F m k a = rFrom F (m - 1) (k + 1) (F (k * 3 + 1)) := by
  obtain ⟨m, rfl⟩ : ∃ q, m = q + 1 := ⟨m - 1, by omega⟩
  rw [rFrom, if_neg h, if_neg (fun q => q h2)]; rfl
theorem below_rn {B : Nat} {a w : World} (h : Below B a w) (q : Nat) : Below B a (w.drewN q) := ⟨h.os, h.tape, h.output, h.size, h.block⟩

theorem inR_is (v lo hi : Int) (r : Bool) (hr : decide (lo ≤ v ∧ v ≤ hi) = r) (w : World) :
    Calls Tryz.prog 66 #[.int .i64 v, .int .i64 lo, .int .i64 hi] w fun e w' => e = .returned (.bool r) ∧ w' = w := by
  by_cases h1 : lo ≤ v
  · by_cases h2 : v ≤ hi
    · have d : decide (v ≤ hi) = true := decide_eq_true h2
      rw [decide_eq_true (show lo ≤ v ∧ v ≤ hi from ⟨h1, h2⟩)] at hr
      subst hr
      go_enter Tryz.func66, Tryz.ntmps66
      go_wp2
      go_ret
      exact ⟨rfl, rfl⟩
    · have d : decide (v ≤ hi) = false := decide_eq_false h2
      rw [decide_eq_false (show ¬ (lo ≤ v ∧ v ≤ hi) from fun h => h2 h.2)] at hr
      subst hr
      go_enter Tryz.func66, Tryz.ntmps66
      go_wp2
      go_ret
      exact ⟨rfl, rfl⟩
  · have d : decide (lo ≤ v) = false := decide_eq_false h1
    rw [decide_eq_false (show ¬ (lo ≤ v ∧ v ≤ hi) from fun h => h1 h.1)] at hr
    subst hr
    go_enter Tryz.func66, Tryz.ntmps66
    go_wp2
    go_ret
    exact ⟨rfl, rfl⟩
theorem l6Epoch_is (t : Int) (r : Bool) (hr : decide (1 ≤ t ∧ t ≤ 9999) = r) (w : World) :
    Calls Tryz.prog 118 #[.int .i64 t] w fun e w' => e = .returned (.bool r) ∧ w' = w := by
  have H : Hid (decide (1 ≤ t ∧ t ≤ 9999) = r) := hr
  clear hr
  go_enter Tryz.func118, Tryz.ntmps118
  go_wp2_with fail
  refine (inR_is _ _ _ r H.out _).mono ?_
  rintro e w' ⟨rfl, rfl⟩
  go_wp2
  go_ret
  exact ⟨rfl, rfl⟩
theorem isEpoch_is (t : Int) (r : Bool) (hr : decide (1 ≤ t ∧ t ≤ 9999) = r) (w : World) :
    Calls Tryz.prog 80 #[.int .i64 t] w fun e w' => e = .returned (.bool r) ∧ w' = w := by
  by_cases h1 : 1 ≤ t
  · by_cases h2 : t ≤ 9999
    · have d : decide (t ≤ 9999) = true := decide_eq_true h2
      rw [decide_eq_true (show 1 ≤ t ∧ t ≤ 9999 from ⟨h1, h2⟩)] at hr
      subst hr
      go_enter Tryz.func80, Tryz.ntmps80
      go_wp2
      go_ret
      exact ⟨rfl, rfl⟩
    · have d : decide (t ≤ 9999) = false := decide_eq_false h2
      rw [decide_eq_false (show ¬ (1 ≤ t ∧ t ≤ 9999) from fun h => h2 h.2)] at hr
      subst hr
      go_enter Tryz.func80, Tryz.ntmps80
      go_wp2
      go_ret
      exact ⟨rfl, rfl⟩
  · rw [decide_eq_false (show ¬ (1 ≤ t ∧ t ≤ 9999) from fun h => h1 h.1)] at hr
    subst hr
    go_enter Tryz.func80, Tryz.ntmps80
    go_wp2
    go_ret
    exact ⟨rfl, rfl⟩
/-- The three numbers of an element, and that nothing old has turned. -/
def ThreeR (w : World) (g o k : Nat) (n0 n1 n2 : Int) (x : World) : Prop := (x.cell? ⟨g, o + k * 3, none⟩ = some (.int .i64 n0) ∧ x.cell? ⟨g, o + k * 3 + 1, none⟩ = some (.int .i64 n1) ∧ x.cell? ⟨g, o + k * 3 + 2, none⟩ = some (.int .i64 n2)) ∧ Below w.heap.size w x
set_option maxRecDepth 100000 in
set_option maxHeartbeats 4000000 in
theorem l6Fault_any (v : Value) (B n : Nat) (F : Nat → Int) (w : World) (h : Row w B 3 n F v) (hn : n ≤ 9223372036854775807) :
    Calls Tryz.prog 76 #[v] w fun e w' => e = .returned (.int .i64 (rangesF n F)) ∧ Below w.heap.size w w' := by
  obtain ⟨ao, cp, rfl⟩ := h.form
  have H : Hid (Row w B 3 n F (.slice ao n cp)) := h
  clear h
  by_cases hs : n < 1 ∨ 6 < n
  · have E : Hid (rangesF n F = 2) := by unfold rangesF; rw [if_pos hs]; rfl
    rcases Nat.lt_or_ge n 1 with hs | hs
    · obtain rfl : n = 0 := by omega
      go_enter Tryz.func76, Tryz.ntmps76
      go_wp2
      go_ret
      exact ⟨by rw [E.out]; rfl, Below.refl _ _⟩
    · have hs6 : decide ((n : Int) > 6) = true := decide_eq_true (by omega)
      go_enter Tryz.func76, Tryz.ntmps76
      go_wp2
      go_ret
      exact ⟨by rw [E.out]; rfl, Below.refl _ _⟩
  have hs1 : 1 ≤ n := by omega
  have hs6 : n ≤ 6 := by omega
  clear hs hn
  obtain ⟨f, hf⟩ : ∃ f, rangesF n F = f := ⟨_, rfl⟩
  have HF : Hid (rFrom F n 0 0 = f) := by rw [rangesF, if_neg (by omega)] at hf; exact hf
  rw [hf]
  clear hf
  go_enter Tryz.func76, Tryz.ntmps76
  go_wp2
  go_loopw [3, 4] (fun a i wr => ∃ (k : Nat) (z : Int), k ≤ n ∧ a = .int .i64 z ∧ i = .int .i64 k ∧ Hid (rFrom F (n - k) k z = f) ∧ Below w.heap.size w wr) (fun _ i _ => n - (intOf i).toNat)
  case atStart => exact ⟨0, 0, Nat.zero_le _, rfl, rfl, HF, Below.refl _ _⟩
  case round =>
    obtain ⟨k, z, hk, rfl, rfl, HS, hbw⟩ := hrel
    by_cases hlt : k < n
    case neg =>
      have en : n - k = 0 := by omega
      have E := HS.out
      rw [en, rFrom] at E
      by_cases hz : z = 200
      · rw [if_pos hz] at E
        subst hz E
        clear HS HF
        go_wp2
        go_ret
        exact ⟨rfl, hbw⟩
      · rw [if_neg hz] at E
        subst E
        have hz' : (z == 200) = false := beq_eq_false_iff_ne.2 hz
        clear HS HF
        go_wp2
        go_ret
        exact ⟨rfl, hbw⟩
    obtain ⟨g, o, rfl, _, hg, x0, x1, x2⟩ := (H.out.later hbw).at3 hlt
    have hm : Hid (0 < n - k ∧ n - k - 1 = n - (k + 1)) := ⟨by omega, by omega⟩
    obtain ⟨n0, N0⟩ : ∃ x, F (k * 3) = x := ⟨_, rfl⟩
    rw [N0] at x0
    obtain ⟨n1, N1⟩ : ∃ x, F (k * 3 + 1) = x := ⟨_, rfl⟩
    rw [N1] at x1
    obtain ⟨n2, N2⟩ : ∃ x, F (k * 3 + 2) = x := ⟨_, rfl⟩
    rw [N2] at x2
    have NN : Hid (F (k * 3) = n0 ∧ F (k * 3 + 1) = n1 ∧ F (k * 3 + 2) = n2) := ⟨N0, N1, N2⟩
    clear N0 N1 N2
    by_cases h0 : 1 ≤ n2 ∧ n2 ≤ 9999
    case neg =>
      have L0 : Hid (decide (1 ≤ n2 ∧ n2 ≤ 9999) = false) := decide_eq_false h0
      have E := HS.out
      rw [rFrom_bad hm.out.1 (by rw [NN.out.2.2]; exact Or.inl h0)] at E
      subst E
      clear h0 HS NN HF
      have h0S : ThreeR w g o k n0 n1 n2 wr.drew := ⟨⟨x0, x1, x2⟩, hbw.drew⟩
      clear x0 x1 x2 hbw
      go_wp2_with fail
      refine wp_region_held_drew (S := ThreeR w g o k n0 n1 n2) (by kernel_rfl) h0S (fun hS => ?_)
      clear h0S
      refine wpAnyH_take (i := 0) (v := ?_) rfl (by kernel_rfl) (by kernel_rfl) (by kernel_rfl) (fun _ _ _ h => h) (Or.inl ⟨by kernel_rfl, ?_⟩) hS ?_
      rotate_left
      · intro wx hx
        obtain ⟨⟨hx0, hx1, hx2⟩, _⟩ := hx
        go_simp
        try with_reducible rfl
      refine wpAnyH_take (i := 1) (v := ?_) rfl (by kernel_rfl) (by kernel_rfl) (by kernel_rfl) (fun _ _ _ h => h) (Or.inl ⟨by kernel_rfl, ?_⟩) hS ?_
      rotate_left
      · intro wx hx
        obtain ⟨⟨hx0, hx1, hx2⟩, _⟩ := hx
        go_simp
        try with_reducible rfl
      refine wpAnyH_take (i := 2) (v := ?_) rfl (by kernel_rfl) (by kernel_rfl) (by kernel_rfl) (fun _ _ _ h => h) (Or.inl ⟨by kernel_rfl, ?_⟩) hS ?_
      rotate_left
      · intro wx hx
        obtain ⟨⟨hx0, hx1, hx2⟩, _⟩ := hx
        go_simp
        try with_reducible rfl
      refine wpAnyH_take (i := 3) (v := ?_) rfl (by kernel_rfl) (by kernel_rfl) (by kernel_rfl) (fun _ _ _ h => h) (Or.inl ⟨by kernel_rfl, ?_⟩) hS ?_
      rotate_left
      · intro wx hx
        obtain ⟨⟨hx0, hx1, hx2⟩, _⟩ := hx
        go_simp
        try with_reducible rfl
      refine wpAnyH_take (i := 4) (v := ?_) rfl (by kernel_rfl) (by kernel_rfl) (by kernel_rfl) (fun _ _ _ h => h) (Or.inl ⟨by kernel_rfl, ?_⟩) hS ?_
      rotate_left
      · intro wx hx
        obtain ⟨⟨hx0, hx1, hx2⟩, _⟩ := hx
        go_simp
        try with_reducible rfl
      refine wpAnyH_ready (rs := [5]) (by kernel_rfl) (by simp) ?_
      refine AllReadyH.cons rfl (fun K hK => ?_) AllReadyH.nil
      go_simp
      go_wp2_with fail
      refine (l6Epoch_is _ _ L0.out _).mono ?_
      rintro e w1 ⟨rfl, rfl⟩
      go_wp2_with fail
      refine hK.out _ _ hS (fun hS => ?_)
      clear hK K
      refine wpAnyH_take (i := 6) (v := ?_) rfl (by kernel_rfl) (by kernel_rfl) (by kernel_rfl) (fun _ _ _ h => h) (Or.inl ⟨by kernel_rfl, ?_⟩) hS ?_
      rotate_left
      · intro wx hx
        obtain ⟨⟨hx0, hx1, hx2⟩, _⟩ := hx
        go_simp
        try with_reducible rfl
      refine wpAnyH_take (i := 7) (v := ?_) rfl (by kernel_rfl) (by kernel_rfl) (by kernel_rfl) (fun _ _ _ h => h) (Or.inl ⟨by kernel_rfl, ?_⟩) hS ?_
      rotate_left
      · intro wx hx
        obtain ⟨⟨hx0, hx1, hx2⟩, _⟩ := hx
        go_simp
        try with_reducible rfl
      refine wpAnyH_take (i := 8) (v := undef) rfl (by kernel_rfl) (by kernel_rfl) (by kernel_rfl) (fun _ _ _ h => h) (Or.inr ⟨by kernel_rfl, rfl⟩) hS ?_
      refine wpAnyH_take (i := 9) (v := undef) rfl (by kernel_rfl) (by kernel_rfl) (by kernel_rfl) (fun _ _ _ h => h) (Or.inr ⟨by kernel_rfl, rfl⟩) hS ?_
      refine wpAnyH_take (i := 10) (v := undef) rfl (by kernel_rfl) (by kernel_rfl) (by kernel_rfl) (fun _ _ _ h => h) (Or.inr ⟨by kernel_rfl, rfl⟩) hS ?_
      refine wpAnyH_take (i := 11) (v := undef) rfl (by kernel_rfl) (by kernel_rfl) (by kernel_rfl) (fun _ _ _ h => h) (Or.inr ⟨by kernel_rfl, rfl⟩) hS ?_
      refine wpAnyH_take (i := 12) (v := undef) rfl (by kernel_rfl) (by kernel_rfl) (by kernel_rfl) (fun _ _ _ h => h) (Or.inr ⟨by kernel_rfl, rfl⟩) hS ?_
      refine wpAnyH_take (i := 13) (v := undef) rfl (by kernel_rfl) (by kernel_rfl) (by kernel_rfl) (fun _ _ _ h => h) (Or.inr ⟨by kernel_rfl, rfl⟩) hS ?_
      refine wpAnyH_take (i := 14) (v := undef) rfl (by kernel_rfl) (by kernel_rfl) (by kernel_rfl) (fun _ _ _ h => h) (Or.inr ⟨by kernel_rfl, rfl⟩) hS ?_
      refine wpAnyH_take (i := 15) (v := undef) rfl (by kernel_rfl) (by kernel_rfl) (by kernel_rfl) (fun _ _ _ h => h) (Or.inr ⟨by kernel_rfl, rfl⟩) hS ?_
      refine wpAnyH_take (i := 16) (v := undef) rfl (by kernel_rfl) (by kernel_rfl) (by kernel_rfl) (fun _ _ _ h => h) (Or.inr ⟨by kernel_rfl, rfl⟩) hS ?_
      refine wpAnyH_take (i := 17) (v := undef) rfl (by kernel_rfl) (by kernel_rfl) (by kernel_rfl) (fun _ _ _ h => h) (Or.inr ⟨by kernel_rfl, rfl⟩) hS ?_
      refine wpAnyH_take (i := 18) (v := undef) rfl (by kernel_rfl) (by kernel_rfl) (by kernel_rfl) (fun _ _ _ h => h) (Or.inr ⟨by kernel_rfl, rfl⟩) hS ?_
      refine wpAnyH_take (i := 19) (v := ?_) rfl (by kernel_rfl) (by kernel_rfl) (by kernel_rfl) (fun _ _ _ h => h) (Or.inl ⟨by kernel_rfl, ?_⟩) hS ?_
      rotate_left
      · intro wx hx
        obtain ⟨⟨hx0, hx1, hx2⟩, _⟩ := hx
        go_simp
        try with_reducible rfl
      refine wpAnyH_done (by kernel_rfl) ?_ _
      obtain ⟨⟨x0, x1, x2⟩, hbw⟩ := hS
      go_simp
      go_wp2
      go_ret
      refine ⟨rfl, ?_⟩
      repeat (first | exact Below.refl _ _ | assumption | refine below_rn ?_ _ | refine Below.setCell ?_ (by first | omega | (simp <;> omega)) _ | refine Below.alloc ?_ (by first | omega | (simp <;> omega) | (have := hbw.size; simp <;> omega)) _)
    have L0 : Hid (decide (1 ≤ n2 ∧ n2 ≤ 9999) = true) := decide_eq_true h0
    by_cases h1 : n1 ≤ n0
    case pos =>
      have E := HS.out
      rw [rFrom_bad hm.out.1 (by rw [NN.out.1, NN.out.2.1]; exact Or.inr h1)] at E
      subst E
      have d1 : decide (n0 ≥ n1) = true := decide_eq_true h1
      clear h0 HS NN HF
      have h0S : ThreeR w g o k n0 n1 n2 wr.drew := ⟨⟨x0, x1, x2⟩, hbw.drew⟩
      clear x0 x1 x2 hbw
      go_wp2_with fail
      refine wp_region_held_drew (S := ThreeR w g o k n0 n1 n2) (by kernel_rfl) h0S (fun hS => ?_)
      clear h0S
      refine wpAnyH_take (i := 0) (v := ?_) rfl (by kernel_rfl) (by kernel_rfl) (by kernel_rfl) (fun _ _ _ h => h) (Or.inl ⟨by kernel_rfl, ?_⟩) hS ?_
      rotate_left
      · intro wx hx
        obtain ⟨⟨hx0, hx1, hx2⟩, _⟩ := hx
        go_simp
        try with_reducible rfl
      refine wpAnyH_take (i := 1) (v := ?_) rfl (by kernel_rfl) (by kernel_rfl) (by kernel_rfl) (fun _ _ _ h => h) (Or.inl ⟨by kernel_rfl, ?_⟩) hS ?_
      rotate_left
      · intro wx hx
        obtain ⟨⟨hx0, hx1, hx2⟩, _⟩ := hx
        go_simp
        try with_reducible rfl
      refine wpAnyH_take (i := 2) (v := ?_) rfl (by kernel_rfl) (by kernel_rfl) (by kernel_rfl) (fun _ _ _ h => h) (Or.inl ⟨by kernel_rfl, ?_⟩) hS ?_
      rotate_left
      · intro wx hx
        obtain ⟨⟨hx0, hx1, hx2⟩, _⟩ := hx
        go_simp
        try with_reducible rfl
      refine wpAnyH_take (i := 3) (v := ?_) rfl (by kernel_rfl) (by kernel_rfl) (by kernel_rfl) (fun _ _ _ h => h) (Or.inl ⟨by kernel_rfl, ?_⟩) hS ?_
      rotate_left
      · intro wx hx
        obtain ⟨⟨hx0, hx1, hx2⟩, _⟩ := hx
        go_simp
        try with_reducible rfl
      refine wpAnyH_take (i := 4) (v := ?_) rfl (by kernel_rfl) (by kernel_rfl) (by kernel_rfl) (fun _ _ _ h => h) (Or.inl ⟨by kernel_rfl, ?_⟩) hS ?_
      rotate_left
      · intro wx hx
        obtain ⟨⟨hx0, hx1, hx2⟩, _⟩ := hx
        go_simp
        try with_reducible rfl
      refine wpAnyH_ready (rs := [5]) (by kernel_rfl) (by simp) ?_
      refine AllReadyH.cons rfl (fun K hK => ?_) AllReadyH.nil
      go_simp
      go_wp2_with fail
      refine (l6Epoch_is _ _ L0.out _).mono ?_
      rintro e w1 ⟨rfl, rfl⟩
      go_wp2_with fail
      refine hK.out _ _ hS (fun hS => ?_)
      clear hK K
      refine wpAnyH_take (i := 6) (v := ?_) rfl (by kernel_rfl) (by kernel_rfl) (by kernel_rfl) (fun _ _ _ h => h) (Or.inl ⟨by kernel_rfl, ?_⟩) hS ?_
      rotate_left
      · intro wx hx
        obtain ⟨⟨hx0, hx1, hx2⟩, _⟩ := hx
        go_simp
        try with_reducible rfl
      refine wpAnyH_take (i := 7) (v := ?_) rfl (by kernel_rfl) (by kernel_rfl) (by kernel_rfl) (fun _ _ _ h => h) (Or.inl ⟨by kernel_rfl, ?_⟩) hS ?_
      rotate_left
      · intro wx hx
        obtain ⟨⟨hx0, hx1, hx2⟩, _⟩ := hx
        go_simp
        try with_reducible rfl
      refine wpAnyH_take (i := 8) (v := ?_) rfl (by kernel_rfl) (by kernel_rfl) (by kernel_rfl) (fun _ _ _ h => h) (Or.inl ⟨by kernel_rfl, ?_⟩) hS ?_
      rotate_left
      · intro wx hx
        obtain ⟨⟨hx0, hx1, hx2⟩, _⟩ := hx
        go_simp
        try with_reducible rfl
      refine wpAnyH_take (i := 9) (v := ?_) rfl (by kernel_rfl) (by kernel_rfl) (by kernel_rfl) (fun _ _ _ h => h) (Or.inl ⟨by kernel_rfl, ?_⟩) hS ?_
      rotate_left
      · intro wx hx
        obtain ⟨⟨hx0, hx1, hx2⟩, _⟩ := hx
        go_simp
        try with_reducible rfl
      refine wpAnyH_take (i := 10) (v := ?_) rfl (by kernel_rfl) (by kernel_rfl) (by kernel_rfl) (fun _ _ _ h => h) (Or.inl ⟨by kernel_rfl, ?_⟩) hS ?_
      rotate_left
      · intro wx hx
        obtain ⟨⟨hx0, hx1, hx2⟩, _⟩ := hx
        go_simp
        try with_reducible rfl
      refine wpAnyH_take (i := 11) (v := ?_) rfl (by kernel_rfl) (by kernel_rfl) (by kernel_rfl) (fun _ _ _ h => h) (Or.inl ⟨by kernel_rfl, ?_⟩) hS ?_
      rotate_left
      · intro wx hx
        obtain ⟨⟨hx0, hx1, hx2⟩, _⟩ := hx
        go_simp
        try with_reducible rfl
      refine wpAnyH_take (i := 12) (v := ?_) rfl (by kernel_rfl) (by kernel_rfl) (by kernel_rfl) (fun _ _ _ h => h) (Or.inl ⟨by kernel_rfl, ?_⟩) hS ?_
      rotate_left
      · intro wx hx
        obtain ⟨⟨hx0, hx1, hx2⟩, _⟩ := hx
        go_simp
        try with_reducible rfl
      refine wpAnyH_take (i := 13) (v := ?_) rfl (by kernel_rfl) (by kernel_rfl) (by kernel_rfl) (fun _ _ _ h => h) (Or.inl ⟨by kernel_rfl, ?_⟩) hS ?_
      rotate_left
      · intro wx hx
        obtain ⟨⟨hx0, hx1, hx2⟩, _⟩ := hx
        go_simp
        try with_reducible rfl
      refine wpAnyH_take (i := 14) (v := ?_) rfl (by kernel_rfl) (by kernel_rfl) (by kernel_rfl) (fun _ _ _ h => h) (Or.inl ⟨by kernel_rfl, ?_⟩) hS ?_
      rotate_left
      · intro wx hx
        obtain ⟨⟨hx0, hx1, hx2⟩, _⟩ := hx
        go_simp
        try with_reducible rfl
      refine wpAnyH_take (i := 15) (v := ?_) rfl (by kernel_rfl) (by kernel_rfl) (by kernel_rfl) (fun _ _ _ h => h) (Or.inl ⟨by kernel_rfl, ?_⟩) hS ?_
      rotate_left
      · intro wx hx
        obtain ⟨⟨hx0, hx1, hx2⟩, _⟩ := hx
        go_simp
        try with_reducible rfl
      refine wpAnyH_take (i := 16) (v := ?_) rfl (by kernel_rfl) (by kernel_rfl) (by kernel_rfl) (fun _ _ _ h => h) (Or.inl ⟨by kernel_rfl, ?_⟩) hS ?_
      rotate_left
      · intro wx hx
        obtain ⟨⟨hx0, hx1, hx2⟩, _⟩ := hx
        go_simp
        try with_reducible rfl
      refine wpAnyH_take (i := 17) (v := ?_) rfl (by kernel_rfl) (by kernel_rfl) (by kernel_rfl) (fun _ _ _ h => h) (Or.inl ⟨by kernel_rfl, ?_⟩) hS ?_
      rotate_left
      · intro wx hx
        obtain ⟨⟨hx0, hx1, hx2⟩, _⟩ := hx
        go_simp
        try with_reducible rfl
      refine wpAnyH_take (i := 18) (v := ?_) rfl (by kernel_rfl) (by kernel_rfl) (by kernel_rfl) (fun _ _ _ h => h) (Or.inl ⟨by kernel_rfl, ?_⟩) hS ?_
      rotate_left
      · intro wx hx
        obtain ⟨⟨hx0, hx1, hx2⟩, _⟩ := hx
        go_simp
        try with_reducible rfl
      refine wpAnyH_take (i := 19) (v := ?_) rfl (by kernel_rfl) (by kernel_rfl) (by kernel_rfl) (fun _ _ _ h => h) (Or.inl ⟨by kernel_rfl, ?_⟩) hS ?_
      rotate_left
      · intro wx hx
        obtain ⟨⟨hx0, hx1, hx2⟩, _⟩ := hx
        go_simp
        try with_reducible rfl
      refine wpAnyH_done (by kernel_rfl) ?_ _
      obtain ⟨⟨x0, x1, x2⟩, hbw⟩ := hS
      go_simp
      go_wp2
      go_ret
      refine ⟨rfl, ?_⟩
      repeat (first | exact Below.refl _ _ | assumption | refine below_rn ?_ _ | refine Below.setCell ?_ (by first | omega | (simp <;> omega)) _ | refine Below.alloc ?_ (by first | omega | (simp <;> omega) | (have := hbw.size; simp <;> omega)) _)
    have d1 : decide (n0 ≥ n1) = false := decide_eq_false h1
    have hok : Hid (¬ (¬ (1 ≤ F (k * 3 + 2) ∧ F (k * 3 + 2) ≤ 9999) ∨ F (k * 3 + 1) ≤ F (k * 3))) := by
      rw [NN.out.1, NN.out.2.1, NN.out.2.2]; unfold Hid; omega
    by_cases h2 : n0 = z
    case neg =>
      have E := HS.out
      rw [rFrom_off hm.out.1 hok.out (by rw [NN.out.1]; exact h2)] at E
      subst E
      have d2 : (n0 == z) = false := beq_eq_false_iff_ne.2 h2
      clear h0 h1 HS NN hok HF
      have h0S : ThreeR w g o k n0 n1 n2 wr.drew := ⟨⟨x0, x1, x2⟩, hbw.drew⟩
      clear x0 x1 x2 hbw
      go_wp2_with fail
      refine wp_region_held_drew (S := ThreeR w g o k n0 n1 n2) (by kernel_rfl) h0S (fun hS => ?_)
      clear h0S
      refine wpAnyH_take (i := 0) (v := ?_) rfl (by kernel_rfl) (by kernel_rfl) (by kernel_rfl) (fun _ _ _ h => h) (Or.inl ⟨by kernel_rfl, ?_⟩) hS ?_
      rotate_left
      · intro wx hx
        obtain ⟨⟨hx0, hx1, hx2⟩, _⟩ := hx
        go_simp
        try with_reducible rfl
      refine wpAnyH_take (i := 1) (v := ?_) rfl (by kernel_rfl) (by kernel_rfl) (by kernel_rfl) (fun _ _ _ h => h) (Or.inl ⟨by kernel_rfl, ?_⟩) hS ?_
      rotate_left
      · intro wx hx
        obtain ⟨⟨hx0, hx1, hx2⟩, _⟩ := hx
        go_simp
        try with_reducible rfl
      refine wpAnyH_take (i := 2) (v := ?_) rfl (by kernel_rfl) (by kernel_rfl) (by kernel_rfl) (fun _ _ _ h => h) (Or.inl ⟨by kernel_rfl, ?_⟩) hS ?_
      rotate_left
      · intro wx hx
        obtain ⟨⟨hx0, hx1, hx2⟩, _⟩ := hx
        go_simp
        try with_reducible rfl
      refine wpAnyH_take (i := 3) (v := ?_) rfl (by kernel_rfl) (by kernel_rfl) (by kernel_rfl) (fun _ _ _ h => h) (Or.inl ⟨by kernel_rfl, ?_⟩) hS ?_
      rotate_left
      · intro wx hx
        obtain ⟨⟨hx0, hx1, hx2⟩, _⟩ := hx
        go_simp
        try with_reducible rfl
      refine wpAnyH_take (i := 4) (v := ?_) rfl (by kernel_rfl) (by kernel_rfl) (by kernel_rfl) (fun _ _ _ h => h) (Or.inl ⟨by kernel_rfl, ?_⟩) hS ?_
      rotate_left
      · intro wx hx
        obtain ⟨⟨hx0, hx1, hx2⟩, _⟩ := hx
        go_simp
        try with_reducible rfl
      refine wpAnyH_ready (rs := [5]) (by kernel_rfl) (by simp) ?_
      refine AllReadyH.cons rfl (fun K hK => ?_) AllReadyH.nil
      go_simp
      go_wp2_with fail
      refine (l6Epoch_is _ _ L0.out _).mono ?_
      rintro e w1 ⟨rfl, rfl⟩
      go_wp2_with fail
      refine hK.out _ _ hS (fun hS => ?_)
      clear hK K
      refine wpAnyH_take (i := 6) (v := ?_) rfl (by kernel_rfl) (by kernel_rfl) (by kernel_rfl) (fun _ _ _ h => h) (Or.inl ⟨by kernel_rfl, ?_⟩) hS ?_
      rotate_left
      · intro wx hx
        obtain ⟨⟨hx0, hx1, hx2⟩, _⟩ := hx
        go_simp
        try with_reducible rfl
      refine wpAnyH_take (i := 7) (v := ?_) rfl (by kernel_rfl) (by kernel_rfl) (by kernel_rfl) (fun _ _ _ h => h) (Or.inl ⟨by kernel_rfl, ?_⟩) hS ?_
      rotate_left
      · intro wx hx
        obtain ⟨⟨hx0, hx1, hx2⟩, _⟩ := hx
        go_simp
        try with_reducible rfl
      refine wpAnyH_take (i := 8) (v := ?_) rfl (by kernel_rfl) (by kernel_rfl) (by kernel_rfl) (fun _ _ _ h => h) (Or.inl ⟨by kernel_rfl, ?_⟩) hS ?_
      rotate_left
      · intro wx hx
        obtain ⟨⟨hx0, hx1, hx2⟩, _⟩ := hx
        go_simp
        try with_reducible rfl
      refine wpAnyH_take (i := 9) (v := ?_) rfl (by kernel_rfl) (by kernel_rfl) (by kernel_rfl) (fun _ _ _ h => h) (Or.inl ⟨by kernel_rfl, ?_⟩) hS ?_
      rotate_left
      · intro wx hx
        obtain ⟨⟨hx0, hx1, hx2⟩, _⟩ := hx
        go_simp
        try with_reducible rfl
      refine wpAnyH_take (i := 10) (v := ?_) rfl (by kernel_rfl) (by kernel_rfl) (by kernel_rfl) (fun _ _ _ h => h) (Or.inl ⟨by kernel_rfl, ?_⟩) hS ?_
      rotate_left
      · intro wx hx
        obtain ⟨⟨hx0, hx1, hx2⟩, _⟩ := hx
        go_simp
        try with_reducible rfl
      refine wpAnyH_take (i := 11) (v := ?_) rfl (by kernel_rfl) (by kernel_rfl) (by kernel_rfl) (fun _ _ _ h => h) (Or.inl ⟨by kernel_rfl, ?_⟩) hS ?_
      rotate_left
      · intro wx hx
        obtain ⟨⟨hx0, hx1, hx2⟩, _⟩ := hx
        go_simp
        try with_reducible rfl
      refine wpAnyH_take (i := 12) (v := ?_) rfl (by kernel_rfl) (by kernel_rfl) (by kernel_rfl) (fun _ _ _ h => h) (Or.inl ⟨by kernel_rfl, ?_⟩) hS ?_
      rotate_left
      · intro wx hx
        obtain ⟨⟨hx0, hx1, hx2⟩, _⟩ := hx
        go_simp
        try with_reducible rfl
      refine wpAnyH_take (i := 13) (v := ?_) rfl (by kernel_rfl) (by kernel_rfl) (by kernel_rfl) (fun _ _ _ h => h) (Or.inl ⟨by kernel_rfl, ?_⟩) hS ?_
      rotate_left
      · intro wx hx
        obtain ⟨⟨hx0, hx1, hx2⟩, _⟩ := hx
        go_simp
        try with_reducible rfl
      refine wpAnyH_take (i := 14) (v := ?_) rfl (by kernel_rfl) (by kernel_rfl) (by kernel_rfl) (fun _ _ _ h => h) (Or.inl ⟨by kernel_rfl, ?_⟩) hS ?_
      rotate_left
      · intro wx hx
        obtain ⟨⟨hx0, hx1, hx2⟩, _⟩ := hx
        go_simp
        try with_reducible rfl
      refine wpAnyH_take (i := 15) (v := ?_) rfl (by kernel_rfl) (by kernel_rfl) (by kernel_rfl) (fun _ _ _ h => h) (Or.inl ⟨by kernel_rfl, ?_⟩) hS ?_
      rotate_left
      · intro wx hx
        obtain ⟨⟨hx0, hx1, hx2⟩, _⟩ := hx
        go_simp
        try with_reducible rfl
      refine wpAnyH_take (i := 16) (v := ?_) rfl (by kernel_rfl) (by kernel_rfl) (by kernel_rfl) (fun _ _ _ h => h) (Or.inl ⟨by kernel_rfl, ?_⟩) hS ?_
      rotate_left
      · intro wx hx
        obtain ⟨⟨hx0, hx1, hx2⟩, _⟩ := hx
        go_simp
        try with_reducible rfl
      refine wpAnyH_take (i := 17) (v := ?_) rfl (by kernel_rfl) (by kernel_rfl) (by kernel_rfl) (fun _ _ _ h => h) (Or.inl ⟨by kernel_rfl, ?_⟩) hS ?_
      rotate_left
      · intro wx hx
        obtain ⟨⟨hx0, hx1, hx2⟩, _⟩ := hx
        go_simp
        try with_reducible rfl
      refine wpAnyH_take (i := 18) (v := ?_) rfl (by kernel_rfl) (by kernel_rfl) (by kernel_rfl) (fun _ _ _ h => h) (Or.inl ⟨by kernel_rfl, ?_⟩) hS ?_
      rotate_left
      · intro wx hx
        obtain ⟨⟨hx0, hx1, hx2⟩, _⟩ := hx
        go_simp
        try with_reducible rfl
      refine wpAnyH_take (i := 19) (v := ?_) rfl (by kernel_rfl) (by kernel_rfl) (by kernel_rfl) (fun _ _ _ h => h) (Or.inl ⟨by kernel_rfl, ?_⟩) hS ?_
      rotate_left
      · intro wx hx
        obtain ⟨⟨hx0, hx1, hx2⟩, _⟩ := hx
        go_simp
        try with_reducible rfl
      refine wpAnyH_done (by kernel_rfl) ?_ _
      obtain ⟨⟨x0, x1, x2⟩, hbw⟩ := hS
      go_simp
      go_wp2
      go_ret
      refine ⟨rfl, ?_⟩
      repeat (first | exact Below.refl _ _ | assumption | refine below_rn ?_ _ | refine Below.setCell ?_ (by first | omega | (simp <;> omega)) _ | refine Below.alloc ?_ (by first | omega | (simp <;> omega) | (have := hbw.size; simp <;> omega)) _)
    subst h2
    have E : Hid (rFrom F (n - (k + 1)) (k + 1) n1 = f) := by
      have E := HS.out
      rw [rFrom_on hm.out.1 hok.out NN.out.1, NN.out.2.1, hm.out.2] at E
      exact E
    clear h0 h1 HS NN hok HF hm
    have h0S : ThreeR w g o k n0 n1 n2 wr.drew := ⟨⟨x0, x1, x2⟩, hbw.drew⟩
    clear x0 x1 x2 hbw
    go_wp2_with fail
    refine wp_region_held_drew (S := ThreeR w g o k n0 n1 n2) (by kernel_rfl) h0S (fun hS => ?_)
    clear h0S
    refine wpAnyH_take (i := 0) (v := ?_) rfl (by kernel_rfl) (by kernel_rfl) (by kernel_rfl) (fun _ _ _ h => h) (Or.inl ⟨by kernel_rfl, ?_⟩) hS ?_
    rotate_left
    · intro wx hx
      obtain ⟨⟨hx0, hx1, hx2⟩, _⟩ := hx
      go_simp
      try with_reducible rfl
    refine wpAnyH_take (i := 1) (v := ?_) rfl (by kernel_rfl) (by kernel_rfl) (by kernel_rfl) (fun _ _ _ h => h) (Or.inl ⟨by kernel_rfl, ?_⟩) hS ?_
    rotate_left
    · intro wx hx
      obtain ⟨⟨hx0, hx1, hx2⟩, _⟩ := hx
      go_simp
      try with_reducible rfl
    refine wpAnyH_take (i := 2) (v := ?_) rfl (by kernel_rfl) (by kernel_rfl) (by kernel_rfl) (fun _ _ _ h => h) (Or.inl ⟨by kernel_rfl, ?_⟩) hS ?_
    rotate_left
    · intro wx hx
      obtain ⟨⟨hx0, hx1, hx2⟩, _⟩ := hx
      go_simp
      try with_reducible rfl
    refine wpAnyH_take (i := 3) (v := ?_) rfl (by kernel_rfl) (by kernel_rfl) (by kernel_rfl) (fun _ _ _ h => h) (Or.inl ⟨by kernel_rfl, ?_⟩) hS ?_
    rotate_left
    · intro wx hx
      obtain ⟨⟨hx0, hx1, hx2⟩, _⟩ := hx
      go_simp
      try with_reducible rfl
    refine wpAnyH_take (i := 4) (v := ?_) rfl (by kernel_rfl) (by kernel_rfl) (by kernel_rfl) (fun _ _ _ h => h) (Or.inl ⟨by kernel_rfl, ?_⟩) hS ?_
    rotate_left
    · intro wx hx
      obtain ⟨⟨hx0, hx1, hx2⟩, _⟩ := hx
      go_simp
      try with_reducible rfl
    refine wpAnyH_ready (rs := [5]) (by kernel_rfl) (by simp) ?_
    refine AllReadyH.cons rfl (fun K hK => ?_) AllReadyH.nil
    go_simp
    go_wp2_with fail
    refine (l6Epoch_is _ _ L0.out _).mono ?_
    rintro e w1 ⟨rfl, rfl⟩
    go_wp2_with fail
    refine hK.out _ _ hS (fun hS => ?_)
    clear hK K
    refine wpAnyH_take (i := 6) (v := ?_) rfl (by kernel_rfl) (by kernel_rfl) (by kernel_rfl) (fun _ _ _ h => h) (Or.inl ⟨by kernel_rfl, ?_⟩) hS ?_
    rotate_left
    · intro wx hx
      obtain ⟨⟨hx0, hx1, hx2⟩, _⟩ := hx
      go_simp
      try with_reducible rfl
    refine wpAnyH_take (i := 7) (v := ?_) rfl (by kernel_rfl) (by kernel_rfl) (by kernel_rfl) (fun _ _ _ h => h) (Or.inl ⟨by kernel_rfl, ?_⟩) hS ?_
    rotate_left
    · intro wx hx
      obtain ⟨⟨hx0, hx1, hx2⟩, _⟩ := hx
      go_simp
      try with_reducible rfl
    refine wpAnyH_take (i := 8) (v := ?_) rfl (by kernel_rfl) (by kernel_rfl) (by kernel_rfl) (fun _ _ _ h => h) (Or.inl ⟨by kernel_rfl, ?_⟩) hS ?_
    rotate_left
    · intro wx hx
      obtain ⟨⟨hx0, hx1, hx2⟩, _⟩ := hx
      go_simp
      try with_reducible rfl
    refine wpAnyH_take (i := 9) (v := ?_) rfl (by kernel_rfl) (by kernel_rfl) (by kernel_rfl) (fun _ _ _ h => h) (Or.inl ⟨by kernel_rfl, ?_⟩) hS ?_
    rotate_left
    · intro wx hx
      obtain ⟨⟨hx0, hx1, hx2⟩, _⟩ := hx
      go_simp
      try with_reducible rfl
    refine wpAnyH_take (i := 10) (v := ?_) rfl (by kernel_rfl) (by kernel_rfl) (by kernel_rfl) (fun _ _ _ h => h) (Or.inl ⟨by kernel_rfl, ?_⟩) hS ?_
    rotate_left
    · intro wx hx
      obtain ⟨⟨hx0, hx1, hx2⟩, _⟩ := hx
      go_simp
      try with_reducible rfl
    refine wpAnyH_take (i := 11) (v := ?_) rfl (by kernel_rfl) (by kernel_rfl) (by kernel_rfl) (fun _ _ _ h => h) (Or.inl ⟨by kernel_rfl, ?_⟩) hS ?_
    rotate_left
    · intro wx hx
      obtain ⟨⟨hx0, hx1, hx2⟩, _⟩ := hx
      go_simp
      try with_reducible rfl
    refine wpAnyH_take (i := 12) (v := ?_) rfl (by kernel_rfl) (by kernel_rfl) (by kernel_rfl) (fun _ _ _ h => h) (Or.inl ⟨by kernel_rfl, ?_⟩) hS ?_
    rotate_left
    · intro wx hx
      obtain ⟨⟨hx0, hx1, hx2⟩, _⟩ := hx
      go_simp
      try with_reducible rfl
    refine wpAnyH_take (i := 13) (v := ?_) rfl (by kernel_rfl) (by kernel_rfl) (by kernel_rfl) (fun _ _ _ h => h) (Or.inl ⟨by kernel_rfl, ?_⟩) hS ?_
    rotate_left
    · intro wx hx
      obtain ⟨⟨hx0, hx1, hx2⟩, _⟩ := hx
      go_simp
      try with_reducible rfl
    refine wpAnyH_take (i := 14) (v := ?_) rfl (by kernel_rfl) (by kernel_rfl) (by kernel_rfl) (fun _ _ _ h => h) (Or.inl ⟨by kernel_rfl, ?_⟩) hS ?_
    rotate_left
    · intro wx hx
      obtain ⟨⟨hx0, hx1, hx2⟩, _⟩ := hx
      go_simp
      try with_reducible rfl
    refine wpAnyH_take (i := 15) (v := ?_) rfl (by kernel_rfl) (by kernel_rfl) (by kernel_rfl) (fun _ _ _ h => h) (Or.inl ⟨by kernel_rfl, ?_⟩) hS ?_
    rotate_left
    · intro wx hx
      obtain ⟨⟨hx0, hx1, hx2⟩, _⟩ := hx
      go_simp
      try with_reducible rfl
    refine wpAnyH_take (i := 16) (v := ?_) rfl (by kernel_rfl) (by kernel_rfl) (by kernel_rfl) (fun _ _ _ h => h) (Or.inl ⟨by kernel_rfl, ?_⟩) hS ?_
    rotate_left
    · intro wx hx
      obtain ⟨⟨hx0, hx1, hx2⟩, _⟩ := hx
      go_simp
      try with_reducible rfl
    refine wpAnyH_take (i := 17) (v := ?_) rfl (by kernel_rfl) (by kernel_rfl) (by kernel_rfl) (fun _ _ _ h => h) (Or.inl ⟨by kernel_rfl, ?_⟩) hS ?_
    rotate_left
    · intro wx hx
      obtain ⟨⟨hx0, hx1, hx2⟩, _⟩ := hx
      go_simp
      try with_reducible rfl
    refine wpAnyH_take (i := 18) (v := ?_) rfl (by kernel_rfl) (by kernel_rfl) (by kernel_rfl) (fun _ _ _ h => h) (Or.inl ⟨by kernel_rfl, ?_⟩) hS ?_
    rotate_left
    · intro wx hx
      obtain ⟨⟨hx0, hx1, hx2⟩, _⟩ := hx
      go_simp
      try with_reducible rfl
    refine wpAnyH_take (i := 19) (v := ?_) rfl (by kernel_rfl) (by kernel_rfl) (by kernel_rfl) (fun _ _ _ h => h) (Or.inl ⟨by kernel_rfl, ?_⟩) hS ?_
    rotate_left
    · intro wx hx
      obtain ⟨⟨hx0, hx1, hx2⟩, _⟩ := hx
      go_simp
      try with_reducible rfl
    refine wpAnyH_done (by kernel_rfl) ?_ _
    obtain ⟨⟨x0, x1, x2⟩, hbw⟩ := hS
    go_simp
    go_wp2
    go_roundw
    case rel => 
      refine ⟨k + 1, n1, by omega, rfl, by go_num, E, ?_⟩
      repeat (first | exact Below.refl _ _ | assumption | refine below_rn ?_ _ | refine Below.setCell ?_ (by first | omega | (simp <;> omega)) _ | refine Below.alloc ?_ (by first | omega | (simp <;> omega) | (have := hbw.size; simp <;> omega)) _)
    case measure => simp [intOf]; omega
set_option maxRecDepth 100000 in
set_option maxHeartbeats 4000000 in
theorem implRanges_any (v : Value) (B n : Nat) (F : Nat → Int) (w : World) (h : Row w B 3 n F v) (hn : n ≤ 9223372036854775807) :
    Calls Tryz.prog 39 #[v] w fun e w' => e = .returned (.int .i64 (rangesF n F)) ∧ Below w.heap.size w w' := by
  obtain ⟨ao, cp, rfl⟩ := h.form
  have H : Hid (Row w B 3 n F (.slice ao n cp)) := h
  clear h
  by_cases hs : n < 1 ∨ 6 < n
  · have E : Hid (rangesF n F = 2) := by unfold rangesF; rw [if_pos hs]; rfl
    rcases Nat.lt_or_ge n 1 with hs | hs
    · obtain rfl : n = 0 := by omega
      go_enter Tryz.func39, Tryz.ntmps39
      go_wp2
      go_ret
      exact ⟨by rw [E.out]; rfl, Below.refl _ _⟩
    · have hs6 : decide ((n : Int) > 6) = true := decide_eq_true (by omega)
      go_enter Tryz.func39, Tryz.ntmps39
      go_wp2
      go_ret
      exact ⟨by rw [E.out]; rfl, Below.refl _ _⟩
  have hs1 : 1 ≤ n := by omega
  have hs6 : n ≤ 6 := by omega
  clear hs hn
  obtain ⟨f, hf⟩ : ∃ f, rangesF n F = f := ⟨_, rfl⟩
  have HF : Hid (rFrom F n 0 0 = f) := by rw [rangesF, if_neg (by omega)] at hf; exact hf
  rw [hf]
  clear hf
  go_enter Tryz.func39, Tryz.ntmps39
  go_wp2
  go_loopw [3, 16] (fun a i wr => ∃ (k : Nat) (z : Int), k ≤ n ∧ a = .int .i64 z ∧ i = .int .i64 k ∧ Hid (rFrom F (n - k) k z = f) ∧ Below w.heap.size w wr) (fun _ i _ => n - (intOf i).toNat)
  case atStart => exact ⟨0, 0, Nat.zero_le _, rfl, rfl, HF, Below.refl _ _⟩
  case round =>
    obtain ⟨k, z, hk, rfl, rfl, HS, hbw⟩ := hrel
    by_cases hlt : k < n
    case neg =>
      have en : n - k = 0 := by omega
      have E := HS.out
      rw [en, rFrom] at E
      by_cases hz : z = 200
      · rw [if_pos hz] at E
        subst hz E
        clear HS HF
        go_wp2
        go_ret
        exact ⟨rfl, hbw⟩
      · rw [if_neg hz] at E
        subst E
        have hz' : (z == 200) = false := beq_eq_false_iff_ne.2 hz
        clear HS HF
        go_wp2
        go_ret
        exact ⟨rfl, hbw⟩
    obtain ⟨g, o, rfl, _, hg, x0, x1, x2⟩ := (H.out.later hbw).at3 hlt
    have hm : Hid (0 < n - k ∧ n - k - 1 = n - (k + 1)) := ⟨by omega, by omega⟩
    obtain ⟨n0, N0⟩ : ∃ x, F (k * 3) = x := ⟨_, rfl⟩
    rw [N0] at x0
    obtain ⟨n1, N1⟩ : ∃ x, F (k * 3 + 1) = x := ⟨_, rfl⟩
    rw [N1] at x1
    obtain ⟨n2, N2⟩ : ∃ x, F (k * 3 + 2) = x := ⟨_, rfl⟩
    rw [N2] at x2
    have NN : Hid (F (k * 3) = n0 ∧ F (k * 3 + 1) = n1 ∧ F (k * 3 + 2) = n2) := ⟨N0, N1, N2⟩
    clear N0 N1 N2
    by_cases h0 : 1 ≤ n2 ∧ n2 ≤ 9999
    case neg =>
      have L0 : Hid (decide (1 ≤ n2 ∧ n2 ≤ 9999) = false) := decide_eq_false h0
      have E := HS.out
      rw [rFrom_bad hm.out.1 (by rw [NN.out.2.2]; exact Or.inl h0)] at E
      subst E
      clear h0 HS NN HF
      go_wp2_with fail
      refine (isEpoch_is _ _ L0.out _).mono ?_
      rintro e w1 ⟨rfl, rfl⟩
      go_wp2
      go_ret
      refine ⟨rfl, ?_⟩
      repeat (first | exact Below.refl _ _ | assumption | refine below_rn ?_ _ | refine Below.setCell ?_ (by first | omega | (simp <;> omega)) _ | refine Below.alloc ?_ (by first | omega | (simp <;> omega) | (have := hbw.size; simp <;> omega)) _)
    have L0 : Hid (decide (1 ≤ n2 ∧ n2 ≤ 9999) = true) := decide_eq_true h0
    by_cases h1 : n1 ≤ n0
    case pos =>
      have E := HS.out
      rw [rFrom_bad hm.out.1 (by rw [NN.out.1, NN.out.2.1]; exact Or.inr h1)] at E
      subst E
      have d1 : decide (n0 ≥ n1) = true := decide_eq_true h1
      clear h0 HS NN HF
      go_wp2_with fail
      refine (isEpoch_is _ _ L0.out _).mono ?_
      rintro e w1 ⟨rfl, rfl⟩
      go_wp2
      go_ret
      refine ⟨rfl, ?_⟩
      repeat (first | exact Below.refl _ _ | assumption | refine below_rn ?_ _ | refine Below.setCell ?_ (by first | omega | (simp <;> omega)) _ | refine Below.alloc ?_ (by first | omega | (simp <;> omega) | (have := hbw.size; simp <;> omega)) _)
    have d1 : decide (n0 ≥ n1) = false := decide_eq_false h1
    have hok : Hid (¬ (¬ (1 ≤ F (k * 3 + 2) ∧ F (k * 3 + 2) ≤ 9999) ∨ F (k * 3 + 1) ≤ F (k * 3))) := by
      rw [NN.out.1, NN.out.2.1, NN.out.2.2]; unfold Hid; omega
    by_cases h2 : n0 = z
    case neg =>
      have E := HS.out
      rw [rFrom_off hm.out.1 hok.out (by rw [NN.out.1]; exact h2)] at E
      subst E
      have d2 : (n0 == z) = false := beq_eq_false_iff_ne.2 h2
      clear h0 h1 HS NN hok HF
      go_wp2_with fail
      refine (isEpoch_is _ _ L0.out _).mono ?_
      rintro e w1 ⟨rfl, rfl⟩
      go_wp2
      go_ret
      refine ⟨rfl, ?_⟩
      repeat (first | exact Below.refl _ _ | assumption | refine below_rn ?_ _ | refine Below.setCell ?_ (by first | omega | (simp <;> omega)) _ | refine Below.alloc ?_ (by first | omega | (simp <;> omega) | (have := hbw.size; simp <;> omega)) _)
    subst h2
    have E : Hid (rFrom F (n - (k + 1)) (k + 1) n1 = f) := by
      have E := HS.out
      rw [rFrom_on hm.out.1 hok.out NN.out.1, NN.out.2.1, hm.out.2] at E
      exact E
    clear h0 h1 HS NN hok HF hm
    go_wp2_with fail
    refine (isEpoch_is _ _ L0.out _).mono ?_
    rintro e w1 ⟨rfl, rfl⟩
    go_wp2
    go_roundw
    case rel => 
      refine ⟨k + 1, n1, by omega, rfl, by go_num, E, ?_⟩
      repeat (first | exact Below.refl _ _ | assumption | refine below_rn ?_ _ | refine Below.setCell ?_ (by first | omega | (simp <;> omega)) _ | refine Below.alloc ?_ (by first | omega | (simp <;> omega) | (have := hbw.size; simp <;> omega)) _)
    case measure => simp [intOf]; omega
end

section
open Go.RowKit
-- Own text. Chapter 6: the place of a key's range, the next epoch, RouteOf and IsFresh: the program's and the model's answer the same plain functions of the row.
/-- Ranges without a fault. -/
structure Good (n : Nat) (F : Nat → Int) : Prop where
  n1 : 1 ≤ n
  n6 : n ≤ 6
  ep : ∀ i, i < n → 1 ≤ F (i * 3 + 2) ∧ F (i * 3 + 2) ≤ 9999
  lt : ∀ i, i < n → F (i * 3) < F (i * 3 + 1)
  first : F 0 = 0
  next : ∀ i, i + 1 < n → F ((i + 1) * 3) = F (i * 3 + 1)
  last : F ((n - 1) * 3 + 1) = 200
theorem rFrom_zero {F : Nat → Int} : ∀ (m k : Nat) (a : Int), rFrom F m k a = 0 → (∀ i, i < m → (1 ≤ F ((k + i) * 3 + 2) ∧ F ((k + i) * 3 + 2) ≤ 9999) ∧ F ((k + i) * 3) < F ((k + i) * 3 + 1)) ∧ (0 < m → F (k * 3) = a) ∧ (∀ i, i + 1 < m → F ((k + i + 1) * 3) = F ((k + i) * 3 + 1)) ∧ (m = 0 → a = 200) ∧ (0 < m → F ((k + m - 1) * 3 + 1) = 200) := by
  intro m
  induction m with
  | zero =>
    intro k a h
    rw [rFrom] at h
    refine ⟨fun i hi => absurd hi (Nat.not_lt_zero _), fun h0 => absurd h0 (Nat.lt_irrefl _), fun i hi => absurd hi (Nat.not_lt_zero _), fun _ => ?_, fun h0 => absurd h0 (Nat.lt_irrefl _)⟩
    split at h
    · assumption
    · omega
  | succ m ih =>
    intro k a h
    rw [rFrom] at h
    split at h
    · omega
    rename_i h1
    split at h
    · omega
    rename_i h2
    obtain ⟨i1, i2, i3, i4, i5⟩ := ih (k + 1) _ h
    have h1' : (1 ≤ F (k * 3 + 2) ∧ F (k * 3 + 2) ≤ 9999) ∧ F (k * 3) < F (k * 3 + 1) := by omega
    refine ⟨fun i hi => ?_, fun _ => by omega, fun i hi => ?_, fun h0 => by omega, fun _ => ?_⟩
    · cases i with
      | zero => exact h1'
      | succ i => have := i1 i (by omega); rwa [show k + 1 + i = k + (i + 1) by omega] at this
    · cases i with
      | zero => exact i2 (by omega)
      | succ i => have := i3 i (by omega); rwa [show k + 1 + i = k + (i + 1) by omega] at this
    · cases m with
      | zero => exact i4 rfl
      | succ m => have := i5 (by omega); rwa [show k + 1 + (m + 1) - 1 = k + (m + 1 + 1) - 1 by omega] at this
theorem rFrom_good {F : Nat → Int} : ∀ (m k : Nat) (a : Int), (∀ i, i < m → (1 ≤ F ((k + i) * 3 + 2) ∧ F ((k + i) * 3 + 2) ≤ 9999) ∧ F ((k + i) * 3) < F ((k + i) * 3 + 1)) → (0 < m → F (k * 3) = a) → (∀ i, i + 1 < m → F ((k + i + 1) * 3) = F ((k + i) * 3 + 1)) → (m = 0 → a = 200) → (0 < m → F ((k + m - 1) * 3 + 1) = 200) → rFrom F m k a = 0 := by
  intro m
  induction m with
  | zero =>
    intro k a _ _ _ h4 _
    rw [rFrom, if_pos (h4 rfl)]
  | succ m ih =>
    intro k a h1 h2 h3 h4 h5
    have h10 : (1 ≤ F (k * 3 + 2) ∧ F (k * 3 + 2) ≤ 9999) ∧ F (k * 3) < F (k * 3 + 1) := h1 0 (by omega)
    have h20 := h2 (by omega)
    rw [rFrom, if_neg (by omega), if_neg (by omega)]
    refine ih (k + 1) _ (fun i hi => ?_) (fun hm => ?_) (fun i hi => ?_) (fun hm => ?_) (fun hm => ?_)
    · have := h1 (i + 1) (by omega); rwa [show k + (i + 1) = k + 1 + i by omega] at this
    · exact h3 0 (by omega)
    · have := h3 (i + 1) (by omega); rwa [show k + (i + 1) = k + 1 + i by omega] at this
    · subst hm; exact h5 (by omega)
    · have := h5 (by omega); rwa [show k + (m + 1) - 1 = k + 1 + m - 1 by omega] at this
theorem good_of {n : Nat} {F : Nat → Int} (h : rangesF n F = 0) : Good n F := by
  unfold rangesF at h
  split at h
  · omega
  obtain ⟨i1, i2, i3, i4, i5⟩ := rFrom_zero n 0 0 h
  refine ⟨by omega, by omega, fun i hi => ?_, fun i hi => ?_, by simpa using i2 (by omega), fun i hi => ?_, ?_⟩
  · simpa using (i1 i hi).1
  · simpa using (i1 i hi).2
  · simpa using i3 i hi
  · simpa using i5 (by omega)
theorem Good.zero {n : Nat} {F : Nat → Int} (h : Good n F) : rangesF n F = 0 := by
  have := h.n1; have := h.n6
  unfold rangesF
  rw [if_neg (by omega)]
  refine rFrom_good n 0 0 (fun i hi => ?_) (fun _ => by simpa using h.first) (fun i hi => ?_) (fun h0 => by omega) (fun _ => ?_)
  · simpa using ⟨h.ep i hi, h.lt i hi⟩
  · simpa using h.next i hi
  · simpa using h.last
/-- The first range that ends behind the key. -/
def AtR (n : Nat) (F : Nat → Int) (key : Int) (j : Nat) : Prop := j < n ∧ key < F (j * 3 + 1) ∧ ∀ i, i < j → F (i * 3 + 1) ≤ key
theorem atR_ex {F : Nat → Int} {key : Int} : ∀ m : Nat, (∃ j, j < m ∧ key < F (j * 3 + 1)) → ∃ j, AtR m F key j := by
  intro m
  induction m with
  | zero => rintro ⟨j, hj, _⟩; exact absurd hj (Nat.not_lt_zero _)
  | succ m ih =>
    rintro ⟨j, hj, hk⟩
    by_cases hm : ∃ j, j < m ∧ key < F (j * 3 + 1)
    · obtain ⟨i, h1, h2, h3⟩ := ih hm
      exact ⟨i, by omega, h2, h3⟩
    · refine ⟨m, by omega, ?_, fun i hi => Int.not_lt.1 (fun q => hm ⟨i, hi, q⟩)⟩
      rcases Nat.lt_or_ge j m with q | q
      · exact absurd ⟨j, q, hk⟩ hm
      · obtain rfl : j = m := by omega
        exact hk
theorem Good.at {n : Nat} {F : Nat → Int} (h : Good n F) {key : Int} (hk : key ≤ 199) : ∃ j, AtR n F key j :=
  atR_ex n ⟨n - 1, by have := h.n1; omega, by rw [h.last]; omega⟩
theorem AtR.uniq {n : Nat} {F : Nat → Int} {key : Int} {i j : Nat} (hi : AtR n F key i) (hj : AtR n F key j) : i = j := by
  obtain ⟨_, h1, h2⟩ := hi
  obtain ⟨_, h3, h4⟩ := hj
  rcases Nat.lt_trichotomy i j with q | q | q
  · have := h4 i q; omega
  · exact q
  · have := h2 j q; omega
set_option maxRecDepth 100000 in
set_option maxHeartbeats 1000000 in
theorem l6Route_is (v : Value) (B n : Nat) (F : Nat → Int) (key : Int) (j : Nat) (w : World) (h : Row w B 3 n F v) (hj : AtR n F key j) (hn : n ≤ 1048576) :
    Calls Tryz.prog 67 #[v, .int .i64 key] w fun e w' => e = .returned (.int .i64 j) ∧ w' = w := by
  obtain ⟨ao, cp, rfl⟩ := h.form
  have H : Hid (Row w B 3 n F (.slice ao n cp)) := h
  have hjn := hj.1
  have HJ : Hid (AtR n F key j) := hj
  clear h hj
  go_enter Tryz.func67, Tryz.ntmps67
  go_wp2
  go_loop [5] (fun i => ∃ k : Nat, k ≤ j ∧ i = .int .i64 k) (fun i => n - (intOf i).toNat)
  case atStart => exact ⟨0, Nat.zero_le _, rfl⟩
  case round =>
    obtain ⟨k, hk, rfl⟩ := hrel
    have hlt : k < n := by omega
    obtain ⟨g, o, rfl, _, hg, x0, x1, x2⟩ := H.out.at3 hlt
    obtain ⟨n1, N1⟩ : ∃ x, F (k * 3 + 1) = x := ⟨_, rfl⟩
    rw [N1] at x1
    by_cases hkj : k = j
    · subst hkj
      have d : key < n1 := by rw [← N1]; exact HJ.out.2.1
      clear N1
      go_wp2
      go_ret
      exact ⟨rfl, rfl⟩
    · have d : ¬ key < n1 := by rw [← N1]; exact Int.not_lt.2 (HJ.out.2.2 k (by omega))
      clear N1
      go_wp2
      go_round
      case rel => exact ⟨k + 1, by omega, by go_num⟩
      case measure => simp [intOf]; omega
/-- The greatest epoch of the first n. -/
def topE (F : Nat → Int) : Nat → Int
  | 0 => 0
  | k + 1 => if F (k * 3 + 2) < topE F k then topE F k else F (k * 3 + 2)
theorem topE_bound {F : Nat → Int} : ∀ n : Nat, (∀ i, i < n → 1 ≤ F (i * 3 + 2) ∧ F (i * 3 + 2) ≤ 9999) → 0 ≤ topE F n ∧ topE F n ≤ 9999 := by
  intro n
  induction n with
  | zero => intro _; exact ⟨Int.le_refl _, by unfold topE; omega⟩
  | succ n ih =>
    intro h
    have h1 := ih (fun i hi => h i (by omega))
    have h2 := h n (by omega)
    rw [topE]
    split <;> omega
theorem topE_top {F : Nat → Int} : ∀ n : Nat, ∀ i, i < n → F (i * 3 + 2) ≤ topE F n := by
  intro n
  induction n with
  | zero => intro i hi; exact absurd hi (Nat.not_lt_zero _)
  | succ n ih =>
    intro i hi
    rw [topE]
    rcases Nat.lt_or_ge i n with q | q
    · have := ih i q; split <;> omega
    · obtain rfl : i = n := by omega
      split <;> omega
end
end Go.Proofs.YtpfmbfmlpoibeaaGreat
