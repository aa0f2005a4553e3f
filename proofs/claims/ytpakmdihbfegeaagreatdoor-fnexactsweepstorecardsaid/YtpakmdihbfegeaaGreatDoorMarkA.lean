/-
  Own text. What the laws' helpers over rows of structs do: mark numbers a row, field by field; held finds those numbers again.
-/
import Derived.Test.YtpakmdihbfegeaaGreatDoorColsA
namespace Go.Proofs.YtpakmdihbfegeaaGreatDoor
open Go.RowKit

theorem Row.at2 {w : World} {B n : Nat} {F : Nat → Int} {ao : Option Addr} {cp : Nat} (h : Row w B 2 n F (.slice ao n cp)) {k : Nat} (hk : k < n) :
    ∃ g o, ao = some ⟨g, o, none⟩ ∧ B ≤ g ∧ g < w.heap.size ∧ w.cell? ⟨g, o + k * 2, none⟩ = some (.int .i64 (F (k * 2))) ∧ w.cell? ⟨g, o + k * 2 + 1, none⟩ = some (.int .i64 (F (k * 2 + 1))) := by
  obtain ⟨g, o, ha, hB, hg, hc⟩ := h.at hk
  exact ⟨g, o, ha, hB, hg, hc 0 (by omega), hc 1 (by omega)⟩
theorem Fill.step {w : World} {g o N K : Nat} {F : Nat → Int} (h : Fill w g o N K F) (hK : K < N) {a : Nat} (ha : a = o + K) {x : Int} (hx : x = F K) : Fill (w.setCell ⟨g, a, none⟩ (.int .i64 x)) g o N (K + 1) F := by
  subst ha hx
  exact h.put hK
theorem grownBy_set {w x : World} {g : Nat} (h : w.grownBy x (some g)) (a : Nat) (u : Value) : w.grownBy (x.setCell ⟨g, a, none⟩ u) (some g) :=
  ⟨h.os, h.tape, h.output, by simpa [World.setCell] using h.size, fun k hk hne => (Below.heap_setCell x _ u k (fun e => hne (by rw [e]))).trans (h.block k hk hne)⟩
/-- A row half numbered: of n elements the first j. -/
def Marked (w x : World) (B m n j : Nat) (k0 : Int) (ao : Option Addr) (cp : Nat) : Prop :=
  (0 < n → ∃ g o, ao = some ⟨g, o, none⟩ ∧ B ≤ g ∧ Fill x g o (n * m) (j * m) (fun p => k0 + (p : Nat))) ∧ w.grownBy x (Value.slice ao n cp).ownBlock
theorem Marked.start {w : World} {B m n : Nat} {F : Nat → Int} {ao : Option Addr} {cp : Nat} (h : Row w B m n F (.slice ao n cp)) (hf : Free w (n * m) (.slice ao n cp)) (k0 : Int) : Marked w w B m n 0 k0 ao cp := by
  refine ⟨fun hn => ?_, rfl, rfl, rfl, Nat.le_refl _, fun _ _ _ => rfl⟩
  have h0 := h
  obtain ⟨ao', cp', hv, h⟩ := h
  simp only [Value.slice.injEq] at hv
  obtain ⟨rfl, _, rfl⟩ := hv
  obtain ⟨g, o, rfl, hB, _⟩ := h hn
  exact ⟨g, o, rfl, hB, by rw [Nat.zero_mul]; exact Fill.ofRow h0 hf hn⟩
theorem Marked.done {w x : World} {B m n : Nat} {k0 : Int} {ao : Option Addr} {cp : Nat} (h : Marked w x B m n n k0 ao cp) : Row x B m n (fun p => k0 + (p : Nat)) (.slice ao n cp) ∧ Free x (n * m) (.slice ao n cp) := by
  rcases Nat.eq_zero_or_pos n with e | e
  · subst e
    exact ⟨⟨_, _, rfl, fun q => absurd q (Nat.lt_irrefl 0)⟩, by rw [Nat.zero_mul]; exact Free.of0 _ _⟩
  · obtain ⟨g, o, rfl, hB, hF⟩ := h.1 e
    exact hF.row hB cp
set_option maxRecDepth 100000 in
set_option maxHeartbeats 2000000 in
theorem markCellS_any (v : Value) (B n : Nat) (F : Nat → Int) (k0 : Int) (w : World) (h : Row w B 3 n F v) (hf : Free w (n * 3) v) (hn : n ≤ 1048576) (hk0 : 0 ≤ k0) (hk1 : k0 ≤ 100000000) :
    Calls Tryz.prog 46 #[v, .int .i64 k0] w fun e w' => e = .returned (.int .i64 (k0 + n * 3)) ∧ Row w' B 3 n (fun p => k0 + (p : Nat)) v ∧ Free w' (n * 3) v ∧ w.grownBy w' v.ownBlock := by
  obtain ⟨ao, cp, rfl⟩ := h.form
  have H0 : Hid (Marked w w B 3 n 0 k0 ao cp) := Marked.start h hf k0
  clear h hf
  go_enter Tryz.func46, Tryz.ntmps46
  go_wp2
  go_loopw [1, 5] (fun k i wr => ∃ j : Nat, j ≤ n ∧ i = .int .i64 j ∧ k = .int .i64 (k0 + j * 3) ∧ Hid (Marked w wr B 3 n j k0 ao cp)) (fun _ i _ => n - (intOf i).toNat)
  case atStart => exact ⟨0, Nat.zero_le _, rfl, by go_num, H0⟩
  case round =>
    obtain ⟨j, hj, rfl, rfl, hM⟩ := hrel
    by_cases hlt : j < n
    · obtain ⟨g, o, rfl, hB, hF⟩ := hM.out.1 (by omega)
      obtain ⟨u0, c0, e0⟩ := hF.at (p := j * 3) (by omega)
      obtain ⟨u1, c1, e1⟩ := hF.at (p := j * 3 + 1) (by omega)
      obtain ⟨u2, c2, e2⟩ := hF.at (p := j * 3 + 2) (by omega)
      simp only [← Nat.add_assoc] at c0 e0 c1 e1 c2 e2
      have HF : Hid (Fill wr g o (n * 3) (j * 3) (fun p => k0 + (p : Nat)) ∧ w.grownBy wr (some g)) := ⟨hF, hM.out.2⟩
      clear hF hM H0
      go_wp2
      go_roundw
      case rel => exact ⟨j + 1, by omega, by go_num, by go_num, fun _ => ⟨g, o, rfl, hB, by rw [Nat.succ_mul]; exact (((HF.out.1.step (by omega) (by omega) (by omega)).step (by omega) (by omega) (by omega)).step (by omega) (by omega) (by omega))⟩, (grownBy_set (grownBy_set (grownBy_set HF.out.2 _ _) _ _) _ _)⟩
      case measure => simp [intOf]; omega
    · obtain rfl : j = n := by omega
      go_wp2
      go_ret
      exact ⟨rfl, hM.out.done.1, hM.out.done.2, hM.out.2⟩
set_option maxHeartbeats 2000000 in
theorem heldCellS_any (v : Value) (B n : Nat) (k0 : Int) (w : World) (h : Row w B 3 n (fun p => k0 + (p : Nat)) v) (hn : n ≤ 1048576) (hk0 : 0 ≤ k0) (hk1 : k0 ≤ 100000000) :
    Calls Tryz.prog 85 #[v, .int .i64 k0] w fun e w' => e = .returned (.int .i64 (k0 + n * 3)) ∧ w' = w := by
  obtain ⟨ao, cp, rfl⟩ := h.form
  have H0 : Hid (Row w B 3 n (fun p => k0 + (p : Nat)) (.slice ao n cp)) := h
  clear h
  go_enter Tryz.func85, Tryz.ntmps85
  go_wp2
  go_loop [1, 5] (fun k i => ∃ j : Nat, j ≤ n ∧ i = .int .i64 j ∧ k = .int .i64 (k0 + j * 3)) (fun _ i => n - (intOf i).toNat)
  case atStart => exact ⟨0, Nat.zero_le _, rfl, by go_num⟩
  case round =>
    obtain ⟨j, hj, rfl, rfl⟩ := hrel
    by_cases hlt : j < n
    · obtain ⟨g, o, rfl, _, _, c0, c1, c2⟩ := H0.out.at3 hlt
      rw [show k0 + ((j * 3 : Nat) : Int) = k0 + j * 3 from by omega] at c0
      rw [show k0 + ((j * 3 + 1 : Nat) : Int) = k0 + j * 3 + 1 from by omega] at c1
      rw [show k0 + ((j * 3 + 2 : Nat) : Int) = k0 + j * 3 + 1 + 1 from by omega] at c2
      go_wp2
      go_round
      case rel => exact ⟨j + 1, by omega, by go_num, by go_num⟩
      case measure => simp [intOf]; omega
    · obtain rfl : j = n := by omega
      go_wp2
      go_ret
      exact ⟨rfl, rfl⟩
set_option maxRecDepth 100000 in
set_option maxHeartbeats 2000000 in
theorem markLockS_any (v : Value) (B n : Nat) (F : Nat → Int) (k0 : Int) (w : World) (h : Row w B 5 n F v) (hf : Free w (n * 5) v) (hn : n ≤ 1048576) (hk0 : 0 ≤ k0) (hk1 : k0 ≤ 100000000) :
    Calls Tryz.prog 47 #[v, .int .i64 k0] w fun e w' => e = .returned (.int .i64 (k0 + n * 5)) ∧ Row w' B 5 n (fun p => k0 + (p : Nat)) v ∧ Free w' (n * 5) v ∧ w.grownBy w' v.ownBlock := by
  obtain ⟨ao, cp, rfl⟩ := h.form
  have H0 : Hid (Marked w w B 5 n 0 k0 ao cp) := Marked.start h hf k0
  clear h hf
  go_enter Tryz.func47, Tryz.ntmps47
  go_wp2
  go_loopw [1, 5] (fun k i wr => ∃ j : Nat, j ≤ n ∧ i = .int .i64 j ∧ k = .int .i64 (k0 + j * 5) ∧ Hid (Marked w wr B 5 n j k0 ao cp)) (fun _ i _ => n - (intOf i).toNat)
  case atStart => exact ⟨0, Nat.zero_le _, rfl, by go_num, H0⟩
  case round =>
    obtain ⟨j, hj, rfl, rfl, hM⟩ := hrel
    by_cases hlt : j < n
    · obtain ⟨g, o, rfl, hB, hF⟩ := hM.out.1 (by omega)
      obtain ⟨u0, c0, e0⟩ := hF.at (p := j * 5) (by omega)
      obtain ⟨u1, c1, e1⟩ := hF.at (p := j * 5 + 1) (by omega)
      obtain ⟨u2, c2, e2⟩ := hF.at (p := j * 5 + 2) (by omega)
      obtain ⟨u3, c3, e3⟩ := hF.at (p := j * 5 + 3) (by omega)
      obtain ⟨u4, c4, e4⟩ := hF.at (p := j * 5 + 4) (by omega)
      simp only [← Nat.add_assoc] at c0 e0 c1 e1 c2 e2 c3 e3 c4 e4
      have HF : Hid (Fill wr g o (n * 5) (j * 5) (fun p => k0 + (p : Nat)) ∧ w.grownBy wr (some g)) := ⟨hF, hM.out.2⟩
      clear hF hM H0
      go_wp2
      go_roundw
      case rel => exact ⟨j + 1, by omega, by go_num, by go_num, fun _ => ⟨g, o, rfl, hB, by rw [Nat.succ_mul]; exact (((((HF.out.1.step (by omega) (by omega) (by omega)).step (by omega) (by omega) (by omega)).step (by omega) (by omega) (by omega)).step (by omega) (by omega) (by omega)).step (by omega) (by omega) (by omega))⟩, (grownBy_set (grownBy_set (grownBy_set (grownBy_set (grownBy_set HF.out.2 _ _) _ _) _ _) _ _) _ _)⟩
      case measure => simp [intOf]; omega
    · obtain rfl : j = n := by omega
      go_wp2
      go_ret
      exact ⟨rfl, hM.out.done.1, hM.out.done.2, hM.out.2⟩
set_option maxHeartbeats 2000000 in
theorem heldLockS_any (v : Value) (B n : Nat) (k0 : Int) (w : World) (h : Row w B 5 n (fun p => k0 + (p : Nat)) v) (hn : n ≤ 1048576) (hk0 : 0 ≤ k0) (hk1 : k0 ≤ 100000000) :
    Calls Tryz.prog 86 #[v, .int .i64 k0] w fun e w' => e = .returned (.int .i64 (k0 + n * 5)) ∧ w' = w := by
  obtain ⟨ao, cp, rfl⟩ := h.form
  have H0 : Hid (Row w B 5 n (fun p => k0 + (p : Nat)) (.slice ao n cp)) := h
  clear h
  go_enter Tryz.func86, Tryz.ntmps86
  go_wp2
  go_loop [1, 5] (fun k i => ∃ j : Nat, j ≤ n ∧ i = .int .i64 j ∧ k = .int .i64 (k0 + j * 5)) (fun _ i => n - (intOf i).toNat)
  case atStart => exact ⟨0, Nat.zero_le _, rfl, by go_num⟩
  case round =>
    obtain ⟨j, hj, rfl, rfl⟩ := hrel
    by_cases hlt : j < n
    · obtain ⟨g, o, rfl, _, _, c0, c1, c2, c3, c4⟩ := H0.out.at5 hlt
      rw [show k0 + ((j * 5 : Nat) : Int) = k0 + j * 5 from by omega] at c0
      rw [show k0 + ((j * 5 + 1 : Nat) : Int) = k0 + j * 5 + 1 from by omega] at c1
      rw [show k0 + ((j * 5 + 2 : Nat) : Int) = k0 + j * 5 + 1 + 1 from by omega] at c2
      rw [show k0 + ((j * 5 + 3 : Nat) : Int) = k0 + j * 5 + 1 + 1 + 1 from by omega] at c3
      rw [show k0 + ((j * 5 + 4 : Nat) : Int) = k0 + j * 5 + 1 + 1 + 1 + 1 from by omega] at c4
      go_wp2
      go_round
      case rel => exact ⟨j + 1, by omega, by go_num, by go_num⟩
      case measure => simp [intOf]; omega
    · obtain rfl : j = n := by omega
      go_wp2
      go_ret
      exact ⟨rfl, rfl⟩
set_option maxRecDepth 100000 in
set_option maxHeartbeats 2000000 in
theorem markWriteS_any (v : Value) (B n : Nat) (F : Nat → Int) (k0 : Int) (w : World) (h : Row w B 4 n F v) (hf : Free w (n * 4) v) (hn : n ≤ 1048576) (hk0 : 0 ≤ k0) (hk1 : k0 ≤ 100000000) :
    Calls Tryz.prog 48 #[v, .int .i64 k0] w fun e w' => e = .returned (.int .i64 (k0 + n * 4)) ∧ Row w' B 4 n (fun p => k0 + (p : Nat)) v ∧ Free w' (n * 4) v ∧ w.grownBy w' v.ownBlock := by
  obtain ⟨ao, cp, rfl⟩ := h.form
  have H0 : Hid (Marked w w B 4 n 0 k0 ao cp) := Marked.start h hf k0
  clear h hf
  go_enter Tryz.func48, Tryz.ntmps48
  go_wp2
  go_loopw [1, 5] (fun k i wr => ∃ j : Nat, j ≤ n ∧ i = .int .i64 j ∧ k = .int .i64 (k0 + j * 4) ∧ Hid (Marked w wr B 4 n j k0 ao cp)) (fun _ i _ => n - (intOf i).toNat)
  case atStart => exact ⟨0, Nat.zero_le _, rfl, by go_num, H0⟩
  case round =>
    obtain ⟨j, hj, rfl, rfl, hM⟩ := hrel
    by_cases hlt : j < n
    · obtain ⟨g, o, rfl, hB, hF⟩ := hM.out.1 (by omega)
      obtain ⟨u0, c0, e0⟩ := hF.at (p := j * 4) (by omega)
      obtain ⟨u1, c1, e1⟩ := hF.at (p := j * 4 + 1) (by omega)
      obtain ⟨u2, c2, e2⟩ := hF.at (p := j * 4 + 2) (by omega)
      obtain ⟨u3, c3, e3⟩ := hF.at (p := j * 4 + 3) (by omega)
      simp only [← Nat.add_assoc] at c0 e0 c1 e1 c2 e2 c3 e3
      have HF : Hid (Fill wr g o (n * 4) (j * 4) (fun p => k0 + (p : Nat)) ∧ w.grownBy wr (some g)) := ⟨hF, hM.out.2⟩
      clear hF hM H0
      go_wp2
      go_roundw
      case rel => exact ⟨j + 1, by omega, by go_num, by go_num, fun _ => ⟨g, o, rfl, hB, by rw [Nat.succ_mul]; exact ((((HF.out.1.step (by omega) (by omega) (by omega)).step (by omega) (by omega) (by omega)).step (by omega) (by omega) (by omega)).step (by omega) (by omega) (by omega))⟩, (grownBy_set (grownBy_set (grownBy_set (grownBy_set HF.out.2 _ _) _ _) _ _) _ _)⟩
      case measure => simp [intOf]; omega
    · obtain rfl : j = n := by omega
      go_wp2
      go_ret
      exact ⟨rfl, hM.out.done.1, hM.out.done.2, hM.out.2⟩
set_option maxHeartbeats 2000000 in
theorem heldWriteS_any (v : Value) (B n : Nat) (k0 : Int) (w : World) (h : Row w B 4 n (fun p => k0 + (p : Nat)) v) (hn : n ≤ 1048576) (hk0 : 0 ≤ k0) (hk1 : k0 ≤ 100000000) :
    Calls Tryz.prog 87 #[v, .int .i64 k0] w fun e w' => e = .returned (.int .i64 (k0 + n * 4)) ∧ w' = w := by
  obtain ⟨ao, cp, rfl⟩ := h.form
  have H0 : Hid (Row w B 4 n (fun p => k0 + (p : Nat)) (.slice ao n cp)) := h
  clear h
  go_enter Tryz.func87, Tryz.ntmps87
  go_wp2
  go_loop [1, 5] (fun k i => ∃ j : Nat, j ≤ n ∧ i = .int .i64 j ∧ k = .int .i64 (k0 + j * 4)) (fun _ i => n - (intOf i).toNat)
  case atStart => exact ⟨0, Nat.zero_le _, rfl, by go_num⟩
  case round =>
    obtain ⟨j, hj, rfl, rfl⟩ := hrel
    by_cases hlt : j < n
    · obtain ⟨g, o, rfl, _, _, c0, c1, c2, c3⟩ := H0.out.at4 hlt
      rw [show k0 + ((j * 4 : Nat) : Int) = k0 + j * 4 from by omega] at c0
      rw [show k0 + ((j * 4 + 1 : Nat) : Int) = k0 + j * 4 + 1 from by omega] at c1
      rw [show k0 + ((j * 4 + 2 : Nat) : Int) = k0 + j * 4 + 1 + 1 from by omega] at c2
      rw [show k0 + ((j * 4 + 3 : Nat) : Int) = k0 + j * 4 + 1 + 1 + 1 from by omega] at c3
      go_wp2
      go_round
      case rel => exact ⟨j + 1, by omega, by go_num, by go_num⟩
      case measure => simp [intOf]; omega
    · obtain rfl : j = n := by omega
      go_wp2
      go_ret
      exact ⟨rfl, rfl⟩
end Go.Proofs.YtpakmdihbfegeaaGreatDoor
