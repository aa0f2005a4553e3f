/-
  Own text. What the program's hasStray tells.
-/
import Derived.Test.YtpfmbfmlpoibeaaGreatGrpE
import Derived.Test.YtpfmbfmlpoibeaaGreatColsF
namespace Go.Proofs.YtpfmbfmlpoibeaaGreat
open Go.RowKit

/-- The closure that is told a key: the range lies in block br. -/
def strayV (br : Nat) : Value := .func (.func 86) #[] #[.pointer (some ⟨br, 0, none⟩)]
/-- The closures' blocks. -/
def StrE (br bq : Nat) (fr to : Int) (x : World) : Prop := x.cell? ⟨bq, 0, none⟩ = some (strayV br) ∧ x.cell? ⟨br, 0, none⟩ = some (.int .i64 fr) ∧ x.cell? ⟨br, 1, none⟩ = some (.int .i64 to)
theorem StrE.later {x x' : World} {br bq : Nat} {fr to : Int} (h : StrE br bq fr to x) (hb : Below x.heap.size x x') : StrE br bq fr to x' :=
  ⟨(hb.cell (p := ⟨bq, 0, none⟩) (World.block_lt_of_cell? x _ h.1)).trans h.1, (hb.cell (p := ⟨br, 0, none⟩) (World.block_lt_of_cell? x _ h.2.1)).trans h.2.1, (hb.cell (p := ⟨br, 1, none⟩) (World.block_lt_of_cell? x _ h.2.2)).trans h.2.2⟩
def outK (fr to key : Int) : Bool := decide (key < fr ∨ to ≤ key)
set_option maxHeartbeats 1000000 in
theorem stray1_is (br : Nat) (fr to key : Int) (w : World) (h0 : w.cell? ⟨br, 0, none⟩ = some (.int .i64 fr)) (h1 : w.cell? ⟨br, 1, none⟩ = some (.int .i64 to)) :
    Calls Tryz.prog 86 #[.int .i64 key, .pointer (some ⟨br, 0, none⟩)] w fun e w' => e = .returned (.bool (outK fr to key)) ∧ w' = w := by
  by_cases q0 : key < fr
  · have E : Hid (outK fr to key = true) := decide_eq_true (Or.inl q0)
    have d : decide (key < fr) = true := decide_eq_true q0
    clear q0
    go_enter Tryz.func86, Tryz.ntmps86
    go_wp2
    go_ret
    exact ⟨by rw [E.out]; rfl, rfl⟩
  have d : decide (key < fr) = false := decide_eq_false q0
  by_cases q1 : to ≤ key
  · have E : Hid (outK fr to key = true) := decide_eq_true (Or.inr q1)
    have d1 : decide (to ≤ key) = true := decide_eq_true q1
    clear q0 q1
    go_enter Tryz.func86, Tryz.ntmps86
    go_wp2
    go_ret
    exact ⟨by rw [E.out]; rfl, rfl⟩
  · have E : Hid (outK fr to key = false) := decide_eq_false (fun q => by omega)
    have d1 : decide (to ≤ key) = false := decide_eq_false q1
    clear q0 q1
    go_enter Tryz.func86, Tryz.ntmps86
    go_wp2
    go_ret
    exact ⟨by rw [E.out]; rfl, rfl⟩
set_option maxHeartbeats 1000000 in
theorem strayCell_is (br bq : Nat) (fr to : Int) (n0 n1 n2 : Int) (w : World) (h : StrE br bq fr to w) :
    Calls Tryz.prog 88 #[.agg #[.int .i64 n0, .int .i64 n1, .int .i64 n2], .pointer (some ⟨bq, 0, none⟩)] w fun e w' => e = .returned (.bool (outK fr to n0)) ∧ Below w.heap.size w w' := by
  have H : Hid (StrE br bq fr to (w.alloc (.cells #[.int .i64 n0, .int .i64 n1, .int .i64 n2] 140))) := h.later (below_alloc _ _)
  obtain ⟨h0, _⟩ := H.out
  have hq : bq < w.heap.size := World.block_lt_of_cell? w _ h.1
  clear h
  unfold strayV at h0
  obtain ⟨r, hr⟩ : ∃ r, outK fr to n0 = r := ⟨_, rfl⟩
  have HR : Hid (outK fr to n0 = r) := hr
  clear hr
  go_enter Tryz.func88, Tryz.ntmps88
  go_wp2_with fail
  refine (stray1_is br fr to n0 _ H.out.2.1 H.out.2.2).mono ?_
  rw [HR.out]
  rintro e w1 ⟨rfl, rfl⟩
  go_wp2
  go_ret
  exact ⟨by rw [HR.out]; rfl, below_alloc _ _⟩
set_option maxRecDepth 100000 in
set_option maxHeartbeats 4000000 in
theorem indexStrayCell_is (br bq : Nat) (fr to : Int) (B n : Nat) (F : Nat → Int) (v : Value) (w : World) (h : Row w B 3 n F v) (hn : n ≤ 1048576) (hw : StrE br bq fr to w) :
    Calls Tryz.prog 132 #[v, .func (.func 88) #[] #[.pointer (some ⟨bq, 0, none⟩)]] w fun e w' => ∃ r : Int, e = .returned (.int .i64 r) ∧ ((r = -1 ∧ ∀ i, i < n → outK fr to (F (i * 3)) = false) ∨ (0 ≤ r ∧ ∃ i, i < n ∧ outK fr to (F (i * 3)) = true)) ∧ Below w.heap.size w w' := by
  obtain ⟨ao, cp, rfl⟩ := h.form
  have H : Hid (Row w B 3 n F (.slice ao n cp)) := h
  have HW : Hid (StrE br bq fr to w) := hw
  clear h hw
  go_enter Tryz.func132, Tryz.ntmps132
  go_wp2
  go_loopw [8] (fun i wr => ∃ k : Nat, k ≤ n ∧ i = .int .i64 k ∧ Hid (∀ j, j < k → outK fr to (F (j * 3)) = false) ∧ Hid (Below w.heap.size w wr)) (fun i _ => n - (intOf i).toNat)
  case atStart => exact ⟨0, Nat.zero_le _, rfl, fun j hj => absurd hj (Nat.not_lt_zero j), Below.refl _ _⟩
  case round =>
    obtain ⟨k, hk, rfl, HS, HB⟩ := hrel
    by_cases hlt : k < n
    case neg =>
      obtain rfl : n = k := by omega
      go_wp2
      go_ret
      exact ⟨-1, rfl, Or.inl ⟨rfl, HS.out⟩, HB.out⟩
    obtain ⟨g, o, rfl, _, hg, x0, x1, x2⟩ := (H.out.later HB.out).at3 hlt
    obtain ⟨n0, N0⟩ : ∃ x, F (k * 3) = x := ⟨_, rfl⟩
    rw [N0] at x0
    obtain ⟨n1, N1⟩ : ∃ x, F (k * 3 + 1) = x := ⟨_, rfl⟩
    rw [N1] at x1
    obtain ⟨n2, N2⟩ : ∃ x, F (k * 3 + 2) = x := ⟨_, rfl⟩
    rw [N2] at x2
    obtain ⟨r, hr⟩ : ∃ r, outK fr to n0 = r := ⟨_, rfl⟩
    have HR : Hid (outK fr to n0 = r) := hr
    have HN : Hid (F (k * 3) = n0) := N0
    clear N0 N1 N2 hr
    cases r with
    | true =>
      go_wp2_with fail
      refine (strayCell_is br bq fr to n0 n1 n2 _ (HW.out.later HB.out)).mono ?_
      rw [HR.out]
      rintro e w1 ⟨rfl, q1⟩
      have HB1 : Hid (Below w.heap.size w w1) := HB.out.trans (q1.mono HB.out.size)
      clear q1
      go_wp2
      go_ret
      exact ⟨k, rfl, Or.inr ⟨by omega, k, hlt, by rw [HN.out]; exact HR.out⟩, HB1.out⟩
    | false =>
      have HS1 : Hid (∀ j, j < k + 1 → outK fr to (F (j * 3)) = false) := fun j hj => by
        by_cases q : j = k
        · subst q; rw [HN.out]; exact HR.out
        · exact HS.out j (by omega)
      go_wp2_with fail
      refine (strayCell_is br bq fr to n0 n1 n2 _ (HW.out.later HB.out)).mono ?_
      rw [HR.out]
      rintro e w1 ⟨rfl, q1⟩
      have HB1 : Hid (Below w.heap.size w w1) := HB.out.trans (q1.mono HB.out.size)
      clear q1
      go_wp2
      go_roundw
      case rel => exact ⟨k + 1, by omega, by go_num, HS1, HB1⟩
      case measure => simp [intOf]; omega
set_option maxHeartbeats 1000000 in
theorem containsStrayCell_is (br bq : Nat) (fr to : Int) (B n : Nat) (F : Nat → Int) (v : Value) (w : World) (h : Row w B 3 n F v) (hn : n ≤ 1048576) (hw : StrE br bq fr to w) :
    Calls Tryz.prog 87 #[v, .func (.func 88) #[] #[.pointer (some ⟨bq, 0, none⟩)]] w fun e w' => e = .returned (.bool (decide (keepN F 3 fr (to - 1) n ≠ n))) ∧ Below w.heap.size w w' := by
  obtain ⟨ao, cp, rfl⟩ := h.form
  have H : Hid (Row w B 3 n F (.slice ao n cp)) := h
  have HW : Hid (StrE br bq fr to w) := hw
  clear h hw
  go_enter Tryz.func87, Tryz.ntmps87
  go_wp2_with fail
  refine (indexStrayCell_is br bq fr to B n F _ _ H.out hn HW.out).mono ?_
  rintro e w1 ⟨r, rfl, hr, q1⟩
  have HB : Hid (Below w.heap.size w w1) := q1
  clear q1
  rcases hr with ⟨rfl, hr⟩ | ⟨h0, i, hi, hr⟩
  · have E : Hid (decide (keepN F 3 fr (to - 1) n ≠ n) = false) := decide_eq_false (fun q => q ((keep_all n).2 (fun i hi => by have := of_decide_eq_false (hr i hi); omega)))
    clear hr
    go_wp2
    go_ret
    exact ⟨by rw [E.out]; rfl, HB.out⟩
  · have E : Hid (decide (keepN F 3 fr (to - 1) n ≠ n) = true) := decide_eq_true (fun q => by have h1 := (keep_all n).1 q i hi; have h2 := of_decide_eq_true hr; omega)
    have d : decide ((0 : Int) ≤ r) = true := decide_eq_true h0
    clear hr h0
    go_wp2
    go_ret
    exact ⟨by rw [E.out]; rfl, HB.out⟩
set_option maxHeartbeats 1000000 in
theorem strayLock_is (br bq : Nat) (fr to : Int) (n0 n1 n2 n3 n4 : Int) (w : World) (h : StrE br bq fr to w) :
    Calls Tryz.prog 90 #[.agg #[.int .i64 n0, .int .i64 n1, .int .i64 n2, .int .i64 n3, .int .i64 n4], .pointer (some ⟨bq, 0, none⟩)] w fun e w' => e = .returned (.bool (outK fr to n0)) ∧ Below w.heap.size w w' := by
  have H : Hid (StrE br bq fr to (w.alloc (.cells #[.int .i64 n0, .int .i64 n1, .int .i64 n2, .int .i64 n3, .int .i64 n4] 96))) := h.later (below_alloc _ _)
  obtain ⟨h0, _⟩ := H.out
  have hq : bq < w.heap.size := World.block_lt_of_cell? w _ h.1
  clear h
  unfold strayV at h0
  obtain ⟨r, hr⟩ : ∃ r, outK fr to n0 = r := ⟨_, rfl⟩
  have HR : Hid (outK fr to n0 = r) := hr
  clear hr
  go_enter Tryz.func90, Tryz.ntmps90
  go_wp2_with fail
  refine (stray1_is br fr to n0 _ H.out.2.1 H.out.2.2).mono ?_
  rw [HR.out]
  rintro e w1 ⟨rfl, rfl⟩
  go_wp2
  go_ret
  exact ⟨by rw [HR.out]; rfl, below_alloc _ _⟩
set_option maxRecDepth 100000 in
set_option maxHeartbeats 4000000 in
theorem indexStrayLock_is (br bq : Nat) (fr to : Int) (B n : Nat) (F : Nat → Int) (v : Value) (w : World) (h : Row w B 5 n F v) (hn : n ≤ 1048576) (hw : StrE br bq fr to w) :
    Calls Tryz.prog 133 #[v, .func (.func 90) #[] #[.pointer (some ⟨bq, 0, none⟩)]] w fun e w' => ∃ r : Int, e = .returned (.int .i64 r) ∧ ((r = -1 ∧ ∀ i, i < n → outK fr to (F (i * 5)) = false) ∨ (0 ≤ r ∧ ∃ i, i < n ∧ outK fr to (F (i * 5)) = true)) ∧ Below w.heap.size w w' := by
  obtain ⟨ao, cp, rfl⟩ := h.form
  have H : Hid (Row w B 5 n F (.slice ao n cp)) := h
  have HW : Hid (StrE br bq fr to w) := hw
  clear h hw
  go_enter Tryz.func133, Tryz.ntmps133
  go_wp2
  go_loopw [8] (fun i wr => ∃ k : Nat, k ≤ n ∧ i = .int .i64 k ∧ Hid (∀ j, j < k → outK fr to (F (j * 5)) = false) ∧ Hid (Below w.heap.size w wr)) (fun i _ => n - (intOf i).toNat)
  case atStart => exact ⟨0, Nat.zero_le _, rfl, fun j hj => absurd hj (Nat.not_lt_zero j), Below.refl _ _⟩
  case round =>
    obtain ⟨k, hk, rfl, HS, HB⟩ := hrel
    by_cases hlt : k < n
    case neg =>
      obtain rfl : n = k := by omega
      go_wp2
      go_ret
      exact ⟨-1, rfl, Or.inl ⟨rfl, HS.out⟩, HB.out⟩
    obtain ⟨g, o, rfl, _, hg, x0, x1, x2, x3, x4⟩ := (H.out.later HB.out).at5 hlt
    obtain ⟨n0, N0⟩ : ∃ x, F (k * 5) = x := ⟨_, rfl⟩
    rw [N0] at x0
    obtain ⟨n1, N1⟩ : ∃ x, F (k * 5 + 1) = x := ⟨_, rfl⟩
    rw [N1] at x1
    obtain ⟨n2, N2⟩ : ∃ x, F (k * 5 + 2) = x := ⟨_, rfl⟩
    rw [N2] at x2
    obtain ⟨n3, N3⟩ : ∃ x, F (k * 5 + 3) = x := ⟨_, rfl⟩
    rw [N3] at x3
    obtain ⟨n4, N4⟩ : ∃ x, F (k * 5 + 4) = x := ⟨_, rfl⟩
    rw [N4] at x4
    obtain ⟨r, hr⟩ : ∃ r, outK fr to n0 = r := ⟨_, rfl⟩
    have HR : Hid (outK fr to n0 = r) := hr
    have HN : Hid (F (k * 5) = n0) := N0
    clear N0 N1 N2 N3 N4 hr
    cases r with
    | true =>
      go_wp2_with fail
      refine (strayLock_is br bq fr to n0 n1 n2 n3 n4 _ (HW.out.later HB.out)).mono ?_
      rw [HR.out]
      rintro e w1 ⟨rfl, q1⟩
      have HB1 : Hid (Below w.heap.size w w1) := HB.out.trans (q1.mono HB.out.size)
      clear q1
      go_wp2
      go_ret
      exact ⟨k, rfl, Or.inr ⟨by omega, k, hlt, by rw [HN.out]; exact HR.out⟩, HB1.out⟩
    | false =>
      have HS1 : Hid (∀ j, j < k + 1 → outK fr to (F (j * 5)) = false) := fun j hj => by
        by_cases q : j = k
        · subst q; rw [HN.out]; exact HR.out
        · exact HS.out j (by omega)
      go_wp2_with fail
      refine (strayLock_is br bq fr to n0 n1 n2 n3 n4 _ (HW.out.later HB.out)).mono ?_
      rw [HR.out]
      rintro e w1 ⟨rfl, q1⟩
      have HB1 : Hid (Below w.heap.size w w1) := HB.out.trans (q1.mono HB.out.size)
      clear q1
      go_wp2
      go_roundw
      case rel => exact ⟨k + 1, by omega, by go_num, HS1, HB1⟩
      case measure => simp [intOf]; omega
set_option maxHeartbeats 1000000 in
theorem containsStrayLock_is (br bq : Nat) (fr to : Int) (B n : Nat) (F : Nat → Int) (v : Value) (w : World) (h : Row w B 5 n F v) (hn : n ≤ 1048576) (hw : StrE br bq fr to w) :
    Calls Tryz.prog 89 #[v, .func (.func 90) #[] #[.pointer (some ⟨bq, 0, none⟩)]] w fun e w' => e = .returned (.bool (decide (keepN F 5 fr (to - 1) n ≠ n))) ∧ Below w.heap.size w w' := by
  obtain ⟨ao, cp, rfl⟩ := h.form
  have H : Hid (Row w B 5 n F (.slice ao n cp)) := h
  have HW : Hid (StrE br bq fr to w) := hw
  clear h hw
  go_enter Tryz.func89, Tryz.ntmps89
  go_wp2_with fail
  refine (indexStrayLock_is br bq fr to B n F _ _ H.out hn HW.out).mono ?_
  rintro e w1 ⟨r, rfl, hr, q1⟩
  have HB : Hid (Below w.heap.size w w1) := q1
  clear q1
  rcases hr with ⟨rfl, hr⟩ | ⟨h0, i, hi, hr⟩
  · have E : Hid (decide (keepN F 5 fr (to - 1) n ≠ n) = false) := decide_eq_false (fun q => q ((keep_all n).2 (fun i hi => by have := of_decide_eq_false (hr i hi); omega)))
    clear hr
    go_wp2
    go_ret
    exact ⟨by rw [E.out]; rfl, HB.out⟩
  · have E : Hid (decide (keepN F 5 fr (to - 1) n ≠ n) = true) := decide_eq_true (fun q => by have h1 := (keep_all n).1 q i hi; have h2 := of_decide_eq_true hr; omega)
    have d : decide ((0 : Int) ≤ r) = true := decide_eq_true h0
    clear hr h0
    go_wp2
    go_ret
    exact ⟨by rw [E.out]; rfl, HB.out⟩
set_option maxHeartbeats 1000000 in
theorem strayWrite_is (br bq : Nat) (fr to : Int) (n0 n1 n2 n3 : Int) (w : World) (h : StrE br bq fr to w) :
    Calls Tryz.prog 92 #[.agg #[.int .i64 n0, .int .i64 n1, .int .i64 n2, .int .i64 n3], .pointer (some ⟨bq, 0, none⟩)] w fun e w' => e = .returned (.bool (outK fr to n0)) ∧ Below w.heap.size w w' := by
  have H : Hid (StrE br bq fr to (w.alloc (.cells #[.int .i64 n0, .int .i64 n1, .int .i64 n2, .int .i64 n3] 45))) := h.later (below_alloc _ _)
  obtain ⟨h0, _⟩ := H.out
  have hq : bq < w.heap.size := World.block_lt_of_cell? w _ h.1
  clear h
  unfold strayV at h0
  obtain ⟨r, hr⟩ : ∃ r, outK fr to n0 = r := ⟨_, rfl⟩
  have HR : Hid (outK fr to n0 = r) := hr
  clear hr
  go_enter Tryz.func92, Tryz.ntmps92
  go_wp2_with fail
  refine (stray1_is br fr to n0 _ H.out.2.1 H.out.2.2).mono ?_
  rw [HR.out]
  rintro e w1 ⟨rfl, rfl⟩
  go_wp2
  go_ret
  exact ⟨by rw [HR.out]; rfl, below_alloc _ _⟩
set_option maxRecDepth 100000 in
set_option maxHeartbeats 4000000 in
theorem indexStrayWrite_is (br bq : Nat) (fr to : Int) (B n : Nat) (F : Nat → Int) (v : Value) (w : World) (h : Row w B 4 n F v) (hn : n ≤ 1048576) (hw : StrE br bq fr to w) :
    Calls Tryz.prog 134 #[v, .func (.func 92) #[] #[.pointer (some ⟨bq, 0, none⟩)]] w fun e w' => ∃ r : Int, e = .returned (.int .i64 r) ∧ ((r = -1 ∧ ∀ i, i < n → outK fr to (F (i * 4)) = false) ∨ (0 ≤ r ∧ ∃ i, i < n ∧ outK fr to (F (i * 4)) = true)) ∧ Below w.heap.size w w' := by
  obtain ⟨ao, cp, rfl⟩ := h.form
  have H : Hid (Row w B 4 n F (.slice ao n cp)) := h
  have HW : Hid (StrE br bq fr to w) := hw
  clear h hw
  go_enter Tryz.func134, Tryz.ntmps134
  go_wp2
  go_loopw [8] (fun i wr => ∃ k : Nat, k ≤ n ∧ i = .int .i64 k ∧ Hid (∀ j, j < k → outK fr to (F (j * 4)) = false) ∧ Hid (Below w.heap.size w wr)) (fun i _ => n - (intOf i).toNat)
  case atStart => exact ⟨0, Nat.zero_le _, rfl, fun j hj => absurd hj (Nat.not_lt_zero j), Below.refl _ _⟩
  case round =>
    obtain ⟨k, hk, rfl, HS, HB⟩ := hrel
    by_cases hlt : k < n
    case neg =>
      obtain rfl : n = k := by omega
      go_wp2
      go_ret
      exact ⟨-1, rfl, Or.inl ⟨rfl, HS.out⟩, HB.out⟩
    obtain ⟨g, o, rfl, _, hg, x0, x1, x2, x3⟩ := (H.out.later HB.out).at4 hlt
    obtain ⟨n0, N0⟩ : ∃ x, F (k * 4) = x := ⟨_, rfl⟩
    rw [N0] at x0
    obtain ⟨n1, N1⟩ : ∃ x, F (k * 4 + 1) = x := ⟨_, rfl⟩
    rw [N1] at x1
    obtain ⟨n2, N2⟩ : ∃ x, F (k * 4 + 2) = x := ⟨_, rfl⟩
    rw [N2] at x2
    obtain ⟨n3, N3⟩ : ∃ x, F (k * 4 + 3) = x := ⟨_, rfl⟩
    rw [N3] at x3
    obtain ⟨r, hr⟩ : ∃ r, outK fr to n0 = r := ⟨_, rfl⟩
    have HR : Hid (outK fr to n0 = r) := hr
    have HN : Hid (F (k * 4) = n0) := N0
    clear N0 N1 N2 N3 hr
    cases r with
    | true =>
      go_wp2_with fail
      refine (strayWrite_is br bq fr to n0 n1 n2 n3 _ (HW.out.later HB.out)).mono ?_
      rw [HR.out]
      rintro e w1 ⟨rfl, q1⟩
      have HB1 : Hid (Below w.heap.size w w1) := HB.out.trans (q1.mono HB.out.size)
      clear q1
      go_wp2
      go_ret
      exact ⟨k, rfl, Or.inr ⟨by omega, k, hlt, by rw [HN.out]; exact HR.out⟩, HB1.out⟩
    | false =>
      have HS1 : Hid (∀ j, j < k + 1 → outK fr to (F (j * 4)) = false) := fun j hj => by
        by_cases q : j = k
        · subst q; rw [HN.out]; exact HR.out
        · exact HS.out j (by omega)
      go_wp2_with fail
      refine (strayWrite_is br bq fr to n0 n1 n2 n3 _ (HW.out.later HB.out)).mono ?_
      rw [HR.out]
      rintro e w1 ⟨rfl, q1⟩
      have HB1 : Hid (Below w.heap.size w w1) := HB.out.trans (q1.mono HB.out.size)
      clear q1
      go_wp2
      go_roundw
      case rel => exact ⟨k + 1, by omega, by go_num, HS1, HB1⟩
      case measure => simp [intOf]; omega
set_option maxHeartbeats 1000000 in
theorem containsStrayWrite_is (br bq : Nat) (fr to : Int) (B n : Nat) (F : Nat → Int) (v : Value) (w : World) (h : Row w B 4 n F v) (hn : n ≤ 1048576) (hw : StrE br bq fr to w) :
    Calls Tryz.prog 91 #[v, .func (.func 92) #[] #[.pointer (some ⟨bq, 0, none⟩)]] w fun e w' => e = .returned (.bool (decide (keepN F 4 fr (to - 1) n ≠ n))) ∧ Below w.heap.size w w' := by
  obtain ⟨ao, cp, rfl⟩ := h.form
  have H : Hid (Row w B 4 n F (.slice ao n cp)) := h
  have HW : Hid (StrE br bq fr to w) := hw
  clear h hw
  go_enter Tryz.func91, Tryz.ntmps91
  go_wp2_with fail
  refine (indexStrayWrite_is br bq fr to B n F _ _ H.out hn HW.out).mono ?_
  rintro e w1 ⟨r, rfl, hr, q1⟩
  have HB : Hid (Below w.heap.size w w1) := q1
  clear q1
  rcases hr with ⟨rfl, hr⟩ | ⟨h0, i, hi, hr⟩
  · have E : Hid (decide (keepN F 4 fr (to - 1) n ≠ n) = false) := decide_eq_false (fun q => q ((keep_all n).2 (fun i hi => by have := of_decide_eq_false (hr i hi); omega)))
    clear hr
    go_wp2
    go_ret
    exact ⟨by rw [E.out]; rfl, HB.out⟩
  · have E : Hid (decide (keepN F 4 fr (to - 1) n ≠ n) = true) := decide_eq_true (fun q => by have h1 := (keep_all n).1 q i hi; have h2 := of_decide_eq_true hr; omega)
    have d : decide ((0 : Int) ≤ r) = true := decide_eq_true h0
    clear hr h0
    go_wp2
    go_ret
    exact ⟨by rw [E.out]; rfl, HB.out⟩
set_option maxRecDepth 100000 in
set_option maxHeartbeats 4000000 in
theorem hasStray_any (S : Sto) (v0 v1 v2 : Value) (fr to ep : Int) (B : Nat) (w : World) (h : St w B S v0 v1 v2) (hn : S.nc ≤ 200 ∧ S.nl ≤ 200 ∧ S.nw ≤ 200) :
    Calls Tryz.prog 41 #[.agg #[v0, v1, v2], .agg #[.int .i64 fr, .int .i64 to, .int .i64 ep]] w fun e w' => e = .returned (.bool (decide (strayS S fr to))) ∧ Below w.heap.size w w' := by
  obtain ⟨a0, c0, a1, c1, a2, c2, rfl, rfl, rfl⟩ := h.form
  have H : Hid (St w B S (.slice a0 S.nc c0) (.slice a1 S.nl c1) (.slice a2 S.nw c2)) := h
  have HT : Hid (S.nc ≤ 1048576 ∧ S.nl ≤ 1048576 ∧ S.nw ≤ 1048576) := ⟨by omega, by omega, by omega⟩
  obtain ⟨x0, hx0⟩ : ∃ x, decide (keepN S.c 3 fr (to - 1) S.nc ≠ S.nc) = x := ⟨_, rfl⟩
  obtain ⟨x1, hx1⟩ : ∃ x, decide (keepN S.l 5 fr (to - 1) S.nl ≠ S.nl) = x := ⟨_, rfl⟩
  obtain ⟨x2, hx2⟩ : ∃ x, decide (keepN S.k 4 fr (to - 1) S.nw ≠ S.nw) = x := ⟨_, rfl⟩
  have HX : Hid (decide (keepN S.c 3 fr (to - 1) S.nc ≠ S.nc) = x0 ∧ decide (keepN S.l 5 fr (to - 1) S.nl ≠ S.nl) = x1 ∧ decide (keepN S.k 4 fr (to - 1) S.nw ≠ S.nw) = x2) := ⟨hx0, hx1, hx2⟩
  have HS : Hid (decide (strayS S fr to) = (x0 || (x1 || x2))) := by
    unfold Hid
    rw [← hx0, ← hx1, ← hx2, ← Bool.decide_or, ← Bool.decide_or]
    exact decide_eq_decide.2 Iff.rfl
  clear h hn hx0 hx1 hx2
  have HE : Hid (StrE (w.heap.size + 1) (w.heap.size + 2) fr to (((w.alloc (.cells #[.slice a0 S.nc c0, .slice a1 S.nl c1, .slice a2 S.nw c2] 37)).alloc (.cells #[.int .i64 fr, .int .i64 to, .int .i64 ep] 89)).alloc (.cells #[strayV (w.heap.size + 1)] 61))) := by
    have h1 := ((Blk3.new (w.alloc (.cells #[.slice a0 S.nc c0, .slice a1 S.nl c1, .slice a2 S.nw c2] 37)) (.int .i64 fr) (.int .i64 to) (.int .i64 ep) 89).alloc (.cells #[strayV (w.heap.size + 1)] 61)).1
    have h3 := World.cell?_alloc_mark ((w.alloc (.cells #[.slice a0 S.nc c0, .slice a1 S.nl c1, .slice a2 S.nw c2] 37)).alloc (.cells #[.int .i64 fr, .int .i64 to, .int .i64 ep] 89)) #[strayV (w.heap.size + 1)] 61 (0, 0) 0
    simp only [World.size_alloc] at h1 h3
    exact ⟨h3, h1.1, h1.2.1⟩
  have HK : Hid (Blk3 (((w.alloc (.cells #[.slice a0 S.nc c0, .slice a1 S.nl c1, .slice a2 S.nw c2] 37)).alloc (.cells #[.int .i64 fr, .int .i64 to, .int .i64 ep] 89)).alloc (.cells #[strayV (w.heap.size + 1)] 61)) w.heap.size (.slice a0 S.nc c0) (.slice a1 S.nl c1) (.slice a2 S.nw c2) ∧ Below w.heap.size w (((w.alloc (.cells #[.slice a0 S.nc c0, .slice a1 S.nl c1, .slice a2 S.nw c2] 37)).alloc (.cells #[.int .i64 fr, .int .i64 to, .int .i64 ep] 89)).alloc (.cells #[strayV (w.heap.size + 1)] 61))) := ⟨((Blk3.new w _ _ _ _).alloc _).alloc _, ((below_alloc _ _).alloc (by simp) _).alloc (by simp; omega) _⟩
  have hst := fun (W : World) (a : Addr) => run_store Tryz.prog W a (strayV (w.heap.size + 1)) .plain rfl
  have hex : strayV (w.heap.size + 1) = .func (.func 86) #[] #[.pointer (some ⟨w.heap.size + 1, 0, none⟩)] := rfl
  rw [hex] at HE HK hst
  clear hex
  go_enter Tryz.func41, Tryz.ntmps41
  go_wp2_with fail
  obtain ⟨⟨p0, p1, p2⟩, _⟩ := HK.out.1
  refine (containsStrayCell_is (w.heap.size + 1) (w.heap.size + 2) fr to B S.nc S.c _ _ (H.out.1.later HK.out.2) HT.out.1 HE.out).mono ?_
  rw [HX.out.1]
  rintro e w1 ⟨rfl, q1⟩
  have HE1 : Hid (StrE (w.heap.size + 1) (w.heap.size + 2) fr to w1) := HE.out.later q1
  have HK1 : Hid (Blk3 w1 w.heap.size (.slice a0 S.nc c0) (.slice a1 S.nl c1) (.slice a2 S.nw c2) ∧ Below w.heap.size w w1) := ⟨HK.out.1.later q1, HK.out.2.trans (q1.mono HK.out.2.size)⟩
  clear q1 p0 p1 p2 HE HK
  obtain ⟨⟨p0, p1, p2⟩, _⟩ := HK1.out.1
  cases x0 with
  | true =>
    have E : Hid (decide (strayS S fr to) = true) := HS.out
    clear HS HX
    go_wp2
    go_ret
    exact ⟨by rw [E.out]; rfl, HK1.out.2⟩
  | false =>
  go_wp2_with fail
  refine (containsStrayLock_is (w.heap.size + 1) (w.heap.size + 2) fr to B S.nl S.l _ _ (H.out.2.1.later HK1.out.2) HT.out.2.1 HE1.out).mono ?_
  rw [HX.out.2.1]
  rintro e w2 ⟨rfl, q1⟩
  have HE2 : Hid (StrE (w.heap.size + 1) (w.heap.size + 2) fr to w2) := HE1.out.later q1
  have HK2 : Hid (Blk3 w2 w.heap.size (.slice a0 S.nc c0) (.slice a1 S.nl c1) (.slice a2 S.nw c2) ∧ Below w.heap.size w w2) := ⟨HK1.out.1.later q1, HK1.out.2.trans (q1.mono HK1.out.2.size)⟩
  clear q1 p0 p1 p2 HE1 HK1
  obtain ⟨⟨p0, p1, p2⟩, _⟩ := HK2.out.1
  cases x1 with
  | true =>
    have E : Hid (decide (strayS S fr to) = true) := HS.out
    clear HS HX
    go_wp2
    go_ret
    exact ⟨by rw [E.out]; rfl, HK2.out.2⟩
  | false =>
  go_wp2_with fail
  refine (containsStrayWrite_is (w.heap.size + 1) (w.heap.size + 2) fr to B S.nw S.k _ _ (H.out.2.2.later HK2.out.2) HT.out.2.2 HE2.out).mono ?_
  rw [HX.out.2.2]
  rintro e w3 ⟨rfl, q1⟩
  have HB : Hid (Below w.heap.size w w3) := HK2.out.2.trans (q1.mono HK2.out.2.size)
  have E : Hid (decide (strayS S fr to) = x2) := HS.out
  clear q1 HS HX HE2 HK2 p0 p1 p2
  go_wp2
  go_ret
  exact ⟨by rw [E.out]; rfl, HB.out⟩
end Go.Proofs.YtpfmbfmlpoibeaaGreat
