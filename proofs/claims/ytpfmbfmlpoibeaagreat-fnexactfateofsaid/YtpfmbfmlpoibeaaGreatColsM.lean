/-
  Own text. The small helpers of the program's StoreFault: whether a number is in its bounds, how two cells, locks or writes stand to each other.
-/
import Derived.Test.YtpfmbfmlpoibeaaGreatColsP
import Derived.Deep.RegionHeld
namespace Go.Proofs.YtpfmbfmlpoibeaaGreat
open Go.RowKit

theorem isTime_is (v : Int) (r : Bool) (hr : decide (1 ≤ v ∧ v ≤ 100000) = r) (w : World) :
    Calls Tryz.prog 125 #[.int .i64 v] w fun e w' => e = .returned (.bool r) ∧ w' = w := by
  by_cases h1 : 1 ≤ v
  · by_cases h2 : v ≤ 100000
    · have d : decide (v ≤ 100000) = true := decide_eq_true h2
      rw [decide_eq_true (show 1 ≤ v ∧ v ≤ 100000 from ⟨h1, h2⟩)] at hr
      subst hr
      go_enter Tryz.func125, Tryz.ntmps125
      go_wp2
      go_ret
      exact ⟨rfl, rfl⟩
    · have d : decide (v ≤ 100000) = false := decide_eq_false h2
      rw [decide_eq_false (show ¬ (1 ≤ v ∧ v ≤ 100000) from fun h => h2 h.2)] at hr
      subst hr
      go_enter Tryz.func125, Tryz.ntmps125
      go_wp2
      go_ret
      exact ⟨rfl, rfl⟩
  · have d : decide (1 ≤ v) = false := decide_eq_false h1
    rw [decide_eq_false (show ¬ (1 ≤ v ∧ v ≤ 100000) from fun h => h1 h.1)] at hr
    subst hr
    go_enter Tryz.func125, Tryz.ntmps125
    go_wp2
    go_ret
    exact ⟨rfl, rfl⟩
theorem isValue_is (v : Int) (r : Bool) (hr : decide (0 ≤ v ∧ v ≤ 9999) = r) (w : World) :
    Calls Tryz.prog 126 #[.int .i64 v] w fun e w' => e = .returned (.bool r) ∧ w' = w := by
  by_cases h1 : 0 ≤ v
  · by_cases h2 : v ≤ 9999
    · have d : decide (v ≤ 9999) = true := decide_eq_true h2
      rw [decide_eq_true (show 0 ≤ v ∧ v ≤ 9999 from ⟨h1, h2⟩)] at hr
      subst hr
      go_enter Tryz.func126, Tryz.ntmps126
      go_wp2
      go_ret
      exact ⟨rfl, rfl⟩
    · have d : decide (v ≤ 9999) = false := decide_eq_false h2
      rw [decide_eq_false (show ¬ (0 ≤ v ∧ v ≤ 9999) from fun h => h2 h.2)] at hr
      subst hr
      go_enter Tryz.func126, Tryz.ntmps126
      go_wp2
      go_ret
      exact ⟨rfl, rfl⟩
  · have d : decide (0 ≤ v) = false := decide_eq_false h1
    rw [decide_eq_false (show ¬ (0 ≤ v ∧ v ≤ 9999) from fun h => h1 h.1)] at hr
    subst hr
    go_enter Tryz.func126, Tryz.ntmps126
    go_wp2
    go_ret
    exact ⟨rfl, rfl⟩
theorem isUntil_is (v : Int) (r : Bool) (hr : decide (0 ≤ v ∧ v ≤ 100000) = r) (w : World) :
    Calls Tryz.prog 60 #[.int .i64 v] w fun e w' => e = .returned (.bool r) ∧ w' = w := by
  by_cases h1 : 0 ≤ v
  · by_cases h2 : v ≤ 100000
    · have d : decide (v ≤ 100000) = true := decide_eq_true h2
      rw [decide_eq_true (show 0 ≤ v ∧ v ≤ 100000 from ⟨h1, h2⟩)] at hr
      subst hr
      go_enter Tryz.func60, Tryz.ntmps60
      go_wp2
      go_ret
      exact ⟨rfl, rfl⟩
    · have d : decide (v ≤ 100000) = false := decide_eq_false h2
      rw [decide_eq_false (show ¬ (0 ≤ v ∧ v ≤ 100000) from fun h => h2 h.2)] at hr
      subst hr
      go_enter Tryz.func60, Tryz.ntmps60
      go_wp2
      go_ret
      exact ⟨rfl, rfl⟩
  · have d : decide (0 ≤ v) = false := decide_eq_false h1
    rw [decide_eq_false (show ¬ (0 ≤ v ∧ v ≤ 100000) from fun h => h1 h.1)] at hr
    subst hr
    go_enter Tryz.func60, Tryz.ntmps60
    go_wp2
    go_ret
    exact ⟨rfl, rfl⟩
theorem isLockKind_is (v : Int) (r : Bool) (hr : decide (1 ≤ v ∧ v ≤ 3) = r) (w : World) :
    Calls Tryz.prog 127 #[.int .i64 v] w fun e w' => e = .returned (.bool r) ∧ w' = w := by
  by_cases h1 : 1 ≤ v
  · by_cases h2 : v ≤ 3
    · have d : decide (v ≤ 3) = true := decide_eq_true h2
      rw [decide_eq_true (show 1 ≤ v ∧ v ≤ 3 from ⟨h1, h2⟩)] at hr
      subst hr
      go_enter Tryz.func127, Tryz.ntmps127
      go_wp2
      go_ret
      exact ⟨rfl, rfl⟩
    · have d : decide (v ≤ 3) = false := decide_eq_false h2
      rw [decide_eq_false (show ¬ (1 ≤ v ∧ v ≤ 3) from fun h => h2 h.2)] at hr
      subst hr
      go_enter Tryz.func127, Tryz.ntmps127
      go_wp2
      go_ret
      exact ⟨rfl, rfl⟩
  · have d : decide (1 ≤ v) = false := decide_eq_false h1
    rw [decide_eq_false (show ¬ (1 ≤ v ∧ v ≤ 3) from fun h => h1 h.1)] at hr
    subst hr
    go_enter Tryz.func127, Tryz.ntmps127
    go_wp2
    go_ret
    exact ⟨rfl, rfl⟩

/-- How two numbers stand to each other: -1, 0 or 1. -/
def cmpOf (a b : Int) : Int := if a < b then -1 else if b < a then 1 else 0
theorem compare_is (a b r : Int) (hr : cmpOf a b = r) (w : World) :
    Calls Tryz.prog 157 #[.int .i64 a, .int .i64 b] w fun e w' => e = .returned (.int .i64 r) ∧ w' = w := by
  unfold cmpOf at hr
  by_cases h1 : a < b
  · rw [if_pos h1] at hr
    subst hr
    go_enter Tryz.func157, Tryz.ntmps157
    go_wp2
    go_ret
    exact ⟨rfl, rfl⟩
  · rw [if_neg h1] at hr
    have d1 : decide (a < b) = false := decide_eq_false h1
    by_cases h2 : b < a
    · rw [if_pos h2] at hr
      subst hr
      clear h1
      go_enter Tryz.func157, Tryz.ntmps157
      go_wp2
      go_ret
      exact ⟨rfl, rfl⟩
    · rw [if_neg h2] at hr
      subst hr
      have d2 : decide (b < a) = false := decide_eq_false h2
      clear h1 h2
      go_enter Tryz.func157, Tryz.ntmps157
      go_wp2
      go_ret
      exact ⟨rfl, rfl⟩
/-- The first of two numbers that is not 0. -/
def orOf (a b : Int) : Int := if a = 0 then b else a
set_option maxHeartbeats 1000000 in
theorem or_is (a b r : Int) (g : Nat) (hr : orOf a b = r) (w : World) (h0 : w.cell? ⟨g, 0, none⟩ = some (.int .i64 a)) (h1 : w.cell? ⟨g, 1, none⟩ = some (.int .i64 b)) :
    Calls Tryz.prog 156 #[.slice (some ⟨g, 0, none⟩) 2 2] w fun e w' => e = .returned (.int .i64 r) ∧ w' = w := by
  unfold orOf at hr
  by_cases ha : a = 0
  · rw [if_pos ha] at hr
    subst hr ha
    go_enter Tryz.func156, Tryz.ntmps156
    go_wp2
    go_loop [8] (fun i => i = .int .i64 0 ∨ i = .int .i64 1 ∨ (i = .int .i64 2 ∧ b = 0)) (fun i => 2 - (intOf i).toNat)
    case atStart => exact Or.inl rfl
    case round =>
      rcases hrel with rfl | rfl | ⟨rfl, rfl⟩
      · go_wp2
        go_round
        case rel => exact Or.inr (Or.inl rfl)
        case measure => simp [intOf]
      · by_cases hb : b = 0
        · subst hb
          go_wp2
          go_round
          case rel => exact Or.inr (Or.inr ⟨rfl, by simp⟩)
          case measure => simp [intOf]
        · have d : (b == 0) = false := beq_eq_false_iff_ne.2 hb
          clear hb
          go_wp2
          go_ret
          exact ⟨rfl, rfl⟩
      · go_wp2
        go_ret
        exact ⟨rfl, rfl⟩
  · rw [if_neg ha] at hr
    subst hr
    have d : (a == 0) = false := beq_eq_false_iff_ne.2 ha
    clear ha
    go_enter Tryz.func156, Tryz.ntmps156
    go_wp2
    go_loop [8] (fun i => i = .int .i64 0) (fun i => 2 - (intOf i).toNat)
    case atStart => rfl
    case round =>
      subst hrel
      go_wp2
      go_ret
      exact ⟨rfl, rfl⟩

/-- Four cells of two boxes, and that nothing old has turned. -/
def Four (w : World) (a0 a1 b0 b1 : Int) (x : World) : Prop := x.cell? ⟨w.heap.size, 0, none⟩ = some (.int .i64 a0) ∧ x.cell? ⟨w.heap.size, 1, none⟩ = some (.int .i64 a1) ∧ x.cell? ⟨w.heap.size + 1, 0, none⟩ = some (.int .i64 b0) ∧ x.cell? ⟨w.heap.size + 1, 1, none⟩ = some (.int .i64 b1) ∧ Below w.heap.size w x
theorem Four.later {w x x' : World} {a0 a1 b0 b1 : Int} (h : Four w a0 a1 b0 b1 x) (hb : Below x.heap.size x x') : Four w a0 a1 b0 b1 x' := by
  obtain ⟨h0, h1, h2, h3, h4⟩ := h
  exact ⟨(hb.cell (World.block_lt_of_cell? x _ h0)).trans h0, (hb.cell (World.block_lt_of_cell? x _ h1)).trans h1, (hb.cell (World.block_lt_of_cell? x _ h2)).trans h2, (hb.cell (World.block_lt_of_cell? x _ h3)).trans h3, h4.trans (hb.mono h4.size)⟩

theorem below_alloc_drew (X : World) (o : Obj) : Below X.drew.heap.size X.drew (X.alloc o).drew := ⟨rfl, rfl, rfl, (below_alloc X o).size, (below_alloc X o).block⟩
theorem two_cells (X : World) (n : Nat) (hn : X.heap.size = n) (a b : Value) (t : TypeId) : (X.alloc (.cells #[a, b] t)).drew.cell? ⟨n, 0, none⟩ = some a ∧ (X.alloc (.cells #[a, b] t)).drew.cell? ⟨n, 1, none⟩ = some b := by
  subst hn
  exact ⟨World.cell?_alloc_mark X _ _ _ 0, World.cell?_alloc_mark X _ _ _ 1⟩
set_option maxRecDepth 100000 in
set_option maxHeartbeats 1000000 in
theorem compareCells_is (x0 x1 x2 y0 y1 y2 : Int) (r : Int) (hr : orOf (cmpOf x0 y0) (cmpOf x1 y1) = r) (w : World) :
    Calls Tryz.prog 110 #[.agg #[.int .i64 x0, .int .i64 x1, .int .i64 x2], .agg #[.int .i64 y0, .int .i64 y1, .int .i64 y2]] w fun e w' => e = .returned (.int .i64 r) ∧ Below w.heap.size w w' := by
  obtain ⟨c0, C0⟩ : ∃ c, Hid (cmpOf x0 y0 = c) := ⟨_, rfl⟩
  obtain ⟨c1, C1⟩ : ∃ c, Hid (cmpOf x1 y1 = c) := ⟨_, rfl⟩
  have HR : Hid (orOf c0 c1 = r) := by unfold Hid; rw [← C0.out, ← C1.out]; exact hr
  clear hr
  go_enter Tryz.func110, Tryz.ntmps110
  go_wp2_with fail
  have h0 : Four w x0 x1 y0 y1 (((w.alloc (.cells #[.int .i64 x0, .int .i64 x1, .int .i64 x2] 140)).alloc (.cells #[.int .i64 y0, .int .i64 y1, .int .i64 y2] 140)).drew) := ⟨by simp, by simp, by simp, by simp, ((below_alloc _ _).alloc (by simp) _).drew⟩
  refine wp_region_held_drew (S := Four w x0 x1 y0 y1) (by kernel_rfl) h0 (fun hS => ?_)
  clear h0
  refine wpAnyH_take (i := 0) (v := ?_) rfl (by kernel_rfl) (by kernel_rfl) (by kernel_rfl) (fun _ _ _ h => h) (Or.inl ⟨by kernel_rfl, ?_⟩) hS ?_
  rotate_left
  · intro wx hx
    obtain ⟨hx0, hx1, hx2, hx3, _⟩ := hx
    go_simp
    try with_reducible rfl
  refine wpAnyH_take (i := 1) (v := ?_) rfl (by kernel_rfl) (by kernel_rfl) (by kernel_rfl) (fun _ _ _ h => h) (Or.inl ⟨by kernel_rfl, ?_⟩) hS ?_
  rotate_left
  · intro wx hx
    obtain ⟨hx0, hx1, hx2, hx3, _⟩ := hx
    go_simp
    try with_reducible rfl
  refine wpAnyH_take (i := 2) (v := ?_) rfl (by kernel_rfl) (by kernel_rfl) (by kernel_rfl) (fun _ _ _ h => h) (Or.inl ⟨by kernel_rfl, ?_⟩) hS ?_
  rotate_left
  · intro wx hx
    obtain ⟨hx0, hx1, hx2, hx3, _⟩ := hx
    go_simp
    try with_reducible rfl
  refine wpAnyH_take (i := 3) (v := ?_) rfl (by kernel_rfl) (by kernel_rfl) (by kernel_rfl) (fun _ _ _ h => h) (Or.inl ⟨by kernel_rfl, ?_⟩) hS ?_
  rotate_left
  · intro wx hx
    obtain ⟨hx0, hx1, hx2, hx3, _⟩ := hx
    go_simp
    try with_reducible rfl
  refine wpAnyH_take (i := 5) (v := ?_) rfl (by kernel_rfl) (by kernel_rfl) (by kernel_rfl) (fun _ _ _ h => h) (Or.inl ⟨by kernel_rfl, ?_⟩) hS ?_
  rotate_left
  · intro wx hx
    obtain ⟨hx0, hx1, hx2, hx3, _⟩ := hx
    go_simp
    try with_reducible rfl
  refine wpAnyH_take (i := 6) (v := ?_) rfl (by kernel_rfl) (by kernel_rfl) (by kernel_rfl) (fun _ _ _ h => h) (Or.inl ⟨by kernel_rfl, ?_⟩) hS ?_
  rotate_left
  · intro wx hx
    obtain ⟨hx0, hx1, hx2, hx3, _⟩ := hx
    go_simp
    try with_reducible rfl
  refine wpAnyH_take (i := 7) (v := ?_) rfl (by kernel_rfl) (by kernel_rfl) (by kernel_rfl) (fun _ _ _ h => h) (Or.inl ⟨by kernel_rfl, ?_⟩) hS ?_
  rotate_left
  · intro wx hx
    obtain ⟨hx0, hx1, hx2, hx3, _⟩ := hx
    go_simp
    try with_reducible rfl
  refine wpAnyH_take (i := 8) (v := ?_) rfl (by kernel_rfl) (by kernel_rfl) (by kernel_rfl) (fun _ _ _ h => h) (Or.inl ⟨by kernel_rfl, ?_⟩) hS ?_
  rotate_left
  · intro wx hx
    obtain ⟨hx0, hx1, hx2, hx3, _⟩ := hx
    go_simp
    try with_reducible rfl
  refine wpAnyH_ready (rs := [4]) (by kernel_rfl) (by simp) ?_
  refine AllReadyH.cons rfl (fun K hK => ?_) AllReadyH.nil
  go_simp
  go_wp2_with fail
  refine (compare_is _ _ c0 C0.out _).mono ?_
  rintro e w1 ⟨rfl, rfl⟩
  have hS' := hS
  go_wp2_with fail
  refine hK.out _ _ hS' (fun hS => ?_)
  clear hK K hS'
  refine wpAnyH_ready (rs := [9]) (by kernel_rfl) (by simp) ?_
  refine AllReadyH.cons rfl (fun K hK => ?_) AllReadyH.nil
  go_simp
  go_wp2_with fail
  refine (compare_is _ _ c1 C1.out _).mono ?_
  rintro e w1 ⟨rfl, rfl⟩
  have hS' := hS
  go_wp2_with fail
  refine hK.out _ _ hS' (fun hS => ?_)
  clear hK K hS'
  refine wpAnyH_ready (rs := [10]) (by kernel_rfl) (by simp) ?_
  refine AllReadyH.cons rfl (fun K hK => ?_) AllReadyH.nil
  go_simp
  refine hK.out _ _ (hS.later (below_alloc_drew _ _)) (fun hS => ?_)
  clear hK K
  refine wpAnyH_ready (rs := [11]) (by kernel_rfl) (by simp) ?_
  refine AllReadyH.cons rfl (fun K hK => ?_) AllReadyH.nil
  go_simp
  go_wp2_with fail
  refine (or_is c0 c1 r _ HR.out _ (two_cells _ _ (by simp) _ _ _).1 (two_cells _ _ (by simp) _ _ _).2).mono ?_
  rintro e w1 ⟨rfl, rfl⟩
  have hS' := hS
  go_wp2_with fail
  refine hK.out _ _ hS' (fun hS => ?_)
  clear hK K hS'
  refine wpAnyH_take (i := 12) (v := ?_) rfl (by kernel_rfl) (by kernel_rfl) (by kernel_rfl) (fun _ _ _ h => h) (Or.inl ⟨by kernel_rfl, ?_⟩) hS ?_
  rotate_left
  · intro wx hx
    obtain ⟨hx0, hx1, hx2, hx3, _⟩ := hx
    go_simp
    try with_reducible rfl
  refine wpAnyH_done (by kernel_rfl) ?_ _
  go_simp
  go_wp2
  go_ret
  exact ⟨rfl, hS.2.2.2.2⟩
set_option maxRecDepth 100000 in
set_option maxHeartbeats 1000000 in
theorem compareWrites_is (x0 x1 x2 x3 y0 y1 y2 y3 : Int) (r : Int) (hr : orOf (cmpOf x0 y0) (cmpOf x1 y1) = r) (w : World) :
    Calls Tryz.prog 129 #[.agg #[.int .i64 x0, .int .i64 x1, .int .i64 x2, .int .i64 x3], .agg #[.int .i64 y0, .int .i64 y1, .int .i64 y2, .int .i64 y3]] w fun e w' => e = .returned (.int .i64 r) ∧ Below w.heap.size w w' := by
  obtain ⟨c0, C0⟩ : ∃ c, Hid (cmpOf x0 y0 = c) := ⟨_, rfl⟩
  obtain ⟨c1, C1⟩ : ∃ c, Hid (cmpOf x1 y1 = c) := ⟨_, rfl⟩
  have HR : Hid (orOf c0 c1 = r) := by unfold Hid; rw [← C0.out, ← C1.out]; exact hr
  clear hr
  go_enter Tryz.func129, Tryz.ntmps129
  go_wp2_with fail
  have h0 : Four w x0 x1 y0 y1 (((w.alloc (.cells #[.int .i64 x0, .int .i64 x1, .int .i64 x2, .int .i64 x3] 45)).alloc (.cells #[.int .i64 y0, .int .i64 y1, .int .i64 y2, .int .i64 y3] 45)).drew) := ⟨by simp, by simp, by simp, by simp, ((below_alloc _ _).alloc (by simp) _).drew⟩
  refine wp_region_held_drew (S := Four w x0 x1 y0 y1) (by kernel_rfl) h0 (fun hS => ?_)
  clear h0
  refine wpAnyH_take (i := 0) (v := ?_) rfl (by kernel_rfl) (by kernel_rfl) (by kernel_rfl) (fun _ _ _ h => h) (Or.inl ⟨by kernel_rfl, ?_⟩) hS ?_
  rotate_left
  · intro wx hx
    obtain ⟨hx0, hx1, hx2, hx3, _⟩ := hx
    go_simp
    try with_reducible rfl
  refine wpAnyH_take (i := 1) (v := ?_) rfl (by kernel_rfl) (by kernel_rfl) (by kernel_rfl) (fun _ _ _ h => h) (Or.inl ⟨by kernel_rfl, ?_⟩) hS ?_
  rotate_left
  · intro wx hx
    obtain ⟨hx0, hx1, hx2, hx3, _⟩ := hx
    go_simp
    try with_reducible rfl
  refine wpAnyH_take (i := 2) (v := ?_) rfl (by kernel_rfl) (by kernel_rfl) (by kernel_rfl) (fun _ _ _ h => h) (Or.inl ⟨by kernel_rfl, ?_⟩) hS ?_
  rotate_left
  · intro wx hx
    obtain ⟨hx0, hx1, hx2, hx3, _⟩ := hx
    go_simp
    try with_reducible rfl
  refine wpAnyH_take (i := 3) (v := ?_) rfl (by kernel_rfl) (by kernel_rfl) (by kernel_rfl) (fun _ _ _ h => h) (Or.inl ⟨by kernel_rfl, ?_⟩) hS ?_
  rotate_left
  · intro wx hx
    obtain ⟨hx0, hx1, hx2, hx3, _⟩ := hx
    go_simp
    try with_reducible rfl
  refine wpAnyH_take (i := 5) (v := ?_) rfl (by kernel_rfl) (by kernel_rfl) (by kernel_rfl) (fun _ _ _ h => h) (Or.inl ⟨by kernel_rfl, ?_⟩) hS ?_
  rotate_left
  · intro wx hx
    obtain ⟨hx0, hx1, hx2, hx3, _⟩ := hx
    go_simp
    try with_reducible rfl
  refine wpAnyH_take (i := 6) (v := ?_) rfl (by kernel_rfl) (by kernel_rfl) (by kernel_rfl) (fun _ _ _ h => h) (Or.inl ⟨by kernel_rfl, ?_⟩) hS ?_
  rotate_left
  · intro wx hx
    obtain ⟨hx0, hx1, hx2, hx3, _⟩ := hx
    go_simp
    try with_reducible rfl
  refine wpAnyH_take (i := 7) (v := ?_) rfl (by kernel_rfl) (by kernel_rfl) (by kernel_rfl) (fun _ _ _ h => h) (Or.inl ⟨by kernel_rfl, ?_⟩) hS ?_
  rotate_left
  · intro wx hx
    obtain ⟨hx0, hx1, hx2, hx3, _⟩ := hx
    go_simp
    try with_reducible rfl
  refine wpAnyH_take (i := 8) (v := ?_) rfl (by kernel_rfl) (by kernel_rfl) (by kernel_rfl) (fun _ _ _ h => h) (Or.inl ⟨by kernel_rfl, ?_⟩) hS ?_
  rotate_left
  · intro wx hx
    obtain ⟨hx0, hx1, hx2, hx3, _⟩ := hx
    go_simp
    try with_reducible rfl
  refine wpAnyH_ready (rs := [4]) (by kernel_rfl) (by simp) ?_
  refine AllReadyH.cons rfl (fun K hK => ?_) AllReadyH.nil
  go_simp
  go_wp2_with fail
  refine (compare_is _ _ c0 C0.out _).mono ?_
  rintro e w1 ⟨rfl, rfl⟩
  have hS' := hS
  go_wp2_with fail
  refine hK.out _ _ hS' (fun hS => ?_)
  clear hK K hS'
  refine wpAnyH_ready (rs := [9]) (by kernel_rfl) (by simp) ?_
  refine AllReadyH.cons rfl (fun K hK => ?_) AllReadyH.nil
  go_simp
  go_wp2_with fail
  refine (compare_is _ _ c1 C1.out _).mono ?_
  rintro e w1 ⟨rfl, rfl⟩
  have hS' := hS
  go_wp2_with fail
  refine hK.out _ _ hS' (fun hS => ?_)
  clear hK K hS'
  refine wpAnyH_ready (rs := [10]) (by kernel_rfl) (by simp) ?_
  refine AllReadyH.cons rfl (fun K hK => ?_) AllReadyH.nil
  go_simp
  refine hK.out _ _ (hS.later (below_alloc_drew _ _)) (fun hS => ?_)
  clear hK K
  refine wpAnyH_ready (rs := [11]) (by kernel_rfl) (by simp) ?_
  refine AllReadyH.cons rfl (fun K hK => ?_) AllReadyH.nil
  go_simp
  go_wp2_with fail
  refine (or_is c0 c1 r _ HR.out _ (two_cells _ _ (by simp) _ _ _).1 (two_cells _ _ (by simp) _ _ _).2).mono ?_
  rintro e w1 ⟨rfl, rfl⟩
  have hS' := hS
  go_wp2_with fail
  refine hK.out _ _ hS' (fun hS => ?_)
  clear hK K hS'
  refine wpAnyH_take (i := 12) (v := ?_) rfl (by kernel_rfl) (by kernel_rfl) (by kernel_rfl) (fun _ _ _ h => h) (Or.inl ⟨by kernel_rfl, ?_⟩) hS ?_
  rotate_left
  · intro wx hx
    obtain ⟨hx0, hx1, hx2, hx3, _⟩ := hx
    go_simp
    try with_reducible rfl
  refine wpAnyH_done (by kernel_rfl) ?_ _
  go_simp
  go_wp2
  go_ret
  exact ⟨rfl, hS.2.2.2.2⟩
theorem compareLocks_is (x0 x1 x2 x3 x4 y0 y1 y2 y3 y4 : Int) (r : Int) (hr : cmpOf x0 y0 = r) (w : World) :
    Calls Tryz.prog 128 #[.agg #[.int .i64 x0, .int .i64 x1, .int .i64 x2, .int .i64 x3, .int .i64 x4], .agg #[.int .i64 y0, .int .i64 y1, .int .i64 y2, .int .i64 y3, .int .i64 y4]] w fun e w' => e = .returned (.int .i64 r) ∧ Below w.heap.size w w' := by
  have HR : Hid (cmpOf x0 y0 = r) := hr
  clear hr
  go_enter Tryz.func128, Tryz.ntmps128
  go_wp2_with fail
  refine (compare_is _ _ r HR.out _).mono ?_
  rintro e w1 ⟨rfl, rfl⟩
  go_wp2
  go_ret
  exact ⟨rfl, (below_alloc _ _).alloc (by simp) _⟩
theorem commitFits_is (x0 x1 x2 x3 : Int) (r : Bool) (hr : decide ((x3 = 4 → x1 = x2) ∧ (x3 ≠ 4 → x2 < x1)) = r) (w : World) :
    Calls Tryz.prog 130 #[.agg #[.int .i64 x0, .int .i64 x1, .int .i64 x2, .int .i64 x3]] w fun e w' => e = .returned (.bool r) ∧ Below w.heap.size w w' := by
  by_cases h3 : x3 = 4
  · by_cases h1 : x1 = x2
    · rw [decide_eq_true (show ((x3 = 4 → x1 = x2) ∧ (x3 ≠ 4 → x2 < x1)) from ⟨fun _ => h1, fun h => absurd h3 h⟩)] at hr
      subst hr h3 h1
      go_enter Tryz.func130, Tryz.ntmps130
      go_wp2
      go_ret
      exact ⟨by simp, below_alloc _ _⟩
    · rw [decide_eq_false (show ¬ ((x3 = 4 → x1 = x2) ∧ (x3 ≠ 4 → x2 < x1)) from fun h => h1 (h.1 h3))] at hr
      subst hr h3
      have d : (x1 == x2) = false := beq_eq_false_iff_ne.2 h1
      clear h1
      go_enter Tryz.func130, Tryz.ntmps130
      go_wp2
      go_ret
      exact ⟨rfl, below_alloc _ _⟩
  · have d3 : (x3 == 4) = false := beq_eq_false_iff_ne.2 h3
    by_cases h1 : x2 < x1
    · rw [decide_eq_true (show ((x3 = 4 → x1 = x2) ∧ (x3 ≠ 4 → x2 < x1)) from ⟨fun h => absurd h h3, fun _ => h1⟩)] at hr
      have d : decide (x2 < x1) = true := decide_eq_true h1
      subst hr
      clear h3 h1
      go_enter Tryz.func130, Tryz.ntmps130
      go_wp2
      go_ret
      exact ⟨rfl, below_alloc _ _⟩
    · rw [decide_eq_false (show ¬ ((x3 = 4 → x1 = x2) ∧ (x3 ≠ 4 → x2 < x1)) from fun h => h1 (h.2 h3))] at hr
      have d : decide (x2 < x1) = false := decide_eq_false h1
      subst hr
      clear h3 h1
      go_enter Tryz.func130, Tryz.ntmps130
      go_wp2
      go_ret
      exact ⟨rfl, below_alloc _ _⟩
end Go.Proofs.YtpfmbfmlpoibeaaGreat
