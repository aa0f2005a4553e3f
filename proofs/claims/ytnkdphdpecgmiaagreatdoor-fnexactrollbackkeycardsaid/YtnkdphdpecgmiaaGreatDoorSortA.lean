/-
  Own text. What the program's compareCells, compareLocks and compareWrites leave: draws and new blocks, and nothing else; the order that they tell.
-/
import Derived.Test.YtnkdphdpecgmiaaGreatDoorColsM
import Derived.Shelf.SlSortCmp.NoneTotal
namespace Go.Proofs.YtnkdphdpecgmiaaGreatDoor
open Go.RowKit Go.Sort Go.Shelf Go.Lib

/-- x is w behind some draws, with new blocks. -/
def Grw (w x : World) : Prop := ∃ q os, x = grow (w.drewN q) os
theorem grw_two (w : World) (o o' : Obj) : Grw w ((w.alloc o).alloc o').drew := ⟨1, #[o] ++ #[o'], by rw [← grow_grow, ← alloc_eq_grow, ← alloc_eq_grow]; rfl⟩
theorem grw_alloc2 (w : World) (o o' : Obj) : Grw w ((w.alloc o).alloc o') := ⟨0, #[o] ++ #[o'], by rw [← grow_grow, ← alloc_eq_grow, ← alloc_eq_grow]; rfl⟩
theorem Grw.alloc_drew {w X : World} {o : Obj} (h : Grw w X.drew) : Grw w (X.alloc o).drew := by
  obtain ⟨q, os, e⟩ := h
  exact ⟨q, os ++ #[o], by rw [← grow_grow, ← e, ← alloc_eq_grow]; rfl⟩
def Four6 (w : World) (a0 a1 b0 b1 : Int) (x : World) : Prop := Four w a0 a1 b0 b1 x ∧ Grw w x
set_option maxRecDepth 100000 in
set_option maxHeartbeats 1000000 in
theorem compareCells_lays (x0 x1 x2 y0 y1 y2 : Int) (r : Int) (hr : orOf (cmpOf x0 y0) (cmpOf x1 y1) = r) (w : World) :
    Calls Tryz.prog 103 #[.agg #[.int .i64 x0, .int .i64 x1, .int .i64 x2], .agg #[.int .i64 y0, .int .i64 y1, .int .i64 y2]] w fun e w' => e = .returned (.int .i64 r) ∧ Grw w w' := by
  obtain ⟨c0, C0⟩ : ∃ c, Hid (cmpOf x0 y0 = c) := ⟨_, rfl⟩
  obtain ⟨c1, C1⟩ : ∃ c, Hid (cmpOf x1 y1 = c) := ⟨_, rfl⟩
  have HR : Hid (orOf c0 c1 = r) := by unfold Hid; rw [← C0.out, ← C1.out]; exact hr
  clear hr
  go_enter Tryz.func103, Tryz.ntmps103
  go_wp2_with fail
  have h0 : Four6 w x0 x1 y0 y1 (((w.alloc (.cells #[.int .i64 x0, .int .i64 x1, .int .i64 x2] 86)).alloc (.cells #[.int .i64 y0, .int .i64 y1, .int .i64 y2] 86)).drew) := ⟨⟨by simp, by simp, by simp, by simp, ((below_alloc _ _).alloc (by simp) _).drew⟩, grw_two _ _ _⟩
  refine wp_region_held_drew (S := Four6 w x0 x1 y0 y1) (by kernel_rfl) h0 (fun hS => ?_)
  clear h0
  refine wpAnyH_take (i := 0) (v := ?_) rfl (by kernel_rfl) (by kernel_rfl) (by kernel_rfl) (fun _ _ _ h => h) (Or.inl ⟨by kernel_rfl, ?_⟩) hS ?_
  rotate_left
  · intro wx hx
    obtain ⟨⟨hx0, hx1, hx2, hx3, _⟩, _⟩ := hx
    go_simp
    try with_reducible rfl
  refine wpAnyH_take (i := 1) (v := ?_) rfl (by kernel_rfl) (by kernel_rfl) (by kernel_rfl) (fun _ _ _ h => h) (Or.inl ⟨by kernel_rfl, ?_⟩) hS ?_
  rotate_left
  · intro wx hx
    obtain ⟨⟨hx0, hx1, hx2, hx3, _⟩, _⟩ := hx
    go_simp
    try with_reducible rfl
  refine wpAnyH_take (i := 2) (v := ?_) rfl (by kernel_rfl) (by kernel_rfl) (by kernel_rfl) (fun _ _ _ h => h) (Or.inl ⟨by kernel_rfl, ?_⟩) hS ?_
  rotate_left
  · intro wx hx
    obtain ⟨⟨hx0, hx1, hx2, hx3, _⟩, _⟩ := hx
    go_simp
    try with_reducible rfl
  refine wpAnyH_take (i := 3) (v := ?_) rfl (by kernel_rfl) (by kernel_rfl) (by kernel_rfl) (fun _ _ _ h => h) (Or.inl ⟨by kernel_rfl, ?_⟩) hS ?_
  rotate_left
  · intro wx hx
    obtain ⟨⟨hx0, hx1, hx2, hx3, _⟩, _⟩ := hx
    go_simp
    try with_reducible rfl
  refine wpAnyH_take (i := 5) (v := ?_) rfl (by kernel_rfl) (by kernel_rfl) (by kernel_rfl) (fun _ _ _ h => h) (Or.inl ⟨by kernel_rfl, ?_⟩) hS ?_
  rotate_left
  · intro wx hx
    obtain ⟨⟨hx0, hx1, hx2, hx3, _⟩, _⟩ := hx
    go_simp
    try with_reducible rfl
  refine wpAnyH_take (i := 6) (v := ?_) rfl (by kernel_rfl) (by kernel_rfl) (by kernel_rfl) (fun _ _ _ h => h) (Or.inl ⟨by kernel_rfl, ?_⟩) hS ?_
  rotate_left
  · intro wx hx
    obtain ⟨⟨hx0, hx1, hx2, hx3, _⟩, _⟩ := hx
    go_simp
    try with_reducible rfl
  refine wpAnyH_take (i := 7) (v := ?_) rfl (by kernel_rfl) (by kernel_rfl) (by kernel_rfl) (fun _ _ _ h => h) (Or.inl ⟨by kernel_rfl, ?_⟩) hS ?_
  rotate_left
  · intro wx hx
    obtain ⟨⟨hx0, hx1, hx2, hx3, _⟩, _⟩ := hx
    go_simp
    try with_reducible rfl
  refine wpAnyH_take (i := 8) (v := ?_) rfl (by kernel_rfl) (by kernel_rfl) (by kernel_rfl) (fun _ _ _ h => h) (Or.inl ⟨by kernel_rfl, ?_⟩) hS ?_
  rotate_left
  · intro wx hx
    obtain ⟨⟨hx0, hx1, hx2, hx3, _⟩, _⟩ := hx
    go_simp
    try with_reducible rfl
  refine wpAnyH_ready (rs := [4]) (by kernel_rfl) (by simp) ?_
  refine AllReadyH.cons rfl (fun K hK => ?_) AllReadyH.nil
  go_simp
  go_wp2_with fail
  refine (compare_is _ _ c0 C0.out _).mono ?_
  rintro e w1 ⟨rfl, rfl⟩
  have hS' := hS
  go_wp2_with fail
  refine hK.out _ _ hS' (fun hS => ?_)
  clear hK K hS'
  refine wpAnyH_ready (rs := [9]) (by kernel_rfl) (by simp) ?_
  refine AllReadyH.cons rfl (fun K hK => ?_) AllReadyH.nil
  go_simp
  go_wp2_with fail
  refine (compare_is _ _ c1 C1.out _).mono ?_
  rintro e w1 ⟨rfl, rfl⟩
  have hS' := hS
  go_wp2_with fail
  refine hK.out _ _ hS' (fun hS => ?_)
  clear hK K hS'
  refine wpAnyH_ready (rs := [10]) (by kernel_rfl) (by simp) ?_
  refine AllReadyH.cons rfl (fun K hK => ?_) AllReadyH.nil
  go_simp
  refine hK.out _ _ ⟨hS.1.later (below_alloc_drew _ _), hS.2.alloc_drew⟩ (fun hS => ?_)
  clear hK K
  refine wpAnyH_ready (rs := [11]) (by kernel_rfl) (by simp) ?_
  refine AllReadyH.cons rfl (fun K hK => ?_) AllReadyH.nil
  go_simp
  go_wp2_with fail
  refine (or_is c0 c1 r _ HR.out _ (two_cells _ _ (by simp) _ _ _).1 (two_cells _ _ (by simp) _ _ _).2).mono ?_
  rintro e w1 ⟨rfl, rfl⟩
  have hS' := hS
  go_wp2_with fail
  refine hK.out _ _ hS' (fun hS => ?_)
  clear hK K hS'
  refine wpAnyH_take (i := 12) (v := ?_) rfl (by kernel_rfl) (by kernel_rfl) (by kernel_rfl) (fun _ _ _ h => h) (Or.inl ⟨by kernel_rfl, ?_⟩) hS ?_
  rotate_left
  · intro wx hx
    obtain ⟨⟨hx0, hx1, hx2, hx3, _⟩, _⟩ := hx
    go_simp
    try with_reducible rfl
  refine wpAnyH_done (by kernel_rfl) ?_ _
  go_simp
  go_wp2
  go_ret
  exact ⟨rfl, hS.2⟩
set_option maxRecDepth 100000 in
set_option maxHeartbeats 1000000 in
theorem compareWrites_lays (x0 x1 x2 x3 y0 y1 y2 y3 : Int) (r : Int) (hr : orOf (cmpOf x0 y0) (cmpOf x1 y1) = r) (w : World) :
    Calls Tryz.prog 109 #[.agg #[.int .i64 x0, .int .i64 x1, .int .i64 x2, .int .i64 x3], .agg #[.int .i64 y0, .int .i64 y1, .int .i64 y2, .int .i64 y3]] w fun e w' => e = .returned (.int .i64 r) ∧ Grw w w' := by
  obtain ⟨c0, C0⟩ : ∃ c, Hid (cmpOf x0 y0 = c) := ⟨_, rfl⟩
  obtain ⟨c1, C1⟩ : ∃ c, Hid (cmpOf x1 y1 = c) := ⟨_, rfl⟩
  have HR : Hid (orOf c0 c1 = r) := by unfold Hid; rw [← C0.out, ← C1.out]; exact hr
  clear hr
  go_enter Tryz.func109, Tryz.ntmps109
  go_wp2_with fail
  have h0 : Four6 w x0 x1 y0 y1 (((w.alloc (.cells #[.int .i64 x0, .int .i64 x1, .int .i64 x2, .int .i64 x3] 92)).alloc (.cells #[.int .i64 y0, .int .i64 y1, .int .i64 y2, .int .i64 y3] 92)).drew) := ⟨⟨by simp, by simp, by simp, by simp, ((below_alloc _ _).alloc (by simp) _).drew⟩, grw_two _ _ _⟩
  refine wp_region_held_drew (S := Four6 w x0 x1 y0 y1) (by kernel_rfl) h0 (fun hS => ?_)
  clear h0
  refine wpAnyH_take (i := 0) (v := ?_) rfl (by kernel_rfl) (by kernel_rfl) (by kernel_rfl) (fun _ _ _ h => h) (Or.inl ⟨by kernel_rfl, ?_⟩) hS ?_
  rotate_left
  · intro wx hx
    obtain ⟨⟨hx0, hx1, hx2, hx3, _⟩, _⟩ := hx
    go_simp
    try with_reducible rfl
  refine wpAnyH_take (i := 1) (v := ?_) rfl (by kernel_rfl) (by kernel_rfl) (by kernel_rfl) (fun _ _ _ h => h) (Or.inl ⟨by kernel_rfl, ?_⟩) hS ?_
  rotate_left
  · intro wx hx
    obtain ⟨⟨hx0, hx1, hx2, hx3, _⟩, _⟩ := hx
    go_simp
    try with_reducible rfl
  refine wpAnyH_take (i := 2) (v := ?_) rfl (by kernel_rfl) (by kernel_rfl) (by kernel_rfl) (fun _ _ _ h => h) (Or.inl ⟨by kernel_rfl, ?_⟩) hS ?_
  rotate_left
  · intro wx hx
    obtain ⟨⟨hx0, hx1, hx2, hx3, _⟩, _⟩ := hx
    go_simp
    try with_reducible rfl
  refine wpAnyH_take (i := 3) (v := ?_) rfl (by kernel_rfl) (by kernel_rfl) (by kernel_rfl) (fun _ _ _ h => h) (Or.inl ⟨by kernel_rfl, ?_⟩) hS ?_
  rotate_left
  · intro wx hx
    obtain ⟨⟨hx0, hx1, hx2, hx3, _⟩, _⟩ := hx
    go_simp
    try with_reducible rfl
  refine wpAnyH_take (i := 5) (v := ?_) rfl (by kernel_rfl) (by kernel_rfl) (by kernel_rfl) (fun _ _ _ h => h) (Or.inl ⟨by kernel_rfl, ?_⟩) hS ?_
  rotate_left
  · intro wx hx
    obtain ⟨⟨hx0, hx1, hx2, hx3, _⟩, _⟩ := hx
    go_simp
    try with_reducible rfl
  refine wpAnyH_take (i := 6) (v := ?_) rfl (by kernel_rfl) (by kernel_rfl) (by kernel_rfl) (fun _ _ _ h => h) (Or.inl ⟨by kernel_rfl, ?_⟩) hS ?_
  rotate_left
  · intro wx hx
    obtain ⟨⟨hx0, hx1, hx2, hx3, _⟩, _⟩ := hx
    go_simp
    try with_reducible rfl
  refine wpAnyH_take (i := 7) (v := ?_) rfl (by kernel_rfl) (by kernel_rfl) (by kernel_rfl) (fun _ _ _ h => h) (Or.inl ⟨by kernel_rfl, ?_⟩) hS ?_
  rotate_left
  · intro wx hx
    obtain ⟨⟨hx0, hx1, hx2, hx3, _⟩, _⟩ := hx
    go_simp
    try with_reducible rfl
  refine wpAnyH_take (i := 8) (v := ?_) rfl (by kernel_rfl) (by kernel_rfl) (by kernel_rfl) (fun _ _ _ h => h) (Or.inl ⟨by kernel_rfl, ?_⟩) hS ?_
  rotate_left
  · intro wx hx
    obtain ⟨⟨hx0, hx1, hx2, hx3, _⟩, _⟩ := hx
    go_simp
    try with_reducible rfl
  refine wpAnyH_ready (rs := [4]) (by kernel_rfl) (by simp) ?_
  refine AllReadyH.cons rfl (fun K hK => ?_) AllReadyH.nil
  go_simp
  go_wp2_with fail
  refine (compare_is _ _ c0 C0.out _).mono ?_
  rintro e w1 ⟨rfl, rfl⟩
  have hS' := hS
  go_wp2_with fail
  refine hK.out _ _ hS' (fun hS => ?_)
  clear hK K hS'
  refine wpAnyH_ready (rs := [9]) (by kernel_rfl) (by simp) ?_
  refine AllReadyH.cons rfl (fun K hK => ?_) AllReadyH.nil
  go_simp
  go_wp2_with fail
  refine (compare_is _ _ c1 C1.out _).mono ?_
  rintro e w1 ⟨rfl, rfl⟩
  have hS' := hS
  go_wp2_with fail
  refine hK.out _ _ hS' (fun hS => ?_)
  clear hK K hS'
  refine wpAnyH_ready (rs := [10]) (by kernel_rfl) (by simp) ?_
  refine AllReadyH.cons rfl (fun K hK => ?_) AllReadyH.nil
  go_simp
  refine hK.out _ _ ⟨hS.1.later (below_alloc_drew _ _), hS.2.alloc_drew⟩ (fun hS => ?_)
  clear hK K
  refine wpAnyH_ready (rs := [11]) (by kernel_rfl) (by simp) ?_
  refine AllReadyH.cons rfl (fun K hK => ?_) AllReadyH.nil
  go_simp
  go_wp2_with fail
  refine (or_is c0 c1 r _ HR.out _ (two_cells _ _ (by simp) _ _ _).1 (two_cells _ _ (by simp) _ _ _).2).mono ?_
  rintro e w1 ⟨rfl, rfl⟩
  have hS' := hS
  go_wp2_with fail
  refine hK.out _ _ hS' (fun hS => ?_)
  clear hK K hS'
  refine wpAnyH_take (i := 12) (v := ?_) rfl (by kernel_rfl) (by kernel_rfl) (by kernel_rfl) (fun _ _ _ h => h) (Or.inl ⟨by kernel_rfl, ?_⟩) hS ?_
  rotate_left
  · intro wx hx
    obtain ⟨⟨hx0, hx1, hx2, hx3, _⟩, _⟩ := hx
    go_simp
    try with_reducible rfl
  refine wpAnyH_done (by kernel_rfl) ?_ _
  go_simp
  go_wp2
  go_ret
  exact ⟨rfl, hS.2⟩
theorem compareLocks_lays (x0 x1 x2 x3 x4 y0 y1 y2 y3 y4 : Int) (r : Int) (hr : cmpOf x0 y0 = r) (w : World) :
    Calls Tryz.prog 75 #[.agg #[.int .i64 x0, .int .i64 x1, .int .i64 x2, .int .i64 x3, .int .i64 x4], .agg #[.int .i64 y0, .int .i64 y1, .int .i64 y2, .int .i64 y3, .int .i64 y4]] w fun e w' => e = .returned (.int .i64 r) ∧ Grw w w' := by
  have HR : Hid (cmpOf x0 y0 = r) := hr
  clear hr
  go_enter Tryz.func75, Tryz.ntmps75
  go_wp2_with fail
  refine (compare_is _ _ r HR.out _).mono ?_
  rintro e w1 ⟨rfl, rfl⟩
  go_wp2
  go_ret
  exact ⟨rfl, grw_alloc2 _ _ _⟩
theorem lt_cmpOf (a b : Int) : cmpOf a b < 0 ↔ a < b := by
  unfold cmpOf
  by_cases h1 : a < b
  · simp [h1]
  · by_cases h2 : b < a <;> simp [h1, h2]
theorem cmpOf_zero (a b : Int) : cmpOf a b = 0 ↔ a = b := by
  unfold cmpOf
  by_cases h1 : a < b
  · simp [h1]; omega
  · by_cases h2 : b < a
    · simp [h1, h2]; omega
    · simp [h1, h2]; omega
/-- The order by two numbers. -/
def cf2 {α : Type} (k s : α → Int) (x y : α) : Int := orOf (cmpOf (k x) (k y)) (cmpOf (s x) (s y))
theorem lt_cf2 {α : Type} (k s : α → Int) (x y : α) : ltOf (cf2 k s) x y = decide (k x < k y ∨ k x = k y ∧ s x < s y) := by
  unfold ltOf cf2 orOf
  by_cases h : cmpOf (k x) (k y) = 0
  · rw [if_pos h]
    have := (cmpOf_zero _ _).1 h
    simp [lt_cmpOf, this]
  · rw [if_neg h]
    have : ¬ k x = k y := fun e => h ((cmpOf_zero _ _).2 e)
    simp [lt_cmpOf, this]
theorem swo_cf2 {α : Type} (k s : α → Int) : SWO (ltOf (cf2 k s)) where
  irrefl x := by rw [lt_cf2]; simp
  trans x y z h1 h2 := by rw [lt_cf2] at *; simp at *; omega
  ntrans x y z h1 h2 := by rw [lt_cf2] at *; simp at *; omega
/-- The order by one number. -/
def cf1 {α : Type} (k : α → Int) (x y : α) : Int := cmpOf (k x) (k y)
theorem lt_cf1 {α : Type} (k : α → Int) (x y : α) : ltOf (cf1 k) x y = decide (k x < k y) := by
  unfold ltOf cf1
  simp [lt_cmpOf]
theorem swo_cf1 {α : Type} (k : α → Int) : SWO (ltOf (cf1 k)) where
  irrefl x := by rw [lt_cf1]; simp
  trans x y z h1 h2 := by rw [lt_cf1] at *; simp at *; omega
  ntrans x y z h1 h2 := by rw [lt_cf1] at *; simp at *; omega
end Go.Proofs.YtnkdphdpecgmiaaGreatDoor
