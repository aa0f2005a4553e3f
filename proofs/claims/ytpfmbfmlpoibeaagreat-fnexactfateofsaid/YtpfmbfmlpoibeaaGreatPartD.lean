/-
  Own text, merged of SortA, SortB, SortC, PartD.
-/
import Derived.Test.YtpfmbfmlpoibeaaGreatColsM
import Derived.Shelf.SlSortCmp.NoneTotal
import Derived.Test.YtpfmbfmlpoibeaaGreatColsA
import Derived.Test.YtpfmbfmlpoibeaaGreatLay
import Derived.Test.YtpfmbfmlpoibeaaGreatPartA
import Derived.Test.YtpfmbfmlpoibeaaGreatStorP
namespace Go.Proofs.YtpfmbfmlpoibeaaGreat
section
open Go.RowKit Go.Sort Go.Shelf Go.Lib
-- Own text. What the program's compareCells, compareLocks and compareWrites leave: draws and new blocks, and nothing else; the order that they tell.
/-- x is w behind some draws, with new blocks. -/
def Grw (w x : World) : Prop := ∃ q os, x = grow (w.drewN q) os
theorem grw_two (w : World) (o o' : Obj) : Grw w ((w.alloc o).alloc o').drew := ⟨1, #[o] ++ #[o'], by rw [← grow_grow, ← alloc_eq_grow, ← alloc_eq_grow]; rfl⟩
theorem grw_alloc2 (w : World) (o o' : Obj) : Grw w ((w.alloc o).alloc o') := ⟨0, #[o] ++ #[o'], by rw [← grow_grow, ← alloc_eq_grow, ← alloc_eq_grow]; rfl⟩
theorem Grw.alloc_drew {w X : World} {o : Obj} (h : Grw w X.drew) : Grw w (X.alloc o).drew := by
  obtain ⟨q, os, e⟩ := h
  exact ⟨q, os ++ #[o], by rw [← grow_grow, ← e, ← alloc_eq_grow]; rfl⟩
def Four6 (w : World) (a0 a1 b0 b1 : Int) (x : World) : Prop := Four w a0 a1 b0 b1 x ∧ Grw w x
set_option maxRecDepth 100000 in
set_option maxHeartbeats 1000000 in
theorem compareCells_lays (x0 x1 x2 y0 y1 y2 : Int) (r : Int) (hr : orOf (cmpOf x0 y0) (cmpOf x1 y1) = r) (w : World) :
    Calls Tryz.prog 110 #[.agg #[.int .i64 x0, .int .i64 x1, .int .i64 x2], .agg #[.int .i64 y0, .int .i64 y1, .int .i64 y2]] w fun e w' => e = .returned (.int .i64 r) ∧ Grw w w' := by
  obtain ⟨c0, C0⟩ : ∃ c, Hid (cmpOf x0 y0 = c) := ⟨_, rfl⟩
  obtain ⟨c1, C1⟩ : ∃ c, Hid (cmpOf x1 y1 = c) := ⟨_, rfl⟩
  have HR : Hid (orOf c0 c1 = r) := by unfold Hid; rw [← C0.out, ← C1.out]; exact hr
  clear hr
  go_enter Tryz.func110, Tryz.ntmps110
  go_wp2_with fail
  have h0 : Four6 w x0 x1 y0 y1 (((w.alloc (.cells #[.int .i64 x0, .int .i64 x1, .int .i64 x2] 140)).alloc (.cells #[.int .i64 y0, .int .i64 y1, .int .i64 y2] 140)).drew) := ⟨⟨by simp, by simp, by simp, by simp, ((below_alloc _ _).alloc (by simp) _).drew⟩, grw_two _ _ _⟩
  refine wp_region_held_drew (S := Four6 w x0 x1 y0 y1) (by kernel_rfl) h0 (fun hS => ?_)
  clear h0
  refine wpAnyH_take (i := 0) (v := ?_) rfl (by kernel_rfl) (by kernel_rfl) (by kernel_rfl) (fun _ _ _ h => h) (Or.inl ⟨by kernel_rfl, ?_⟩) hS ?_
  rotate_left
  · intro wx hx
    obtain ⟨⟨hx0, hx1, hx2, hx3, _⟩, _⟩ := hx
    go_simp
    try with_reducible rfl
  refine wpAnyH_take (i := 1) (v := ?_) rfl (by kernel_rfl) (by kernel_rfl) (by kernel_rfl) (fun _ _ _ h => h) (Or.inl ⟨by kernel_rfl, ?_⟩) hS ?_
  rotate_left
  · intro wx hx
    obtain ⟨⟨hx0, hx1, hx2, hx3, _⟩, _⟩ := hx
    go_simp
    try with_reducible rfl
  refine wpAnyH_take (i := 2) (v := ?_) rfl (by kernel_rfl) (by kernel_rfl) (by kernel_rfl) (fun _ _ _ h => h) (Or.inl ⟨by kernel_rfl, ?_⟩) hS ?_
  rotate_left
  · intro wx hx
    obtain ⟨⟨hx0, hx1, hx2, hx3, _⟩, _⟩ := hx
    go_simp
    try with_reducible rfl
  refine wpAnyH_take (i := 3) (v := ?_) rfl (by kernel_rfl) (by kernel_rfl) (by kernel_rfl) (fun _ _ _ h => h) (Or.inl ⟨by kernel_rfl, ?_⟩) hS ?_
  rotate_left
  · intro wx hx
    obtain ⟨⟨hx0, hx1, hx2, hx3, _⟩, _⟩ := hx
    go_simp
    try with_reducible rfl
  refine wpAnyH_take (i := 5) (v := ?_) rfl (by kernel_rfl) (by kernel_rfl) (by kernel_rfl) (fun _ _ _ h => h) (Or.inl ⟨by kernel_rfl, ?_⟩) hS ?_
  rotate_left
  · intro wx hx
    obtain ⟨⟨hx0, hx1, hx2, hx3, _⟩, _⟩ := hx
    go_simp
    try with_reducible rfl
  refine wpAnyH_take (i := 6) (v := ?_) rfl (by kernel_rfl) (by kernel_rfl) (by kernel_rfl) (fun _ _ _ h => h) (Or.inl ⟨by kernel_rfl, ?_⟩) hS ?_
  rotate_left
  · intro wx hx
    obtain ⟨⟨hx0, hx1, hx2, hx3, _⟩, _⟩ := hx
    go_simp
    try with_reducible rfl
  refine wpAnyH_take (i := 7) (v := ?_) rfl (by kernel_rfl) (by kernel_rfl) (by kernel_rfl) (fun _ _ _ h => h) (Or.inl ⟨by kernel_rfl, ?_⟩) hS ?_
  rotate_left
  · intro wx hx
    obtain ⟨⟨hx0, hx1, hx2, hx3, _⟩, _⟩ := hx
    go_simp
    try with_reducible rfl
  refine wpAnyH_take (i := 8) (v := ?_) rfl (by kernel_rfl) (by kernel_rfl) (by kernel_rfl) (fun _ _ _ h => h) (Or.inl ⟨by kernel_rfl, ?_⟩) hS ?_
  rotate_left
  · intro wx hx
    obtain ⟨⟨hx0, hx1, hx2, hx3, _⟩, _⟩ := hx
    go_simp
    try with_reducible rfl
  refine wpAnyH_ready (rs := [4]) (by kernel_rfl) (by simp) ?_
  refine AllReadyH.cons rfl (fun K hK => ?_) AllReadyH.nil
  go_simp
  go_wp2_with fail
  refine (compare_is _ _ c0 C0.out _).mono ?_
  rintro e w1 ⟨rfl, rfl⟩
  have hS' := hS
  go_wp2_with fail
  refine hK.out _ _ hS' (fun hS => ?_)
  clear hK K hS'
  refine wpAnyH_ready (rs := [9]) (by kernel_rfl) (by simp) ?_
  refine AllReadyH.cons rfl (fun K hK => ?_) AllReadyH.nil
  go_simp
  go_wp2_with fail
  refine (compare_is _ _ c1 C1.out _).mono ?_
  rintro e w1 ⟨rfl, rfl⟩
  have hS' := hS
  go_wp2_with fail
  refine hK.out _ _ hS' (fun hS => ?_)
  clear hK K hS'
  refine wpAnyH_ready (rs := [10]) (by kernel_rfl) (by simp) ?_
  refine AllReadyH.cons rfl (fun K hK => ?_) AllReadyH.nil
  go_simp
  refine hK.out _ _ ⟨hS.1.later (below_alloc_drew _ _), hS.2.alloc_drew⟩ (fun hS => ?_)
  clear hK K
  refine wpAnyH_ready (rs := [11]) (by kernel_rfl) (by simp) ?_
  refine AllReadyH.cons rfl (fun K hK => ?_) AllReadyH.nil
  go_simp
  go_wp2_with fail
  refine (or_is c0 c1 r _ HR.out _ (two_cells _ _ (by simp) _ _ _).1 (two_cells _ _ (by simp) _ _ _).2).mono ?_
  rintro e w1 ⟨rfl, rfl⟩
  have hS' := hS
  go_wp2_with fail
  refine hK.out _ _ hS' (fun hS => ?_)
  clear hK K hS'
  refine wpAnyH_take (i := 12) (v := ?_) rfl (by kernel_rfl) (by kernel_rfl) (by kernel_rfl) (fun _ _ _ h => h) (Or.inl ⟨by kernel_rfl, ?_⟩) hS ?_
  rotate_left
  · intro wx hx
    obtain ⟨⟨hx0, hx1, hx2, hx3, _⟩, _⟩ := hx
    go_simp
    try with_reducible rfl
  refine wpAnyH_done (by kernel_rfl) ?_ _
  go_simp
  go_wp2
  go_ret
  exact ⟨rfl, hS.2⟩
set_option maxRecDepth 100000 in
set_option maxHeartbeats 1000000 in
theorem compareWrites_lays (x0 x1 x2 x3 y0 y1 y2 y3 : Int) (r : Int) (hr : orOf (cmpOf x0 y0) (cmpOf x1 y1) = r) (w : World) :
    Calls Tryz.prog 129 #[.agg #[.int .i64 x0, .int .i64 x1, .int .i64 x2, .int .i64 x3], .agg #[.int .i64 y0, .int .i64 y1, .int .i64 y2, .int .i64 y3]] w fun e w' => e = .returned (.int .i64 r) ∧ Grw w w' := by
  obtain ⟨c0, C0⟩ : ∃ c, Hid (cmpOf x0 y0 = c) := ⟨_, rfl⟩
  obtain ⟨c1, C1⟩ : ∃ c, Hid (cmpOf x1 y1 = c) := ⟨_, rfl⟩
  have HR : Hid (orOf c0 c1 = r) := by unfold Hid; rw [← C0.out, ← C1.out]; exact hr
  clear hr
  go_enter Tryz.func129, Tryz.ntmps129
  go_wp2_with fail
  have h0 : Four6 w x0 x1 y0 y1 (((w.alloc (.cells #[.int .i64 x0, .int .i64 x1, .int .i64 x2, .int .i64 x3] 45)).alloc (.cells #[.int .i64 y0, .int .i64 y1, .int .i64 y2, .int .i64 y3] 45)).drew) := ⟨⟨by simp, by simp, by simp, by simp, ((below_alloc _ _).alloc (by simp) _).drew⟩, grw_two _ _ _⟩
  refine wp_region_held_drew (S := Four6 w x0 x1 y0 y1) (by kernel_rfl) h0 (fun hS => ?_)
  clear h0
  refine wpAnyH_take (i := 0) (v := ?_) rfl (by kernel_rfl) (by kernel_rfl) (by kernel_rfl) (fun _ _ _ h => h) (Or.inl ⟨by kernel_rfl, ?_⟩) hS ?_
  rotate_left
  · intro wx hx
    obtain ⟨⟨hx0, hx1, hx2, hx3, _⟩, _⟩ := hx
    go_simp
    try with_reducible rfl
  refine wpAnyH_take (i := 1) (v := ?_) rfl (by kernel_rfl) (by kernel_rfl) (by kernel_rfl) (fun _ _ _ h => h) (Or.inl ⟨by kernel_rfl, ?_⟩) hS ?_
  rotate_left
  · intro wx hx
    obtain ⟨⟨hx0, hx1, hx2, hx3, _⟩, _⟩ := hx
    go_simp
    try with_reducible rfl
  refine wpAnyH_take (i := 2) (v := ?_) rfl (by kernel_rfl) (by kernel_rfl) (by kernel_rfl) (fun _ _ _ h => h) (Or.inl ⟨by kernel_rfl, ?_⟩) hS ?_
  rotate_left
  · intro wx hx
    obtain ⟨⟨hx0, hx1, hx2, hx3, _⟩, _⟩ := hx
    go_simp
    try with_reducible rfl
  refine wpAnyH_take (i := 3) (v := ?_) rfl (by kernel_rfl) (by kernel_rfl) (by kernel_rfl) (fun _ _ _ h => h) (Or.inl ⟨by kernel_rfl, ?_⟩) hS ?_
  rotate_left
  · intro wx hx
    obtain ⟨⟨hx0, hx1, hx2, hx3, _⟩, _⟩ := hx
    go_simp
    try with_reducible rfl
  refine wpAnyH_take (i := 5) (v := ?_) rfl (by kernel_rfl) (by kernel_rfl) (by kernel_rfl) (fun _ _ _ h => h) (Or.inl ⟨by kernel_rfl, ?_⟩) hS ?_
  rotate_left
  · intro wx hx
    obtain ⟨⟨hx0, hx1, hx2, hx3, _⟩, _⟩ := hx
    go_simp
    try with_reducible rfl
  refine wpAnyH_take (i := 6) (v := ?_) rfl (by kernel_rfl) (by kernel_rfl) (by kernel_rfl) (fun _ _ _ h => h) (Or.inl ⟨by kernel_rfl, ?_⟩) hS ?_
  rotate_left
  · intro wx hx
    obtain ⟨⟨hx0, hx1, hx2, hx3, _⟩, _⟩ := hx
    go_simp
    try with_reducible rfl
  refine wpAnyH_take (i := 7) (v := ?_) rfl (by kernel_rfl) (by kernel_rfl) (by kernel_rfl) (fun _ _ _ h => h) (Or.inl ⟨by kernel_rfl, ?_⟩) hS ?_
  rotate_left
  · intro wx hx
    obtain ⟨⟨hx0, hx1, hx2, hx3, _⟩, _⟩ := hx
    go_simp
    try with_reducible rfl
  refine wpAnyH_take (i := 8) (v := ?_) rfl (by kernel_rfl) (by kernel_rfl) (by kernel_rfl) (fun _ _ _ h => h) (Or.inl ⟨by kernel_rfl, ?_⟩) hS ?_
  rotate_left
  · intro wx hx
    obtain ⟨⟨hx0, hx1, hx2, hx3, _⟩, _⟩ := hx
    go_simp
    try with_reducible rfl
  refine wpAnyH_ready (rs := [4]) (by kernel_rfl) (by simp) ?_
  refine AllReadyH.cons rfl (fun K hK => ?_) AllReadyH.nil
  go_simp
  go_wp2_with fail
  refine (compare_is _ _ c0 C0.out _).mono ?_
  rintro e w1 ⟨rfl, rfl⟩
  have hS' := hS
  go_wp2_with fail
  refine hK.out _ _ hS' (fun hS => ?_)
  clear hK K hS'
  refine wpAnyH_ready (rs := [9]) (by kernel_rfl) (by simp) ?_
  refine AllReadyH.cons rfl (fun K hK => ?_) AllReadyH.nil
  go_simp
  go_wp2_with fail
  refine (compare_is _ _ c1 C1.out _).mono ?_
  rintro e w1 ⟨rfl, rfl⟩
  have hS' := hS
  go_wp2_with fail
  refine hK.out _ _ hS' (fun hS => ?_)
  clear hK K hS'
  refine wpAnyH_ready (rs := [10]) (by kernel_rfl) (by simp) ?_
  refine AllReadyH.cons rfl (fun K hK => ?_) AllReadyH.nil
  go_simp
  refine hK.out _ _ ⟨hS.1.later (below_alloc_drew _ _), hS.2.alloc_drew⟩ (fun hS => ?_)
  clear hK K
  refine wpAnyH_ready (rs := [11]) (by kernel_rfl) (by simp) ?_
  refine AllReadyH.cons rfl (fun K hK => ?_) AllReadyH.nil
  go_simp
  go_wp2_with fail
  refine (or_is c0 c1 r _ HR.out _ (two_cells _ _ (by simp) _ _ _).1 (two_cells _ _ (by simp) _ _ _).2).mono ?_
  rintro e w1 ⟨rfl, rfl⟩
  have hS' := hS
  go_wp2_with fail
  refine hK.out _ _ hS' (fun hS => ?_)
  clear hK K hS'
  refine wpAnyH_take (i := 12) (v := ?_) rfl (by kernel_rfl) (by kernel_rfl) (by kernel_rfl) (fun _ _ _ h => h) (Or.inl ⟨by kernel_rfl, ?_⟩) hS ?_
  rotate_left
  · intro wx hx
    obtain ⟨⟨hx0, hx1, hx2, hx3, _⟩, _⟩ := hx
    go_simp
    try with_reducible rfl
  refine wpAnyH_done (by kernel_rfl) ?_ _
  go_simp
  go_wp2
  go_ret
  exact ⟨rfl, hS.2⟩
theorem compareLocks_lays (x0 x1 x2 x3 x4 y0 y1 y2 y3 y4 : Int) (r : Int) (hr : cmpOf x0 y0 = r) (w : World) :
    Calls Tryz.prog 128 #[.agg #[.int .i64 x0, .int .i64 x1, .int .i64 x2, .int .i64 x3, .int .i64 x4], .agg #[.int .i64 y0, .int .i64 y1, .int .i64 y2, .int .i64 y3, .int .i64 y4]] w fun e w' => e = .returned (.int .i64 r) ∧ Grw w w' := by
  have HR : Hid (cmpOf x0 y0 = r) := hr
  clear hr
  go_enter Tryz.func128, Tryz.ntmps128
  go_wp2_with fail
  refine (compare_is _ _ r HR.out _).mono ?_
  rintro e w1 ⟨rfl, rfl⟩
  go_wp2
  go_ret
  exact ⟨rfl, grw_alloc2 _ _ _⟩
theorem lt_cmpOf (a b : Int) : cmpOf a b < 0 ↔ a < b := by
  unfold cmpOf
  by_cases h1 : a < b
  · simp [h1]
  · by_cases h2 : b < a <;> simp [h1, h2]
theorem cmpOf_zero (a b : Int) : cmpOf a b = 0 ↔ a = b := by
  unfold cmpOf
  by_cases h1 : a < b
  · simp [h1]; omega
  · by_cases h2 : b < a
    · simp [h1, h2]; omega
    · simp [h1, h2]; omega
/-- The order by two numbers. -/
def cf2 {α : Type} (k s : α → Int) (x y : α) : Int := orOf (cmpOf (k x) (k y)) (cmpOf (s x) (s y))
theorem lt_cf2 {α : Type} (k s : α → Int) (x y : α) : ltOf (cf2 k s) x y = decide (k x < k y ∨ k x = k y ∧ s x < s y) := by
  unfold ltOf cf2 orOf
  by_cases h : cmpOf (k x) (k y) = 0
  · rw [if_pos h]
    have := (cmpOf_zero _ _).1 h
    simp [lt_cmpOf, this]
  · rw [if_neg h]
    have : ¬ k x = k y := fun e => h ((cmpOf_zero _ _).2 e)
    simp [lt_cmpOf, this]
theorem swo_cf2 {α : Type} (k s : α → Int) : SWO (ltOf (cf2 k s)) where
  irrefl x := by rw [lt_cf2]; simp
  trans x y z h1 h2 := by rw [lt_cf2] at *; simp at *; omega
  ntrans x y z h1 h2 := by rw [lt_cf2] at *; simp at *; omega
/-- The order by one number. -/
def cf1 {α : Type} (k : α → Int) (x y : α) : Int := cmpOf (k x) (k y)
theorem lt_cf1 {α : Type} (k : α → Int) (x y : α) : ltOf (cf1 k) x y = decide (k x < k y) := by
  unfold ltOf cf1
  simp [lt_cmpOf]
theorem swo_cf1 {α : Type} (k : α → Int) : SWO (ltOf (cf1 k)) where
  irrefl x := by rw [lt_cf1]; simp
  trans x y z h1 h2 := by rw [lt_cf1] at *; simp at *; omega
  ntrans x y z h1 h2 := by rw [lt_cf1] at *; simp at *; omega
end

section
open Go.RowKit Go.Sort Go.Shelf Go.Lib
-- Own text. slices.SortFunc over a row of structs of numbers, by the library's contract: a permutation, sorted; nothing else is turned.
/-- A struct of m numbers, as its cells. -/
def encM (m : Nat) (x : List Int) : List Value := (List.range m).map fun q => Value.int .i64 (x.getD q 0)
theorem encM_len (m : Nat) (x : List Int) : (encM m x).length = m := by simp [encM]
theorem encM_one (m : Nat) (x : List Int) : ∀ v ∈ encM m x, v.oneCell' = true := by
  intro v hv
  simp only [encM, List.mem_map] at hv
  obtain ⟨q, _, rfl⟩ := hv
  rfl
theorem encM_get (m : Nat) (x : List Int) (q : Nat) (hq : q < m) : (encM m x)[q]! = .int .i64 (x.getD q 0) := by
  rw [getElem!_pos _ q (by rw [encM_len]; exact hq)]
  simp [encM]
/-- The structs of a row. -/
def rowD (m n : Nat) (F : Nat → Int) : Array (List Int) := (Array.range n).map fun i => (List.range m).map fun q => F (i * m + q)
theorem rowD_size (m n : Nat) (F : Nat → Int) : (rowD m n F).size = n := by simp [rowD]
theorem rowD_get (m n : Nat) (F : Nat → Int) (i : Nat) (hi : i < n) : (rowD m n F)[i]! = (List.range m).map fun q => F (i * m + q) := by
  rw [getElem!_pos _ i (by rw [rowD_size]; exact hi)]
  simp [rowD]
/-- The numbers of a row of structs. -/
def rowF (m : Nat) (d : Array (List Int)) : Nat → Int := fun t => (d[t / m]!).getD (t % m) 0
theorem div_lt {m n t : Nat} (ht : t < n * m) : t / m < n ∧ t % m < m := by
  have hm : 0 < m := Nat.pos_of_ne_zero (fun e => by subst e; simp at ht)
  exact ⟨(Nat.div_lt_iff_lt_mul hm).2 ht, Nat.mod_lt _ hm⟩
theorem rowF_rowD (m n : Nat) (F : Nat → Int) (t : Nat) (ht : t < n * m) : rowF m (rowD m n F) t = F t := by
  obtain ⟨h1, h2⟩ := div_lt ht
  unfold rowF
  rw [rowD_get m n F _ h1]
  have : ((List.range m).map fun q => F (t / m * m + q)).getD (t % m) 0 = F (t / m * m + t % m) := by simp [h2]
  rw [this, Nat.mul_comm, Nat.div_add_mod]
theorem holds_row {w : World} {B m n blk off cap : Nat} {F : Nat → Int} (h : Row w B m n F (.slice (some ⟨blk, off, none⟩) n cap)) (hf : Free w (n * m) (.slice (some ⟨blk, off, none⟩) n cap)) : HoldsK (encM m) m w blk off (rowD m n F) := by
  intro t ht
  rw [size_flatK, rowD_size] at ht
  obtain ⟨h1, h2⟩ := div_lt ht
  rw [get_flatK _ _ _ _ (by rw [rowD_size]; exact ht), encM_get _ _ _ h2]
  have hF := rowF_rowD m n F t ht
  unfold rowF at hF
  rw [hF]
  refine ⟨?_, hf blk off n cap rfl t ht⟩
  obtain ⟨g, o, he, _, _, hc⟩ := h.at h1
  simp at he
  obtain ⟨rfl, rfl⟩ := he
  have := hc (t % m) h2
  rw [Nat.add_assoc, Nat.mul_comm (t / m) m, Nat.div_add_mod] at this
  exact this
theorem row_holds {w : World} {B m n blk off cap : Nat} {d : Array (List Int)} (hd : d.size = n) (hB : B ≤ blk) (hb : blk < w.heap.size) (h : HoldsK (encM m) m w blk off d) : Row w B m n (rowF m d) (.slice (some ⟨blk, off, none⟩) n cap) ∧ Free w (n * m) (.slice (some ⟨blk, off, none⟩) n cap) := by
  have hc : ∀ t, t < n * m → w.cell? ⟨blk, off + t, none⟩ = some (.int .i64 (rowF m d t)) ∧ w.frozen? ⟨blk, off + t, none⟩ = false := by
    intro t ht
    obtain ⟨h1, h2⟩ := div_lt ht
    have := h t (by rw [size_flatK, hd]; exact ht)
    rw [get_flatK _ _ _ _ (by rw [hd]; exact ht), encM_get _ _ _ h2] at this
    exact this
  refine ⟨⟨_, _, rfl, fun _ => ⟨blk, off, rfl, hB, hb, fun t ht => (hc t ht).1⟩⟩, ?_⟩
  intro g o n' c hv t ht
  simp only [Value.slice.injEq, Option.some.injEq, Addr.mk.injEq] at hv
  obtain ⟨⟨rfl, rfl, _⟩, _, _⟩ := hv
  exact (hc t ht).2
theorem sort_grown (enc : List Int → List Value) (k : Nat) (w : World) (blk off q : Nat) (d : Array (List Int)) (os : Array Obj) : w.grownBy (sortWorldK enc k w blk off q d os) (some blk) := by
  refine ⟨rfl, rfl, rfl, size_sortWorldK_c enc k w blk off q d os, fun i hi hne => ?_⟩
  unfold sortWorldK putRowK putRow grow
  have h1 : i < (mapBlock (Go.Sort.ahead w q) blk (putCells id off (flatK enc k d))).heap.size := by simpa [mapBlock, Go.Sort.ahead] using hi
  show ((mapBlock (Go.Sort.ahead w q) blk (putCells id off (flatK enc k d))).heap ++ os)[i]? = w.heap[i]?
  rw [Array.getElem?_append_left h1]
  simp [mapBlock, Go.Sort.ahead, Array.getElem?_modify]
  intro e
  exact absurd (by rw [e]) hne
theorem extract_all (d : Array (List Int)) (n : Nat) (h : d.size = n) : d.extract 0 n = d := by
  subst h
  simp
theorem cmpCell_lays (blk off size : Nat) (w : World) : CmpLays Tryz.prog 110 #[] (encM 3) 3 (cf2 (fun x => x.getD 0 0) (fun x => x.getD 1 0)) blk off size w :=
  fun _ _ _ _ x y => compareCells_lays (x.getD 0 0) (x.getD 1 0) (x.getD 2 0) (y.getD 0 0) (y.getD 1 0) (y.getD 2 0) _ rfl _
set_option maxHeartbeats 1000000 in
theorem sortCell_is (B n blk off cap : Nat) (F : Nat → Int) (w : World) (h : Row w B 3 n F (.slice (some ⟨blk, off, none⟩) n cap)) (hf : Free w (n * 3) (.slice (some ⟨blk, off, none⟩) n cap)) (hB : B ≤ blk) (hb : blk < w.heap.size) (hn : n ≤ 1048576) :
    Calls Tryz.prog 109 #[.slice (some ⟨blk, off, none⟩) n cap, .func (.func 110) #[] #[]] w fun e w' => e = .returned (.tuple #[]) ∧ ∃ d : Array (List Int), d.size = n ∧ (d.toList.Perm (rowD 3 n F).toList ∧ SortedIn (ltOf (cf2 (fun x => x.getD 0 0) (fun x => x.getD 1 0))) 0 n d) ∧ (Row w' B 3 n (rowF 3 d) (.slice (some ⟨blk, off, none⟩) n cap) ∧ Free w' (n * 3) (.slice (some ⟨blk, off, none⟩) n cap)) ∧ w.grownBy w' (some blk) := by
  have eg : ∀ args w, (callFunc 110 args).run Tryz.prog w = .ok (.enter 110 args) w := enters_of Tryz.func110 (by kernel_rfl) rfl
  have hH := holds_row h hf
  have hcon := AnyQ.slices_SortFunc Tryz.sortCell 3 Tryz.isAgg140 Tryz.sizeOf140 (encM 3) (encM_len 3) (encM_one 3) (cf2 (fun x => x.getD 0 0) (fun x => x.getD 1 0)) (swo_cf2 _ _) 110 #[] blk off cap (rowD 3 n F) w eg (cmpCell_lays blk off _ w) hH hb (by rw [rowD_size]; omega)
  rw [rowD_size] at hcon
  change Calls Tryz.prog 109 _ _ _ at hcon
  refine hcon.mono ?_
  rintro e w' ⟨rfl, d, q, os, ⟨p1, _, p3⟩, hs, rfl⟩
  rw [rowD_size] at p1
  refine ⟨rfl, d, p1, ⟨?_, hs⟩, row_holds p1 hB (Nat.lt_of_lt_of_le hb (size_sortWorldK_c _ _ _ _ _ _ _ _)) (holdsK_sortWorldK_c _ _ _ _ _ (rowD 3 n F) _ _ _ hH hb (by rw [rowD_size, p1])), sort_grown _ _ _ _ _ _ _ _⟩
  rw [extract_all d n p1, extract_all (rowD 3 n F) n (rowD_size _ _ _)] at p3
  exact p3
end

section
open Go.RowKit Go.Sort Go.Shelf Go.Lib
-- Own text. Of one list there is one sorted permutation, where no two are alike: plain facts.
theorem perm_strict {α : Type} {lt : α → α → Prop} (asym : ∀ x y, lt x y → ¬ lt y x) : ∀ {l l' : List α}, l.Perm l' → l.Pairwise lt → l'.Pairwise lt → l = l'
  | [], l', hp, _, _ => (List.nil_perm.1 hp).symm
  | a :: t, l', hp, h, h' => by
    cases l' with
    | nil => exact absurd (List.perm_nil.1 hp) (by simp)
    | cons b t' =>
      have hab : a = b := by
        have ha : a ∈ b :: t' := hp.mem_iff.1 List.mem_cons_self
        have hb : b ∈ a :: t := hp.mem_iff.2 List.mem_cons_self
        rcases List.mem_cons.1 ha with e | ha'
        · exact e
        · rcases List.mem_cons.1 hb with e | hb'
          · exact e.symm
          · exact absurd ((List.pairwise_cons.1 h').1 a ha') (asym a b ((List.pairwise_cons.1 h).1 b hb'))
      subst hab
      rw [perm_strict asym ((List.perm_cons a).1 hp) (List.pairwise_cons.1 h).2 (List.pairwise_cons.1 h').2]
/-- Below, by two numbers. -/
def Lt2 {α : Type} (k s : α → Int) (x y : α) : Prop := k x < k y ∨ k x = k y ∧ s x < s y
theorem Lt2.asym {α : Type} {k s : α → Int} {x y : α} (h : Lt2 k s x y) : ¬ Lt2 k s y x := by
  unfold Lt2 at *
  omega
theorem Lt2.total {α : Type} {k s : α → Int} {x y : α} (h : ¬ Lt2 k s y x) (hn : ¬ (k x = k y ∧ s x = s y)) : Lt2 k s x y := by
  unfold Lt2 at *
  omega
theorem Lt2.ne {α : Type} {k s : α → Int} {x y : α} (h : Lt2 k s x y) : ¬ (k x = k y ∧ s x = s y) := by
  unfold Lt2 at h
  omega
/-- What a sort by two numbers leaves is the list in which they rise, if there is one. -/
theorem sorted_is {k s : List Int → Int} {d : Array (List Int)} {n : Nat} (hd : d.size = n) (hs : SortedIn (ltOf (cf2 k s)) 0 n d) {l : List (List Int)} (hp : d.toList.Perm l) (hl : l.Pairwise (Lt2 k s)) : d.toList = l := by
  refine perm_strict (fun _ _ h => h.asym) hp ?_ hl
  have h1 : l.Pairwise (fun x y => ¬ (k x = k y ∧ s x = s y)) := hl.imp (fun h => h.ne)
  have h2 : d.toList.Pairwise (fun x y => ¬ (k x = k y ∧ s x = s y)) := (hp.pairwise_iff (fun {x y} h q => h ⟨q.1.symm, q.2.symm⟩)).2 h1
  rw [List.pairwise_iff_getElem] at h2 ⊢
  intro i j hi hj hij
  refine Lt2.total ?_ (h2 i j hi hj hij)
  have hi' : i < d.size := by simpa using hi
  have hj' : j < d.size := by simpa using hj
  have h3 := hs i j (Nat.zero_le _) hij (by omega)
  rw [lt_cf2, getElem!_pos d i hi', getElem!_pos d j hj'] at h3
  have h4 := of_decide_eq_false h3
  simpa [Lt2] using h4
end

section
open Go.RowKit Go.Sort Go.Shelf Go.Lib
-- Own text. The structs of a part of a row, as a list: their keys rise; a row that holds that list is the model's row.
/-- The struct number k of a row. -/
def struD (F : Nat → Int) (m k : Nat) : List Int := (List.range m).map fun q => F (k * m + q)
theorem struD_get (F : Nat → Int) (m k q : Nat) (hq : q < m) : (struD F m k).getD q 0 = F (k * m + q) := by simp [struD, hq]
theorem struD_len (F : Nat → Int) (m k : Nat) : (struD F m k).length = m := by simp [struD]
def keepD (F : Nat → Int) (m : Nat) (a b : Int) : Nat → List (List Int)
  | 0 => []
  | k + 1 => keepD F m a b k ++ (if a ≤ F (k * m) ∧ F (k * m) ≤ b then [struD F m k] else [])
theorem keepD_mem {F : Nat → Int} {m : Nat} {a b : Int} {x : List Int} : ∀ {k : Nat}, x ∈ keepD F m a b k → ∃ i, i < k ∧ x = struD F m i
  | 0, h => by simp [keepD] at h
  | k + 1, h => by
    unfold keepD at h
    rcases List.mem_append.1 h with h | h
    · obtain ⟨i, hi, e⟩ := keepD_mem h
      exact ⟨i, by omega, e⟩
    · split at h
      · simp at h
        exact ⟨k, by omega, h⟩
      · simp at h
theorem keepD_rise {F : Nat → Int} {m : Nat} (hm : 2 ≤ m) {a b : Int} {n : Nat} (hr : ∀ j, j < n → ∀ i, i < j → pairLt (F (i * m)) (F (i * m + 1)) (F (j * m)) (F (j * m + 1))) : ∀ k, k ≤ n → (keepD F m a b k).Pairwise (Lt2 (fun x => x.getD 0 0) (fun x => x.getD 1 0))
  | 0, _ => by simp [keepD]
  | k + 1, hk => by
    have ih := keepD_rise hm (a := a) (b := b) hr k (by omega)
    unfold keepD
    split
    · refine List.pairwise_append.2 ⟨ih, by simp, ?_⟩
      intro x hx y hy
      simp at hy
      subst hy
      obtain ⟨i, hi, rfl⟩ := keepD_mem hx
      have := hr k (by omega) i hi
      unfold Lt2
      show (struD F m i).getD 0 0 < (struD F m k).getD 0 0 ∨ (struD F m i).getD 0 0 = (struD F m k).getD 0 0 ∧ (struD F m i).getD 1 0 < (struD F m k).getD 1 0
      rw [struD_get F m i 0 (by omega), struD_get F m k 0 (by omega), struD_get F m i 1 (by omega), struD_get F m k 1 (by omega)]
      exact this
    · rw [List.append_nil]
      exact ih
theorem keepD_flat (F : Nat → Int) (m : Nat) (a b : Int) : ∀ k, (keepD F m a b k).flatten = keepL F m a b k
  | 0 => rfl
  | k + 1 => by
    have ih := keepD_flat F m a b k
    unfold keepD keepL
    rw [List.flatten_append, ih]
    split
    · simp [struD]
    · simp
theorem keepD_len (F : Nat → Int) (m : Nat) (a b : Int) : ∀ k, (keepD F m a b k).length = keepN F m a b k
  | 0 => rfl
  | k + 1 => by
    have ih := keepD_len F m a b k
    unfold keepD keepN
    rw [List.length_append, ih]
    split <;> simp
theorem keepD_all {F : Nat → Int} {m : Nat} {a b : Int} {k : Nat} : ∀ x ∈ keepD F m a b k, x.length = m := fun x hx => by
  obtain ⟨i, _, rfl⟩ := keepD_mem hx
  exact struD_len _ _ _
theorem flat_get {m : Nat} : ∀ (l : List (List Int)) (t : Nat), (∀ x ∈ l, x.length = m) → t < l.length * m → l.flatten.getD t 0 = (l.getD (t / m) []).getD (t % m) 0
  | [], t, _, ht => by simp at ht
  | x :: r, t, hl, ht => by
    have hx : x.length = m := hl x List.mem_cons_self
    have hm : 0 < m := Nat.pos_of_ne_zero (fun e => by subst e; simp at ht)
    rcases Nat.lt_or_ge t m with h | h
    · rw [Nat.div_eq_of_lt h, Nat.mod_eq_of_lt h, List.flatten_cons]
      simp [List.getElem?_append, hx, h]
    · have ih := flat_get r (t - m) (fun y hy => hl y (List.mem_cons_of_mem _ hy)) (by simp only [List.length_cons, Nat.succ_mul] at ht; omega)
      have e1 : t / m = (t - m) / m + 1 := Nat.div_eq_sub_div hm h
      have e2 : t % m = (t - m) % m := Nat.mod_eq_sub_mod h
      have hn : ¬ t < x.length := by omega
      rw [e1, e2, List.flatten_cons]
      rw [List.getD_cons_succ, ← ih]
      simp [List.getElem?_append, hx, Nat.not_lt.2 h]
/-- A row that holds the list is the row that the model answers. -/
theorem keep_row {F : Nat → Int} {m : Nat} {a b : Int} {k : Nat} {d : Array (List Int)} (h : d.toList = keepD F m a b k) (t : Nat) (ht : t < keepN F m a b k * m) : rowF m d t = keepF F m a b k t := by
  unfold keepF rowF
  rw [← keepD_flat, flat_get (m := m) _ t keepD_all (by rw [keepD_len]; exact ht), ← h]
  have h1 : t / m < d.size := by rw [← Array.length_toList, h, keepD_len]; exact (div_lt ht).1
  rw [getElem!_pos d _ h1]
  simp [h1]
end
end Go.Proofs.YtpfmbfmlpoibeaaGreat
