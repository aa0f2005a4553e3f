/-
  Own text. What the law's helpers over a store do: eqStore tells that two equal stores are equal; toStore and szStore over a whole store.
-/
import Derived.Test.YtpfmbfmlpoibeaaGreatColsB
import Derived.Deep.RegionHeld
namespace Go.Proofs.YtpfmbfmlpoibeaaGreat
open Go.RowKit

set_option maxHeartbeats 400000 in
theorem eqCell_same (x0 x1 x2 : Int) (w : World) :
    Calls Tryz.prog 163 #[.agg #[.int .i64 x0, .int .i64 x1, .int .i64 x2], .agg #[.int .i64 x0, .int .i64 x1, .int .i64 x2]] w fun e w' => e = .returned (.bool true) ∧ Below w.heap.size w w' := by
  go_enter Tryz.func163, Tryz.ntmps163
  go_wp2
  go_ret
  exact ⟨rfl, ((Below.refl _ _).alloc (Nat.le_refl _) _).alloc (by simp) _⟩
def TwoCell (w : World) (g o g' o' k : Nat) (F : Nat → Int) (x : World) : Prop := (x.cell? ⟨g, o + k * 3, none⟩ = some (.int .i64 (F (k * 3))) ∧ x.cell? ⟨g, o + k * 3 + 1, none⟩ = some (.int .i64 (F (k * 3 + 1))) ∧ x.cell? ⟨g, o + k * 3 + 2, none⟩ = some (.int .i64 (F (k * 3 + 2))) ∧ x.cell? ⟨g', o' + k * 3, none⟩ = some (.int .i64 (F (k * 3))) ∧ x.cell? ⟨g', o' + k * 3 + 1, none⟩ = some (.int .i64 (F (k * 3 + 1))) ∧ x.cell? ⟨g', o' + k * 3 + 2, none⟩ = some (.int .i64 (F (k * 3 + 2)))) ∧ Below w.heap.size w x
theorem TwoCell.later {w x x' : World} {g o g' o' k : Nat} {F : Nat → Int} (h : TwoCell w g o g' o' k F x) (hg : g < w.heap.size) (hg' : g' < w.heap.size) (hb : Below x.heap.size x x') : TwoCell w g o g' o' k F x' := by
  obtain ⟨⟨hx0, hx1, hx2, hx3, hx4, hx5⟩, hy⟩ := h
  exact ⟨⟨(hb.cell (Nat.lt_of_lt_of_le hg hy.size)).trans hx0, (hb.cell (Nat.lt_of_lt_of_le hg hy.size)).trans hx1, (hb.cell (Nat.lt_of_lt_of_le hg hy.size)).trans hx2, (hb.cell (Nat.lt_of_lt_of_le hg' hy.size)).trans hx3, (hb.cell (Nat.lt_of_lt_of_le hg' hy.size)).trans hx4, (hb.cell (Nat.lt_of_lt_of_le hg' hy.size)).trans hx5⟩, hy.trans (hb.mono hy.size)⟩
set_option maxRecDepth 100000 in
set_option maxHeartbeats 1000000 in
theorem eqCellS_same (va vb : Value) (Ba Bb n : Nat) (F : Nat → Int) (w : World) (ha : Row w Ba 3 n F va) (hb : Row w Bb 3 n F vb) (hn : n ≤ 1048576) :
    Calls Tryz.prog 142 #[va, vb] w fun e w' => e = .returned (.bool true) ∧ Below w.heap.size w w' := by
  obtain ⟨ao, ca, rfl⟩ := ha.form
  obtain ⟨bo, cb, rfl⟩ := hb.form
  have HA : Hid (Row w Ba 3 n F (.slice ao n ca)) := ha
  have HB : Hid (Row w Bb 3 n F (.slice bo n cb)) := hb
  clear ha hb
  go_enter Tryz.func142, Tryz.ntmps142
  go_wp2
  go_loopw [5] (fun i wr => ∃ k : Nat, k ≤ n ∧ i = .int .i64 k ∧ Below w.heap.size w wr) (fun i _ => n - (intOf i).toNat)
  case atStart => exact ⟨0, Nat.zero_le _, rfl, Below.refl _ _⟩
  case round =>
    obtain ⟨k, hk, rfl, hbw⟩ := hrel
    by_cases hlt : k < n
    · obtain ⟨g, o, rfl, _, hg, c0, c1, c2⟩ := HA.out.at3 hlt
      obtain ⟨g', o', rfl, _, hg', d0, d1, d2⟩ := HB.out.at3 hlt
      have h0 : TwoCell w g o g' o' k F wr.drew := ⟨⟨(hbw.cell (p := ⟨g, o + k * 3, none⟩) hg).trans c0, (hbw.cell (p := ⟨g, o + k * 3 + 1, none⟩) hg).trans c1, (hbw.cell (p := ⟨g, o + k * 3 + 2, none⟩) hg).trans c2, (hbw.cell (p := ⟨g', o' + k * 3, none⟩) hg').trans d0, (hbw.cell (p := ⟨g', o' + k * 3 + 1, none⟩) hg').trans d1, (hbw.cell (p := ⟨g', o' + k * 3 + 2, none⟩) hg').trans d2⟩, hbw.drew⟩
      clear c0 d0 c1 d1 c2 d2 hbw
      go_wp2_with fail
      refine wp_region_held_drew (S := TwoCell w g o g' o' k F) (by kernel_rfl) h0 (fun hS => ?_)
      clear h0
      refine wpAnyH_take (i := 0) (v := ?_) rfl (by kernel_rfl) (by kernel_rfl) (by kernel_rfl) (fun _ _ _ h => h) (Or.inl ⟨by kernel_rfl, ?_⟩) hS ?_
      rotate_left
      · intro wx hx
        obtain ⟨⟨hx0, hx1, hx2, hx3, hx4, hx5⟩, _⟩ := hx
        go_simp
        try with_reducible rfl
      refine wpAnyH_take (i := 1) (v := ?_) rfl (by kernel_rfl) (by kernel_rfl) (by kernel_rfl) (fun _ _ _ h => h) (Or.inl ⟨by kernel_rfl, ?_⟩) hS ?_
      rotate_left
      · intro wx hx
        obtain ⟨⟨hx0, hx1, hx2, hx3, hx4, hx5⟩, _⟩ := hx
        go_simp
        try with_reducible rfl
      refine wpAnyH_take (i := 2) (v := ?_) rfl (by kernel_rfl) (by kernel_rfl) (by kernel_rfl) (fun _ _ _ h => h) (Or.inl ⟨by kernel_rfl, ?_⟩) hS ?_
      rotate_left
      · intro wx hx
        obtain ⟨⟨hx0, hx1, hx2, hx3, hx4, hx5⟩, _⟩ := hx
        go_simp
        try with_reducible rfl
      refine wpAnyH_take (i := 3) (v := ?_) rfl (by kernel_rfl) (by kernel_rfl) (by kernel_rfl) (fun _ _ _ h => h) (Or.inl ⟨by kernel_rfl, ?_⟩) hS ?_
      rotate_left
      · intro wx hx
        obtain ⟨⟨hx0, hx1, hx2, hx3, hx4, hx5⟩, _⟩ := hx
        go_simp
        try with_reducible rfl
      refine wpAnyH_take (i := 4) (v := ?_) rfl (by kernel_rfl) (by kernel_rfl) (by kernel_rfl) (fun _ _ _ h => h) (Or.inl ⟨by kernel_rfl, ?_⟩) hS ?_
      rotate_left
      · intro wx hx
        obtain ⟨⟨hx0, hx1, hx2, hx3, hx4, hx5⟩, _⟩ := hx
        go_simp
        try with_reducible rfl
      refine wpAnyH_take (i := 5) (v := ?_) rfl (by kernel_rfl) (by kernel_rfl) (by kernel_rfl) (fun _ _ _ h => h) (Or.inl ⟨by kernel_rfl, ?_⟩) hS ?_
      rotate_left
      · intro wx hx
        obtain ⟨⟨hx0, hx1, hx2, hx3, hx4, hx5⟩, _⟩ := hx
        go_simp
        try with_reducible rfl
      refine wpAnyH_take (i := 6) (v := ?_) rfl (by kernel_rfl) (by kernel_rfl) (by kernel_rfl) (fun _ _ _ h => h) (Or.inl ⟨by kernel_rfl, ?_⟩) hS ?_
      rotate_left
      · intro wx hx
        obtain ⟨⟨hx0, hx1, hx2, hx3, hx4, hx5⟩, _⟩ := hx
        go_simp
        try with_reducible rfl
      refine wpAnyH_take (i := 7) (v := ?_) rfl (by kernel_rfl) (by kernel_rfl) (by kernel_rfl) (fun _ _ _ h => h) (Or.inl ⟨by kernel_rfl, ?_⟩) hS ?_
      rotate_left
      · intro wx hx
        obtain ⟨⟨hx0, hx1, hx2, hx3, hx4, hx5⟩, _⟩ := hx
        go_simp
        try with_reducible rfl
      refine wpAnyH_ready (rs := [8]) (by kernel_rfl) (by simp) ?_
      refine AllReadyH.cons rfl (fun K hK => ?_) AllReadyH.nil
      go_simp
      go_wp2_with fail
      refine (eqCell_same _ _ _ _).mono ?_
      rintro e w' ⟨rfl, hb⟩
      go_wp2_with fail
      refine hK.out _ _ (hS.later hg hg' hb) (fun hS => ?_)
      clear hK K
      refine wpAnyH_take (i := 9) (v := ?_) rfl (by kernel_rfl) (by kernel_rfl) (by kernel_rfl) (fun _ _ _ h => h) (Or.inl ⟨by kernel_rfl, ?_⟩) hS ?_
      rotate_left
      · intro wx hx
        obtain ⟨⟨hx0, hx1, hx2, hx3, hx4, hx5⟩, _⟩ := hx
        go_simp
        try with_reducible rfl
      refine wpAnyH_done (by kernel_rfl) ?_ _
      go_simp
      go_wp2
      go_roundw
      case rel => exact ⟨k + 1, by omega, by go_num, hS.2⟩
      case measure => simp [intOf]; omega
    · go_wp2
      go_ret
      exact ⟨rfl, hbw⟩
set_option maxHeartbeats 400000 in
theorem eqLock_same (x0 x1 x2 x3 x4 : Int) (w : World) :
    Calls Tryz.prog 164 #[.agg #[.int .i64 x0, .int .i64 x1, .int .i64 x2, .int .i64 x3, .int .i64 x4], .agg #[.int .i64 x0, .int .i64 x1, .int .i64 x2, .int .i64 x3, .int .i64 x4]] w fun e w' => e = .returned (.bool true) ∧ Below w.heap.size w w' := by
  go_enter Tryz.func164, Tryz.ntmps164
  go_wp2
  go_ret
  exact ⟨rfl, ((Below.refl _ _).alloc (Nat.le_refl _) _).alloc (by simp) _⟩
def TwoLock (w : World) (g o g' o' k : Nat) (F : Nat → Int) (x : World) : Prop := (x.cell? ⟨g, o + k * 5, none⟩ = some (.int .i64 (F (k * 5))) ∧ x.cell? ⟨g, o + k * 5 + 1, none⟩ = some (.int .i64 (F (k * 5 + 1))) ∧ x.cell? ⟨g, o + k * 5 + 2, none⟩ = some (.int .i64 (F (k * 5 + 2))) ∧ x.cell? ⟨g, o + k * 5 + 3, none⟩ = some (.int .i64 (F (k * 5 + 3))) ∧ x.cell? ⟨g, o + k * 5 + 4, none⟩ = some (.int .i64 (F (k * 5 + 4))) ∧ x.cell? ⟨g', o' + k * 5, none⟩ = some (.int .i64 (F (k * 5))) ∧ x.cell? ⟨g', o' + k * 5 + 1, none⟩ = some (.int .i64 (F (k * 5 + 1))) ∧ x.cell? ⟨g', o' + k * 5 + 2, none⟩ = some (.int .i64 (F (k * 5 + 2))) ∧ x.cell? ⟨g', o' + k * 5 + 3, none⟩ = some (.int .i64 (F (k * 5 + 3))) ∧ x.cell? ⟨g', o' + k * 5 + 4, none⟩ = some (.int .i64 (F (k * 5 + 4)))) ∧ Below w.heap.size w x
theorem TwoLock.later {w x x' : World} {g o g' o' k : Nat} {F : Nat → Int} (h : TwoLock w g o g' o' k F x) (hg : g < w.heap.size) (hg' : g' < w.heap.size) (hb : Below x.heap.size x x') : TwoLock w g o g' o' k F x' := by
  obtain ⟨⟨hx0, hx1, hx2, hx3, hx4, hx5, hx6, hx7, hx8, hx9⟩, hy⟩ := h
  exact ⟨⟨(hb.cell (Nat.lt_of_lt_of_le hg hy.size)).trans hx0, (hb.cell (Nat.lt_of_lt_of_le hg hy.size)).trans hx1, (hb.cell (Nat.lt_of_lt_of_le hg hy.size)).trans hx2, (hb.cell (Nat.lt_of_lt_of_le hg hy.size)).trans hx3, (hb.cell (Nat.lt_of_lt_of_le hg hy.size)).trans hx4, (hb.cell (Nat.lt_of_lt_of_le hg' hy.size)).trans hx5, (hb.cell (Nat.lt_of_lt_of_le hg' hy.size)).trans hx6, (hb.cell (Nat.lt_of_lt_of_le hg' hy.size)).trans hx7, (hb.cell (Nat.lt_of_lt_of_le hg' hy.size)).trans hx8, (hb.cell (Nat.lt_of_lt_of_le hg' hy.size)).trans hx9⟩, hy.trans (hb.mono hy.size)⟩
set_option maxRecDepth 100000 in
set_option maxHeartbeats 1000000 in
theorem eqLockS_same (va vb : Value) (Ba Bb n : Nat) (F : Nat → Int) (w : World) (ha : Row w Ba 5 n F va) (hb : Row w Bb 5 n F vb) (hn : n ≤ 1048576) :
    Calls Tryz.prog 143 #[va, vb] w fun e w' => e = .returned (.bool true) ∧ Below w.heap.size w w' := by
  obtain ⟨ao, ca, rfl⟩ := ha.form
  obtain ⟨bo, cb, rfl⟩ := hb.form
  have HA : Hid (Row w Ba 5 n F (.slice ao n ca)) := ha
  have HB : Hid (Row w Bb 5 n F (.slice bo n cb)) := hb
  clear ha hb
  go_enter Tryz.func143, Tryz.ntmps143
  go_wp2
  go_loopw [5] (fun i wr => ∃ k : Nat, k ≤ n ∧ i = .int .i64 k ∧ Below w.heap.size w wr) (fun i _ => n - (intOf i).toNat)
  case atStart => exact ⟨0, Nat.zero_le _, rfl, Below.refl _ _⟩
  case round =>
    obtain ⟨k, hk, rfl, hbw⟩ := hrel
    by_cases hlt : k < n
    · obtain ⟨g, o, rfl, _, hg, c0, c1, c2, c3, c4⟩ := HA.out.at5 hlt
      obtain ⟨g', o', rfl, _, hg', d0, d1, d2, d3, d4⟩ := HB.out.at5 hlt
      have h0 : TwoLock w g o g' o' k F wr.drew := ⟨⟨(hbw.cell (p := ⟨g, o + k * 5, none⟩) hg).trans c0, (hbw.cell (p := ⟨g, o + k * 5 + 1, none⟩) hg).trans c1, (hbw.cell (p := ⟨g, o + k * 5 + 2, none⟩) hg).trans c2, (hbw.cell (p := ⟨g, o + k * 5 + 3, none⟩) hg).trans c3, (hbw.cell (p := ⟨g, o + k * 5 + 4, none⟩) hg).trans c4, (hbw.cell (p := ⟨g', o' + k * 5, none⟩) hg').trans d0, (hbw.cell (p := ⟨g', o' + k * 5 + 1, none⟩) hg').trans d1, (hbw.cell (p := ⟨g', o' + k * 5 + 2, none⟩) hg').trans d2, (hbw.cell (p := ⟨g', o' + k * 5 + 3, none⟩) hg').trans d3, (hbw.cell (p := ⟨g', o' + k * 5 + 4, none⟩) hg').trans d4⟩, hbw.drew⟩
      clear c0 d0 c1 d1 c2 d2 c3 d3 c4 d4 hbw
      go_wp2_with fail
      refine wp_region_held_drew (S := TwoLock w g o g' o' k F) (by kernel_rfl) h0 (fun hS => ?_)
      clear h0
      refine wpAnyH_take (i := 0) (v := ?_) rfl (by kernel_rfl) (by kernel_rfl) (by kernel_rfl) (fun _ _ _ h => h) (Or.inl ⟨by kernel_rfl, ?_⟩) hS ?_
      rotate_left
      · intro wx hx
        obtain ⟨⟨hx0, hx1, hx2, hx3, hx4, hx5, hx6, hx7, hx8, hx9⟩, _⟩ := hx
        go_simp
        try with_reducible rfl
      refine wpAnyH_take (i := 1) (v := ?_) rfl (by kernel_rfl) (by kernel_rfl) (by kernel_rfl) (fun _ _ _ h => h) (Or.inl ⟨by kernel_rfl, ?_⟩) hS ?_
      rotate_left
      · intro wx hx
        obtain ⟨⟨hx0, hx1, hx2, hx3, hx4, hx5, hx6, hx7, hx8, hx9⟩, _⟩ := hx
        go_simp
        try with_reducible rfl
      refine wpAnyH_take (i := 2) (v := ?_) rfl (by kernel_rfl) (by kernel_rfl) (by kernel_rfl) (fun _ _ _ h => h) (Or.inl ⟨by kernel_rfl, ?_⟩) hS ?_
      rotate_left
      · intro wx hx
        obtain ⟨⟨hx0, hx1, hx2, hx3, hx4, hx5, hx6, hx7, hx8, hx9⟩, _⟩ := hx
        go_simp
        try with_reducible rfl
      refine wpAnyH_take (i := 3) (v := ?_) rfl (by kernel_rfl) (by kernel_rfl) (by kernel_rfl) (fun _ _ _ h => h) (Or.inl ⟨by kernel_rfl, ?_⟩) hS ?_
      rotate_left
      · intro wx hx
        obtain ⟨⟨hx0, hx1, hx2, hx3, hx4, hx5, hx6, hx7, hx8, hx9⟩, _⟩ := hx
        go_simp
        try with_reducible rfl
      refine wpAnyH_take (i := 4) (v := ?_) rfl (by kernel_rfl) (by kernel_rfl) (by kernel_rfl) (fun _ _ _ h => h) (Or.inl ⟨by kernel_rfl, ?_⟩) hS ?_
      rotate_left
      · intro wx hx
        obtain ⟨⟨hx0, hx1, hx2, hx3, hx4, hx5, hx6, hx7, hx8, hx9⟩, _⟩ := hx
        go_simp
        try with_reducible rfl
      refine wpAnyH_take (i := 5) (v := ?_) rfl (by kernel_rfl) (by kernel_rfl) (by kernel_rfl) (fun _ _ _ h => h) (Or.inl ⟨by kernel_rfl, ?_⟩) hS ?_
      rotate_left
      · intro wx hx
        obtain ⟨⟨hx0, hx1, hx2, hx3, hx4, hx5, hx6, hx7, hx8, hx9⟩, _⟩ := hx
        go_simp
        try with_reducible rfl
      refine wpAnyH_take (i := 6) (v := ?_) rfl (by kernel_rfl) (by kernel_rfl) (by kernel_rfl) (fun _ _ _ h => h) (Or.inl ⟨by kernel_rfl, ?_⟩) hS ?_
      rotate_left
      · intro wx hx
        obtain ⟨⟨hx0, hx1, hx2, hx3, hx4, hx5, hx6, hx7, hx8, hx9⟩, _⟩ := hx
        go_simp
        try with_reducible rfl
      refine wpAnyH_take (i := 7) (v := ?_) rfl (by kernel_rfl) (by kernel_rfl) (by kernel_rfl) (fun _ _ _ h => h) (Or.inl ⟨by kernel_rfl, ?_⟩) hS ?_
      rotate_left
      · intro wx hx
        obtain ⟨⟨hx0, hx1, hx2, hx3, hx4, hx5, hx6, hx7, hx8, hx9⟩, _⟩ := hx
        go_simp
        try with_reducible rfl
      refine wpAnyH_ready (rs := [8]) (by kernel_rfl) (by simp) ?_
      refine AllReadyH.cons rfl (fun K hK => ?_) AllReadyH.nil
      go_simp
      go_wp2_with fail
      refine (eqLock_same _ _ _ _ _ _).mono ?_
      rintro e w' ⟨rfl, hb⟩
      go_wp2_with fail
      refine hK.out _ _ (hS.later hg hg' hb) (fun hS => ?_)
      clear hK K
      refine wpAnyH_take (i := 9) (v := ?_) rfl (by kernel_rfl) (by kernel_rfl) (by kernel_rfl) (fun _ _ _ h => h) (Or.inl ⟨by kernel_rfl, ?_⟩) hS ?_
      rotate_left
      · intro wx hx
        obtain ⟨⟨hx0, hx1, hx2, hx3, hx4, hx5, hx6, hx7, hx8, hx9⟩, _⟩ := hx
        go_simp
        try with_reducible rfl
      refine wpAnyH_done (by kernel_rfl) ?_ _
      go_simp
      go_wp2
      go_roundw
      case rel => exact ⟨k + 1, by omega, by go_num, hS.2⟩
      case measure => simp [intOf]; omega
    · go_wp2
      go_ret
      exact ⟨rfl, hbw⟩
set_option maxHeartbeats 400000 in
theorem eqWrite_same (x0 x1 x2 x3 : Int) (w : World) :
    Calls Tryz.prog 165 #[.agg #[.int .i64 x0, .int .i64 x1, .int .i64 x2, .int .i64 x3], .agg #[.int .i64 x0, .int .i64 x1, .int .i64 x2, .int .i64 x3]] w fun e w' => e = .returned (.bool true) ∧ Below w.heap.size w w' := by
  go_enter Tryz.func165, Tryz.ntmps165
  go_wp2
  go_ret
  exact ⟨rfl, ((Below.refl _ _).alloc (Nat.le_refl _) _).alloc (by simp) _⟩
def TwoWrite (w : World) (g o g' o' k : Nat) (F : Nat → Int) (x : World) : Prop := (x.cell? ⟨g, o + k * 4, none⟩ = some (.int .i64 (F (k * 4))) ∧ x.cell? ⟨g, o + k * 4 + 1, none⟩ = some (.int .i64 (F (k * 4 + 1))) ∧ x.cell? ⟨g, o + k * 4 + 2, none⟩ = some (.int .i64 (F (k * 4 + 2))) ∧ x.cell? ⟨g, o + k * 4 + 3, none⟩ = some (.int .i64 (F (k * 4 + 3))) ∧ x.cell? ⟨g', o' + k * 4, none⟩ = some (.int .i64 (F (k * 4))) ∧ x.cell? ⟨g', o' + k * 4 + 1, none⟩ = some (.int .i64 (F (k * 4 + 1))) ∧ x.cell? ⟨g', o' + k * 4 + 2, none⟩ = some (.int .i64 (F (k * 4 + 2))) ∧ x.cell? ⟨g', o' + k * 4 + 3, none⟩ = some (.int .i64 (F (k * 4 + 3)))) ∧ Below w.heap.size w x
theorem TwoWrite.later {w x x' : World} {g o g' o' k : Nat} {F : Nat → Int} (h : TwoWrite w g o g' o' k F x) (hg : g < w.heap.size) (hg' : g' < w.heap.size) (hb : Below x.heap.size x x') : TwoWrite w g o g' o' k F x' := by
  obtain ⟨⟨hx0, hx1, hx2, hx3, hx4, hx5, hx6, hx7⟩, hy⟩ := h
  exact ⟨⟨(hb.cell (Nat.lt_of_lt_of_le hg hy.size)).trans hx0, (hb.cell (Nat.lt_of_lt_of_le hg hy.size)).trans hx1, (hb.cell (Nat.lt_of_lt_of_le hg hy.size)).trans hx2, (hb.cell (Nat.lt_of_lt_of_le hg hy.size)).trans hx3, (hb.cell (Nat.lt_of_lt_of_le hg' hy.size)).trans hx4, (hb.cell (Nat.lt_of_lt_of_le hg' hy.size)).trans hx5, (hb.cell (Nat.lt_of_lt_of_le hg' hy.size)).trans hx6, (hb.cell (Nat.lt_of_lt_of_le hg' hy.size)).trans hx7⟩, hy.trans (hb.mono hy.size)⟩
set_option maxRecDepth 100000 in
set_option maxHeartbeats 1000000 in
theorem eqWriteS_same (va vb : Value) (Ba Bb n : Nat) (F : Nat → Int) (w : World) (ha : Row w Ba 4 n F va) (hb : Row w Bb 4 n F vb) (hn : n ≤ 1048576) :
    Calls Tryz.prog 144 #[va, vb] w fun e w' => e = .returned (.bool true) ∧ Below w.heap.size w w' := by
  obtain ⟨ao, ca, rfl⟩ := ha.form
  obtain ⟨bo, cb, rfl⟩ := hb.form
  have HA : Hid (Row w Ba 4 n F (.slice ao n ca)) := ha
  have HB : Hid (Row w Bb 4 n F (.slice bo n cb)) := hb
  clear ha hb
  go_enter Tryz.func144, Tryz.ntmps144
  go_wp2
  go_loopw [5] (fun i wr => ∃ k : Nat, k ≤ n ∧ i = .int .i64 k ∧ Below w.heap.size w wr) (fun i _ => n - (intOf i).toNat)
  case atStart => exact ⟨0, Nat.zero_le _, rfl, Below.refl _ _⟩
  case round =>
    obtain ⟨k, hk, rfl, hbw⟩ := hrel
    by_cases hlt : k < n
    · obtain ⟨g, o, rfl, _, hg, c0, c1, c2, c3⟩ := HA.out.at4 hlt
      obtain ⟨g', o', rfl, _, hg', d0, d1, d2, d3⟩ := HB.out.at4 hlt
      have h0 : TwoWrite w g o g' o' k F wr.drew := ⟨⟨(hbw.cell (p := ⟨g, o + k * 4, none⟩) hg).trans c0, (hbw.cell (p := ⟨g, o + k * 4 + 1, none⟩) hg).trans c1, (hbw.cell (p := ⟨g, o + k * 4 + 2, none⟩) hg).trans c2, (hbw.cell (p := ⟨g, o + k * 4 + 3, none⟩) hg).trans c3, (hbw.cell (p := ⟨g', o' + k * 4, none⟩) hg').trans d0, (hbw.cell (p := ⟨g', o' + k * 4 + 1, none⟩) hg').trans d1, (hbw.cell (p := ⟨g', o' + k * 4 + 2, none⟩) hg').trans d2, (hbw.cell (p := ⟨g', o' + k * 4 + 3, none⟩) hg').trans d3⟩, hbw.drew⟩
      clear c0 d0 c1 d1 c2 d2 c3 d3 hbw
      go_wp2_with fail
      refine wp_region_held_drew (S := TwoWrite w g o g' o' k F) (by kernel_rfl) h0 (fun hS => ?_)
      clear h0
      refine wpAnyH_take (i := 0) (v := ?_) rfl (by kernel_rfl) (by kernel_rfl) (by kernel_rfl) (fun _ _ _ h => h) (Or.inl ⟨by kernel_rfl, ?_⟩) hS ?_
      rotate_left
      · intro wx hx
        obtain ⟨⟨hx0, hx1, hx2, hx3, hx4, hx5, hx6, hx7⟩, _⟩ := hx
        go_simp
        try with_reducible rfl
      refine wpAnyH_take (i := 1) (v := ?_) rfl (by kernel_rfl) (by kernel_rfl) (by kernel_rfl) (fun _ _ _ h => h) (Or.inl ⟨by kernel_rfl, ?_⟩) hS ?_
      rotate_left
      · intro wx hx
        obtain ⟨⟨hx0, hx1, hx2, hx3, hx4, hx5, hx6, hx7⟩, _⟩ := hx
        go_simp
        try with_reducible rfl
      refine wpAnyH_take (i := 2) (v := ?_) rfl (by kernel_rfl) (by kernel_rfl) (by kernel_rfl) (fun _ _ _ h => h) (Or.inl ⟨by kernel_rfl, ?_⟩) hS ?_
      rotate_left
      · intro wx hx
        obtain ⟨⟨hx0, hx1, hx2, hx3, hx4, hx5, hx6, hx7⟩, _⟩ := hx
        go_simp
        try with_reducible rfl
      refine wpAnyH_take (i := 3) (v := ?_) rfl (by kernel_rfl) (by kernel_rfl) (by kernel_rfl) (fun _ _ _ h => h) (Or.inl ⟨by kernel_rfl, ?_⟩) hS ?_
      rotate_left
      · intro wx hx
        obtain ⟨⟨hx0, hx1, hx2, hx3, hx4, hx5, hx6, hx7⟩, _⟩ := hx
        go_simp
        try with_reducible rfl
      refine wpAnyH_take (i := 4) (v := ?_) rfl (by kernel_rfl) (by kernel_rfl) (by kernel_rfl) (fun _ _ _ h => h) (Or.inl ⟨by kernel_rfl, ?_⟩) hS ?_
      rotate_left
      · intro wx hx
        obtain ⟨⟨hx0, hx1, hx2, hx3, hx4, hx5, hx6, hx7⟩, _⟩ := hx
        go_simp
        try with_reducible rfl
      refine wpAnyH_take (i := 5) (v := ?_) rfl (by kernel_rfl) (by kernel_rfl) (by kernel_rfl) (fun _ _ _ h => h) (Or.inl ⟨by kernel_rfl, ?_⟩) hS ?_
      rotate_left
      · intro wx hx
        obtain ⟨⟨hx0, hx1, hx2, hx3, hx4, hx5, hx6, hx7⟩, _⟩ := hx
        go_simp
        try with_reducible rfl
      refine wpAnyH_take (i := 6) (v := ?_) rfl (by kernel_rfl) (by kernel_rfl) (by kernel_rfl) (fun _ _ _ h => h) (Or.inl ⟨by kernel_rfl, ?_⟩) hS ?_
      rotate_left
      · intro wx hx
        obtain ⟨⟨hx0, hx1, hx2, hx3, hx4, hx5, hx6, hx7⟩, _⟩ := hx
        go_simp
        try with_reducible rfl
      refine wpAnyH_take (i := 7) (v := ?_) rfl (by kernel_rfl) (by kernel_rfl) (by kernel_rfl) (fun _ _ _ h => h) (Or.inl ⟨by kernel_rfl, ?_⟩) hS ?_
      rotate_left
      · intro wx hx
        obtain ⟨⟨hx0, hx1, hx2, hx3, hx4, hx5, hx6, hx7⟩, _⟩ := hx
        go_simp
        try with_reducible rfl
      refine wpAnyH_ready (rs := [8]) (by kernel_rfl) (by simp) ?_
      refine AllReadyH.cons rfl (fun K hK => ?_) AllReadyH.nil
      go_simp
      go_wp2_with fail
      refine (eqWrite_same _ _ _ _ _).mono ?_
      rintro e w' ⟨rfl, hb⟩
      go_wp2_with fail
      refine hK.out _ _ (hS.later hg hg' hb) (fun hS => ?_)
      clear hK K
      refine wpAnyH_take (i := 9) (v := ?_) rfl (by kernel_rfl) (by kernel_rfl) (by kernel_rfl) (fun _ _ _ h => h) (Or.inl ⟨by kernel_rfl, ?_⟩) hS ?_
      rotate_left
      · intro wx hx
        obtain ⟨⟨hx0, hx1, hx2, hx3, hx4, hx5, hx6, hx7⟩, _⟩ := hx
        go_simp
        try with_reducible rfl
      refine wpAnyH_done (by kernel_rfl) ?_ _
      go_simp
      go_wp2
      go_roundw
      case rel => exact ⟨k + 1, by omega, by go_num, hS.2⟩
      case measure => simp [intOf]; omega
    · go_wp2
      go_ret
      exact ⟨rfl, hbw⟩
end Go.Proofs.YtpfmbfmlpoibeaaGreat
