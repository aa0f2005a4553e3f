/-
  Own text. The walk of the law FnKeys: over every code of bytes it returns true and turns nothing that was there.
-/
import Derived.Test.YtdfknnhdnojfdaaDoorFnKeysW
namespace Go.Proofs.YtdfknnhdnojfdaaDoor
open Go.RowKit

/-- What a region of the law holds: up to six cells, and that nothing old has turned. -/
def Six (w0 : World) (b1 b2 b3 : Nat) (x1 y1 x2 y2 x3 y3 : Value) (x : World) : Prop :=
  x.cell? ⟨b1, 0, none⟩ = some x1 ∧ x.cell? ⟨b1, 1, none⟩ = some y1 ∧ x.cell? ⟨b2, 0, none⟩ = some x2 ∧ x.cell? ⟨b2, 1, none⟩ = some y2 ∧ x.cell? ⟨b3, 0, none⟩ = some x3 ∧ x.cell? ⟨b3, 1, none⟩ = some y3 ∧ Below w0.heap.size w0 x
theorem Six.later {w0 x x' : World} {b1 b2 b3 : Nat} {x1 y1 x2 y2 x3 y3 : Value} (h : Six w0 b1 b2 b3 x1 y1 x2 y2 x3 y3 x) (hb : Below x.heap.size x x') : Six w0 b1 b2 b3 x1 y1 x2 y2 x3 y3 x' := by
  obtain ⟨h1, h2, h3, h4, h5, h6, h7⟩ := h
  exact ⟨(hb.cell (p := ⟨b1, 0, none⟩) (lt_of_cell h1)).trans h1, (hb.cell (p := ⟨b1, 1, none⟩) (lt_of_cell h2)).trans h2, (hb.cell (p := ⟨b2, 0, none⟩) (lt_of_cell h3)).trans h3, (hb.cell (p := ⟨b2, 1, none⟩) (lt_of_cell h4)).trans h4, (hb.cell (p := ⟨b3, 0, none⟩) (lt_of_cell h5)).trans h5, (hb.cell (p := ⟨b3, 1, none⟩) (lt_of_cell h6)).trans h6, h7.trans (hb.mono h7.size)⟩

set_option maxRecDepth 100000 in
set_option maxHeartbeats 4000000 in
theorem fnKeys_walk (o : Option Addr) (len cap : Nat) (w : World) (h : Code w o len) (hl0 : len ≤ maxLen) :
    Calls Tryd.prog 3 #[.slice o len cap] w fun e w' => e = .returned (.bool true) ∧ Below w.heap.size w w' := by
  unfold maxLen at hl0
  have H : Hid (Code w o len) := h
  clear h
  by_cases hbig : 1048576 < (len : Int)
  · go_enter Tryd.func3, Tryd.ntmps3
    go_wp2_with (first | (go_at_call 4; go_in) | fail)
    go_ret
    exact ⟨rfl, Below.refl _ _⟩
  have hl : len ≤ 1048576 := by omega
  have d0 : decide (1048576 < (len : Int)) = false := decide_eq_false hbig
  have ft0 := field_text0
  have ft1 := field_text1
  have fi0 := field_int0
  have fi1 := field_int1
  have fp0 := field_parts0
  have fs0 := field_ints0
  go_enter Tryd.func3, Tryd.ntmps3
  go_wp2_with (first | (go_at_call 4; go_in) | fail)
  refine (drawParseKey_any _ o len cap H.out hl).mono ?_
  rintro e w1 ⟨s, rfl, b1⟩
  have B1 : Hid (Below w.heap.size w w1) := b1
  have zz1 : w.heap.size ≤ w1.heap.size := b1.size
  clear b1
  go_wp2_with fail
  refine (implParse_any s _).mono ?_
  rintro e w2 ⟨c, v, rfl, hP, rfl⟩
  have HP : Hid (ParseIs s c v) := hP
  clear hP
  go_upto_region 5 with fail
  go_cut [42] (fun x wx => x = .bool false ∧ Below w.heap.size w wx)
  case first =>
    rcases HP.out with ⟨rfl, hf, ht⟩ | ⟨rfl, rfl, hno⟩
    · have HT : Hid (∀ w, Calls Tryd.prog 7 #[.int .i64 v] w fun e w' => e = .returned (.agg #[.int .i64 0, .string s]) ∧ Below w.heap.size w w') := fun w => by
        have := implKeyText_any v w
        rw [hf, keyTx_ok hf, ht] at this
        exact this
      clear hf ht HP
      refine wp_region_held_drew (S := Six w (w1.heap.size + 1) (w1.heap.size + 1) (w1.heap.size + 1) (.int .i64 0) (.int .i64 v) (.int .i64 0) (.int .i64 v) (.int .i64 0) (.int .i64 v)) (by kernel_rfl) ⟨by simp, by simp, by simp, by simp, by simp, by simp, ((B1.out.alloc zz1 _).alloc (by simp; omega) _).drew⟩ (fun hS => ?_)
      refine wpAnyH_take (i := 0) (v := ?_) rfl (by kernel_rfl) (by kernel_rfl) (by kernel_rfl) (fun _ _ _ h => h) (Or.inl ⟨by kernel_rfl, ?_⟩) hS ?_
      rotate_left
      · intro wx hx
        obtain ⟨hx0, hx1, hx2, hx3, hx4, hx5, hx6⟩ := hx
        go_simp
        try with_reducible rfl
      refine wpAnyH_take (i := 1) (v := ?_) rfl (by kernel_rfl) (by kernel_rfl) (by kernel_rfl) (fun _ _ _ h => h) (Or.inl ⟨by kernel_rfl, ?_⟩) hS ?_
      rotate_left
      · intro wx hx
        obtain ⟨hx0, hx1, hx2, hx3, hx4, hx5, hx6⟩ := hx
        go_simp
        try with_reducible rfl
      refine wpAnyH_take (i := 2) (v := ?_) rfl (by kernel_rfl) (by kernel_rfl) (by kernel_rfl) (fun _ _ _ h => h) (Or.inl ⟨by kernel_rfl, ?_⟩) hS ?_
      rotate_left
      · intro wx hx
        obtain ⟨hx0, hx1, hx2, hx3, hx4, hx5, hx6⟩ := hx
        go_simp
        try with_reducible rfl
      refine wpAnyH_take (i := 3) (v := ?_) rfl (by kernel_rfl) (by kernel_rfl) (by kernel_rfl) (fun _ _ _ h => h) (Or.inl ⟨by kernel_rfl, ?_⟩) hS ?_
      rotate_left
      · intro wx hx
        obtain ⟨hx0, hx1, hx2, hx3, hx4, hx5, hx6⟩ := hx
        go_simp
        try with_reducible rfl
      refine wpAnyH_take (i := 4) (v := ?_) rfl (by kernel_rfl) (by kernel_rfl) (by kernel_rfl) (fun _ _ _ h => h) (Or.inl ⟨by kernel_rfl, ?_⟩) hS ?_
      rotate_left
      · intro wx hx
        obtain ⟨hx0, hx1, hx2, hx3, hx4, hx5, hx6⟩ := hx
        go_simp
        try with_reducible rfl
      refine wpAnyH_take (i := 5) (v := ?_) rfl (by kernel_rfl) (by kernel_rfl) (by kernel_rfl) (fun _ _ _ h => h) (Or.inl ⟨by kernel_rfl, ?_⟩) hS ?_
      rotate_left
      · intro wx hx
        obtain ⟨hx0, hx1, hx2, hx3, hx4, hx5, hx6⟩ := hx
        go_simp
        try with_reducible rfl
      refine wpAnyH_take (i := 8) (v := ?_) rfl (by kernel_rfl) (by kernel_rfl) (by kernel_rfl) (fun _ _ _ h => h) (Or.inl ⟨by kernel_rfl, ?_⟩) hS ?_
      rotate_left
      · intro wx hx
        obtain ⟨hx0, hx1, hx2, hx3, hx4, hx5, hx6⟩ := hx
        go_simp
        try with_reducible rfl
      refine wpAnyH_ready (rs := [6]) (by kernel_rfl) (by simp) ?_
      refine AllReadyH.cons rfl (fun K hK => ?_) AllReadyH.nil
      go_simp
      go_wp2_with fail
      refine (HT.out _).mono ?_
      rintro e w' ⟨rfl, hb⟩
      go_wp2_with fail
      refine hK.out _ _ (hS.later hb) (fun hS => ?_)
      clear hK K
      refine wpAnyH_take (i := 7) (v := ?_) rfl (by kernel_rfl) (by kernel_rfl) (by kernel_rfl) (fun _ _ _ h => h) (Or.inl ⟨by kernel_rfl, ?_⟩) hS ?_
      rotate_left
      · intro wx hx
        obtain ⟨hx0, hx1, hx2, hx3, hx4, hx5, hx6⟩ := hx
        go_simp
        try with_reducible rfl
      refine wpAnyH_take (i := 9) (v := ?_) rfl (by kernel_rfl) (by kernel_rfl) (by kernel_rfl) (fun _ _ _ h => h) (Or.inl ⟨by kernel_rfl, ?_⟩) hS ?_
      rotate_left
      · intro wx hx
        obtain ⟨hx0, hx1, hx2, hx3, hx4, hx5, hx6⟩ := hx
        go_simp
        try with_reducible rfl
      refine wpAnyH_take (i := 10) (v := ?_) rfl (by kernel_rfl) (by kernel_rfl) (by kernel_rfl) (fun _ _ _ h => h) (Or.inl ⟨by kernel_rfl, ?_⟩) hS ?_
      rotate_left
      · intro wx hx
        obtain ⟨hx0, hx1, hx2, hx3, hx4, hx5, hx6⟩ := hx
        go_simp
        try with_reducible rfl
      refine wpAnyH_take (i := 11) (v := ?_) rfl (by kernel_rfl) (by kernel_rfl) (by kernel_rfl) (fun _ _ _ h => h) (Or.inl ⟨by kernel_rfl, ?_⟩) hS ?_
      rotate_left
      · intro wx hx
        obtain ⟨hx0, hx1, hx2, hx3, hx4, hx5, hx6⟩ := hx
        go_simp
        try with_reducible rfl
      refine wpAnyH_take (i := 12) (v := ?_) rfl (by kernel_rfl) (by kernel_rfl) (by kernel_rfl) (fun _ _ _ h => h) (Or.inl ⟨by kernel_rfl, ?_⟩) hS ?_
      rotate_left
      · intro wx hx
        obtain ⟨hx0, hx1, hx2, hx3, hx4, hx5, hx6⟩ := hx
        go_simp
        try with_reducible rfl
      refine wpAnyH_take (i := 13) (v := ?_) rfl (by kernel_rfl) (by kernel_rfl) (by kernel_rfl) (fun _ _ _ h => h) (Or.inl ⟨by kernel_rfl, ?_⟩) hS ?_
      rotate_left
      · intro wx hx
        obtain ⟨hx0, hx1, hx2, hx3, hx4, hx5, hx6⟩ := hx
        go_simp
        try with_reducible rfl
      refine wpAnyH_take (i := 14) (v := ?_) rfl (by kernel_rfl) (by kernel_rfl) (by kernel_rfl) (fun _ _ _ h => h) (Or.inl ⟨by kernel_rfl, ?_⟩) hS ?_
      rotate_left
      · intro wx hx
        obtain ⟨hx0, hx1, hx2, hx3, hx4, hx5, hx6⟩ := hx
        go_simp
        try with_reducible rfl
      refine wpAnyH_take (i := 15) (v := ?_) rfl (by kernel_rfl) (by kernel_rfl) (by kernel_rfl) (fun _ _ _ h => h) (Or.inl ⟨by kernel_rfl, ?_⟩) hS ?_
      rotate_left
      · intro wx hx
        obtain ⟨hx0, hx1, hx2, hx3, hx4, hx5, hx6⟩ := hx
        go_simp
        try with_reducible rfl
      refine wpAnyH_take (i := 16) (v := undef) rfl (by kernel_rfl) (by kernel_rfl) (by kernel_rfl) (fun _ _ _ h => h) (Or.inr ⟨by kernel_rfl, rfl⟩) hS ?_
      refine wpAnyH_take (i := 19) (v := undef) rfl (by kernel_rfl) (by kernel_rfl) (by kernel_rfl) (fun _ _ _ h => h) (Or.inr ⟨by kernel_rfl, rfl⟩) hS ?_
      refine wpAnyH_take (i := 20) (v := undef) rfl (by kernel_rfl) (by kernel_rfl) (by kernel_rfl) (fun _ _ _ h => h) (Or.inr ⟨by kernel_rfl, rfl⟩) hS ?_
      refine wpAnyH_take (i := 17) (v := undef) rfl (by kernel_rfl) (by kernel_rfl) (by kernel_rfl) (fun _ _ _ h => h) (Or.inr ⟨by kernel_rfl, rfl⟩) hS ?_
      refine wpAnyH_take (i := 18) (v := undef) rfl (by kernel_rfl) (by kernel_rfl) (by kernel_rfl) (fun _ _ _ h => h) (Or.inr ⟨by kernel_rfl, rfl⟩) hS ?_
      refine wpAnyH_take (i := 21) (v := undef) rfl (by kernel_rfl) (by kernel_rfl) (by kernel_rfl) (fun _ _ _ h => h) (Or.inr ⟨by kernel_rfl, rfl⟩) hS ?_
      refine wpAnyH_take (i := 22) (v := ?_) rfl (by kernel_rfl) (by kernel_rfl) (by kernel_rfl) (fun _ _ _ h => h) (Or.inl ⟨by kernel_rfl, ?_⟩) hS ?_
      rotate_left
      · intro wx hx
        obtain ⟨hx0, hx1, hx2, hx3, hx4, hx5, hx6⟩ := hx
        go_simp
        try with_reducible rfl
      refine wpAnyH_take (i := 23) (v := ?_) rfl (by kernel_rfl) (by kernel_rfl) (by kernel_rfl) (fun _ _ _ h => h) (Or.inl ⟨by kernel_rfl, ?_⟩) hS ?_
      rotate_left
      · intro wx hx
        obtain ⟨hx0, hx1, hx2, hx3, hx4, hx5, hx6⟩ := hx
        go_simp
        try with_reducible rfl
      refine wpAnyH_done (by kernel_rfl) ?_ _
      go_simp
      go_step
      go_meet
      case rel => exact ⟨rfl, hS.2.2.2.2.2.2⟩
    · have HT : Hid (∀ w, Calls Tryd.prog 8 #[.string s] w fun e w' => e = .returned (.agg #[.int .i64 5, .int .i64 0]) ∧ Below w.heap.size w w') := fun w =>
        (specParse_any s w).mono fun e w' ⟨c', v', he, hp, hb⟩ => by
          obtain ⟨rfl, rfl⟩ := ParseIs.one (show ParseIs s 5 0 from Or.inr ⟨rfl, rfl, hno⟩) hp
          exact ⟨he, hb⟩
      clear hno HP
      refine wp_region_held_drew (S := Six w (w1.heap.size + 1) (w1.heap.size + 1) (w1.heap.size + 1) (.int .i64 5) (.int .i64 0) (.int .i64 5) (.int .i64 0) (.int .i64 5) (.int .i64 0)) (by kernel_rfl) ⟨by simp, by simp, by simp, by simp, by simp, by simp, ((B1.out.alloc zz1 _).alloc (by simp; omega) _).drew⟩ (fun hS => ?_)
      refine wpAnyH_take (i := 0) (v := ?_) rfl (by kernel_rfl) (by kernel_rfl) (by kernel_rfl) (fun _ _ _ h => h) (Or.inl ⟨by kernel_rfl, ?_⟩) hS ?_
      rotate_left
      · intro wx hx
        obtain ⟨hx0, hx1, hx2, hx3, hx4, hx5, hx6⟩ := hx
        go_simp
        try with_reducible rfl
      refine wpAnyH_take (i := 1) (v := ?_) rfl (by kernel_rfl) (by kernel_rfl) (by kernel_rfl) (fun _ _ _ h => h) (Or.inl ⟨by kernel_rfl, ?_⟩) hS ?_
      rotate_left
      · intro wx hx
        obtain ⟨hx0, hx1, hx2, hx3, hx4, hx5, hx6⟩ := hx
        go_simp
        try with_reducible rfl
      refine wpAnyH_take (i := 2) (v := ?_) rfl (by kernel_rfl) (by kernel_rfl) (by kernel_rfl) (fun _ _ _ h => h) (Or.inl ⟨by kernel_rfl, ?_⟩) hS ?_
      rotate_left
      · intro wx hx
        obtain ⟨hx0, hx1, hx2, hx3, hx4, hx5, hx6⟩ := hx
        go_simp
        try with_reducible rfl
      refine wpAnyH_take (i := 3) (v := ?_) rfl (by kernel_rfl) (by kernel_rfl) (by kernel_rfl) (fun _ _ _ h => h) (Or.inl ⟨by kernel_rfl, ?_⟩) hS ?_
      rotate_left
      · intro wx hx
        obtain ⟨hx0, hx1, hx2, hx3, hx4, hx5, hx6⟩ := hx
        go_simp
        try with_reducible rfl
      refine wpAnyH_take (i := 4) (v := undef) rfl (by kernel_rfl) (by kernel_rfl) (by kernel_rfl) (fun _ _ _ h => h) (Or.inr ⟨by kernel_rfl, rfl⟩) hS ?_
      refine wpAnyH_take (i := 5) (v := undef) rfl (by kernel_rfl) (by kernel_rfl) (by kernel_rfl) (fun _ _ _ h => h) (Or.inr ⟨by kernel_rfl, rfl⟩) hS ?_
      refine wpAnyH_take (i := 8) (v := undef) rfl (by kernel_rfl) (by kernel_rfl) (by kernel_rfl) (fun _ _ _ h => h) (Or.inr ⟨by kernel_rfl, rfl⟩) hS ?_
      refine wpAnyH_take (i := 6) (v := undef) rfl (by kernel_rfl) (by kernel_rfl) (by kernel_rfl) (fun _ _ _ h => h) (Or.inr ⟨by kernel_rfl, rfl⟩) hS ?_
      refine wpAnyH_take (i := 7) (v := undef) rfl (by kernel_rfl) (by kernel_rfl) (by kernel_rfl) (fun _ _ _ h => h) (Or.inr ⟨by kernel_rfl, rfl⟩) hS ?_
      refine wpAnyH_take (i := 9) (v := undef) rfl (by kernel_rfl) (by kernel_rfl) (by kernel_rfl) (fun _ _ _ h => h) (Or.inr ⟨by kernel_rfl, rfl⟩) hS ?_
      refine wpAnyH_take (i := 10) (v := ?_) rfl (by kernel_rfl) (by kernel_rfl) (by kernel_rfl) (fun _ _ _ h => h) (Or.inl ⟨by kernel_rfl, ?_⟩) hS ?_
      rotate_left
      · intro wx hx
        obtain ⟨hx0, hx1, hx2, hx3, hx4, hx5, hx6⟩ := hx
        go_simp
        try with_reducible rfl
      refine wpAnyH_take (i := 11) (v := ?_) rfl (by kernel_rfl) (by kernel_rfl) (by kernel_rfl) (fun _ _ _ h => h) (Or.inl ⟨by kernel_rfl, ?_⟩) hS ?_
      rotate_left
      · intro wx hx
        obtain ⟨hx0, hx1, hx2, hx3, hx4, hx5, hx6⟩ := hx
        go_simp
        try with_reducible rfl
      refine wpAnyH_take (i := 12) (v := ?_) rfl (by kernel_rfl) (by kernel_rfl) (by kernel_rfl) (fun _ _ _ h => h) (Or.inl ⟨by kernel_rfl, ?_⟩) hS ?_
      rotate_left
      · intro wx hx
        obtain ⟨hx0, hx1, hx2, hx3, hx4, hx5, hx6⟩ := hx
        go_simp
        try with_reducible rfl
      refine wpAnyH_take (i := 13) (v := ?_) rfl (by kernel_rfl) (by kernel_rfl) (by kernel_rfl) (fun _ _ _ h => h) (Or.inl ⟨by kernel_rfl, ?_⟩) hS ?_
      rotate_left
      · intro wx hx
        obtain ⟨hx0, hx1, hx2, hx3, hx4, hx5, hx6⟩ := hx
        go_simp
        try with_reducible rfl
      refine wpAnyH_take (i := 14) (v := ?_) rfl (by kernel_rfl) (by kernel_rfl) (by kernel_rfl) (fun _ _ _ h => h) (Or.inl ⟨by kernel_rfl, ?_⟩) hS ?_
      rotate_left
      · intro wx hx
        obtain ⟨hx0, hx1, hx2, hx3, hx4, hx5, hx6⟩ := hx
        go_simp
        try with_reducible rfl
      refine wpAnyH_take (i := 15) (v := ?_) rfl (by kernel_rfl) (by kernel_rfl) (by kernel_rfl) (fun _ _ _ h => h) (Or.inl ⟨by kernel_rfl, ?_⟩) hS ?_
      rotate_left
      · intro wx hx
        obtain ⟨hx0, hx1, hx2, hx3, hx4, hx5, hx6⟩ := hx
        go_simp
        try with_reducible rfl
      refine wpAnyH_take (i := 16) (v := ?_) rfl (by kernel_rfl) (by kernel_rfl) (by kernel_rfl) (fun _ _ _ h => h) (Or.inl ⟨by kernel_rfl, ?_⟩) hS ?_
      rotate_left
      · intro wx hx
        obtain ⟨hx0, hx1, hx2, hx3, hx4, hx5, hx6⟩ := hx
        go_simp
        try with_reducible rfl
      refine wpAnyH_take (i := 19) (v := ?_) rfl (by kernel_rfl) (by kernel_rfl) (by kernel_rfl) (fun _ _ _ h => h) (Or.inl ⟨by kernel_rfl, ?_⟩) hS ?_
      rotate_left
      · intro wx hx
        obtain ⟨hx0, hx1, hx2, hx3, hx4, hx5, hx6⟩ := hx
        go_simp
        try with_reducible rfl
      refine wpAnyH_take (i := 20) (v := ?_) rfl (by kernel_rfl) (by kernel_rfl) (by kernel_rfl) (fun _ _ _ h => h) (Or.inl ⟨by kernel_rfl, ?_⟩) hS ?_
      rotate_left
      · intro wx hx
        obtain ⟨hx0, hx1, hx2, hx3, hx4, hx5, hx6⟩ := hx
        go_simp
        try with_reducible rfl
      refine wpAnyH_ready (rs := [17]) (by kernel_rfl) (by simp) ?_
      refine AllReadyH.cons rfl (fun K hK => ?_) AllReadyH.nil
      go_simp
      go_wp2_with fail
      refine (HT.out _).mono ?_
      rintro e w' ⟨rfl, hb⟩
      go_wp2_with fail
      refine hK.out _ _ (hS.later hb) (fun hS => ?_)
      clear hK K
      refine wpAnyH_take (i := 18) (v := ?_) rfl (by kernel_rfl) (by kernel_rfl) (by kernel_rfl) (fun _ _ _ h => h) (Or.inl ⟨by kernel_rfl, ?_⟩) hS ?_
      rotate_left
      · intro wx hx
        obtain ⟨hx0, hx1, hx2, hx3, hx4, hx5, hx6⟩ := hx
        go_simp
        try with_reducible rfl
      refine wpAnyH_take (i := 21) (v := ?_) rfl (by kernel_rfl) (by kernel_rfl) (by kernel_rfl) (fun _ _ _ h => h) (Or.inl ⟨by kernel_rfl, ?_⟩) hS ?_
      rotate_left
      · intro wx hx
        obtain ⟨hx0, hx1, hx2, hx3, hx4, hx5, hx6⟩ := hx
        go_simp
        try with_reducible rfl
      refine wpAnyH_take (i := 22) (v := ?_) rfl (by kernel_rfl) (by kernel_rfl) (by kernel_rfl) (fun _ _ _ h => h) (Or.inl ⟨by kernel_rfl, ?_⟩) hS ?_
      rotate_left
      · intro wx hx
        obtain ⟨hx0, hx1, hx2, hx3, hx4, hx5, hx6⟩ := hx
        go_simp
        try with_reducible rfl
      refine wpAnyH_take (i := 23) (v := ?_) rfl (by kernel_rfl) (by kernel_rfl) (by kernel_rfl) (fun _ _ _ h => h) (Or.inl ⟨by kernel_rfl, ?_⟩) hS ?_
      rotate_left
      · intro wx hx
        obtain ⟨hx0, hx1, hx2, hx3, hx4, hx5, hx6⟩ := hx
        go_simp
        try with_reducible rfl
      refine wpAnyH_done (by kernel_rfl) ?_ _
      go_simp
      go_step
      go_meet
      case rel => exact ⟨rfl, hS.2.2.2.2.2.2⟩
  case rest =>
    obtain ⟨rfl, hB⟩ := hcut
    have B2 : Hid (Below w.heap.size w wc) := hB
    clear hB HP
    go_wp2_with fail
    refine (drawPartsOf_any _ o len cap (H.out.later B2.out) hl).mono ?_
    rintro e w3 ⟨k, rfl, k0, k1, b3⟩
    have B3 : Hid (Below w.heap.size w w3) := B2.out.trans (b3.mono B2.out.size)
    have zz3 : w.heap.size ≤ w3.heap.size := B3.out.size
    clear b3 B2 zz1 B1
    by_cases hf : faultOf k = 0
    · obtain ⟨pk, hpk⟩ : ∃ x, partK k = x := ⟨_, rfl⟩
      obtain ⟨pa, hpa⟩ : ∃ x, partA k = x := ⟨_, rfl⟩
      obtain ⟨pb, hpb⟩ : ∃ x, partB k = x := ⟨_, rfl⟩
      obtain ⟨tx, htx⟩ : ∃ x, textOf k = x := ⟨_, rfl⟩
      have HPt : Hid (∀ w, Calls Tryd.prog 10 #[.int .i64 k] w fun e w' => e = .returned (.agg #[.int .i64 0, .int .i64 pk, .int .i64 pa, .int .i64 pb]) ∧ w' = w.alloc (.cells #[.int .i64 0, .int .i64 pk, .int .i64 pa, .int .i64 pb] 33)) := fun w => by
        have := implPartsOf_any k w; unfold partsVal partsObj at this; rw [hf, hpk, hpa, hpb] at this; exact this
      have HKo : Hid (∀ w, Calls Tryd.prog 13 #[.int .i64 pk, .int .i64 pa, .int .i64 pb] w fun e w' => e = .returned (.agg #[.int .i64 0, .int .i64 k]) ∧ w' = w.alloc (.cells #[.int .i64 0, .int .i64 k] 26)) := fun w => by
        have := implKeyOf_any pk pa pb w; rw [← hpk, ← hpa, ← hpb, ofBoth_parts hf, hpk, hpa, hpb] at this; exact this
      have HKt : Hid (∀ w, Calls Tryd.prog 7 #[.int .i64 k] w fun e w' => e = .returned (.agg #[.int .i64 0, .string tx]) ∧ Below w.heap.size w w') := fun w => by
        have := implKeyText_any k w; rw [hf, keyTx_ok hf, htx] at this; exact this
      have HPk : Hid (∀ w, Calls Tryd.prog 6 #[.string tx] w fun e w' => e = .returned (.agg #[.int .i64 0, .int .i64 k]) ∧ w' = w.alloc (.cells #[.int .i64 0, .int .i64 k] 26)) := fun w =>
        (implParse_any tx w).mono fun e w' ⟨c', v', he, hp, hb⟩ => by
          obtain ⟨rfl, rfl⟩ := ParseIs.one (show ParseIs tx 0 k from Or.inl ⟨rfl, hf, htx⟩) hp
          exact ⟨he, hb⟩
      have ztx : decide (0 < (tx.size : Int)) = true := decide_eq_true (by have := (text_size hf).1; rw [htx] at this; omega)
      have ztn : 0 < tx.size := by have := (text_size hf).1; rw [htx] at this; omega
      have ztd : decide (0 < tx.size) = true := decide_eq_true ztn
      have Hf : Hid (faultOf k = 0) := hf
      clear hf hpk hpa hpb htx
      go_wp2_with fail
      refine (HPt.out _).mono ?_
      rintro e w' ⟨rfl, rfl⟩
      go_wp2_with fail
      refine (HKo.out _).mono ?_
      rintro e w' ⟨rfl, rfl⟩
      go_wp2_with fail
      have B4 : Hid (Below w.heap.size w ((((w3.alloc (.cells #[.int .i64 0, .int .i64 pk, .int .i64 pa, .int .i64 pb] 33)).alloc (.cells #[.int .i64 0, .int .i64 pk, .int .i64 pa, .int .i64 pb] 33)).alloc (.cells #[.int .i64 0, .int .i64 k] 26)).alloc (.cells #[.int .i64 0, .int .i64 k] 26))) := (((B3.out.alloc zz3 _).alloc (by simp; omega) _).alloc (by simp; omega) _).alloc (by simp; omega) _
      refine (drawKeysIn_any _ o len cap (H.out.later B4.out) hl).mono ?_
      rintro e w5 ⟨f, t, rfl, b5⟩
      simp only [World.size_alloc] at b5
      have T70 : w5.cell? ⟨w3.heap.size + 1 + 1 + 1, 0, none⟩ = some (.int .i64 0) := by
        have q := World.cell?_alloc_mark (((w3.alloc (.cells #[.int .i64 0, .int .i64 pk, .int .i64 pa, .int .i64 pb] 33)).alloc (.cells #[.int .i64 0, .int .i64 pk, .int .i64 pa, .int .i64 pb] 33)).alloc (.cells #[.int .i64 0, .int .i64 k] 26)) #[.int .i64 0, .int .i64 k] 26 (0, 0) 0
        simp only [World.size_alloc] at q
        exact (b5.cell (p := ⟨w3.heap.size + 1 + 1 + 1, 0, none⟩) (by simp)).trans q
      have T71 : w5.cell? ⟨w3.heap.size + 1 + 1 + 1, 1, none⟩ = some (.int .i64 k) := by
        have q := World.cell?_alloc_mark (((w3.alloc (.cells #[.int .i64 0, .int .i64 pk, .int .i64 pa, .int .i64 pb] 33)).alloc (.cells #[.int .i64 0, .int .i64 pk, .int .i64 pa, .int .i64 pb] 33)).alloc (.cells #[.int .i64 0, .int .i64 k] 26)) #[.int .i64 0, .int .i64 k] 26 (0, 0) 1
        simp only [World.size_alloc] at q
        exact (b5.cell (p := ⟨w3.heap.size + 1 + 1 + 1, 1, none⟩) (by simp)).trans q
      have B5 : Hid (Below w.heap.size w w5) := B4.out.trans (b5.mono (by omega))
      clear b5 B4 HPt HKo
      generalize w3.heap.size + 1 + 1 + 1 = g7 at *
      obtain ⟨c, L, hL, hmem, hall, hSk, hIk⟩ := keysIn_info f t
      have Hmem : Hid (∀ x ∈ L, f ≤ x ∧ x < t ∧ faultOf x = 0) := hmem
      have Hall : Hid (c = 0 → ∀ x, faultOf x = 0 → f ≤ x → x < t → x ∈ L) := hall
      clear hmem hall
      go_wp2_with fail
      refine (hIk.out _).mono ?_
      rintro e w6 ⟨vl, rfl, i6, b6⟩
      obtain ⟨ol, cl, rfl⟩ := i6.form
      have S70 : w6.cell? ⟨g7, 0, none⟩ = some (.int .i64 0) := (b6.cell (p := ⟨g7, 0, none⟩) (lt_of_cell T70)).trans T70
      have S71 : w6.cell? ⟨g7, 1, none⟩ = some (.int .i64 k) := (b6.cell (p := ⟨g7, 1, none⟩) (lt_of_cell T71)).trans T71
      have B6 : Hid (Below w.heap.size w w6) := B5.out.trans (b6.mono B5.out.size)
      have I6 : Hid (Ints w6 w5.heap.size (.slice ol L.length cl) L) := i6
      have zz6 : w.heap.size ≤ w6.heap.size := B6.out.size
      have z7 : g7 < w6.heap.size := lt_of_cell S70
      clear i6 b6 T70 T71 B5 hIk
      go_wp2_with fail
      go_loop [11] (fun i => ∃ n : Nat, n ≤ L.length ∧ i = .int .i64 n) (fun i => L.length - (intOf i).toNat)
      case atStart => exact ⟨0, Nat.zero_le _, rfl⟩
      case round =>
        obtain ⟨n, hn, rfl⟩ := hrel
        by_cases hlt : n < L.length
        · obtain ⟨x, hx⟩ : ∃ x, L[n] = x := ⟨_, rfl⟩
          obtain ⟨g, rfl, _, hc, _⟩ := I6.out.at hlt
          rw [hx] at hc
          have hm := Hmem.out x (hx ▸ List.getElem_mem hlt)
          have HF : Hid (∀ w, Calls Tryd.prog 12 #[.int .i64 x] w fun e w' => e = .returned (.int .i64 0) ∧ w' = w) := fun w => by have := keyFault_any x w; rw [hm.2.2] at this; exact this
          have dl : decide (x < f) = false := decide_eq_false (by omega)
          have dg : decide (t ≤ x) = false := decide_eq_false (by omega)
          have zg : g < w6.heap.size := lt_of_cell hc
          clear hx hm
          go_wp2_with fail
          refine (HF.out _).mono ?_
          rintro e w' ⟨rfl, rfl⟩
          go_wp2_with fail
          go_round
          case rel => exact ⟨n + 1, by omega, by go_num⟩
          case measure => simp [intOf]; omega
        · go_wp2_with fail
          refine (HKt.out _).mono ?_
          rintro e w8 ⟨rfl, b8⟩
          simp only [World.size_alloc] at b8
          have R70 : w8.cell? ⟨g7, 0, none⟩ = some (.int .i64 0) := by rw [b8.cell (by simp; omega)]; exact (World.cell?_alloc_lt _ _ _ z7).trans S70
          have R71 : w8.cell? ⟨g7, 1, none⟩ = some (.int .i64 k) := by rw [b8.cell (by simp; omega)]; exact (World.cell?_alloc_lt _ _ _ z7).trans S71
          have Ra0 : w8.cell? ⟨w6.heap.size, 0, none⟩ = some (.int .i64 c) := by rw [b8.cell (by simp)]; exact World.cell?_alloc_mark w6 _ _ _ 0
          have Ra1 : w8.cell? ⟨w6.heap.size, 1, none⟩ = some (.slice ol L.length cl) := by rw [b8.cell (by simp)]; exact World.cell?_alloc_mark w6 _ _ _ 1
          have I8 : Hid (Ints w8 w5.heap.size (.slice ol L.length cl) L) := (I6.out.alloc _).later (by rw [World.size_alloc]; exact b8)
          have B8 : Hid (Below w.heap.size w w8) := (B6.out.alloc zz6 _).trans (b8.mono (by omega))
          have z8 : w6.heap.size < w8.heap.size := lt_of_cell Ra0
          have z87 : g7 < w8.heap.size := lt_of_cell R70
          have zz8 : w.heap.size ≤ w8.heap.size := B8.out.size
          clear b8 S70 S71 I6 B6 HKt
          generalize w6.heap.size = g10 at *
          by_cases hc0 : c = 0
          · subst hc0
            by_cases hfk : f ≤ k
            · have dfk : decide (f ≤ k) = true := decide_eq_true hfk
              by_cases hkt : k < t
              · have dkt : decide (k < t) = true := decide_eq_true hkt
                have HR : Hid (decide (k ∈ L) = true) := decide_eq_true (Hall.out rfl k Hf.out hfk hkt)
                go_wp2_with fail
                refine wp_region_held_drew (S := fun x => Six w g7 w8.heap.size g10 (.int .i64 0) (.int .i64 k) (.int .i64 0) (.string tx) (.int .i64 0) (.slice ol L.length cl) x ∧ Ints x w5.heap.size (.slice ol L.length cl) L) (by kernel_rfl) ⟨⟨(World.cell?_alloc_lt _ _ _ z87).trans R70, (World.cell?_alloc_lt _ _ _ z87).trans R71, World.cell?_alloc_mark w8 _ _ _ 0, World.cell?_alloc_mark w8 _ _ _ 1, (World.cell?_alloc_lt _ _ _ z8).trans Ra0, (World.cell?_alloc_lt _ _ _ z8).trans Ra1, (B8.out.alloc zz8 _).drew⟩, I8.out.alloc _⟩ (fun hS => ?_)
                refine wpAnyH_take (i := 0) (v := ?_) rfl (by kernel_rfl) (by kernel_rfl) (by kernel_rfl) (fun _ _ _ h => h) (Or.inl ⟨by kernel_rfl, ?_⟩) hS ?_
                rotate_left
                · intro wx hx
                  obtain ⟨⟨hx0, hx1, hx2, hx3, hx4, hx5, hx6⟩, hx7⟩ := hx
                  clear hx6 hx7
                  go_simp
                  try with_reducible rfl
                refine wpAnyH_take (i := 1) (v := ?_) rfl (by kernel_rfl) (by kernel_rfl) (by kernel_rfl) (fun _ _ _ h => h) (Or.inl ⟨by kernel_rfl, ?_⟩) hS ?_
                rotate_left
                · intro wx hx
                  obtain ⟨⟨hx0, hx1, hx2, hx3, hx4, hx5, hx6⟩, hx7⟩ := hx
                  clear hx6 hx7
                  go_simp
                  try with_reducible rfl
                refine wpAnyH_take (i := 2) (v := ?_) rfl (by kernel_rfl) (by kernel_rfl) (by kernel_rfl) (fun _ _ _ h => h) (Or.inl ⟨by kernel_rfl, ?_⟩) hS ?_
                rotate_left
                · intro wx hx
                  obtain ⟨⟨hx0, hx1, hx2, hx3, hx4, hx5, hx6⟩, hx7⟩ := hx
                  clear hx6 hx7
                  go_simp
                  try with_reducible rfl
                refine wpAnyH_take (i := 3) (v := ?_) rfl (by kernel_rfl) (by kernel_rfl) (by kernel_rfl) (fun _ _ _ h => h) (Or.inl ⟨by kernel_rfl, ?_⟩) hS ?_
                rotate_left
                · intro wx hx
                  obtain ⟨⟨hx0, hx1, hx2, hx3, hx4, hx5, hx6⟩, hx7⟩ := hx
                  clear hx6 hx7
                  go_simp
                  try with_reducible rfl
                refine wpAnyH_take (i := 4) (v := ?_) rfl (by kernel_rfl) (by kernel_rfl) (by kernel_rfl) (fun _ _ _ h => h) (Or.inl ⟨by kernel_rfl, ?_⟩) hS ?_
                rotate_left
                · intro wx hx
                  obtain ⟨⟨hx0, hx1, hx2, hx3, hx4, hx5, hx6⟩, hx7⟩ := hx
                  clear hx6 hx7
                  go_simp
                  try with_reducible rfl
                refine wpAnyH_take (i := 5) (v := ?_) rfl (by kernel_rfl) (by kernel_rfl) (by kernel_rfl) (fun _ _ _ h => h) (Or.inl ⟨by kernel_rfl, ?_⟩) hS ?_
                rotate_left
                · intro wx hx
                  obtain ⟨⟨hx0, hx1, hx2, hx3, hx4, hx5, hx6⟩, hx7⟩ := hx
                  clear hx6 hx7
                  go_simp
                  try with_reducible rfl
                refine wpAnyH_take (i := 6) (v := ?_) rfl (by kernel_rfl) (by kernel_rfl) (by kernel_rfl) (fun _ _ _ h => h) (Or.inl ⟨by kernel_rfl, ?_⟩) hS ?_
                rotate_left
                · intro wx hx
                  obtain ⟨⟨hx0, hx1, hx2, hx3, hx4, hx5, hx6⟩, hx7⟩ := hx
                  clear hx6 hx7
                  go_simp
                  try with_reducible rfl
                refine wpAnyH_take (i := 7) (v := ?_) rfl (by kernel_rfl) (by kernel_rfl) (by kernel_rfl) (fun _ _ _ h => h) (Or.inl ⟨by kernel_rfl, ?_⟩) hS ?_
                rotate_left
                · intro wx hx
                  obtain ⟨⟨hx0, hx1, hx2, hx3, hx4, hx5, hx6⟩, hx7⟩ := hx
                  clear hx6 hx7
                  go_simp
                  try with_reducible rfl
                refine wpAnyH_take (i := 8) (v := ?_) rfl (by kernel_rfl) (by kernel_rfl) (by kernel_rfl) (fun _ _ _ h => h) (Or.inl ⟨by kernel_rfl, ?_⟩) hS ?_
                rotate_left
                · intro wx hx
                  obtain ⟨⟨hx0, hx1, hx2, hx3, hx4, hx5, hx6⟩, hx7⟩ := hx
                  clear hx6 hx7
                  go_simp
                  try with_reducible rfl
                refine wpAnyH_take (i := 9) (v := ?_) rfl (by kernel_rfl) (by kernel_rfl) (by kernel_rfl) (fun _ _ _ h => h) (Or.inl ⟨by kernel_rfl, ?_⟩) hS ?_
                rotate_left
                · intro wx hx
                  obtain ⟨⟨hx0, hx1, hx2, hx3, hx4, hx5, hx6⟩, hx7⟩ := hx
                  clear hx6 hx7
                  go_simp
                  try with_reducible rfl
                refine wpAnyH_take (i := 10) (v := ?_) rfl (by kernel_rfl) (by kernel_rfl) (by kernel_rfl) (fun _ _ _ h => h) (Or.inl ⟨by kernel_rfl, ?_⟩) hS ?_
                rotate_left
                · intro wx hx
                  obtain ⟨⟨hx0, hx1, hx2, hx3, hx4, hx5, hx6⟩, hx7⟩ := hx
                  clear hx6 hx7
                  go_simp
                  try with_reducible rfl
                refine wpAnyH_take (i := 11) (v := ?_) rfl (by kernel_rfl) (by kernel_rfl) (by kernel_rfl) (fun _ _ _ h => h) (Or.inl ⟨by kernel_rfl, ?_⟩) hS ?_
                rotate_left
                · intro wx hx
                  obtain ⟨⟨hx0, hx1, hx2, hx3, hx4, hx5, hx6⟩, hx7⟩ := hx
                  clear hx6 hx7
                  go_simp
                  try with_reducible rfl
                refine wpAnyH_take (i := 12) (v := ?_) rfl (by kernel_rfl) (by kernel_rfl) (by kernel_rfl) (fun _ _ _ h => h) (Or.inl ⟨by kernel_rfl, ?_⟩) hS ?_
                rotate_left
                · intro wx hx
                  obtain ⟨⟨hx0, hx1, hx2, hx3, hx4, hx5, hx6⟩, hx7⟩ := hx
                  clear hx6 hx7
                  go_simp
                  try with_reducible rfl
                refine wpAnyH_take (i := 13) (v := ?_) rfl (by kernel_rfl) (by kernel_rfl) (by kernel_rfl) (fun _ _ _ h => h) (Or.inl ⟨by kernel_rfl, ?_⟩) hS ?_
                rotate_left
                · intro wx hx
                  obtain ⟨⟨hx0, hx1, hx2, hx3, hx4, hx5, hx6⟩, hx7⟩ := hx
                  clear hx6 hx7
                  go_simp
                  try with_reducible rfl
                refine wpAnyH_take (i := 14) (v := ?_) rfl (by kernel_rfl) (by kernel_rfl) (by kernel_rfl) (fun _ _ _ h => h) (Or.inl ⟨by kernel_rfl, ?_⟩) hS ?_
                rotate_left
                · intro wx hx
                  obtain ⟨⟨hx0, hx1, hx2, hx3, hx4, hx5, hx6⟩, hx7⟩ := hx
                  clear hx6 hx7
                  go_simp
                  try with_reducible rfl
                refine wpAnyH_take (i := 15) (v := ?_) rfl (by kernel_rfl) (by kernel_rfl) (by kernel_rfl) (fun _ _ _ h => h) (Or.inl ⟨by kernel_rfl, ?_⟩) hS ?_
                rotate_left
                · intro wx hx
                  obtain ⟨⟨hx0, hx1, hx2, hx3, hx4, hx5, hx6⟩, hx7⟩ := hx
                  clear hx6 hx7
                  go_simp
                  try with_reducible rfl
                refine wpAnyH_take (i := 16) (v := ?_) rfl (by kernel_rfl) (by kernel_rfl) (by kernel_rfl) (fun _ _ _ h => h) (Or.inl ⟨by kernel_rfl, ?_⟩) hS ?_
                rotate_left
                · intro wx hx
                  obtain ⟨⟨hx0, hx1, hx2, hx3, hx4, hx5, hx6⟩, hx7⟩ := hx
                  clear hx6 hx7
                  go_simp
                  try with_reducible rfl
                refine wpAnyH_take (i := 17) (v := ?_) rfl (by kernel_rfl) (by kernel_rfl) (by kernel_rfl) (fun _ _ _ h => h) (Or.inl ⟨by kernel_rfl, ?_⟩) hS ?_
                rotate_left
                · intro wx hx
                  obtain ⟨⟨hx0, hx1, hx2, hx3, hx4, hx5, hx6⟩, hx7⟩ := hx
                  clear hx6 hx7
                  go_simp
                  try with_reducible rfl
                refine wpAnyH_take (i := 18) (v := ?_) rfl (by kernel_rfl) (by kernel_rfl) (by kernel_rfl) (fun _ _ _ h => h) (Or.inl ⟨by kernel_rfl, ?_⟩) hS ?_
                rotate_left
                · intro wx hx
                  obtain ⟨⟨hx0, hx1, hx2, hx3, hx4, hx5, hx6⟩, hx7⟩ := hx
                  clear hx6 hx7
                  go_simp
                  try with_reducible rfl
                refine wpAnyH_take (i := 19) (v := ?_) rfl (by kernel_rfl) (by kernel_rfl) (by kernel_rfl) (fun _ _ _ h => h) (Or.inl ⟨by kernel_rfl, ?_⟩) hS ?_
                rotate_left
                · intro wx hx
                  obtain ⟨⟨hx0, hx1, hx2, hx3, hx4, hx5, hx6⟩, hx7⟩ := hx
                  clear hx6 hx7
                  go_simp
                  try with_reducible rfl
                refine wpAnyH_take (i := 20) (v := ?_) rfl (by kernel_rfl) (by kernel_rfl) (by kernel_rfl) (fun _ _ _ h => h) (Or.inl ⟨by kernel_rfl, ?_⟩) hS ?_
                rotate_left
                · intro wx hx
                  obtain ⟨⟨hx0, hx1, hx2, hx3, hx4, hx5, hx6⟩, hx7⟩ := hx
                  clear hx6 hx7
                  go_simp
                  try with_reducible rfl
                refine wpAnyH_take (i := 21) (v := ?_) rfl (by kernel_rfl) (by kernel_rfl) (by kernel_rfl) (fun _ _ _ h => h) (Or.inl ⟨by kernel_rfl, ?_⟩) hS ?_
                rotate_left
                · intro wx hx
                  obtain ⟨⟨hx0, hx1, hx2, hx3, hx4, hx5, hx6⟩, hx7⟩ := hx
                  clear hx6 hx7
                  go_simp
                  try with_reducible rfl
                refine wpAnyH_take (i := 22) (v := ?_) rfl (by kernel_rfl) (by kernel_rfl) (by kernel_rfl) (fun _ _ _ h => h) (Or.inl ⟨by kernel_rfl, ?_⟩) hS ?_
                rotate_left
                · intro wx hx
                  obtain ⟨⟨hx0, hx1, hx2, hx3, hx4, hx5, hx6⟩, hx7⟩ := hx
                  clear hx6 hx7
                  go_simp
                  try with_reducible rfl
                refine wpAnyH_take (i := 25) (v := ?_) rfl (by kernel_rfl) (by kernel_rfl) (by kernel_rfl) (fun _ _ _ h => h) (Or.inl ⟨by kernel_rfl, ?_⟩) hS ?_
                rotate_left
                · intro wx hx
                  obtain ⟨⟨hx0, hx1, hx2, hx3, hx4, hx5, hx6⟩, hx7⟩ := hx
                  clear hx6 hx7
                  go_simp
                  try with_reducible rfl
                refine wpAnyH_ready (rs := [23]) (by kernel_rfl) (by simp) ?_
                refine AllReadyH.cons rfl (fun K hK => ?_) AllReadyH.nil
                go_simp
                go_wp2_with fail
                refine (HPk.out _).mono ?_
                rintro e w' ⟨rfl, rfl⟩
                go_wp2_with fail
                refine hK.out _ _ ⟨hS.1.later ((Below.refl _ _).alloc (Nat.le_refl _) _), hS.2.alloc _⟩ (fun hS => ?_)
                clear hK K
                refine wpAnyH_take (i := 24) (v := ?_) rfl (by kernel_rfl) (by kernel_rfl) (by kernel_rfl) (fun _ _ _ h => h) (Or.inl ⟨by kernel_rfl, ?_⟩) hS ?_
                rotate_left
                · intro wx hx
                  obtain ⟨⟨hx0, hx1, hx2, hx3, hx4, hx5, hx6⟩, hx7⟩ := hx
                  clear hx6 hx7
                  go_simp
                  try with_reducible rfl
                refine wpAnyH_take (i := 26) (v := ?_) rfl (by kernel_rfl) (by kernel_rfl) (by kernel_rfl) (fun _ _ _ h => h) (Or.inl ⟨by kernel_rfl, ?_⟩) hS ?_
                rotate_left
                · intro wx hx
                  obtain ⟨⟨hx0, hx1, hx2, hx3, hx4, hx5, hx6⟩, hx7⟩ := hx
                  clear hx6 hx7
                  go_simp
                  try with_reducible rfl
                refine wpAnyH_take (i := 27) (v := ?_) rfl (by kernel_rfl) (by kernel_rfl) (by kernel_rfl) (fun _ _ _ h => h) (Or.inl ⟨by kernel_rfl, ?_⟩) hS ?_
                rotate_left
                · intro wx hx
                  obtain ⟨⟨hx0, hx1, hx2, hx3, hx4, hx5, hx6⟩, hx7⟩ := hx
                  clear hx6 hx7
                  go_simp
                  try with_reducible rfl
                refine wpAnyH_take (i := 28) (v := ?_) rfl (by kernel_rfl) (by kernel_rfl) (by kernel_rfl) (fun _ _ _ h => h) (Or.inl ⟨by kernel_rfl, ?_⟩) hS ?_
                rotate_left
                · intro wx hx
                  obtain ⟨⟨hx0, hx1, hx2, hx3, hx4, hx5, hx6⟩, hx7⟩ := hx
                  clear hx6 hx7
                  go_simp
                  try with_reducible rfl
                refine wpAnyH_take (i := 29) (v := ?_) rfl (by kernel_rfl) (by kernel_rfl) (by kernel_rfl) (fun _ _ _ h => h) (Or.inl ⟨by kernel_rfl, ?_⟩) hS ?_
                rotate_left
                · intro wx hx
                  obtain ⟨⟨hx0, hx1, hx2, hx3, hx4, hx5, hx6⟩, hx7⟩ := hx
                  clear hx6 hx7
                  go_simp
                  try with_reducible rfl
                refine wpAnyH_take (i := 30) (v := ?_) rfl (by kernel_rfl) (by kernel_rfl) (by kernel_rfl) (fun _ _ _ h => h) (Or.inl ⟨by kernel_rfl, ?_⟩) hS ?_
                rotate_left
                · intro wx hx
                  obtain ⟨⟨hx0, hx1, hx2, hx3, hx4, hx5, hx6⟩, hx7⟩ := hx
                  clear hx6 hx7
                  go_simp
                  try with_reducible rfl
                refine wpAnyH_take (i := 31) (v := ?_) rfl (by kernel_rfl) (by kernel_rfl) (by kernel_rfl) (fun _ _ _ h => h) (Or.inl ⟨by kernel_rfl, ?_⟩) hS ?_
                rotate_left
                · intro wx hx
                  obtain ⟨⟨hx0, hx1, hx2, hx3, hx4, hx5, hx6⟩, hx7⟩ := hx
                  clear hx6 hx7
                  go_simp
                  try with_reducible rfl
                refine wpAnyH_take (i := 32) (v := ?_) rfl (by kernel_rfl) (by kernel_rfl) (by kernel_rfl) (fun _ _ _ h => h) (Or.inl ⟨by kernel_rfl, ?_⟩) hS ?_
                rotate_left
                · intro wx hx
                  obtain ⟨⟨hx0, hx1, hx2, hx3, hx4, hx5, hx6⟩, hx7⟩ := hx
                  clear hx6 hx7
                  go_simp
                  try with_reducible rfl
                refine wpAnyH_ready (rs := [33]) (by kernel_rfl) (by simp) ?_
                refine AllReadyH.cons rfl (fun K hK => ?_) AllReadyH.nil
                go_simp
                go_wp2_with fail
                refine (hSk.out _).mono ?_
                rintro e w' ⟨vs, rfl, is, hb⟩
                obtain ⟨os, cs, rfl⟩ := is.form
                clear is
                go_wp2_with fail
                refine hK.out _ _ ⟨hS.1.later hb, hS.2.later hb⟩ (fun hS => ?_)
                clear hK K
                refine wpAnyH_take (i := 34) (v := ?_) rfl (by kernel_rfl) (by kernel_rfl) (by kernel_rfl) (fun _ _ _ h => h) (Or.inl ⟨by kernel_rfl, ?_⟩) hS ?_
                rotate_left
                · intro wx hx
                  obtain ⟨⟨hx0, hx1, hx2, hx3, hx4, hx5, hx6⟩, hx7⟩ := hx
                  clear hx6 hx7
                  go_simp
                  try with_reducible rfl
                refine wpAnyH_take (i := 35) (v := ?_) rfl (by kernel_rfl) (by kernel_rfl) (by kernel_rfl) (fun _ _ _ h => h) (Or.inl ⟨by kernel_rfl, ?_⟩) hS ?_
                rotate_left
                · intro wx hx
                  obtain ⟨⟨hx0, hx1, hx2, hx3, hx4, hx5, hx6⟩, hx7⟩ := hx
                  clear hx6 hx7
                  go_simp
                  try with_reducible rfl
                refine wpAnyH_take (i := 36) (v := ?_) rfl (by kernel_rfl) (by kernel_rfl) (by kernel_rfl) (fun _ _ _ h => h) (Or.inl ⟨by kernel_rfl, ?_⟩) hS ?_
                rotate_left
                · intro wx hx
                  obtain ⟨⟨hx0, hx1, hx2, hx3, hx4, hx5, hx6⟩, hx7⟩ := hx
                  clear hx6 hx7
                  go_simp
                  try with_reducible rfl
                refine wpAnyH_take (i := 37) (v := ?_) rfl (by kernel_rfl) (by kernel_rfl) (by kernel_rfl) (fun _ _ _ h => h) (Or.inl ⟨by kernel_rfl, ?_⟩) hS ?_
                rotate_left
                · intro wx hx
                  obtain ⟨⟨hx0, hx1, hx2, hx3, hx4, hx5, hx6⟩, hx7⟩ := hx
                  clear hx6 hx7
                  go_simp
                  try with_reducible rfl
                refine wpAnyH_take (i := 38) (v := ?_) rfl (by kernel_rfl) (by kernel_rfl) (by kernel_rfl) (fun _ _ _ h => h) (Or.inl ⟨by kernel_rfl, ?_⟩) hS ?_
                rotate_left
                · intro wx hx
                  obtain ⟨⟨hx0, hx1, hx2, hx3, hx4, hx5, hx6⟩, hx7⟩ := hx
                  clear hx6 hx7
                  go_simp
                  try with_reducible rfl
                refine wpAnyH_take (i := 39) (v := ?_) rfl (by kernel_rfl) (by kernel_rfl) (by kernel_rfl) (fun _ _ _ h => h) (Or.inl ⟨by kernel_rfl, ?_⟩) hS ?_
                rotate_left
                · intro wx hx
                  obtain ⟨⟨hx0, hx1, hx2, hx3, hx4, hx5, hx6⟩, hx7⟩ := hx
                  clear hx6 hx7
                  go_simp
                  try with_reducible rfl
                refine wpAnyH_take (i := 40) (v := ?_) rfl (by kernel_rfl) (by kernel_rfl) (by kernel_rfl) (fun _ _ _ h => h) (Or.inl ⟨by kernel_rfl, ?_⟩) hS ?_
                rotate_left
                · intro wx hx
                  obtain ⟨⟨hx0, hx1, hx2, hx3, hx4, hx5, hx6⟩, hx7⟩ := hx
                  clear hx6 hx7
                  go_simp
                  try with_reducible rfl
                refine wpAnyH_take (i := 41) (v := ?_) rfl (by kernel_rfl) (by kernel_rfl) (by kernel_rfl) (fun _ _ _ h => h) (Or.inl ⟨by kernel_rfl, ?_⟩) hS ?_
                rotate_left
                · intro wx hx
                  obtain ⟨⟨hx0, hx1, hx2, hx3, hx4, hx5, hx6⟩, hx7⟩ := hx
                  clear hx6 hx7
                  go_simp
                  try with_reducible rfl
                refine wpAnyH_take (i := 42) (v := ?_) rfl (by kernel_rfl) (by kernel_rfl) (by kernel_rfl) (fun _ _ _ h => h) (Or.inl ⟨by kernel_rfl, ?_⟩) hS ?_
                rotate_left
                · intro wx hx
                  obtain ⟨⟨hx0, hx1, hx2, hx3, hx4, hx5, hx6⟩, hx7⟩ := hx
                  clear hx6 hx7
                  go_simp
                  try with_reducible rfl
                refine wpAnyH_take (i := 43) (v := ?_) rfl (by kernel_rfl) (by kernel_rfl) (by kernel_rfl) (fun _ _ _ h => h) (Or.inl ⟨by kernel_rfl, ?_⟩) hS ?_
                rotate_left
                · intro wx hx
                  obtain ⟨⟨hx0, hx1, hx2, hx3, hx4, hx5, hx6⟩, hx7⟩ := hx
                  clear hx6 hx7
                  go_simp
                  try with_reducible rfl
                refine wpAnyH_take (i := 44) (v := ?_) rfl (by kernel_rfl) (by kernel_rfl) (by kernel_rfl) (fun _ _ _ h => h) (Or.inl ⟨by kernel_rfl, ?_⟩) hS ?_
                rotate_left
                · intro wx hx
                  obtain ⟨⟨hx0, hx1, hx2, hx3, hx4, hx5, hx6⟩, hx7⟩ := hx
                  clear hx6 hx7
                  go_simp
                  try with_reducible rfl
                refine wpAnyH_take (i := 46) (v := ?_) rfl (by kernel_rfl) (by kernel_rfl) (by kernel_rfl) (fun _ _ _ h => h) (Or.inl ⟨by kernel_rfl, ?_⟩) hS ?_
                rotate_left
                · intro wx hx
                  obtain ⟨⟨hx0, hx1, hx2, hx3, hx4, hx5, hx6⟩, hx7⟩ := hx
                  clear hx6 hx7
                  go_simp
                  try with_reducible rfl
                refine wpAnyH_take (i := 47) (v := ?_) rfl (by kernel_rfl) (by kernel_rfl) (by kernel_rfl) (fun _ _ _ h => h) (Or.inl ⟨by kernel_rfl, ?_⟩) hS ?_
                rotate_left
                · intro wx hx
                  obtain ⟨⟨hx0, hx1, hx2, hx3, hx4, hx5, hx6⟩, hx7⟩ := hx
                  clear hx6 hx7
                  go_simp
                  try with_reducible rfl
                refine wpAnyH_take (i := 48) (v := ?_) rfl (by kernel_rfl) (by kernel_rfl) (by kernel_rfl) (fun _ _ _ h => h) (Or.inl ⟨by kernel_rfl, ?_⟩) hS ?_
                rotate_left
                · intro wx hx
                  obtain ⟨⟨hx0, hx1, hx2, hx3, hx4, hx5, hx6⟩, hx7⟩ := hx
                  clear hx6 hx7
                  go_simp
                  try with_reducible rfl
                refine wpAnyH_ready (rs := [45]) (by kernel_rfl) (by simp) ?_
                refine AllReadyH.cons rfl (fun K hK => ?_) AllReadyH.nil
                go_simp
                go_wp2_with fail
                refine (lwHas_any _ _ L k true HR _ hS.2 (by omega)).mono ?_
                rintro e w' ⟨rfl, rfl⟩
                go_wp2_with fail
                refine hK.out _ _ hS (fun hS => ?_)
                clear hK K
                refine wpAnyH_take (i := 49) (v := ?_) rfl (by kernel_rfl) (by kernel_rfl) (by kernel_rfl) (fun _ _ _ h => h) (Or.inl ⟨by kernel_rfl, ?_⟩) hS ?_
                rotate_left
                · intro wx hx
                  obtain ⟨⟨hx0, hx1, hx2, hx3, hx4, hx5, hx6⟩, hx7⟩ := hx
                  clear hx6 hx7
                  go_simp
                  try with_reducible rfl
                refine wpAnyH_take (i := 50) (v := ?_) rfl (by kernel_rfl) (by kernel_rfl) (by kernel_rfl) (fun _ _ _ h => h) (Or.inl ⟨by kernel_rfl, ?_⟩) hS ?_
                rotate_left
                · intro wx hx
                  obtain ⟨⟨hx0, hx1, hx2, hx3, hx4, hx5, hx6⟩, hx7⟩ := hx
                  clear hx6 hx7
                  go_simp
                  try with_reducible rfl
                refine wpAnyH_take (i := 51) (v := ?_) rfl (by kernel_rfl) (by kernel_rfl) (by kernel_rfl) (fun _ _ _ h => h) (Or.inl ⟨by kernel_rfl, ?_⟩) hS ?_
                rotate_left
                · intro wx hx
                  obtain ⟨⟨hx0, hx1, hx2, hx3, hx4, hx5, hx6⟩, hx7⟩ := hx
                  clear hx6 hx7
                  go_simp
                  try with_reducible rfl
                refine wpAnyH_take (i := 52) (v := ?_) rfl (by kernel_rfl) (by kernel_rfl) (by kernel_rfl) (fun _ _ _ h => h) (Or.inl ⟨by kernel_rfl, ?_⟩) hS ?_
                rotate_left
                · intro wx hx
                  obtain ⟨⟨hx0, hx1, hx2, hx3, hx4, hx5, hx6⟩, hx7⟩ := hx
                  clear hx6 hx7
                  go_simp
                  try with_reducible rfl
                refine wpAnyH_take (i := 53) (v := ?_) rfl (by kernel_rfl) (by kernel_rfl) (by kernel_rfl) (fun _ _ _ h => h) (Or.inl ⟨by kernel_rfl, ?_⟩) hS ?_
                rotate_left
                · intro wx hx
                  obtain ⟨⟨hx0, hx1, hx2, hx3, hx4, hx5, hx6⟩, hx7⟩ := hx
                  clear hx6 hx7
                  go_simp
                  try with_reducible rfl
                refine wpAnyH_take (i := 54) (v := ?_) rfl (by kernel_rfl) (by kernel_rfl) (by kernel_rfl) (fun _ _ _ h => h) (Or.inl ⟨by kernel_rfl, ?_⟩) hS ?_
                rotate_left
                · intro wx hx
                  obtain ⟨⟨hx0, hx1, hx2, hx3, hx4, hx5, hx6⟩, hx7⟩ := hx
                  clear hx6 hx7
                  go_simp
                  try with_reducible rfl
                refine wpAnyH_take (i := 55) (v := ?_) rfl (by kernel_rfl) (by kernel_rfl) (by kernel_rfl) (fun _ _ _ h => h) (Or.inl ⟨by kernel_rfl, ?_⟩) hS ?_
                rotate_left
                · intro wx hx
                  obtain ⟨⟨hx0, hx1, hx2, hx3, hx4, hx5, hx6⟩, hx7⟩ := hx
                  clear hx6 hx7
                  go_simp
                  try with_reducible rfl
                refine wpAnyH_take (i := 56) (v := ?_) rfl (by kernel_rfl) (by kernel_rfl) (by kernel_rfl) (fun _ _ _ h => h) (Or.inl ⟨by kernel_rfl, ?_⟩) hS ?_
                rotate_left
                · intro wx hx
                  obtain ⟨⟨hx0, hx1, hx2, hx3, hx4, hx5, hx6⟩, hx7⟩ := hx
                  clear hx6 hx7
                  go_simp
                  try with_reducible rfl
                refine wpAnyH_take (i := 57) (v := ?_) rfl (by kernel_rfl) (by kernel_rfl) (by kernel_rfl) (fun _ _ _ h => h) (Or.inl ⟨by kernel_rfl, ?_⟩) hS ?_
                rotate_left
                · intro wx hx
                  obtain ⟨⟨hx0, hx1, hx2, hx3, hx4, hx5, hx6⟩, hx7⟩ := hx
                  clear hx6 hx7
                  go_simp
                  try with_reducible rfl
                refine wpAnyH_done (by kernel_rfl) ?_ _
                go_simp
                go_wp2
                go_ret
                exact ⟨rfl, hS.1.2.2.2.2.2.2⟩
              · have dkt : decide (k < t) = false := decide_eq_false hkt
                have HR : Hid (decide (k ∈ L) = false) := decide_eq_false (fun hm => hkt (Hmem.out k hm).2.1)
                go_wp2_with fail
                refine wp_region_held_drew (S := fun x => Six w g7 w8.heap.size g10 (.int .i64 0) (.int .i64 k) (.int .i64 0) (.string tx) (.int .i64 0) (.slice ol L.length cl) x ∧ Ints x w5.heap.size (.slice ol L.length cl) L) (by kernel_rfl) ⟨⟨(World.cell?_alloc_lt _ _ _ z87).trans R70, (World.cell?_alloc_lt _ _ _ z87).trans R71, World.cell?_alloc_mark w8 _ _ _ 0, World.cell?_alloc_mark w8 _ _ _ 1, (World.cell?_alloc_lt _ _ _ z8).trans Ra0, (World.cell?_alloc_lt _ _ _ z8).trans Ra1, (B8.out.alloc zz8 _).drew⟩, I8.out.alloc _⟩ (fun hS => ?_)
                refine wpAnyH_take (i := 0) (v := ?_) rfl (by kernel_rfl) (by kernel_rfl) (by kernel_rfl) (fun _ _ _ h => h) (Or.inl ⟨by kernel_rfl, ?_⟩) hS ?_
                rotate_left
                · intro wx hx
                  obtain ⟨⟨hx0, hx1, hx2, hx3, hx4, hx5, hx6⟩, hx7⟩ := hx
                  clear hx6 hx7
                  go_simp
                  try with_reducible rfl
                refine wpAnyH_take (i := 1) (v := ?_) rfl (by kernel_rfl) (by kernel_rfl) (by kernel_rfl) (fun _ _ _ h => h) (Or.inl ⟨by kernel_rfl, ?_⟩) hS ?_
                rotate_left
                · intro wx hx
                  obtain ⟨⟨hx0, hx1, hx2, hx3, hx4, hx5, hx6⟩, hx7⟩ := hx
                  clear hx6 hx7
                  go_simp
                  try with_reducible rfl
                refine wpAnyH_take (i := 2) (v := ?_) rfl (by kernel_rfl) (by kernel_rfl) (by kernel_rfl) (fun _ _ _ h => h) (Or.inl ⟨by kernel_rfl, ?_⟩) hS ?_
                rotate_left
                · intro wx hx
                  obtain ⟨⟨hx0, hx1, hx2, hx3, hx4, hx5, hx6⟩, hx7⟩ := hx
                  clear hx6 hx7
                  go_simp
                  try with_reducible rfl
                refine wpAnyH_take (i := 3) (v := ?_) rfl (by kernel_rfl) (by kernel_rfl) (by kernel_rfl) (fun _ _ _ h => h) (Or.inl ⟨by kernel_rfl, ?_⟩) hS ?_
                rotate_left
                · intro wx hx
                  obtain ⟨⟨hx0, hx1, hx2, hx3, hx4, hx5, hx6⟩, hx7⟩ := hx
                  clear hx6 hx7
                  go_simp
                  try with_reducible rfl
                refine wpAnyH_take (i := 4) (v := ?_) rfl (by kernel_rfl) (by kernel_rfl) (by kernel_rfl) (fun _ _ _ h => h) (Or.inl ⟨by kernel_rfl, ?_⟩) hS ?_
                rotate_left
                · intro wx hx
                  obtain ⟨⟨hx0, hx1, hx2, hx3, hx4, hx5, hx6⟩, hx7⟩ := hx
                  clear hx6 hx7
                  go_simp
                  try with_reducible rfl
                refine wpAnyH_take (i := 5) (v := ?_) rfl (by kernel_rfl) (by kernel_rfl) (by kernel_rfl) (fun _ _ _ h => h) (Or.inl ⟨by kernel_rfl, ?_⟩) hS ?_
                rotate_left
                · intro wx hx
                  obtain ⟨⟨hx0, hx1, hx2, hx3, hx4, hx5, hx6⟩, hx7⟩ := hx
                  clear hx6 hx7
                  go_simp
                  try with_reducible rfl
                refine wpAnyH_take (i := 6) (v := ?_) rfl (by kernel_rfl) (by kernel_rfl) (by kernel_rfl) (fun _ _ _ h => h) (Or.inl ⟨by kernel_rfl, ?_⟩) hS ?_
                rotate_left
                · intro wx hx
                  obtain ⟨⟨hx0, hx1, hx2, hx3, hx4, hx5, hx6⟩, hx7⟩ := hx
                  clear hx6 hx7
                  go_simp
                  try with_reducible rfl
                refine wpAnyH_take (i := 7) (v := ?_) rfl (by kernel_rfl) (by kernel_rfl) (by kernel_rfl) (fun _ _ _ h => h) (Or.inl ⟨by kernel_rfl, ?_⟩) hS ?_
                rotate_left
                · intro wx hx
                  obtain ⟨⟨hx0, hx1, hx2, hx3, hx4, hx5, hx6⟩, hx7⟩ := hx
                  clear hx6 hx7
                  go_simp
                  try with_reducible rfl
                refine wpAnyH_take (i := 8) (v := ?_) rfl (by kernel_rfl) (by kernel_rfl) (by kernel_rfl) (fun _ _ _ h => h) (Or.inl ⟨by kernel_rfl, ?_⟩) hS ?_
                rotate_left
                · intro wx hx
                  obtain ⟨⟨hx0, hx1, hx2, hx3, hx4, hx5, hx6⟩, hx7⟩ := hx
                  clear hx6 hx7
                  go_simp
                  try with_reducible rfl
                refine wpAnyH_take (i := 9) (v := ?_) rfl (by kernel_rfl) (by kernel_rfl) (by kernel_rfl) (fun _ _ _ h => h) (Or.inl ⟨by kernel_rfl, ?_⟩) hS ?_
                rotate_left
                · intro wx hx
                  obtain ⟨⟨hx0, hx1, hx2, hx3, hx4, hx5, hx6⟩, hx7⟩ := hx
                  clear hx6 hx7
                  go_simp
                  try with_reducible rfl
                refine wpAnyH_take (i := 10) (v := ?_) rfl (by kernel_rfl) (by kernel_rfl) (by kernel_rfl) (fun _ _ _ h => h) (Or.inl ⟨by kernel_rfl, ?_⟩) hS ?_
                rotate_left
                · intro wx hx
                  obtain ⟨⟨hx0, hx1, hx2, hx3, hx4, hx5, hx6⟩, hx7⟩ := hx
                  clear hx6 hx7
                  go_simp
                  try with_reducible rfl
                refine wpAnyH_take (i := 11) (v := ?_) rfl (by kernel_rfl) (by kernel_rfl) (by kernel_rfl) (fun _ _ _ h => h) (Or.inl ⟨by kernel_rfl, ?_⟩) hS ?_
                rotate_left
                · intro wx hx
                  obtain ⟨⟨hx0, hx1, hx2, hx3, hx4, hx5, hx6⟩, hx7⟩ := hx
                  clear hx6 hx7
                  go_simp
                  try with_reducible rfl
                refine wpAnyH_take (i := 12) (v := ?_) rfl (by kernel_rfl) (by kernel_rfl) (by kernel_rfl) (fun _ _ _ h => h) (Or.inl ⟨by kernel_rfl, ?_⟩) hS ?_
                rotate_left
                · intro wx hx
                  obtain ⟨⟨hx0, hx1, hx2, hx3, hx4, hx5, hx6⟩, hx7⟩ := hx
                  clear hx6 hx7
                  go_simp
                  try with_reducible rfl
                refine wpAnyH_take (i := 13) (v := ?_) rfl (by kernel_rfl) (by kernel_rfl) (by kernel_rfl) (fun _ _ _ h => h) (Or.inl ⟨by kernel_rfl, ?_⟩) hS ?_
                rotate_left
                · intro wx hx
                  obtain ⟨⟨hx0, hx1, hx2, hx3, hx4, hx5, hx6⟩, hx7⟩ := hx
                  clear hx6 hx7
                  go_simp
                  try with_reducible rfl
                refine wpAnyH_take (i := 14) (v := ?_) rfl (by kernel_rfl) (by kernel_rfl) (by kernel_rfl) (fun _ _ _ h => h) (Or.inl ⟨by kernel_rfl, ?_⟩) hS ?_
                rotate_left
                · intro wx hx
                  obtain ⟨⟨hx0, hx1, hx2, hx3, hx4, hx5, hx6⟩, hx7⟩ := hx
                  clear hx6 hx7
                  go_simp
                  try with_reducible rfl
                refine wpAnyH_take (i := 15) (v := ?_) rfl (by kernel_rfl) (by kernel_rfl) (by kernel_rfl) (fun _ _ _ h => h) (Or.inl ⟨by kernel_rfl, ?_⟩) hS ?_
                rotate_left
                · intro wx hx
                  obtain ⟨⟨hx0, hx1, hx2, hx3, hx4, hx5, hx6⟩, hx7⟩ := hx
                  clear hx6 hx7
                  go_simp
                  try with_reducible rfl
                refine wpAnyH_take (i := 16) (v := ?_) rfl (by kernel_rfl) (by kernel_rfl) (by kernel_rfl) (fun _ _ _ h => h) (Or.inl ⟨by kernel_rfl, ?_⟩) hS ?_
                rotate_left
                · intro wx hx
                  obtain ⟨⟨hx0, hx1, hx2, hx3, hx4, hx5, hx6⟩, hx7⟩ := hx
                  clear hx6 hx7
                  go_simp
                  try with_reducible rfl
                refine wpAnyH_take (i := 17) (v := ?_) rfl (by kernel_rfl) (by kernel_rfl) (by kernel_rfl) (fun _ _ _ h => h) (Or.inl ⟨by kernel_rfl, ?_⟩) hS ?_
                rotate_left
                · intro wx hx
                  obtain ⟨⟨hx0, hx1, hx2, hx3, hx4, hx5, hx6⟩, hx7⟩ := hx
                  clear hx6 hx7
                  go_simp
                  try with_reducible rfl
                refine wpAnyH_take (i := 18) (v := ?_) rfl (by kernel_rfl) (by kernel_rfl) (by kernel_rfl) (fun _ _ _ h => h) (Or.inl ⟨by kernel_rfl, ?_⟩) hS ?_
                rotate_left
                · intro wx hx
                  obtain ⟨⟨hx0, hx1, hx2, hx3, hx4, hx5, hx6⟩, hx7⟩ := hx
                  clear hx6 hx7
                  go_simp
                  try with_reducible rfl
                refine wpAnyH_take (i := 19) (v := ?_) rfl (by kernel_rfl) (by kernel_rfl) (by kernel_rfl) (fun _ _ _ h => h) (Or.inl ⟨by kernel_rfl, ?_⟩) hS ?_
                rotate_left
                · intro wx hx
                  obtain ⟨⟨hx0, hx1, hx2, hx3, hx4, hx5, hx6⟩, hx7⟩ := hx
                  clear hx6 hx7
                  go_simp
                  try with_reducible rfl
                refine wpAnyH_take (i := 20) (v := ?_) rfl (by kernel_rfl) (by kernel_rfl) (by kernel_rfl) (fun _ _ _ h => h) (Or.inl ⟨by kernel_rfl, ?_⟩) hS ?_
                rotate_left
                · intro wx hx
                  obtain ⟨⟨hx0, hx1, hx2, hx3, hx4, hx5, hx6⟩, hx7⟩ := hx
                  clear hx6 hx7
                  go_simp
                  try with_reducible rfl
                refine wpAnyH_take (i := 21) (v := ?_) rfl (by kernel_rfl) (by kernel_rfl) (by kernel_rfl) (fun _ _ _ h => h) (Or.inl ⟨by kernel_rfl, ?_⟩) hS ?_
                rotate_left
                · intro wx hx
                  obtain ⟨⟨hx0, hx1, hx2, hx3, hx4, hx5, hx6⟩, hx7⟩ := hx
                  clear hx6 hx7
                  go_simp
                  try with_reducible rfl
                refine wpAnyH_take (i := 22) (v := ?_) rfl (by kernel_rfl) (by kernel_rfl) (by kernel_rfl) (fun _ _ _ h => h) (Or.inl ⟨by kernel_rfl, ?_⟩) hS ?_
                rotate_left
                · intro wx hx
                  obtain ⟨⟨hx0, hx1, hx2, hx3, hx4, hx5, hx6⟩, hx7⟩ := hx
                  clear hx6 hx7
                  go_simp
                  try with_reducible rfl
                refine wpAnyH_take (i := 25) (v := ?_) rfl (by kernel_rfl) (by kernel_rfl) (by kernel_rfl) (fun _ _ _ h => h) (Or.inl ⟨by kernel_rfl, ?_⟩) hS ?_
                rotate_left
                · intro wx hx
                  obtain ⟨⟨hx0, hx1, hx2, hx3, hx4, hx5, hx6⟩, hx7⟩ := hx
                  clear hx6 hx7
                  go_simp
                  try with_reducible rfl
                refine wpAnyH_ready (rs := [23]) (by kernel_rfl) (by simp) ?_
                refine AllReadyH.cons rfl (fun K hK => ?_) AllReadyH.nil
                go_simp
                go_wp2_with fail
                refine (HPk.out _).mono ?_
                rintro e w' ⟨rfl, rfl⟩
                go_wp2_with fail
                refine hK.out _ _ ⟨hS.1.later ((Below.refl _ _).alloc (Nat.le_refl _) _), hS.2.alloc _⟩ (fun hS => ?_)
                clear hK K
                refine wpAnyH_take (i := 24) (v := ?_) rfl (by kernel_rfl) (by kernel_rfl) (by kernel_rfl) (fun _ _ _ h => h) (Or.inl ⟨by kernel_rfl, ?_⟩) hS ?_
                rotate_left
                · intro wx hx
                  obtain ⟨⟨hx0, hx1, hx2, hx3, hx4, hx5, hx6⟩, hx7⟩ := hx
                  clear hx6 hx7
                  go_simp
                  try with_reducible rfl
                refine wpAnyH_take (i := 26) (v := ?_) rfl (by kernel_rfl) (by kernel_rfl) (by kernel_rfl) (fun _ _ _ h => h) (Or.inl ⟨by kernel_rfl, ?_⟩) hS ?_
                rotate_left
                · intro wx hx
                  obtain ⟨⟨hx0, hx1, hx2, hx3, hx4, hx5, hx6⟩, hx7⟩ := hx
                  clear hx6 hx7
                  go_simp
                  try with_reducible rfl
                refine wpAnyH_take (i := 27) (v := ?_) rfl (by kernel_rfl) (by kernel_rfl) (by kernel_rfl) (fun _ _ _ h => h) (Or.inl ⟨by kernel_rfl, ?_⟩) hS ?_
                rotate_left
                · intro wx hx
                  obtain ⟨⟨hx0, hx1, hx2, hx3, hx4, hx5, hx6⟩, hx7⟩ := hx
                  clear hx6 hx7
                  go_simp
                  try with_reducible rfl
                refine wpAnyH_take (i := 28) (v := ?_) rfl (by kernel_rfl) (by kernel_rfl) (by kernel_rfl) (fun _ _ _ h => h) (Or.inl ⟨by kernel_rfl, ?_⟩) hS ?_
                rotate_left
                · intro wx hx
                  obtain ⟨⟨hx0, hx1, hx2, hx3, hx4, hx5, hx6⟩, hx7⟩ := hx
                  clear hx6 hx7
                  go_simp
                  try with_reducible rfl
                refine wpAnyH_take (i := 29) (v := ?_) rfl (by kernel_rfl) (by kernel_rfl) (by kernel_rfl) (fun _ _ _ h => h) (Or.inl ⟨by kernel_rfl, ?_⟩) hS ?_
                rotate_left
                · intro wx hx
                  obtain ⟨⟨hx0, hx1, hx2, hx3, hx4, hx5, hx6⟩, hx7⟩ := hx
                  clear hx6 hx7
                  go_simp
                  try with_reducible rfl
                refine wpAnyH_take (i := 30) (v := ?_) rfl (by kernel_rfl) (by kernel_rfl) (by kernel_rfl) (fun _ _ _ h => h) (Or.inl ⟨by kernel_rfl, ?_⟩) hS ?_
                rotate_left
                · intro wx hx
                  obtain ⟨⟨hx0, hx1, hx2, hx3, hx4, hx5, hx6⟩, hx7⟩ := hx
                  clear hx6 hx7
                  go_simp
                  try with_reducible rfl
                refine wpAnyH_take (i := 31) (v := ?_) rfl (by kernel_rfl) (by kernel_rfl) (by kernel_rfl) (fun _ _ _ h => h) (Or.inl ⟨by kernel_rfl, ?_⟩) hS ?_
                rotate_left
                · intro wx hx
                  obtain ⟨⟨hx0, hx1, hx2, hx3, hx4, hx5, hx6⟩, hx7⟩ := hx
                  clear hx6 hx7
                  go_simp
                  try with_reducible rfl
                refine wpAnyH_take (i := 32) (v := ?_) rfl (by kernel_rfl) (by kernel_rfl) (by kernel_rfl) (fun _ _ _ h => h) (Or.inl ⟨by kernel_rfl, ?_⟩) hS ?_
                rotate_left
                · intro wx hx
                  obtain ⟨⟨hx0, hx1, hx2, hx3, hx4, hx5, hx6⟩, hx7⟩ := hx
                  clear hx6 hx7
                  go_simp
                  try with_reducible rfl
                refine wpAnyH_ready (rs := [33]) (by kernel_rfl) (by simp) ?_
                refine AllReadyH.cons rfl (fun K hK => ?_) AllReadyH.nil
                go_simp
                go_wp2_with fail
                refine (hSk.out _).mono ?_
                rintro e w' ⟨vs, rfl, is, hb⟩
                obtain ⟨os, cs, rfl⟩ := is.form
                clear is
                go_wp2_with fail
                refine hK.out _ _ ⟨hS.1.later hb, hS.2.later hb⟩ (fun hS => ?_)
                clear hK K
                refine wpAnyH_take (i := 34) (v := ?_) rfl (by kernel_rfl) (by kernel_rfl) (by kernel_rfl) (fun _ _ _ h => h) (Or.inl ⟨by kernel_rfl, ?_⟩) hS ?_
                rotate_left
                · intro wx hx
                  obtain ⟨⟨hx0, hx1, hx2, hx3, hx4, hx5, hx6⟩, hx7⟩ := hx
                  clear hx6 hx7
                  go_simp
                  try with_reducible rfl
                refine wpAnyH_take (i := 35) (v := ?_) rfl (by kernel_rfl) (by kernel_rfl) (by kernel_rfl) (fun _ _ _ h => h) (Or.inl ⟨by kernel_rfl, ?_⟩) hS ?_
                rotate_left
                · intro wx hx
                  obtain ⟨⟨hx0, hx1, hx2, hx3, hx4, hx5, hx6⟩, hx7⟩ := hx
                  clear hx6 hx7
                  go_simp
                  try with_reducible rfl
                refine wpAnyH_take (i := 36) (v := ?_) rfl (by kernel_rfl) (by kernel_rfl) (by kernel_rfl) (fun _ _ _ h => h) (Or.inl ⟨by kernel_rfl, ?_⟩) hS ?_
                rotate_left
                · intro wx hx
                  obtain ⟨⟨hx0, hx1, hx2, hx3, hx4, hx5, hx6⟩, hx7⟩ := hx
                  clear hx6 hx7
                  go_simp
                  try with_reducible rfl
                refine wpAnyH_take (i := 37) (v := ?_) rfl (by kernel_rfl) (by kernel_rfl) (by kernel_rfl) (fun _ _ _ h => h) (Or.inl ⟨by kernel_rfl, ?_⟩) hS ?_
                rotate_left
                · intro wx hx
                  obtain ⟨⟨hx0, hx1, hx2, hx3, hx4, hx5, hx6⟩, hx7⟩ := hx
                  clear hx6 hx7
                  go_simp
                  try with_reducible rfl
                refine wpAnyH_take (i := 38) (v := ?_) rfl (by kernel_rfl) (by kernel_rfl) (by kernel_rfl) (fun _ _ _ h => h) (Or.inl ⟨by kernel_rfl, ?_⟩) hS ?_
                rotate_left
                · intro wx hx
                  obtain ⟨⟨hx0, hx1, hx2, hx3, hx4, hx5, hx6⟩, hx7⟩ := hx
                  clear hx6 hx7
                  go_simp
                  try with_reducible rfl
                refine wpAnyH_take (i := 39) (v := ?_) rfl (by kernel_rfl) (by kernel_rfl) (by kernel_rfl) (fun _ _ _ h => h) (Or.inl ⟨by kernel_rfl, ?_⟩) hS ?_
                rotate_left
                · intro wx hx
                  obtain ⟨⟨hx0, hx1, hx2, hx3, hx4, hx5, hx6⟩, hx7⟩ := hx
                  clear hx6 hx7
                  go_simp
                  try with_reducible rfl
                refine wpAnyH_take (i := 40) (v := ?_) rfl (by kernel_rfl) (by kernel_rfl) (by kernel_rfl) (fun _ _ _ h => h) (Or.inl ⟨by kernel_rfl, ?_⟩) hS ?_
                rotate_left
                · intro wx hx
                  obtain ⟨⟨hx0, hx1, hx2, hx3, hx4, hx5, hx6⟩, hx7⟩ := hx
                  clear hx6 hx7
                  go_simp
                  try with_reducible rfl
                refine wpAnyH_take (i := 41) (v := ?_) rfl (by kernel_rfl) (by kernel_rfl) (by kernel_rfl) (fun _ _ _ h => h) (Or.inl ⟨by kernel_rfl, ?_⟩) hS ?_
                rotate_left
                · intro wx hx
                  obtain ⟨⟨hx0, hx1, hx2, hx3, hx4, hx5, hx6⟩, hx7⟩ := hx
                  clear hx6 hx7
                  go_simp
                  try with_reducible rfl
                refine wpAnyH_take (i := 42) (v := ?_) rfl (by kernel_rfl) (by kernel_rfl) (by kernel_rfl) (fun _ _ _ h => h) (Or.inl ⟨by kernel_rfl, ?_⟩) hS ?_
                rotate_left
                · intro wx hx
                  obtain ⟨⟨hx0, hx1, hx2, hx3, hx4, hx5, hx6⟩, hx7⟩ := hx
                  clear hx6 hx7
                  go_simp
                  try with_reducible rfl
                refine wpAnyH_take (i := 43) (v := ?_) rfl (by kernel_rfl) (by kernel_rfl) (by kernel_rfl) (fun _ _ _ h => h) (Or.inl ⟨by kernel_rfl, ?_⟩) hS ?_
                rotate_left
                · intro wx hx
                  obtain ⟨⟨hx0, hx1, hx2, hx3, hx4, hx5, hx6⟩, hx7⟩ := hx
                  clear hx6 hx7
                  go_simp
                  try with_reducible rfl
                refine wpAnyH_take (i := 44) (v := ?_) rfl (by kernel_rfl) (by kernel_rfl) (by kernel_rfl) (fun _ _ _ h => h) (Or.inl ⟨by kernel_rfl, ?_⟩) hS ?_
                rotate_left
                · intro wx hx
                  obtain ⟨⟨hx0, hx1, hx2, hx3, hx4, hx5, hx6⟩, hx7⟩ := hx
                  clear hx6 hx7
                  go_simp
                  try with_reducible rfl
                refine wpAnyH_take (i := 46) (v := ?_) rfl (by kernel_rfl) (by kernel_rfl) (by kernel_rfl) (fun _ _ _ h => h) (Or.inl ⟨by kernel_rfl, ?_⟩) hS ?_
                rotate_left
                · intro wx hx
                  obtain ⟨⟨hx0, hx1, hx2, hx3, hx4, hx5, hx6⟩, hx7⟩ := hx
                  clear hx6 hx7
                  go_simp
                  try with_reducible rfl
                refine wpAnyH_take (i := 47) (v := ?_) rfl (by kernel_rfl) (by kernel_rfl) (by kernel_rfl) (fun _ _ _ h => h) (Or.inl ⟨by kernel_rfl, ?_⟩) hS ?_
                rotate_left
                · intro wx hx
                  obtain ⟨⟨hx0, hx1, hx2, hx3, hx4, hx5, hx6⟩, hx7⟩ := hx
                  clear hx6 hx7
                  go_simp
                  try with_reducible rfl
                refine wpAnyH_take (i := 48) (v := ?_) rfl (by kernel_rfl) (by kernel_rfl) (by kernel_rfl) (fun _ _ _ h => h) (Or.inl ⟨by kernel_rfl, ?_⟩) hS ?_
                rotate_left
                · intro wx hx
                  obtain ⟨⟨hx0, hx1, hx2, hx3, hx4, hx5, hx6⟩, hx7⟩ := hx
                  clear hx6 hx7
                  go_simp
                  try with_reducible rfl
                refine wpAnyH_ready (rs := [45]) (by kernel_rfl) (by simp) ?_
                refine AllReadyH.cons rfl (fun K hK => ?_) AllReadyH.nil
                go_simp
                go_wp2_with fail
                refine (lwHas_any _ _ L k false HR _ hS.2 (by omega)).mono ?_
                rintro e w' ⟨rfl, rfl⟩
                go_wp2_with fail
                refine hK.out _ _ hS (fun hS => ?_)
                clear hK K
                refine wpAnyH_take (i := 49) (v := ?_) rfl (by kernel_rfl) (by kernel_rfl) (by kernel_rfl) (fun _ _ _ h => h) (Or.inl ⟨by kernel_rfl, ?_⟩) hS ?_
                rotate_left
                · intro wx hx
                  obtain ⟨⟨hx0, hx1, hx2, hx3, hx4, hx5, hx6⟩, hx7⟩ := hx
                  clear hx6 hx7
                  go_simp
                  try with_reducible rfl
                refine wpAnyH_take (i := 50) (v := ?_) rfl (by kernel_rfl) (by kernel_rfl) (by kernel_rfl) (fun _ _ _ h => h) (Or.inl ⟨by kernel_rfl, ?_⟩) hS ?_
                rotate_left
                · intro wx hx
                  obtain ⟨⟨hx0, hx1, hx2, hx3, hx4, hx5, hx6⟩, hx7⟩ := hx
                  clear hx6 hx7
                  go_simp
                  try with_reducible rfl
                refine wpAnyH_take (i := 51) (v := ?_) rfl (by kernel_rfl) (by kernel_rfl) (by kernel_rfl) (fun _ _ _ h => h) (Or.inl ⟨by kernel_rfl, ?_⟩) hS ?_
                rotate_left
                · intro wx hx
                  obtain ⟨⟨hx0, hx1, hx2, hx3, hx4, hx5, hx6⟩, hx7⟩ := hx
                  clear hx6 hx7
                  go_simp
                  try with_reducible rfl
                refine wpAnyH_take (i := 52) (v := ?_) rfl (by kernel_rfl) (by kernel_rfl) (by kernel_rfl) (fun _ _ _ h => h) (Or.inl ⟨by kernel_rfl, ?_⟩) hS ?_
                rotate_left
                · intro wx hx
                  obtain ⟨⟨hx0, hx1, hx2, hx3, hx4, hx5, hx6⟩, hx7⟩ := hx
                  clear hx6 hx7
                  go_simp
                  try with_reducible rfl
                refine wpAnyH_take (i := 53) (v := ?_) rfl (by kernel_rfl) (by kernel_rfl) (by kernel_rfl) (fun _ _ _ h => h) (Or.inl ⟨by kernel_rfl, ?_⟩) hS ?_
                rotate_left
                · intro wx hx
                  obtain ⟨⟨hx0, hx1, hx2, hx3, hx4, hx5, hx6⟩, hx7⟩ := hx
                  clear hx6 hx7
                  go_simp
                  try with_reducible rfl
                refine wpAnyH_take (i := 54) (v := ?_) rfl (by kernel_rfl) (by kernel_rfl) (by kernel_rfl) (fun _ _ _ h => h) (Or.inl ⟨by kernel_rfl, ?_⟩) hS ?_
                rotate_left
                · intro wx hx
                  obtain ⟨⟨hx0, hx1, hx2, hx3, hx4, hx5, hx6⟩, hx7⟩ := hx
                  clear hx6 hx7
                  go_simp
                  try with_reducible rfl
                refine wpAnyH_take (i := 55) (v := ?_) rfl (by kernel_rfl) (by kernel_rfl) (by kernel_rfl) (fun _ _ _ h => h) (Or.inl ⟨by kernel_rfl, ?_⟩) hS ?_
                rotate_left
                · intro wx hx
                  obtain ⟨⟨hx0, hx1, hx2, hx3, hx4, hx5, hx6⟩, hx7⟩ := hx
                  clear hx6 hx7
                  go_simp
                  try with_reducible rfl
                refine wpAnyH_take (i := 56) (v := ?_) rfl (by kernel_rfl) (by kernel_rfl) (by kernel_rfl) (fun _ _ _ h => h) (Or.inl ⟨by kernel_rfl, ?_⟩) hS ?_
                rotate_left
                · intro wx hx
                  obtain ⟨⟨hx0, hx1, hx2, hx3, hx4, hx5, hx6⟩, hx7⟩ := hx
                  clear hx6 hx7
                  go_simp
                  try with_reducible rfl
                refine wpAnyH_take (i := 57) (v := ?_) rfl (by kernel_rfl) (by kernel_rfl) (by kernel_rfl) (fun _ _ _ h => h) (Or.inl ⟨by kernel_rfl, ?_⟩) hS ?_
                rotate_left
                · intro wx hx
                  obtain ⟨⟨hx0, hx1, hx2, hx3, hx4, hx5, hx6⟩, hx7⟩ := hx
                  clear hx6 hx7
                  go_simp
                  try with_reducible rfl
                refine wpAnyH_done (by kernel_rfl) ?_ _
                go_simp
                go_wp2
                go_ret
                exact ⟨rfl, hS.1.2.2.2.2.2.2⟩
            · have dfk : decide (f ≤ k) = false := decide_eq_false hfk
              have HR : Hid (decide (k ∈ L) = false) := decide_eq_false (fun hm => hfk (Hmem.out k hm).1)
              go_wp2_with fail
              refine wp_region_held_drew (S := fun x => Six w g7 w8.heap.size g10 (.int .i64 0) (.int .i64 k) (.int .i64 0) (.string tx) (.int .i64 0) (.slice ol L.length cl) x ∧ Ints x w5.heap.size (.slice ol L.length cl) L) (by kernel_rfl) ⟨⟨(World.cell?_alloc_lt _ _ _ z87).trans R70, (World.cell?_alloc_lt _ _ _ z87).trans R71, World.cell?_alloc_mark w8 _ _ _ 0, World.cell?_alloc_mark w8 _ _ _ 1, (World.cell?_alloc_lt _ _ _ z8).trans Ra0, (World.cell?_alloc_lt _ _ _ z8).trans Ra1, (B8.out.alloc zz8 _).drew⟩, I8.out.alloc _⟩ (fun hS => ?_)
              refine wpAnyH_take (i := 0) (v := ?_) rfl (by kernel_rfl) (by kernel_rfl) (by kernel_rfl) (fun _ _ _ h => h) (Or.inl ⟨by kernel_rfl, ?_⟩) hS ?_
              rotate_left
              · intro wx hx
                obtain ⟨⟨hx0, hx1, hx2, hx3, hx4, hx5, hx6⟩, hx7⟩ := hx
                clear hx6 hx7
                go_simp
                try with_reducible rfl
              refine wpAnyH_take (i := 1) (v := ?_) rfl (by kernel_rfl) (by kernel_rfl) (by kernel_rfl) (fun _ _ _ h => h) (Or.inl ⟨by kernel_rfl, ?_⟩) hS ?_
              rotate_left
              · intro wx hx
                obtain ⟨⟨hx0, hx1, hx2, hx3, hx4, hx5, hx6⟩, hx7⟩ := hx
                clear hx6 hx7
                go_simp
                try with_reducible rfl
              refine wpAnyH_take (i := 2) (v := ?_) rfl (by kernel_rfl) (by kernel_rfl) (by kernel_rfl) (fun _ _ _ h => h) (Or.inl ⟨by kernel_rfl, ?_⟩) hS ?_
              rotate_left
              · intro wx hx
                obtain ⟨⟨hx0, hx1, hx2, hx3, hx4, hx5, hx6⟩, hx7⟩ := hx
                clear hx6 hx7
                go_simp
                try with_reducible rfl
              refine wpAnyH_take (i := 3) (v := ?_) rfl (by kernel_rfl) (by kernel_rfl) (by kernel_rfl) (fun _ _ _ h => h) (Or.inl ⟨by kernel_rfl, ?_⟩) hS ?_
              rotate_left
              · intro wx hx
                obtain ⟨⟨hx0, hx1, hx2, hx3, hx4, hx5, hx6⟩, hx7⟩ := hx
                clear hx6 hx7
                go_simp
                try with_reducible rfl
              refine wpAnyH_take (i := 4) (v := ?_) rfl (by kernel_rfl) (by kernel_rfl) (by kernel_rfl) (fun _ _ _ h => h) (Or.inl ⟨by kernel_rfl, ?_⟩) hS ?_
              rotate_left
              · intro wx hx
                obtain ⟨⟨hx0, hx1, hx2, hx3, hx4, hx5, hx6⟩, hx7⟩ := hx
                clear hx6 hx7
                go_simp
                try with_reducible rfl
              refine wpAnyH_take (i := 5) (v := ?_) rfl (by kernel_rfl) (by kernel_rfl) (by kernel_rfl) (fun _ _ _ h => h) (Or.inl ⟨by kernel_rfl, ?_⟩) hS ?_
              rotate_left
              · intro wx hx
                obtain ⟨⟨hx0, hx1, hx2, hx3, hx4, hx5, hx6⟩, hx7⟩ := hx
                clear hx6 hx7
                go_simp
                try with_reducible rfl
              refine wpAnyH_take (i := 6) (v := ?_) rfl (by kernel_rfl) (by kernel_rfl) (by kernel_rfl) (fun _ _ _ h => h) (Or.inl ⟨by kernel_rfl, ?_⟩) hS ?_
              rotate_left
              · intro wx hx
                obtain ⟨⟨hx0, hx1, hx2, hx3, hx4, hx5, hx6⟩, hx7⟩ := hx
                clear hx6 hx7
                go_simp
                try with_reducible rfl
              refine wpAnyH_take (i := 7) (v := ?_) rfl (by kernel_rfl) (by kernel_rfl) (by kernel_rfl) (fun _ _ _ h => h) (Or.inl ⟨by kernel_rfl, ?_⟩) hS ?_
              rotate_left
              · intro wx hx
                obtain ⟨⟨hx0, hx1, hx2, hx3, hx4, hx5, hx6⟩, hx7⟩ := hx
                clear hx6 hx7
                go_simp
                try with_reducible rfl
              refine wpAnyH_take (i := 8) (v := ?_) rfl (by kernel_rfl) (by kernel_rfl) (by kernel_rfl) (fun _ _ _ h => h) (Or.inl ⟨by kernel_rfl, ?_⟩) hS ?_
              rotate_left
              · intro wx hx
                obtain ⟨⟨hx0, hx1, hx2, hx3, hx4, hx5, hx6⟩, hx7⟩ := hx
                clear hx6 hx7
                go_simp
                try with_reducible rfl
              refine wpAnyH_take (i := 9) (v := ?_) rfl (by kernel_rfl) (by kernel_rfl) (by kernel_rfl) (fun _ _ _ h => h) (Or.inl ⟨by kernel_rfl, ?_⟩) hS ?_
              rotate_left
              · intro wx hx
                obtain ⟨⟨hx0, hx1, hx2, hx3, hx4, hx5, hx6⟩, hx7⟩ := hx
                clear hx6 hx7
                go_simp
                try with_reducible rfl
              refine wpAnyH_take (i := 10) (v := ?_) rfl (by kernel_rfl) (by kernel_rfl) (by kernel_rfl) (fun _ _ _ h => h) (Or.inl ⟨by kernel_rfl, ?_⟩) hS ?_
              rotate_left
              · intro wx hx
                obtain ⟨⟨hx0, hx1, hx2, hx3, hx4, hx5, hx6⟩, hx7⟩ := hx
                clear hx6 hx7
                go_simp
                try with_reducible rfl
              refine wpAnyH_take (i := 11) (v := ?_) rfl (by kernel_rfl) (by kernel_rfl) (by kernel_rfl) (fun _ _ _ h => h) (Or.inl ⟨by kernel_rfl, ?_⟩) hS ?_
              rotate_left
              · intro wx hx
                obtain ⟨⟨hx0, hx1, hx2, hx3, hx4, hx5, hx6⟩, hx7⟩ := hx
                clear hx6 hx7
                go_simp
                try with_reducible rfl
              refine wpAnyH_take (i := 12) (v := ?_) rfl (by kernel_rfl) (by kernel_rfl) (by kernel_rfl) (fun _ _ _ h => h) (Or.inl ⟨by kernel_rfl, ?_⟩) hS ?_
              rotate_left
              · intro wx hx
                obtain ⟨⟨hx0, hx1, hx2, hx3, hx4, hx5, hx6⟩, hx7⟩ := hx
                clear hx6 hx7
                go_simp
                try with_reducible rfl
              refine wpAnyH_take (i := 13) (v := ?_) rfl (by kernel_rfl) (by kernel_rfl) (by kernel_rfl) (fun _ _ _ h => h) (Or.inl ⟨by kernel_rfl, ?_⟩) hS ?_
              rotate_left
              · intro wx hx
                obtain ⟨⟨hx0, hx1, hx2, hx3, hx4, hx5, hx6⟩, hx7⟩ := hx
                clear hx6 hx7
                go_simp
                try with_reducible rfl
              refine wpAnyH_take (i := 14) (v := ?_) rfl (by kernel_rfl) (by kernel_rfl) (by kernel_rfl) (fun _ _ _ h => h) (Or.inl ⟨by kernel_rfl, ?_⟩) hS ?_
              rotate_left
              · intro wx hx
                obtain ⟨⟨hx0, hx1, hx2, hx3, hx4, hx5, hx6⟩, hx7⟩ := hx
                clear hx6 hx7
                go_simp
                try with_reducible rfl
              refine wpAnyH_take (i := 15) (v := ?_) rfl (by kernel_rfl) (by kernel_rfl) (by kernel_rfl) (fun _ _ _ h => h) (Or.inl ⟨by kernel_rfl, ?_⟩) hS ?_
              rotate_left
              · intro wx hx
                obtain ⟨⟨hx0, hx1, hx2, hx3, hx4, hx5, hx6⟩, hx7⟩ := hx
                clear hx6 hx7
                go_simp
                try with_reducible rfl
              refine wpAnyH_take (i := 16) (v := ?_) rfl (by kernel_rfl) (by kernel_rfl) (by kernel_rfl) (fun _ _ _ h => h) (Or.inl ⟨by kernel_rfl, ?_⟩) hS ?_
              rotate_left
              · intro wx hx
                obtain ⟨⟨hx0, hx1, hx2, hx3, hx4, hx5, hx6⟩, hx7⟩ := hx
                clear hx6 hx7
                go_simp
                try with_reducible rfl
              refine wpAnyH_take (i := 17) (v := ?_) rfl (by kernel_rfl) (by kernel_rfl) (by kernel_rfl) (fun _ _ _ h => h) (Or.inl ⟨by kernel_rfl, ?_⟩) hS ?_
              rotate_left
              · intro wx hx
                obtain ⟨⟨hx0, hx1, hx2, hx3, hx4, hx5, hx6⟩, hx7⟩ := hx
                clear hx6 hx7
                go_simp
                try with_reducible rfl
              refine wpAnyH_take (i := 18) (v := ?_) rfl (by kernel_rfl) (by kernel_rfl) (by kernel_rfl) (fun _ _ _ h => h) (Or.inl ⟨by kernel_rfl, ?_⟩) hS ?_
              rotate_left
              · intro wx hx
                obtain ⟨⟨hx0, hx1, hx2, hx3, hx4, hx5, hx6⟩, hx7⟩ := hx
                clear hx6 hx7
                go_simp
                try with_reducible rfl
              refine wpAnyH_take (i := 19) (v := ?_) rfl (by kernel_rfl) (by kernel_rfl) (by kernel_rfl) (fun _ _ _ h => h) (Or.inl ⟨by kernel_rfl, ?_⟩) hS ?_
              rotate_left
              · intro wx hx
                obtain ⟨⟨hx0, hx1, hx2, hx3, hx4, hx5, hx6⟩, hx7⟩ := hx
                clear hx6 hx7
                go_simp
                try with_reducible rfl
              refine wpAnyH_take (i := 20) (v := ?_) rfl (by kernel_rfl) (by kernel_rfl) (by kernel_rfl) (fun _ _ _ h => h) (Or.inl ⟨by kernel_rfl, ?_⟩) hS ?_
              rotate_left
              · intro wx hx
                obtain ⟨⟨hx0, hx1, hx2, hx3, hx4, hx5, hx6⟩, hx7⟩ := hx
                clear hx6 hx7
                go_simp
                try with_reducible rfl
              refine wpAnyH_take (i := 21) (v := ?_) rfl (by kernel_rfl) (by kernel_rfl) (by kernel_rfl) (fun _ _ _ h => h) (Or.inl ⟨by kernel_rfl, ?_⟩) hS ?_
              rotate_left
              · intro wx hx
                obtain ⟨⟨hx0, hx1, hx2, hx3, hx4, hx5, hx6⟩, hx7⟩ := hx
                clear hx6 hx7
                go_simp
                try with_reducible rfl
              refine wpAnyH_take (i := 22) (v := ?_) rfl (by kernel_rfl) (by kernel_rfl) (by kernel_rfl) (fun _ _ _ h => h) (Or.inl ⟨by kernel_rfl, ?_⟩) hS ?_
              rotate_left
              · intro wx hx
                obtain ⟨⟨hx0, hx1, hx2, hx3, hx4, hx5, hx6⟩, hx7⟩ := hx
                clear hx6 hx7
                go_simp
                try with_reducible rfl
              refine wpAnyH_take (i := 25) (v := ?_) rfl (by kernel_rfl) (by kernel_rfl) (by kernel_rfl) (fun _ _ _ h => h) (Or.inl ⟨by kernel_rfl, ?_⟩) hS ?_
              rotate_left
              · intro wx hx
                obtain ⟨⟨hx0, hx1, hx2, hx3, hx4, hx5, hx6⟩, hx7⟩ := hx
                clear hx6 hx7
                go_simp
                try with_reducible rfl
              refine wpAnyH_ready (rs := [23]) (by kernel_rfl) (by simp) ?_
              refine AllReadyH.cons rfl (fun K hK => ?_) AllReadyH.nil
              go_simp
              go_wp2_with fail
              refine (HPk.out _).mono ?_
              rintro e w' ⟨rfl, rfl⟩
              go_wp2_with fail
              refine hK.out _ _ ⟨hS.1.later ((Below.refl _ _).alloc (Nat.le_refl _) _), hS.2.alloc _⟩ (fun hS => ?_)
              clear hK K
              refine wpAnyH_take (i := 24) (v := ?_) rfl (by kernel_rfl) (by kernel_rfl) (by kernel_rfl) (fun _ _ _ h => h) (Or.inl ⟨by kernel_rfl, ?_⟩) hS ?_
              rotate_left
              · intro wx hx
                obtain ⟨⟨hx0, hx1, hx2, hx3, hx4, hx5, hx6⟩, hx7⟩ := hx
                clear hx6 hx7
                go_simp
                try with_reducible rfl
              refine wpAnyH_take (i := 26) (v := ?_) rfl (by kernel_rfl) (by kernel_rfl) (by kernel_rfl) (fun _ _ _ h => h) (Or.inl ⟨by kernel_rfl, ?_⟩) hS ?_
              rotate_left
              · intro wx hx
                obtain ⟨⟨hx0, hx1, hx2, hx3, hx4, hx5, hx6⟩, hx7⟩ := hx
                clear hx6 hx7
                go_simp
                try with_reducible rfl
              refine wpAnyH_take (i := 27) (v := ?_) rfl (by kernel_rfl) (by kernel_rfl) (by kernel_rfl) (fun _ _ _ h => h) (Or.inl ⟨by kernel_rfl, ?_⟩) hS ?_
              rotate_left
              · intro wx hx
                obtain ⟨⟨hx0, hx1, hx2, hx3, hx4, hx5, hx6⟩, hx7⟩ := hx
                clear hx6 hx7
                go_simp
                try with_reducible rfl
              refine wpAnyH_take (i := 28) (v := ?_) rfl (by kernel_rfl) (by kernel_rfl) (by kernel_rfl) (fun _ _ _ h => h) (Or.inl ⟨by kernel_rfl, ?_⟩) hS ?_
              rotate_left
              · intro wx hx
                obtain ⟨⟨hx0, hx1, hx2, hx3, hx4, hx5, hx6⟩, hx7⟩ := hx
                clear hx6 hx7
                go_simp
                try with_reducible rfl
              refine wpAnyH_take (i := 29) (v := ?_) rfl (by kernel_rfl) (by kernel_rfl) (by kernel_rfl) (fun _ _ _ h => h) (Or.inl ⟨by kernel_rfl, ?_⟩) hS ?_
              rotate_left
              · intro wx hx
                obtain ⟨⟨hx0, hx1, hx2, hx3, hx4, hx5, hx6⟩, hx7⟩ := hx
                clear hx6 hx7
                go_simp
                try with_reducible rfl
              refine wpAnyH_take (i := 30) (v := ?_) rfl (by kernel_rfl) (by kernel_rfl) (by kernel_rfl) (fun _ _ _ h => h) (Or.inl ⟨by kernel_rfl, ?_⟩) hS ?_
              rotate_left
              · intro wx hx
                obtain ⟨⟨hx0, hx1, hx2, hx3, hx4, hx5, hx6⟩, hx7⟩ := hx
                clear hx6 hx7
                go_simp
                try with_reducible rfl
              refine wpAnyH_take (i := 31) (v := ?_) rfl (by kernel_rfl) (by kernel_rfl) (by kernel_rfl) (fun _ _ _ h => h) (Or.inl ⟨by kernel_rfl, ?_⟩) hS ?_
              rotate_left
              · intro wx hx
                obtain ⟨⟨hx0, hx1, hx2, hx3, hx4, hx5, hx6⟩, hx7⟩ := hx
                clear hx6 hx7
                go_simp
                try with_reducible rfl
              refine wpAnyH_take (i := 32) (v := ?_) rfl (by kernel_rfl) (by kernel_rfl) (by kernel_rfl) (fun _ _ _ h => h) (Or.inl ⟨by kernel_rfl, ?_⟩) hS ?_
              rotate_left
              · intro wx hx
                obtain ⟨⟨hx0, hx1, hx2, hx3, hx4, hx5, hx6⟩, hx7⟩ := hx
                clear hx6 hx7
                go_simp
                try with_reducible rfl
              refine wpAnyH_ready (rs := [33]) (by kernel_rfl) (by simp) ?_
              refine AllReadyH.cons rfl (fun K hK => ?_) AllReadyH.nil
              go_simp
              go_wp2_with fail
              refine (hSk.out _).mono ?_
              rintro e w' ⟨vs, rfl, is, hb⟩
              obtain ⟨os, cs, rfl⟩ := is.form
              clear is
              go_wp2_with fail
              refine hK.out _ _ ⟨hS.1.later hb, hS.2.later hb⟩ (fun hS => ?_)
              clear hK K
              refine wpAnyH_take (i := 34) (v := ?_) rfl (by kernel_rfl) (by kernel_rfl) (by kernel_rfl) (fun _ _ _ h => h) (Or.inl ⟨by kernel_rfl, ?_⟩) hS ?_
              rotate_left
              · intro wx hx
                obtain ⟨⟨hx0, hx1, hx2, hx3, hx4, hx5, hx6⟩, hx7⟩ := hx
                clear hx6 hx7
                go_simp
                try with_reducible rfl
              refine wpAnyH_take (i := 35) (v := ?_) rfl (by kernel_rfl) (by kernel_rfl) (by kernel_rfl) (fun _ _ _ h => h) (Or.inl ⟨by kernel_rfl, ?_⟩) hS ?_
              rotate_left
              · intro wx hx
                obtain ⟨⟨hx0, hx1, hx2, hx3, hx4, hx5, hx6⟩, hx7⟩ := hx
                clear hx6 hx7
                go_simp
                try with_reducible rfl
              refine wpAnyH_take (i := 36) (v := ?_) rfl (by kernel_rfl) (by kernel_rfl) (by kernel_rfl) (fun _ _ _ h => h) (Or.inl ⟨by kernel_rfl, ?_⟩) hS ?_
              rotate_left
              · intro wx hx
                obtain ⟨⟨hx0, hx1, hx2, hx3, hx4, hx5, hx6⟩, hx7⟩ := hx
                clear hx6 hx7
                go_simp
                try with_reducible rfl
              refine wpAnyH_take (i := 37) (v := ?_) rfl (by kernel_rfl) (by kernel_rfl) (by kernel_rfl) (fun _ _ _ h => h) (Or.inl ⟨by kernel_rfl, ?_⟩) hS ?_
              rotate_left
              · intro wx hx
                obtain ⟨⟨hx0, hx1, hx2, hx3, hx4, hx5, hx6⟩, hx7⟩ := hx
                clear hx6 hx7
                go_simp
                try with_reducible rfl
              refine wpAnyH_take (i := 38) (v := ?_) rfl (by kernel_rfl) (by kernel_rfl) (by kernel_rfl) (fun _ _ _ h => h) (Or.inl ⟨by kernel_rfl, ?_⟩) hS ?_
              rotate_left
              · intro wx hx
                obtain ⟨⟨hx0, hx1, hx2, hx3, hx4, hx5, hx6⟩, hx7⟩ := hx
                clear hx6 hx7
                go_simp
                try with_reducible rfl
              refine wpAnyH_take (i := 39) (v := ?_) rfl (by kernel_rfl) (by kernel_rfl) (by kernel_rfl) (fun _ _ _ h => h) (Or.inl ⟨by kernel_rfl, ?_⟩) hS ?_
              rotate_left
              · intro wx hx
                obtain ⟨⟨hx0, hx1, hx2, hx3, hx4, hx5, hx6⟩, hx7⟩ := hx
                clear hx6 hx7
                go_simp
                try with_reducible rfl
              refine wpAnyH_take (i := 40) (v := ?_) rfl (by kernel_rfl) (by kernel_rfl) (by kernel_rfl) (fun _ _ _ h => h) (Or.inl ⟨by kernel_rfl, ?_⟩) hS ?_
              rotate_left
              · intro wx hx
                obtain ⟨⟨hx0, hx1, hx2, hx3, hx4, hx5, hx6⟩, hx7⟩ := hx
                clear hx6 hx7
                go_simp
                try with_reducible rfl
              refine wpAnyH_take (i := 41) (v := ?_) rfl (by kernel_rfl) (by kernel_rfl) (by kernel_rfl) (fun _ _ _ h => h) (Or.inl ⟨by kernel_rfl, ?_⟩) hS ?_
              rotate_left
              · intro wx hx
                obtain ⟨⟨hx0, hx1, hx2, hx3, hx4, hx5, hx6⟩, hx7⟩ := hx
                clear hx6 hx7
                go_simp
                try with_reducible rfl
              refine wpAnyH_take (i := 42) (v := ?_) rfl (by kernel_rfl) (by kernel_rfl) (by kernel_rfl) (fun _ _ _ h => h) (Or.inl ⟨by kernel_rfl, ?_⟩) hS ?_
              rotate_left
              · intro wx hx
                obtain ⟨⟨hx0, hx1, hx2, hx3, hx4, hx5, hx6⟩, hx7⟩ := hx
                clear hx6 hx7
                go_simp
                try with_reducible rfl
              refine wpAnyH_take (i := 43) (v := ?_) rfl (by kernel_rfl) (by kernel_rfl) (by kernel_rfl) (fun _ _ _ h => h) (Or.inl ⟨by kernel_rfl, ?_⟩) hS ?_
              rotate_left
              · intro wx hx
                obtain ⟨⟨hx0, hx1, hx2, hx3, hx4, hx5, hx6⟩, hx7⟩ := hx
                clear hx6 hx7
                go_simp
                try with_reducible rfl
              refine wpAnyH_take (i := 44) (v := ?_) rfl (by kernel_rfl) (by kernel_rfl) (by kernel_rfl) (fun _ _ _ h => h) (Or.inl ⟨by kernel_rfl, ?_⟩) hS ?_
              rotate_left
              · intro wx hx
                obtain ⟨⟨hx0, hx1, hx2, hx3, hx4, hx5, hx6⟩, hx7⟩ := hx
                clear hx6 hx7
                go_simp
                try with_reducible rfl
              refine wpAnyH_take (i := 46) (v := ?_) rfl (by kernel_rfl) (by kernel_rfl) (by kernel_rfl) (fun _ _ _ h => h) (Or.inl ⟨by kernel_rfl, ?_⟩) hS ?_
              rotate_left
              · intro wx hx
                obtain ⟨⟨hx0, hx1, hx2, hx3, hx4, hx5, hx6⟩, hx7⟩ := hx
                clear hx6 hx7
                go_simp
                try with_reducible rfl
              refine wpAnyH_take (i := 47) (v := ?_) rfl (by kernel_rfl) (by kernel_rfl) (by kernel_rfl) (fun _ _ _ h => h) (Or.inl ⟨by kernel_rfl, ?_⟩) hS ?_
              rotate_left
              · intro wx hx
                obtain ⟨⟨hx0, hx1, hx2, hx3, hx4, hx5, hx6⟩, hx7⟩ := hx
                clear hx6 hx7
                go_simp
                try with_reducible rfl
              refine wpAnyH_take (i := 48) (v := ?_) rfl (by kernel_rfl) (by kernel_rfl) (by kernel_rfl) (fun _ _ _ h => h) (Or.inl ⟨by kernel_rfl, ?_⟩) hS ?_
              rotate_left
              · intro wx hx
                obtain ⟨⟨hx0, hx1, hx2, hx3, hx4, hx5, hx6⟩, hx7⟩ := hx
                clear hx6 hx7
                go_simp
                try with_reducible rfl
              refine wpAnyH_ready (rs := [45]) (by kernel_rfl) (by simp) ?_
              refine AllReadyH.cons rfl (fun K hK => ?_) AllReadyH.nil
              go_simp
              go_wp2_with fail
              refine (lwHas_any _ _ L k false HR _ hS.2 (by omega)).mono ?_
              rintro e w' ⟨rfl, rfl⟩
              go_wp2_with fail
              refine hK.out _ _ hS (fun hS => ?_)
              clear hK K
              refine wpAnyH_take (i := 49) (v := ?_) rfl (by kernel_rfl) (by kernel_rfl) (by kernel_rfl) (fun _ _ _ h => h) (Or.inl ⟨by kernel_rfl, ?_⟩) hS ?_
              rotate_left
              · intro wx hx
                obtain ⟨⟨hx0, hx1, hx2, hx3, hx4, hx5, hx6⟩, hx7⟩ := hx
                clear hx6 hx7
                go_simp
                try with_reducible rfl
              refine wpAnyH_take (i := 50) (v := undef) rfl (by kernel_rfl) (by kernel_rfl) (by kernel_rfl) (fun _ _ _ h => h) (Or.inr ⟨by kernel_rfl, rfl⟩) hS ?_
              refine wpAnyH_take (i := 51) (v := undef) rfl (by kernel_rfl) (by kernel_rfl) (by kernel_rfl) (fun _ _ _ h => h) (Or.inr ⟨by kernel_rfl, rfl⟩) hS ?_
              refine wpAnyH_take (i := 52) (v := undef) rfl (by kernel_rfl) (by kernel_rfl) (by kernel_rfl) (fun _ _ _ h => h) (Or.inr ⟨by kernel_rfl, rfl⟩) hS ?_
              refine wpAnyH_take (i := 53) (v := ?_) rfl (by kernel_rfl) (by kernel_rfl) (by kernel_rfl) (fun _ _ _ h => h) (Or.inl ⟨by kernel_rfl, ?_⟩) hS ?_
              rotate_left
              · intro wx hx
                obtain ⟨⟨hx0, hx1, hx2, hx3, hx4, hx5, hx6⟩, hx7⟩ := hx
                clear hx6 hx7
                go_simp
                try with_reducible rfl
              refine wpAnyH_take (i := 54) (v := ?_) rfl (by kernel_rfl) (by kernel_rfl) (by kernel_rfl) (fun _ _ _ h => h) (Or.inl ⟨by kernel_rfl, ?_⟩) hS ?_
              rotate_left
              · intro wx hx
                obtain ⟨⟨hx0, hx1, hx2, hx3, hx4, hx5, hx6⟩, hx7⟩ := hx
                clear hx6 hx7
                go_simp
                try with_reducible rfl
              refine wpAnyH_take (i := 55) (v := ?_) rfl (by kernel_rfl) (by kernel_rfl) (by kernel_rfl) (fun _ _ _ h => h) (Or.inl ⟨by kernel_rfl, ?_⟩) hS ?_
              rotate_left
              · intro wx hx
                obtain ⟨⟨hx0, hx1, hx2, hx3, hx4, hx5, hx6⟩, hx7⟩ := hx
                clear hx6 hx7
                go_simp
                try with_reducible rfl
              refine wpAnyH_take (i := 56) (v := ?_) rfl (by kernel_rfl) (by kernel_rfl) (by kernel_rfl) (fun _ _ _ h => h) (Or.inl ⟨by kernel_rfl, ?_⟩) hS ?_
              rotate_left
              · intro wx hx
                obtain ⟨⟨hx0, hx1, hx2, hx3, hx4, hx5, hx6⟩, hx7⟩ := hx
                clear hx6 hx7
                go_simp
                try with_reducible rfl
              refine wpAnyH_take (i := 57) (v := ?_) rfl (by kernel_rfl) (by kernel_rfl) (by kernel_rfl) (fun _ _ _ h => h) (Or.inl ⟨by kernel_rfl, ?_⟩) hS ?_
              rotate_left
              · intro wx hx
                obtain ⟨⟨hx0, hx1, hx2, hx3, hx4, hx5, hx6⟩, hx7⟩ := hx
                clear hx6 hx7
                go_simp
                try with_reducible rfl
              refine wpAnyH_done (by kernel_rfl) ?_ _
              go_simp
              go_wp2
              go_ret
              exact ⟨rfl, hS.1.2.2.2.2.2.2⟩
          · have dc : (c != 0) = true := by rw [bne_iff_ne]; exact hc0
            go_wp2_with fail
            refine wp_region_held_drew (S := fun x => Six w g7 w8.heap.size g10 (.int .i64 0) (.int .i64 k) (.int .i64 0) (.string tx) (.int .i64 c) (.slice ol L.length cl) x ∧ Ints x w5.heap.size (.slice ol L.length cl) L) (by kernel_rfl) ⟨⟨(World.cell?_alloc_lt _ _ _ z87).trans R70, (World.cell?_alloc_lt _ _ _ z87).trans R71, World.cell?_alloc_mark w8 _ _ _ 0, World.cell?_alloc_mark w8 _ _ _ 1, (World.cell?_alloc_lt _ _ _ z8).trans Ra0, (World.cell?_alloc_lt _ _ _ z8).trans Ra1, (B8.out.alloc zz8 _).drew⟩, I8.out.alloc _⟩ (fun hS => ?_)
            refine wpAnyH_take (i := 0) (v := ?_) rfl (by kernel_rfl) (by kernel_rfl) (by kernel_rfl) (fun _ _ _ h => h) (Or.inl ⟨by kernel_rfl, ?_⟩) hS ?_
            rotate_left
            · intro wx hx
              obtain ⟨⟨hx0, hx1, hx2, hx3, hx4, hx5, hx6⟩, hx7⟩ := hx
              clear hx6 hx7
              go_simp
              try with_reducible rfl
            refine wpAnyH_take (i := 1) (v := ?_) rfl (by kernel_rfl) (by kernel_rfl) (by kernel_rfl) (fun _ _ _ h => h) (Or.inl ⟨by kernel_rfl, ?_⟩) hS ?_
            rotate_left
            · intro wx hx
              obtain ⟨⟨hx0, hx1, hx2, hx3, hx4, hx5, hx6⟩, hx7⟩ := hx
              clear hx6 hx7
              go_simp
              try with_reducible rfl
            refine wpAnyH_take (i := 2) (v := ?_) rfl (by kernel_rfl) (by kernel_rfl) (by kernel_rfl) (fun _ _ _ h => h) (Or.inl ⟨by kernel_rfl, ?_⟩) hS ?_
            rotate_left
            · intro wx hx
              obtain ⟨⟨hx0, hx1, hx2, hx3, hx4, hx5, hx6⟩, hx7⟩ := hx
              clear hx6 hx7
              go_simp
              try with_reducible rfl
            refine wpAnyH_take (i := 3) (v := ?_) rfl (by kernel_rfl) (by kernel_rfl) (by kernel_rfl) (fun _ _ _ h => h) (Or.inl ⟨by kernel_rfl, ?_⟩) hS ?_
            rotate_left
            · intro wx hx
              obtain ⟨⟨hx0, hx1, hx2, hx3, hx4, hx5, hx6⟩, hx7⟩ := hx
              clear hx6 hx7
              go_simp
              try with_reducible rfl
            refine wpAnyH_take (i := 4) (v := ?_) rfl (by kernel_rfl) (by kernel_rfl) (by kernel_rfl) (fun _ _ _ h => h) (Or.inl ⟨by kernel_rfl, ?_⟩) hS ?_
            rotate_left
            · intro wx hx
              obtain ⟨⟨hx0, hx1, hx2, hx3, hx4, hx5, hx6⟩, hx7⟩ := hx
              clear hx6 hx7
              go_simp
              try with_reducible rfl
            refine wpAnyH_take (i := 5) (v := ?_) rfl (by kernel_rfl) (by kernel_rfl) (by kernel_rfl) (fun _ _ _ h => h) (Or.inl ⟨by kernel_rfl, ?_⟩) hS ?_
            rotate_left
            · intro wx hx
              obtain ⟨⟨hx0, hx1, hx2, hx3, hx4, hx5, hx6⟩, hx7⟩ := hx
              clear hx6 hx7
              go_simp
              try with_reducible rfl
            refine wpAnyH_take (i := 6) (v := ?_) rfl (by kernel_rfl) (by kernel_rfl) (by kernel_rfl) (fun _ _ _ h => h) (Or.inl ⟨by kernel_rfl, ?_⟩) hS ?_
            rotate_left
            · intro wx hx
              obtain ⟨⟨hx0, hx1, hx2, hx3, hx4, hx5, hx6⟩, hx7⟩ := hx
              clear hx6 hx7
              go_simp
              try with_reducible rfl
            refine wpAnyH_take (i := 7) (v := ?_) rfl (by kernel_rfl) (by kernel_rfl) (by kernel_rfl) (fun _ _ _ h => h) (Or.inl ⟨by kernel_rfl, ?_⟩) hS ?_
            rotate_left
            · intro wx hx
              obtain ⟨⟨hx0, hx1, hx2, hx3, hx4, hx5, hx6⟩, hx7⟩ := hx
              clear hx6 hx7
              go_simp
              try with_reducible rfl
            refine wpAnyH_take (i := 8) (v := ?_) rfl (by kernel_rfl) (by kernel_rfl) (by kernel_rfl) (fun _ _ _ h => h) (Or.inl ⟨by kernel_rfl, ?_⟩) hS ?_
            rotate_left
            · intro wx hx
              obtain ⟨⟨hx0, hx1, hx2, hx3, hx4, hx5, hx6⟩, hx7⟩ := hx
              clear hx6 hx7
              go_simp
              try with_reducible rfl
            refine wpAnyH_take (i := 9) (v := ?_) rfl (by kernel_rfl) (by kernel_rfl) (by kernel_rfl) (fun _ _ _ h => h) (Or.inl ⟨by kernel_rfl, ?_⟩) hS ?_
            rotate_left
            · intro wx hx
              obtain ⟨⟨hx0, hx1, hx2, hx3, hx4, hx5, hx6⟩, hx7⟩ := hx
              clear hx6 hx7
              go_simp
              try with_reducible rfl
            refine wpAnyH_take (i := 10) (v := ?_) rfl (by kernel_rfl) (by kernel_rfl) (by kernel_rfl) (fun _ _ _ h => h) (Or.inl ⟨by kernel_rfl, ?_⟩) hS ?_
            rotate_left
            · intro wx hx
              obtain ⟨⟨hx0, hx1, hx2, hx3, hx4, hx5, hx6⟩, hx7⟩ := hx
              clear hx6 hx7
              go_simp
              try with_reducible rfl
            refine wpAnyH_take (i := 11) (v := ?_) rfl (by kernel_rfl) (by kernel_rfl) (by kernel_rfl) (fun _ _ _ h => h) (Or.inl ⟨by kernel_rfl, ?_⟩) hS ?_
            rotate_left
            · intro wx hx
              obtain ⟨⟨hx0, hx1, hx2, hx3, hx4, hx5, hx6⟩, hx7⟩ := hx
              clear hx6 hx7
              go_simp
              try with_reducible rfl
            refine wpAnyH_take (i := 12) (v := ?_) rfl (by kernel_rfl) (by kernel_rfl) (by kernel_rfl) (fun _ _ _ h => h) (Or.inl ⟨by kernel_rfl, ?_⟩) hS ?_
            rotate_left
            · intro wx hx
              obtain ⟨⟨hx0, hx1, hx2, hx3, hx4, hx5, hx6⟩, hx7⟩ := hx
              clear hx6 hx7
              go_simp
              try with_reducible rfl
            refine wpAnyH_take (i := 13) (v := ?_) rfl (by kernel_rfl) (by kernel_rfl) (by kernel_rfl) (fun _ _ _ h => h) (Or.inl ⟨by kernel_rfl, ?_⟩) hS ?_
            rotate_left
            · intro wx hx
              obtain ⟨⟨hx0, hx1, hx2, hx3, hx4, hx5, hx6⟩, hx7⟩ := hx
              clear hx6 hx7
              go_simp
              try with_reducible rfl
            refine wpAnyH_take (i := 14) (v := ?_) rfl (by kernel_rfl) (by kernel_rfl) (by kernel_rfl) (fun _ _ _ h => h) (Or.inl ⟨by kernel_rfl, ?_⟩) hS ?_
            rotate_left
            · intro wx hx
              obtain ⟨⟨hx0, hx1, hx2, hx3, hx4, hx5, hx6⟩, hx7⟩ := hx
              clear hx6 hx7
              go_simp
              try with_reducible rfl
            refine wpAnyH_take (i := 15) (v := ?_) rfl (by kernel_rfl) (by kernel_rfl) (by kernel_rfl) (fun _ _ _ h => h) (Or.inl ⟨by kernel_rfl, ?_⟩) hS ?_
            rotate_left
            · intro wx hx
              obtain ⟨⟨hx0, hx1, hx2, hx3, hx4, hx5, hx6⟩, hx7⟩ := hx
              clear hx6 hx7
              go_simp
              try with_reducible rfl
            refine wpAnyH_take (i := 16) (v := ?_) rfl (by kernel_rfl) (by kernel_rfl) (by kernel_rfl) (fun _ _ _ h => h) (Or.inl ⟨by kernel_rfl, ?_⟩) hS ?_
            rotate_left
            · intro wx hx
              obtain ⟨⟨hx0, hx1, hx2, hx3, hx4, hx5, hx6⟩, hx7⟩ := hx
              clear hx6 hx7
              go_simp
              try with_reducible rfl
            refine wpAnyH_take (i := 17) (v := ?_) rfl (by kernel_rfl) (by kernel_rfl) (by kernel_rfl) (fun _ _ _ h => h) (Or.inl ⟨by kernel_rfl, ?_⟩) hS ?_
            rotate_left
            · intro wx hx
              obtain ⟨⟨hx0, hx1, hx2, hx3, hx4, hx5, hx6⟩, hx7⟩ := hx
              clear hx6 hx7
              go_simp
              try with_reducible rfl
            refine wpAnyH_take (i := 18) (v := ?_) rfl (by kernel_rfl) (by kernel_rfl) (by kernel_rfl) (fun _ _ _ h => h) (Or.inl ⟨by kernel_rfl, ?_⟩) hS ?_
            rotate_left
            · intro wx hx
              obtain ⟨⟨hx0, hx1, hx2, hx3, hx4, hx5, hx6⟩, hx7⟩ := hx
              clear hx6 hx7
              go_simp
              try with_reducible rfl
            refine wpAnyH_take (i := 19) (v := ?_) rfl (by kernel_rfl) (by kernel_rfl) (by kernel_rfl) (fun _ _ _ h => h) (Or.inl ⟨by kernel_rfl, ?_⟩) hS ?_
            rotate_left
            · intro wx hx
              obtain ⟨⟨hx0, hx1, hx2, hx3, hx4, hx5, hx6⟩, hx7⟩ := hx
              clear hx6 hx7
              go_simp
              try with_reducible rfl
            refine wpAnyH_take (i := 20) (v := ?_) rfl (by kernel_rfl) (by kernel_rfl) (by kernel_rfl) (fun _ _ _ h => h) (Or.inl ⟨by kernel_rfl, ?_⟩) hS ?_
            rotate_left
            · intro wx hx
              obtain ⟨⟨hx0, hx1, hx2, hx3, hx4, hx5, hx6⟩, hx7⟩ := hx
              clear hx6 hx7
              go_simp
              try with_reducible rfl
            refine wpAnyH_take (i := 21) (v := ?_) rfl (by kernel_rfl) (by kernel_rfl) (by kernel_rfl) (fun _ _ _ h => h) (Or.inl ⟨by kernel_rfl, ?_⟩) hS ?_
            rotate_left
            · intro wx hx
              obtain ⟨⟨hx0, hx1, hx2, hx3, hx4, hx5, hx6⟩, hx7⟩ := hx
              clear hx6 hx7
              go_simp
              try with_reducible rfl
            refine wpAnyH_take (i := 22) (v := ?_) rfl (by kernel_rfl) (by kernel_rfl) (by kernel_rfl) (fun _ _ _ h => h) (Or.inl ⟨by kernel_rfl, ?_⟩) hS ?_
            rotate_left
            · intro wx hx
              obtain ⟨⟨hx0, hx1, hx2, hx3, hx4, hx5, hx6⟩, hx7⟩ := hx
              clear hx6 hx7
              go_simp
              try with_reducible rfl
            refine wpAnyH_take (i := 25) (v := ?_) rfl (by kernel_rfl) (by kernel_rfl) (by kernel_rfl) (fun _ _ _ h => h) (Or.inl ⟨by kernel_rfl, ?_⟩) hS ?_
            rotate_left
            · intro wx hx
              obtain ⟨⟨hx0, hx1, hx2, hx3, hx4, hx5, hx6⟩, hx7⟩ := hx
              clear hx6 hx7
              go_simp
              try with_reducible rfl
            refine wpAnyH_ready (rs := [23]) (by kernel_rfl) (by simp) ?_
            refine AllReadyH.cons rfl (fun K hK => ?_) AllReadyH.nil
            go_simp
            go_wp2_with fail
            refine (HPk.out _).mono ?_
            rintro e w' ⟨rfl, rfl⟩
            go_wp2_with fail
            refine hK.out _ _ ⟨hS.1.later ((Below.refl _ _).alloc (Nat.le_refl _) _), hS.2.alloc _⟩ (fun hS => ?_)
            clear hK K
            refine wpAnyH_take (i := 24) (v := ?_) rfl (by kernel_rfl) (by kernel_rfl) (by kernel_rfl) (fun _ _ _ h => h) (Or.inl ⟨by kernel_rfl, ?_⟩) hS ?_
            rotate_left
            · intro wx hx
              obtain ⟨⟨hx0, hx1, hx2, hx3, hx4, hx5, hx6⟩, hx7⟩ := hx
              clear hx6 hx7
              go_simp
              try with_reducible rfl
            refine wpAnyH_take (i := 26) (v := ?_) rfl (by kernel_rfl) (by kernel_rfl) (by kernel_rfl) (fun _ _ _ h => h) (Or.inl ⟨by kernel_rfl, ?_⟩) hS ?_
            rotate_left
            · intro wx hx
              obtain ⟨⟨hx0, hx1, hx2, hx3, hx4, hx5, hx6⟩, hx7⟩ := hx
              clear hx6 hx7
              go_simp
              try with_reducible rfl
            refine wpAnyH_take (i := 27) (v := ?_) rfl (by kernel_rfl) (by kernel_rfl) (by kernel_rfl) (fun _ _ _ h => h) (Or.inl ⟨by kernel_rfl, ?_⟩) hS ?_
            rotate_left
            · intro wx hx
              obtain ⟨⟨hx0, hx1, hx2, hx3, hx4, hx5, hx6⟩, hx7⟩ := hx
              clear hx6 hx7
              go_simp
              try with_reducible rfl
            refine wpAnyH_take (i := 28) (v := ?_) rfl (by kernel_rfl) (by kernel_rfl) (by kernel_rfl) (fun _ _ _ h => h) (Or.inl ⟨by kernel_rfl, ?_⟩) hS ?_
            rotate_left
            · intro wx hx
              obtain ⟨⟨hx0, hx1, hx2, hx3, hx4, hx5, hx6⟩, hx7⟩ := hx
              clear hx6 hx7
              go_simp
              try with_reducible rfl
            refine wpAnyH_take (i := 29) (v := ?_) rfl (by kernel_rfl) (by kernel_rfl) (by kernel_rfl) (fun _ _ _ h => h) (Or.inl ⟨by kernel_rfl, ?_⟩) hS ?_
            rotate_left
            · intro wx hx
              obtain ⟨⟨hx0, hx1, hx2, hx3, hx4, hx5, hx6⟩, hx7⟩ := hx
              clear hx6 hx7
              go_simp
              try with_reducible rfl
            refine wpAnyH_take (i := 30) (v := ?_) rfl (by kernel_rfl) (by kernel_rfl) (by kernel_rfl) (fun _ _ _ h => h) (Or.inl ⟨by kernel_rfl, ?_⟩) hS ?_
            rotate_left
            · intro wx hx
              obtain ⟨⟨hx0, hx1, hx2, hx3, hx4, hx5, hx6⟩, hx7⟩ := hx
              clear hx6 hx7
              go_simp
              try with_reducible rfl
            refine wpAnyH_take (i := 31) (v := ?_) rfl (by kernel_rfl) (by kernel_rfl) (by kernel_rfl) (fun _ _ _ h => h) (Or.inl ⟨by kernel_rfl, ?_⟩) hS ?_
            rotate_left
            · intro wx hx
              obtain ⟨⟨hx0, hx1, hx2, hx3, hx4, hx5, hx6⟩, hx7⟩ := hx
              clear hx6 hx7
              go_simp
              try with_reducible rfl
            refine wpAnyH_take (i := 32) (v := ?_) rfl (by kernel_rfl) (by kernel_rfl) (by kernel_rfl) (fun _ _ _ h => h) (Or.inl ⟨by kernel_rfl, ?_⟩) hS ?_
            rotate_left
            · intro wx hx
              obtain ⟨⟨hx0, hx1, hx2, hx3, hx4, hx5, hx6⟩, hx7⟩ := hx
              clear hx6 hx7
              go_simp
              try with_reducible rfl
            refine wpAnyH_ready (rs := [33]) (by kernel_rfl) (by simp) ?_
            refine AllReadyH.cons rfl (fun K hK => ?_) AllReadyH.nil
            go_simp
            go_wp2_with fail
            refine (hSk.out _).mono ?_
            rintro e w' ⟨vs, rfl, is, hb⟩
            obtain ⟨os, cs, rfl⟩ := is.form
            clear is
            go_wp2_with fail
            refine hK.out _ _ ⟨hS.1.later hb, hS.2.later hb⟩ (fun hS => ?_)
            clear hK K
            refine wpAnyH_take (i := 34) (v := ?_) rfl (by kernel_rfl) (by kernel_rfl) (by kernel_rfl) (fun _ _ _ h => h) (Or.inl ⟨by kernel_rfl, ?_⟩) hS ?_
            rotate_left
            · intro wx hx
              obtain ⟨⟨hx0, hx1, hx2, hx3, hx4, hx5, hx6⟩, hx7⟩ := hx
              clear hx6 hx7
              go_simp
              try with_reducible rfl
            refine wpAnyH_take (i := 35) (v := ?_) rfl (by kernel_rfl) (by kernel_rfl) (by kernel_rfl) (fun _ _ _ h => h) (Or.inl ⟨by kernel_rfl, ?_⟩) hS ?_
            rotate_left
            · intro wx hx
              obtain ⟨⟨hx0, hx1, hx2, hx3, hx4, hx5, hx6⟩, hx7⟩ := hx
              clear hx6 hx7
              go_simp
              try with_reducible rfl
            refine wpAnyH_take (i := 36) (v := ?_) rfl (by kernel_rfl) (by kernel_rfl) (by kernel_rfl) (fun _ _ _ h => h) (Or.inl ⟨by kernel_rfl, ?_⟩) hS ?_
            rotate_left
            · intro wx hx
              obtain ⟨⟨hx0, hx1, hx2, hx3, hx4, hx5, hx6⟩, hx7⟩ := hx
              clear hx6 hx7
              go_simp
              try with_reducible rfl
            refine wpAnyH_take (i := 37) (v := ?_) rfl (by kernel_rfl) (by kernel_rfl) (by kernel_rfl) (fun _ _ _ h => h) (Or.inl ⟨by kernel_rfl, ?_⟩) hS ?_
            rotate_left
            · intro wx hx
              obtain ⟨⟨hx0, hx1, hx2, hx3, hx4, hx5, hx6⟩, hx7⟩ := hx
              clear hx6 hx7
              go_simp
              try with_reducible rfl
            refine wpAnyH_take (i := 38) (v := ?_) rfl (by kernel_rfl) (by kernel_rfl) (by kernel_rfl) (fun _ _ _ h => h) (Or.inl ⟨by kernel_rfl, ?_⟩) hS ?_
            rotate_left
            · intro wx hx
              obtain ⟨⟨hx0, hx1, hx2, hx3, hx4, hx5, hx6⟩, hx7⟩ := hx
              clear hx6 hx7
              go_simp
              try with_reducible rfl
            refine wpAnyH_take (i := 39) (v := ?_) rfl (by kernel_rfl) (by kernel_rfl) (by kernel_rfl) (fun _ _ _ h => h) (Or.inl ⟨by kernel_rfl, ?_⟩) hS ?_
            rotate_left
            · intro wx hx
              obtain ⟨⟨hx0, hx1, hx2, hx3, hx4, hx5, hx6⟩, hx7⟩ := hx
              clear hx6 hx7
              go_simp
              try with_reducible rfl
            refine wpAnyH_take (i := 40) (v := ?_) rfl (by kernel_rfl) (by kernel_rfl) (by kernel_rfl) (fun _ _ _ h => h) (Or.inl ⟨by kernel_rfl, ?_⟩) hS ?_
            rotate_left
            · intro wx hx
              obtain ⟨⟨hx0, hx1, hx2, hx3, hx4, hx5, hx6⟩, hx7⟩ := hx
              clear hx6 hx7
              go_simp
              try with_reducible rfl
            refine wpAnyH_take (i := 41) (v := ?_) rfl (by kernel_rfl) (by kernel_rfl) (by kernel_rfl) (fun _ _ _ h => h) (Or.inl ⟨by kernel_rfl, ?_⟩) hS ?_
            rotate_left
            · intro wx hx
              obtain ⟨⟨hx0, hx1, hx2, hx3, hx4, hx5, hx6⟩, hx7⟩ := hx
              clear hx6 hx7
              go_simp
              try with_reducible rfl
            refine wpAnyH_take (i := 42) (v := undef) rfl (by kernel_rfl) (by kernel_rfl) (by kernel_rfl) (fun _ _ _ h => h) (Or.inr ⟨by kernel_rfl, rfl⟩) hS ?_
            refine wpAnyH_take (i := 43) (v := undef) rfl (by kernel_rfl) (by kernel_rfl) (by kernel_rfl) (fun _ _ _ h => h) (Or.inr ⟨by kernel_rfl, rfl⟩) hS ?_
            refine wpAnyH_take (i := 44) (v := undef) rfl (by kernel_rfl) (by kernel_rfl) (by kernel_rfl) (fun _ _ _ h => h) (Or.inr ⟨by kernel_rfl, rfl⟩) hS ?_
            refine wpAnyH_take (i := 46) (v := undef) rfl (by kernel_rfl) (by kernel_rfl) (by kernel_rfl) (fun _ _ _ h => h) (Or.inr ⟨by kernel_rfl, rfl⟩) hS ?_
            refine wpAnyH_take (i := 47) (v := undef) rfl (by kernel_rfl) (by kernel_rfl) (by kernel_rfl) (fun _ _ _ h => h) (Or.inr ⟨by kernel_rfl, rfl⟩) hS ?_
            refine wpAnyH_take (i := 48) (v := undef) rfl (by kernel_rfl) (by kernel_rfl) (by kernel_rfl) (fun _ _ _ h => h) (Or.inr ⟨by kernel_rfl, rfl⟩) hS ?_
            refine wpAnyH_take (i := 45) (v := undef) rfl (by kernel_rfl) (by kernel_rfl) (by kernel_rfl) (fun _ _ _ h => h) (Or.inr ⟨by kernel_rfl, rfl⟩) hS ?_
            refine wpAnyH_take (i := 49) (v := undef) rfl (by kernel_rfl) (by kernel_rfl) (by kernel_rfl) (fun _ _ _ h => h) (Or.inr ⟨by kernel_rfl, rfl⟩) hS ?_
            refine wpAnyH_take (i := 50) (v := undef) rfl (by kernel_rfl) (by kernel_rfl) (by kernel_rfl) (fun _ _ _ h => h) (Or.inr ⟨by kernel_rfl, rfl⟩) hS ?_
            refine wpAnyH_take (i := 51) (v := undef) rfl (by kernel_rfl) (by kernel_rfl) (by kernel_rfl) (fun _ _ _ h => h) (Or.inr ⟨by kernel_rfl, rfl⟩) hS ?_
            refine wpAnyH_take (i := 52) (v := undef) rfl (by kernel_rfl) (by kernel_rfl) (by kernel_rfl) (fun _ _ _ h => h) (Or.inr ⟨by kernel_rfl, rfl⟩) hS ?_
            refine wpAnyH_take (i := 53) (v := undef) rfl (by kernel_rfl) (by kernel_rfl) (by kernel_rfl) (fun _ _ _ h => h) (Or.inr ⟨by kernel_rfl, rfl⟩) hS ?_
            refine wpAnyH_take (i := 54) (v := undef) rfl (by kernel_rfl) (by kernel_rfl) (by kernel_rfl) (fun _ _ _ h => h) (Or.inr ⟨by kernel_rfl, rfl⟩) hS ?_
            refine wpAnyH_take (i := 55) (v := ?_) rfl (by kernel_rfl) (by kernel_rfl) (by kernel_rfl) (fun _ _ _ h => h) (Or.inl ⟨by kernel_rfl, ?_⟩) hS ?_
            rotate_left
            · intro wx hx
              obtain ⟨⟨hx0, hx1, hx2, hx3, hx4, hx5, hx6⟩, hx7⟩ := hx
              clear hx6 hx7
              go_simp
              try with_reducible rfl
            refine wpAnyH_take (i := 56) (v := ?_) rfl (by kernel_rfl) (by kernel_rfl) (by kernel_rfl) (fun _ _ _ h => h) (Or.inl ⟨by kernel_rfl, ?_⟩) hS ?_
            rotate_left
            · intro wx hx
              obtain ⟨⟨hx0, hx1, hx2, hx3, hx4, hx5, hx6⟩, hx7⟩ := hx
              clear hx6 hx7
              go_simp
              try with_reducible rfl
            refine wpAnyH_take (i := 57) (v := ?_) rfl (by kernel_rfl) (by kernel_rfl) (by kernel_rfl) (fun _ _ _ h => h) (Or.inl ⟨by kernel_rfl, ?_⟩) hS ?_
            rotate_left
            · intro wx hx
              obtain ⟨⟨hx0, hx1, hx2, hx3, hx4, hx5, hx6⟩, hx7⟩ := hx
              clear hx6 hx7
              go_simp
              try with_reducible rfl
            refine wpAnyH_done (by kernel_rfl) ?_ _
            go_simp
            go_wp2
            go_ret
            exact ⟨rfl, hS.1.2.2.2.2.2.2⟩
    · obtain ⟨fc, hfc⟩ : ∃ fc, faultOf k = fc := ⟨_, rfl⟩
      have HPt : Hid (∀ w, Calls Tryd.prog 10 #[.int .i64 k] w fun e w' => e = .returned (.agg #[.int .i64 fc, .int .i64 0, .int .i64 0, .int .i64 0]) ∧ w' = w.alloc (.cells #[.int .i64 fc, .int .i64 0, .int .i64 0, .int .i64 0] 33)) := fun w => by
        have := implPartsOf_any k w; unfold partsVal partsObj at this; rw [(parts_bad hf).1, (parts_bad hf).2.1, (parts_bad hf).2.2, hfc] at this; exact this
      have HSp : Hid (∀ w, Calls Tryd.prog 11 #[.int .i64 k] w fun e w' => e = .returned (.agg #[.int .i64 fc, .int .i64 0, .int .i64 0, .int .i64 0]) ∧ w' = w.alloc (.cells #[.int .i64 fc, .int .i64 0, .int .i64 0, .int .i64 0] 33)) := fun w => by
        have := specPartsOf_any k w; unfold partsVal partsObj at this; rw [(parts_bad hf).1, (parts_bad hf).2.1, (parts_bad hf).2.2, hfc] at this; exact this
      have HKf : Hid (∀ w, Calls Tryd.prog 12 #[.int .i64 k] w fun e w' => e = .returned (.int .i64 fc) ∧ w' = w) := fun w => by have := keyFault_any k w; rw [hfc] at this; exact this
      obtain ⟨kt, HKt⟩ : ∃ kt, Hid (∀ w, Calls Tryd.prog 7 #[.int .i64 k] w fun e w' => e = .returned (.agg #[.int .i64 fc, .string kt]) ∧ Below w.heap.size w w') := ⟨_, fun w => by have := implKeyText_any k w; rw [hfc] at this; exact this⟩
      have dfc : (fc != 0) = true := by rw [bne_iff_ne, ← hfc]; exact hf
      clear hf hfc
      go_wp2_with fail
      refine (HPt.out _).mono ?_
      rintro e w' ⟨rfl, rfl⟩
      go_wp2_with fail
      refine wp_region_held_drew (S := Six w (w3.heap.size + 1) (w3.heap.size + 1) (w3.heap.size + 1) (.int .i64 fc) (.int .i64 0) (.int .i64 fc) (.int .i64 0) (.int .i64 fc) (.int .i64 0)) (by kernel_rfl) ⟨by simp, by simp, by simp, by simp, by simp, by simp, ((B3.out.alloc zz3 _).alloc (by simp; omega) _).drew⟩ (fun hS => ?_)
      refine wpAnyH_take (i := 0) (v := ?_) rfl (by kernel_rfl) (by kernel_rfl) (by kernel_rfl) (fun _ _ _ h => h) (Or.inl ⟨by kernel_rfl, ?_⟩) hS ?_
      rotate_left
      · intro wx hx
        obtain ⟨hx0, hx1, hx2, hx3, hx4, hx5, hx6⟩ := hx
        go_simp
        try with_reducible rfl
      refine wpAnyH_take (i := 3) (v := ?_) rfl (by kernel_rfl) (by kernel_rfl) (by kernel_rfl) (fun _ _ _ h => h) (Or.inl ⟨by kernel_rfl, ?_⟩) hS ?_
      rotate_left
      · intro wx hx
        obtain ⟨hx0, hx1, hx2, hx3, hx4, hx5, hx6⟩ := hx
        go_simp
        try with_reducible rfl
      refine wpAnyH_take (i := 4) (v := ?_) rfl (by kernel_rfl) (by kernel_rfl) (by kernel_rfl) (fun _ _ _ h => h) (Or.inl ⟨by kernel_rfl, ?_⟩) hS ?_
      rotate_left
      · intro wx hx
        obtain ⟨hx0, hx1, hx2, hx3, hx4, hx5, hx6⟩ := hx
        go_simp
        try with_reducible rfl
      refine wpAnyH_ready (rs := [1]) (by kernel_rfl) (by simp) ?_
      refine AllReadyH.cons rfl (fun K hK => ?_) AllReadyH.nil
      go_simp
      go_wp2_with fail
      refine (HSp.out _).mono ?_
      rintro e w' ⟨rfl, rfl⟩
      go_wp2_with fail
      refine hK.out _ _ (hS.later ((Below.refl _ _).alloc (Nat.le_refl _) _)) (fun hS => ?_)
      clear hK K
      refine wpAnyH_take (i := 2) (v := ?_) rfl (by kernel_rfl) (by kernel_rfl) (by kernel_rfl) (fun _ _ _ h => h) (Or.inl ⟨by kernel_rfl, ?_⟩) hS ?_
      rotate_left
      · intro wx hx
        obtain ⟨hx0, hx1, hx2, hx3, hx4, hx5, hx6⟩ := hx
        go_simp
        try with_reducible rfl
      refine wpAnyH_take (i := 5) (v := ?_) rfl (by kernel_rfl) (by kernel_rfl) (by kernel_rfl) (fun _ _ _ h => h) (Or.inl ⟨by kernel_rfl, ?_⟩) hS ?_
      rotate_left
      · intro wx hx
        obtain ⟨hx0, hx1, hx2, hx3, hx4, hx5, hx6⟩ := hx
        go_simp
        try with_reducible rfl
      refine wpAnyH_take (i := 6) (v := ?_) rfl (by kernel_rfl) (by kernel_rfl) (by kernel_rfl) (fun _ _ _ h => h) (Or.inl ⟨by kernel_rfl, ?_⟩) hS ?_
      rotate_left
      · intro wx hx
        obtain ⟨hx0, hx1, hx2, hx3, hx4, hx5, hx6⟩ := hx
        go_simp
        try with_reducible rfl
      refine wpAnyH_take (i := 7) (v := ?_) rfl (by kernel_rfl) (by kernel_rfl) (by kernel_rfl) (fun _ _ _ h => h) (Or.inl ⟨by kernel_rfl, ?_⟩) hS ?_
      rotate_left
      · intro wx hx
        obtain ⟨hx0, hx1, hx2, hx3, hx4, hx5, hx6⟩ := hx
        go_simp
        try with_reducible rfl
      refine wpAnyH_take (i := 9) (v := ?_) rfl (by kernel_rfl) (by kernel_rfl) (by kernel_rfl) (fun _ _ _ h => h) (Or.inl ⟨by kernel_rfl, ?_⟩) hS ?_
      rotate_left
      · intro wx hx
        obtain ⟨hx0, hx1, hx2, hx3, hx4, hx5, hx6⟩ := hx
        go_simp
        try with_reducible rfl
      refine wpAnyH_take (i := 10) (v := ?_) rfl (by kernel_rfl) (by kernel_rfl) (by kernel_rfl) (fun _ _ _ h => h) (Or.inl ⟨by kernel_rfl, ?_⟩) hS ?_
      rotate_left
      · intro wx hx
        obtain ⟨hx0, hx1, hx2, hx3, hx4, hx5, hx6⟩ := hx
        go_simp
        try with_reducible rfl
      refine wpAnyH_ready (rs := [8]) (by kernel_rfl) (by simp) ?_
      refine AllReadyH.cons rfl (fun K hK => ?_) AllReadyH.nil
      go_simp
      go_wp2_with fail
      refine (HKf.out _).mono ?_
      rintro e w' ⟨rfl, rfl⟩
      go_wp2_with fail
      refine hK.out _ _ hS (fun hS => ?_)
      clear hK K
      refine wpAnyH_take (i := 11) (v := ?_) rfl (by kernel_rfl) (by kernel_rfl) (by kernel_rfl) (fun _ _ _ h => h) (Or.inl ⟨by kernel_rfl, ?_⟩) hS ?_
      rotate_left
      · intro wx hx
        obtain ⟨hx0, hx1, hx2, hx3, hx4, hx5, hx6⟩ := hx
        go_simp
        try with_reducible rfl
      refine wpAnyH_take (i := 12) (v := ?_) rfl (by kernel_rfl) (by kernel_rfl) (by kernel_rfl) (fun _ _ _ h => h) (Or.inl ⟨by kernel_rfl, ?_⟩) hS ?_
      rotate_left
      · intro wx hx
        obtain ⟨hx0, hx1, hx2, hx3, hx4, hx5, hx6⟩ := hx
        go_simp
        try with_reducible rfl
      refine wpAnyH_take (i := 13) (v := ?_) rfl (by kernel_rfl) (by kernel_rfl) (by kernel_rfl) (fun _ _ _ h => h) (Or.inl ⟨by kernel_rfl, ?_⟩) hS ?_
      rotate_left
      · intro wx hx
        obtain ⟨hx0, hx1, hx2, hx3, hx4, hx5, hx6⟩ := hx
        go_simp
        try with_reducible rfl
      refine wpAnyH_take (i := 14) (v := ?_) rfl (by kernel_rfl) (by kernel_rfl) (by kernel_rfl) (fun _ _ _ h => h) (Or.inl ⟨by kernel_rfl, ?_⟩) hS ?_
      rotate_left
      · intro wx hx
        obtain ⟨hx0, hx1, hx2, hx3, hx4, hx5, hx6⟩ := hx
        go_simp
        try with_reducible rfl
      refine wpAnyH_take (i := 17) (v := ?_) rfl (by kernel_rfl) (by kernel_rfl) (by kernel_rfl) (fun _ _ _ h => h) (Or.inl ⟨by kernel_rfl, ?_⟩) hS ?_
      rotate_left
      · intro wx hx
        obtain ⟨hx0, hx1, hx2, hx3, hx4, hx5, hx6⟩ := hx
        go_simp
        try with_reducible rfl
      refine wpAnyH_take (i := 18) (v := ?_) rfl (by kernel_rfl) (by kernel_rfl) (by kernel_rfl) (fun _ _ _ h => h) (Or.inl ⟨by kernel_rfl, ?_⟩) hS ?_
      rotate_left
      · intro wx hx
        obtain ⟨hx0, hx1, hx2, hx3, hx4, hx5, hx6⟩ := hx
        go_simp
        try with_reducible rfl
      refine wpAnyH_ready (rs := [15]) (by kernel_rfl) (by simp) ?_
      refine AllReadyH.cons rfl (fun K hK => ?_) AllReadyH.nil
      go_simp
      go_wp2_with fail
      refine (HKt.out _).mono ?_
      rintro e w' ⟨rfl, hb⟩
      go_wp2_with fail
      refine hK.out _ _ (hS.later hb) (fun hS => ?_)
      clear hK K
      refine wpAnyH_take (i := 16) (v := ?_) rfl (by kernel_rfl) (by kernel_rfl) (by kernel_rfl) (fun _ _ _ h => h) (Or.inl ⟨by kernel_rfl, ?_⟩) hS ?_
      rotate_left
      · intro wx hx
        obtain ⟨hx0, hx1, hx2, hx3, hx4, hx5, hx6⟩ := hx
        go_simp
        try with_reducible rfl
      refine wpAnyH_take (i := 19) (v := ?_) rfl (by kernel_rfl) (by kernel_rfl) (by kernel_rfl) (fun _ _ _ h => h) (Or.inl ⟨by kernel_rfl, ?_⟩) hS ?_
      rotate_left
      · intro wx hx
        obtain ⟨hx0, hx1, hx2, hx3, hx4, hx5, hx6⟩ := hx
        go_simp
        try with_reducible rfl
      refine wpAnyH_take (i := 20) (v := ?_) rfl (by kernel_rfl) (by kernel_rfl) (by kernel_rfl) (fun _ _ _ h => h) (Or.inl ⟨by kernel_rfl, ?_⟩) hS ?_
      rotate_left
      · intro wx hx
        obtain ⟨hx0, hx1, hx2, hx3, hx4, hx5, hx6⟩ := hx
        go_simp
        try with_reducible rfl
      refine wpAnyH_take (i := 21) (v := ?_) rfl (by kernel_rfl) (by kernel_rfl) (by kernel_rfl) (fun _ _ _ h => h) (Or.inl ⟨by kernel_rfl, ?_⟩) hS ?_
      rotate_left
      · intro wx hx
        obtain ⟨hx0, hx1, hx2, hx3, hx4, hx5, hx6⟩ := hx
        go_simp
        try with_reducible rfl
      refine wpAnyH_done (by kernel_rfl) ?_ _
      go_simp
      go_wp2
      go_ret
      exact ⟨rfl, hS.2.2.2.2.2.2⟩
end Go.Proofs.YtdfknnhdnojfdaaDoor
