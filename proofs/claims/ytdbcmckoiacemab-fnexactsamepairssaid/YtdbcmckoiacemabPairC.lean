/-
  Own text. Two equal rows of pairs are equal.
-/
import Derived.Test.YtdbcmckoiacemabMarkA
import Derived.Deep.RegionHeld
namespace Go.Proofs.Ytdbcmckoiacemab
open Go.RowKit

set_option maxHeartbeats 400000 in
theorem eqPair_same (x0 x1 : Int) (w : World) :
    Calls Try.prog 11 #[.agg #[.int .i64 x0, .int .i64 x1], .agg #[.int .i64 x0, .int .i64 x1]] w fun e w' => e = .returned (.bool true) ∧ Below w.heap.size w w' := by
  go_enter Try.func11, Try.ntmps11
  go_wp2
  go_ret
  exact ⟨rfl, ((Below.refl _ _).alloc (Nat.le_refl _) _).alloc (by simp) _⟩
def TwoPair (w : World) (g o g' o' k : Nat) (F : Nat → Int) (x : World) : Prop := (x.cell? ⟨g, o + k * 2, none⟩ = some (.int .i64 (F (k * 2))) ∧ x.cell? ⟨g, o + k * 2 + 1, none⟩ = some (.int .i64 (F (k * 2 + 1))) ∧ x.cell? ⟨g', o' + k * 2, none⟩ = some (.int .i64 (F (k * 2))) ∧ x.cell? ⟨g', o' + k * 2 + 1, none⟩ = some (.int .i64 (F (k * 2 + 1)))) ∧ Below w.heap.size w x
theorem TwoPair.later {w x x' : World} {g o g' o' k : Nat} {F : Nat → Int} (h : TwoPair w g o g' o' k F x) (hg : g < w.heap.size) (hg' : g' < w.heap.size) (hb : Below x.heap.size x x') : TwoPair w g o g' o' k F x' := by
  obtain ⟨⟨hx0, hx1, hx2, hx3⟩, hy⟩ := h
  exact ⟨⟨(hb.cell (Nat.lt_of_lt_of_le hg hy.size)).trans hx0, (hb.cell (Nat.lt_of_lt_of_le hg hy.size)).trans hx1, (hb.cell (Nat.lt_of_lt_of_le hg' hy.size)).trans hx2, (hb.cell (Nat.lt_of_lt_of_le hg' hy.size)).trans hx3⟩, hy.trans (hb.mono hy.size)⟩
set_option maxRecDepth 100000 in
set_option maxHeartbeats 1000000 in
theorem eqPairS_same (va vb : Value) (Ba Bb n : Nat) (F : Nat → Int) (w : World) (ha : Row w Ba 2 n F va) (hb : Row w Bb 2 n F vb) (hn : n ≤ 1048576) :
    Calls Try.prog 8 #[va, vb] w fun e w' => e = .returned (.bool true) ∧ Below w.heap.size w w' := by
  obtain ⟨ao, ca, rfl⟩ := ha.form
  obtain ⟨bo, cb, rfl⟩ := hb.form
  have HA : Hid (Row w Ba 2 n F (.slice ao n ca)) := ha
  have HB : Hid (Row w Bb 2 n F (.slice bo n cb)) := hb
  clear ha hb
  go_enter Try.func8, Try.ntmps8
  go_wp2
  go_loopw [5] (fun i wr => ∃ k : Nat, k ≤ n ∧ i = .int .i64 k ∧ Below w.heap.size w wr) (fun i _ => n - (intOf i).toNat)
  case atStart => exact ⟨0, Nat.zero_le _, rfl, Below.refl _ _⟩
  case round =>
    obtain ⟨k, hk, rfl, hbw⟩ := hrel
    by_cases hlt : k < n
    · obtain ⟨g, o, rfl, _, hg, c0, c1⟩ := HA.out.at2 hlt
      obtain ⟨g', o', rfl, _, hg', d0, d1⟩ := HB.out.at2 hlt
      have h0 : TwoPair w g o g' o' k F wr.drew := ⟨⟨(hbw.cell (p := ⟨g, o + k * 2, none⟩) hg).trans c0, (hbw.cell (p := ⟨g, o + k * 2 + 1, none⟩) hg).trans c1, (hbw.cell (p := ⟨g', o' + k * 2, none⟩) hg').trans d0, (hbw.cell (p := ⟨g', o' + k * 2 + 1, none⟩) hg').trans d1⟩, hbw.drew⟩
      clear c0 d0 c1 d1 hbw
      go_wp2_with fail
      refine wp_region_held_drew (S := TwoPair w g o g' o' k F) (by kernel_rfl) h0 (fun hS => ?_)
      clear h0
      refine wpAnyH_take (i := 0) (v := ?_) rfl (by kernel_rfl) (by kernel_rfl) (by kernel_rfl) (fun _ _ _ h => h) (Or.inl ⟨by kernel_rfl, ?_⟩) hS ?_
      rotate_left
      · intro wx hx
        obtain ⟨⟨hx0, hx1, hx2, hx3⟩, _⟩ := hx
        go_simp
        try with_reducible rfl
      refine wpAnyH_take (i := 1) (v := ?_) rfl (by kernel_rfl) (by kernel_rfl) (by kernel_rfl) (fun _ _ _ h => h) (Or.inl ⟨by kernel_rfl, ?_⟩) hS ?_
      rotate_left
      · intro wx hx
        obtain ⟨⟨hx0, hx1, hx2, hx3⟩, _⟩ := hx
        go_simp
        try with_reducible rfl
      refine wpAnyH_take (i := 2) (v := ?_) rfl (by kernel_rfl) (by kernel_rfl) (by kernel_rfl) (fun _ _ _ h => h) (Or.inl ⟨by kernel_rfl, ?_⟩) hS ?_
      rotate_left
      · intro wx hx
        obtain ⟨⟨hx0, hx1, hx2, hx3⟩, _⟩ := hx
        go_simp
        try with_reducible rfl
      refine wpAnyH_take (i := 3) (v := ?_) rfl (by kernel_rfl) (by kernel_rfl) (by kernel_rfl) (fun _ _ _ h => h) (Or.inl ⟨by kernel_rfl, ?_⟩) hS ?_
      rotate_left
      · intro wx hx
        obtain ⟨⟨hx0, hx1, hx2, hx3⟩, _⟩ := hx
        go_simp
        try with_reducible rfl
      refine wpAnyH_take (i := 4) (v := ?_) rfl (by kernel_rfl) (by kernel_rfl) (by kernel_rfl) (fun _ _ _ h => h) (Or.inl ⟨by kernel_rfl, ?_⟩) hS ?_
      rotate_left
      · intro wx hx
        obtain ⟨⟨hx0, hx1, hx2, hx3⟩, _⟩ := hx
        go_simp
        try with_reducible rfl
      refine wpAnyH_take (i := 5) (v := ?_) rfl (by kernel_rfl) (by kernel_rfl) (by kernel_rfl) (fun _ _ _ h => h) (Or.inl ⟨by kernel_rfl, ?_⟩) hS ?_
      rotate_left
      · intro wx hx
        obtain ⟨⟨hx0, hx1, hx2, hx3⟩, _⟩ := hx
        go_simp
        try with_reducible rfl
      refine wpAnyH_take (i := 6) (v := ?_) rfl (by kernel_rfl) (by kernel_rfl) (by kernel_rfl) (fun _ _ _ h => h) (Or.inl ⟨by kernel_rfl, ?_⟩) hS ?_
      rotate_left
      · intro wx hx
        obtain ⟨⟨hx0, hx1, hx2, hx3⟩, _⟩ := hx
        go_simp
        try with_reducible rfl
      refine wpAnyH_take (i := 7) (v := ?_) rfl (by kernel_rfl) (by kernel_rfl) (by kernel_rfl) (fun _ _ _ h => h) (Or.inl ⟨by kernel_rfl, ?_⟩) hS ?_
      rotate_left
      · intro wx hx
        obtain ⟨⟨hx0, hx1, hx2, hx3⟩, _⟩ := hx
        go_simp
        try with_reducible rfl
      refine wpAnyH_ready (rs := [8]) (by kernel_rfl) (by simp) ?_
      refine AllReadyH.cons rfl (fun K hK => ?_) AllReadyH.nil
      go_simp
      go_wp2_with fail
      refine (eqPair_same _ _ _).mono ?_
      rintro e w' ⟨rfl, hb⟩
      go_wp2_with fail
      refine hK.out _ _ (hS.later hg hg' hb) (fun hS => ?_)
      clear hK K
      refine wpAnyH_take (i := 9) (v := ?_) rfl (by kernel_rfl) (by kernel_rfl) (by kernel_rfl) (fun _ _ _ h => h) (Or.inl ⟨by kernel_rfl, ?_⟩) hS ?_
      rotate_left
      · intro wx hx
        obtain ⟨⟨hx0, hx1, hx2, hx3⟩, _⟩ := hx
        go_simp
        try with_reducible rfl
      refine wpAnyH_done (by kernel_rfl) ?_ _
      go_simp
      go_wp2
      go_roundw
      case rel => exact ⟨k + 1, by omega, by go_num, hS.2⟩
      case measure => simp [intOf]; omega
    · go_wp2
      go_ret
      exact ⟨rfl, hbw⟩
end Go.Proofs.Ytdbcmckoiacemab
