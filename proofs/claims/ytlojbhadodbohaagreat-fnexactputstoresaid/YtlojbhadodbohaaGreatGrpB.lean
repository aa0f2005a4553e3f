/-
  Own text. What the law's helpers over groups do: szGroups, toGroups, eqGroups.
-/
import Derived.Test.YtlojbhadodbohaaGreatGrpA
import Derived.Test.YtlojbhadodbohaaGreatColsF
namespace Go.Proofs.YtlojbhadodbohaaGreat
open Go.RowKit

def SmallS (S : Sto) : Prop := S.nc ≤ 1048576 ∧ S.nl ≤ 1048576 ∧ S.nw ≤ 1048576
def BigS (S : Sto) : Prop := S.nc ≤ 9223372036854775807 ∧ S.nl ≤ 9223372036854775807 ∧ S.nw ≤ 9223372036854775807
def sumN (f : Nat → Nat) : Nat → Nat
  | 0 => 0
  | n + 1 => sumN f n + f n
def sizeT (S : Nat → Sto) (i : Nat) : Nat := (S i).nc + (S i).nl + (S i).nw
def SzAns (n : Nat) (S : Nat → Sto) (left r : Int) : Prop := r = -1 ∨ (0 ≤ r ∧ n ≤ 1048576 ∧ ((sumN (sizeT S) n : Nat) : Int) ≤ left ∧ ∀ i, i < n → SmallS (S i))
set_option maxRecDepth 10000 in
set_option maxHeartbeats 2000000 in
theorem szStoreS_any (n : Nat) (S : Nat → Sto) (V : Nat → Nat → Value) (v : Value) (B : Nat) (left : Int) (w : World) (h : Stos w B n S V v) (hn : n ≤ 9223372036854775807) (hs : ∀ i, i < n → BigS (S i)) (h0 : 0 ≤ left) (h2 : left ≤ 1048576) :
    Calls Tryz.prog 30 #[v, .int .i64 left] w fun e w' => ∃ r, e = .returned (.int .i64 r) ∧ SzAns n S left r ∧ Below w.heap.size w w' := by
  obtain ⟨ao, cp, rfl⟩ := h.form
  have H : Hid (Stos w B n S V (.slice ao n cp)) := h
  have HN : Hid (∀ i, i < n → BigS (S i)) := hs
  clear h hs
  by_cases hl : left < n
  · have d : decide (left - n < 0) = true := decide_eq_true (by omega)
    go_enter Tryz.func30, Tryz.ntmps30
    go_wp2
    go_ret
    exact ⟨-1, rfl, Or.inl rfl, Below.refl _ _⟩
  have d : decide (left - n < 0) = false := decide_eq_false (by omega)
  go_enter Tryz.func30, Tryz.ntmps30
  go_wp2
  go_loopw [1, 5] (fun j i wr => ∃ (k : Nat) (L : Int), k ≤ n ∧ j = .int .i64 L ∧ i = .int .i64 k ∧ Hid ((0 ≤ L ∧ L + (sumN (sizeT S) k : Nat) ≤ left) ∧ ∀ i, i < k → SmallS (S i)) ∧ Hid (Below w.heap.size w wr)) (fun _ i _ => n - (intOf i).toNat)
  case atStart => exact ⟨0, left - n, Nat.zero_le _, rfl, rfl, ⟨by simp only [sumN]; omega, fun i hi => absurd hi (Nat.not_lt_zero i)⟩, Below.refl _ _⟩
  case round =>
    obtain ⟨k, L, hk, rfl, rfl, hL, hR⟩ := hrel
    by_cases hlt : k < n
    · obtain ⟨g, o, rfl, _, hg, ⟨c0, c1, c2⟩, sk⟩ := H.out.at hlt
      have b0 := hR.out.cell (p := ⟨g, o + k * 3, none⟩) hg
      rw [c0] at b0
      have b1 := hR.out.cell (p := ⟨g, o + k * 3 + 1, none⟩) hg
      rw [c1] at b1
      have b2 := hR.out.cell (p := ⟨g, o + k * 3 + 2, none⟩) hg
      rw [c2] at b2
      clear c0 c1 c2
      obtain ⟨a0, d0, a1, d1, a2, d2, e0, e1, e2⟩ := sk.form
      rw [e0] at b0
      rw [e1] at b1
      rw [e2] at b2
      clear sk e0 e1 e2
      obtain ⟨n0, hn0⟩ : ∃ x, (S k).nc = x := ⟨_, rfl⟩
      obtain ⟨n1, hn1⟩ : ∃ x, (S k).nl = x := ⟨_, rfl⟩
      obtain ⟨n2, hn2⟩ : ∃ x, (S k).nw = x := ⟨_, rfl⟩
      rw [hn0] at b0
      rw [hn1] at b1
      rw [hn2] at b2
      have hB : Hid (n0 ≤ 9223372036854775807 ∧ n1 ≤ 9223372036854775807 ∧ n2 ≤ 9223372036854775807) := by
        have := HN.out k hlt
        unfold BigS at this
        rw [hn0, hn1, hn2] at this
        exact this
      have hE : Hid ((S k).nc = n0 ∧ (S k).nl = n1 ∧ (S k).nw = n2) := ⟨hn0, hn1, hn2⟩
      clear hn0 hn1 hn2
      by_cases hfit : (n0 : Int) + n1 + n2 ≤ L
      · go_wp2_with fail
        refine (szStore_ok L _ _ _ _ _ _ _ _ _ _ hfit hL.out.1.1 (by have := hL.out.1; omega) hB.out.1 hB.out.2.1 hB.out.2.2).mono ?_
        rintro e w1 ⟨rfl, q1⟩
        have HB : Hid (Below w.heap.size w w1) := hR.out.trans (q1.mono hR.out.size)
        have dd : decide (L - n0 - n1 - n2 < 0) = false := decide_eq_false (by omega)
        clear q1 hR b0 b1 b2
        go_wp2
        go_roundw
        case rel =>
          have hst : sumN (sizeT S) (k + 1) = sumN (sizeT S) k + (n0 + n1 + n2) := by show sumN (sizeT S) k + ((S k).nc + (S k).nl + (S k).nw) = _; rw [hE.out.1, hE.out.2.1, hE.out.2.2]
          refine ⟨k + 1, L - n0 - n1 - n2, by omega, by go_num, by go_num, ⟨by have := hL.out.1; rw [hst]; omega, fun i hi => ?_⟩, HB⟩
          by_cases q : i = k
          · subst q
            have h1 := hL.out.1
            unfold SmallS
            rw [hE.out.1, hE.out.2.1, hE.out.2.2]
            omega
          · exact hL.out.2 i (by omega)
        case measure => simp [intOf]; omega
      · go_wp2_with fail
        refine (szStore_no L _ _ _ _ _ _ _ _ _ _ (by omega) hL.out.1.1 (by have := hL.out.1; omega) hB.out.1 hB.out.2.1 hB.out.2.2).mono ?_
        rintro e w1 ⟨rfl, q1⟩
        have HB : Hid (Below w.heap.size w w1) := hR.out.trans (q1.mono hR.out.size)
        clear q1 hR b0 b1 b2
        go_wp2
        go_ret
        exact ⟨-1, rfl, Or.inl rfl, HB.out⟩
    · obtain rfl : k = n := by omega
      go_wp2
      go_ret
      exact ⟨L, rfl, Or.inr ⟨hL.out.1.1, by omega, by have := hL.out.1; omega, hL.out.2⟩, hR.out⟩

def Two3 (w : World) (g o g' o' k : Nat) (V U : Nat → Nat → Value) (x : World) : Prop :=
  Below w.heap.size w x ∧ (x.cell? ⟨g, o + k * 3, none⟩ = some (V k 0) ∧ x.cell? ⟨g, o + k * 3 + 1, none⟩ = some (V k 1) ∧ x.cell? ⟨g, o + k * 3 + 2, none⟩ = some (V k 2)) ∧ x.cell? ⟨g', o' + k * 3, none⟩ = some (U k 0) ∧ x.cell? ⟨g', o' + k * 3 + 1, none⟩ = some (U k 1) ∧ x.cell? ⟨g', o' + k * 3 + 2, none⟩ = some (U k 2)
theorem Two3.drew {w x : World} {g o g' o' k : Nat} {V U : Nat → Nat → Value} (h : Two3 w g o g' o' k V U x) : Two3 w g o g' o' k V U x.drew := ⟨below_dr h.1 1, h.2⟩
set_option maxRecDepth 100000 in
set_option maxHeartbeats 4000000 in
theorem eqStoreS_same (n : Nat) (S : Nat → Sto) (V U : Nat → Nat → Value) (va vb : Value) (Ba Bb : Nat) (w : World) (ha : Stos w Ba n S V va) (hb : Stos w Bb n S U vb) (hn : n ≤ 1048576) (hs : ∀ i, i < n → SmallS (S i)) :
    Calls Tryz.prog 49 #[va, vb] w fun e w' => e = .returned (.bool true) ∧ Below w.heap.size w w' := by
  obtain ⟨ao, cp, rfl⟩ := ha.form
  obtain ⟨ao', cp', rfl⟩ := hb.form
  have H : Hid (Stos w Ba n S V (.slice ao n cp)) := ha
  have H' : Hid (Stos w Bb n S U (.slice ao' n cp')) := hb
  have HN : Hid (∀ i, i < n → SmallS (S i)) := hs
  clear ha hb hs
  go_enter Tryz.func49, Tryz.ntmps49
  go_wp2
  go_loopw [5] (fun i wr => ∃ k : Nat, k ≤ n ∧ i = .int .i64 k ∧ Hid (Below w.heap.size w wr)) (fun i _ => n - (intOf i).toNat)
  case atStart => exact ⟨0, Nat.zero_le _, rfl, Below.refl _ _⟩
  case round =>
    obtain ⟨k, hk, rfl, hR⟩ := hrel
    by_cases hlt : k < n
    · obtain ⟨g, o, rfl, _, hg, ⟨c0, c1, c2⟩, sk⟩ := (H.out.later hR.out).at hlt
      obtain ⟨g', o', rfl, _, hg', ⟨c0', c1', c2'⟩, sk'⟩ := (H'.out.later hR.out).at hlt
      have T : Hid (Two3 w g o g' o' k V U wr) := ⟨hR.out, ⟨c0, c1, c2⟩, c0', c1', c2'⟩
      obtain ⟨a0, d0, a1, d1, a2, d2, e0, e1, e2⟩ := sk.form
      obtain ⟨a0', d0', a1', d1', a2', d2', e0', e1', e2'⟩ := sk'.form
      obtain ⟨n0, hn0⟩ : ∃ x, (S k).nc = x := ⟨_, rfl⟩
      obtain ⟨n1, hn1⟩ : ∃ x, (S k).nl = x := ⟨_, rfl⟩
      obtain ⟨n2, hn2⟩ : ∃ x, (S k).nw = x := ⟨_, rfl⟩
      rw [e0, e1, e2, hn0, hn1, hn2] at sk
      rw [e0', e1', e2', hn0, hn1, hn2] at sk'
      rw [hn0] at e0 e0'
      rw [hn1] at e1 e1'
      rw [hn2] at e2 e2'
      have SK : Hid (St wr Ba (S k) (.slice a0 n0 d0) (.slice a1 n1 d1) (.slice a2 n2 d2)) := sk
      have SK' : Hid (St wr Bb (S k) (.slice a0' n0 d0') (.slice a1' n1 d1') (.slice a2' n2 d2')) := sk'
      have hN : Hid (SmallS (S k)) := HN.out k hlt
      clear sk sk' hn0 hn1 hn2 c0 c1 c2 c0' c1' c2'
      go_wp2_with fail
      refine wp_region_held_drew (S := Two3 w g o g' o' k V U) (by kernel_rfl) T.out.drew (fun hS => ?_)
      refine wpAnyH_take (i := 0) (v := ?_) rfl (by kernel_rfl) (by kernel_rfl) (by kernel_rfl) (fun _ _ _ h => h) (Or.inl ⟨by kernel_rfl, ?_⟩) hS ?_
      rotate_left
      · intro wx hx
        obtain ⟨_, ⟨hx0, hx1, hx2⟩, hx3, hx4, hx5⟩ := hx
        rw [e0] at hx0
        rw [e1] at hx1
        rw [e2] at hx2
        rw [e0'] at hx3
        rw [e1'] at hx4
        rw [e2'] at hx5
        go_simp
        try with_reducible rfl
      refine wpAnyH_take (i := 1) (v := ?_) rfl (by kernel_rfl) (by kernel_rfl) (by kernel_rfl) (fun _ _ _ h => h) (Or.inl ⟨by kernel_rfl, ?_⟩) hS ?_
      rotate_left
      · intro wx hx
        obtain ⟨_, ⟨hx0, hx1, hx2⟩, hx3, hx4, hx5⟩ := hx
        rw [e0] at hx0
        rw [e1] at hx1
        rw [e2] at hx2
        rw [e0'] at hx3
        rw [e1'] at hx4
        rw [e2'] at hx5
        go_simp
        try with_reducible rfl
      refine wpAnyH_take (i := 2) (v := ?_) rfl (by kernel_rfl) (by kernel_rfl) (by kernel_rfl) (fun _ _ _ h => h) (Or.inl ⟨by kernel_rfl, ?_⟩) hS ?_
      rotate_left
      · intro wx hx
        obtain ⟨_, ⟨hx0, hx1, hx2⟩, hx3, hx4, hx5⟩ := hx
        rw [e0] at hx0
        rw [e1] at hx1
        rw [e2] at hx2
        rw [e0'] at hx3
        rw [e1'] at hx4
        rw [e2'] at hx5
        go_simp
        try with_reducible rfl
      refine wpAnyH_take (i := 3) (v := ?_) rfl (by kernel_rfl) (by kernel_rfl) (by kernel_rfl) (fun _ _ _ h => h) (Or.inl ⟨by kernel_rfl, ?_⟩) hS ?_
      rotate_left
      · intro wx hx
        obtain ⟨_, ⟨hx0, hx1, hx2⟩, hx3, hx4, hx5⟩ := hx
        rw [e0] at hx0
        rw [e1] at hx1
        rw [e2] at hx2
        rw [e0'] at hx3
        rw [e1'] at hx4
        rw [e2'] at hx5
        go_simp
        try with_reducible rfl
      refine wpAnyH_take (i := 4) (v := ?_) rfl (by kernel_rfl) (by kernel_rfl) (by kernel_rfl) (fun _ _ _ h => h) (Or.inl ⟨by kernel_rfl, ?_⟩) hS ?_
      rotate_left
      · intro wx hx
        obtain ⟨_, ⟨hx0, hx1, hx2⟩, hx3, hx4, hx5⟩ := hx
        rw [e0] at hx0
        rw [e1] at hx1
        rw [e2] at hx2
        rw [e0'] at hx3
        rw [e1'] at hx4
        rw [e2'] at hx5
        go_simp
        try with_reducible rfl
      refine wpAnyH_take (i := 5) (v := ?_) rfl (by kernel_rfl) (by kernel_rfl) (by kernel_rfl) (fun _ _ _ h => h) (Or.inl ⟨by kernel_rfl, ?_⟩) hS ?_
      rotate_left
      · intro wx hx
        obtain ⟨_, ⟨hx0, hx1, hx2⟩, hx3, hx4, hx5⟩ := hx
        rw [e0] at hx0
        rw [e1] at hx1
        rw [e2] at hx2
        rw [e0'] at hx3
        rw [e1'] at hx4
        rw [e2'] at hx5
        go_simp
        try with_reducible rfl
      refine wpAnyH_take (i := 6) (v := ?_) rfl (by kernel_rfl) (by kernel_rfl) (by kernel_rfl) (fun _ _ _ h => h) (Or.inl ⟨by kernel_rfl, ?_⟩) hS ?_
      rotate_left
      · intro wx hx
        obtain ⟨_, ⟨hx0, hx1, hx2⟩, hx3, hx4, hx5⟩ := hx
        rw [e0] at hx0
        rw [e1] at hx1
        rw [e2] at hx2
        rw [e0'] at hx3
        rw [e1'] at hx4
        rw [e2'] at hx5
        go_simp
        try with_reducible rfl
      refine wpAnyH_take (i := 7) (v := ?_) rfl (by kernel_rfl) (by kernel_rfl) (by kernel_rfl) (fun _ _ _ h => h) (Or.inl ⟨by kernel_rfl, ?_⟩) hS ?_
      rotate_left
      · intro wx hx
        obtain ⟨_, ⟨hx0, hx1, hx2⟩, hx3, hx4, hx5⟩ := hx
        rw [e0] at hx0
        rw [e1] at hx1
        rw [e2] at hx2
        rw [e0'] at hx3
        rw [e1'] at hx4
        rw [e2'] at hx5
        go_simp
        try with_reducible rfl
      refine wpAnyH_ready (rs := [8]) (by kernel_rfl) (by simp) ?_
      refine AllReadyH.cons rfl (fun K hK => ?_) AllReadyH.nil
      go_simp
      go_wp2_with fail
      refine (eqStore_same (S k) _ _ _ _ _ _ Ba Bb _ (SK.out.later (below_dr (Below.refl _ _) 1)) (SK'.out.later (below_dr (Below.refl _ _) 1)) hN.out.1 hN.out.2.1 hN.out.2.2).mono ?_
      rintro e w1 ⟨rfl, q1⟩
      have hg2 : g < wr.heap.size := hg
      have hS' : Two3 w g o g' o' k V U w1 := by
        obtain ⟨hB, ⟨x0, x1, x2⟩, x3, x4, x5⟩ := hS
        exact ⟨hB.trans (q1.mono hB.size), ⟨(q1.cell (p := ⟨g, o + k * 3, none⟩) hg).trans x0, (q1.cell (p := ⟨g, o + k * 3 + 1, none⟩) hg).trans x1, (q1.cell (p := ⟨g, o + k * 3 + 2, none⟩) hg).trans x2⟩, (q1.cell (p := ⟨g', o' + k * 3, none⟩) hg').trans x3, (q1.cell (p := ⟨g', o' + k * 3 + 1, none⟩) hg').trans x4, (q1.cell (p := ⟨g', o' + k * 3 + 2, none⟩) hg').trans x5⟩
      clear q1
      go_wp2_with fail
      refine hK.out _ _ hS' (fun hS => ?_)
      clear hK K hS' T
      refine wpAnyH_take (i := 9) (v := ?_) rfl (by kernel_rfl) (by kernel_rfl) (by kernel_rfl) (fun _ _ _ h => h) (Or.inl ⟨by kernel_rfl, ?_⟩) hS ?_
      rotate_left
      · intro wx hx
        obtain ⟨_, ⟨hx0, hx1, hx2⟩, hx3, hx4, hx5⟩ := hx
        rw [e0] at hx0
        rw [e1] at hx1
        rw [e2] at hx2
        rw [e0'] at hx3
        rw [e1'] at hx4
        rw [e2'] at hx5
        go_simp
        try with_reducible rfl
      refine wpAnyH_done (by kernel_rfl) ?_ _
      have HB : Hid (Below w.heap.size w w1) := hS.1
      clear hS hR SK SK'
      go_simp
      go_wp2
      go_roundw
      case rel => exact ⟨k + 1, by omega, by go_num, HB⟩
      case measure => simp [intOf]; omega
    · obtain rfl : k = n := by omega
      go_wp2
      go_ret
      exact ⟨rfl, hR.out⟩
end Go.Proofs.YtlojbhadodbohaaGreat
