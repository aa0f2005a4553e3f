/-
  Own text, merged of GrpB, GrpC.
-/
import Derived.Test.YtpfmbfmlpoibeaaGreatGrpA
import Derived.Test.YtpfmbfmlpoibeaaGreatColsF
import Derived.Test.YtpfmbfmlpoibeaaGreatStorQ
namespace Go.Proofs.YtpfmbfmlpoibeaaGreat
section
open Go.RowKit
-- Own text. What the law's helpers over groups do: szGroups, toGroups, eqGroups.
def SmallS (S : Sto) : Prop := S.nc ≤ 1048576 ∧ S.nl ≤ 1048576 ∧ S.nw ≤ 1048576
def BigS (S : Sto) : Prop := S.nc ≤ 9223372036854775807 ∧ S.nl ≤ 9223372036854775807 ∧ S.nw ≤ 9223372036854775807
def sumN (f : Nat → Nat) : Nat → Nat
  | 0 => 0
  | n + 1 => sumN f n + f n
def sizeT (S : Nat → Sto) (i : Nat) : Nat := (S i).nc + (S i).nl + (S i).nw
def SzAns (n : Nat) (S : Nat → Sto) (left r : Int) : Prop := r = -1 ∨ (0 ≤ r ∧ n ≤ 1048576 ∧ ((sumN (sizeT S) n : Nat) : Int) ≤ left ∧ ∀ i, i < n → SmallS (S i))
set_option maxRecDepth 10000 in
set_option maxHeartbeats 2000000 in
theorem szStoreS_any (n : Nat) (S : Nat → Sto) (V : Nat → Nat → Value) (v : Value) (B : Nat) (left : Int) (w : World) (h : Stos w B n S V v) (hn : n ≤ 9223372036854775807) (hs : ∀ i, i < n → BigS (S i)) (h0 : 0 ≤ left) (h2 : left ≤ 1048576) :
    Calls Tryz.prog 43 #[v, .int .i64 left] w fun e w' => ∃ r, e = .returned (.int .i64 r) ∧ SzAns n S left r ∧ Below w.heap.size w w' := by
  obtain ⟨ao, cp, rfl⟩ := h.form
  have H : Hid (Stos w B n S V (.slice ao n cp)) := h
  have HN : Hid (∀ i, i < n → BigS (S i)) := hs
  clear h hs
  by_cases hl : left < n
  · have d : decide (left - n < 0) = true := decide_eq_true (by omega)
    go_enter Tryz.func43, Tryz.ntmps43
    go_wp2
    go_ret
    exact ⟨-1, rfl, Or.inl rfl, Below.refl _ _⟩
  have d : decide (left - n < 0) = false := decide_eq_false (by omega)
  go_enter Tryz.func43, Tryz.ntmps43
  go_wp2
  go_loopw [1, 5] (fun j i wr => ∃ (k : Nat) (L : Int), k ≤ n ∧ j = .int .i64 L ∧ i = .int .i64 k ∧ Hid ((0 ≤ L ∧ L + (sumN (sizeT S) k : Nat) ≤ left) ∧ ∀ i, i < k → SmallS (S i)) ∧ Hid (Below w.heap.size w wr)) (fun _ i _ => n - (intOf i).toNat)
  case atStart => exact ⟨0, left - n, Nat.zero_le _, rfl, rfl, ⟨by simp only [sumN]; omega, fun i hi => absurd hi (Nat.not_lt_zero i)⟩, Below.refl _ _⟩
  case round =>
    obtain ⟨k, L, hk, rfl, rfl, hL, hR⟩ := hrel
    by_cases hlt : k < n
    · obtain ⟨g, o, rfl, _, hg, ⟨c0, c1, c2⟩, sk⟩ := H.out.at hlt
      have b0 := hR.out.cell (p := ⟨g, o + k * 3, none⟩) hg
      rw [c0] at b0
      have b1 := hR.out.cell (p := ⟨g, o + k * 3 + 1, none⟩) hg
      rw [c1] at b1
      have b2 := hR.out.cell (p := ⟨g, o + k * 3 + 2, none⟩) hg
      rw [c2] at b2
      clear c0 c1 c2
      obtain ⟨a0, d0, a1, d1, a2, d2, e0, e1, e2⟩ := sk.form
      rw [e0] at b0
      rw [e1] at b1
      rw [e2] at b2
      clear sk e0 e1 e2
      obtain ⟨n0, hn0⟩ : ∃ x, (S k).nc = x := ⟨_, rfl⟩
      obtain ⟨n1, hn1⟩ : ∃ x, (S k).nl = x := ⟨_, rfl⟩
      obtain ⟨n2, hn2⟩ : ∃ x, (S k).nw = x := ⟨_, rfl⟩
      rw [hn0] at b0
      rw [hn1] at b1
      rw [hn2] at b2
      have hB : Hid (n0 ≤ 9223372036854775807 ∧ n1 ≤ 9223372036854775807 ∧ n2 ≤ 9223372036854775807) := by
        have := HN.out k hlt
        unfold BigS at this
        rw [hn0, hn1, hn2] at this
        exact this
      have hE : Hid ((S k).nc = n0 ∧ (S k).nl = n1 ∧ (S k).nw = n2) := ⟨hn0, hn1, hn2⟩
      clear hn0 hn1 hn2
      by_cases hfit : (n0 : Int) + n1 + n2 ≤ L
      · go_wp2_with fail
        refine (szStore_ok L _ _ _ _ _ _ _ _ _ _ hfit hL.out.1.1 (by have := hL.out.1; omega) hB.out.1 hB.out.2.1 hB.out.2.2).mono ?_
        rintro e w1 ⟨rfl, q1⟩
        have HB : Hid (Below w.heap.size w w1) := hR.out.trans (q1.mono hR.out.size)
        have dd : decide (L - n0 - n1 - n2 < 0) = false := decide_eq_false (by omega)
        clear q1 hR b0 b1 b2
        go_wp2
        go_roundw
        case rel =>
          have hst : sumN (sizeT S) (k + 1) = sumN (sizeT S) k + (n0 + n1 + n2) := by show sumN (sizeT S) k + ((S k).nc + (S k).nl + (S k).nw) = _; rw [hE.out.1, hE.out.2.1, hE.out.2.2]
          refine ⟨k + 1, L - n0 - n1 - n2, by omega, by go_num, by go_num, ⟨by have := hL.out.1; rw [hst]; omega, fun i hi => ?_⟩, HB⟩
          by_cases q : i = k
          · subst q
            have h1 := hL.out.1
            unfold SmallS
            rw [hE.out.1, hE.out.2.1, hE.out.2.2]
            omega
          · exact hL.out.2 i (by omega)
        case measure => simp [intOf]; omega
      · go_wp2_with fail
        refine (szStore_no L _ _ _ _ _ _ _ _ _ _ (by omega) hL.out.1.1 (by have := hL.out.1; omega) hB.out.1 hB.out.2.1 hB.out.2.2).mono ?_
        rintro e w1 ⟨rfl, q1⟩
        have HB : Hid (Below w.heap.size w w1) := hR.out.trans (q1.mono hR.out.size)
        clear q1 hR b0 b1 b2
        go_wp2
        go_ret
        exact ⟨-1, rfl, Or.inl rfl, HB.out⟩
    · obtain rfl : k = n := by omega
      go_wp2
      go_ret
      exact ⟨L, rfl, Or.inr ⟨hL.out.1.1, by omega, by have := hL.out.1; omega, hL.out.2⟩, hR.out⟩

def Two3 (w : World) (g o g' o' k : Nat) (V U : Nat → Nat → Value) (x : World) : Prop :=
  Below w.heap.size w x ∧ (x.cell? ⟨g, o + k * 3, none⟩ = some (V k 0) ∧ x.cell? ⟨g, o + k * 3 + 1, none⟩ = some (V k 1) ∧ x.cell? ⟨g, o + k * 3 + 2, none⟩ = some (V k 2)) ∧ x.cell? ⟨g', o' + k * 3, none⟩ = some (U k 0) ∧ x.cell? ⟨g', o' + k * 3 + 1, none⟩ = some (U k 1) ∧ x.cell? ⟨g', o' + k * 3 + 2, none⟩ = some (U k 2)
theorem Two3.drew {w x : World} {g o g' o' k : Nat} {V U : Nat → Nat → Value} (h : Two3 w g o g' o' k V U x) : Two3 w g o g' o' k V U x.drew := ⟨below_dr h.1 1, h.2⟩
set_option maxRecDepth 100000 in
set_option maxHeartbeats 4000000 in
theorem eqStoreS_same (n : Nat) (S : Nat → Sto) (V U : Nat → Nat → Value) (va vb : Value) (Ba Bb : Nat) (w : World) (ha : Stos w Ba n S V va) (hb : Stos w Bb n S U vb) (hn : n ≤ 1048576) (hs : ∀ i, i < n → SmallS (S i)) :
    Calls Tryz.prog 52 #[va, vb] w fun e w' => e = .returned (.bool true) ∧ Below w.heap.size w w' := by
  obtain ⟨ao, cp, rfl⟩ := ha.form
  obtain ⟨ao', cp', rfl⟩ := hb.form
  have H : Hid (Stos w Ba n S V (.slice ao n cp)) := ha
  have H' : Hid (Stos w Bb n S U (.slice ao' n cp')) := hb
  have HN : Hid (∀ i, i < n → SmallS (S i)) := hs
  clear ha hb hs
  go_enter Tryz.func52, Tryz.ntmps52
  go_wp2
  go_loopw [5] (fun i wr => ∃ k : Nat, k ≤ n ∧ i = .int .i64 k ∧ Hid (Below w.heap.size w wr)) (fun i _ => n - (intOf i).toNat)
  case atStart => exact ⟨0, Nat.zero_le _, rfl, Below.refl _ _⟩
  case round =>
    obtain ⟨k, hk, rfl, hR⟩ := hrel
    by_cases hlt : k < n
    · obtain ⟨g, o, rfl, _, hg, ⟨c0, c1, c2⟩, sk⟩ := (H.out.later hR.out).at hlt
      obtain ⟨g', o', rfl, _, hg', ⟨c0', c1', c2'⟩, sk'⟩ := (H'.out.later hR.out).at hlt
      have T : Hid (Two3 w g o g' o' k V U wr) := ⟨hR.out, ⟨c0, c1, c2⟩, c0', c1', c2'⟩
      obtain ⟨a0, d0, a1, d1, a2, d2, e0, e1, e2⟩ := sk.form
      obtain ⟨a0', d0', a1', d1', a2', d2', e0', e1', e2'⟩ := sk'.form
      obtain ⟨n0, hn0⟩ : ∃ x, (S k).nc = x := ⟨_, rfl⟩
      obtain ⟨n1, hn1⟩ : ∃ x, (S k).nl = x := ⟨_, rfl⟩
      obtain ⟨n2, hn2⟩ : ∃ x, (S k).nw = x := ⟨_, rfl⟩
      rw [e0, e1, e2, hn0, hn1, hn2] at sk
      rw [e0', e1', e2', hn0, hn1, hn2] at sk'
      rw [hn0] at e0 e0'
      rw [hn1] at e1 e1'
      rw [hn2] at e2 e2'
      have SK : Hid (St wr Ba (S k) (.slice a0 n0 d0) (.slice a1 n1 d1) (.slice a2 n2 d2)) := sk
      have SK' : Hid (St wr Bb (S k) (.slice a0' n0 d0') (.slice a1' n1 d1') (.slice a2' n2 d2')) := sk'
      have hN : Hid (SmallS (S k)) := HN.out k hlt
      clear sk sk' hn0 hn1 hn2 c0 c1 c2 c0' c1' c2'
      go_wp2_with fail
      refine wp_region_held_drew (S := Two3 w g o g' o' k V U) (by kernel_rfl) T.out.drew (fun hS => ?_)
      refine wpAnyH_take (i := 0) (v := ?_) rfl (by kernel_rfl) (by kernel_rfl) (by kernel_rfl) (fun _ _ _ h => h) (Or.inl ⟨by kernel_rfl, ?_⟩) hS ?_
      rotate_left
      · intro wx hx
        obtain ⟨_, ⟨hx0, hx1, hx2⟩, hx3, hx4, hx5⟩ := hx
        rw [e0] at hx0
        rw [e1] at hx1
        rw [e2] at hx2
        rw [e0'] at hx3
        rw [e1'] at hx4
        rw [e2'] at hx5
        go_simp
        try with_reducible rfl
      refine wpAnyH_take (i := 1) (v := ?_) rfl (by kernel_rfl) (by kernel_rfl) (by kernel_rfl) (fun _ _ _ h => h) (Or.inl ⟨by kernel_rfl, ?_⟩) hS ?_
      rotate_left
      · intro wx hx
        obtain ⟨_, ⟨hx0, hx1, hx2⟩, hx3, hx4, hx5⟩ := hx
        rw [e0] at hx0
        rw [e1] at hx1
        rw [e2] at hx2
        rw [e0'] at hx3
        rw [e1'] at hx4
        rw [e2'] at hx5
        go_simp
        try with_reducible rfl
      refine wpAnyH_take (i := 2) (v := ?_) rfl (by kernel_rfl) (by kernel_rfl) (by kernel_rfl) (fun _ _ _ h => h) (Or.inl ⟨by kernel_rfl, ?_⟩) hS ?_
      rotate_left
      · intro wx hx
        obtain ⟨_, ⟨hx0, hx1, hx2⟩, hx3, hx4, hx5⟩ := hx
        rw [e0] at hx0
        rw [e1] at hx1
        rw [e2] at hx2
        rw [e0'] at hx3
        rw [e1'] at hx4
        rw [e2'] at hx5
        go_simp
        try with_reducible rfl
      refine wpAnyH_take (i := 3) (v := ?_) rfl (by kernel_rfl) (by kernel_rfl) (by kernel_rfl) (fun _ _ _ h => h) (Or.inl ⟨by kernel_rfl, ?_⟩) hS ?_
      rotate_left
      · intro wx hx
        obtain ⟨_, ⟨hx0, hx1, hx2⟩, hx3, hx4, hx5⟩ := hx
        rw [e0] at hx0
        rw [e1] at hx1
        rw [e2] at hx2
        rw [e0'] at hx3
        rw [e1'] at hx4
        rw [e2'] at hx5
        go_simp
        try with_reducible rfl
      refine wpAnyH_take (i := 4) (v := ?_) rfl (by kernel_rfl) (by kernel_rfl) (by kernel_rfl) (fun _ _ _ h => h) (Or.inl ⟨by kernel_rfl, ?_⟩) hS ?_
      rotate_left
      · intro wx hx
        obtain ⟨_, ⟨hx0, hx1, hx2⟩, hx3, hx4, hx5⟩ := hx
        rw [e0] at hx0
        rw [e1] at hx1
        rw [e2] at hx2
        rw [e0'] at hx3
        rw [e1'] at hx4
        rw [e2'] at hx5
        go_simp
        try with_reducible rfl
      refine wpAnyH_take (i := 5) (v := ?_) rfl (by kernel_rfl) (by kernel_rfl) (by kernel_rfl) (fun _ _ _ h => h) (Or.inl ⟨by kernel_rfl, ?_⟩) hS ?_
      rotate_left
      · intro wx hx
        obtain ⟨_, ⟨hx0, hx1, hx2⟩, hx3, hx4, hx5⟩ := hx
        rw [e0] at hx0
        rw [e1] at hx1
        rw [e2] at hx2
        rw [e0'] at hx3
        rw [e1'] at hx4
        rw [e2'] at hx5
        go_simp
        try with_reducible rfl
      refine wpAnyH_take (i := 6) (v := ?_) rfl (by kernel_rfl) (by kernel_rfl) (by kernel_rfl) (fun _ _ _ h => h) (Or.inl ⟨by kernel_rfl, ?_⟩) hS ?_
      rotate_left
      · intro wx hx
        obtain ⟨_, ⟨hx0, hx1, hx2⟩, hx3, hx4, hx5⟩ := hx
        rw [e0] at hx0
        rw [e1] at hx1
        rw [e2] at hx2
        rw [e0'] at hx3
        rw [e1'] at hx4
        rw [e2'] at hx5
        go_simp
        try with_reducible rfl
      refine wpAnyH_take (i := 7) (v := ?_) rfl (by kernel_rfl) (by kernel_rfl) (by kernel_rfl) (fun _ _ _ h => h) (Or.inl ⟨by kernel_rfl, ?_⟩) hS ?_
      rotate_left
      · intro wx hx
        obtain ⟨_, ⟨hx0, hx1, hx2⟩, hx3, hx4, hx5⟩ := hx
        rw [e0] at hx0
        rw [e1] at hx1
        rw [e2] at hx2
        rw [e0'] at hx3
        rw [e1'] at hx4
        rw [e2'] at hx5
        go_simp
        try with_reducible rfl
      refine wpAnyH_ready (rs := [8]) (by kernel_rfl) (by simp) ?_
      refine AllReadyH.cons rfl (fun K hK => ?_) AllReadyH.nil
      go_simp
      go_wp2_with fail
      refine (eqStore_same (S k) _ _ _ _ _ _ Ba Bb _ (SK.out.later (below_dr (Below.refl _ _) 1)) (SK'.out.later (below_dr (Below.refl _ _) 1)) hN.out.1 hN.out.2.1 hN.out.2.2).mono ?_
      rintro e w1 ⟨rfl, q1⟩
      have hg2 : g < wr.heap.size := hg
      have hS' : Two3 w g o g' o' k V U w1 := by
        obtain ⟨hB, ⟨x0, x1, x2⟩, x3, x4, x5⟩ := hS
        exact ⟨hB.trans (q1.mono hB.size), ⟨(q1.cell (p := ⟨g, o + k * 3, none⟩) hg).trans x0, (q1.cell (p := ⟨g, o + k * 3 + 1, none⟩) hg).trans x1, (q1.cell (p := ⟨g, o + k * 3 + 2, none⟩) hg).trans x2⟩, (q1.cell (p := ⟨g', o' + k * 3, none⟩) hg').trans x3, (q1.cell (p := ⟨g', o' + k * 3 + 1, none⟩) hg').trans x4, (q1.cell (p := ⟨g', o' + k * 3 + 2, none⟩) hg').trans x5⟩
      clear q1
      go_wp2_with fail
      refine hK.out _ _ hS' (fun hS => ?_)
      clear hK K hS' T
      refine wpAnyH_take (i := 9) (v := ?_) rfl (by kernel_rfl) (by kernel_rfl) (by kernel_rfl) (fun _ _ _ h => h) (Or.inl ⟨by kernel_rfl, ?_⟩) hS ?_
      rotate_left
      · intro wx hx
        obtain ⟨_, ⟨hx0, hx1, hx2⟩, hx3, hx4, hx5⟩ := hx
        rw [e0] at hx0
        rw [e1] at hx1
        rw [e2] at hx2
        rw [e0'] at hx3
        rw [e1'] at hx4
        rw [e2'] at hx5
        go_simp
        try with_reducible rfl
      refine wpAnyH_done (by kernel_rfl) ?_ _
      have HB : Hid (Below w.heap.size w w1) := hS.1
      clear hS hR SK SK'
      go_simp
      go_wp2
      go_roundw
      case rel => exact ⟨k + 1, by omega, by go_num, HB⟩
      case measure => simp [intOf]; omega
    · obtain rfl : k = n := by omega
      go_wp2
      go_ret
      exact ⟨rfl, hR.out⟩
end

section
open Go.RowKit
-- Own text. What toGroups, eqGroups and szGroups do.
theorem Blk2.set0 {x : World} {b : Nat} {a0 a1 : Value} (h : Blk2 x b a0 a1) (u : Value) : Blk2 (x.setCell ⟨b, 0, none⟩ u) b u a1 := by
  obtain ⟨⟨h0, h1⟩, f0, f1⟩ := h
  exact ⟨⟨World.cell?_setCell_same _ _ _ h0, (World.cell?_setCell_other _ _ _ _ (by simp)).trans h1⟩, by simpa using f0, by simpa using f1⟩
theorem Blk2.set1 {x : World} {b : Nat} {a0 a1 : Value} (h : Blk2 x b a0 a1) (u : Value) : Blk2 (x.setCell ⟨b, 1, none⟩ u) b a0 u := by
  obtain ⟨⟨h0, h1⟩, f0, f1⟩ := h
  exact ⟨⟨(World.cell?_setCell_other _ _ _ _ (by simp)).trans h0, World.cell?_setCell_same _ _ _ h1⟩, by simpa using f0, by simpa using f1⟩
theorem Blk2.setFar {x : World} {b : Nat} {a0 a1 : Value} (h : Blk2 x b a0 a1) {p : Addr} (hp : b ≠ p.block) (u : Value) : Blk2 (x.setCell p u) b a0 a1 := h.kept (Below.heap_setCell x p u b hp)
theorem FillS.kept {w w' : World} {g n k : Nat} {U : Nat → Nat → Value} (h : FillS w g n k U) (hs : w.heap.size ≤ w'.heap.size) (hb : w'.heap[g]? = w.heap[g]?) : FillS w' g n k U := by
  obtain ⟨h1, h2, h3⟩ := h
  have hc : ∀ p, w'.cell? ⟨g, p, none⟩ = w.cell? ⟨g, p, none⟩ := fun p => World.cell?_of_block (w := w) hb
  have hf : ∀ p, w'.frozen? ⟨g, p, none⟩ = w.frozen? ⟨g, p, none⟩ := fun p => World.frozen?_of_block (w := w) hb
  refine ⟨Nat.lt_of_lt_of_le h1 hs, fun p hp => ⟨?_, (hf p).trans (h2 p hp).2⟩, fun i hi => ?_⟩
  · obtain ⟨u, hu⟩ := (h2 p hp).1
    exact ⟨u, (hc p).trans hu⟩
  · obtain ⟨c0, c1, c2⟩ := h3 i hi
    exact ⟨(hc _).trans c0, (hc _).trans c1, (hc _).trans c2⟩
theorem FillS.far {w : World} {g n k : Nat} {U : Nat → Nat → Value} (h : FillS w g n k U) {a : Addr} (ha : g ≠ a.block) (u : Value) : FillS (w.setCell a u) g n k U := h.kept (by simp [World.setCell]) (Below.heap_setCell w a u g ha)

/-- Ranges and stores, as they came in or were laid. -/
def Grs (w : World) (B nr : Nat) (F : Nat → Int) (n : Nat) (S : Nat → Sto) (V : Nat → Nat → Value) (vr vs : Value) : Prop := Row w B 3 nr F vr ∧ Stos w B n S V vs
theorem Grs.later {w w' : World} {B nr : Nat} {F : Nat → Int} {n : Nat} {S : Nat → Sto} {V : Nat → Nat → Value} {vr vs : Value} (h : Grs w B nr F n S V vr vs) (hb : Below w.heap.size w w') : Grs w' B nr F n S V vr vs := ⟨h.1.later hb, h.2.later hb⟩
theorem Grs.alloc {w : World} {B nr : Nat} {F : Nat → Int} {n : Nat} {S : Nat → Sto} {V : Nat → Nat → Value} {vr vs : Value} (h : Grs w B nr F n S V vr vs) (o : Obj) : Grs (w.alloc o) B nr F n S V vr vs := ⟨h.1.alloc o, h.2.alloc o⟩
theorem Grs.mono {w : World} {B B' nr : Nat} {F : Nat → Int} {n : Nat} {S : Nat → Sto} {V : Nat → Nat → Value} {vr vs : Value} (h : Grs w B nr F n S V vr vs) (hB : B' ≤ B) : Grs w B' nr F n S V vr vs := ⟨h.1.mono hB, h.2.mono hB⟩
theorem Grs.form {w : World} {B nr : Nat} {F : Nat → Int} {n : Nat} {S : Nat → Sto} {V : Nat → Nat → Value} {vr vs : Value} (h : Grs w B nr F n S V vr vs) : ∃ a0 c0 a1 c1, vr = .slice a0 nr c0 ∧ vs = .slice a1 n c1 := by
  obtain ⟨a0, c0, h0⟩ := h.1.form
  obtain ⟨a1, c1, h1⟩ := h.2.form
  exact ⟨a0, c0, a1, c1, h0, h1⟩
/-- Ranges and stores in new memory, of which all may be written; their lists lie apart from each other. -/
def FineG (w : World) (lo nr : Nat) (F : Nat → Int) (n : Nat) (S : Nat → Sto) (ra : Option Addr) (rc g : Nat) (U : Nat → Nat → Value) (z : Nat → Nat) : Prop :=
  (Row w lo 3 nr F (.slice ra nr rc) ∧ Free w (nr * 3) (.slice ra nr rc) ∧ (0 < nr → ∀ k, (Value.slice ra nr rc).ownBlock = some k → k < g)) ∧ lo ≤ g ∧ FillS w g n n U ∧ Fine w z n S U ∧ z 0 = g + 1 ∧ (∀ i, i ≤ n → g < z i) ∧ z n ≤ w.heap.size
theorem FineG.grs {w : World} {lo nr : Nat} {F : Nat → Int} {n : Nat} {S : Nat → Sto} {ra : Option Addr} {rc g : Nat} {U : Nat → Nat → Value} {z : Nat → Nat} (h : FineG w lo nr F n S ra rc g U z) : Grs w lo nr F n S U (.slice ra nr rc) (.slice (some ⟨g, 0, none⟩) n n) :=
  ⟨h.1.1, MadeS.stos h.2.1 h.2.2.1 h.2.2.2.1 h.2.2.2.2.2.1⟩
theorem FineG.later {w w' : World} {lo nr : Nat} {F : Nat → Int} {n : Nat} {S : Nat → Sto} {ra : Option Addr} {rc g : Nat} {U : Nat → Nat → Value} {z : Nat → Nat} (h : FineG w lo nr F n S ra rc g U z) (hb : Below w.heap.size w w') : FineG w' lo nr F n S ra rc g U z := by
  obtain ⟨⟨h1, h2, h3⟩, h4, h5, h6, h7, h8, h9⟩ := h
  exact ⟨⟨h1.later hb, h2.ofRow h1 hb, h3⟩, h4, h5.later hb, h6.later hb, h7, h8, Nat.le_trans h9 hb.size⟩
/-- What toGroups answers. -/
def NewGr (w : World) (nr : Nat) (F : Nat → Int) (n : Nat) (S : Nat → Sto) (e : Ending) (w' : World) : Prop :=
  ∃ ra rc g U z, e = .returned (.agg #[.slice ra nr rc, .slice (some ⟨g, 0, none⟩) n n]) ∧ FineG w' w.heap.size nr F n S ra rc g U z ∧ Below w.heap.size w w'
set_option maxRecDepth 10000 in
set_option maxHeartbeats 2000000 in
theorem toGroups_any (nr : Nat) (F : Nat → Int) (n : Nat) (S : Nat → Sto) (V : Nat → Nat → Value) (vr vs : Value) (B : Nat) (w : World) (h : Grs w B nr F n S V vr vs) (hr : nr ≤ 1048576) (hn : n ≤ 1048576) (hs : ∀ i, i < n → SmallS (S i)) :
    Calls Tryz.prog 15 #[.agg #[vr, vs]] w (NewGr w nr F n S) := by
  obtain ⟨a0, c0, a1, c1, rfl, rfl⟩ := h.form
  have H : Hid (Grs w B nr F n S V (.slice a0 nr c0) (.slice a1 n c1)) := h
  have HN : Hid (∀ i, i < n → SmallS (S i)) := hs
  clear h hs
  go_enter Tryz.func15, Tryz.ntmps15
  go_wp2_with fail
  refine (toRangeS_any _ B _ _ _ (((H.out.1.alloc _).alloc _).alloc _) hr).mono ?_
  rintro e w1 ⟨u0, rfl, r0, f0, q1⟩
  obtain ⟨b0, d0, rfl⟩ := r0.form
  have k1 := (((Blk2.new w (.slice a0 nr c0) (.slice a1 n c1) 50).alloc (.cells #[.slice none 0 0, .slice none 0 0] 27)).alloc (.cells #[.slice none 0 0, .slice none 0 0] 27)).later q1
  have k2 := ((Blk2.new (w.alloc (.cells #[.slice a0 nr c0, .slice a1 n c1] 50)) (.slice none 0 0) (.slice none 0 0) 27).alloc (.cells #[.slice none 0 0, .slice none 0 0] 27)).later q1
  have k3 := (Blk2.new ((w.alloc (.cells #[.slice a0 nr c0, .slice a1 n c1] 50)).alloc (.cells #[.slice none 0 0, .slice none 0 0] 27)) (.slice none 0 0) (.slice none 0 0) 27).later q1
  simp only [World.size_alloc] at k2 k3 r0 q1
  have B1 : Hid (Below w.heap.size w w1) := (((below_alloc w _).alloc (by simp) _).alloc (by simp; omega) _).trans (q1.mono (by omega))
  have P1 : Hid (Blk2 w1 w.heap.size (.slice a0 nr c0) (.slice a1 n c1) ∧ Blk2 w1 (w.heap.size + 1) (.slice none 0 0) (.slice none 0 0) ∧ Blk2 w1 (w.heap.size + 2) (.slice none 0 0) (.slice none 0 0)) := ⟨k1, k2, k3⟩
  have R1 : Hid (Row w1 (w.heap.size + 3) 3 nr F (.slice b0 nr d0) ∧ Free w1 (nr * 3) (.slice b0 nr d0)) := ⟨r0, f0⟩
  obtain ⟨⟨_, x1⟩, _⟩ := k1
  obtain ⟨⟨y0, _⟩, z0, _⟩ := k3
  clear k2 r0 f0 q1
  go_wp2_with fail
  have B1' : Hid (Below w.heap.size w (w1.setCell ⟨w.heap.size + 2, 0, none⟩ (.slice b0 nr d0))) := B1.out.setCell (by simp) _
  refine (toStoreS_any n S V _ B _ (H.out.2.later B1'.out) hn (fun i hi => HN.out i hi)).mono ?_
  rintro e w2 ⟨g, U, z, rfl, hg, F2, G2, q2⟩
  have z1 : w.heap.size + 3 ≤ w1.heap.size := P1.out.2.2.lt
  have sz1 : (w1.setCell ⟨w.heap.size + 2, 0, none⟩ (.slice b0 nr d0)).heap.size = w1.heap.size := by simp [World.setCell]
  have k2 := (P1.out.2.1.setFar (p := ⟨w.heap.size + 2, 0, none⟩) (by simp) (.slice b0 nr d0)).later q2
  have k3 := (P1.out.2.2.set0 (.slice b0 nr d0)).later q2
  have hgg : w1.heap.size ≤ g := by have := hg.1; rw [sz1] at this; exact this
  have R2 : Hid (FineG w2 (w.heap.size + 3) nr F n S b0 d0 g U z) :=
    have e := R1.out.1.far (a := ⟨w.heap.size + 2, 0, none⟩) (Or.inl (by simp)) (.slice b0 nr d0)
    ⟨⟨e.later q2, (R1.out.2.far _ _).ofRow e q2, fun hn k hk => by have := (R1.out.1.lt hn k hk).2; omega⟩, by omega, F2, G2⟩
  have B2 : Hid (Below w.heap.size w w2) := B1'.out.trans (q2.mono (by have := B1'.out.size; omega))
  have hgs : Hid (w.heap.size + 3 ≤ g) := by unfold Hid; omega
  clear x1 y0 z0 q2 B1 B1' P1 R1 z1 sz1 F2 G2 hg hgg
  obtain ⟨⟨x0, x1⟩, y0, y1⟩ := k2
  obtain ⟨⟨p0, p1⟩, q0, q1⟩ := k3
  go_wp2
  refine bodyPost_ret (v := .agg #[.slice b0 nr d0, .slice (some ⟨g, 0, none⟩) n n]) (by simp [results, Tryz.results15, go_sem, x0, x1]) rfl ⟨b0, d0, g, U, z, rfl, ?_, ?_⟩
  · obtain ⟨⟨h1, h2, h3⟩, h4, h5, h6, h7, h8, h9⟩ := R2.out
    have hz : ∀ i, i < n → w.heap.size + 3 ≤ z i := fun i hi => by have := h8 i (by omega); have := hgs.out; omega
    have far : ∀ (a : Nat), a < w.heap.size + 3 → ∀ i, i < n → a < z i := fun a ha i hi => by have := hz i hi; omega
    refine ⟨⟨(((h1.far (Or.inl (by simp)) _).far (Or.inl (by simp)) _).far (Or.inl (by simp)) _).mono (by omega), ((h2.far _ _).far _ _).far _ _, h3⟩, by omega, ((h5.far (by simp; omega) _).far (by simp; omega) _).far (by simp; omega) _, ((h6.far (far _ (by simp)) _).far (far _ (by simp)) _).far (far _ (by simp)) _, h7, h8, by simpa [World.setCell] using h9⟩
  · exact ((B2.out.setCell (by simp; omega) _).setCell (by simp) _).setCell (by simp) _
set_option maxHeartbeats 1000000 in
theorem eqGroups_same (nr : Nat) (F : Nat → Int) (n : Nat) (S : Nat → Sto) (V U : Nat → Nat → Value) (vr vs ur us : Value) (B B' : Nat) (w : World) (h : Grs w B nr F n S V vr vs) (h' : Grs w B' nr F n S U ur us) (hr : nr ≤ 1048576) (hn : n ≤ 1048576) (hs : ∀ i, i < n → SmallS (S i)) :
    Calls Tryz.prog 18 #[.agg #[vr, vs], .agg #[ur, us]] w fun e w' => e = .returned (.bool true) ∧ Below w.heap.size w w' := by
  obtain ⟨a0, c0, a1, c1, rfl, rfl⟩ := h.form
  obtain ⟨b0, d0, b1, d1, rfl, rfl⟩ := h'.form
  have H : Hid (Grs w B nr F n S V (.slice a0 nr c0) (.slice a1 n c1)) := h
  have H' : Hid (Grs w B' nr F n S U (.slice b0 nr d0) (.slice b1 n d1)) := h'
  have HN : Hid (∀ i, i < n → SmallS (S i)) := hs
  clear h h' hs
  go_enter Tryz.func18, Tryz.ntmps18
  go_wp2_with fail
  refine (eqRangeS_same _ _ B B' _ _ _ ((H.out.1.alloc _).alloc _) ((H'.out.1.alloc _).alloc _) hr).mono ?_
  rintro e w1 ⟨rfl, q1⟩
  have k1 := ((Blk2.new w (.slice a0 nr c0) (.slice a1 n c1) 27).alloc (.cells #[.slice b0 nr d0, .slice b1 n d1] 27)).later q1
  have k2 := (Blk2.new (w.alloc (.cells #[.slice a0 nr c0, .slice a1 n c1] 27)) (.slice b0 nr d0) (.slice b1 n d1) 27).later q1
  simp only [World.size_alloc] at k2 q1
  have B1 : Hid (Below w.heap.size w w1) := ((below_alloc w _).alloc (by simp) _).trans (q1.mono (by omega))
  obtain ⟨⟨_, x1⟩, _⟩ := k1
  obtain ⟨⟨_, y1⟩, _⟩ := k2
  clear q1
  go_wp2_with fail
  refine (eqStoreS_same n S V U _ _ B B' _ (H.out.2.later B1.out) (H'.out.2.later B1.out) hn HN.out).mono ?_
  rintro e w2 ⟨rfl, q2⟩
  have B2 : Hid (Below w.heap.size w w2) := B1.out.trans (q2.mono B1.out.size)
  clear q2 x1 y1
  go_wp2
  go_ret
  exact ⟨rfl, B2.out⟩
set_option maxHeartbeats 1000000 in
theorem szGroups_any (nr : Nat) (F : Nat → Int) (n : Nat) (S : Nat → Sto) (V : Nat → Nat → Value) (vr vs : Value) (B : Nat) (w : World) (h : Grs w B nr F n S V vr vs) (hr : nr ≤ 9223372036854775807) (hn : n ≤ 9223372036854775807) (hs : ∀ i, i < n → BigS (S i)) :
    Calls Tryz.prog 13 #[.agg #[vr, vs], .int .i64 1048576] w fun e w' => ∃ r, e = .returned (.int .i64 r) ∧ (r = -1 ∨ (0 ≤ r ∧ nr ≤ 1048576 ∧ (n ≤ 1048576 ∧ sumN (sizeT S) n ≤ 1048576) ∧ ∀ i, i < n → SmallS (S i))) ∧ Below w.heap.size w w' := by
  obtain ⟨a0, c0, a1, c1, rfl, rfl⟩ := h.form
  have H : Hid (Grs w B nr F n S V (.slice a0 nr c0) (.slice a1 n c1)) := h
  have HN : Hid (∀ i, i < n → BigS (S i)) := hs
  clear h hs
  by_cases hl : (1048576 : Int) < nr
  · go_enter Tryz.func13, Tryz.ntmps13
    go_wp2_with fail
    refine (szRangeS_no _ _ _ 1048576 _ hl (by omega) (by omega) hr).mono ?_
    rintro e w1 ⟨rfl, rfl⟩
    go_wp2
    go_ret
    exact ⟨-1, rfl, Or.inl rfl, below_alloc _ _⟩
  go_enter Tryz.func13, Tryz.ntmps13
  go_wp2_with fail
  refine (szRangeS_ok _ _ _ 1048576 _ (by omega) (by omega)).mono ?_
  rintro e w1 ⟨rfl, hw1⟩
  have d : decide ((1048576 : Int) - nr < 0) = false := decide_eq_false (by omega)
  have k1 : Blk2 w1 w.heap.size (.slice a0 nr c0) (.slice a1 n c1) := by rw [hw1]; exact Blk2.new w _ _ _
  have B1 : Hid (Below w.heap.size w w1) := by rw [hw1]; exact below_alloc _ _
  clear hw1
  obtain ⟨⟨_, x1⟩, _⟩ := k1
  go_wp2_with fail
  refine (szStoreS_any n S V _ B (1048576 - nr) _ (H.out.2.later B1.out) hn HN.out (by omega) (by omega)).mono ?_
  rintro e w2 ⟨r, rfl, hA, q2⟩
  have B2 : Hid (Below w.heap.size w w2) := B1.out.trans (q2.mono B1.out.size)
  clear q2 x1
  rcases hA with rfl | ⟨h1, h3, h2, h4⟩
  · go_wp2
    go_ret
    exact ⟨-1, rfl, Or.inl rfl, B2.out⟩
  · have dr : decide (r < 0) = false := decide_eq_false (by omega)
    have HA : Hid (∀ i, i < n → SmallS (S i)) := h4
    clear h4
    go_wp2
    go_ret
    exact ⟨r, rfl, Or.inr ⟨h1, by omega, ⟨h3, by omega⟩, HA.out⟩, B2.out⟩
end
end Go.Proofs.YtpfmbfmlpoibeaaGreat
