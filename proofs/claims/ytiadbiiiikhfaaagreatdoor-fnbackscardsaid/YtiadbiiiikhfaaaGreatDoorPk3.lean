/-
 Own text, merged of AddC, StorA, ColsQ.
-/
import Derived.Test.YtiadbiiiikhfaaaGreatDoorPk2
namespace Go.Proofs.YtiadbiiiikhfaaaGreatDoor
section
open Go.RowKit
/-- Write j stands ahead of one of key a and commit b. -/
def aheadW (F : Nat → Int) (a b : Int) (j : Nat) : Prop := F (j * 4) < a ∨ F (j * 4) = a ∧ F (j * 4 + 1) < b
/-- The place of one more. -/
def placeAt (p : Nat → Prop) (n k : Nat) : Prop := k ≤ n ∧ (∀ j, j < k → p j) ∧ (k < n → ¬ p k)

/-- What the last region of l2AddWrite holds. -/
def AW (w : World) (B n : Nat) (F : Nat → Int) (ao : Option Addr) (cp : Nat) (x0 x1 x2 x3 : Int) (X : World) : Prop :=
 (X.cell? ⟨w.heap.size, 0, none⟩ = some (.int .i64 x0) ∧ X.cell? ⟨w.heap.size, 1, none⟩ = some (.int .i64 x1) ∧ X.cell? ⟨w.heap.size, 2, none⟩ = some (.int .i64 x2) ∧ X.cell? ⟨w.heap.size, 3, none⟩ = some (.int .i64 x3)) ∧ Row X B 4 n F (.slice ao n cp) ∧ Below w.heap.size w X
theorem AW.drew {w X : World} {B n : Nat} {F : Nat → Int} {ao : Option Addr} {cp : Nat} {x0 x1 x2 x3 : Int} (h : AW w B n F ao cp x0 x1 x2 x3 X) : AW w B n F ao cp x0 x1 x2 x3 X.drew := ⟨h.1, h.2.1, h.2.2.drew⟩
theorem AW.grown {w X X' : World} {B n : Nat} {F : Nat → Int} {ao : Option Addr} {cp : Nat} {x0 x1 x2 x3 : Int} {row : Option Nat} (h : AW w B n F ao cp x0 x1 x2 x3 X) (h0 : Row w B 4 n F (.slice ao n cp)) (hg : X.grownBy X' row) (hr : ∀ r, row = some r → w.heap.size < r) : AW w B n F ao cp x0 x1 x2 x3 X' := by
 obtain ⟨⟨c0, c1, c2, c3⟩, _, hb⟩ := h
 have far : ∀ k v, X.cell? ⟨w.heap.size, k, none⟩ = some v → X'.cell? ⟨w.heap.size, k, none⟩ = some v := fun k v hc => hg.cell hc (fun e => by have := hr _ e.symm; simp at this)
 have hb' : Below w.heap.size w X' := hb.grown hg hb.size (fun r e => Nat.le_of_lt (hr r e))
 exact ⟨⟨far _ _ c0, far _ _ c1, far _ _ c2, far _ _ c3⟩, h0.later hb', hb'⟩
theorem aw_first {w w2 : World} {B n q : Nat} {F : Nat → Int} {ao : Option Addr} {cp : Nat} {x0 x1 x2 x3 : Int} (h : Row w B 4 n F (.slice ao n cp))
  (hg : (((w.alloc (.cells #[.int .i64 x0, .int .i64 x1, .int .i64 x2, .int .i64 x3] 55)).drewN q).alloc (.cells #[] 55)).grownBy w2 (some (w.heap.size + 1))) : AW w B n F ao cp x0 x1 x2 x3 w2 := by
 have hb : Below w.heap.size w (((w.alloc (.cells #[.int .i64 x0, .int .i64 x1, .int .i64 x2, .int .i64 x3] 55)).drewN q).alloc (.cells #[] 55)) := (below_drewN ((Below.refl _ _).alloc (Nat.le_refl _) _) q).alloc (by simp) _
 have b1 : Below (w.heap.size + 1) (w.alloc (.cells #[.int .i64 x0, .int .i64 x1, .int .i64 x2, .int .i64 x3] 55)) (((w.alloc (.cells #[.int .i64 x0, .int .i64 x1, .int .i64 x2, .int .i64 x3] 55)).drewN q).alloc (.cells #[] 55)) := (below_drewN (Below.refl _ _) q).alloc (by simp) _
 have near : ∀ k v, (w.alloc (.cells #[.int .i64 x0, .int .i64 x1, .int .i64 x2, .int .i64 x3] 55)).cell? ⟨w.heap.size, k, none⟩ = some v → (((w.alloc (.cells #[.int .i64 x0, .int .i64 x1, .int .i64 x2, .int .i64 x3] 55)).drewN q).alloc (.cells #[] 55)).cell? ⟨w.heap.size, k, none⟩ = some v := fun k v hc => (b1.cell (p := ⟨w.heap.size, k, none⟩) (Nat.lt_succ_self _)).trans hc
 refine AW.grown (X := ((w.alloc (.cells #[.int .i64 x0, .int .i64 x1, .int .i64 x2, .int .i64 x3] 55)).drewN q).alloc (.cells #[] 55)) ⟨⟨near _ _ (World.cell?_alloc_mark w _ _ _ 0), near _ _ (World.cell?_alloc_mark w _ _ _ 1), near _ _ (World.cell?_alloc_mark w _ _ _ 2), near _ _ (World.cell?_alloc_mark w _ _ _ 3)⟩, h.later hb, hb⟩ h hg (fun r e => by cases e; omega)
theorem row_lit4 (w : World) (x0 x1 x2 x3 : Int) (t : TypeId) : Row (w.alloc (.cells #[.int .i64 x0, .int .i64 x1, .int .i64 x2, .int .i64 x3] t)) 0 4 1 (fun p => [x0, x1, x2, x3].getD p 0) (.slice (some ⟨w.heap.size, 0, none⟩) 1 1) := by
 refine ⟨_, _, rfl, fun _ => ⟨w.heap.size, 0, rfl, Nat.zero_le _, by simp, fun p hp => ?_⟩⟩
 rw [Nat.zero_add, World.cell?_alloc_mark]
 match p, hp with
 | 0, _ => rfl
 | 1, _ => rfl
 | 2, _ => rfl
 | 3, _ => rfl
theorem lt_cell {X : World} {b k : Nat} {v : Value} (h : X.cell? ⟨b, k, none⟩ = some v) : b < X.heap.size := World.block_lt_of_cell? X ⟨b, k, none⟩ h
/-- What l2AddWrite answers. -/
def AddedW (w : World) (n : Nat) (F : Nat → Int) (x0 x1 x2 x3 : Int) (e : Ending) (w' : World) : Prop := ∃ k ao' cp', placeAt (aheadW F x0 x1) n k ∧ e = .returned (.slice ao' (n + 1) cp') ∧
 OwnM w' w.heap.size 55 4 (.slice ao' (n + 1) cp') (n + 1) (nums F (k * 4) ++ [x0, x1, x2, x3] ++ nums (fun p => F (k * 4 + p)) ((n - k) * 4)) ∧ Below w.heap.size w w'
set_option maxRecDepth 100000 in
set_option maxHeartbeats 4000000 in
theorem l2AddWrite_any (n : Nat) (F : Nat → Int) (ao : Option Addr) (cp : Nat) (B : Nat) (x0 x1 x2 x3 : Int) (w : World) (h : Row w B 4 n F (.slice ao n cp)) (hn : n ≤ 1000) (hcap : n ≤ cp) :
  Calls Tryz.prog 102 #[.slice ao n cp, .agg #[.int .i64 x0, .int .i64 x1, .int .i64 x2, .int .i64 x3]] w (AddedW w n F x0 x1 x2 x3) := by
 have H : Hid (Row w B 4 n F (.slice ao n cp)) := h
 clear h
 obtain ⟨i0, hi, hz0, hz1, hz2⟩ := info_parts info_Write
 go_enter Tryz.func102, Tryz.ntmps102
 go_wp2
 go_loopw [5] (fun i wr => ∃ k q : Nat, i = .int .i64 k ∧ k ≤ n ∧ Hid (∀ j, j < k → aheadW F x0 x1 j) ∧ wr = (w.alloc (.cells #[.int .i64 x0, .int .i64 x1, .int .i64 x2, .int .i64 x3] 55)).drewN q) (fun i _ => n - (intOf i).toNat)
 case atStart => exact ⟨0, 0, rfl, Nat.zero_le _, fun j hj => absurd hj (Nat.not_lt_zero j), rfl⟩
 case round =>
  obtain ⟨k, q, rfl, hk, hP, rfl⟩ := hrel
  by_cases hlt : k < n
  ·obtain ⟨g, o, hao, _, hg, c0, c1, c2, c3⟩ := H.out.at4 hlt
   subst hao
   have d0 : (w.alloc (.cells #[.int .i64 x0, .int .i64 x1, .int .i64 x2, .int .i64 x3] 55)).cell? ⟨g, o + k * 4, none⟩ = some (.int .i64 (F (k * 4))) := (World.cell?_alloc_lt _ _ _ hg).trans c0
   have d1 : (w.alloc (.cells #[.int .i64 x0, .int .i64 x1, .int .i64 x2, .int .i64 x3] 55)).cell? ⟨g, o + k * 4 + 1, none⟩ = some (.int .i64 (F (k * 4 + 1))) := (World.cell?_alloc_lt _ _ _ hg).trans c1
   obtain ⟨y0, N0⟩ : ∃ y, F (k * 4) = y := ⟨_, rfl⟩
   obtain ⟨y1, N1⟩ : ∃ y, F (k * 4 + 1) = y := ⟨_, rfl⟩
   rw [N0] at d0
   rw [N1] at d1
   have HA : Hid (aheadW F x0 x1 k ↔ y0 < x0 ∨ y0 = x0 ∧ y1 < x1) := by unfold aheadW; rw [N0, N1]; exact Iff.rfl
   clear c0 c1 c2 c3 N0 N1
   by_cases h0 : y0 < x0
   ·have HP : Hid (∀ j, j < k + 1 → aheadW F x0 x1 j) := fun j hj => by
     rcases Nat.lt_or_ge j k with q | q
     ·exact hP.out j q
     ·obtain rfl : j = k := by omega
      exact HA.out.2 (Or.inl h0)
    clear HA hP
    have t0 : decide (y0 < x0) = true := decide_eq_true h0
    go_wp2
    go_quiet (fail)
    go_wp2
    go_roundw
    case rel => exact ⟨k + 1, _, by go_num, by omega, HP, rfl⟩
    case measure => simp [intOf]; omega
   ·have t0 : decide (y0 < x0) = false := decide_eq_false h0
    by_cases h1 : y0 = x0
    ·have t1 : (y0 == x0) = true := beq_iff_eq.2 h1
     by_cases h2 : y1 < x1
     ·have HP : Hid (∀ j, j < k + 1 → aheadW F x0 x1 j) := fun j hj => by
       rcases Nat.lt_or_ge j k with q | q
       ·exact hP.out j q
       ·obtain rfl : j = k := by omega
        exact HA.out.2 (Or.inr ⟨h1, h2⟩)
      have t2 : decide (y1 < x1) = true := decide_eq_true h2
      clear HA hP
      subst h1
      go_wp2
      go_quiet (fail)
      go_wp2
      go_roundw
      case rel => exact ⟨k + 1, _, by go_num, by omega, HP, rfl⟩
      case measure => simp [intOf]; omega
     ·have HL : Hid (placeAt (aheadW F x0 x1) n k) := ⟨hk, hP.out, fun _ q => by rcases HA.out.1 q with r | r; exact h0 r; exact h2 r.2⟩
      have t2 : decide (y1 < x1) = false := decide_eq_false h2
      clear HA hP
      subst h1
      go_wp2
      go_quiet (fail)
      have hkcp : k ≤ cp := by omega
      go_wp2_with (at_builtin; refine wpList_app 55 i0 (.agg #[.int .i64 0, .int .i64 0, .int .i64 0, .int .i64 0]) 4 32 rfl _ _ 26 rfl Tryz.underlying26 hi hz0 hz1 hz2 rfl (by omega) (by omega) _ (w.heap.size + 1) 0 [] _ rfl (OwnM.lit0 _ _ _ _ (by simp)) B k F _ rfl ((((H.out.head hk cp).alloc _).drewN _).alloc _) (by omega) (by simp) ?_; intro ao1 cp1 w2 O2 G2)
      rw [Nat.zero_add, List.nil_append] at O2
      have D2 := aw_first H.out G2
      have O2' : Hid (OwnM w2 (w.heap.size + 1) 55 4 (.slice ao1 k cp1) k (nums F (k * 4))) := O2
      clear O2 G2
      refine wp_region_held_drew (S := AW w B n F (some ⟨g, o, none⟩) cp y0 x1 x2 x3) (by kernel_rfl) D2.drew (fun hS => ?_)
      refine tkH 0 ?_ hS (fun wx hx => ?_) ?_; rotate_left
      ·obtain ⟨⟨hx0, hx1, hx2, hx3⟩, _⟩ := hx; go_simp; try with_reducible rfl
      refine tkH 1 ?_ hS (fun wx hx => ?_) ?_; rotate_left
      ·obtain ⟨⟨hx0, hx1, hx2, hx3⟩, _⟩ := hx; go_simp; try with_reducible rfl
      refine tkH 4 ?_ hS (fun wx hx => ?_) ?_; rotate_left
      ·obtain ⟨⟨hx0, hx1, hx2, hx3⟩, _⟩ := hx; go_simp; try with_reducible rfl
      refine tkH 5 ?_ hS (fun wx hx => ?_) ?_; rotate_left
      ·obtain ⟨⟨hx0, hx1, hx2, hx3⟩, _⟩ := hx; go_simp; try with_reducible rfl
      refine tkH 6 ?_ hS (fun wx hx => ?_) ?_; rotate_left
      ·obtain ⟨⟨hx0, hx1, hx2, hx3⟩, _⟩ := hx; go_simp; try with_reducible rfl
      refine rdH 2 (fun K hK => ?_)
      go_simp
      have S3 := hS.grown H.out (World.grownBy_alloc w2.drew (.cells #[.int .i64 y0, .int .i64 x1, .int .i64 x2, .int .i64 x3] 55) none) (fun r e => by cases e)
      have O3 : Hid (OwnM (w2.drew.alloc (.cells #[.int .i64 y0, .int .i64 x1, .int .i64 x2, .int .i64 x3] 55)) (w.heap.size + 1) 55 4 (.slice ao1 k cp1) k (nums F (k * 4))) := O2'.out.later (below_alloc w2 _).drew
      have R3 : Hid (Row (w2.drew.alloc (.cells #[.int .i64 y0, .int .i64 x1, .int .i64 x2, .int .i64 x3] 55)) 0 4 1 (fun p => [y0, x1, x2, x3].getD p 0) (.slice (some ⟨w2.heap.size, 0, none⟩) 1 1)) := row_lit4 w2.drew y0 x1 x2 x3 55
      refine hK.out _ _ S3 (fun hS => ?_)
      clear hK K S3
      refine rdH 3 (fun K hK => ?_)
      refine step_app 55 i0 (.agg #[.int .i64 0, .int .i64 0, .int .i64 0, .int .i64 0]) 4 32 (by rfl) _ _ 26 (by rfl) Tryz.underlying26 hi hz0 hz1 hz2 rfl (by omega) (by omega) _ (w.heap.size + 1) k (nums F (k * 4)) (.slice ao1 k cp1) (by rfl) O3.out 0 1 (fun p => [y0, x1, x2, x3].getD p 0) (.slice (some ⟨w2.heap.size, 0, none⟩) 1 1) (by rfl) R3.out (by omega) (by have := hS.2.2.size; have := hS.1.1; have := lt_cell hS.1.1; omega) ?_
      intro ao3 cp3 w4 O4 G4
      have S4 := hS.grown H.out G4 (fun r e => by have := (O3.out.block r e).1; omega)
      have O4' : Hid (OwnM w4 (w.heap.size + 1) 55 4 (.slice ao3 (k + 1) cp3) (k + 1) (nums F (k * 4) ++ [y0, x1, x2, x3])) := O4
      clear O4 G4 O3 R3 O2'
      refine hK.out _ _ S4 (fun hS => ?_)
      clear hK K S4
      refine rdH 7 (fun K hK => ?_)
      refine step_app 55 i0 (.agg #[.int .i64 0, .int .i64 0, .int .i64 0, .int .i64 0]) 4 32 (by rfl) _ _ 26 (by rfl) Tryz.underlying26 hi hz0 hz1 hz2 rfl (by omega) (by omega) _ (w.heap.size + 1) (k + 1) (nums F (k * 4) ++ [y0, x1, x2, x3]) (.slice ao3 (k + 1) cp3) (by rfl) O4'.out B (n - k) (fun p => F (k * 4 + p)) (.slice (if cp = k then some ⟨g, o, none⟩ else some ⟨g, o + k * 4, none⟩) (n - k) (cp - k)) (by rfl) (hS.2.1.tailS hlt hcap) (by omega) (by have := hS.2.2.size; have := lt_cell hS.1.1; omega) ?_
      intro ao5 cp5 w6 O6 G6
      have S6 := hS.grown H.out G6 (fun r e => by have := (O4'.out.block r e).1; omega)
      have O6' : Hid (OwnM w6 w.heap.size 55 4 (.slice ao5 (n + 1) cp5) (n + 1) (nums F (k * 4) ++ [y0, x1, x2, x3] ++ nums (fun p => F (k * 4 + p)) ((n - k) * 4))) := by
       have e1 : k + 1 + (n - k) = n + 1 := by omega
       rw [e1] at O6
       exact World.ownsRow.mono O6 (Nat.le_succ _)
      clear O6 G6 O4'
      refine hK.out _ _ S6 (fun hS => ?_)
      clear hK K S6
      refine tkH 8 ?_ hS (fun wx hx => ?_) ?_; rotate_left
      ·obtain ⟨⟨hx0, hx1, hx2, hx3⟩, _⟩ := hx; go_simp; try with_reducible rfl
      refine wpAnyH_done (by kernel_rfl) ?_ _
      go_simp
      go_wp2
      all_goals
       go_ret
       refine ⟨k, ao5, cp5, HL.out, ?_, O6'.out, hS.2.2⟩
       show Ending.returned (Value.slice ao5 (k + 1 + (n - k)) cp5) = _
       rw [show k + 1 + (n - k) = n + 1 by omega]
    ·have t1 : (y0 == x0) = false := beq_eq_false_iff_ne.2 h1
     have HL : Hid (placeAt (aheadW F x0 x1) n k) := ⟨hk, hP.out, fun _ q => by rcases HA.out.1 q with r | r; exact h0 r; exact h1 r.1⟩
     clear HA hP
     go_wp2
     go_quiet (fail)
     have hkcp : k ≤ cp := by omega
     go_wp2_with (at_builtin; refine wpList_app 55 i0 (.agg #[.int .i64 0, .int .i64 0, .int .i64 0, .int .i64 0]) 4 32 rfl _ _ 26 rfl Tryz.underlying26 hi hz0 hz1 hz2 rfl (by omega) (by omega) _ (w.heap.size + 1) 0 [] _ rfl (OwnM.lit0 _ _ _ _ (by simp)) B k F _ rfl ((((H.out.head hk cp).alloc _).drewN _).alloc _) (by omega) (by simp) ?_; intro ao1 cp1 w2 O2 G2)
     rw [Nat.zero_add, List.nil_append] at O2
     have D2 := aw_first H.out G2
     have O2' : Hid (OwnM w2 (w.heap.size + 1) 55 4 (.slice ao1 k cp1) k (nums F (k * 4))) := O2
     clear O2 G2
     refine wp_region_held_drew (S := AW w B n F (some ⟨g, o, none⟩) cp x0 x1 x2 x3) (by kernel_rfl) D2.drew (fun hS => ?_)
     refine tkH 0 ?_ hS (fun wx hx => ?_) ?_; rotate_left
     ·obtain ⟨⟨hx0, hx1, hx2, hx3⟩, _⟩ := hx; go_simp; try with_reducible rfl
     refine tkH 1 ?_ hS (fun wx hx => ?_) ?_; rotate_left
     ·obtain ⟨⟨hx0, hx1, hx2, hx3⟩, _⟩ := hx; go_simp; try with_reducible rfl
     refine tkH 4 ?_ hS (fun wx hx => ?_) ?_; rotate_left
     ·obtain ⟨⟨hx0, hx1, hx2, hx3⟩, _⟩ := hx; go_simp; try with_reducible rfl
     refine tkH 5 ?_ hS (fun wx hx => ?_) ?_; rotate_left
     ·obtain ⟨⟨hx0, hx1, hx2, hx3⟩, _⟩ := hx; go_simp; try with_reducible rfl
     refine tkH 6 ?_ hS (fun wx hx => ?_) ?_; rotate_left
     ·obtain ⟨⟨hx0, hx1, hx2, hx3⟩, _⟩ := hx; go_simp; try with_reducible rfl
     refine rdH 2 (fun K hK => ?_)
     go_simp
     have S3 := hS.grown H.out (World.grownBy_alloc w2.drew (.cells #[.int .i64 x0, .int .i64 x1, .int .i64 x2, .int .i64 x3] 55) none) (fun r e => by cases e)
     have O3 : Hid (OwnM (w2.drew.alloc (.cells #[.int .i64 x0, .int .i64 x1, .int .i64 x2, .int .i64 x3] 55)) (w.heap.size + 1) 55 4 (.slice ao1 k cp1) k (nums F (k * 4))) := O2'.out.later (below_alloc w2 _).drew
     have R3 : Hid (Row (w2.drew.alloc (.cells #[.int .i64 x0, .int .i64 x1, .int .i64 x2, .int .i64 x3] 55)) 0 4 1 (fun p => [x0, x1, x2, x3].getD p 0) (.slice (some ⟨w2.heap.size, 0, none⟩) 1 1)) := row_lit4 w2.drew x0 x1 x2 x3 55
     refine hK.out _ _ S3 (fun hS => ?_)
     clear hK K S3
     refine rdH 3 (fun K hK => ?_)
     refine step_app 55 i0 (.agg #[.int .i64 0, .int .i64 0, .int .i64 0, .int .i64 0]) 4 32 (by rfl) _ _ 26 (by rfl) Tryz.underlying26 hi hz0 hz1 hz2 rfl (by omega) (by omega) _ (w.heap.size + 1) k (nums F (k * 4)) (.slice ao1 k cp1) (by rfl) O3.out 0 1 (fun p => [x0, x1, x2, x3].getD p 0) (.slice (some ⟨w2.heap.size, 0, none⟩) 1 1) (by rfl) R3.out (by omega) (by have := hS.2.2.size; have := hS.1.1; have := lt_cell hS.1.1; omega) ?_
     intro ao3 cp3 w4 O4 G4
     have S4 := hS.grown H.out G4 (fun r e => by have := (O3.out.block r e).1; omega)
     have O4' : Hid (OwnM w4 (w.heap.size + 1) 55 4 (.slice ao3 (k + 1) cp3) (k + 1) (nums F (k * 4) ++ [x0, x1, x2, x3])) := O4
     clear O4 G4 O3 R3 O2'
     refine hK.out _ _ S4 (fun hS => ?_)
     clear hK K S4
     refine rdH 7 (fun K hK => ?_)
     refine step_app 55 i0 (.agg #[.int .i64 0, .int .i64 0, .int .i64 0, .int .i64 0]) 4 32 (by rfl) _ _ 26 (by rfl) Tryz.underlying26 hi hz0 hz1 hz2 rfl (by omega) (by omega) _ (w.heap.size + 1) (k + 1) (nums F (k * 4) ++ [x0, x1, x2, x3]) (.slice ao3 (k + 1) cp3) (by rfl) O4'.out B (n - k) (fun p => F (k * 4 + p)) (.slice (if cp = k then some ⟨g, o, none⟩ else some ⟨g, o + k * 4, none⟩) (n - k) (cp - k)) (by rfl) (hS.2.1.tailS hlt hcap) (by omega) (by have := hS.2.2.size; have := lt_cell hS.1.1; omega) ?_
     intro ao5 cp5 w6 O6 G6
     have S6 := hS.grown H.out G6 (fun r e => by have := (O4'.out.block r e).1; omega)
     have O6' : Hid (OwnM w6 w.heap.size 55 4 (.slice ao5 (n + 1) cp5) (n + 1) (nums F (k * 4) ++ [x0, x1, x2, x3] ++ nums (fun p => F (k * 4 + p)) ((n - k) * 4))) := by
      have e1 : k + 1 + (n - k) = n + 1 := by omega
      rw [e1] at O6
      exact World.ownsRow.mono O6 (Nat.le_succ _)
     clear O6 G6 O4'
     refine hK.out _ _ S6 (fun hS => ?_)
     clear hK K S6
     refine tkH 8 ?_ hS (fun wx hx => ?_) ?_; rotate_left
     ·obtain ⟨⟨hx0, hx1, hx2, hx3⟩, _⟩ := hx; go_simp; try with_reducible rfl
     refine wpAnyH_done (by kernel_rfl) ?_ _
     go_simp
     go_wp2
     all_goals
      go_ret
      refine ⟨k, ao5, cp5, HL.out, ?_, O6'.out, hS.2.2⟩
      show Ending.returned (Value.slice ao5 (k + 1 + (n - k)) cp5) = _
      rw [show k + 1 + (n - k) = n + 1 by omega]
  ·have HL : Hid (placeAt (aheadW F x0 x1) n k) := ⟨hk, hP.out, fun q => absurd q hlt⟩
   clear hP
   go_wp2
   go_quiet (fail)
   have hkcp : k ≤ cp := by omega
   go_wp2_with (at_builtin; refine wpList_app 55 i0 (.agg #[.int .i64 0, .int .i64 0, .int .i64 0, .int .i64 0]) 4 32 rfl _ _ 26 rfl Tryz.underlying26 hi hz0 hz1 hz2 rfl (by omega) (by omega) _ (w.heap.size + 1) 0 [] _ rfl (OwnM.lit0 _ _ _ _ (by simp)) B k F _ rfl ((((H.out.head hk cp).alloc _).drewN _).alloc _) (by omega) (by simp) ?_; intro ao1 cp1 w2 O2 G2)
   rw [Nat.zero_add, List.nil_append] at O2
   have D2 := aw_first H.out G2
   have O2' : Hid (OwnM w2 (w.heap.size + 1) 55 4 (.slice ao1 k cp1) k (nums F (k * 4))) := O2
   clear O2 G2
   refine wp_region_held_drew (S := AW w B n F ao cp x0 x1 x2 x3) (by kernel_rfl) D2.drew (fun hS => ?_)
   refine tkH 0 ?_ hS (fun wx hx => ?_) ?_; rotate_left
   ·obtain ⟨⟨hx0, hx1, hx2, hx3⟩, _⟩ := hx; go_simp; try with_reducible rfl
   refine tkH 1 ?_ hS (fun wx hx => ?_) ?_; rotate_left
   ·obtain ⟨⟨hx0, hx1, hx2, hx3⟩, _⟩ := hx; go_simp; try with_reducible rfl
   refine tkH 4 ?_ hS (fun wx hx => ?_) ?_; rotate_left
   ·obtain ⟨⟨hx0, hx1, hx2, hx3⟩, _⟩ := hx; go_simp; try with_reducible rfl
   refine tkH 5 ?_ hS (fun wx hx => ?_) ?_; rotate_left
   ·obtain ⟨⟨hx0, hx1, hx2, hx3⟩, _⟩ := hx; go_simp; try with_reducible rfl
   refine tkH 6 ?_ hS (fun wx hx => ?_) ?_; rotate_left
   ·obtain ⟨⟨hx0, hx1, hx2, hx3⟩, _⟩ := hx; go_simp; try with_reducible rfl
   refine rdH 2 (fun K hK => ?_)
   go_simp
   have S3 := hS.grown H.out (World.grownBy_alloc w2.drew (.cells #[.int .i64 x0, .int .i64 x1, .int .i64 x2, .int .i64 x3] 55) none) (fun r e => by cases e)
   have O3 : Hid (OwnM (w2.drew.alloc (.cells #[.int .i64 x0, .int .i64 x1, .int .i64 x2, .int .i64 x3] 55)) (w.heap.size + 1) 55 4 (.slice ao1 k cp1) k (nums F (k * 4))) := O2'.out.later (below_alloc w2 _).drew
   have R3 : Hid (Row (w2.drew.alloc (.cells #[.int .i64 x0, .int .i64 x1, .int .i64 x2, .int .i64 x3] 55)) 0 4 1 (fun p => [x0, x1, x2, x3].getD p 0) (.slice (some ⟨w2.heap.size, 0, none⟩) 1 1)) := row_lit4 w2.drew x0 x1 x2 x3 55
   refine hK.out _ _ S3 (fun hS => ?_)
   clear hK K S3
   refine rdH 3 (fun K hK => ?_)
   refine step_app 55 i0 (.agg #[.int .i64 0, .int .i64 0, .int .i64 0, .int .i64 0]) 4 32 (by rfl) _ _ 26 (by rfl) Tryz.underlying26 hi hz0 hz1 hz2 rfl (by omega) (by omega) _ (w.heap.size + 1) k (nums F (k * 4)) (.slice ao1 k cp1) (by rfl) O3.out 0 1 (fun p => [x0, x1, x2, x3].getD p 0) (.slice (some ⟨w2.heap.size, 0, none⟩) 1 1) (by rfl) R3.out (by omega) (by have := hS.2.2.size; have := hS.1.1; have := lt_cell hS.1.1; omega) ?_
   intro ao3 cp3 w4 O4 G4
   have S4 := hS.grown H.out G4 (fun r e => by have := (O3.out.block r e).1; omega)
   have O4' : Hid (OwnM w4 (w.heap.size + 1) 55 4 (.slice ao3 (k + 1) cp3) (k + 1) (nums F (k * 4) ++ [x0, x1, x2, x3])) := O4
   clear O4 G4 O3 R3 O2'
   refine hK.out _ _ S4 (fun hS => ?_)
   clear hK K S4
   refine rdH 7 (fun K hK => ?_)
   refine step_app 55 i0 (.agg #[.int .i64 0, .int .i64 0, .int .i64 0, .int .i64 0]) 4 32 (by rfl) _ _ 26 (by rfl) Tryz.underlying26 hi hz0 hz1 hz2 rfl (by omega) (by omega) _ (w.heap.size + 1) (k + 1) (nums F (k * 4) ++ [x0, x1, x2, x3]) (.slice ao3 (k + 1) cp3) (by rfl) O4'.out B (n - k) (fun p => F (k * 4 + p)) (.slice (if cp = k then ao else Option.map (fun x => x.add (k * 4)) ao) (n - k) (cp - k)) (by rfl) (Row.over _ _ _ _ _ _ _ _ hlt) (by omega) (by have := hS.2.2.size; have := lt_cell hS.1.1; omega) ?_
   intro ao5 cp5 w6 O6 G6
   have S6 := hS.grown H.out G6 (fun r e => by have := (O4'.out.block r e).1; omega)
   have O6' : Hid (OwnM w6 w.heap.size 55 4 (.slice ao5 (n + 1) cp5) (n + 1) (nums F (k * 4) ++ [x0, x1, x2, x3] ++ nums (fun p => F (k * 4 + p)) ((n - k) * 4))) := by
    have e1 : k + 1 + (n - k) = n + 1 := by omega
    rw [e1] at O6
    exact World.ownsRow.mono O6 (Nat.le_succ _)
   clear O6 G6 O4'
   refine hK.out _ _ S6 (fun hS => ?_)
   clear hK K S6
   refine tkH 8 ?_ hS (fun wx hx => ?_) ?_; rotate_left
   ·obtain ⟨⟨hx0, hx1, hx2, hx3⟩, _⟩ := hx; go_simp; try with_reducible rfl
   refine wpAnyH_done (by kernel_rfl) ?_ _
   go_simp
   go_wp2
   all_goals
    go_ret
    refine ⟨k, ao5, cp5, HL.out, ?_, O6'.out, hS.2.2⟩
    show Ending.returned (Value.slice ao5 (k + 1 + (n - k)) cp5) = _
    rw [show k + 1 + (n - k) = n + 1 by omega]
end

section
open Go.RowKit
/-- Write j stands ahead of one of key a and commit b. -/
def aheadL (F : Nat → Int) (a : Int) (j : Nat) : Prop := F (j * 5) < a

/-- What the last region of l2AddLock holds. -/
def AL (w : World) (B n : Nat) (F : Nat → Int) (ao : Option Addr) (cp : Nat) (x0 x1 x2 x3 x4 : Int) (X : World) : Prop :=
 (X.cell? ⟨w.heap.size, 0, none⟩ = some (.int .i64 x0) ∧ X.cell? ⟨w.heap.size, 1, none⟩ = some (.int .i64 x1) ∧ X.cell? ⟨w.heap.size, 2, none⟩ = some (.int .i64 x2) ∧ X.cell? ⟨w.heap.size, 3, none⟩ = some (.int .i64 x3) ∧ X.cell? ⟨w.heap.size, 4, none⟩ = some (.int .i64 x4)) ∧ Row X B 5 n F (.slice ao n cp) ∧ Below w.heap.size w X
theorem AL.drew {w X : World} {B n : Nat} {F : Nat → Int} {ao : Option Addr} {cp : Nat} {x0 x1 x2 x3 x4 : Int} (h : AL w B n F ao cp x0 x1 x2 x3 x4 X) : AL w B n F ao cp x0 x1 x2 x3 x4 X.drew := ⟨h.1, h.2.1, h.2.2.drew⟩
theorem AL.grown {w X X' : World} {B n : Nat} {F : Nat → Int} {ao : Option Addr} {cp : Nat} {x0 x1 x2 x3 x4 : Int} {row : Option Nat} (h : AL w B n F ao cp x0 x1 x2 x3 x4 X) (h0 : Row w B 5 n F (.slice ao n cp)) (hg : X.grownBy X' row) (hr : ∀ r, row = some r → w.heap.size < r) : AL w B n F ao cp x0 x1 x2 x3 x4 X' := by
 obtain ⟨⟨c0, c1, c2, c3, c4⟩, _, hb⟩ := h
 have far : ∀ k v, X.cell? ⟨w.heap.size, k, none⟩ = some v → X'.cell? ⟨w.heap.size, k, none⟩ = some v := fun k v hc => hg.cell hc (fun e => by have := hr _ e.symm; simp at this)
 have hb' : Below w.heap.size w X' := hb.grown hg hb.size (fun r e => Nat.le_of_lt (hr r e))
 exact ⟨⟨far _ _ c0, far _ _ c1, far _ _ c2, far _ _ c3, far _ _ c4⟩, h0.later hb', hb'⟩
theorem al_first {w w2 : World} {B n q : Nat} {F : Nat → Int} {ao : Option Addr} {cp : Nat} {x0 x1 x2 x3 x4 : Int} (h : Row w B 5 n F (.slice ao n cp))
  (hg : (((w.alloc (.cells #[.int .i64 x0, .int .i64 x1, .int .i64 x2, .int .i64 x3, .int .i64 x4] 40)).drewN q).alloc (.cells #[] 40)).grownBy w2 (some (w.heap.size + 1))) : AL w B n F ao cp x0 x1 x2 x3 x4 w2 := by
 have hb : Below w.heap.size w (((w.alloc (.cells #[.int .i64 x0, .int .i64 x1, .int .i64 x2, .int .i64 x3, .int .i64 x4] 40)).drewN q).alloc (.cells #[] 40)) := (below_drewN ((Below.refl _ _).alloc (Nat.le_refl _) _) q).alloc (by simp) _
 have b1 : Below (w.heap.size + 1) (w.alloc (.cells #[.int .i64 x0, .int .i64 x1, .int .i64 x2, .int .i64 x3, .int .i64 x4] 40)) (((w.alloc (.cells #[.int .i64 x0, .int .i64 x1, .int .i64 x2, .int .i64 x3, .int .i64 x4] 40)).drewN q).alloc (.cells #[] 40)) := (below_drewN (Below.refl _ _) q).alloc (by simp) _
 have near : ∀ k v, (w.alloc (.cells #[.int .i64 x0, .int .i64 x1, .int .i64 x2, .int .i64 x3, .int .i64 x4] 40)).cell? ⟨w.heap.size, k, none⟩ = some v → (((w.alloc (.cells #[.int .i64 x0, .int .i64 x1, .int .i64 x2, .int .i64 x3, .int .i64 x4] 40)).drewN q).alloc (.cells #[] 40)).cell? ⟨w.heap.size, k, none⟩ = some v := fun k v hc => (b1.cell (p := ⟨w.heap.size, k, none⟩) (Nat.lt_succ_self _)).trans hc
 refine AL.grown (X := ((w.alloc (.cells #[.int .i64 x0, .int .i64 x1, .int .i64 x2, .int .i64 x3, .int .i64 x4] 40)).drewN q).alloc (.cells #[] 40)) ⟨⟨near _ _ (World.cell?_alloc_mark w _ _ _ 0), near _ _ (World.cell?_alloc_mark w _ _ _ 1), near _ _ (World.cell?_alloc_mark w _ _ _ 2), near _ _ (World.cell?_alloc_mark w _ _ _ 3), near _ _ (World.cell?_alloc_mark w _ _ _ 4)⟩, h.later hb, hb⟩ h hg (fun r e => by cases e; omega)
theorem row_lit5 (w : World) (x0 x1 x2 x3 x4 : Int) (t : TypeId) : Row (w.alloc (.cells #[.int .i64 x0, .int .i64 x1, .int .i64 x2, .int .i64 x3, .int .i64 x4] t)) 0 5 1 (fun p => [x0, x1, x2, x3, x4].getD p 0) (.slice (some ⟨w.heap.size, 0, none⟩) 1 1) := by
 refine ⟨_, _, rfl, fun _ => ⟨w.heap.size, 0, rfl, Nat.zero_le _, by simp, fun p hp => ?_⟩⟩
 rw [Nat.zero_add, World.cell?_alloc_mark]
 match p, hp with
 | 0, _ => rfl
 | 1, _ => rfl
 | 2, _ => rfl
 | 3, _ => rfl
 | 4, _ => rfl
/-- What l2AddLock answers. -/
def AddedL (w : World) (n : Nat) (F : Nat → Int) (x0 x1 x2 x3 x4 : Int) (e : Ending) (w' : World) : Prop := ∃ k ao' cp', placeAt (aheadL F x0) n k ∧ e = .returned (.slice ao' (n + 1) cp') ∧
 OwnM w' w.heap.size 40 5 (.slice ao' (n + 1) cp') (n + 1) (nums F (k * 5) ++ [x0, x1, x2, x3, x4] ++ nums (fun p => F (k * 5 + p)) ((n - k) * 5)) ∧ Below w.heap.size w w'
set_option maxRecDepth 100000 in
set_option maxHeartbeats 4000000 in
theorem l2AddLock_any (n : Nat) (F : Nat → Int) (ao : Option Addr) (cp : Nat) (B : Nat) (x0 x1 x2 x3 x4 : Int) (w : World) (h : Row w B 5 n F (.slice ao n cp)) (hn : n ≤ 1000) (hcap : n ≤ cp) :
  Calls Tryz.prog 89 #[.slice ao n cp, .agg #[.int .i64 x0, .int .i64 x1, .int .i64 x2, .int .i64 x3, .int .i64 x4]] w (AddedL w n F x0 x1 x2 x3 x4) := by
 have H : Hid (Row w B 5 n F (.slice ao n cp)) := h
 clear h
 obtain ⟨i0, hi, hz0, hz1, hz2⟩ := info_parts info_Lock
 go_enter Tryz.func89, Tryz.ntmps89
 go_wp2
 go_loopw [5] (fun i wr => ∃ k q : Nat, i = .int .i64 k ∧ k ≤ n ∧ Hid (∀ j, j < k → aheadL F x0 j) ∧ wr = (w.alloc (.cells #[.int .i64 x0, .int .i64 x1, .int .i64 x2, .int .i64 x3, .int .i64 x4] 40)).drewN q) (fun i _ => n - (intOf i).toNat)
 case atStart => exact ⟨0, 0, rfl, Nat.zero_le _, fun j hj => absurd hj (Nat.not_lt_zero j), rfl⟩
 case round =>
  obtain ⟨k, q, rfl, hk, hP, rfl⟩ := hrel
  by_cases hlt : k < n
  ·obtain ⟨g, o, hao, _, hg, c0, c1, c2, c3, c4⟩ := H.out.at5 hlt
   subst hao
   have d0 : (w.alloc (.cells #[.int .i64 x0, .int .i64 x1, .int .i64 x2, .int .i64 x3, .int .i64 x4] 40)).cell? ⟨g, o + k * 5, none⟩ = some (.int .i64 (F (k * 5))) := (World.cell?_alloc_lt _ _ _ hg).trans c0
   have d1 : (w.alloc (.cells #[.int .i64 x0, .int .i64 x1, .int .i64 x2, .int .i64 x3, .int .i64 x4] 40)).cell? ⟨g, o + k * 5 + 1, none⟩ = some (.int .i64 (F (k * 5 + 1))) := (World.cell?_alloc_lt _ _ _ hg).trans c1
   obtain ⟨y0, N0⟩ : ∃ y, F (k * 5) = y := ⟨_, rfl⟩
   rw [N0] at d0
   have HA : Hid (aheadL F x0 k ↔ y0 < x0) := by unfold aheadL; rw [N0]; exact Iff.rfl
   clear c0 c1 c2 c3 c4 N0 d1
   by_cases h0 : y0 < x0
   ·have HP : Hid (∀ j, j < k + 1 → aheadL F x0 j) := fun j hj => by
     rcases Nat.lt_or_ge j k with q | q
     ·exact hP.out j q
     ·obtain rfl : j = k := by omega
      exact HA.out.2 h0
    clear HA hP
    have t0 : decide (y0 < x0) = true := decide_eq_true h0
    go_wp2
    go_quiet (fail)
    go_wp2
    go_roundw
    case rel => exact ⟨k + 1, _, by go_num, by omega, HP, rfl⟩
    case measure => simp [intOf]; omega
   ·have t0 : decide (y0 < x0) = false := decide_eq_false h0
    have HL : Hid (placeAt (aheadL F x0) n k) := ⟨hk, hP.out, fun _ q => h0 (HA.out.1 q)⟩
    clear HA hP
    go_wp2
    go_quiet (fail)
    have hkcp : k ≤ cp := by omega
    go_wp2_with (at_builtin; refine wpList_app 40 i0 (.agg #[.int .i64 0, .int .i64 0, .int .i64 0, .int .i64 0, .int .i64 0]) 5 40 rfl _ _ 25 rfl Tryz.underlying25 hi hz0 hz1 hz2 rfl (by omega) (by omega) _ (w.heap.size + 1) 0 [] _ rfl (OwnM.lit0 _ _ _ _ (by simp)) B k F _ rfl ((((H.out.head hk cp).alloc _).drewN _).alloc _) (by omega) (by simp) ?_; intro ao1 cp1 w2 O2 G2)
    rw [Nat.zero_add, List.nil_append] at O2
    have D2 := al_first H.out G2
    have O2' : Hid (OwnM w2 (w.heap.size + 1) 40 5 (.slice ao1 k cp1) k (nums F (k * 5))) := O2
    clear O2 G2
    refine wp_region_held_drew (S := AL w B n F (some ⟨g, o, none⟩) cp x0 x1 x2 x3 x4) (by kernel_rfl) D2.drew (fun hS => ?_)
    refine tkH 0 ?_ hS (fun wx hx => ?_) ?_; rotate_left
    ·obtain ⟨⟨hx0, hx1, hx2, hx3, hx4⟩, _⟩ := hx; go_simp; try with_reducible rfl
    refine tkH 1 ?_ hS (fun wx hx => ?_) ?_; rotate_left
    ·obtain ⟨⟨hx0, hx1, hx2, hx3, hx4⟩, _⟩ := hx; go_simp; try with_reducible rfl
    refine tkH 4 ?_ hS (fun wx hx => ?_) ?_; rotate_left
    ·obtain ⟨⟨hx0, hx1, hx2, hx3, hx4⟩, _⟩ := hx; go_simp; try with_reducible rfl
    refine tkH 5 ?_ hS (fun wx hx => ?_) ?_; rotate_left
    ·obtain ⟨⟨hx0, hx1, hx2, hx3, hx4⟩, _⟩ := hx; go_simp; try with_reducible rfl
    refine tkH 6 ?_ hS (fun wx hx => ?_) ?_; rotate_left
    ·obtain ⟨⟨hx0, hx1, hx2, hx3, hx4⟩, _⟩ := hx; go_simp; try with_reducible rfl
    refine rdH 2 (fun K hK => ?_)
    go_simp
    have S3 := hS.grown H.out (World.grownBy_alloc w2.drew (.cells #[.int .i64 x0, .int .i64 x1, .int .i64 x2, .int .i64 x3, .int .i64 x4] 40) none) (fun r e => by cases e)
    have O3 : Hid (OwnM (w2.drew.alloc (.cells #[.int .i64 x0, .int .i64 x1, .int .i64 x2, .int .i64 x3, .int .i64 x4] 40)) (w.heap.size + 1) 40 5 (.slice ao1 k cp1) k (nums F (k * 5))) := O2'.out.later (below_alloc w2 _).drew
    have R3 : Hid (Row (w2.drew.alloc (.cells #[.int .i64 x0, .int .i64 x1, .int .i64 x2, .int .i64 x3, .int .i64 x4] 40)) 0 5 1 (fun p => [x0, x1, x2, x3, x4].getD p 0) (.slice (some ⟨w2.heap.size, 0, none⟩) 1 1)) := row_lit5 w2.drew x0 x1 x2 x3 x4 40
    refine hK.out _ _ S3 (fun hS => ?_)
    clear hK K S3
    refine rdH 3 (fun K hK => ?_)
    refine step_app 40 i0 (.agg #[.int .i64 0, .int .i64 0, .int .i64 0, .int .i64 0, .int .i64 0]) 5 40 (by rfl) _ _ 25 (by rfl) Tryz.underlying25 hi hz0 hz1 hz2 rfl (by omega) (by omega) _ (w.heap.size + 1) k (nums F (k * 5)) (.slice ao1 k cp1) (by rfl) O3.out 0 1 (fun p => [x0, x1, x2, x3, x4].getD p 0) (.slice (some ⟨w2.heap.size, 0, none⟩) 1 1) (by rfl) R3.out (by omega) (by have := hS.2.2.size; have := hS.1.1; have := lt_cell hS.1.1; omega) ?_
    intro ao3 cp3 w4 O4 G4
    have S4 := hS.grown H.out G4 (fun r e => by have := (O3.out.block r e).1; omega)
    have O4' : Hid (OwnM w4 (w.heap.size + 1) 40 5 (.slice ao3 (k + 1) cp3) (k + 1) (nums F (k * 5) ++ [x0, x1, x2, x3, x4])) := O4
    clear O4 G4 O3 R3 O2'
    refine hK.out _ _ S4 (fun hS => ?_)
    clear hK K S4
    refine rdH 7 (fun K hK => ?_)
    refine step_app 40 i0 (.agg #[.int .i64 0, .int .i64 0, .int .i64 0, .int .i64 0, .int .i64 0]) 5 40 (by rfl) _ _ 25 (by rfl) Tryz.underlying25 hi hz0 hz1 hz2 rfl (by omega) (by omega) _ (w.heap.size + 1) (k + 1) (nums F (k * 5) ++ [x0, x1, x2, x3, x4]) (.slice ao3 (k + 1) cp3) (by rfl) O4'.out B (n - k) (fun p => F (k * 5 + p)) (.slice (if cp = k then some ⟨g, o, none⟩ else some ⟨g, o + k * 5, none⟩) (n - k) (cp - k)) (by rfl) (hS.2.1.tailS hlt hcap) (by omega) (by have := hS.2.2.size; have := lt_cell hS.1.1; omega) ?_
    intro ao5 cp5 w6 O6 G6
    have S6 := hS.grown H.out G6 (fun r e => by have := (O4'.out.block r e).1; omega)
    have O6' : Hid (OwnM w6 w.heap.size 40 5 (.slice ao5 (n + 1) cp5) (n + 1) (nums F (k * 5) ++ [x0, x1, x2, x3, x4] ++ nums (fun p => F (k * 5 + p)) ((n - k) * 5))) := by
     have e1 : k + 1 + (n - k) = n + 1 := by omega
     rw [e1] at O6
     exact World.ownsRow.mono O6 (Nat.le_succ _)
    clear O6 G6 O4'
    refine hK.out _ _ S6 (fun hS => ?_)
    clear hK K S6
    refine tkH 8 ?_ hS (fun wx hx => ?_) ?_; rotate_left
    ·obtain ⟨⟨hx0, hx1, hx2, hx3, hx4⟩, _⟩ := hx; go_simp; try with_reducible rfl
    refine wpAnyH_done (by kernel_rfl) ?_ _
    go_simp
    go_wp2
    all_goals
     go_ret
     refine ⟨k, ao5, cp5, HL.out, ?_, O6'.out, hS.2.2⟩
     show Ending.returned (Value.slice ao5 (k + 1 + (n - k)) cp5) = _
     rw [show k + 1 + (n - k) = n + 1 by omega]
  ·have HL : Hid (placeAt (aheadL F x0) n k) := ⟨hk, hP.out, fun q => absurd q hlt⟩
   clear hP
   go_wp2
   go_quiet (fail)
   have hkcp : k ≤ cp := by omega
   go_wp2_with (at_builtin; refine wpList_app 40 i0 (.agg #[.int .i64 0, .int .i64 0, .int .i64 0, .int .i64 0, .int .i64 0]) 5 40 rfl _ _ 25 rfl Tryz.underlying25 hi hz0 hz1 hz2 rfl (by omega) (by omega) _ (w.heap.size + 1) 0 [] _ rfl (OwnM.lit0 _ _ _ _ (by simp)) B k F _ rfl ((((H.out.head hk cp).alloc _).drewN _).alloc _) (by omega) (by simp) ?_; intro ao1 cp1 w2 O2 G2)
   rw [Nat.zero_add, List.nil_append] at O2
   have D2 := al_first H.out G2
   have O2' : Hid (OwnM w2 (w.heap.size + 1) 40 5 (.slice ao1 k cp1) k (nums F (k * 5))) := O2
   clear O2 G2
   refine wp_region_held_drew (S := AL w B n F ao cp x0 x1 x2 x3 x4) (by kernel_rfl) D2.drew (fun hS => ?_)
   refine tkH 0 ?_ hS (fun wx hx => ?_) ?_; rotate_left
   ·obtain ⟨⟨hx0, hx1, hx2, hx3, hx4⟩, _⟩ := hx; go_simp; try with_reducible rfl
   refine tkH 1 ?_ hS (fun wx hx => ?_) ?_; rotate_left
   ·obtain ⟨⟨hx0, hx1, hx2, hx3, hx4⟩, _⟩ := hx; go_simp; try with_reducible rfl
   refine tkH 4 ?_ hS (fun wx hx => ?_) ?_; rotate_left
   ·obtain ⟨⟨hx0, hx1, hx2, hx3, hx4⟩, _⟩ := hx; go_simp; try with_reducible rfl
   refine tkH 5 ?_ hS (fun wx hx => ?_) ?_; rotate_left
   ·obtain ⟨⟨hx0, hx1, hx2, hx3, hx4⟩, _⟩ := hx; go_simp; try with_reducible rfl
   refine tkH 6 ?_ hS (fun wx hx => ?_) ?_; rotate_left
   ·obtain ⟨⟨hx0, hx1, hx2, hx3, hx4⟩, _⟩ := hx; go_simp; try with_reducible rfl
   refine rdH 2 (fun K hK => ?_)
   go_simp
   have S3 := hS.grown H.out (World.grownBy_alloc w2.drew (.cells #[.int .i64 x0, .int .i64 x1, .int .i64 x2, .int .i64 x3, .int .i64 x4] 40) none) (fun r e => by cases e)
   have O3 : Hid (OwnM (w2.drew.alloc (.cells #[.int .i64 x0, .int .i64 x1, .int .i64 x2, .int .i64 x3, .int .i64 x4] 40)) (w.heap.size + 1) 40 5 (.slice ao1 k cp1) k (nums F (k * 5))) := O2'.out.later (below_alloc w2 _).drew
   have R3 : Hid (Row (w2.drew.alloc (.cells #[.int .i64 x0, .int .i64 x1, .int .i64 x2, .int .i64 x3, .int .i64 x4] 40)) 0 5 1 (fun p => [x0, x1, x2, x3, x4].getD p 0) (.slice (some ⟨w2.heap.size, 0, none⟩) 1 1)) := row_lit5 w2.drew x0 x1 x2 x3 x4 40
   refine hK.out _ _ S3 (fun hS => ?_)
   clear hK K S3
   refine rdH 3 (fun K hK => ?_)
   refine step_app 40 i0 (.agg #[.int .i64 0, .int .i64 0, .int .i64 0, .int .i64 0, .int .i64 0]) 5 40 (by rfl) _ _ 25 (by rfl) Tryz.underlying25 hi hz0 hz1 hz2 rfl (by omega) (by omega) _ (w.heap.size + 1) k (nums F (k * 5)) (.slice ao1 k cp1) (by rfl) O3.out 0 1 (fun p => [x0, x1, x2, x3, x4].getD p 0) (.slice (some ⟨w2.heap.size, 0, none⟩) 1 1) (by rfl) R3.out (by omega) (by have := hS.2.2.size; have := hS.1.1; have := lt_cell hS.1.1; omega) ?_
   intro ao3 cp3 w4 O4 G4
   have S4 := hS.grown H.out G4 (fun r e => by have := (O3.out.block r e).1; omega)
   have O4' : Hid (OwnM w4 (w.heap.size + 1) 40 5 (.slice ao3 (k + 1) cp3) (k + 1) (nums F (k * 5) ++ [x0, x1, x2, x3, x4])) := O4
   clear O4 G4 O3 R3 O2'
   refine hK.out _ _ S4 (fun hS => ?_)
   clear hK K S4
   refine rdH 7 (fun K hK => ?_)
   refine step_app 40 i0 (.agg #[.int .i64 0, .int .i64 0, .int .i64 0, .int .i64 0, .int .i64 0]) 5 40 (by rfl) _ _ 25 (by rfl) Tryz.underlying25 hi hz0 hz1 hz2 rfl (by omega) (by omega) _ (w.heap.size + 1) (k + 1) (nums F (k * 5) ++ [x0, x1, x2, x3, x4]) (.slice ao3 (k + 1) cp3) (by rfl) O4'.out B (n - k) (fun p => F (k * 5 + p)) (.slice (if cp = k then ao else Option.map (fun x => x.add (k * 5)) ao) (n - k) (cp - k)) (by rfl) (Row.over _ _ _ _ _ _ _ _ hlt) (by omega) (by have := hS.2.2.size; have := lt_cell hS.1.1; omega) ?_
   intro ao5 cp5 w6 O6 G6
   have S6 := hS.grown H.out G6 (fun r e => by have := (O4'.out.block r e).1; omega)
   have O6' : Hid (OwnM w6 w.heap.size 40 5 (.slice ao5 (n + 1) cp5) (n + 1) (nums F (k * 5) ++ [x0, x1, x2, x3, x4] ++ nums (fun p => F (k * 5 + p)) ((n - k) * 5))) := by
    have e1 : k + 1 + (n - k) = n + 1 := by omega
    rw [e1] at O6
    exact World.ownsRow.mono O6 (Nat.le_succ _)
   clear O6 G6 O4'
   refine hK.out _ _ S6 (fun hS => ?_)
   clear hK K S6
   refine tkH 8 ?_ hS (fun wx hx => ?_) ?_; rotate_left
   ·obtain ⟨⟨hx0, hx1, hx2, hx3, hx4⟩, _⟩ := hx; go_simp; try with_reducible rfl
   refine wpAnyH_done (by kernel_rfl) ?_ _
   go_simp
   go_wp2
   all_goals
    go_ret
    refine ⟨k, ao5, cp5, HL.out, ?_, O6'.out, hS.2.2⟩
    show Ending.returned (Value.slice ao5 (k + 1 + (n - k)) cp5) = _
    rw [show k + 1 + (n - k) = n + 1 by omega]
end

section
open Go.RowKit
/-- Write j stands ahead of one of key a and commit b. -/
def aheadC (F : Nat → Int) (a b : Int) (j : Nat) : Prop := F (j * 3) < a ∨ F (j * 3) = a ∧ F (j * 3 + 1) < b

/-- What the last region of l2AddCell holds. -/
def AC (w : World) (B n : Nat) (F : Nat → Int) (ao : Option Addr) (cp : Nat) (x0 x1 x2 : Int) (X : World) : Prop :=
 (X.cell? ⟨w.heap.size, 0, none⟩ = some (.int .i64 x0) ∧ X.cell? ⟨w.heap.size, 1, none⟩ = some (.int .i64 x1) ∧ X.cell? ⟨w.heap.size, 2, none⟩ = some (.int .i64 x2)) ∧ Row X B 3 n F (.slice ao n cp) ∧ Below w.heap.size w X
theorem AC.drew {w X : World} {B n : Nat} {F : Nat → Int} {ao : Option Addr} {cp : Nat} {x0 x1 x2 : Int} (h : AC w B n F ao cp x0 x1 x2 X) : AC w B n F ao cp x0 x1 x2 X.drew := ⟨h.1, h.2.1, h.2.2.drew⟩
theorem AC.grown {w X X' : World} {B n : Nat} {F : Nat → Int} {ao : Option Addr} {cp : Nat} {x0 x1 x2 : Int} {row : Option Nat} (h : AC w B n F ao cp x0 x1 x2 X) (h0 : Row w B 3 n F (.slice ao n cp)) (hg : X.grownBy X' row) (hr : ∀ r, row = some r → w.heap.size < r) : AC w B n F ao cp x0 x1 x2 X' := by
 obtain ⟨⟨c0, c1, c2⟩, _, hb⟩ := h
 have far : ∀ k v, X.cell? ⟨w.heap.size, k, none⟩ = some v → X'.cell? ⟨w.heap.size, k, none⟩ = some v := fun k v hc => hg.cell hc (fun e => by have := hr _ e.symm; simp at this)
 have hb' : Below w.heap.size w X' := hb.grown hg hb.size (fun r e => Nat.le_of_lt (hr r e))
 exact ⟨⟨far _ _ c0, far _ _ c1, far _ _ c2⟩, h0.later hb', hb'⟩
theorem ac_first {w w2 : World} {B n q : Nat} {F : Nat → Int} {ao : Option Addr} {cp : Nat} {x0 x1 x2 : Int} (h : Row w B 3 n F (.slice ao n cp))
  (hg : (((w.alloc (.cells #[.int .i64 x0, .int .i64 x1, .int .i64 x2] 93)).drewN q).alloc (.cells #[] 93)).grownBy w2 (some (w.heap.size + 1))) : AC w B n F ao cp x0 x1 x2 w2 := by
 have hb : Below w.heap.size w (((w.alloc (.cells #[.int .i64 x0, .int .i64 x1, .int .i64 x2] 93)).drewN q).alloc (.cells #[] 93)) := (below_drewN ((Below.refl _ _).alloc (Nat.le_refl _) _) q).alloc (by simp) _
 have b1 : Below (w.heap.size + 1) (w.alloc (.cells #[.int .i64 x0, .int .i64 x1, .int .i64 x2] 93)) (((w.alloc (.cells #[.int .i64 x0, .int .i64 x1, .int .i64 x2] 93)).drewN q).alloc (.cells #[] 93)) := (below_drewN (Below.refl _ _) q).alloc (by simp) _
 have near : ∀ k v, (w.alloc (.cells #[.int .i64 x0, .int .i64 x1, .int .i64 x2] 93)).cell? ⟨w.heap.size, k, none⟩ = some v → (((w.alloc (.cells #[.int .i64 x0, .int .i64 x1, .int .i64 x2] 93)).drewN q).alloc (.cells #[] 93)).cell? ⟨w.heap.size, k, none⟩ = some v := fun k v hc => (b1.cell (p := ⟨w.heap.size, k, none⟩) (Nat.lt_succ_self _)).trans hc
 refine AC.grown (X := ((w.alloc (.cells #[.int .i64 x0, .int .i64 x1, .int .i64 x2] 93)).drewN q).alloc (.cells #[] 93)) ⟨⟨near _ _ (World.cell?_alloc_mark w _ _ _ 0), near _ _ (World.cell?_alloc_mark w _ _ _ 1), near _ _ (World.cell?_alloc_mark w _ _ _ 2)⟩, h.later hb, hb⟩ h hg (fun r e => by cases e; omega)
theorem row_lit3 (w : World) (x0 x1 x2 : Int) (t : TypeId) : Row (w.alloc (.cells #[.int .i64 x0, .int .i64 x1, .int .i64 x2] t)) 0 3 1 (fun p => [x0, x1, x2].getD p 0) (.slice (some ⟨w.heap.size, 0, none⟩) 1 1) := by
 refine ⟨_, _, rfl, fun _ => ⟨w.heap.size, 0, rfl, Nat.zero_le _, by simp, fun p hp => ?_⟩⟩
 rw [Nat.zero_add, World.cell?_alloc_mark]
 match p, hp with
 | 0, _ => rfl
 | 1, _ => rfl
 | 2, _ => rfl
/-- What l2AddCell answers. -/
def AddedC (w : World) (n : Nat) (F : Nat → Int) (x0 x1 x2 : Int) (e : Ending) (w' : World) : Prop := ∃ k ao' cp', placeAt (aheadC F x0 x1) n k ∧ e = .returned (.slice ao' (n + 1) cp') ∧
 OwnM w' w.heap.size 93 3 (.slice ao' (n + 1) cp') (n + 1) (nums F (k * 3) ++ [x0, x1, x2] ++ nums (fun p => F (k * 3 + p)) ((n - k) * 3)) ∧ Below w.heap.size w w'
set_option maxRecDepth 100000 in
set_option maxHeartbeats 4000000 in
theorem l2AddCell_any (n : Nat) (F : Nat → Int) (ao : Option Addr) (cp : Nat) (B : Nat) (x0 x1 x2 : Int) (w : World) (h : Row w B 3 n F (.slice ao n cp)) (hn : n ≤ 1000) (hcap : n ≤ cp) :
  Calls Tryz.prog 90 #[.slice ao n cp, .agg #[.int .i64 x0, .int .i64 x1, .int .i64 x2]] w (AddedC w n F x0 x1 x2) := by
 have H : Hid (Row w B 3 n F (.slice ao n cp)) := h
 clear h
 obtain ⟨i0, hi, hz0, hz1, hz2⟩ := info_parts info_Cell
 go_enter Tryz.func90, Tryz.ntmps90
 go_wp2
 go_loopw [5] (fun i wr => ∃ k q : Nat, i = .int .i64 k ∧ k ≤ n ∧ Hid (∀ j, j < k → aheadC F x0 x1 j) ∧ wr = (w.alloc (.cells #[.int .i64 x0, .int .i64 x1, .int .i64 x2] 93)).drewN q) (fun i _ => n - (intOf i).toNat)
 case atStart => exact ⟨0, 0, rfl, Nat.zero_le _, fun j hj => absurd hj (Nat.not_lt_zero j), rfl⟩
 case round =>
  obtain ⟨k, q, rfl, hk, hP, rfl⟩ := hrel
  by_cases hlt : k < n
  ·obtain ⟨g, o, hao, _, hg, c0, c1, c2⟩ := H.out.at3 hlt
   subst hao
   have d0 : (w.alloc (.cells #[.int .i64 x0, .int .i64 x1, .int .i64 x2] 93)).cell? ⟨g, o + k * 3, none⟩ = some (.int .i64 (F (k * 3))) := (World.cell?_alloc_lt _ _ _ hg).trans c0
   have d1 : (w.alloc (.cells #[.int .i64 x0, .int .i64 x1, .int .i64 x2] 93)).cell? ⟨g, o + k * 3 + 1, none⟩ = some (.int .i64 (F (k * 3 + 1))) := (World.cell?_alloc_lt _ _ _ hg).trans c1
   obtain ⟨y0, N0⟩ : ∃ y, F (k * 3) = y := ⟨_, rfl⟩
   obtain ⟨y1, N1⟩ : ∃ y, F (k * 3 + 1) = y := ⟨_, rfl⟩
   rw [N0] at d0
   rw [N1] at d1
   have HA : Hid (aheadC F x0 x1 k ↔ y0 < x0 ∨ y0 = x0 ∧ y1 < x1) := by unfold aheadC; rw [N0, N1]; exact Iff.rfl
   clear c0 c1 c2 N0 N1
   by_cases h0 : y0 < x0
   ·have HP : Hid (∀ j, j < k + 1 → aheadC F x0 x1 j) := fun j hj => by
     rcases Nat.lt_or_ge j k with q | q
     ·exact hP.out j q
     ·obtain rfl : j = k := by omega
      exact HA.out.2 (Or.inl h0)
    clear HA hP
    have t0 : decide (y0 < x0) = true := decide_eq_true h0
    go_wp2
    go_quiet (fail)
    go_wp2
    go_roundw
    case rel => exact ⟨k + 1, _, by go_num, by omega, HP, rfl⟩
    case measure => simp [intOf]; omega
   ·have t0 : decide (y0 < x0) = false := decide_eq_false h0
    by_cases h1 : y0 = x0
    ·have t1 : (y0 == x0) = true := beq_iff_eq.2 h1
     by_cases h2 : y1 < x1
     ·have HP : Hid (∀ j, j < k + 1 → aheadC F x0 x1 j) := fun j hj => by
       rcases Nat.lt_or_ge j k with q | q
       ·exact hP.out j q
       ·obtain rfl : j = k := by omega
        exact HA.out.2 (Or.inr ⟨h1, h2⟩)
      have t2 : decide (y1 < x1) = true := decide_eq_true h2
      clear HA hP
      subst h1
      go_wp2
      go_quiet (fail)
      go_wp2
      go_roundw
      case rel => exact ⟨k + 1, _, by go_num, by omega, HP, rfl⟩
      case measure => simp [intOf]; omega
     ·have HL : Hid (placeAt (aheadC F x0 x1) n k) := ⟨hk, hP.out, fun _ q => by rcases HA.out.1 q with r | r; exact h0 r; exact h2 r.2⟩
      have t2 : decide (y1 < x1) = false := decide_eq_false h2
      clear HA hP
      subst h1
      go_wp2
      go_quiet (fail)
      have hkcp : k ≤ cp := by omega
      go_wp2_with (at_builtin; refine wpList_app 93 i0 (.agg #[.int .i64 0, .int .i64 0, .int .i64 0]) 3 24 rfl _ _ 24 rfl Tryz.underlying24 hi hz0 hz1 hz2 rfl (by omega) (by omega) _ (w.heap.size + 1) 0 [] _ rfl (OwnM.lit0 _ _ _ _ (by simp)) B k F _ rfl ((((H.out.head hk cp).alloc _).drewN _).alloc _) (by omega) (by simp) ?_; intro ao1 cp1 w2 O2 G2)
      rw [Nat.zero_add, List.nil_append] at O2
      have D2 := ac_first H.out G2
      have O2' : Hid (OwnM w2 (w.heap.size + 1) 93 3 (.slice ao1 k cp1) k (nums F (k * 3))) := O2
      clear O2 G2
      refine wp_region_held_drew (S := AC w B n F (some ⟨g, o, none⟩) cp y0 x1 x2) (by kernel_rfl) D2.drew (fun hS => ?_)
      refine tkH 0 ?_ hS (fun wx hx => ?_) ?_; rotate_left
      ·obtain ⟨⟨hx0, hx1, hx2⟩, _⟩ := hx; go_simp; try with_reducible rfl
      refine tkH 1 ?_ hS (fun wx hx => ?_) ?_; rotate_left
      ·obtain ⟨⟨hx0, hx1, hx2⟩, _⟩ := hx; go_simp; try with_reducible rfl
      refine tkH 4 ?_ hS (fun wx hx => ?_) ?_; rotate_left
      ·obtain ⟨⟨hx0, hx1, hx2⟩, _⟩ := hx; go_simp; try with_reducible rfl
      refine tkH 5 ?_ hS (fun wx hx => ?_) ?_; rotate_left
      ·obtain ⟨⟨hx0, hx1, hx2⟩, _⟩ := hx; go_simp; try with_reducible rfl
      refine tkH 6 ?_ hS (fun wx hx => ?_) ?_; rotate_left
      ·obtain ⟨⟨hx0, hx1, hx2⟩, _⟩ := hx; go_simp; try with_reducible rfl
      refine rdH 2 (fun K hK => ?_)
      go_simp
      have S3 := hS.grown H.out (World.grownBy_alloc w2.drew (.cells #[.int .i64 y0, .int .i64 x1, .int .i64 x2] 93) none) (fun r e => by cases e)
      have O3 : Hid (OwnM (w2.drew.alloc (.cells #[.int .i64 y0, .int .i64 x1, .int .i64 x2] 93)) (w.heap.size + 1) 93 3 (.slice ao1 k cp1) k (nums F (k * 3))) := O2'.out.later (below_alloc w2 _).drew
      have R3 : Hid (Row (w2.drew.alloc (.cells #[.int .i64 y0, .int .i64 x1, .int .i64 x2] 93)) 0 3 1 (fun p => [y0, x1, x2].getD p 0) (.slice (some ⟨w2.heap.size, 0, none⟩) 1 1)) := row_lit3 w2.drew y0 x1 x2 93
      refine hK.out _ _ S3 (fun hS => ?_)
      clear hK K S3
      refine rdH 3 (fun K hK => ?_)
      refine step_app 93 i0 (.agg #[.int .i64 0, .int .i64 0, .int .i64 0]) 3 24 (by rfl) _ _ 24 (by rfl) Tryz.underlying24 hi hz0 hz1 hz2 rfl (by omega) (by omega) _ (w.heap.size + 1) k (nums F (k * 3)) (.slice ao1 k cp1) (by rfl) O3.out 0 1 (fun p => [y0, x1, x2].getD p 0) (.slice (some ⟨w2.heap.size, 0, none⟩) 1 1) (by rfl) R3.out (by omega) (by have := hS.2.2.size; have := hS.1.1; have := lt_cell hS.1.1; omega) ?_
      intro ao3 cp3 w4 O4 G4
      have S4 := hS.grown H.out G4 (fun r e => by have := (O3.out.block r e).1; omega)
      have O4' : Hid (OwnM w4 (w.heap.size + 1) 93 3 (.slice ao3 (k + 1) cp3) (k + 1) (nums F (k * 3) ++ [y0, x1, x2])) := O4
      clear O4 G4 O3 R3 O2'
      refine hK.out _ _ S4 (fun hS => ?_)
      clear hK K S4
      refine rdH 7 (fun K hK => ?_)
      refine step_app 93 i0 (.agg #[.int .i64 0, .int .i64 0, .int .i64 0]) 3 24 (by rfl) _ _ 24 (by rfl) Tryz.underlying24 hi hz0 hz1 hz2 rfl (by omega) (by omega) _ (w.heap.size + 1) (k + 1) (nums F (k * 3) ++ [y0, x1, x2]) (.slice ao3 (k + 1) cp3) (by rfl) O4'.out B (n - k) (fun p => F (k * 3 + p)) (.slice (if cp = k then some ⟨g, o, none⟩ else some ⟨g, o + k * 3, none⟩) (n - k) (cp - k)) (by rfl) (hS.2.1.tailS hlt hcap) (by omega) (by have := hS.2.2.size; have := lt_cell hS.1.1; omega) ?_
      intro ao5 cp5 w6 O6 G6
      have S6 := hS.grown H.out G6 (fun r e => by have := (O4'.out.block r e).1; omega)
      have O6' : Hid (OwnM w6 w.heap.size 93 3 (.slice ao5 (n + 1) cp5) (n + 1) (nums F (k * 3) ++ [y0, x1, x2] ++ nums (fun p => F (k * 3 + p)) ((n - k) * 3))) := by
       have e1 : k + 1 + (n - k) = n + 1 := by omega
       rw [e1] at O6
       exact World.ownsRow.mono O6 (Nat.le_succ _)
      clear O6 G6 O4'
      refine hK.out _ _ S6 (fun hS => ?_)
      clear hK K S6
      refine tkH 8 ?_ hS (fun wx hx => ?_) ?_; rotate_left
      ·obtain ⟨⟨hx0, hx1, hx2⟩, _⟩ := hx; go_simp; try with_reducible rfl
      refine wpAnyH_done (by kernel_rfl) ?_ _
      go_simp
      go_wp2
      all_goals
       go_ret
       refine ⟨k, ao5, cp5, HL.out, ?_, O6'.out, hS.2.2⟩
       show Ending.returned (Value.slice ao5 (k + 1 + (n - k)) cp5) = _
       rw [show k + 1 + (n - k) = n + 1 by omega]
    ·have t1 : (y0 == x0) = false := beq_eq_false_iff_ne.2 h1
     have HL : Hid (placeAt (aheadC F x0 x1) n k) := ⟨hk, hP.out, fun _ q => by rcases HA.out.1 q with r | r; exact h0 r; exact h1 r.1⟩
     clear HA hP
     go_wp2
     go_quiet (fail)
     have hkcp : k ≤ cp := by omega
     go_wp2_with (at_builtin; refine wpList_app 93 i0 (.agg #[.int .i64 0, .int .i64 0, .int .i64 0]) 3 24 rfl _ _ 24 rfl Tryz.underlying24 hi hz0 hz1 hz2 rfl (by omega) (by omega) _ (w.heap.size + 1) 0 [] _ rfl (OwnM.lit0 _ _ _ _ (by simp)) B k F _ rfl ((((H.out.head hk cp).alloc _).drewN _).alloc _) (by omega) (by simp) ?_; intro ao1 cp1 w2 O2 G2)
     rw [Nat.zero_add, List.nil_append] at O2
     have D2 := ac_first H.out G2
     have O2' : Hid (OwnM w2 (w.heap.size + 1) 93 3 (.slice ao1 k cp1) k (nums F (k * 3))) := O2
     clear O2 G2
     refine wp_region_held_drew (S := AC w B n F (some ⟨g, o, none⟩) cp x0 x1 x2) (by kernel_rfl) D2.drew (fun hS => ?_)
     refine tkH 0 ?_ hS (fun wx hx => ?_) ?_; rotate_left
     ·obtain ⟨⟨hx0, hx1, hx2⟩, _⟩ := hx; go_simp; try with_reducible rfl
     refine tkH 1 ?_ hS (fun wx hx => ?_) ?_; rotate_left
     ·obtain ⟨⟨hx0, hx1, hx2⟩, _⟩ := hx; go_simp; try with_reducible rfl
     refine tkH 4 ?_ hS (fun wx hx => ?_) ?_; rotate_left
     ·obtain ⟨⟨hx0, hx1, hx2⟩, _⟩ := hx; go_simp; try with_reducible rfl
     refine tkH 5 ?_ hS (fun wx hx => ?_) ?_; rotate_left
     ·obtain ⟨⟨hx0, hx1, hx2⟩, _⟩ := hx; go_simp; try with_reducible rfl
     refine tkH 6 ?_ hS (fun wx hx => ?_) ?_; rotate_left
     ·obtain ⟨⟨hx0, hx1, hx2⟩, _⟩ := hx; go_simp; try with_reducible rfl
     refine rdH 2 (fun K hK => ?_)
     go_simp
     have S3 := hS.grown H.out (World.grownBy_alloc w2.drew (.cells #[.int .i64 x0, .int .i64 x1, .int .i64 x2] 93) none) (fun r e => by cases e)
     have O3 : Hid (OwnM (w2.drew.alloc (.cells #[.int .i64 x0, .int .i64 x1, .int .i64 x2] 93)) (w.heap.size + 1) 93 3 (.slice ao1 k cp1) k (nums F (k * 3))) := O2'.out.later (below_alloc w2 _).drew
     have R3 : Hid (Row (w2.drew.alloc (.cells #[.int .i64 x0, .int .i64 x1, .int .i64 x2] 93)) 0 3 1 (fun p => [x0, x1, x2].getD p 0) (.slice (some ⟨w2.heap.size, 0, none⟩) 1 1)) := row_lit3 w2.drew x0 x1 x2 93
     refine hK.out _ _ S3 (fun hS => ?_)
     clear hK K S3
     refine rdH 3 (fun K hK => ?_)
     refine step_app 93 i0 (.agg #[.int .i64 0, .int .i64 0, .int .i64 0]) 3 24 (by rfl) _ _ 24 (by rfl) Tryz.underlying24 hi hz0 hz1 hz2 rfl (by omega) (by omega) _ (w.heap.size + 1) k (nums F (k * 3)) (.slice ao1 k cp1) (by rfl) O3.out 0 1 (fun p => [x0, x1, x2].getD p 0) (.slice (some ⟨w2.heap.size, 0, none⟩) 1 1) (by rfl) R3.out (by omega) (by have := hS.2.2.size; have := hS.1.1; have := lt_cell hS.1.1; omega) ?_
     intro ao3 cp3 w4 O4 G4
     have S4 := hS.grown H.out G4 (fun r e => by have := (O3.out.block r e).1; omega)
     have O4' : Hid (OwnM w4 (w.heap.size + 1) 93 3 (.slice ao3 (k + 1) cp3) (k + 1) (nums F (k * 3) ++ [x0, x1, x2])) := O4
     clear O4 G4 O3 R3 O2'
     refine hK.out _ _ S4 (fun hS => ?_)
     clear hK K S4
     refine rdH 7 (fun K hK => ?_)
     refine step_app 93 i0 (.agg #[.int .i64 0, .int .i64 0, .int .i64 0]) 3 24 (by rfl) _ _ 24 (by rfl) Tryz.underlying24 hi hz0 hz1 hz2 rfl (by omega) (by omega) _ (w.heap.size + 1) (k + 1) (nums F (k * 3) ++ [x0, x1, x2]) (.slice ao3 (k + 1) cp3) (by rfl) O4'.out B (n - k) (fun p => F (k * 3 + p)) (.slice (if cp = k then some ⟨g, o, none⟩ else some ⟨g, o + k * 3, none⟩) (n - k) (cp - k)) (by rfl) (hS.2.1.tailS hlt hcap) (by omega) (by have := hS.2.2.size; have := lt_cell hS.1.1; omega) ?_
     intro ao5 cp5 w6 O6 G6
     have S6 := hS.grown H.out G6 (fun r e => by have := (O4'.out.block r e).1; omega)
     have O6' : Hid (OwnM w6 w.heap.size 93 3 (.slice ao5 (n + 1) cp5) (n + 1) (nums F (k * 3) ++ [x0, x1, x2] ++ nums (fun p => F (k * 3 + p)) ((n - k) * 3))) := by
      have e1 : k + 1 + (n - k) = n + 1 := by omega
      rw [e1] at O6
      exact World.ownsRow.mono O6 (Nat.le_succ _)
     clear O6 G6 O4'
     refine hK.out _ _ S6 (fun hS => ?_)
     clear hK K S6
     refine tkH 8 ?_ hS (fun wx hx => ?_) ?_; rotate_left
     ·obtain ⟨⟨hx0, hx1, hx2⟩, _⟩ := hx; go_simp; try with_reducible rfl
     refine wpAnyH_done (by kernel_rfl) ?_ _
     go_simp
     go_wp2
     all_goals
      go_ret
      refine ⟨k, ao5, cp5, HL.out, ?_, O6'.out, hS.2.2⟩
      show Ending.returned (Value.slice ao5 (k + 1 + (n - k)) cp5) = _
      rw [show k + 1 + (n - k) = n + 1 by omega]
  ·have HL : Hid (placeAt (aheadC F x0 x1) n k) := ⟨hk, hP.out, fun q => absurd q hlt⟩
   clear hP
   go_wp2
   go_quiet (fail)
   have hkcp : k ≤ cp := by omega
   go_wp2_with (at_builtin; refine wpList_app 93 i0 (.agg #[.int .i64 0, .int .i64 0, .int .i64 0]) 3 24 rfl _ _ 24 rfl Tryz.underlying24 hi hz0 hz1 hz2 rfl (by omega) (by omega) _ (w.heap.size + 1) 0 [] _ rfl (OwnM.lit0 _ _ _ _ (by simp)) B k F _ rfl ((((H.out.head hk cp).alloc _).drewN _).alloc _) (by omega) (by simp) ?_; intro ao1 cp1 w2 O2 G2)
   rw [Nat.zero_add, List.nil_append] at O2
   have D2 := ac_first H.out G2
   have O2' : Hid (OwnM w2 (w.heap.size + 1) 93 3 (.slice ao1 k cp1) k (nums F (k * 3))) := O2
   clear O2 G2
   refine wp_region_held_drew (S := AC w B n F ao cp x0 x1 x2) (by kernel_rfl) D2.drew (fun hS => ?_)
   refine tkH 0 ?_ hS (fun wx hx => ?_) ?_; rotate_left
   ·obtain ⟨⟨hx0, hx1, hx2⟩, _⟩ := hx; go_simp; try with_reducible rfl
   refine tkH 1 ?_ hS (fun wx hx => ?_) ?_; rotate_left
   ·obtain ⟨⟨hx0, hx1, hx2⟩, _⟩ := hx; go_simp; try with_reducible rfl
   refine tkH 4 ?_ hS (fun wx hx => ?_) ?_; rotate_left
   ·obtain ⟨⟨hx0, hx1, hx2⟩, _⟩ := hx; go_simp; try with_reducible rfl
   refine tkH 5 ?_ hS (fun wx hx => ?_) ?_; rotate_left
   ·obtain ⟨⟨hx0, hx1, hx2⟩, _⟩ := hx; go_simp; try with_reducible rfl
   refine tkH 6 ?_ hS (fun wx hx => ?_) ?_; rotate_left
   ·obtain ⟨⟨hx0, hx1, hx2⟩, _⟩ := hx; go_simp; try with_reducible rfl
   refine rdH 2 (fun K hK => ?_)
   go_simp
   have S3 := hS.grown H.out (World.grownBy_alloc w2.drew (.cells #[.int .i64 x0, .int .i64 x1, .int .i64 x2] 93) none) (fun r e => by cases e)
   have O3 : Hid (OwnM (w2.drew.alloc (.cells #[.int .i64 x0, .int .i64 x1, .int .i64 x2] 93)) (w.heap.size + 1) 93 3 (.slice ao1 k cp1) k (nums F (k * 3))) := O2'.out.later (below_alloc w2 _).drew
   have R3 : Hid (Row (w2.drew.alloc (.cells #[.int .i64 x0, .int .i64 x1, .int .i64 x2] 93)) 0 3 1 (fun p => [x0, x1, x2].getD p 0) (.slice (some ⟨w2.heap.size, 0, none⟩) 1 1)) := row_lit3 w2.drew x0 x1 x2 93
   refine hK.out _ _ S3 (fun hS => ?_)
   clear hK K S3
   refine rdH 3 (fun K hK => ?_)
   refine step_app 93 i0 (.agg #[.int .i64 0, .int .i64 0, .int .i64 0]) 3 24 (by rfl) _ _ 24 (by rfl) Tryz.underlying24 hi hz0 hz1 hz2 rfl (by omega) (by omega) _ (w.heap.size + 1) k (nums F (k * 3)) (.slice ao1 k cp1) (by rfl) O3.out 0 1 (fun p => [x0, x1, x2].getD p 0) (.slice (some ⟨w2.heap.size, 0, none⟩) 1 1) (by rfl) R3.out (by omega) (by have := hS.2.2.size; have := hS.1.1; have := lt_cell hS.1.1; omega) ?_
   intro ao3 cp3 w4 O4 G4
   have S4 := hS.grown H.out G4 (fun r e => by have := (O3.out.block r e).1; omega)
   have O4' : Hid (OwnM w4 (w.heap.size + 1) 93 3 (.slice ao3 (k + 1) cp3) (k + 1) (nums F (k * 3) ++ [x0, x1, x2])) := O4
   clear O4 G4 O3 R3 O2'
   refine hK.out _ _ S4 (fun hS => ?_)
   clear hK K S4
   refine rdH 7 (fun K hK => ?_)
   refine step_app 93 i0 (.agg #[.int .i64 0, .int .i64 0, .int .i64 0]) 3 24 (by rfl) _ _ 24 (by rfl) Tryz.underlying24 hi hz0 hz1 hz2 rfl (by omega) (by omega) _ (w.heap.size + 1) (k + 1) (nums F (k * 3) ++ [x0, x1, x2]) (.slice ao3 (k + 1) cp3) (by rfl) O4'.out B (n - k) (fun p => F (k * 3 + p)) (.slice (if cp = k then ao else Option.map (fun x => x.add (k * 3)) ao) (n - k) (cp - k)) (by rfl) (Row.over _ _ _ _ _ _ _ _ hlt) (by omega) (by have := hS.2.2.size; have := lt_cell hS.1.1; omega) ?_
   intro ao5 cp5 w6 O6 G6
   have S6 := hS.grown H.out G6 (fun r e => by have := (O4'.out.block r e).1; omega)
   have O6' : Hid (OwnM w6 w.heap.size 93 3 (.slice ao5 (n + 1) cp5) (n + 1) (nums F (k * 3) ++ [x0, x1, x2] ++ nums (fun p => F (k * 3 + p)) ((n - k) * 3))) := by
    have e1 : k + 1 + (n - k) = n + 1 := by omega
    rw [e1] at O6
    exact World.ownsRow.mono O6 (Nat.le_succ _)
   clear O6 G6 O4'
   refine hK.out _ _ S6 (fun hS => ?_)
   clear hK K S6
   refine tkH 8 ?_ hS (fun wx hx => ?_) ?_; rotate_left
   ·obtain ⟨⟨hx0, hx1, hx2⟩, _⟩ := hx; go_simp; try with_reducible rfl
   refine wpAnyH_done (by kernel_rfl) ?_ _
   go_simp
   go_wp2
   all_goals
    go_ret
    refine ⟨k, ao5, cp5, HL.out, ?_, O6'.out, hS.2.2⟩
    show Ending.returned (Value.slice ao5 (k + 1 + (n - k)) cp5) = _
    rw [show k + 1 + (n - k) = n + 1 by omega]
end
end Go.Proofs.YtiadbiiiikhfaaaGreatDoor

namespace Go.Proofs.YtiadbiiiikhfaaaGreatDoor
open Go.RowKit Go.Maps

/-- Block b holds columns: a map that has m, a row of locks, a row of writes; all of them lie from B on. -/
def Cols (x : World) (B b N : Nat) (m : Int → Int → Option Int) (nl : Nat) (l : Nat → Int) (nw : Nat) (k : Nat → Int) (g : Nat) (u1 u2 : Value) : Prop :=
 B ≤ b ∧ B ≤ g ∧ Blk3 x b (.map (some g)) u1 u2 ∧ PM x g N m ∧ Own x B 40 5 nl l u1 ∧ Own x B 55 4 nw k u2
theorem Cols.later {x x' : World} {B b N : Nat} {m : Int → Int → Option Int} {nl : Nat} {l : Nat → Int} {nw : Nat} {k : Nat → Int} {g : Nat} {u1 u2 : Value} (h : Cols x B b N m nl l nw k g u1 u2) (hb : Below x.heap.size x x') : Cols x' B b N m nl l nw k g u1 u2 :=
 ⟨h.1, h.2.1, h.2.2.1.later hb, h.2.2.2.1.later hb, h.2.2.2.2.1.later hb, h.2.2.2.2.2.later hb⟩
theorem Cols.mono {x : World} {B B' b N : Nat} {m : Int → Int → Option Int} {nl : Nat} {l : Nat → Int} {nw : Nat} {k : Nat → Int} {g : Nat} {u1 u2 : Value} (h : Cols x B b N m nl l nw k g u1 u2) (hB : B' ≤ B) : Cols x B' b N m nl l nw k g u1 u2 :=
 ⟨Nat.le_trans hB h.1, Nat.le_trans hB h.2.1, h.2.2.1, h.2.2.2.1, h.2.2.2.2.1.mono hB, h.2.2.2.2.2.mono hB⟩
/-- From place oo of block b on lie three cells, none frozen. -/
def Blk3O (x : World) (b oo : Nat) (a0 a1 a2 : Value) : Prop :=
 (x.cell? ⟨b, oo, none⟩ = some a0 ∧ x.cell? ⟨b, oo + 1, none⟩ = some a1 ∧ x.cell? ⟨b, oo + 2, none⟩ = some a2) ∧ x.frozen? ⟨b, oo, none⟩ = false ∧ x.frozen? ⟨b, oo + 1, none⟩ = false ∧ x.frozen? ⟨b, oo + 2, none⟩ = false
theorem Blk3O.kept {x x' : World} {b oo : Nat} {a0 a1 a2 : Value} (h : Blk3O x b oo a0 a1 a2) (hb : x'.heap[b]? = x.heap[b]?) : Blk3O x' b oo a0 a1 a2 := by
 obtain ⟨⟨h0, h1, h2⟩, f0, f1, f2⟩ := h
 exact ⟨⟨(World.cell?_of_block (w := x) (a := ⟨b, oo, none⟩) hb).trans h0, (World.cell?_of_block (w := x) (a := ⟨b, oo + 1, none⟩) hb).trans h1, (World.cell?_of_block (w := x) (a := ⟨b, oo + 2, none⟩) hb).trans h2⟩,
  (World.frozen?_of_block (w := x) (a := ⟨b, oo, none⟩) hb).trans f0, (World.frozen?_of_block (w := x) (a := ⟨b, oo + 1, none⟩) hb).trans f1, (World.frozen?_of_block (w := x) (a := ⟨b, oo + 2, none⟩) hb).trans f2⟩
theorem Blk3O.lt {x : World} {b oo : Nat} {a0 a1 a2 : Value} (h : Blk3O x b oo a0 a1 a2) : b < x.heap.size := World.block_lt_of_cell? x ⟨b, oo, none⟩ h.1.1
theorem Blk3O.later {x x' : World} {b oo : Nat} {a0 a1 a2 : Value} (h : Blk3O x b oo a0 a1 a2) (hb : Below x.heap.size x x') : Blk3O x' b oo a0 a1 a2 := h.kept (hb.block b h.lt)
theorem Blk3O.alloc {x : World} {b oo : Nat} {a0 a1 a2 : Value} (h : Blk3O x b oo a0 a1 a2) (o : Obj) : Blk3O (x.alloc o) b oo a0 a1 a2 := h.later (below_alloc _ _)
theorem Blk3.o {x : World} {b : Nat} {a0 a1 a2 : Value} (h : Blk3 x b a0 a1 a2) : Blk3O x b 0 a0 a1 a2 := h
/-- Columns that lie from place oo of block b on. -/
def ColsO (x : World) (B b oo N : Nat) (m : Int → Int → Option Int) (nl : Nat) (l : Nat → Int) (nw : Nat) (k : Nat → Int) (g : Nat) (u1 u2 : Value) : Prop :=
 B ≤ b ∧ B ≤ g ∧ Blk3O x b oo (.map (some g)) u1 u2 ∧ PM x g N m ∧ Own x B 40 5 nl l u1 ∧ Own x B 55 4 nw k u2
theorem ColsO.later {x x' : World} {B b oo N : Nat} {m : Int → Int → Option Int} {nl : Nat} {l : Nat → Int} {nw : Nat} {k : Nat → Int} {g : Nat} {u1 u2 : Value} (h : ColsO x B b oo N m nl l nw k g u1 u2) (hb : Below x.heap.size x x') : ColsO x' B b oo N m nl l nw k g u1 u2 :=
 ⟨h.1, h.2.1, h.2.2.1.later hb, h.2.2.2.1.later hb, h.2.2.2.2.1.later hb, h.2.2.2.2.2.later hb⟩
theorem Cols.o {x : World} {B b N : Nat} {m : Int → Int → Option Int} {nl : Nat} {l : Nat → Int} {nw : Nat} {k : Nat → Int} {g : Nat} {u1 u2 : Value} (h : Cols x B b N m nl l nw k g u1 u2) : ColsO x B b 0 N m nl l nw k g u1 u2 := h
def StoBox (w : World) (v0 v1 v2 : Value) (x : World) : Prop := Blk3 x w.heap.size v0 v1 v2 ∧ Below w.heap.size w x
theorem StoBox.later {w x x' : World} {v0 v1 v2 : Value} (h : StoBox w v0 v1 v2 x) (hb : Below x.heap.size x x') : StoBox w v0 v1 v2 x' := ⟨h.1.later hb, h.2.trans (hb.mono h.2.size)⟩
theorem cellsByPlace_ex (S : Sto) (v : Value) (B : Nat) (w : World) (h : Row w B 3 S.nc S.c v) (hn : S.nc ≤ 200) (hz : scan (cellF S.c) S.nc = 0) :
  Calls Tryz.prog 74 #[v] w fun e w' => ∃ g, e = .returned (.map (some g)) ∧ w.heap.size ≤ g ∧ PM w' g S.nc (cellM S S.nc) ∧ Below w.heap.size w w' :=
 (cellsByPlace_any S v B w h hn hz).mono fun _ _ ⟨he, hP, hb⟩ => ⟨_, he, Nat.le_refl _, hP, hb⟩
theorem own_in {w : World} {B : Nat} {e : TypeId} {m n : Nat} {F : Nat → Int} {v : Value} (h : Own w B e m n F v) : ∀ k, v.ownBlock = some k → B ≤ k ∧ k < w.heap.size := by
 intro k hk
 rcases h.2 with ⟨rfl, _⟩ | ⟨g, cap, cur, rfl, hg, hw, _⟩
 ·simp [Value.ownBlock] at hk
 ·simp [Value.ownBlock] at hk
  subst hk
  exact ⟨hg, (Array.getElem?_eq_some_iff.1 hw).1⟩
/-- The columns' block, the map, the two rows: all in blocks of their own. -/
def ApartC (b g : Nat) (u1 u2 : Value) : Prop := g ≠ b ∧ (∀ q, u1.ownBlock = some q → q ≠ b ∧ q ≠ g) ∧ (∀ q, u2.ownBlock = some q → q ≠ b ∧ q ≠ g) ∧ ∀ q, u1.ownBlock = some q → u2.ownBlock ≠ some q
set_option maxRecDepth 100000 in
set_option maxHeartbeats 2000000 in
theorem columnsOf_apart (S : Sto) (B : Nat) (v0 v1 v2 : Value) (w : World) (h : St w B S v0 v1 v2) (hc : S.nc ≤ 200) (hl : S.nl ≤ 200) (hk : S.nw ≤ 200) (z0 : scan (cellF S.c) S.nc = 0) :
  Calls Tryz.prog 37 #[.agg #[v0, v1, v2]] w fun e w' => ∃ b g u1 u2, e = .returned (.pointer (some ⟨b, 0, none⟩)) ∧ Cols w' w.heap.size b S.nc (cellM S S.nc) S.nl S.l S.nw S.k g u1 u2 ∧ ApartC b g u1 u2 ∧ Below w.heap.size w w' := by
 obtain ⟨a0, c0, a1, c1, a2, c2, rfl, rfl, rfl⟩ := h.form
 have H : Hid (St w B S (.slice a0 S.nc c0) (.slice a1 S.nl c1) (.slice a2 S.nw c2)) := h
 have Z0 : Hid (scan (cellF S.c) S.nc = 0) := z0
 clear h z0
 go_enter Tryz.func37, Tryz.ntmps37
 go_wp2_with fail
 have h0 : StoBox w (.slice a0 S.nc c0) (.slice a1 S.nl c1) (.slice a2 S.nw c2) (w.alloc (.cells #[.slice a0 S.nc c0, .slice a1 S.nl c1, .slice a2 S.nw c2] 28)).drew := ⟨Blk3.new w _ _ _ _, (below_alloc _ _).drew⟩
 refine wp_region_held_drew (S := StoBox w (.slice a0 S.nc c0) (.slice a1 S.nl c1) (.slice a2 S.nw c2)) (by kernel_rfl) h0 (fun hS => ?_)
 clear h0
 refine tkH 0 ?_ hS (fun wx hx => ?_) ?_; rotate_left
 ·obtain ⟨⟨⟨hx0, hx1, hx2⟩, _⟩, _⟩ := hx; go_simp; try with_reducible rfl
 refine tkH 1 ?_ hS (fun wx hx => ?_) ?_; rotate_left
 ·obtain ⟨⟨⟨hx0, hx1, hx2⟩, _⟩, _⟩ := hx; go_simp; try with_reducible rfl
 refine tkH 3 ?_ hS (fun wx hx => ?_) ?_; rotate_left
 ·obtain ⟨⟨⟨hx0, hx1, hx2⟩, _⟩, _⟩ := hx; go_simp; try with_reducible rfl
 refine tkH 4 ?_ hS (fun wx hx => ?_) ?_; rotate_left
 ·obtain ⟨⟨⟨hx0, hx1, hx2⟩, _⟩, _⟩ := hx; go_simp; try with_reducible rfl
 refine tkH 6 ?_ hS (fun wx hx => ?_) ?_; rotate_left
 ·obtain ⟨⟨⟨hx0, hx1, hx2⟩, _⟩, _⟩ := hx; go_simp; try with_reducible rfl
 refine tkH 7 ?_ hS (fun wx hx => ?_) ?_; rotate_left
 ·obtain ⟨⟨⟨hx0, hx1, hx2⟩, _⟩, _⟩ := hx; go_simp; try with_reducible rfl
 refine rdH 2 (fun K hK => ?_)
 go_simp
 go_wp2_with fail
 refine (cellsByPlace_ex S _ B _ (H.out.later hS.2).1 hc Z0.out).mono ?_
 rintro e w1 ⟨g, rfl, hg, HP, hb1⟩
 have P1 : Hid (w.heap.size ≤ g ∧ PM w1 g S.nc (cellM S S.nc)) := ⟨Nat.le_trans hS.2.size hg, HP⟩
 have z1 : Hid (g < w1.heap.size) := HP.lt
 have hS' := hS.later hb1
 clear hg HP hb1
 go_wp2_with fail
 refine hK.out _ _ hS' (fun hS => ?_)
 clear hK K hS'
 refine rdH 5 (fun K hK => ?_)
 go_simp
 go_wp2_with fail
 refine (cloneLocks_any S.nl S.l _ B _ (H.out.later hS.2).2.1 (by omega)).mono ?_
 rintro e w2 ⟨u1, rfl, ho, hb2⟩
 obtain ⟨b1, d1, rfl⟩ := ho.form
 have P2 : Hid ((w.heap.size ≤ g ∧ PM w2 g S.nc (cellM S S.nc)) ∧ Own w2 w.heap.size 40 5 S.nl S.l (.slice b1 S.nl d1)) := ⟨⟨P1.out.1, P1.out.2.later hb2⟩, ho.mono hS.2.size⟩
 have z12 : Hid (w1.heap.size ≤ w2.heap.size) := hb2.size
 have B2 : Hid (∀ q, (Value.slice b1 S.nl d1).ownBlock = some q → w1.heap.size ≤ q ∧ q < w2.heap.size) := fun q hq => own_in ho q hq
 have hS' := hS.later hb2
 clear ho hb2 P1
 go_wp2_with fail
 refine hK.out _ _ hS' (fun hS => ?_)
 clear hK K hS'
 refine rdH 8 (fun K hK => ?_)
 go_simp
 go_wp2_with fail
 refine (cloneWrites_any S.nw S.k _ B _ (H.out.later hS.2).2.2 (by omega)).mono ?_
 rintro e w3 ⟨u2, rfl, ho, hb3⟩
 obtain ⟨b2, d2, rfl⟩ := ho.form
 have P3 : Hid (((w.heap.size ≤ g ∧ PM w3 g S.nc (cellM S S.nc)) ∧ Own w3 w.heap.size 40 5 S.nl S.l (.slice b1 S.nl d1)) ∧ Own w3 w.heap.size 55 4 S.nw S.k (.slice b2 S.nw d2)) := ⟨⟨⟨P2.out.1.1, P2.out.1.2.later hb3⟩, P2.out.2.later hb3⟩, ho.mono hS.2.size⟩
 have B3 : Hid (∀ q, (Value.slice b2 S.nw d2).ownBlock = some q → w2.heap.size ≤ q ∧ q < w3.heap.size) := fun q hq => own_in ho q hq
 have z23 : Hid (w1.heap.size ≤ w2.heap.size ∧ w2.heap.size ≤ w3.heap.size) := ⟨z12.out, hb3.size⟩
 have hS' := hS.later hb3
 have hS3 : Hid (w.heap.size ≤ w3.heap.size) := hS'.2.size
 clear ho hb3 P2
 go_wp2_with fail
 refine hK.out _ _ hS' (fun hS => ?_)
 clear hK K hS'
 refine tkH 9 ?_ hS (fun wx hx => ?_) ?_; rotate_left
 ·obtain ⟨⟨⟨hx0, hx1, hx2⟩, _⟩, _⟩ := hx; go_simp; try with_reducible rfl
 refine rdH 10 (fun K hK => ?_)
 go_simp
 refine hK.out _ _ (hS.later (below_alloc w3 _)) (fun hS => ?_)
 clear hK K
 refine tkH 11 ?_ hS (fun wx hx => ?_) ?_; rotate_left
 ·obtain ⟨⟨⟨hx0, hx1, hx2⟩, _⟩, _⟩ := hx; go_simp; try with_reducible rfl
 refine wpAnyH_done (by kernel_rfl) ?_ _
 go_simp
 go_wp2
 go_ret
 exact ⟨_, g, _, _, rfl, ⟨hS3.out, P3.out.1.1.1, Blk3.new w3 _ _ _ _, P3.out.1.1.2.alloc _, P3.out.1.2.alloc _, P3.out.2.alloc _⟩, ⟨by have := z1.out; have := z23.out; omega, fun q hq => by have := B2.out q hq; have := z1.out; have := z23.out; omega, fun q hq => by have := B3.out q hq; have := z1.out; have := z23.out; omega, fun q hq e => by have := B2.out q hq; have := B3.out q e; omega⟩, hS.2⟩
theorem columnsOf_any (S : Sto) (B : Nat) (v0 v1 v2 : Value) (w : World) (h : St w B S v0 v1 v2) (hc : S.nc ≤ 200) (hl : S.nl ≤ 200) (hk : S.nw ≤ 200) (z0 : scan (cellF S.c) S.nc = 0) :
  Calls Tryz.prog 37 #[.agg #[v0, v1, v2]] w fun e w' => ∃ b g u1 u2, e = .returned (.pointer (some ⟨b, 0, none⟩)) ∧ Cols w' w.heap.size b S.nc (cellM S S.nc) S.nl S.l S.nw S.k g u1 u2 ∧ Below w.heap.size w w' :=
 (columnsOf_apart S B v0 v1 v2 w h hc hl hk z0).mono fun _ _ ⟨b, g, u1, u2, h1, h2, _, h3⟩ => ⟨b, g, u1, u2, h1, h2, h3⟩
end Go.Proofs.YtiadbiiiikhfaaaGreatDoor

namespace Go.Proofs.YtiadbiiiikhfaaaGreatDoor
open Go.RowKit

/-- The element ahead and the one that is asked, and that nothing old has turned. -/
def PrevWrite (w : World) (g o k N : Nat) (m0 m1 m2 m3 n0 n1 n2 n3 : Int) (x : World) : Prop := (x.cell? ⟨g, o + (k - 1) * 4, none⟩ = some (.int .i64 m0) ∧ x.cell? ⟨g, o + (k - 1) * 4 + 1, none⟩ = some (.int .i64 m1) ∧ x.cell? ⟨g, o + (k - 1) * 4 + 2, none⟩ = some (.int .i64 m2) ∧ x.cell? ⟨g, o + (k - 1) * 4 + 3, none⟩ = some (.int .i64 m3) ∧ x.cell? ⟨N, 0, none⟩ = some (.int .i64 n0) ∧ x.cell? ⟨N, 1, none⟩ = some (.int .i64 n1) ∧ x.cell? ⟨N, 2, none⟩ = some (.int .i64 n2) ∧ x.cell? ⟨N, 3, none⟩ = some (.int .i64 n3)) ∧ Below w.heap.size w x
theorem PrevWrite.later {w x x' : World} {g o k N : Nat} {m0 m1 m2 m3 n0 n1 n2 n3 : Int} (h : PrevWrite w g o k N m0 m1 m2 m3 n0 n1 n2 n3 x) (hb : Below x.heap.size x x') : PrevWrite w g o k N m0 m1 m2 m3 n0 n1 n2 n3 x' := by
 obtain ⟨⟨hx0, hx1, hx2, hx3, hx4, hx5, hx6, hx7⟩, hy⟩ := h
 exact ⟨⟨(hb.cell (World.block_lt_of_cell? x _ hx0)).trans hx0, (hb.cell (World.block_lt_of_cell? x _ hx1)).trans hx1, (hb.cell (World.block_lt_of_cell? x _ hx2)).trans hx2, (hb.cell (World.block_lt_of_cell? x _ hx3)).trans hx3, (hb.cell (World.block_lt_of_cell? x _ hx4)).trans hx4, (hb.cell (World.block_lt_of_cell? x _ hx5)).trans hx5, (hb.cell (World.block_lt_of_cell? x _ hx6)).trans hx6, (hb.cell (World.block_lt_of_cell? x _ hx7)).trans hx7⟩, hy.trans (hb.mono hy.size)⟩
/-- The element that is asked, and that nothing old has turned. -/
def FirstWrite (w : World) (N : Nat) (n0 n1 n2 n3 : Int) (x : World) : Prop := (x.cell? ⟨N, 0, none⟩ = some (.int .i64 n0) ∧ x.cell? ⟨N, 1, none⟩ = some (.int .i64 n1) ∧ x.cell? ⟨N, 2, none⟩ = some (.int .i64 n2) ∧ x.cell? ⟨N, 3, none⟩ = some (.int .i64 n3)) ∧ Below w.heap.size w x
theorem FirstWrite.later {w x x' : World} {N : Nat} {n0 n1 n2 n3 : Int} (h : FirstWrite w N n0 n1 n2 n3 x) (hb : Below x.heap.size x x') : FirstWrite w N n0 n1 n2 n3 x' := by
 obtain ⟨⟨hx0, hx1, hx2, hx3⟩, hy⟩ := h
 exact ⟨⟨(hb.cell (World.block_lt_of_cell? x _ hx0)).trans hx0, (hb.cell (World.block_lt_of_cell? x _ hx1)).trans hx1, (hb.cell (World.block_lt_of_cell? x _ hx2)).trans hx2, (hb.cell (World.block_lt_of_cell? x _ hx3)).trans hx3⟩, hy.trans (hb.mono hy.size)⟩
set_option maxRecDepth 100000 in
set_option maxHeartbeats 8000000 in
theorem writesFault_any (S : Sto) (v : Value) (B : Nat) (w : World) (h : Row w B 4 S.nw S.k v) (hn : S.nw ≤ 200) :
  Calls Tryz.prog 50 #[v] w fun e w' => e = .returned (.int .i64 (scan (writeF S.k) S.nw)) ∧ Below w.heap.size w w' := by
 obtain ⟨ao, cp, rfl⟩ := h.form
 have H : Hid (Row w B 4 S.nw S.k (.slice ao S.nw cp)) := h
 clear h
 go_enter Tryz.func50, Tryz.ntmps50
 go_wp2
 go_loopw [8] (fun i wr => ∃ k : Nat, k ≤ S.nw ∧ i = .int .i64 k ∧ Hid (scan (writeF S.k) k = 0) ∧ Below w.heap.size w wr) (fun i _ => S.nw - (intOf i).toNat)
 case atStart => exact ⟨0, Nat.zero_le _, rfl, rfl, Below.refl _ _⟩
 case round =>
  obtain ⟨k, hk, rfl, HS, hbw⟩ := hrel
  by_cases hlt : k < S.nw
  case neg =>
   have en : k = S.nw := by omega
   have E : Hid (scan (writeF S.k) S.nw = 0) := en ▸ HS.out
   clear HS
   go_wp2
   go_ret
   exact ⟨by rw [E.out]; rfl, hbw⟩
  obtain ⟨g, o, rfl, _, hg, x0, x1, x2, x3⟩ := (H.out.later hbw).at4 hlt
  obtain ⟨n0, N0⟩ : ∃ x, S.k (k * 4) = x := ⟨_, rfl⟩
  rw [N0] at x0
  obtain ⟨n1, N1⟩ : ∃ x, S.k (k * 4 + 1) = x := ⟨_, rfl⟩
  rw [N1] at x1
  obtain ⟨n2, N2⟩ : ∃ x, S.k (k * 4 + 2) = x := ⟨_, rfl⟩
  rw [N2] at x2
  obtain ⟨n3, N3⟩ : ∃ x, S.k (k * 4 + 3) = x := ⟨_, rfl⟩
  rw [N3] at x3
  have NN : Hid (S.k (k * 4) = n0 ∧ S.k (k * 4 + 1) = n1 ∧ S.k (k * 4 + 2) = n2 ∧ S.k (k * 4 + 3) = n3) := ⟨N0, N1, N2, N3⟩
  clear N0 N1 N2 N3
  have FT : Hid (fits S.k k ↔ (n3 = 4 → n1 = n2) ∧ (n3 ≠ 4 → n2 < n1)) := by
   unfold Hid fits
   rw [NN.out.2.1, NN.out.2.2.1, NN.out.2.2.2]
  by_cases h0 : faultOf n0 = 0
  case neg =>
   obtain ⟨f, hff⟩ : ∃ f, faultOf n0 = f := ⟨_, rfl⟩
   have L0 : Hid (∀ w, Calls Tryz.prog 32 #[.int .i64 n0] w fun e w' => e = .returned (.int .i64 f) ∧ w' = w) := fun w => hff ▸ keyFault_any n0 w
   have E : Hid (scan (writeF S.k) S.nw = f) := by
    have : writeF S.k k = f := by
     unfold writeF
     rw [NN.out.1, NN.out.2.1, NN.out.2.2.1, NN.out.2.2.2]
     rw [if_pos h0]; exact hff
    exact (scan_stop HS.out (by rw [this, ← hff]; exact h0) hlt).trans this
   have hfn : (f == 0) = false := beq_eq_false_iff_ne.2 (by rw [← hff]; exact h0)
   clear hff h0 HS NN FT
   go_wp2_with fail
   refine (L0.out _).mono ?_
   rintro e w1 ⟨rfl, rfl⟩
   go_wp2
   go_ret
   exact ⟨by rw [E.out]; rfl, by first | exact hbw.alloc hbw.size _ | exact below_dn (hbw.alloc hbw.size _) _ | exact below_dn (below_dn (hbw.alloc hbw.size _) _) _⟩
  have L0 : Hid (∀ w, Calls Tryz.prog 32 #[.int .i64 n0] w fun e w' => e = .returned (.int .i64 0) ∧ w' = w) := fun w => h0 ▸ keyFault_any n0 w
  have G0 : Hid (faultOf n0 = 0) := h0
  clear h0
  by_cases h1 : 1 ≤ n1 ∧ n1 ≤ 100000
  case neg =>
   have L1 : Hid (decide (1 ≤ n1 ∧ n1 ≤ 100000) = false) := decide_eq_false h1
   have E : Hid (scan (writeF S.k) S.nw = 3) := by
    have : writeF S.k k = 3 := by
     unfold writeF
     rw [NN.out.1, NN.out.2.1, NN.out.2.2.1, NN.out.2.2.2]
     rw [if_neg (fun h => h G0.out)]
     rw [if_pos (by omega)]
    exact (scan_stop HS.out (by rw [this]; decide) hlt).trans this
   clear h1 HS NN FT G0
   go_wp2_with fail
   refine (L0.out _).mono ?_
   rintro e w1 ⟨rfl, rfl⟩
   go_wp2_with fail
   refine (isTime_is _ false L1.out _).mono ?_
   rintro e w1 ⟨rfl, rfl⟩
   go_wp2
   go_ret
   exact ⟨by rw [E.out]; rfl, by first | exact hbw.alloc hbw.size _ | exact below_dn (hbw.alloc hbw.size _) _ | exact below_dn (below_dn (hbw.alloc hbw.size _) _) _⟩
  have L1 : Hid (decide (1 ≤ n1 ∧ n1 ≤ 100000) = true) := decide_eq_true h1
  have G1 : Hid (1 ≤ n1 ∧ n1 ≤ 100000) := h1
  clear h1
  by_cases h2 : 1 ≤ n2 ∧ n2 ≤ 100000
  case neg =>
   have L2 : Hid (decide (1 ≤ n2 ∧ n2 ≤ 100000) = false) := decide_eq_false h2
   have E : Hid (scan (writeF S.k) S.nw = 3) := by
    have : writeF S.k k = 3 := by
     unfold writeF
     rw [NN.out.1, NN.out.2.1, NN.out.2.2.1, NN.out.2.2.2]
     rw [if_neg (fun h => h G0.out)]
     rw [if_pos (by omega)]
    exact (scan_stop HS.out (by rw [this]; decide) hlt).trans this
   clear h2 HS NN FT G0 G1
   go_wp2_with fail
   refine (L0.out _).mono ?_
   rintro e w1 ⟨rfl, rfl⟩
   go_wp2_with fail
   refine (isTime_is _ true L1.out _).mono ?_
   rintro e w1 ⟨rfl, rfl⟩
   go_wp2_with fail
   refine (isTime_is _ false L2.out _).mono ?_
   rintro e w1 ⟨rfl, rfl⟩
   go_wp2
   go_ret
   exact ⟨by rw [E.out]; rfl, by first | exact hbw.alloc hbw.size _ | exact below_dn (hbw.alloc hbw.size _) _ | exact below_dn (below_dn (hbw.alloc hbw.size _) _) _⟩
  have L2 : Hid (decide (1 ≤ n2 ∧ n2 ≤ 100000) = true) := decide_eq_true h2
  have G2 : Hid (1 ≤ n2 ∧ n2 ≤ 100000) := h2
  clear h2
  by_cases h3 : 1 ≤ n3 ∧ n3 ≤ 3
  ·have L3 : Hid (decide (1 ≤ n3 ∧ n3 ≤ 3) = true) := decide_eq_true h3
   have G3 : Hid (1 ≤ n3 ∧ n3 ≤ 3) := h3
   clear h3
   by_cases hf : (n3 = 4 → n1 = n2) ∧ (n3 ≠ 4 → n2 < n1)
   ·have D : Hid (∀ w, Calls Tryz.prog 94 #[.agg #[.int .i64 n0, .int .i64 n1, .int .i64 n2, .int .i64 n3]] w fun e w' => e = .returned (.bool true) ∧ Below w.heap.size w w') := fun w => commitFits_is n0 n1 n2 n3 true (decide_eq_true hf) w
    have hft : Hid (fits S.k k) := FT.out.2 hf
    clear hf
    rcases Nat.eq_zero_or_pos k with hk0 | hk0
    ·have E : Hid (scan (writeF S.k) (k + 1) = 0) := by
      have : writeF S.k k = 0 := by
       unfold writeF
       rw [NN.out.1, NN.out.2.1, NN.out.2.2.1, NN.out.2.2.2]
       rw [if_neg (fun h => h G0.out)]
       have g1 := G1.out; have g2 := G2.out; have g3 := G3.out; rw [if_neg (by omega)]
       rw [if_neg (fun h => h.elim (fun q => by omega) (fun q => q hft.out))]
      exact scan_go HS.out this
     have dk : decide (0 < k) = false := decide_eq_false (by omega)
     have h0 : FirstWrite w wr.heap.size n0 n1 n2 n3 (wr.alloc (.cells #[.int .i64 n0, .int .i64 n1, .int .i64 n2, .int .i64 n3] 55)).drew := ⟨⟨World.cell?_alloc_mark wr _ _ _ 0, World.cell?_alloc_mark wr _ _ _ 1, World.cell?_alloc_mark wr _ _ _ 2, World.cell?_alloc_mark wr _ _ _ 3⟩, (hbw.alloc hbw.size _).drew⟩
     clear HS NN FT G0 G1 G2 G3 hk0 hft
     go_wp2_with fail
     refine (L0.out _).mono ?_
     rintro e w1 ⟨rfl, rfl⟩
     go_wp2_with fail
     refine (isTime_is _ true L1.out _).mono ?_
     rintro e w1 ⟨rfl, rfl⟩
     go_wp2_with fail
     refine (isTime_is _ true L2.out _).mono ?_
     rintro e w1 ⟨rfl, rfl⟩
     go_wp2_with fail
     refine (isLockKind_is _ true L3.out _).mono ?_
     rintro e w1 ⟨rfl, rfl⟩
     go_wp2_with fail
     refine wp_region_held_drew (S := FirstWrite w wr.heap.size n0 n1 n2 n3) (by kernel_rfl) h0 (fun hS => ?_)
     clear h0
     refine tkH 0 ?_ hS (fun wx hx => ?_) ?_; rotate_left
     ·obtain ⟨⟨hx0, hx1, hx2, hx3⟩, _⟩ := hx; go_simp; try with_reducible rfl
     refine tkH 1 ?_ hS (fun wx hx => ?_) ?_; rotate_left
     ·obtain ⟨⟨hx0, hx1, hx2, hx3⟩, _⟩ := hx; go_simp; try with_reducible rfl
     refine tkH 2 ?_ hS (fun wx hx => ?_) ?_; rotate_left
     ·obtain ⟨⟨hx0, hx1, hx2, hx3⟩, _⟩ := hx; go_simp; try with_reducible rfl
     refine noH 3 hS ?_
     refine noH 4 hS ?_
     refine noH 5 hS ?_
     refine noH 6 hS ?_
     refine noH 7 hS ?_
     refine noH 8 hS ?_
     refine noH 9 hS ?_
     refine noH 10 hS ?_
     refine tkH 11 ?_ hS (fun wx hx => ?_) ?_; rotate_left
     ·obtain ⟨⟨hx0, hx1, hx2, hx3⟩, _⟩ := hx; go_simp; try with_reducible rfl
     refine tkH 12 ?_ hS (fun wx hx => ?_) ?_; rotate_left
     ·obtain ⟨⟨hx0, hx1, hx2, hx3⟩, _⟩ := hx; go_simp; try with_reducible rfl
     refine tkH 13 ?_ hS (fun wx hx => ?_) ?_; rotate_left
     ·obtain ⟨⟨hx0, hx1, hx2, hx3⟩, _⟩ := hx; go_simp; try with_reducible rfl
     refine rdH 14 (fun K hK => ?_)
     go_simp
     go_wp2_with fail
     refine (D.out _).mono ?_
     rintro e w1 ⟨rfl, q1⟩
     have hS' := hS.later q1
     clear q1
     go_wp2_with fail
     refine hK.out _ _ hS' (fun hS => ?_)
     clear hK K hS'
     refine tkH 15 ?_ hS (fun wx hx => ?_) ?_; rotate_left
     ·obtain ⟨⟨hx0, hx1, hx2, hx3⟩, _⟩ := hx; go_simp; try with_reducible rfl
     refine tkH 16 ?_ hS (fun wx hx => ?_) ?_; rotate_left
     ·obtain ⟨⟨hx0, hx1, hx2, hx3⟩, _⟩ := hx; go_simp; try with_reducible rfl
     refine wpAnyH_done (by kernel_rfl) ?_ _
     go_simp
     go_wp2
     go_roundw
     case rel => exact ⟨k + 1, by omega, by go_num, E, hS.2⟩
     case measure => simp [intOf]; omega
    obtain ⟨g', o', he, _, _, y0, y1, y2, y3⟩ := (H.out.later hbw).at4 (k := k - 1) (by omega)
    simp only [Option.some.injEq, Addr.mk.injEq, and_true] at he
    obtain ⟨rfl, rfl⟩ := he
    obtain ⟨m0, M0⟩ : ∃ x, S.k ((k - 1) * 4) = x := ⟨_, rfl⟩
    rw [M0] at y0
    obtain ⟨m1, M1⟩ : ∃ x, S.k ((k - 1) * 4 + 1) = x := ⟨_, rfl⟩
    rw [M1] at y1
    obtain ⟨m2, M2⟩ : ∃ x, S.k ((k - 1) * 4 + 2) = x := ⟨_, rfl⟩
    rw [M2] at y2
    obtain ⟨m3, M3⟩ : ∃ x, S.k ((k - 1) * 4 + 3) = x := ⟨_, rfl⟩
    rw [M3] at y3
    have MM : Hid (S.k ((k - 1) * 4) = m0 ∧ S.k ((k - 1) * 4 + 1) = m1) := ⟨M0, M1⟩
    clear M0 M1 M2 M3
    have dk : decide (0 < k) = true := decide_eq_true hk0
    have hwr := wrap_pred k hk0 (by omega)
    have hkn : ((k - 1 : Nat) : Int) < (S.nw : Int) := by omega
    obtain ⟨r, HR⟩ : ∃ r, Hid (orOf (cmpOf m0 n0) (cmpOf m1 n1) = r) := ⟨_, rfl⟩
    have HO : Hid (r < 0 ↔ m0 < n0 ∨ m0 = n0 ∧ m1 < n1) := by unfold Hid; rw [← HR.out]; exact orOf_neg _ _ _ _
    have h0 : PrevWrite w g o k wr.heap.size m0 m1 m2 m3 n0 n1 n2 n3 (wr.alloc (.cells #[.int .i64 n0, .int .i64 n1, .int .i64 n2, .int .i64 n3] 55)).drew := ⟨⟨(World.cell?_alloc_lt _ _ _ hg).trans y0, (World.cell?_alloc_lt _ _ _ hg).trans y1, (World.cell?_alloc_lt _ _ _ hg).trans y2, (World.cell?_alloc_lt _ _ _ hg).trans y3, World.cell?_alloc_mark wr _ _ _ 0, World.cell?_alloc_mark wr _ _ _ 1, World.cell?_alloc_mark wr _ _ _ 2, World.cell?_alloc_mark wr _ _ _ 3⟩, (hbw.alloc hbw.size _).drew⟩
    by_cases hr : 0 ≤ r
    ·have E : Hid (scan (writeF S.k) S.nw = 1) := by
      have : writeF S.k k = 1 := by
       unfold writeF
       rw [NN.out.1, NN.out.2.1, NN.out.2.2.1, NN.out.2.2.2]
       rw [if_neg (fun h => h G0.out)]
       have g1 := G1.out; have g2 := G2.out; have g3 := G3.out; rw [if_neg (by omega)]
       rw [MM.out.1, MM.out.2]
       have ho := HO.out
       rw [if_pos (Or.inl ⟨hk0, by omega⟩)]
      exact (scan_stop HS.out (by rw [this]; decide) hlt).trans this
     have dr : decide (0 ≤ r) = true := decide_eq_true hr
     clear HS NN FT G0 G1 G2 G3 MM HO hr hft
     go_wp2_with fail
     refine (L0.out _).mono ?_
     rintro e w1 ⟨rfl, rfl⟩
     go_wp2_with fail
     refine (isTime_is _ true L1.out _).mono ?_
     rintro e w1 ⟨rfl, rfl⟩
     go_wp2_with fail
     refine (isTime_is _ true L2.out _).mono ?_
     rintro e w1 ⟨rfl, rfl⟩
     go_wp2_with fail
     refine (isLockKind_is _ true L3.out _).mono ?_
     rintro e w1 ⟨rfl, rfl⟩
     go_wp2_with fail
     refine wp_region_held_drew (S := PrevWrite w g o k wr.heap.size m0 m1 m2 m3 n0 n1 n2 n3) (by kernel_rfl) h0 (fun hS => ?_)
     clear h0
     refine tkH 0 ?_ hS (fun wx hx => ?_) ?_; rotate_left
     ·obtain ⟨⟨hx0, hx1, hx2, hx3, hx4, hx5, hx6, hx7⟩, _⟩ := hx; go_simp; try with_reducible rfl
     refine tkH 1 ?_ hS (fun wx hx => ?_) ?_; rotate_left
     ·obtain ⟨⟨hx0, hx1, hx2, hx3, hx4, hx5, hx6, hx7⟩, _⟩ := hx; go_simp; try with_reducible rfl
     refine tkH 2 ?_ hS (fun wx hx => ?_) ?_; rotate_left
     ·obtain ⟨⟨hx0, hx1, hx2, hx3, hx4, hx5, hx6, hx7⟩, _⟩ := hx; go_simp; try with_reducible rfl
     refine tkH 3 ?_ hS (fun wx hx => ?_) ?_; rotate_left
     ·obtain ⟨⟨hx0, hx1, hx2, hx3, hx4, hx5, hx6, hx7⟩, _⟩ := hx; go_simp; try with_reducible rfl
     refine tkH 4 ?_ hS (fun wx hx => ?_) ?_; rotate_left
     ·obtain ⟨⟨hx0, hx1, hx2, hx3, hx4, hx5, hx6, hx7⟩, _⟩ := hx; go_simp; try with_reducible rfl
     refine tkH 5 ?_ hS (fun wx hx => ?_) ?_; rotate_left
     ·obtain ⟨⟨hx0, hx1, hx2, hx3, hx4, hx5, hx6, hx7⟩, _⟩ := hx; go_simp; try with_reducible rfl
     refine tkH 6 ?_ hS (fun wx hx => ?_) ?_; rotate_left
     ·obtain ⟨⟨hx0, hx1, hx2, hx3, hx4, hx5, hx6, hx7⟩, _⟩ := hx; go_simp; try with_reducible rfl
     refine tkH 7 ?_ hS (fun wx hx => ?_) ?_; rotate_left
     ·obtain ⟨⟨hx0, hx1, hx2, hx3, hx4, hx5, hx6, hx7⟩, _⟩ := hx; go_simp; try with_reducible rfl
     refine tkH 8 ?_ hS (fun wx hx => ?_) ?_; rotate_left
     ·obtain ⟨⟨hx0, hx1, hx2, hx3, hx4, hx5, hx6, hx7⟩, _⟩ := hx; go_simp; try with_reducible rfl
     refine rdH 9 (fun K hK => ?_)
     go_simp
     go_wp2_with fail
     refine (compareWrites_is _ _ _ _ _ _ _ _ r HR.out _).mono ?_
     rintro e w1 ⟨rfl, q1⟩
     have hS' := hS.later q1
     clear q1
     go_wp2_with fail
     refine hK.out _ _ hS' (fun hS => ?_)
     clear hK K hS'
     refine tkH 10 ?_ hS (fun wx hx => ?_) ?_; rotate_left
     ·obtain ⟨⟨hx0, hx1, hx2, hx3, hx4, hx5, hx6, hx7⟩, _⟩ := hx; go_simp; try with_reducible rfl
     refine tkH 11 ?_ hS (fun wx hx => ?_) ?_; rotate_left
     ·obtain ⟨⟨hx0, hx1, hx2, hx3, hx4, hx5, hx6, hx7⟩, _⟩ := hx; go_simp; try with_reducible rfl
     refine tkH 12 ?_ hS (fun wx hx => ?_) ?_; rotate_left
     ·obtain ⟨⟨hx0, hx1, hx2, hx3, hx4, hx5, hx6, hx7⟩, _⟩ := hx; go_simp; try with_reducible rfl
     refine noH 13 hS ?_
     refine noH 14 hS ?_
     refine noH 15 hS ?_
     refine tkH 16 ?_ hS (fun wx hx => ?_) ?_; rotate_left
     ·obtain ⟨⟨hx0, hx1, hx2, hx3, hx4, hx5, hx6, hx7⟩, _⟩ := hx; go_simp; try with_reducible rfl
     refine wpAnyH_done (by kernel_rfl) ?_ _
     go_simp
     go_wp2
     go_ret
     exact ⟨by rw [E.out]; rfl, hS.2⟩
    ·have E : Hid (scan (writeF S.k) (k + 1) = 0) := by
      have : writeF S.k k = 0 := by
       unfold writeF
       rw [NN.out.1, NN.out.2.1, NN.out.2.2.1, NN.out.2.2.2]
       rw [if_neg (fun h => h G0.out)]
       have g1 := G1.out; have g2 := G2.out; have g3 := G3.out; rw [if_neg (by omega)]
       rw [MM.out.1, MM.out.2]
       have ho := HO.out
       rw [if_neg (fun h => h.elim (fun q => q.2 (by omega)) (fun q => q hft.out))]
      exact scan_go HS.out this
     have dr : decide (0 ≤ r) = false := decide_eq_false hr
     clear HS NN FT G0 G1 G2 G3 MM HO hr hft
     go_wp2_with fail
     refine (L0.out _).mono ?_
     rintro e w1 ⟨rfl, rfl⟩
     go_wp2_with fail
     refine (isTime_is _ true L1.out _).mono ?_
     rintro e w1 ⟨rfl, rfl⟩
     go_wp2_with fail
     refine (isTime_is _ true L2.out _).mono ?_
     rintro e w1 ⟨rfl, rfl⟩
     go_wp2_with fail
     refine (isLockKind_is _ true L3.out _).mono ?_
     rintro e w1 ⟨rfl, rfl⟩
     go_wp2_with fail
     refine wp_region_held_drew (S := PrevWrite w g o k wr.heap.size m0 m1 m2 m3 n0 n1 n2 n3) (by kernel_rfl) h0 (fun hS => ?_)
     clear h0
     refine tkH 0 ?_ hS (fun wx hx => ?_) ?_; rotate_left
     ·obtain ⟨⟨hx0, hx1, hx2, hx3, hx4, hx5, hx6, hx7⟩, _⟩ := hx; go_simp; try with_reducible rfl
     refine tkH 1 ?_ hS (fun wx hx => ?_) ?_; rotate_left
     ·obtain ⟨⟨hx0, hx1, hx2, hx3, hx4, hx5, hx6, hx7⟩, _⟩ := hx; go_simp; try with_reducible rfl
     refine tkH 2 ?_ hS (fun wx hx => ?_) ?_; rotate_left
     ·obtain ⟨⟨hx0, hx1, hx2, hx3, hx4, hx5, hx6, hx7⟩, _⟩ := hx; go_simp; try with_reducible rfl
     refine tkH 3 ?_ hS (fun wx hx => ?_) ?_; rotate_left
     ·obtain ⟨⟨hx0, hx1, hx2, hx3, hx4, hx5, hx6, hx7⟩, _⟩ := hx; go_simp; try with_reducible rfl
     refine tkH 4 ?_ hS (fun wx hx => ?_) ?_; rotate_left
     ·obtain ⟨⟨hx0, hx1, hx2, hx3, hx4, hx5, hx6, hx7⟩, _⟩ := hx; go_simp; try with_reducible rfl
     refine tkH 5 ?_ hS (fun wx hx => ?_) ?_; rotate_left
     ·obtain ⟨⟨hx0, hx1, hx2, hx3, hx4, hx5, hx6, hx7⟩, _⟩ := hx; go_simp; try with_reducible rfl
     refine tkH 6 ?_ hS (fun wx hx => ?_) ?_; rotate_left
     ·obtain ⟨⟨hx0, hx1, hx2, hx3, hx4, hx5, hx6, hx7⟩, _⟩ := hx; go_simp; try with_reducible rfl
     refine tkH 7 ?_ hS (fun wx hx => ?_) ?_; rotate_left
     ·obtain ⟨⟨hx0, hx1, hx2, hx3, hx4, hx5, hx6, hx7⟩, _⟩ := hx; go_simp; try with_reducible rfl
     refine tkH 8 ?_ hS (fun wx hx => ?_) ?_; rotate_left
     ·obtain ⟨⟨hx0, hx1, hx2, hx3, hx4, hx5, hx6, hx7⟩, _⟩ := hx; go_simp; try with_reducible rfl
     refine rdH 9 (fun K hK => ?_)
     go_simp
     go_wp2_with fail
     refine (compareWrites_is _ _ _ _ _ _ _ _ r HR.out _).mono ?_
     rintro e w1 ⟨rfl, q1⟩
     have hS' := hS.later q1
     clear q1
     go_wp2_with fail
     refine hK.out _ _ hS' (fun hS => ?_)
     clear hK K hS'
     refine tkH 10 ?_ hS (fun wx hx => ?_) ?_; rotate_left
     ·obtain ⟨⟨hx0, hx1, hx2, hx3, hx4, hx5, hx6, hx7⟩, _⟩ := hx; go_simp; try with_reducible rfl
     refine tkH 11 ?_ hS (fun wx hx => ?_) ?_; rotate_left
     ·obtain ⟨⟨hx0, hx1, hx2, hx3, hx4, hx5, hx6, hx7⟩, _⟩ := hx; go_simp; try with_reducible rfl
     refine tkH 12 ?_ hS (fun wx hx => ?_) ?_; rotate_left
     ·obtain ⟨⟨hx0, hx1, hx2, hx3, hx4, hx5, hx6, hx7⟩, _⟩ := hx; go_simp; try with_reducible rfl
     refine tkH 13 ?_ hS (fun wx hx => ?_) ?_; rotate_left
     ·obtain ⟨⟨hx0, hx1, hx2, hx3, hx4, hx5, hx6, hx7⟩, _⟩ := hx; go_simp; try with_reducible rfl
     refine rdH 14 (fun K hK => ?_)
     go_simp
     go_wp2_with fail
     refine (D.out _).mono ?_
     rintro e w1 ⟨rfl, q1⟩
     have hS' := hS.later q1
     clear q1
     go_wp2_with fail
     refine hK.out _ _ hS' (fun hS => ?_)
     clear hK K hS'
     refine tkH 15 ?_ hS (fun wx hx => ?_) ?_; rotate_left
     ·obtain ⟨⟨hx0, hx1, hx2, hx3, hx4, hx5, hx6, hx7⟩, _⟩ := hx; go_simp; try with_reducible rfl
     refine tkH 16 ?_ hS (fun wx hx => ?_) ?_; rotate_left
     ·obtain ⟨⟨hx0, hx1, hx2, hx3, hx4, hx5, hx6, hx7⟩, _⟩ := hx; go_simp; try with_reducible rfl
     refine wpAnyH_done (by kernel_rfl) ?_ _
     go_simp
     go_wp2
     go_roundw
     case rel => exact ⟨k + 1, by omega, by go_num, E, hS.2⟩
     case measure => simp [intOf]; omega
   ·have D : Hid (∀ w, Calls Tryz.prog 94 #[.agg #[.int .i64 n0, .int .i64 n1, .int .i64 n2, .int .i64 n3]] w fun e w' => e = .returned (.bool false) ∧ Below w.heap.size w w') := fun w => commitFits_is n0 n1 n2 n3 false (decide_eq_false hf) w
    have hft : Hid (¬ fits S.k k) := fun h => hf (FT.out.1 h)
    clear hf
    rcases Nat.eq_zero_or_pos k with hk0 | hk0
    ·have E : Hid (scan (writeF S.k) S.nw = 1) := by
      have : writeF S.k k = 1 := by
       unfold writeF
       rw [NN.out.1, NN.out.2.1, NN.out.2.2.1, NN.out.2.2.2]
       rw [if_neg (fun h => h G0.out)]
       have g1 := G1.out; have g2 := G2.out; have g3 := G3.out; rw [if_neg (by omega)]
       rw [if_pos (Or.inr hft.out)]
      exact (scan_stop HS.out (by rw [this]; decide) hlt).trans this
     have dk : decide (0 < k) = false := decide_eq_false (by omega)
     have h0 : FirstWrite w wr.heap.size n0 n1 n2 n3 (wr.alloc (.cells #[.int .i64 n0, .int .i64 n1, .int .i64 n2, .int .i64 n3] 55)).drew := ⟨⟨World.cell?_alloc_mark wr _ _ _ 0, World.cell?_alloc_mark wr _ _ _ 1, World.cell?_alloc_mark wr _ _ _ 2, World.cell?_alloc_mark wr _ _ _ 3⟩, (hbw.alloc hbw.size _).drew⟩
     clear HS NN FT G0 G1 G2 G3 hk0 hft
     go_wp2_with fail
     refine (L0.out _).mono ?_
     rintro e w1 ⟨rfl, rfl⟩
     go_wp2_with fail
     refine (isTime_is _ true L1.out _).mono ?_
     rintro e w1 ⟨rfl, rfl⟩
     go_wp2_with fail
     refine (isTime_is _ true L2.out _).mono ?_
     rintro e w1 ⟨rfl, rfl⟩
     go_wp2_with fail
     refine (isLockKind_is _ true L3.out _).mono ?_
     rintro e w1 ⟨rfl, rfl⟩
     go_wp2_with fail
     refine wp_region_held_drew (S := FirstWrite w wr.heap.size n0 n1 n2 n3) (by kernel_rfl) h0 (fun hS => ?_)
     clear h0
     refine tkH 0 ?_ hS (fun wx hx => ?_) ?_; rotate_left
     ·obtain ⟨⟨hx0, hx1, hx2, hx3⟩, _⟩ := hx; go_simp; try with_reducible rfl
     refine tkH 1 ?_ hS (fun wx hx => ?_) ?_; rotate_left
     ·obtain ⟨⟨hx0, hx1, hx2, hx3⟩, _⟩ := hx; go_simp; try with_reducible rfl
     refine tkH 2 ?_ hS (fun wx hx => ?_) ?_; rotate_left
     ·obtain ⟨⟨hx0, hx1, hx2, hx3⟩, _⟩ := hx; go_simp; try with_reducible rfl
     refine noH 3 hS ?_
     refine noH 4 hS ?_
     refine noH 5 hS ?_
     refine noH 6 hS ?_
     refine noH 7 hS ?_
     refine noH 8 hS ?_
     refine noH 9 hS ?_
     refine noH 10 hS ?_
     refine tkH 11 ?_ hS (fun wx hx => ?_) ?_; rotate_left
     ·obtain ⟨⟨hx0, hx1, hx2, hx3⟩, _⟩ := hx; go_simp; try with_reducible rfl
     refine tkH 12 ?_ hS (fun wx hx => ?_) ?_; rotate_left
     ·obtain ⟨⟨hx0, hx1, hx2, hx3⟩, _⟩ := hx; go_simp; try with_reducible rfl
     refine tkH 13 ?_ hS (fun wx hx => ?_) ?_; rotate_left
     ·obtain ⟨⟨hx0, hx1, hx2, hx3⟩, _⟩ := hx; go_simp; try with_reducible rfl
     refine rdH 14 (fun K hK => ?_)
     go_simp
     go_wp2_with fail
     refine (D.out _).mono ?_
     rintro e w1 ⟨rfl, q1⟩
     have hS' := hS.later q1
     clear q1
     go_wp2_with fail
     refine hK.out _ _ hS' (fun hS => ?_)
     clear hK K hS'
     refine tkH 15 ?_ hS (fun wx hx => ?_) ?_; rotate_left
     ·obtain ⟨⟨hx0, hx1, hx2, hx3⟩, _⟩ := hx; go_simp; try with_reducible rfl
     refine tkH 16 ?_ hS (fun wx hx => ?_) ?_; rotate_left
     ·obtain ⟨⟨hx0, hx1, hx2, hx3⟩, _⟩ := hx; go_simp; try with_reducible rfl
     refine wpAnyH_done (by kernel_rfl) ?_ _
     go_simp
     go_wp2
     go_ret
     exact ⟨by rw [E.out]; rfl, hS.2⟩
    obtain ⟨g', o', he, _, _, y0, y1, y2, y3⟩ := (H.out.later hbw).at4 (k := k - 1) (by omega)
    simp only [Option.some.injEq, Addr.mk.injEq, and_true] at he
    obtain ⟨rfl, rfl⟩ := he
    obtain ⟨m0, M0⟩ : ∃ x, S.k ((k - 1) * 4) = x := ⟨_, rfl⟩
    rw [M0] at y0
    obtain ⟨m1, M1⟩ : ∃ x, S.k ((k - 1) * 4 + 1) = x := ⟨_, rfl⟩
    rw [M1] at y1
    obtain ⟨m2, M2⟩ : ∃ x, S.k ((k - 1) * 4 + 2) = x := ⟨_, rfl⟩
    rw [M2] at y2
    obtain ⟨m3, M3⟩ : ∃ x, S.k ((k - 1) * 4 + 3) = x := ⟨_, rfl⟩
    rw [M3] at y3
    have MM : Hid (S.k ((k - 1) * 4) = m0 ∧ S.k ((k - 1) * 4 + 1) = m1) := ⟨M0, M1⟩
    clear M0 M1 M2 M3
    have dk : decide (0 < k) = true := decide_eq_true hk0
    have hwr := wrap_pred k hk0 (by omega)
    have hkn : ((k - 1 : Nat) : Int) < (S.nw : Int) := by omega
    obtain ⟨r, HR⟩ : ∃ r, Hid (orOf (cmpOf m0 n0) (cmpOf m1 n1) = r) := ⟨_, rfl⟩
    have HO : Hid (r < 0 ↔ m0 < n0 ∨ m0 = n0 ∧ m1 < n1) := by unfold Hid; rw [← HR.out]; exact orOf_neg _ _ _ _
    have h0 : PrevWrite w g o k wr.heap.size m0 m1 m2 m3 n0 n1 n2 n3 (wr.alloc (.cells #[.int .i64 n0, .int .i64 n1, .int .i64 n2, .int .i64 n3] 55)).drew := ⟨⟨(World.cell?_alloc_lt _ _ _ hg).trans y0, (World.cell?_alloc_lt _ _ _ hg).trans y1, (World.cell?_alloc_lt _ _ _ hg).trans y2, (World.cell?_alloc_lt _ _ _ hg).trans y3, World.cell?_alloc_mark wr _ _ _ 0, World.cell?_alloc_mark wr _ _ _ 1, World.cell?_alloc_mark wr _ _ _ 2, World.cell?_alloc_mark wr _ _ _ 3⟩, (hbw.alloc hbw.size _).drew⟩
    by_cases hr : 0 ≤ r
    ·have E : Hid (scan (writeF S.k) S.nw = 1) := by
      have : writeF S.k k = 1 := by
       unfold writeF
       rw [NN.out.1, NN.out.2.1, NN.out.2.2.1, NN.out.2.2.2]
       rw [if_neg (fun h => h G0.out)]
       have g1 := G1.out; have g2 := G2.out; have g3 := G3.out; rw [if_neg (by omega)]
       rw [MM.out.1, MM.out.2]
       have ho := HO.out
       rw [if_pos (Or.inl ⟨hk0, by omega⟩)]
      exact (scan_stop HS.out (by rw [this]; decide) hlt).trans this
     have dr : decide (0 ≤ r) = true := decide_eq_true hr
     clear HS NN FT G0 G1 G2 G3 MM HO hr hft
     go_wp2_with fail
     refine (L0.out _).mono ?_
     rintro e w1 ⟨rfl, rfl⟩
     go_wp2_with fail
     refine (isTime_is _ true L1.out _).mono ?_
     rintro e w1 ⟨rfl, rfl⟩
     go_wp2_with fail
     refine (isTime_is _ true L2.out _).mono ?_
     rintro e w1 ⟨rfl, rfl⟩
     go_wp2_with fail
     refine (isLockKind_is _ true L3.out _).mono ?_
     rintro e w1 ⟨rfl, rfl⟩
     go_wp2_with fail
     refine wp_region_held_drew (S := PrevWrite w g o k wr.heap.size m0 m1 m2 m3 n0 n1 n2 n3) (by kernel_rfl) h0 (fun hS => ?_)
     clear h0
     refine tkH 0 ?_ hS (fun wx hx => ?_) ?_; rotate_left
     ·obtain ⟨⟨hx0, hx1, hx2, hx3, hx4, hx5, hx6, hx7⟩, _⟩ := hx; go_simp; try with_reducible rfl
     refine tkH 1 ?_ hS (fun wx hx => ?_) ?_; rotate_left
     ·obtain ⟨⟨hx0, hx1, hx2, hx3, hx4, hx5, hx6, hx7⟩, _⟩ := hx; go_simp; try with_reducible rfl
     refine tkH 2 ?_ hS (fun wx hx => ?_) ?_; rotate_left
     ·obtain ⟨⟨hx0, hx1, hx2, hx3, hx4, hx5, hx6, hx7⟩, _⟩ := hx; go_simp; try with_reducible rfl
     refine tkH 3 ?_ hS (fun wx hx => ?_) ?_; rotate_left
     ·obtain ⟨⟨hx0, hx1, hx2, hx3, hx4, hx5, hx6, hx7⟩, _⟩ := hx; go_simp; try with_reducible rfl
     refine tkH 4 ?_ hS (fun wx hx => ?_) ?_; rotate_left
     ·obtain ⟨⟨hx0, hx1, hx2, hx3, hx4, hx5, hx6, hx7⟩, _⟩ := hx; go_simp; try with_reducible rfl
     refine tkH 5 ?_ hS (fun wx hx => ?_) ?_; rotate_left
     ·obtain ⟨⟨hx0, hx1, hx2, hx3, hx4, hx5, hx6, hx7⟩, _⟩ := hx; go_simp; try with_reducible rfl
     refine tkH 6 ?_ hS (fun wx hx => ?_) ?_; rotate_left
     ·obtain ⟨⟨hx0, hx1, hx2, hx3, hx4, hx5, hx6, hx7⟩, _⟩ := hx; go_simp; try with_reducible rfl
     refine tkH 7 ?_ hS (fun wx hx => ?_) ?_; rotate_left
     ·obtain ⟨⟨hx0, hx1, hx2, hx3, hx4, hx5, hx6, hx7⟩, _⟩ := hx; go_simp; try with_reducible rfl
     refine tkH 8 ?_ hS (fun wx hx => ?_) ?_; rotate_left
     ·obtain ⟨⟨hx0, hx1, hx2, hx3, hx4, hx5, hx6, hx7⟩, _⟩ := hx; go_simp; try with_reducible rfl
     refine rdH 9 (fun K hK => ?_)
     go_simp
     go_wp2_with fail
     refine (compareWrites_is _ _ _ _ _ _ _ _ r HR.out _).mono ?_
     rintro e w1 ⟨rfl, q1⟩
     have hS' := hS.later q1
     clear q1
     go_wp2_with fail
     refine hK.out _ _ hS' (fun hS => ?_)
     clear hK K hS'
     refine tkH 10 ?_ hS (fun wx hx => ?_) ?_; rotate_left
     ·obtain ⟨⟨hx0, hx1, hx2, hx3, hx4, hx5, hx6, hx7⟩, _⟩ := hx; go_simp; try with_reducible rfl
     refine tkH 11 ?_ hS (fun wx hx => ?_) ?_; rotate_left
     ·obtain ⟨⟨hx0, hx1, hx2, hx3, hx4, hx5, hx6, hx7⟩, _⟩ := hx; go_simp; try with_reducible rfl
     refine tkH 12 ?_ hS (fun wx hx => ?_) ?_; rotate_left
     ·obtain ⟨⟨hx0, hx1, hx2, hx3, hx4, hx5, hx6, hx7⟩, _⟩ := hx; go_simp; try with_reducible rfl
     refine noH 13 hS ?_
     refine noH 14 hS ?_
     refine noH 15 hS ?_
     refine tkH 16 ?_ hS (fun wx hx => ?_) ?_; rotate_left
     ·obtain ⟨⟨hx0, hx1, hx2, hx3, hx4, hx5, hx6, hx7⟩, _⟩ := hx; go_simp; try with_reducible rfl
     refine wpAnyH_done (by kernel_rfl) ?_ _
     go_simp
     go_wp2
     go_ret
     exact ⟨by rw [E.out]; rfl, hS.2⟩
    ·have E : Hid (scan (writeF S.k) S.nw = 1) := by
      have : writeF S.k k = 1 := by
       unfold writeF
       rw [NN.out.1, NN.out.2.1, NN.out.2.2.1, NN.out.2.2.2]
       rw [if_neg (fun h => h G0.out)]
       have g1 := G1.out; have g2 := G2.out; have g3 := G3.out; rw [if_neg (by omega)]
       rw [MM.out.1, MM.out.2]
       have ho := HO.out
       rw [if_pos (Or.inr hft.out)]
      exact (scan_stop HS.out (by rw [this]; decide) hlt).trans this
     have dr : decide (0 ≤ r) = false := decide_eq_false hr
     clear HS NN FT G0 G1 G2 G3 MM HO hr hft
     go_wp2_with fail
     refine (L0.out _).mono ?_
     rintro e w1 ⟨rfl, rfl⟩
     go_wp2_with fail
     refine (isTime_is _ true L1.out _).mono ?_
     rintro e w1 ⟨rfl, rfl⟩
     go_wp2_with fail
     refine (isTime_is _ true L2.out _).mono ?_
     rintro e w1 ⟨rfl, rfl⟩
     go_wp2_with fail
     refine (isLockKind_is _ true L3.out _).mono ?_
     rintro e w1 ⟨rfl, rfl⟩
     go_wp2_with fail
     refine wp_region_held_drew (S := PrevWrite w g o k wr.heap.size m0 m1 m2 m3 n0 n1 n2 n3) (by kernel_rfl) h0 (fun hS => ?_)
     clear h0
     refine tkH 0 ?_ hS (fun wx hx => ?_) ?_; rotate_left
     ·obtain ⟨⟨hx0, hx1, hx2, hx3, hx4, hx5, hx6, hx7⟩, _⟩ := hx; go_simp; try with_reducible rfl
     refine tkH 1 ?_ hS (fun wx hx => ?_) ?_; rotate_left
     ·obtain ⟨⟨hx0, hx1, hx2, hx3, hx4, hx5, hx6, hx7⟩, _⟩ := hx; go_simp; try with_reducible rfl
     refine tkH 2 ?_ hS (fun wx hx => ?_) ?_; rotate_left
     ·obtain ⟨⟨hx0, hx1, hx2, hx3, hx4, hx5, hx6, hx7⟩, _⟩ := hx; go_simp; try with_reducible rfl
     refine tkH 3 ?_ hS (fun wx hx => ?_) ?_; rotate_left
     ·obtain ⟨⟨hx0, hx1, hx2, hx3, hx4, hx5, hx6, hx7⟩, _⟩ := hx; go_simp; try with_reducible rfl
     refine tkH 4 ?_ hS (fun wx hx => ?_) ?_; rotate_left
     ·obtain ⟨⟨hx0, hx1, hx2, hx3, hx4, hx5, hx6, hx7⟩, _⟩ := hx; go_simp; try with_reducible rfl
     refine tkH 5 ?_ hS (fun wx hx => ?_) ?_; rotate_left
     ·obtain ⟨⟨hx0, hx1, hx2, hx3, hx4, hx5, hx6, hx7⟩, _⟩ := hx; go_simp; try with_reducible rfl
     refine tkH 6 ?_ hS (fun wx hx => ?_) ?_; rotate_left
     ·obtain ⟨⟨hx0, hx1, hx2, hx3, hx4, hx5, hx6, hx7⟩, _⟩ := hx; go_simp; try with_reducible rfl
     refine tkH 7 ?_ hS (fun wx hx => ?_) ?_; rotate_left
     ·obtain ⟨⟨hx0, hx1, hx2, hx3, hx4, hx5, hx6, hx7⟩, _⟩ := hx; go_simp; try with_reducible rfl
     refine tkH 8 ?_ hS (fun wx hx => ?_) ?_; rotate_left
     ·obtain ⟨⟨hx0, hx1, hx2, hx3, hx4, hx5, hx6, hx7⟩, _⟩ := hx; go_simp; try with_reducible rfl
     refine rdH 9 (fun K hK => ?_)
     go_simp
     go_wp2_with fail
     refine (compareWrites_is _ _ _ _ _ _ _ _ r HR.out _).mono ?_
     rintro e w1 ⟨rfl, q1⟩
     have hS' := hS.later q1
     clear q1
     go_wp2_with fail
     refine hK.out _ _ hS' (fun hS => ?_)
     clear hK K hS'
     refine tkH 10 ?_ hS (fun wx hx => ?_) ?_; rotate_left
     ·obtain ⟨⟨hx0, hx1, hx2, hx3, hx4, hx5, hx6, hx7⟩, _⟩ := hx; go_simp; try with_reducible rfl
     refine tkH 11 ?_ hS (fun wx hx => ?_) ?_; rotate_left
     ·obtain ⟨⟨hx0, hx1, hx2, hx3, hx4, hx5, hx6, hx7⟩, _⟩ := hx; go_simp; try with_reducible rfl
     refine tkH 12 ?_ hS (fun wx hx => ?_) ?_; rotate_left
     ·obtain ⟨⟨hx0, hx1, hx2, hx3, hx4, hx5, hx6, hx7⟩, _⟩ := hx; go_simp; try with_reducible rfl
     refine tkH 13 ?_ hS (fun wx hx => ?_) ?_; rotate_left
     ·obtain ⟨⟨hx0, hx1, hx2, hx3, hx4, hx5, hx6, hx7⟩, _⟩ := hx; go_simp; try with_reducible rfl
     refine rdH 14 (fun K hK => ?_)
     go_simp
     go_wp2_with fail
     refine (D.out _).mono ?_
     rintro e w1 ⟨rfl, q1⟩
     have hS' := hS.later q1
     clear q1
     go_wp2_with fail
     refine hK.out _ _ hS' (fun hS => ?_)
     clear hK K hS'
     refine tkH 15 ?_ hS (fun wx hx => ?_) ?_; rotate_left
     ·obtain ⟨⟨hx0, hx1, hx2, hx3, hx4, hx5, hx6, hx7⟩, _⟩ := hx; go_simp; try with_reducible rfl
     refine tkH 16 ?_ hS (fun wx hx => ?_) ?_; rotate_left
     ·obtain ⟨⟨hx0, hx1, hx2, hx3, hx4, hx5, hx6, hx7⟩, _⟩ := hx; go_simp; try with_reducible rfl
     refine wpAnyH_done (by kernel_rfl) ?_ _
     go_simp
     go_wp2
     go_ret
     exact ⟨by rw [E.out]; rfl, hS.2⟩
  ·have L3 : Hid (decide (1 ≤ n3 ∧ n3 ≤ 3) = false) := decide_eq_false h3
   by_cases h4 : n3 = 4
   case neg =>
    have E : Hid (scan (writeF S.k) S.nw = 3) := by
     have : writeF S.k k = 3 := by
      unfold writeF
      rw [NN.out.1, NN.out.2.1, NN.out.2.2.1, NN.out.2.2.2]
      rw [if_neg (fun h => h G0.out)]
      rw [if_pos (by omega)]
     exact (scan_stop HS.out (by rw [this]; decide) hlt).trans this
    have hn4 : (n3 == 4) = false := beq_eq_false_iff_ne.2 h4
    clear h3 h4 HS NN FT G0 G1 G2
    go_wp2_with fail
    refine (L0.out _).mono ?_
    rintro e w1 ⟨rfl, rfl⟩
    go_wp2_with fail
    refine (isTime_is _ true L1.out _).mono ?_
    rintro e w1 ⟨rfl, rfl⟩
    go_wp2_with fail
    refine (isTime_is _ true L2.out _).mono ?_
    rintro e w1 ⟨rfl, rfl⟩
    go_wp2_with fail
    refine (isLockKind_is _ false L3.out _).mono ?_
    rintro e w1 ⟨rfl, rfl⟩
    go_wp2
    go_ret
    exact ⟨by rw [E.out]; rfl, by first | exact hbw.alloc hbw.size _ | exact below_dn (hbw.alloc hbw.size _) _ | exact below_dn (below_dn (hbw.alloc hbw.size _) _) _⟩
   subst h4
   have G3 : Hid ((4 : Int) = 4) := rfl
   clear h3
   by_cases hf : ((4 : Int) = 4 → n1 = n2) ∧ ((4 : Int) ≠ 4 → n2 < n1)
   ·have D : Hid (∀ w, Calls Tryz.prog 94 #[.agg #[.int .i64 n0, .int .i64 n1, .int .i64 n2, .int .i64 4]] w fun e w' => e = .returned (.bool true) ∧ Below w.heap.size w w') := fun w => commitFits_is n0 n1 n2 4 true (decide_eq_true hf) w
    have hft : Hid (fits S.k k) := FT.out.2 hf
    clear hf
    rcases Nat.eq_zero_or_pos k with hk0 | hk0
    ·have E : Hid (scan (writeF S.k) (k + 1) = 0) := by
      have : writeF S.k k = 0 := by
       unfold writeF
       rw [NN.out.1, NN.out.2.1, NN.out.2.2.1, NN.out.2.2.2]
       rw [if_neg (fun h => h G0.out)]
       have g1 := G1.out; have g2 := G2.out; have g3 := G3.out; rw [if_neg (by omega)]
       rw [if_neg (fun h => h.elim (fun q => by omega) (fun q => q hft.out))]
      exact scan_go HS.out this
     have dk : decide (0 < k) = false := decide_eq_false (by omega)
     have h0 : FirstWrite w wr.heap.size n0 n1 n2 4 (wr.alloc (.cells #[.int .i64 n0, .int .i64 n1, .int .i64 n2, .int .i64 4] 55)).drew := ⟨⟨World.cell?_alloc_mark wr _ _ _ 0, World.cell?_alloc_mark wr _ _ _ 1, World.cell?_alloc_mark wr _ _ _ 2, World.cell?_alloc_mark wr _ _ _ 3⟩, (hbw.alloc hbw.size _).drew⟩
     clear HS NN FT G0 G1 G2 G3 hk0 hft
     go_wp2_with fail
     refine (L0.out _).mono ?_
     rintro e w1 ⟨rfl, rfl⟩
     go_wp2_with fail
     refine (isTime_is _ true L1.out _).mono ?_
     rintro e w1 ⟨rfl, rfl⟩
     go_wp2_with fail
     refine (isTime_is _ true L2.out _).mono ?_
     rintro e w1 ⟨rfl, rfl⟩
     go_wp2_with fail
     refine (isLockKind_is _ false L3.out _).mono ?_
     rintro e w1 ⟨rfl, rfl⟩
     go_wp2_with fail
     refine wp_region_held_drew (S := FirstWrite w wr.heap.size n0 n1 n2 4) (by kernel_rfl) h0 (fun hS => ?_)
     clear h0
     refine tkH 0 ?_ hS (fun wx hx => ?_) ?_; rotate_left
     ·obtain ⟨⟨hx0, hx1, hx2, hx3⟩, _⟩ := hx; go_simp; try with_reducible rfl
     refine tkH 1 ?_ hS (fun wx hx => ?_) ?_; rotate_left
     ·obtain ⟨⟨hx0, hx1, hx2, hx3⟩, _⟩ := hx; go_simp; try with_reducible rfl
     refine tkH 2 ?_ hS (fun wx hx => ?_) ?_; rotate_left
     ·obtain ⟨⟨hx0, hx1, hx2, hx3⟩, _⟩ := hx; go_simp; try with_reducible rfl
     refine noH 3 hS ?_
     refine noH 4 hS ?_
     refine noH 5 hS ?_
     refine noH 6 hS ?_
     refine noH 7 hS ?_
     refine noH 8 hS ?_
     refine noH 9 hS ?_
     refine noH 10 hS ?_
     refine tkH 11 ?_ hS (fun wx hx => ?_) ?_; rotate_left
     ·obtain ⟨⟨hx0, hx1, hx2, hx3⟩, _⟩ := hx; go_simp; try with_reducible rfl
     refine tkH 12 ?_ hS (fun wx hx => ?_) ?_; rotate_left
     ·obtain ⟨⟨hx0, hx1, hx2, hx3⟩, _⟩ := hx; go_simp; try with_reducible rfl
     refine tkH 13 ?_ hS (fun wx hx => ?_) ?_; rotate_left
     ·obtain ⟨⟨hx0, hx1, hx2, hx3⟩, _⟩ := hx; go_simp; try with_reducible rfl
     refine rdH 14 (fun K hK => ?_)
     go_simp
     go_wp2_with fail
     refine (D.out _).mono ?_
     rintro e w1 ⟨rfl, q1⟩
     have hS' := hS.later q1
     clear q1
     go_wp2_with fail
     refine hK.out _ _ hS' (fun hS => ?_)
     clear hK K hS'
     refine tkH 15 ?_ hS (fun wx hx => ?_) ?_; rotate_left
     ·obtain ⟨⟨hx0, hx1, hx2, hx3⟩, _⟩ := hx; go_simp; try with_reducible rfl
     refine tkH 16 ?_ hS (fun wx hx => ?_) ?_; rotate_left
     ·obtain ⟨⟨hx0, hx1, hx2, hx3⟩, _⟩ := hx; go_simp; try with_reducible rfl
     refine wpAnyH_done (by kernel_rfl) ?_ _
     go_simp
     go_wp2
     go_roundw
     case rel => exact ⟨k + 1, by omega, by go_num, E, hS.2⟩
     case measure => simp [intOf]; omega
    obtain ⟨g', o', he, _, _, y0, y1, y2, y3⟩ := (H.out.later hbw).at4 (k := k - 1) (by omega)
    simp only [Option.some.injEq, Addr.mk.injEq, and_true] at he
    obtain ⟨rfl, rfl⟩ := he
    obtain ⟨m0, M0⟩ : ∃ x, S.k ((k - 1) * 4) = x := ⟨_, rfl⟩
    rw [M0] at y0
    obtain ⟨m1, M1⟩ : ∃ x, S.k ((k - 1) * 4 + 1) = x := ⟨_, rfl⟩
    rw [M1] at y1
    obtain ⟨m2, M2⟩ : ∃ x, S.k ((k - 1) * 4 + 2) = x := ⟨_, rfl⟩
    rw [M2] at y2
    obtain ⟨m3, M3⟩ : ∃ x, S.k ((k - 1) * 4 + 3) = x := ⟨_, rfl⟩
    rw [M3] at y3
    have MM : Hid (S.k ((k - 1) * 4) = m0 ∧ S.k ((k - 1) * 4 + 1) = m1) := ⟨M0, M1⟩
    clear M0 M1 M2 M3
    have dk : decide (0 < k) = true := decide_eq_true hk0
    have hwr := wrap_pred k hk0 (by omega)
    have hkn : ((k - 1 : Nat) : Int) < (S.nw : Int) := by omega
    obtain ⟨r, HR⟩ : ∃ r, Hid (orOf (cmpOf m0 n0) (cmpOf m1 n1) = r) := ⟨_, rfl⟩
    have HO : Hid (r < 0 ↔ m0 < n0 ∨ m0 = n0 ∧ m1 < n1) := by unfold Hid; rw [← HR.out]; exact orOf_neg _ _ _ _
    have h0 : PrevWrite w g o k wr.heap.size m0 m1 m2 m3 n0 n1 n2 4 (wr.alloc (.cells #[.int .i64 n0, .int .i64 n1, .int .i64 n2, .int .i64 4] 55)).drew := ⟨⟨(World.cell?_alloc_lt _ _ _ hg).trans y0, (World.cell?_alloc_lt _ _ _ hg).trans y1, (World.cell?_alloc_lt _ _ _ hg).trans y2, (World.cell?_alloc_lt _ _ _ hg).trans y3, World.cell?_alloc_mark wr _ _ _ 0, World.cell?_alloc_mark wr _ _ _ 1, World.cell?_alloc_mark wr _ _ _ 2, World.cell?_alloc_mark wr _ _ _ 3⟩, (hbw.alloc hbw.size _).drew⟩
    by_cases hr : 0 ≤ r
    ·have E : Hid (scan (writeF S.k) S.nw = 1) := by
      have : writeF S.k k = 1 := by
       unfold writeF
       rw [NN.out.1, NN.out.2.1, NN.out.2.2.1, NN.out.2.2.2]
       rw [if_neg (fun h => h G0.out)]
       have g1 := G1.out; have g2 := G2.out; have g3 := G3.out; rw [if_neg (by omega)]
       rw [MM.out.1, MM.out.2]
       have ho := HO.out
       rw [if_pos (Or.inl ⟨hk0, by omega⟩)]
      exact (scan_stop HS.out (by rw [this]; decide) hlt).trans this
     have dr : decide (0 ≤ r) = true := decide_eq_true hr
     clear HS NN FT G0 G1 G2 G3 MM HO hr hft
     go_wp2_with fail
     refine (L0.out _).mono ?_
     rintro e w1 ⟨rfl, rfl⟩
     go_wp2_with fail
     refine (isTime_is _ true L1.out _).mono ?_
     rintro e w1 ⟨rfl, rfl⟩
     go_wp2_with fail
     refine (isTime_is _ true L2.out _).mono ?_
     rintro e w1 ⟨rfl, rfl⟩
     go_wp2_with fail
     refine (isLockKind_is _ false L3.out _).mono ?_
     rintro e w1 ⟨rfl, rfl⟩
     go_wp2_with fail
     refine wp_region_held_drew (S := PrevWrite w g o k wr.heap.size m0 m1 m2 m3 n0 n1 n2 4) (by kernel_rfl) h0 (fun hS => ?_)
     clear h0
     refine tkH 0 ?_ hS (fun wx hx => ?_) ?_; rotate_left
     ·obtain ⟨⟨hx0, hx1, hx2, hx3, hx4, hx5, hx6, hx7⟩, _⟩ := hx; go_simp; try with_reducible rfl
     refine tkH 1 ?_ hS (fun wx hx => ?_) ?_; rotate_left
     ·obtain ⟨⟨hx0, hx1, hx2, hx3, hx4, hx5, hx6, hx7⟩, _⟩ := hx; go_simp; try with_reducible rfl
     refine tkH 2 ?_ hS (fun wx hx => ?_) ?_; rotate_left
     ·obtain ⟨⟨hx0, hx1, hx2, hx3, hx4, hx5, hx6, hx7⟩, _⟩ := hx; go_simp; try with_reducible rfl
     refine tkH 3 ?_ hS (fun wx hx => ?_) ?_; rotate_left
     ·obtain ⟨⟨hx0, hx1, hx2, hx3, hx4, hx5, hx6, hx7⟩, _⟩ := hx; go_simp; try with_reducible rfl
     refine tkH 4 ?_ hS (fun wx hx => ?_) ?_; rotate_left
     ·obtain ⟨⟨hx0, hx1, hx2, hx3, hx4, hx5, hx6, hx7⟩, _⟩ := hx; go_simp; try with_reducible rfl
     refine tkH 5 ?_ hS (fun wx hx => ?_) ?_; rotate_left
     ·obtain ⟨⟨hx0, hx1, hx2, hx3, hx4, hx5, hx6, hx7⟩, _⟩ := hx; go_simp; try with_reducible rfl
     refine tkH 6 ?_ hS (fun wx hx => ?_) ?_; rotate_left
     ·obtain ⟨⟨hx0, hx1, hx2, hx3, hx4, hx5, hx6, hx7⟩, _⟩ := hx; go_simp; try with_reducible rfl
     refine tkH 7 ?_ hS (fun wx hx => ?_) ?_; rotate_left
     ·obtain ⟨⟨hx0, hx1, hx2, hx3, hx4, hx5, hx6, hx7⟩, _⟩ := hx; go_simp; try with_reducible rfl
     refine tkH 8 ?_ hS (fun wx hx => ?_) ?_; rotate_left
     ·obtain ⟨⟨hx0, hx1, hx2, hx3, hx4, hx5, hx6, hx7⟩, _⟩ := hx; go_simp; try with_reducible rfl
     refine rdH 9 (fun K hK => ?_)
     go_simp
     go_wp2_with fail
     refine (compareWrites_is _ _ _ _ _ _ _ _ r HR.out _).mono ?_
     rintro e w1 ⟨rfl, q1⟩
     have hS' := hS.later q1
     clear q1
     go_wp2_with fail
     refine hK.out _ _ hS' (fun hS => ?_)
     clear hK K hS'
     refine tkH 10 ?_ hS (fun wx hx => ?_) ?_; rotate_left
     ·obtain ⟨⟨hx0, hx1, hx2, hx3, hx4, hx5, hx6, hx7⟩, _⟩ := hx; go_simp; try with_reducible rfl
     refine tkH 11 ?_ hS (fun wx hx => ?_) ?_; rotate_left
     ·obtain ⟨⟨hx0, hx1, hx2, hx3, hx4, hx5, hx6, hx7⟩, _⟩ := hx; go_simp; try with_reducible rfl
     refine tkH 12 ?_ hS (fun wx hx => ?_) ?_; rotate_left
     ·obtain ⟨⟨hx0, hx1, hx2, hx3, hx4, hx5, hx6, hx7⟩, _⟩ := hx; go_simp; try with_reducible rfl
     refine noH 13 hS ?_
     refine noH 14 hS ?_
     refine noH 15 hS ?_
     refine tkH 16 ?_ hS (fun wx hx => ?_) ?_; rotate_left
     ·obtain ⟨⟨hx0, hx1, hx2, hx3, hx4, hx5, hx6, hx7⟩, _⟩ := hx; go_simp; try with_reducible rfl
     refine wpAnyH_done (by kernel_rfl) ?_ _
     go_simp
     go_wp2
     go_ret
     exact ⟨by rw [E.out]; rfl, hS.2⟩
    ·have E : Hid (scan (writeF S.k) (k + 1) = 0) := by
      have : writeF S.k k = 0 := by
       unfold writeF
       rw [NN.out.1, NN.out.2.1, NN.out.2.2.1, NN.out.2.2.2]
       rw [if_neg (fun h => h G0.out)]
       have g1 := G1.out; have g2 := G2.out; have g3 := G3.out; rw [if_neg (by omega)]
       rw [MM.out.1, MM.out.2]
       have ho := HO.out
       rw [if_neg (fun h => h.elim (fun q => q.2 (by omega)) (fun q => q hft.out))]
      exact scan_go HS.out this
     have dr : decide (0 ≤ r) = false := decide_eq_false hr
     clear HS NN FT G0 G1 G2 G3 MM HO hr hft
     go_wp2_with fail
     refine (L0.out _).mono ?_
     rintro e w1 ⟨rfl, rfl⟩
     go_wp2_with fail
     refine (isTime_is _ true L1.out _).mono ?_
     rintro e w1 ⟨rfl, rfl⟩
     go_wp2_with fail
     refine (isTime_is _ true L2.out _).mono ?_
     rintro e w1 ⟨rfl, rfl⟩
     go_wp2_with fail
     refine (isLockKind_is _ false L3.out _).mono ?_
     rintro e w1 ⟨rfl, rfl⟩
     go_wp2_with fail
     refine wp_region_held_drew (S := PrevWrite w g o k wr.heap.size m0 m1 m2 m3 n0 n1 n2 4) (by kernel_rfl) h0 (fun hS => ?_)
     clear h0
     refine tkH 0 ?_ hS (fun wx hx => ?_) ?_; rotate_left
     ·obtain ⟨⟨hx0, hx1, hx2, hx3, hx4, hx5, hx6, hx7⟩, _⟩ := hx; go_simp; try with_reducible rfl
     refine tkH 1 ?_ hS (fun wx hx => ?_) ?_; rotate_left
     ·obtain ⟨⟨hx0, hx1, hx2, hx3, hx4, hx5, hx6, hx7⟩, _⟩ := hx; go_simp; try with_reducible rfl
     refine tkH 2 ?_ hS (fun wx hx => ?_) ?_; rotate_left
     ·obtain ⟨⟨hx0, hx1, hx2, hx3, hx4, hx5, hx6, hx7⟩, _⟩ := hx; go_simp; try with_reducible rfl
     refine tkH 3 ?_ hS (fun wx hx => ?_) ?_; rotate_left
     ·obtain ⟨⟨hx0, hx1, hx2, hx3, hx4, hx5, hx6, hx7⟩, _⟩ := hx; go_simp; try with_reducible rfl
     refine tkH 4 ?_ hS (fun wx hx => ?_) ?_; rotate_left
     ·obtain ⟨⟨hx0, hx1, hx2, hx3, hx4, hx5, hx6, hx7⟩, _⟩ := hx; go_simp; try with_reducible rfl
     refine tkH 5 ?_ hS (fun wx hx => ?_) ?_; rotate_left
     ·obtain ⟨⟨hx0, hx1, hx2, hx3, hx4, hx5, hx6, hx7⟩, _⟩ := hx; go_simp; try with_reducible rfl
     refine tkH 6 ?_ hS (fun wx hx => ?_) ?_; rotate_left
     ·obtain ⟨⟨hx0, hx1, hx2, hx3, hx4, hx5, hx6, hx7⟩, _⟩ := hx; go_simp; try with_reducible rfl
     refine tkH 7 ?_ hS (fun wx hx => ?_) ?_; rotate_left
     ·obtain ⟨⟨hx0, hx1, hx2, hx3, hx4, hx5, hx6, hx7⟩, _⟩ := hx; go_simp; try with_reducible rfl
     refine tkH 8 ?_ hS (fun wx hx => ?_) ?_; rotate_left
     ·obtain ⟨⟨hx0, hx1, hx2, hx3, hx4, hx5, hx6, hx7⟩, _⟩ := hx; go_simp; try with_reducible rfl
     refine rdH 9 (fun K hK => ?_)
     go_simp
     go_wp2_with fail
     refine (compareWrites_is _ _ _ _ _ _ _ _ r HR.out _).mono ?_
     rintro e w1 ⟨rfl, q1⟩
     have hS' := hS.later q1
     clear q1
     go_wp2_with fail
     refine hK.out _ _ hS' (fun hS => ?_)
     clear hK K hS'
     refine tkH 10 ?_ hS (fun wx hx => ?_) ?_; rotate_left
     ·obtain ⟨⟨hx0, hx1, hx2, hx3, hx4, hx5, hx6, hx7⟩, _⟩ := hx; go_simp; try with_reducible rfl
     refine tkH 11 ?_ hS (fun wx hx => ?_) ?_; rotate_left
     ·obtain ⟨⟨hx0, hx1, hx2, hx3, hx4, hx5, hx6, hx7⟩, _⟩ := hx; go_simp; try with_reducible rfl
     refine tkH 12 ?_ hS (fun wx hx => ?_) ?_; rotate_left
     ·obtain ⟨⟨hx0, hx1, hx2, hx3, hx4, hx5, hx6, hx7⟩, _⟩ := hx; go_simp; try with_reducible rfl
     refine tkH 13 ?_ hS (fun wx hx => ?_) ?_; rotate_left
     ·obtain ⟨⟨hx0, hx1, hx2, hx3, hx4, hx5, hx6, hx7⟩, _⟩ := hx; go_simp; try with_reducible rfl
     refine rdH 14 (fun K hK => ?_)
     go_simp
     go_wp2_with fail
     refine (D.out _).mono ?_
     rintro e w1 ⟨rfl, q1⟩
     have hS' := hS.later q1
     clear q1
     go_wp2_with fail
     refine hK.out _ _ hS' (fun hS => ?_)
     clear hK K hS'
     refine tkH 15 ?_ hS (fun wx hx => ?_) ?_; rotate_left
     ·obtain ⟨⟨hx0, hx1, hx2, hx3, hx4, hx5, hx6, hx7⟩, _⟩ := hx; go_simp; try with_reducible rfl
     refine tkH 16 ?_ hS (fun wx hx => ?_) ?_; rotate_left
     ·obtain ⟨⟨hx0, hx1, hx2, hx3, hx4, hx5, hx6, hx7⟩, _⟩ := hx; go_simp; try with_reducible rfl
     refine wpAnyH_done (by kernel_rfl) ?_ _
     go_simp
     go_wp2
     go_roundw
     case rel => exact ⟨k + 1, by omega, by go_num, E, hS.2⟩
     case measure => simp [intOf]; omega
   ·have D : Hid (∀ w, Calls Tryz.prog 94 #[.agg #[.int .i64 n0, .int .i64 n1, .int .i64 n2, .int .i64 4]] w fun e w' => e = .returned (.bool false) ∧ Below w.heap.size w w') := fun w => commitFits_is n0 n1 n2 4 false (decide_eq_false hf) w
    have hft : Hid (¬ fits S.k k) := fun h => hf (FT.out.1 h)
    clear hf
    rcases Nat.eq_zero_or_pos k with hk0 | hk0
    ·have E : Hid (scan (writeF S.k) S.nw = 1) := by
      have : writeF S.k k = 1 := by
       unfold writeF
       rw [NN.out.1, NN.out.2.1, NN.out.2.2.1, NN.out.2.2.2]
       rw [if_neg (fun h => h G0.out)]
       have g1 := G1.out; have g2 := G2.out; have g3 := G3.out; rw [if_neg (by omega)]
       rw [if_pos (Or.inr hft.out)]
      exact (scan_stop HS.out (by rw [this]; decide) hlt).trans this
     have dk : decide (0 < k) = false := decide_eq_false (by omega)
     have h0 : FirstWrite w wr.heap.size n0 n1 n2 4 (wr.alloc (.cells #[.int .i64 n0, .int .i64 n1, .int .i64 n2, .int .i64 4] 55)).drew := ⟨⟨World.cell?_alloc_mark wr _ _ _ 0, World.cell?_alloc_mark wr _ _ _ 1, World.cell?_alloc_mark wr _ _ _ 2, World.cell?_alloc_mark wr _ _ _ 3⟩, (hbw.alloc hbw.size _).drew⟩
     clear HS NN FT G0 G1 G2 G3 hk0 hft
     go_wp2_with fail
     refine (L0.out _).mono ?_
     rintro e w1 ⟨rfl, rfl⟩
     go_wp2_with fail
     refine (isTime_is _ true L1.out _).mono ?_
     rintro e w1 ⟨rfl, rfl⟩
     go_wp2_with fail
     refine (isTime_is _ true L2.out _).mono ?_
     rintro e w1 ⟨rfl, rfl⟩
     go_wp2_with fail
     refine (isLockKind_is _ false L3.out _).mono ?_
     rintro e w1 ⟨rfl, rfl⟩
     go_wp2_with fail
     refine wp_region_held_drew (S := FirstWrite w wr.heap.size n0 n1 n2 4) (by kernel_rfl) h0 (fun hS => ?_)
     clear h0
     refine tkH 0 ?_ hS (fun wx hx => ?_) ?_; rotate_left
     ·obtain ⟨⟨hx0, hx1, hx2, hx3⟩, _⟩ := hx; go_simp; try with_reducible rfl
     refine tkH 1 ?_ hS (fun wx hx => ?_) ?_; rotate_left
     ·obtain ⟨⟨hx0, hx1, hx2, hx3⟩, _⟩ := hx; go_simp; try with_reducible rfl
     refine tkH 2 ?_ hS (fun wx hx => ?_) ?_; rotate_left
     ·obtain ⟨⟨hx0, hx1, hx2, hx3⟩, _⟩ := hx; go_simp; try with_reducible rfl
     refine noH 3 hS ?_
     refine noH 4 hS ?_
     refine noH 5 hS ?_
     refine noH 6 hS ?_
     refine noH 7 hS ?_
     refine noH 8 hS ?_
     refine noH 9 hS ?_
     refine noH 10 hS ?_
     refine tkH 11 ?_ hS (fun wx hx => ?_) ?_; rotate_left
     ·obtain ⟨⟨hx0, hx1, hx2, hx3⟩, _⟩ := hx; go_simp; try with_reducible rfl
     refine tkH 12 ?_ hS (fun wx hx => ?_) ?_; rotate_left
     ·obtain ⟨⟨hx0, hx1, hx2, hx3⟩, _⟩ := hx; go_simp; try with_reducible rfl
     refine tkH 13 ?_ hS (fun wx hx => ?_) ?_; rotate_left
     ·obtain ⟨⟨hx0, hx1, hx2, hx3⟩, _⟩ := hx; go_simp; try with_reducible rfl
     refine rdH 14 (fun K hK => ?_)
     go_simp
     go_wp2_with fail
     refine (D.out _).mono ?_
     rintro e w1 ⟨rfl, q1⟩
     have hS' := hS.later q1
     clear q1
     go_wp2_with fail
     refine hK.out _ _ hS' (fun hS => ?_)
     clear hK K hS'
     refine tkH 15 ?_ hS (fun wx hx => ?_) ?_; rotate_left
     ·obtain ⟨⟨hx0, hx1, hx2, hx3⟩, _⟩ := hx; go_simp; try with_reducible rfl
     refine tkH 16 ?_ hS (fun wx hx => ?_) ?_; rotate_left
     ·obtain ⟨⟨hx0, hx1, hx2, hx3⟩, _⟩ := hx; go_simp; try with_reducible rfl
     refine wpAnyH_done (by kernel_rfl) ?_ _
     go_simp
     go_wp2
     go_ret
     exact ⟨by rw [E.out]; rfl, hS.2⟩
    obtain ⟨g', o', he, _, _, y0, y1, y2, y3⟩ := (H.out.later hbw).at4 (k := k - 1) (by omega)
    simp only [Option.some.injEq, Addr.mk.injEq, and_true] at he
    obtain ⟨rfl, rfl⟩ := he
    obtain ⟨m0, M0⟩ : ∃ x, S.k ((k - 1) * 4) = x := ⟨_, rfl⟩
    rw [M0] at y0
    obtain ⟨m1, M1⟩ : ∃ x, S.k ((k - 1) * 4 + 1) = x := ⟨_, rfl⟩
    rw [M1] at y1
    obtain ⟨m2, M2⟩ : ∃ x, S.k ((k - 1) * 4 + 2) = x := ⟨_, rfl⟩
    rw [M2] at y2
    obtain ⟨m3, M3⟩ : ∃ x, S.k ((k - 1) * 4 + 3) = x := ⟨_, rfl⟩
    rw [M3] at y3
    have MM : Hid (S.k ((k - 1) * 4) = m0 ∧ S.k ((k - 1) * 4 + 1) = m1) := ⟨M0, M1⟩
    clear M0 M1 M2 M3
    have dk : decide (0 < k) = true := decide_eq_true hk0
    have hwr := wrap_pred k hk0 (by omega)
    have hkn : ((k - 1 : Nat) : Int) < (S.nw : Int) := by omega
    obtain ⟨r, HR⟩ : ∃ r, Hid (orOf (cmpOf m0 n0) (cmpOf m1 n1) = r) := ⟨_, rfl⟩
    have HO : Hid (r < 0 ↔ m0 < n0 ∨ m0 = n0 ∧ m1 < n1) := by unfold Hid; rw [← HR.out]; exact orOf_neg _ _ _ _
    have h0 : PrevWrite w g o k wr.heap.size m0 m1 m2 m3 n0 n1 n2 4 (wr.alloc (.cells #[.int .i64 n0, .int .i64 n1, .int .i64 n2, .int .i64 4] 55)).drew := ⟨⟨(World.cell?_alloc_lt _ _ _ hg).trans y0, (World.cell?_alloc_lt _ _ _ hg).trans y1, (World.cell?_alloc_lt _ _ _ hg).trans y2, (World.cell?_alloc_lt _ _ _ hg).trans y3, World.cell?_alloc_mark wr _ _ _ 0, World.cell?_alloc_mark wr _ _ _ 1, World.cell?_alloc_mark wr _ _ _ 2, World.cell?_alloc_mark wr _ _ _ 3⟩, (hbw.alloc hbw.size _).drew⟩
    by_cases hr : 0 ≤ r
    ·have E : Hid (scan (writeF S.k) S.nw = 1) := by
      have : writeF S.k k = 1 := by
       unfold writeF
       rw [NN.out.1, NN.out.2.1, NN.out.2.2.1, NN.out.2.2.2]
       rw [if_neg (fun h => h G0.out)]
       have g1 := G1.out; have g2 := G2.out; have g3 := G3.out; rw [if_neg (by omega)]
       rw [MM.out.1, MM.out.2]
       have ho := HO.out
       rw [if_pos (Or.inl ⟨hk0, by omega⟩)]
      exact (scan_stop HS.out (by rw [this]; decide) hlt).trans this
     have dr : decide (0 ≤ r) = true := decide_eq_true hr
     clear HS NN FT G0 G1 G2 G3 MM HO hr hft
     go_wp2_with fail
     refine (L0.out _).mono ?_
     rintro e w1 ⟨rfl, rfl⟩
     go_wp2_with fail
     refine (isTime_is _ true L1.out _).mono ?_
     rintro e w1 ⟨rfl, rfl⟩
     go_wp2_with fail
     refine (isTime_is _ true L2.out _).mono ?_
     rintro e w1 ⟨rfl, rfl⟩
     go_wp2_with fail
     refine (isLockKind_is _ false L3.out _).mono ?_
     rintro e w1 ⟨rfl, rfl⟩
     go_wp2_with fail
     refine wp_region_held_drew (S := PrevWrite w g o k wr.heap.size m0 m1 m2 m3 n0 n1 n2 4) (by kernel_rfl) h0 (fun hS => ?_)
     clear h0
     refine tkH 0 ?_ hS (fun wx hx => ?_) ?_; rotate_left
     ·obtain ⟨⟨hx0, hx1, hx2, hx3, hx4, hx5, hx6, hx7⟩, _⟩ := hx; go_simp; try with_reducible rfl
     refine tkH 1 ?_ hS (fun wx hx => ?_) ?_; rotate_left
     ·obtain ⟨⟨hx0, hx1, hx2, hx3, hx4, hx5, hx6, hx7⟩, _⟩ := hx; go_simp; try with_reducible rfl
     refine tkH 2 ?_ hS (fun wx hx => ?_) ?_; rotate_left
     ·obtain ⟨⟨hx0, hx1, hx2, hx3, hx4, hx5, hx6, hx7⟩, _⟩ := hx; go_simp; try with_reducible rfl
     refine tkH 3 ?_ hS (fun wx hx => ?_) ?_; rotate_left
     ·obtain ⟨⟨hx0, hx1, hx2, hx3, hx4, hx5, hx6, hx7⟩, _⟩ := hx; go_simp; try with_reducible rfl
     refine tkH 4 ?_ hS (fun wx hx => ?_) ?_; rotate_left
     ·obtain ⟨⟨hx0, hx1, hx2, hx3, hx4, hx5, hx6, hx7⟩, _⟩ := hx; go_simp; try with_reducible rfl
     refine tkH 5 ?_ hS (fun wx hx => ?_) ?_; rotate_left
     ·obtain ⟨⟨hx0, hx1, hx2, hx3, hx4, hx5, hx6, hx7⟩, _⟩ := hx; go_simp; try with_reducible rfl
     refine tkH 6 ?_ hS (fun wx hx => ?_) ?_; rotate_left
     ·obtain ⟨⟨hx0, hx1, hx2, hx3, hx4, hx5, hx6, hx7⟩, _⟩ := hx; go_simp; try with_reducible rfl
     refine tkH 7 ?_ hS (fun wx hx => ?_) ?_; rotate_left
     ·obtain ⟨⟨hx0, hx1, hx2, hx3, hx4, hx5, hx6, hx7⟩, _⟩ := hx; go_simp; try with_reducible rfl
     refine tkH 8 ?_ hS (fun wx hx => ?_) ?_; rotate_left
     ·obtain ⟨⟨hx0, hx1, hx2, hx3, hx4, hx5, hx6, hx7⟩, _⟩ := hx; go_simp; try with_reducible rfl
     refine rdH 9 (fun K hK => ?_)
     go_simp
     go_wp2_with fail
     refine (compareWrites_is _ _ _ _ _ _ _ _ r HR.out _).mono ?_
     rintro e w1 ⟨rfl, q1⟩
     have hS' := hS.later q1
     clear q1
     go_wp2_with fail
     refine hK.out _ _ hS' (fun hS => ?_)
     clear hK K hS'
     refine tkH 10 ?_ hS (fun wx hx => ?_) ?_; rotate_left
     ·obtain ⟨⟨hx0, hx1, hx2, hx3, hx4, hx5, hx6, hx7⟩, _⟩ := hx; go_simp; try with_reducible rfl
     refine tkH 11 ?_ hS (fun wx hx => ?_) ?_; rotate_left
     ·obtain ⟨⟨hx0, hx1, hx2, hx3, hx4, hx5, hx6, hx7⟩, _⟩ := hx; go_simp; try with_reducible rfl
     refine tkH 12 ?_ hS (fun wx hx => ?_) ?_; rotate_left
     ·obtain ⟨⟨hx0, hx1, hx2, hx3, hx4, hx5, hx6, hx7⟩, _⟩ := hx; go_simp; try with_reducible rfl
     refine noH 13 hS ?_
     refine noH 14 hS ?_
     refine noH 15 hS ?_
     refine tkH 16 ?_ hS (fun wx hx => ?_) ?_; rotate_left
     ·obtain ⟨⟨hx0, hx1, hx2, hx3, hx4, hx5, hx6, hx7⟩, _⟩ := hx; go_simp; try with_reducible rfl
     refine wpAnyH_done (by kernel_rfl) ?_ _
     go_simp
     go_wp2
     go_ret
     exact ⟨by rw [E.out]; rfl, hS.2⟩
    ·have E : Hid (scan (writeF S.k) S.nw = 1) := by
      have : writeF S.k k = 1 := by
       unfold writeF
       rw [NN.out.1, NN.out.2.1, NN.out.2.2.1, NN.out.2.2.2]
       rw [if_neg (fun h => h G0.out)]
       have g1 := G1.out; have g2 := G2.out; have g3 := G3.out; rw [if_neg (by omega)]
       rw [MM.out.1, MM.out.2]
       have ho := HO.out
       rw [if_pos (Or.inr hft.out)]
      exact (scan_stop HS.out (by rw [this]; decide) hlt).trans this
     have dr : decide (0 ≤ r) = false := decide_eq_false hr
     clear HS NN FT G0 G1 G2 G3 MM HO hr hft
     go_wp2_with fail
     refine (L0.out _).mono ?_
     rintro e w1 ⟨rfl, rfl⟩
     go_wp2_with fail
     refine (isTime_is _ true L1.out _).mono ?_
     rintro e w1 ⟨rfl, rfl⟩
     go_wp2_with fail
     refine (isTime_is _ true L2.out _).mono ?_
     rintro e w1 ⟨rfl, rfl⟩
     go_wp2_with fail
     refine (isLockKind_is _ false L3.out _).mono ?_
     rintro e w1 ⟨rfl, rfl⟩
     go_wp2_with fail
     refine wp_region_held_drew (S := PrevWrite w g o k wr.heap.size m0 m1 m2 m3 n0 n1 n2 4) (by kernel_rfl) h0 (fun hS => ?_)
     clear h0
     refine tkH 0 ?_ hS (fun wx hx => ?_) ?_; rotate_left
     ·obtain ⟨⟨hx0, hx1, hx2, hx3, hx4, hx5, hx6, hx7⟩, _⟩ := hx; go_simp; try with_reducible rfl
     refine tkH 1 ?_ hS (fun wx hx => ?_) ?_; rotate_left
     ·obtain ⟨⟨hx0, hx1, hx2, hx3, hx4, hx5, hx6, hx7⟩, _⟩ := hx; go_simp; try with_reducible rfl
     refine tkH 2 ?_ hS (fun wx hx => ?_) ?_; rotate_left
     ·obtain ⟨⟨hx0, hx1, hx2, hx3, hx4, hx5, hx6, hx7⟩, _⟩ := hx; go_simp; try with_reducible rfl
     refine tkH 3 ?_ hS (fun wx hx => ?_) ?_; rotate_left
     ·obtain ⟨⟨hx0, hx1, hx2, hx3, hx4, hx5, hx6, hx7⟩, _⟩ := hx; go_simp; try with_reducible rfl
     refine tkH 4 ?_ hS (fun wx hx => ?_) ?_; rotate_left
     ·obtain ⟨⟨hx0, hx1, hx2, hx3, hx4, hx5, hx6, hx7⟩, _⟩ := hx; go_simp; try with_reducible rfl
     refine tkH 5 ?_ hS (fun wx hx => ?_) ?_; rotate_left
     ·obtain ⟨⟨hx0, hx1, hx2, hx3, hx4, hx5, hx6, hx7⟩, _⟩ := hx; go_simp; try with_reducible rfl
     refine tkH 6 ?_ hS (fun wx hx => ?_) ?_; rotate_left
     ·obtain ⟨⟨hx0, hx1, hx2, hx3, hx4, hx5, hx6, hx7⟩, _⟩ := hx; go_simp; try with_reducible rfl
     refine tkH 7 ?_ hS (fun wx hx => ?_) ?_; rotate_left
     ·obtain ⟨⟨hx0, hx1, hx2, hx3, hx4, hx5, hx6, hx7⟩, _⟩ := hx; go_simp; try with_reducible rfl
     refine tkH 8 ?_ hS (fun wx hx => ?_) ?_; rotate_left
     ·obtain ⟨⟨hx0, hx1, hx2, hx3, hx4, hx5, hx6, hx7⟩, _⟩ := hx; go_simp; try with_reducible rfl
     refine rdH 9 (fun K hK => ?_)
     go_simp
     go_wp2_with fail
     refine (compareWrites_is _ _ _ _ _ _ _ _ r HR.out _).mono ?_
     rintro e w1 ⟨rfl, q1⟩
     have hS' := hS.later q1
     clear q1
     go_wp2_with fail
     refine hK.out _ _ hS' (fun hS => ?_)
     clear hK K hS'
     refine tkH 10 ?_ hS (fun wx hx => ?_) ?_; rotate_left
     ·obtain ⟨⟨hx0, hx1, hx2, hx3, hx4, hx5, hx6, hx7⟩, _⟩ := hx; go_simp; try with_reducible rfl
     refine tkH 11 ?_ hS (fun wx hx => ?_) ?_; rotate_left
     ·obtain ⟨⟨hx0, hx1, hx2, hx3, hx4, hx5, hx6, hx7⟩, _⟩ := hx; go_simp; try with_reducible rfl
     refine tkH 12 ?_ hS (fun wx hx => ?_) ?_; rotate_left
     ·obtain ⟨⟨hx0, hx1, hx2, hx3, hx4, hx5, hx6, hx7⟩, _⟩ := hx; go_simp; try with_reducible rfl
     refine tkH 13 ?_ hS (fun wx hx => ?_) ?_; rotate_left
     ·obtain ⟨⟨hx0, hx1, hx2, hx3, hx4, hx5, hx6, hx7⟩, _⟩ := hx; go_simp; try with_reducible rfl
     refine rdH 14 (fun K hK => ?_)
     go_simp
     go_wp2_with fail
     refine (D.out _).mono ?_
     rintro e w1 ⟨rfl, q1⟩
     have hS' := hS.later q1
     clear q1
     go_wp2_with fail
     refine hK.out _ _ hS' (fun hS => ?_)
     clear hK K hS'
     refine tkH 15 ?_ hS (fun wx hx => ?_) ?_; rotate_left
     ·obtain ⟨⟨hx0, hx1, hx2, hx3, hx4, hx5, hx6, hx7⟩, _⟩ := hx; go_simp; try with_reducible rfl
     refine tkH 16 ?_ hS (fun wx hx => ?_) ?_; rotate_left
     ·obtain ⟨⟨hx0, hx1, hx2, hx3, hx4, hx5, hx6, hx7⟩, _⟩ := hx; go_simp; try with_reducible rfl
     refine wpAnyH_done (by kernel_rfl) ?_ _
     go_simp
     go_wp2
     go_ret
     exact ⟨by rw [E.out]; rfl, hS.2⟩
end Go.Proofs.YtiadbiiiikhfaaaGreatDoor

