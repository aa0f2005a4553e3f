/-
  Own text. Chapter 5: GrantMany of both sides answer one and the same; the walk of the law FnExactGrantMany.
-/
import Derived.Test.YtbljhkhpfhphgaaOrcC
import Derived.Test.YtbljhkhpfhphgaaOrcG
namespace Go.Proofs.Ytbljhkhpfhphgaa
open Go.RowKit

set_option maxHeartbeats 400000 in
theorem eqTimes_any (c x y : Int) (va vb : Value) (Ba Bb : Nat) (xs : List Int) (w : World) (ha : Ints w Ba va xs) (hb : Ints w Bb vb xs) (hl : xs.length ≤ 1000) :
    Calls Try.prog 23 #[.agg #[.int .i64 c, va, .int .i64 x, .int .i64 y], .agg #[.int .i64 c, vb, .int .i64 x, .int .i64 y]] w fun e w' => e = .returned (.bool true) ∧ Below w.heap.size w w' := by
  obtain ⟨ao, ca, rfl⟩ := ha.form
  obtain ⟨bo, cb, rfl⟩ := hb.form
  have H : Hid (∀ w2, Ints w2 Ba (.slice ao xs.length ca) xs → Ints w2 Bb (.slice bo xs.length cb) xs → Calls Try.prog 37 #[.slice ao xs.length ca, .slice bo xs.length cb] w2 fun e w' => e = .returned (.bool true) ∧ ∃ n, w' = w2.drewN n) := fun w2 h1 h2 => eqInts_any _ _ _ _ _ w2 h1 h2 hl
  have HA : Hid (Ints w Ba (.slice ao xs.length ca) xs) := ha
  have HB : Hid (Ints w Bb (.slice bo xs.length cb) xs) := hb
  clear ha hb
  go_enter Try.func23, Try.ntmps23
  go_wp2_with fail
  refine (H.out _ ((HA.out.alloc _).alloc _) ((HB.out.alloc _).alloc _)).mono ?_
  rintro e w' ⟨rfl, n, rfl⟩
  go_wp2_with fail
  refine (eqOracle_same x y _).mono ?_
  rintro e w' ⟨rfl, rfl⟩
  go_wp2
  go_ret
  exact ⟨rfl, by repeat (first | exact Below.refl _ _ | refine below_drewN ?_ _ | refine Below.alloc ?_ (by first | omega | (simp <;> omega)) _)⟩

set_option maxHeartbeats 400000 in
theorem markTimes_any (c x y : Int) (v : Value) (B : Nat) (xs : List Int) (k0 : Int) (w : World) (h : Ints w B v xs) (hl : xs.length ≤ 1000) (hk0 : 0 ≤ k0) (hk1 : k0 ≤ 1000000) :
    Calls Try.prog 24 #[.agg #[.int .i64 c, v, .int .i64 x, .int .i64 y], .int .i64 k0] w fun e w' => e = .returned (.int .i64 (k0 + xs.length)) ∧ Ints w' B v (up k0 xs.length) ∧ w.grownBy w' v.ownBlock := by
  obtain ⟨ao, ca, rfl⟩ := h.form
  have HA : Hid (∀ w2, Ints w2 B (.slice ao xs.length ca) xs → Calls Try.prog 38 #[.slice ao xs.length ca, .int .i64 k0] w2 fun e w' => e = .returned (.int .i64 (k0 + xs.length)) ∧ Ints w' B (.slice ao xs.length ca) (up k0 xs.length) ∧ w2.grownBy w' (Value.slice ao xs.length ca).ownBlock) := fun w2 h2 => markInts_any _ _ _ _ w2 h2 hl hk0 hk1
  have HI : Hid (Ints w B (.slice ao xs.length ca) xs) := h
  clear h
  go_enter Try.func24, Try.ntmps24
  go_wp2_with fail
  refine (HA.out _ (HI.out.alloc _)).mono ?_
  rintro e w1 ⟨rfl, hI, hG⟩
  have HR : Hid (Ints w1 B (.slice ao xs.length ca) (up k0 xs.length) ∧ w.grownBy w1 (Value.slice ao xs.length ca).ownBlock) := ⟨hI, grown_trans (grown_refl_alloc _ _) hG⟩
  clear hI hG
  go_wp2
  go_ret
  exact ⟨rfl, HR.out⟩

set_option maxHeartbeats 400000 in
theorem heldTimes_any (c x y : Int) (v : Value) (B n : Nat) (k0 : Int) (w : World) (h : Ints w B v (up k0 n)) (hl : n ≤ 1000) (hk0 : 0 ≤ k0) (hk1 : k0 ≤ 1000000) :
    Calls Try.prog 25 #[.agg #[.int .i64 c, v, .int .i64 x, .int .i64 y], .int .i64 k0] w fun e w' => e = .returned (.int .i64 (k0 + n)) ∧ Below w.heap.size w w' := by
  obtain ⟨ao, ca, rfl⟩ := h.form
  have HA : Hid (∀ w2, Ints w2 B (.slice ao (up k0 n).length ca) (up k0 n) → Calls Try.prog 39 #[.slice ao (up k0 n).length ca, .int .i64 k0] w2 fun e w' => e = .returned (.int .i64 (k0 + n)) ∧ w' = w2) := fun w2 h2 => heldInts_any _ _ _ _ w2 h2 hl hk0 hk1
  have HI : Hid (Ints w B (.slice ao (up k0 n).length ca) (up k0 n)) := h
  clear h
  go_enter Try.func25, Try.ntmps25
  go_wp2_with fail
  refine (HA.out _ (HI.out.alloc _)).mono ?_
  rintro e w1 ⟨rfl, rfl⟩
  go_wp2
  go_ret
  exact ⟨rfl, (Below.refl _ _).alloc (Nat.le_refl _) _⟩

/-- What both answer. -/
def ManyAns (f : FuncId) (a b n c : Int) (L : List Int) (x y : Int) : Prop := ∀ w, Calls Try.prog f #[.agg #[.int .i64 a, .int .i64 b], .int .i64 n] w fun e w' => ∃ v, e = .returned (.agg #[.int .i64 c, v, .int .i64 x, .int .i64 y]) ∧ Ints w' w.heap.size v L ∧ Below w.heap.size w w'
theorem many_both (a b n : Int) : ∃ (c : Int) (L : List Int) (x y : Int), L.length ≤ 100 ∧ Hid (ManyAns 12 a b n c L x y) ∧ Hid (ManyAns 11 a b n c L x y) := by
  by_cases h : oFault a b = 0
  · by_cases hn : n < 0 ∨ 100 < n
    · exact ⟨3, [], 0, 0, Nat.zero_le _, fun w => (specMany_range a b n w h hn).mono fun e w' ⟨he, hb⟩ => ⟨_, he, Ints.nil _ _, hb⟩, fun w => (implMany_range a b n w h hn).mono fun e w' ⟨he, hb⟩ => ⟨_, he, Ints.nil _ _, hb⟩⟩
    · obtain ⟨N, rfl⟩ : ∃ N : Nat, n = N := ⟨n.toNat, by omega⟩
      exact ⟨_, _, _, _, Nat.le_trans ansL_le (by omega), fun w => specMany_ok a b N w h (by omega), fun w => implMany_ok a b N w h (by omega)⟩
  · exact ⟨_, [], 0, 0, Nat.zero_le _, fun w => (specMany_bad a b n w h).mono fun e w' ⟨he, hb⟩ => ⟨_, he, Ints.nil _ _, hb⟩, fun w => (implMany_bad a b n w h).mono fun e w' ⟨he, hb⟩ => ⟨_, he, Ints.nil _ _, hb⟩⟩

set_option maxRecDepth 100000 in
set_option maxHeartbeats 4000000 in
theorem exactMany_walk (a b n : Int) (w : World) :
    Calls Try.prog 8 #[.agg #[.int .i64 a, .int .i64 b], .int .i64 n] w fun e w' => e = .returned (.bool true) ∧ Below w.heap.size w w' := by
  obtain ⟨c, L, x, y, hL, HS, HI⟩ := many_both a b n
  have HO : Hid (∀ w, Calls Try.prog 17 #[.agg #[.int .i64 a, .int .i64 b]] w fun e w' => e = .returned (.agg #[.int .i64 a, .int .i64 b]) ∧ Below w.heap.size w w') := fun w => toOracle_any a b w
  go_enter Try.func8, Try.ntmps8
  go_wp2_with fail
  refine (HO.out _).mono ?_
  rintro e w1 ⟨rfl, b1⟩
  have D : Hid (Blok w1 w.heap.size 36 #[.int .i64 a, .int .i64 b]) := (Blok.new w _ _).later b1 (by simp)
  have B : Hid (Below w.heap.size w w1) := ((Below.refl _ _).alloc (Nat.le_refl _) _).trans (b1.mono (by simp))
  clear b1
  go_wp2_with fail
  refine (HS.out _).mono ?_
  rintro e w2 ⟨v0, rfl, i2, b2⟩
  obtain ⟨o0, c0, rfl⟩ := i2.form
  replace D : Hid (Blok w2 w.heap.size 36 #[.int .i64 a, .int .i64 b]) := D.out.later b2 D.out.lt
  have I0 : Hid (Ints w2 w.heap.size (.slice o0 L.length c0) L) := i2.mono B.out.size
  replace B : Hid (Below w.heap.size w w2) := B.out.trans (b2.mono B.out.size)
  have h0 : Hid (∀ k, (Value.slice o0 L.length c0).ownBlock = some k → k < w2.heap.size) := fun k hk => (i2.lt k hk).2
  clear b2 i2
  have t0 : w2.cell? ⟨w.heap.size, 0, none⟩ = some (.int .i64 a) := D.out.cell rfl
  have t1 : w2.cell? ⟨w.heap.size, 1, none⟩ = some (.int .i64 b) := D.out.cell rfl
  have z2 := D.out.lt
  go_wp2_with fail
  refine (HO.out _).mono ?_
  rintro e w3 ⟨rfl, b3⟩
  have R0 : Hid (Blok w3 w2.heap.size 30 #[.int .i64 c, .slice o0 L.length c0, .int .i64 x, .int .i64 y]) := (Blok.new w2 _ _).later b3 (by simp)
  replace D : Hid (Blok w3 w.heap.size 36 #[.int .i64 a, .int .i64 b]) := (D.out.alloc _).later b3 (by simp; omega)
  replace I0 : Hid (Ints w3 w.heap.size (.slice o0 L.length c0) L) := (I0.out.alloc _).later b3
  replace B : Hid (Below w.heap.size w w3) := (B.out.alloc B.out.size _).trans (b3.mono (by have := B.out.size; simp; omega))
  have hw23 : w2.heap.size < w3.heap.size := by have := b3.size; simp at this; omega
  clear b3 t0 t1
  go_wp2_with fail
  refine (HI.out _).mono ?_
  rintro e w4 ⟨vg, rfl, i4, b4⟩
  obtain ⟨og, cg, rfl⟩ := i4.form
  have G : Hid (Ints w4 w3.heap.size (.slice og L.length cg) L) := i4
  replace R0 : Hid (Blok w4 w2.heap.size 30 #[.int .i64 c, .slice o0 L.length c0, .int .i64 x, .int .i64 y]) := R0.out.later b4 R0.out.lt
  replace D : Hid (Blok w4 w.heap.size 36 #[.int .i64 a, .int .i64 b]) := D.out.later b4 D.out.lt
  replace I0 : Hid (Ints w4 w.heap.size (.slice o0 L.length c0) L) := I0.out.later b4
  have hw34 : w3.heap.size ≤ w4.heap.size := b4.size
  replace B : Hid (Below w.heap.size w w4) := B.out.trans (b4.mono B.out.size)
  clear b4 i4
  have hg : Hid (∀ k, (Value.slice og L.length cg).ownBlock = some k → w3.heap.size ≤ k ∧ k < w4.heap.size) := G.out.lt
  have r0 : w4.cell? ⟨w2.heap.size, 0, none⟩ = some (.int .i64 c) := R0.out.cell rfl
  have r1 : w4.cell? ⟨w2.heap.size, 1, none⟩ = some (.slice o0 L.length c0) := R0.out.cell rfl
  have r2 : w4.cell? ⟨w2.heap.size, 2, none⟩ = some (.int .i64 x) := R0.out.cell rfl
  have r3 : w4.cell? ⟨w2.heap.size, 3, none⟩ = some (.int .i64 y) := R0.out.cell rfl
  have zr4 : w2.heap.size < w4.heap.size := R0.out.lt
  go_wp2_with fail
  refine (eqTimes_any c x y _ _ _ _ L _ (G.out.alloc _) (I0.out.alloc _) (by omega)).mono ?_
  rintro e w5 ⟨rfl, b5⟩
  simp only [World.size_alloc] at b5
  have R1 : Hid (Blok w5 w4.heap.size 30 #[.int .i64 c, .slice og L.length cg, .int .i64 x, .int .i64 y]) := (Blok.new w4 _ _).later b5 (by omega)
  replace R0 : Hid (Blok w5 w2.heap.size 30 #[.int .i64 c, .slice o0 L.length c0, .int .i64 x, .int .i64 y]) := (R0.out.alloc _).later b5 (by omega)
  replace D : Hid (Blok w5 w.heap.size 36 #[.int .i64 a, .int .i64 b]) := (D.out.alloc _).later b5 (by omega)
  have B45 : Below w4.heap.size w4 w5 := ((Below.refl _ _).alloc (Nat.le_refl _) _).trans (b5.mono (by omega))
  replace I0 : Hid (Ints w5 w.heap.size (.slice o0 L.length c0) L) := I0.out.later B45
  replace G : Hid (Ints w5 w3.heap.size (.slice og L.length cg) L) := G.out.later B45
  replace B : Hid (Below w.heap.size w w5) := B.out.trans (B45.mono B.out.size)
  clear b5 B45 r0 r1 r2 r3
  have s0 : w5.cell? ⟨w4.heap.size, 0, none⟩ = some (.int .i64 c) := R1.out.cell rfl
  have s1 : w5.cell? ⟨w4.heap.size, 1, none⟩ = some (.slice og L.length cg) := R1.out.cell rfl
  have s2 : w5.cell? ⟨w4.heap.size, 2, none⟩ = some (.int .i64 x) := R1.out.cell rfl
  have s3 : w5.cell? ⟨w4.heap.size, 3, none⟩ = some (.int .i64 y) := R1.out.cell rfl
  go_wp2_with fail
  refine (markTimes_any c x y _ _ L 1 _ G.out (by omega) (by omega) (by omega)).mono ?_
  rintro e w6 ⟨rfl, i6, g6⟩
  replace R1 : Hid (Blok w6 w4.heap.size 30 #[.int .i64 c, .slice og L.length cg, .int .i64 x, .int .i64 y]) := R1.out.kept g6 (fun e => by have := hg.out _ e.symm; omega)
  replace R0 : Hid (Blok w6 w2.heap.size 30 #[.int .i64 c, .slice o0 L.length c0, .int .i64 x, .int .i64 y]) := R0.out.kept g6 (fun e => by have := hg.out _ e.symm; omega)
  replace D : Hid (Blok w6 w.heap.size 36 #[.int .i64 a, .int .i64 b]) := D.out.kept g6 (fun e => by have := hg.out _ e.symm; omega)
  replace I0 : Hid (Ints w6 w.heap.size (.slice o0 L.length c0) L) := I0.out.grown g6 (fun k hk e => by have := hg.out k e; have := h0.out k hk; omega)
  replace B : Hid (Below w.heap.size w w6) := B.out.grown g6 B.out.size (fun k hk => by have := hg.out k hk; omega)
  have G6 : Hid (Ints w6 w3.heap.size (.slice og L.length cg) (up 1 L.length)) := i6
  clear i6 g6 s0 s1 s2 s3 G
  have s0 : w6.cell? ⟨w4.heap.size, 0, none⟩ = some (.int .i64 c) := R1.out.cell rfl
  have s1 : w6.cell? ⟨w4.heap.size, 1, none⟩ = some (.slice og L.length cg) := R1.out.cell rfl
  have s2 : w6.cell? ⟨w4.heap.size, 2, none⟩ = some (.int .i64 x) := R1.out.cell rfl
  have s3 : w6.cell? ⟨w4.heap.size, 3, none⟩ = some (.int .i64 y) := R1.out.cell rfl
  go_wp2_with fail
  refine (heldTimes_any c x y _ _ L.length 1 _ G6.out (by omega) (by omega) (by omega)).mono ?_
  rintro e w7 ⟨rfl, b7⟩
  replace R1 : Hid (Blok w7 w4.heap.size 30 #[.int .i64 c, .slice og L.length cg, .int .i64 x, .int .i64 y]) := R1.out.later b7 R1.out.lt
  replace R0 : Hid (Blok w7 w2.heap.size 30 #[.int .i64 c, .slice o0 L.length c0, .int .i64 x, .int .i64 y]) := R0.out.later b7 R0.out.lt
  replace D : Hid (Blok w7 w.heap.size 36 #[.int .i64 a, .int .i64 b]) := D.out.later b7 D.out.lt
  replace I0 : Hid (Ints w7 w.heap.size (.slice o0 L.length c0) L) := I0.out.later b7
  replace G6 : Hid (Ints w7 w3.heap.size (.slice og L.length cg) (up 1 L.length)) := G6.out.later b7
  replace B : Hid (Below w.heap.size w w7) := B.out.trans (b7.mono B.out.size)
  clear b7 s0 s1 s2 s3
  have t0 : w7.cell? ⟨w.heap.size, 0, none⟩ = some (.int .i64 a) := D.out.cell rfl
  have t1 : w7.cell? ⟨w.heap.size, 1, none⟩ = some (.int .i64 b) := D.out.cell rfl
  go_wp2_with fail
  refine (HO.out _).mono ?_
  rintro e w8 ⟨rfl, b8⟩
  replace R1 : Hid (Blok w8 w4.heap.size 30 #[.int .i64 c, .slice og L.length cg, .int .i64 x, .int .i64 y]) := R1.out.later b8 R1.out.lt
  replace R0 : Hid (Blok w8 w2.heap.size 30 #[.int .i64 c, .slice o0 L.length c0, .int .i64 x, .int .i64 y]) := R0.out.later b8 R0.out.lt
  replace I0 : Hid (Ints w8 w.heap.size (.slice o0 L.length c0) L) := I0.out.later b8
  replace G6 : Hid (Ints w8 w3.heap.size (.slice og L.length cg) (up 1 L.length)) := G6.out.later b8
  replace B : Hid (Below w.heap.size w w8) := B.out.trans (b8.mono B.out.size)
  clear b8 t0 t1 D
  go_wp2_with fail
  refine (HI.out _).mono ?_
  rintro e w9 ⟨vh, rfl, i9, b9⟩
  obtain ⟨oh, ch, rfl⟩ := i9.form
  have H : Hid (Ints w9 w8.heap.size (.slice oh L.length ch) L) := i9
  replace R1 : Hid (Blok w9 w4.heap.size 30 #[.int .i64 c, .slice og L.length cg, .int .i64 x, .int .i64 y]) := R1.out.later b9 R1.out.lt
  replace R0 : Hid (Blok w9 w2.heap.size 30 #[.int .i64 c, .slice o0 L.length c0, .int .i64 x, .int .i64 y]) := R0.out.later b9 R0.out.lt
  replace I0 : Hid (Ints w9 w.heap.size (.slice o0 L.length c0) L) := I0.out.later b9
  replace G6 : Hid (Ints w9 w3.heap.size (.slice og L.length cg) (up 1 L.length)) := G6.out.later b9
  replace B : Hid (Below w.heap.size w w9) := B.out.trans (b9.mono B.out.size)
  clear b9 i9
  have r0 : w9.cell? ⟨w2.heap.size, 0, none⟩ = some (.int .i64 c) := R0.out.cell rfl
  have r1 : w9.cell? ⟨w2.heap.size, 1, none⟩ = some (.slice o0 L.length c0) := R0.out.cell rfl
  have r2 : w9.cell? ⟨w2.heap.size, 2, none⟩ = some (.int .i64 x) := R0.out.cell rfl
  have r3 : w9.cell? ⟨w2.heap.size, 3, none⟩ = some (.int .i64 y) := R0.out.cell rfl
  have zr := R0.out.lt
  go_wp2_with fail
  refine (eqTimes_any c x y _ _ _ _ L _ (H.out.alloc _) (I0.out.alloc _) (by omega)).mono ?_
  rintro e w10 ⟨rfl, b10⟩
  have B90 : Below w9.heap.size w9 w10 := ((Below.refl _ _).alloc (Nat.le_refl _) _).trans (b10.mono (by simp))
  replace R1 : Hid (Blok w10 w4.heap.size 30 #[.int .i64 c, .slice og L.length cg, .int .i64 x, .int .i64 y]) := R1.out.later B90 R1.out.lt
  replace G6 : Hid (Ints w10 w3.heap.size (.slice og L.length cg) (up 1 L.length)) := G6.out.later B90
  replace B : Hid (Below w.heap.size w w10) := B.out.trans (B90.mono B.out.size)
  clear b10 B90 r0 r1 r2 r3 R0 I0 H zr
  have s0 : w10.cell? ⟨w4.heap.size, 0, none⟩ = some (.int .i64 c) := R1.out.cell rfl
  have s1 : w10.cell? ⟨w4.heap.size, 1, none⟩ = some (.slice og L.length cg) := R1.out.cell rfl
  have s2 : w10.cell? ⟨w4.heap.size, 2, none⟩ = some (.int .i64 x) := R1.out.cell rfl
  have s3 : w10.cell? ⟨w4.heap.size, 3, none⟩ = some (.int .i64 y) := R1.out.cell rfl
  go_wp2_with fail
  refine (heldTimes_any c x y _ _ L.length 1 _ G6.out (by omega) (by omega) (by omega)).mono ?_
  rintro e w11 ⟨rfl, b11⟩
  replace B : Hid (Below w.heap.size w w11) := B.out.trans (b11.mono B.out.size)
  clear b11 s0 s1 s2 s3
  go_wp2
  go_ret
  exact ⟨rfl, B.out⟩
end Go.Proofs.Ytbljhkhpfhphgaa
