/-
  Own text, merged of JoiW, ColsZ, AppR, JoiB, PartA, SrtP, KeysA, ColsP, ColsM, KeysB.
-/
import Derived.Test.YtknbeggnlhiamaaGreatPk1
namespace Go.Proofs.YtknbeggnlhiamaaGreat
open Go.RowKit

theorem hidJ {p : Prop} (h : p) : Hid p := h
theorem within_setJ (x : World) (b j : Nat) (u : Value) : Within b (b + 1) x (x.setCell ⟨b, j, none⟩ u) := ⟨rfl, rfl, rfl, by simp [World.setCell], fun q _ ho => Below.heap_setCell x _ u q (by show q ≠ b; omega)⟩
theorem within_set4J (x : World) (b : Nat) (u0 u1 u2 u3 : Value) : Within b (b + 1) x ((((x.setCell ⟨b, 0, none⟩ u0).setCell ⟨b, 1, none⟩ u1).setCell ⟨b, 2, none⟩ u2).setCell ⟨b, 3, none⟩ u3) := (((within_setJ x b 0 u0).trans (within_setJ _ b 1 u1)).trans (within_setJ _ b 2 u2)).trans (within_setJ _ b 3 u3)
theorem Pkg.within {w x x' : World} {v0 v1 v2 u0 u1 u2 : Value} {B E : Nat} (h : Pkg w v0 v1 v2 u0 u1 u2 x) (hw : Within B E x x') (hL : w.heap.size + 1 < B) : Pkg w v0 v1 v2 u0 u1 u2 x' :=
  ⟨hw.below h.1 (by omega), h.2.1.within hw (Or.inl (by omega)), h.2.2.within hw (Or.inl hL)⟩
theorem Pkg.drew {w x : World} {v0 v1 v2 u0 u1 u2 : Value} (h : Pkg w v0 v1 v2 u0 u1 u2 x) : Pkg w v0 v1 v2 u0 u1 u2 x.drew := ⟨h.1.drew, h.2⟩
/-- The law's own stores; what the model answered (block W); the stores that were handed over (blocks X, Z); what the program answered (block G). -/
def LawJ (w : World) (v0 v1 v2 y0 y1 y2 : Value) (W : Nat) (c : Int) (m0 m1 m2 : Value) (X : Nat) (x0 x1 x2 : Value) (Z : Nat) (z0 z1 z2 : Value) (G : Nat) (g0 g1 g2 : Value) (x : World) : Prop :=
  Pkg w v0 v1 v2 y0 y1 y2 x ∧ Blk4 x W (.int .i64 c) m0 m1 m2 ∧ Blk3 x X x0 x1 x2 ∧ Blk3 x Z z0 z1 z2 ∧ Blk4 x G (.int .i64 c) g0 g1 g2
section
variable {w x x' : World} {v0 v1 v2 y0 y1 y2 : Value} {W : Nat} {c : Int} {m0 m1 m2 : Value} {X : Nat} {x0 x1 x2 : Value} {Z : Nat} {z0 z1 z2 : Value} {G : Nat} {g0 g1 g2 : Value}
theorem LawJ.later (h : LawJ w v0 v1 v2 y0 y1 y2 W c m0 m1 m2 X x0 x1 x2 Z z0 z1 z2 G g0 g1 g2 x) (hb : Below x.heap.size x x') : LawJ w v0 v1 v2 y0 y1 y2 W c m0 m1 m2 X x0 x1 x2 Z z0 z1 z2 G g0 g1 g2 x' :=
  ⟨h.1.later hb, h.2.1.later hb, h.2.2.1.later hb, h.2.2.2.1.later hb, h.2.2.2.2.later hb⟩
theorem LawJ.within {B E : Nat} (h : LawJ w v0 v1 v2 y0 y1 y2 W c m0 m1 m2 X x0 x1 x2 Z z0 z1 z2 G g0 g1 g2 x) (hw : Within B E x x') (hL : w.heap.size + 1 < B) (hW : W < B ∨ E ≤ W) (hX : X < B ∨ E ≤ X) (hZ : Z < B ∨ E ≤ Z) (hG : G < B ∨ E ≤ G) : LawJ w v0 v1 v2 y0 y1 y2 W c m0 m1 m2 X x0 x1 x2 Z z0 z1 z2 G g0 g1 g2 x' :=
  ⟨h.1.within hw hL, h.2.1.within hw hW, h.2.2.1.within hw hX, h.2.2.2.1.within hw hZ, h.2.2.2.2.within hw hG⟩
theorem LawJ.drew (h : LawJ w v0 v1 v2 y0 y1 y2 W c m0 m1 m2 X x0 x1 x2 Z z0 z1 z2 G g0 g1 g2 x) : LawJ w v0 v1 v2 y0 y1 y2 W c m0 m1 m2 X x0 x1 x2 Z z0 z1 z2 G g0 g1 g2 x.drew := ⟨h.1.drew, h.2⟩
/-- .. and the rows of both answers, those of the program's numbered. -/
def EndJ (w : World) (v0 v1 v2 y0 y1 y2 : Value) (W : Nat) (c : Int) (m0 m1 m2 : Value) (X : Nat) (x0 x1 x2 : Value) (Z : Nat) (z0 z1 z2 : Value) (G : Nat) (g0 g1 g2 : Value) (R : Sto) (B : Nat) (x : World) : Prop :=
  LawJ w v0 v1 v2 y0 y1 y2 W c m0 m1 m2 X x0 x1 x2 Z z0 z1 z2 G g0 g1 g2 x ∧ St x w.heap.size R m0 m1 m2 ∧ St x B (markS R) g0 g1 g2
theorem EndJ.later {R : Sto} {B : Nat} (h : EndJ w v0 v1 v2 y0 y1 y2 W c m0 m1 m2 X x0 x1 x2 Z z0 z1 z2 G g0 g1 g2 R B x) (hb : Below x.heap.size x x') : EndJ w v0 v1 v2 y0 y1 y2 W c m0 m1 m2 X x0 x1 x2 Z z0 z1 z2 G g0 g1 g2 R B x' := ⟨h.1.later hb, h.2.1.later hb, h.2.2.later hb⟩
end
set_option maxRecDepth 100000 in
set_option maxHeartbeats 2000000 in
theorem markStoreJ (S : Sto) (v0 v1 v2 : Value) (B E : Nat) (k0 : Int) (hk0 : 0 ≤ k0) (hk1 : k0 ≤ 10000000) (w : World) (h : St w B S v0 v1 v2) (hf : FreeS w S v0 v1 v2) (ha : ApartS S v0 v1 v2) (hE : (0 < S.nc → ∀ k, v0.ownBlock = some k → k < E) ∧ (0 < S.nl → ∀ k, v1.ownBlock = some k → k < E) ∧ (0 < S.nw → ∀ k, v2.ownBlock = some k → k < E)) (hEw : E ≤ w.heap.size) (hc : S.nc ≤ 1048576) (hl : S.nl ≤ 1048576) (hk : S.nw ≤ 1048576) :
    Calls Tryz.prog 10 #[.agg #[v0, v1, v2], .int .i64 k0] w fun e w' => e = .returned (.int .i64 (k0 + S.nc * 3 + S.nl * 5 + S.nw * 4)) ∧ Within B E w w' := by
  obtain ⟨a0, c0, a1, c1, a2, c2, rfl, rfl, rfl⟩ := h.form
  have H : Hid (St w B S (.slice a0 S.nc c0) (.slice a1 S.nl c1) (.slice a2 S.nw c2) ∧ FreeS w S (.slice a0 S.nc c0) (.slice a1 S.nl c1) (.slice a2 S.nw c2)) := ⟨h, hf⟩
  obtain ⟨z1, z2, hz, A0, A1, A2⟩ := ha
  have HA : Hid (z1 ≤ z2 ∧ (0 < S.nc → ∀ k, (Value.slice a0 S.nc c0).ownBlock = some k → B ≤ k ∧ k < E ∧ k < z1) ∧ (0 < S.nl → ∀ k, (Value.slice a1 S.nl c1).ownBlock = some k → B ≤ k ∧ k < E ∧ z1 ≤ k ∧ k < z2) ∧ (0 < S.nw → ∀ k, (Value.slice a2 S.nw c2).ownBlock = some k → B ≤ k ∧ k < E ∧ z2 ≤ k)) :=
    ⟨hz, fun hn k q => ⟨(h.1.lt hn k q).1, hE.1 hn k q, A0 hn k q⟩, fun hn k q => ⟨(h.2.1.lt hn k q).1, hE.2.1 hn k q, A1 hn k q⟩, fun hn k q => ⟨(h.2.2.lt hn k q).1, hE.2.2 hn k q, A2 hn k q⟩⟩
  clear h hf hz A0 A1 A2 hE
  go_enter Tryz.func10, Tryz.ntmps10
  go_wp2_with fail
  refine (markCellS_turn _ B S.nc S.c k0 _ (H.out.1.1.alloc _) (H.out.2.1.ofRow H.out.1.1 (below_alloc _ _)) hc (by omega) (by omega)).mono ?_
  rintro e w1 ⟨rfl, _, _, g1⟩
  have hb1 : w1.heap[w.heap.size]? = (w.alloc (.cells #[.slice a0 S.nc c0, .slice a1 S.nl c1, .slice a2 S.nw c2] 32)).heap[w.heap.size]? := g1.block _ (by simp) (fun q => by have := turn_off HA.out.2.1 _ q.symm; omega)
  have W1 : Hid (Within B E w w1) := (Within.grow (below_alloc w _)).trans (Within.of g1 (fun b q => by have := turn_off HA.out.2.1 b q; omega))
  have K1 : Hid (Blk3 w1 w.heap.size (.slice a0 S.nc c0) (.slice a1 S.nl c1) (.slice a2 S.nw c2)) := (Blk3.new w _ _ _ _).kept hb1
  have R1 : Hid (Row w1 B 5 S.nl S.l (.slice a1 S.nl c1) ∧ Free w1 (S.nl * 5) (.slice a1 S.nl c1)) :=
    ⟨(H.out.1.2.1.alloc _).turned g1 (fun hn k q e => by have := HA.out.2.2.1 hn k q; have := turn_off HA.out.2.1 k e.symm; omega), (H.out.2.2.1.ofRow H.out.1.2.1 (below_alloc _ _)).turned (H.out.1.2.1.alloc _) g1 (fun hn k q e => by have := HA.out.2.2.1 hn k q; have := turn_off HA.out.2.1 k e.symm; omega)⟩
  have T1 : Hid (Row w1 B 4 S.nw S.k (.slice a2 S.nw c2) ∧ Free w1 (S.nw * 4) (.slice a2 S.nw c2)) :=
    ⟨(H.out.1.2.2.alloc _).turned g1 (fun hn k q e => by have := HA.out.2.2.2 hn k q; have := turn_off HA.out.2.1 k e.symm; have := HA.out.1; omega), (H.out.2.2.2.ofRow H.out.1.2.2 (below_alloc _ _)).turned (H.out.1.2.2.alloc _) g1 (fun hn k q e => by have := HA.out.2.2.2 hn k q; have := turn_off HA.out.2.1 k e.symm; have := HA.out.1; omega)⟩
  obtain ⟨⟨p0, p1, p2⟩, _⟩ := K1.out
  clear hb1 g1 H
  go_wp2_with fail
  refine (markLockS_turn _ B S.nl S.l _ _ R1.out.1 R1.out.2 hl (by omega) (by omega)).mono ?_
  rintro e w2 ⟨rfl, _, _, g2⟩
  have W2 : Hid (Within B E w w2) := W1.out.trans (Within.of g2 (fun b q => by have := turn_off HA.out.2.2.1 b q; omega))
  have K2 : Hid (Blk3 w2 w.heap.size (.slice a0 S.nc c0) (.slice a1 S.nl c1) (.slice a2 S.nw c2)) := K1.out.kept (g2.block _ K1.out.lt (fun q => by have := turn_off HA.out.2.2.1 _ q.symm; omega))
  have T2 : Hid (Row w2 B 4 S.nw S.k (.slice a2 S.nw c2) ∧ Free w2 (S.nw * 4) (.slice a2 S.nw c2)) :=
    ⟨T1.out.1.turned g2 (fun hn k q e => by have := HA.out.2.2.2 hn k q; have := turn_off HA.out.2.2.1 k e.symm; omega), T1.out.2.turned T1.out.1 g2 (fun hn k q e => by have := HA.out.2.2.2 hn k q; have := turn_off HA.out.2.2.1 k e.symm; omega)⟩
  clear p0 p1 p2 g2 T1 R1 K1 W1
  obtain ⟨⟨p0, p1, p2⟩, _⟩ := K2.out
  go_wp2_with fail
  refine (markWriteS_turn _ B S.nw S.k _ _ T2.out.1 T2.out.2 hk (by omega) (by omega)).mono ?_
  rintro e w3 ⟨rfl, _, _, g3⟩
  have W3 : Hid (Within B E w w3) := W2.out.trans (Within.of g3 (fun b q => by have := turn_off HA.out.2.2.2 b q; omega))
  clear p0 p1 p2 g3 T2 K2 W2
  go_wp2
  go_ret
  exact ⟨rfl, W3.out⟩
set_option maxRecDepth 100000 in
set_option maxHeartbeats 16000000 in
theorem exactJoinStores_walk (A T : Sto) (v0 v1 v2 u0 u1 u2 : Value) (w : World) (h : St w 0 A v0 v1 v2) (h' : St w 0 T u0 u1 u2) (hc : A.nc ≤ 9223372036854775807) (hl : A.nl ≤ 9223372036854775807) (hk : A.nw ≤ 9223372036854775807) (hc' : T.nc ≤ 9223372036854775807) (hl' : T.nl ≤ 9223372036854775807) (hk' : T.nw ≤ 9223372036854775807)
    (ans : ∃ c R, (R.nc ≤ 1048576 ∧ R.nl ≤ 1048576 ∧ R.nw ≤ 1048576) ∧
      (∀ v0 v1 v2 y0 y1 y2 x, St x 0 A v0 v1 v2 → St x 0 T y0 y1 y2 → Calls Tryz.prog 5 #[.agg #[v0, v1, v2], .agg #[y0, y1, y2]] x (ResSto x c R)) ∧
      (∀ v0 v1 v2 y0 y1 y2 x, St x 0 A v0 v1 v2 → St x 0 T y0 y1 y2 → Calls Tryz.prog 7 #[.agg #[v0, v1, v2], .agg #[y0, y1, y2]] x (ResSto x c R))) :
    Calls Tryz.prog 3 #[.agg #[v0, v1, v2], .agg #[u0, u1, u2]] w fun e w' => e = .returned (.bool true) ∧ Below w.heap.size w w' := by
  obtain ⟨a0, c0, a1, c1, a2, c2, rfl, rfl, rfl⟩ := h.form
  obtain ⟨b0, d0, b1, d1, b2, d2, rfl, rfl, rfl⟩ := h'.form
  have H : Hid (St w 0 A (.slice a0 A.nc c0) (.slice a1 A.nl c1) (.slice a2 A.nw c2)) := h
  have H' : Hid (St w 0 T (.slice b0 T.nc d0) (.slice b1 T.nl d1) (.slice b2 T.nw d2)) := h'
  clear h h'
  by_cases hs : (1048576 : Int) < (A.nc : Int) + A.nl + A.nw
  · clear ans
    go_enter Tryz.func3, Tryz.ntmps3
    go_wp2_with fail
    refine (szStore_no 1048576 _ _ _ _ _ _ _ _ _ _ hs (by omega) (by omega) hc hl hk).mono ?_
    rintro e w1 ⟨rfl, q1⟩
    have Q : Hid (Below w.heap.size w w1) := (((below_alloc _ _).alloc (by simp) _)).trans (q1.mono (by simp; omega))
    clear q1
    go_wp2
    go_ret
    exact ⟨rfl, Q.out⟩
  have hs' : (A.nc : Int) + A.nl + A.nw ≤ 1048576 := by omega
  clear hs
  by_cases ht : (1048576 : Int) - A.nc - A.nl - A.nw < (T.nc : Int) + T.nl + T.nw
  · clear ans
    go_enter Tryz.func3, Tryz.ntmps3
    go_wp2_with fail
    refine (szStore_ok 1048576 _ _ _ _ _ _ _ _ _ _ hs' (by omega) (by omega) hc hl hk).mono ?_
    rintro e w1 ⟨rfl, q1⟩
    have P1 : Hid (Pkg w (.slice a0 A.nc c0) (.slice a1 A.nl c1) (.slice a2 A.nw c2) (.slice b0 T.nc d0) (.slice b1 T.nl d1) (.slice b2 T.nw d2) w1) := (Pkg.new w _ _ _ _ _ _).later q1
    obtain ⟨_, _, ⟨p0, p1, p2⟩, _⟩ := P1.out
    clear q1
    go_wp2_with fail
    refine (szStore_no _ _ _ _ _ _ _ _ _ _ _ ht (by omega) (by omega) hc' hl' hk').mono ?_
    rintro e w2 ⟨rfl, q2⟩
    have P2 : Hid (Pkg w (.slice a0 A.nc c0) (.slice a1 A.nl c1) (.slice a2 A.nw c2) (.slice b0 T.nc d0) (.slice b1 T.nl d1) (.slice b2 T.nw d2) w2) := P1.out.later q2
    clear q2 p0 p1 p2 P1
    go_wp2
    go_ret
    exact ⟨rfl, P2.out.1⟩
  have ht' : (T.nc : Int) + T.nl + T.nw ≤ (1048576 : Int) - A.nc - A.nl - A.nw := by omega
  clear ht
  have Hb : Hid ((A.nc ≤ 1048576 ∧ A.nl ≤ 1048576 ∧ A.nw ≤ 1048576) ∧ T.nc ≤ 1048576 ∧ T.nl ≤ 1048576 ∧ T.nw ≤ 1048576) := ⟨⟨by omega, by omega, by omega⟩, by omega, by omega, by omega⟩
  obtain ⟨c, R, hR, hspec, himpl⟩ := ans
  have HR : Hid (R.nc ≤ 1048576 ∧ R.nl ≤ 1048576 ∧ R.nw ≤ 1048576) := hR
  have HS : Hid (∀ v0 v1 v2 y0 y1 y2 x, St x 0 A v0 v1 v2 → St x 0 T y0 y1 y2 → Calls Tryz.prog 5 #[.agg #[v0, v1, v2], .agg #[y0, y1, y2]] x (ResSto x c R)) := hspec
  have HI : Hid (∀ v0 v1 v2 y0 y1 y2 x, St x 0 A v0 v1 v2 → St x 0 T y0 y1 y2 → Calls Tryz.prog 7 #[.agg #[v0, v1, v2], .agg #[y0, y1, y2]] x (ResSto x c R)) := himpl
  have dr : decide ((1 : Int) + R.nc * 3 + R.nl * 5 + R.nw * 4 < 0) = false := decide_eq_false (by omega)
  clear hspec himpl hR
  go_enter Tryz.func3, Tryz.ntmps3
  go_wp2_with fail
  refine (szStore_ok 1048576 _ _ _ _ _ _ _ _ _ _ hs' (by omega) (by omega) hc hl hk).mono ?_
  rintro e w1 ⟨rfl, q1⟩
  have P1 : Hid (Pkg w (.slice a0 A.nc c0) (.slice a1 A.nl c1) (.slice a2 A.nw c2) (.slice b0 T.nc d0) (.slice b1 T.nl d1) (.slice b2 T.nw d2) w1) := (Pkg.new w _ _ _ _ _ _).later q1
  obtain ⟨_, _, ⟨p0, p1, p2⟩, _⟩ := P1.out
  clear q1
  go_wp2_with fail
  refine (szStore_ok _ _ _ _ _ _ _ _ _ _ _ ht' (by omega) (by omega) hc' hl' hk').mono ?_
  rintro e w2 ⟨rfl, q2⟩
  have P2 : Hid (Pkg w (.slice a0 A.nc c0) (.slice a1 A.nl c1) (.slice a2 A.nw c2) (.slice b0 T.nc d0) (.slice b1 T.nl d1) (.slice b2 T.nw d2) w2) := P1.out.later q2
  clear q2 p0 p1 p2 P1
  have dz : decide ((1048576 : Int) - A.nc - A.nl - A.nw - T.nc - T.nl - T.nw < 0) = false := decide_eq_false (by omega)
  have dk : decide ((1 : Int) + A.nc * 3 + A.nl * 5 + A.nw * 4 + T.nc * 3 + T.nl * 5 + T.nw * 4 < 0) = false := decide_eq_false (by omega)
  clear hc hl hk hc' hl' hk' hs' ht'
  go_upto_region 8 with fail
  go_cut [6] (fun p wx => ∃ W m0 p0 m1 p1 m2 p2, p = .pointer (some ⟨W, 0, none⟩) ∧ Hid (Pkg w (.slice a0 A.nc c0) (.slice a1 A.nl c1) (.slice a2 A.nw c2) (.slice b0 T.nc d0) (.slice b1 T.nl d1) (.slice b2 T.nw d2) wx ∧ Blk4 wx W (.int .i64 c) (.slice m0 R.nc p0) (.slice m1 R.nl p1) (.slice m2 R.nw p2) ∧ St wx w.heap.size R (.slice m0 R.nc p0) (.slice m1 R.nl p1) (.slice m2 R.nw p2)))
  case first =>
    refine wp_region_held_drew (S := Pkg w (.slice a0 A.nc c0) (.slice a1 A.nl c1) (.slice a2 A.nw c2) (.slice b0 T.nc d0) (.slice b1 T.nl d1) (.slice b2 T.nw d2)) (by kernel_rfl) P2.out.drew (fun hS => ?_)
    clear P2
    generalize w2.drew = y0 at hS ⊢
    refine tkH 0 ?_ hS (fun wx hx => ?_) ?_; rotate_left
    · obtain ⟨_, ⟨⟨hx0, hx1, hx2⟩, _⟩, ⟨hx3, hx4, hx5⟩, _⟩ := hx; go_simp; try with_reducible rfl
    refine tkH 2 ?_ hS (fun wx hx => ?_) ?_; rotate_left
    · obtain ⟨_, ⟨⟨hx0, hx1, hx2⟩, _⟩, ⟨hx3, hx4, hx5⟩, _⟩ := hx; go_simp; try with_reducible rfl
    refine wpAnyH_ready (rs := [1, 5]) (by kernel_rfl) (by simp) ?_
    refine AllReadyH.cons rfl (fun K hK => ?_) (AllReadyH.cons rfl (fun K hK => ?_) AllReadyH.nil)
    focus
      go_simp
      go_wp2_with fail
      refine (toStore_any A _ _ _ 0 _ (H.out.later hS.1) Hb.out.1.1 Hb.out.1.2.1 Hb.out.1.2.2).mono ?_
      rintro e y1 ⟨x0, x1, x2, rfl, s1, _, q5⟩
      have X1 : Hid (St y1 0 A x0 x1 x2) := s1.mono (Nat.zero_le _)
      have hS' := hS.later q5
      clear s1 q5
      go_wp2_with fail
      refine hK.out _ _ hS' (fun hS => ?_)
      clear hK K hS'
      refine wpAnyH_ready (rs := [3, 5]) (by kernel_rfl) (by simp) ?_
      refine AllReadyH.cons rfl (fun K hK => ?_) (AllReadyH.cons rfl (fun K hK => ?_) AllReadyH.nil)
      focus
        go_simp
        go_wp2_with fail
        refine (toStore_any T _ _ _ 0 _ (H'.out.later hS.1) Hb.out.2.1 Hb.out.2.2.1 Hb.out.2.2.2).mono ?_
        rintro e y2 ⟨z0, z1, z2, rfl, s1, _, q5⟩
        have X1' := X1.out.later q5
        clear X1
        have X1 := hidJ X1'
        clear X1'
        have X2 : Hid (St y2 0 T z0 z1 z2) := s1.mono (Nat.zero_le _)
        have hS' := hS.later q5
        clear s1 q5
        go_wp2_with fail
        refine hK.out _ _ hS' (fun hS => ?_)
        clear hK K hS'
        refine wpAnyH_ready (rs := [4, 5]) (by kernel_rfl) (by simp) ?_
        refine AllReadyH.cons rfl (fun K hK => ?_) (AllReadyH.cons rfl (fun K hK => ?_) AllReadyH.nil)
        focus
          go_simp
          go_wp2_with fail
          refine (HS.out _ _ _ _ _ _ _ X1.out X2.out).mono ?_
          rintro e y3 ⟨m0, p0, m1, p1, m2, p2, rfl, ⟨rw5, _, _⟩, q5⟩
          have RW : Hid (St y3 w.heap.size R (.slice m0 R.nc p0) (.slice m1 R.nl p1) (.slice m2 R.nw p2)) := rw5.mono hS.1.size
          have hS' := hS.later q5
          clear rw5 X1 X2 q5
          go_wp2_with fail
          refine hK.out _ _ hS' (fun hS => ?_)
          clear hK K hS'
          refine rdH 5 (fun K hK => ?_)
          obtain ⟨W, hW⟩ : ∃ W, y3.heap.size = W := ⟨_, rfl⟩
          have ZW : Hid (Blk4 (y3.alloc (.cells #[.int .i64 0, .slice none 0 0, .slice none 0 0, .slice none 0 0] 34)) W (.int .i64 0) (.slice none 0 0) (.slice none 0 0) (.slice none 0 0)) := by rw [← hW]; exact Blk4.new _ _ _ _ _ _
          have HWb : Hid (w.heap.size + 1 < W) := by rw [← hW]; exact hS.2.2.lt
          have hS' := hS.later (below_alloc y3 (.cells #[.int .i64 0, .slice none 0 0, .slice none 0 0, .slice none 0 0] 34))
          have NW : Hid (OwnIn R (.slice m0 R.nc p0) (.slice m1 R.nl p1) (.slice m2 R.nw p2) (fun k => k < W ∨ W < k)) := RW.out.ownIn.mono (fun k hk => by omega)
          have RW' := RW.out.later (below_alloc y3 (.cells #[.int .i64 0, .slice none 0 0, .slice none 0 0, .slice none 0 0] 34))
          clear RW
          have RW := hidJ RW'
          clear RW'
          go_simp
          refine hK.out _ _ hS' (fun hS => ?_)
          clear hK K hS' hW
          generalize y3.alloc (.cells #[.int .i64 0, .slice none 0 0, .slice none 0 0, .slice none 0 0] 34) = y4 at ZW hS RW ⊢
        rotate_left
        focus
          obtain ⟨W, hW⟩ : ∃ W, y2.heap.size = W := ⟨_, rfl⟩
          have ZW : Hid (Blk4 (y2.alloc (.cells #[.int .i64 0, .slice none 0 0, .slice none 0 0, .slice none 0 0] 34)) W (.int .i64 0) (.slice none 0 0) (.slice none 0 0) (.slice none 0 0)) := by rw [← hW]; exact Blk4.new _ _ _ _ _ _
          have HWb : Hid (w.heap.size + 1 < W) := by rw [← hW]; exact hS.2.2.lt
          have hS' := hS.later (below_alloc y2 (.cells #[.int .i64 0, .slice none 0 0, .slice none 0 0, .slice none 0 0] 34))
          have X1' := X1.out.later (below_alloc y2 (.cells #[.int .i64 0, .slice none 0 0, .slice none 0 0, .slice none 0 0] 34))
          clear X1
          have X1 := hidJ X1'
          clear X1'
          have X2' := X2.out.later (below_alloc y2 (.cells #[.int .i64 0, .slice none 0 0, .slice none 0 0, .slice none 0 0] 34))
          clear X2
          have X2 := hidJ X2'
          clear X2'
          go_simp
          refine hK.out _ _ hS' (fun hS => ?_)
          clear hK K hS' hW
          generalize y2.alloc (.cells #[.int .i64 0, .slice none 0 0, .slice none 0 0, .slice none 0 0] 34) = y3 at ZW hS X1 X2 ⊢
          refine rdH 4 (fun K hK => ?_)
          go_simp
          go_wp2_with fail
          refine (HS.out _ _ _ _ _ _ _ X1.out X2.out).mono ?_
          rintro e y4 ⟨m0, p0, m1, p1, m2, p2, rfl, ⟨rw5, _, _⟩, q5⟩
          have RW : Hid (St y4 w.heap.size R (.slice m0 R.nc p0) (.slice m1 R.nl p1) (.slice m2 R.nw p2)) := rw5.mono hS.1.size
          have NW : Hid (OwnIn R (.slice m0 R.nc p0) (.slice m1 R.nl p1) (.slice m2 R.nw p2) (fun k => k < W ∨ W < k)) := rw5.ownIn.mono (fun k hk => by have := ZW.out.lt; omega)
          have ZW' := ZW.out.later q5
          clear ZW
          have ZW := hidJ ZW'
          clear ZW'
          have hS' := hS.later q5
          clear rw5 X1 X2 q5
          go_wp2_with fail
          refine hK.out _ _ hS' (fun hS => ?_)
          clear hK K hS'
        rotate_left
      rotate_left 2
      focus
        obtain ⟨W, hW⟩ : ∃ W, y1.heap.size = W := ⟨_, rfl⟩
        have ZW : Hid (Blk4 (y1.alloc (.cells #[.int .i64 0, .slice none 0 0, .slice none 0 0, .slice none 0 0] 34)) W (.int .i64 0) (.slice none 0 0) (.slice none 0 0) (.slice none 0 0)) := by rw [← hW]; exact Blk4.new _ _ _ _ _ _
        have HWb : Hid (w.heap.size + 1 < W) := by rw [← hW]; exact hS.2.2.lt
        have hS' := hS.later (below_alloc y1 (.cells #[.int .i64 0, .slice none 0 0, .slice none 0 0, .slice none 0 0] 34))
        have X1' := X1.out.later (below_alloc y1 (.cells #[.int .i64 0, .slice none 0 0, .slice none 0 0, .slice none 0 0] 34))
        clear X1
        have X1 := hidJ X1'
        clear X1'
        go_simp
        refine hK.out _ _ hS' (fun hS => ?_)
        clear hK K hS' hW
        generalize y1.alloc (.cells #[.int .i64 0, .slice none 0 0, .slice none 0 0, .slice none 0 0] 34) = y2 at ZW hS X1 ⊢
        refine rdH 3 (fun K hK => ?_)
        go_simp
        go_wp2_with fail
        refine (toStore_any T _ _ _ 0 _ (H'.out.later hS.1) Hb.out.2.1 Hb.out.2.2.1 Hb.out.2.2.2).mono ?_
        rintro e y3 ⟨z0, z1, z2, rfl, s1, _, q5⟩
        have X1' := X1.out.later q5
        clear X1
        have X1 := hidJ X1'
        clear X1'
        have X2 : Hid (St y3 0 T z0 z1 z2) := s1.mono (Nat.zero_le _)
        have ZW' := ZW.out.later q5
        clear ZW
        have ZW := hidJ ZW'
        clear ZW'
        have hS' := hS.later q5
        clear s1 q5
        go_wp2_with fail
        refine hK.out _ _ hS' (fun hS => ?_)
        clear hK K hS'
        refine rdH 4 (fun K hK => ?_)
        go_simp
        go_wp2_with fail
        refine (HS.out _ _ _ _ _ _ _ X1.out X2.out).mono ?_
        rintro e y4 ⟨m0, p0, m1, p1, m2, p2, rfl, ⟨rw5, _, _⟩, q5⟩
        have RW : Hid (St y4 w.heap.size R (.slice m0 R.nc p0) (.slice m1 R.nl p1) (.slice m2 R.nw p2)) := rw5.mono hS.1.size
        have NW : Hid (OwnIn R (.slice m0 R.nc p0) (.slice m1 R.nl p1) (.slice m2 R.nw p2) (fun k => k < W ∨ W < k)) := rw5.ownIn.mono (fun k hk => by have := ZW.out.lt; omega)
        have ZW' := ZW.out.later q5
        clear ZW
        have ZW := hidJ ZW'
        clear ZW'
        have hS' := hS.later q5
        clear rw5 X1 X2 q5
        go_wp2_with fail
        refine hK.out _ _ hS' (fun hS => ?_)
        clear hK K hS'
      rotate_left
    rotate_left 3
    focus
      obtain ⟨W, hW⟩ : ∃ W, y0.heap.size = W := ⟨_, rfl⟩
      have ZW : Hid (Blk4 (y0.alloc (.cells #[.int .i64 0, .slice none 0 0, .slice none 0 0, .slice none 0 0] 34)) W (.int .i64 0) (.slice none 0 0) (.slice none 0 0) (.slice none 0 0)) := by rw [← hW]; exact Blk4.new _ _ _ _ _ _
      have HWb : Hid (w.heap.size + 1 < W) := by rw [← hW]; exact hS.2.2.lt
      have hS' := hS.later (below_alloc y0 (.cells #[.int .i64 0, .slice none 0 0, .slice none 0 0, .slice none 0 0] 34))
      go_simp
      refine hK.out _ _ hS' (fun hS => ?_)
      clear hK K hS' hW
      generalize y0.alloc (.cells #[.int .i64 0, .slice none 0 0, .slice none 0 0, .slice none 0 0] 34) = y1 at ZW hS  ⊢
      refine rdH 1 (fun K hK => ?_)
      go_simp
      go_wp2_with fail
      refine (toStore_any A _ _ _ 0 _ (H.out.later hS.1) Hb.out.1.1 Hb.out.1.2.1 Hb.out.1.2.2).mono ?_
      rintro e y2 ⟨x0, x1, x2, rfl, s1, _, q5⟩
      have X1 : Hid (St y2 0 A x0 x1 x2) := s1.mono (Nat.zero_le _)
      have ZW' := ZW.out.later q5
      clear ZW
      have ZW := hidJ ZW'
      clear ZW'
      have hS' := hS.later q5
      clear s1 q5
      go_wp2_with fail
      refine hK.out _ _ hS' (fun hS => ?_)
      clear hK K hS'
      refine rdH 3 (fun K hK => ?_)
      go_simp
      go_wp2_with fail
      refine (toStore_any T _ _ _ 0 _ (H'.out.later hS.1) Hb.out.2.1 Hb.out.2.2.1 Hb.out.2.2.2).mono ?_
      rintro e y3 ⟨z0, z1, z2, rfl, s1, _, q5⟩
      have X1' := X1.out.later q5
      clear X1
      have X1 := hidJ X1'
      clear X1'
      have X2 : Hid (St y3 0 T z0 z1 z2) := s1.mono (Nat.zero_le _)
      have ZW' := ZW.out.later q5
      clear ZW
      have ZW := hidJ ZW'
      clear ZW'
      have hS' := hS.later q5
      clear s1 q5
      go_wp2_with fail
      refine hK.out _ _ hS' (fun hS => ?_)
      clear hK K hS'
      refine rdH 4 (fun K hK => ?_)
      go_simp
      go_wp2_with fail
      refine (HS.out _ _ _ _ _ _ _ X1.out X2.out).mono ?_
      rintro e y4 ⟨m0, p0, m1, p1, m2, p2, rfl, ⟨rw5, _, _⟩, q5⟩
      have RW : Hid (St y4 w.heap.size R (.slice m0 R.nc p0) (.slice m1 R.nl p1) (.slice m2 R.nw p2)) := rw5.mono hS.1.size
      have NW : Hid (OwnIn R (.slice m0 R.nc p0) (.slice m1 R.nl p1) (.slice m2 R.nw p2) (fun k => k < W ∨ W < k)) := rw5.ownIn.mono (fun k hk => by have := ZW.out.lt; omega)
      have ZW' := ZW.out.later q5
      clear ZW
      have ZW := hidJ ZW'
      clear ZW'
      have hS' := hS.later q5
      clear rw5 X1 X2 q5
      go_wp2_with fail
      refine hK.out _ _ hS' (fun hS => ?_)
      clear hK K hS'
    rotate_left
    all_goals
      refine rdH 6 (fun K hK => ?_)
      obtain ⟨⟨z0, z1, z2, z3⟩, zf0, zf1, zf2, zf3⟩ := ZW.out
      have KW := hidJ (ZW.out.put (.int .i64 c) (.slice m0 R.nc p0) (.slice m1 R.nl p1) (.slice m2 R.nw p2))
      have RX := hidJ (RW.out.within (within_set4J _ W (.int .i64 c) (.slice m0 R.nc p0) (.slice m1 R.nl p1) (.slice m2 R.nw p2)) (NW.out.mono (fun k hk => by omega)))
      have hS' := hS.within (within_set4J _ W (.int .i64 c) (.slice m0 R.nc p0) (.slice m1 R.nl p1) (.slice m2 R.nw p2)) HWb.out
      go_simp
      refine hK.out _ _ hS' (fun hS => ?_)
      clear hK K hS' z0 z1 z2 z3 zf0 zf1 zf2 zf3 ZW RW NW
      refine wpAnyH_done (by kernel_rfl) ?_ _
      go_simp
      go_wp2_with fail
      go_meet
      case rel => exact ⟨W, m0, p0, m1, p1, m2, p2, rfl, hidJ ⟨hS, KW.out, RX.out⟩⟩
  case rest =>
  obtain ⟨W5, m0, p0, m1, p1, m2, p2, rfl, P5⟩ := hcut
  clear P2 HS
  obtain ⟨w5, rfl⟩ : ∃ x, x = wc := ⟨_, rfl⟩
  have LW : Hid (OwnIn R (.slice m0 R.nc p0) (.slice m1 R.nl p1) (.slice m2 R.nw p2) (fun k => k < w5.heap.size)) := P5.out.2.2.ownIn.mono (fun k hk => hk.2)
  have zw5 : Hid (w.heap.size + 1 < w5.heap.size ∧ W5 < w5.heap.size) := ⟨P5.out.1.2.2.lt, P5.out.2.1.lt⟩
  obtain ⟨⟨f0, f1, f2⟩, _⟩ := P5.out.1.2.1
  go_wp2_with fail
  refine (toStore_any A _ _ _ 0 _ (H.out.later P5.out.1.1) Hb.out.1.1 Hb.out.1.2.1 Hb.out.1.2.2).mono ?_
  rintro e w6 ⟨x0, x1, x2, rfl, s6, fa6, q6⟩
  obtain ⟨j0, k0, j1, k1, j2, k2, rfl, rfl, rfl⟩ := s6.form
  have zz6 : Hid (w5.heap.size ≤ w6.heap.size) := q6.size
  have S6 : Hid ((St w6 w5.heap.size A (.slice j0 A.nc k0) (.slice j1 A.nl k1) (.slice j2 A.nw k2) ∧ FreeS w6 A (.slice j0 A.nc k0) (.slice j1 A.nl k1) (.slice j2 A.nw k2)) ∧ ApartS A (.slice j0 A.nc k0) (.slice j1 A.nl k1) (.slice j2 A.nw k2)) := ⟨⟨s6, fa6.1⟩, fa6.2⟩
  have E6 : Hid (OwnIn A (.slice j0 A.nc k0) (.slice j1 A.nl k1) (.slice j2 A.nw k2) (fun k => k < w6.heap.size)) := s6.ownIn.mono (fun k hk => hk.2)
  have P6 : Hid (Pkg w (.slice a0 A.nc c0) (.slice a1 A.nl c1) (.slice a2 A.nw c2) (.slice b0 T.nc d0) (.slice b1 T.nl d1) (.slice b2 T.nw d2) w6 ∧ Blk4 w6 W5 (.int .i64 c) (.slice m0 R.nc p0) (.slice m1 R.nl p1) (.slice m2 R.nw p2) ∧ St w6 w.heap.size R (.slice m0 R.nc p0) (.slice m1 R.nl p1) (.slice m2 R.nw p2)) := ⟨P5.out.1.later q6, P5.out.2.1.later q6, P5.out.2.2.later q6⟩
  clear s6 fa6 q6 P5 f0 f1 f2
  obtain ⟨⟨f0, f1, f2⟩, _⟩ := P6.out.1.2.2
  have z6 := P6.out.1.2.2.lt
  go_upto_region 10 with fail
  have q7 := below_alloc w6 (.cells #[.slice j0 A.nc k0, .slice j1 A.nl k1, .slice j2 A.nw k2] 32)
  have S7 : Hid (((St (w6.alloc (.cells #[.slice j0 A.nc k0, .slice j1 A.nl k1, .slice j2 A.nw k2] 32)) w5.heap.size A (.slice j0 A.nc k0) (.slice j1 A.nl k1) (.slice j2 A.nw k2) ∧ FreeS (w6.alloc (.cells #[.slice j0 A.nc k0, .slice j1 A.nl k1, .slice j2 A.nw k2] 32)) A (.slice j0 A.nc k0) (.slice j1 A.nl k1) (.slice j2 A.nw k2)) ∧ ApartS A (.slice j0 A.nc k0) (.slice j1 A.nl k1) (.slice j2 A.nw k2)) ∧ Blk3 (w6.alloc (.cells #[.slice j0 A.nc k0, .slice j1 A.nl k1, .slice j2 A.nw k2] 32)) w6.heap.size (.slice j0 A.nc k0) (.slice j1 A.nl k1) (.slice j2 A.nw k2)) := ⟨⟨⟨S6.out.1.1.later q7, S6.out.1.2.later S6.out.1.1 q7⟩, S6.out.2⟩, Blk3.new _ _ _ _ _⟩
  have P7 : Hid (Pkg w (.slice a0 A.nc c0) (.slice a1 A.nl c1) (.slice a2 A.nw c2) (.slice b0 T.nc d0) (.slice b1 T.nl d1) (.slice b2 T.nw d2) (w6.alloc (.cells #[.slice j0 A.nc k0, .slice j1 A.nl k1, .slice j2 A.nw k2] 32)) ∧ Blk4 (w6.alloc (.cells #[.slice j0 A.nc k0, .slice j1 A.nl k1, .slice j2 A.nw k2] 32)) W5 (.int .i64 c) (.slice m0 R.nc p0) (.slice m1 R.nl p1) (.slice m2 R.nw p2) ∧ St (w6.alloc (.cells #[.slice j0 A.nc k0, .slice j1 A.nl k1, .slice j2 A.nw k2] 32)) w.heap.size R (.slice m0 R.nc p0) (.slice m1 R.nl p1) (.slice m2 R.nw p2)) := ⟨P6.out.1.later q7, P6.out.2.1.later q7, P6.out.2.2.later q7⟩
  have hs7 : Hid ((w6.alloc (.cells #[.slice j0 A.nc k0, .slice j1 A.nl k1, .slice j2 A.nw k2] 32)).heap.size = w6.heap.size + 1) := World.size_alloc _ _
  generalize w6.alloc (.cells #[.slice j0 A.nc k0, .slice j1 A.nl k1, .slice j2 A.nw k2] 32) = w7 at S7 P7 hs7 ⊢
  clear q7 S6 P6 f0 f1 f2 z6
  obtain ⟨⟨f0, f1, f2⟩, _⟩ := P7.out.1.2.2
  go_wp2_with fail
  refine (toStore_any T _ _ _ 0 _ (H'.out.later P7.out.1.1) Hb.out.2.1 Hb.out.2.2.1 Hb.out.2.2.2).mono ?_
  rintro e w8 ⟨x0, x1, x2, rfl, s8, fa8, q8⟩
  obtain ⟨l0, o0, l1, o1, l2, o2, rfl, rfl, rfl⟩ := s8.form
  have zz8 : Hid (w6.heap.size + 1 ≤ w8.heap.size) := by have h7 := hs7.out; have := q8.size; unfold Hid; omega
  have T8 : Hid ((St w8 (w6.heap.size + 1) T (.slice l0 T.nc o0) (.slice l1 T.nl o1) (.slice l2 T.nw o2) ∧ FreeS w8 T (.slice l0 T.nc o0) (.slice l1 T.nl o1) (.slice l2 T.nw o2)) ∧ ApartS T (.slice l0 T.nc o0) (.slice l1 T.nl o1) (.slice l2 T.nw o2)) := ⟨⟨by have h7 := hs7.out; rw [h7] at s8; exact s8, fa8.1⟩, fa8.2⟩
  have E8 : Hid (OwnIn T (.slice l0 T.nc o0) (.slice l1 T.nl o1) (.slice l2 T.nw o2) (fun k => k < w8.heap.size)) := s8.ownIn.mono (fun k hk => hk.2)
  have S8 : Hid (((St w8 w5.heap.size A (.slice j0 A.nc k0) (.slice j1 A.nl k1) (.slice j2 A.nw k2) ∧ FreeS w8 A (.slice j0 A.nc k0) (.slice j1 A.nl k1) (.slice j2 A.nw k2)) ∧ ApartS A (.slice j0 A.nc k0) (.slice j1 A.nl k1) (.slice j2 A.nw k2)) ∧ Blk3 w8 w6.heap.size (.slice j0 A.nc k0) (.slice j1 A.nl k1) (.slice j2 A.nw k2)) := ⟨⟨⟨S7.out.1.1.1.later q8, S7.out.1.1.2.later S7.out.1.1.1 q8⟩, S7.out.1.2⟩, S7.out.2.later q8⟩
  have P8 : Hid (Pkg w (.slice a0 A.nc c0) (.slice a1 A.nl c1) (.slice a2 A.nw c2) (.slice b0 T.nc d0) (.slice b1 T.nl d1) (.slice b2 T.nw d2) w8 ∧ Blk4 w8 W5 (.int .i64 c) (.slice m0 R.nc p0) (.slice m1 R.nl p1) (.slice m2 R.nw p2) ∧ St w8 w.heap.size R (.slice m0 R.nc p0) (.slice m1 R.nl p1) (.slice m2 R.nw p2)) := ⟨P7.out.1.later q8, P7.out.2.1.later q8, P7.out.2.2.later q8⟩
  clear s8 fa8 q8 P7 S7 f0 f1 f2 hs7
  obtain ⟨⟨f0, f1, f2⟩, _⟩ := S8.out.2
  have z8 := S8.out.2.lt
  go_upto_region 11 with fail
  have q9 := below_alloc w8 (.cells #[.slice l0 T.nc o0, .slice l1 T.nl o1, .slice l2 T.nw o2] 32)
  have T9 : Hid (((St (w8.alloc (.cells #[.slice l0 T.nc o0, .slice l1 T.nl o1, .slice l2 T.nw o2] 32)) (w6.heap.size + 1) T (.slice l0 T.nc o0) (.slice l1 T.nl o1) (.slice l2 T.nw o2) ∧ FreeS (w8.alloc (.cells #[.slice l0 T.nc o0, .slice l1 T.nl o1, .slice l2 T.nw o2] 32)) T (.slice l0 T.nc o0) (.slice l1 T.nl o1) (.slice l2 T.nw o2)) ∧ ApartS T (.slice l0 T.nc o0) (.slice l1 T.nl o1) (.slice l2 T.nw o2)) ∧ Blk3 (w8.alloc (.cells #[.slice l0 T.nc o0, .slice l1 T.nl o1, .slice l2 T.nw o2] 32)) w8.heap.size (.slice l0 T.nc o0) (.slice l1 T.nl o1) (.slice l2 T.nw o2)) := ⟨⟨⟨T8.out.1.1.later q9, T8.out.1.2.later T8.out.1.1 q9⟩, T8.out.2⟩, Blk3.new _ _ _ _ _⟩
  have S9 : Hid (((St (w8.alloc (.cells #[.slice l0 T.nc o0, .slice l1 T.nl o1, .slice l2 T.nw o2] 32)) w5.heap.size A (.slice j0 A.nc k0) (.slice j1 A.nl k1) (.slice j2 A.nw k2) ∧ FreeS (w8.alloc (.cells #[.slice l0 T.nc o0, .slice l1 T.nl o1, .slice l2 T.nw o2] 32)) A (.slice j0 A.nc k0) (.slice j1 A.nl k1) (.slice j2 A.nw k2)) ∧ ApartS A (.slice j0 A.nc k0) (.slice j1 A.nl k1) (.slice j2 A.nw k2)) ∧ Blk3 (w8.alloc (.cells #[.slice l0 T.nc o0, .slice l1 T.nl o1, .slice l2 T.nw o2] 32)) w6.heap.size (.slice j0 A.nc k0) (.slice j1 A.nl k1) (.slice j2 A.nw k2)) := ⟨⟨⟨S8.out.1.1.1.later q9, S8.out.1.1.2.later S8.out.1.1.1 q9⟩, S8.out.1.2⟩, S8.out.2.later q9⟩
  have P9 : Hid (Pkg w (.slice a0 A.nc c0) (.slice a1 A.nl c1) (.slice a2 A.nw c2) (.slice b0 T.nc d0) (.slice b1 T.nl d1) (.slice b2 T.nw d2) (w8.alloc (.cells #[.slice l0 T.nc o0, .slice l1 T.nl o1, .slice l2 T.nw o2] 32)) ∧ Blk4 (w8.alloc (.cells #[.slice l0 T.nc o0, .slice l1 T.nl o1, .slice l2 T.nw o2] 32)) W5 (.int .i64 c) (.slice m0 R.nc p0) (.slice m1 R.nl p1) (.slice m2 R.nw p2) ∧ St (w8.alloc (.cells #[.slice l0 T.nc o0, .slice l1 T.nl o1, .slice l2 T.nw o2] 32)) w.heap.size R (.slice m0 R.nc p0) (.slice m1 R.nl p1) (.slice m2 R.nw p2)) := ⟨P8.out.1.later q9, P8.out.2.1.later q9, P8.out.2.2.later q9⟩
  have hs9 : Hid ((w8.alloc (.cells #[.slice l0 T.nc o0, .slice l1 T.nl o1, .slice l2 T.nw o2] 32)).heap.size = w8.heap.size + 1) := World.size_alloc _ _
  generalize w8.alloc (.cells #[.slice l0 T.nc o0, .slice l1 T.nl o1, .slice l2 T.nw o2] 32) = w9 at T9 S9 P9 hs9 ⊢
  clear q9 T8 S8 P8 f0 f1 f2 z8
  obtain ⟨⟨f0, f1, f2⟩, _⟩ := S9.out.2
  obtain ⟨⟨f3, f4, f5⟩, _⟩ := T9.out.2
  go_wp2_with fail
  refine (HI.out _ _ _ _ _ _ _ (S9.out.1.1.1.mono (Nat.zero_le _)) (T9.out.1.1.1.mono (Nat.zero_le _))).mono ?_
  rintro e w10 ⟨g0, q0, g1, q1, g2, q2, rfl, ⟨rg, fg, ag⟩, qa⟩
  have zz10 : Hid (w8.heap.size + 1 ≤ w10.heap.size) := by have h9 := hs9.out; have := qa.size; unfold Hid; omega
  have qb := below_alloc w10 (.cells #[.int .i64 c, .slice g0 R.nc q0, .slice g1 R.nl q1, .slice g2 R.nw q2] 34)
  rw [hs9.out] at rg
  have LG : Hid (OwnIn R (.slice g0 R.nc q0) (.slice g1 R.nl q1) (.slice g2 R.nw q2) (fun k => w8.heap.size + 1 ≤ k ∧ k < w10.heap.size)) := rg.ownIn
  have L11 : Hid (LawJ w (.slice a0 A.nc c0) (.slice a1 A.nl c1) (.slice a2 A.nw c2) (.slice b0 T.nc d0) (.slice b1 T.nl d1) (.slice b2 T.nw d2) W5 c (.slice m0 R.nc p0) (.slice m1 R.nl p1) (.slice m2 R.nw p2) w6.heap.size (.slice j0 A.nc k0) (.slice j1 A.nl k1) (.slice j2 A.nw k2) w8.heap.size (.slice l0 T.nc o0) (.slice l1 T.nl o1) (.slice l2 T.nw o2) w10.heap.size (.slice g0 R.nc q0) (.slice g1 R.nl q1) (.slice g2 R.nw q2) (w10.alloc (.cells #[.int .i64 c, .slice g0 R.nc q0, .slice g1 R.nl q1, .slice g2 R.nw q2] 34))) := ⟨(P9.out.1.later qa).later qb, (P9.out.2.1.later qa).later qb, (S9.out.2.later qa).later qb, (T9.out.2.later qa).later qb, Blk4.new _ _ _ _ _ _⟩
  have R11 : Hid (St (w10.alloc (.cells #[.int .i64 c, .slice g0 R.nc q0, .slice g1 R.nl q1, .slice g2 R.nw q2] 34)) w.heap.size R (.slice m0 R.nc p0) (.slice m1 R.nl p1) (.slice m2 R.nw p2)) := (P9.out.2.2.later qa).later qb
  have G11 : Hid ((St (w10.alloc (.cells #[.int .i64 c, .slice g0 R.nc q0, .slice g1 R.nl q1, .slice g2 R.nw q2] 34)) (w8.heap.size + 1) R (.slice g0 R.nc q0) (.slice g1 R.nl q1) (.slice g2 R.nw q2) ∧ FreeS (w10.alloc (.cells #[.int .i64 c, .slice g0 R.nc q0, .slice g1 R.nl q1, .slice g2 R.nw q2] 34)) R (.slice g0 R.nc q0) (.slice g1 R.nl q1) (.slice g2 R.nw q2)) ∧ ApartD R (.slice g0 R.nc q0) (.slice g1 R.nl q1) (.slice g2 R.nw q2)) := ⟨⟨rg.later qb, fg.later rg qb⟩, ag⟩
  have S11 : Hid ((St (w10.alloc (.cells #[.int .i64 c, .slice g0 R.nc q0, .slice g1 R.nl q1, .slice g2 R.nw q2] 34)) w5.heap.size A (.slice j0 A.nc k0) (.slice j1 A.nl k1) (.slice j2 A.nw k2) ∧ FreeS (w10.alloc (.cells #[.int .i64 c, .slice g0 R.nc q0, .slice g1 R.nl q1, .slice g2 R.nw q2] 34)) A (.slice j0 A.nc k0) (.slice j1 A.nl k1) (.slice j2 A.nw k2)) ∧ ApartS A (.slice j0 A.nc k0) (.slice j1 A.nl k1) (.slice j2 A.nw k2)) := ⟨⟨(S9.out.1.1.1.later qa).later qb, (S9.out.1.1.2.later S9.out.1.1.1 qa).later (S9.out.1.1.1.later qa) qb⟩, S9.out.1.2⟩
  have T11 : Hid ((St (w10.alloc (.cells #[.int .i64 c, .slice g0 R.nc q0, .slice g1 R.nl q1, .slice g2 R.nw q2] 34)) (w6.heap.size + 1) T (.slice l0 T.nc o0) (.slice l1 T.nl o1) (.slice l2 T.nw o2) ∧ FreeS (w10.alloc (.cells #[.int .i64 c, .slice g0 R.nc q0, .slice g1 R.nl q1, .slice g2 R.nw q2] 34)) T (.slice l0 T.nc o0) (.slice l1 T.nl o1) (.slice l2 T.nw o2)) ∧ ApartS T (.slice l0 T.nc o0) (.slice l1 T.nl o1) (.slice l2 T.nw o2)) := ⟨⟨(T9.out.1.1.1.later qa).later qb, (T9.out.1.1.2.later T9.out.1.1.1 qa).later (T9.out.1.1.1.later qa) qb⟩, T9.out.1.2⟩
  obtain ⟨⟨t0, t1, t2, t3⟩, _⟩ := P9.out.2.1.later qa
  have z10 := World.block_lt_of_cell? w10 _ t0
  clear qa qb S9 T9 P9 rg fg ag f0 f1 f2 f3 f4 f5 hs9
  go_upto_region 12 with fail
  clear t0 t1 t2 t3 z10
  generalize w10.alloc (.cells #[.int .i64 c, .slice g0 R.nc q0, .slice g1 R.nl q1, .slice g2 R.nw q2] 34) = w11 at L11 R11 G11 S11 T11 ⊢
  obtain ⟨_, ⟨⟨t0, t1, t2, t3⟩, _⟩, _, _, ⟨⟨y0, y1, y2, y3⟩, _⟩⟩ := L11.out
  go_wp2_with fail
  refine (eqStoreResult_same c R _ _ _ _ _ _ _ _ _ G11.out.1.1 R11.out HR.out.1 HR.out.2.1 HR.out.2.2).mono ?_
  rintro e w12 ⟨rfl, qq⟩
  have Q : Hid (LawJ w (.slice a0 A.nc c0) (.slice a1 A.nl c1) (.slice a2 A.nw c2) (.slice b0 T.nc d0) (.slice b1 T.nl d1) (.slice b2 T.nw d2) W5 c (.slice m0 R.nc p0) (.slice m1 R.nl p1) (.slice m2 R.nw p2) w6.heap.size (.slice j0 A.nc k0) (.slice j1 A.nl k1) (.slice j2 A.nw k2) w8.heap.size (.slice l0 T.nc o0) (.slice l1 T.nl o1) (.slice l2 T.nw o2) w10.heap.size (.slice g0 R.nc q0) (.slice g1 R.nl q1) (.slice g2 R.nw q2) w12) := L11.out.later qq
  have RR : Hid (St w12 w.heap.size R (.slice m0 R.nc p0) (.slice m1 R.nl p1) (.slice m2 R.nw p2)) := R11.out.later qq
  have GK : Hid ((St w12 (w8.heap.size + 1) R (.slice g0 R.nc q0) (.slice g1 R.nl q1) (.slice g2 R.nw q2) ∧ FreeS w12 R (.slice g0 R.nc q0) (.slice g1 R.nl q1) (.slice g2 R.nw q2)) ∧ ApartD R (.slice g0 R.nc q0) (.slice g1 R.nl q1) (.slice g2 R.nw q2)) := ⟨⟨G11.out.1.1.later qq, G11.out.1.2.later G11.out.1.1 qq⟩, G11.out.2⟩
  have SS : Hid ((St w12 w5.heap.size A (.slice j0 A.nc k0) (.slice j1 A.nl k1) (.slice j2 A.nw k2) ∧ FreeS w12 A (.slice j0 A.nc k0) (.slice j1 A.nl k1) (.slice j2 A.nw k2)) ∧ ApartS A (.slice j0 A.nc k0) (.slice j1 A.nl k1) (.slice j2 A.nw k2)) := ⟨⟨S11.out.1.1.later qq, S11.out.1.2.later S11.out.1.1 qq⟩, S11.out.2⟩
  have TT : Hid ((St w12 (w6.heap.size + 1) T (.slice l0 T.nc o0) (.slice l1 T.nl o1) (.slice l2 T.nw o2) ∧ FreeS w12 T (.slice l0 T.nc o0) (.slice l1 T.nl o1) (.slice l2 T.nw o2)) ∧ ApartS T (.slice l0 T.nc o0) (.slice l1 T.nl o1) (.slice l2 T.nw o2)) := ⟨⟨T11.out.1.1.later qq, T11.out.1.2.later T11.out.1.1 qq⟩, T11.out.2⟩
  clear qq L11 R11 G11 S11 T11 t0 t1 t2 t3 y0 y1 y2 y3
  go_upto_region 14 with fail
  refine wp_region_held_drew (S := LawJ w (.slice a0 A.nc c0) (.slice a1 A.nl c1) (.slice a2 A.nw c2) (.slice b0 T.nc d0) (.slice b1 T.nl d1) (.slice b2 T.nw d2) W5 c (.slice m0 R.nc p0) (.slice m1 R.nl p1) (.slice m2 R.nw p2) w6.heap.size (.slice j0 A.nc k0) (.slice j1 A.nl k1) (.slice j2 A.nw k2) w8.heap.size (.slice l0 T.nc o0) (.slice l1 T.nl o1) (.slice l2 T.nw o2) w10.heap.size (.slice g0 R.nc q0) (.slice g1 R.nl q1) (.slice g2 R.nw q2)) (by kernel_rfl) Q.out.drew (fun hS => ?_)
  have qd : Below w12.heap.size w12 w12.drew := (Below.refl _ _).drew
  have RR : Hid (St w12.drew w.heap.size R (.slice m0 R.nc p0) (.slice m1 R.nl p1) (.slice m2 R.nw p2)) := RR.out.later qd
  have GK : Hid ((St w12.drew (w8.heap.size + 1) R (.slice g0 R.nc q0) (.slice g1 R.nl q1) (.slice g2 R.nw q2) ∧ FreeS w12.drew R (.slice g0 R.nc q0) (.slice g1 R.nl q1) (.slice g2 R.nw q2)) ∧ ApartD R (.slice g0 R.nc q0) (.slice g1 R.nl q1) (.slice g2 R.nw q2)) := ⟨⟨GK.out.1.1.later qd, GK.out.1.2.later GK.out.1.1 qd⟩, GK.out.2⟩
  have SS : Hid ((St w12.drew w5.heap.size A (.slice j0 A.nc k0) (.slice j1 A.nl k1) (.slice j2 A.nw k2) ∧ FreeS w12.drew A (.slice j0 A.nc k0) (.slice j1 A.nl k1) (.slice j2 A.nw k2)) ∧ ApartS A (.slice j0 A.nc k0) (.slice j1 A.nl k1) (.slice j2 A.nw k2)) := ⟨⟨SS.out.1.1.later qd, SS.out.1.2.later SS.out.1.1 qd⟩, SS.out.2⟩
  have TT : Hid ((St w12.drew (w6.heap.size + 1) T (.slice l0 T.nc o0) (.slice l1 T.nl o1) (.slice l2 T.nw o2) ∧ FreeS w12.drew T (.slice l0 T.nc o0) (.slice l1 T.nl o1) (.slice l2 T.nw o2)) ∧ ApartS T (.slice l0 T.nc o0) (.slice l1 T.nl o1) (.slice l2 T.nw o2)) := ⟨⟨TT.out.1.1.later qd, TT.out.1.2.later TT.out.1.1 qd⟩, TT.out.2⟩
  clear Q qd
  generalize w12.drew = y0 at hS RR GK SS TT ⊢
  refine tkH 0 ?_ hS (fun wx hx => ?_) ?_; rotate_left
  · obtain ⟨⟨_, ⟨⟨hx0, hx1, hx2⟩, _⟩, ⟨hx3, hx4, hx5⟩, _⟩, _, ⟨⟨hx6, hx7, hx8⟩, _⟩, ⟨⟨hx9, hxa, hxb⟩, _⟩, _⟩ := hx; go_simp; try with_reducible rfl
  refine tkH 1 ?_ hS (fun wx hx => ?_) ?_; rotate_left
  · obtain ⟨⟨_, ⟨⟨hx0, hx1, hx2⟩, _⟩, ⟨hx3, hx4, hx5⟩, _⟩, _, ⟨⟨hx6, hx7, hx8⟩, _⟩, ⟨⟨hx9, hxa, hxb⟩, _⟩, _⟩ := hx; go_simp; try with_reducible rfl
  refine rdH 2 (fun K hK => ?_)
  go_simp
  go_wp2_with fail
  refine (toStore_any A _ _ _ 0 _ (H.out.later hS.1.1) Hb.out.1.1 Hb.out.1.2.1 Hb.out.1.2.2).mono ?_
  rintro e wa14 ⟨n0, n1, n2, rfl, s11, _, q11⟩
  have NN : Hid (St wa14 0 A n0 n1 n2) := s11.mono (Nat.zero_le _)
  have RR : Hid (St wa14 w.heap.size R (.slice m0 R.nc p0) (.slice m1 R.nl p1) (.slice m2 R.nw p2)) := RR.out.later q11
  have GK : Hid ((St wa14 (w8.heap.size + 1) R (.slice g0 R.nc q0) (.slice g1 R.nl q1) (.slice g2 R.nw q2) ∧ FreeS wa14 R (.slice g0 R.nc q0) (.slice g1 R.nl q1) (.slice g2 R.nw q2)) ∧ ApartD R (.slice g0 R.nc q0) (.slice g1 R.nl q1) (.slice g2 R.nw q2)) := ⟨⟨GK.out.1.1.later q11, GK.out.1.2.later GK.out.1.1 q11⟩, GK.out.2⟩
  have SS : Hid ((St wa14 w5.heap.size A (.slice j0 A.nc k0) (.slice j1 A.nl k1) (.slice j2 A.nw k2) ∧ FreeS wa14 A (.slice j0 A.nc k0) (.slice j1 A.nl k1) (.slice j2 A.nw k2)) ∧ ApartS A (.slice j0 A.nc k0) (.slice j1 A.nl k1) (.slice j2 A.nw k2)) := ⟨⟨SS.out.1.1.later q11, SS.out.1.2.later SS.out.1.1 q11⟩, SS.out.2⟩
  have TT : Hid ((St wa14 (w6.heap.size + 1) T (.slice l0 T.nc o0) (.slice l1 T.nl o1) (.slice l2 T.nw o2) ∧ FreeS wa14 T (.slice l0 T.nc o0) (.slice l1 T.nl o1) (.slice l2 T.nw o2)) ∧ ApartS T (.slice l0 T.nc o0) (.slice l1 T.nl o1) (.slice l2 T.nw o2)) := ⟨⟨TT.out.1.1.later q11, TT.out.1.2.later TT.out.1.1 q11⟩, TT.out.2⟩
  have hS' := hS.later q11
  clear s11 q11
  go_wp2_with fail
  refine hK.out _ _ hS' (fun hS => ?_)
  clear hK K hS'
  refine rdH 3 (fun K hK => ?_)
  go_simp
  go_wp2_with fail
  refine (eqStore_same A _ _ _ _ _ _ _ 0 _ SS.out.1.1 NN.out Hb.out.1.1 Hb.out.1.2.1 Hb.out.1.2.2).mono ?_
  rintro e wb14 ⟨rfl, q12⟩
  have RR : Hid (St wb14 w.heap.size R (.slice m0 R.nc p0) (.slice m1 R.nl p1) (.slice m2 R.nw p2)) := RR.out.later q12
  have GK : Hid ((St wb14 (w8.heap.size + 1) R (.slice g0 R.nc q0) (.slice g1 R.nl q1) (.slice g2 R.nw q2) ∧ FreeS wb14 R (.slice g0 R.nc q0) (.slice g1 R.nl q1) (.slice g2 R.nw q2)) ∧ ApartD R (.slice g0 R.nc q0) (.slice g1 R.nl q1) (.slice g2 R.nw q2)) := ⟨⟨GK.out.1.1.later q12, GK.out.1.2.later GK.out.1.1 q12⟩, GK.out.2⟩
  have SS : Hid ((St wb14 w5.heap.size A (.slice j0 A.nc k0) (.slice j1 A.nl k1) (.slice j2 A.nw k2) ∧ FreeS wb14 A (.slice j0 A.nc k0) (.slice j1 A.nl k1) (.slice j2 A.nw k2)) ∧ ApartS A (.slice j0 A.nc k0) (.slice j1 A.nl k1) (.slice j2 A.nw k2)) := ⟨⟨SS.out.1.1.later q12, SS.out.1.2.later SS.out.1.1 q12⟩, SS.out.2⟩
  have TT : Hid ((St wb14 (w6.heap.size + 1) T (.slice l0 T.nc o0) (.slice l1 T.nl o1) (.slice l2 T.nw o2) ∧ FreeS wb14 T (.slice l0 T.nc o0) (.slice l1 T.nl o1) (.slice l2 T.nw o2)) ∧ ApartS T (.slice l0 T.nc o0) (.slice l1 T.nl o1) (.slice l2 T.nw o2)) := ⟨⟨TT.out.1.1.later q12, TT.out.1.2.later TT.out.1.1 q12⟩, TT.out.2⟩
  have hS' := hS.later q12
  clear q12 NN
  go_wp2_with fail
  refine hK.out _ _ hS' (fun hS => ?_)
  clear hK K hS'
  refine tkH 4 ?_ hS (fun wx hx => ?_) ?_; rotate_left
  · obtain ⟨⟨_, ⟨⟨hx0, hx1, hx2⟩, _⟩, ⟨hx3, hx4, hx5⟩, _⟩, _, ⟨⟨hx6, hx7, hx8⟩, _⟩, ⟨⟨hx9, hxa, hxb⟩, _⟩, _⟩ := hx; go_simp; try with_reducible rfl
  refine wpAnyH_done (by kernel_rfl) ?_ _
  have Q : Hid (LawJ w (.slice a0 A.nc c0) (.slice a1 A.nl c1) (.slice a2 A.nw c2) (.slice b0 T.nc d0) (.slice b1 T.nl d1) (.slice b2 T.nw d2) W5 c (.slice m0 R.nc p0) (.slice m1 R.nl p1) (.slice m2 R.nw p2) w6.heap.size (.slice j0 A.nc k0) (.slice j1 A.nl k1) (.slice j2 A.nw k2) w8.heap.size (.slice l0 T.nc o0) (.slice l1 T.nl o1) (.slice l2 T.nw o2) w10.heap.size (.slice g0 R.nc q0) (.slice g1 R.nl q1) (.slice g2 R.nw q2) wb14) := hS
  clear hS
  go_simp
  go_upto_region 16 with fail
  refine wp_region_held_drew (S := LawJ w (.slice a0 A.nc c0) (.slice a1 A.nl c1) (.slice a2 A.nw c2) (.slice b0 T.nc d0) (.slice b1 T.nl d1) (.slice b2 T.nw d2) W5 c (.slice m0 R.nc p0) (.slice m1 R.nl p1) (.slice m2 R.nw p2) w6.heap.size (.slice j0 A.nc k0) (.slice j1 A.nl k1) (.slice j2 A.nw k2) w8.heap.size (.slice l0 T.nc o0) (.slice l1 T.nl o1) (.slice l2 T.nw o2) w10.heap.size (.slice g0 R.nc q0) (.slice g1 R.nl q1) (.slice g2 R.nw q2)) (by kernel_rfl) Q.out.drew (fun hS => ?_)
  have qd : Below wb14.heap.size wb14 wb14.drew := (Below.refl _ _).drew
  have RR : Hid (St wb14.drew w.heap.size R (.slice m0 R.nc p0) (.slice m1 R.nl p1) (.slice m2 R.nw p2)) := RR.out.later qd
  have GK : Hid ((St wb14.drew (w8.heap.size + 1) R (.slice g0 R.nc q0) (.slice g1 R.nl q1) (.slice g2 R.nw q2) ∧ FreeS wb14.drew R (.slice g0 R.nc q0) (.slice g1 R.nl q1) (.slice g2 R.nw q2)) ∧ ApartD R (.slice g0 R.nc q0) (.slice g1 R.nl q1) (.slice g2 R.nw q2)) := ⟨⟨GK.out.1.1.later qd, GK.out.1.2.later GK.out.1.1 qd⟩, GK.out.2⟩
  have SS : Hid ((St wb14.drew w5.heap.size A (.slice j0 A.nc k0) (.slice j1 A.nl k1) (.slice j2 A.nw k2) ∧ FreeS wb14.drew A (.slice j0 A.nc k0) (.slice j1 A.nl k1) (.slice j2 A.nw k2)) ∧ ApartS A (.slice j0 A.nc k0) (.slice j1 A.nl k1) (.slice j2 A.nw k2)) := ⟨⟨SS.out.1.1.later qd, SS.out.1.2.later SS.out.1.1 qd⟩, SS.out.2⟩
  have TT : Hid ((St wb14.drew (w6.heap.size + 1) T (.slice l0 T.nc o0) (.slice l1 T.nl o1) (.slice l2 T.nw o2) ∧ FreeS wb14.drew T (.slice l0 T.nc o0) (.slice l1 T.nl o1) (.slice l2 T.nw o2)) ∧ ApartS T (.slice l0 T.nc o0) (.slice l1 T.nl o1) (.slice l2 T.nw o2)) := ⟨⟨TT.out.1.1.later qd, TT.out.1.2.later TT.out.1.1 qd⟩, TT.out.2⟩
  clear Q qd
  generalize wb14.drew = y0 at hS RR GK SS TT ⊢
  refine tkH 0 ?_ hS (fun wx hx => ?_) ?_; rotate_left
  · obtain ⟨⟨_, ⟨⟨hx0, hx1, hx2⟩, _⟩, ⟨hx3, hx4, hx5⟩, _⟩, _, ⟨⟨hx6, hx7, hx8⟩, _⟩, ⟨⟨hx9, hxa, hxb⟩, _⟩, _⟩ := hx; go_simp; try with_reducible rfl
  refine tkH 1 ?_ hS (fun wx hx => ?_) ?_; rotate_left
  · obtain ⟨⟨_, ⟨⟨hx0, hx1, hx2⟩, _⟩, ⟨hx3, hx4, hx5⟩, _⟩, _, ⟨⟨hx6, hx7, hx8⟩, _⟩, ⟨⟨hx9, hxa, hxb⟩, _⟩, _⟩ := hx; go_simp; try with_reducible rfl
  refine rdH 2 (fun K hK => ?_)
  go_simp
  go_wp2_with fail
  refine (toStore_any T _ _ _ 0 _ (H'.out.later hS.1.1) Hb.out.2.1 Hb.out.2.2.1 Hb.out.2.2.2).mono ?_
  rintro e wa16 ⟨n0, n1, n2, rfl, s11, _, q11⟩
  have NN : Hid (St wa16 0 T n0 n1 n2) := s11.mono (Nat.zero_le _)
  have RR : Hid (St wa16 w.heap.size R (.slice m0 R.nc p0) (.slice m1 R.nl p1) (.slice m2 R.nw p2)) := RR.out.later q11
  have GK : Hid ((St wa16 (w8.heap.size + 1) R (.slice g0 R.nc q0) (.slice g1 R.nl q1) (.slice g2 R.nw q2) ∧ FreeS wa16 R (.slice g0 R.nc q0) (.slice g1 R.nl q1) (.slice g2 R.nw q2)) ∧ ApartD R (.slice g0 R.nc q0) (.slice g1 R.nl q1) (.slice g2 R.nw q2)) := ⟨⟨GK.out.1.1.later q11, GK.out.1.2.later GK.out.1.1 q11⟩, GK.out.2⟩
  have SS : Hid ((St wa16 w5.heap.size A (.slice j0 A.nc k0) (.slice j1 A.nl k1) (.slice j2 A.nw k2) ∧ FreeS wa16 A (.slice j0 A.nc k0) (.slice j1 A.nl k1) (.slice j2 A.nw k2)) ∧ ApartS A (.slice j0 A.nc k0) (.slice j1 A.nl k1) (.slice j2 A.nw k2)) := ⟨⟨SS.out.1.1.later q11, SS.out.1.2.later SS.out.1.1 q11⟩, SS.out.2⟩
  have TT : Hid ((St wa16 (w6.heap.size + 1) T (.slice l0 T.nc o0) (.slice l1 T.nl o1) (.slice l2 T.nw o2) ∧ FreeS wa16 T (.slice l0 T.nc o0) (.slice l1 T.nl o1) (.slice l2 T.nw o2)) ∧ ApartS T (.slice l0 T.nc o0) (.slice l1 T.nl o1) (.slice l2 T.nw o2)) := ⟨⟨TT.out.1.1.later q11, TT.out.1.2.later TT.out.1.1 q11⟩, TT.out.2⟩
  have hS' := hS.later q11
  clear s11 q11
  go_wp2_with fail
  refine hK.out _ _ hS' (fun hS => ?_)
  clear hK K hS'
  refine rdH 3 (fun K hK => ?_)
  go_simp
  go_wp2_with fail
  refine (eqStore_same T _ _ _ _ _ _ _ 0 _ TT.out.1.1 NN.out Hb.out.2.1 Hb.out.2.2.1 Hb.out.2.2.2).mono ?_
  rintro e wb16 ⟨rfl, q12⟩
  have RR : Hid (St wb16 w.heap.size R (.slice m0 R.nc p0) (.slice m1 R.nl p1) (.slice m2 R.nw p2)) := RR.out.later q12
  have GK : Hid ((St wb16 (w8.heap.size + 1) R (.slice g0 R.nc q0) (.slice g1 R.nl q1) (.slice g2 R.nw q2) ∧ FreeS wb16 R (.slice g0 R.nc q0) (.slice g1 R.nl q1) (.slice g2 R.nw q2)) ∧ ApartD R (.slice g0 R.nc q0) (.slice g1 R.nl q1) (.slice g2 R.nw q2)) := ⟨⟨GK.out.1.1.later q12, GK.out.1.2.later GK.out.1.1 q12⟩, GK.out.2⟩
  have SS : Hid ((St wb16 w5.heap.size A (.slice j0 A.nc k0) (.slice j1 A.nl k1) (.slice j2 A.nw k2) ∧ FreeS wb16 A (.slice j0 A.nc k0) (.slice j1 A.nl k1) (.slice j2 A.nw k2)) ∧ ApartS A (.slice j0 A.nc k0) (.slice j1 A.nl k1) (.slice j2 A.nw k2)) := ⟨⟨SS.out.1.1.later q12, SS.out.1.2.later SS.out.1.1 q12⟩, SS.out.2⟩
  have TT : Hid ((St wb16 (w6.heap.size + 1) T (.slice l0 T.nc o0) (.slice l1 T.nl o1) (.slice l2 T.nw o2) ∧ FreeS wb16 T (.slice l0 T.nc o0) (.slice l1 T.nl o1) (.slice l2 T.nw o2)) ∧ ApartS T (.slice l0 T.nc o0) (.slice l1 T.nl o1) (.slice l2 T.nw o2)) := ⟨⟨TT.out.1.1.later q12, TT.out.1.2.later TT.out.1.1 q12⟩, TT.out.2⟩
  have hS' := hS.later q12
  clear q12 NN
  go_wp2_with fail
  refine hK.out _ _ hS' (fun hS => ?_)
  clear hK K hS'
  refine tkH 4 ?_ hS (fun wx hx => ?_) ?_; rotate_left
  · obtain ⟨⟨_, ⟨⟨hx0, hx1, hx2⟩, _⟩, ⟨hx3, hx4, hx5⟩, _⟩, _, ⟨⟨hx6, hx7, hx8⟩, _⟩, ⟨⟨hx9, hxa, hxb⟩, _⟩, _⟩ := hx; go_simp; try with_reducible rfl
  refine wpAnyH_done (by kernel_rfl) ?_ _
  have Q : Hid (LawJ w (.slice a0 A.nc c0) (.slice a1 A.nl c1) (.slice a2 A.nw c2) (.slice b0 T.nc d0) (.slice b1 T.nl d1) (.slice b2 T.nw d2) W5 c (.slice m0 R.nc p0) (.slice m1 R.nl p1) (.slice m2 R.nw p2) w6.heap.size (.slice j0 A.nc k0) (.slice j1 A.nl k1) (.slice j2 A.nw k2) w8.heap.size (.slice l0 T.nc o0) (.slice l1 T.nl o1) (.slice l2 T.nw o2) w10.heap.size (.slice g0 R.nc q0) (.slice g1 R.nl q1) (.slice g2 R.nw q2) wb16) := hS
  clear hS
  go_simp
  obtain ⟨_, _, ⟨⟨f0, f1, f2⟩, _⟩, _⟩ := Q.out
  go_wp2_with fail
  refine (markStore_any A _ _ _ w5.heap.size w6.heap.size _ SS.out.1.1 SS.out.1.2 SS.out.2 E6.out (by have h1 := Q.out.2.2.1.lt; omega) Hb.out.1.1 Hb.out.1.2.1 Hb.out.1.2.2).mono ?_
  rintro e w13 ⟨rfl, W13⟩
  have z5 := zw5.out
  have z6 := zz6.out
  have z8 := zz8.out
  have z10 := zz10.out
  have Q13 : Hid (LawJ w (.slice a0 A.nc c0) (.slice a1 A.nl c1) (.slice a2 A.nw c2) (.slice b0 T.nc d0) (.slice b1 T.nl d1) (.slice b2 T.nw d2) W5 c (.slice m0 R.nc p0) (.slice m1 R.nl p1) (.slice m2 R.nw p2) w6.heap.size (.slice j0 A.nc k0) (.slice j1 A.nl k1) (.slice j2 A.nw k2) w8.heap.size (.slice l0 T.nc o0) (.slice l1 T.nl o1) (.slice l2 T.nw o2) w10.heap.size (.slice g0 R.nc q0) (.slice g1 R.nl q1) (.slice g2 R.nw q2) w13) := Q.out.within W13 (by omega) (Or.inl (by omega)) (Or.inr (Nat.le_refl _)) (Or.inr (by omega)) (Or.inr (by omega))
  have R13 : Hid (St w13 w.heap.size R (.slice m0 R.nc p0) (.slice m1 R.nl p1) (.slice m2 R.nw p2)) := RR.out.within W13 (LW.out.mono (fun k hk => Or.inl hk))
  have oG : OwnIn R (.slice g0 R.nc q0) (.slice g1 R.nl q1) (.slice g2 R.nw q2) (fun k => k < w5.heap.size ∨ w6.heap.size ≤ k) := LG.out.mono (fun k hk => Or.inr (by omega))
  have G13 : Hid ((St w13 (w8.heap.size + 1) R (.slice g0 R.nc q0) (.slice g1 R.nl q1) (.slice g2 R.nw q2) ∧ FreeS w13 R (.slice g0 R.nc q0) (.slice g1 R.nl q1) (.slice g2 R.nw q2)) ∧ ApartD R (.slice g0 R.nc q0) (.slice g1 R.nl q1) (.slice g2 R.nw q2)) := ⟨⟨GK.out.1.1.within W13 oG, GK.out.1.2.within GK.out.1.1 W13 oG⟩, GK.out.2⟩
  have oT : OwnIn T (.slice l0 T.nc o0) (.slice l1 T.nl o1) (.slice l2 T.nw o2) (fun k => k < w5.heap.size ∨ w6.heap.size ≤ k) := TT.out.1.1.ownIn.mono (fun k hk => Or.inr (by omega))
  have T13 : Hid ((St w13 (w6.heap.size + 1) T (.slice l0 T.nc o0) (.slice l1 T.nl o1) (.slice l2 T.nw o2) ∧ FreeS w13 T (.slice l0 T.nc o0) (.slice l1 T.nl o1) (.slice l2 T.nw o2)) ∧ ApartS T (.slice l0 T.nc o0) (.slice l1 T.nl o1) (.slice l2 T.nw o2)) := ⟨⟨TT.out.1.1.within W13 oT, TT.out.1.2.within TT.out.1.1 W13 oT⟩, TT.out.2⟩
  clear W13 Q RR GK SS TT f0 f1 f2 oG oT z5 z6 z8 z10
  obtain ⟨_, _, _, ⟨⟨f0, f1, f2⟩, _⟩, _⟩ := Q13.out
  go_wp2_with fail
  refine (markStoreJ T _ _ _ (w6.heap.size + 1) w8.heap.size (1 + A.nc * 3 + A.nl * 5 + A.nw * 4) (by omega) (by have := Hb.out; omega) _ T13.out.1.1 T13.out.1.2 T13.out.2 E8.out (by have h1 := Q13.out.2.2.2.1.lt; omega) Hb.out.2.1 Hb.out.2.2.1 Hb.out.2.2.2).mono ?_
  rintro e w14 ⟨rfl, W14⟩
  have z5 := zw5.out
  have z6 := zz6.out
  have z8 := zz8.out
  have z10 := zz10.out
  have Q14 : Hid (LawJ w (.slice a0 A.nc c0) (.slice a1 A.nl c1) (.slice a2 A.nw c2) (.slice b0 T.nc d0) (.slice b1 T.nl d1) (.slice b2 T.nw d2) W5 c (.slice m0 R.nc p0) (.slice m1 R.nl p1) (.slice m2 R.nw p2) w6.heap.size (.slice j0 A.nc k0) (.slice j1 A.nl k1) (.slice j2 A.nw k2) w8.heap.size (.slice l0 T.nc o0) (.slice l1 T.nl o1) (.slice l2 T.nw o2) w10.heap.size (.slice g0 R.nc q0) (.slice g1 R.nl q1) (.slice g2 R.nw q2) w14) := Q13.out.within W14 (by omega) (Or.inl (by omega)) (Or.inl (by omega)) (Or.inr (Nat.le_refl _)) (Or.inr (by omega))
  have R14 : Hid (St w14 w.heap.size R (.slice m0 R.nc p0) (.slice m1 R.nl p1) (.slice m2 R.nw p2)) := R13.out.within W14 (LW.out.mono (fun k hk => Or.inl (by omega)))
  have oG : OwnIn R (.slice g0 R.nc q0) (.slice g1 R.nl q1) (.slice g2 R.nw q2) (fun k => k < w6.heap.size + 1 ∨ w8.heap.size ≤ k) := LG.out.mono (fun k hk => Or.inr (by omega))
  have G14 : Hid ((St w14 (w8.heap.size + 1) R (.slice g0 R.nc q0) (.slice g1 R.nl q1) (.slice g2 R.nw q2) ∧ FreeS w14 R (.slice g0 R.nc q0) (.slice g1 R.nl q1) (.slice g2 R.nw q2)) ∧ ApartD R (.slice g0 R.nc q0) (.slice g1 R.nl q1) (.slice g2 R.nw q2)) := ⟨⟨G13.out.1.1.within W14 oG, G13.out.1.2.within G13.out.1.1 W14 oG⟩, G13.out.2⟩
  clear W14 Q13 R13 G13 T13 f0 f1 f2 oG z5 z6 z8 z10
  obtain ⟨_, ⟨⟨t0, t1, t2, t3⟩, _⟩, _, _, ⟨⟨y0, y1, y2, y3⟩, _⟩⟩ := Q14.out
  go_wp2_with fail
  refine (eqStoreResult_same c R _ _ _ _ _ _ _ _ _ G14.out.1.1 R14.out HR.out.1 HR.out.2.1 HR.out.2.2).mono ?_
  rintro e w15 ⟨rfl, qq⟩
  have Q : Hid (LawJ w (.slice a0 A.nc c0) (.slice a1 A.nl c1) (.slice a2 A.nw c2) (.slice b0 T.nc d0) (.slice b1 T.nl d1) (.slice b2 T.nw d2) W5 c (.slice m0 R.nc p0) (.slice m1 R.nl p1) (.slice m2 R.nw p2) w6.heap.size (.slice j0 A.nc k0) (.slice j1 A.nl k1) (.slice j2 A.nw k2) w8.heap.size (.slice l0 T.nc o0) (.slice l1 T.nl o1) (.slice l2 T.nw o2) w10.heap.size (.slice g0 R.nc q0) (.slice g1 R.nl q1) (.slice g2 R.nw q2) w15) := Q14.out.later qq
  have RR : Hid (St w15 w.heap.size R (.slice m0 R.nc p0) (.slice m1 R.nl p1) (.slice m2 R.nw p2)) := R14.out.later qq
  have GK : Hid ((St w15 (w8.heap.size + 1) R (.slice g0 R.nc q0) (.slice g1 R.nl q1) (.slice g2 R.nw q2) ∧ FreeS w15 R (.slice g0 R.nc q0) (.slice g1 R.nl q1) (.slice g2 R.nw q2)) ∧ ApartD R (.slice g0 R.nc q0) (.slice g1 R.nl q1) (.slice g2 R.nw q2)) := ⟨⟨G14.out.1.1.later qq, G14.out.1.2.later G14.out.1.1 qq⟩, G14.out.2⟩
  clear qq Q14 R14 G14 t0 t1 t2 t3 y0 y1 y2 y3
  obtain ⟨_, _, _, _, ⟨⟨y0, y1, y2, y3⟩, _⟩⟩ := Q.out
  go_wp2_with fail
  refine (markStoreResult_any c R _ _ _ (w8.heap.size + 1) w10.heap.size _ GK.out.1.1 GK.out.1.2 GK.out.2 (LG.out.mono (fun k hk => hk.2)) (by have h1 := Q.out.2.2.2.2.lt; omega) HR.out.1 HR.out.2.1 HR.out.2.2).mono ?_
  rintro e w16 ⟨rfl, m16, W16⟩
  have z5 := zw5.out
  have z6 := zz6.out
  have z8 := zz8.out
  have z10 := zz10.out
  have Q16 : Hid (EndJ w (.slice a0 A.nc c0) (.slice a1 A.nl c1) (.slice a2 A.nw c2) (.slice b0 T.nc d0) (.slice b1 T.nl d1) (.slice b2 T.nw d2) W5 c (.slice m0 R.nc p0) (.slice m1 R.nl p1) (.slice m2 R.nw p2) w6.heap.size (.slice j0 A.nc k0) (.slice j1 A.nl k1) (.slice j2 A.nw k2) w8.heap.size (.slice l0 T.nc o0) (.slice l1 T.nl o1) (.slice l2 T.nw o2) w10.heap.size (.slice g0 R.nc q0) (.slice g1 R.nl q1) (.slice g2 R.nw q2) R (w8.heap.size + 1) w16) := ⟨Q.out.within W16 (by omega) (Or.inl (by omega)) (Or.inl (by omega)) (Or.inl (by omega)) (Or.inr (Nat.le_refl _)), RR.out.within W16 (LW.out.mono (fun k hk => Or.inl (by omega))), m16⟩
  have LGm : Hid (OwnIn (markS R) (.slice g0 R.nc q0) (.slice g1 R.nl q1) (.slice g2 R.nw q2) (fun k => k < w10.heap.size)) := ⟨fun hn k q => (LG.out.1 hn k q).2, fun hn k q => (LG.out.2.1 hn k q).2, fun hn k q => (LG.out.2.2 hn k q).2⟩
  have HZ : Hid (w5.heap.size ≤ w6.heap.size) := z6
  clear m16 W16 Q RR GK y0 y1 y2 y3 z5 z6 z8 z10
  obtain ⟨⟨_, _, _, _, ⟨⟨y0, y1, y2, y3⟩, _⟩⟩, _⟩ := Q16.out
  go_wp2_with fail
  refine (heldStoreResult_any c R _ _ _ _ _ Q16.out.2.2 HR.out.1 HR.out.2.1 HR.out.2.2).mono ?_
  rintro e w17 ⟨rfl, qq⟩
  have Q17 : Hid (EndJ w (.slice a0 A.nc c0) (.slice a1 A.nl c1) (.slice a2 A.nw c2) (.slice b0 T.nc d0) (.slice b1 T.nl d1) (.slice b2 T.nw d2) W5 c (.slice m0 R.nc p0) (.slice m1 R.nl p1) (.slice m2 R.nw p2) w6.heap.size (.slice j0 A.nc k0) (.slice j1 A.nl k1) (.slice j2 A.nw k2) w8.heap.size (.slice l0 T.nc o0) (.slice l1 T.nl o1) (.slice l2 T.nw o2) w10.heap.size (.slice g0 R.nc q0) (.slice g1 R.nl q1) (.slice g2 R.nw q2) R (w8.heap.size + 1) w17) := Q16.out.later qq
  clear qq Q16 y0 y1 y2 y3
  go_upto_region 31 with fail
  go_cut [13] (fun p wx => ∃ W h0 r0 h1 r1 h2 r2, p = .pointer (some ⟨W, 0, none⟩) ∧ Hid (EndJ w (.slice a0 A.nc c0) (.slice a1 A.nl c1) (.slice a2 A.nw c2) (.slice b0 T.nc d0) (.slice b1 T.nl d1) (.slice b2 T.nw d2) W5 c (.slice m0 R.nc p0) (.slice m1 R.nl p1) (.slice m2 R.nw p2) w6.heap.size (.slice j0 A.nc k0) (.slice j1 A.nl k1) (.slice j2 A.nw k2) w8.heap.size (.slice l0 T.nc o0) (.slice l1 T.nl o1) (.slice l2 T.nw o2) w10.heap.size (.slice g0 R.nc q0) (.slice g1 R.nl q1) (.slice g2 R.nw q2) R (w8.heap.size + 1) wx ∧ Blk4 wx W (.int .i64 c) (.slice h0 R.nc r0) (.slice h1 R.nl r1) (.slice h2 R.nw r2) ∧ St wx 0 R (.slice h0 R.nc r0) (.slice h1 R.nl r1) (.slice h2 R.nw r2)))
  case first =>
    refine wp_region_held_drew (S := EndJ w (.slice a0 A.nc c0) (.slice a1 A.nl c1) (.slice a2 A.nw c2) (.slice b0 T.nc d0) (.slice b1 T.nl d1) (.slice b2 T.nw d2) W5 c (.slice m0 R.nc p0) (.slice m1 R.nl p1) (.slice m2 R.nw p2) w6.heap.size (.slice j0 A.nc k0) (.slice j1 A.nl k1) (.slice j2 A.nw k2) w8.heap.size (.slice l0 T.nc o0) (.slice l1 T.nl o1) (.slice l2 T.nw o2) w10.heap.size (.slice g0 R.nc q0) (.slice g1 R.nl q1) (.slice g2 R.nw q2) R (w8.heap.size + 1)) (by kernel_rfl) ⟨Q17.out.1.drew, Q17.out.2⟩ (fun hS => ?_)
    clear Q17
    generalize w17.drew = y0 at hS ⊢
    refine tkH 0 ?_ hS (fun wx hx => ?_) ?_; rotate_left
    · obtain ⟨⟨⟨_, ⟨⟨hx0, hx1, hx2⟩, _⟩, ⟨hx3, hx4, hx5⟩, _⟩, _⟩, _⟩ := hx; go_simp; try with_reducible rfl
    refine tkH 2 ?_ hS (fun wx hx => ?_) ?_; rotate_left
    · obtain ⟨⟨⟨_, ⟨⟨hx0, hx1, hx2⟩, _⟩, ⟨hx3, hx4, hx5⟩, _⟩, _⟩, _⟩ := hx; go_simp; try with_reducible rfl
    refine wpAnyH_ready (rs := [1, 5]) (by kernel_rfl) (by simp) ?_
    refine AllReadyH.cons rfl (fun K hK => ?_) (AllReadyH.cons rfl (fun K hK => ?_) AllReadyH.nil)
    focus
      go_simp
      go_wp2_with fail
      refine (toStore_any A _ _ _ 0 _ (H.out.later hS.1.1.1) Hb.out.1.1 Hb.out.1.2.1 Hb.out.1.2.2).mono ?_
      rintro e y1 ⟨x0, x1, x2, rfl, s1, _, q5⟩
      have X1 : Hid (St y1 0 A x0 x1 x2) := s1.mono (Nat.zero_le _)
      have hS' := hS.later q5
      clear s1 q5
      go_wp2_with fail
      refine hK.out _ _ hS' (fun hS => ?_)
      clear hK K hS'
      refine wpAnyH_ready (rs := [3, 5]) (by kernel_rfl) (by simp) ?_
      refine AllReadyH.cons rfl (fun K hK => ?_) (AllReadyH.cons rfl (fun K hK => ?_) AllReadyH.nil)
      focus
        go_simp
        go_wp2_with fail
        refine (toStore_any T _ _ _ 0 _ (H'.out.later hS.1.1.1) Hb.out.2.1 Hb.out.2.2.1 Hb.out.2.2.2).mono ?_
        rintro e y2 ⟨z0, z1, z2, rfl, s1, _, q5⟩
        have X1' := X1.out.later q5
        clear X1
        have X1 := hidJ X1'
        clear X1'
        have X2 : Hid (St y2 0 T z0 z1 z2) := s1.mono (Nat.zero_le _)
        have hS' := hS.later q5
        clear s1 q5
        go_wp2_with fail
        refine hK.out _ _ hS' (fun hS => ?_)
        clear hK K hS'
        refine wpAnyH_ready (rs := [4, 5]) (by kernel_rfl) (by simp) ?_
        refine AllReadyH.cons rfl (fun K hK => ?_) (AllReadyH.cons rfl (fun K hK => ?_) AllReadyH.nil)
        focus
          go_simp
          go_wp2_with fail
          refine (HI.out _ _ _ _ _ _ _ X1.out X2.out).mono ?_
          rintro e y3 ⟨h0, r0, h1, r1, h2, r2, rfl, ⟨rw5, _, _⟩, q5⟩
          have RW : Hid (St y3 0 R (.slice h0 R.nc r0) (.slice h1 R.nl r1) (.slice h2 R.nw r2)) := rw5.mono (Nat.zero_le _)
          have hS' := hS.later q5
          clear rw5 X1 X2 q5
          go_wp2_with fail
          refine hK.out _ _ hS' (fun hS => ?_)
          clear hK K hS'
          refine rdH 5 (fun K hK => ?_)
          obtain ⟨W, hW⟩ : ∃ W, y3.heap.size = W := ⟨_, rfl⟩
          have ZW : Hid (Blk4 (y3.alloc (.cells #[.int .i64 0, .slice none 0 0, .slice none 0 0, .slice none 0 0] 34)) W (.int .i64 0) (.slice none 0 0) (.slice none 0 0) (.slice none 0 0)) := by rw [← hW]; exact Blk4.new _ _ _ _ _ _
          have HWb : Hid (w.heap.size + 1 < W ∧ w5.heap.size ≤ W ∧ w6.heap.size < W ∧ w8.heap.size < W ∧ w10.heap.size < W ∧ W5 < W) := by
            have l1 := hS.1.1.2.2.lt
            have l2 := hS.1.2.1.lt
            have l3 := hS.1.2.2.1.lt
            have l4 := hS.1.2.2.2.1.lt
            have l5 := hS.1.2.2.2.2.lt
            have z5 := HZ.out
            unfold Hid
            omega
          have hS' := hS.later (below_alloc y3 (.cells #[.int .i64 0, .slice none 0 0, .slice none 0 0, .slice none 0 0] 34))
          have NW : Hid (OwnIn R (.slice h0 R.nc r0) (.slice h1 R.nl r1) (.slice h2 R.nw r2) (fun k => k < W ∨ W < k)) := RW.out.ownIn.mono (fun k hk => by omega)
          have RW' := RW.out.later (below_alloc y3 (.cells #[.int .i64 0, .slice none 0 0, .slice none 0 0, .slice none 0 0] 34))
          clear RW
          have RW := hidJ RW'
          clear RW'
          go_simp
          refine hK.out _ _ hS' (fun hS => ?_)
          clear hK K hS' hW
          generalize y3.alloc (.cells #[.int .i64 0, .slice none 0 0, .slice none 0 0, .slice none 0 0] 34) = y4 at ZW hS RW ⊢
        rotate_left
        focus
          obtain ⟨W, hW⟩ : ∃ W, y2.heap.size = W := ⟨_, rfl⟩
          have ZW : Hid (Blk4 (y2.alloc (.cells #[.int .i64 0, .slice none 0 0, .slice none 0 0, .slice none 0 0] 34)) W (.int .i64 0) (.slice none 0 0) (.slice none 0 0) (.slice none 0 0)) := by rw [← hW]; exact Blk4.new _ _ _ _ _ _
          have HWb : Hid (w.heap.size + 1 < W ∧ w5.heap.size ≤ W ∧ w6.heap.size < W ∧ w8.heap.size < W ∧ w10.heap.size < W ∧ W5 < W) := by
            have l1 := hS.1.1.2.2.lt
            have l2 := hS.1.2.1.lt
            have l3 := hS.1.2.2.1.lt
            have l4 := hS.1.2.2.2.1.lt
            have l5 := hS.1.2.2.2.2.lt
            have z5 := HZ.out
            unfold Hid
            omega
          have hS' := hS.later (below_alloc y2 (.cells #[.int .i64 0, .slice none 0 0, .slice none 0 0, .slice none 0 0] 34))
          have X1' := X1.out.later (below_alloc y2 (.cells #[.int .i64 0, .slice none 0 0, .slice none 0 0, .slice none 0 0] 34))
          clear X1
          have X1 := hidJ X1'
          clear X1'
          have X2' := X2.out.later (below_alloc y2 (.cells #[.int .i64 0, .slice none 0 0, .slice none 0 0, .slice none 0 0] 34))
          clear X2
          have X2 := hidJ X2'
          clear X2'
          go_simp
          refine hK.out _ _ hS' (fun hS => ?_)
          clear hK K hS' hW
          generalize y2.alloc (.cells #[.int .i64 0, .slice none 0 0, .slice none 0 0, .slice none 0 0] 34) = y3 at ZW hS X1 X2 ⊢
          refine rdH 4 (fun K hK => ?_)
          go_simp
          go_wp2_with fail
          refine (HI.out _ _ _ _ _ _ _ X1.out X2.out).mono ?_
          rintro e y4 ⟨h0, r0, h1, r1, h2, r2, rfl, ⟨rw5, _, _⟩, q5⟩
          have RW : Hid (St y4 0 R (.slice h0 R.nc r0) (.slice h1 R.nl r1) (.slice h2 R.nw r2)) := rw5.mono (Nat.zero_le _)
          have NW : Hid (OwnIn R (.slice h0 R.nc r0) (.slice h1 R.nl r1) (.slice h2 R.nw r2) (fun k => k < W ∨ W < k)) := rw5.ownIn.mono (fun k hk => by have := ZW.out.lt; omega)
          have ZW' := ZW.out.later q5
          clear ZW
          have ZW := hidJ ZW'
          clear ZW'
          have hS' := hS.later q5
          clear rw5 X1 X2 q5
          go_wp2_with fail
          refine hK.out _ _ hS' (fun hS => ?_)
          clear hK K hS'
        rotate_left
      rotate_left 2
      focus
        obtain ⟨W, hW⟩ : ∃ W, y1.heap.size = W := ⟨_, rfl⟩
        have ZW : Hid (Blk4 (y1.alloc (.cells #[.int .i64 0, .slice none 0 0, .slice none 0 0, .slice none 0 0] 34)) W (.int .i64 0) (.slice none 0 0) (.slice none 0 0) (.slice none 0 0)) := by rw [← hW]; exact Blk4.new _ _ _ _ _ _
        have HWb : Hid (w.heap.size + 1 < W ∧ w5.heap.size ≤ W ∧ w6.heap.size < W ∧ w8.heap.size < W ∧ w10.heap.size < W ∧ W5 < W) := by
          have l1 := hS.1.1.2.2.lt
          have l2 := hS.1.2.1.lt
          have l3 := hS.1.2.2.1.lt
          have l4 := hS.1.2.2.2.1.lt
          have l5 := hS.1.2.2.2.2.lt
          have z5 := HZ.out
          unfold Hid
          omega
        have hS' := hS.later (below_alloc y1 (.cells #[.int .i64 0, .slice none 0 0, .slice none 0 0, .slice none 0 0] 34))
        have X1' := X1.out.later (below_alloc y1 (.cells #[.int .i64 0, .slice none 0 0, .slice none 0 0, .slice none 0 0] 34))
        clear X1
        have X1 := hidJ X1'
        clear X1'
        go_simp
        refine hK.out _ _ hS' (fun hS => ?_)
        clear hK K hS' hW
        generalize y1.alloc (.cells #[.int .i64 0, .slice none 0 0, .slice none 0 0, .slice none 0 0] 34) = y2 at ZW hS X1 ⊢
        refine rdH 3 (fun K hK => ?_)
        go_simp
        go_wp2_with fail
        refine (toStore_any T _ _ _ 0 _ (H'.out.later hS.1.1.1) Hb.out.2.1 Hb.out.2.2.1 Hb.out.2.2.2).mono ?_
        rintro e y3 ⟨z0, z1, z2, rfl, s1, _, q5⟩
        have X1' := X1.out.later q5
        clear X1
        have X1 := hidJ X1'
        clear X1'
        have X2 : Hid (St y3 0 T z0 z1 z2) := s1.mono (Nat.zero_le _)
        have ZW' := ZW.out.later q5
        clear ZW
        have ZW := hidJ ZW'
        clear ZW'
        have hS' := hS.later q5
        clear s1 q5
        go_wp2_with fail
        refine hK.out _ _ hS' (fun hS => ?_)
        clear hK K hS'
        refine rdH 4 (fun K hK => ?_)
        go_simp
        go_wp2_with fail
        refine (HI.out _ _ _ _ _ _ _ X1.out X2.out).mono ?_
        rintro e y4 ⟨h0, r0, h1, r1, h2, r2, rfl, ⟨rw5, _, _⟩, q5⟩
        have RW : Hid (St y4 0 R (.slice h0 R.nc r0) (.slice h1 R.nl r1) (.slice h2 R.nw r2)) := rw5.mono (Nat.zero_le _)
        have NW : Hid (OwnIn R (.slice h0 R.nc r0) (.slice h1 R.nl r1) (.slice h2 R.nw r2) (fun k => k < W ∨ W < k)) := rw5.ownIn.mono (fun k hk => by have := ZW.out.lt; omega)
        have ZW' := ZW.out.later q5
        clear ZW
        have ZW := hidJ ZW'
        clear ZW'
        have hS' := hS.later q5
        clear rw5 X1 X2 q5
        go_wp2_with fail
        refine hK.out _ _ hS' (fun hS => ?_)
        clear hK K hS'
      rotate_left
    rotate_left 3
    focus
      obtain ⟨W, hW⟩ : ∃ W, y0.heap.size = W := ⟨_, rfl⟩
      have ZW : Hid (Blk4 (y0.alloc (.cells #[.int .i64 0, .slice none 0 0, .slice none 0 0, .slice none 0 0] 34)) W (.int .i64 0) (.slice none 0 0) (.slice none 0 0) (.slice none 0 0)) := by rw [← hW]; exact Blk4.new _ _ _ _ _ _
      have HWb : Hid (w.heap.size + 1 < W ∧ w5.heap.size ≤ W ∧ w6.heap.size < W ∧ w8.heap.size < W ∧ w10.heap.size < W ∧ W5 < W) := by
        have l1 := hS.1.1.2.2.lt
        have l2 := hS.1.2.1.lt
        have l3 := hS.1.2.2.1.lt
        have l4 := hS.1.2.2.2.1.lt
        have l5 := hS.1.2.2.2.2.lt
        have z5 := HZ.out
        unfold Hid
        omega
      have hS' := hS.later (below_alloc y0 (.cells #[.int .i64 0, .slice none 0 0, .slice none 0 0, .slice none 0 0] 34))
      go_simp
      refine hK.out _ _ hS' (fun hS => ?_)
      clear hK K hS' hW
      generalize y0.alloc (.cells #[.int .i64 0, .slice none 0 0, .slice none 0 0, .slice none 0 0] 34) = y1 at ZW hS  ⊢
      refine rdH 1 (fun K hK => ?_)
      go_simp
      go_wp2_with fail
      refine (toStore_any A _ _ _ 0 _ (H.out.later hS.1.1.1) Hb.out.1.1 Hb.out.1.2.1 Hb.out.1.2.2).mono ?_
      rintro e y2 ⟨x0, x1, x2, rfl, s1, _, q5⟩
      have X1 : Hid (St y2 0 A x0 x1 x2) := s1.mono (Nat.zero_le _)
      have ZW' := ZW.out.later q5
      clear ZW
      have ZW := hidJ ZW'
      clear ZW'
      have hS' := hS.later q5
      clear s1 q5
      go_wp2_with fail
      refine hK.out _ _ hS' (fun hS => ?_)
      clear hK K hS'
      refine rdH 3 (fun K hK => ?_)
      go_simp
      go_wp2_with fail
      refine (toStore_any T _ _ _ 0 _ (H'.out.later hS.1.1.1) Hb.out.2.1 Hb.out.2.2.1 Hb.out.2.2.2).mono ?_
      rintro e y3 ⟨z0, z1, z2, rfl, s1, _, q5⟩
      have X1' := X1.out.later q5
      clear X1
      have X1 := hidJ X1'
      clear X1'
      have X2 : Hid (St y3 0 T z0 z1 z2) := s1.mono (Nat.zero_le _)
      have ZW' := ZW.out.later q5
      clear ZW
      have ZW := hidJ ZW'
      clear ZW'
      have hS' := hS.later q5
      clear s1 q5
      go_wp2_with fail
      refine hK.out _ _ hS' (fun hS => ?_)
      clear hK K hS'
      refine rdH 4 (fun K hK => ?_)
      go_simp
      go_wp2_with fail
      refine (HI.out _ _ _ _ _ _ _ X1.out X2.out).mono ?_
      rintro e y4 ⟨h0, r0, h1, r1, h2, r2, rfl, ⟨rw5, _, _⟩, q5⟩
      have RW : Hid (St y4 0 R (.slice h0 R.nc r0) (.slice h1 R.nl r1) (.slice h2 R.nw r2)) := rw5.mono (Nat.zero_le _)
      have NW : Hid (OwnIn R (.slice h0 R.nc r0) (.slice h1 R.nl r1) (.slice h2 R.nw r2) (fun k => k < W ∨ W < k)) := rw5.ownIn.mono (fun k hk => by have := ZW.out.lt; omega)
      have ZW' := ZW.out.later q5
      clear ZW
      have ZW := hidJ ZW'
      clear ZW'
      have hS' := hS.later q5
      clear rw5 X1 X2 q5
      go_wp2_with fail
      refine hK.out _ _ hS' (fun hS => ?_)
      clear hK K hS'
    rotate_left
    all_goals
      refine rdH 6 (fun K hK => ?_)
      obtain ⟨⟨z0, z1, z2, z3⟩, zf0, zf1, zf2, zf3⟩ := ZW.out
      have KW := hidJ (ZW.out.put (.int .i64 c) (.slice h0 R.nc r0) (.slice h1 R.nl r1) (.slice h2 R.nw r2))
      have RX := hidJ (RW.out.within (within_set4J _ W (.int .i64 c) (.slice h0 R.nc r0) (.slice h1 R.nl r1) (.slice h2 R.nw r2)) (NW.out.mono (fun k hk => by omega)))
      have hS' : EndJ _ _ _ _ _ _ _ _ _ _ _ _ _ _ _ _ _ _ _ _ _ _ _ _ _ _ _ := ⟨hS.1.within (within_set4J _ W (.int .i64 c) (.slice h0 R.nc r0) (.slice h1 R.nl r1) (.slice h2 R.nw r2)) (by have := HWb.out; omega) (Or.inl (by have := HWb.out; omega)) (Or.inl (by have := HWb.out; omega)) (Or.inl (by have := HWb.out; omega)) (Or.inl (by have := HWb.out; omega)), hS.2.1.within (within_set4J _ W (.int .i64 c) (.slice h0 R.nc r0) (.slice h1 R.nl r1) (.slice h2 R.nw r2)) (LW.out.mono (fun k hk => Or.inl (by have := HWb.out; omega))), hS.2.2.within (within_set4J _ W (.int .i64 c) (.slice h0 R.nc r0) (.slice h1 R.nl r1) (.slice h2 R.nw r2)) (LGm.out.mono (fun k hk => Or.inl (by have := HWb.out; omega)))⟩
      go_simp
      refine hK.out _ _ hS' (fun hS => ?_)
      clear hK K hS' z0 z1 z2 z3 zf0 zf1 zf2 zf3 ZW RW NW
      refine wpAnyH_done (by kernel_rfl) ?_ _
      go_simp
      go_wp2_with fail
      go_meet
      case rel => exact ⟨W, h0, r0, h1, r1, h2, r2, rfl, hidJ ⟨hS, KW.out, RX.out⟩⟩
  case rest =>
  obtain ⟨WH, h0, r0, h1, r1, h2, r2, rfl, P9⟩ := hcut
  clear Q17
  obtain ⟨⟨_, ⟨⟨t0, t1, t2, t3⟩, _⟩, _⟩, _⟩ := P9.out.1
  obtain ⟨⟨e0, e1, e2, e3⟩, _⟩ := P9.out.2.1
  go_wp2_with fail
  refine (eqStoreResult_same c R _ _ _ _ _ _ _ _ _ P9.out.2.2 P9.out.1.2.1 HR.out.1 HR.out.2.1 HR.out.2.2).mono ?_
  rintro e w20 ⟨rfl, qq⟩
  have Q20 : Hid (EndJ w (.slice a0 A.nc c0) (.slice a1 A.nl c1) (.slice a2 A.nw c2) (.slice b0 T.nc d0) (.slice b1 T.nl d1) (.slice b2 T.nw d2) W5 c (.slice m0 R.nc p0) (.slice m1 R.nl p1) (.slice m2 R.nw p2) w6.heap.size (.slice j0 A.nc k0) (.slice j1 A.nl k1) (.slice j2 A.nw k2) w8.heap.size (.slice l0 T.nc o0) (.slice l1 T.nl o1) (.slice l2 T.nw o2) w10.heap.size (.slice g0 R.nc q0) (.slice g1 R.nl q1) (.slice g2 R.nw q2) R (w8.heap.size + 1) w20) := P9.out.1.later qq
  clear qq P9 t0 t1 t2 t3 e0 e1 e2 e3
  obtain ⟨⟨_, _, _, _, ⟨⟨y0, y1, y2, y3⟩, _⟩⟩, _⟩ := Q20.out
  go_wp2_with fail
  refine (heldStoreResult_any c R _ _ _ _ _ Q20.out.2.2 HR.out.1 HR.out.2.1 HR.out.2.2).mono ?_
  rintro e w21 ⟨rfl, qq⟩
  have Q21 : Hid (EndJ w (.slice a0 A.nc c0) (.slice a1 A.nl c1) (.slice a2 A.nw c2) (.slice b0 T.nc d0) (.slice b1 T.nl d1) (.slice b2 T.nw d2) W5 c (.slice m0 R.nc p0) (.slice m1 R.nl p1) (.slice m2 R.nw p2) w6.heap.size (.slice j0 A.nc k0) (.slice j1 A.nl k1) (.slice j2 A.nw k2) w8.heap.size (.slice l0 T.nc o0) (.slice l1 T.nl o1) (.slice l2 T.nw o2) w10.heap.size (.slice g0 R.nc q0) (.slice g1 R.nl q1) (.slice g2 R.nw q2) R (w8.heap.size + 1) w21) := Q20.out.later qq
  clear qq Q20 y0 y1 y2 y3
  go_wp2
  go_ret
  exact ⟨rfl, Q21.out.1.1.1⟩
end Go.Proofs.YtknbeggnlhiamaaGreat

namespace Go.Proofs.YtknbeggnlhiamaaGreat
open Go.RowKit

def vals (F : Nat → Int) (N : Nat) : List Value := (List.range N).map fun p => .int .i64 (F p)
theorem vals_length (F : Nat → Int) (N : Nat) : (vals F N).length = N := by simp [vals]
theorem vals_at (F : Nat → Int) (N p : Nat) (h : p < N) : (vals F N)[p]? = some (.int .i64 (F p)) := by simp [vals, h]
theorem vals_one (F : Nat → Int) (N : Nat) : ∀ u ∈ vals F N, u.oneCell' = true := by
  intro u hu
  simp only [vals, List.mem_map] at hu
  obtain ⟨p, _, rfl⟩ := hu
  rfl
theorem vals_inv {F : Nat → Int} {N p : Nat} {u : Value} (h : (vals F N)[p]? = some u) : p < N ∧ u = .int .i64 (F p) := by
  have hp : p < N := by
    have := (List.getElem?_eq_some_iff.1 h).1
    rwa [vals_length] at this
  rw [vals_at F N p hp] at h
  exact ⟨hp, (Option.some.inj h).symm⟩
/-- A row that a call has made, n elements of m numbers each, with room behind them. -/
def Own (w : World) (B : Nat) (e : TypeId) (m n : Nat) (F : Nat → Int) (v : Value) : Prop := w.ownsRow B e m v n (vals F (n * m))
theorem Own.row {w : World} {B : Nat} {e : TypeId} {m n : Nat} {F : Nat → Int} {v : Value} (h : Own w B e m n F v) : Row w B m n F v ∧ Free w (n * m) v := by
  have h0 : w.ownsRow B e m v n (vals F (n * m)) := h
  rcases h.2 with ⟨rfl, rfl⟩ | ⟨g, cap, cur, rfl, hg, hw, _⟩
  · refine ⟨⟨_, _, rfl, fun q => absurd q (Nat.lt_irrefl 0)⟩, ?_⟩
    rw [Nat.zero_mul]
    exact Free.of0 _ _
  · have hgs : g < w.heap.size := (Array.getElem?_eq_some_iff.1 hw).1
    refine ⟨⟨_, _, rfl, fun _ => ⟨g, 0, rfl, hg, hgs, fun p hp => ?_⟩⟩, ?_⟩
    · rw [Nat.zero_add, World.ownsRow.cellAt h0 p hp, vals_at _ _ _ hp]
    · intro g' o' n' c' hv p hp
      simp only [Value.slice.injEq, Option.some.injEq, Addr.mk.injEq] at hv
      obtain ⟨⟨rfl, rfl, _⟩, _, _⟩ := hv
      rw [Nat.zero_add]
      exact World.ownsRow.frozenAt h0 p
theorem Own.nil (w : World) (B : Nat) (e : TypeId) (m : Nat) (F : Nat → Int) : Own w B e m 0 F (.slice none 0 0) := ⟨by rw [vals_length], Or.inl ⟨rfl, rfl⟩⟩
theorem Own.later {w w' : World} {B : Nat} {e : TypeId} {m n : Nat} {F : Nat → Int} {v : Value} (h : Own w B e m n F v) (hb : Below w.heap.size w w') : Own w' B e m n F v := by
  refine ⟨h.1, ?_⟩
  rcases h.2 with q | ⟨g, cap, cur, rfl, hg, hw, r⟩
  · exact Or.inl q
  · exact Or.inr ⟨g, cap, cur, rfl, hg, (hb.block g (Array.getElem?_eq_some_iff.1 hw).1).trans hw, r⟩
theorem Own.alloc {w : World} {B : Nat} {e : TypeId} {m n : Nat} {F : Nat → Int} {v : Value} (h : Own w B e m n F v) (o : Obj) : Own (w.alloc o) B e m n F v := h.later (below_alloc _ _)
theorem Own.mono {w : World} {B B' : Nat} {e : TypeId} {m n : Nat} {F : Nat → Int} {v : Value} (h : Own w B e m n F v) (hB : B' ≤ B) : Own w B' e m n F v := World.ownsRow.mono h hB
theorem Own.form {w : World} {B : Nat} {e : TypeId} {m n : Nat} {F : Nat → Int} {v : Value} (h : Own w B e m n F v) : ∃ ao cp, v = .slice ao n cp := h.row.1.form
theorem row_cells {w : World} {B m n : Nat} {F : Nat → Int} {a : Addr} {cp : Nat} (h : Row w B m n F (.slice (some a) n cp)) : ∀ j u, (vals F (n * m))[j]? = some u → w.cell? (a.add j) = some u := by
  intro j u hu
  obtain ⟨hj, rfl⟩ := vals_inv hu
  obtain ⟨ao, cp', hv, h⟩ := h
  have hn : 0 < n := Nat.pos_of_ne_zero (fun e => by rw [e, Nat.zero_mul] at hj; omega)
  obtain ⟨g, o, rfl, _, _, hc⟩ := h hn
  simp only [Value.slice.injEq, Option.some.injEq] at hv
  obtain ⟨rfl, _⟩ := hv
  rw [WideShapes.add_plain]
  exact hc j hj
theorem below_grownBy {B : Nat} {w x x' : World} {row : Option Nat} (h : Below B w x) (hB : B ≤ x.heap.size) (hr : ∀ b, row = some b → B ≤ b) (g : x.grownBy x' row) : Below B w x' :=
  ⟨g.os.trans h.os, g.tape.trans h.tape, g.output.trans h.output, Nat.le_trans h.size g.size, fun i hi => (g.block i (by omega) (by intro e; have := hr i e.symm; omega)).trans (h.block i hi)⟩
/-- A row of structs of m numbers that a call has made, as a list of numbers. -/
def OwnM (w : World) (B : Nat) (e : TypeId) (m : Nat) (v : Value) (n : Nat) (L : List Int) : Prop := w.ownsRow B e m v n (L.map (Value.int .i64))
theorem vals_listM (L : List Int) : vals (fun p => L.getD p 0) L.length = L.map (Value.int .i64) := by
  apply List.ext_getElem?
  intro p
  rcases Nat.lt_or_ge p L.length with h | h
  · rw [vals_at _ _ _ h]
    simp [h]
  · rw [List.getElem?_eq_none (by rw [vals_length]; exact h), List.getElem?_eq_none (by simpa using h)]
theorem OwnM.own {w : World} {B : Nat} {e : TypeId} {m : Nat} {v : Value} {n : Nat} {L : List Int} (h : OwnM w B e m v n L) (hl : L.length = n * m) : Own w B e m n (fun p => L.getD p 0) v := by
  unfold Own
  rw [← hl, vals_listM]
  exact h
theorem OwnM.kept {w w' : World} {B : Nat} {e : TypeId} {m : Nat} {v : Value} {n : Nat} {L : List Int} (h : OwnM w B e m v n L) (hb : ∀ g, B ≤ g → g < w.heap.size → w'.heap[g]? = w.heap[g]?) : OwnM w' B e m v n L := by
  refine ⟨h.1, ?_⟩
  rcases h.2 with q | ⟨g, cap, cur, rfl, hg, hw, r⟩
  · exact Or.inl q
  · exact Or.inr ⟨g, cap, cur, rfl, hg, (hb g hg (Array.getElem?_eq_some_iff.1 hw).1).trans hw, r⟩
theorem OwnM.later {w w' : World} {B : Nat} {e : TypeId} {m : Nat} {v : Value} {n : Nat} {L : List Int} (h : OwnM w B e m v n L) (hb : Below w.heap.size w w') : OwnM w' B e m v n L := h.kept (fun g _ hg => hb.block g hg)
theorem OwnM.far {w : World} {B : Nat} {e : TypeId} {m : Nat} {v : Value} {n : Nat} {L : List Int} (h : OwnM w B e m v n L) {a : Addr} (ha : a.block < B) (u : Value) : OwnM (w.setCell a u) B e m v n L := h.kept (fun g hg _ => Below.heap_setCell w a u g (by omega))
theorem OwnM.nil (w : World) (B : Nat) (e : TypeId) (m : Nat) : OwnM w B e m (.slice none 0 0) 0 [] := ⟨by simp, Or.inl ⟨rfl, rfl⟩⟩
theorem OwnM.form {w : World} {B : Nat} {e : TypeId} {m : Nat} {v : Value} {n : Nat} {L : List Int} (h : OwnM w B e m v n L) : ∃ ao cp, v = .slice ao n cp := by
  rcases h.2 with ⟨rfl, rfl⟩ | ⟨g, cap, cur, rfl, _⟩
  · exact ⟨_, _, rfl⟩
  · exact ⟨_, _, rfl⟩
theorem OwnM.block {w : World} {B : Nat} {e : TypeId} {m : Nat} {v : Value} {n : Nat} {L : List Int} (h : OwnM w B e m v n L) : ∀ k, v.ownBlock = some k → B ≤ k ∧ k < w.heap.size := by
  intro k hk
  rcases h.2 with ⟨rfl, _⟩ | ⟨g, cap, cur, rfl, hg, hw, _⟩
  · simp [Value.ownBlock] at hk
  · simp [Value.ownBlock] at hk
    subst hk
    exact ⟨hg, (Array.getElem?_eq_some_iff.1 hw).1⟩
end Go.Proofs.YtknbeggnlhiamaaGreat

namespace Go.Proofs.YtknbeggnlhiamaaGreat
section
open Go.RowKit
/-- The first N numbers. -/
def nums (F : Nat → Int) (N : Nat) : List Int := (List.range N).map F
theorem nums_length (F : Nat → Int) (N : Nat) : (nums F N).length = N := by simp [nums]
theorem nums_vals (F : Nat → Int) (N : Nat) : (nums F N).map (Value.int .i64) = vals F N := by simp [nums, vals]
theorem run_app (t ty e : TypeId) (i : TypeInfo) (z : Value) (m bytes : Nat) (ht : Tryz.prog.underlying t = some (.slice e)) (hi : Tryz.prog.info? e = some i) (hz : i.zero = some z) (hsize : i.size = m) (hby : i.bytes = bytes) (hzs : z.cells.size = m) (hm : 0 < m) (hb5 : bytes ≤ 1000)
    (w : World) (base n0 : Nat) (L : List Int) (v : Value) (hown : OwnM w base e m v n0 L) (B n : Nat) (F : Nat → Int) (x : Value) (h : Row w B m n F x) (hn : n0 + n ≤ 1048576) (hbase : base ≤ w.heap.size) :
    ∃ ao cp w', (Builtin.append_ #[t, t] ty #[v, x]).run Tryz.prog w = .ok (.slice ao (n0 + n) cp) w' ∧ OwnM w' base e m (.slice ao (n0 + n) cp) (n0 + n) (L ++ nums F (n * m)) ∧ w.grownBy w' v.ownBlock := by
  have hbb : (n0 + n) * bytes ≤ 1048576 * 1000 := Nat.mul_le_mul hn hb5
  obtain ⟨ao, cp, rfl⟩ := h.form
  cases ao with
  | none =>
    have e0 : n = 0 := by
      rcases Nat.eq_zero_or_pos n with q | q
      · exact q
      · obtain ⟨g, o, hg, _⟩ := h.at q
        cases hg
    subst e0
    obtain ⟨av, cv, rfl⟩ := hown.form
    refine ⟨av, cv, w, ?_, ?_, ⟨rfl, rfl, rfl, Nat.le_refl _, fun _ _ _ => rfl⟩⟩
    · rcases hown.2 with ⟨q, _⟩ | ⟨g, cap, cur, q, _, _, hnc, _⟩
      · cases q
        simp [Builtin.append_, run_underlying ht, sizeOf, typeInfo, hi, Builtin.lenOf, Builtin.firstCells]
      · cases q
        simp [Builtin.append_, run_underlying ht, sizeOf, typeInfo, hi, Builtin.lenOf, Builtin.firstCells, hnc, storeCells]
    · simpa [nums] using hown
  | some a =>
    obtain ⟨v', w', h1, h2, h3, _⟩ := run_append_own (P := Tryz.prog) w base t ty e i z m bytes ht hi hz hsize hby hzs hm v n0 _ hown a n cp (vals F (n * m)) (vals_length _ _) (row_cells h) (vals_one _ _) (by unfold maxLen; omega) (by omega) hbase
    have h2' : OwnM w' base e m v' (n0 + n) (L ++ nums F (n * m)) := by
      unfold OwnM
      rw [List.map_append, nums_vals]
      exact h2
    obtain ⟨ao', cp', rfl⟩ := h2'.form
    exact ⟨ao', cp', w', h1, h2', h3⟩
/-- The law for the walk. -/
theorem wpList_app (e : TypeId) (i : TypeInfo) (z : Value) (m bytes : Nat) {ops : Array Oper} {rest : List Oper} {o : Oper} {a : Act} {Q : Exit → Act → World → Prop} (hgd : o.guard = none) (s x : Operand) (t : TypeId) (ho : o.op = .call { callee := .builtin .append, args := #[s, x], argTypes := #[t, t] })
    (ht : Tryz.prog.underlying t = some (.slice e)) (hi : Tryz.prog.info? e = some i) (hz : i.zero = some z) (hsize : i.size = m) (hby : i.bytes = bytes) (hzs : z.cells.size = m) (hm : 0 < m) (hb5 : bytes ≤ 1000)
    (w : World) (base n0 : Nat) (L : List Int) (v : Value) (hs : a.eval s = v) (hown : OwnM w base e m v n0 L) (B n : Nat) (F : Nat → Int) (u : Value) (hx : a.eval x = u) (h : Row w B m n F u) (hn : n0 + n ≤ 1048576) (hbase : base ≤ w.heap.size)
    (hK : ∀ ao cp w', OwnM w' base e m (.slice ao (n0 + n) cp) (n0 + n) (L ++ nums F (n * m)) → w.grownBy w' v.ownBlock → wpList Tryz.prog ops Q rest (a.put o.dst (.slice ao (n0 + n) cp)) w') : wpList Tryz.prog ops Q (o :: rest) a w := by
  refine wpList_plain hgd fun K hK' => ?_
  obtain ⟨ao, cp, w', hr, h2, h3⟩ := run_app t o.type e i z m bytes ht hi hz hsize hby hzs hm hb5 w base n0 L v hown B n F u h hn hbase
  unfold Oper.wp execOp
  simp only [ho, resolve, invoke, builtin, Sem.run_bind, Sem.run_pure, Result.andThen_ok, List.map_toArray, List.map_cons, List.map_nil, hs, hx, hr]
  exact hK' _ _ (hK ao cp w' h2 h3)
/-- .. and at one operation. -/
theorem wp_app (e : TypeId) (i : TypeInfo) (z : Value) (m bytes : Nat) {o : Oper} {a : Act} {K : Act → World → Prop} {Q : Exit → Act → World → Prop} (s x : Operand) (t : TypeId) (ho : o.op = .call { callee := .builtin .append, args := #[s, x], argTypes := #[t, t] })
    (ht : Tryz.prog.underlying t = some (.slice e)) (hi : Tryz.prog.info? e = some i) (hz : i.zero = some z) (hsize : i.size = m) (hby : i.bytes = bytes) (hzs : z.cells.size = m) (hm : 0 < m) (hb5 : bytes ≤ 1000)
    (w : World) (base n0 : Nat) (L : List Int) (v : Value) (hs : a.eval s = v) (hown : OwnM w base e m v n0 L) (B n : Nat) (F : Nat → Int) (u : Value) (hx : a.eval x = u) (h : Row w B m n F u) (hn : n0 + n ≤ 1048576) (hbase : base ≤ w.heap.size)
    (hK : ∀ ao cp w', OwnM w' base e m (.slice ao (n0 + n) cp) (n0 + n) (L ++ nums F (n * m)) → w.grownBy w' v.ownBlock → K (a.put o.dst (.slice ao (n0 + n) cp)) w') : o.wp Tryz.prog a w K Q := by
  obtain ⟨ao, cp, w', hr, h2, h3⟩ := run_app t o.type e i z m bytes ht hi hz hsize hby hzs hm hb5 w base n0 L v hown B n F u h hn hbase
  unfold Oper.wp execOp
  simp only [ho, resolve, invoke, builtin, Sem.run_bind, Sem.run_pure, Result.andThen_ok, List.map_toArray, List.map_cons, List.map_nil, hs, hx, hr]
  exact hK ao cp w' h2 h3
/-- .. and at one step of a region that draws. -/
theorem step_app (e : TypeId) (i : TypeInfo) (z : Value) (m bytes : Nat) {ops : Array Oper} {o : Oper} {a : Act} {K : Act → World → Prop} {Q : Exit → Act → World → Prop} {E : Prop} (hgd : o.guard = none) (s x : Operand) (t : TypeId) (ho : o.op = .call { callee := .builtin .append, args := #[s, x], argTypes := #[t, t] })
    (ht : Tryz.prog.underlying t = some (.slice e)) (hi : Tryz.prog.info? e = some i) (hz : i.zero = some z) (hsize : i.size = m) (hby : i.bytes = bytes) (hzs : z.cells.size = m) (hm : 0 < m) (hb5 : bytes ≤ 1000)
    (w : World) (base n0 : Nat) (L : List Int) (v : Value) (hs : a.eval s = v) (hown : OwnM w base e m v n0 L) (B n : Nat) (F : Nat → Int) (u : Value) (hx : a.eval x = u) (h : Row w B m n F u) (hn : n0 + n ≤ 1048576) (hbase : base ≤ w.heap.size)
    (hK : ∀ ao cp w', OwnM w' base e m (.slice ao (n0 + n) cp) (n0 + n) (L ++ nums F (n * m)) → w.grownBy w' v.ownBlock → K (a.put o.dst (.slice ao (n0 + n) cp)) w') :
    if Region.wanted o (yielded ops a.tmps) = true then Oper.wp Tryz.prog o a w K Q else E := by
  have hw : Region.wanted o (yielded ops a.tmps) = true := by simp [Region.wanted, hgd]
  rw [if_pos hw]
  exact wp_app e i z m bytes s x t ho ht hi hz hsize hby hzs hm hb5 w base n0 L v hs hown B n F u hx h hn hbase hK
theorem OwnM.lit0 (Y : World) (b : Nat) (e : TypeId) (m : Nat) (hb : Y.heap.size = b) : OwnM (Y.alloc (.cells #[] e)) b e m (.slice (some ⟨b, 0, none⟩) 0 0) 0 [] := by
  subst hb
  exact World.ownsRow_lit Y #[] 0 (Nat.le_refl _) (Nat.zero_le _) (by simp)
/-- The first k elements, and those from k on. -/
theorem Row.head {w : World} {B m n : Nat} {F : Nat → Int} {ao : Option Addr} {cp : Nat} (h : Row w B m n F (.slice ao n cp)) {k : Nat} (hk : k ≤ n) (c' : Nat) : Row w B m k F (.slice ao k c') := by
  obtain ⟨ao', cp', hv, h⟩ := h
  simp only [Value.slice.injEq] at hv
  obtain ⟨rfl, _, _⟩ := hv
  refine ⟨_, _, rfl, fun hn => ?_⟩
  obtain ⟨g, o, ha, hB, hg, hc⟩ := h (by omega)
  exact ⟨g, o, ha, hB, hg, fun p hp => hc p (Nat.lt_of_lt_of_le hp (Nat.mul_le_mul_right m hk))⟩
theorem Row.tail {w : World} {B m n g o : Nat} {F : Nat → Int} {cp : Nat} (h : Row w B m n F (.slice (some ⟨g, o, none⟩) n cp)) {k : Nat} (hk : k < n) (c' : Nat) : Row w B m (n - k) (fun p => F (k * m + p)) (.slice (some ⟨g, o + k * m, none⟩) (n - k) c') := by
  obtain ⟨ao', cp', hv, h⟩ := h
  obtain ⟨g', o', ha, hB, hg, hc⟩ := h (by omega)
  simp only [Value.slice.injEq] at hv
  obtain ⟨rfl, _, _⟩ := hv
  simp only [Option.some.injEq, Addr.mk.injEq] at ha
  obtain ⟨rfl, rfl, _⟩ := ha
  refine ⟨_, _, rfl, fun _ => ⟨g, o + k * m, rfl, hB, hg, fun p hp => ?_⟩⟩
  rw [Nat.add_assoc]
  refine hc _ ?_
  have e1 : (n - k) * m = n * m - k * m := Nat.sub_mul n k m
  have e2 : k * m ≤ n * m := Nat.mul_le_mul_right m (by omega)
  omega
theorem Row.tailS {w : World} {B m n g o : Nat} {F : Nat → Int} {cp : Nat} (h : Row w B m n F (.slice (some ⟨g, o, none⟩) n cp)) {k : Nat} (hk : k < n) (hc : n ≤ cp) : Row w B m (n - k) (fun p => F (k * m + p)) (.slice (if cp = k then some ⟨g, o, none⟩ else some ⟨g, o + k * m, none⟩) (n - k) (cp - k)) := by
  rw [if_neg (by omega)]
  exact h.tail hk _
theorem Row.over (w : World) (B m n k : Nat) (F : Nat → Int) (ao : Option Addr) (c : Nat) (hk : ¬ k < n) : Row w B m (n - k) F (.slice ao (n - k) c) := ⟨_, _, rfl, fun q => by omega⟩
theorem OwnM.keptB {w w' : World} {B : Nat} {e : TypeId} {m : Nat} {v : Value} {n : Nat} {L : List Int} (h : OwnM w B e m v n L) (hb : ∀ k, v.ownBlock = some k → w'.heap[k]? = w.heap[k]?) : OwnM w' B e m v n L := by
  obtain ⟨h1, h2⟩ := h
  refine ⟨h1, ?_⟩
  rcases h2 with q | ⟨g, cap, cur, rfl, q1, q2, q3⟩
  · exact Or.inl q
  · exact Or.inr ⟨g, cap, cur, rfl, q1, (hb g rfl).trans q2, q3⟩
theorem OwnM.set {w : World} {B : Nat} {e : TypeId} {m : Nat} {v : Value} {n : Nat} {L : List Int} (h : OwnM w B e m v n L) {c : Nat} (hc : ∀ k, v.ownBlock = some k → k ≠ c) (j : Nat) (u : Value) : OwnM (w.setCell ⟨c, j, none⟩ u) B e m v n L :=
  h.keptB (fun k hk => Below.heap_setCell w _ u k (hc k hk))
theorem OwnM.cap {w : World} {B : Nat} {e : TypeId} {m n : Nat} {ao : Option Addr} {cp : Nat} {L : List Int} (h : OwnM w B e m (.slice ao n cp) n L) : n ≤ cp := by
  rcases h.2 with ⟨q, e⟩ | ⟨g, cap, cur, q, _, _, hn, _⟩
  · cases q; exact Nat.le_refl _
  · cases q; exact hn
end
end Go.Proofs.YtknbeggnlhiamaaGreat

namespace Go.Proofs.YtknbeggnlhiamaaGreat
open Go.RowKit

/-- A row of two rows of structs. -/
structure Twin (w : World) (g B m : Nat) (n0 n1 : Nat) (F0 F1 : Nat → Int) (a0 a1 : Option Addr) (c0 c1 : Nat) : Prop where
  r0 : Row w B m n0 F0 (.slice a0 n0 c0)
  r1 : Row w B m n1 F1 (.slice a1 n1 c1)
  b0 : w.cell? ⟨g, 0, none⟩ = some (.slice a0 n0 c0)
  b1 : w.cell? ⟨g, 1, none⟩ = some (.slice a1 n1 c1)
theorem Twin.later {w w' : World} {g B m n0 n1 : Nat} {F0 F1 : Nat → Int} {a0 a1 : Option Addr} {c0 c1 : Nat} (h : Twin w g B m n0 n1 F0 F1 a0 a1 c0 c1) (hb : Below w.heap.size w w') : Twin w' g B m n0 n1 F0 F1 a0 a1 c0 c1 :=
  ⟨h.r0.later hb, h.r1.later hb, (hb.cell (p := ⟨g, 0, none⟩) (World.block_lt_of_cell? w _ h.b0)).trans h.b0, (hb.cell (p := ⟨g, 1, none⟩) (World.block_lt_of_cell? w _ h.b1)).trans h.b1⟩
/-- An append of zeros to nothing, and none of them told: an empty row with room. -/
theorem own_zeros (w : World) (e : TypeId) (m n c : Nat) (cs : Array Value) (hm : c ≤ maxLen) (hs : cs.size = c * m) (_ : n ≤ c) : OwnM (w.drew.alloc (.cells cs e)) w.heap.size e m (.slice (some ⟨w.heap.size, 0, none⟩) 0 c) 0 [] :=
  World.ownsRow_made w.drew cs c (Nat.le_refl _) hm hs
set_option maxHeartbeats 2000000 in
theorem growCell_any (n : Nat) (hn : n ≤ 400) (w : World) :
    Calls Tryz.prog 75 #[.slice none 0 0, .int .i64 n] w fun e w' => ∃ ao cp, e = .returned (.slice ao 0 cp) ∧ OwnM w' w.heap.size 62 3 (.slice ao 0 cp) 0 [] ∧ Below w.heap.size w w' := by
  obtain ⟨i0, hi0, hz0, hzs, hzb⟩ := info_parts info_Cell
  rcases Nat.eq_zero_or_pos n with e | e
  · subst e
    go_enter Tryz.func75, Tryz.ntmps75
    go_wp2
    go_ret
    exact ⟨none, 0, rfl, OwnM.nil _ _ _ _, Below.refl _ _⟩
  · have hd0 : decide ((n : Int) < 0) = false := decide_eq_false (by omega)
    have hd1 : decide ((0 : Int) < (n : Int)) = true := decide_eq_true (by omega)
    have hap : ∀ ty, ∃ cp cs, (cp ≤ maxLen ∧ cs.size = cp * 3 ∧ n ≤ cp) ∧ (Builtin.append_ #[28, 3] ty #[.slice none 0 0, .int .i64 (n : Int)]).run Tryz.prog w = .ok (.slice (some ⟨w.heap.size, 0, none⟩) n cp) (w.drew.alloc (.cells cs 62)) := fun ty => by
      have h := Lib.run_append_nil_zeros w 28 3 ty 62 i0 _ .i64 .i64 Tryz.underlying28 (by kernel_rfl) hi0 hz0 n e (by omega) (by omega) (by rw [hzb]; omega)
      have hG1 := grownCap_ge w n 0 62
      have hG2 := grownCap_le_maxLen w n 0 62 (by unfold maxLen; omega)
      refine ⟨_, _, ⟨hG2, ?_, hG1⟩, h⟩
      simp [Builtin.zeroCells, Value.cells]
      omega
    obtain ⟨cp, cs, hc, hr⟩ := hap 28
    clear hap
    go_enter Tryz.func75, Tryz.ntmps75
    go_wp2_with (at_builtin; refine Lib.wpList_append_run _ rfl _ _ _ _ rfl _ _ rfl rfl _ _ hr ?_)
    go_ret
    exact ⟨_, cp, rfl, own_zeros w 62 3 n cp cs hc.1 hc.2.1 hc.2.2, (Below.refl _ _).drew.alloc (Nat.le_refl _) _⟩
set_option maxHeartbeats 2000000 in
theorem growLock_any (n : Nat) (hn : n ≤ 400) (w : World) :
    Calls Tryz.prog 76 #[.slice none 0 0, .int .i64 n] w fun e w' => ∃ ao cp, e = .returned (.slice ao 0 cp) ∧ OwnM w' w.heap.size 65 5 (.slice ao 0 cp) 0 [] ∧ Below w.heap.size w w' := by
  obtain ⟨i0, hi0, hz0, hzs, hzb⟩ := info_parts info_Lock
  rcases Nat.eq_zero_or_pos n with e | e
  · subst e
    go_enter Tryz.func76, Tryz.ntmps76
    go_wp2
    go_ret
    exact ⟨none, 0, rfl, OwnM.nil _ _ _ _, Below.refl _ _⟩
  · have hd0 : decide ((n : Int) < 0) = false := decide_eq_false (by omega)
    have hd1 : decide ((0 : Int) < (n : Int)) = true := decide_eq_true (by omega)
    have hap : ∀ ty, ∃ cp cs, (cp ≤ maxLen ∧ cs.size = cp * 5 ∧ n ≤ cp) ∧ (Builtin.append_ #[29, 3] ty #[.slice none 0 0, .int .i64 (n : Int)]).run Tryz.prog w = .ok (.slice (some ⟨w.heap.size, 0, none⟩) n cp) (w.drew.alloc (.cells cs 65)) := fun ty => by
      have h := Lib.run_append_nil_zeros w 29 3 ty 65 i0 _ .i64 .i64 Tryz.underlying29 (by kernel_rfl) hi0 hz0 n e (by omega) (by omega) (by rw [hzb]; omega)
      have hG1 := grownCap_ge w n 0 65
      have hG2 := grownCap_le_maxLen w n 0 65 (by unfold maxLen; omega)
      refine ⟨_, _, ⟨hG2, ?_, hG1⟩, h⟩
      simp [Builtin.zeroCells, Value.cells]
      omega
    obtain ⟨cp, cs, hc, hr⟩ := hap 29
    clear hap
    go_enter Tryz.func76, Tryz.ntmps76
    go_wp2_with (at_builtin; refine Lib.wpList_append_run _ rfl _ _ _ _ rfl _ _ rfl rfl _ _ hr ?_)
    go_ret
    exact ⟨_, cp, rfl, own_zeros w 65 5 n cp cs hc.1 hc.2.1 hc.2.2, (Below.refl _ _).drew.alloc (Nat.le_refl _) _⟩
set_option maxHeartbeats 2000000 in
theorem growWrite_any (n : Nat) (hn : n ≤ 400) (w : World) :
    Calls Tryz.prog 77 #[.slice none 0 0, .int .i64 n] w fun e w' => ∃ ao cp, e = .returned (.slice ao 0 cp) ∧ OwnM w' w.heap.size 68 4 (.slice ao 0 cp) 0 [] ∧ Below w.heap.size w w' := by
  obtain ⟨i0, hi0, hz0, hzs, hzb⟩ := info_parts info_Write
  rcases Nat.eq_zero_or_pos n with e | e
  · subst e
    go_enter Tryz.func77, Tryz.ntmps77
    go_wp2
    go_ret
    exact ⟨none, 0, rfl, OwnM.nil _ _ _ _, Below.refl _ _⟩
  · have hd0 : decide ((n : Int) < 0) = false := decide_eq_false (by omega)
    have hd1 : decide ((0 : Int) < (n : Int)) = true := decide_eq_true (by omega)
    have hap : ∀ ty, ∃ cp cs, (cp ≤ maxLen ∧ cs.size = cp * 4 ∧ n ≤ cp) ∧ (Builtin.append_ #[30, 3] ty #[.slice none 0 0, .int .i64 (n : Int)]).run Tryz.prog w = .ok (.slice (some ⟨w.heap.size, 0, none⟩) n cp) (w.drew.alloc (.cells cs 68)) := fun ty => by
      have h := Lib.run_append_nil_zeros w 30 3 ty 68 i0 _ .i64 .i64 Tryz.underlying30 (by kernel_rfl) hi0 hz0 n e (by omega) (by omega) (by rw [hzb]; omega)
      have hG1 := grownCap_ge w n 0 68
      have hG2 := grownCap_le_maxLen w n 0 68 (by unfold maxLen; omega)
      refine ⟨_, _, ⟨hG2, ?_, hG1⟩, h⟩
      simp [Builtin.zeroCells, Value.cells]
      omega
    obtain ⟨cp, cs, hc, hr⟩ := hap 30
    clear hap
    go_enter Tryz.func77, Tryz.ntmps77
    go_wp2_with (at_builtin; refine Lib.wpList_append_run _ rfl _ _ _ _ rfl _ _ rfl rfl _ _ hr ?_)
    go_ret
    exact ⟨_, cp, rfl, own_zeros w 68 4 n cp cs hc.1 hc.2.1 hc.2.2, (Below.refl _ _).drew.alloc (Nat.le_refl _) _⟩
set_option maxHeartbeats 4000000 in
set_option maxRecDepth 100000 in
theorem concatCell_any (g B n0 n1 : Nat) (F0 F1 : Nat → Int) (a0 a1 : Option Addr) (c0 c1 : Nat) (w : World) (h : Twin w g B 3 n0 n1 F0 F1 a0 a1 c0 c1) (h0 : n0 ≤ 200) (h1 : n1 ≤ 200) :
    Calls Tryz.prog 47 #[.slice (some ⟨g, 0, none⟩) 2 2] w fun e w' => ∃ ao cp, e = .returned (.slice ao (n0 + n1) cp) ∧ OwnM w' w.heap.size 62 3 (.slice ao (n0 + n1) cp) (n0 + n1) (nums F0 (n0 * 3) ++ nums F1 (n1 * 3)) ∧ Below w.heap.size w w' := by
  have H : Hid (Twin w g B 3 n0 n1 F0 F1 a0 a1 c0 c1) := h
  obtain ⟨_, _, b0, b1⟩ := h
  have d0 : decide ((n0 : Int) < 0) = false := decide_eq_false (by omega)
  have d1 : decide ((n0 : Int) + (n1 : Int) < 0) = false := decide_eq_false (by omega)
  go_enter Tryz.func47, Tryz.ntmps47
  go_wp2
  go_loopw [11, 3, 5] (fun i s u wr => wr = w ∧ ((i = .int .i64 0 ∧ s = .int .i64 0) ∨ (i = .int .i64 1 ∧ s = .int .i64 n0) ∨ (i = .int .i64 2 ∧ s = .int .i64 ((n0 + n1 : Nat) : Int)))) (fun i _ _ _ => 2 - (intOf i).toNat)
  case atStart => exact ⟨rfl, Or.inl ⟨rfl, rfl⟩⟩
  case round =>
    obtain ⟨rfl, ⟨rfl, rfl⟩ | ⟨rfl, rfl⟩ | ⟨rfl, rfl⟩⟩ := hrel
    · go_wp2
      go_roundw
      case rel => exact ⟨trivial, Or.inr (Or.inl ⟨rfl, by simp⟩)⟩
      case measure => simp [intOf]
    · go_wp2
      go_roundw
      case rel => exact ⟨trivial, Or.inr (Or.inr ⟨rfl, by simp⟩)⟩
      case measure => simp [intOf]
    · clear d0 d1 b0 b1
      go_wp2_with fail
      refine (growCell_any (n0 + n1) (by omega) wr).mono ?_
      rintro e w1 ⟨ao, cp, rfl, O1, q1⟩
      have OX : Hid (OwnM w1 wr.heap.size 62 3 (.slice ao 0 cp) 0 [] ∧ Below wr.heap.size wr w1) := ⟨O1, q1⟩
      clear O1 q1
      obtain ⟨w, rfl⟩ : ∃ x, x = wr := ⟨_, rfl⟩
      go_wp2
      go_loopw [27, 6, 8] (fun i s u x => ∃ (k p : Nat) (ao : Option Addr) (cp : Nat) (L : List Int), (k = 0 ∧ p = 0 ∧ L = [] ∨ k = 1 ∧ n0 = p ∧ L = nums F0 (n0 * 3) ∨ k = 2 ∧ p = n0 + n1 ∧ L = nums F0 (n0 * 3) ++ nums F1 (n1 * 3)) ∧ i = .int .i64 k ∧ s = .slice ao p cp ∧ Hid (OwnM x w.heap.size 62 3 (.slice ao p cp) p L ∧ Below w.heap.size w x)) (fun i _ _ _ => 2 - (intOf i).toNat)
      case atStart => exact ⟨0, 0, _, _, [], Or.inl ⟨rfl, rfl, rfl⟩, rfl, rfl, OX⟩
      case round =>
        obtain ⟨k, p, ao, cp, L, hk, rfl, rfl, HO⟩ := hrel
        have HT : Hid (Twin wr g B 3 n0 n1 F0 F1 a0 a1 c0 c1) := H.out.later HO.out.2
        obtain ⟨_, _, b0, b1⟩ := HT.out
        rcases hk with ⟨rfl, rfl, rfl⟩ | ⟨rfl, rfl, rfl⟩ | ⟨rfl, rfl, rfl⟩
        · obtain ⟨i0, hi, hz0, hz1, hz2⟩ := info_parts info_Cell
          go_wp2_with (at_builtin; refine wpList_app 62 i0 (.agg #[.int .i64 0, .int .i64 0, .int .i64 0]) 3 24 rfl _ _ 28 rfl Tryz.underlying28 hi hz0 hz1 hz2 rfl (by omega) (by omega) _ w.heap.size 0 [] (.slice ao 0 cp) rfl HO.out.1 B n0 F0 (.slice a0 n0 c0) rfl HT.out.r0 (by omega) HO.out.2.size ?_; intro ao1 cp1 w2 O2 G2)
          have OY : Hid (OwnM w2 w.heap.size 62 3 (.slice ao1 n0 cp1) n0 (nums F0 (n0 * 3)) ∧ Below w.heap.size w w2) := ⟨by rw [Nat.zero_add, List.nil_append] at O2; exact O2, below_grownBy HO.out.2 HO.out.2.size (fun q e => (HO.out.1.block q e).1) G2⟩
          clear O2 G2
          go_wp2
          go_roundw
          case rel => exact ⟨1, n0, ao1, cp1, _, Or.inr (Or.inl ⟨rfl, rfl, rfl⟩), rfl, by simp, OY⟩
          case measure => simp [intOf]
        · obtain ⟨i0, hi, hz0, hz1, hz2⟩ := info_parts info_Cell
          go_wp2_with (at_builtin; refine wpList_app 62 i0 (.agg #[.int .i64 0, .int .i64 0, .int .i64 0]) 3 24 rfl _ _ 28 rfl Tryz.underlying28 hi hz0 hz1 hz2 rfl (by omega) (by omega) _ w.heap.size n0 (nums F0 (n0 * 3)) (.slice ao n0 cp) rfl HO.out.1 B n1 F1 (.slice a1 n1 c1) rfl HT.out.r1 (by omega) HO.out.2.size ?_; intro ao1 cp1 w2 O2 G2)
          have OY : Hid (OwnM w2 w.heap.size 62 3 (.slice ao1 (n0 + n1) cp1) (n0 + n1) (nums F0 (n0 * 3) ++ nums F1 (n1 * 3)) ∧ Below w.heap.size w w2) := ⟨O2, below_grownBy HO.out.2 HO.out.2.size (fun q e => (HO.out.1.block q e).1) G2⟩
          clear O2 G2
          go_wp2
          go_roundw
          case rel => exact ⟨2, n0 + n1, ao1, cp1, _, Or.inr (Or.inr ⟨rfl, rfl, rfl⟩), rfl, rfl, OY⟩
          case measure => simp [intOf]
        · go_wp2
          go_ret
          exact ⟨ao, cp, rfl, HO.out.1, HO.out.2⟩
set_option maxHeartbeats 4000000 in
set_option maxRecDepth 100000 in
theorem concatLock_any (g B n0 n1 : Nat) (F0 F1 : Nat → Int) (a0 a1 : Option Addr) (c0 c1 : Nat) (w : World) (h : Twin w g B 5 n0 n1 F0 F1 a0 a1 c0 c1) (h0 : n0 ≤ 200) (h1 : n1 ≤ 200) :
    Calls Tryz.prog 48 #[.slice (some ⟨g, 0, none⟩) 2 2] w fun e w' => ∃ ao cp, e = .returned (.slice ao (n0 + n1) cp) ∧ OwnM w' w.heap.size 65 5 (.slice ao (n0 + n1) cp) (n0 + n1) (nums F0 (n0 * 5) ++ nums F1 (n1 * 5)) ∧ Below w.heap.size w w' := by
  have H : Hid (Twin w g B 5 n0 n1 F0 F1 a0 a1 c0 c1) := h
  obtain ⟨_, _, b0, b1⟩ := h
  have d0 : decide ((n0 : Int) < 0) = false := decide_eq_false (by omega)
  have d1 : decide ((n0 : Int) + (n1 : Int) < 0) = false := decide_eq_false (by omega)
  go_enter Tryz.func48, Tryz.ntmps48
  go_wp2
  go_loopw [11, 3, 5] (fun i s u wr => wr = w ∧ ((i = .int .i64 0 ∧ s = .int .i64 0) ∨ (i = .int .i64 1 ∧ s = .int .i64 n0) ∨ (i = .int .i64 2 ∧ s = .int .i64 ((n0 + n1 : Nat) : Int)))) (fun i _ _ _ => 2 - (intOf i).toNat)
  case atStart => exact ⟨rfl, Or.inl ⟨rfl, rfl⟩⟩
  case round =>
    obtain ⟨rfl, ⟨rfl, rfl⟩ | ⟨rfl, rfl⟩ | ⟨rfl, rfl⟩⟩ := hrel
    · go_wp2
      go_roundw
      case rel => exact ⟨trivial, Or.inr (Or.inl ⟨rfl, by simp⟩)⟩
      case measure => simp [intOf]
    · go_wp2
      go_roundw
      case rel => exact ⟨trivial, Or.inr (Or.inr ⟨rfl, by simp⟩)⟩
      case measure => simp [intOf]
    · clear d0 d1 b0 b1
      go_wp2_with fail
      refine (growLock_any (n0 + n1) (by omega) wr).mono ?_
      rintro e w1 ⟨ao, cp, rfl, O1, q1⟩
      have OX : Hid (OwnM w1 wr.heap.size 65 5 (.slice ao 0 cp) 0 [] ∧ Below wr.heap.size wr w1) := ⟨O1, q1⟩
      clear O1 q1
      obtain ⟨w, rfl⟩ : ∃ x, x = wr := ⟨_, rfl⟩
      go_wp2
      go_loopw [27, 6, 8] (fun i s u x => ∃ (k p : Nat) (ao : Option Addr) (cp : Nat) (L : List Int), (k = 0 ∧ p = 0 ∧ L = [] ∨ k = 1 ∧ n0 = p ∧ L = nums F0 (n0 * 5) ∨ k = 2 ∧ p = n0 + n1 ∧ L = nums F0 (n0 * 5) ++ nums F1 (n1 * 5)) ∧ i = .int .i64 k ∧ s = .slice ao p cp ∧ Hid (OwnM x w.heap.size 65 5 (.slice ao p cp) p L ∧ Below w.heap.size w x)) (fun i _ _ _ => 2 - (intOf i).toNat)
      case atStart => exact ⟨0, 0, _, _, [], Or.inl ⟨rfl, rfl, rfl⟩, rfl, rfl, OX⟩
      case round =>
        obtain ⟨k, p, ao, cp, L, hk, rfl, rfl, HO⟩ := hrel
        have HT : Hid (Twin wr g B 5 n0 n1 F0 F1 a0 a1 c0 c1) := H.out.later HO.out.2
        obtain ⟨_, _, b0, b1⟩ := HT.out
        rcases hk with ⟨rfl, rfl, rfl⟩ | ⟨rfl, rfl, rfl⟩ | ⟨rfl, rfl, rfl⟩
        · obtain ⟨i0, hi, hz0, hz1, hz2⟩ := info_parts info_Lock
          go_wp2_with (at_builtin; refine wpList_app 65 i0 (.agg #[.int .i64 0, .int .i64 0, .int .i64 0, .int .i64 0, .int .i64 0]) 5 40 rfl _ _ 29 rfl Tryz.underlying29 hi hz0 hz1 hz2 rfl (by omega) (by omega) _ w.heap.size 0 [] (.slice ao 0 cp) rfl HO.out.1 B n0 F0 (.slice a0 n0 c0) rfl HT.out.r0 (by omega) HO.out.2.size ?_; intro ao1 cp1 w2 O2 G2)
          have OY : Hid (OwnM w2 w.heap.size 65 5 (.slice ao1 n0 cp1) n0 (nums F0 (n0 * 5)) ∧ Below w.heap.size w w2) := ⟨by rw [Nat.zero_add, List.nil_append] at O2; exact O2, below_grownBy HO.out.2 HO.out.2.size (fun q e => (HO.out.1.block q e).1) G2⟩
          clear O2 G2
          go_wp2
          go_roundw
          case rel => exact ⟨1, n0, ao1, cp1, _, Or.inr (Or.inl ⟨rfl, rfl, rfl⟩), rfl, by simp, OY⟩
          case measure => simp [intOf]
        · obtain ⟨i0, hi, hz0, hz1, hz2⟩ := info_parts info_Lock
          go_wp2_with (at_builtin; refine wpList_app 65 i0 (.agg #[.int .i64 0, .int .i64 0, .int .i64 0, .int .i64 0, .int .i64 0]) 5 40 rfl _ _ 29 rfl Tryz.underlying29 hi hz0 hz1 hz2 rfl (by omega) (by omega) _ w.heap.size n0 (nums F0 (n0 * 5)) (.slice ao n0 cp) rfl HO.out.1 B n1 F1 (.slice a1 n1 c1) rfl HT.out.r1 (by omega) HO.out.2.size ?_; intro ao1 cp1 w2 O2 G2)
          have OY : Hid (OwnM w2 w.heap.size 65 5 (.slice ao1 (n0 + n1) cp1) (n0 + n1) (nums F0 (n0 * 5) ++ nums F1 (n1 * 5)) ∧ Below w.heap.size w w2) := ⟨O2, below_grownBy HO.out.2 HO.out.2.size (fun q e => (HO.out.1.block q e).1) G2⟩
          clear O2 G2
          go_wp2
          go_roundw
          case rel => exact ⟨2, n0 + n1, ao1, cp1, _, Or.inr (Or.inr ⟨rfl, rfl, rfl⟩), rfl, rfl, OY⟩
          case measure => simp [intOf]
        · go_wp2
          go_ret
          exact ⟨ao, cp, rfl, HO.out.1, HO.out.2⟩
set_option maxHeartbeats 4000000 in
set_option maxRecDepth 100000 in
theorem concatWrite_any (g B n0 n1 : Nat) (F0 F1 : Nat → Int) (a0 a1 : Option Addr) (c0 c1 : Nat) (w : World) (h : Twin w g B 4 n0 n1 F0 F1 a0 a1 c0 c1) (h0 : n0 ≤ 200) (h1 : n1 ≤ 200) :
    Calls Tryz.prog 49 #[.slice (some ⟨g, 0, none⟩) 2 2] w fun e w' => ∃ ao cp, e = .returned (.slice ao (n0 + n1) cp) ∧ OwnM w' w.heap.size 68 4 (.slice ao (n0 + n1) cp) (n0 + n1) (nums F0 (n0 * 4) ++ nums F1 (n1 * 4)) ∧ Below w.heap.size w w' := by
  have H : Hid (Twin w g B 4 n0 n1 F0 F1 a0 a1 c0 c1) := h
  obtain ⟨_, _, b0, b1⟩ := h
  have d0 : decide ((n0 : Int) < 0) = false := decide_eq_false (by omega)
  have d1 : decide ((n0 : Int) + (n1 : Int) < 0) = false := decide_eq_false (by omega)
  go_enter Tryz.func49, Tryz.ntmps49
  go_wp2
  go_loopw [11, 3, 5] (fun i s u wr => wr = w ∧ ((i = .int .i64 0 ∧ s = .int .i64 0) ∨ (i = .int .i64 1 ∧ s = .int .i64 n0) ∨ (i = .int .i64 2 ∧ s = .int .i64 ((n0 + n1 : Nat) : Int)))) (fun i _ _ _ => 2 - (intOf i).toNat)
  case atStart => exact ⟨rfl, Or.inl ⟨rfl, rfl⟩⟩
  case round =>
    obtain ⟨rfl, ⟨rfl, rfl⟩ | ⟨rfl, rfl⟩ | ⟨rfl, rfl⟩⟩ := hrel
    · go_wp2
      go_roundw
      case rel => exact ⟨trivial, Or.inr (Or.inl ⟨rfl, by simp⟩)⟩
      case measure => simp [intOf]
    · go_wp2
      go_roundw
      case rel => exact ⟨trivial, Or.inr (Or.inr ⟨rfl, by simp⟩)⟩
      case measure => simp [intOf]
    · clear d0 d1 b0 b1
      go_wp2_with fail
      refine (growWrite_any (n0 + n1) (by omega) wr).mono ?_
      rintro e w1 ⟨ao, cp, rfl, O1, q1⟩
      have OX : Hid (OwnM w1 wr.heap.size 68 4 (.slice ao 0 cp) 0 [] ∧ Below wr.heap.size wr w1) := ⟨O1, q1⟩
      clear O1 q1
      obtain ⟨w, rfl⟩ : ∃ x, x = wr := ⟨_, rfl⟩
      go_wp2
      go_loopw [27, 6, 8] (fun i s u x => ∃ (k p : Nat) (ao : Option Addr) (cp : Nat) (L : List Int), (k = 0 ∧ p = 0 ∧ L = [] ∨ k = 1 ∧ n0 = p ∧ L = nums F0 (n0 * 4) ∨ k = 2 ∧ p = n0 + n1 ∧ L = nums F0 (n0 * 4) ++ nums F1 (n1 * 4)) ∧ i = .int .i64 k ∧ s = .slice ao p cp ∧ Hid (OwnM x w.heap.size 68 4 (.slice ao p cp) p L ∧ Below w.heap.size w x)) (fun i _ _ _ => 2 - (intOf i).toNat)
      case atStart => exact ⟨0, 0, _, _, [], Or.inl ⟨rfl, rfl, rfl⟩, rfl, rfl, OX⟩
      case round =>
        obtain ⟨k, p, ao, cp, L, hk, rfl, rfl, HO⟩ := hrel
        have HT : Hid (Twin wr g B 4 n0 n1 F0 F1 a0 a1 c0 c1) := H.out.later HO.out.2
        obtain ⟨_, _, b0, b1⟩ := HT.out
        rcases hk with ⟨rfl, rfl, rfl⟩ | ⟨rfl, rfl, rfl⟩ | ⟨rfl, rfl, rfl⟩
        · obtain ⟨i0, hi, hz0, hz1, hz2⟩ := info_parts info_Write
          go_wp2_with (at_builtin; refine wpList_app 68 i0 (.agg #[.int .i64 0, .int .i64 0, .int .i64 0, .int .i64 0]) 4 32 rfl _ _ 30 rfl Tryz.underlying30 hi hz0 hz1 hz2 rfl (by omega) (by omega) _ w.heap.size 0 [] (.slice ao 0 cp) rfl HO.out.1 B n0 F0 (.slice a0 n0 c0) rfl HT.out.r0 (by omega) HO.out.2.size ?_; intro ao1 cp1 w2 O2 G2)
          have OY : Hid (OwnM w2 w.heap.size 68 4 (.slice ao1 n0 cp1) n0 (nums F0 (n0 * 4)) ∧ Below w.heap.size w w2) := ⟨by rw [Nat.zero_add, List.nil_append] at O2; exact O2, below_grownBy HO.out.2 HO.out.2.size (fun q e => (HO.out.1.block q e).1) G2⟩
          clear O2 G2
          go_wp2
          go_roundw
          case rel => exact ⟨1, n0, ao1, cp1, _, Or.inr (Or.inl ⟨rfl, rfl, rfl⟩), rfl, by simp, OY⟩
          case measure => simp [intOf]
        · obtain ⟨i0, hi, hz0, hz1, hz2⟩ := info_parts info_Write
          go_wp2_with (at_builtin; refine wpList_app 68 i0 (.agg #[.int .i64 0, .int .i64 0, .int .i64 0, .int .i64 0]) 4 32 rfl _ _ 30 rfl Tryz.underlying30 hi hz0 hz1 hz2 rfl (by omega) (by omega) _ w.heap.size n0 (nums F0 (n0 * 4)) (.slice ao n0 cp) rfl HO.out.1 B n1 F1 (.slice a1 n1 c1) rfl HT.out.r1 (by omega) HO.out.2.size ?_; intro ao1 cp1 w2 O2 G2)
          have OY : Hid (OwnM w2 w.heap.size 68 4 (.slice ao1 (n0 + n1) cp1) (n0 + n1) (nums F0 (n0 * 4) ++ nums F1 (n1 * 4)) ∧ Below w.heap.size w w2) := ⟨O2, below_grownBy HO.out.2 HO.out.2.size (fun q e => (HO.out.1.block q e).1) G2⟩
          clear O2 G2
          go_wp2
          go_roundw
          case rel => exact ⟨2, n0 + n1, ao1, cp1, _, Or.inr (Or.inr ⟨rfl, rfl, rfl⟩), rfl, rfl, OY⟩
          case measure => simp [intOf]
        · go_wp2
          go_ret
          exact ⟨ao, cp, rfl, HO.out.1, HO.out.2⟩
end Go.Proofs.YtknbeggnlhiamaaGreat

namespace Go.Proofs.YtknbeggnlhiamaaGreat
open Go.RowKit

/-- A row that a call has made and has done with: its block lies from lo on below hi. -/
def Done (x : World) (lo hi m n : Nat) (F : Nat → Int) (u : Value) : Prop := (Row x lo m n F u ∧ Free x (n * m) u) ∧ (0 < n → ∀ k, u.ownBlock = some k → k < hi)
theorem OwnM.done {w : World} {B : Nat} {e : TypeId} {m : Nat} {v : Value} {n : Nat} {L : List Int} (h : OwnM w B e m v n L) (hl : L.length = n * m) : Done w B w.heap.size m n (fun p => L.getD p 0) v := ⟨(h.own hl).row, fun _ k hk => (h.block k hk).2⟩
theorem Done.within {x x' : World} {lo hi m n B E : Nat} {F : Nat → Int} {u : Value} (h : Done x lo hi m n F u) (hw : Within B E x x') (hB : hi ≤ B) : Done x' lo hi m n F u :=
  ⟨⟨h.1.1.within hw (fun h0 k hk => Or.inl (Nat.lt_of_lt_of_le (h.2 h0 k hk) hB)), h.1.2.within h.1.1 hw (fun h0 k hk => Or.inl (Nat.lt_of_lt_of_le (h.2 h0 k hk) hB))⟩, h.2⟩
theorem Done.later {x x' : World} {lo hi m n : Nat} {F : Nat → Int} {u : Value} (h : Done x lo hi m n F u) (hb : Below x.heap.size x x') : Done x' lo hi m n F u := h.within (Within.grow (B := hi) (E := hi) hb) (Nat.le_refl _)
theorem Done.far {x : World} {lo hi m n : Nat} {F : Nat → Int} {u : Value} (h : Done x lo hi m n F u) {a : Addr} (ha : a.block < lo) (v : Value) : Done (x.setCell a v) lo hi m n F u := ⟨⟨h.1.1.far (Or.inl ha) v, h.1.2.far a v⟩, h.2⟩
theorem Done.mono {x : World} {lo hi lo' hi' m n : Nat} {F : Nat → Int} {u : Value} (h : Done x lo hi m n F u) (h1 : lo' ≤ lo) (h2 : hi ≤ hi') : Done x lo' hi' m n F u := ⟨⟨h.1.1.mono h1, h.1.2⟩, fun h0 k hk => Nat.lt_of_lt_of_le (h.2 h0 k hk) h2⟩
/-- A new store, its rows in three blocks. -/
def NewSto (w : World) (R : Sto) (e : Ending) (w' : World) : Prop := ∃ a0 c0 a1 c1 a2 c2, e = .returned (.agg #[.slice a0 R.nc c0, .slice a1 R.nl c1, .slice a2 R.nw c2]) ∧ (St w' w.heap.size R (.slice a0 R.nc c0) (.slice a1 R.nl c1) (.slice a2 R.nw c2) ∧ FreeS w' R (.slice a0 R.nc c0) (.slice a1 R.nl c1) (.slice a2 R.nw c2) ∧ ApartD R (.slice a0 R.nc c0) (.slice a1 R.nl c1) (.slice a2 R.nw c2)) ∧ Below w.heap.size w w'
def emptyS : Sto := ⟨0, fun _ => 0, 0, fun _ => 0, 0, fun _ => 0⟩
theorem row_none0 (w : World) (B m : Nat) (F : Nat → Int) : Row w B m 0 F (.slice none 0 0) ∧ Free w (0 * m) (.slice none 0 0) := ⟨⟨_, _, rfl, fun q => absurd q (Nat.lt_irrefl 0)⟩, by rw [Nat.zero_mul]; exact Free.of0 _ _⟩
theorem empty_sto (w : World) (B : Nat) : St w B emptyS (.slice none 0 0) (.slice none 0 0) (.slice none 0 0) ∧ FreeS w emptyS (.slice none 0 0) (.slice none 0 0) (.slice none 0 0) ∧ ApartD emptyS (.slice none 0 0) (.slice none 0 0) (.slice none 0 0) :=
  ⟨⟨(row_none0 w B 3 _).1, (row_none0 w B 5 _).1, (row_none0 w B 4 _).1⟩, ⟨(row_none0 w B 3 (fun _ => 0)).2, (row_none0 w B 5 (fun _ => 0)).2, (row_none0 w B 4 (fun _ => 0)).2⟩, fun q => absurd q (Nat.lt_irrefl 0), fun q => absurd q (Nat.lt_irrefl 0), fun q => absurd q (Nat.lt_irrefl 0)⟩
end Go.Proofs.YtknbeggnlhiamaaGreat

namespace Go.Proofs.YtknbeggnlhiamaaGreat
open Go.RowKit
theorem perm_strict {α : Type} {lt : α → α → Prop} (asym : ∀ x y, lt x y → ¬ lt y x) : ∀ {l l' : List α}, l.Perm l' → l.Pairwise lt → l'.Pairwise lt → l = l'
  | [], l', hp, _, _ => (List.nil_perm.1 hp).symm
  | a :: t, l', hp, h, h' => by
    cases l' with
    | nil => exact absurd (List.perm_nil.1 hp) (by simp)
    | cons b t' =>
      have hab : a = b := by
        have ha : a ∈ b :: t' := hp.mem_iff.1 List.mem_cons_self
        have hb : b ∈ a :: t := hp.mem_iff.2 List.mem_cons_self
        rcases List.mem_cons.1 ha with e | ha'
        · exact e
        · rcases List.mem_cons.1 hb with e | hb'
          · exact e.symm
          · exact absurd ((List.pairwise_cons.1 h').1 a ha') (asym a b ((List.pairwise_cons.1 h).1 b hb'))
      subst hab
      rw [perm_strict asym ((List.perm_cons a).1 hp) (List.pairwise_cons.1 h).2 (List.pairwise_cons.1 h').2]
/-- Below, by two numbers. -/
def Lt2 {α : Type} (k s : α → Int) (x y : α) : Prop := k x < k y ∨ k x = k y ∧ s x < s y
theorem Lt2.asym {α : Type} {k s : α → Int} {x y : α} (h : Lt2 k s x y) : ¬ Lt2 k s y x := by
  unfold Lt2 at *
  omega
/-- The struct number k of a row. -/
def struD (F : Nat → Int) (m k : Nat) : List Int := (List.range m).map fun q => F (k * m + q)
theorem struD_get (F : Nat → Int) (m k q : Nat) (hq : q < m) : (struD F m k).getD q 0 = F (k * m + q) := by simp [struD, hq]
theorem struD_len (F : Nat → Int) (m k : Nat) : (struD F m k).length = m := by simp [struD]
theorem flat_get {m : Nat} : ∀ (l : List (List Int)) (t : Nat), (∀ x ∈ l, x.length = m) → t < l.length * m → l.flatten.getD t 0 = (l.getD (t / m) []).getD (t % m) 0
  | [], t, _, ht => by simp at ht
  | x :: r, t, hl, ht => by
    have hx : x.length = m := hl x List.mem_cons_self
    have hm : 0 < m := Nat.pos_of_ne_zero (fun e => by subst e; simp at ht)
    rcases Nat.lt_or_ge t m with h | h
    · rw [Nat.div_eq_of_lt h, Nat.mod_eq_of_lt h, List.flatten_cons]
      simp [List.getElem?_append, hx, h]
    · have ih := flat_get r (t - m) (fun y hy => hl y (List.mem_cons_of_mem _ hy)) (by simp only [List.length_cons, Nat.succ_mul] at ht; omega)
      have e1 : t / m = (t - m) / m + 1 := Nat.div_eq_sub_div hm h
      have e2 : t % m = (t - m) % m := Nat.mod_eq_sub_mod h
      have hn : ¬ t < x.length := by omega
      rw [e1, e2, List.flatten_cons]
      rw [List.getD_cons_succ, ← ih]
      simp [List.getElem?_append, hx, Nat.not_lt.2 h]
end Go.Proofs.YtknbeggnlhiamaaGreat

namespace Go.Proofs.YtknbeggnlhiamaaGreat
open Go.RowKit

theorem fl_back_fin : ∀ n : Fin 200, floatToIntVal .f64 (floatOfInt .f64 (n.val : Int)) .i64 = some (n.val : Int) := by decide +kernel
theorem fl_back (n : Int) (h0 : 0 ≤ n) (h1 : n ≤ 199) : floatToIntVal .f64 (floatOfInt .f64 n) .i64 = some n := by
  have := fl_back_fin ⟨n.toNat, by omega⟩
  simpa [Int.toNat_of_nonneg h0] using this
/-- A small number comes back out of its float. -/
theorem run_to_int (n : Int) (h0 : 0 ≤ n) (h1 : n ≤ 199) (w : World) : (convert 143 2 (.float .f64 (floatOfInt .f64 n))).run Tryz.prog w = .ok (.int .i64 n) w :=
  run_convert_float_int w _ _ _ _ _ _ (by rw [Tryz.underlying143]; rfl) Tryz.underlying2 (fl_back n h0 h1)

/-- What is told of a key: 0 it stands for something, 1 for nothing, 3 it leaves its bounds. -/
def faultOf (key : Int) : Int :=
  if key < 0 ∨ 199 < key then 3
  else if key = 0 ∨ (10 ≤ key ∧ key ≤ 19) ∨ (180 ≤ key ∧ key ≤ 189) ∨ (20 ≤ key ∧ key ≤ 119 ∧ key % 10 ≤ 5) then 0 else 1
theorem faultOf_range {key : Int} (h : key < 0 ∨ 199 < key) : faultOf key = 3 := by unfold faultOf; rw [if_pos h]
theorem faultOf_ok {key : Int} (h : key = 0 ∨ (10 ≤ key ∧ key ≤ 19) ∨ (180 ≤ key ∧ key ≤ 189) ∨ (20 ≤ key ∧ key ≤ 119 ∧ key % 10 ≤ 5)) : faultOf key = 0 := by
  unfold faultOf; rw [if_neg (by omega), if_pos h]
theorem faultOf_form {key : Int} (h0 : 0 ≤ key) (h1 : key ≤ 199) (h : ¬ (key = 0 ∨ (10 ≤ key ∧ key ≤ 19) ∨ (180 ≤ key ∧ key ≤ 189) ∨ (20 ≤ key ∧ key ≤ 119 ∧ key % 10 ≤ 5))) : faultOf key = 1 := by
  unfold faultOf; rw [if_neg (by omega), if_neg h]
set_option maxHeartbeats 400000 in
theorem l1Fault_any (key : Int) (w : World) :
    Calls Tryz.prog 62 #[.int .i64 key] w fun e w' => e = .returned (.int .i64 (faultOf key)) ∧ w' = w := by
  by_cases hlo : key < 0
  · rw [faultOf_range (Or.inl hlo)]
    go_enter Tryz.func62, Tryz.ntmps62
    go_wp2
    go_ret
    exact ⟨rfl, rfl⟩
  by_cases hhi : 199 < key
  · rw [faultOf_range (Or.inr hhi)]
    have d1 : decide (key ≤ 199) = false := decide_eq_false (by omega)
    go_enter Tryz.func62, Tryz.ntmps62
    go_wp2
    go_ret
    exact ⟨rfl, rfl⟩
  have d1 : decide (key ≤ 199) = true := decide_eq_true (by omega)
  by_cases hz : key = 0
  · subst hz
    rw [faultOf_ok (Or.inl rfl)]
    go_enter Tryz.func62, Tryz.ntmps62
    go_wp2
    go_ret
    exact ⟨rfl, rfl⟩
  have d0 : (key == 0) = false := beq_eq_false_iff_ne.2 hz
  by_cases h9 : key < 10
  · rw [faultOf_form (by omega) (by omega) (by omega)]
    go_enter Tryz.func62, Tryz.ntmps62
    go_wp2
    go_ret
    exact ⟨rfl, rfl⟩
  by_cases h19 : key < 20
  · rw [faultOf_ok (by omega)]
    have d2 : decide (key ≤ 19) = true := decide_eq_true (by omega)
    go_enter Tryz.func62, Tryz.ntmps62
    go_wp2
    go_ret
    exact ⟨rfl, rfl⟩
  have d2 : decide (key ≤ 19) = false := decide_eq_false (by omega)
  by_cases h119 : key < 120
  · have d4 : decide (key ≤ 119) = true := decide_eq_true (by omega)
    by_cases h5 : key % 10 ≤ 5
    · rw [faultOf_ok (by omega)]
      have d5 : decide (key % 10 ≤ 5) = true := decide_eq_true h5
      go_enter Tryz.func62, Tryz.ntmps62
      go_wp2
      go_ret
      exact ⟨rfl, rfl⟩
    · rw [faultOf_form (by omega) (by omega) (by omega)]
      have d5 : decide (key % 10 ≤ 5) = false := decide_eq_false h5
      go_enter Tryz.func62, Tryz.ntmps62
      go_wp2
      go_ret
      exact ⟨rfl, rfl⟩
  have d4 : decide (key ≤ 119) = false := decide_eq_false (by omega)
  by_cases h179 : key < 180
  · rw [faultOf_form (by omega) (by omega) (by omega)]
    go_enter Tryz.func62, Tryz.ntmps62
    go_wp2
    go_ret
    exact ⟨rfl, rfl⟩
  by_cases h189 : key < 190
  · rw [faultOf_ok (by omega)]
    have d6 : decide (key ≤ 189) = true := decide_eq_true (by omega)
    go_enter Tryz.func62, Tryz.ntmps62
    go_wp2
    go_ret
    exact ⟨rfl, rfl⟩
  have d6 : decide (key ≤ 189) = false := decide_eq_false (by omega)
  rw [faultOf_form (by omega) (by omega) (by omega)]
  go_enter Tryz.func62, Tryz.ntmps62
  go_wp2
  go_ret
  exact ⟨rfl, rfl⟩
end Go.Proofs.YtknbeggnlhiamaaGreat

namespace Go.Proofs.YtknbeggnlhiamaaGreat
open Go.RowKit

/-- Of g 0, g 1 .. below n the first that is not 0; 0 where there is none. -/
def scan (g : Nat → Int) : Nat → Int
  | 0 => 0
  | n + 1 => if scan g n = 0 then g n else scan g n
theorem scan_go {g : Nat → Int} {k : Nat} (h : scan g k = 0) (h2 : g k = 0) : scan g (k + 1) = 0 := by rw [scan, if_pos h, h2]
theorem scan_stop {g : Nat → Int} {k : Nat} (h : scan g k = 0) (h2 : g k ≠ 0) : ∀ {n : Nat}, k < n → scan g n = g k
  | 0, hn => by omega
  | n + 1, hn => by
    rcases Nat.lt_or_ge k n with h3 | h3
    · have := scan_stop h h2 h3
      rw [scan, this, if_neg h2]
    · obtain rfl : k = n := by omega
      rw [scan, if_pos h]

def cellF (c : Nat → Int) (i : Nat) : Int :=
  if faultOf (c (i * 3)) ≠ 0 then faultOf (c (i * 3))
  else if ¬ (1 ≤ c (i * 3 + 1) ∧ c (i * 3 + 1) ≤ 100000 ∧ 0 ≤ c (i * 3 + 2) ∧ c (i * 3 + 2) ≤ 9999) then 3
  else if 0 < i ∧ ¬ (c ((i - 1) * 3) < c (i * 3) ∨ c ((i - 1) * 3) = c (i * 3) ∧ c ((i - 1) * 3 + 1) < c (i * 3 + 1)) then 1 else 0
def lockF (l : Nat → Int) (i : Nat) : Int :=
  if faultOf (l (i * 5)) ≠ 0 then faultOf (l (i * 5))
  else if faultOf (l (i * 5 + 3)) ≠ 0 then faultOf (l (i * 5 + 3))
  else if ¬ (1 ≤ l (i * 5 + 1) ∧ l (i * 5 + 1) ≤ 100000 ∧ 1 ≤ l (i * 5 + 2) ∧ l (i * 5 + 2) ≤ 3 ∧ 0 ≤ l (i * 5 + 4) ∧ l (i * 5 + 4) ≤ 100000) then 3
  else if 0 < i ∧ ¬ (l ((i - 1) * 5) < l (i * 5)) then 1 else 0
def fits (k : Nat → Int) (i : Nat) : Prop := (k (i * 4 + 3) = 4 → k (i * 4 + 1) = k (i * 4 + 2)) ∧ (k (i * 4 + 3) ≠ 4 → k (i * 4 + 2) < k (i * 4 + 1))
instance (k : Nat → Int) (i : Nat) : Decidable (fits k i) := by unfold fits; exact inferInstance
def writeF (k : Nat → Int) (i : Nat) : Int :=
  if faultOf (k (i * 4)) ≠ 0 then faultOf (k (i * 4))
  else if ¬ (1 ≤ k (i * 4 + 1) ∧ k (i * 4 + 1) ≤ 100000 ∧ 1 ≤ k (i * 4 + 2) ∧ k (i * 4 + 2) ≤ 100000 ∧ 1 ≤ k (i * 4 + 3) ∧ k (i * 4 + 3) ≤ 4) then 3
  else if (0 < i ∧ ¬ (k ((i - 1) * 4) < k (i * 4) ∨ k ((i - 1) * 4) = k (i * 4) ∧ k ((i - 1) * 4 + 1) < k (i * 4 + 1))) ∨ ¬ fits k i then 1 else 0
/-- Cell i is of this key and start; write i is. -/
def cellIs (c : Nat → Int) (a b : Int) (i : Nat) : Prop := c (i * 3) = a ∧ c (i * 3 + 1) = b
def writeIs (k : Nat → Int) (a b : Int) (i : Nat) : Prop := k (i * 4) = a ∧ k (i * 4 + 2) = b
instance (c : Nat → Int) (a b : Int) (i : Nat) : Decidable (cellIs c a b i) := by unfold cellIs; exact inferInstance
instance (c : Nat → Int) (a b : Int) (i : Nat) : Decidable (writeIs c a b i) := by unfold writeIs; exact inferInstance
def hasCell (S : Sto) (n : Nat) (a b : Int) : Prop := ∃ i, i < n ∧ cellIs S.c a b i
def hasWrite (S : Sto) (n : Nat) (a b : Int) : Prop := ∃ i, i < n ∧ writeIs S.k a b i
def putW (S : Sto) (i : Nat) : Prop := S.k (i * 4 + 3) = 1 → hasCell S S.nc (S.k (i * 4)) (S.k (i * 4 + 2))
def putL (S : Sto) (i : Nat) : Prop := S.l (i * 5 + 2) = 1 → hasCell S S.nc (S.l (i * 5)) (S.l (i * 5 + 1))
def onceW (S : Sto) (i : Nat) : Prop := ¬ hasWrite S i (S.k (i * 4)) (S.k (i * 4 + 2))
def onceL (S : Sto) (i : Nat) : Prop := ¬ hasWrite S S.nw (S.l (i * 5)) (S.l (i * 5 + 1))
def needs (S : Sto) : Prop := (∀ i, i < S.nw → putW S i) ∧ ∀ i, i < S.nl → putL S i
def once (S : Sto) : Prop := (∀ i, i < S.nw → onceW S i) ∧ ∀ i, i < S.nl → onceL S i
open Classical in
noncomputable def storeF (S : Sto) : Int :=
  if 200 < S.nc ∨ 200 < S.nl ∨ 200 < S.nw then 2
  else if scan (cellF S.c) S.nc ≠ 0 then scan (cellF S.c) S.nc
  else if scan (lockF S.l) S.nl ≠ 0 then scan (lockF S.l) S.nl
  else if scan (writeF S.k) S.nw ≠ 0 then scan (writeF S.k) S.nw
  else if ¬ needs S then 4 else if ¬ once S then 6 else 0
end Go.Proofs.YtknbeggnlhiamaaGreat

namespace Go.Proofs.YtknbeggnlhiamaaGreat
open Go.RowKit

theorem isTime_is (v : Int) (r : Bool) (hr : decide (1 ≤ v ∧ v ≤ 100000) = r) (w : World) :
    Calls Tryz.prog 68 #[.int .i64 v] w fun e w' => e = .returned (.bool r) ∧ w' = w := by
  by_cases h1 : 1 ≤ v
  · by_cases h2 : v ≤ 100000
    · have d : decide (v ≤ 100000) = true := decide_eq_true h2
      rw [decide_eq_true (show 1 ≤ v ∧ v ≤ 100000 from ⟨h1, h2⟩)] at hr
      subst hr
      go_enter Tryz.func68, Tryz.ntmps68
      go_wp2
      go_ret
      exact ⟨rfl, rfl⟩
    · have d : decide (v ≤ 100000) = false := decide_eq_false h2
      rw [decide_eq_false (show ¬ (1 ≤ v ∧ v ≤ 100000) from fun h => h2 h.2)] at hr
      subst hr
      go_enter Tryz.func68, Tryz.ntmps68
      go_wp2
      go_ret
      exact ⟨rfl, rfl⟩
  · have d : decide (1 ≤ v) = false := decide_eq_false h1
    rw [decide_eq_false (show ¬ (1 ≤ v ∧ v ≤ 100000) from fun h => h1 h.1)] at hr
    subst hr
    go_enter Tryz.func68, Tryz.ntmps68
    go_wp2
    go_ret
    exact ⟨rfl, rfl⟩
theorem isValue_is (v : Int) (r : Bool) (hr : decide (0 ≤ v ∧ v ≤ 9999) = r) (w : World) :
    Calls Tryz.prog 69 #[.int .i64 v] w fun e w' => e = .returned (.bool r) ∧ w' = w := by
  by_cases h1 : 0 ≤ v
  · by_cases h2 : v ≤ 9999
    · have d : decide (v ≤ 9999) = true := decide_eq_true h2
      rw [decide_eq_true (show 0 ≤ v ∧ v ≤ 9999 from ⟨h1, h2⟩)] at hr
      subst hr
      go_enter Tryz.func69, Tryz.ntmps69
      go_wp2
      go_ret
      exact ⟨rfl, rfl⟩
    · have d : decide (v ≤ 9999) = false := decide_eq_false h2
      rw [decide_eq_false (show ¬ (0 ≤ v ∧ v ≤ 9999) from fun h => h2 h.2)] at hr
      subst hr
      go_enter Tryz.func69, Tryz.ntmps69
      go_wp2
      go_ret
      exact ⟨rfl, rfl⟩
  · have d : decide (0 ≤ v) = false := decide_eq_false h1
    rw [decide_eq_false (show ¬ (0 ≤ v ∧ v ≤ 9999) from fun h => h1 h.1)] at hr
    subst hr
    go_enter Tryz.func69, Tryz.ntmps69
    go_wp2
    go_ret
    exact ⟨rfl, rfl⟩
theorem isUntil_is (v : Int) (r : Bool) (hr : decide (0 ≤ v ∧ v ≤ 100000) = r) (w : World) :
    Calls Tryz.prog 71 #[.int .i64 v] w fun e w' => e = .returned (.bool r) ∧ w' = w := by
  by_cases h1 : 0 ≤ v
  · by_cases h2 : v ≤ 100000
    · have d : decide (v ≤ 100000) = true := decide_eq_true h2
      rw [decide_eq_true (show 0 ≤ v ∧ v ≤ 100000 from ⟨h1, h2⟩)] at hr
      subst hr
      go_enter Tryz.func71, Tryz.ntmps71
      go_wp2
      go_ret
      exact ⟨rfl, rfl⟩
    · have d : decide (v ≤ 100000) = false := decide_eq_false h2
      rw [decide_eq_false (show ¬ (0 ≤ v ∧ v ≤ 100000) from fun h => h2 h.2)] at hr
      subst hr
      go_enter Tryz.func71, Tryz.ntmps71
      go_wp2
      go_ret
      exact ⟨rfl, rfl⟩
  · have d : decide (0 ≤ v) = false := decide_eq_false h1
    rw [decide_eq_false (show ¬ (0 ≤ v ∧ v ≤ 100000) from fun h => h1 h.1)] at hr
    subst hr
    go_enter Tryz.func71, Tryz.ntmps71
    go_wp2
    go_ret
    exact ⟨rfl, rfl⟩
theorem isLockKind_is (v : Int) (r : Bool) (hr : decide (1 ≤ v ∧ v ≤ 3) = r) (w : World) :
    Calls Tryz.prog 70 #[.int .i64 v] w fun e w' => e = .returned (.bool r) ∧ w' = w := by
  by_cases h1 : 1 ≤ v
  · by_cases h2 : v ≤ 3
    · have d : decide (v ≤ 3) = true := decide_eq_true h2
      rw [decide_eq_true (show 1 ≤ v ∧ v ≤ 3 from ⟨h1, h2⟩)] at hr
      subst hr
      go_enter Tryz.func70, Tryz.ntmps70
      go_wp2
      go_ret
      exact ⟨rfl, rfl⟩
    · have d : decide (v ≤ 3) = false := decide_eq_false h2
      rw [decide_eq_false (show ¬ (1 ≤ v ∧ v ≤ 3) from fun h => h2 h.2)] at hr
      subst hr
      go_enter Tryz.func70, Tryz.ntmps70
      go_wp2
      go_ret
      exact ⟨rfl, rfl⟩
  · have d : decide (1 ≤ v) = false := decide_eq_false h1
    rw [decide_eq_false (show ¬ (1 ≤ v ∧ v ≤ 3) from fun h => h1 h.1)] at hr
    subst hr
    go_enter Tryz.func70, Tryz.ntmps70
    go_wp2
    go_ret
    exact ⟨rfl, rfl⟩

/-- How two numbers stand to each other: -1, 0 or 1. -/
def cmpOf (a b : Int) : Int := if a < b then -1 else if b < a then 1 else 0
theorem compare_is (a b r : Int) (hr : cmpOf a b = r) (w : World) :
    Calls Tryz.prog 81 #[.int .i64 a, .int .i64 b] w fun e w' => e = .returned (.int .i64 r) ∧ w' = w := by
  unfold cmpOf at hr
  by_cases h1 : a < b
  · rw [if_pos h1] at hr
    subst hr
    go_enter Tryz.func81, Tryz.ntmps81
    go_wp2
    go_ret
    exact ⟨rfl, rfl⟩
  · rw [if_neg h1] at hr
    have d1 : decide (a < b) = false := decide_eq_false h1
    by_cases h2 : b < a
    · rw [if_pos h2] at hr
      subst hr
      clear h1
      go_enter Tryz.func81, Tryz.ntmps81
      go_wp2
      go_ret
      exact ⟨rfl, rfl⟩
    · rw [if_neg h2] at hr
      subst hr
      have d2 : decide (b < a) = false := decide_eq_false h2
      clear h1 h2
      go_enter Tryz.func81, Tryz.ntmps81
      go_wp2
      go_ret
      exact ⟨rfl, rfl⟩
/-- The first of two numbers that is not 0. -/
def orOf (a b : Int) : Int := if a = 0 then b else a
set_option maxHeartbeats 1000000 in
theorem or_is (a b r : Int) (g : Nat) (hr : orOf a b = r) (w : World) (h0 : w.cell? ⟨g, 0, none⟩ = some (.int .i64 a)) (h1 : w.cell? ⟨g, 1, none⟩ = some (.int .i64 b)) :
    Calls Tryz.prog 80 #[.slice (some ⟨g, 0, none⟩) 2 2] w fun e w' => e = .returned (.int .i64 r) ∧ w' = w := by
  unfold orOf at hr
  by_cases ha : a = 0
  · rw [if_pos ha] at hr
    subst hr ha
    go_enter Tryz.func80, Tryz.ntmps80
    go_wp2
    go_loop [8] (fun i => i = .int .i64 0 ∨ i = .int .i64 1 ∨ (i = .int .i64 2 ∧ b = 0)) (fun i => 2 - (intOf i).toNat)
    case atStart => exact Or.inl rfl
    case round =>
      rcases hrel with rfl | rfl | ⟨rfl, rfl⟩
      · go_wp2
        go_round
        case rel => exact Or.inr (Or.inl rfl)
        case measure => simp [intOf]
      · by_cases hb : b = 0
        · subst hb
          go_wp2
          go_round
          case rel => exact Or.inr (Or.inr ⟨rfl, by simp⟩)
          case measure => simp [intOf]
        · have d : (b == 0) = false := beq_eq_false_iff_ne.2 hb
          clear hb
          go_wp2
          go_ret
          exact ⟨rfl, rfl⟩
      · go_wp2
        go_ret
        exact ⟨rfl, rfl⟩
  · rw [if_neg ha] at hr
    subst hr
    have d : (a == 0) = false := beq_eq_false_iff_ne.2 ha
    clear ha
    go_enter Tryz.func80, Tryz.ntmps80
    go_wp2
    go_loop [8] (fun i => i = .int .i64 0) (fun i => 2 - (intOf i).toNat)
    case atStart => rfl
    case round =>
      subst hrel
      go_wp2
      go_ret
      exact ⟨rfl, rfl⟩

/-- Four cells of two boxes, and that nothing old has turned. -/
def Four (w : World) (a0 a1 b0 b1 : Int) (x : World) : Prop := x.cell? ⟨w.heap.size, 0, none⟩ = some (.int .i64 a0) ∧ x.cell? ⟨w.heap.size, 1, none⟩ = some (.int .i64 a1) ∧ x.cell? ⟨w.heap.size + 1, 0, none⟩ = some (.int .i64 b0) ∧ x.cell? ⟨w.heap.size + 1, 1, none⟩ = some (.int .i64 b1) ∧ Below w.heap.size w x
theorem Four.later {w x x' : World} {a0 a1 b0 b1 : Int} (h : Four w a0 a1 b0 b1 x) (hb : Below x.heap.size x x') : Four w a0 a1 b0 b1 x' := by
  obtain ⟨h0, h1, h2, h3, h4⟩ := h
  exact ⟨(hb.cell (World.block_lt_of_cell? x _ h0)).trans h0, (hb.cell (World.block_lt_of_cell? x _ h1)).trans h1, (hb.cell (World.block_lt_of_cell? x _ h2)).trans h2, (hb.cell (World.block_lt_of_cell? x _ h3)).trans h3, h4.trans (hb.mono h4.size)⟩

theorem below_alloc_drew (X : World) (o : Obj) : Below X.drew.heap.size X.drew (X.alloc o).drew := ⟨rfl, rfl, rfl, (below_alloc X o).size, (below_alloc X o).block⟩
theorem two_cells (X : World) (n : Nat) (hn : X.heap.size = n) (a b : Value) (t : TypeId) : (X.alloc (.cells #[a, b] t)).drew.cell? ⟨n, 0, none⟩ = some a ∧ (X.alloc (.cells #[a, b] t)).drew.cell? ⟨n, 1, none⟩ = some b := by
  subst hn
  exact ⟨World.cell?_alloc_mark X _ _ _ 0, World.cell?_alloc_mark X _ _ _ 1⟩
set_option maxRecDepth 100000 in
set_option maxHeartbeats 1000000 in
theorem compareCells_is (x0 x1 x2 y0 y1 y2 : Int) (r : Int) (hr : orOf (cmpOf x0 y0) (cmpOf x1 y1) = r) (w : World) :
    Calls Tryz.prog 51 #[.agg #[.int .i64 x0, .int .i64 x1, .int .i64 x2], .agg #[.int .i64 y0, .int .i64 y1, .int .i64 y2]] w fun e w' => e = .returned (.int .i64 r) ∧ Below w.heap.size w w' := by
  obtain ⟨c0, C0⟩ : ∃ c, Hid (cmpOf x0 y0 = c) := ⟨_, rfl⟩
  obtain ⟨c1, C1⟩ : ∃ c, Hid (cmpOf x1 y1 = c) := ⟨_, rfl⟩
  have HR : Hid (orOf c0 c1 = r) := by unfold Hid; rw [← C0.out, ← C1.out]; exact hr
  clear hr
  go_enter Tryz.func51, Tryz.ntmps51
  go_wp2_with fail
  have h0 : Four w x0 x1 y0 y1 (((w.alloc (.cells #[.int .i64 x0, .int .i64 x1, .int .i64 x2] 62)).alloc (.cells #[.int .i64 y0, .int .i64 y1, .int .i64 y2] 62)).drew) := ⟨by simp, by simp, by simp, by simp, ((below_alloc _ _).alloc (by simp) _).drew⟩
  refine wp_region_held_drew (S := Four w x0 x1 y0 y1) (by kernel_rfl) h0 (fun hS => ?_)
  clear h0
  refine tkH 0 ?_ hS (fun wx hx => ?_) ?_; rotate_left
  · obtain ⟨hx0, hx1, hx2, hx3, _⟩ := hx; go_simp; try with_reducible rfl
  refine tkH 1 ?_ hS (fun wx hx => ?_) ?_; rotate_left
  · obtain ⟨hx0, hx1, hx2, hx3, _⟩ := hx; go_simp; try with_reducible rfl
  refine tkH 2 ?_ hS (fun wx hx => ?_) ?_; rotate_left
  · obtain ⟨hx0, hx1, hx2, hx3, _⟩ := hx; go_simp; try with_reducible rfl
  refine tkH 3 ?_ hS (fun wx hx => ?_) ?_; rotate_left
  · obtain ⟨hx0, hx1, hx2, hx3, _⟩ := hx; go_simp; try with_reducible rfl
  refine tkH 5 ?_ hS (fun wx hx => ?_) ?_; rotate_left
  · obtain ⟨hx0, hx1, hx2, hx3, _⟩ := hx; go_simp; try with_reducible rfl
  refine tkH 6 ?_ hS (fun wx hx => ?_) ?_; rotate_left
  · obtain ⟨hx0, hx1, hx2, hx3, _⟩ := hx; go_simp; try with_reducible rfl
  refine tkH 7 ?_ hS (fun wx hx => ?_) ?_; rotate_left
  · obtain ⟨hx0, hx1, hx2, hx3, _⟩ := hx; go_simp; try with_reducible rfl
  refine tkH 8 ?_ hS (fun wx hx => ?_) ?_; rotate_left
  · obtain ⟨hx0, hx1, hx2, hx3, _⟩ := hx; go_simp; try with_reducible rfl
  refine rdH 4 (fun K hK => ?_)
  go_simp
  go_wp2_with fail
  refine (compare_is _ _ c0 C0.out _).mono ?_
  rintro e w1 ⟨rfl, rfl⟩
  have hS' := hS
  go_wp2_with fail
  refine hK.out _ _ hS' (fun hS => ?_)
  clear hK K hS'
  refine rdH 9 (fun K hK => ?_)
  go_simp
  go_wp2_with fail
  refine (compare_is _ _ c1 C1.out _).mono ?_
  rintro e w1 ⟨rfl, rfl⟩
  have hS' := hS
  go_wp2_with fail
  refine hK.out _ _ hS' (fun hS => ?_)
  clear hK K hS'
  refine rdH 10 (fun K hK => ?_)
  go_simp
  refine hK.out _ _ (hS.later (below_alloc_drew _ _)) (fun hS => ?_)
  clear hK K
  refine rdH 11 (fun K hK => ?_)
  go_simp
  go_wp2_with fail
  refine (or_is c0 c1 r _ HR.out _ (two_cells _ _ (by simp) _ _ _).1 (two_cells _ _ (by simp) _ _ _).2).mono ?_
  rintro e w1 ⟨rfl, rfl⟩
  have hS' := hS
  go_wp2_with fail
  refine hK.out _ _ hS' (fun hS => ?_)
  clear hK K hS'
  refine tkH 12 ?_ hS (fun wx hx => ?_) ?_; rotate_left
  · obtain ⟨hx0, hx1, hx2, hx3, _⟩ := hx; go_simp; try with_reducible rfl
  refine wpAnyH_done (by kernel_rfl) ?_ _
  go_simp
  go_wp2
  go_ret
  exact ⟨rfl, hS.2.2.2.2⟩
set_option maxRecDepth 100000 in
set_option maxHeartbeats 1000000 in
theorem compareWrites_is (x0 x1 x2 x3 y0 y1 y2 y3 : Int) (r : Int) (hr : orOf (cmpOf x0 y0) (cmpOf x1 y1) = r) (w : World) :
    Calls Tryz.prog 55 #[.agg #[.int .i64 x0, .int .i64 x1, .int .i64 x2, .int .i64 x3], .agg #[.int .i64 y0, .int .i64 y1, .int .i64 y2, .int .i64 y3]] w fun e w' => e = .returned (.int .i64 r) ∧ Below w.heap.size w w' := by
  obtain ⟨c0, C0⟩ : ∃ c, Hid (cmpOf x0 y0 = c) := ⟨_, rfl⟩
  obtain ⟨c1, C1⟩ : ∃ c, Hid (cmpOf x1 y1 = c) := ⟨_, rfl⟩
  have HR : Hid (orOf c0 c1 = r) := by unfold Hid; rw [← C0.out, ← C1.out]; exact hr
  clear hr
  go_enter Tryz.func55, Tryz.ntmps55
  go_wp2_with fail
  have h0 : Four w x0 x1 y0 y1 (((w.alloc (.cells #[.int .i64 x0, .int .i64 x1, .int .i64 x2, .int .i64 x3] 68)).alloc (.cells #[.int .i64 y0, .int .i64 y1, .int .i64 y2, .int .i64 y3] 68)).drew) := ⟨by simp, by simp, by simp, by simp, ((below_alloc _ _).alloc (by simp) _).drew⟩
  refine wp_region_held_drew (S := Four w x0 x1 y0 y1) (by kernel_rfl) h0 (fun hS => ?_)
  clear h0
  refine tkH 0 ?_ hS (fun wx hx => ?_) ?_; rotate_left
  · obtain ⟨hx0, hx1, hx2, hx3, _⟩ := hx; go_simp; try with_reducible rfl
  refine tkH 1 ?_ hS (fun wx hx => ?_) ?_; rotate_left
  · obtain ⟨hx0, hx1, hx2, hx3, _⟩ := hx; go_simp; try with_reducible rfl
  refine tkH 2 ?_ hS (fun wx hx => ?_) ?_; rotate_left
  · obtain ⟨hx0, hx1, hx2, hx3, _⟩ := hx; go_simp; try with_reducible rfl
  refine tkH 3 ?_ hS (fun wx hx => ?_) ?_; rotate_left
  · obtain ⟨hx0, hx1, hx2, hx3, _⟩ := hx; go_simp; try with_reducible rfl
  refine tkH 5 ?_ hS (fun wx hx => ?_) ?_; rotate_left
  · obtain ⟨hx0, hx1, hx2, hx3, _⟩ := hx; go_simp; try with_reducible rfl
  refine tkH 6 ?_ hS (fun wx hx => ?_) ?_; rotate_left
  · obtain ⟨hx0, hx1, hx2, hx3, _⟩ := hx; go_simp; try with_reducible rfl
  refine tkH 7 ?_ hS (fun wx hx => ?_) ?_; rotate_left
  · obtain ⟨hx0, hx1, hx2, hx3, _⟩ := hx; go_simp; try with_reducible rfl
  refine tkH 8 ?_ hS (fun wx hx => ?_) ?_; rotate_left
  · obtain ⟨hx0, hx1, hx2, hx3, _⟩ := hx; go_simp; try with_reducible rfl
  refine rdH 4 (fun K hK => ?_)
  go_simp
  go_wp2_with fail
  refine (compare_is _ _ c0 C0.out _).mono ?_
  rintro e w1 ⟨rfl, rfl⟩
  have hS' := hS
  go_wp2_with fail
  refine hK.out _ _ hS' (fun hS => ?_)
  clear hK K hS'
  refine rdH 9 (fun K hK => ?_)
  go_simp
  go_wp2_with fail
  refine (compare_is _ _ c1 C1.out _).mono ?_
  rintro e w1 ⟨rfl, rfl⟩
  have hS' := hS
  go_wp2_with fail
  refine hK.out _ _ hS' (fun hS => ?_)
  clear hK K hS'
  refine rdH 10 (fun K hK => ?_)
  go_simp
  refine hK.out _ _ (hS.later (below_alloc_drew _ _)) (fun hS => ?_)
  clear hK K
  refine rdH 11 (fun K hK => ?_)
  go_simp
  go_wp2_with fail
  refine (or_is c0 c1 r _ HR.out _ (two_cells _ _ (by simp) _ _ _).1 (two_cells _ _ (by simp) _ _ _).2).mono ?_
  rintro e w1 ⟨rfl, rfl⟩
  have hS' := hS
  go_wp2_with fail
  refine hK.out _ _ hS' (fun hS => ?_)
  clear hK K hS'
  refine tkH 12 ?_ hS (fun wx hx => ?_) ?_; rotate_left
  · obtain ⟨hx0, hx1, hx2, hx3, _⟩ := hx; go_simp; try with_reducible rfl
  refine wpAnyH_done (by kernel_rfl) ?_ _
  go_simp
  go_wp2
  go_ret
  exact ⟨rfl, hS.2.2.2.2⟩
theorem compareLocks_is (x0 x1 x2 x3 x4 y0 y1 y2 y3 y4 : Int) (r : Int) (hr : cmpOf x0 y0 = r) (w : World) :
    Calls Tryz.prog 53 #[.agg #[.int .i64 x0, .int .i64 x1, .int .i64 x2, .int .i64 x3, .int .i64 x4], .agg #[.int .i64 y0, .int .i64 y1, .int .i64 y2, .int .i64 y3, .int .i64 y4]] w fun e w' => e = .returned (.int .i64 r) ∧ Below w.heap.size w w' := by
  have HR : Hid (cmpOf x0 y0 = r) := hr
  clear hr
  go_enter Tryz.func53, Tryz.ntmps53
  go_wp2_with fail
  refine (compare_is _ _ r HR.out _).mono ?_
  rintro e w1 ⟨rfl, rfl⟩
  go_wp2
  go_ret
  exact ⟨rfl, (below_alloc _ _).alloc (by simp) _⟩
theorem commitFits_is (x0 x1 x2 x3 : Int) (r : Bool) (hr : decide ((x3 = 4 → x1 = x2) ∧ (x3 ≠ 4 → x2 < x1)) = r) (w : World) :
    Calls Tryz.prog 72 #[.agg #[.int .i64 x0, .int .i64 x1, .int .i64 x2, .int .i64 x3]] w fun e w' => e = .returned (.bool r) ∧ Below w.heap.size w w' := by
  by_cases h3 : x3 = 4
  · by_cases h1 : x1 = x2
    · rw [decide_eq_true (show ((x3 = 4 → x1 = x2) ∧ (x3 ≠ 4 → x2 < x1)) from ⟨fun _ => h1, fun h => absurd h3 h⟩)] at hr
      subst hr h3 h1
      go_enter Tryz.func72, Tryz.ntmps72
      go_wp2
      go_ret
      exact ⟨by simp, below_alloc _ _⟩
    · rw [decide_eq_false (show ¬ ((x3 = 4 → x1 = x2) ∧ (x3 ≠ 4 → x2 < x1)) from fun h => h1 (h.1 h3))] at hr
      subst hr h3
      have d : (x1 == x2) = false := beq_eq_false_iff_ne.2 h1
      clear h1
      go_enter Tryz.func72, Tryz.ntmps72
      go_wp2
      go_ret
      exact ⟨rfl, below_alloc _ _⟩
  · have d3 : (x3 == 4) = false := beq_eq_false_iff_ne.2 h3
    by_cases h1 : x2 < x1
    · rw [decide_eq_true (show ((x3 = 4 → x1 = x2) ∧ (x3 ≠ 4 → x2 < x1)) from ⟨fun h => absurd h h3, fun _ => h1⟩)] at hr
      have d : decide (x2 < x1) = true := decide_eq_true h1
      subst hr
      clear h3 h1
      go_enter Tryz.func72, Tryz.ntmps72
      go_wp2
      go_ret
      exact ⟨rfl, below_alloc _ _⟩
    · rw [decide_eq_false (show ¬ ((x3 = 4 → x1 = x2) ∧ (x3 ≠ 4 → x2 < x1)) from fun h => h1 (h.2 h3))] at hr
      have d : decide (x2 < x1) = false := decide_eq_false h1
      subst hr
      clear h3 h1
      go_enter Tryz.func72, Tryz.ntmps72
      go_wp2
      go_ret
      exact ⟨rfl, below_alloc _ _⟩
end Go.Proofs.YtknbeggnlhiamaaGreat

namespace Go.Proofs.YtknbeggnlhiamaaGreat
open Go.RowKit

/-- The kind of a key from 0 to 199, and where its kind begins. -/
def kindAt (key : Int) : Int := if key < 10 then 0 else if key < 20 then 1 else if key < 180 then 2 else 3
def firstAt (key : Int) : Int := if key < 10 then 0 else if key < 20 then 10 else if key < 180 then 20 else 180

set_option maxHeartbeats 400000 in
theorem tellKey_any (key : Int) (w : World) (h0 : 0 ≤ key) (h1 : key ≤ 199) :
    Calls Tryz.prog 85 #[.int .i64 key] w fun e w' => e = .returned (.complex .f64 (floatOfInt .f64 (kindAt key)) (floatOfInt .f64 (key - firstAt key))) ∧ w' = w := by
  by_cases h180 : 180 ≤ key
  · have e1 : kindAt key = 3 := by unfold kindAt; repeat rw [if_neg (by omega)]
    have e2 : firstAt key = 180 := by unfold firstAt; repeat rw [if_neg (by omega)]
    rw [e1, e2]; clear e1 e2
    go_enter Tryz.func85, Tryz.ntmps85
    go_wp2
    go_rounds 1
    go_ret
    exact ⟨rfl, rfl⟩
  by_cases h20 : 20 ≤ key
  · have e1 : kindAt key = 2 := by unfold kindAt; rw [if_neg (by omega), if_neg (by omega), if_pos (by omega)]
    have e2 : firstAt key = 20 := by unfold firstAt; rw [if_neg (by omega), if_neg (by omega), if_pos (by omega)]
    rw [e1, e2]; clear e1 e2
    go_enter Tryz.func85, Tryz.ntmps85
    go_wp2
    go_rounds 2
    go_ret
    exact ⟨rfl, rfl⟩
  by_cases h10 : 10 ≤ key
  · have e1 : kindAt key = 1 := by unfold kindAt; rw [if_neg (by omega), if_pos (by omega)]
    have e2 : firstAt key = 10 := by unfold firstAt; rw [if_neg (by omega), if_pos (by omega)]
    rw [e1, e2]; clear e1 e2
    go_enter Tryz.func85, Tryz.ntmps85
    go_wp2
    go_rounds 3
    go_ret
    exact ⟨rfl, rfl⟩
  · have e1 : kindAt key = 0 := by unfold kindAt; rw [if_pos (by omega)]
    have e2 : firstAt key = 0 := by unfold firstAt; rw [if_pos (by omega)]
    rw [e1, e2]; clear e1 e2
    go_enter Tryz.func85, Tryz.ntmps85
    go_wp2
    go_rounds 4
    go_ret
    exact ⟨by simp, rfl⟩

theorem kindAt_0 {key : Int} (h : key < 10) : kindAt key = 0 ∧ firstAt key = 0 := by unfold kindAt firstAt; rw [if_pos h, if_pos h]; exact ⟨rfl, rfl⟩
theorem kindAt_1 {key : Int} (h : 10 ≤ key) (h' : key < 20) : kindAt key = 1 ∧ firstAt key = 10 := by
  unfold kindAt firstAt; rw [if_neg (by omega), if_pos h', if_neg (by omega), if_pos h']; exact ⟨rfl, rfl⟩
theorem kindAt_2 {key : Int} (h : 20 ≤ key) (h' : key < 180) : kindAt key = 2 ∧ firstAt key = 20 := by
  unfold kindAt firstAt; rw [if_neg (by omega), if_neg (by omega), if_pos h', if_neg (by omega), if_neg (by omega), if_pos h']; exact ⟨rfl, rfl⟩
theorem kindAt_3 {key : Int} (h : 180 ≤ key) : kindAt key = 3 ∧ firstAt key = 180 := by
  unfold kindAt firstAt; rw [if_neg (by omega), if_neg (by omega), if_neg (by omega), if_neg (by omega), if_neg (by omega), if_neg (by omega)]; exact ⟨rfl, rfl⟩

set_option maxHeartbeats 400000 in
theorem partsTold_entry (r : Int) (w : World) (h0 : 0 ≤ r) (h1 : r ≤ 199) :
    Calls Tryz.prog 84 #[.complex .f64 (floatOfInt .f64 2) (floatOfInt .f64 r)] w fun e w' => e = .returned (.tuple #[.int .i64 2, .int .i64 (r / 10), .int .i64 (r % 10)]) ∧ w' = w := by
  have k2 := fun w => run_to_int 2 (by omega) (by omega) w
  have kr := fun w => run_to_int r h0 h1 w
  go_enter Tryz.func84, Tryz.ntmps84
  go_wp2
  go_ret3
  exact ⟨rfl, rfl⟩
set_option maxHeartbeats 400000 in
theorem partsTold_other (k r : Int) (w : World) (hk0 : 0 ≤ k) (hk3 : k ≤ 3) (hk : (k == 2) = false) (h0 : 0 ≤ r) (h1 : r ≤ 199) :
    Calls Tryz.prog 84 #[.complex .f64 (floatOfInt .f64 k) (floatOfInt .f64 r)] w fun e w' => e = .returned (.tuple #[.int .i64 k, .int .i64 r, .int .i64 0]) ∧ w' = w := by
  have k2 := fun w => run_to_int k hk0 (by omega) w
  have kr := fun w => run_to_int r h0 h1 w
  go_enter Tryz.func84, Tryz.ntmps84
  go_wp2
  go_ret3
  exact ⟨rfl, rfl⟩

set_option maxHeartbeats 1000000 in
theorem keyFault_any (key : Int) (w : World) :
    Calls Tryz.prog 67 #[.int .i64 key] w fun e w' => e = .returned (.int .i64 (faultOf key)) ∧ w' = w := by
  by_cases hlo : key < 0
  · rw [faultOf_range (Or.inl hlo)]
    go_enter Tryz.func67, Tryz.ntmps67
    go_wp2
    go_ret
    exact ⟨rfl, rfl⟩
  by_cases hhi : 199 < key
  · rw [faultOf_range (Or.inr hhi)]
    go_enter Tryz.func67, Tryz.ntmps67
    go_wp2
    go_ret
    exact ⟨rfl, rfl⟩
  by_cases h10 : key < 10
  · have HE := kindAt_0 h10
    by_cases hz : key = 0
    · subst hz
      rw [faultOf_ok (Or.inl rfl)]
      go_enter Tryz.func67, Tryz.ntmps67
      go_wp2_with fail
      refine (tellKey_any _ _ (by omega) (by omega)).mono ?_
      rintro e w' ⟨rfl, rfl⟩
      rw [HE.1, HE.2]; clear HE
      go_wp2_with fail
      refine (partsTold_other _ _ _ (by omega) (by omega) rfl (by omega) (by omega)).mono ?_
      rintro e w' ⟨rfl, rfl⟩
      go_wp2
      go_ret
      exact ⟨rfl, rfl⟩
    · rw [faultOf_form (by omega) (by omega) (by omega)]
      have d0 : (key == 0) = false := beq_eq_false_iff_ne.2 hz
      go_enter Tryz.func67, Tryz.ntmps67
      go_wp2_with fail
      refine (tellKey_any _ _ (by omega) (by omega)).mono ?_
      rintro e w' ⟨rfl, rfl⟩
      rw [HE.1, HE.2]; clear HE
      go_wp2_with fail
      refine (partsTold_other _ _ _ (by omega) (by omega) rfl (by omega) (by omega)).mono ?_
      rintro e w' ⟨rfl, rfl⟩
      go_wp2
      go_ret
      exact ⟨rfl, rfl⟩
  by_cases h20 : key < 20
  · have HE := kindAt_1 (by omega) h20
    rw [faultOf_ok (by omega)]
    go_enter Tryz.func67, Tryz.ntmps67
    go_wp2_with fail
    refine (tellKey_any _ _ (by omega) (by omega)).mono ?_
    rintro e w' ⟨rfl, rfl⟩
    rw [HE.1, HE.2]; clear HE
    go_wp2_with fail
    refine (partsTold_other _ _ _ (by omega) (by omega) rfl (by omega) (by omega)).mono ?_
    rintro e w' ⟨rfl, rfl⟩
    go_wp2
    go_ret
    exact ⟨rfl, rfl⟩
  by_cases h180 : key < 180
  · have HE := kindAt_2 (by omega) h180
    by_cases hok : key < 120 ∧ key % 10 ≤ 5
    · rw [faultOf_ok (by omega)]
      have b1 : (key - 20) / 10 ≤ 9 := by omega
      have b2 : 0 ≤ (key - 20) / 10 := by omega
      have b3 : (key - 20) % 10 ≤ 5 := by omega
      have b4 : 0 ≤ (key - 20) % 10 := by omega
      clear hok
      go_enter Tryz.func67, Tryz.ntmps67
      go_wp2_with fail
      refine (tellKey_any _ _ (by omega) (by omega)).mono ?_
      rintro e w' ⟨rfl, rfl⟩
      rw [HE.1, HE.2]; clear HE
      go_wp2_with fail
      refine (partsTold_entry _ _ (by omega) (by omega)).mono ?_
      rintro e w' ⟨rfl, rfl⟩
      go_wp2
      go_ret
      exact ⟨rfl, rfl⟩
    · rw [faultOf_form (by omega) (by omega) (by omega)]
      have b2 : 0 ≤ (key - 20) / 10 := by omega
      have b4 : 0 ≤ (key - 20) % 10 := by omega
      by_cases b1 : (key - 20) / 10 ≤ 9
      · have b3 : 5 < (key - 20) % 10 := by omega
        have d3 : decide (5 < (key - 20) % 10) = true := decide_eq_true b3
        clear hok
        go_enter Tryz.func67, Tryz.ntmps67
        go_wp2_with fail
        refine (tellKey_any _ _ (by omega) (by omega)).mono ?_
        rintro e w' ⟨rfl, rfl⟩
        rw [HE.1, HE.2]; clear HE
        go_wp2_with fail
        refine (partsTold_entry _ _ (by omega) (by omega)).mono ?_
        rintro e w' ⟨rfl, rfl⟩
        go_wp2
        go_ret
        exact ⟨rfl, rfl⟩
      · have b3 : 9 < (key - 20) / 10 := by omega
        have d3 : decide (9 < (key - 20) / 10) = true := decide_eq_true b3
        clear hok b1
        go_enter Tryz.func67, Tryz.ntmps67
        go_wp2_with fail
        refine (tellKey_any _ _ (by omega) (by omega)).mono ?_
        rintro e w' ⟨rfl, rfl⟩
        rw [HE.1, HE.2]; clear HE
        go_wp2_with fail
        refine (partsTold_entry _ _ (by omega) (by omega)).mono ?_
        rintro e w' ⟨rfl, rfl⟩
        go_wp2
        go_ret
        exact ⟨rfl, rfl⟩
  · have HE := kindAt_3 (key := key) (by omega)
    by_cases hok : key < 190
    focus
      rw [faultOf_ok (by omega)]
    rotate_left
    focus
      rw [faultOf_form (by omega) (by omega) (by omega)]
      have d3 : decide (9 < key - 180) = true := decide_eq_true (by omega)
    rotate_left
    all_goals
      go_enter Tryz.func67, Tryz.ntmps67
      go_wp2_with fail
      refine (tellKey_any _ _ (by omega) (by omega)).mono ?_
      rintro e w' ⟨rfl, rfl⟩
      rw [HE.1, HE.2]; clear HE
      go_wp2_with fail
      refine (partsTold_other _ _ _ (by omega) (by omega) rfl (by omega) (by omega)).mono ?_
      rintro e w' ⟨rfl, rfl⟩
      go_wp2
      go_ret
      exact ⟨rfl, rfl⟩
end Go.Proofs.YtknbeggnlhiamaaGreat

