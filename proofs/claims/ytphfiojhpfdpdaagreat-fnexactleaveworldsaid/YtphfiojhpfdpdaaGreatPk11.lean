/-
  Own text, merged of WldW.
-/
import Derived.Test.YtphfiojhpfdpdaaGreatPk10
namespace Go.Proofs.YtphfiojhpfdpdaaGreat
open Go.RowKit

set_option maxRecDepth 100000 in
set_option maxHeartbeats 8000000 in
theorem exactLeaveWorld_walk (nw nx bd : Int) (nr : Nat) (F : Nat → Int) (n : Nat) (S : Nat → Sto) (V : Nat → Nat → Value) (vr vs : Value) (nt : Nat) (T : Nat → Tx) (X : Nat → Value) (vt : Value) (TT : Nat → Tx) (hTT : ∀ i, (TT i).m = (T i).m) (tk : Int) (w : World) (h : Grs w 0 nr F n S V vr vs) (hx : Txs w 0 nt T X vt) (hr : nr ≤ 9223372036854775807) (hn : n ≤ 9223372036854775807) (hs : ∀ i, i < n → BigS (S i)) (hnt : nt ≤ 9223372036854775807) (hm : ∀ i, i < nt → (T i).m ≤ 9223372036854775807)
    (ans : ∃ (c : Int) (mv : Bool) (nw' nx' bd' : Int) (nr' n' nt' : Nat), (nr' ≤ nr ∧ n' ≤ n ∧ nt' ≤ nt) ∧ ∀ (U : Nat → Nat → Value) (ur us : Value) (Y : Nat → Value) (ut : Value) (x : World), Grs x 0 nr F n S U ur us → Txs x 0 nt T Y ut → nr ≤ 1048576 → n ≤ 1048576 → nt ≤ 1048576 → (∀ i, i < nt → (T i).m ≤ 1048576) → Calls Tryz.prog 6 #[.agg #[.int .i64 nw, .int .i64 nx, .int .i64 bd, ur, us, ut], .int .i64 tk] x (ResWR x c mv nw' nx' bd' nr' F n' S nt' TT) ∧ Calls Tryz.prog 8 #[.agg #[.int .i64 nw, .int .i64 nx, .int .i64 bd, ur, us, ut], .int .i64 tk] x (ResWG x c mv nw' nx' bd' nr' F n' S nt' TT)) :
    Calls Tryz.prog 3 #[.agg #[.int .i64 nw, .int .i64 nx, .int .i64 bd, vr, vs, vt], .int .i64 tk] w fun e w' => e = .returned (.bool true) ∧ Below w.heap.size w w' := by
  obtain ⟨a0, c0, a1, c1, rfl, rfl⟩ := h.form
  obtain ⟨a2, c2, rfl⟩ := hx.form
  have HG : Hid (Grs w 0 nr F n S V (.slice a0 nr c0) (.slice a1 n c1) ∧ Txs w 0 nt T X (.slice a2 nt c2)) := ⟨h, hx⟩
  have HN : Hid ((∀ i, i < n → BigS (S i)) ∧ ∀ i, i < nt → (T i).m ≤ 9223372036854775807) := ⟨hs, hm⟩
  have H : Hid (Blk6 (w.alloc (.cells #[.int .i64 nw, .int .i64 nx, .int .i64 bd, .slice a0 nr c0, .slice a1 n c1, .slice a2 nt c2] 30)) w.heap.size (.int .i64 nw) (.int .i64 nx) (.int .i64 bd) (.slice a0 nr c0) (.slice a1 n c1) (.slice a2 nt c2) ∧ Below w.heap.size w (w.alloc (.cells #[.int .i64 nw, .int .i64 nx, .int .i64 bd, .slice a0 nr c0, .slice a1 n c1, .slice a2 nt c2] 30))) := ⟨Blk6.new w _ _ _ _ _ _ _, below_alloc _ _⟩
  clear h hx hs hm
  obtain ⟨c, mv, nw', nx', bd', nr', n', nt', hle, hans⟩ := ans
  have HF : Hid (∀ (U : Nat → Nat → Value) (ur us : Value) (Y : Nat → Value) (ut : Value) (x : World), Grs x 0 nr F n S U ur us → Txs x 0 nt T Y ut → nr ≤ 1048576 → n ≤ 1048576 → nt ≤ 1048576 → (∀ i, i < nt → (T i).m ≤ 1048576) → Calls Tryz.prog 6 #[.agg #[.int .i64 nw, .int .i64 nx, .int .i64 bd, ur, us, ut], .int .i64 tk] x (ResWR x c mv nw' nx' bd' nr' F n' S nt' TT) ∧ Calls Tryz.prog 8 #[.agg #[.int .i64 nw, .int .i64 nx, .int .i64 bd, ur, us, ut], .int .i64 tk] x (ResWG x c mv nw' nx' bd' nr' F n' S nt' TT)) := hans
  clear hans
  go_enter Tryz.func3, Tryz.ntmps3
  go_wp2_with fail
  refine (szWorld_any nw nx bd nr F n S V _ _ nt T X _ 0 _ (HG.out.1.alloc _) (HG.out.2.alloc _) hr hn HN.out.1 hnt HN.out.2).mono ?_
  rintro e w1 ⟨rr, rfl, hA, q1⟩
  have H1 : Hid (Blk6 w1 w.heap.size (.int .i64 nw) (.int .i64 nx) (.int .i64 bd) (.slice a0 nr c0) (.slice a1 n c1) (.slice a2 nt c2) ∧ Below w.heap.size w w1) := ⟨H.out.1.later q1, H.out.2.trans (q1.mono H.out.2.size)⟩
  clear q1 H
  rcases hA with rfl | ⟨h1, ⟨h2, h3, hsum, h4⟩, h5, hsux, h6⟩
  · go_wp2
    go_ret
    exact ⟨rfl, H1.out.2⟩
  have HB : Hid ((nr ≤ 1048576 ∧ n ≤ 1048576 ∧ ∀ i, i < n → SmallS (S i)) ∧ nt ≤ 1048576 ∧ ∀ i, i < nt → (T i).m ≤ 1048576) := ⟨⟨h2, h3, h4⟩, h5, h6⟩
  have HSU : Hid (sumN (sizeT S) n ≤ 1048576 ∧ sumN (sizeX T) nt ≤ 1048576) := ⟨hsum, hsux⟩
  have HSM : Hid (SmallG nr' n' S ∧ SmallX nt' TT) := ⟨⟨by omega, by omega, fun i hi => h4 i (by omega), Nat.le_trans (sum_mono (sizeT S) hle.2.1) hsum⟩, ⟨by omega, fun i hi => by rw [hTT]; exact h6 i (by omega)⟩, by rw [show sizeX TT = sizeX T from funext fun i => by unfold sizeX; rw [hTT]]; exact Nat.le_trans (sum_mono (sizeX T) hle.2.2) hsux⟩
  have dr : decide (rr < 0) = false := decide_eq_false (by omega)
  clear h1 h2 h3 h4 h5 h6 hr hn HN hnt hsum hsux hle
  obtain ⟨⟨p0, p1, p2, p3, p4, p5⟩, _⟩ := H1.out.1
  go_wp2_with fail
  refine (toWorld_any nw nx bd nr F n S V _ _ nt T X _ 0 _ (HG.out.1.later H1.out.2) (HG.out.2.later H1.out.2) HB.out.1 HB.out.2).mono ?_
  intro e w2 hN2
  obtain ⟨ra0, rc0, g, U0, z0, gt, Y0, zt, rfl, o2, q2⟩ := hN2.own
  have H2 : Hid (Blk6 w2 w.heap.size (.int .i64 nw) (.int .i64 nx) (.int .i64 bd) (.slice a0 nr c0) (.slice a1 n c1) (.slice a2 nt c2) ∧ Below w.heap.size w w2) := ⟨H1.out.1.later q2, H1.out.2.trans (q2.mono H1.out.2.size)⟩
  have G2 := HF.out _ _ _ _ _ _ o2.grs.1 o2.grs.2 HB.out.1.1 HB.out.1.2.1 HB.out.2.1 HB.out.2.2
  clear q2 hN2 o2 H1 p0 p1 p2 p3 p4 p5
  go_wp2_with fail
  refine G2.1.mono ?_
  clear G2
  rintro e w3 ⟨xr, vS, UW, YW, xv, rfl, hgw, htw, q3⟩
  obtain ⟨xa, xc, xb, xd, rfl, rfl⟩ := hgw.form
  obtain ⟨xv, xe, rfl⟩ := htw.form
  have HWW : Hid (Grs w3 w.heap.size nr' F n' S UW (.slice xa nr' xc) (.slice xb n' xd) ∧ Txs w3 w.heap.size nt' TT YW (.slice xv nt' xe)) := ⟨hgw.mono H2.out.2.size, htw.mono H2.out.2.size⟩
  have H3 : Hid (Blk6 w3 w.heap.size (.int .i64 nw) (.int .i64 nx) (.int .i64 bd) (.slice a0 nr c0) (.slice a1 n c1) (.slice a2 nt c2) ∧ Below w.heap.size w w3) := ⟨H2.out.1.later q3, H2.out.2.trans (q3.mono H2.out.2.size)⟩
  have P3 : Hid ((Blk6 (w3.alloc (.cells #[.int .i64 c, .bool mv, .int .i64 nw', .int .i64 nx', .int .i64 bd', .slice xa nr' xc, .slice xb n' xd, .slice xv nt' xe] 41)) w.heap.size (.int .i64 nw) (.int .i64 nx) (.int .i64 bd) (.slice a0 nr c0) (.slice a1 n c1) (.slice a2 nt c2) ∧ Below w.heap.size w (w3.alloc (.cells #[.int .i64 c, .bool mv, .int .i64 nw', .int .i64 nx', .int .i64 bd', .slice xa nr' xc, .slice xb n' xd, .slice xv nt' xe] 41))) ∧ BlkR (w3.alloc (.cells #[.int .i64 c, .bool mv, .int .i64 nw', .int .i64 nx', .int .i64 bd', .slice xa nr' xc, .slice xb n' xd, .slice xv nt' xe] 41)) w3.heap.size (.int .i64 c) (.bool mv) (.int .i64 nw') (.int .i64 nx') (.int .i64 bd') (.slice xa nr' xc) (.slice xb n' xd) (.slice xv nt' xe) ∧ Below w3.heap.size w3 (w3.alloc (.cells #[.int .i64 c, .bool mv, .int .i64 nw', .int .i64 nx', .int .i64 bd', .slice xa nr' xc, .slice xb n' xd, .slice xv nt' xe] 41))) := ⟨⟨H3.out.1.alloc _, H3.out.2.alloc H3.out.2.size _⟩, BlkR.new w3 _ _ _ _ _ _ _ _ _, below_alloc _ _⟩
  have z3 : Hid (w.heap.size < w3.heap.size) := H3.out.1.lt
  clear q3 hgw htw H2 H3
  obtain ⟨⟨p0, p1, p2, p3, p4, p5⟩, _⟩ := P3.out.1.1
  go_wp2_with fail
  refine (toWorld_any nw nx bd nr F n S V _ _ nt T X _ 0 _ (HG.out.1.later P3.out.1.2) (HG.out.2.later P3.out.1.2) HB.out.1 HB.out.2).mono ?_
  intro e w4 hN4
  obtain ⟨rb, rd, g4, U4, z4, gt4, Y4, zt4, rfl, o4, q4⟩ := hN4.own
  have zs4 : Hid (w3.heap.size + 1 ≤ w4.heap.size ∧ zt4 nt ≤ w4.heap.size) := ⟨by have := q4.size; simp at this; omega, o4.2.2.2.2.2.2.2⟩
  have O4 : Hid (OwnW (w4.alloc (.cells #[.int .i64 nw, .int .i64 nx, .int .i64 bd, .slice rb nr rd, .slice (some ⟨g4, 0, none⟩) n n, .slice (some ⟨gt4, 0, none⟩) nt nt] 39)) (w3.heap.size + 1) nr F n S rb rd g4 U4 z4 nt T gt4 Y4 zt4) := by
    rw [World.size_alloc] at o4
    exact o4.later (below_alloc _ _)
  have P4 : Hid (((Blk6 (w4.alloc (.cells #[.int .i64 nw, .int .i64 nx, .int .i64 bd, .slice rb nr rd, .slice (some ⟨g4, 0, none⟩) n n, .slice (some ⟨gt4, 0, none⟩) nt nt] 39)) w.heap.size (.int .i64 nw) (.int .i64 nx) (.int .i64 bd) (.slice a0 nr c0) (.slice a1 n c1) (.slice a2 nt c2) ∧ Below w.heap.size w (w4.alloc (.cells #[.int .i64 nw, .int .i64 nx, .int .i64 bd, .slice rb nr rd, .slice (some ⟨g4, 0, none⟩) n n, .slice (some ⟨gt4, 0, none⟩) nt nt] 39))) ∧ BlkR (w4.alloc (.cells #[.int .i64 nw, .int .i64 nx, .int .i64 bd, .slice rb nr rd, .slice (some ⟨g4, 0, none⟩) n n, .slice (some ⟨gt4, 0, none⟩) nt nt] 39)) w3.heap.size (.int .i64 c) (.bool mv) (.int .i64 nw') (.int .i64 nx') (.int .i64 bd') (.slice xa nr' xc) (.slice xb n' xd) (.slice xv nt' xe) ∧ Below w3.heap.size w3 (w4.alloc (.cells #[.int .i64 nw, .int .i64 nx, .int .i64 bd, .slice rb nr rd, .slice (some ⟨g4, 0, none⟩) n n, .slice (some ⟨gt4, 0, none⟩) nt nt] 39))) ∧ Blk6 (w4.alloc (.cells #[.int .i64 nw, .int .i64 nx, .int .i64 bd, .slice rb nr rd, .slice (some ⟨g4, 0, none⟩) n n, .slice (some ⟨gt4, 0, none⟩) nt nt] 39)) w4.heap.size (.int .i64 nw) (.int .i64 nx) (.int .i64 bd) (.slice rb nr rd) (.slice (some ⟨g4, 0, none⟩) n n) (.slice (some ⟨gt4, 0, none⟩) nt nt)) :=
    ⟨⟨⟨(P3.out.1.1.later q4).alloc _, (P3.out.1.2.trans (q4.mono P3.out.1.2.size)).alloc (Nat.le_trans P3.out.1.2.size q4.size) _⟩, (P3.out.2.1.later q4).later (below_alloc _ _), (P3.out.2.2.trans (q4.mono P3.out.2.2.size)).alloc (Nat.le_trans P3.out.2.2.size q4.size) _⟩, Blk6.new _ _ _ _ _ _ _ _⟩
  have s5 : Hid (w4.heap.size < (w4.alloc (.cells #[.int .i64 nw, .int .i64 nx, .int .i64 bd, .slice rb nr rd, .slice (some ⟨g4, 0, none⟩) n n, .slice (some ⟨gt4, 0, none⟩) nt nt] 39)).heap.size) := by unfold Hid; simp
  clear q4 hN4 o4 P3 p0 p1 p2 p3 p4 p5
  go_wp2_with fail
  generalize w4.alloc (.cells #[.int .i64 nw, .int .i64 nx, .int .i64 bd, .slice rb nr rd, .slice (some ⟨g4, 0, none⟩) n n, .slice (some ⟨gt4, 0, none⟩) nt nt] 39) = w5 at O4 P4 s5 ⊢
  refine (HF.out _ _ _ _ _ _ O4.out.grs.1 O4.out.grs.2 HB.out.1.1 HB.out.1.2.1 HB.out.2.1 HB.out.2.2).2.mono ?_
  rintro e w6 ⟨ra, rc, sa, sc, U, z, Y, va, vc, lo, rfl, hfi, how, hlo, q6⟩
  have E6 : Hid (EnvU w nw nx bd (.slice a0 nr c0) (.slice a1 n c1) (.slice a2 nt c2) w3 c mv nw' nx' bd' (.slice xa nr' xc) (.slice xb n' xd) (.slice xv nt' xe) w4.heap.size (.slice rb nr rd) (.slice (some ⟨g4, 0, none⟩) n n) (.slice (some ⟨gt4, 0, none⟩) nt nt) w6.heap.size nr' F n' S nt' TT ra rc sa sc va vc U z Y w5.heap.size lo w6.heap.size (w6.alloc (.cells #[.int .i64 c, .bool mv, .int .i64 nw', .int .i64 nx', .int .i64 bd', .slice ra nr' rc, .slice sa n' sc, .slice va nt' vc] 41))) :=
    ⟨(P4.out.1.1.2.trans (q6.mono P4.out.1.1.2.size)).alloc (Nat.le_trans P4.out.1.1.2.size q6.size) _, (P4.out.1.1.1.later q6).alloc _, (P4.out.1.2.1.later q6).later (below_alloc _ _), (P4.out.2.later q6).alloc _, BlkR.new _ _ _ _ _ _ _ _ _ _, ⟨by have := P4.out.1.2.2.size; have := q6.size; simp; omega, fun p _ h2 => ((P4.out.1.2.2.trans (q6.mono P4.out.1.2.2.size)).alloc (Nat.le_trans P4.out.1.2.2.size q6.size) _).block p h2⟩, hfi.later (below_alloc _ _), how.later hlo.2 (below_alloc _ _), ⟨hlo, by simp⟩⟩
  have O6 : Hid (OwnW (w6.alloc (.cells #[.int .i64 c, .bool mv, .int .i64 nw', .int .i64 nx', .int .i64 bd', .slice ra nr' rc, .slice sa n' sc, .slice va nt' vc] 41)) (w3.heap.size + 1) nr F n S rb rd g4 U4 z4 nt T gt4 Y4 zt4) := (O4.out.later q6).later (below_alloc _ _)
  have LG : Hid (w5.heap.size ≤ w6.heap.size) := q6.size
  obtain ⟨⟨t0, t1, t2, t3, t4, t5, t6, t7⟩, _⟩ := P4.out.1.2.1.later q6
  have hl := (P4.out.1.2.1.later q6).2
  clear q6 hfi how hlo O4 P4
  go_wp2_with fail
  refine (eqWorldResultT_same c mv nw' nx' bd' nr' F n' S U UW _ _ _ _ _ _ _ _ nt' TT Y YW _ _ _ _ 0 0 _ ((E6.out.fine.grs sc).mono (Nat.zero_le _)) ((HWW.out.1.above E6.out.keep.1 E6.out.keep.2).mono (Nat.zero_le _)) ((E6.out.own.txs vc).mono (Nat.zero_le _)) ((HWW.out.2.above E6.out.keep.1 E6.out.keep.2).mono (Nat.zero_le _)) HSM.out.1 HSM.out.2).mono ?_
  rintro e w7 ⟨rfl, q7⟩
  have E7 : Hid (EnvU w nw nx bd (.slice a0 nr c0) (.slice a1 n c1) (.slice a2 nt c2) w3 c mv nw' nx' bd' (.slice xa nr' xc) (.slice xb n' xd) (.slice xv nt' xe) w4.heap.size (.slice rb nr rd) (.slice (some ⟨g4, 0, none⟩) n n) (.slice (some ⟨gt4, 0, none⟩) nt nt) w6.heap.size nr' F n' S nt' TT ra rc sa sc va vc U z Y w5.heap.size lo w6.heap.size w7) := E6.out.later q7
  have O7 : Hid (OwnW w7 (w3.heap.size + 1) nr F n S rb rd g4 U4 z4 nt T gt4 Y4 zt4) := O6.out.later q7
  clear q7 E6 O6 t0 t1 t2 t3 t4 t5 t6 t7 hl
  go_wp2_with fail
  refine wp_region_held_drew (S := fun x : World => (EnvU w nw nx bd (.slice a0 nr c0) (.slice a1 n c1) (.slice a2 nt c2) w3 c mv nw' nx' bd' (.slice xa nr' xc) (.slice xb n' xd) (.slice xv nt' xe) w4.heap.size (.slice rb nr rd) (.slice (some ⟨g4, 0, none⟩) n n) (.slice (some ⟨gt4, 0, none⟩) nt nt) w6.heap.size nr' F n' S nt' TT ra rc sa sc va vc U z Y w5.heap.size lo w6.heap.size x) ∧ OwnW x (w3.heap.size + 1) nr F n S rb rd g4 U4 z4 nt T gt4 Y4 zt4) (by kernel_rfl) ⟨E7.out.later (Below.drew (Below.refl _ _)), O7.out.later (Below.drew (Below.refl _ _))⟩ (fun hS => ?_)
  clear E7 O7
  refine tkH 0 ?_ hS (fun wx hx => ?_) ?_; rotate_left
  · obtain ⟨⟨hx0, hx1, hx2, hx3, hx4, hx5⟩, _⟩ := hx.1.arg; obtain ⟨⟨hy0, hy1, hy2, hy3, hy4, hy5⟩, _⟩ := hx.1.copy; go_simp; try with_reducible rfl
  refine tkH 1 ?_ hS (fun wx hx => ?_) ?_; rotate_left
  · obtain ⟨⟨hx0, hx1, hx2, hx3, hx4, hx5⟩, _⟩ := hx.1.arg; obtain ⟨⟨hy0, hy1, hy2, hy3, hy4, hy5⟩, _⟩ := hx.1.copy; go_simp; try with_reducible rfl
  refine rdH 2 (fun K hK => ?_)
  go_simp
  go_wp2_with fail
  refine (toWorld_any nw nx bd nr F n S V _ _ nt T X _ 0 _ (HG.out.1.later hS.1.below) (HG.out.2.later hS.1.below) HB.out.1 HB.out.2).mono ?_
  intro e w8 hN8
  obtain ⟨re, rf, g8, U8, z8, gt8, Y8, zt8, rfl, o8, q8⟩ := hN8.own
  have G8 : Hid (Grs w8 0 nr F n S U8 (.slice re nr rf) (.slice (some ⟨g8, 0, none⟩) n n) ∧ Txs w8 0 nt T Y8 (.slice (some ⟨gt8, 0, none⟩) nt nt)) := o8.grs
  have hS' := (show _ ∧ _ from ⟨hS.1.later q8, hS.2.later q8⟩)
  clear q8 hN8 o8
  go_wp2_with fail
  refine hK.out _ _ hS' (fun hS => ?_)
  clear hK K hS'
  refine rdH 3 (fun K hK => ?_)
  go_simp
  go_wp2_with fail
  refine (eqWorldT_same nw nx bd nr F n S U4 U8 _ _ _ _ _ _ _ _ nt T Y4 Y8 _ _ _ _ 0 0 _ hS.2.grs.1 G8.out.1 hS.2.grs.2 G8.out.2 HB.out.1 HB.out.2).mono ?_
  rintro e w9 ⟨rfl, q9⟩
  have hS' := (show _ ∧ _ from ⟨hS.1.later q9, hS.2.later q9⟩)
  clear q9 G8
  go_wp2_with fail
  refine hK.out _ _ hS' (fun hS => ?_)
  clear hK K hS'
  refine tkH 4 ?_ hS (fun wx hx => ?_) ?_; rotate_left
  · obtain ⟨⟨hx0, hx1, hx2, hx3, hx4, hx5⟩, _⟩ := hx.1.arg; obtain ⟨⟨hy0, hy1, hy2, hy3, hy4, hy5⟩, _⟩ := hx.1.copy; go_simp; try with_reducible rfl
  refine wpAnyH_done (by kernel_rfl) ?_ _
  have E9 : Hid (EnvU w nw nx bd (.slice a0 nr c0) (.slice a1 n c1) (.slice a2 nt c2) w3 c mv nw' nx' bd' (.slice xa nr' xc) (.slice xb n' xd) (.slice xv nt' xe) w4.heap.size (.slice rb nr rd) (.slice (some ⟨g4, 0, none⟩) n n) (.slice (some ⟨gt4, 0, none⟩) nt nt) w6.heap.size nr' F n' S nt' TT ra rc sa sc va vc U z Y w5.heap.size lo w6.heap.size w9) := hS.1
  have O9 : Hid (OwnW w9 (w3.heap.size + 1) nr F n S rb rd g4 U4 z4 nt T gt4 Y4 zt4) := hS.2
  clear hS
  go_simp
  obtain ⟨⟨p0, p1, p2, p3, p4, p5⟩, _⟩ := E9.out.copy
  go_wp2_with fail
  refine (markWorld_any nw nx bd _ nr F n S rb rd g4 U4 z4 nt T gt4 Y4 zt4 _ O9.out HB.out HSU.out).mono ?_
  rintro e wA ⟨kA, hkA, rfl, WA⟩
  have dk : decide (kA < 0) = false := decide_eq_false (by omega)
  have EA : Hid (EnvU w nw nx bd (.slice a0 nr c0) (.slice a1 n c1) (.slice a2 nt c2) w3 c mv nw' nx' bd' (.slice xa nr' xc) (.slice xb n' xd) (.slice xv nt' xe) w4.heap.size (.slice rb nr rd) (.slice (some ⟨g4, 0, none⟩) n n) (.slice (some ⟨gt4, 0, none⟩) nt nt) w6.heap.size nr' F n' S nt' TT ra rc sa sc va vc U z Y w5.heap.size lo w6.heap.size wA) := E9.out.within WA (Nat.lt_succ_self _) z3.out (by have := zs4.out.2; omega) (by have := zs4.out.2; have := s5.out; have := LG.out; omega) (by have := zs4.out.2; have := s5.out; omega)
  clear WA hkA E9 O9 p0 p1 p2 p3 p4 p5
  obtain ⟨⟨t0, t1, t2, t3, t4, t5, t6, t7⟩, _⟩ := EA.out.want
  obtain ⟨⟨g0, g1, g2, g3, g4', g5, g6, g7⟩, _⟩ := EA.out.got
  go_wp2_with fail
  refine (eqWorldResultT_same c mv nw' nx' bd' nr' F n' S U UW _ _ _ _ _ _ _ _ nt' TT Y YW _ _ _ _ 0 0 _ ((EA.out.fine.grs sc).mono (Nat.zero_le _)) ((HWW.out.1.above EA.out.keep.1 EA.out.keep.2).mono (Nat.zero_le _)) ((EA.out.own.txs vc).mono (Nat.zero_le _)) ((HWW.out.2.above EA.out.keep.1 EA.out.keep.2).mono (Nat.zero_le _)) HSM.out.1 HSM.out.2).mono ?_
  rintro e wB ⟨rfl, qB⟩
  have EB : Hid (EnvU w nw nx bd (.slice a0 nr c0) (.slice a1 n c1) (.slice a2 nt c2) w3 c mv nw' nx' bd' (.slice xa nr' xc) (.slice xb n' xd) (.slice xv nt' xe) w4.heap.size (.slice rb nr rd) (.slice (some ⟨g4, 0, none⟩) n n) (.slice (some ⟨gt4, 0, none⟩) nt nt) w6.heap.size nr' F n' S nt' TT ra rc sa sc va vc U z Y w5.heap.size lo w6.heap.size wB) := EA.out.later qB
  clear qB EA t0 t1 t2 t3 t4 t5 t6 t7 g0 g1 g2 g3 g4' g5 g6 g7
  obtain ⟨⟨g0, g1, g2, g3, g4', g5, g6, g7⟩, _⟩ := EB.out.got
  obtain ⟨ms, hms⟩ : ∃ ms : Int, (1 : Int) + nr' * 3 + (sumN (markT S) n' : Nat) + (sumN (markX TT) nt' : Nat) = ms := ⟨_, rfl⟩
  have hmn : decide (ms < 0) = false := decide_eq_false (by omega)
  have HMS : Hid ((1 : Int) + nr' * 3 + (sumN (markT S) n' : Nat) + (sumN (markX TT) nt' : Nat) = ms) := hms
  clear hms
  go_wp2_with fail
  refine (markWorldResultT_any c mv nw' nx' bd' nr' F n' S ra rc sa sc U z nt' TT Y va vc w5.heap.size lo w6.heap.size _ EB.out.fine EB.out.own EB.out.ord.1 HSM.out.1 HSM.out.2).mono ?_
  rw [HMS.out]
  rintro e wC ⟨rfl, mC, WCC⟩
  have EC : Hid ((Below w.heap.size w wC ∧ Blk6 wC w.heap.size (.int .i64 nw) (.int .i64 nx) (.int .i64 bd) (.slice a0 nr c0) (.slice a1 n c1) (.slice a2 nt c2)) ∧ (BlkR wC w3.heap.size (.int .i64 c) (.bool mv) (.int .i64 nw') (.int .i64 nx') (.int .i64 bd') (.slice xa nr' xc) (.slice xb n' xd) (.slice xv nt' xe) ∧ Grs wC w.heap.size nr' F n' S UW (.slice xa nr' xc) (.slice xb n' xd) ∧ Txs wC w.heap.size nt' TT YW (.slice xv nt' xe)) ∧ BlkR wC w6.heap.size (.int .i64 c) (.bool mv) (.int .i64 nw') (.int .i64 nx') (.int .i64 bd') (.slice ra nr' rc) (.slice sa n' sc) (.slice va nt' vc) ∧ MarkW wC w5.heap.size lo nr' n' S ra rc sa sc U nt' TT Y va vc) := by
    have b1 := z3.out
    have b2 := zs4.out.1
    have b3 := s5.out
    have b4 := LG.out
    refine ⟨⟨WCC.below EB.out.below (by omega), EB.out.arg.kept (WCC.block _ EB.out.arg.lt (Or.inl (by omega)))⟩, ⟨EB.out.want.kept (WCC.block _ EB.out.want.2 (Or.inl (by omega))) WCC.size, HWW.out.1.above (Nat.le_trans EB.out.keep.1 WCC.size) (fun p h1 h2 => (WCC.block p (Nat.lt_of_lt_of_le h2 EB.out.keep.1) (Or.inl (by omega))).trans (EB.out.keep.2 p h1 h2)), HWW.out.2.above (Nat.le_trans EB.out.keep.1 WCC.size) (fun p h1 h2 => (WCC.block p (Nat.lt_of_lt_of_le h2 EB.out.keep.1) (Or.inl (by omega))).trans (EB.out.keep.2 p h1 h2))⟩, EB.out.got.kept (WCC.block _ EB.out.got.2 (Or.inr (Nat.le_refl _))) WCC.size, mC⟩
  clear WCC mC EB g0 g1 g2 g3 g4' g5 g6 g7
  obtain ⟨⟨g0, g1, g2, g3, g4', g5, g6, g7⟩, _⟩ := EC.out.2.2.1
  go_wp2_with fail
  refine (heldWorldResultT_any c mv nw' nx' bd' nr' n' S ra rc sa sc U nt' TT Y va vc w5.heap.size lo _ EC.out.2.2.2 HSM.out.1 HSM.out.2).mono ?_
  rw [HMS.out]
  rintro e wD ⟨rfl, qD⟩
  have ED : Hid ((Below w.heap.size w wD ∧ Blk6 wD w.heap.size (.int .i64 nw) (.int .i64 nx) (.int .i64 bd) (.slice a0 nr c0) (.slice a1 n c1) (.slice a2 nt c2)) ∧ (BlkR wD w3.heap.size (.int .i64 c) (.bool mv) (.int .i64 nw') (.int .i64 nx') (.int .i64 bd') (.slice xa nr' xc) (.slice xb n' xd) (.slice xv nt' xe) ∧ Grs wD w.heap.size nr' F n' S UW (.slice xa nr' xc) (.slice xb n' xd) ∧ Txs wD w.heap.size nt' TT YW (.slice xv nt' xe)) ∧ BlkR wD w6.heap.size (.int .i64 c) (.bool mv) (.int .i64 nw') (.int .i64 nx') (.int .i64 bd') (.slice ra nr' rc) (.slice sa n' sc) (.slice va nt' vc) ∧ MarkW wD w5.heap.size lo nr' n' S ra rc sa sc U nt' TT Y va vc) := ⟨⟨EC.out.1.1.trans (qD.mono EC.out.1.1.size), EC.out.1.2.later qD⟩, ⟨EC.out.2.1.1.later qD, EC.out.2.1.2.1.later qD, EC.out.2.1.2.2.later qD⟩, EC.out.2.2.1.later qD, EC.out.2.2.2.later qD⟩
  clear qD EC g0 g1 g2 g3 g4' g5 g6 g7
  obtain ⟨⟨p0, p1, p2, p3, p4, p5⟩, _⟩ := ED.out.1.2
  go_wp2_with fail
  refine (toWorld_any nw nx bd nr F n S V _ _ nt T X _ 0 _ (HG.out.1.later ED.out.1.1) (HG.out.2.later ED.out.1.1) HB.out.1 HB.out.2).mono ?_
  intro e wE hNE
  obtain ⟨rg, rh, gE, UE, zE, gtE, YE, ztE, rfl, oE, qE⟩ := hNE.own
  have EE : Hid (Below w.heap.size w wE ∧ (BlkR wE w3.heap.size (.int .i64 c) (.bool mv) (.int .i64 nw') (.int .i64 nx') (.int .i64 bd') (.slice xa nr' xc) (.slice xb n' xd) (.slice xv nt' xe) ∧ Grs wE w.heap.size nr' F n' S UW (.slice xa nr' xc) (.slice xb n' xd) ∧ Txs wE w.heap.size nt' TT YW (.slice xv nt' xe)) ∧ BlkR wE w6.heap.size (.int .i64 c) (.bool mv) (.int .i64 nw') (.int .i64 nx') (.int .i64 bd') (.slice ra nr' rc) (.slice sa n' sc) (.slice va nt' vc) ∧ MarkW wE w5.heap.size lo nr' n' S ra rc sa sc U nt' TT Y va vc) := ⟨ED.out.1.1.trans (qE.mono ED.out.1.1.size), ⟨ED.out.2.1.1.later qE, ED.out.2.1.2.1.later qE, ED.out.2.1.2.2.later qE⟩, ED.out.2.2.1.later qE, ED.out.2.2.2.later qE⟩
  have GE := HF.out _ _ _ _ _ _ oE.grs.1 oE.grs.2 HB.out.1.1 HB.out.1.2.1 HB.out.2.1 HB.out.2.2
  clear qE hNE oE ED p0 p1 p2 p3 p4 p5
  go_wp2_with fail
  refine GE.2.mono ?_
  clear GE
  rintro e wF ⟨rj, rk, sj, sk, UF, zF, YF, vj, vk, lF, rfl, hfF, howF, hlF, qF⟩
  have EF : Hid (Below w.heap.size w (wF.alloc (.cells #[.int .i64 c, .bool mv, .int .i64 nw', .int .i64 nx', .int .i64 bd', .slice rj nr' rk, .slice sj n' sk, .slice vj nt' vk] 41)) ∧ (Grs (wF.alloc (.cells #[.int .i64 c, .bool mv, .int .i64 nw', .int .i64 nx', .int .i64 bd', .slice rj nr' rk, .slice sj n' sk, .slice vj nt' vk] 41)) w.heap.size nr' F n' S UW (.slice xa nr' xc) (.slice xb n' xd) ∧ Txs (wF.alloc (.cells #[.int .i64 c, .bool mv, .int .i64 nw', .int .i64 nx', .int .i64 bd', .slice rj nr' rk, .slice sj n' sk, .slice vj nt' vk] 41)) w.heap.size nt' TT YW (.slice xv nt' xe)) ∧ (BlkR (wF.alloc (.cells #[.int .i64 c, .bool mv, .int .i64 nw', .int .i64 nx', .int .i64 bd', .slice rj nr' rk, .slice sj n' sk, .slice vj nt' vk] 41)) w6.heap.size (.int .i64 c) (.bool mv) (.int .i64 nw') (.int .i64 nx') (.int .i64 bd') (.slice ra nr' rc) (.slice sa n' sc) (.slice va nt' vc) ∧ MarkW (wF.alloc (.cells #[.int .i64 c, .bool mv, .int .i64 nw', .int .i64 nx', .int .i64 bd', .slice rj nr' rk, .slice sj n' sk, .slice vj nt' vk] 41)) w5.heap.size lo nr' n' S ra rc sa sc U nt' TT Y va vc) ∧ Grs (wF.alloc (.cells #[.int .i64 c, .bool mv, .int .i64 nw', .int .i64 nx', .int .i64 bd', .slice rj nr' rk, .slice sj n' sk, .slice vj nt' vk] 41)) 0 nr' F n' S UF (.slice rj nr' rk) (.slice sj n' sk) ∧ Txs (wF.alloc (.cells #[.int .i64 c, .bool mv, .int .i64 nw', .int .i64 nx', .int .i64 bd', .slice rj nr' rk, .slice sj n' sk, .slice vj nt' vk] 41)) 0 nt' TT YF (.slice vj nt' vk)) := ⟨(EE.out.1.trans (qF.mono EE.out.1.size)).alloc (Nat.le_trans EE.out.1.size qF.size) _, ⟨(EE.out.2.1.2.1.later qF).later (below_alloc _ _), (EE.out.2.1.2.2.later qF).later (below_alloc _ _)⟩, ⟨(EE.out.2.2.1.later qF).later (below_alloc _ _), (EE.out.2.2.2.later qF).later (below_alloc _ _)⟩, ((hfF.grs sk).mono (Nat.zero_le _)).later (below_alloc _ _), ((howF.txs vk).mono (Nat.zero_le _)).later (below_alloc _ _)⟩
  obtain ⟨⟨t0, t1, t2, t3, t4, t5, t6, t7⟩, _⟩ := EE.out.2.1.1.later qF
  have hl := (EE.out.2.1.1.later qF).2
  clear qF hfF howF hlF EE
  go_wp2_with fail
  refine (eqWorldResultT_same c mv nw' nx' bd' nr' F n' S UF UW _ _ _ _ _ _ _ _ nt' TT YF YW _ _ _ _ 0 0 _ EF.out.2.2.2.1 (EF.out.2.1.1.mono (Nat.zero_le _)) EF.out.2.2.2.2 (EF.out.2.1.2.mono (Nat.zero_le _)) HSM.out.1 HSM.out.2).mono ?_
  rintro e wG ⟨rfl, qG⟩
  have EG : Hid (Below w.heap.size w wG ∧ BlkR wG w6.heap.size (.int .i64 c) (.bool mv) (.int .i64 nw') (.int .i64 nx') (.int .i64 bd') (.slice ra nr' rc) (.slice sa n' sc) (.slice va nt' vc) ∧ MarkW wG w5.heap.size lo nr' n' S ra rc sa sc U nt' TT Y va vc) := ⟨EF.out.1.trans (qG.mono EF.out.1.size), EF.out.2.2.1.1.later qG, EF.out.2.2.1.2.later qG⟩
  clear qG EF t0 t1 t2 t3 t4 t5 t6 t7 hl
  obtain ⟨⟨g0, g1, g2, g3, g4', g5, g6, g7⟩, _⟩ := EG.out.2.1
  go_wp2_with fail
  refine (heldWorldResultT_any c mv nw' nx' bd' nr' n' S ra rc sa sc U nt' TT Y va vc w5.heap.size lo _ EG.out.2.2 HSM.out.1 HSM.out.2).mono ?_
  rw [HMS.out]
  rintro e wH ⟨rfl, qH⟩
  have EH : Hid (Below w.heap.size w wH) := EG.out.1.trans (qH.mono EG.out.1.size)
  clear qH EG g0 g1 g2 g3 g4' g5 g6 g7
  go_wp2
  go_ret
  exact ⟨rfl, EH.out⟩
theorem leave_walk (nw nx bd : Int) (nr : Nat) (F : Nat → Int) (n : Nat) (S : Nat → Sto) (V : Nat → Nat → Value) (vr vs : Value) (nt : Nat) (T : Nat → Tx) (X : Nat → Value) (vt : Value) (tk : Int) (w : World) (h : Grs w 0 nr F n S V vr vs) (hx : Txs w 0 nt T X vt) (hr : nr ≤ 9223372036854775807) (hn : n ≤ 9223372036854775807) (hs : ∀ i, i < n → BigS (S i)) (hnt : nt ≤ 9223372036854775807) (hm : ∀ i, i < nt → (T i).m ≤ 9223372036854775807) :
    Calls Tryz.prog 3 #[.agg #[.int .i64 nw, .int .i64 nx, .int .i64 bd, vr, vs, vt], .int .i64 tk] w fun e w' => e = .returned (.bool true) ∧ Below w.heap.size w w' := by
  obtain ⟨c, mv, nw', nx', bd', nr', n', nt', hle, hA⟩ := LeaveAns.get nw nx bd nr F n S nt T tk
  exact exactLeaveWorld_walk nw nx bd nr F n S V vr vs nt T X vt (leftT T tk.toNat) (leftT_m T tk.toNat) tk w h hx hr hn hs hnt hm ⟨c, mv, nw', nx', bd', nr', n', nt', hle, fun U ur us Y ut x q1 q2 b1 b2 b3 b4 =>
    ⟨specLeave_is nw nx bd nr F n S U ur us nt T Y ut tk 0 c mv nw' nx' bd' nr' n' nt' x q1 q2 (by omega) (by omega) (by omega) (fun i hi => by have := b4 i hi; omega) hA, implLeave_is nw nx bd nr F n S U ur us nt T Y ut tk 0 c mv nw' nx' bd' nr' n' nt' x q1 q2 (by omega) (by omega) (by omega) (fun i hi => by have := b4 i hi; omega) hA⟩⟩
end Go.Proofs.YtphfiojhpfdpdaaGreat

