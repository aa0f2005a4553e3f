/-
  Own text, merged of AplC.
-/
import Derived.Test.YtnchaccgenfhoaaGreatPk8
namespace Go.Proofs.YtnchaccgenfhoaaGreat
open Go.RowKit

set_option maxRecDepth 100000 in
set_option maxHeartbeats 16000000 in
theorem fnApplies_walk (o : Option Addr) (len cap : Nat) (w : World) (hc : Code w o len) (hl0 : len ≤ maxLen) :
    Calls Tryz.prog 3 #[.slice o len cap] w fun e w' => e = .returned (.bool true) ∧ Below w.heap.size w w' := by
  have hml : maxLen = 9223372036854775807 := rfl
  by_cases hbig : (1048576 : Int) < len
  · have d : decide ((1048576 : Int) < (len : Int)) = true := decide_eq_true hbig
    go_enter Tryz.func3, Tryz.ntmps3
    go_wp2_with fail
    refine (lwBigP_is _ _ _ _ _ d).mono ?_
    rintro e w9 ⟨rfl, hw9⟩
    obtain rfl := hw9.symm
    go_wp2
    go_ret
    exact ⟨rfl, Below.refl _ _⟩
  have dz : decide ((1048576 : Int) < (len : Int)) = false := decide_eq_false hbig
  have HD := drawApplyFs_any w o len cap hc (by omega)
  clear hc hbig hml hl0
  go_enter Tryz.func3, Tryz.ntmps3
  go_wp2_with fail
  refine (lwBigP_is _ _ _ _ _ dz).mono ?_
  rintro e w9 ⟨rfl, hw9⟩
  obtain rfl := hw9.symm
  go_wp2_with fail
  refine HD.mono ?_
  clear HD
  rintro e w1 ⟨m, V, ao, cp, kd, d, n, td, tn, vv, rfl, hm, hV, q1⟩
  have OP := hidA (And.intro (Blk6.new w1 (.int .i64 kd) (.int .i64 d) (.int .i64 n) (.int .i64 td) (.int .i64 tn) (.int .i64 vv) 26) (And.intro ((hV.mono (Nat.zero_le _)).alloc (.cells #[.int .i64 kd, .int .i64 d, .int .i64 n, .int .i64 td, .int .i64 tn, .int .i64 vv] 26)) (q1.alloc q1.size (.cells #[.int .i64 kd, .int .i64 d, .int .i64 n, .int .i64 td, .int .i64 tn, .int .i64 vv] 26))))
  clear hV q1 dz
  obtain ⟨c, r, v, R, hans, hR⟩ := ApAns.get m V kd d n td tn vv
  have HR : Hid (R.length ≤ 200) := hR
  have HSP : Hid (∀ u X, Row X 0 2 m V u → Calls Tryz.prog 9 #[u, .agg #[.int .i64 kd, .int .i64 d, .int .i64 n, .int .i64 td, .int .i64 tn, .int .i64 vv]] X (ResFs X c r v R)) := fun u X hu => specApplyFs_is u 0 m V kd d n td tn vv c r v R X hu (by omega) hans
  have HIM : Hid (∀ u X, Row X 0 2 m V u → Calls Tryz.prog 8 #[u, .agg #[.int .i64 kd, .int .i64 d, .int .i64 n, .int .i64 td, .int .i64 tn, .int .i64 vv]] X (ResFs X c r v R)) := fun u X hu => implApplyFs_is u 0 m V kd d n td tn vv c r v R X hu (by omega) hans
  have HA : Hid (ApAns m V kd d n td tn vv c r v R) := hans
  clear hans hR
  obtain ⟨⟨o0, o1, o2, o3, o4, o5⟩, _⟩ := OP.out.1
  go_wp2_with fail
  refine (HIM.out _ _ OP.out.2.1).mono ?_
  rintro e w3 ⟨pa, pb, rfl, hrow, _, q3⟩
  have E3 : Hid (EnvA w w1.heap.size w3.heap.size c r v kd d n td tn vv m V (.slice ao m cp) R (.slice pa R.length pb) (w3.alloc (.cells #[.int .i64 c, .int .i64 r, .int .i64 v, .slice pa R.length pb] 30))) :=
    ⟨(OP.out.2.2.trans (q3.mono OP.out.2.2.size)).alloc (Nat.le_trans OP.out.2.2.size q3.size) _, (OP.out.2.1.later q3).alloc _, (OP.out.1.later q3).alloc _, BlkF.new w3 _ _ _ _ _, (hrow.mono (Nat.zero_le _)).alloc _⟩
  clear hrow q3 OP o0 o1 o2 o3 o4 o5
  obtain ⟨⟨o0, o1, o2, o3, o4, o5⟩, _⟩ := E3.out.op
  obtain ⟨⟨p0, p1, p2, p3⟩, _⟩ := E3.out.got
  by_cases hc0 : c = 0
  case neg =>
    have dc : (c != 0) = true := bne_iff_ne.2 hc0
    have ff := field_fs0
    clear HA hc0 HIM
    go_wp2_with fail
    refine wp_region_held_drew (S := fun Z : World => Blk6 Z w1.heap.size (.int .i64 kd) (.int .i64 d) (.int .i64 n) (.int .i64 td) (.int .i64 tn) (.int .i64 vv) ∧ BlkF Z w3.heap.size (.int .i64 c) (.int .i64 r) (.int .i64 v) (.slice pa R.length pb)) (by kernel_rfl) ⟨E3.out.op.later (Below.refl _ _).drew, E3.out.got.later (Below.refl _ _).drew⟩ (fun hS => ?_)
    have H4 := hidA (E3.out.later (Below.refl _ _).drew)
    clear E3
    clear o0 o1 o2 o3 o4 o5 p0 p1 p2 p3
    generalize (w3.alloc (.cells #[.int .i64 c, .int .i64 r, .int .i64 v, .slice pa R.length pb] 30)).drew = z0 at hS H4 ⊢
    refine tkH 0 ?_ hS (fun wx hx => ?_) ?_; rotate_left
    · obtain ⟨⟨⟨hx0, hx1, hx2, hx3, hx4, hx5⟩, _⟩, ⟨hy0, hy1, hy2, hy3⟩, _⟩ := hx; go_simp; try with_reducible rfl
    refine tkH 1 ?_ hS (fun wx hx => ?_) ?_; rotate_left
    · obtain ⟨⟨⟨hx0, hx1, hx2, hx3, hx4, hx5⟩, _⟩, ⟨hy0, hy1, hy2, hy3⟩, _⟩ := hx; go_simp; try with_reducible rfl
    refine tkH 4 ?_ hS (fun wx hx => ?_) ?_; rotate_left
    · obtain ⟨⟨⟨hx0, hx1, hx2, hx3, hx4, hx5⟩, _⟩, ⟨hy0, hy1, hy2, hy3⟩, _⟩ := hx; go_simp; try with_reducible rfl
    refine tkH 5 ?_ hS (fun wx hx => ?_) ?_; rotate_left
    · obtain ⟨⟨⟨hx0, hx1, hx2, hx3, hx4, hx5⟩, _⟩, ⟨hy0, hy1, hy2, hy3⟩, _⟩ := hx; go_simp; try with_reducible rfl
    refine rdH 2 (fun K hK => ?_)
    go_simp
    go_wp2_with fail
    refine (HSP.out _ _ H4.out.view).mono ?_
    rintro e z1 ⟨so, sc, rfl, _, _, q⟩
    have hS1 := And.intro (hS.1.later q) (hS.2.later q)
    have BB := hidA (H4.out.below.trans (q.mono H4.out.below.size))
    clear q hS H4 HSP
    go_wp2_with fail
    refine hK.out _ _ hS1 (fun hS => ?_)
    clear hK K
    clear hS1
    refine tkH 3 ?_ hS (fun wx hx => ?_) ?_; rotate_left
    · obtain ⟨⟨⟨hx0, hx1, hx2, hx3, hx4, hx5⟩, _⟩, ⟨hy0, hy1, hy2, hy3⟩, _⟩ := hx; go_simp; try with_reducible rfl
    refine tkH 6 ?_ hS (fun wx hx => ?_) ?_; rotate_left
    · obtain ⟨⟨⟨hx0, hx1, hx2, hx3, hx4, hx5⟩, _⟩, ⟨hy0, hy1, hy2, hy3⟩, _⟩ := hx; go_simp; try with_reducible rfl
    refine tkH 7 ?_ hS (fun wx hx => ?_) ?_; rotate_left
    · obtain ⟨⟨⟨hx0, hx1, hx2, hx3, hx4, hx5⟩, _⟩, ⟨hy0, hy1, hy2, hy3⟩, _⟩ := hx; go_simp; try with_reducible rfl
    clear hS
    refine wpAnyH_done (by kernel_rfl) ?_ _
    go_simp
    go_wp2
    go_ret
    exact ⟨by simp, BB.out⟩
  subst hc0
  have HZ : Hid (fsF m V = 0 ∧ opF kd d n td tn vv = 0 ∧ applyP (listOf V m) kd d n td tn vv = (r, v, R)) := by
    rcases HA.out with ⟨q, q', _⟩ | ⟨_, q, q', _⟩ | ⟨q1, q2, _, q3⟩
    · exact absurd q'.symm q
    · exact absurd q'.symm q
    · exact ⟨q1, q2, q3⟩
  clear HA HIM
  have hgv := good_of_pairs (fsF_zero HZ.out.1).1
  have hgr := hgv.applyOp HZ.out.2.1
  have hwr := wholeB_apply hgv (fsF_zero HZ.out.1).2 HZ.out.2.1
  rw [HZ.out.2.2] at hgr hwr
  have HG := hidA hgr
  have HFR := hidA (fs_of_whole hgr hwr)
  have HW := hidA ((whole_iff hgv).1 (fsF_zero HZ.out.1).2)
  have HB := hidA (op_bounds HZ.out.2.1)
  have HGV := hidA hgv
  clear hgv hgr hwr
  go_wp2_with fail
  refine (HSP.out _ _ E3.out.view).mono ?_
  rintro e w5 ⟨ya, yb, rfl, _, _, q5⟩
  have E5 := hidA (And.intro ((E3.out.later q5).later (below_alloc w5 (.cells #[.int .i64 0, .int .i64 r, .int .i64 v, .slice ya R.length yb] 30))) (BlkF.new w5 (.int .i64 0) (.int .i64 r) (.int .i64 v) (.slice ya R.length yb) 30))
  clear q5 E3 HSP
  clear o0 o1 o2 o3 o4 o5 p0 p1 p2 p3
  obtain ⟨⟨o0, o1, o2, o3, o4, o5⟩, _⟩ := E5.out.1.op
  obtain ⟨⟨p0, p1, p2, p3⟩, _⟩ := E5.out.1.got
  obtain ⟨⟨y0, y1, y2, y3⟩, _⟩ := E5.out.2
  by_cases hr : r = 0
  case neg =>
    have dr : (r != 0) = true := bne_iff_ne.2 hr
    have HSAME : Hid (AlikeP 2 R.length (rowL R) m V) := by
      have := apply_same (L := listOf V m) (kd := kd) (d := d) (n := n) (td := td) (tn := tn) (vv := vv) (Or.inl (by rw [HZ.out.2.2]; exact hr))
      rw [HZ.out.2.2] at this
      simp only at this
      unfold Hid
      rw [this]
      exact (same_of V m).1 rfl
    have hok : ∃ z has, lookF R (kE d n) = (has, z) := ⟨_, _, rfl⟩
    obtain ⟨z, has, hok⟩ := hok
    have HCH := hidA (ch_of HG.out HB.out.2.1 HB.out.2.2.1 hok)
    clear hok
    clear hr
    go_wp2_with fail
    refine (implFs_is _ 0 R.length (rowL R) _ E5.out.1.row (by have := HR.out; omega)).mono ?_
    rintro e w6 ⟨rfl, q6⟩
    rw [HFR.out]
    have E6 := hidA (And.intro (E5.out.1.later q6) (E5.out.2.later q6))
    clear q6 E5 y0 y1 y2 y3
    clear o0 o1 o2 o3 o4 o5 p0 p1 p2 p3
    obtain ⟨⟨o0, o1, o2, o3, o4, o5⟩, _⟩ := E6.out.1.op
    obtain ⟨⟨p0, p1, p2, p3⟩, _⟩ := E6.out.1.got
    obtain ⟨⟨y0, y1, y2, y3⟩, _⟩ := E6.out.2
    go_wp2_with fail
    refine (implSamePairs_any _ _ 0 0 R.length m (rowL R) V true _ E6.out.1.row E6.out.1.view (by have := HR.out; omega) (by omega) ⟨fun _ => HSAME.out, fun _ => rfl⟩).mono ?_
    rintro e w7 ⟨rfl, j7, rfl⟩
    have E7 := hidA (And.intro (E6.out.1.later (below_drewN (Below.refl _ _) j7)) (E6.out.2.later (below_drewN (Below.refl _ _) j7)))
    clear E6 y0 y1 y2 y3
    clear o0 o1 o2 o3 o4 o5 p0 p1 p2 p3
    generalize w6.drewN j7 = w7 at E7 ⊢
    obtain ⟨⟨o0, o1, o2, o3, o4, o5⟩, _⟩ := E7.out.1.op
    obtain ⟨⟨p0, p1, p2, p3⟩, _⟩ := E7.out.1.got
    obtain ⟨⟨y0, y1, y2, y3⟩, _⟩ := E7.out.2
    go_wp2_with fail
    refine (implChild_is _ 0 R.length (rowL R) d n 0 z has _ E7.out.1.row (by have := HR.out; omega) HCH.out).mono ?_
    rintro e w8 ⟨rfl, q8⟩
    have E8 := hidA (And.intro ((E7.out.1.later q8).later (below_alloc w8 (.cells #[.int .i64 0, .bool has, .int .i64 z] 35))) (Blk3.new w8 (.int .i64 0) (.bool has) (.int .i64 z) 35))
    clear q8 E7 y0 y1 y2 y3
    clear o0 o1 o2 o3 o4 o5 p0 p1 p2 p3
    obtain ⟨⟨o0, o1, o2, o3, o4, o5⟩, _⟩ := E8.out.1.op
    obtain ⟨⟨p0, p1, p2, p3⟩, _⟩ := E8.out.1.got
    obtain ⟨⟨g0, g1, g2⟩, _⟩ := E8.out.2
    go_wp2_with fail
    refine (implFs_is _ 0 m V _ E8.out.1.view (by omega)).mono ?_
    rintro e w10 ⟨rfl, q10⟩
    rw [HZ.out.1]
    have BB := hidA (E8.out.1.below.trans (q10.mono E8.out.1.below.size))
    clear q10 E8 g0 g1 g2
    clear o0 o1 o2 o3 o4 o5 p0 p1 p2 p3
    go_wp2
    go_ret
    exact ⟨by simp, BB.out⟩
  subst hr
  have hkk : kd = 1 ∨ kd = 2 ∨ kd = 3 ∨ kd = 4 ∨ kd = 5 ∨ kd = 6 ∨ kd = 7 ∨ kd = 8 := by have := HB.out.1; omega
  rcases hkk with rfl | rfl | rfl | rfl | rfl | rfl | rfl | rfl
  · have hmk := makes_plain (kd := 1) (by omega) HZ.out.2.1 (by rw [HZ.out.2.2])
    rw [HZ.out.2.2] at hmk
    have HCH := hidA (ch_of HG.out HB.out.2.1 HB.out.2.2.1 hmk.1)
    have HDI : Hid (isDirF R.length (rowL R) v = false) := by
      unfold Hid isDirF
      rw [decide_eq_true (pairs_of_good HG.out), decide_eq_true hmk.2.1, listOf_rowL, hmk.2.2]
      rfl
    have HEN : Hid (EntAns R.length (rowL R) d 0 (entP R d 6 0 []) ∧ Hid (decide (n ∈ entP R d 6 0 []) = true) ∧ (entP R d 6 0 []).length ≤ 1000) := ⟨Or.inr (Or.inr ⟨pairs_of_good HG.out, HB.out.2.1, rfl, by rw [listOf_rowL]⟩), by unfold Hid; rw [ent_has HB.out.2.2.1, hmk.1], by have := ent_len R d 6 0 []; simp at this; omega⟩
    have fi1 := field_ints1
    clear hmk
    go_wp2_with fail
    refine (implFs_is _ 0 R.length (rowL R) _ E5.out.1.row (by have := HR.out; omega)).mono ?_
    rintro e w6 ⟨rfl, q6⟩
    rw [HFR.out]
    have E6 := hidA (And.intro (E5.out.1.later q6) (E5.out.2.later q6))
    clear q6 E5 y0 y1 y2 y3
    clear o0 o1 o2 o3 o4 o5 p0 p1 p2 p3
    obtain ⟨⟨o0, o1, o2, o3, o4, o5⟩, _⟩ := E6.out.1.op
    obtain ⟨⟨p0, p1, p2, p3⟩, _⟩ := E6.out.1.got
    obtain ⟨⟨y0, y1, y2, y3⟩, _⟩ := E6.out.2
    go_wp2_with fail
    refine (implChild_is _ 0 R.length (rowL R) d n 0 v true _ E6.out.1.row (by have := HR.out; omega) HCH.out).mono ?_
    rintro e w8 ⟨rfl, q8⟩
    have E8 := hidA (And.intro ((E6.out.1.later q8).later (below_alloc w8 (.cells #[.int .i64 0, .bool true, .int .i64 v] 35))) (Blk3.new w8 (.int .i64 0) (.bool true) (.int .i64 v) 35))
    clear q8 E6 y0 y1 y2 y3
    clear o0 o1 o2 o3 o4 o5 p0 p1 p2 p3
    obtain ⟨⟨o0, o1, o2, o3, o4, o5⟩, _⟩ := E8.out.1.op
    obtain ⟨⟨p0, p1, p2, p3⟩, _⟩ := E8.out.1.got
    obtain ⟨⟨g0, g1, g2⟩, _⟩ := E8.out.2
    go_wp2_with fail
    refine wp_region_held_drew (S := fun Z : World => Blk6 Z w1.heap.size (.int .i64 1) (.int .i64 d) (.int .i64 n) (.int .i64 td) (.int .i64 tn) (.int .i64 vv) ∧ BlkF Z w3.heap.size (.int .i64 0) (.int .i64 0) (.int .i64 v) (.slice pa R.length pb) ∧ Blk3 Z w8.heap.size (.int .i64 0) (.bool true) (.int .i64 v)) (by kernel_rfl) ⟨E8.out.1.op.later (Below.refl _ _).drew, E8.out.1.got.later (Below.refl _ _).drew, E8.out.2.later (Below.refl _ _).drew⟩ (fun hS => ?_)
    have H8 := hidA (E8.out.1.later (Below.refl _ _).drew)
    clear E8 g0 g1 g2
    clear o0 o1 o2 o3 o4 o5 p0 p1 p2 p3
    generalize (w8.alloc (.cells #[.int .i64 0, .bool true, .int .i64 v] 35)).drew = z0 at hS H8 ⊢
    refine tkH 0 ?_ hS (fun wx hx => ?_) ?_; rotate_left
    · obtain ⟨⟨⟨hx0, hx1, hx2, hx3, hx4, hx5⟩, _⟩, ⟨⟨hy0, hy1, hy2, hy3⟩, _⟩, ⟨hz0, hz1, hz2⟩, _⟩ := hx; go_simp; try with_reducible rfl
    refine tkH 1 ?_ hS (fun wx hx => ?_) ?_; rotate_left
    · obtain ⟨⟨⟨hx0, hx1, hx2, hx3, hx4, hx5⟩, _⟩, ⟨⟨hy0, hy1, hy2, hy3⟩, _⟩, ⟨hz0, hz1, hz2⟩, _⟩ := hx; go_simp; try with_reducible rfl
    refine tkH 2 ?_ hS (fun wx hx => ?_) ?_; rotate_left
    · obtain ⟨⟨⟨hx0, hx1, hx2, hx3, hx4, hx5⟩, _⟩, ⟨⟨hy0, hy1, hy2, hy3⟩, _⟩, ⟨hz0, hz1, hz2⟩, _⟩ := hx; go_simp; try with_reducible rfl
    refine tkH 3 ?_ hS (fun wx hx => ?_) ?_; rotate_left
    · obtain ⟨⟨⟨hx0, hx1, hx2, hx3, hx4, hx5⟩, _⟩, ⟨⟨hy0, hy1, hy2, hy3⟩, _⟩, ⟨hz0, hz1, hz2⟩, _⟩ := hx; go_simp; try with_reducible rfl
    refine tkH 4 ?_ hS (fun wx hx => ?_) ?_; rotate_left
    · obtain ⟨⟨⟨hx0, hx1, hx2, hx3, hx4, hx5⟩, _⟩, ⟨⟨hy0, hy1, hy2, hy3⟩, _⟩, ⟨hz0, hz1, hz2⟩, _⟩ := hx; go_simp; try with_reducible rfl
    refine tkH 5 ?_ hS (fun wx hx => ?_) ?_; rotate_left
    · obtain ⟨⟨⟨hx0, hx1, hx2, hx3, hx4, hx5⟩, _⟩, ⟨⟨hy0, hy1, hy2, hy3⟩, _⟩, ⟨hz0, hz1, hz2⟩, _⟩ := hx; go_simp; try with_reducible rfl
    refine tkH 6 ?_ hS (fun wx hx => ?_) ?_; rotate_left
    · obtain ⟨⟨⟨hx0, hx1, hx2, hx3, hx4, hx5⟩, _⟩, ⟨⟨hy0, hy1, hy2, hy3⟩, _⟩, ⟨hz0, hz1, hz2⟩, _⟩ := hx; go_simp; try with_reducible rfl
    refine tkH 7 ?_ hS (fun wx hx => ?_) ?_; rotate_left
    · obtain ⟨⟨⟨hx0, hx1, hx2, hx3, hx4, hx5⟩, _⟩, ⟨⟨hy0, hy1, hy2, hy3⟩, _⟩, ⟨hz0, hz1, hz2⟩, _⟩ := hx; go_simp; try with_reducible rfl
    refine tkH 8 ?_ hS (fun wx hx => ?_) ?_; rotate_left
    · obtain ⟨⟨⟨hx0, hx1, hx2, hx3, hx4, hx5⟩, _⟩, ⟨⟨hy0, hy1, hy2, hy3⟩, _⟩, ⟨hz0, hz1, hz2⟩, _⟩ := hx; go_simp; try with_reducible rfl
    refine tkH 9 ?_ hS (fun wx hx => ?_) ?_; rotate_left
    · obtain ⟨⟨⟨hx0, hx1, hx2, hx3, hx4, hx5⟩, _⟩, ⟨⟨hy0, hy1, hy2, hy3⟩, _⟩, ⟨hz0, hz1, hz2⟩, _⟩ := hx; go_simp; try with_reducible rfl
    refine tkH 10 ?_ hS (fun wx hx => ?_) ?_; rotate_left
    · obtain ⟨⟨⟨hx0, hx1, hx2, hx3, hx4, hx5⟩, _⟩, ⟨⟨hy0, hy1, hy2, hy3⟩, _⟩, ⟨hz0, hz1, hz2⟩, _⟩ := hx; go_simp; try with_reducible rfl
    refine tkH 11 ?_ hS (fun wx hx => ?_) ?_; rotate_left
    · obtain ⟨⟨⟨hx0, hx1, hx2, hx3, hx4, hx5⟩, _⟩, ⟨⟨hy0, hy1, hy2, hy3⟩, _⟩, ⟨hz0, hz1, hz2⟩, _⟩ := hx; go_simp; try with_reducible rfl
    refine tkH 12 ?_ hS (fun wx hx => ?_) ?_; rotate_left
    · obtain ⟨⟨⟨hx0, hx1, hx2, hx3, hx4, hx5⟩, _⟩, ⟨⟨hy0, hy1, hy2, hy3⟩, _⟩, ⟨hz0, hz1, hz2⟩, _⟩ := hx; go_simp; try with_reducible rfl
    refine tkH 13 ?_ hS (fun wx hx => ?_) ?_; rotate_left
    · obtain ⟨⟨⟨hx0, hx1, hx2, hx3, hx4, hx5⟩, _⟩, ⟨⟨hy0, hy1, hy2, hy3⟩, _⟩, ⟨hz0, hz1, hz2⟩, _⟩ := hx; go_simp; try with_reducible rfl
    refine tkH 15 ?_ hS (fun wx hx => ?_) ?_; rotate_left
    · obtain ⟨⟨⟨hx0, hx1, hx2, hx3, hx4, hx5⟩, _⟩, ⟨⟨hy0, hy1, hy2, hy3⟩, _⟩, ⟨hz0, hz1, hz2⟩, _⟩ := hx; go_simp; try with_reducible rfl
    refine tkH 16 ?_ hS (fun wx hx => ?_) ?_; rotate_left
    · obtain ⟨⟨⟨hx0, hx1, hx2, hx3, hx4, hx5⟩, _⟩, ⟨⟨hy0, hy1, hy2, hy3⟩, _⟩, ⟨hz0, hz1, hz2⟩, _⟩ := hx; go_simp; try with_reducible rfl
    refine tkH 17 ?_ hS (fun wx hx => ?_) ?_; rotate_left
    · obtain ⟨⟨⟨hx0, hx1, hx2, hx3, hx4, hx5⟩, _⟩, ⟨⟨hy0, hy1, hy2, hy3⟩, _⟩, ⟨hz0, hz1, hz2⟩, _⟩ := hx; go_simp; try with_reducible rfl
    refine rdH 14 (fun K hK => ?_)
    go_simp
    go_wp2_with fail
    refine (implIsDir_is _ 0 R.length (rowL R) v false _ H8.out.row (by have := HR.out; omega) HDI.out).mono ?_
    rintro e z1 ⟨rfl, q1⟩
    have hS1 := And.intro (hS.1.later q1) (And.intro (hS.2.1.later q1) (hS.2.2.later q1))
    have H9 := hidA (H8.out.later q1)
    clear q1 H8 hS
    go_wp2_with fail
    refine hK.out _ _ hS1 (fun hS => ?_)
    clear hK K
    clear hS1
    refine tkH 18 ?_ hS (fun wx hx => ?_) ?_; rotate_left
    · obtain ⟨⟨⟨hx0, hx1, hx2, hx3, hx4, hx5⟩, _⟩, ⟨⟨hy0, hy1, hy2, hy3⟩, _⟩, ⟨hz0, hz1, hz2⟩, _⟩ := hx; go_simp; try with_reducible rfl
    refine tkH 19 ?_ hS (fun wx hx => ?_) ?_; rotate_left
    · obtain ⟨⟨⟨hx0, hx1, hx2, hx3, hx4, hx5⟩, _⟩, ⟨⟨hy0, hy1, hy2, hy3⟩, _⟩, ⟨hz0, hz1, hz2⟩, _⟩ := hx; go_simp; try with_reducible rfl
    refine tkH 20 ?_ hS (fun wx hx => ?_) ?_; rotate_left
    · obtain ⟨⟨⟨hx0, hx1, hx2, hx3, hx4, hx5⟩, _⟩, ⟨⟨hy0, hy1, hy2, hy3⟩, _⟩, ⟨hz0, hz1, hz2⟩, _⟩ := hx; go_simp; try with_reducible rfl
    refine tkH 21 ?_ hS (fun wx hx => ?_) ?_; rotate_left
    · obtain ⟨⟨⟨hx0, hx1, hx2, hx3, hx4, hx5⟩, _⟩, ⟨⟨hy0, hy1, hy2, hy3⟩, _⟩, ⟨hz0, hz1, hz2⟩, _⟩ := hx; go_simp; try with_reducible rfl
    refine tkH 22 ?_ hS (fun wx hx => ?_) ?_; rotate_left
    · obtain ⟨⟨⟨hx0, hx1, hx2, hx3, hx4, hx5⟩, _⟩, ⟨⟨hy0, hy1, hy2, hy3⟩, _⟩, ⟨hz0, hz1, hz2⟩, _⟩ := hx; go_simp; try with_reducible rfl
    refine tkH 23 ?_ hS (fun wx hx => ?_) ?_; rotate_left
    · obtain ⟨⟨⟨hx0, hx1, hx2, hx3, hx4, hx5⟩, _⟩, ⟨⟨hy0, hy1, hy2, hy3⟩, _⟩, ⟨hz0, hz1, hz2⟩, _⟩ := hx; go_simp; try with_reducible rfl
    refine tkH 24 ?_ hS (fun wx hx => ?_) ?_; rotate_left
    · obtain ⟨⟨⟨hx0, hx1, hx2, hx3, hx4, hx5⟩, _⟩, ⟨⟨hy0, hy1, hy2, hy3⟩, _⟩, ⟨hz0, hz1, hz2⟩, _⟩ := hx; go_simp; try with_reducible rfl
    refine tkH 27 ?_ hS (fun wx hx => ?_) ?_; rotate_left
    · obtain ⟨⟨⟨hx0, hx1, hx2, hx3, hx4, hx5⟩, _⟩, ⟨⟨hy0, hy1, hy2, hy3⟩, _⟩, ⟨hz0, hz1, hz2⟩, _⟩ := hx; go_simp; try with_reducible rfl
    refine tkH 28 ?_ hS (fun wx hx => ?_) ?_; rotate_left
    · obtain ⟨⟨⟨hx0, hx1, hx2, hx3, hx4, hx5⟩, _⟩, ⟨⟨hy0, hy1, hy2, hy3⟩, _⟩, ⟨hz0, hz1, hz2⟩, _⟩ := hx; go_simp; try with_reducible rfl
    refine rdH 25 (fun K hK => ?_)
    go_simp
    go_wp2_with fail
    refine (implEntries_is _ 0 R.length (rowL R) d 0 _ _ H9.out.row (by have := HR.out; omega) HEN.out.1).mono ?_
    rintro e z2 ⟨lv, rfl, hl, q2⟩
    obtain ⟨la, lc, rfl⟩ := hl.form
    have hS2 := And.intro (hS.1.later q2) (And.intro (hS.2.1.later q2) (hS.2.2.later q2))
    have HA := hidA (And.intro (H9.out.later q2) hl)
    clear q2 H9 hl hS
    go_wp2_with fail
    refine hK.out _ _ hS2 (fun hS => ?_)
    clear hK K
    clear hS2
    refine tkH 26 ?_ hS (fun wx hx => ?_) ?_; rotate_left
    · obtain ⟨⟨⟨hx0, hx1, hx2, hx3, hx4, hx5⟩, _⟩, ⟨⟨hy0, hy1, hy2, hy3⟩, _⟩, ⟨hz0, hz1, hz2⟩, _⟩ := hx; go_simp; try with_reducible rfl
    refine rdH 29 (fun K hK => ?_)
    go_simp
    go_wp2_with fail
    refine (lwHas_any _ _ _ n _ HEN.out.2.1 _ HA.out.2 HEN.out.2.2).mono ?_
    rintro e w9 ⟨rfl, hw9⟩
    obtain rfl := hw9.symm
    have HC := hidA HA.out.1
    clear HA
    go_wp2_with fail
    refine hK.out _ _ hS (fun hS => ?_)
    clear hK K
    refine tkH 30 ?_ hS (fun wx hx => ?_) ?_; rotate_left
    · obtain ⟨⟨⟨hx0, hx1, hx2, hx3, hx4, hx5⟩, _⟩, ⟨⟨hy0, hy1, hy2, hy3⟩, _⟩, ⟨hz0, hz1, hz2⟩, _⟩ := hx; go_simp; try with_reducible rfl
    refine tkH 31 ?_ hS (fun wx hx => ?_) ?_; rotate_left
    · obtain ⟨⟨⟨hx0, hx1, hx2, hx3, hx4, hx5⟩, _⟩, ⟨⟨hy0, hy1, hy2, hy3⟩, _⟩, ⟨hz0, hz1, hz2⟩, _⟩ := hx; go_simp; try with_reducible rfl
    clear hS
    refine wpAnyH_done (by kernel_rfl) ?_ _
    go_simp
    have BB := hidA HC.out.below
    clear HC
    go_wp2
    go_ret
    exact ⟨by simp, BB.out⟩
  · have hmk := makes_plain (kd := 2) (by omega) HZ.out.2.1 (by rw [HZ.out.2.2])
    rw [HZ.out.2.2] at hmk
    have HCH := hidA (ch_of HG.out HB.out.2.1 HB.out.2.2.1 hmk.1)
    have HDI : Hid (isDirF R.length (rowL R) v = true) := by
      unfold Hid isDirF
      rw [decide_eq_true (pairs_of_good HG.out), decide_eq_true hmk.2.1, listOf_rowL, hmk.2.2]
      rfl
    have HEN : Hid (EntAns R.length (rowL R) d 0 (entP R d 6 0 []) ∧ Hid (decide (n ∈ entP R d 6 0 []) = true) ∧ (entP R d 6 0 []).length ≤ 1000) := ⟨Or.inr (Or.inr ⟨pairs_of_good HG.out, HB.out.2.1, rfl, by rw [listOf_rowL]⟩), by unfold Hid; rw [ent_has HB.out.2.2.1, hmk.1], by have := ent_len R d 6 0 []; simp at this; omega⟩
    have fi1 := field_ints1
    clear hmk
    go_wp2_with fail
    refine (implFs_is _ 0 R.length (rowL R) _ E5.out.1.row (by have := HR.out; omega)).mono ?_
    rintro e w6 ⟨rfl, q6⟩
    rw [HFR.out]
    have E6 := hidA (And.intro (E5.out.1.later q6) (E5.out.2.later q6))
    clear q6 E5 y0 y1 y2 y3
    clear o0 o1 o2 o3 o4 o5 p0 p1 p2 p3
    obtain ⟨⟨o0, o1, o2, o3, o4, o5⟩, _⟩ := E6.out.1.op
    obtain ⟨⟨p0, p1, p2, p3⟩, _⟩ := E6.out.1.got
    obtain ⟨⟨y0, y1, y2, y3⟩, _⟩ := E6.out.2
    go_wp2_with fail
    refine (implChild_is _ 0 R.length (rowL R) d n 0 v true _ E6.out.1.row (by have := HR.out; omega) HCH.out).mono ?_
    rintro e w8 ⟨rfl, q8⟩
    have E8 := hidA (And.intro ((E6.out.1.later q8).later (below_alloc w8 (.cells #[.int .i64 0, .bool true, .int .i64 v] 35))) (Blk3.new w8 (.int .i64 0) (.bool true) (.int .i64 v) 35))
    clear q8 E6 y0 y1 y2 y3
    clear o0 o1 o2 o3 o4 o5 p0 p1 p2 p3
    obtain ⟨⟨o0, o1, o2, o3, o4, o5⟩, _⟩ := E8.out.1.op
    obtain ⟨⟨p0, p1, p2, p3⟩, _⟩ := E8.out.1.got
    obtain ⟨⟨g0, g1, g2⟩, _⟩ := E8.out.2
    go_wp2_with fail
    refine wp_region_held_drew (S := fun Z : World => Blk6 Z w1.heap.size (.int .i64 2) (.int .i64 d) (.int .i64 n) (.int .i64 td) (.int .i64 tn) (.int .i64 vv) ∧ BlkF Z w3.heap.size (.int .i64 0) (.int .i64 0) (.int .i64 v) (.slice pa R.length pb) ∧ Blk3 Z w8.heap.size (.int .i64 0) (.bool true) (.int .i64 v)) (by kernel_rfl) ⟨E8.out.1.op.later (Below.refl _ _).drew, E8.out.1.got.later (Below.refl _ _).drew, E8.out.2.later (Below.refl _ _).drew⟩ (fun hS => ?_)
    have H8 := hidA (E8.out.1.later (Below.refl _ _).drew)
    clear E8 g0 g1 g2
    clear o0 o1 o2 o3 o4 o5 p0 p1 p2 p3
    generalize (w8.alloc (.cells #[.int .i64 0, .bool true, .int .i64 v] 35)).drew = z0 at hS H8 ⊢
    refine tkH 0 ?_ hS (fun wx hx => ?_) ?_; rotate_left
    · obtain ⟨⟨⟨hx0, hx1, hx2, hx3, hx4, hx5⟩, _⟩, ⟨⟨hy0, hy1, hy2, hy3⟩, _⟩, ⟨hz0, hz1, hz2⟩, _⟩ := hx; go_simp; try with_reducible rfl
    refine tkH 1 ?_ hS (fun wx hx => ?_) ?_; rotate_left
    · obtain ⟨⟨⟨hx0, hx1, hx2, hx3, hx4, hx5⟩, _⟩, ⟨⟨hy0, hy1, hy2, hy3⟩, _⟩, ⟨hz0, hz1, hz2⟩, _⟩ := hx; go_simp; try with_reducible rfl
    refine tkH 2 ?_ hS (fun wx hx => ?_) ?_; rotate_left
    · obtain ⟨⟨⟨hx0, hx1, hx2, hx3, hx4, hx5⟩, _⟩, ⟨⟨hy0, hy1, hy2, hy3⟩, _⟩, ⟨hz0, hz1, hz2⟩, _⟩ := hx; go_simp; try with_reducible rfl
    refine tkH 3 ?_ hS (fun wx hx => ?_) ?_; rotate_left
    · obtain ⟨⟨⟨hx0, hx1, hx2, hx3, hx4, hx5⟩, _⟩, ⟨⟨hy0, hy1, hy2, hy3⟩, _⟩, ⟨hz0, hz1, hz2⟩, _⟩ := hx; go_simp; try with_reducible rfl
    refine tkH 4 ?_ hS (fun wx hx => ?_) ?_; rotate_left
    · obtain ⟨⟨⟨hx0, hx1, hx2, hx3, hx4, hx5⟩, _⟩, ⟨⟨hy0, hy1, hy2, hy3⟩, _⟩, ⟨hz0, hz1, hz2⟩, _⟩ := hx; go_simp; try with_reducible rfl
    refine tkH 5 ?_ hS (fun wx hx => ?_) ?_; rotate_left
    · obtain ⟨⟨⟨hx0, hx1, hx2, hx3, hx4, hx5⟩, _⟩, ⟨⟨hy0, hy1, hy2, hy3⟩, _⟩, ⟨hz0, hz1, hz2⟩, _⟩ := hx; go_simp; try with_reducible rfl
    refine tkH 6 ?_ hS (fun wx hx => ?_) ?_; rotate_left
    · obtain ⟨⟨⟨hx0, hx1, hx2, hx3, hx4, hx5⟩, _⟩, ⟨⟨hy0, hy1, hy2, hy3⟩, _⟩, ⟨hz0, hz1, hz2⟩, _⟩ := hx; go_simp; try with_reducible rfl
    refine tkH 7 ?_ hS (fun wx hx => ?_) ?_; rotate_left
    · obtain ⟨⟨⟨hx0, hx1, hx2, hx3, hx4, hx5⟩, _⟩, ⟨⟨hy0, hy1, hy2, hy3⟩, _⟩, ⟨hz0, hz1, hz2⟩, _⟩ := hx; go_simp; try with_reducible rfl
    refine tkH 8 ?_ hS (fun wx hx => ?_) ?_; rotate_left
    · obtain ⟨⟨⟨hx0, hx1, hx2, hx3, hx4, hx5⟩, _⟩, ⟨⟨hy0, hy1, hy2, hy3⟩, _⟩, ⟨hz0, hz1, hz2⟩, _⟩ := hx; go_simp; try with_reducible rfl
    refine tkH 9 ?_ hS (fun wx hx => ?_) ?_; rotate_left
    · obtain ⟨⟨⟨hx0, hx1, hx2, hx3, hx4, hx5⟩, _⟩, ⟨⟨hy0, hy1, hy2, hy3⟩, _⟩, ⟨hz0, hz1, hz2⟩, _⟩ := hx; go_simp; try with_reducible rfl
    refine tkH 10 ?_ hS (fun wx hx => ?_) ?_; rotate_left
    · obtain ⟨⟨⟨hx0, hx1, hx2, hx3, hx4, hx5⟩, _⟩, ⟨⟨hy0, hy1, hy2, hy3⟩, _⟩, ⟨hz0, hz1, hz2⟩, _⟩ := hx; go_simp; try with_reducible rfl
    refine tkH 11 ?_ hS (fun wx hx => ?_) ?_; rotate_left
    · obtain ⟨⟨⟨hx0, hx1, hx2, hx3, hx4, hx5⟩, _⟩, ⟨⟨hy0, hy1, hy2, hy3⟩, _⟩, ⟨hz0, hz1, hz2⟩, _⟩ := hx; go_simp; try with_reducible rfl
    refine tkH 12 ?_ hS (fun wx hx => ?_) ?_; rotate_left
    · obtain ⟨⟨⟨hx0, hx1, hx2, hx3, hx4, hx5⟩, _⟩, ⟨⟨hy0, hy1, hy2, hy3⟩, _⟩, ⟨hz0, hz1, hz2⟩, _⟩ := hx; go_simp; try with_reducible rfl
    refine tkH 13 ?_ hS (fun wx hx => ?_) ?_; rotate_left
    · obtain ⟨⟨⟨hx0, hx1, hx2, hx3, hx4, hx5⟩, _⟩, ⟨⟨hy0, hy1, hy2, hy3⟩, _⟩, ⟨hz0, hz1, hz2⟩, _⟩ := hx; go_simp; try with_reducible rfl
    refine tkH 15 ?_ hS (fun wx hx => ?_) ?_; rotate_left
    · obtain ⟨⟨⟨hx0, hx1, hx2, hx3, hx4, hx5⟩, _⟩, ⟨⟨hy0, hy1, hy2, hy3⟩, _⟩, ⟨hz0, hz1, hz2⟩, _⟩ := hx; go_simp; try with_reducible rfl
    refine tkH 16 ?_ hS (fun wx hx => ?_) ?_; rotate_left
    · obtain ⟨⟨⟨hx0, hx1, hx2, hx3, hx4, hx5⟩, _⟩, ⟨⟨hy0, hy1, hy2, hy3⟩, _⟩, ⟨hz0, hz1, hz2⟩, _⟩ := hx; go_simp; try with_reducible rfl
    refine tkH 17 ?_ hS (fun wx hx => ?_) ?_; rotate_left
    · obtain ⟨⟨⟨hx0, hx1, hx2, hx3, hx4, hx5⟩, _⟩, ⟨⟨hy0, hy1, hy2, hy3⟩, _⟩, ⟨hz0, hz1, hz2⟩, _⟩ := hx; go_simp; try with_reducible rfl
    refine rdH 14 (fun K hK => ?_)
    go_simp
    go_wp2_with fail
    refine (implIsDir_is _ 0 R.length (rowL R) v true _ H8.out.row (by have := HR.out; omega) HDI.out).mono ?_
    rintro e z1 ⟨rfl, q1⟩
    have hS1 := And.intro (hS.1.later q1) (And.intro (hS.2.1.later q1) (hS.2.2.later q1))
    have H9 := hidA (H8.out.later q1)
    clear q1 H8 hS
    go_wp2_with fail
    refine hK.out _ _ hS1 (fun hS => ?_)
    clear hK K
    clear hS1
    refine tkH 18 ?_ hS (fun wx hx => ?_) ?_; rotate_left
    · obtain ⟨⟨⟨hx0, hx1, hx2, hx3, hx4, hx5⟩, _⟩, ⟨⟨hy0, hy1, hy2, hy3⟩, _⟩, ⟨hz0, hz1, hz2⟩, _⟩ := hx; go_simp; try with_reducible rfl
    refine tkH 19 ?_ hS (fun wx hx => ?_) ?_; rotate_left
    · obtain ⟨⟨⟨hx0, hx1, hx2, hx3, hx4, hx5⟩, _⟩, ⟨⟨hy0, hy1, hy2, hy3⟩, _⟩, ⟨hz0, hz1, hz2⟩, _⟩ := hx; go_simp; try with_reducible rfl
    refine tkH 20 ?_ hS (fun wx hx => ?_) ?_; rotate_left
    · obtain ⟨⟨⟨hx0, hx1, hx2, hx3, hx4, hx5⟩, _⟩, ⟨⟨hy0, hy1, hy2, hy3⟩, _⟩, ⟨hz0, hz1, hz2⟩, _⟩ := hx; go_simp; try with_reducible rfl
    refine tkH 21 ?_ hS (fun wx hx => ?_) ?_; rotate_left
    · obtain ⟨⟨⟨hx0, hx1, hx2, hx3, hx4, hx5⟩, _⟩, ⟨⟨hy0, hy1, hy2, hy3⟩, _⟩, ⟨hz0, hz1, hz2⟩, _⟩ := hx; go_simp; try with_reducible rfl
    refine tkH 22 ?_ hS (fun wx hx => ?_) ?_; rotate_left
    · obtain ⟨⟨⟨hx0, hx1, hx2, hx3, hx4, hx5⟩, _⟩, ⟨⟨hy0, hy1, hy2, hy3⟩, _⟩, ⟨hz0, hz1, hz2⟩, _⟩ := hx; go_simp; try with_reducible rfl
    refine tkH 23 ?_ hS (fun wx hx => ?_) ?_; rotate_left
    · obtain ⟨⟨⟨hx0, hx1, hx2, hx3, hx4, hx5⟩, _⟩, ⟨⟨hy0, hy1, hy2, hy3⟩, _⟩, ⟨hz0, hz1, hz2⟩, _⟩ := hx; go_simp; try with_reducible rfl
    refine tkH 24 ?_ hS (fun wx hx => ?_) ?_; rotate_left
    · obtain ⟨⟨⟨hx0, hx1, hx2, hx3, hx4, hx5⟩, _⟩, ⟨⟨hy0, hy1, hy2, hy3⟩, _⟩, ⟨hz0, hz1, hz2⟩, _⟩ := hx; go_simp; try with_reducible rfl
    refine tkH 27 ?_ hS (fun wx hx => ?_) ?_; rotate_left
    · obtain ⟨⟨⟨hx0, hx1, hx2, hx3, hx4, hx5⟩, _⟩, ⟨⟨hy0, hy1, hy2, hy3⟩, _⟩, ⟨hz0, hz1, hz2⟩, _⟩ := hx; go_simp; try with_reducible rfl
    refine tkH 28 ?_ hS (fun wx hx => ?_) ?_; rotate_left
    · obtain ⟨⟨⟨hx0, hx1, hx2, hx3, hx4, hx5⟩, _⟩, ⟨⟨hy0, hy1, hy2, hy3⟩, _⟩, ⟨hz0, hz1, hz2⟩, _⟩ := hx; go_simp; try with_reducible rfl
    refine rdH 25 (fun K hK => ?_)
    go_simp
    go_wp2_with fail
    refine (implEntries_is _ 0 R.length (rowL R) d 0 _ _ H9.out.row (by have := HR.out; omega) HEN.out.1).mono ?_
    rintro e z2 ⟨lv, rfl, hl, q2⟩
    obtain ⟨la, lc, rfl⟩ := hl.form
    have hS2 := And.intro (hS.1.later q2) (And.intro (hS.2.1.later q2) (hS.2.2.later q2))
    have HA := hidA (And.intro (H9.out.later q2) hl)
    clear q2 H9 hl hS
    go_wp2_with fail
    refine hK.out _ _ hS2 (fun hS => ?_)
    clear hK K
    clear hS2
    refine tkH 26 ?_ hS (fun wx hx => ?_) ?_; rotate_left
    · obtain ⟨⟨⟨hx0, hx1, hx2, hx3, hx4, hx5⟩, _⟩, ⟨⟨hy0, hy1, hy2, hy3⟩, _⟩, ⟨hz0, hz1, hz2⟩, _⟩ := hx; go_simp; try with_reducible rfl
    refine rdH 29 (fun K hK => ?_)
    go_simp
    go_wp2_with fail
    refine (lwHas_any _ _ _ n _ HEN.out.2.1 _ HA.out.2 HEN.out.2.2).mono ?_
    rintro e w9 ⟨rfl, hw9⟩
    obtain rfl := hw9.symm
    have HC := hidA HA.out.1
    clear HA
    go_wp2_with fail
    refine hK.out _ _ hS (fun hS => ?_)
    clear hK K
    refine tkH 30 ?_ hS (fun wx hx => ?_) ?_; rotate_left
    · obtain ⟨⟨⟨hx0, hx1, hx2, hx3, hx4, hx5⟩, _⟩, ⟨⟨hy0, hy1, hy2, hy3⟩, _⟩, ⟨hz0, hz1, hz2⟩, _⟩ := hx; go_simp; try with_reducible rfl
    refine tkH 31 ?_ hS (fun wx hx => ?_) ?_; rotate_left
    · obtain ⟨⟨⟨hx0, hx1, hx2, hx3, hx4, hx5⟩, _⟩, ⟨⟨hy0, hy1, hy2, hy3⟩, _⟩, ⟨hz0, hz1, hz2⟩, _⟩ := hx; go_simp; try with_reducible rfl
    clear hS
    refine wpAnyH_done (by kernel_rfl) ?_ _
    go_simp
    have BB := hidA HC.out.below
    clear HC
    go_wp2
    go_ret
    exact ⟨by simp, BB.out⟩
  · have hrm := removes_plain HZ.out.2.1 (by rw [HZ.out.2.2])
    rw [HZ.out.2.2] at hrm
    obtain ⟨z, hz⟩ : ∃ z, lookF R (kE d n) = (false, z) := ⟨_, pair_of hrm rfl⟩
    have HCH := hidA (ch_of HG.out HB.out.2.1 HB.out.2.2.1 hz)
    have HEN : Hid (EntAns R.length (rowL R) d 0 (entP R d 6 0 []) ∧ Hid (decide (n ∈ entP R d 6 0 []) = false) ∧ (entP R d 6 0 []).length ≤ 1000) := ⟨Or.inr (Or.inr ⟨pairs_of_good HG.out, HB.out.2.1, rfl, by rw [listOf_rowL]⟩), by unfold Hid; rw [ent_has HB.out.2.2.1, hz], by have := ent_len R d 6 0 []; simp at this; omega⟩
    have fi1 := field_ints1
    clear hrm hz
    go_wp2_with fail
    refine (implFs_is _ 0 R.length (rowL R) _ E5.out.1.row (by have := HR.out; omega)).mono ?_
    rintro e w6 ⟨rfl, q6⟩
    rw [HFR.out]
    have E6 := hidA (And.intro (E5.out.1.later q6) (E5.out.2.later q6))
    clear q6 E5 y0 y1 y2 y3
    clear o0 o1 o2 o3 o4 o5 p0 p1 p2 p3
    obtain ⟨⟨o0, o1, o2, o3, o4, o5⟩, _⟩ := E6.out.1.op
    obtain ⟨⟨p0, p1, p2, p3⟩, _⟩ := E6.out.1.got
    obtain ⟨⟨y0, y1, y2, y3⟩, _⟩ := E6.out.2
    go_wp2_with fail
    refine (implChild_is _ 0 R.length (rowL R) d n 0 z false _ E6.out.1.row (by have := HR.out; omega) HCH.out).mono ?_
    rintro e w8 ⟨rfl, q8⟩
    have E8 := hidA (And.intro ((E6.out.1.later q8).later (below_alloc w8 (.cells #[.int .i64 0, .bool false, .int .i64 z] 35))) (Blk3.new w8 (.int .i64 0) (.bool false) (.int .i64 z) 35))
    clear q8 E6 y0 y1 y2 y3
    clear o0 o1 o2 o3 o4 o5 p0 p1 p2 p3
    obtain ⟨⟨o0, o1, o2, o3, o4, o5⟩, _⟩ := E8.out.1.op
    obtain ⟨⟨p0, p1, p2, p3⟩, _⟩ := E8.out.1.got
    obtain ⟨⟨g0, g1, g2⟩, _⟩ := E8.out.2
    go_wp2_with fail
    refine wp_region_held_drew (S := fun Z : World => Blk6 Z w1.heap.size (.int .i64 3) (.int .i64 d) (.int .i64 n) (.int .i64 td) (.int .i64 tn) (.int .i64 vv) ∧ BlkF Z w3.heap.size (.int .i64 0) (.int .i64 0) (.int .i64 v) (.slice pa R.length pb) ∧ Blk3 Z w8.heap.size (.int .i64 0) (.bool false) (.int .i64 z)) (by kernel_rfl) ⟨E8.out.1.op.later (Below.refl _ _).drew, E8.out.1.got.later (Below.refl _ _).drew, E8.out.2.later (Below.refl _ _).drew⟩ (fun hS => ?_)
    have H8 := hidA (E8.out.1.later (Below.refl _ _).drew)
    clear E8 g0 g1 g2
    clear o0 o1 o2 o3 o4 o5 p0 p1 p2 p3
    generalize (w8.alloc (.cells #[.int .i64 0, .bool false, .int .i64 z] 35)).drew = z0 at hS H8 ⊢
    refine tkH 0 ?_ hS (fun wx hx => ?_) ?_; rotate_left
    · obtain ⟨⟨⟨hx0, hx1, hx2, hx3, hx4, hx5⟩, _⟩, ⟨⟨hy0, hy1, hy2, hy3⟩, _⟩, ⟨hz0, hz1, hz2⟩, _⟩ := hx; go_simp; try with_reducible rfl
    refine tkH 1 ?_ hS (fun wx hx => ?_) ?_; rotate_left
    · obtain ⟨⟨⟨hx0, hx1, hx2, hx3, hx4, hx5⟩, _⟩, ⟨⟨hy0, hy1, hy2, hy3⟩, _⟩, ⟨hz0, hz1, hz2⟩, _⟩ := hx; go_simp; try with_reducible rfl
    refine tkH 2 ?_ hS (fun wx hx => ?_) ?_; rotate_left
    · obtain ⟨⟨⟨hx0, hx1, hx2, hx3, hx4, hx5⟩, _⟩, ⟨⟨hy0, hy1, hy2, hy3⟩, _⟩, ⟨hz0, hz1, hz2⟩, _⟩ := hx; go_simp; try with_reducible rfl
    refine tkH 3 ?_ hS (fun wx hx => ?_) ?_; rotate_left
    · obtain ⟨⟨⟨hx0, hx1, hx2, hx3, hx4, hx5⟩, _⟩, ⟨⟨hy0, hy1, hy2, hy3⟩, _⟩, ⟨hz0, hz1, hz2⟩, _⟩ := hx; go_simp; try with_reducible rfl
    refine tkH 4 ?_ hS (fun wx hx => ?_) ?_; rotate_left
    · obtain ⟨⟨⟨hx0, hx1, hx2, hx3, hx4, hx5⟩, _⟩, ⟨⟨hy0, hy1, hy2, hy3⟩, _⟩, ⟨hz0, hz1, hz2⟩, _⟩ := hx; go_simp; try with_reducible rfl
    refine tkH 5 ?_ hS (fun wx hx => ?_) ?_; rotate_left
    · obtain ⟨⟨⟨hx0, hx1, hx2, hx3, hx4, hx5⟩, _⟩, ⟨⟨hy0, hy1, hy2, hy3⟩, _⟩, ⟨hz0, hz1, hz2⟩, _⟩ := hx; go_simp; try with_reducible rfl
    refine tkH 6 ?_ hS (fun wx hx => ?_) ?_; rotate_left
    · obtain ⟨⟨⟨hx0, hx1, hx2, hx3, hx4, hx5⟩, _⟩, ⟨⟨hy0, hy1, hy2, hy3⟩, _⟩, ⟨hz0, hz1, hz2⟩, _⟩ := hx; go_simp; try with_reducible rfl
    refine tkH 7 ?_ hS (fun wx hx => ?_) ?_; rotate_left
    · obtain ⟨⟨⟨hx0, hx1, hx2, hx3, hx4, hx5⟩, _⟩, ⟨⟨hy0, hy1, hy2, hy3⟩, _⟩, ⟨hz0, hz1, hz2⟩, _⟩ := hx; go_simp; try with_reducible rfl
    refine tkH 10 ?_ hS (fun wx hx => ?_) ?_; rotate_left
    · obtain ⟨⟨⟨hx0, hx1, hx2, hx3, hx4, hx5⟩, _⟩, ⟨⟨hy0, hy1, hy2, hy3⟩, _⟩, ⟨hz0, hz1, hz2⟩, _⟩ := hx; go_simp; try with_reducible rfl
    refine tkH 11 ?_ hS (fun wx hx => ?_) ?_; rotate_left
    · obtain ⟨⟨⟨hx0, hx1, hx2, hx3, hx4, hx5⟩, _⟩, ⟨⟨hy0, hy1, hy2, hy3⟩, _⟩, ⟨hz0, hz1, hz2⟩, _⟩ := hx; go_simp; try with_reducible rfl
    refine rdH 8 (fun K hK => ?_)
    go_simp
    go_wp2_with fail
    refine (implEntries_is _ 0 R.length (rowL R) d 0 _ _ H8.out.row (by have := HR.out; omega) HEN.out.1).mono ?_
    rintro e z2 ⟨lv, rfl, hl, q2⟩
    obtain ⟨la, lc, rfl⟩ := hl.form
    have hS2 := And.intro (hS.1.later q2) (And.intro (hS.2.1.later q2) (hS.2.2.later q2))
    have H9 := hidA (And.intro (H8.out.later q2) hl)
    clear q2 H8 hl hS
    go_wp2_with fail
    refine hK.out _ _ hS2 (fun hS => ?_)
    clear hK K
    clear hS2
    refine tkH 9 ?_ hS (fun wx hx => ?_) ?_; rotate_left
    · obtain ⟨⟨⟨hx0, hx1, hx2, hx3, hx4, hx5⟩, _⟩, ⟨⟨hy0, hy1, hy2, hy3⟩, _⟩, ⟨hz0, hz1, hz2⟩, _⟩ := hx; go_simp; try with_reducible rfl
    refine rdH 12 (fun K hK => ?_)
    go_simp
    go_wp2_with fail
    refine (lwHas_any _ _ _ n _ HEN.out.2.1 _ H9.out.2 HEN.out.2.2).mono ?_
    rintro e w9 ⟨rfl, hw9⟩
    obtain rfl := hw9.symm
    have HC := hidA H9.out.1
    clear H9
    go_wp2_with fail
    refine hK.out _ _ hS (fun hS => ?_)
    clear hK K
    refine tkH 13 ?_ hS (fun wx hx => ?_) ?_; rotate_left
    · obtain ⟨⟨⟨hx0, hx1, hx2, hx3, hx4, hx5⟩, _⟩, ⟨⟨hy0, hy1, hy2, hy3⟩, _⟩, ⟨hz0, hz1, hz2⟩, _⟩ := hx; go_simp; try with_reducible rfl
    refine tkH 14 ?_ hS (fun wx hx => ?_) ?_; rotate_left
    · obtain ⟨⟨⟨hx0, hx1, hx2, hx3, hx4, hx5⟩, _⟩, ⟨⟨hy0, hy1, hy2, hy3⟩, _⟩, ⟨hz0, hz1, hz2⟩, _⟩ := hx; go_simp; try with_reducible rfl
    refine tkH 15 ?_ hS (fun wx hx => ?_) ?_; rotate_left
    · obtain ⟨⟨⟨hx0, hx1, hx2, hx3, hx4, hx5⟩, _⟩, ⟨⟨hy0, hy1, hy2, hy3⟩, _⟩, ⟨hz0, hz1, hz2⟩, _⟩ := hx; go_simp; try with_reducible rfl
    clear hS
    refine wpAnyH_done (by kernel_rfl) ?_ _
    go_simp
    have BB := hidA HC.out.below
    clear HC
    go_wp2
    go_ret
    exact ⟨by simp, BB.out⟩
  · have hok : ∃ z has, lookF R (kE d n) = (has, z) := ⟨_, _, rfl⟩
    obtain ⟨z, has, hok⟩ := hok
    have HCH := hidA (ch_of HG.out HB.out.2.1 HB.out.2.2.1 hok)
    clear hok
    go_wp2_with fail
    refine (implFs_is _ 0 R.length (rowL R) _ E5.out.1.row (by have := HR.out; omega)).mono ?_
    rintro e w6 ⟨rfl, q6⟩
    rw [HFR.out]
    have E6 := hidA (And.intro (E5.out.1.later q6) (E5.out.2.later q6))
    clear q6 E5 y0 y1 y2 y3
    clear o0 o1 o2 o3 o4 o5 p0 p1 p2 p3
    obtain ⟨⟨o0, o1, o2, o3, o4, o5⟩, _⟩ := E6.out.1.op
    obtain ⟨⟨p0, p1, p2, p3⟩, _⟩ := E6.out.1.got
    obtain ⟨⟨y0, y1, y2, y3⟩, _⟩ := E6.out.2
    go_wp2_with fail
    refine (implChild_is _ 0 R.length (rowL R) d n 0 z has _ E6.out.1.row (by have := HR.out; omega) HCH.out).mono ?_
    rintro e w8 ⟨rfl, q8⟩
    have E8 := hidA (And.intro ((E6.out.1.later q8).later (below_alloc w8 (.cells #[.int .i64 0, .bool has, .int .i64 z] 35))) (Blk3.new w8 (.int .i64 0) (.bool has) (.int .i64 z) 35))
    clear q8 E6 y0 y1 y2 y3
    clear o0 o1 o2 o3 o4 o5 p0 p1 p2 p3
    obtain ⟨⟨o0, o1, o2, o3, o4, o5⟩, _⟩ := E8.out.1.op
    obtain ⟨⟨p0, p1, p2, p3⟩, _⟩ := E8.out.1.got
    obtain ⟨⟨g0, g1, g2⟩, _⟩ := E8.out.2
    have BB := hidA E8.out.1.below
    clear E8
    go_wp2
    go_ret
    exact ⟨by simp, BB.out⟩
  · have hok : ∃ z has, lookF R (kE d n) = (has, z) := ⟨_, _, rfl⟩
    obtain ⟨z, has, hok⟩ := hok
    have HCH := hidA (ch_of HG.out HB.out.2.1 HB.out.2.2.1 hok)
    clear hok
    go_wp2_with fail
    refine (implFs_is _ 0 R.length (rowL R) _ E5.out.1.row (by have := HR.out; omega)).mono ?_
    rintro e w6 ⟨rfl, q6⟩
    rw [HFR.out]
    have E6 := hidA (And.intro (E5.out.1.later q6) (E5.out.2.later q6))
    clear q6 E5 y0 y1 y2 y3
    clear o0 o1 o2 o3 o4 o5 p0 p1 p2 p3
    obtain ⟨⟨o0, o1, o2, o3, o4, o5⟩, _⟩ := E6.out.1.op
    obtain ⟨⟨p0, p1, p2, p3⟩, _⟩ := E6.out.1.got
    obtain ⟨⟨y0, y1, y2, y3⟩, _⟩ := E6.out.2
    go_wp2_with fail
    refine (implChild_is _ 0 R.length (rowL R) d n 0 z has _ E6.out.1.row (by have := HR.out; omega) HCH.out).mono ?_
    rintro e w8 ⟨rfl, q8⟩
    have E8 := hidA (And.intro ((E6.out.1.later q8).later (below_alloc w8 (.cells #[.int .i64 0, .bool has, .int .i64 z] 35))) (Blk3.new w8 (.int .i64 0) (.bool has) (.int .i64 z) 35))
    clear q8 E6 y0 y1 y2 y3
    clear o0 o1 o2 o3 o4 o5 p0 p1 p2 p3
    obtain ⟨⟨o0, o1, o2, o3, o4, o5⟩, _⟩ := E8.out.1.op
    obtain ⟨⟨p0, p1, p2, p3⟩, _⟩ := E8.out.1.got
    obtain ⟨⟨g0, g1, g2⟩, _⟩ := E8.out.2
    have BB := hidA E8.out.1.below
    clear E8
    go_wp2
    go_ret
    exact ⟨by simp, BB.out⟩
  · have hwp := writes_plain HW.out HZ.out.2.1 (by rw [HZ.out.2.2])
    rw [HZ.out.2.2] at hwp
    obtain ⟨R7, hR7⟩ : ∃ R7, applyP R 7 d n 0 0 0 = (0, vv, R7) := ⟨_, Prod.ext hwp.2.1 (Prod.ext hwp.2.2 rfl)⟩
    have HQ : Hid (ApAns R.length (rowL R) 7 d n 0 0 0 0 0 vv R7) := Or.inr (Or.inr ⟨HFR.out, hwp.1, rfl, by rw [listOf_rowL]; exact hR7⟩)
    clear hwp hR7
    have hok : ∃ z has, lookF R (kE d n) = (has, z) := ⟨_, _, rfl⟩
    obtain ⟨z, has, hok⟩ := hok
    have HCH := hidA (ch_of HG.out HB.out.2.1 HB.out.2.2.1 hok)
    clear hok
    go_wp2_with fail
    refine (implFs_is _ 0 R.length (rowL R) _ E5.out.1.row (by have := HR.out; omega)).mono ?_
    rintro e w6 ⟨rfl, q6⟩
    rw [HFR.out]
    have E6 := hidA (And.intro (E5.out.1.later q6) (E5.out.2.later q6))
    clear q6 E5 y0 y1 y2 y3
    clear o0 o1 o2 o3 o4 o5 p0 p1 p2 p3
    obtain ⟨⟨o0, o1, o2, o3, o4, o5⟩, _⟩ := E6.out.1.op
    obtain ⟨⟨p0, p1, p2, p3⟩, _⟩ := E6.out.1.got
    obtain ⟨⟨y0, y1, y2, y3⟩, _⟩ := E6.out.2
    go_wp2_with fail
    refine (implChild_is _ 0 R.length (rowL R) d n 0 z has _ E6.out.1.row (by have := HR.out; omega) HCH.out).mono ?_
    rintro e w8 ⟨rfl, q8⟩
    have E8 := hidA (And.intro ((E6.out.1.later q8).later (below_alloc w8 (.cells #[.int .i64 0, .bool has, .int .i64 z] 35))) (Blk3.new w8 (.int .i64 0) (.bool has) (.int .i64 z) 35))
    clear q8 E6 y0 y1 y2 y3
    clear o0 o1 o2 o3 o4 o5 p0 p1 p2 p3
    obtain ⟨⟨o0, o1, o2, o3, o4, o5⟩, _⟩ := E8.out.1.op
    obtain ⟨⟨p0, p1, p2, p3⟩, _⟩ := E8.out.1.got
    obtain ⟨⟨g0, g1, g2⟩, _⟩ := E8.out.2
    go_wp2_with fail
    refine (implApplyFs_is _ 0 R.length (rowL R) 7 d n 0 0 0 0 0 vv R7 _ E8.out.1.row (by have := HR.out; omega) HQ.out).mono ?_
    rintro e w10 ⟨xa, xb, rfl, _, _, q10⟩
    have E9 := hidA (And.intro ((E8.out.1.later q10).later (below_alloc w10 (.cells #[.int .i64 0, .int .i64 0, .int .i64 vv, .slice xa R7.length xb] 30))) (BlkF.new w10 (.int .i64 0) (.int .i64 0) (.int .i64 vv) (.slice xa R7.length xb) 30))
    clear q10 E8 g0 g1 g2
    clear o0 o1 o2 o3 o4 o5 p0 p1 p2 p3
    obtain ⟨⟨o0, o1, o2, o3, o4, o5⟩, _⟩ := E9.out.1.op
    obtain ⟨⟨p0, p1, p2, p3⟩, _⟩ := E9.out.1.got
    obtain ⟨⟨g0, g1, g2, g3⟩, _⟩ := E9.out.2
    have BB := hidA E9.out.1.below
    clear E9
    go_wp2
    go_ret
    exact ⟨by simp, BB.out⟩
  · have HSAME : Hid (AlikeP 2 R.length (rowL R) m V) := by
      have := apply_same (L := listOf V m) (kd := 7) (d := d) (n := n) (td := td) (tn := tn) (vv := vv) (Or.inr (by omega))
      rw [HZ.out.2.2] at this
      simp only at this
      unfold Hid
      rw [this]
      exact (same_of V m).1 rfl
    have hok : ∃ z has, lookF R (kE d n) = (has, z) := ⟨_, _, rfl⟩
    obtain ⟨z, has, hok⟩ := hok
    have HCH := hidA (ch_of HG.out HB.out.2.1 HB.out.2.2.1 hok)
    clear hok
    go_wp2_with fail
    refine (implFs_is _ 0 R.length (rowL R) _ E5.out.1.row (by have := HR.out; omega)).mono ?_
    rintro e w6 ⟨rfl, q6⟩
    rw [HFR.out]
    have E6 := hidA (And.intro (E5.out.1.later q6) (E5.out.2.later q6))
    clear q6 E5 y0 y1 y2 y3
    clear o0 o1 o2 o3 o4 o5 p0 p1 p2 p3
    obtain ⟨⟨o0, o1, o2, o3, o4, o5⟩, _⟩ := E6.out.1.op
    obtain ⟨⟨p0, p1, p2, p3⟩, _⟩ := E6.out.1.got
    obtain ⟨⟨y0, y1, y2, y3⟩, _⟩ := E6.out.2
    go_wp2_with fail
    refine (implSamePairs_any _ _ 0 0 R.length m (rowL R) V true _ E6.out.1.row E6.out.1.view (by have := HR.out; omega) (by omega) ⟨fun _ => HSAME.out, fun _ => rfl⟩).mono ?_
    rintro e w7 ⟨rfl, j7, rfl⟩
    have E7 := hidA (And.intro (E6.out.1.later (below_drewN (Below.refl _ _) j7)) (E6.out.2.later (below_drewN (Below.refl _ _) j7)))
    clear E6 y0 y1 y2 y3
    clear o0 o1 o2 o3 o4 o5 p0 p1 p2 p3
    generalize w6.drewN j7 = w7 at E7 ⊢
    obtain ⟨⟨o0, o1, o2, o3, o4, o5⟩, _⟩ := E7.out.1.op
    obtain ⟨⟨p0, p1, p2, p3⟩, _⟩ := E7.out.1.got
    obtain ⟨⟨y0, y1, y2, y3⟩, _⟩ := E7.out.2
    go_wp2_with fail
    refine (implChild_is _ 0 R.length (rowL R) d n 0 z has _ E7.out.1.row (by have := HR.out; omega) HCH.out).mono ?_
    rintro e w8 ⟨rfl, q8⟩
    have E8 := hidA (And.intro ((E7.out.1.later q8).later (below_alloc w8 (.cells #[.int .i64 0, .bool has, .int .i64 z] 35))) (Blk3.new w8 (.int .i64 0) (.bool has) (.int .i64 z) 35))
    clear q8 E7 y0 y1 y2 y3
    clear o0 o1 o2 o3 o4 o5 p0 p1 p2 p3
    obtain ⟨⟨o0, o1, o2, o3, o4, o5⟩, _⟩ := E8.out.1.op
    obtain ⟨⟨p0, p1, p2, p3⟩, _⟩ := E8.out.1.got
    obtain ⟨⟨g0, g1, g2⟩, _⟩ := E8.out.2
    have BB := hidA E8.out.1.below
    clear E8
    go_wp2
    go_ret
    exact ⟨by simp, BB.out⟩
  · have HSAME : Hid (AlikeP 2 R.length (rowL R) m V) := by
      have := apply_same (L := listOf V m) (kd := 8) (d := d) (n := n) (td := td) (tn := tn) (vv := vv) (Or.inr (by omega))
      rw [HZ.out.2.2] at this
      simp only at this
      unfold Hid
      rw [this]
      exact (same_of V m).1 rfl
    have hok : ∃ z has, lookF R (kE d n) = (has, z) := ⟨_, _, rfl⟩
    obtain ⟨z, has, hok⟩ := hok
    have HCH := hidA (ch_of HG.out HB.out.2.1 HB.out.2.2.1 hok)
    clear hok
    go_wp2_with fail
    refine (implFs_is _ 0 R.length (rowL R) _ E5.out.1.row (by have := HR.out; omega)).mono ?_
    rintro e w6 ⟨rfl, q6⟩
    rw [HFR.out]
    have E6 := hidA (And.intro (E5.out.1.later q6) (E5.out.2.later q6))
    clear q6 E5 y0 y1 y2 y3
    clear o0 o1 o2 o3 o4 o5 p0 p1 p2 p3
    obtain ⟨⟨o0, o1, o2, o3, o4, o5⟩, _⟩ := E6.out.1.op
    obtain ⟨⟨p0, p1, p2, p3⟩, _⟩ := E6.out.1.got
    obtain ⟨⟨y0, y1, y2, y3⟩, _⟩ := E6.out.2
    go_wp2_with fail
    refine (implSamePairs_any _ _ 0 0 R.length m (rowL R) V true _ E6.out.1.row E6.out.1.view (by have := HR.out; omega) (by omega) ⟨fun _ => HSAME.out, fun _ => rfl⟩).mono ?_
    rintro e w7 ⟨rfl, j7, rfl⟩
    have E7 := hidA (And.intro (E6.out.1.later (below_drewN (Below.refl _ _) j7)) (E6.out.2.later (below_drewN (Below.refl _ _) j7)))
    clear E6 y0 y1 y2 y3
    clear o0 o1 o2 o3 o4 o5 p0 p1 p2 p3
    generalize w6.drewN j7 = w7 at E7 ⊢
    obtain ⟨⟨o0, o1, o2, o3, o4, o5⟩, _⟩ := E7.out.1.op
    obtain ⟨⟨p0, p1, p2, p3⟩, _⟩ := E7.out.1.got
    obtain ⟨⟨y0, y1, y2, y3⟩, _⟩ := E7.out.2
    go_wp2_with fail
    refine (implChild_is _ 0 R.length (rowL R) d n 0 z has _ E7.out.1.row (by have := HR.out; omega) HCH.out).mono ?_
    rintro e w8 ⟨rfl, q8⟩
    have E8 := hidA (And.intro ((E7.out.1.later q8).later (below_alloc w8 (.cells #[.int .i64 0, .bool has, .int .i64 z] 35))) (Blk3.new w8 (.int .i64 0) (.bool has) (.int .i64 z) 35))
    clear q8 E7 y0 y1 y2 y3
    clear o0 o1 o2 o3 o4 o5 p0 p1 p2 p3
    obtain ⟨⟨o0, o1, o2, o3, o4, o5⟩, _⟩ := E8.out.1.op
    obtain ⟨⟨p0, p1, p2, p3⟩, _⟩ := E8.out.1.got
    obtain ⟨⟨g0, g1, g2⟩, _⟩ := E8.out.2
    have BB := hidA E8.out.1.below
    clear E8
    go_wp2
    go_ret
    exact ⟨by simp, BB.out⟩
end Go.Proofs.YtnchaccgenfhoaaGreat

