/-
  Own text. The walk of the law FnExactStoreFor, over what the model and the program answer: a code and a new store.
-/
import Derived.Test.YtkaeolbnafhjaaaGreatLawG
namespace Go.Proofs.YtkaeolbnafhjaaaGreat
open Go.RowKit

set_option maxRecDepth 100000 in
set_option maxHeartbeats 8000000 in
theorem exactStoreFor_walk (nr : Nat) (F : Nat → Int) (n : Nat) (S : Nat → Sto) (V : Nat → Nat → Value) (vr vs : Value) (key : Int) (w : World) (h : Grs w 0 nr F n S V vr vs) (hr : nr ≤ 9223372036854775807) (hn : n ≤ 9223372036854775807) (hs : ∀ i, i < n → BigS (S i))
    (ans : nr ≤ 1048576 → n ≤ 1048576 → (∀ i, i < n → SmallS (S i)) → ∃ c R, SmallS R ∧
      (∀ U ur us x, Grs x 0 nr F n S U ur us → Calls Tryz.prog 18 #[.agg #[ur, us], .int .i64 key] x (ResSto x c R)) ∧
      (∀ U ur us x, Grs x 0 nr F n S U ur us → Calls Tryz.prog 20 #[.agg #[ur, us], .int .i64 key] x (ResSto x c R))) :
    Calls Tryz.prog 4 #[.agg #[vr, vs], .int .i64 key] w fun e w' => e = .returned (.bool true) ∧ Below w.heap.size w w' := by
  obtain ⟨a0, c0, a1, c1, rfl, rfl⟩ := h.form
  have H : Hid (CallG w nr F n S V 0 (.slice a0 nr c0) (.slice a1 n c1) (w.alloc (.cells #[.slice a0 nr c0, .slice a1 n c1] 49))) := CallG.new h _
  have HG0 : Hid (Grs w 0 nr F n S V (.slice a0 nr c0) (.slice a1 n c1)) := h
  have HN : Hid (∀ i, i < n → BigS (S i)) := hs
  have HANS : Hid (nr ≤ 1048576 → n ≤ 1048576 → (∀ i, i < n → SmallS (S i)) → ∃ c R, SmallS R ∧
      (∀ U ur us x, Grs x 0 nr F n S U ur us → Calls Tryz.prog 18 #[.agg #[ur, us], .int .i64 key] x (ResSto x c R)) ∧
      (∀ U ur us x, Grs x 0 nr F n S U ur us → Calls Tryz.prog 20 #[.agg #[ur, us], .int .i64 key] x (ResSto x c R))) := ans
  clear h hs ans
  obtain ⟨⟨f0, f1⟩, _⟩ := H.out.1
  go_enter Tryz.func4, Tryz.ntmps4
  go_wp2_with fail
  refine (szGroups_any nr F n S V _ _ 0 _ H.out.2.1 hr hn HN.out).mono ?_
  rintro e w1 ⟨rr, rfl, hA, q1⟩
  have H1 : Hid (CallG w nr F n S V 0 (.slice a0 nr c0) (.slice a1 n c1) w1) := H.out.later q1
  clear q1 H f0 f1
  rcases hA with rfl | ⟨h1, h2, h3, h4⟩
  · clear HANS
    go_wp2
    go_ret
    exact ⟨rfl, H1.out.2.2⟩
  have HB : Hid ((nr ≤ 1048576 ∧ n ≤ 1048576 ∧ ∀ i, i < n → SmallS (S i)) ∧ sumN (sizeT S) n ≤ 1048576) := ⟨⟨h2, h3.1, h4⟩, h3.2⟩
  obtain ⟨c, R, hR, hspec, himpl⟩ := HANS.out HB.out.1.1 HB.out.1.2.1 HB.out.1.2.2
  have HR : Hid (SmallS R) := hR
  have HS : Hid (∀ U ur us x, Grs x 0 nr F n S U ur us → Calls Tryz.prog 18 #[.agg #[ur, us], .int .i64 key] x (ResSto x c R)) := hspec
  have HI : Hid (∀ U ur us x, Grs x 0 nr F n S U ur us → Calls Tryz.prog 20 #[.agg #[ur, us], .int .i64 key] x (ResSto x c R)) := himpl
  have dr0 : decide (rr < 0) = false := decide_eq_false (by omega)
  have dr : decide ((1 : Int) + R.nc * 3 + R.nl * 5 + R.nw * 4 < 0) = false := decide_eq_false (by omega)
  clear h1 h2 h3 h4 hr hn HN HANS hspec himpl hR
  obtain ⟨⟨f0, f1⟩, _⟩ := H1.out.1
  go_wp2_with fail
  refine (toGroups_any nr F n S V _ _ 0 _ H1.out.2.1 HB.out.1.1 HB.out.1.2.1 HB.out.1.2.2).mono ?_
  rintro e w3 ⟨ya, yc, gy, UY, zy, rfl, hF, q3⟩
  have H3 : Hid (CallG w nr F n S V 0 (.slice a0 nr c0) (.slice a1 n c1) w3) := H1.out.later q3
  have G3 : Hid (Grs w3 0 nr F n S UY (.slice ya nr yc) (.slice (some ⟨gy, 0, none⟩) n n)) := hF.grs.mono (Nat.zero_le _)
  clear q3 hF H1 f0 f1
  go_wp2_with fail
  refine (HS.out UY _ _ _ G3.out).mono ?_
  rintro e w5 ⟨m0, p0, m1, p1, m2, p2, rfl, ⟨rw5, _, _⟩, q5⟩
  have H5 : Hid (CallG w nr F n S V 0 (.slice a0 nr c0) (.slice a1 n c1) (w5.alloc (.cells #[.int .i64 c, .slice m0 R.nc p0, .slice m1 R.nl p1, .slice m2 R.nw p2] 52))) := (H3.out.later q5).later (below_alloc _ _)
  have K5 : Hid (Blk4 (w5.alloc (.cells #[.int .i64 c, .slice m0 R.nc p0, .slice m1 R.nl p1, .slice m2 R.nw p2] 52)) w5.heap.size (.int .i64 c) (.slice m0 R.nc p0) (.slice m1 R.nl p1) (.slice m2 R.nw p2)) := Blk4.new w5 _ _ _ _ _
  have RW : Hid (St (w5.alloc (.cells #[.int .i64 c, .slice m0 R.nc p0, .slice m1 R.nl p1, .slice m2 R.nw p2] 52)) w.heap.size R (.slice m0 R.nc p0) (.slice m1 R.nl p1) (.slice m2 R.nw p2) ∧ OwnIn R (.slice m0 R.nc p0) (.slice m1 R.nl p1) (.slice m2 R.nw p2) (fun k => k < w5.heap.size)) := ⟨(rw5.mono H3.out.2.2.size).alloc _, rw5.ownIn.mono (fun k hk => hk.2)⟩
  have z5 : Hid (w.heap.size < w5.heap.size) := (H3.out.later q5).1.lt
  clear q5 rw5 HS H3 G3
  obtain ⟨⟨f0, f1⟩, _⟩ := H5.out.1
  go_wp2_with fail
  refine (toGroups_any nr F n S V _ _ 0 _ H5.out.2.1 HB.out.1.1 HB.out.1.2.1 HB.out.1.2.2).mono ?_
  rintro e w6 ⟨xa, xc, gx, UX, zx, rfl, hF, q6⟩
  rw [World.size_alloc] at hF
  have X6 : Hid (FineG (w6.alloc (.cells #[.slice xa nr xc, .slice (some ⟨gx, 0, none⟩) n n] 31)) (w5.heap.size + 1) nr F n S xa xc gx UX zx) := hF.later (below_alloc _ _)
  have zz6 : Hid (w5.heap.size + 1 ≤ w6.heap.size ∧ zx n ≤ w6.heap.size) := ⟨by have := q6.size; simp at this; omega, hF.2.2.2.2.2.2⟩
  have H6 : Hid (CallG w nr F n S V 0 (.slice a0 nr c0) (.slice a1 n c1) (w6.alloc (.cells #[.slice xa nr xc, .slice (some ⟨gx, 0, none⟩) n n] 31))) := (H5.out.later q6).later (below_alloc _ _)
  have K6 : Hid (Blk4 (w6.alloc (.cells #[.slice xa nr xc, .slice (some ⟨gx, 0, none⟩) n n] 31)) w5.heap.size (.int .i64 c) (.slice m0 R.nc p0) (.slice m1 R.nl p1) (.slice m2 R.nw p2) ∧ Blk2 (w6.alloc (.cells #[.slice xa nr xc, .slice (some ⟨gx, 0, none⟩) n n] 31)) w6.heap.size (.slice xa nr xc) (.slice (some ⟨gx, 0, none⟩) n n)) := ⟨(K5.out.later q6).later (below_alloc _ _), Blk2.new _ _ _ _⟩
  have R6 : Hid (St (w6.alloc (.cells #[.slice xa nr xc, .slice (some ⟨gx, 0, none⟩) n n] 31)) w.heap.size R (.slice m0 R.nc p0) (.slice m1 R.nl p1) (.slice m2 R.nw p2)) := (RW.out.1.later q6).alloc _
  have LW : Hid (OwnIn R (.slice m0 R.nc p0) (.slice m1 R.nl p1) (.slice m2 R.nw p2) (fun k => k < w5.heap.size)) := RW.out.2
  have S6 : Hid (Grs (w6.alloc (.cells #[.slice xa nr xc, .slice (some ⟨gx, 0, none⟩) n n] 31)) 0 nr F n S UX (.slice xa nr xc) (.slice (some ⟨gx, 0, none⟩) n n)) := X6.out.grs.mono (Nat.zero_le _)
  clear q6 hF H5 K5 RW f0 f1
  go_wp2_with fail
  refine (HI.out UX _ _ _ S6.out).mono ?_
  rintro e w8 ⟨g0, q0, g1, q1, g2, q2, rfl, ⟨rg8, fg8, ag8⟩, q8⟩
  have zz8 : Hid (w6.heap.size + 1 ≤ w8.heap.size) := by have := q8.size; simp at this; unfold Hid; omega
  have Q9 : Hid (LawG w (.slice a0 nr c0) (.slice a1 n c1) w5.heap.size c (.slice m0 R.nc p0) (.slice m1 R.nl p1) (.slice m2 R.nw p2) w6.heap.size (.slice xa nr xc) (.slice (some ⟨gx, 0, none⟩) n n) w8.heap.size (.slice g0 R.nc q0) (.slice g1 R.nl q1) (.slice g2 R.nw q2) (w8.alloc (.cells #[.int .i64 c, .slice g0 R.nc q0, .slice g1 R.nl q1, .slice g2 R.nw q2] 52))) := ⟨((H6.out.later q8).later (below_alloc _ _)).2.2, ((H6.out.later q8).later (below_alloc _ _)).1, (K6.out.1.later q8).later (below_alloc _ _), (K6.out.2.later q8).later (below_alloc _ _), Blk4.new w8 _ _ _ _ _⟩
  have R9 : Hid (St (w8.alloc (.cells #[.int .i64 c, .slice g0 R.nc q0, .slice g1 R.nl q1, .slice g2 R.nw q2] 52)) w.heap.size R (.slice m0 R.nc p0) (.slice m1 R.nl p1) (.slice m2 R.nw p2)) := (R6.out.later q8).alloc _
  rw [World.size_alloc] at rg8
  have G9 : Hid ((St (w8.alloc (.cells #[.int .i64 c, .slice g0 R.nc q0, .slice g1 R.nl q1, .slice g2 R.nw q2] 52)) (w6.heap.size + 1) R (.slice g0 R.nc q0) (.slice g1 R.nl q1) (.slice g2 R.nw q2) ∧ FreeS (w8.alloc (.cells #[.int .i64 c, .slice g0 R.nc q0, .slice g1 R.nl q1, .slice g2 R.nw q2] 52)) R (.slice g0 R.nc q0) (.slice g1 R.nl q1) (.slice g2 R.nw q2)) ∧ ApartD R (.slice g0 R.nc q0) (.slice g1 R.nl q1) (.slice g2 R.nw q2)) := ⟨⟨rg8.alloc _, fg8.later rg8 (below_alloc _ _)⟩, ag8⟩
  have LG : Hid (OwnIn R (.slice g0 R.nc q0) (.slice g1 R.nl q1) (.slice g2 R.nw q2) (fun k => w6.heap.size + 1 ≤ k ∧ k < w8.heap.size)) := rg8.ownIn
  have S9 : Hid (FineG (w8.alloc (.cells #[.int .i64 c, .slice g0 R.nc q0, .slice g1 R.nl q1, .slice g2 R.nw q2] 52)) (w5.heap.size + 1) nr F n S xa xc gx UX zx) := (X6.out.later q8).later (below_alloc _ _)
  obtain ⟨⟨t0, t1, t2, t3⟩, _⟩ := K6.out.1.later q8
  have z8 := World.block_lt_of_cell? w8 _ t0
  clear q8 X6 H6 K6 R6 S6 rg8 fg8 ag8
  go_wp2_with fail
  refine (eqStoreResult_same c R _ _ _ _ _ _ _ _ _ G9.out.1.1 R9.out HR.out.1 HR.out.2.1 HR.out.2.2).mono ?_
  rintro e w9 ⟨rfl, q9⟩
  have Q : Hid (LawG w (.slice a0 nr c0) (.slice a1 n c1) w5.heap.size c (.slice m0 R.nc p0) (.slice m1 R.nl p1) (.slice m2 R.nw p2) w6.heap.size (.slice xa nr xc) (.slice (some ⟨gx, 0, none⟩) n n) w8.heap.size (.slice g0 R.nc q0) (.slice g1 R.nl q1) (.slice g2 R.nw q2) w9) := Q9.out.later q9
  have RR : Hid (St w9 w.heap.size R (.slice m0 R.nc p0) (.slice m1 R.nl p1) (.slice m2 R.nw p2)) := R9.out.later q9
  have GK : Hid ((St w9 (w6.heap.size + 1) R (.slice g0 R.nc q0) (.slice g1 R.nl q1) (.slice g2 R.nw q2) ∧ FreeS w9 R (.slice g0 R.nc q0) (.slice g1 R.nl q1) (.slice g2 R.nw q2)) ∧ ApartD R (.slice g0 R.nc q0) (.slice g1 R.nl q1) (.slice g2 R.nw q2)) := ⟨⟨G9.out.1.1.later q9, G9.out.1.2.later G9.out.1.1 q9⟩, G9.out.2⟩
  have SS : Hid (FineG w9 (w5.heap.size + 1) nr F n S xa xc gx UX zx) := S9.out.later q9
  clear q9 Q9 R9 G9 S9 t0 t1 t2 t3 z8
  go_wp2_with fail
  refine wp_region_held_drew (S := LawG w (.slice a0 nr c0) (.slice a1 n c1) w5.heap.size c (.slice m0 R.nc p0) (.slice m1 R.nl p1) (.slice m2 R.nw p2) w6.heap.size (.slice xa nr xc) (.slice (some ⟨gx, 0, none⟩) n n) w8.heap.size (.slice g0 R.nc q0) (.slice g1 R.nl q1) (.slice g2 R.nw q2)) (by kernel_rfl) Q.out.drew (fun hS => ?_)
  clear Q
  refine wpAnyH_take (i := 0) (v := ?_) rfl (by kernel_rfl) (by kernel_rfl) (by kernel_rfl) (fun _ _ _ h => h) (Or.inl ⟨by kernel_rfl, ?_⟩) hS ?_
  rotate_left
  · intro wx hx
    obtain ⟨_, ⟨⟨hx0, hx1⟩, _⟩, _, ⟨⟨hx2, hx3⟩, _⟩, _⟩ := hx
    go_simp
    try with_reducible rfl
  refine wpAnyH_take (i := 1) (v := ?_) rfl (by kernel_rfl) (by kernel_rfl) (by kernel_rfl) (fun _ _ _ h => h) (Or.inl ⟨by kernel_rfl, ?_⟩) hS ?_
  rotate_left
  · intro wx hx
    obtain ⟨_, ⟨⟨hx0, hx1⟩, _⟩, _, ⟨⟨hx2, hx3⟩, _⟩, _⟩ := hx
    go_simp
    try with_reducible rfl
  refine wpAnyH_ready (rs := [2]) (by kernel_rfl) (by simp) ?_
  refine AllReadyH.cons rfl (fun K hK => ?_) AllReadyH.nil
  go_simp
  go_wp2_with fail
  refine (toGroups_any nr F n S V _ _ 0 _ (HG0.out.later hS.1) HB.out.1.1 HB.out.1.2.1 HB.out.1.2.2).mono ?_
  rintro e w11 ⟨na, nb, gn, UN, zn, rfl, hF, q11⟩
  have q11' : Below w9.heap.size w9 w11 := ⟨q11.os, q11.tape, q11.output, q11.size, q11.block⟩
  have N11 : Hid (Grs w11 0 nr F n S UN (.slice na nr nb) (.slice (some ⟨gn, 0, none⟩) n n)) := hF.grs.mono (Nat.zero_le _)
  have SS : Hid (FineG w11 (w5.heap.size + 1) nr F n S xa xc gx UX zx) := SS.out.later q11'
  have RR : Hid (St w11 w.heap.size R (.slice m0 R.nc p0) (.slice m1 R.nl p1) (.slice m2 R.nw p2)) := RR.out.later q11'
  have GK : Hid ((St w11 (w6.heap.size + 1) R (.slice g0 R.nc q0) (.slice g1 R.nl q1) (.slice g2 R.nw q2) ∧ FreeS w11 R (.slice g0 R.nc q0) (.slice g1 R.nl q1) (.slice g2 R.nw q2)) ∧ ApartD R (.slice g0 R.nc q0) (.slice g1 R.nl q1) (.slice g2 R.nw q2)) := ⟨⟨GK.out.1.1.later q11', GK.out.1.2.later GK.out.1.1 q11'⟩, GK.out.2⟩
  have hS' := hS.later q11
  clear hF q11 q11'
  go_wp2_with fail
  refine hK.out _ _ hS' (fun hS => ?_)
  clear hK K hS'
  refine wpAnyH_ready (rs := [3]) (by kernel_rfl) (by simp) ?_
  refine AllReadyH.cons rfl (fun K hK => ?_) AllReadyH.nil
  go_simp
  go_wp2_with fail
  refine (eqGroups_same nr F n S UX UN _ _ _ _ 0 0 _ (SS.out.grs.mono (Nat.zero_le _)) N11.out HB.out.1.1 HB.out.1.2.1 HB.out.1.2.2).mono ?_
  rintro e w12 ⟨rfl, q12⟩
  have SS : Hid (FineG w12 (w5.heap.size + 1) nr F n S xa xc gx UX zx) := SS.out.later q12
  have RR : Hid (St w12 w.heap.size R (.slice m0 R.nc p0) (.slice m1 R.nl p1) (.slice m2 R.nw p2)) := RR.out.later q12
  have GK : Hid ((St w12 (w6.heap.size + 1) R (.slice g0 R.nc q0) (.slice g1 R.nl q1) (.slice g2 R.nw q2) ∧ FreeS w12 R (.slice g0 R.nc q0) (.slice g1 R.nl q1) (.slice g2 R.nw q2)) ∧ ApartD R (.slice g0 R.nc q0) (.slice g1 R.nl q1) (.slice g2 R.nw q2)) := ⟨⟨GK.out.1.1.later q12, GK.out.1.2.later GK.out.1.1 q12⟩, GK.out.2⟩
  have hS' := hS.later q12
  clear q12 N11
  go_wp2_with fail
  refine hK.out _ _ hS' (fun hS => ?_)
  clear hK K hS'
  refine wpAnyH_take (i := 4) (v := ?_) rfl (by kernel_rfl) (by kernel_rfl) (by kernel_rfl) (fun _ _ _ h => h) (Or.inl ⟨by kernel_rfl, ?_⟩) hS ?_
  rotate_left
  · intro wx hx
    obtain ⟨_, ⟨⟨hx0, hx1⟩, _⟩, _, ⟨⟨hx2, hx3⟩, _⟩, _⟩ := hx
    go_simp
    try with_reducible rfl
  refine wpAnyH_done (by kernel_rfl) ?_ _
  have Q : Hid (LawG w (.slice a0 nr c0) (.slice a1 n c1) w5.heap.size c (.slice m0 R.nc p0) (.slice m1 R.nl p1) (.slice m2 R.nw p2) w6.heap.size (.slice xa nr xc) (.slice (some ⟨gx, 0, none⟩) n n) w8.heap.size (.slice g0 R.nc q0) (.slice g1 R.nl q1) (.slice g2 R.nw q2) w12) := hS
  obtain ⟨_, _, _, ⟨⟨f0, f1⟩, _⟩, _⟩ := hS
  go_simp
  go_wp2_with fail
  refine (markGroups_any nr F n S xa xc gx UX zx (w5.heap.size + 1) _ SS.out HB.out.1.1 HB.out.1.2.1 HB.out.1.2.2 HB.out.2).mono ?_
  rintro e w13 ⟨kk, hkk, rfl, W13⟩
  have dkk : decide (kk < 0) = false := decide_eq_false (by omega)
  have Q13 : Hid (LawG w (.slice a0 nr c0) (.slice a1 n c1) w5.heap.size c (.slice m0 R.nc p0) (.slice m1 R.nl p1) (.slice m2 R.nw p2) w6.heap.size (.slice xa nr xc) (.slice (some ⟨gx, 0, none⟩) n n) w8.heap.size (.slice g0 R.nc q0) (.slice g1 R.nl q1) (.slice g2 R.nw q2) w13) := Q.out.within W13 (by have := z5.out; omega) (Or.inl (by omega)) (Or.inr zz6.out.2) (Or.inr (by have := zz8.out; have := zz6.out; omega))
  have R13 : Hid (St w13 w.heap.size R (.slice m0 R.nc p0) (.slice m1 R.nl p1) (.slice m2 R.nw p2)) := RR.out.within W13 (LW.out.mono (fun k hk => Or.inl (by omega)))
  have oG : OwnIn R (.slice g0 R.nc q0) (.slice g1 R.nl q1) (.slice g2 R.nw q2) (fun k => k < w5.heap.size + 1 ∨ zx n ≤ k) := LG.out.mono (fun k hk => Or.inr (by have := zz6.out; omega))
  have G13 : Hid ((St w13 (w6.heap.size + 1) R (.slice g0 R.nc q0) (.slice g1 R.nl q1) (.slice g2 R.nw q2) ∧ FreeS w13 R (.slice g0 R.nc q0) (.slice g1 R.nl q1) (.slice g2 R.nw q2)) ∧ ApartD R (.slice g0 R.nc q0) (.slice g1 R.nl q1) (.slice g2 R.nw q2)) := ⟨⟨GK.out.1.1.within W13 oG, GK.out.1.2.within GK.out.1.1 W13 oG⟩, GK.out.2⟩
  clear W13 Q RR GK SS f0 f1 oG hkk
  obtain ⟨_, _, ⟨⟨t0, t1, t2, t3⟩, _⟩, _, ⟨⟨y0, y1, y2, y3⟩, _⟩⟩ := Q13.out
  go_wp2_with fail
  refine (eqStoreResult_same c R _ _ _ _ _ _ _ _ _ G13.out.1.1 R13.out HR.out.1 HR.out.2.1 HR.out.2.2).mono ?_
  rintro e w14 ⟨rfl, q14⟩
  have Q : Hid (LawG w (.slice a0 nr c0) (.slice a1 n c1) w5.heap.size c (.slice m0 R.nc p0) (.slice m1 R.nl p1) (.slice m2 R.nw p2) w6.heap.size (.slice xa nr xc) (.slice (some ⟨gx, 0, none⟩) n n) w8.heap.size (.slice g0 R.nc q0) (.slice g1 R.nl q1) (.slice g2 R.nw q2) w14) := Q13.out.later q14
  have RR : Hid (St w14 w.heap.size R (.slice m0 R.nc p0) (.slice m1 R.nl p1) (.slice m2 R.nw p2)) := R13.out.later q14
  have GK : Hid ((St w14 (w6.heap.size + 1) R (.slice g0 R.nc q0) (.slice g1 R.nl q1) (.slice g2 R.nw q2) ∧ FreeS w14 R (.slice g0 R.nc q0) (.slice g1 R.nl q1) (.slice g2 R.nw q2)) ∧ ApartD R (.slice g0 R.nc q0) (.slice g1 R.nl q1) (.slice g2 R.nw q2)) := ⟨⟨G13.out.1.1.later q14, G13.out.1.2.later G13.out.1.1 q14⟩, G13.out.2⟩
  clear q14 Q13 R13 G13 t0 t1 t2 t3 y0 y1 y2 y3
  obtain ⟨_, _, _, _, ⟨⟨y0, y1, y2, y3⟩, _⟩⟩ := Q.out
  go_wp2_with fail
  refine (markStoreResult_any c R _ _ _ (w6.heap.size + 1) w8.heap.size _ GK.out.1.1 GK.out.1.2 GK.out.2 (LG.out.mono (fun k hk => hk.2)) (by have h1 := Q.out.2.2.2.2.lt; omega) HR.out.1 HR.out.2.1 HR.out.2.2).mono ?_
  rintro e w15 ⟨rfl, m15, W15⟩
  have Q15 : Hid (LawG w (.slice a0 nr c0) (.slice a1 n c1) w5.heap.size c (.slice m0 R.nc p0) (.slice m1 R.nl p1) (.slice m2 R.nw p2) w6.heap.size (.slice xa nr xc) (.slice (some ⟨gx, 0, none⟩) n n) w8.heap.size (.slice g0 R.nc q0) (.slice g1 R.nl q1) (.slice g2 R.nw q2) w15) := Q.out.within W15 (by have := z5.out; have := zz6.out; omega) (Or.inl (by have := zz6.out; omega)) (Or.inl (by omega)) (Or.inr (Nat.le_refl _))
  have R15 : Hid (St w15 w.heap.size R (.slice m0 R.nc p0) (.slice m1 R.nl p1) (.slice m2 R.nw p2)) := RR.out.within W15 (LW.out.mono (fun k hk => Or.inl (by have := zz6.out; omega)))
  have M15 : Hid (St w15 (w6.heap.size + 1) (markS R) (.slice g0 R.nc q0) (.slice g1 R.nl q1) (.slice g2 R.nw q2)) := m15
  clear m15 W15 Q RR GK y0 y1 y2 y3
  obtain ⟨_, _, _, _, ⟨⟨y0, y1, y2, y3⟩, _⟩⟩ := Q15.out
  go_wp2_with fail
  refine (heldStoreResult_any c R _ _ _ _ _ M15.out HR.out.1 HR.out.2.1 HR.out.2.2).mono ?_
  rintro e w16 ⟨rfl, q16⟩
  have Q16 : Hid (LawG w (.slice a0 nr c0) (.slice a1 n c1) w5.heap.size c (.slice m0 R.nc p0) (.slice m1 R.nl p1) (.slice m2 R.nw p2) w6.heap.size (.slice xa nr xc) (.slice (some ⟨gx, 0, none⟩) n n) w8.heap.size (.slice g0 R.nc q0) (.slice g1 R.nl q1) (.slice g2 R.nw q2) w16) := Q15.out.later q16
  have R16 : Hid (St w16 w.heap.size R (.slice m0 R.nc p0) (.slice m1 R.nl p1) (.slice m2 R.nw p2)) := R15.out.later q16
  have M16 : Hid (St w16 (w6.heap.size + 1) (markS R) (.slice g0 R.nc q0) (.slice g1 R.nl q1) (.slice g2 R.nw q2)) := M15.out.later q16
  clear q16 Q15 R15 M15 y0 y1 y2 y3
  obtain ⟨_, ⟨⟨f0, f1⟩, _⟩, _⟩ := Q16.out
  go_wp2_with fail
  refine (toGroups_any nr F n S V _ _ 0 _ (HG0.out.later Q16.out.1) HB.out.1.1 HB.out.1.2.1 HB.out.1.2.2).mono ?_
  rintro e w17 ⟨ka, kb, gk, UK, zk, rfl, hF, q17⟩
  have S17 : Hid (Grs w17 0 nr F n S UK (.slice ka nr kb) (.slice (some ⟨gk, 0, none⟩) n n)) := hF.grs.mono (Nat.zero_le _)
  have Q17 : Hid (LawG w (.slice a0 nr c0) (.slice a1 n c1) w5.heap.size c (.slice m0 R.nc p0) (.slice m1 R.nl p1) (.slice m2 R.nw p2) w6.heap.size (.slice xa nr xc) (.slice (some ⟨gx, 0, none⟩) n n) w8.heap.size (.slice g0 R.nc q0) (.slice g1 R.nl q1) (.slice g2 R.nw q2) w17) := Q16.out.later q17
  have R17 : Hid (St w17 w.heap.size R (.slice m0 R.nc p0) (.slice m1 R.nl p1) (.slice m2 R.nw p2)) := R16.out.later q17
  have M17 : Hid (St w17 (w6.heap.size + 1) (markS R) (.slice g0 R.nc q0) (.slice g1 R.nl q1) (.slice g2 R.nw q2)) := M16.out.later q17
  clear hF q17 Q16 R16 M16 f0 f1
  go_wp2_with fail
  refine (HI.out UK _ _ _ S17.out).mono ?_
  rintro e w18 ⟨h0, r0, h1, r1, h2, r2, rfl, ⟨rh, _, _⟩, q18⟩
  have Q18 : Hid (LawG w (.slice a0 nr c0) (.slice a1 n c1) w5.heap.size c (.slice m0 R.nc p0) (.slice m1 R.nl p1) (.slice m2 R.nw p2) w6.heap.size (.slice xa nr xc) (.slice (some ⟨gx, 0, none⟩) n n) w8.heap.size (.slice g0 R.nc q0) (.slice g1 R.nl q1) (.slice g2 R.nw q2) w18) := Q17.out.later q18
  have Q19 : Hid (LawG w (.slice a0 nr c0) (.slice a1 n c1) w5.heap.size c (.slice m0 R.nc p0) (.slice m1 R.nl p1) (.slice m2 R.nw p2) w6.heap.size (.slice xa nr xc) (.slice (some ⟨gx, 0, none⟩) n n) w8.heap.size (.slice g0 R.nc q0) (.slice g1 R.nl q1) (.slice g2 R.nw q2) (w18.alloc (.cells #[.int .i64 c, .slice h0 R.nc r0, .slice h1 R.nl r1, .slice h2 R.nw r2] 52))) := Q18.out.later (below_alloc _ _)
  have R19 : Hid (St (w18.alloc (.cells #[.int .i64 c, .slice h0 R.nc r0, .slice h1 R.nl r1, .slice h2 R.nw r2] 52)) w.heap.size R (.slice m0 R.nc p0) (.slice m1 R.nl p1) (.slice m2 R.nw p2)) := (R17.out.later q18).alloc _
  have H19 : Hid (St (w18.alloc (.cells #[.int .i64 c, .slice h0 R.nc r0, .slice h1 R.nl r1, .slice h2 R.nw r2] 52)) 0 R (.slice h0 R.nc r0) (.slice h1 R.nl r1) (.slice h2 R.nw r2)) := (rh.mono (Nat.zero_le _)).alloc _
  have M19 : Hid (St (w18.alloc (.cells #[.int .i64 c, .slice h0 R.nc r0, .slice h1 R.nl r1, .slice h2 R.nw r2] 52)) (w6.heap.size + 1) (markS R) (.slice g0 R.nc q0) (.slice g1 R.nl q1) (.slice g2 R.nw q2)) := (M17.out.later q18).alloc _
  obtain ⟨_, _, ⟨⟨t0, t1, t2, t3⟩, _⟩, _⟩ := Q18.out
  have z18 := World.block_lt_of_cell? w18 _ t0
  clear q18 rh Q17 R17 M17 S17 Q18
  go_wp2_with fail
  refine (eqStoreResult_same c R _ _ _ _ _ _ _ _ _ H19.out R19.out HR.out.1 HR.out.2.1 HR.out.2.2).mono ?_
  rintro e w20 ⟨rfl, q20⟩
  have Q20 : Hid (LawG w (.slice a0 nr c0) (.slice a1 n c1) w5.heap.size c (.slice m0 R.nc p0) (.slice m1 R.nl p1) (.slice m2 R.nw p2) w6.heap.size (.slice xa nr xc) (.slice (some ⟨gx, 0, none⟩) n n) w8.heap.size (.slice g0 R.nc q0) (.slice g1 R.nl q1) (.slice g2 R.nw q2) w20) := Q19.out.later q20
  have M20 : Hid (St w20 (w6.heap.size + 1) (markS R) (.slice g0 R.nc q0) (.slice g1 R.nl q1) (.slice g2 R.nw q2)) := M19.out.later q20
  clear q20 Q19 R19 H19 M19 t0 t1 t2 t3 z18
  obtain ⟨_, _, _, _, ⟨⟨y0, y1, y2, y3⟩, _⟩⟩ := Q20.out
  go_wp2_with fail
  refine (heldStoreResult_any c R _ _ _ _ _ M20.out HR.out.1 HR.out.2.1 HR.out.2.2).mono ?_
  rintro e w21 ⟨rfl, q21⟩
  have Q21 : Hid (LawG w (.slice a0 nr c0) (.slice a1 n c1) w5.heap.size c (.slice m0 R.nc p0) (.slice m1 R.nl p1) (.slice m2 R.nw p2) w6.heap.size (.slice xa nr xc) (.slice (some ⟨gx, 0, none⟩) n n) w8.heap.size (.slice g0 R.nc q0) (.slice g1 R.nl q1) (.slice g2 R.nw q2) w21) := Q20.out.later q21
  clear q21 Q20 M20 y0 y1 y2 y3
  go_wp2
  go_ret
  exact ⟨rfl, Q21.out.1⟩
end Go.Proofs.YtkaeolbnafhjaaaGreat
