/-
  Own text. The walk of the law FnExactNewGroups, over what the model and the program answer: a code and groups.
-/
import Derived.Test.YtkaeolbnafhjaaaGreatGrpO
import Derived.Test.YtkaeolbnafhjaaaGreatGrpR
namespace Go.Proofs.YtkaeolbnafhjaaaGreat
open Go.RowKit

set_option maxRecDepth 100000 in
set_option maxHeartbeats 8000000 in
theorem exactNewGroups_walk (S : Sto) (v0 v1 v2 : Value) (ep : Int) (w : World) (h : St w 0 S v0 v1 v2) (hc : S.nc ≤ 9223372036854775807) (hl : S.nl ≤ 9223372036854775807) (hk : S.nw ≤ 9223372036854775807)
    (ans : S.nc ≤ 1048576 → S.nl ≤ 1048576 → S.nw ≤ 1048576 → ∃ c nr F n T, SmallG nr n T ∧
      (∀ y0 y1 y2 x, St x 0 S y0 y1 y2 → Calls Tryz.prog 9 #[.agg #[y0, y1, y2], .int .i64 ep] x (ResGr x c nr F n T)) ∧
      (∀ y0 y1 y2 x, St x 0 S y0 y1 y2 → Calls Tryz.prog 11 #[.agg #[y0, y1, y2], .int .i64 ep] x (ResGr x c nr F n T))) :
    Calls Tryz.prog 3 #[.agg #[v0, v1, v2], .int .i64 ep] w fun e w' => e = .returned (.bool true) ∧ Below w.heap.size w w' := by
  obtain ⟨a0, c0, a1, c1, a2, c2, rfl, rfl, rfl⟩ := h.form
  have H : Hid (St w 0 S (.slice a0 S.nc c0) (.slice a1 S.nl c1) (.slice a2 S.nw c2)) := h
  clear h
  by_cases hs : (1048576 : Int) < (S.nc : Int) + S.nl + S.nw
  · clear ans
    go_enter Tryz.func3, Tryz.ntmps3
    go_wp2_with fail
    refine (szStore_no 1048576 _ _ _ _ _ _ _ _ _ _ hs (by omega) (by omega) hc hl hk).mono ?_
    rintro e w1 ⟨rfl, q1⟩
    have Q : Hid (Below w.heap.size w w1) := (below_alloc _ _).trans (q1.mono (by simp))
    clear q1
    go_wp2
    go_ret
    exact ⟨rfl, Q.out⟩
  have hs' : (S.nc : Int) + S.nl + S.nw ≤ 1048576 := by omega
  clear hs
  have Hb : Hid (S.nc ≤ 1048576 ∧ S.nl ≤ 1048576 ∧ S.nw ≤ 1048576) := ⟨by omega, by omega, by omega⟩
  obtain ⟨c, nr, F, n, T, hR, hspec, himpl⟩ := ans Hb.out.1 Hb.out.2.1 Hb.out.2.2
  have HR : Hid (SmallG nr n T) := hR
  have HS : Hid (∀ y0 y1 y2 x, St x 0 S y0 y1 y2 → Calls Tryz.prog 9 #[.agg #[y0, y1, y2], .int .i64 ep] x (ResGr x c nr F n T)) := hspec
  have HI : Hid (∀ y0 y1 y2 x, St x 0 S y0 y1 y2 → Calls Tryz.prog 11 #[.agg #[y0, y1, y2], .int .i64 ep] x (ResGr x c nr F n T)) := himpl
  have dr : decide ((1 : Int) + nr * 3 + (sumN (markT T) n : Nat) < 0) = false := decide_eq_false (by omega)
  clear ans hspec himpl hR
  go_enter Tryz.func3, Tryz.ntmps3
  go_wp2_with fail
  refine (szStore_ok 1048576 _ _ _ _ _ _ _ _ _ _ hs' (by omega) (by omega) hc hl hk).mono ?_
  rintro e w1 ⟨rfl, q1⟩
  have P1 : Hid (One w (.slice a0 S.nc c0) (.slice a1 S.nl c1) (.slice a2 S.nw c2) w1) := (One.new w _ _ _).later q1
  obtain ⟨_, ⟨f0, f1, f2⟩, _⟩ := P1.out
  have dz : decide ((1048576 : Int) - S.nc - S.nl - S.nw < 0) = false := decide_eq_false (by omega)
  have dk : decide ((1 : Int) + S.nc * 3 + S.nl * 5 + S.nw * 4 < 0) = false := decide_eq_false (by omega)
  clear q1 hc hl hk hs'
  go_wp2_with fail
  refine (toStore_any S _ _ _ 0 _ (H.out.later P1.out.1) Hb.out.1 Hb.out.2.1 Hb.out.2.2).mono ?_
  rintro e w3 ⟨x0, x1, x2, rfl, s3, _, q3⟩
  have S3 : Hid (St w3 0 S x0 x1 x2) := s3.mono (Nat.zero_le _)
  have P3 : Hid (One w (.slice a0 S.nc c0) (.slice a1 S.nl c1) (.slice a2 S.nw c2) w3) := P1.out.later q3
  clear s3 q3 P1 f0 f1 f2
  go_wp2_with fail
  refine (HS.out _ _ _ _ S3.out).mono ?_
  rintro e w5 ⟨m0, p0, m1, p1, UM, zM, rfl, rw5, q5⟩
  have P5 : Hid (One w (.slice a0 S.nc c0) (.slice a1 S.nl c1) (.slice a2 S.nw c2) (w5.alloc (.cells #[.int .i64 c, .slice m0 nr p0, .slice m1 n p1] 33)) ∧ Blk3 (w5.alloc (.cells #[.int .i64 c, .slice m0 nr p0, .slice m1 n p1] 33)) w5.heap.size (.int .i64 c) (.slice m0 nr p0) (.slice m1 n p1)) := ⟨(P3.out.later q5).later (below_alloc _ _), Blk3.new w5 _ _ _ _⟩
  have RW : Hid (FineR (w5.alloc (.cells #[.int .i64 c, .slice m0 nr p0, .slice m1 n p1] 33)) w.heap.size w5.heap.size nr F n T m0 p0 m1 UM zM ∧ (0 < n → ∀ g, m1 = some ⟨g, 0, none⟩ → g < w5.heap.size)) := ⟨(rw5.mono P3.out.1.size).later (below_alloc _ _), rw5.row⟩
  have P5' : Hid (One w (.slice a0 S.nc c0) (.slice a1 S.nl c1) (.slice a2 S.nw c2) w5) := P3.out.later q5
  obtain ⟨_, ⟨f0, f1, f2⟩, _⟩ := P5'.out
  have z5 := P5'.out.2.lt
  clear q5 S3 P3 dz P5' rw5 HS
  go_wp2_with fail
  refine (toStore_any S _ _ _ 0 _ (H.out.later P5.out.1.1) Hb.out.1 Hb.out.2.1 Hb.out.2.2).mono ?_
  rintro e w6 ⟨x0, x1, x2, rfl, s6, fa6, q6⟩
  obtain ⟨j0, k0, j1, k1, j2, k2, rfl, rfl, rfl⟩ := s6.form
  have zz6 : Hid (w5.heap.size + 1 ≤ w6.heap.size) := by have := q6.size; simp at this; unfold Hid; omega
  have S6 : Hid ((St w6 (w5.heap.size + 1) S (.slice j0 S.nc k0) (.slice j1 S.nl k1) (.slice j2 S.nw k2) ∧ FreeS w6 S (.slice j0 S.nc k0) (.slice j1 S.nl k1) (.slice j2 S.nw k2)) ∧ ApartS S (.slice j0 S.nc k0) (.slice j1 S.nl k1) (.slice j2 S.nw k2)) := ⟨⟨by rw [World.size_alloc] at s6; exact s6, fa6.1⟩, fa6.2⟩
  have E6 : Hid (OwnIn S (.slice j0 S.nc k0) (.slice j1 S.nl k1) (.slice j2 S.nw k2) (fun k => k < w6.heap.size)) := s6.ownIn.mono (fun k hk => hk.2)
  have P6 : Hid ((One w (.slice a0 S.nc c0) (.slice a1 S.nl c1) (.slice a2 S.nw c2) w6 ∧ Blk3 w6 w5.heap.size (.int .i64 c) (.slice m0 nr p0) (.slice m1 n p1)) ∧ FineR w6 w.heap.size w5.heap.size nr F n T m0 p0 m1 UM zM) := ⟨⟨P5.out.1.later q6, P5.out.2.later q6⟩, RW.out.1.later q6⟩
  have LW : Hid (0 < n → ∀ g, m1 = some ⟨g, 0, none⟩ → g < w5.heap.size) := RW.out.2
  have zw5 : Hid (w.heap.size < w5.heap.size) := z5
  clear s6 fa6 q6 P5 f0 f1 f2 z5 RW
  go_wp2_with fail
  refine (HI.out _ _ _ _ ((S6.out.1.1.mono (Nat.zero_le _)).alloc _)).mono ?_
  rintro e w8 ⟨g0, q0, g1, q1, UG, zG, rfl, rg8, q8⟩
  have q8' := (below_alloc w6 (.cells #[.slice j0 S.nc k0, .slice j1 S.nl k1, .slice j2 S.nw k2] 39)).trans (q8.mono (by simp))
  have zz8 : Hid (w6.heap.size + 1 ≤ w8.heap.size) := by have := q8.size; simp at this; unfold Hid; omega
  have Q9 : Hid (LawN w (.slice a0 S.nc c0) (.slice a1 S.nl c1) (.slice a2 S.nw c2) w5.heap.size c (.slice m0 nr p0) (.slice m1 n p1) w6.heap.size (.slice j0 S.nc k0) (.slice j1 S.nl k1) (.slice j2 S.nw k2) w8.heap.size (.slice g0 nr q0) (.slice g1 n q1) (w8.alloc (.cells #[.int .i64 c, .slice g0 nr q0, .slice g1 n q1] 33))) := ⟨(P6.out.1.1.later q8').later (below_alloc _ _), (P6.out.1.2.later q8').later (below_alloc _ _), ((Blk3.new w6 (.slice j0 S.nc k0) (.slice j1 S.nl k1) (.slice j2 S.nw k2) 39).later q8).later (below_alloc _ _), Blk3.new w8 _ _ _ _⟩
  have R9 : Hid (FineR (w8.alloc (.cells #[.int .i64 c, .slice g0 nr q0, .slice g1 n q1] 33)) w.heap.size w5.heap.size nr F n T m0 p0 m1 UM zM) := (P6.out.2.later q8').later (below_alloc _ _)
  rw [World.size_alloc] at rg8
  have G9 : Hid (FineR (w8.alloc (.cells #[.int .i64 c, .slice g0 nr q0, .slice g1 n q1] 33)) (w6.heap.size + 1) w8.heap.size nr F n T g0 q0 g1 UG zG) := rg8.later (below_alloc _ _)
  have S9 : Hid ((St (w8.alloc (.cells #[.int .i64 c, .slice g0 nr q0, .slice g1 n q1] 33)) (w5.heap.size + 1) S (.slice j0 S.nc k0) (.slice j1 S.nl k1) (.slice j2 S.nw k2) ∧ FreeS (w8.alloc (.cells #[.int .i64 c, .slice g0 nr q0, .slice g1 n q1] 33)) S (.slice j0 S.nc k0) (.slice j1 S.nl k1) (.slice j2 S.nw k2)) ∧ ApartS S (.slice j0 S.nc k0) (.slice j1 S.nl k1) (.slice j2 S.nw k2)) := ⟨⟨(S6.out.1.1.later q8').alloc _, (S6.out.1.2.later S6.out.1.1 q8').later (S6.out.1.1.later q8') (below_alloc _ _)⟩, S6.out.2⟩
  obtain ⟨⟨t0, t1, t2⟩, _⟩ := P6.out.1.2.later q8'
  have z8 := World.block_lt_of_cell? w8 _ t0
  clear q8 q8' S6 P6 rg8
  go_wp2_with fail
  refine (eqGroupsResult_same c nr F n T UG UM _ _ _ _ _ _ _ (G9.out.grs q1) (R9.out.grs p1) HR.out).mono ?_
  rintro e w9 ⟨rfl, q9⟩
  have Q : Hid (LawN w (.slice a0 S.nc c0) (.slice a1 S.nl c1) (.slice a2 S.nw c2) w5.heap.size c (.slice m0 nr p0) (.slice m1 n p1) w6.heap.size (.slice j0 S.nc k0) (.slice j1 S.nl k1) (.slice j2 S.nw k2) w8.heap.size (.slice g0 nr q0) (.slice g1 n q1) w9) := Q9.out.later q9
  have RR : Hid (FineR w9 w.heap.size w5.heap.size nr F n T m0 p0 m1 UM zM) := R9.out.later q9
  have GK : Hid (FineR w9 (w6.heap.size + 1) w8.heap.size nr F n T g0 q0 g1 UG zG) := G9.out.later q9
  have SS : Hid ((St w9 (w5.heap.size + 1) S (.slice j0 S.nc k0) (.slice j1 S.nl k1) (.slice j2 S.nw k2) ∧ FreeS w9 S (.slice j0 S.nc k0) (.slice j1 S.nl k1) (.slice j2 S.nw k2)) ∧ ApartS S (.slice j0 S.nc k0) (.slice j1 S.nl k1) (.slice j2 S.nw k2)) := ⟨⟨S9.out.1.1.later q9, S9.out.1.2.later S9.out.1.1 q9⟩, S9.out.2⟩
  clear q9 Q9 R9 G9 S9 t0 t1 t2 z8
  go_wp2_with fail
  refine wp_region_held_drew (S := LawN w (.slice a0 S.nc c0) (.slice a1 S.nl c1) (.slice a2 S.nw c2) w5.heap.size c (.slice m0 nr p0) (.slice m1 n p1) w6.heap.size (.slice j0 S.nc k0) (.slice j1 S.nl k1) (.slice j2 S.nw k2) w8.heap.size (.slice g0 nr q0) (.slice g1 n q1)) (by kernel_rfl) Q.out.drew (fun hS => ?_)
  clear Q
  refine wpAnyH_take (i := 0) (v := ?_) rfl (by kernel_rfl) (by kernel_rfl) (by kernel_rfl) (fun _ _ _ h => h) (Or.inl ⟨by kernel_rfl, ?_⟩) hS ?_
  rotate_left
  · intro wx hx
    obtain ⟨⟨_, ⟨hx0, hx1, hx2⟩, _⟩, _, ⟨⟨hx3, hx4, hx5⟩, _⟩, _⟩ := hx
    go_simp
    try with_reducible rfl
  refine wpAnyH_take (i := 1) (v := ?_) rfl (by kernel_rfl) (by kernel_rfl) (by kernel_rfl) (fun _ _ _ h => h) (Or.inl ⟨by kernel_rfl, ?_⟩) hS ?_
  rotate_left
  · intro wx hx
    obtain ⟨⟨_, ⟨hx0, hx1, hx2⟩, _⟩, _, ⟨⟨hx3, hx4, hx5⟩, _⟩, _⟩ := hx
    go_simp
    try with_reducible rfl
  refine wpAnyH_ready (rs := [2]) (by kernel_rfl) (by simp) ?_
  refine AllReadyH.cons rfl (fun K hK => ?_) AllReadyH.nil
  go_simp
  go_wp2_with fail
  refine (toStore_any S _ _ _ 0 _ (H.out.later hS.1.1) Hb.out.1 Hb.out.2.1 Hb.out.2.2).mono ?_
  rintro e w11 ⟨n0, n1, n2, rfl, s11, _, q11⟩
  have q11' : Below w9.heap.size w9 w11 := ⟨q11.os, q11.tape, q11.output, q11.size, q11.block⟩
  have S11 : Hid (((St w11 (w5.heap.size + 1) S (.slice j0 S.nc k0) (.slice j1 S.nl k1) (.slice j2 S.nw k2) ∧ FreeS w11 S (.slice j0 S.nc k0) (.slice j1 S.nl k1) (.slice j2 S.nw k2)) ∧ ApartS S (.slice j0 S.nc k0) (.slice j1 S.nl k1) (.slice j2 S.nw k2)) ∧ St w11 0 S n0 n1 n2) := ⟨⟨⟨SS.out.1.1.later q11', SS.out.1.2.later SS.out.1.1 q11'⟩, SS.out.2⟩, s11.mono (Nat.zero_le _)⟩
  have RR : Hid (FineR w11 w.heap.size w5.heap.size nr F n T m0 p0 m1 UM zM) := RR.out.later q11'
  have GK : Hid (FineR w11 (w6.heap.size + 1) w8.heap.size nr F n T g0 q0 g1 UG zG) := GK.out.later q11'
  have hS' := hS.later q11
  clear s11 q11 q11' SS
  go_wp2_with fail
  refine hK.out _ _ hS' (fun hS => ?_)
  clear hK K hS'
  refine wpAnyH_ready (rs := [3]) (by kernel_rfl) (by simp) ?_
  refine AllReadyH.cons rfl (fun K hK => ?_) AllReadyH.nil
  go_simp
  go_wp2_with fail
  refine (eqStore_same S _ _ _ _ _ _ _ 0 _ S11.out.1.1.1 S11.out.2 Hb.out.1 Hb.out.2.1 Hb.out.2.2).mono ?_
  rintro e w12 ⟨rfl, q12⟩
  have SS : Hid ((St w12 (w5.heap.size + 1) S (.slice j0 S.nc k0) (.slice j1 S.nl k1) (.slice j2 S.nw k2) ∧ FreeS w12 S (.slice j0 S.nc k0) (.slice j1 S.nl k1) (.slice j2 S.nw k2)) ∧ ApartS S (.slice j0 S.nc k0) (.slice j1 S.nl k1) (.slice j2 S.nw k2)) := ⟨⟨S11.out.1.1.1.later q12, S11.out.1.1.2.later S11.out.1.1.1 q12⟩, S11.out.1.2⟩
  have RR : Hid (FineR w12 w.heap.size w5.heap.size nr F n T m0 p0 m1 UM zM) := RR.out.later q12
  have GK : Hid (FineR w12 (w6.heap.size + 1) w8.heap.size nr F n T g0 q0 g1 UG zG) := GK.out.later q12
  have hS' := hS.later q12
  clear q12 S11
  go_wp2_with fail
  refine hK.out _ _ hS' (fun hS => ?_)
  clear hK K hS'
  refine wpAnyH_take (i := 4) (v := ?_) rfl (by kernel_rfl) (by kernel_rfl) (by kernel_rfl) (fun _ _ _ h => h) (Or.inl ⟨by kernel_rfl, ?_⟩) hS ?_
  rotate_left
  · intro wx hx
    obtain ⟨⟨_, ⟨hx0, hx1, hx2⟩, _⟩, _, ⟨⟨hx3, hx4, hx5⟩, _⟩, _⟩ := hx
    go_simp
    try with_reducible rfl
  refine wpAnyH_done (by kernel_rfl) ?_ _
  have Q : Hid (LawN w (.slice a0 S.nc c0) (.slice a1 S.nl c1) (.slice a2 S.nw c2) w5.heap.size c (.slice m0 nr p0) (.slice m1 n p1) w6.heap.size (.slice j0 S.nc k0) (.slice j1 S.nl k1) (.slice j2 S.nw k2) w8.heap.size (.slice g0 nr q0) (.slice g1 n q1) w12) := hS
  obtain ⟨_, _, ⟨⟨f0, f1, f2⟩, _⟩, _⟩ := hS
  go_simp
  go_wp2_with fail
  refine (markStore_any S _ _ _ (w5.heap.size + 1) w6.heap.size _ SS.out.1.1 SS.out.1.2 SS.out.2 E6.out (by have h1 := Q.out.2.2.1.lt; omega) Hb.out.1 Hb.out.2.1 Hb.out.2.2).mono ?_
  rintro e w13 ⟨rfl, W13⟩
  have Q13 : Hid (LawN w (.slice a0 S.nc c0) (.slice a1 S.nl c1) (.slice a2 S.nw c2) w5.heap.size c (.slice m0 nr p0) (.slice m1 n p1) w6.heap.size (.slice j0 S.nc k0) (.slice j1 S.nl k1) (.slice j2 S.nw k2) w8.heap.size (.slice g0 nr q0) (.slice g1 n q1) w13) := Q.out.within W13 (by have := zw5.out; omega) (Or.inl (by omega)) (Or.inr (Nat.le_refl _)) (Or.inr (by have := zz8.out; omega))
  have R13 : Hid (FineR w13 w.heap.size w5.heap.size nr F n T m0 p0 m1 UM zM) := RR.out.under W13 (Nat.le_succ _) (fun hn g e => Nat.lt_succ_of_lt (LW.out hn g e))
  have G13 : Hid (FineR w13 (w6.heap.size + 1) w8.heap.size nr F n T g0 q0 g1 UG zG) := GK.out.within W13 (Nat.le_succ _)
  clear W13 Q RR GK SS f0 f1 f2
  obtain ⟨_, ⟨⟨t0, t1, t2⟩, _⟩, _, ⟨⟨y0, y1, y2⟩, _⟩⟩ := Q13.out
  go_wp2_with fail
  refine (eqGroupsResult_same c nr F n T UG UM _ _ _ _ _ _ _ (G13.out.grs q1) (R13.out.grs p1) HR.out).mono ?_
  rintro e w14 ⟨rfl, q14⟩
  have Q : Hid (LawN w (.slice a0 S.nc c0) (.slice a1 S.nl c1) (.slice a2 S.nw c2) w5.heap.size c (.slice m0 nr p0) (.slice m1 n p1) w6.heap.size (.slice j0 S.nc k0) (.slice j1 S.nl k1) (.slice j2 S.nw k2) w8.heap.size (.slice g0 nr q0) (.slice g1 n q1) w14) := Q13.out.later q14
  have RR : Hid (FineR w14 w.heap.size w5.heap.size nr F n T m0 p0 m1 UM zM) := R13.out.later q14
  have GK : Hid (FineR w14 (w6.heap.size + 1) w8.heap.size nr F n T g0 q0 g1 UG zG) := G13.out.later q14
  clear q14 Q13 R13 G13 t0 t1 t2 y0 y1 y2
  obtain ⟨_, _, _, ⟨⟨y0, y1, y2⟩, _⟩⟩ := Q.out
  go_wp2_with fail
  refine (markGroupsResult_any c nr F n T g0 q0 g1 q1 UG zG (w6.heap.size + 1) w8.heap.size _ GK.out HR.out).mono ?_
  rintro e w15 ⟨rfl, m15, W15⟩
  have Q15 : Hid (LawN w (.slice a0 S.nc c0) (.slice a1 S.nl c1) (.slice a2 S.nw c2) w5.heap.size c (.slice m0 nr p0) (.slice m1 n p1) w6.heap.size (.slice j0 S.nc k0) (.slice j1 S.nl k1) (.slice j2 S.nw k2) w8.heap.size (.slice g0 nr q0) (.slice g1 n q1) w15) := Q.out.within W15 (by have := zw5.out; have := zz6.out; omega) (Or.inl (by have := zz6.out; omega)) (Or.inl (by omega)) (Or.inr (Nat.le_refl _))
  have R15 : Hid (FineR w15 w.heap.size w5.heap.size nr F n T m0 p0 m1 UM zM) := RR.out.under W15 (by have := zz6.out; omega) (fun hn g e => by have := LW.out hn g e; have := zz6.out; omega)
  have M15 : Hid (MarkG w15 (w6.heap.size + 1) nr n T g0 q0 g1 q1 UG) := m15
  clear m15 W15 Q RR GK y0 y1 y2
  obtain ⟨_, _, _, ⟨⟨y0, y1, y2⟩, _⟩⟩ := Q15.out
  go_wp2_with fail
  refine (heldGroupsResult_any c nr n T g0 q0 g1 q1 UG _ _ M15.out HR.out).mono ?_
  rintro e w16 ⟨rfl, q16⟩
  have Q16 : Hid (LawN w (.slice a0 S.nc c0) (.slice a1 S.nl c1) (.slice a2 S.nw c2) w5.heap.size c (.slice m0 nr p0) (.slice m1 n p1) w6.heap.size (.slice j0 S.nc k0) (.slice j1 S.nl k1) (.slice j2 S.nw k2) w8.heap.size (.slice g0 nr q0) (.slice g1 n q1) w16) := Q15.out.later q16
  have R16 : Hid (FineR w16 w.heap.size w5.heap.size nr F n T m0 p0 m1 UM zM) := R15.out.later q16
  have M16 : Hid (MarkG w16 (w6.heap.size + 1) nr n T g0 q0 g1 q1 UG) := M15.out.later q16
  clear q16 Q15 R15 M15 y0 y1 y2
  obtain ⟨⟨_, ⟨f0, f1, f2⟩, _⟩, _⟩ := Q16.out
  go_wp2_with fail
  refine (toStore_any S _ _ _ 0 _ (H.out.later Q16.out.1.1) Hb.out.1 Hb.out.2.1 Hb.out.2.2).mono ?_
  rintro e w17 ⟨x0, x1, x2, rfl, s17, _, q17⟩
  have S17 : Hid (St w17 0 S x0 x1 x2) := s17.mono (Nat.zero_le _)
  have Q17 : Hid (LawN w (.slice a0 S.nc c0) (.slice a1 S.nl c1) (.slice a2 S.nw c2) w5.heap.size c (.slice m0 nr p0) (.slice m1 n p1) w6.heap.size (.slice j0 S.nc k0) (.slice j1 S.nl k1) (.slice j2 S.nw k2) w8.heap.size (.slice g0 nr q0) (.slice g1 n q1) w17) := Q16.out.later q17
  have R17 : Hid (FineR w17 w.heap.size w5.heap.size nr F n T m0 p0 m1 UM zM) := R16.out.later q17
  have M17 : Hid (MarkG w17 (w6.heap.size + 1) nr n T g0 q0 g1 q1 UG) := M16.out.later q17
  clear s17 q17 Q16 R16 M16 f0 f1 f2
  go_wp2_with fail
  refine (HI.out _ _ _ _ S17.out).mono ?_
  rintro e w18 ⟨h0, r0, h1, r1, UH, zH, rfl, rh, q18⟩
  have Q18 : Hid (LawN w (.slice a0 S.nc c0) (.slice a1 S.nl c1) (.slice a2 S.nw c2) w5.heap.size c (.slice m0 nr p0) (.slice m1 n p1) w6.heap.size (.slice j0 S.nc k0) (.slice j1 S.nl k1) (.slice j2 S.nw k2) w8.heap.size (.slice g0 nr q0) (.slice g1 n q1) w18) := Q17.out.later q18
  have Q19 : Hid (LawN w (.slice a0 S.nc c0) (.slice a1 S.nl c1) (.slice a2 S.nw c2) w5.heap.size c (.slice m0 nr p0) (.slice m1 n p1) w6.heap.size (.slice j0 S.nc k0) (.slice j1 S.nl k1) (.slice j2 S.nw k2) w8.heap.size (.slice g0 nr q0) (.slice g1 n q1) (w18.alloc (.cells #[.int .i64 c, .slice h0 nr r0, .slice h1 n r1] 33))) := Q18.out.later (below_alloc _ _)
  have R19 : Hid (FineR (w18.alloc (.cells #[.int .i64 c, .slice h0 nr r0, .slice h1 n r1] 33)) w.heap.size w5.heap.size nr F n T m0 p0 m1 UM zM) := (R17.out.later q18).later (below_alloc _ _)
  have H19 : Hid (FineR (w18.alloc (.cells #[.int .i64 c, .slice h0 nr r0, .slice h1 n r1] 33)) 0 w18.heap.size nr F n T h0 r0 h1 UH zH) := (rh.mono (Nat.zero_le _)).later (below_alloc _ _)
  have M19 : Hid (MarkG (w18.alloc (.cells #[.int .i64 c, .slice h0 nr r0, .slice h1 n r1] 33)) (w6.heap.size + 1) nr n T g0 q0 g1 q1 UG) := (M17.out.later q18).later (below_alloc _ _)
  obtain ⟨_, ⟨⟨t0, t1, t2⟩, _⟩, _⟩ := Q18.out
  have z18 := World.block_lt_of_cell? w18 _ t0
  clear q18 rh Q17 R17 M17 S17 Q18
  go_wp2_with fail
  refine (eqGroupsResult_same c nr F n T UH UM _ _ _ _ _ _ _ (H19.out.grs r1) (R19.out.grs p1) HR.out).mono ?_
  rintro e w20 ⟨rfl, q20⟩
  have Q20 : Hid (LawN w (.slice a0 S.nc c0) (.slice a1 S.nl c1) (.slice a2 S.nw c2) w5.heap.size c (.slice m0 nr p0) (.slice m1 n p1) w6.heap.size (.slice j0 S.nc k0) (.slice j1 S.nl k1) (.slice j2 S.nw k2) w8.heap.size (.slice g0 nr q0) (.slice g1 n q1) w20) := Q19.out.later q20
  have M20 : Hid (MarkG w20 (w6.heap.size + 1) nr n T g0 q0 g1 q1 UG) := M19.out.later q20
  clear q20 Q19 R19 H19 M19 t0 t1 t2 z18
  obtain ⟨_, _, _, ⟨⟨y0, y1, y2⟩, _⟩⟩ := Q20.out
  go_wp2_with fail
  refine (heldGroupsResult_any c nr n T g0 q0 g1 q1 UG _ _ M20.out HR.out).mono ?_
  rintro e w21 ⟨rfl, q21⟩
  have Q21 : Hid (LawN w (.slice a0 S.nc c0) (.slice a1 S.nl c1) (.slice a2 S.nw c2) w5.heap.size c (.slice m0 nr p0) (.slice m1 n p1) w6.heap.size (.slice j0 S.nc k0) (.slice j1 S.nl k1) (.slice j2 S.nw k2) w8.heap.size (.slice g0 nr q0) (.slice g1 n q1) w21) := Q20.out.later q21
  clear q21 Q20 M20 y0 y1 y2
  go_wp2
  go_ret
  exact ⟨rfl, Q21.out.1.1⟩
theorem newGroups_walk (S : Sto) (v0 v1 v2 : Value) (ep : Int) (w : World) (h : St w 0 S v0 v1 v2) (hc : S.nc ≤ 9223372036854775807) (hl : S.nl ≤ 9223372036854775807) (hk : S.nw ≤ 9223372036854775807) (_ : (∀ p, (Lit.int .i64 (S.c p)).wf = true) ∧ (∀ p, (Lit.int .i64 (S.l p)).wf = true) ∧ ∀ p, (Lit.int .i64 (S.k p)).wf = true) (_ : (Lit.int .i64 ep).wf = true) :
    Calls Tryz.prog 3 #[.agg #[v0, v1, v2], .int .i64 ep] w fun e w' => e = .returned (.bool true) ∧ Below w.heap.size w w' :=
  exactNewGroups_walk S v0 v1 v2 ep w h hc hl hk (fun _ _ _ => by
    obtain ⟨c, nr, F, n, T, hR, hA⟩ := NewAns.get S ep
    exact ⟨c, nr, F, n, T, hR, fun y0 y1 y2 x hx => specNewGroups_is S y0 y1 y2 ep c nr F n T 0 x hx hA, fun y0 y1 y2 x hx => implNewGroups_is S y0 y1 y2 ep c nr F n T 0 x hx hA⟩)
end Go.Proofs.YtkaeolbnafhjaaaGreat
