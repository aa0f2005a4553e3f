/-
  Own text, merged of RollW, RolC.
-/
import Derived.Test.YtnkdphdpecgmiaaGreatDoorLawT
import Derived.Test.YtnkdphdpecgmiaaGreatDoorAsB
import Derived.Test.YtnkdphdpecgmiaaGreatDoorRolB
namespace Go.Proofs.YtnkdphdpecgmiaaGreatDoor
section
open Go.RowKit
-- Own text. The walk of the law FnExactRollbackKey, over what the model and the program answer: a code and a new store.
set_option maxRecDepth 100000 in
set_option maxHeartbeats 8000000 in
theorem exactRollbackKey_walk (S : Sto) (v0 v1 v2 : Value) (ka sa : Int) (w : World) (h : St w 0 S v0 v1 v2) (hc : S.nc ≤ 9223372036854775807) (hl : S.nl ≤ 9223372036854775807) (hk : S.nw ≤ 9223372036854775807) (hL : Laid w)
    (ans : S.nc ≤ 1048576 → S.nl ≤ 1048576 → S.nw ≤ 1048576 → ∃ c R, (R.nc ≤ 1048576 ∧ R.nl ≤ 1048576 ∧ R.nw ≤ 1048576) ∧
      (∀ y0 y1 y2 x, St x 0 S y0 y1 y2 → Calls Tryz.prog 17 #[.agg #[y0, y1, y2], .int .i64 ka, .int .i64 sa] x (ResSto x c R)) ∧
      (∀ y0 y1 y2 x, St x 0 S y0 y1 y2 → Laid x → Calls Tryz.prog 18 #[.agg #[y0, y1, y2], .int .i64 ka, .int .i64 sa] x (ResSto x c R))) :
    Calls Tryz.prog 5 #[.agg #[v0, v1, v2], .int .i64 ka, .int .i64 sa] w fun e w' => e = .returned (.bool true) ∧ Below w.heap.size w w' := by
  obtain ⟨a0, c0, a1, c1, a2, c2, rfl, rfl, rfl⟩ := h.form
  have H : Hid (St w 0 S (.slice a0 S.nc c0) (.slice a1 S.nl c1) (.slice a2 S.nw c2)) := h
  clear h
  have HL : Hid (Laid w) := hL
  clear hL
  by_cases hs : (1048576 : Int) < (S.nc : Int) + S.nl + S.nw
  · clear ans
    go_enter Tryz.func5, Tryz.ntmps5
    go_wp2_with fail
    refine (szStore_no 1048576 _ _ _ _ _ _ _ _ _ _ hs (by omega) (by omega) hc hl hk).mono ?_
    rintro e w1 ⟨rfl, q1⟩
    have Q : Hid (Below w.heap.size w w1) := (below_alloc _ _).trans (q1.mono (by simp))
    clear q1
    go_wp2
    go_ret
    exact ⟨rfl, Q.out⟩
  have hs' : (S.nc : Int) + S.nl + S.nw ≤ 1048576 := by omega
  clear hs
  have Hb : Hid (S.nc ≤ 1048576 ∧ S.nl ≤ 1048576 ∧ S.nw ≤ 1048576) := ⟨by omega, by omega, by omega⟩
  obtain ⟨c, R, hR, hspec, himpl⟩ := ans Hb.out.1 Hb.out.2.1 Hb.out.2.2
  have HR : Hid (R.nc ≤ 1048576 ∧ R.nl ≤ 1048576 ∧ R.nw ≤ 1048576) := hR
  have HS : Hid (∀ y0 y1 y2 x, St x 0 S y0 y1 y2 → Calls Tryz.prog 17 #[.agg #[y0, y1, y2], .int .i64 ka, .int .i64 sa] x (ResSto x c R)) := hspec
  have HI : Hid (∀ y0 y1 y2 x, St x 0 S y0 y1 y2 → Laid x → Calls Tryz.prog 18 #[.agg #[y0, y1, y2], .int .i64 ka, .int .i64 sa] x (ResSto x c R)) := himpl
  have dr : decide ((1 : Int) + R.nc * 3 + R.nl * 5 + R.nw * 4 < 0) = false := decide_eq_false (by omega)
  clear ans hspec himpl hR
  go_enter Tryz.func5, Tryz.ntmps5
  go_wp2_with fail
  refine (szStore_ok 1048576 _ _ _ _ _ _ _ _ _ _ hs' (by omega) (by omega) hc hl hk).mono ?_
  rintro e w1 ⟨rfl, q1⟩
  have P1 : Hid (One w (.slice a0 S.nc c0) (.slice a1 S.nl c1) (.slice a2 S.nw c2) w1) := (One.new w _ _ _).later q1
  obtain ⟨_, ⟨f0, f1, f2⟩, _⟩ := P1.out
  have dz : decide ((1048576 : Int) - S.nc - S.nl - S.nw < 0) = false := decide_eq_false (by omega)
  have dk : decide ((1 : Int) + S.nc * 3 + S.nl * 5 + S.nw * 4 < 0) = false := decide_eq_false (by omega)
  clear q1 hc hl hk hs'
  go_wp2_with fail
  refine (toStore_any S _ _ _ 0 _ (H.out.later P1.out.1) Hb.out.1 Hb.out.2.1 Hb.out.2.2).mono ?_
  rintro e w3 ⟨x0, x1, x2, rfl, s3, _, q3⟩
  have S3 : Hid (St w3 0 S x0 x1 x2) := s3.mono (Nat.zero_le _)
  have P3 : Hid (One w (.slice a0 S.nc c0) (.slice a1 S.nl c1) (.slice a2 S.nw c2) w3) := P1.out.later q3
  clear s3 q3 P1 f0 f1 f2
  go_wp2_with fail
  refine (HS.out _ _ _ _ S3.out).mono ?_
  rintro e w5 ⟨m0, p0, m1, p1, m2, p2, rfl, ⟨rw5, _, _⟩, q5⟩
  have P5 : Hid (One w (.slice a0 S.nc c0) (.slice a1 S.nl c1) (.slice a2 S.nw c2) (w5.alloc (.cells #[.int .i64 c, .slice m0 R.nc p0, .slice m1 R.nl p1, .slice m2 R.nw p2] 34)) ∧ Blk4 (w5.alloc (.cells #[.int .i64 c, .slice m0 R.nc p0, .slice m1 R.nl p1, .slice m2 R.nw p2] 34)) w5.heap.size (.int .i64 c) (.slice m0 R.nc p0) (.slice m1 R.nl p1) (.slice m2 R.nw p2)) := ⟨(P3.out.later q5).later (below_alloc _ _), Blk4.new w5 _ _ _ _ _⟩
  have RW : Hid (St (w5.alloc (.cells #[.int .i64 c, .slice m0 R.nc p0, .slice m1 R.nl p1, .slice m2 R.nw p2] 34)) w.heap.size R (.slice m0 R.nc p0) (.slice m1 R.nl p1) (.slice m2 R.nw p2) ∧ OwnIn R (.slice m0 R.nc p0) (.slice m1 R.nl p1) (.slice m2 R.nw p2) (fun k => k < w5.heap.size)) := ⟨(rw5.mono P3.out.1.size).alloc _, rw5.ownIn.mono (fun k hk => hk.2)⟩
  have P5' : Hid (One w (.slice a0 S.nc c0) (.slice a1 S.nl c1) (.slice a2 S.nw c2) w5) := P3.out.later q5
  obtain ⟨_, ⟨f0, f1, f2⟩, _⟩ := P5'.out
  have z5 := P5'.out.2.lt
  clear q5 S3 P3 dz P5' rw5 HS
  go_wp2_with fail
  refine (toStore_any S _ _ _ 0 _ (H.out.later P5.out.1.1) Hb.out.1 Hb.out.2.1 Hb.out.2.2).mono ?_
  rintro e w6 ⟨x0, x1, x2, rfl, s6, fa6, q6⟩
  obtain ⟨j0, k0, j1, k1, j2, k2, rfl, rfl, rfl⟩ := s6.form
  have zz6 : Hid (w5.heap.size + 1 ≤ w6.heap.size) := by have := q6.size; simp at this; unfold Hid; omega
  have S6 : Hid ((St w6 (w5.heap.size + 1) S (.slice j0 S.nc k0) (.slice j1 S.nl k1) (.slice j2 S.nw k2) ∧ FreeS w6 S (.slice j0 S.nc k0) (.slice j1 S.nl k1) (.slice j2 S.nw k2)) ∧ ApartS S (.slice j0 S.nc k0) (.slice j1 S.nl k1) (.slice j2 S.nw k2)) := ⟨⟨by rw [World.size_alloc] at s6; exact s6, fa6.1⟩, fa6.2⟩
  have E6 : Hid (OwnIn S (.slice j0 S.nc k0) (.slice j1 S.nl k1) (.slice j2 S.nw k2) (fun k => k < w6.heap.size)) := s6.ownIn.mono (fun k hk => hk.2)
  have P6 : Hid ((One w (.slice a0 S.nc c0) (.slice a1 S.nl c1) (.slice a2 S.nw c2) w6 ∧ Blk4 w6 w5.heap.size (.int .i64 c) (.slice m0 R.nc p0) (.slice m1 R.nl p1) (.slice m2 R.nw p2)) ∧ St w6 w.heap.size R (.slice m0 R.nc p0) (.slice m1 R.nl p1) (.slice m2 R.nw p2)) := ⟨⟨P5.out.1.later q6, P5.out.2.later q6⟩, RW.out.1.later q6⟩
  have LW : Hid (OwnIn R (.slice m0 R.nc p0) (.slice m1 R.nl p1) (.slice m2 R.nw p2) (fun k => k < w5.heap.size)) := RW.out.2
  have zw5 : Hid (w.heap.size < w5.heap.size) := z5
  clear s6 fa6 q6 P5 f0 f1 f2 z5 RW
  go_wp2_with fail
  refine (HI.out _ _ _ _ ((S6.out.1.1.mono (Nat.zero_le _)).alloc _) (HL.out.later (P6.out.1.1.1.alloc P6.out.1.1.1.size _))).mono ?_
  rintro e w8 ⟨g0, q0, g1, q1, g2, q2, rfl, ⟨rg8, fg8, ag8⟩, q8⟩
  have q8' := (below_alloc w6 (.cells #[.slice j0 S.nc k0, .slice j1 S.nl k1, .slice j2 S.nw k2] 32)).trans (q8.mono (by simp))
  have zz8 : Hid (w6.heap.size + 1 ≤ w8.heap.size) := by have := q8.size; simp at this; unfold Hid; omega
  have Q9 : Hid (LawT w (.slice a0 S.nc c0) (.slice a1 S.nl c1) (.slice a2 S.nw c2) w5.heap.size c (.slice m0 R.nc p0) (.slice m1 R.nl p1) (.slice m2 R.nw p2) w6.heap.size (.slice j0 S.nc k0) (.slice j1 S.nl k1) (.slice j2 S.nw k2) w8.heap.size (.slice g0 R.nc q0) (.slice g1 R.nl q1) (.slice g2 R.nw q2) (w8.alloc (.cells #[.int .i64 c, .slice g0 R.nc q0, .slice g1 R.nl q1, .slice g2 R.nw q2] 34))) := ⟨(P6.out.1.1.later q8').later (below_alloc _ _), (P6.out.1.2.later q8').later (below_alloc _ _), ((Blk3.new w6 (.slice j0 S.nc k0) (.slice j1 S.nl k1) (.slice j2 S.nw k2) 32).later q8).later (below_alloc _ _), Blk4.new w8 _ _ _ _ _⟩
  have R9 : Hid (St (w8.alloc (.cells #[.int .i64 c, .slice g0 R.nc q0, .slice g1 R.nl q1, .slice g2 R.nw q2] 34)) w.heap.size R (.slice m0 R.nc p0) (.slice m1 R.nl p1) (.slice m2 R.nw p2)) := (P6.out.2.later q8').alloc _
  rw [World.size_alloc] at rg8
  have G9 : Hid ((St (w8.alloc (.cells #[.int .i64 c, .slice g0 R.nc q0, .slice g1 R.nl q1, .slice g2 R.nw q2] 34)) (w6.heap.size + 1) R (.slice g0 R.nc q0) (.slice g1 R.nl q1) (.slice g2 R.nw q2) ∧ FreeS (w8.alloc (.cells #[.int .i64 c, .slice g0 R.nc q0, .slice g1 R.nl q1, .slice g2 R.nw q2] 34)) R (.slice g0 R.nc q0) (.slice g1 R.nl q1) (.slice g2 R.nw q2)) ∧ ApartD R (.slice g0 R.nc q0) (.slice g1 R.nl q1) (.slice g2 R.nw q2)) := ⟨⟨rg8.alloc _, fg8.later rg8 (below_alloc _ _)⟩, ag8⟩
  have LG : Hid (OwnIn R (.slice g0 R.nc q0) (.slice g1 R.nl q1) (.slice g2 R.nw q2) (fun k => w6.heap.size + 1 ≤ k ∧ k < w8.heap.size)) := rg8.ownIn
  have S9 : Hid ((St (w8.alloc (.cells #[.int .i64 c, .slice g0 R.nc q0, .slice g1 R.nl q1, .slice g2 R.nw q2] 34)) (w5.heap.size + 1) S (.slice j0 S.nc k0) (.slice j1 S.nl k1) (.slice j2 S.nw k2) ∧ FreeS (w8.alloc (.cells #[.int .i64 c, .slice g0 R.nc q0, .slice g1 R.nl q1, .slice g2 R.nw q2] 34)) S (.slice j0 S.nc k0) (.slice j1 S.nl k1) (.slice j2 S.nw k2)) ∧ ApartS S (.slice j0 S.nc k0) (.slice j1 S.nl k1) (.slice j2 S.nw k2)) := ⟨⟨(S6.out.1.1.later q8').alloc _, (S6.out.1.2.later S6.out.1.1 q8').later (S6.out.1.1.later q8') (below_alloc _ _)⟩, S6.out.2⟩
  obtain ⟨⟨t0, t1, t2, t3⟩, _⟩ := P6.out.1.2.later q8'
  have z8 := World.block_lt_of_cell? w8 _ t0
  clear q8 q8' S6 P6 rg8 fg8 ag8
  go_wp2_with fail
  refine (eqStoreResult_same c R _ _ _ _ _ _ _ _ _ G9.out.1.1 R9.out HR.out.1 HR.out.2.1 HR.out.2.2).mono ?_
  rintro e w9 ⟨rfl, q9⟩
  have Q : Hid (LawT w (.slice a0 S.nc c0) (.slice a1 S.nl c1) (.slice a2 S.nw c2) w5.heap.size c (.slice m0 R.nc p0) (.slice m1 R.nl p1) (.slice m2 R.nw p2) w6.heap.size (.slice j0 S.nc k0) (.slice j1 S.nl k1) (.slice j2 S.nw k2) w8.heap.size (.slice g0 R.nc q0) (.slice g1 R.nl q1) (.slice g2 R.nw q2) w9) := Q9.out.later q9
  have RR : Hid (St w9 w.heap.size R (.slice m0 R.nc p0) (.slice m1 R.nl p1) (.slice m2 R.nw p2)) := R9.out.later q9
  have GK : Hid ((St w9 (w6.heap.size + 1) R (.slice g0 R.nc q0) (.slice g1 R.nl q1) (.slice g2 R.nw q2) ∧ FreeS w9 R (.slice g0 R.nc q0) (.slice g1 R.nl q1) (.slice g2 R.nw q2)) ∧ ApartD R (.slice g0 R.nc q0) (.slice g1 R.nl q1) (.slice g2 R.nw q2)) := ⟨⟨G9.out.1.1.later q9, G9.out.1.2.later G9.out.1.1 q9⟩, G9.out.2⟩
  have SS : Hid ((St w9 (w5.heap.size + 1) S (.slice j0 S.nc k0) (.slice j1 S.nl k1) (.slice j2 S.nw k2) ∧ FreeS w9 S (.slice j0 S.nc k0) (.slice j1 S.nl k1) (.slice j2 S.nw k2)) ∧ ApartS S (.slice j0 S.nc k0) (.slice j1 S.nl k1) (.slice j2 S.nw k2)) := ⟨⟨S9.out.1.1.later q9, S9.out.1.2.later S9.out.1.1 q9⟩, S9.out.2⟩
  clear q9 Q9 R9 G9 S9 t0 t1 t2 t3 z8
  go_wp2_with fail
  refine wp_region_held_drew (S := LawT w (.slice a0 S.nc c0) (.slice a1 S.nl c1) (.slice a2 S.nw c2) w5.heap.size c (.slice m0 R.nc p0) (.slice m1 R.nl p1) (.slice m2 R.nw p2) w6.heap.size (.slice j0 S.nc k0) (.slice j1 S.nl k1) (.slice j2 S.nw k2) w8.heap.size (.slice g0 R.nc q0) (.slice g1 R.nl q1) (.slice g2 R.nw q2)) (by kernel_rfl) Q.out.drew (fun hS => ?_)
  clear Q
  refine wpAnyH_take (i := 0) (v := ?_) rfl (by kernel_rfl) (by kernel_rfl) (by kernel_rfl) (fun _ _ _ h => h) (Or.inl ⟨by kernel_rfl, ?_⟩) hS ?_
  rotate_left
  · intro wx hx
    obtain ⟨⟨_, ⟨hx0, hx1, hx2⟩, _⟩, _, ⟨⟨hx3, hx4, hx5⟩, _⟩, _⟩ := hx
    go_simp
    try with_reducible rfl
  refine wpAnyH_take (i := 1) (v := ?_) rfl (by kernel_rfl) (by kernel_rfl) (by kernel_rfl) (fun _ _ _ h => h) (Or.inl ⟨by kernel_rfl, ?_⟩) hS ?_
  rotate_left
  · intro wx hx
    obtain ⟨⟨_, ⟨hx0, hx1, hx2⟩, _⟩, _, ⟨⟨hx3, hx4, hx5⟩, _⟩, _⟩ := hx
    go_simp
    try with_reducible rfl
  refine wpAnyH_ready (rs := [2]) (by kernel_rfl) (by simp) ?_
  refine AllReadyH.cons rfl (fun K hK => ?_) AllReadyH.nil
  go_simp
  go_wp2_with fail
  refine (toStore_any S _ _ _ 0 _ (H.out.later hS.1.1) Hb.out.1 Hb.out.2.1 Hb.out.2.2).mono ?_
  rintro e w11 ⟨n0, n1, n2, rfl, s11, _, q11⟩
  have q11' : Below w9.heap.size w9 w11 := ⟨q11.os, q11.tape, q11.output, q11.size, q11.block⟩
  have S11 : Hid (((St w11 (w5.heap.size + 1) S (.slice j0 S.nc k0) (.slice j1 S.nl k1) (.slice j2 S.nw k2) ∧ FreeS w11 S (.slice j0 S.nc k0) (.slice j1 S.nl k1) (.slice j2 S.nw k2)) ∧ ApartS S (.slice j0 S.nc k0) (.slice j1 S.nl k1) (.slice j2 S.nw k2)) ∧ St w11 0 S n0 n1 n2) := ⟨⟨⟨SS.out.1.1.later q11', SS.out.1.2.later SS.out.1.1 q11'⟩, SS.out.2⟩, s11.mono (Nat.zero_le _)⟩
  have RR : Hid (St w11 w.heap.size R (.slice m0 R.nc p0) (.slice m1 R.nl p1) (.slice m2 R.nw p2)) := RR.out.later q11'
  have GK : Hid ((St w11 (w6.heap.size + 1) R (.slice g0 R.nc q0) (.slice g1 R.nl q1) (.slice g2 R.nw q2) ∧ FreeS w11 R (.slice g0 R.nc q0) (.slice g1 R.nl q1) (.slice g2 R.nw q2)) ∧ ApartD R (.slice g0 R.nc q0) (.slice g1 R.nl q1) (.slice g2 R.nw q2)) := ⟨⟨GK.out.1.1.later q11', GK.out.1.2.later GK.out.1.1 q11'⟩, GK.out.2⟩
  have hS' := hS.later q11
  clear s11 q11 q11' SS
  go_wp2_with fail
  refine hK.out _ _ hS' (fun hS => ?_)
  clear hK K hS'
  refine wpAnyH_ready (rs := [3]) (by kernel_rfl) (by simp) ?_
  refine AllReadyH.cons rfl (fun K hK => ?_) AllReadyH.nil
  go_simp
  go_wp2_with fail
  refine (eqStore_same S _ _ _ _ _ _ _ 0 _ S11.out.1.1.1 S11.out.2 Hb.out.1 Hb.out.2.1 Hb.out.2.2).mono ?_
  rintro e w12 ⟨rfl, q12⟩
  have SS : Hid ((St w12 (w5.heap.size + 1) S (.slice j0 S.nc k0) (.slice j1 S.nl k1) (.slice j2 S.nw k2) ∧ FreeS w12 S (.slice j0 S.nc k0) (.slice j1 S.nl k1) (.slice j2 S.nw k2)) ∧ ApartS S (.slice j0 S.nc k0) (.slice j1 S.nl k1) (.slice j2 S.nw k2)) := ⟨⟨S11.out.1.1.1.later q12, S11.out.1.1.2.later S11.out.1.1.1 q12⟩, S11.out.1.2⟩
  have RR : Hid (St w12 w.heap.size R (.slice m0 R.nc p0) (.slice m1 R.nl p1) (.slice m2 R.nw p2)) := RR.out.later q12
  have GK : Hid ((St w12 (w6.heap.size + 1) R (.slice g0 R.nc q0) (.slice g1 R.nl q1) (.slice g2 R.nw q2) ∧ FreeS w12 R (.slice g0 R.nc q0) (.slice g1 R.nl q1) (.slice g2 R.nw q2)) ∧ ApartD R (.slice g0 R.nc q0) (.slice g1 R.nl q1) (.slice g2 R.nw q2)) := ⟨⟨GK.out.1.1.later q12, GK.out.1.2.later GK.out.1.1 q12⟩, GK.out.2⟩
  have hS' := hS.later q12
  clear q12 S11
  go_wp2_with fail
  refine hK.out _ _ hS' (fun hS => ?_)
  clear hK K hS'
  refine wpAnyH_take (i := 4) (v := ?_) rfl (by kernel_rfl) (by kernel_rfl) (by kernel_rfl) (fun _ _ _ h => h) (Or.inl ⟨by kernel_rfl, ?_⟩) hS ?_
  rotate_left
  · intro wx hx
    obtain ⟨⟨_, ⟨hx0, hx1, hx2⟩, _⟩, _, ⟨⟨hx3, hx4, hx5⟩, _⟩, _⟩ := hx
    go_simp
    try with_reducible rfl
  refine wpAnyH_done (by kernel_rfl) ?_ _
  have Q : Hid (LawT w (.slice a0 S.nc c0) (.slice a1 S.nl c1) (.slice a2 S.nw c2) w5.heap.size c (.slice m0 R.nc p0) (.slice m1 R.nl p1) (.slice m2 R.nw p2) w6.heap.size (.slice j0 S.nc k0) (.slice j1 S.nl k1) (.slice j2 S.nw k2) w8.heap.size (.slice g0 R.nc q0) (.slice g1 R.nl q1) (.slice g2 R.nw q2) w12) := hS
  obtain ⟨_, _, ⟨⟨f0, f1, f2⟩, _⟩, _⟩ := hS
  go_simp
  go_wp2_with fail
  refine (markStore_any S _ _ _ (w5.heap.size + 1) w6.heap.size _ SS.out.1.1 SS.out.1.2 SS.out.2 E6.out (by have h1 := Q.out.2.2.1.lt; omega) Hb.out.1 Hb.out.2.1 Hb.out.2.2).mono ?_
  rintro e w13 ⟨rfl, W13⟩
  have Q13 : Hid (LawT w (.slice a0 S.nc c0) (.slice a1 S.nl c1) (.slice a2 S.nw c2) w5.heap.size c (.slice m0 R.nc p0) (.slice m1 R.nl p1) (.slice m2 R.nw p2) w6.heap.size (.slice j0 S.nc k0) (.slice j1 S.nl k1) (.slice j2 S.nw k2) w8.heap.size (.slice g0 R.nc q0) (.slice g1 R.nl q1) (.slice g2 R.nw q2) w13) := Q.out.within W13 (by have := zw5.out; omega) (Or.inl (by omega)) (Or.inr (Nat.le_refl _)) (Or.inr (by have := zz8.out; omega))
  have R13 : Hid (St w13 w.heap.size R (.slice m0 R.nc p0) (.slice m1 R.nl p1) (.slice m2 R.nw p2)) := RR.out.within W13 (LW.out.mono (fun k hk => Or.inl (by omega)))
  have oG : OwnIn R (.slice g0 R.nc q0) (.slice g1 R.nl q1) (.slice g2 R.nw q2) (fun k => k < w5.heap.size + 1 ∨ w6.heap.size ≤ k) := LG.out.mono (fun k hk => Or.inr (by omega))
  have G13 : Hid ((St w13 (w6.heap.size + 1) R (.slice g0 R.nc q0) (.slice g1 R.nl q1) (.slice g2 R.nw q2) ∧ FreeS w13 R (.slice g0 R.nc q0) (.slice g1 R.nl q1) (.slice g2 R.nw q2)) ∧ ApartD R (.slice g0 R.nc q0) (.slice g1 R.nl q1) (.slice g2 R.nw q2)) := ⟨⟨GK.out.1.1.within W13 oG, GK.out.1.2.within GK.out.1.1 W13 oG⟩, GK.out.2⟩
  clear W13 Q RR GK SS f0 f1 f2 oG
  obtain ⟨_, ⟨⟨t0, t1, t2, t3⟩, _⟩, _, ⟨⟨y0, y1, y2, y3⟩, _⟩⟩ := Q13.out
  go_wp2_with fail
  refine (eqStoreResult_same c R _ _ _ _ _ _ _ _ _ G13.out.1.1 R13.out HR.out.1 HR.out.2.1 HR.out.2.2).mono ?_
  rintro e w14 ⟨rfl, q14⟩
  have Q : Hid (LawT w (.slice a0 S.nc c0) (.slice a1 S.nl c1) (.slice a2 S.nw c2) w5.heap.size c (.slice m0 R.nc p0) (.slice m1 R.nl p1) (.slice m2 R.nw p2) w6.heap.size (.slice j0 S.nc k0) (.slice j1 S.nl k1) (.slice j2 S.nw k2) w8.heap.size (.slice g0 R.nc q0) (.slice g1 R.nl q1) (.slice g2 R.nw q2) w14) := Q13.out.later q14
  have RR : Hid (St w14 w.heap.size R (.slice m0 R.nc p0) (.slice m1 R.nl p1) (.slice m2 R.nw p2)) := R13.out.later q14
  have GK : Hid ((St w14 (w6.heap.size + 1) R (.slice g0 R.nc q0) (.slice g1 R.nl q1) (.slice g2 R.nw q2) ∧ FreeS w14 R (.slice g0 R.nc q0) (.slice g1 R.nl q1) (.slice g2 R.nw q2)) ∧ ApartD R (.slice g0 R.nc q0) (.slice g1 R.nl q1) (.slice g2 R.nw q2)) := ⟨⟨G13.out.1.1.later q14, G13.out.1.2.later G13.out.1.1 q14⟩, G13.out.2⟩
  clear q14 Q13 R13 G13 t0 t1 t2 t3 y0 y1 y2 y3
  obtain ⟨_, _, _, ⟨⟨y0, y1, y2, y3⟩, _⟩⟩ := Q.out
  go_wp2_with fail
  refine (markStoreResult_any c R _ _ _ (w6.heap.size + 1) w8.heap.size _ GK.out.1.1 GK.out.1.2 GK.out.2 (LG.out.mono (fun k hk => hk.2)) (by have h1 := Q.out.2.2.2.lt; omega) HR.out.1 HR.out.2.1 HR.out.2.2).mono ?_
  rintro e w15 ⟨rfl, m15, W15⟩
  have Q15 : Hid (LawT w (.slice a0 S.nc c0) (.slice a1 S.nl c1) (.slice a2 S.nw c2) w5.heap.size c (.slice m0 R.nc p0) (.slice m1 R.nl p1) (.slice m2 R.nw p2) w6.heap.size (.slice j0 S.nc k0) (.slice j1 S.nl k1) (.slice j2 S.nw k2) w8.heap.size (.slice g0 R.nc q0) (.slice g1 R.nl q1) (.slice g2 R.nw q2) w15) := Q.out.within W15 (by have := zw5.out; have := zz6.out; omega) (Or.inl (by have := zz6.out; omega)) (Or.inl (by omega)) (Or.inr (Nat.le_refl _))
  have R15 : Hid (St w15 w.heap.size R (.slice m0 R.nc p0) (.slice m1 R.nl p1) (.slice m2 R.nw p2)) := RR.out.within W15 (LW.out.mono (fun k hk => Or.inl (by have := zz6.out; omega)))
  have M15 : Hid (St w15 (w6.heap.size + 1) (markS R) (.slice g0 R.nc q0) (.slice g1 R.nl q1) (.slice g2 R.nw q2)) := m15
  clear m15 W15 Q RR GK y0 y1 y2 y3
  obtain ⟨_, _, _, ⟨⟨y0, y1, y2, y3⟩, _⟩⟩ := Q15.out
  go_wp2_with fail
  refine (heldStoreResult_any c R _ _ _ _ _ M15.out HR.out.1 HR.out.2.1 HR.out.2.2).mono ?_
  rintro e w16 ⟨rfl, q16⟩
  have Q16 : Hid (LawT w (.slice a0 S.nc c0) (.slice a1 S.nl c1) (.slice a2 S.nw c2) w5.heap.size c (.slice m0 R.nc p0) (.slice m1 R.nl p1) (.slice m2 R.nw p2) w6.heap.size (.slice j0 S.nc k0) (.slice j1 S.nl k1) (.slice j2 S.nw k2) w8.heap.size (.slice g0 R.nc q0) (.slice g1 R.nl q1) (.slice g2 R.nw q2) w16) := Q15.out.later q16
  have R16 : Hid (St w16 w.heap.size R (.slice m0 R.nc p0) (.slice m1 R.nl p1) (.slice m2 R.nw p2)) := R15.out.later q16
  have M16 : Hid (St w16 (w6.heap.size + 1) (markS R) (.slice g0 R.nc q0) (.slice g1 R.nl q1) (.slice g2 R.nw q2)) := M15.out.later q16
  clear q16 Q15 R15 M15 y0 y1 y2 y3
  obtain ⟨⟨_, ⟨f0, f1, f2⟩, _⟩, _⟩ := Q16.out
  go_wp2_with fail
  refine (toStore_any S _ _ _ 0 _ (H.out.later Q16.out.1.1) Hb.out.1 Hb.out.2.1 Hb.out.2.2).mono ?_
  rintro e w17 ⟨x0, x1, x2, rfl, s17, _, q17⟩
  have S17 : Hid (St w17 0 S x0 x1 x2) := s17.mono (Nat.zero_le _)
  have Q17 : Hid (LawT w (.slice a0 S.nc c0) (.slice a1 S.nl c1) (.slice a2 S.nw c2) w5.heap.size c (.slice m0 R.nc p0) (.slice m1 R.nl p1) (.slice m2 R.nw p2) w6.heap.size (.slice j0 S.nc k0) (.slice j1 S.nl k1) (.slice j2 S.nw k2) w8.heap.size (.slice g0 R.nc q0) (.slice g1 R.nl q1) (.slice g2 R.nw q2) w17) := Q16.out.later q17
  have R17 : Hid (St w17 w.heap.size R (.slice m0 R.nc p0) (.slice m1 R.nl p1) (.slice m2 R.nw p2)) := R16.out.later q17
  have M17 : Hid (St w17 (w6.heap.size + 1) (markS R) (.slice g0 R.nc q0) (.slice g1 R.nl q1) (.slice g2 R.nw q2)) := M16.out.later q17
  clear s17 q17 Q16 R16 M16 f0 f1 f2
  go_wp2_with fail
  refine (HI.out _ _ _ _ S17.out (HL.out.later Q17.out.1.1)).mono ?_
  rintro e w18 ⟨h0, r0, h1, r1, h2, r2, rfl, ⟨rh, _, _⟩, q18⟩
  have Q18 : Hid (LawT w (.slice a0 S.nc c0) (.slice a1 S.nl c1) (.slice a2 S.nw c2) w5.heap.size c (.slice m0 R.nc p0) (.slice m1 R.nl p1) (.slice m2 R.nw p2) w6.heap.size (.slice j0 S.nc k0) (.slice j1 S.nl k1) (.slice j2 S.nw k2) w8.heap.size (.slice g0 R.nc q0) (.slice g1 R.nl q1) (.slice g2 R.nw q2) w18) := Q17.out.later q18
  have Q19 : Hid (LawT w (.slice a0 S.nc c0) (.slice a1 S.nl c1) (.slice a2 S.nw c2) w5.heap.size c (.slice m0 R.nc p0) (.slice m1 R.nl p1) (.slice m2 R.nw p2) w6.heap.size (.slice j0 S.nc k0) (.slice j1 S.nl k1) (.slice j2 S.nw k2) w8.heap.size (.slice g0 R.nc q0) (.slice g1 R.nl q1) (.slice g2 R.nw q2) (w18.alloc (.cells #[.int .i64 c, .slice h0 R.nc r0, .slice h1 R.nl r1, .slice h2 R.nw r2] 34))) := Q18.out.later (below_alloc _ _)
  have R19 : Hid (St (w18.alloc (.cells #[.int .i64 c, .slice h0 R.nc r0, .slice h1 R.nl r1, .slice h2 R.nw r2] 34)) w.heap.size R (.slice m0 R.nc p0) (.slice m1 R.nl p1) (.slice m2 R.nw p2)) := (R17.out.later q18).alloc _
  have H19 : Hid (St (w18.alloc (.cells #[.int .i64 c, .slice h0 R.nc r0, .slice h1 R.nl r1, .slice h2 R.nw r2] 34)) 0 R (.slice h0 R.nc r0) (.slice h1 R.nl r1) (.slice h2 R.nw r2)) := (rh.mono (Nat.zero_le _)).alloc _
  have M19 : Hid (St (w18.alloc (.cells #[.int .i64 c, .slice h0 R.nc r0, .slice h1 R.nl r1, .slice h2 R.nw r2] 34)) (w6.heap.size + 1) (markS R) (.slice g0 R.nc q0) (.slice g1 R.nl q1) (.slice g2 R.nw q2)) := (M17.out.later q18).alloc _
  obtain ⟨_, ⟨⟨t0, t1, t2, t3⟩, _⟩, _⟩ := Q18.out
  have z18 := World.block_lt_of_cell? w18 _ t0
  clear q18 rh Q17 R17 M17 S17 Q18
  go_wp2_with fail
  refine (eqStoreResult_same c R _ _ _ _ _ _ _ _ _ H19.out R19.out HR.out.1 HR.out.2.1 HR.out.2.2).mono ?_
  rintro e w20 ⟨rfl, q20⟩
  have Q20 : Hid (LawT w (.slice a0 S.nc c0) (.slice a1 S.nl c1) (.slice a2 S.nw c2) w5.heap.size c (.slice m0 R.nc p0) (.slice m1 R.nl p1) (.slice m2 R.nw p2) w6.heap.size (.slice j0 S.nc k0) (.slice j1 S.nl k1) (.slice j2 S.nw k2) w8.heap.size (.slice g0 R.nc q0) (.slice g1 R.nl q1) (.slice g2 R.nw q2) w20) := Q19.out.later q20
  have M20 : Hid (St w20 (w6.heap.size + 1) (markS R) (.slice g0 R.nc q0) (.slice g1 R.nl q1) (.slice g2 R.nw q2)) := M19.out.later q20
  clear q20 Q19 R19 H19 M19 t0 t1 t2 t3 z18
  obtain ⟨_, _, _, ⟨⟨y0, y1, y2, y3⟩, _⟩⟩ := Q20.out
  go_wp2_with fail
  refine (heldStoreResult_any c R _ _ _ _ _ M20.out HR.out.1 HR.out.2.1 HR.out.2.2).mono ?_
  rintro e w21 ⟨rfl, q21⟩
  have Q21 : Hid (LawT w (.slice a0 S.nc c0) (.slice a1 S.nl c1) (.slice a2 S.nw c2) w5.heap.size c (.slice m0 R.nc p0) (.slice m1 R.nl p1) (.slice m2 R.nw p2) w6.heap.size (.slice j0 S.nc k0) (.slice j1 S.nl k1) (.slice j2 S.nw k2) w8.heap.size (.slice g0 R.nc q0) (.slice g1 R.nl q1) (.slice g2 R.nw q2) w21) := Q20.out.later q21
  clear q21 Q20 M20 y0 y1 y2 y3
  go_wp2
  go_ret
  exact ⟨rfl, Q21.out.1.1⟩
end

section
open Go.RowKit Go.Maps Go.Lib
-- Own text. RollbackKey: what the model's and the program's answer, the same code and the same store; the law's walk.
/-- What a rollback comes to on a store without a fault: a code and a store. -/
def RollRes (S : Sto) (a s : Int) (r : Int) (R : Sto) : Prop :=
  (∃ i : Nat, FirstAt (writeIs S.k a s) S.nw i ∧ S.k (i * 4 + 3) = 4 ∧ r = 0 ∧ R = S) ∨
  (∃ i : Nat, FirstAt (writeIs S.k a s) S.nw i ∧ S.k (i * 4 + 3) ≠ 4 ∧ r = 6 ∧ R = emptyS) ∨
  (FirstAt (writeIs S.k a s) S.nw (-1) ∧ (∃ i, i < S.nw ∧ writeAt S.k a s i) ∧ r = 6 ∧ R = emptyS) ∨
  (FirstAt (writeIs S.k a s) S.nw (-1) ∧ (¬ ∃ i, i < S.nw ∧ writeAt S.k a s i) ∧ 200 ≤ S.nw ∧ r = 2 ∧ R = emptyS) ∨
  (∃ k : Nat, FirstAt (writeIs S.k a s) S.nw (-1) ∧ (¬ ∃ i, i < S.nw ∧ writeAt S.k a s i) ∧ S.nw < 200 ∧ placeAt (aheadW S.k a s) S.nw k ∧ r = 0 ∧ R = rollS S a s k)
theorem l3Roll_is (S : Sto) (b : Nat) (v0 v1 v2 : Value) (a s r : Int) (R : Sto) (w : World) (h : Lies w b S v0 v1 v2) (hz : storeF S = 0) (hA : RollRes S a s r R) :
    Calls Tryz.prog 49 #[.pointer (some ⟨b, 0, none⟩), .int .i64 a, .int .i64 s] w (ResSto w r R) := by
  rcases hA with ⟨i, h1, h2, rfl, rfl⟩ | ⟨i, h1, h2, rfl, rfl⟩ | ⟨h1, h2, rfl, rfl⟩ | ⟨h1, h2, h3, rfl, rfl⟩ | ⟨k, h1, h2, h3, h4, rfl, rfl⟩
  · exact l3Roll_same _ b v0 v1 v2 a s i w h hz h1 h2
  · exact l3Roll_taken S b v0 v1 v2 a s i w h hz h1 h2
  · exact l3Roll_at S b v0 v1 v2 a s w h hz h1 h2
  · exact l3Roll_many S b v0 v1 v2 a s w h hz h1 h2 h3
  · obtain ⟨j, hj⟩ := FirstAt.get (cellIs S.c a s) S.nc
    rcases hj with ⟨rfl, q⟩ | ⟨j, hjn, rfl, q1, q2⟩
    · exact l3Roll_none S b v0 v1 v2 a s k w h hz h1 h2 h3 h4 (Or.inl ⟨rfl, q⟩)
    · exact l3Roll_cell S b v0 v1 v2 a s k j w h hz h1 h2 h3 h4 (Or.inr ⟨j, hjn, rfl, q1, q2⟩)
def RollAns (S : Sto) (a s : Int) (r : Int) (R : Sto) : Prop :=
  (askF S a ≠ 0 ∧ r = askF S a ∧ R = emptyS) ∨ (askF S a = 0 ∧ ¬ isT s ∧ r = 3 ∧ R = emptyS) ∨ (askF S a = 0 ∧ isT s ∧ RollRes S a s r R)
set_option maxRecDepth 100000 in
set_option maxHeartbeats 8000000 in
theorem specRollbackKey_is (S : Sto) (v0 v1 v2 : Value) (a s r : Int) (R : Sto) (B : Nat) (w : World) (h : St w B S v0 v1 v2) (hA : RollAns S a s r R) :
    Calls Tryz.prog 17 #[.agg #[v0, v1, v2], .int .i64 a, .int .i64 s] w (ResSto w r R) := by
  obtain ⟨a0, c0, a1, c1, a2, c2, rfl, rfl, rfl⟩ := h.form
  have HE : Hid (CallSto w B S (.slice a0 S.nc c0) (.slice a1 S.nl c1) (.slice a2 S.nw c2) ((w.alloc (.cells #[.slice a0 S.nc c0, .slice a1 S.nl c1, .slice a2 S.nw c2] 32)).alloc (.cells #[.int .i64 0, .slice none 0 0, .slice none 0 0, .slice none 0 0] 34))) := CallSto.new h _ _
  clear h
  unfold ResSto
  rcases hA with ⟨hz, rfl, rfl⟩ | ⟨hz, ht, rfl, rfl⟩ | ⟨hz, ht, hR⟩
  · obtain ⟨f, hf⟩ : ∃ f, askF S a = f := ⟨_, rfl⟩
    have HF : Hid (askF S a = f) := hf
    have hfn : (f == 0) = false := beq_eq_false_iff_ne.2 (by rw [← hf]; exact hz)
    have hfn' : (f != 0) = true := by rw [bne_iff_ne, ← hf]; exact hz
    rw [hf]
    clear hz hf
    go_enter Tryz.func17, Tryz.ntmps17
    go_wp2_with fail
    refine (asked_any S w.heap.size _ _ _ _ _ ⟨HE.out.1.1, HE.out.2.2.1.mono (Nat.zero_le _)⟩).mono ?_
    rw [HF.out]
    rintro e w1 ⟨rfl, q1⟩
    have HE : Hid (CallSto w B S (.slice a0 S.nc c0) (.slice a1 S.nl c1) (.slice a2 S.nw c2) w1) := HE.out.later q1
    obtain ⟨⟨⟨p0, p1, p2⟩, _⟩, ⟨⟨r0, r1, r2, r3⟩, f0, f1, f2, f3⟩, _⟩ := HE.out
    clear q1
    go_wp2_with fail
    refine (l3Bad_is f _).mono ?_
    rintro e w4 ⟨d0, e0, d1, e1, d2, e2, rfl, ⟨s3, f3', a3⟩, q4⟩
    have z3 : Hid (w.heap.size + 2 ≤ w1.heap.size) := HE.out.2.1.lt
    have S3 : Hid ((St w4 (w.heap.size + 2) emptyS (.slice d0 (emptyS).nc e0) (.slice d1 (emptyS).nl e1) (.slice d2 (emptyS).nw e2) ∧ FreeS w4 emptyS (.slice d0 (emptyS).nc e0) (.slice d1 (emptyS).nl e1) (.slice d2 (emptyS).nw e2)) ∧ ApartD emptyS (.slice d0 (emptyS).nc e0) (.slice d1 (emptyS).nl e1) (.slice d2 (emptyS).nw e2)) := ⟨⟨s3.mono z3.out, f3'⟩, a3⟩
    have HBW : Hid (Below w.heap.size w w4) := HE.out.2.2.2.trans (q4.mono HE.out.2.2.2.size)
    obtain ⟨⟨r0, r1, r2, r3⟩, f0, f1, f2, f3⟩ := HE.out.2.1.later q4
    clear s3 f3' a3 q4
    have hlo : (w.heap.size + 1 : Nat) < w.heap.size + 2 := Nat.lt_succ_self _
    go_wp2
    exact bodyPost_ret (v := .agg #[.int .i64 f, .slice d0 (emptyS).nc e0, .slice d1 (emptyS).nl e1, .slice d2 (emptyS).nw e2]) (by simp [results, Tryz.results17, go_sem, r0, r1, r2, r3]) rfl ⟨d0, e0, d1, e1, d2, e2, rfl, ⟨((((S3.out.1.1.far hlo _).far hlo _).far hlo _).far hlo _).mono (by omega), (((S3.out.1.2.far _ _).far _ _).far _ _).far _ _, S3.out.2⟩, (((HBW.out.setCell (Nat.le_succ _) _).setCell (Nat.le_succ _) _).setCell (Nat.le_succ _) _).setCell (Nat.le_succ _) _⟩
  · have HA : Hid (askF S a = 0) := hz
    have HT : Hid (decide (1 ≤ s ∧ s ≤ 100000) = false) := decide_eq_false ht
    clear hz ht
    go_enter Tryz.func17, Tryz.ntmps17
    go_wp2_with fail
    refine (asked_any S w.heap.size _ _ _ _ _ ⟨HE.out.1.1, HE.out.2.2.1.mono (Nat.zero_le _)⟩).mono ?_
    rw [HA.out]
    rintro e w1 ⟨rfl, q1⟩
    have HE : Hid (CallSto w B S (.slice a0 S.nc c0) (.slice a1 S.nl c1) (.slice a2 S.nw c2) w1) := HE.out.later q1
    obtain ⟨⟨⟨p0, p1, p2⟩, _⟩, ⟨⟨r0, r1, r2, r3⟩, f0, f1, f2, f3⟩, _⟩ := HE.out
    clear q1
    go_wp2_with fail
    refine (l2Ts_is s false HT.out _).mono ?_
    rintro e w1' ⟨rfl, rfl⟩
    go_wp2_with fail
    refine (l3Bad_is 3 _).mono ?_
    rintro e w4 ⟨d0, e0, d1, e1, d2, e2, rfl, ⟨s3, f3', a3⟩, q4⟩
    have z3 : Hid (w.heap.size + 2 ≤ w1'.heap.size) := HE.out.2.1.lt
    have S3 : Hid ((St w4 (w.heap.size + 2) emptyS (.slice d0 (emptyS).nc e0) (.slice d1 (emptyS).nl e1) (.slice d2 (emptyS).nw e2) ∧ FreeS w4 emptyS (.slice d0 (emptyS).nc e0) (.slice d1 (emptyS).nl e1) (.slice d2 (emptyS).nw e2)) ∧ ApartD emptyS (.slice d0 (emptyS).nc e0) (.slice d1 (emptyS).nl e1) (.slice d2 (emptyS).nw e2)) := ⟨⟨s3.mono z3.out, f3'⟩, a3⟩
    have HBW : Hid (Below w.heap.size w w4) := HE.out.2.2.2.trans (q4.mono HE.out.2.2.2.size)
    obtain ⟨⟨r0, r1, r2, r3⟩, f0, f1, f2, f3⟩ := HE.out.2.1.later q4
    clear s3 f3' a3 q4
    have hlo : (w.heap.size + 1 : Nat) < w.heap.size + 2 := Nat.lt_succ_self _
    go_wp2
    exact bodyPost_ret (v := .agg #[.int .i64 3, .slice d0 (emptyS).nc e0, .slice d1 (emptyS).nl e1, .slice d2 (emptyS).nw e2]) (by simp [results, Tryz.results17, go_sem, r0, r1, r2, r3]) rfl ⟨d0, e0, d1, e1, d2, e2, rfl, ⟨((((S3.out.1.1.far hlo _).far hlo _).far hlo _).far hlo _).mono (by omega), (((S3.out.1.2.far _ _).far _ _).far _ _).far _ _, S3.out.2⟩, (((HBW.out.setCell (Nat.le_succ _) _).setCell (Nat.le_succ _) _).setCell (Nat.le_succ _) _).setCell (Nat.le_succ _) _⟩
  · have HA : Hid (askF S a = 0) := hz
    have HT : Hid (decide (1 ≤ s ∧ s ≤ 100000) = true) := decide_eq_true ht
    have HP : Hid (∀ (b : Nat) (u0 u1 u2 : Value) (x : World), Lies x b S u0 u1 u2 → Calls Tryz.prog 49 #[.pointer (some ⟨b, 0, none⟩), .int .i64 a, .int .i64 s] x (ResSto x r R)) := fun b u0 u1 u2 x hx => l3Roll_is S b u0 u1 u2 a s r R x hx (askF_zero hz).1 hR
    clear hz ht hR
    go_enter Tryz.func17, Tryz.ntmps17
    go_wp2_with fail
    refine (asked_any S w.heap.size _ _ _ _ _ ⟨HE.out.1.1, HE.out.2.2.1.mono (Nat.zero_le _)⟩).mono ?_
    rw [HA.out]
    rintro e w1 ⟨rfl, q1⟩
    have HE : Hid (CallSto w B S (.slice a0 S.nc c0) (.slice a1 S.nl c1) (.slice a2 S.nw c2) w1) := HE.out.later q1
    obtain ⟨⟨⟨p0, p1, p2⟩, _⟩, ⟨⟨r0, r1, r2, r3⟩, f0, f1, f2, f3⟩, _⟩ := HE.out
    clear q1
    go_wp2_with fail
    refine (l2Ts_is s true HT.out _).mono ?_
    rintro e w1' ⟨rfl, rfl⟩
    go_wp2_with fail
    refine (HP.out w.heap.size _ _ _ _ ⟨HE.out.1.1, HE.out.2.2.1.mono (Nat.zero_le _)⟩).mono ?_
    rintro e w4 ⟨d0, e0, d1, e1, d2, e2, rfl, ⟨s3, f3', a3⟩, q4⟩
    have z3 : Hid (w.heap.size + 2 ≤ w1'.heap.size) := HE.out.2.1.lt
    have S3 : Hid ((St w4 (w.heap.size + 2) R (.slice d0 (R).nc e0) (.slice d1 (R).nl e1) (.slice d2 (R).nw e2) ∧ FreeS w4 R (.slice d0 (R).nc e0) (.slice d1 (R).nl e1) (.slice d2 (R).nw e2)) ∧ ApartD R (.slice d0 (R).nc e0) (.slice d1 (R).nl e1) (.slice d2 (R).nw e2)) := ⟨⟨s3.mono z3.out, f3'⟩, a3⟩
    have HBW : Hid (Below w.heap.size w w4) := HE.out.2.2.2.trans (q4.mono HE.out.2.2.2.size)
    obtain ⟨⟨r0, r1, r2, r3⟩, f0, f1, f2, f3⟩ := HE.out.2.1.later q4
    clear s3 f3' a3 q4
    have hlo : (w.heap.size + 1 : Nat) < w.heap.size + 2 := Nat.lt_succ_self _
    go_wp2
    exact bodyPost_ret (v := .agg #[.int .i64 r, .slice d0 (R).nc e0, .slice d1 (R).nl e1, .slice d2 (R).nw e2]) (by simp [results, Tryz.results17, go_sem, r0, r1, r2, r3]) rfl ⟨d0, e0, d1, e1, d2, e2, rfl, ⟨((((S3.out.1.1.far hlo _).far hlo _).far hlo _).far hlo _).mono (by omega), (((S3.out.1.2.far _ _).far _ _).far _ _).far _ _, S3.out.2⟩, (((HBW.out.setCell (Nat.le_succ _) _).setCell (Nat.le_succ _) _).setCell (Nat.le_succ _) _).setCell (Nat.le_succ _) _⟩
set_option maxRecDepth 100000 in
set_option maxHeartbeats 4000000 in
theorem colRoll_said (B b N : Nat) (m : Int → Int → Option Int) (nl : Nat) (l : Nat → Int) (nw : Nat) (k : Nat → Int) (g : Nat) (u1 u2 : Value) (a s : Int) (i : Nat) (w : World) (h : Cols w B b N m nl l nw k g u1 u2) (hw : nw ≤ 200) (hi : firstW k nw a s i) (v : Value) (hv : v = if k (i * 4 + 3) = 4 then .nilIface else .iface 111 (.agg #[.int .i64 3])) :
    Calls Tryz.prog 50 #[.pointer (some ⟨b, 0, none⟩), .int .i64 a, .int .i64 s] w fun e w' => e = .returned v ∧ Below w.heap.size w w' := by
  have H : Hid (Cols w B b N m nl l nw k g u1 u2) := h
  have HI : Hid (firstW k nw a s i) := hi
  clear h hi
  go_enter Tryz.func50, Tryz.ntmps50
  go_wp2_with fail
  refine (writeOf_any B b N m nl l nw k g u1 u2 a s _ H.out hw).mono ?_
  rintro e w1 ⟨v1, rfl, ht, q1⟩
  rcases ht with ⟨j, hj, rfl⟩ | ⟨hj, rfl⟩
  · obtain rfl : j = i := hj.one HI.out
    have HB : Hid (Below w.heap.size w (w1.alloc (.cells #[.int .i64 (k (j * 4)), .int .i64 (k (j * 4 + 1)), .int .i64 (k (j * 4 + 2)), .int .i64 (k (j * 4 + 3))] 92))) := q1.trans ((below_alloc w1 _).mono q1.size)
    clear hj HI H q1
    generalize k (j * 4) = n0 at *
    generalize k (j * 4 + 1) = n1 at *
    generalize k (j * 4 + 2) = n2 at *
    generalize k (j * 4 + 3) = n3 at *
    by_cases hc : n3 = 4
    · subst hc
      rw [if_pos rfl] at hv
      subst hv
      go_wp2
      go_ret
      exact ⟨rfl, HB.out⟩
    · rw [if_neg hc] at hv
      subst hv
      go_wp2
      go_ret
      exact ⟨rfl, HB.out⟩
  · exact absurd HI.out (hj i)
set_option maxRecDepth 100000 in
set_option maxHeartbeats 4000000 in
theorem colRoll_bad (B b N : Nat) (m : Int → Int → Option Int) (nl : Nat) (l : Nat → Int) (nw : Nat) (k : Nat → Int) (g : Nat) (u1 u2 : Value) (a s kk : Int) (w : World) (h : Cols w B b N m nl l nw k g u1 u2) (hw : nw ≤ 200) (hi : ∀ i, ¬ firstW k nw a s i)
    (HS : ∀ x, Below w.heap.size w x → Cols x B b N m nl l nw k g u1 u2 → Calls Tryz.prog 87 #[.pointer (some ⟨b, 0, none⟩), .agg #[.int .i64 a, .int .i64 s, .int .i64 s, .int .i64 4]] x fun e w' => e = .returned (.iface 111 (.agg #[.int .i64 kk])) ∧ Below x.heap.size x w') :
    Calls Tryz.prog 50 #[.pointer (some ⟨b, 0, none⟩), .int .i64 a, .int .i64 s] w fun e w' => e = .returned (.iface 111 (.agg #[.int .i64 kk])) ∧ Below w.heap.size w w' := by
  have H : Hid (Cols w B b N m nl l nw k g u1 u2) := h
  have HI : Hid (∀ i, ¬ firstW k nw a s i) := hi
  have HSS : Hid (∀ x, Below w.heap.size w x → Cols x B b N m nl l nw k g u1 u2 → Calls Tryz.prog 87 #[.pointer (some ⟨b, 0, none⟩), .agg #[.int .i64 a, .int .i64 s, .int .i64 s, .int .i64 4]] x fun e w' => e = .returned (.iface 111 (.agg #[.int .i64 kk])) ∧ Below x.heap.size x w') := HS
  clear h hi HS
  go_enter Tryz.func50, Tryz.ntmps50
  go_wp2_with fail
  refine (writeOf_any B b N m nl l nw k g u1 u2 a s _ H.out hw).mono ?_
  rintro e w1 ⟨v1, rfl, ht, q1⟩
  rcases ht with ⟨j, hj, rfl⟩ | ⟨hj, rfl⟩
  · exact absurd hj (HI.out j)
  have HB : Hid (Below w.heap.size w (w1.alloc (.cells #[.int .i64 0, .int .i64 0, .int .i64 0, .int .i64 0] 92))) := q1.trans ((below_alloc w1 _).mono q1.size)
  clear hj q1
  go_wp2_with fail
  refine (HSS.out _ HB.out (H.out.later HB.out)).mono ?_
  rintro e w3 ⟨rfl, q3⟩
  have HB3 : Hid (Below w.heap.size w w3) := HB.out.trans (q3.mono HB.out.size)
  clear q3 HB HSS HI H
  go_wp2
  go_ret
  exact ⟨rfl, HB3.out⟩
set_option maxRecDepth 100000 in
set_option maxHeartbeats 4000000 in
theorem colRoll_done (B b N : Nat) (m : Int → Int → Option Int) (nl : Nat) (l : Nat → Int) (nw : Nat) (k : Nat → Int) (g : Nat) (u1 u2 : Value) (a s : Int) (wa : Wf a) (ws : Wf s) (nl' : Nat) (l' : Nat → Int) (nw' : Nat) (k' : Nat → Int) (w : World) (h : Cols w B b N m nl l nw k g u1 u2) (hw : nw ≤ 200) (hi : ∀ i, ¬ firstW k nw a s i)
    (HS : ∀ x, Below w.heap.size w x → Cols x B b N m nl l nw k g u1 u2 → Calls Tryz.prog 87 #[.pointer (some ⟨b, 0, none⟩), .agg #[.int .i64 a, .int .i64 s, .int .i64 s, .int .i64 4]] x fun e w' => e = .returned .nilIface ∧ (∃ u1' u2', Cols w' B b N m nl' l' nw' k' g u1' u2' ∧ ApartC b g u1' u2') ∧ Below B x w') :
    Calls Tryz.prog 50 #[.pointer (some ⟨b, 0, none⟩), .int .i64 a, .int .i64 s] w fun e w' => e = .returned .nilIface ∧ (∃ u1' u2', Cols w' B b N (delM m a s) nl' l' nw' k' g u1' u2') ∧ Below B w w' := by
  have hBx : B ≤ w.heap.size := Nat.le_trans h.1 (Nat.le_of_lt h.2.2.1.lt)
  have hBg : B ≤ g := h.2.1
  have H : Hid (Cols w B b N m nl l nw k g u1 u2) := h
  have HI : Hid (∀ i, ¬ firstW k nw a s i) := hi
  have HSS : Hid (∀ x, Below w.heap.size w x → Cols x B b N m nl l nw k g u1 u2 → Calls Tryz.prog 87 #[.pointer (some ⟨b, 0, none⟩), .agg #[.int .i64 a, .int .i64 s, .int .i64 s, .int .i64 4]] x fun e w' => e = .returned .nilIface ∧ (∃ u1' u2', Cols w' B b N m nl' l' nw' k' g u1' u2' ∧ ApartC b g u1' u2') ∧ Below B x w') := HS
  clear h hi HS
  go_enter Tryz.func50, Tryz.ntmps50
  go_wp2_with fail
  refine (writeOf_any B b N m nl l nw k g u1 u2 a s _ H.out hw).mono ?_
  rintro e w1 ⟨v1, rfl, ht, q1⟩
  rcases ht with ⟨j, hj, rfl⟩ | ⟨hj, rfl⟩
  · exact absurd hj (HI.out j)
  have HB : Hid (Below w.heap.size w (w1.alloc (.cells #[.int .i64 0, .int .i64 0, .int .i64 0, .int .i64 0] 92))) := q1.trans ((below_alloc w1 _).mono q1.size)
  clear hj q1
  go_wp2_with fail
  refine (HSS.out _ HB.out (H.out.later HB.out)).mono ?_
  rintro e w3 ⟨rfl, ⟨x1, x2, hC, hA⟩, q3⟩
  have HB3 : Hid (Below B w w3) := (HB.out.mono hBx).trans q3
  have HC : Hid (Cols w3 B b N m nl' l' nw' k' g x1 x2 ∧ ApartC b g x1 x2) := ⟨hC, hA⟩
  obtain ⟨⟨t0, t1, t2⟩, _⟩ := hC.2.2.1
  clear q3 HB HSS HI H hC hA
  go_wp2_with (at_delete; refine wpList_pdrop _ rfl _ _ rfl g N m rfl HC.out.1.2.2.2.1 a s rfl wa ws ?_; intro w4 P4 G4)
  have hk4 : ∀ i, i < w3.heap.size → i ≠ g → w4.heap[i]? = w3.heap[i]? := fun i hi hne => G4.block i hi (fun e => hne (Option.some.inj e))
  go_ret
  refine ⟨rfl, ⟨x1, x2, HC.out.1.1, HC.out.1.2.1, HC.out.1.2.2.1.kept (hk4 b HC.out.1.2.2.1.lt (fun e => HC.out.2.1 e.symm)), P4, HC.out.1.2.2.2.2.1.kept (fun j hj => hk4 j (own_in HC.out.1.2.2.2.2.1 j hj).2 (HC.out.2.2.1 j hj).2), HC.out.1.2.2.2.2.2.kept (fun j hj => hk4 j (own_in HC.out.1.2.2.2.2.2 j hj).2 (HC.out.2.2.2.1 j hj).2)⟩, ⟨G4.os.trans HB3.out.os, G4.tape.trans HB3.out.tape, G4.output.trans HB3.out.output, Nat.le_trans HB3.out.size G4.size, fun i hi => (hk4 i (Nat.lt_of_lt_of_le (by omega) HB3.out.size) (by omega)).trans (HB3.out.block i hi)⟩⟩
/-- What the columns' rollback comes to. -/
def ColRoll (x : World) (B b g : Nat) (r : Int) (R : Sto) (e : Ending) (w' : World) : Prop :=
  Below B x w' ∧ ((∃ kk, e = .returned (.iface 111 (.agg #[.int .i64 kk])) ∧ codeOf kk r ∧ R = emptyS) ∨
    (e = .returned .nilIface ∧ r = 0 ∧ (R.nl ≤ 200 ∧ R.nw ≤ 200) ∧ ∃ N m u1' u2', N ≤ 400 ∧ MapRow m R.nc R.c ∧ Cols w' B b N m R.nl R.l R.nw R.k g u1' u2'))
theorem colRoll_res (S : Sto) (hz : storeF S = 0) (B b g : Nat) (u1 u2 : Value) (a s r : Int) (wa : Wf a) (ws : Wf s) (R : Sto) (x : World) (h : Cols x B b S.nc (cellM S S.nc) S.nl S.l S.nw S.k g u1 u2) (hA : ApartC b g u1 u2) (hR : RollRes S a s r R) :
    Calls Tryz.prog 50 #[.pointer (some ⟨b, 0, none⟩), .int .i64 a, .int .i64 s] x (ColRoll x B b g r R) := by
  have Z := storeF_zero hz
  obtain ⟨⟨hc, hl, hw⟩, zc, _, zw, _⟩ := Z
  have hBx : B ≤ x.heap.size := Nat.le_trans h.1 (Nat.le_of_lt h.2.2.1.lt)
  rcases hR with ⟨i, h1, h2, rfl, rfl⟩ | ⟨i, h1, h2, rfl, rfl⟩ | ⟨h1, h4, rfl, rfl⟩ | ⟨h1, h4, h5, rfl, rfl⟩ | ⟨k, h1, h4, h5, h6, rfl, rfl⟩
  · refine (colRoll_said B b _ _ _ _ _ _ g u1 u2 a s i x h hw (first_w h1) _ rfl).mono ?_
    rintro e w' ⟨rfl, hb⟩
    rw [if_pos h2]
    exact ⟨hb.mono hBx, Or.inr ⟨rfl, rfl, ⟨hl, hw⟩, _, _, u1, u2, by omega, self_map zc, h.later hb⟩⟩
  · refine (colRoll_said B b _ _ _ _ _ _ g u1 u2 a s i x h hw (first_w h1) _ rfl).mono ?_
    rintro e w' ⟨rfl, hb⟩
    rw [if_neg h2]
    exact ⟨hb.mono hBx, Or.inl ⟨3, rfl, by unfold codeOf; decide, rfl⟩⟩
  · refine (colRoll_bad B b _ _ _ _ _ _ g u1 u2 a s 4 x h hw (none_w h1) (fun y _ hy => settle_taken B b _ _ _ _ _ _ g u1 u2 a s s _ y hy hw (w_mono zw a s) (w_taken zw h4))).mono ?_
    rintro e w' ⟨rfl, hb⟩
    exact ⟨hb.mono hBx, Or.inl ⟨4, rfl, by unfold codeOf; decide, rfl⟩⟩
  · refine (colRoll_bad B b _ _ _ _ _ _ g u1 u2 a s 5 x h hw (none_w h1) (fun y _ hy => settle_full B b _ _ _ _ _ _ g u1 u2 a s s _ y hy (by omega) (w_mono zw a s) (fun q _ hq => h4 ⟨q, hq.1, hq.2⟩))).mono ?_
    rintro e w' ⟨rfl, hb⟩
    exact ⟨hb.mono hBx, Or.inl ⟨5, rfl, by unfold codeOf; decide, rfl⟩⟩
  · refine (colRoll_done B b S.nc (cellM S S.nc) S.nl S.l S.nw S.k g u1 u2 a s wa ws (unlL S.l a s S.nl).length (fun p => (unlL S.l a s S.nl).flatten.getD p 0) (S.nw + 1) (insF S.k 4 S.nw k [a, s, s, 4]) x h hw (none_w h1) (fun y _ hy => (settle_done B b _ _ _ _ _ _ g u1 u2 a s s 4 y hy hA hl h5 (w_mono zw a s) (fun q _ hq => h4 ⟨q, hq.1, hq.2⟩)).mono (fun e w' ⟨e1, ⟨q, v1, v2, hq, hC, hA'⟩, hb⟩ => by
      obtain rfl : q = k := hq.one h6
      exact ⟨e1, ⟨v1, v2, hC, hA'⟩, hb⟩))).mono ?_
    rintro e w' ⟨rfl, ⟨v1, v2, hC⟩, hb⟩
    exact ⟨hb, Or.inr ⟨rfl, rfl, ⟨Nat.le_trans (selD_le _ _ _ _) hl, h5⟩, _, _, v1, v2, by omega, roll_map zc a s, hC⟩⟩
set_option maxRecDepth 100000 in
set_option maxHeartbeats 8000000 in
theorem implRollbackKey_is (S : Sto) (v0 v1 v2 : Value) (a s r : Int) (R : Sto) (B : Nat) (w : World) (h : St w B S v0 v1 v2) (hL : Laid w) (hA : RollAns S a s r R) :
    Calls Tryz.prog 18 #[.agg #[v0, v1, v2], .int .i64 a, .int .i64 s] w (ResSto w r R) := by
  obtain ⟨a0, c0, a1, c1, a2, c2, rfl, rfl, rfl⟩ := h.form
  have HE : Hid (CallSto w B S (.slice a0 S.nc c0) (.slice a1 S.nl c1) (.slice a2 S.nw c2) ((w.alloc (.cells #[.slice a0 S.nc c0, .slice a1 S.nl c1, .slice a2 S.nw c2] 32)).alloc (.cells #[.int .i64 0, .slice none 0 0, .slice none 0 0, .slice none 0 0] 34))) := CallSto.new h _ _
  have HL : Hid (Laid w) := hL
  clear h hL
  unfold ResSto
  rcases hA with ⟨hz, rfl, rfl⟩ | ⟨hz, ht, rfl, rfl⟩ | ⟨hz, ht, hR⟩
  · obtain ⟨f, hf⟩ : ∃ f, askF S a = f := ⟨_, rfl⟩
    have HF : Hid (askF S a = f) := hf
    have hfn : (f == 0) = false := beq_eq_false_iff_ne.2 (by rw [← hf]; exact hz)
    rw [hf]
    clear hz hf
    go_enter Tryz.func18, Tryz.ntmps18
    go_wp2_with fail
    refine (askFault_any S _ _ _ a B _ HE.out.2.2.1).mono ?_
    rw [HF.out]
    rintro e w1 ⟨rfl, q1⟩
    have HE : Hid (CallSto w B S (.slice a0 S.nc c0) (.slice a1 S.nl c1) (.slice a2 S.nw c2) w1) := HE.out.later q1
    obtain ⟨⟨⟨p0, p1, p2⟩, _⟩, ⟨⟨r0, r1, r2, r3⟩, f0, f1, f2, f3⟩, _⟩ := HE.out
    clear q1
    go_wp2
    exact bodyPost_ret (v := .agg #[.int .i64 f, .slice none 0 0, .slice none 0 0, .slice none 0 0]) (by simp [results, Tryz.results18, go_sem, r0, r1, r2, r3]) rfl ⟨none, 0, none, 0, none, 0, rfl, empty_sto _ _, (((HE.out.2.2.2.setCell (Nat.le_succ _) _).setCell (Nat.le_succ _) _).setCell (Nat.le_succ _) _).setCell (Nat.le_succ _) _⟩
  · have HA : Hid (askF S a = 0) := hz
    have HT : Hid (decide (1 ≤ s ∧ s ≤ 100000) = false) := decide_eq_false ht
    clear hz ht
    go_enter Tryz.func18, Tryz.ntmps18
    go_wp2_with fail
    refine (askFault_any S _ _ _ a B _ HE.out.2.2.1).mono ?_
    rw [HA.out]
    rintro e w1 ⟨rfl, q1⟩
    have HE : Hid (CallSto w B S (.slice a0 S.nc c0) (.slice a1 S.nl c1) (.slice a2 S.nw c2) w1) := HE.out.later q1
    obtain ⟨⟨⟨p0, p1, p2⟩, _⟩, ⟨⟨r0, r1, r2, r3⟩, f0, f1, f2, f3⟩, _⟩ := HE.out
    clear q1
    go_wp2_with fail
    refine (isTime_is s false HT.out _).mono ?_
    rintro e w2 ⟨rfl, rfl⟩
    go_wp2
    exact bodyPost_ret (v := .agg #[.int .i64 3, .slice none 0 0, .slice none 0 0, .slice none 0 0]) (by simp [results, Tryz.results18, go_sem, r0, r1, r2, r3]) rfl ⟨none, 0, none, 0, none, 0, rfl, empty_sto _ _, (((HE.out.2.2.2.setCell (Nat.le_succ _) _).setCell (Nat.le_succ _) _).setCell (Nat.le_succ _) _).setCell (Nat.le_succ _) _⟩
  · have HA : Hid (askF S a = 0) := hz
    have hs := (askF_zero hz).1
    have hka := faultOf_zero (askF_zero hz).2
    have WA : Hid (Wf a ∧ Wf s) := ⟨wf_small hka.1 (by omega), by unfold isT at ht; exact wf_small (by omega) ht.2⟩
    have Z := storeF_zero hs
    have HZ : Hid (scan (cellF S.c) S.nc = 0 ∧ (S.nc ≤ 200 ∧ S.nl ≤ 200 ∧ S.nw ≤ 200)) := ⟨Z.2.1, Z.1⟩
    have HS : Hid (storeF S = 0) := hs
    have HR : Hid (RollRes S a s r R) := hR
    have HT : Hid (decide (1 ≤ s ∧ s ≤ 100000) = true) := decide_eq_true ht
    clear hz hs ht hR Z hka
    go_enter Tryz.func18, Tryz.ntmps18
    go_wp2_with fail
    refine (askFault_any S _ _ _ a B _ HE.out.2.2.1).mono ?_
    rw [HA.out]
    rintro e w1 ⟨rfl, q1⟩
    have HE : Hid (CallSto w B S (.slice a0 S.nc c0) (.slice a1 S.nl c1) (.slice a2 S.nw c2) w1) := HE.out.later q1
    obtain ⟨⟨⟨p0, p1, p2⟩, _⟩, ⟨⟨r0, r1, r2, r3⟩, f0, f1, f2, f3⟩, _⟩ := HE.out
    clear q1
    go_wp2_with fail
    refine (isTime_is s true HT.out _).mono ?_
    rintro e w2' ⟨rfl, rfl⟩
    go_wp2_with fail
    refine (columnsOf_apart S B _ _ _ _ HE.out.2.2.1 HZ.out.2.1 HZ.out.2.2.1 HZ.out.2.2.2 HZ.out.1).mono ?_
    rintro e w2 ⟨b, g, u1, u2, rfl, hC, hap, q1⟩
    clear p0 p1 p2 r0 r1 r2 r3 f0 f1 f2 f3
    have HC : Hid (Cols w2 w2'.heap.size b S.nc (cellM S S.nc) S.nl S.l S.nw S.k g u1 u2 ∧ ApartC b g u1 u2) := ⟨hC, hap⟩
    have zw : Hid (w.heap.size + 2 ≤ w2'.heap.size) := HE.out.2.1.lt
    have HE : Hid (CallSto w B S (.slice a0 S.nc c0) (.slice a1 S.nl c1) (.slice a2 S.nw c2) w2) := HE.out.later q1
    clear q1 hC hap
    go_wp2_with fail
    refine (colRoll_res S HS.out _ b g u1 u2 a s r WA.out.1 WA.out.2 R w2 HC.out.1 HC.out.2 HR.out).mono ?_
    rintro e w3 ⟨hb3, hans⟩
    have HR3 : Hid (Blk4 w3 (w.heap.size + 1) (.int .i64 0) (.slice none 0 0) (.slice none 0 0) (.slice none 0 0) ∧ Below w.heap.size w w3) := ⟨HE.out.2.1.kept (hb3.block (w.heap.size + 1) (by have := zw.out; omega)), HE.out.2.2.2.trans (hb3.mono (by have := zw.out; omega))⟩
    have z3 : Hid (w.heap.size + 2 ≤ w3.heap.size) := HR3.out.1.lt
    clear hb3 HE HC
    rcases hans with ⟨kk, rfl, hk, rfl⟩ | ⟨rfl, rfl, hn, NN, mm, y1, y2, hNN, hMM, hC3⟩
    · have hrn : (r == 0) = false := beq_eq_false_iff_ne.2 (by unfold codeOf at hk; omega)
      have HK : Hid (codeOf kk r) := hk
      clear hk HR
      go_wp2_with fail
      refine (unless_hit kk r HK.out hrn (some ⟨b, 0, none⟩) w3 (HL.out.later HR3.out.2)).mono ?_
      rintro e w4 ⟨d0, e0, d1, e1, d2, e2, rfl, ⟨s3, f3', a3⟩, q4⟩
      have S3 : Hid ((St w4 (w.heap.size + 2) emptyS (.slice d0 (emptyS).nc e0) (.slice d1 (emptyS).nl e1) (.slice d2 (emptyS).nw e2) ∧ FreeS w4 emptyS (.slice d0 (emptyS).nc e0) (.slice d1 (emptyS).nl e1) (.slice d2 (emptyS).nw e2)) ∧ ApartD emptyS (.slice d0 (emptyS).nc e0) (.slice d1 (emptyS).nl e1) (.slice d2 (emptyS).nw e2)) := ⟨⟨s3.mono z3.out, f3'⟩, a3⟩
      have HBW : Hid (Below w.heap.size w w4) := HR3.out.2.trans (q4.mono HR3.out.2.size)
      obtain ⟨⟨r0, r1, r2, r3⟩, f0, f1, f2, f3⟩ := HR3.out.1.later q4
      clear s3 f3' a3 q4
      have hlo : (w.heap.size + 1 : Nat) < w.heap.size + 2 := Nat.lt_succ_self _
      go_wp2
      exact bodyPost_ret (v := .agg #[.int .i64 r, .slice d0 emptyS.nc e0, .slice d1 emptyS.nl e1, .slice d2 emptyS.nw e2]) (by simp [results, Tryz.results18, go_sem, r0, r1, r2, r3]) rfl ⟨d0, e0, d1, e1, d2, e2, rfl, ⟨((((S3.out.1.1.far hlo _).far hlo _).far hlo _).far hlo _).mono (by omega), (((S3.out.1.2.far _ _).far _ _).far _ _).far _ _, S3.out.2⟩, (((HBW.out.setCell (Nat.le_succ _) _).setCell (Nat.le_succ _) _).setCell (Nat.le_succ _) _).setCell (Nat.le_succ _) _⟩
    · obtain ⟨nc, cc, nl, l, nw, k⟩ := R
      have HC3 : Hid (Cols w3 w2'.heap.size b NN mm nl l nw k g y1 y2 ∧ MapRow mm nc cc) := ⟨hC3, hMM⟩
      have HM : Hid ((nl ≤ 200 ∧ nw ≤ 200) ∧ NN ≤ 400) := ⟨hn, hNN⟩
      clear hC3 hn hNN hMM HR
      go_wp2_with fail
      refine (unless_ok _ b NN mm nl l nw k g y1 y2 w3 HC3.out.1 HM.out.1.1 HM.out.1.2 HM.out.2 nc cc HC3.out.2).mono ?_
      rintro e w4 ⟨d0, e0, d1, e1, d2, e2, rfl, ⟨s3, f3', a3⟩, q4⟩
      obtain ⟨RR, hRR⟩ : ∃ RR : Sto, RR = ⟨nc, cc, nl, l, nw, k⟩ := ⟨_, rfl⟩
      rw [← hRR] at s3 f3' a3 ⊢
      have HRR : Hid (RR = ⟨nc, cc, nl, l, nw, k⟩) := hRR
      clear hRR
      have S3 : Hid ((St w4 (w.heap.size + 2) RR (.slice d0 (RR).nc e0) (.slice d1 (RR).nl e1) (.slice d2 (RR).nw e2) ∧ FreeS w4 RR (.slice d0 (RR).nc e0) (.slice d1 (RR).nl e1) (.slice d2 (RR).nw e2)) ∧ ApartD RR (.slice d0 (RR).nc e0) (.slice d1 (RR).nl e1) (.slice d2 (RR).nw e2)) := ⟨⟨s3.mono z3.out, f3'⟩, a3⟩
      have HBW : Hid (Below w.heap.size w w4) := HR3.out.2.trans (q4.mono HR3.out.2.size)
      obtain ⟨⟨r0, r1, r2, r3⟩, f0, f1, f2, f3⟩ := HR3.out.1.later q4
      clear s3 f3' a3 q4
      have hlo : (w.heap.size + 1 : Nat) < w.heap.size + 2 := Nat.lt_succ_self _
      go_wp2
      have hRR := HRR.out
      clear HRR
      subst hRR
      exact bodyPost_ret (v := .agg #[.int .i64 0, .slice d0 nc e0, .slice d1 nl e1, .slice d2 nw e2]) (by simp [results, Tryz.results18, go_sem, r0, r1, r2, r3]) rfl ⟨d0, e0, d1, e1, d2, e2, rfl, ⟨((((S3.out.1.1.far hlo _).far hlo _).far hlo _).far hlo _).mono (by omega), (((S3.out.1.2.far _ _).far _ _).far _ _).far _ _, S3.out.2⟩, (((HBW.out.setCell (Nat.le_succ _) _).setCell (Nat.le_succ _) _).setCell (Nat.le_succ _) _).setCell (Nat.le_succ _) _⟩
theorem RollRes.get (S : Sto) (hz : storeF S = 0) (a s : Int) : ∃ r R, Small R ∧ RollRes S a s r R := by
  obtain ⟨⟨hc, hl, hw⟩, _⟩ := storeF_zero hz
  have hS : Small S := ⟨by omega, by omega, by omega⟩
  obtain ⟨i, hi⟩ := FirstAt.get (writeIs S.k a s) S.nw
  rcases hi with ⟨rfl, hn⟩ | ⟨i, hi, rfl, hp, hq⟩
  · have h1 : FirstAt (writeIs S.k a s) S.nw (-1) := Or.inl ⟨rfl, hn⟩
    by_cases h4 : ∃ i, i < S.nw ∧ writeAt S.k a s i
    · exact ⟨6, emptyS, small_empty, Or.inr (Or.inr (Or.inl ⟨h1, h4, rfl, rfl⟩))⟩
    · by_cases h5 : 200 ≤ S.nw
      · exact ⟨2, emptyS, small_empty, Or.inr (Or.inr (Or.inr (Or.inl ⟨h1, h4, h5, rfl, rfl⟩)))⟩
      · obtain ⟨k, hk⟩ := placeAt.get (aheadW S.k a s) S.nw
        refine ⟨0, rollS S a s k, ⟨Nat.le_trans (selD_le _ _ _ _) hS.1, Nat.le_trans (selD_le _ _ _ _) hS.2.1, ?_⟩, Or.inr (Or.inr (Or.inr (Or.inr ⟨k, h1, h4, by omega, hk, rfl, rfl⟩)))⟩
        show S.nw + 1 ≤ _
        omega
  · have h1 : FirstAt (writeIs S.k a s) S.nw (i : Int) := Or.inr ⟨i, hi, rfl, hp, hq⟩
    by_cases h2 : S.k (i * 4 + 3) = 4
    · exact ⟨0, S, hS, Or.inl ⟨i, h1, h2, rfl, rfl⟩⟩
    · exact ⟨6, emptyS, small_empty, Or.inr (Or.inl ⟨i, h1, h2, rfl, rfl⟩)⟩
theorem RollAns.get (S : Sto) (a s : Int) : ∃ r R, Small R ∧ RollAns S a s r R := by
  by_cases hz : askF S a = 0
  · by_cases hs : isT s
    · obtain ⟨r, R, h1, h2⟩ := RollRes.get S (askF_zero hz).1 a s
      exact ⟨r, R, h1, Or.inr (Or.inr ⟨hz, hs, h2⟩)⟩
    · exact ⟨3, emptyS, small_empty, Or.inr (Or.inl ⟨hz, hs, rfl, rfl⟩)⟩
  · exact ⟨_, emptyS, small_empty, Or.inl ⟨hz, rfl, rfl⟩⟩
theorem rollbackKey_ans (S : Sto) (a s : Int) : ∃ r R, (R.nc ≤ 1048576 ∧ R.nl ≤ 1048576 ∧ R.nw ≤ 1048576) ∧
      (∀ y0 y1 y2 x, St x 0 S y0 y1 y2 → Calls Tryz.prog 17 #[.agg #[y0, y1, y2], .int .i64 a, .int .i64 s] x (ResSto x r R)) ∧
      (∀ y0 y1 y2 x, St x 0 S y0 y1 y2 → Laid x → Calls Tryz.prog 18 #[.agg #[y0, y1, y2], .int .i64 a, .int .i64 s] x (ResSto x r R)) := by
  obtain ⟨r, R, hb, hA⟩ := RollAns.get S a s
  exact ⟨r, R, hb, fun y0 y1 y2 x hx => specRollbackKey_is S y0 y1 y2 a s r R 0 x hx hA, fun y0 y1 y2 x hx hL => implRollbackKey_is S y0 y1 y2 a s r R 0 x hx hL hA⟩
theorem rollbackKey_walk (S : Sto) (v0 v1 v2 : Value) (a s : Int) (w : World) (h : St w 0 S v0 v1 v2) (hc : S.nc ≤ 9223372036854775807) (hl : S.nl ≤ 9223372036854775807) (hk : S.nw ≤ 9223372036854775807) (_ : (∀ p, (Lit.int .i64 (S.c p)).wf = true) ∧ (∀ p, (Lit.int .i64 (S.l p)).wf = true) ∧ ∀ p, (Lit.int .i64 (S.k p)).wf = true) (_ : (Lit.int .i64 a).wf = true) (_ : (Lit.int .i64 s).wf = true) (hL : Laid w) :
    Calls Tryz.prog 5 #[.agg #[v0, v1, v2], .int .i64 a, .int .i64 s] w fun e w' => e = .returned (.bool true) ∧ Below w.heap.size w w' :=
  exactRollbackKey_walk S v0 v1 v2 a s w h hc hl hk hL (fun _ _ _ => rollbackKey_ans S a s)
end
end Go.Proofs.YtnkdphdpecgmiaaGreatDoor
