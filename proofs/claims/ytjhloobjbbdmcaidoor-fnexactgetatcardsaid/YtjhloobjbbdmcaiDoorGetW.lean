/-
  Own text. The walk of the law FnExactGetAt: over every store and all numbers it returns true and turns nothing that was there.
-/
import Derived.Test.YtjhloobjbbdmcaiDoorColsE
import Derived.Test.YtjhloobjbbdmcaiDoorLawE
import Derived.Test.YtjhloobjbbdmcaiDoorStorJ
namespace Go.Proofs.YtjhloobjbbdmcaiDoor
open Go.RowKit

set_option maxRecDepth 100000 in
set_option maxHeartbeats 4000000 in
theorem getAt_walk (S : Sto) (v0 v1 v2 : Value) (key ts : Int) (w : World) (h : St w 0 S v0 v1 v2) (hc : S.nc ≤ 9223372036854775807) (hl : S.nl ≤ 9223372036854775807) (hk : S.nw ≤ 9223372036854775807) (_ : (∀ p, (Lit.int .i64 (S.c p)).wf = true) ∧ (∀ p, (Lit.int .i64 (S.l p)).wf = true) ∧ ∀ p, (Lit.int .i64 (S.k p)).wf = true) (_ : (Lit.int .i64 key).wf = true) (_ : (Lit.int .i64 ts).wf = true) (hL : Laid w) :
    Calls Tryd.prog 3 #[.agg #[v0, v1, v2], .int .i64 key, .int .i64 ts] w fun e w' => e = .returned (.bool true) ∧ Below w.heap.size w w' := by
  obtain ⟨a0, c0, a1, c1, a2, c2, rfl, rfl, rfl⟩ := h.form
  have H : Hid (St w 0 S (.slice a0 S.nc c0) (.slice a1 S.nl c1) (.slice a2 S.nw c2)) := h
  clear h
  by_cases hs : (1048576 : Int) < (S.nc : Int) + S.nl + S.nw
  · go_enter Tryd.func3, Tryd.ntmps3
    go_wp2_with fail
    refine (szStore_no 1048576 _ _ _ _ _ _ _ _ _ _ hs (by omega) (by omega) hc hl hk).mono ?_
    rintro e w1 ⟨rfl, q1⟩
    have Q : Hid (Below w.heap.size w w1) := (below_alloc _ _).trans (q1.mono (by simp))
    clear q1
    go_wp2
    go_ret
    exact ⟨rfl, Q.out⟩
  have hs' : (S.nc : Int) + S.nl + S.nw ≤ 1048576 := by omega
  clear hs
  have Hb : Hid (S.nc ≤ 1048576 ∧ S.nl ≤ 1048576 ∧ S.nw ≤ 1048576) := ⟨by omega, by omega, by omega⟩
  obtain ⟨c, has, v, HG⟩ : ∃ c has v, Hid (GetAns S key ts c has v) := GetAns.get S key ts
  have HL : Hid (Laid w) := hL
  clear hL
  go_enter Tryd.func3, Tryd.ntmps3
  go_wp2_with fail
  refine (szStore_ok 1048576 _ _ _ _ _ _ _ _ _ _ hs' (by omega) (by omega) hc hl hk).mono ?_
  rintro e w1 ⟨rfl, q1⟩
  have P1 : Hid (One w (.slice a0 S.nc c0) (.slice a1 S.nl c1) (.slice a2 S.nw c2) w1) := (One.new w _ _ _).later q1
  obtain ⟨_, ⟨p0, p1, p2⟩, _⟩ := P1.out
  have dz : decide ((1048576 : Int) - S.nc - S.nl - S.nw < 0) = false := decide_eq_false (by omega)
  clear q1 hc hl hk hs'
  go_wp2_with fail
  refine (toStore_any S _ _ _ 0 _ (H.out.later P1.out.1) Hb.out.1 Hb.out.2.1 Hb.out.2.2).mono ?_
  rintro e w3 ⟨x0, x1, x2, rfl, s3, _, q3⟩
  have S3 : Hid (St w3 0 S x0 x1 x2) := s3.mono (Nat.zero_le _)
  have P3 : Hid (One w (.slice a0 S.nc c0) (.slice a1 S.nl c1) (.slice a2 S.nw c2) w3) := P1.out.later q3
  clear s3 q3 P1 p0 p1 p2
  go_wp2_with fail
  refine (specGetAt_is S _ _ _ key ts c has v 0 _ S3.out HG.out).mono ?_
  rintro e w5 ⟨rfl, q5⟩
  have P5 : Hid (One w (.slice a0 S.nc c0) (.slice a1 S.nl c1) (.slice a2 S.nw c2) (w5.alloc (.cells #[.int .i64 c, .bool has, .int .i64 v] 29)) ∧ Blk3 (w5.alloc (.cells #[.int .i64 c, .bool has, .int .i64 v] 29)) w5.heap.size (.int .i64 c) (.bool has) (.int .i64 v)) := ⟨(P3.out.later q5).later (below_alloc _ _), Blk3.new w5 _ _ _ _⟩
  have P5' : Hid (One w (.slice a0 S.nc c0) (.slice a1 S.nl c1) (.slice a2 S.nw c2) w5) := P3.out.later q5
  obtain ⟨_, ⟨p0, p1, p2⟩, _⟩ := P5'.out
  have z5 := P5'.out.2.lt
  clear q5 S3 P3 dz P5'
  go_wp2_with fail
  refine (toStore_any S _ _ _ 0 _ (H.out.later P5.out.1.1) Hb.out.1 Hb.out.2.1 Hb.out.2.2).mono ?_
  rintro e w6 ⟨x0, x1, x2, rfl, s6, _, q6⟩
  obtain ⟨j0, k0, j1, k1, j2, k2, rfl, rfl, rfl⟩ := s6.form
  have S6 : Hid (St w6 0 S (.slice j0 S.nc k0) (.slice j1 S.nl k1) (.slice j2 S.nw k2)) := s6.mono (Nat.zero_le _)
  have P6 : Hid (One w (.slice a0 S.nc c0) (.slice a1 S.nl c1) (.slice a2 S.nw c2) w6 ∧ Blk3 w6 w5.heap.size (.int .i64 c) (.bool has) (.int .i64 v)) := ⟨P5.out.1.later q6, P5.out.2.later q6⟩
  clear s6 q6 P5 p0 p1 p2 z5
  go_wp2_with fail
  refine (implGetAt_is S _ _ _ key ts c has v 0 _ (S6.out.alloc _) (HL.out.later (P6.out.1.1.alloc P6.out.1.1.size _)) HG.out).mono ?_
  rintro e w8 ⟨rfl, q8⟩
  have S8 : Hid (St w8 0 S (.slice j0 S.nc k0) (.slice j1 S.nl k1) (.slice j2 S.nw k2)) := (S6.out.alloc _).later q8
  have P8 : Hid (Two w (.slice a0 S.nc c0) (.slice a1 S.nl c1) (.slice a2 S.nw c2) w6.heap.size (.slice j0 S.nc k0) (.slice j1 S.nl k1) (.slice j2 S.nw k2) w8) := ⟨(P6.out.1.later (below_alloc _ _)).later q8, (Blk3.new w6 (.slice j0 S.nc k0) (.slice j1 S.nl k1) (.slice j2 S.nw k2) 35).later q8⟩
  have B8 := (P6.out.2.alloc (.cells #[.slice j0 S.nc k0, .slice j1 S.nl k1, .slice j2 S.nw k2] 35)).later q8
  obtain ⟨⟨t0, t1, t2⟩, _⟩ := B8
  have z8 := World.block_lt_of_cell? w8 _ t0
  clear q8 S6 P6
  go_wp2_with fail
  refine (eqGetR_same c v has _).mono ?_
  rintro e w9 ⟨rfl, q9⟩
  have q9' := (below_alloc w8 (.cells #[.int .i64 c, .bool has, .int .i64 v] 29)).trans (q9.mono (by simp))
  have S9 : Hid (St w9 0 S (.slice j0 S.nc k0) (.slice j1 S.nl k1) (.slice j2 S.nw k2)) := S8.out.later q9'
  have P9 : Hid (Two w (.slice a0 S.nc c0) (.slice a1 S.nl c1) (.slice a2 S.nw c2) w6.heap.size (.slice j0 S.nc k0) (.slice j1 S.nl k1) (.slice j2 S.nw k2) w9) := P8.out.later q9'
  clear q9 q9' S8 P8 t0 t1 t2 z8
  go_wp2_with fail
  have P8' : Two w (.slice a0 S.nc c0) (.slice a1 S.nl c1) (.slice a2 S.nw c2) w6.heap.size (.slice j0 S.nc k0) (.slice j1 S.nl k1) (.slice j2 S.nw k2) w9.drew := ⟨⟨P9.out.1.1.drew, P9.out.1.2⟩, P9.out.2⟩
  refine wp_region_held_drew (S := Two w (.slice a0 S.nc c0) (.slice a1 S.nl c1) (.slice a2 S.nw c2) w6.heap.size (.slice j0 S.nc k0) (.slice j1 S.nl k1) (.slice j2 S.nw k2)) (by kernel_rfl) P8' (fun hS => ?_)
  clear P8' P9
  refine wpAnyH_take (i := 0) (v := ?_) rfl (by kernel_rfl) (by kernel_rfl) (by kernel_rfl) (fun _ _ _ h => h) (Or.inl ⟨by kernel_rfl, ?_⟩) hS ?_
  rotate_left
  · intro wx hx
    obtain ⟨⟨_, ⟨hx0, hx1, hx2⟩, _⟩, ⟨hx3, hx4, hx5⟩, _⟩ := hx
    go_simp
    try with_reducible rfl
  refine wpAnyH_take (i := 1) (v := ?_) rfl (by kernel_rfl) (by kernel_rfl) (by kernel_rfl) (fun _ _ _ h => h) (Or.inl ⟨by kernel_rfl, ?_⟩) hS ?_
  rotate_left
  · intro wx hx
    obtain ⟨⟨_, ⟨hx0, hx1, hx2⟩, _⟩, ⟨hx3, hx4, hx5⟩, _⟩ := hx
    go_simp
    try with_reducible rfl
  refine wpAnyH_ready (rs := [2]) (by kernel_rfl) (by simp) ?_
  refine AllReadyH.cons rfl (fun K hK => ?_) AllReadyH.nil
  go_simp
  go_wp2_with fail
  refine (toStore_any S _ _ _ 0 _ (H.out.later hS.1.1) Hb.out.1 Hb.out.2.1 Hb.out.2.2).mono ?_
  rintro e w11 ⟨n0, n1, n2, rfl, s11, _, q11⟩
  have S11 : Hid (St w11 0 S (.slice j0 S.nc k0) (.slice j1 S.nl k1) (.slice j2 S.nw k2) ∧ St w11 0 S n0 n1 n2) := ⟨St.later (w := w9.drew) S9.out q11, s11.mono (Nat.zero_le _)⟩
  have hS' := hS.later q11
  clear s11 q11 S9
  go_wp2_with fail
  refine hK.out _ _ hS' (fun hS => ?_)
  clear hK K hS'
  refine wpAnyH_ready (rs := [3]) (by kernel_rfl) (by simp) ?_
  refine AllReadyH.cons rfl (fun K hK => ?_) AllReadyH.nil
  go_simp
  go_wp2_with fail
  refine (eqStore_same S _ _ _ _ _ _ 0 0 _ S11.out.1 S11.out.2 Hb.out.1 Hb.out.2.1 Hb.out.2.2).mono ?_
  rintro e w12 ⟨rfl, q12⟩
  have hS' := hS.later q12
  clear q12 S11
  go_wp2_with fail
  refine hK.out _ _ hS' (fun hS => ?_)
  clear hK K hS'
  refine wpAnyH_take (i := 4) (v := ?_) rfl (by kernel_rfl) (by kernel_rfl) (by kernel_rfl) (fun _ _ _ h => h) (Or.inl ⟨by kernel_rfl, ?_⟩) hS ?_
  rotate_left
  · intro wx hx
    obtain ⟨⟨_, ⟨hx0, hx1, hx2⟩, _⟩, ⟨hx3, hx4, hx5⟩, _⟩ := hx
    go_simp
    try with_reducible rfl
  refine wpAnyH_done (by kernel_rfl) ?_ _
  go_simp
  go_wp2
  go_ret
  exact ⟨rfl, hS.1.1⟩
end Go.Proofs.YtjhloobjbbdmcaiDoor
