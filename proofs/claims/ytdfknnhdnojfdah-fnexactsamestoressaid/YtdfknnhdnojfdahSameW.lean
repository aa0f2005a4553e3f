/-
  Own text. The walk of the law FnExactSameStores: over every two stores it returns true and turns nothing that was there.
-/
import Derived.Test.YtdfknnhdnojfdahColsT
namespace Go.Proofs.Ytdfknnhdnojfdah
open Go.RowKit

/-- The two boxes of the law's arguments, and that nothing old has turned. -/
def Pkg (w : World) (v0 v1 v2 u0 u1 u2 : Value) (x : World) : Prop := Below w.heap.size w x ∧ Blk3 x w.heap.size v0 v1 v2 ∧ Blk3 x (w.heap.size + 1) u0 u1 u2
theorem Pkg.later {w x x' : World} {v0 v1 v2 u0 u1 u2 : Value} (h : Pkg w v0 v1 v2 u0 u1 u2 x) (hb : Below x.heap.size x x') : Pkg w v0 v1 v2 u0 u1 u2 x' := ⟨h.1.trans (hb.mono h.1.size), h.2.1.later hb, h.2.2.later hb⟩
/-- .. and two boxes more. -/
def Pkg4 (w : World) (v0 v1 v2 u0 u1 u2 : Value) (g g' : Nat) (x0 x1 x2 y0 y1 y2 : Value) (x : World) : Prop := Pkg w v0 v1 v2 u0 u1 u2 x ∧ Blk3 x g x0 x1 x2 ∧ Blk3 x g' y0 y1 y2
theorem Pkg4.later {w x x' : World} {v0 v1 v2 u0 u1 u2 : Value} {g g' : Nat} {x0 x1 x2 y0 y1 y2 : Value} (h : Pkg4 w v0 v1 v2 u0 u1 u2 g g' x0 x1 x2 y0 y1 y2 x) (hb : Below x.heap.size x x') : Pkg4 w v0 v1 v2 u0 u1 u2 g g' x0 x1 x2 y0 y1 y2 x' := ⟨h.1.later hb, h.2.1.later hb, h.2.2.later hb⟩

def boxL (w : World) (v0 v1 v2 u0 u1 u2 : Value) : World := (w.alloc (.cells #[v0, v1, v2] 26)).alloc (.cells #[u0, u1, u2] 26)
theorem Pkg.new (w : World) (v0 v1 v2 u0 u1 u2 : Value) : Pkg w v0 v1 v2 u0 u1 u2 (boxL w v0 v1 v2 u0 u1 u2) := by
  refine ⟨(below_alloc _ _).alloc (by simp) _, (Blk3.new w v0 v1 v2 26).alloc _, ?_⟩
  have := Blk3.new (w.alloc (.cells #[v0, v1, v2] 26)) u0 u1 u2 26
  rwa [World.size_alloc] at this
set_option maxRecDepth 100000 in
set_option maxHeartbeats 4000000 in
theorem same_walk (S T : Sto) (v0 v1 v2 u0 u1 u2 : Value) (w : World) (h : St w 0 S v0 v1 v2) (h' : St w 0 T u0 u1 u2) (hc : S.nc ≤ 9223372036854775807) (hl : S.nl ≤ 9223372036854775807) (hk : S.nw ≤ 9223372036854775807) (hc' : T.nc ≤ 9223372036854775807) (hl' : T.nl ≤ 9223372036854775807) (hk' : T.nw ≤ 9223372036854775807) :
    Calls Try.prog 7 #[.agg #[v0, v1, v2], .agg #[u0, u1, u2]] w fun e w' => e = .returned (.bool true) ∧ Below w.heap.size w w' := by
  obtain ⟨a0, c0, a1, c1, a2, c2, rfl, rfl, rfl⟩ := h.form
  obtain ⟨b0, d0, b1, d1, b2, d2, rfl, rfl, rfl⟩ := h'.form
  have H : Hid (St w 0 S (.slice a0 S.nc c0) (.slice a1 S.nl c1) (.slice a2 S.nw c2)) := h
  have H' : Hid (St w 0 T (.slice b0 T.nc d0) (.slice b1 T.nl d1) (.slice b2 T.nw d2)) := h'
  clear h h'
  by_cases hs : (1048576 : Int) < (S.nc : Int) + S.nl + S.nw
  · go_enter Try.func7, Try.ntmps7
    go_wp2_with fail
    refine (szStore_no 1048576 _ _ _ _ _ _ _ _ _ _ hs (by omega) (by omega) hc hl hk).mono ?_
    rintro e w1 ⟨rfl, q1⟩
    have Q : Hid (Below w.heap.size w w1) := (((below_alloc _ _).alloc (by simp) _)).trans (q1.mono (by simp; omega))
    clear q1
    go_wp2
    go_ret
    exact ⟨rfl, Q.out⟩
  have hs' : (S.nc : Int) + S.nl + S.nw ≤ 1048576 := by omega
  clear hs
  by_cases ht : (1048576 : Int) - S.nc - S.nl - S.nw < (T.nc : Int) + T.nl + T.nw
  · go_enter Try.func7, Try.ntmps7
    go_wp2_with fail
    refine (szStore_ok 1048576 _ _ _ _ _ _ _ _ _ _ hs' (by omega) (by omega) hc hl hk).mono ?_
    rintro e w1 ⟨rfl, q1⟩
    have P1 : Hid (Pkg w (.slice a0 S.nc c0) (.slice a1 S.nl c1) (.slice a2 S.nw c2) (.slice b0 T.nc d0) (.slice b1 T.nl d1) (.slice b2 T.nw d2) w1) := (Pkg.new w _ _ _ _ _ _).later q1
    obtain ⟨_, _, ⟨p0, p1, p2⟩, _⟩ := P1.out
    clear q1
    go_wp2_with fail
    refine (szStore_no _ _ _ _ _ _ _ _ _ _ _ ht (by omega) (by omega) hc' hl' hk').mono ?_
    rintro e w2 ⟨rfl, q2⟩
    have P2 : Hid (Pkg w (.slice a0 S.nc c0) (.slice a1 S.nl c1) (.slice a2 S.nw c2) (.slice b0 T.nc d0) (.slice b1 T.nl d1) (.slice b2 T.nw d2) w2) := P1.out.later q2
    clear q2 p0 p1 p2 P1
    go_wp2
    go_ret
    exact ⟨rfl, P2.out.1⟩
  have ht' : (T.nc : Int) + T.nl + T.nw ≤ (1048576 : Int) - S.nc - S.nl - S.nw := by omega
  clear ht
  have Hb : Hid ((S.nc ≤ 1048576 ∧ S.nl ≤ 1048576 ∧ S.nw ≤ 1048576) ∧ T.nc ≤ 1048576 ∧ T.nl ≤ 1048576 ∧ T.nw ≤ 1048576) := ⟨⟨by omega, by omega, by omega⟩, by omega, by omega, by omega⟩
  obtain ⟨r, HR⟩ : ∃ r : Bool, Hid (r = true ↔ SameS S T) := by
    by_cases hh : SameS S T
    · exact ⟨true, fun _ => hh, fun _ => rfl⟩
    · exact ⟨false, fun q => absurd q (by decide), fun q => absurd q hh⟩
  go_enter Try.func7, Try.ntmps7
  go_wp2_with fail
  refine (szStore_ok 1048576 _ _ _ _ _ _ _ _ _ _ hs' (by omega) (by omega) hc hl hk).mono ?_
  rintro e w1 ⟨rfl, q1⟩
  have P1 : Hid (Pkg w (.slice a0 S.nc c0) (.slice a1 S.nl c1) (.slice a2 S.nw c2) (.slice b0 T.nc d0) (.slice b1 T.nl d1) (.slice b2 T.nw d2) w1) := (Pkg.new w _ _ _ _ _ _).later q1
  obtain ⟨_, _, ⟨p0, p1, p2⟩, _⟩ := P1.out
  clear q1
  go_wp2_with fail
  refine (szStore_ok _ _ _ _ _ _ _ _ _ _ _ ht' (by omega) (by omega) hc' hl' hk').mono ?_
  rintro e w2 ⟨rfl, q2⟩
  have P2 : Hid (Pkg w (.slice a0 S.nc c0) (.slice a1 S.nl c1) (.slice a2 S.nw c2) (.slice b0 T.nc d0) (.slice b1 T.nl d1) (.slice b2 T.nw d2) w2) := P1.out.later q2
  clear q2 p0 p1 p2 P1
  have dz : decide ((1048576 : Int) - S.nc - S.nl - S.nw - T.nc - T.nl - T.nw < 0) = false := decide_eq_false (by omega)
  clear hc hl hk hc' hl' hk' hs' ht'
  go_wp2_with fail
  have P2' : Pkg4 w (.slice a0 S.nc c0) (.slice a1 S.nl c1) (.slice a2 S.nw c2) (.slice b0 T.nc d0) (.slice b1 T.nl d1) (.slice b2 T.nw d2) w.heap.size w.heap.size (.slice a0 S.nc c0) (.slice a1 S.nl c1) (.slice a2 S.nw c2) (.slice a0 S.nc c0) (.slice a1 S.nl c1) (.slice a2 S.nw c2) w2.drew := ⟨⟨P2.out.1.drew, P2.out.2⟩, P2.out.2.1, P2.out.2.1⟩
  refine wp_region_held_drew (S := Pkg4 w (.slice a0 S.nc c0) (.slice a1 S.nl c1) (.slice a2 S.nw c2) (.slice b0 T.nc d0) (.slice b1 T.nl d1) (.slice b2 T.nw d2) w.heap.size w.heap.size (.slice a0 S.nc c0) (.slice a1 S.nl c1) (.slice a2 S.nw c2) (.slice a0 S.nc c0) (.slice a1 S.nl c1) (.slice a2 S.nw c2)) (by kernel_rfl) P2' (fun hS => ?_)
  clear P2' P2
  refine wpAnyH_take (i := 0) (v := ?_) rfl (by kernel_rfl) (by kernel_rfl) (by kernel_rfl) (fun _ _ _ h => h) (Or.inl ⟨by kernel_rfl, ?_⟩) hS ?_
  rotate_left
  · intro wx hx
    obtain ⟨⟨_, ⟨⟨hx0, hx1, hx2⟩, _⟩, ⟨hx3, hx4, hx5⟩, _⟩, ⟨⟨hx6, hx7, hx8⟩, _⟩, ⟨hx9, hx10, hx11⟩, _⟩ := hx
    go_simp
    try with_reducible rfl
  refine wpAnyH_take (i := 2) (v := ?_) rfl (by kernel_rfl) (by kernel_rfl) (by kernel_rfl) (fun _ _ _ h => h) (Or.inl ⟨by kernel_rfl, ?_⟩) hS ?_
  rotate_left
  · intro wx hx
    obtain ⟨⟨_, ⟨⟨hx0, hx1, hx2⟩, _⟩, ⟨hx3, hx4, hx5⟩, _⟩, ⟨⟨hx6, hx7, hx8⟩, _⟩, ⟨hx9, hx10, hx11⟩, _⟩ := hx
    go_simp
    try with_reducible rfl
  refine wpAnyH_ready (rs := [1]) (by kernel_rfl) (by simp) ?_
  refine AllReadyH.cons rfl (fun K hK => ?_) AllReadyH.nil
  go_simp
  go_wp2_with fail
  refine (toStore_any S _ _ _ 0 _ (H.out.later hS.1.1) Hb.out.1.1 Hb.out.1.2.1 Hb.out.1.2.2).mono ?_
  rintro e w3 ⟨x0, x1, x2, rfl, s3, _, q3⟩
  have S3 : Hid (St w3 0 S x0 x1 x2) := s3.mono (Nat.zero_le _)
  have hS' := hS.later q3
  clear s3 q3
  go_wp2_with fail
  refine hK.out _ _ hS' (fun hS => ?_)
  clear hK K hS'
  refine wpAnyH_ready (rs := [3]) (by kernel_rfl) (by simp) ?_
  refine AllReadyH.cons rfl (fun K hK => ?_) AllReadyH.nil
  go_simp
  go_wp2_with fail
  refine (toStore_any T _ _ _ 0 _ (H'.out.later hS.1.1) Hb.out.2.1 Hb.out.2.2.1 Hb.out.2.2.2).mono ?_
  rintro e w4 ⟨y0, y1, y2, rfl, s4, _, q4⟩
  have S4 : Hid (St w4 0 S x0 x1 x2 ∧ St w4 0 T y0 y1 y2) := ⟨S3.out.later q4, s4.mono (Nat.zero_le _)⟩
  have hS' := hS.later q4
  clear s4 q4 S3
  go_wp2_with fail
  refine hK.out _ _ hS' (fun hS => ?_)
  clear hK K hS'
  refine wpAnyH_ready (rs := [4]) (by kernel_rfl) (by simp) ?_
  refine AllReadyH.cons rfl (fun K hK => ?_) AllReadyH.nil
  go_simp
  go_wp2_with fail
  refine (specSame_any S T _ _ _ _ _ _ 0 0 r _ S4.out.1 S4.out.2 Hb.out.1.1 Hb.out.1.2.1 Hb.out.1.2.2 Hb.out.2.1 Hb.out.2.2.1 Hb.out.2.2.2 HR.out).mono ?_
  rintro e w5 ⟨rfl, q5⟩
  have hS' := hS.later q5
  clear q5 S4
  go_wp2_with fail
  refine hK.out _ _ hS' (fun hS => ?_)
  clear hK K hS'
  refine wpAnyH_take (i := 5) (v := ?_) rfl (by kernel_rfl) (by kernel_rfl) (by kernel_rfl) (fun _ _ _ h => h) (Or.inl ⟨by kernel_rfl, ?_⟩) hS ?_
  rotate_left
  · intro wx hx
    obtain ⟨⟨_, ⟨⟨hx0, hx1, hx2⟩, _⟩, ⟨hx3, hx4, hx5⟩, _⟩, ⟨⟨hx6, hx7, hx8⟩, _⟩, ⟨hx9, hx10, hx11⟩, _⟩ := hx
    go_simp
    try with_reducible rfl
  refine wpAnyH_done (by kernel_rfl) ?_ _
  have P5 : Hid (Pkg w (.slice a0 S.nc c0) (.slice a1 S.nl c1) (.slice a2 S.nw c2) (.slice b0 T.nc d0) (.slice b1 T.nl d1) (.slice b2 T.nw d2) w5) := hS.1
  obtain ⟨⟨p0, p1, p2⟩, _⟩ := hS.1.2.1
  clear hS
  go_simp
  go_wp2_with fail
  refine (toStore_any S _ _ _ 0 _ (H.out.later P5.out.1) Hb.out.1.1 Hb.out.1.2.1 Hb.out.1.2.2).mono ?_
  rintro e w6 ⟨x0, x1, x2, rfl, s6, _, q6⟩
  obtain ⟨j0, k0, j1, k1, j2, k2, rfl, rfl, rfl⟩ := s6.form
  have S6 : Hid (St w6 0 S (.slice j0 S.nc k0) (.slice j1 S.nl k1) (.slice j2 S.nw k2)) := s6.mono (Nat.zero_le _)
  have P6 : Hid (Pkg w (.slice a0 S.nc c0) (.slice a1 S.nl c1) (.slice a2 S.nw c2) (.slice b0 T.nc d0) (.slice b1 T.nl d1) (.slice b2 T.nw d2) w6) := P5.out.later q6
  clear s6 q6 P5 p0 p1 p2
  obtain ⟨_, _, ⟨p0, p1, p2⟩, _⟩ := P6.out
  have z6 : w.heap.size + 1 < w6.heap.size := P6.out.2.2.lt
  go_wp2_with fail
  refine (toStore_any T _ _ _ 0 _ (H'.out.later (P6.out.1.alloc P6.out.1.size _)) Hb.out.2.1 Hb.out.2.2.1 Hb.out.2.2.2).mono ?_
  rintro e w8 ⟨y0, y1, y2, rfl, s8, _, q8⟩
  obtain ⟨l0, m0, l1, m1, l2, m2, rfl, rfl, rfl⟩ := s8.form
  have S8 : Hid (St w8 0 S (.slice j0 S.nc k0) (.slice j1 S.nl k1) (.slice j2 S.nw k2) ∧ St w8 0 T (.slice l0 T.nc m0) (.slice l1 T.nl m1) (.slice l2 T.nw m2)) := ⟨(S6.out.alloc _).later q8, s8.mono (Nat.zero_le _)⟩
  have P8 : Hid (Pkg w (.slice a0 S.nc c0) (.slice a1 S.nl c1) (.slice a2 S.nw c2) (.slice b0 T.nc d0) (.slice b1 T.nl d1) (.slice b2 T.nw d2) w8) := (P6.out.later (below_alloc _ _)).later q8
  have X8 : Hid (Blk3 w8 w6.heap.size (.slice j0 S.nc k0) (.slice j1 S.nl k1) (.slice j2 S.nw k2)) := (Blk3.new w6 (.slice j0 S.nc k0) (.slice j1 S.nl k1) (.slice j2 S.nw k2) 35).later q8
  clear s8 q8 P6 S6 p0 p1 p2
  obtain ⟨⟨p0, p1, p2⟩, _⟩ := X8.out
  have z8 : w6.heap.size < w8.heap.size := X8.out.lt
  go_wp2_with fail
  refine (implSame_any S T _ _ _ _ _ _ 0 0 r _ (S8.out.1.alloc _) (S8.out.2.alloc _) Hb.out.1.1 Hb.out.1.2.1 Hb.out.1.2.2 Hb.out.2.1 Hb.out.2.2.1 Hb.out.2.2.2 HR.out).mono ?_
  rintro e w10 ⟨rfl, q10⟩
  have S10 : Hid (St w10 0 S (.slice j0 S.nc k0) (.slice j1 S.nl k1) (.slice j2 S.nw k2) ∧ St w10 0 T (.slice l0 T.nc m0) (.slice l1 T.nl m1) (.slice l2 T.nw m2)) := ⟨(S8.out.1.alloc _).later q10, (S8.out.2.alloc _).later q10⟩
  have P10 : Hid (Pkg4 w (.slice a0 S.nc c0) (.slice a1 S.nl c1) (.slice a2 S.nw c2) (.slice b0 T.nc d0) (.slice b1 T.nl d1) (.slice b2 T.nw d2) w6.heap.size w8.heap.size (.slice j0 S.nc k0) (.slice j1 S.nl k1) (.slice j2 S.nw k2) (.slice l0 T.nc m0) (.slice l1 T.nl m1) (.slice l2 T.nw m2) w10) := ⟨(P8.out.later (below_alloc _ _)).later q10, (X8.out.alloc _).later q10, (Blk3.new w8 (.slice l0 T.nc m0) (.slice l1 T.nl m1) (.slice l2 T.nw m2) 35).later q10⟩
  clear q10 S8 P8 X8 p0 p1 p2 z6 z8
  go_wp2_with fail
  have P10' : Pkg4 w (.slice a0 S.nc c0) (.slice a1 S.nl c1) (.slice a2 S.nw c2) (.slice b0 T.nc d0) (.slice b1 T.nl d1) (.slice b2 T.nw d2) w6.heap.size w8.heap.size (.slice j0 S.nc k0) (.slice j1 S.nl k1) (.slice j2 S.nw k2) (.slice l0 T.nc m0) (.slice l1 T.nl m1) (.slice l2 T.nw m2) w10.drew := ⟨⟨P10.out.1.1.drew, P10.out.1.2⟩, P10.out.2⟩
  refine wp_region_held_drew (S := Pkg4 w (.slice a0 S.nc c0) (.slice a1 S.nl c1) (.slice a2 S.nw c2) (.slice b0 T.nc d0) (.slice b1 T.nl d1) (.slice b2 T.nw d2) w6.heap.size w8.heap.size (.slice j0 S.nc k0) (.slice j1 S.nl k1) (.slice j2 S.nw k2) (.slice l0 T.nc m0) (.slice l1 T.nl m1) (.slice l2 T.nw m2)) (by kernel_rfl) P10' (fun hS => ?_)
  clear P10' P10
  refine wpAnyH_take (i := 0) (v := ?_) rfl (by kernel_rfl) (by kernel_rfl) (by kernel_rfl) (fun _ _ _ h => h) (Or.inl ⟨by kernel_rfl, ?_⟩) hS ?_
  rotate_left
  · intro wx hx
    obtain ⟨⟨_, ⟨⟨hx0, hx1, hx2⟩, _⟩, ⟨hx3, hx4, hx5⟩, _⟩, ⟨⟨hx6, hx7, hx8⟩, _⟩, ⟨hx9, hx10, hx11⟩, _⟩ := hx
    go_simp
    try with_reducible rfl
  refine wpAnyH_take (i := 1) (v := ?_) rfl (by kernel_rfl) (by kernel_rfl) (by kernel_rfl) (fun _ _ _ h => h) (Or.inl ⟨by kernel_rfl, ?_⟩) hS ?_
  rotate_left
  · intro wx hx
    obtain ⟨⟨_, ⟨⟨hx0, hx1, hx2⟩, _⟩, ⟨hx3, hx4, hx5⟩, _⟩, ⟨⟨hx6, hx7, hx8⟩, _⟩, ⟨hx9, hx10, hx11⟩, _⟩ := hx
    go_simp
    try with_reducible rfl
  refine wpAnyH_ready (rs := [2]) (by kernel_rfl) (by simp) ?_
  refine AllReadyH.cons rfl (fun K hK => ?_) AllReadyH.nil
  go_simp
  go_wp2_with fail
  refine (toStore_any S _ _ _ 0 _ (H.out.later hS.1.1) Hb.out.1.1 Hb.out.1.2.1 Hb.out.1.2.2).mono ?_
  rintro e w11 ⟨n0, n1, n2, rfl, s11, _, q11⟩
  have S11 : Hid ((St w11 0 S (.slice j0 S.nc k0) (.slice j1 S.nl k1) (.slice j2 S.nw k2) ∧ St w11 0 T (.slice l0 T.nc m0) (.slice l1 T.nl m1) (.slice l2 T.nw m2)) ∧ St w11 0 S n0 n1 n2) := ⟨⟨St.later (w := w10.drew) S10.out.1 q11, St.later (w := w10.drew) S10.out.2 q11⟩, s11.mono (Nat.zero_le _)⟩
  have hS' := hS.later q11
  clear s11 q11 S10
  go_wp2_with fail
  refine hK.out _ _ hS' (fun hS => ?_)
  clear hK K hS'
  refine wpAnyH_ready (rs := [3]) (by kernel_rfl) (by simp) ?_
  refine AllReadyH.cons rfl (fun K hK => ?_) AllReadyH.nil
  go_simp
  go_wp2_with fail
  refine (eqStore_same S _ _ _ _ _ _ 0 0 _ S11.out.1.1 S11.out.2 Hb.out.1.1 Hb.out.1.2.1 Hb.out.1.2.2).mono ?_
  rintro e w12 ⟨rfl, q12⟩
  have S12 : Hid (St w12 0 T (.slice l0 T.nc m0) (.slice l1 T.nl m1) (.slice l2 T.nw m2)) := S11.out.1.2.later q12
  have hS' := hS.later q12
  clear q12 S11
  go_wp2_with fail
  refine hK.out _ _ hS' (fun hS => ?_)
  clear hK K hS'
  refine wpAnyH_take (i := 4) (v := ?_) rfl (by kernel_rfl) (by kernel_rfl) (by kernel_rfl) (fun _ _ _ h => h) (Or.inl ⟨by kernel_rfl, ?_⟩) hS ?_
  rotate_left
  · intro wx hx
    obtain ⟨⟨_, ⟨⟨hx0, hx1, hx2⟩, _⟩, ⟨hx3, hx4, hx5⟩, _⟩, ⟨⟨hx6, hx7, hx8⟩, _⟩, ⟨hx9, hx10, hx11⟩, _⟩ := hx
    go_simp
    try with_reducible rfl
  refine wpAnyH_done (by kernel_rfl) ?_ _
  go_simp
  go_wp2_with fail
  have P12' : Pkg4 w (.slice a0 S.nc c0) (.slice a1 S.nl c1) (.slice a2 S.nw c2) (.slice b0 T.nc d0) (.slice b1 T.nl d1) (.slice b2 T.nw d2) w6.heap.size w8.heap.size (.slice j0 S.nc k0) (.slice j1 S.nl k1) (.slice j2 S.nw k2) (.slice l0 T.nc m0) (.slice l1 T.nl m1) (.slice l2 T.nw m2) w12.drew := ⟨⟨hS.1.1.drew, hS.1.2⟩, hS.2⟩
  clear hS
  refine wp_region_held_drew (S := Pkg4 w (.slice a0 S.nc c0) (.slice a1 S.nl c1) (.slice a2 S.nw c2) (.slice b0 T.nc d0) (.slice b1 T.nl d1) (.slice b2 T.nw d2) w6.heap.size w8.heap.size (.slice j0 S.nc k0) (.slice j1 S.nl k1) (.slice j2 S.nw k2) (.slice l0 T.nc m0) (.slice l1 T.nl m1) (.slice l2 T.nw m2)) (by kernel_rfl) P12' (fun hS => ?_)
  clear P12'
  refine wpAnyH_take (i := 0) (v := ?_) rfl (by kernel_rfl) (by kernel_rfl) (by kernel_rfl) (fun _ _ _ h => h) (Or.inl ⟨by kernel_rfl, ?_⟩) hS ?_
  rotate_left
  · intro wx hx
    obtain ⟨⟨_, ⟨⟨hx0, hx1, hx2⟩, _⟩, ⟨hx3, hx4, hx5⟩, _⟩, ⟨⟨hx6, hx7, hx8⟩, _⟩, ⟨hx9, hx10, hx11⟩, _⟩ := hx
    go_simp
    try with_reducible rfl
  refine wpAnyH_take (i := 1) (v := ?_) rfl (by kernel_rfl) (by kernel_rfl) (by kernel_rfl) (fun _ _ _ h => h) (Or.inl ⟨by kernel_rfl, ?_⟩) hS ?_
  rotate_left
  · intro wx hx
    obtain ⟨⟨_, ⟨⟨hx0, hx1, hx2⟩, _⟩, ⟨hx3, hx4, hx5⟩, _⟩, ⟨⟨hx6, hx7, hx8⟩, _⟩, ⟨hx9, hx10, hx11⟩, _⟩ := hx
    go_simp
    try with_reducible rfl
  refine wpAnyH_ready (rs := [2]) (by kernel_rfl) (by simp) ?_
  refine AllReadyH.cons rfl (fun K hK => ?_) AllReadyH.nil
  go_simp
  go_wp2_with fail
  refine (toStore_any T _ _ _ 0 _ (H'.out.later hS.1.1) Hb.out.2.1 Hb.out.2.2.1 Hb.out.2.2.2).mono ?_
  rintro e w13 ⟨n0, n1, n2, rfl, s13, _, q13⟩
  have S13 : Hid (St w13 0 T (.slice l0 T.nc m0) (.slice l1 T.nl m1) (.slice l2 T.nw m2) ∧ St w13 0 T n0 n1 n2) := ⟨St.later (w := w12.drew) S12.out q13, s13.mono (Nat.zero_le _)⟩
  have hS' := hS.later q13
  clear s13 q13 S12
  go_wp2_with fail
  refine hK.out _ _ hS' (fun hS => ?_)
  clear hK K hS'
  refine wpAnyH_ready (rs := [3]) (by kernel_rfl) (by simp) ?_
  refine AllReadyH.cons rfl (fun K hK => ?_) AllReadyH.nil
  go_simp
  go_wp2_with fail
  refine (eqStore_same T _ _ _ _ _ _ 0 0 _ S13.out.1 S13.out.2 Hb.out.2.1 Hb.out.2.2.1 Hb.out.2.2.2).mono ?_
  rintro e w14 ⟨rfl, q14⟩
  have hS' := hS.later q14
  clear q14 S13
  go_wp2_with fail
  refine hK.out _ _ hS' (fun hS => ?_)
  clear hK K hS'
  refine wpAnyH_take (i := 4) (v := ?_) rfl (by kernel_rfl) (by kernel_rfl) (by kernel_rfl) (fun _ _ _ h => h) (Or.inl ⟨by kernel_rfl, ?_⟩) hS ?_
  rotate_left
  · intro wx hx
    obtain ⟨⟨_, ⟨⟨hx0, hx1, hx2⟩, _⟩, ⟨hx3, hx4, hx5⟩, _⟩, ⟨⟨hx6, hx7, hx8⟩, _⟩, ⟨hx9, hx10, hx11⟩, _⟩ := hx
    go_simp
    try with_reducible rfl
  refine wpAnyH_done (by kernel_rfl) ?_ _
  go_simp
  go_wp2
  go_ret
  exact ⟨rfl, hS.1.1⟩
end Go.Proofs.Ytdfknnhdnojfdah
