/-
  Own text. The walk of the law FnExactScanAt: over every store and all numbers it returns true and turns nothing that was there.
-/
import Derived.Test.YtjhloobjbbdmcaiGreatDoorMarkC
import Derived.Test.YtjhloobjbbdmcaiGreatDoorStorR
namespace Go.Proofs.YtjhloobjbbdmcaiGreatDoor
open Go.RowKit

set_option maxRecDepth 100000 in
set_option maxHeartbeats 8000000 in
theorem exactScanAt_walk (S : Sto) (v0 v1 v2 : Value) (fr to ts : Int) (w : World) (h : St w 0 S v0 v1 v2) (hc : S.nc ≤ 9223372036854775807) (hl : S.nl ≤ 9223372036854775807) (hk : S.nw ≤ 9223372036854775807) (_ : (∀ p, (Lit.int .i64 (S.c p)).wf = true) ∧ (∀ p, (Lit.int .i64 (S.l p)).wf = true) ∧ ∀ p, (Lit.int .i64 (S.k p)).wf = true) (_ : (Lit.int .i64 fr).wf = true) (_ : (Lit.int .i64 to).wf = true) (_ : (Lit.int .i64 ts).wf = true) (hL : Laid w) :
    Calls Tryz.prog 6 #[.agg #[v0, v1, v2], .int .i64 fr, .int .i64 to, .int .i64 ts] w fun e w' => e = .returned (.bool true) ∧ Below w.heap.size w w' := by
  obtain ⟨a0, c0, a1, c1, a2, c2, rfl, rfl, rfl⟩ := h.form
  have H : Hid (St w 0 S (.slice a0 S.nc c0) (.slice a1 S.nl c1) (.slice a2 S.nw c2)) := h
  clear h
  have HL : Hid (Laid w) := hL
  clear hL
  by_cases hs : (1048576 : Int) < (S.nc : Int) + S.nl + S.nw
  · go_enter Tryz.func6, Tryz.ntmps6
    go_wp2_with fail
    refine (szStore_no 1048576 _ _ _ _ _ _ _ _ _ _ hs (by omega) (by omega) hc hl hk).mono ?_
    rintro e w1 ⟨rfl, q1⟩
    have Q : Hid (Below w.heap.size w w1) := (below_alloc _ _).trans (q1.mono (by simp))
    clear q1
    go_wp2
    go_ret
    exact ⟨rfl, Q.out⟩
  have hs' : (S.nc : Int) + S.nl + S.nw ≤ 1048576 := by omega
  clear hs
  have Hb : Hid (S.nc ≤ 1048576 ∧ S.nl ≤ 1048576 ∧ S.nw ≤ 1048576) := ⟨by omega, by omega, by omega⟩
  obtain ⟨c, n, F, hn1, HA⟩ : ∃ c n F, n ≤ 1000 ∧ Hid (ScanAns S fr to ts c n F) := ScanAns.get S fr to ts
  have hn : Hid (n ≤ 1048576) := by unfold Hid; omega
  have hnn : decide ((1 : Int) + n * 2 < 0) = false := decide_eq_false (by omega)
  go_enter Tryz.func6, Tryz.ntmps6
  go_wp2_with fail
  refine (szStore_ok 1048576 _ _ _ _ _ _ _ _ _ _ hs' (by omega) (by omega) hc hl hk).mono ?_
  rintro e w1 ⟨rfl, q1⟩
  have P1 : Hid (One w (.slice a0 S.nc c0) (.slice a1 S.nl c1) (.slice a2 S.nw c2) w1) := (One.new w _ _ _).later q1
  obtain ⟨_, ⟨p0, p1, p2⟩, _⟩ := P1.out
  have dz : decide ((1048576 : Int) - S.nc - S.nl - S.nw < 0) = false := decide_eq_false (by omega)
  have dk : decide ((1 : Int) + S.nc * 3 + S.nl * 5 + S.nw * 4 < 0) = false := decide_eq_false (by omega)
  clear q1 hc hl hk hs' hn1
  go_wp2_with fail
  refine (toStore_any S _ _ _ 0 _ (H.out.later P1.out.1) Hb.out.1 Hb.out.2.1 Hb.out.2.2).mono ?_
  rintro e w3 ⟨x0, x1, x2, rfl, s3, _, q3⟩
  have S3 : Hid (St w3 0 S x0 x1 x2) := s3.mono (Nat.zero_le _)
  have P3 : Hid (One w (.slice a0 S.nc c0) (.slice a1 S.nl c1) (.slice a2 S.nw c2) w3) := P1.out.later q3
  clear s3 q3 P1 p0 p1 p2
  go_wp2_with fail
  refine (specScanAt_is S _ _ _ fr to ts c n F 0 _ S3.out HA.out).mono ?_
  rintro e w5 ⟨ow, pw, rfl, rw5, _, q5⟩
  have P5 : Hid (One w (.slice a0 S.nc c0) (.slice a1 S.nl c1) (.slice a2 S.nw c2) (w5.alloc (.cells #[.int .i64 c, .slice ow n pw] 48)) ∧ Blk2 (w5.alloc (.cells #[.int .i64 c, .slice ow n pw] 48)) w5.heap.size (.int .i64 c) (.slice ow n pw)) := ⟨(P3.out.later q5).later (below_alloc _ _), Blk2.new w5 _ _ _⟩
  have RW : Hid (Row (w5.alloc (.cells #[.int .i64 c, .slice ow n pw] 48)) w.heap.size 2 n F (.slice ow n pw) ∧ (0 < n → ∀ k, (Value.slice ow n pw).ownBlock = some k → k < w5.heap.size)) := ⟨(rw5.mono P3.out.1.size).alloc _, fun h0 k hk => (rw5.lt h0 k hk).2⟩
  have P5' : Hid (One w (.slice a0 S.nc c0) (.slice a1 S.nl c1) (.slice a2 S.nw c2) w5) := P3.out.later q5
  obtain ⟨_, ⟨p0, p1, p2⟩, _⟩ := P5'.out
  have z5 := P5'.out.2.lt
  clear q5 S3 P3 dz P5' rw5
  go_wp2_with fail
  refine (toStore_any S _ _ _ 0 _ (H.out.later P5.out.1.1) Hb.out.1 Hb.out.2.1 Hb.out.2.2).mono ?_
  rintro e w6 ⟨x0, x1, x2, rfl, s6, fa6, q6⟩
  obtain ⟨j0, k0, j1, k1, j2, k2, rfl, rfl, rfl⟩ := s6.form
  have zz6 : Hid (w5.heap.size + 1 ≤ w6.heap.size) := by have := q6.size; simp at this; unfold Hid; omega
  have S6 : Hid ((St w6 (w5.heap.size + 1) S (.slice j0 S.nc k0) (.slice j1 S.nl k1) (.slice j2 S.nw k2) ∧ FreeS w6 S (.slice j0 S.nc k0) (.slice j1 S.nl k1) (.slice j2 S.nw k2)) ∧ ApartS S (.slice j0 S.nc k0) (.slice j1 S.nl k1) (.slice j2 S.nw k2)) := ⟨⟨by rw [World.size_alloc] at s6; exact s6, fa6.1⟩, fa6.2⟩
  have E6 : Hid ((0 < S.nc → ∀ k, (Value.slice j0 S.nc k0).ownBlock = some k → k < w6.heap.size) ∧ (0 < S.nl → ∀ k, (Value.slice j1 S.nl k1).ownBlock = some k → k < w6.heap.size) ∧ (0 < S.nw → ∀ k, (Value.slice j2 S.nw k2).ownBlock = some k → k < w6.heap.size)) := ⟨fun h0 k hk => (s6.1.lt h0 k hk).2, fun h0 k hk => (s6.2.1.lt h0 k hk).2, fun h0 k hk => (s6.2.2.lt h0 k hk).2⟩
  have P6 : Hid ((One w (.slice a0 S.nc c0) (.slice a1 S.nl c1) (.slice a2 S.nw c2) w6 ∧ Blk2 w6 w5.heap.size (.int .i64 c) (.slice ow n pw)) ∧ Row w6 w.heap.size 2 n F (.slice ow n pw)) := ⟨⟨P5.out.1.later q6, P5.out.2.later q6⟩, RW.out.1.later q6⟩
  have LW : Hid (0 < n → ∀ k, (Value.slice ow n pw).ownBlock = some k → k < w5.heap.size) := RW.out.2
  have zw5 : Hid (w.heap.size < w5.heap.size) := z5
  clear s6 fa6 q6 P5 p0 p1 p2 z5 RW
  go_wp2_with fail
  refine (implScanAt_is S _ _ _ fr to ts c n F 0 _ ((S6.out.1.1.mono (Nat.zero_le _)).alloc _) HA.out (HL.out.later (P6.out.1.1.1.alloc P6.out.1.1.1.size _))).mono ?_
  rintro e w8 ⟨og, pg, rfl, rg8, fg8, q8⟩
  have q8' := (below_alloc w6 (.cells #[.slice j0 S.nc k0, .slice j1 S.nl k1, .slice j2 S.nw k2] 32)).trans (q8.mono (by simp))
  have zz8 : Hid (w6.heap.size + 1 ≤ w8.heap.size) := by have := q8.size; simp at this; unfold Hid; omega
  have Q9 : Hid (LawR w (.slice a0 S.nc c0) (.slice a1 S.nl c1) (.slice a2 S.nw c2) w5.heap.size c (.slice ow n pw) w6.heap.size (.slice j0 S.nc k0) (.slice j1 S.nl k1) (.slice j2 S.nw k2) w8.heap.size (.slice og n pg) (w8.alloc (.cells #[.int .i64 c, .slice og n pg] 48))) := ⟨(P6.out.1.1.later q8').later (below_alloc _ _), (P6.out.1.2.later q8').later (below_alloc _ _), ((Blk3.new w6 (.slice j0 S.nc k0) (.slice j1 S.nl k1) (.slice j2 S.nw k2) 32).later q8).later (below_alloc _ _), Blk2.new w8 _ _ _⟩
  have R9 : Hid (Row (w8.alloc (.cells #[.int .i64 c, .slice og n pg] 48)) w.heap.size 2 n F (.slice ow n pw)) := (P6.out.2.later q8').alloc _
  have G9 : Hid (Row (w8.alloc (.cells #[.int .i64 c, .slice og n pg] 48)) (w6.heap.size + 1) 2 n F (.slice og n pg) ∧ Free (w8.alloc (.cells #[.int .i64 c, .slice og n pg] 48)) (n * 2) (.slice og n pg)) := by
    rw [World.size_alloc] at rg8
    exact ⟨rg8.alloc _, fg8.ofRow rg8 (below_alloc _ _)⟩
  have LG : Hid (0 < n → ∀ k, (Value.slice og n pg).ownBlock = some k → w6.heap.size + 1 ≤ k ∧ k < w8.heap.size) := fun h0 k hk => by have := rg8.lt h0 k hk; rw [World.size_alloc] at this; exact this
  have S9 : Hid ((St (w8.alloc (.cells #[.int .i64 c, .slice og n pg] 48)) (w5.heap.size + 1) S (.slice j0 S.nc k0) (.slice j1 S.nl k1) (.slice j2 S.nw k2) ∧ FreeS (w8.alloc (.cells #[.int .i64 c, .slice og n pg] 48)) S (.slice j0 S.nc k0) (.slice j1 S.nl k1) (.slice j2 S.nw k2)) ∧ ApartS S (.slice j0 S.nc k0) (.slice j1 S.nl k1) (.slice j2 S.nw k2)) := ⟨⟨(S6.out.1.1.later q8').alloc _, (S6.out.1.2.later S6.out.1.1 q8').later (S6.out.1.1.later q8') (below_alloc _ _)⟩, S6.out.2⟩
  obtain ⟨⟨t0, t1⟩, _⟩ := P6.out.1.2.later q8'
  have z8 := World.block_lt_of_cell? w8 _ t0
  clear q8 q8' S6 P6 rg8 fg8
  go_wp2_with fail
  refine (eqScanResult_same c n _ _ _ _ _ _ F _ G9.out.1 R9.out hn.out).mono ?_
  rintro e w9 ⟨rfl, q9⟩
  have Q : Hid (LawR w (.slice a0 S.nc c0) (.slice a1 S.nl c1) (.slice a2 S.nw c2) w5.heap.size c (.slice ow n pw) w6.heap.size (.slice j0 S.nc k0) (.slice j1 S.nl k1) (.slice j2 S.nw k2) w8.heap.size (.slice og n pg) w9) := Q9.out.later q9
  have RR : Hid (Row w9 w.heap.size 2 n F (.slice ow n pw)) := R9.out.later q9
  have GG : Hid (Row w9 (w6.heap.size + 1) 2 n F (.slice og n pg) ∧ Free w9 (n * 2) (.slice og n pg)) := ⟨G9.out.1.later q9, G9.out.2.ofRow G9.out.1 q9⟩
  have SS : Hid ((St w9 (w5.heap.size + 1) S (.slice j0 S.nc k0) (.slice j1 S.nl k1) (.slice j2 S.nw k2) ∧ FreeS w9 S (.slice j0 S.nc k0) (.slice j1 S.nl k1) (.slice j2 S.nw k2)) ∧ ApartS S (.slice j0 S.nc k0) (.slice j1 S.nl k1) (.slice j2 S.nw k2)) := ⟨⟨S9.out.1.1.later q9, S9.out.1.2.later S9.out.1.1 q9⟩, S9.out.2⟩
  clear q9 Q9 R9 G9 S9 t0 t1 z8
  go_wp2_with fail
  refine wp_region_held_drew (S := LawR w (.slice a0 S.nc c0) (.slice a1 S.nl c1) (.slice a2 S.nw c2) w5.heap.size c (.slice ow n pw) w6.heap.size (.slice j0 S.nc k0) (.slice j1 S.nl k1) (.slice j2 S.nw k2) w8.heap.size (.slice og n pg)) (by kernel_rfl) Q.out.drew (fun hS => ?_)
  clear Q
  refine wpAnyH_take (i := 0) (v := ?_) rfl (by kernel_rfl) (by kernel_rfl) (by kernel_rfl) (fun _ _ _ h => h) (Or.inl ⟨by kernel_rfl, ?_⟩) hS ?_
  rotate_left
  · intro wx hx
    obtain ⟨⟨_, ⟨hx0, hx1, hx2⟩, _⟩, _, ⟨⟨hx3, hx4, hx5⟩, _⟩, _⟩ := hx
    go_simp
    try with_reducible rfl
  refine wpAnyH_take (i := 1) (v := ?_) rfl (by kernel_rfl) (by kernel_rfl) (by kernel_rfl) (fun _ _ _ h => h) (Or.inl ⟨by kernel_rfl, ?_⟩) hS ?_
  rotate_left
  · intro wx hx
    obtain ⟨⟨_, ⟨hx0, hx1, hx2⟩, _⟩, _, ⟨⟨hx3, hx4, hx5⟩, _⟩, _⟩ := hx
    go_simp
    try with_reducible rfl
  refine wpAnyH_ready (rs := [2]) (by kernel_rfl) (by simp) ?_
  refine AllReadyH.cons rfl (fun K hK => ?_) AllReadyH.nil
  go_simp
  go_wp2_with fail
  refine (toStore_any S _ _ _ 0 _ (H.out.later hS.1.1) Hb.out.1 Hb.out.2.1 Hb.out.2.2).mono ?_
  rintro e w11 ⟨n0, n1, n2, rfl, s11, _, q11⟩
  have q11' : Below w9.heap.size w9 w11 := ⟨q11.os, q11.tape, q11.output, q11.size, q11.block⟩
  have S11 : Hid (((St w11 (w5.heap.size + 1) S (.slice j0 S.nc k0) (.slice j1 S.nl k1) (.slice j2 S.nw k2) ∧ FreeS w11 S (.slice j0 S.nc k0) (.slice j1 S.nl k1) (.slice j2 S.nw k2)) ∧ ApartS S (.slice j0 S.nc k0) (.slice j1 S.nl k1) (.slice j2 S.nw k2)) ∧ St w11 0 S n0 n1 n2) := ⟨⟨⟨SS.out.1.1.later q11', SS.out.1.2.later SS.out.1.1 q11'⟩, SS.out.2⟩, s11.mono (Nat.zero_le _)⟩
  have RR : Hid (Row w11 w.heap.size 2 n F (.slice ow n pw)) := RR.out.later q11'
  have GG : Hid (Row w11 (w6.heap.size + 1) 2 n F (.slice og n pg) ∧ Free w11 (n * 2) (.slice og n pg)) := ⟨GG.out.1.later q11', GG.out.2.ofRow GG.out.1 q11'⟩
  have hS' := hS.later q11
  clear s11 q11 q11' SS
  go_wp2_with fail
  refine hK.out _ _ hS' (fun hS => ?_)
  clear hK K hS'
  refine wpAnyH_ready (rs := [3]) (by kernel_rfl) (by simp) ?_
  refine AllReadyH.cons rfl (fun K hK => ?_) AllReadyH.nil
  go_simp
  go_wp2_with fail
  refine (eqStore_same S _ _ _ _ _ _ _ 0 _ S11.out.1.1.1 S11.out.2 Hb.out.1 Hb.out.2.1 Hb.out.2.2).mono ?_
  rintro e w12 ⟨rfl, q12⟩
  have SS : Hid ((St w12 (w5.heap.size + 1) S (.slice j0 S.nc k0) (.slice j1 S.nl k1) (.slice j2 S.nw k2) ∧ FreeS w12 S (.slice j0 S.nc k0) (.slice j1 S.nl k1) (.slice j2 S.nw k2)) ∧ ApartS S (.slice j0 S.nc k0) (.slice j1 S.nl k1) (.slice j2 S.nw k2)) := ⟨⟨S11.out.1.1.1.later q12, S11.out.1.1.2.later S11.out.1.1.1 q12⟩, S11.out.1.2⟩
  have RR : Hid (Row w12 w.heap.size 2 n F (.slice ow n pw)) := RR.out.later q12
  have GG : Hid (Row w12 (w6.heap.size + 1) 2 n F (.slice og n pg) ∧ Free w12 (n * 2) (.slice og n pg)) := ⟨GG.out.1.later q12, GG.out.2.ofRow GG.out.1 q12⟩
  have hS' := hS.later q12
  clear q12 S11
  go_wp2_with fail
  refine hK.out _ _ hS' (fun hS => ?_)
  clear hK K hS'
  refine wpAnyH_take (i := 4) (v := ?_) rfl (by kernel_rfl) (by kernel_rfl) (by kernel_rfl) (fun _ _ _ h => h) (Or.inl ⟨by kernel_rfl, ?_⟩) hS ?_
  rotate_left
  · intro wx hx
    obtain ⟨⟨_, ⟨hx0, hx1, hx2⟩, _⟩, _, ⟨⟨hx3, hx4, hx5⟩, _⟩, _⟩ := hx
    go_simp
    try with_reducible rfl
  refine wpAnyH_done (by kernel_rfl) ?_ _
  have Q : Hid (LawR w (.slice a0 S.nc c0) (.slice a1 S.nl c1) (.slice a2 S.nw c2) w5.heap.size c (.slice ow n pw) w6.heap.size (.slice j0 S.nc k0) (.slice j1 S.nl k1) (.slice j2 S.nw k2) w8.heap.size (.slice og n pg) w12) := hS
  obtain ⟨_, _, ⟨⟨p0, p1, p2⟩, _⟩, _⟩ := hS
  go_simp
  go_wp2_with fail
  refine (markStore_any S _ _ _ (w5.heap.size + 1) w6.heap.size _ SS.out.1.1 SS.out.1.2 SS.out.2 E6.out (by have h1 := Q.out.2.2.1.lt; omega) Hb.out.1 Hb.out.2.1 Hb.out.2.2).mono ?_
  rintro e w13 ⟨rfl, W13⟩
  have Q13 : Hid (LawR w (.slice a0 S.nc c0) (.slice a1 S.nl c1) (.slice a2 S.nw c2) w5.heap.size c (.slice ow n pw) w6.heap.size (.slice j0 S.nc k0) (.slice j1 S.nl k1) (.slice j2 S.nw k2) w8.heap.size (.slice og n pg) w13) := Q.out.within W13 (by have := zw5.out; omega) (Or.inl (by omega)) (Or.inr (Nat.le_refl _)) (Or.inr (by have := zz8.out; omega))
  have R13 : Hid (Row w13 w.heap.size 2 n F (.slice ow n pw)) := RR.out.within W13 (fun h0 k hk => Or.inl (by have := LW.out h0 k hk; omega))
  have G13 : Hid (Row w13 (w6.heap.size + 1) 2 n F (.slice og n pg) ∧ Free w13 (n * 2) (.slice og n pg)) := ⟨GG.out.1.within W13 (fun h0 k hk => Or.inr (by have := LG.out h0 k hk; omega)), GG.out.2.within GG.out.1 W13 (fun h0 k hk => Or.inr (by have := LG.out h0 k hk; omega))⟩
  clear W13 Q RR GG SS p0 p1 p2
  obtain ⟨_, ⟨⟨t0, t1⟩, _⟩, _, ⟨⟨g0, g1⟩, _⟩⟩ := Q13.out
  go_wp2_with fail
  refine (eqScanResult_same c n _ _ _ _ _ _ F _ G13.out.1 R13.out hn.out).mono ?_
  rintro e w14 ⟨rfl, q14⟩
  have Q : Hid (LawR w (.slice a0 S.nc c0) (.slice a1 S.nl c1) (.slice a2 S.nw c2) w5.heap.size c (.slice ow n pw) w6.heap.size (.slice j0 S.nc k0) (.slice j1 S.nl k1) (.slice j2 S.nw k2) w8.heap.size (.slice og n pg) w14) := Q13.out.later q14
  have RR : Hid (Row w14 w.heap.size 2 n F (.slice ow n pw)) := R13.out.later q14
  have GG : Hid (Row w14 (w6.heap.size + 1) 2 n F (.slice og n pg) ∧ Free w14 (n * 2) (.slice og n pg)) := ⟨G13.out.1.later q14, G13.out.2.ofRow G13.out.1 q14⟩
  clear q14 Q13 R13 G13 t0 t1 g0 g1
  obtain ⟨_, _, _, ⟨⟨g0, g1⟩, _⟩⟩ := Q.out
  go_wp2_with fail
  refine (markScanResult_any c n _ _ _ F _ GG.out.1 GG.out.2 hn.out).mono ?_
  rintro e w15 ⟨rfl, m15, g15⟩
  have W15 : Within (w6.heap.size + 1) w8.heap.size w14 w15 := Within.of g15 (turn_off LG.out)
  have Q15 : Hid (LawR w (.slice a0 S.nc c0) (.slice a1 S.nl c1) (.slice a2 S.nw c2) w5.heap.size c (.slice ow n pw) w6.heap.size (.slice j0 S.nc k0) (.slice j1 S.nl k1) (.slice j2 S.nw k2) w8.heap.size (.slice og n pg) w15) := Q.out.within W15 (by have := zw5.out; have := zz6.out; omega) (Or.inl (by have := zz6.out; omega)) (Or.inl (by omega)) (Or.inr (Nat.le_refl _))
  have R15 : Hid (Row w15 w.heap.size 2 n F (.slice ow n pw)) := RR.out.within W15 (fun h0 k hk => Or.inl (by have := LW.out h0 k hk; have := zz6.out; omega))
  have M15 : Hid (Row w15 (w6.heap.size + 1) 2 n (fun p => 1 + (p : Nat)) (.slice og n pg)) := m15
  clear m15 g15 W15 Q RR GG g0 g1
  obtain ⟨_, _, _, ⟨⟨g0, g1⟩, _⟩⟩ := Q15.out
  go_wp2_with fail
  refine (heldScanResult_any c n _ _ _ _ M15.out hn.out).mono ?_
  rintro e w16 ⟨rfl, q16⟩
  have Q16 : Hid (LawR w (.slice a0 S.nc c0) (.slice a1 S.nl c1) (.slice a2 S.nw c2) w5.heap.size c (.slice ow n pw) w6.heap.size (.slice j0 S.nc k0) (.slice j1 S.nl k1) (.slice j2 S.nw k2) w8.heap.size (.slice og n pg) w16) := Q15.out.later q16
  have R16 : Hid (Row w16 w.heap.size 2 n F (.slice ow n pw)) := R15.out.later q16
  have M16 : Hid (Row w16 (w6.heap.size + 1) 2 n (fun p => 1 + (p : Nat)) (.slice og n pg)) := M15.out.later q16
  clear q16 Q15 R15 M15 g0 g1
  obtain ⟨⟨_, ⟨p0, p1, p2⟩, _⟩, _⟩ := Q16.out
  go_wp2_with fail
  refine (toStore_any S _ _ _ 0 _ (H.out.later Q16.out.1.1) Hb.out.1 Hb.out.2.1 Hb.out.2.2).mono ?_
  rintro e w17 ⟨x0, x1, x2, rfl, s17, _, q17⟩
  have S17 : Hid (St w17 0 S x0 x1 x2) := s17.mono (Nat.zero_le _)
  have Q17 : Hid (LawR w (.slice a0 S.nc c0) (.slice a1 S.nl c1) (.slice a2 S.nw c2) w5.heap.size c (.slice ow n pw) w6.heap.size (.slice j0 S.nc k0) (.slice j1 S.nl k1) (.slice j2 S.nw k2) w8.heap.size (.slice og n pg) w17) := Q16.out.later q17
  have R17 : Hid (Row w17 w.heap.size 2 n F (.slice ow n pw)) := R16.out.later q17
  have M17 : Hid (Row w17 (w6.heap.size + 1) 2 n (fun p => 1 + (p : Nat)) (.slice og n pg)) := M16.out.later q17
  clear s17 q17 Q16 R16 M16 p0 p1 p2
  go_wp2_with fail
  refine (implScanAt_is S _ _ _ fr to ts c n F 0 _ S17.out HA.out (HL.out.later Q17.out.1.1)).mono ?_
  rintro e w18 ⟨oh, ph, rfl, rh, _, q18⟩
  have Q18 : Hid (LawR w (.slice a0 S.nc c0) (.slice a1 S.nl c1) (.slice a2 S.nw c2) w5.heap.size c (.slice ow n pw) w6.heap.size (.slice j0 S.nc k0) (.slice j1 S.nl k1) (.slice j2 S.nw k2) w8.heap.size (.slice og n pg) w18) := Q17.out.later q18
  have Q19 : Hid (LawR w (.slice a0 S.nc c0) (.slice a1 S.nl c1) (.slice a2 S.nw c2) w5.heap.size c (.slice ow n pw) w6.heap.size (.slice j0 S.nc k0) (.slice j1 S.nl k1) (.slice j2 S.nw k2) w8.heap.size (.slice og n pg) (w18.alloc (.cells #[.int .i64 c, .slice oh n ph] 48))) := Q18.out.later (below_alloc _ _)
  have R19 : Hid (Row (w18.alloc (.cells #[.int .i64 c, .slice oh n ph] 48)) w.heap.size 2 n F (.slice ow n pw)) := (R17.out.later q18).alloc _
  have H19 : Hid (Row (w18.alloc (.cells #[.int .i64 c, .slice oh n ph] 48)) 0 2 n F (.slice oh n ph)) := (rh.mono (Nat.zero_le _)).alloc _
  have M19 : Hid (Row (w18.alloc (.cells #[.int .i64 c, .slice oh n ph] 48)) (w6.heap.size + 1) 2 n (fun p => 1 + (p : Nat)) (.slice og n pg)) := (M17.out.later q18).alloc _
  obtain ⟨_, ⟨⟨t0, t1⟩, _⟩, _⟩ := Q18.out
  have z18 := World.block_lt_of_cell? w18 _ t0
  clear q18 rh Q17 R17 M17 S17 Q18
  go_wp2_with fail
  refine (eqScanResult_same c n _ _ _ _ _ _ F _ H19.out R19.out hn.out).mono ?_
  rintro e w20 ⟨rfl, q20⟩
  have Q20 : Hid (LawR w (.slice a0 S.nc c0) (.slice a1 S.nl c1) (.slice a2 S.nw c2) w5.heap.size c (.slice ow n pw) w6.heap.size (.slice j0 S.nc k0) (.slice j1 S.nl k1) (.slice j2 S.nw k2) w8.heap.size (.slice og n pg) w20) := Q19.out.later q20
  have M20 : Hid (Row w20 (w6.heap.size + 1) 2 n (fun p => 1 + (p : Nat)) (.slice og n pg)) := M19.out.later q20
  clear q20 Q19 R19 H19 M19 t0 t1 z18
  obtain ⟨_, _, _, ⟨⟨g0, g1⟩, _⟩⟩ := Q20.out
  go_wp2_with fail
  refine (heldScanResult_any c n _ _ _ _ M20.out hn.out).mono ?_
  rintro e w21 ⟨rfl, q21⟩
  have Q21 : Hid (LawR w (.slice a0 S.nc c0) (.slice a1 S.nl c1) (.slice a2 S.nw c2) w5.heap.size c (.slice ow n pw) w6.heap.size (.slice j0 S.nc k0) (.slice j1 S.nl k1) (.slice j2 S.nw k2) w8.heap.size (.slice og n pg) w21) := Q20.out.later q21
  clear q21 Q20 M20 g0 g1
  go_wp2
  go_ret
  exact ⟨rfl, Q21.out.1.1⟩
end Go.Proofs.YtjhloobjbbdmcaiGreatDoor
