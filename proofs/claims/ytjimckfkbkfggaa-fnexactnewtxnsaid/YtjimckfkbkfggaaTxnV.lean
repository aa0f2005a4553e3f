/-
  Own text. The walk of the law FnExactNewTxn: over all numbers and all rows it returns true and turns nothing that was there.
-/
import Derived.Test.YtjimckfkbkfggaaTxnM
import Derived.Test.YtjimckfkbkfggaaTxnJ
namespace Go.Proofs.Ytjimckfkbkfggaa
open Go.RowKit

/-- What the model answered (block W) and what the program answered (block G); nothing old has turned. -/
def EnvT (w : World) (W : Nat) (c s' u' st' : Int) (vw : Value) (G : Nat) (vg : Value) (x : World) : Prop := Below w.heap.size w x ∧ Blk7 x W (.int .i64 c) (.int .i64 s') (.int .i64 0) (.int .i64 u') (.int .i64 st') (.int .i64 0) vw ∧ Blk7 x G (.int .i64 c) (.int .i64 s') (.int .i64 0) (.int .i64 u') (.int .i64 st') (.int .i64 0) vg
theorem EnvT.later {w x x' : World} {W G : Nat} {c s' u' st' : Int} {vw vg : Value} (h : EnvT w W c s' u' st' vw G vg x) (hb : Below x.heap.size x x') : EnvT w W c s' u' st' vw G vg x' := ⟨h.1.trans (hb.mono h.1.size), h.2.1.later hb, h.2.2.later hb⟩
theorem EnvT.within {w x x' : World} {W G B E : Nat} {c s' u' st' : Int} {vw vg : Value} (h : EnvT w W c s' u' st' vw G vg x) (hw : Within B E x x') (hL : w.heap.size ≤ B) (hW : W < B ∨ E ≤ W) (hG : G < B ∨ E ≤ G) : EnvT w W c s' u' st' vw G vg x' :=
  ⟨hw.below h.1 hL, h.2.1.kept (hw.block W h.2.1.lt hW), h.2.2.kept (hw.block G h.2.2.lt hG)⟩
/-- A row between two marks of memory. -/
def Bet (x : World) (lo hi m n : Nat) (F : Nat → Int) (v : Value) : Prop := Row x lo m n F v ∧ Free x (n * m) v ∧ (0 < n → ∀ k, v.ownBlock = some k → lo ≤ k ∧ k < hi)
theorem Bet.new {x : World} {lo m n : Nat} {F : Nat → Int} {v : Value} (h : Row x lo m n F v) (hf : Free x (n * m) v) : Bet x lo x.heap.size m n F v := ⟨h, hf, fun h0 k hk => h.lt h0 k hk⟩
theorem Bet.later {x x' : World} {lo hi m n : Nat} {F : Nat → Int} {v : Value} (h : Bet x lo hi m n F v) (hb : Below x.heap.size x x') : Bet x' lo hi m n F v := ⟨h.1.later hb, h.2.1.ofRow h.1 hb, h.2.2⟩
theorem Bet.within {x x' : World} {lo hi m n B E : Nat} {F : Nat → Int} {v : Value} (h : Bet x lo hi m n F v) (hw : Within B E x x') (ho : hi ≤ B ∨ E ≤ lo) : Bet x' lo hi m n F v :=
  ⟨h.1.within hw (fun h0 k hk => by have := h.2.2 h0 k hk; omega), h.2.1.within h.1 hw (fun h0 k hk => by have := h.2.2 h0 k hk; omega), h.2.2⟩
set_option maxRecDepth 100000 in
set_option maxHeartbeats 8000000 in
theorem exactNewTxn_walk (s u : Int) (yr yw : Value) (nr : Nat) (R : Nat → Int) (n : Nat) (F : Nat → Int) (w : World) (hr : Row w 0 1 nr R yr) (hw : Row w 0 3 n F yw) (hnr : nr ≤ 9223372036854775807) (hn : n ≤ 9223372036854775807) :
    Calls Try.prog 5 #[.int .i64 s, .int .i64 u, yr, yw] w fun e w' => e = .returned (.bool true) ∧ Below w.heap.size w w' := by
  obtain ⟨ar, cr, rfl⟩ := hr.form
  obtain ⟨ao, cp, rfl⟩ := hw.form
  have H : Hid (Row w 0 3 n F (.slice ao n cp)) := hw
  have HR : Hid (Row w 0 1 nr R (.slice ar nr cr)) := hr
  clear hw hr
  by_cases hs : (1048576 : Int) < nr
  · have d : decide ((1048576 : Int) < (nr : Int)) = true := decide_eq_true hs
    go_enter Try.func5, Try.ntmps5
    go_wp2
    go_ret
    exact ⟨rfl, Below.refl _ _⟩
  have d : decide ((1048576 : Int) < (nr : Int)) = false := decide_eq_false hs
  have hbr : nr ≤ 1048576 := by omega
  clear hs hnr
  by_cases hs : (1048576 : Int) < n
  · go_enter Try.func5, Try.ntmps5
    go_wp2_with fail
    refine (szItemS_no _ _ _ _ _ hs (by omega) (by omega) hn).mono ?_
    rintro e w1 ⟨rfl, rfl⟩
    go_wp2
    go_ret
    exact ⟨rfl, Below.refl _ _⟩
  have hb : n ≤ 1048576 := by omega
  have dz : decide ((1048576 : Int) - n < 0) = false := decide_eq_false (by omega)
  have dk : decide ((1 : Int) + nr + n * 3 < 0) = false := decide_eq_false (by omega)
  clear hs hn
  obtain ⟨c, s', u', st', m, L, ha⟩ := NewT.get s u n F nr R
  have HS : Hid (∀ yr yw x, Row x 0 1 nr R yr → Row x 0 3 n F yw → Calls Try.prog 12 #[.int .i64 s, .int .i64 u, yr, yw] x (ResT x c s' u' st' m L)) := fun yr yw x h1 h2 => specNewTxn_is s u yw yr n nr F R x h2 h1 hb c s' u' st' m L ha
  have HI : Hid (∀ yr yw x, Row x 0 1 nr R yr → Row x 0 3 n F yw → Calls Try.prog 11 #[.int .i64 s, .int .i64 u, yr, yw] x (ResT x c s' u' st' m L)) := fun yr yw x h1 h2 => implNewTxn_is s u yw yr n nr F R x h2 h1 hb c s' u' st' m L ha
  have hm : m ≤ 12 := by
    rcases ha with ⟨_, _, _, _, _, h, _⟩ | ⟨_, q, _, hf, ⟨_, _, _, _, h, _⟩ | ⟨h0, _, _, _, h, _⟩⟩
    · omega
    · omega
    · rw [h0] at hf
      have := (txnF_zero hf).2.1
      omega
  obtain ⟨G, hG⟩ : ∃ G : Nat → Int, (fun p => L.getD p 0) = G := ⟨_, rfl⟩
  have HG : Hid ((fun p => L.getD p 0) = G) := hG
  have hnn : decide ((1 : Int) + m * 3 < 0) = false := decide_eq_false (by omega)
  clear ha hG
  go_enter Try.func5, Try.ntmps5
  go_wp2_with fail
  refine (szItemS_ok _ _ _ _ _ (by omega) (by omega)).mono ?_
  rintro e w9 ⟨rfl, hw9⟩
  obtain rfl := hw9.symm
  clear hw9
  go_wp2_with fail
  refine (toInts_cap _ 0 nr R _ HR.out hbr).mono ?_
  rintro e w1 ⟨u1, rfl, r1, _, q1⟩
  have Q1 : Hid (Below w.heap.size w w1 ∧ Row w1 0 1 nr R (.slice u1 nr nr)) := ⟨q1, r1.mono (Nat.zero_le _)⟩
  clear r1 q1
  go_wp2_with fail
  refine (toItemS_cap _ 0 n F _ (H.out.later Q1.out.1) hb).mono ?_
  rintro e w2 ⟨u2, rfl, r2, _, q2⟩
  have Q2 : Hid (Below w.heap.size w w2 ∧ Row w2 0 1 nr R (.slice u1 nr nr) ∧ Row w2 0 3 n F (.slice u2 n n)) := ⟨Q1.out.1.trans (q2.mono Q1.out.1.size), Q1.out.2.later q2, r2.mono (Nat.zero_le _)⟩
  clear r2 q2 Q1
  go_wp2_with fail
  refine (HS.out _ _ _ Q2.out.2.1 Q2.out.2.2).mono ?_
  rintro e w3 ⟨vw, rfl, o3, q3⟩
  obtain ⟨ow, pw, rfl⟩ := o3.form
  have B3 : Hid (Below w.heap.size w w3) := Q2.out.1.trans (q3.mono Q2.out.1.size)
  have VW3 : Hid (Bet w3 w.heap.size w3.heap.size 3 m G (.slice ow m pw)) := by
    have := o3.rowL
    rw [HG.out] at this
    exact Bet.new (this.1.mono Q2.out.1.size) this.2
  clear o3 q3 Q2
  obtain ⟨w4, e4⟩ : ∃ x, x = w3.alloc (.cells #[.int .i64 c, .int .i64 s', .int .i64 0, .int .i64 u', .int .i64 st', .int .i64 0, .slice ow m pw] 31) := ⟨_, rfl⟩
  have W4 : Hid (Below w.heap.size w w4 ∧ Blk7 w4 w3.heap.size (.int .i64 c) (.int .i64 s') (.int .i64 0) (.int .i64 u') (.int .i64 st') (.int .i64 0) (.slice ow m pw) ∧ Bet w4 w.heap.size w3.heap.size 3 m G (.slice ow m pw)) := by
    rw [e4]
    exact ⟨B3.out.alloc B3.out.size _, Blk7.new w3 _ _ _ _ _ _ _ _, VW3.out.later (below_alloc _ _)⟩
  have z4 : Hid (w.heap.size ≤ w3.heap.size ∧ w3.heap.size + 1 = w4.heap.size) := ⟨B3.out.size, by rw [e4, World.size_alloc]⟩
  go_wp2_with fail
  rw [← e4]
  clear B3 VW3 e4
  refine (toInts_cap _ 0 nr R _ (HR.out.later W4.out.1) hbr).mono ?_
  rintro e w5 ⟨u5, rfl, r5, f5, q5⟩
  have W5 : Hid (Below w.heap.size w w5 ∧ Blk7 w5 w3.heap.size (.int .i64 c) (.int .i64 s') (.int .i64 0) (.int .i64 u') (.int .i64 st') (.int .i64 0) (.slice ow m pw) ∧ Bet w5 w.heap.size w3.heap.size 3 m G (.slice ow m pw) ∧ Bet w5 w4.heap.size w5.heap.size 1 nr R (.slice u5 nr nr)) := ⟨W4.out.1.trans (q5.mono W4.out.1.size), W4.out.2.1.later q5, W4.out.2.2.later q5, Bet.new r5 f5⟩
  have z5 : Hid (w4.heap.size ≤ w5.heap.size) := q5.size
  clear r5 f5 q5 W4
  go_wp2_with fail
  refine (toItemS_cap _ 0 n F _ (H.out.later W5.out.1) hb).mono ?_
  rintro e w6 ⟨u6, rfl, r6, f6, q6⟩
  have W6 : Hid (Below w.heap.size w w6 ∧ Blk7 w6 w3.heap.size (.int .i64 c) (.int .i64 s') (.int .i64 0) (.int .i64 u') (.int .i64 st') (.int .i64 0) (.slice ow m pw) ∧ Bet w6 w.heap.size w3.heap.size 3 m G (.slice ow m pw) ∧ Bet w6 w4.heap.size w5.heap.size 1 nr R (.slice u5 nr nr) ∧ Bet w6 w5.heap.size w6.heap.size 3 n F (.slice u6 n n)) := ⟨W5.out.1.trans (q6.mono W5.out.1.size), W5.out.2.1.later q6, W5.out.2.2.1.later q6, W5.out.2.2.2.later q6, Bet.new r6 f6⟩
  have z6 : Hid (w5.heap.size ≤ w6.heap.size) := q6.size
  clear r6 f6 q6 W5
  go_wp2_with fail
  refine (HI.out _ _ _ (W6.out.2.2.2.1.1.mono (Nat.zero_le _)) (W6.out.2.2.2.2.1.mono (Nat.zero_le _))).mono ?_
  rintro e w7 ⟨vg, rfl, o7, q7⟩
  obtain ⟨og, pg, rfl⟩ := o7.form
  have z7 : Hid (w6.heap.size ≤ w7.heap.size) := q7.size
  have VG7 : Bet w7 w6.heap.size w7.heap.size 3 m G (.slice og m pg) := by
    have := o7.rowL
    rw [HG.out] at this
    exact Bet.new this.1 this.2
  obtain ⟨w8, e8⟩ : ∃ x, x = w7.alloc (.cells #[.int .i64 c, .int .i64 s', .int .i64 0, .int .i64 u', .int .i64 st', .int .i64 0, .slice og m pg] 31) := ⟨_, rfl⟩
  have q8 : Below w7.heap.size w7 w8 := by rw [e8]; exact below_alloc _ _
  have W8 : Hid (EnvT w w3.heap.size c s' u' st' (.slice ow m pw) w7.heap.size (.slice og m pg) w8) := ⟨(W6.out.1.trans (q7.mono W6.out.1.size)).trans (q8.mono (Nat.le_trans W6.out.1.size q7.size)), (W6.out.2.1.later q7).later q8, by rw [e8]; exact Blk7.new w7 _ _ _ _ _ _ _ _⟩
  have X8 : Hid (Bet w8 w.heap.size w3.heap.size 3 m G (.slice ow m pw) ∧ Bet w8 w4.heap.size w5.heap.size 1 nr R (.slice u5 nr nr) ∧ Bet w8 w5.heap.size w6.heap.size 3 n F (.slice u6 n n) ∧ Bet w8 w6.heap.size w7.heap.size 3 m G (.slice og m pg)) := ⟨(W6.out.2.2.1.later q7).later q8, (W6.out.2.2.2.1.later q7).later q8, (W6.out.2.2.2.2.later q7).later q8, VG7.later q8⟩
  have t7 := (W6.out.2.1.later q7)
  obtain ⟨⟨t0, t1, t2, t3, t4, t5, t6⟩, _⟩ := t7
  have hl := World.block_lt_of_cell? w7 _ t0
  clear o7 q7 q8 VG7 W6
  go_wp2_with fail
  rw [← e8]
  clear e8 t0 t1 t2 t3 t4 t5 t6 hl
  refine (eqTxnResult_same c s' 0 u' st' 0 m G _ _ _ _ _ X8.out.2.2.2.1 X8.out.1.1 (by omega)).mono ?_
  rintro e w9 ⟨rfl, q9⟩
  have W9 : Hid (EnvT w w3.heap.size c s' u' st' (.slice ow m pw) w7.heap.size (.slice og m pg) w9) := W8.out.later q9
  have X9 : Hid (Bet w9 w.heap.size w3.heap.size 3 m G (.slice ow m pw) ∧ Bet w9 w4.heap.size w5.heap.size 1 nr R (.slice u5 nr nr) ∧ Bet w9 w5.heap.size w6.heap.size 3 n F (.slice u6 n n) ∧ Bet w9 w6.heap.size w7.heap.size 3 m G (.slice og m pg)) := ⟨X8.out.1.later q9, X8.out.2.1.later q9, X8.out.2.2.1.later q9, X8.out.2.2.2.later q9⟩
  clear q9 W8 X8
  go_wp2_with fail
  refine (toInts_cap _ 0 nr R _ (HR.out.later W9.out.1) hbr).mono ?_
  rintro e w10 ⟨u10, rfl, r10, _, q10⟩
  have R10 : Hid (Row w10 0 1 nr R (.slice u10 nr nr)) := r10.mono (Nat.zero_le _)
  have W10 : Hid (EnvT w w3.heap.size c s' u' st' (.slice ow m pw) w7.heap.size (.slice og m pg) w10) := W9.out.later q10
  have X10 : Hid (Bet w10 w.heap.size w3.heap.size 3 m G (.slice ow m pw) ∧ Bet w10 w4.heap.size w5.heap.size 1 nr R (.slice u5 nr nr) ∧ Bet w10 w5.heap.size w6.heap.size 3 n F (.slice u6 n n) ∧ Bet w10 w6.heap.size w7.heap.size 3 m G (.slice og m pg)) := ⟨X9.out.1.later q10, X9.out.2.1.later q10, X9.out.2.2.1.later q10, X9.out.2.2.2.later q10⟩
  clear q10 W9 X9
  clear r10
  go_wp2_with fail
  refine (eqInts_same _ _ _ _ nr R _ X10.out.2.1.1 R10.out hbr).mono ?_
  rintro e w11 ⟨rfl, q11⟩
  clear R10
  have W11 : Hid (EnvT w w3.heap.size c s' u' st' (.slice ow m pw) w7.heap.size (.slice og m pg) w11) := W10.out.later q11
  have X11 : Hid (Bet w11 w.heap.size w3.heap.size 3 m G (.slice ow m pw) ∧ Bet w11 w4.heap.size w5.heap.size 1 nr R (.slice u5 nr nr) ∧ Bet w11 w5.heap.size w6.heap.size 3 n F (.slice u6 n n) ∧ Bet w11 w6.heap.size w7.heap.size 3 m G (.slice og m pg)) := ⟨X10.out.1.later q11, X10.out.2.1.later q11, X10.out.2.2.1.later q11, X10.out.2.2.2.later q11⟩
  clear q11 W10 X10
  go_wp2_with fail
  refine (toItemS_cap _ 0 n F _ (H.out.later W11.out.1) hb).mono ?_
  rintro e w12 ⟨u12, rfl, r12, _, q12⟩
  have R12 : Hid (Row w12 0 3 n F (.slice u12 n n)) := r12.mono (Nat.zero_le _)
  have W12 : Hid (EnvT w w3.heap.size c s' u' st' (.slice ow m pw) w7.heap.size (.slice og m pg) w12) := W11.out.later q12
  have X12 : Hid (Bet w12 w.heap.size w3.heap.size 3 m G (.slice ow m pw) ∧ Bet w12 w4.heap.size w5.heap.size 1 nr R (.slice u5 nr nr) ∧ Bet w12 w5.heap.size w6.heap.size 3 n F (.slice u6 n n) ∧ Bet w12 w6.heap.size w7.heap.size 3 m G (.slice og m pg)) := ⟨X11.out.1.later q12, X11.out.2.1.later q12, X11.out.2.2.1.later q12, X11.out.2.2.2.later q12⟩
  clear q12 W11 X11
  clear r12
  go_wp2_with fail
  refine (eqItemS_same _ _ _ _ n F _ X12.out.2.2.1.1 R12.out hb).mono ?_
  rintro e w13 ⟨rfl, q13⟩
  clear R12
  have W13 : Hid (EnvT w w3.heap.size c s' u' st' (.slice ow m pw) w7.heap.size (.slice og m pg) w13) := W12.out.later q13
  have X13 : Hid (Bet w13 w.heap.size w3.heap.size 3 m G (.slice ow m pw) ∧ Bet w13 w4.heap.size w5.heap.size 1 nr R (.slice u5 nr nr) ∧ Bet w13 w5.heap.size w6.heap.size 3 n F (.slice u6 n n) ∧ Bet w13 w6.heap.size w7.heap.size 3 m G (.slice og m pg)) := ⟨X12.out.1.later q13, X12.out.2.1.later q13, X12.out.2.2.1.later q13, X12.out.2.2.2.later q13⟩
  clear q13 W12 X12
  go_wp2_with fail
  refine (markInts_row _ _ nr R 1 _ X13.out.2.1.1 X13.out.2.1.2.1 hbr (by omega) (by omega)).mono ?_
  rintro e w14 ⟨rfl, g14⟩
  have V14 : Within w4.heap.size w5.heap.size w13 w14 := Within.of g14 (turn_off X13.out.2.1.2.2)
  have hz := z4.out; have hz5 := z5.out; have hz6 := z6.out; have hz7 := z7.out
  have W14 : Hid (EnvT w w3.heap.size c s' u' st' (.slice ow m pw) w7.heap.size (.slice og m pg) w14) := W13.out.within V14 (by omega) (Or.inl (by omega)) (Or.inr (by omega))
  have X14 : Hid (Bet w14 w.heap.size w3.heap.size 3 m G (.slice ow m pw) ∧ Bet w14 w5.heap.size w6.heap.size 3 n F (.slice u6 n n) ∧ Bet w14 w6.heap.size w7.heap.size 3 m G (.slice og m pg)) := ⟨X13.out.1.within V14 (by omega), X13.out.2.2.1.within V14 (by omega), X13.out.2.2.2.within V14 (by omega)⟩
  clear g14 V14 W13 X13
  go_wp2_with fail
  refine (markItemS_turn _ _ n F (1 + nr) _ X14.out.2.1.1 X14.out.2.1.2.1 hb (by omega) (by omega)).mono ?_
  rintro e w15 ⟨rfl, _, _, g15⟩
  have V15 : Within w5.heap.size w6.heap.size w14 w15 := Within.of g15 (turn_off X14.out.2.1.2.2)
  have W15 : Hid (EnvT w w3.heap.size c s' u' st' (.slice ow m pw) w7.heap.size (.slice og m pg) w15) := W14.out.within V15 (by omega) (Or.inl (by omega)) (Or.inr (by omega))
  have X15 : Hid (Bet w15 w.heap.size w3.heap.size 3 m G (.slice ow m pw) ∧ Bet w15 w6.heap.size w7.heap.size 3 m G (.slice og m pg)) := ⟨X14.out.1.within V15 (by omega), X14.out.2.2.within V15 (by omega)⟩
  clear g15 V15 W14 X14
  clear hz hz5 hz6 hz7
  obtain ⟨_, ⟨⟨k0, k1, k2, k3, k4, k5, k6⟩, _⟩, ⟨g0, g1, g2, g3, g4, g5, g6⟩, _⟩ := W15.out
  have hlk := World.block_lt_of_cell? w15 _ k0
  have hlg := World.block_lt_of_cell? w15 _ g0
  go_wp2_with fail
  refine (eqTxnResult_same c s' 0 u' st' 0 m G _ _ _ _ _ X15.out.2.1 X15.out.1.1 (by omega)).mono ?_
  rintro e w16 ⟨rfl, q16⟩
  have W16 : Hid (EnvT w w3.heap.size c s' u' st' (.slice ow m pw) w7.heap.size (.slice og m pg) w16) := W15.out.later q16
  have X16 : Hid (Bet w16 w.heap.size w3.heap.size 3 m G (.slice ow m pw) ∧ Bet w16 w6.heap.size w7.heap.size 3 m G (.slice og m pg)) := ⟨X15.out.1.later q16, X15.out.2.later q16⟩
  clear q16 W15 X15 k0 k1 k2 k3 k4 k5 k6 g0 g1 g2 g3 g4 g5 g6 hlk hlg
  obtain ⟨_, ⟨⟨k0, k1, k2, k3, k4, k5, k6⟩, _⟩, ⟨g0, g1, g2, g3, g4, g5, g6⟩, _⟩ := W16.out
  have hlk := World.block_lt_of_cell? w16 _ k0
  have hlg := World.block_lt_of_cell? w16 _ g0
  go_wp2_with fail
  refine (markTxnResult_any c s' 0 u' st' 0 m G _ _ _ X16.out.2.1 X16.out.2.2.1 (by omega)).mono ?_
  rintro e w17 ⟨rfl, m17, g17⟩
  have V17 : Within w6.heap.size w7.heap.size w16 w17 := Within.of g17 (turn_off X16.out.2.2.2)
  have hz := z4.out; have hz5 := z5.out; have hz6 := z6.out; have hz7 := z7.out
  have W17 : Hid (EnvT w w3.heap.size c s' u' st' (.slice ow m pw) w7.heap.size (.slice og m pg) w17) := W16.out.within V17 (by omega) (Or.inl (by omega)) (Or.inr (by omega))
  have X17 : Hid (Bet w17 w.heap.size w3.heap.size 3 m G (.slice ow m pw) ∧ Row w17 w6.heap.size 3 m (fun p => 1 + (p : Nat)) (.slice og m pg)) := ⟨X16.out.1.within V17 (by omega), m17⟩
  clear g17 V17 m17 W16 X16 hz hz5 hz6 hz7 k0 k1 k2 k3 k4 k5 k6 g0 g1 g2 g3 g4 g5 g6 hlk hlg
  obtain ⟨_, ⟨⟨k0, k1, k2, k3, k4, k5, k6⟩, _⟩, ⟨g0, g1, g2, g3, g4, g5, g6⟩, _⟩ := W17.out
  have hlk := World.block_lt_of_cell? w17 _ k0
  have hlg := World.block_lt_of_cell? w17 _ g0
  go_wp2_with fail
  refine (heldTxnResult_any c s' 0 u' st' 0 m _ _ _ X17.out.2 (by omega)).mono ?_
  rintro e w18 ⟨rfl, q18⟩
  have W18 : Hid (EnvT w w3.heap.size c s' u' st' (.slice ow m pw) w7.heap.size (.slice og m pg) w18) := W17.out.later q18
  have X18 : Hid (Bet w18 w.heap.size w3.heap.size 3 m G (.slice ow m pw) ∧ Row w18 w6.heap.size 3 m (fun p => 1 + (p : Nat)) (.slice og m pg)) := ⟨X17.out.1.later q18, X17.out.2.later q18⟩
  clear q18 W17 X17 k0 k1 k2 k3 k4 k5 k6 g0 g1 g2 g3 g4 g5 g6 hlk hlg
  go_wp2_with fail
  refine (toInts_cap _ 0 nr R _ (HR.out.later W18.out.1) hbr).mono ?_
  rintro e w19 ⟨u19, rfl, r19, _, q19⟩
  have R19 : Hid (Row w19 0 1 nr R (.slice u19 nr nr)) := r19.mono (Nat.zero_le _)
  clear r19
  have W19 : Hid (EnvT w w3.heap.size c s' u' st' (.slice ow m pw) w7.heap.size (.slice og m pg) w19) := W18.out.later q19
  have X19 : Hid (Bet w19 w.heap.size w3.heap.size 3 m G (.slice ow m pw) ∧ Row w19 w6.heap.size 3 m (fun p => 1 + (p : Nat)) (.slice og m pg)) := ⟨X18.out.1.later q19, X18.out.2.later q19⟩
  clear q19 W18 X18
  go_wp2_with fail
  refine (toItemS_cap _ 0 n F _ (H.out.later W19.out.1) hb).mono ?_
  rintro e w20 ⟨u20, rfl, r20, _, q20⟩
  have R20 : Hid (Row w20 0 1 nr R (.slice u19 nr nr) ∧ Row w20 0 3 n F (.slice u20 n n)) := ⟨R19.out.later q20, r20.mono (Nat.zero_le _)⟩
  clear r20 R19
  have W20 : Hid (EnvT w w3.heap.size c s' u' st' (.slice ow m pw) w7.heap.size (.slice og m pg) w20) := W19.out.later q20
  have X20 : Hid (Bet w20 w.heap.size w3.heap.size 3 m G (.slice ow m pw) ∧ Row w20 w6.heap.size 3 m (fun p => 1 + (p : Nat)) (.slice og m pg)) := ⟨X19.out.1.later q20, X19.out.2.later q20⟩
  clear q20 W19 X19
  go_wp2_with fail
  refine (HI.out _ _ _ R20.out.1 R20.out.2).mono ?_
  rintro e w21 ⟨vh, rfl, o21, q21⟩
  obtain ⟨oh, ph, rfl⟩ := o21.form
  have R21 : Hid (Row w21 0 3 m G (.slice oh m ph)) := by
    have := o21.rowL.1
    rw [HG.out] at this
    exact this.mono (Nat.zero_le _)
  clear R20 o21
  have W21 : Hid (EnvT w w3.heap.size c s' u' st' (.slice ow m pw) w7.heap.size (.slice og m pg) w21) := W20.out.later q21
  have X21 : Hid (Bet w21 w.heap.size w3.heap.size 3 m G (.slice ow m pw) ∧ Row w21 w6.heap.size 3 m (fun p => 1 + (p : Nat)) (.slice og m pg)) := ⟨X20.out.1.later q21, X20.out.2.later q21⟩
  clear q21 W20 X20
  obtain ⟨w22, e22⟩ : ∃ x, x = w21.alloc (.cells #[.int .i64 c, .int .i64 s', .int .i64 0, .int .i64 u', .int .i64 st', .int .i64 0, .slice oh m ph] 31) := ⟨_, rfl⟩
  have q22 : Below w21.heap.size w21 w22 := by rw [e22]; exact below_alloc _ _
  have R22 : Hid (Row w22 0 3 m G (.slice oh m ph)) := R21.out.later q22
  obtain ⟨_, ⟨⟨t0, t1, t2, t3, t4, t5, t6⟩, _⟩, _⟩ := W21.out
  have hl := World.block_lt_of_cell? w21 _ t0
  clear R21
  have W22 : Hid (EnvT w w3.heap.size c s' u' st' (.slice ow m pw) w7.heap.size (.slice og m pg) w22) := W21.out.later q22
  have X22 : Hid (Bet w22 w.heap.size w3.heap.size 3 m G (.slice ow m pw) ∧ Row w22 w6.heap.size 3 m (fun p => 1 + (p : Nat)) (.slice og m pg)) := ⟨X21.out.1.later q22, X21.out.2.later q22⟩
  clear q22 W21 X21
  go_wp2_with fail
  rw [← e22]
  clear e22 t0 t1 t2 t3 t4 t5 t6 hl
  refine (eqTxnResult_same c s' 0 u' st' 0 m G _ _ _ _ _ R22.out X22.out.1.1 (by omega)).mono ?_
  rintro e w23 ⟨rfl, q23⟩
  clear R22
  have W23 : Hid (EnvT w w3.heap.size c s' u' st' (.slice ow m pw) w7.heap.size (.slice og m pg) w23) := W22.out.later q23
  have X23 : Hid (Bet w23 w.heap.size w3.heap.size 3 m G (.slice ow m pw) ∧ Row w23 w6.heap.size 3 m (fun p => 1 + (p : Nat)) (.slice og m pg)) := ⟨X22.out.1.later q23, X22.out.2.later q23⟩
  clear q23 W22 X22
  obtain ⟨_, ⟨⟨k0, k1, k2, k3, k4, k5, k6⟩, _⟩, ⟨g0, g1, g2, g3, g4, g5, g6⟩, _⟩ := W23.out
  have hlk := World.block_lt_of_cell? w23 _ k0
  have hlg := World.block_lt_of_cell? w23 _ g0
  go_wp2_with fail
  refine (heldTxnResult_any c s' 0 u' st' 0 m _ _ _ X23.out.2 (by omega)).mono ?_
  rintro e w24 ⟨rfl, q24⟩
  have W24 : Hid (EnvT w w3.heap.size c s' u' st' (.slice ow m pw) w7.heap.size (.slice og m pg) w24) := W23.out.later q24
  have X24 : Hid (Bet w24 w.heap.size w3.heap.size 3 m G (.slice ow m pw) ∧ Row w24 w6.heap.size 3 m (fun p => 1 + (p : Nat)) (.slice og m pg)) := ⟨X23.out.1.later q24, X23.out.2.later q24⟩
  clear q24 W23 X23 k0 k1 k2 k3 k4 k5 k6 g0 g1 g2 g3 g4 g5 g6 hlk hlg
  go_wp2
  go_ret
  exact ⟨rfl, W24.out.1⟩
end Go.Proofs.Ytjimckfkbkfggaa
