/-
  Own text, merged of PaiM.
-/
import Derived.Test.YtdbcmckoiacemaaPk2
namespace Go.Proofs.Ytdbcmckoiacemaa
open Go.RowKit

set_option maxHeartbeats 1000000 in
theorem eqPairsResult_same (c : Int) (n : Nat) (a b : Option Addr) (p q : Nat) (Ba Bb : Nat) (F : Nat → Int) (w : World) (ha : Row w Ba 2 n F (.slice a n p)) (hb : Row w Bb 2 n F (.slice b n q)) (hn : n ≤ 1048576) :
    Calls Try.prog 21 #[.agg #[.int .i64 c, .slice a n p], .agg #[.int .i64 c, .slice b n q]] w fun e w' => e = .returned (.bool true) ∧ Below w.heap.size w w' := by
  have HA : Hid (Row w Ba 2 n F (.slice a n p) ∧ Row w Bb 2 n F (.slice b n q)) := ⟨ha, hb⟩
  clear ha hb
  go_enter Try.func21, Try.ntmps21
  go_wp2_with fail
  refine (eqPairS_same _ _ Ba Bb n F _ ((HA.out.1.alloc _).alloc _) ((HA.out.2.alloc _).alloc _) hn).mono ?_
  rintro e w1 ⟨rfl, q1⟩
  have Q : Hid (Below w.heap.size w w1) := ((below_alloc _ _).alloc (by simp) _).trans (q1.mono (by simp; omega))
  clear q1
  go_wp2
  go_ret
  exact ⟨rfl, Q.out⟩
set_option maxHeartbeats 1000000 in
theorem markPairsResult_any (c : Int) (n : Nat) (a : Option Addr) (p : Nat) (B : Nat) (F : Nat → Int) (w : World) (h : Row w B 2 n F (.slice a n p)) (hf : Free w (n * 2) (.slice a n p)) (hn : n ≤ 1048576) :
    Calls Try.prog 25 #[.agg #[.int .i64 c, .slice a n p], .int .i64 1] w fun e w' => e = .returned (.int .i64 (1 + n * 2)) ∧ Row w' B 2 n (fun p => 1 + (p : Nat)) (.slice a n p) ∧ w.grownBy w' (turn n (.slice a n p)) := by
  have HA : Hid (Row w B 2 n F (.slice a n p) ∧ Free w (n * 2) (.slice a n p)) := ⟨h, hf⟩
  clear h hf
  go_enter Try.func25, Try.ntmps25
  go_wp2_with fail
  refine (markPairS_turn _ B n F 1 _ (HA.out.1.alloc _) (HA.out.2.ofRow HA.out.1 (below_alloc _ _)) hn (by omega) (by omega)).mono ?_
  rintro e w1 ⟨rfl, r1, _, g1⟩
  have Q : Hid (w.grownBy w1 (turn n (.slice a n p))) := ⟨g1.os, g1.tape, g1.output, Nat.le_trans (by simp) g1.size, fun k hk hne => (g1.block k (by simp; omega) hne).trans ((below_alloc w _).block k hk)⟩
  have R : Hid (Row w1 B 2 n (fun p => 1 + (p : Nat)) (.slice a n p)) := r1
  clear r1 g1
  go_wp2
  go_ret
  exact ⟨rfl, R.out, Q.out⟩
set_option maxHeartbeats 1000000 in
theorem heldPairsResult_any (c : Int) (n : Nat) (a : Option Addr) (p : Nat) (B : Nat) (w : World) (h : Row w B 2 n (fun p => 1 + (p : Nat)) (.slice a n p)) (hn : n ≤ 1048576) :
    Calls Try.prog 26 #[.agg #[.int .i64 c, .slice a n p], .int .i64 1] w fun e w' => e = .returned (.int .i64 (1 + n * 2)) ∧ Below w.heap.size w w' := by
  have HA : Hid (Row w B 2 n (fun p => 1 + (p : Nat)) (.slice a n p)) := h
  clear h
  go_enter Try.func26, Try.ntmps26
  go_wp2_with fail
  refine (heldPairS_any _ B n 1 _ (HA.out.alloc _) hn (by omega) (by omega)).mono ?_
  rintro e w1 ⟨rfl, rfl⟩
  have hnn : decide ((1 : Int) + n * 2 < 0) = false := decide_eq_false (by omega)
  go_wp2
  go_ret
  exact ⟨rfl, below_alloc _ _⟩
/-- What the model answered (block W) and what the program answered (block G); nothing old has turned. -/
def EnvP (w : World) (W : Nat) (c : Int) (vw : Value) (G : Nat) (vg : Value) (x : World) : Prop := Below w.heap.size w x ∧ Blk2 x W (.int .i64 c) vw ∧ Blk2 x G (.int .i64 c) vg
theorem EnvP.later {w x x' : World} {W G : Nat} {c : Int} {vw vg : Value} (h : EnvP w W c vw G vg x) (hb : Below x.heap.size x x') : EnvP w W c vw G vg x' := ⟨h.1.trans (hb.mono h.1.size), h.2.1.later hb, h.2.2.later hb⟩
theorem Blk2.insideP {x x' : World} {b B E : Nat} {a0 a1 : Value} (h : Blk2 x b a0 a1) (hw : Within B E x x') (ho : b < B ∨ E ≤ b) : Blk2 x' b a0 a1 := h.kept (hw.block b h.lt ho)
theorem EnvP.within {w x x' : World} {W G B E : Nat} {c : Int} {vw vg : Value} (h : EnvP w W c vw G vg x) (hw : Within B E x x') (hL : w.heap.size ≤ B) (hW : W < B ∨ E ≤ W) (hG : G < B ∨ E ≤ G) : EnvP w W c vw G vg x' :=
  ⟨hw.below h.1 hL, h.2.1.insideP hw hW, h.2.2.insideP hw hG⟩
set_option maxRecDepth 100000 in
set_option maxHeartbeats 4000000 in
theorem exactApplyItems_walk (v y : Value) (n ni : Nat) (F Fi : Nat → Int) (w : World) (h : Row w 0 2 n F v) (h' : Row w 0 3 ni Fi y) (hn : n ≤ 9223372036854775807) (hni : ni ≤ 9223372036854775807) :
    Calls Try.prog 5 #[v, y] w fun e w' => e = .returned (.bool true) ∧ Below w.heap.size w w' := by
  obtain ⟨ao, cp, rfl⟩ := h.form
  obtain ⟨bo, bp, rfl⟩ := h'.form
  have H : Hid (Row w 0 2 n F (.slice ao n cp)) := h
  have HJ : Hid (Row w 0 3 ni Fi (.slice bo ni bp)) := h'
  clear h h'
  by_cases hs : (1048576 : Int) < n
  · go_enter Try.func5, Try.ntmps5
    go_wp2_with fail
    refine (szPairS_no _ _ _ _ _ hs (by omega) (by omega) hn).mono ?_
    rintro e w1 ⟨rfl, rfl⟩
    go_wp2
    go_ret
    exact ⟨rfl, Below.refl _ _⟩
  have hb : n ≤ 1048576 := by omega
  have dz : decide ((1048576 : Int) - n < 0) = false := decide_eq_false (by omega)
  by_cases hs2 : (1048576 : Int) - n < ni
  · go_enter Try.func5, Try.ntmps5
    go_wp2_with fail
    refine (szPairS_ok _ _ _ _ _ (by omega) (by omega)).mono ?_
    rintro e w1 ⟨rfl, hw1⟩
    obtain rfl := hw1.symm
    clear hw1
    go_wp2_with fail
    refine (szItemS_no _ _ _ _ _ hs2 (by omega) (by omega) hni).mono ?_
    rintro e w1 ⟨rfl, rfl⟩
    go_wp2
    go_ret
    exact ⟨rfl, Below.refl _ _⟩
  have hbi : ni ≤ 1048576 := by omega
  have dz2 : decide ((1048576 : Int) - n - ni < 0) = false := decide_eq_false (by omega)
  have dk : decide ((1 : Int) + n * 2 + ni * 3 < 0) = false := decide_eq_false (by omega)
  obtain ⟨c, RL, hm, hans⟩ := AppAns.get n F ni Fi
  obtain ⟨G, hG⟩ : ∃ G, rowL RL = G := ⟨_, rfl⟩
  obtain ⟨m, hmm⟩ : ∃ m, RL.length = m := ⟨_, rfl⟩
  rw [hmm] at hm
  have HS : Hid (∀ yo yc zo zc x, Row x 0 2 n F (.slice yo n yc) → Row x 0 3 ni Fi (.slice zo ni zc) → Calls Try.prog 10 #[.slice yo n yc, .slice zo ni zc] x (ResRow 2 x c m G)) := fun yo yc zo zc x q1 q2 => by rw [← hG, ← hmm]; exact specApply_is _ _ 0 0 n ni F Fi c RL x q1 q2 hb hbi hans
  have HI : Hid (∀ yo yc zo zc x, Row x 0 2 n F (.slice yo n yc) → Row x 0 3 ni Fi (.slice zo ni zc) → Calls Try.prog 9 #[.slice yo n yc, .slice zo ni zc] x (ResRow 2 x c m G)) := fun yo yc zo zc x q1 q2 => by rw [← hG, ← hmm]; exact implApply_is _ _ 0 0 n ni F Fi c RL x q1 q2 hb hbi hans
  clear hans hG hmm
  have hnn : decide ((1 : Int) + m * 2 < 0) = false := decide_eq_false (by omega)
  go_enter Try.func5, Try.ntmps5
  go_wp2_with fail
  refine (szPairS_ok _ _ _ _ _ (by omega) (by omega)).mono ?_
  rintro e w1 ⟨rfl, hw1⟩
  obtain rfl := hw1.symm
  clear hw1
  go_wp2_with fail
  refine (szItemS_ok _ _ _ _ _ (by omega) (by omega)).mono ?_
  rintro e w1 ⟨rfl, hw1⟩
  obtain rfl := hw1.symm
  clear hw1 hs hs2 hn hni
  go_wp2_with fail
  refine (toPairS_cap _ 0 n F _ H.out hb).mono ?_
  rintro e w2a ⟨u2, rfl, r2, _, q2⟩
  have Q2a : Hid (Below w.heap.size w w2a) := q2
  have R2a : Hid (Row w2a 0 2 n F (.slice u2 n n)) := r2.mono (Nat.zero_le _)
  clear r2 q2
  go_wp2_with fail
  refine (toItemS_cap _ 0 ni Fi _ (HJ.out.later Q2a.out) hbi).mono ?_
  rintro e w2 ⟨u2i, rfl, r2, _, q2⟩
  have Q2 : Hid (Below w.heap.size w w2) := Q2a.out.trans (q2.mono Q2a.out.size)
  have R2 : Hid (Row w2 0 2 n F (.slice u2 n n) ∧ Row w2 0 3 ni Fi (.slice u2i ni ni)) := ⟨R2a.out.later q2, r2.mono (Nat.zero_le _)⟩
  clear r2 q2 R2a Q2a
  go_wp2_with fail
  refine (HS.out _ _ _ _ _ R2.out.1 R2.out.2).mono ?_
  rintro e w3 ⟨ow, pw, rfl, rw3, _, q3⟩
  have Q3 : Hid (Below w.heap.size w w3) := Q2.out.trans (q3.mono Q2.out.size)
  have P3 : Hid ((Below w.heap.size w (w3.alloc (.cells #[.int .i64 c, .slice ow m pw] 29)) ∧ Blk2 (w3.alloc (.cells #[.int .i64 c, .slice ow m pw] 29)) w3.heap.size (.int .i64 c) (.slice ow m pw)) ∧ Row (w3.alloc (.cells #[.int .i64 c, .slice ow m pw] 29)) w.heap.size 2 m G (.slice ow m pw)) := ⟨⟨Q3.out.alloc Q3.out.size _, Blk2.new w3 _ _ _⟩, (rw3.mono Q2.out.size).alloc _⟩
  have LW : Hid (0 < m → ∀ k, (Value.slice ow m pw).ownBlock = some k → k < w3.heap.size) := fun h0 k hk => (rw3.lt h0 k hk).2
  have z3 : Hid (w.heap.size ≤ w3.heap.size) := Q3.out.size
  clear q3 Q2 R2 rw3 Q3
  go_wp2_with fail
  refine (toPairS_cap _ 0 n F _ (H.out.later P3.out.1.1) hb).mono ?_
  rintro e w4 ⟨uo4, rfl, r4, f4, q4⟩
  obtain ⟨u4, hu4⟩ : ∃ u, u = Value.slice uo4 n n := ⟨_, rfl⟩
  have HU4 : Hid (u4 = Value.slice uo4 n n) := hu4
  rw [← hu4] at r4 f4 ⊢
  clear hu4
  have P4 : Hid ((Below w.heap.size w w4 ∧ Blk2 w4 w3.heap.size (.int .i64 c) (.slice ow m pw)) ∧ Row w4 w.heap.size 2 m G (.slice ow m pw)) := ⟨⟨P3.out.1.1.trans (q4.mono P3.out.1.1.size), P3.out.1.2.later q4⟩, P3.out.2.later q4⟩
  have z4 : Hid (w3.heap.size + 1 ≤ w4.heap.size) := by have := q4.size; simp at this; unfold Hid; omega
  have R4 : Hid (Row w4 (w3.heap.size + 1) 2 n F u4 ∧ Free w4 (n * 2) u4) := ⟨by rw [World.size_alloc] at r4; exact r4, f4⟩
  have L4 : Hid (0 < n → ∀ k, u4.ownBlock = some k → w3.heap.size + 1 ≤ k ∧ k < w4.heap.size) := fun h0 k hk => R4.out.1.lt h0 k hk
  clear r4 f4 q4 P3
  go_wp2_with fail
  refine (toItemS_cap _ 0 ni Fi _ (HJ.out.later P4.out.1.1) hbi).mono ?_
  rintro e wB ⟨uoB, rfl, rB, fB, qB⟩
  obtain ⟨uB, huB⟩ : ∃ u, u = Value.slice uoB ni ni := ⟨_, rfl⟩
  have HUB : Hid (uB = Value.slice uoB ni ni) := huB
  rw [← huB] at rB fB ⊢
  clear huB
  have PB : Hid ((Below w.heap.size w wB ∧ Blk2 wB w3.heap.size (.int .i64 c) (.slice ow m pw)) ∧ Row wB w.heap.size 2 m G (.slice ow m pw)) := ⟨⟨P4.out.1.1.trans (qB.mono P4.out.1.1.size), P4.out.1.2.later qB⟩, P4.out.2.later qB⟩
  have zB : Hid (w4.heap.size ≤ wB.heap.size) := qB.size
  have RB : Hid ((Row wB (w3.heap.size + 1) 2 n F u4 ∧ Free wB (n * 2) u4) ∧ Row wB w4.heap.size 3 ni Fi uB ∧ Free wB (ni * 3) uB) := ⟨⟨R4.out.1.later qB, R4.out.2.ofRow R4.out.1 qB⟩, rB, fB⟩
  have LB : Hid (0 < ni → ∀ k, uB.ownBlock = some k → w4.heap.size ≤ k ∧ k < wB.heap.size) := fun h0 k hk => RB.out.2.1.lt h0 k hk
  clear rB fB qB P4 R4
  go_wp2_with fail
  have HI4 : Calls Try.prog 9 #[u4, uB] wB (ResRow 2 wB c m G) := by
    have := HI.out uo4 n uoB ni wB (by rw [← HU4.out]; exact RB.out.1.1.mono (Nat.zero_le _)) (by rw [← HUB.out]; exact RB.out.2.1.mono (Nat.zero_le _))
    rwa [← HU4.out, ← HUB.out] at this
  refine HI4.mono ?_
  clear HI4 HU4 HUB
  rintro e w5 ⟨og, pg, rfl, rg5, fg5, q5⟩
  have z5 : Hid (wB.heap.size ≤ w5.heap.size) := q5.size
  have Q6 : Hid (EnvP w w3.heap.size c (.slice ow m pw) w5.heap.size (.slice og m pg) (w5.alloc (.cells #[.int .i64 c, .slice og m pg] 29))) := ⟨(PB.out.1.1.trans (q5.mono PB.out.1.1.size)).alloc (Nat.le_trans PB.out.1.1.size q5.size) _, (PB.out.1.2.later q5).alloc _, Blk2.new w5 _ _ _⟩
  have R6 : Hid (Row (w5.alloc (.cells #[.int .i64 c, .slice og m pg] 29)) w.heap.size 2 m G (.slice ow m pw)) := (PB.out.2.later q5).alloc _
  have G6 : Hid (Row (w5.alloc (.cells #[.int .i64 c, .slice og m pg] 29)) wB.heap.size 2 m G (.slice og m pg) ∧ Free (w5.alloc (.cells #[.int .i64 c, .slice og m pg] 29)) (m * 2) (.slice og m pg)) := ⟨rg5.alloc _, fg5.ofRow rg5 (below_alloc _ _)⟩
  have LG : Hid (0 < m → ∀ k, (Value.slice og m pg).ownBlock = some k → wB.heap.size ≤ k ∧ k < w5.heap.size) := fun h0 k hk => rg5.lt h0 k hk
  have S6 : Hid ((Row (w5.alloc (.cells #[.int .i64 c, .slice og m pg] 29)) (w3.heap.size + 1) 2 n F u4 ∧ Free (w5.alloc (.cells #[.int .i64 c, .slice og m pg] 29)) (n * 2) u4) ∧ Row (w5.alloc (.cells #[.int .i64 c, .slice og m pg] 29)) w4.heap.size 3 ni Fi uB ∧ Free (w5.alloc (.cells #[.int .i64 c, .slice og m pg] 29)) (ni * 3) uB) := ⟨⟨(RB.out.1.1.later q5).alloc _, (RB.out.1.2.ofRow RB.out.1.1 q5).ofRow (RB.out.1.1.later q5) (below_alloc _ _)⟩, (RB.out.2.1.later q5).alloc _, (RB.out.2.2.ofRow RB.out.2.1 q5).ofRow (RB.out.2.1.later q5) (below_alloc _ _)⟩
  obtain ⟨⟨t0, t1⟩, _⟩ := PB.out.1.2.later q5
  have hl := (PB.out.1.2.later q5).lt
  clear q5 rg5 fg5 PB RB
  go_wp2_with fail
  refine (eqPairsResult_same c m _ _ _ _ _ _ G _ G6.out.1 R6.out hm).mono ?_
  rintro e w6 ⟨rfl, q6⟩
  have Q : Hid (EnvP w w3.heap.size c (.slice ow m pw) w5.heap.size (.slice og m pg) w6) := Q6.out.later q6
  have RR : Hid (Row w6 w.heap.size 2 m G (.slice ow m pw)) := R6.out.later q6
  have GG : Hid (Row w6 wB.heap.size 2 m G (.slice og m pg) ∧ Free w6 (m * 2) (.slice og m pg)) := ⟨G6.out.1.later q6, G6.out.2.ofRow G6.out.1 q6⟩
  have SS : Hid ((Row w6 (w3.heap.size + 1) 2 n F u4 ∧ Free w6 (n * 2) u4) ∧ Row w6 w4.heap.size 3 ni Fi uB ∧ Free w6 (ni * 3) uB) := ⟨⟨S6.out.1.1.later q6, S6.out.1.2.ofRow S6.out.1.1 q6⟩, S6.out.2.1.later q6, S6.out.2.2.ofRow S6.out.2.1 q6⟩
  clear q6 Q6 R6 G6 S6 t0 t1 hl
  go_wp2_with fail
  refine (toPairS_any _ 0 n F _ (H.out.later Q.out.1) hb).mono ?_
  rintro e w7 ⟨u7, rfl, r7, _, q7⟩
  have Q7 : Hid (EnvP w w3.heap.size c (.slice ow m pw) w5.heap.size (.slice og m pg) w7) := Q.out.later q7
  have RR7 : Hid (Row w7 w.heap.size 2 m G (.slice ow m pw)) := RR.out.later q7
  have GG7 : Hid (Row w7 wB.heap.size 2 m G (.slice og m pg) ∧ Free w7 (m * 2) (.slice og m pg)) := ⟨GG.out.1.later q7, GG.out.2.ofRow GG.out.1 q7⟩
  have SS7 : Hid (((Row w7 (w3.heap.size + 1) 2 n F u4 ∧ Free w7 (n * 2) u4) ∧ Row w7 w4.heap.size 3 ni Fi uB ∧ Free w7 (ni * 3) uB) ∧ Row w7 0 2 n F u7) := ⟨⟨⟨SS.out.1.1.later q7, SS.out.1.2.ofRow SS.out.1.1 q7⟩, SS.out.2.1.later q7, SS.out.2.2.ofRow SS.out.2.1 q7⟩, r7.mono (Nat.zero_le _)⟩
  clear r7 q7 Q RR GG SS
  go_wp2_with fail
  refine (eqPairS_same _ _ _ 0 n F _ SS7.out.1.1.1 SS7.out.2 hb).mono ?_
  rintro e w8a ⟨rfl, q8⟩
  have Q8a : Hid (EnvP w w3.heap.size c (.slice ow m pw) w5.heap.size (.slice og m pg) w8a) := Q7.out.later q8
  have RR8a : Hid (Row w8a w.heap.size 2 m G (.slice ow m pw)) := RR7.out.later q8
  have GG8a : Hid (Row w8a wB.heap.size 2 m G (.slice og m pg) ∧ Free w8a (m * 2) (.slice og m pg)) := ⟨GG7.out.1.later q8, GG7.out.2.ofRow GG7.out.1 q8⟩
  have SS8a : Hid ((Row w8a (w3.heap.size + 1) 2 n F u4 ∧ Free w8a (n * 2) u4) ∧ Row w8a w4.heap.size 3 ni Fi uB ∧ Free w8a (ni * 3) uB) := ⟨⟨SS7.out.1.1.1.later q8, SS7.out.1.1.2.ofRow SS7.out.1.1.1 q8⟩, SS7.out.1.2.1.later q8, SS7.out.1.2.2.ofRow SS7.out.1.2.1 q8⟩
  clear q8 Q7 RR7 GG7 SS7
  go_wp2_with fail
  refine (toItemS_any _ 0 ni Fi _ (HJ.out.later Q8a.out.1) hbi).mono ?_
  rintro e w7b ⟨u7, rfl, r7, _, q7⟩
  have Q7 : Hid (EnvP w w3.heap.size c (.slice ow m pw) w5.heap.size (.slice og m pg) w7b) := Q8a.out.later q7
  have RR7 : Hid (Row w7b w.heap.size 2 m G (.slice ow m pw)) := RR8a.out.later q7
  have GG7 : Hid (Row w7b wB.heap.size 2 m G (.slice og m pg) ∧ Free w7b (m * 2) (.slice og m pg)) := ⟨GG8a.out.1.later q7, GG8a.out.2.ofRow GG8a.out.1 q7⟩
  have SS7 : Hid (((Row w7b (w3.heap.size + 1) 2 n F u4 ∧ Free w7b (n * 2) u4) ∧ Row w7b w4.heap.size 3 ni Fi uB ∧ Free w7b (ni * 3) uB) ∧ Row w7b 0 3 ni Fi u7) := ⟨⟨⟨SS8a.out.1.1.later q7, SS8a.out.1.2.ofRow SS8a.out.1.1 q7⟩, SS8a.out.2.1.later q7, SS8a.out.2.2.ofRow SS8a.out.2.1 q7⟩, r7.mono (Nat.zero_le _)⟩
  clear r7 q7 Q8a RR8a GG8a SS8a
  go_wp2_with fail
  refine (eqItemS_same _ _ _ 0 ni Fi _ SS7.out.1.2.1 SS7.out.2 hbi).mono ?_
  rintro e w8 ⟨rfl, q8⟩
  have Q8 : Hid (EnvP w w3.heap.size c (.slice ow m pw) w5.heap.size (.slice og m pg) w8) := Q7.out.later q8
  have RR8 : Hid (Row w8 w.heap.size 2 m G (.slice ow m pw)) := RR7.out.later q8
  have GG8 : Hid (Row w8 wB.heap.size 2 m G (.slice og m pg) ∧ Free w8 (m * 2) (.slice og m pg)) := ⟨GG7.out.1.later q8, GG7.out.2.ofRow GG7.out.1 q8⟩
  have SS8 : Hid ((Row w8 (w3.heap.size + 1) 2 n F u4 ∧ Free w8 (n * 2) u4) ∧ Row w8 w4.heap.size 3 ni Fi uB ∧ Free w8 (ni * 3) uB) := ⟨⟨SS7.out.1.1.1.later q8, SS7.out.1.1.2.ofRow SS7.out.1.1.1 q8⟩, SS7.out.1.2.1.later q8, SS7.out.1.2.2.ofRow SS7.out.1.2.1 q8⟩
  clear q8 Q7 RR7 GG7 SS7
  go_wp2_with fail
  refine (markPairS_turn _ _ n F 1 _ SS8.out.1.1 SS8.out.1.2 hb (by omega) (by omega)).mono ?_
  rintro e w9a ⟨rfl, _, _, g9⟩
  have W9 : Within (w3.heap.size + 1) w4.heap.size w8 w9a := Within.of g9 (turn_off L4.out)
  have Q9a : Hid (EnvP w w3.heap.size c (.slice ow m pw) w5.heap.size (.slice og m pg) w9a) := Q8.out.within W9 (by have := z3.out; omega) (Or.inl (by omega)) (Or.inr (by have := z5.out; have := zB.out; omega))
  have RR9a : Hid (Row w9a w.heap.size 2 m G (.slice ow m pw)) := RR8.out.within W9 (fun h0 k hk => Or.inl (by have := LW.out h0 k hk; omega))
  have GG9a : Hid (Row w9a wB.heap.size 2 m G (.slice og m pg) ∧ Free w9a (m * 2) (.slice og m pg)) := ⟨GG8.out.1.within W9 (fun h0 k hk => Or.inr (by have := (LG.out h0 k hk).1; have := zB.out; omega)), GG8.out.2.within GG8.out.1 W9 (fun h0 k hk => Or.inr (by have := (LG.out h0 k hk).1; have := zB.out; omega))⟩
  have SS9a : Hid (Row w9a w4.heap.size 3 ni Fi uB ∧ Free w9a (ni * 3) uB) := ⟨SS8.out.2.1.within W9 (fun h0 k hk => Or.inr (LB.out h0 k hk).1), SS8.out.2.2.within SS8.out.2.1 W9 (fun h0 k hk => Or.inr (LB.out h0 k hk).1)⟩
  clear W9 g9 Q8 RR8 GG8 SS8
  go_wp2_with fail
  refine (markItemS_turn _ _ ni Fi (1 + n * 2) _ SS9a.out.1 SS9a.out.2 hbi (by omega) (by omega)).mono ?_
  rintro e w9 ⟨rfl, _, _, g9⟩
  have W9 : Within w4.heap.size wB.heap.size w9a w9 := Within.of g9 (turn_off LB.out)
  have Q9 : Hid (EnvP w w3.heap.size c (.slice ow m pw) w5.heap.size (.slice og m pg) w9) := Q9a.out.within W9 (by have := z3.out; have := z4.out; omega) (Or.inl (by have := z4.out; omega)) (Or.inr z5.out)
  have RR9 : Hid (Row w9 w.heap.size 2 m G (.slice ow m pw)) := RR9a.out.within W9 (fun h0 k hk => Or.inl (by have := LW.out h0 k hk; have := z4.out; omega))
  have GG9 : Hid (Row w9 wB.heap.size 2 m G (.slice og m pg) ∧ Free w9 (m * 2) (.slice og m pg)) := ⟨GG9a.out.1.within W9 (fun h0 k hk => Or.inr (LG.out h0 k hk).1), GG9a.out.2.within GG9a.out.1 W9 (fun h0 k hk => Or.inr (LG.out h0 k hk).1)⟩
  clear W9 g9 Q9a RR9a GG9a SS9a
  obtain ⟨_, ⟨⟨t0, t1⟩, _⟩, ⟨g0, g1⟩, _⟩ := Q9.out
  go_wp2_with fail
  refine (eqPairsResult_same c m _ _ _ _ _ _ G _ GG9.out.1 RR9.out hm).mono ?_
  rintro e w10 ⟨rfl, q10⟩
  have Q : Hid (EnvP w w3.heap.size c (.slice ow m pw) w5.heap.size (.slice og m pg) w10) := Q9.out.later q10
  have RR : Hid (Row w10 w.heap.size 2 m G (.slice ow m pw)) := RR9.out.later q10
  have GG : Hid (Row w10 wB.heap.size 2 m G (.slice og m pg) ∧ Free w10 (m * 2) (.slice og m pg)) := ⟨GG9.out.1.later q10, GG9.out.2.ofRow GG9.out.1 q10⟩
  clear q10 Q9 RR9 GG9 t0 t1 g0 g1
  obtain ⟨_, _, ⟨g0, g1⟩, _⟩ := Q.out
  go_wp2_with fail
  refine (markPairsResult_any c m _ _ _ G _ GG.out.1 GG.out.2 hm).mono ?_
  rintro e w11 ⟨rfl, m11, g11⟩
  have W11 : Within wB.heap.size w5.heap.size w10 w11 := Within.of g11 (turn_off LG.out)
  have Q11 : Hid (EnvP w w3.heap.size c (.slice ow m pw) w5.heap.size (.slice og m pg) w11) := Q.out.within W11 (by have := z3.out; have := z4.out; have := zB.out; omega) (Or.inl (by have := z4.out; have := zB.out; omega)) (Or.inr (Nat.le_refl _))
  have RR11 : Hid (Row w11 w.heap.size 2 m G (.slice ow m pw)) := RR.out.within W11 (fun h0 k hk => Or.inl (by have := LW.out h0 k hk; have := z4.out; have := zB.out; omega))
  have M11 : Hid (Row w11 wB.heap.size 2 m (fun p => 1 + (p : Nat)) (.slice og m pg)) := m11
  clear m11 g11 W11 Q RR GG g0 g1
  obtain ⟨_, _, ⟨g0, g1⟩, _⟩ := Q11.out
  go_wp2_with fail
  refine (heldPairsResult_any c m _ _ _ _ M11.out hm).mono ?_
  rintro e w12 ⟨rfl, q12⟩
  have Q12 : Hid (EnvP w w3.heap.size c (.slice ow m pw) w5.heap.size (.slice og m pg) w12) := Q11.out.later q12
  have RR12 : Hid (Row w12 w.heap.size 2 m G (.slice ow m pw)) := RR11.out.later q12
  have M12 : Hid (Row w12 wB.heap.size 2 m (fun p => 1 + (p : Nat)) (.slice og m pg)) := M11.out.later q12
  clear q12 Q11 RR11 M11 g0 g1
  go_wp2_with fail
  refine (toPairS_cap _ 0 n F _ (H.out.later Q12.out.1) hb).mono ?_
  rintro e w13 ⟨u13, rfl, r13, _, q13⟩
  have R13 : Hid (Row w13 0 2 n F (.slice u13 n n)) := r13.mono (Nat.zero_le _)
  have Q13 : Hid (EnvP w w3.heap.size c (.slice ow m pw) w5.heap.size (.slice og m pg) w13) := Q12.out.later q13
  have RR13 : Hid (Row w13 w.heap.size 2 m G (.slice ow m pw)) := RR12.out.later q13
  have M13 : Hid (Row w13 wB.heap.size 2 m (fun p => 1 + (p : Nat)) (.slice og m pg)) := M12.out.later q13
  clear r13 q13 Q12 RR12 M12
  go_wp2_with fail
  refine (toItemS_cap _ 0 ni Fi _ (HJ.out.later Q13.out.1) hbi).mono ?_
  rintro e wD ⟨uD, rfl, rD, _, qD⟩
  have RD : Hid (Row wD 0 2 n F (.slice u13 n n) ∧ Row wD 0 3 ni Fi (.slice uD ni ni)) := ⟨R13.out.later qD, rD.mono (Nat.zero_le _)⟩
  have QD : Hid (EnvP w w3.heap.size c (.slice ow m pw) w5.heap.size (.slice og m pg) wD) := Q13.out.later qD
  have RRD : Hid (Row wD w.heap.size 2 m G (.slice ow m pw)) := RR13.out.later qD
  have MD : Hid (Row wD wB.heap.size 2 m (fun p => 1 + (p : Nat)) (.slice og m pg)) := M13.out.later qD
  clear rD qD Q13 RR13 M13 R13
  go_wp2_with fail
  refine (HI.out _ _ _ _ _ RD.out.1 RD.out.2).mono ?_
  rintro e w14 ⟨oh, ph, rfl, rh, _, q14⟩
  have Q14 : Hid (EnvP w w3.heap.size c (.slice ow m pw) w5.heap.size (.slice og m pg) w14) := QD.out.later q14
  have Q15 : Hid (EnvP w w3.heap.size c (.slice ow m pw) w5.heap.size (.slice og m pg) (w14.alloc (.cells #[.int .i64 c, .slice oh m ph] 29))) := Q14.out.later (below_alloc _ _)
  have RR15 : Hid (Row (w14.alloc (.cells #[.int .i64 c, .slice oh m ph] 29)) w.heap.size 2 m G (.slice ow m pw)) := (RRD.out.later q14).alloc _
  have H15 : Hid (Row (w14.alloc (.cells #[.int .i64 c, .slice oh m ph] 29)) 0 2 m G (.slice oh m ph)) := (rh.mono (Nat.zero_le _)).alloc _
  have M15 : Hid (Row (w14.alloc (.cells #[.int .i64 c, .slice oh m ph] 29)) wB.heap.size 2 m (fun p => 1 + (p : Nat)) (.slice og m pg)) := (MD.out.later q14).alloc _
  obtain ⟨_, ⟨⟨t0, t1⟩, _⟩, _⟩ := Q14.out
  have hl := Q14.out.2.1.lt
  clear q14 rh QD RRD MD RD Q14
  go_wp2_with fail
  refine (eqPairsResult_same c m _ _ _ _ _ _ G _ H15.out RR15.out hm).mono ?_
  rintro e w16 ⟨rfl, q16⟩
  have Q16 : Hid (EnvP w w3.heap.size c (.slice ow m pw) w5.heap.size (.slice og m pg) w16) := Q15.out.later q16
  have M16 : Hid (Row w16 wB.heap.size 2 m (fun p => 1 + (p : Nat)) (.slice og m pg)) := M15.out.later q16
  clear q16 Q15 RR15 H15 M15 t0 t1 hl
  obtain ⟨_, _, ⟨g0, g1⟩, _⟩ := Q16.out
  go_wp2_with fail
  refine (heldPairsResult_any c m _ _ _ _ M16.out hm).mono ?_
  rintro e w17 ⟨rfl, q17⟩
  have Q17 : Hid (EnvP w w3.heap.size c (.slice ow m pw) w5.heap.size (.slice og m pg) w17) := Q16.out.later q17
  clear q17 Q16 M16 g0 g1
  go_wp2
  go_ret
  exact ⟨rfl, Q17.out.1⟩
end Go.Proofs.Ytdbcmckoiacemaa

