/-
  Own text. The walks of the laws of chapter 6 whose answer is a code and a row of ranges, over what the model and the program answer.
-/
import Derived.Test.YtabenplbibhbiaaRngB
namespace Go.Proofs.Ytabenplbibhbiaa
open Go.RowKit

/-- What the model answered (block W) and what the program answered (block G); nothing old has turned. -/
def EnvR (w : World) (W : Nat) (c : Int) (vw : Value) (G : Nat) (vg : Value) (x : World) : Prop := Below w.heap.size w x ∧ Blk2 x W (.int .i64 c) vw ∧ Blk2 x G (.int .i64 c) vg
theorem EnvR.later {w x x' : World} {W G : Nat} {c : Int} {vw vg : Value} (h : EnvR w W c vw G vg x) (hb : Below x.heap.size x x') : EnvR w W c vw G vg x' := ⟨h.1.trans (hb.mono h.1.size), h.2.1.later hb, h.2.2.later hb⟩
theorem Blk2.inside {x x' : World} {b B E : Nat} {a0 a1 : Value} (h : Blk2 x b a0 a1) (hw : Within B E x x') (ho : b < B ∨ E ≤ b) : Blk2 x' b a0 a1 := h.kept (hw.block b h.lt ho)
theorem EnvR.within {w x x' : World} {W G B E : Nat} {c : Int} {vw vg : Value} (h : EnvR w W c vw G vg x) (hw : Within B E x x') (hL : w.heap.size ≤ B) (hW : W < B ∨ E ≤ W) (hG : G < B ∨ E ≤ G) : EnvR w W c vw G vg x' :=
  ⟨hw.below h.1 hL, h.2.1.inside hw hW, h.2.2.inside hw hG⟩
set_option maxRecDepth 100000 in
set_option maxHeartbeats 4000000 in
theorem exactWholeRange_over (epoch : Int) (w : World) (_ : (Lit.int .i64 epoch).wf = true)
    (ans : ∃ c m G, m ≤ 1000 ∧ (∀ x, Calls Try.prog 21 #[.int .i64 epoch] x (ResRow 3 x c m G)) ∧ (∀ x, Calls Try.prog 22 #[.int .i64 epoch] x (ResRow 3 x c m G))) :
    Calls Try.prog 5 #[.int .i64 epoch] w fun e w' => e = .returned (.bool true) ∧ Below w.heap.size w w' := by
  obtain ⟨c, m, G, hm1, hspec, himpl⟩ := ans
  have HS : Hid (∀ x, Calls Try.prog 21 #[.int .i64 epoch] x (ResRow 3 x c m G)) := hspec
  have HI : Hid (∀ x, Calls Try.prog 22 #[.int .i64 epoch] x (ResRow 3 x c m G)) := himpl
  clear hspec himpl
  have hm : m ≤ 1048576 := by omega
  have hnn : decide ((1 : Int) + m * 3 < 0) = false := decide_eq_false (by omega)
  clear hm1
  go_enter Try.func5, Try.ntmps5
  go_wp2_with fail
  have Q2 : Hid (Below w.heap.size w w) := Below.refl _ _
  have R2 : Hid True := trivial
  refine (HS.out _).mono ?_
  rintro e w3 ⟨ow, pw, rfl, rw3, _, q3⟩
  have Q3 : Hid (Below w.heap.size w w3) := Q2.out.trans (q3.mono Q2.out.size)
  have P3 : Hid ((Below w.heap.size w (w3.alloc (.cells #[.int .i64 c, .slice ow m pw] 28)) ∧ Blk2 (w3.alloc (.cells #[.int .i64 c, .slice ow m pw] 28)) w3.heap.size (.int .i64 c) (.slice ow m pw)) ∧ Row (w3.alloc (.cells #[.int .i64 c, .slice ow m pw] 28)) w.heap.size 3 m G (.slice ow m pw)) := ⟨⟨Q3.out.alloc Q3.out.size _, Blk2.new w3 _ _ _⟩, (rw3.mono Q2.out.size).alloc _⟩
  have LW : Hid (0 < m → ∀ k, (Value.slice ow m pw).ownBlock = some k → k < w3.heap.size) := fun h0 k hk => (rw3.lt h0 k hk).2
  have z3 : Hid (w.heap.size ≤ w3.heap.size) := Q3.out.size
  clear q3 Q2 R2 rw3 Q3
  go_wp2_with fail
  obtain ⟨w4, e4⟩ : ∃ x, x = w3.alloc (.cells #[.int .i64 c, .slice ow m pw] 28) := ⟨_, rfl⟩
  rw [← e4] at P3 ⊢
  have P4 : Hid ((Below w.heap.size w w4 ∧ Blk2 w4 w3.heap.size (.int .i64 c) (.slice ow m pw)) ∧ Row w4 w.heap.size 3 m G (.slice ow m pw)) := P3
  have z4 : Hid (w3.heap.size + 1 ≤ w4.heap.size) := by unfold Hid; rw [e4, World.size_alloc]; omega
  clear P3 e4
  refine (HI.out _).mono ?_
  rintro e w5 ⟨og, pg, rfl, rg5, fg5, q5⟩
  have z5 : Hid (w4.heap.size ≤ w5.heap.size) := q5.size
  have Q6 : Hid (EnvR w w3.heap.size c (.slice ow m pw) w5.heap.size (.slice og m pg) (w5.alloc (.cells #[.int .i64 c, .slice og m pg] 28))) := ⟨(P4.out.1.1.trans (q5.mono P4.out.1.1.size)).alloc (Nat.le_trans P4.out.1.1.size q5.size) _, (P4.out.1.2.later q5).alloc _, Blk2.new w5 _ _ _⟩
  have R6 : Hid (Row (w5.alloc (.cells #[.int .i64 c, .slice og m pg] 28)) w.heap.size 3 m G (.slice ow m pw)) := (P4.out.2.later q5).alloc _
  have G6 : Hid (Row (w5.alloc (.cells #[.int .i64 c, .slice og m pg] 28)) w4.heap.size 3 m G (.slice og m pg) ∧ Free (w5.alloc (.cells #[.int .i64 c, .slice og m pg] 28)) (m * 3) (.slice og m pg)) := ⟨rg5.alloc _, fg5.ofRow rg5 (below_alloc _ _)⟩
  have LG : Hid (0 < m → ∀ k, (Value.slice og m pg).ownBlock = some k → w4.heap.size ≤ k ∧ k < w5.heap.size) := fun h0 k hk => rg5.lt h0 k hk
  obtain ⟨⟨t0, t1⟩, _⟩ := P4.out.1.2.later q5
  have hl := (P4.out.1.2.later q5).lt
  clear q5 rg5 fg5 P4
  go_wp2_with fail
  refine (eqRangesResult_same c m _ _ _ _ _ _ G _ G6.out.1 R6.out hm).mono ?_
  rintro e w6 ⟨rfl, q6⟩
  have Q : Hid (EnvR w w3.heap.size c (.slice ow m pw) w5.heap.size (.slice og m pg) w6) := Q6.out.later q6
  have RR : Hid (Row w6 w.heap.size 3 m G (.slice ow m pw)) := R6.out.later q6
  have GG : Hid (Row w6 w4.heap.size 3 m G (.slice og m pg) ∧ Free w6 (m * 3) (.slice og m pg)) := ⟨G6.out.1.later q6, G6.out.2.ofRow G6.out.1 q6⟩
  clear q6 Q6 R6 G6 t0 t1 hl
  obtain ⟨_, _, ⟨g0, g1⟩, _⟩ := Q.out
  go_wp2_with fail
  refine (markRangesResult_any c m _ _ _ G _ GG.out.1 GG.out.2 hm).mono ?_
  rintro e w11 ⟨rfl, m11, g11⟩
  have W11 : Within w4.heap.size w5.heap.size w6 w11 := Within.of g11 (turn_off LG.out)
  have Q11 : Hid (EnvR w w3.heap.size c (.slice ow m pw) w5.heap.size (.slice og m pg) w11) := Q.out.within W11 (by have := z3.out; have := z4.out; omega) (Or.inl (by have := z4.out; omega)) (Or.inr (Nat.le_refl _))
  have RR11 : Hid (Row w11 w.heap.size 3 m G (.slice ow m pw)) := RR.out.within W11 (fun h0 k hk => Or.inl (by have := LW.out h0 k hk; have := z4.out; omega))
  have M11 : Hid (Row w11 w4.heap.size 3 m (fun p => 1 + (p : Nat)) (.slice og m pg)) := m11
  clear m11 g11 W11 Q RR GG g0 g1
  obtain ⟨_, _, ⟨g0, g1⟩, _⟩ := Q11.out
  go_wp2_with fail
  refine (heldRangesResult_any c m _ _ _ _ M11.out hm).mono ?_
  rintro e w12 ⟨rfl, q12⟩
  have Q12 : Hid (EnvR w w3.heap.size c (.slice ow m pw) w5.heap.size (.slice og m pg) w12) := Q11.out.later q12
  have RR12 : Hid (Row w12 w.heap.size 3 m G (.slice ow m pw)) := RR11.out.later q12
  have M12 : Hid (Row w12 w4.heap.size 3 m (fun p => 1 + (p : Nat)) (.slice og m pg)) := M11.out.later q12
  clear q12 Q11 RR11 M11 g0 g1
  go_wp2_with fail
  have Q13 := Q12
  have RR13 := RR12
  have M13 := M12
  have R13 : Hid True := trivial
  clear Q12 RR12 M12
  refine (HI.out _).mono ?_
  rintro e w14 ⟨oh, ph, rfl, rh, _, q14⟩
  have Q14 : Hid (EnvR w w3.heap.size c (.slice ow m pw) w5.heap.size (.slice og m pg) w14) := Q13.out.later q14
  have Q15 : Hid (EnvR w w3.heap.size c (.slice ow m pw) w5.heap.size (.slice og m pg) (w14.alloc (.cells #[.int .i64 c, .slice oh m ph] 28))) := Q14.out.later (below_alloc _ _)
  have RR15 : Hid (Row (w14.alloc (.cells #[.int .i64 c, .slice oh m ph] 28)) w.heap.size 3 m G (.slice ow m pw)) := (RR13.out.later q14).alloc _
  have H15 : Hid (Row (w14.alloc (.cells #[.int .i64 c, .slice oh m ph] 28)) 0 3 m G (.slice oh m ph)) := (rh.mono (Nat.zero_le _)).alloc _
  have M15 : Hid (Row (w14.alloc (.cells #[.int .i64 c, .slice oh m ph] 28)) w4.heap.size 3 m (fun p => 1 + (p : Nat)) (.slice og m pg)) := (M13.out.later q14).alloc _
  obtain ⟨_, ⟨⟨t0, t1⟩, _⟩, _⟩ := Q14.out
  have hl := Q14.out.2.1.lt
  clear q14 rh Q13 RR13 M13 R13 Q14
  go_wp2_with fail
  refine (eqRangesResult_same c m _ _ _ _ _ _ G _ H15.out RR15.out hm).mono ?_
  rintro e w16 ⟨rfl, q16⟩
  have Q16 : Hid (EnvR w w3.heap.size c (.slice ow m pw) w5.heap.size (.slice og m pg) w16) := Q15.out.later q16
  have M16 : Hid (Row w16 w4.heap.size 3 m (fun p => 1 + (p : Nat)) (.slice og m pg)) := M15.out.later q16
  clear q16 Q15 RR15 H15 M15 t0 t1 hl
  obtain ⟨_, _, ⟨g0, g1⟩, _⟩ := Q16.out
  go_wp2_with fail
  refine (heldRangesResult_any c m _ _ _ _ M16.out hm).mono ?_
  rintro e w17 ⟨rfl, q17⟩
  have Q17 : Hid (EnvR w w3.heap.size c (.slice ow m pw) w5.heap.size (.slice og m pg) w17) := Q16.out.later q17
  clear q17 Q16 M16 g0 g1
  go_wp2
  go_ret
  exact ⟨rfl, Q17.out.1⟩
set_option maxRecDepth 100000 in
set_option maxHeartbeats 4000000 in
theorem exactSplitRange_over (v : Value) (n : Nat) (F : Nat → Int) (at' : Int) (w : World) (h : Row w 0 3 n F v) (hn : n ≤ 9223372036854775807) (_ : ∀ p, (Lit.int .i64 (F p)).wf = true) (_ : (Lit.int .i64 at').wf = true)
    (ans : n ≤ 1048576 → ∃ c m G, m ≤ 1000 ∧ (∀ yo yc x, Row x 0 3 n F (.slice yo n yc) → n ≤ yc → Calls Try.prog 12 #[.slice yo n yc, .int .i64 at'] x (ResRow 3 x c m G)) ∧ (∀ yo yc x, Row x 0 3 n F (.slice yo n yc) → n ≤ yc → Calls Try.prog 11 #[.slice yo n yc, .int .i64 at'] x (ResRow 3 x c m G))) :
    Calls Try.prog 7 #[v, .int .i64 at'] w fun e w' => e = .returned (.bool true) ∧ Below w.heap.size w w' := by
  obtain ⟨ao, cp, rfl⟩ := h.form
  have H : Hid (Row w 0 3 n F (.slice ao n cp)) := h
  clear h
  by_cases hs : (1048576 : Int) < n
  · clear ans
    go_enter Try.func7, Try.ntmps7
    go_wp2_with fail
    refine (szRangeS_no _ _ _ _ _ hs (by omega) (by omega) hn).mono ?_
    rintro e w1 ⟨rfl, rfl⟩
    go_wp2
    go_ret
    exact ⟨rfl, Below.refl _ _⟩
  have hb : n ≤ 1048576 := by omega
  have dz : decide ((1048576 : Int) - n < 0) = false := decide_eq_false (by omega)
  have dk : decide ((1 : Int) + n * 3 < 0) = false := decide_eq_false (by omega)
  clear hs hn
  obtain ⟨c, m, G, hm1, hspec, himpl⟩ := ans hb
  clear ans
  have HS : Hid (∀ yo yc x, Row x 0 3 n F (.slice yo n yc) → n ≤ yc → Calls Try.prog 12 #[.slice yo n yc, .int .i64 at'] x (ResRow 3 x c m G)) := hspec
  have HI : Hid (∀ yo yc x, Row x 0 3 n F (.slice yo n yc) → n ≤ yc → Calls Try.prog 11 #[.slice yo n yc, .int .i64 at'] x (ResRow 3 x c m G)) := himpl
  clear hspec himpl
  have hm : m ≤ 1048576 := by omega
  have hnn : decide ((1 : Int) + m * 3 < 0) = false := decide_eq_false (by omega)
  clear hm1
  go_enter Try.func7, Try.ntmps7
  go_wp2_with fail
  refine (szRangeS_ok _ _ _ _ _ (by omega) (by omega)).mono ?_
  rintro e w1 ⟨rfl, hw1⟩
  obtain rfl := hw1.symm
  clear hw1
  go_wp2_with fail
  refine (toRangeS_cap _ 0 n F _ H.out hb).mono ?_
  rintro e w2 ⟨u2, rfl, r2, _, q2⟩
  have Q2 : Hid (Below w.heap.size w w2) := q2
  have R2 : Hid (Row w2 0 3 n F (.slice u2 n n)) := r2.mono (Nat.zero_le _)
  clear r2 q2
  go_wp2_with fail
  refine (HS.out _ _ _ R2.out (Nat.le_refl _)).mono ?_
  rintro e w3 ⟨ow, pw, rfl, rw3, _, q3⟩
  have Q3 : Hid (Below w.heap.size w w3) := Q2.out.trans (q3.mono Q2.out.size)
  have P3 : Hid ((Below w.heap.size w (w3.alloc (.cells #[.int .i64 c, .slice ow m pw] 28)) ∧ Blk2 (w3.alloc (.cells #[.int .i64 c, .slice ow m pw] 28)) w3.heap.size (.int .i64 c) (.slice ow m pw)) ∧ Row (w3.alloc (.cells #[.int .i64 c, .slice ow m pw] 28)) w.heap.size 3 m G (.slice ow m pw)) := ⟨⟨Q3.out.alloc Q3.out.size _, Blk2.new w3 _ _ _⟩, (rw3.mono Q2.out.size).alloc _⟩
  have LW : Hid (0 < m → ∀ k, (Value.slice ow m pw).ownBlock = some k → k < w3.heap.size) := fun h0 k hk => (rw3.lt h0 k hk).2
  have z3 : Hid (w.heap.size ≤ w3.heap.size) := Q3.out.size
  clear q3 Q2 R2 rw3 Q3
  go_wp2_with fail
  refine (toRangeS_cap _ 0 n F _ (H.out.later P3.out.1.1) hb).mono ?_
  rintro e w4 ⟨uo4, rfl, r4, f4, q4⟩
  obtain ⟨u4, hu4⟩ : ∃ u, u = Value.slice uo4 n n := ⟨_, rfl⟩
  have HU4 : Hid (u4 = Value.slice uo4 n n) := hu4
  rw [← hu4] at r4 f4 ⊢
  clear hu4
  have P4 : Hid ((Below w.heap.size w w4 ∧ Blk2 w4 w3.heap.size (.int .i64 c) (.slice ow m pw)) ∧ Row w4 w.heap.size 3 m G (.slice ow m pw)) := ⟨⟨P3.out.1.1.trans (q4.mono P3.out.1.1.size), P3.out.1.2.later q4⟩, P3.out.2.later q4⟩
  have z4 : Hid (w3.heap.size + 1 ≤ w4.heap.size) := by have := q4.size; simp at this; unfold Hid; omega
  have R4 : Hid (Row w4 (w3.heap.size + 1) 3 n F u4 ∧ Free w4 (n * 3) u4) := ⟨by rw [World.size_alloc] at r4; exact r4, f4⟩
  have L4 : Hid (0 < n → ∀ k, u4.ownBlock = some k → w3.heap.size + 1 ≤ k ∧ k < w4.heap.size) := fun h0 k hk => R4.out.1.lt h0 k hk
  clear r4 f4 q4 P3
  go_wp2_with fail
  have HI4 : Calls Try.prog 11 #[u4, .int .i64 at'] w4 (ResRow 3 w4 c m G) := by
    have := HI.out uo4 n w4 (by rw [← HU4.out]; exact R4.out.1.mono (Nat.zero_le _)) (Nat.le_refl _)
    rwa [← HU4.out] at this
  refine HI4.mono ?_
  clear HI4 HU4
  rintro e w5 ⟨og, pg, rfl, rg5, fg5, q5⟩
  have z5 : Hid (w4.heap.size ≤ w5.heap.size) := q5.size
  have Q6 : Hid (EnvR w w3.heap.size c (.slice ow m pw) w5.heap.size (.slice og m pg) (w5.alloc (.cells #[.int .i64 c, .slice og m pg] 28))) := ⟨(P4.out.1.1.trans (q5.mono P4.out.1.1.size)).alloc (Nat.le_trans P4.out.1.1.size q5.size) _, (P4.out.1.2.later q5).alloc _, Blk2.new w5 _ _ _⟩
  have R6 : Hid (Row (w5.alloc (.cells #[.int .i64 c, .slice og m pg] 28)) w.heap.size 3 m G (.slice ow m pw)) := (P4.out.2.later q5).alloc _
  have G6 : Hid (Row (w5.alloc (.cells #[.int .i64 c, .slice og m pg] 28)) w4.heap.size 3 m G (.slice og m pg) ∧ Free (w5.alloc (.cells #[.int .i64 c, .slice og m pg] 28)) (m * 3) (.slice og m pg)) := ⟨rg5.alloc _, fg5.ofRow rg5 (below_alloc _ _)⟩
  have LG : Hid (0 < m → ∀ k, (Value.slice og m pg).ownBlock = some k → w4.heap.size ≤ k ∧ k < w5.heap.size) := fun h0 k hk => rg5.lt h0 k hk
  have S6 : Hid (Row (w5.alloc (.cells #[.int .i64 c, .slice og m pg] 28)) (w3.heap.size + 1) 3 n F u4 ∧ Free (w5.alloc (.cells #[.int .i64 c, .slice og m pg] 28)) (n * 3) u4) := ⟨(R4.out.1.later q5).alloc _, (R4.out.2.ofRow R4.out.1 q5).ofRow (R4.out.1.later q5) (below_alloc _ _)⟩
  obtain ⟨⟨t0, t1⟩, _⟩ := P4.out.1.2.later q5
  have hl := (P4.out.1.2.later q5).lt
  clear q5 rg5 fg5 P4 R4
  go_wp2_with fail
  refine (eqRangesResult_same c m _ _ _ _ _ _ G _ G6.out.1 R6.out hm).mono ?_
  rintro e w6 ⟨rfl, q6⟩
  have Q : Hid (EnvR w w3.heap.size c (.slice ow m pw) w5.heap.size (.slice og m pg) w6) := Q6.out.later q6
  have RR : Hid (Row w6 w.heap.size 3 m G (.slice ow m pw)) := R6.out.later q6
  have GG : Hid (Row w6 w4.heap.size 3 m G (.slice og m pg) ∧ Free w6 (m * 3) (.slice og m pg)) := ⟨G6.out.1.later q6, G6.out.2.ofRow G6.out.1 q6⟩
  have SS : Hid (Row w6 (w3.heap.size + 1) 3 n F u4 ∧ Free w6 (n * 3) u4) := ⟨S6.out.1.later q6, S6.out.2.ofRow S6.out.1 q6⟩
  clear q6 Q6 R6 G6 S6 t0 t1 hl
  go_wp2_with fail
  refine (toRangeS_any _ 0 n F _ (H.out.later Q.out.1) hb).mono ?_
  rintro e w7 ⟨u7, rfl, r7, _, q7⟩
  have Q7 : Hid (EnvR w w3.heap.size c (.slice ow m pw) w5.heap.size (.slice og m pg) w7) := Q.out.later q7
  have RR7 : Hid (Row w7 w.heap.size 3 m G (.slice ow m pw)) := RR.out.later q7
  have GG7 : Hid (Row w7 w4.heap.size 3 m G (.slice og m pg) ∧ Free w7 (m * 3) (.slice og m pg)) := ⟨GG.out.1.later q7, GG.out.2.ofRow GG.out.1 q7⟩
  have SS7 : Hid ((Row w7 (w3.heap.size + 1) 3 n F u4 ∧ Free w7 (n * 3) u4) ∧ Row w7 0 3 n F u7) := ⟨⟨SS.out.1.later q7, SS.out.2.ofRow SS.out.1 q7⟩, r7.mono (Nat.zero_le _)⟩
  clear r7 q7 Q RR GG SS
  go_wp2_with fail
  refine (eqRangeS_same _ _ _ 0 n F _ SS7.out.1.1 SS7.out.2 hb).mono ?_
  rintro e w8 ⟨rfl, q8⟩
  have Q8 : Hid (EnvR w w3.heap.size c (.slice ow m pw) w5.heap.size (.slice og m pg) w8) := Q7.out.later q8
  have RR8 : Hid (Row w8 w.heap.size 3 m G (.slice ow m pw)) := RR7.out.later q8
  have GG8 : Hid (Row w8 w4.heap.size 3 m G (.slice og m pg) ∧ Free w8 (m * 3) (.slice og m pg)) := ⟨GG7.out.1.later q8, GG7.out.2.ofRow GG7.out.1 q8⟩
  have SS8 : Hid (Row w8 (w3.heap.size + 1) 3 n F u4 ∧ Free w8 (n * 3) u4) := ⟨SS7.out.1.1.later q8, SS7.out.1.2.ofRow SS7.out.1.1 q8⟩
  clear q8 Q7 RR7 GG7 SS7
  go_wp2_with fail
  refine (markRangeS_turn _ _ n F 1 _ SS8.out.1 SS8.out.2 hb (by omega) (by omega)).mono ?_
  rintro e w9 ⟨rfl, _, _, g9⟩
  have W9 : Within (w3.heap.size + 1) w4.heap.size w8 w9 := Within.of g9 (turn_off L4.out)
  have Q9 : Hid (EnvR w w3.heap.size c (.slice ow m pw) w5.heap.size (.slice og m pg) w9) := Q8.out.within W9 (by have := z3.out; omega) (Or.inl (by omega)) (Or.inr z5.out)
  have RR9 : Hid (Row w9 w.heap.size 3 m G (.slice ow m pw)) := RR8.out.within W9 (fun h0 k hk => Or.inl (by have := LW.out h0 k hk; omega))
  have GG9 : Hid (Row w9 w4.heap.size 3 m G (.slice og m pg) ∧ Free w9 (m * 3) (.slice og m pg)) := ⟨GG8.out.1.within W9 (fun h0 k hk => Or.inr (LG.out h0 k hk).1), GG8.out.2.within GG8.out.1 W9 (fun h0 k hk => Or.inr (LG.out h0 k hk).1)⟩
  clear W9 g9 Q8 RR8 GG8 SS8
  obtain ⟨_, ⟨⟨t0, t1⟩, _⟩, ⟨g0, g1⟩, _⟩ := Q9.out
  go_wp2_with fail
  refine (eqRangesResult_same c m _ _ _ _ _ _ G _ GG9.out.1 RR9.out hm).mono ?_
  rintro e w10 ⟨rfl, q10⟩
  have Q : Hid (EnvR w w3.heap.size c (.slice ow m pw) w5.heap.size (.slice og m pg) w10) := Q9.out.later q10
  have RR : Hid (Row w10 w.heap.size 3 m G (.slice ow m pw)) := RR9.out.later q10
  have GG : Hid (Row w10 w4.heap.size 3 m G (.slice og m pg) ∧ Free w10 (m * 3) (.slice og m pg)) := ⟨GG9.out.1.later q10, GG9.out.2.ofRow GG9.out.1 q10⟩
  clear q10 Q9 RR9 GG9 t0 t1 g0 g1
  obtain ⟨_, _, ⟨g0, g1⟩, _⟩ := Q.out
  go_wp2_with fail
  refine (markRangesResult_any c m _ _ _ G _ GG.out.1 GG.out.2 hm).mono ?_
  rintro e w11 ⟨rfl, m11, g11⟩
  have W11 : Within w4.heap.size w5.heap.size w10 w11 := Within.of g11 (turn_off LG.out)
  have Q11 : Hid (EnvR w w3.heap.size c (.slice ow m pw) w5.heap.size (.slice og m pg) w11) := Q.out.within W11 (by have := z3.out; have := z4.out; omega) (Or.inl (by have := z4.out; omega)) (Or.inr (Nat.le_refl _))
  have RR11 : Hid (Row w11 w.heap.size 3 m G (.slice ow m pw)) := RR.out.within W11 (fun h0 k hk => Or.inl (by have := LW.out h0 k hk; have := z4.out; omega))
  have M11 : Hid (Row w11 w4.heap.size 3 m (fun p => 1 + (p : Nat)) (.slice og m pg)) := m11
  clear m11 g11 W11 Q RR GG g0 g1
  obtain ⟨_, _, ⟨g0, g1⟩, _⟩ := Q11.out
  go_wp2_with fail
  refine (heldRangesResult_any c m _ _ _ _ M11.out hm).mono ?_
  rintro e w12 ⟨rfl, q12⟩
  have Q12 : Hid (EnvR w w3.heap.size c (.slice ow m pw) w5.heap.size (.slice og m pg) w12) := Q11.out.later q12
  have RR12 : Hid (Row w12 w.heap.size 3 m G (.slice ow m pw)) := RR11.out.later q12
  have M12 : Hid (Row w12 w4.heap.size 3 m (fun p => 1 + (p : Nat)) (.slice og m pg)) := M11.out.later q12
  clear q12 Q11 RR11 M11 g0 g1
  go_wp2_with fail
  refine (toRangeS_cap _ 0 n F _ (H.out.later Q12.out.1) hb).mono ?_
  rintro e w13 ⟨u13, rfl, r13, _, q13⟩
  have R13 : Hid (Row w13 0 3 n F (.slice u13 n n)) := r13.mono (Nat.zero_le _)
  have Q13 : Hid (EnvR w w3.heap.size c (.slice ow m pw) w5.heap.size (.slice og m pg) w13) := Q12.out.later q13
  have RR13 : Hid (Row w13 w.heap.size 3 m G (.slice ow m pw)) := RR12.out.later q13
  have M13 : Hid (Row w13 w4.heap.size 3 m (fun p => 1 + (p : Nat)) (.slice og m pg)) := M12.out.later q13
  clear r13 q13 Q12 RR12 M12
  go_wp2_with fail
  refine (HI.out _ _ _ R13.out (Nat.le_refl _)).mono ?_
  rintro e w14 ⟨oh, ph, rfl, rh, _, q14⟩
  have Q14 : Hid (EnvR w w3.heap.size c (.slice ow m pw) w5.heap.size (.slice og m pg) w14) := Q13.out.later q14
  have Q15 : Hid (EnvR w w3.heap.size c (.slice ow m pw) w5.heap.size (.slice og m pg) (w14.alloc (.cells #[.int .i64 c, .slice oh m ph] 28))) := Q14.out.later (below_alloc _ _)
  have RR15 : Hid (Row (w14.alloc (.cells #[.int .i64 c, .slice oh m ph] 28)) w.heap.size 3 m G (.slice ow m pw)) := (RR13.out.later q14).alloc _
  have H15 : Hid (Row (w14.alloc (.cells #[.int .i64 c, .slice oh m ph] 28)) 0 3 m G (.slice oh m ph)) := (rh.mono (Nat.zero_le _)).alloc _
  have M15 : Hid (Row (w14.alloc (.cells #[.int .i64 c, .slice oh m ph] 28)) w4.heap.size 3 m (fun p => 1 + (p : Nat)) (.slice og m pg)) := (M13.out.later q14).alloc _
  obtain ⟨_, ⟨⟨t0, t1⟩, _⟩, _⟩ := Q14.out
  have hl := Q14.out.2.1.lt
  clear q14 rh Q13 RR13 M13 R13 Q14
  go_wp2_with fail
  refine (eqRangesResult_same c m _ _ _ _ _ _ G _ H15.out RR15.out hm).mono ?_
  rintro e w16 ⟨rfl, q16⟩
  have Q16 : Hid (EnvR w w3.heap.size c (.slice ow m pw) w5.heap.size (.slice og m pg) w16) := Q15.out.later q16
  have M16 : Hid (Row w16 w4.heap.size 3 m (fun p => 1 + (p : Nat)) (.slice og m pg)) := M15.out.later q16
  clear q16 Q15 RR15 H15 M15 t0 t1 hl
  obtain ⟨_, _, ⟨g0, g1⟩, _⟩ := Q16.out
  go_wp2_with fail
  refine (heldRangesResult_any c m _ _ _ _ M16.out hm).mono ?_
  rintro e w17 ⟨rfl, q17⟩
  have Q17 : Hid (EnvR w w3.heap.size c (.slice ow m pw) w5.heap.size (.slice og m pg) w17) := Q16.out.later q17
  clear q17 Q16 M16 g0 g1
  go_wp2
  go_ret
  exact ⟨rfl, Q17.out.1⟩
set_option maxRecDepth 100000 in
set_option maxHeartbeats 4000000 in
theorem exactMergeRange_over (v : Value) (n : Nat) (F : Nat → Int) (at' : Int) (w : World) (h : Row w 0 3 n F v) (hn : n ≤ 9223372036854775807) (_ : ∀ p, (Lit.int .i64 (F p)).wf = true) (_ : (Lit.int .i64 at').wf = true)
    (ans : n ≤ 1048576 → ∃ c m G, m ≤ 1000 ∧ (∀ yo yc x, Row x 0 3 n F (.slice yo n yc) → n ≤ yc → Calls Try.prog 29 #[.slice yo n yc, .int .i64 at'] x (ResRow 3 x c m G)) ∧ (∀ yo yc x, Row x 0 3 n F (.slice yo n yc) → n ≤ yc → Calls Try.prog 14 #[.slice yo n yc, .int .i64 at'] x (ResRow 3 x c m G))) :
    Calls Try.prog 8 #[v, .int .i64 at'] w fun e w' => e = .returned (.bool true) ∧ Below w.heap.size w w' := by
  obtain ⟨ao, cp, rfl⟩ := h.form
  have H : Hid (Row w 0 3 n F (.slice ao n cp)) := h
  clear h
  by_cases hs : (1048576 : Int) < n
  · clear ans
    go_enter Try.func8, Try.ntmps8
    go_wp2_with fail
    refine (szRangeS_no _ _ _ _ _ hs (by omega) (by omega) hn).mono ?_
    rintro e w1 ⟨rfl, rfl⟩
    go_wp2
    go_ret
    exact ⟨rfl, Below.refl _ _⟩
  have hb : n ≤ 1048576 := by omega
  have dz : decide ((1048576 : Int) - n < 0) = false := decide_eq_false (by omega)
  have dk : decide ((1 : Int) + n * 3 < 0) = false := decide_eq_false (by omega)
  clear hs hn
  obtain ⟨c, m, G, hm1, hspec, himpl⟩ := ans hb
  clear ans
  have HS : Hid (∀ yo yc x, Row x 0 3 n F (.slice yo n yc) → n ≤ yc → Calls Try.prog 29 #[.slice yo n yc, .int .i64 at'] x (ResRow 3 x c m G)) := hspec
  have HI : Hid (∀ yo yc x, Row x 0 3 n F (.slice yo n yc) → n ≤ yc → Calls Try.prog 14 #[.slice yo n yc, .int .i64 at'] x (ResRow 3 x c m G)) := himpl
  clear hspec himpl
  have hm : m ≤ 1048576 := by omega
  have hnn : decide ((1 : Int) + m * 3 < 0) = false := decide_eq_false (by omega)
  clear hm1
  go_enter Try.func8, Try.ntmps8
  go_wp2_with fail
  refine (szRangeS_ok _ _ _ _ _ (by omega) (by omega)).mono ?_
  rintro e w1 ⟨rfl, hw1⟩
  obtain rfl := hw1.symm
  clear hw1
  go_wp2_with fail
  refine (toRangeS_cap _ 0 n F _ H.out hb).mono ?_
  rintro e w2 ⟨u2, rfl, r2, _, q2⟩
  have Q2 : Hid (Below w.heap.size w w2) := q2
  have R2 : Hid (Row w2 0 3 n F (.slice u2 n n)) := r2.mono (Nat.zero_le _)
  clear r2 q2
  go_wp2_with fail
  refine (HS.out _ _ _ R2.out (Nat.le_refl _)).mono ?_
  rintro e w3 ⟨ow, pw, rfl, rw3, _, q3⟩
  have Q3 : Hid (Below w.heap.size w w3) := Q2.out.trans (q3.mono Q2.out.size)
  have P3 : Hid ((Below w.heap.size w (w3.alloc (.cells #[.int .i64 c, .slice ow m pw] 28)) ∧ Blk2 (w3.alloc (.cells #[.int .i64 c, .slice ow m pw] 28)) w3.heap.size (.int .i64 c) (.slice ow m pw)) ∧ Row (w3.alloc (.cells #[.int .i64 c, .slice ow m pw] 28)) w.heap.size 3 m G (.slice ow m pw)) := ⟨⟨Q3.out.alloc Q3.out.size _, Blk2.new w3 _ _ _⟩, (rw3.mono Q2.out.size).alloc _⟩
  have LW : Hid (0 < m → ∀ k, (Value.slice ow m pw).ownBlock = some k → k < w3.heap.size) := fun h0 k hk => (rw3.lt h0 k hk).2
  have z3 : Hid (w.heap.size ≤ w3.heap.size) := Q3.out.size
  clear q3 Q2 R2 rw3 Q3
  go_wp2_with fail
  refine (toRangeS_cap _ 0 n F _ (H.out.later P3.out.1.1) hb).mono ?_
  rintro e w4 ⟨uo4, rfl, r4, f4, q4⟩
  obtain ⟨u4, hu4⟩ : ∃ u, u = Value.slice uo4 n n := ⟨_, rfl⟩
  have HU4 : Hid (u4 = Value.slice uo4 n n) := hu4
  rw [← hu4] at r4 f4 ⊢
  clear hu4
  have P4 : Hid ((Below w.heap.size w w4 ∧ Blk2 w4 w3.heap.size (.int .i64 c) (.slice ow m pw)) ∧ Row w4 w.heap.size 3 m G (.slice ow m pw)) := ⟨⟨P3.out.1.1.trans (q4.mono P3.out.1.1.size), P3.out.1.2.later q4⟩, P3.out.2.later q4⟩
  have z4 : Hid (w3.heap.size + 1 ≤ w4.heap.size) := by have := q4.size; simp at this; unfold Hid; omega
  have R4 : Hid (Row w4 (w3.heap.size + 1) 3 n F u4 ∧ Free w4 (n * 3) u4) := ⟨by rw [World.size_alloc] at r4; exact r4, f4⟩
  have L4 : Hid (0 < n → ∀ k, u4.ownBlock = some k → w3.heap.size + 1 ≤ k ∧ k < w4.heap.size) := fun h0 k hk => R4.out.1.lt h0 k hk
  clear r4 f4 q4 P3
  go_wp2_with fail
  have HI4 : Calls Try.prog 14 #[u4, .int .i64 at'] w4 (ResRow 3 w4 c m G) := by
    have := HI.out uo4 n w4 (by rw [← HU4.out]; exact R4.out.1.mono (Nat.zero_le _)) (Nat.le_refl _)
    rwa [← HU4.out] at this
  refine HI4.mono ?_
  clear HI4 HU4
  rintro e w5 ⟨og, pg, rfl, rg5, fg5, q5⟩
  have z5 : Hid (w4.heap.size ≤ w5.heap.size) := q5.size
  have Q6 : Hid (EnvR w w3.heap.size c (.slice ow m pw) w5.heap.size (.slice og m pg) (w5.alloc (.cells #[.int .i64 c, .slice og m pg] 28))) := ⟨(P4.out.1.1.trans (q5.mono P4.out.1.1.size)).alloc (Nat.le_trans P4.out.1.1.size q5.size) _, (P4.out.1.2.later q5).alloc _, Blk2.new w5 _ _ _⟩
  have R6 : Hid (Row (w5.alloc (.cells #[.int .i64 c, .slice og m pg] 28)) w.heap.size 3 m G (.slice ow m pw)) := (P4.out.2.later q5).alloc _
  have G6 : Hid (Row (w5.alloc (.cells #[.int .i64 c, .slice og m pg] 28)) w4.heap.size 3 m G (.slice og m pg) ∧ Free (w5.alloc (.cells #[.int .i64 c, .slice og m pg] 28)) (m * 3) (.slice og m pg)) := ⟨rg5.alloc _, fg5.ofRow rg5 (below_alloc _ _)⟩
  have LG : Hid (0 < m → ∀ k, (Value.slice og m pg).ownBlock = some k → w4.heap.size ≤ k ∧ k < w5.heap.size) := fun h0 k hk => rg5.lt h0 k hk
  have S6 : Hid (Row (w5.alloc (.cells #[.int .i64 c, .slice og m pg] 28)) (w3.heap.size + 1) 3 n F u4 ∧ Free (w5.alloc (.cells #[.int .i64 c, .slice og m pg] 28)) (n * 3) u4) := ⟨(R4.out.1.later q5).alloc _, (R4.out.2.ofRow R4.out.1 q5).ofRow (R4.out.1.later q5) (below_alloc _ _)⟩
  obtain ⟨⟨t0, t1⟩, _⟩ := P4.out.1.2.later q5
  have hl := (P4.out.1.2.later q5).lt
  clear q5 rg5 fg5 P4 R4
  go_wp2_with fail
  refine (eqRangesResult_same c m _ _ _ _ _ _ G _ G6.out.1 R6.out hm).mono ?_
  rintro e w6 ⟨rfl, q6⟩
  have Q : Hid (EnvR w w3.heap.size c (.slice ow m pw) w5.heap.size (.slice og m pg) w6) := Q6.out.later q6
  have RR : Hid (Row w6 w.heap.size 3 m G (.slice ow m pw)) := R6.out.later q6
  have GG : Hid (Row w6 w4.heap.size 3 m G (.slice og m pg) ∧ Free w6 (m * 3) (.slice og m pg)) := ⟨G6.out.1.later q6, G6.out.2.ofRow G6.out.1 q6⟩
  have SS : Hid (Row w6 (w3.heap.size + 1) 3 n F u4 ∧ Free w6 (n * 3) u4) := ⟨S6.out.1.later q6, S6.out.2.ofRow S6.out.1 q6⟩
  clear q6 Q6 R6 G6 S6 t0 t1 hl
  go_wp2_with fail
  refine (toRangeS_any _ 0 n F _ (H.out.later Q.out.1) hb).mono ?_
  rintro e w7 ⟨u7, rfl, r7, _, q7⟩
  have Q7 : Hid (EnvR w w3.heap.size c (.slice ow m pw) w5.heap.size (.slice og m pg) w7) := Q.out.later q7
  have RR7 : Hid (Row w7 w.heap.size 3 m G (.slice ow m pw)) := RR.out.later q7
  have GG7 : Hid (Row w7 w4.heap.size 3 m G (.slice og m pg) ∧ Free w7 (m * 3) (.slice og m pg)) := ⟨GG.out.1.later q7, GG.out.2.ofRow GG.out.1 q7⟩
  have SS7 : Hid ((Row w7 (w3.heap.size + 1) 3 n F u4 ∧ Free w7 (n * 3) u4) ∧ Row w7 0 3 n F u7) := ⟨⟨SS.out.1.later q7, SS.out.2.ofRow SS.out.1 q7⟩, r7.mono (Nat.zero_le _)⟩
  clear r7 q7 Q RR GG SS
  go_wp2_with fail
  refine (eqRangeS_same _ _ _ 0 n F _ SS7.out.1.1 SS7.out.2 hb).mono ?_
  rintro e w8 ⟨rfl, q8⟩
  have Q8 : Hid (EnvR w w3.heap.size c (.slice ow m pw) w5.heap.size (.slice og m pg) w8) := Q7.out.later q8
  have RR8 : Hid (Row w8 w.heap.size 3 m G (.slice ow m pw)) := RR7.out.later q8
  have GG8 : Hid (Row w8 w4.heap.size 3 m G (.slice og m pg) ∧ Free w8 (m * 3) (.slice og m pg)) := ⟨GG7.out.1.later q8, GG7.out.2.ofRow GG7.out.1 q8⟩
  have SS8 : Hid (Row w8 (w3.heap.size + 1) 3 n F u4 ∧ Free w8 (n * 3) u4) := ⟨SS7.out.1.1.later q8, SS7.out.1.2.ofRow SS7.out.1.1 q8⟩
  clear q8 Q7 RR7 GG7 SS7
  go_wp2_with fail
  refine (markRangeS_turn _ _ n F 1 _ SS8.out.1 SS8.out.2 hb (by omega) (by omega)).mono ?_
  rintro e w9 ⟨rfl, _, _, g9⟩
  have W9 : Within (w3.heap.size + 1) w4.heap.size w8 w9 := Within.of g9 (turn_off L4.out)
  have Q9 : Hid (EnvR w w3.heap.size c (.slice ow m pw) w5.heap.size (.slice og m pg) w9) := Q8.out.within W9 (by have := z3.out; omega) (Or.inl (by omega)) (Or.inr z5.out)
  have RR9 : Hid (Row w9 w.heap.size 3 m G (.slice ow m pw)) := RR8.out.within W9 (fun h0 k hk => Or.inl (by have := LW.out h0 k hk; omega))
  have GG9 : Hid (Row w9 w4.heap.size 3 m G (.slice og m pg) ∧ Free w9 (m * 3) (.slice og m pg)) := ⟨GG8.out.1.within W9 (fun h0 k hk => Or.inr (LG.out h0 k hk).1), GG8.out.2.within GG8.out.1 W9 (fun h0 k hk => Or.inr (LG.out h0 k hk).1)⟩
  clear W9 g9 Q8 RR8 GG8 SS8
  obtain ⟨_, ⟨⟨t0, t1⟩, _⟩, ⟨g0, g1⟩, _⟩ := Q9.out
  go_wp2_with fail
  refine (eqRangesResult_same c m _ _ _ _ _ _ G _ GG9.out.1 RR9.out hm).mono ?_
  rintro e w10 ⟨rfl, q10⟩
  have Q : Hid (EnvR w w3.heap.size c (.slice ow m pw) w5.heap.size (.slice og m pg) w10) := Q9.out.later q10
  have RR : Hid (Row w10 w.heap.size 3 m G (.slice ow m pw)) := RR9.out.later q10
  have GG : Hid (Row w10 w4.heap.size 3 m G (.slice og m pg) ∧ Free w10 (m * 3) (.slice og m pg)) := ⟨GG9.out.1.later q10, GG9.out.2.ofRow GG9.out.1 q10⟩
  clear q10 Q9 RR9 GG9 t0 t1 g0 g1
  obtain ⟨_, _, ⟨g0, g1⟩, _⟩ := Q.out
  go_wp2_with fail
  refine (markRangesResult_any c m _ _ _ G _ GG.out.1 GG.out.2 hm).mono ?_
  rintro e w11 ⟨rfl, m11, g11⟩
  have W11 : Within w4.heap.size w5.heap.size w10 w11 := Within.of g11 (turn_off LG.out)
  have Q11 : Hid (EnvR w w3.heap.size c (.slice ow m pw) w5.heap.size (.slice og m pg) w11) := Q.out.within W11 (by have := z3.out; have := z4.out; omega) (Or.inl (by have := z4.out; omega)) (Or.inr (Nat.le_refl _))
  have RR11 : Hid (Row w11 w.heap.size 3 m G (.slice ow m pw)) := RR.out.within W11 (fun h0 k hk => Or.inl (by have := LW.out h0 k hk; have := z4.out; omega))
  have M11 : Hid (Row w11 w4.heap.size 3 m (fun p => 1 + (p : Nat)) (.slice og m pg)) := m11
  clear m11 g11 W11 Q RR GG g0 g1
  obtain ⟨_, _, ⟨g0, g1⟩, _⟩ := Q11.out
  go_wp2_with fail
  refine (heldRangesResult_any c m _ _ _ _ M11.out hm).mono ?_
  rintro e w12 ⟨rfl, q12⟩
  have Q12 : Hid (EnvR w w3.heap.size c (.slice ow m pw) w5.heap.size (.slice og m pg) w12) := Q11.out.later q12
  have RR12 : Hid (Row w12 w.heap.size 3 m G (.slice ow m pw)) := RR11.out.later q12
  have M12 : Hid (Row w12 w4.heap.size 3 m (fun p => 1 + (p : Nat)) (.slice og m pg)) := M11.out.later q12
  clear q12 Q11 RR11 M11 g0 g1
  go_wp2_with fail
  refine (toRangeS_cap _ 0 n F _ (H.out.later Q12.out.1) hb).mono ?_
  rintro e w13 ⟨u13, rfl, r13, _, q13⟩
  have R13 : Hid (Row w13 0 3 n F (.slice u13 n n)) := r13.mono (Nat.zero_le _)
  have Q13 : Hid (EnvR w w3.heap.size c (.slice ow m pw) w5.heap.size (.slice og m pg) w13) := Q12.out.later q13
  have RR13 : Hid (Row w13 w.heap.size 3 m G (.slice ow m pw)) := RR12.out.later q13
  have M13 : Hid (Row w13 w4.heap.size 3 m (fun p => 1 + (p : Nat)) (.slice og m pg)) := M12.out.later q13
  clear r13 q13 Q12 RR12 M12
  go_wp2_with fail
  refine (HI.out _ _ _ R13.out (Nat.le_refl _)).mono ?_
  rintro e w14 ⟨oh, ph, rfl, rh, _, q14⟩
  have Q14 : Hid (EnvR w w3.heap.size c (.slice ow m pw) w5.heap.size (.slice og m pg) w14) := Q13.out.later q14
  have Q15 : Hid (EnvR w w3.heap.size c (.slice ow m pw) w5.heap.size (.slice og m pg) (w14.alloc (.cells #[.int .i64 c, .slice oh m ph] 28))) := Q14.out.later (below_alloc _ _)
  have RR15 : Hid (Row (w14.alloc (.cells #[.int .i64 c, .slice oh m ph] 28)) w.heap.size 3 m G (.slice ow m pw)) := (RR13.out.later q14).alloc _
  have H15 : Hid (Row (w14.alloc (.cells #[.int .i64 c, .slice oh m ph] 28)) 0 3 m G (.slice oh m ph)) := (rh.mono (Nat.zero_le _)).alloc _
  have M15 : Hid (Row (w14.alloc (.cells #[.int .i64 c, .slice oh m ph] 28)) w4.heap.size 3 m (fun p => 1 + (p : Nat)) (.slice og m pg)) := (M13.out.later q14).alloc _
  obtain ⟨_, ⟨⟨t0, t1⟩, _⟩, _⟩ := Q14.out
  have hl := Q14.out.2.1.lt
  clear q14 rh Q13 RR13 M13 R13 Q14
  go_wp2_with fail
  refine (eqRangesResult_same c m _ _ _ _ _ _ G _ H15.out RR15.out hm).mono ?_
  rintro e w16 ⟨rfl, q16⟩
  have Q16 : Hid (EnvR w w3.heap.size c (.slice ow m pw) w5.heap.size (.slice og m pg) w16) := Q15.out.later q16
  have M16 : Hid (Row w16 w4.heap.size 3 m (fun p => 1 + (p : Nat)) (.slice og m pg)) := M15.out.later q16
  clear q16 Q15 RR15 H15 M15 t0 t1 hl
  obtain ⟨_, _, ⟨g0, g1⟩, _⟩ := Q16.out
  go_wp2_with fail
  refine (heldRangesResult_any c m _ _ _ _ M16.out hm).mono ?_
  rintro e w17 ⟨rfl, q17⟩
  have Q17 : Hid (EnvR w w3.heap.size c (.slice ow m pw) w5.heap.size (.slice og m pg) w17) := Q16.out.later q17
  clear q17 Q16 M16 g0 g1
  go_wp2
  go_ret
  exact ⟨rfl, Q17.out.1⟩
end Go.Proofs.Ytabenplbibhbiaa
