/-
  Own text. Groups that were answered: what they stand on; eq, mark, held of groups and of a code and groups.
-/
import Derived.Test.YtkaeolbnafhjaaaGreatGrpN
namespace Go.Proofs.YtkaeolbnafhjaaaGreat
open Go.RowKit

/-- Groups in new memory, from block lo on: all may be written, and every list lies in a block of its own. -/
def FineR (w : World) (lo tp nr : Nat) (F : Nat → Int) (n : Nat) (S : Nat → Sto) (ra : Option Addr) (rc : Nat) (sa : Option Addr) (U : Nat → Nat → Value) (z : Nat → Nat) : Prop :=
  (Row w lo 3 nr F (.slice ra nr rc) ∧ Free w (nr * 3) (.slice ra nr rc)) ∧ (RowS w lo n S U sa ∧ Fine w z n S U) ∧ ((∀ i, i < n → lo ≤ z i) ∧ (∀ i, i < n → z (i + 1) ≤ tp) ∧ tp ≤ w.heap.size) ∧ (0 < nr → ∀ q, (Value.slice ra nr rc).ownBlock = some q → Spare n S U q ∧ (0 < n → sa ≠ some ⟨q, 0, none⟩) ∧ q < tp)
theorem RowS.kept {w w' : World} {lo n : Nat} {S : Nat → Sto} {U : Nat → Nat → Value} {sa : Option Addr} (h : RowS w lo n S U sa) (hs : w.heap.size ≤ w'.heap.size) (hb : ∀ g, 0 < n → sa = some ⟨g, 0, none⟩ → g < w.heap.size → w'.heap[g]? = w.heap[g]?) : RowS w' lo n S U sa := fun hn => by
  obtain ⟨g, h1, h2, h3, h4⟩ := h hn
  exact ⟨g, h1, h2, h3.kept hs (hb g hn h1 h3.1), h4⟩
theorem RowS.later {w w' : World} {lo n : Nat} {S : Nat → Sto} {U : Nat → Nat → Value} {sa : Option Addr} (h : RowS w lo n S U sa) (hb : Below w.heap.size w w') : RowS w' lo n S U sa := h.kept hb.size (fun g _ _ hg => hb.block g hg)
theorem RowS.stos {w : World} {lo n : Nat} {S : Nat → Sto} {U : Nat → Nat → Value} {sa : Option Addr} {z : Nat → Nat} (h : RowS w lo n S U sa) (hf : Fine w z n S U) (hz : ∀ i, i < n → lo ≤ z i) (sc : Nat) : Stos w lo n S U (.slice sa n sc) :=
  ⟨⟨_, _, rfl, fun hn => by
    obtain ⟨g, h1, h2, h3, _⟩ := h hn
    refine ⟨g, 0, h1, h2, h3.1, fun i hi => ?_⟩
    obtain ⟨c0, c1, c2⟩ := h3.2.2 i hi
    simp only [Nat.zero_add]
    exact ⟨c0, c1, c2⟩⟩, fun i hi => (hf i hi).1.1.mono (hz i hi)⟩
theorem FineR.grs {w : World} {lo tp nr : Nat} {F : Nat → Int} {n : Nat} {S : Nat → Sto} {ra : Option Addr} {rc : Nat} {sa : Option Addr} {U : Nat → Nat → Value} {z : Nat → Nat} (h : FineR w lo tp nr F n S ra rc sa U z) (sc : Nat) : Grs w lo nr F n S U (.slice ra nr rc) (.slice sa n sc) := ⟨h.1.1, h.2.1.1.stos h.2.1.2 h.2.2.1.1 sc⟩
theorem FineR.later {w w' : World} {lo tp nr : Nat} {F : Nat → Int} {n : Nat} {S : Nat → Sto} {ra : Option Addr} {rc : Nat} {sa : Option Addr} {U : Nat → Nat → Value} {z : Nat → Nat} (h : FineR w lo tp nr F n S ra rc sa U z) (hb : Below w.heap.size w w') : FineR w' lo tp nr F n S ra rc sa U z :=
  ⟨⟨h.1.1.later hb, h.1.2.ofRow h.1.1 hb⟩, ⟨h.2.1.1.later hb, h.2.1.2.later hb⟩, ⟨h.2.2.1.1, h.2.2.1.2.1, Nat.le_trans h.2.2.1.2.2 hb.size⟩, h.2.2.2⟩
theorem Fine.within {w w' : World} {z : Nat → Nat} {n : Nat} {S : Nat → Sto} {U : Nat → Nat → Value} {B E : Nat} (h : Fine w z n S U) (hw : Within B E w w') (hz : ∀ i, i < n → E ≤ z i) : Fine w' z n S U := fun i hi => by
  obtain ⟨⟨h1, h2, h3⟩, h4, h5⟩ := h i hi
  have ho : OwnIn (S i) (U i 0) (U i 1) (U i 2) (fun j => j < B ∨ E ≤ j) := h4.mono (fun j hj => Or.inr (by have := hz i hi; omega))
  exact ⟨⟨h1.within hw ho, h2.within h1 hw ho, h3⟩, h4, h5⟩
theorem FineR.within {w w' : World} {lo tp nr : Nat} {F : Nat → Int} {n : Nat} {S : Nat → Sto} {ra : Option Addr} {rc : Nat} {sa : Option Addr} {U : Nat → Nat → Value} {z : Nat → Nat} {B E : Nat} (h : FineR w lo tp nr F n S ra rc sa U z) (hw : Within B E w w') (hE : E ≤ lo) : FineR w' lo tp nr F n S ra rc sa U z := by
  have ho : 0 < nr → ∀ k, (Value.slice ra nr rc).ownBlock = some k → k < B ∨ E ≤ k := fun hn k hk => Or.inr (Nat.le_trans hE (h.1.1.lt hn k hk).1)
  refine ⟨⟨h.1.1.within hw ho, h.1.2.within h.1.1 hw ho⟩, ⟨h.2.1.1.kept hw.size (fun g hn e hg => hw.block g hg (Or.inr ?_)), h.2.1.2.within hw (fun i hi => Nat.le_trans hE (h.2.2.1.1 i hi))⟩, ⟨h.2.2.1.1, h.2.2.1.2.1, Nat.le_trans h.2.2.1.2.2 hw.size⟩, h.2.2.2⟩
  obtain ⟨g', e', hl, _⟩ := h.2.1.1 hn
  rw [e] at e'
  simp only [Option.some.injEq, Addr.mk.injEq, and_true] at e'
  omega
theorem Spare.mix {n : Nat} {S : Nat → Sto} {U : Nat → Nat → Value} {q : Nat} (h : Spare n S U q) (k0 : Int) (k : Nat) : Spare n (mixS S k0 k) U q := fun i hi => by
  have := h i hi
  obtain ⟨e0, e1, e2⟩ := mix_same S k0 k i
  unfold OwnIn at this ⊢
  rw [e0, e1, e2]
  exact this
/-- A code, and groups in new memory. -/
def ResGr (w : World) (c : Int) (nr : Nat) (F : Nat → Int) (n : Nat) (S : Nat → Sto) (e : Ending) (w' : World) : Prop :=
  ∃ ra rc sa sc U z, e = .returned (.agg #[.int .i64 c, .slice ra nr rc, .slice sa n sc]) ∧ FineR w' w.heap.size w'.heap.size nr F n S ra rc sa U z ∧ Below w.heap.size w w'
/-- Groups that are numbered. -/
def MarkG (w : World) (lo nr n : Nat) (S : Nat → Sto) (ra : Option Addr) (rc : Nat) (sa : Option Addr) (sc : Nat) (U : Nat → Nat → Value) : Prop := Row w lo 3 nr (fun p => 1 + (p : Nat)) (.slice ra nr rc) ∧ Stos w lo n (mixS S (1 + nr * 3) n) U (.slice sa n sc)
theorem MarkG.later {w w' : World} {lo nr n : Nat} {S : Nat → Sto} {ra : Option Addr} {rc : Nat} {sa : Option Addr} {sc : Nat} {U : Nat → Nat → Value} (h : MarkG w lo nr n S ra rc sa sc U) (hb : Below w.heap.size w w') : MarkG w' lo nr n S ra rc sa sc U := ⟨h.1.later hb, h.2.later hb⟩
def SmallG (nr n : Nat) (S : Nat → Sto) : Prop := nr ≤ 1048576 ∧ n ≤ 1048576 ∧ (∀ i, i < n → SmallS (S i)) ∧ sumN (sizeT S) n ≤ 1048576
set_option maxHeartbeats 2000000 in
theorem markGroups_full (nr : Nat) (F : Nat → Int) (n : Nat) (S : Nat → Sto) (ra : Option Addr) (rc : Nat) (sa : Option Addr) (sc : Nat) (U : Nat → Nat → Value) (z : Nat → Nat) (lo tp : Nat) (w : World) (h : FineR w lo tp nr F n S ra rc sa U z) (hs : SmallG nr n S) :
    Calls Tryz.prog 23 #[.agg #[.slice ra nr rc, .slice sa n sc], .int .i64 1] w fun e w' => e = .returned (.int .i64 (1 + nr * 3 + (sumN (markT S) n : Nat))) ∧ MarkG w' lo nr n S ra rc sa sc U ∧ Within lo tp w w' := by
  have H : Hid (FineR w lo tp nr F n S ra rc sa U z) := h
  have HN : Hid (SmallG nr n S) := hs
  obtain ⟨hr, hn, _⟩ := hs
  clear h
  have HB : Hid (Blk2 (w.alloc (.cells #[.slice ra nr rc, .slice sa n sc] 31)) w.heap.size (.slice ra nr rc) (.slice sa n sc)) := Blk2.new w (.slice ra nr rc) (.slice sa n sc) 31
  go_enter Tryz.func23, Tryz.ntmps23
  go_wp2_with fail
  refine (markRangeS_turn _ lo nr F 1 _ (H.out.1.1.alloc _) (H.out.1.2.ofRow H.out.1.1 (below_alloc _ _)) hr (by omega) (by omega)).mono ?_
  rintro e w1 ⟨rfl, r1, _, g1⟩
  have tn : ∀ q, turn nr (.slice ra nr rc) = some q → (lo ≤ q ∧ q < tp ∧ tp ≤ w.heap.size) ∧ Spare n S U q ∧ (0 < n → sa ≠ some ⟨q, 0, none⟩) := fun q e => by obtain ⟨h0, h1⟩ := turn_eq e; have x := H.out.2.2.2 h0 q h1; exact ⟨⟨(H.out.1.1.lt h0 q h1).1, x.2.2, H.out.2.2.1.2.2⟩, x.1, x.2.1⟩
  have bl : ∀ q, q < w.heap.size → (turn nr (.slice ra nr rc) ≠ some q) → w1.heap[q]? = w.heap[q]? := fun q hq hne => (g1.block q (by simp; omega) (fun e => hne e.symm)).trans ((below_alloc w _).block q hq)
  have W1 : Hid (Within lo tp w w1) := ⟨g1.os, g1.tape, g1.output, Nat.le_trans (by simp) g1.size, fun q hq ho => bl q hq (fun e => by have := (tn q e).1; omega)⟩
  have HB1 : Hid (Blk2 w1 w.heap.size (.slice ra nr rc) (.slice sa n sc)) := HB.out.kept (g1.block w.heap.size (by simp) (fun e => by have := (tn _ e.symm).1; omega))
  have RS1 : Hid (RowS w1 lo n S U sa) := H.out.2.1.1.kept W1.out.size (fun g hn e hg => bl g hg (fun q => (tn g q).2.2 hn e))
  have ob : ∀ i, i < n → OwnIn (S i) (U i 0) (U i 1) (U i 2) (fun q => q < w.heap.size ∧ turn nr (.slice ra nr rc) ≠ some q) := fun i hi => by
    obtain ⟨_, h4, _⟩ := H.out.2.1.2 i hi
    have hz := H.out.2.2.1.2.1 i hi
    have hz2 := H.out.2.2.1.2.2
    refine ⟨fun hp k hk => ⟨?_, fun e => ?_⟩, fun hp k hk => ⟨?_, fun e => ?_⟩, fun hp k hk => ⟨?_, fun e => ?_⟩⟩
    · have := (h4.1 hp k hk).2; omega
    · exact ((tn k e).2.1 i hi).1 hp k hk rfl
    · have := (h4.2.1 hp k hk).2; omega
    · exact ((tn k e).2.1 i hi).2.1 hp k hk rfl
    · have := (h4.2.2 hp k hk).2; omega
    · exact ((tn k e).2.1 i hi).2.2 hp k hk rfl
  have FI1 : Hid (Fine w1 z n S U) := fun i hi => by
    obtain ⟨⟨⟨s0, s1, s2⟩, ⟨f0, f1, f2⟩, h3⟩, h4⟩ := (H.out.2.1.2.later (below_alloc w (.cells #[.slice ra nr rc, .slice sa n sc] 31))) i hi
    have o := ob i hi
    have x0 : 0 < (S i).nc → ∀ k, (U i 0).ownBlock = some k → some k ≠ turn nr (.slice ra nr rc) := fun hp k hk e => (o.1 hp k hk).2 e.symm
    have x1 : 0 < (S i).nl → ∀ k, (U i 1).ownBlock = some k → some k ≠ turn nr (.slice ra nr rc) := fun hp k hk e => (o.2.1 hp k hk).2 e.symm
    have x2 : 0 < (S i).nw → ∀ k, (U i 2).ownBlock = some k → some k ≠ turn nr (.slice ra nr rc) := fun hp k hk e => (o.2.2 hp k hk).2 e.symm
    exact ⟨⟨⟨s0.turned g1 x0, s1.turned g1 x1, s2.turned g1 x2⟩, ⟨f0.turned s0 g1 x0, f1.turned s1 g1 x1, f2.turned s2 g1 x2⟩, h3⟩, h4⟩
  have R1 : Hid (Row w1 lo 3 nr (fun p => 1 + (p : Nat)) (.slice ra nr rc)) := r1
  have HSP : Hid (0 < nr → ∀ q, (Value.slice ra nr rc).ownBlock = some q → Spare n S U q) := fun hp q hq => (H.out.2.2.2 hp q hq).1
  have HOB : Hid (∀ i, i < n → OwnIn (S i) (U i 0) (U i 1) (U i 2) (fun q => lo ≤ q ∧ q < tp)) := fun i hi => by
    obtain ⟨_, h4, _⟩ := H.out.2.1.2 i hi
    have hz := H.out.2.2.1.2.1 i hi
    have hl := H.out.2.2.1.1 i hi
    exact h4.mono (fun q hq => by omega)
  have HZ : Hid (∀ i, i < n → lo ≤ z i) := H.out.2.2.1.1
  clear r1 g1 tn bl ob H HB
  obtain ⟨⟨p0, p1⟩, _⟩ := HB1.out
  go_wp2_with fail
  refine (markStoreS_full n sc lo sa S U z (1 + nr * 3) _ RS1.out FI1.out HN.out.2.2.1 HN.out.2.2.2 (by omega) (by omega) hn).mono ?_
  rintro e w2 ⟨rfl, ⟨RS2, FI2⟩, K2⟩
  have RS2' : RowS w2 lo n (mixS S (1 + nr * 3) n) U sa := fun hp => by
    obtain ⟨g, x1, x2, x3, x4⟩ := RS2 hp
    exact ⟨g, x1, x2, x3, x4.mix _ _⟩
  have MM : Hid (MarkG w2 lo nr n S ra rc sa sc U) := by
    refine ⟨?_, RS2'.stos FI2 HZ.out sc⟩
    rcases Nat.eq_zero_or_pos nr with q | q
    · subst q
      exact ⟨_, _, rfl, fun hq => absurd hq (Nat.lt_irrefl 0)⟩
    · exact R1.out.kept K2.size (fun k hk hlt => K2.block k hlt (HSP.out q k hk))
  have WW : Hid (Within lo tp w w2) := ⟨K2.os.trans W1.out.os, K2.tape.trans W1.out.tape, K2.output.trans W1.out.output, Nat.le_trans W1.out.size K2.size, fun q hq ho => (K2.block q (Nat.lt_of_lt_of_le hq W1.out.size) (fun i hi => (HOB.out i hi).mono (fun p hp => by omega))).trans (W1.out.block q hq ho)⟩
  clear RS2 FI2 K2 RS2' RS1 FI1 R1 HSP HOB W1
  go_wp2
  go_ret
  exact ⟨rfl, MM.out, WW.out⟩
set_option maxHeartbeats 2000000 in
theorem heldGroups_any (nr n : Nat) (S : Nat → Sto) (ra : Option Addr) (rc : Nat) (sa : Option Addr) (sc : Nat) (U : Nat → Nat → Value) (lo : Nat) (w : World) (h : MarkG w lo nr n S ra rc sa sc U) (hs : SmallG nr n S) :
    Calls Tryz.prog 52 #[.agg #[.slice ra nr rc, .slice sa n sc], .int .i64 1] w fun e w' => e = .returned (.int .i64 (1 + nr * 3 + (sumN (markT S) n : Nat))) ∧ Below w.heap.size w w' := by
  have H : Hid (MarkG w lo nr n S ra rc sa sc U) := h
  have HN : Hid (SmallG nr n S) := hs
  obtain ⟨hr, hn, _⟩ := hs
  obtain ⟨t, ht⟩ : ∃ t, sumN (markT S) n = t := ⟨_, rfl⟩
  have HT : Hid (sumN (markT S) n = t) := ht
  have d0 : decide ((1 : Int) + nr * 3 < 0) = false := decide_eq_false (by omega)
  have d1 : decide ((1 : Int) + nr * 3 + (t : Nat) < 0) = false := decide_eq_false (by omega)
  rw [ht]
  clear h ht
  go_enter Tryz.func52, Tryz.ntmps52
  go_wp2_with fail
  refine (heldRangeS_any _ lo nr 1 _ (H.out.1.alloc _) hr (by omega) (by omega)).mono ?_
  rintro e w1 ⟨rfl, rfl⟩
  go_wp2_with fail
  refine (heldStoreS_any n sc lo sa S U (1 + nr * 3) _ (H.out.2.alloc _) HN.out.2.2.1 HN.out.2.2.2 (by omega) (by omega) hn).mono ?_
  rw [HT.out]
  rintro e w1 ⟨rfl, rfl⟩
  go_wp2
  go_ret
  exact ⟨rfl, below_alloc _ _⟩
set_option maxHeartbeats 2000000 in
theorem eqGroupsResult_same (c : Int) (nr : Nat) (F : Nat → Int) (n : Nat) (S : Nat → Sto) (V U : Nat → Nat → Value) (vr vs ur us : Value) (B B' : Nat) (w : World) (h : Grs w B nr F n S V vr vs) (h' : Grs w B' nr F n S U ur us) (hs : SmallG nr n S) :
    Calls Tryz.prog 12 #[.agg #[.int .i64 c, vr, vs], .agg #[.int .i64 c, ur, us]] w fun e w' => e = .returned (.bool true) ∧ Below w.heap.size w w' := by
  obtain ⟨a0, c0, a1, c1, rfl, rfl⟩ := h.form
  obtain ⟨b0, d0, b1, d1, rfl, rfl⟩ := h'.form
  have H : Hid (Grs w B nr F n S V (.slice a0 nr c0) (.slice a1 n c1)) := h
  have H' : Hid (Grs w B' nr F n S U (.slice b0 nr d0) (.slice b1 n d1)) := h'
  have HN : Hid (SmallG nr n S) := hs
  clear h h' hs
  go_enter Tryz.func12, Tryz.ntmps12
  go_wp2_with fail
  refine (eqGroups_same nr F n S V U _ _ _ _ B B' _ ((H.out.alloc _).alloc _) ((H'.out.alloc _).alloc _) HN.out.1 HN.out.2.1 HN.out.2.2.1).mono ?_
  rintro e w1 ⟨rfl, q1⟩
  have B1 : Hid (Below w.heap.size w w1) := ((below_alloc w _).alloc (by simp) _).trans (q1.mono (by simp; omega))
  clear q1
  go_wp2
  go_ret
  exact ⟨rfl, B1.out⟩
set_option maxHeartbeats 2000000 in
theorem markGroupsResult_any (c : Int) (nr : Nat) (F : Nat → Int) (n : Nat) (S : Nat → Sto) (ra : Option Addr) (rc : Nat) (sa : Option Addr) (sc : Nat) (U : Nat → Nat → Value) (z : Nat → Nat) (lo tp : Nat) (w : World) (h : FineR w lo tp nr F n S ra rc sa U z) (hs : SmallG nr n S) :
    Calls Tryz.prog 15 #[.agg #[.int .i64 c, .slice ra nr rc, .slice sa n sc], .int .i64 1] w fun e w' => e = .returned (.int .i64 (1 + nr * 3 + (sumN (markT S) n : Nat))) ∧ MarkG w' lo nr n S ra rc sa sc U ∧ Within lo tp w w' := by
  have H : Hid (FineR w lo tp nr F n S ra rc sa U z) := h
  have HN : Hid (SmallG nr n S) := hs
  obtain ⟨t, ht⟩ : ∃ t, sumN (markT S) n = t := ⟨_, rfl⟩
  have HT : Hid (sumN (markT S) n = t) := ht
  rw [ht]
  clear h hs ht
  go_enter Tryz.func15, Tryz.ntmps15
  go_wp2_with fail
  refine (markGroups_full nr F n S ra rc sa sc U z lo tp _ (H.out.later (below_alloc _ _)) HN.out).mono ?_
  rw [HT.out]
  rintro e w1 ⟨rfl, m1, W1⟩
  have Q : Hid (MarkG w1 lo nr n S ra rc sa sc U ∧ Within lo tp w w1) := ⟨m1, (Within.grow (below_alloc _ _)).trans W1⟩
  clear m1 W1
  go_wp2
  go_ret
  exact ⟨rfl, Q.out.1, Q.out.2⟩
set_option maxHeartbeats 2000000 in
theorem heldGroupsResult_any (c : Int) (nr n : Nat) (S : Nat → Sto) (ra : Option Addr) (rc : Nat) (sa : Option Addr) (sc : Nat) (U : Nat → Nat → Value) (lo : Nat) (w : World) (h : MarkG w lo nr n S ra rc sa sc U) (hs : SmallG nr n S) :
    Calls Tryz.prog 16 #[.agg #[.int .i64 c, .slice ra nr rc, .slice sa n sc], .int .i64 1] w fun e w' => e = .returned (.int .i64 (1 + nr * 3 + (sumN (markT S) n : Nat))) ∧ Below w.heap.size w w' := by
  have H : Hid (MarkG w lo nr n S ra rc sa sc U) := h
  have HN : Hid (SmallG nr n S) := hs
  obtain ⟨t, ht⟩ : ∃ t, sumN (markT S) n = t := ⟨_, rfl⟩
  have HT : Hid (sumN (markT S) n = t) := ht
  have d1 : decide ((1 : Int) + nr * 3 + (t : Nat) < 0) = false := decide_eq_false (by omega)
  rw [ht]
  clear h hs ht
  go_enter Tryz.func16, Tryz.ntmps16
  go_wp2_with fail
  refine (heldGroups_any nr n S ra rc sa sc U lo _ (H.out.later (below_alloc _ _)) HN.out).mono ?_
  rw [HT.out]
  rintro e w1 ⟨rfl, q1⟩
  have Q : Hid (Below w.heap.size w w1) := (below_alloc _ _).trans (q1.mono (by simp))
  clear q1
  go_wp2
  go_ret
  exact ⟨rfl, Q.out⟩
end Go.Proofs.YtkaeolbnafhjaaaGreat
