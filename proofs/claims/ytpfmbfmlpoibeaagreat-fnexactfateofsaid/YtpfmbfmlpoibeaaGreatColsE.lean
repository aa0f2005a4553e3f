/-
  Own text. The law's helpers over a whole store: toStore lays an equal store in new memory, szStore tells how much room is left, eqStore that two equal stores are equal.
-/
import Derived.Test.YtpfmbfmlpoibeaaGreatColsC

namespace Go.Proofs.YtpfmbfmlpoibeaaGreat
open Go.RowKit
set_option linter.unusedVariables false

/-- The three rows of a new store lie one behind the other. -/
def ApartS (S : Sto) (u0 u1 u2 : Value) : Prop := ∃ z1 z2, z1 ≤ z2 ∧ (0 < S.nc → ∀ k, u0.ownBlock = some k → k < z1) ∧ (0 < S.nl → ∀ k, u1.ownBlock = some k → z1 ≤ k ∧ k < z2) ∧ (0 < S.nw → ∀ k, u2.ownBlock = some k → z2 ≤ k)
set_option maxHeartbeats 1000000 in
theorem toStore_any (S : Sto) (v0 v1 v2 : Value) (B : Nat) (w : World) (h : St w B S v0 v1 v2) (hc : S.nc ≤ 1048576) (hl : S.nl ≤ 1048576) (hk : S.nw ≤ 1048576) :
    Calls Tryz.prog 96 #[.agg #[v0, v1, v2]] w fun e w' => ∃ u0 u1 u2, e = .returned (.agg #[u0, u1, u2]) ∧ St w' w.heap.size S u0 u1 u2 ∧ (FreeS w' S u0 u1 u2 ∧ ApartS S u0 u1 u2) ∧ Below w.heap.size w w' := by
  obtain ⟨a0, c0, a1, c1, a2, c2, rfl, rfl, rfl⟩ := h.form
  have H : Hid (St w B S (.slice a0 S.nc c0) (.slice a1 S.nl c1) (.slice a2 S.nw c2)) := h
  clear h
  go_enter Tryz.func96, Tryz.ntmps96
  go_wp2_with fail
  refine (toCellS_any _ B _ _ _ (((H.out.1.alloc _).alloc _).alloc _) hc).mono ?_
  rintro e w1 ⟨u0, rfl, r0, f0, q1⟩
  obtain ⟨b0, d0, rfl⟩ := r0.form
  have k1 := (((Blk3.new w (.slice a0 S.nc c0) (.slice a1 S.nl c1) (.slice a2 S.nw c2) 151).alloc (.cells #[.slice none 0 0, .slice none 0 0, .slice none 0 0] 37)).alloc (.cells #[.slice none 0 0, .slice none 0 0, .slice none 0 0] 37)).later q1
  have k2 := ((Blk3.new (w.alloc (.cells #[.slice a0 S.nc c0, .slice a1 S.nl c1, .slice a2 S.nw c2] 151)) (.slice none 0 0) (.slice none 0 0) (.slice none 0 0) 37).alloc (.cells #[.slice none 0 0, .slice none 0 0, .slice none 0 0] 37)).later q1
  have k3 := (Blk3.new ((w.alloc (.cells #[.slice a0 S.nc c0, .slice a1 S.nl c1, .slice a2 S.nw c2] 151)).alloc (.cells #[.slice none 0 0, .slice none 0 0, .slice none 0 0] 37)) (.slice none 0 0) (.slice none 0 0) (.slice none 0 0) 37).later q1
  simp only [World.size_alloc] at k2 k3 r0 q1
  have B1 : Hid (Below w.heap.size w w1) := (((below_alloc w _).alloc (by simp) _).alloc (by simp; omega) _).trans (q1.mono (by omega))
  have P1 : Hid (Blk3 w1 w.heap.size (.slice a0 S.nc c0) (.slice a1 S.nl c1) (.slice a2 S.nw c2) ∧ Blk3 w1 (w.heap.size + 1) (.slice none 0 0) (.slice none 0 0) (.slice none 0 0) ∧ Blk3 w1 (w.heap.size + 2) (.slice none 0 0) (.slice none 0 0) (.slice none 0 0)) := ⟨k1, k2, k3⟩
  have R1 : Hid (Row w1 (w.heap.size + 3) 3 S.nc S.c (.slice b0 S.nc d0) ∧ Free w1 (S.nc * 3) (.slice b0 S.nc d0)) := ⟨r0, f0⟩
  obtain ⟨⟨_, x1, _⟩, _⟩ := k1
  obtain ⟨⟨y0, _, _⟩, z0, _, _⟩ := k3
  clear k2 r0 f0 q1
  go_wp2_with fail
  have B1' : Hid (Below w.heap.size w (w1.setCell ⟨w.heap.size + 2, 0, none⟩ (.slice b0 S.nc d0))) := B1.out.setCell (by simp) _
  refine (toLockS_any _ B _ _ _ (H.out.2.1.later B1'.out) hl).mono ?_
  rintro e w2 ⟨u1, rfl, r1, f1, q2⟩
  obtain ⟨b1, d1, rfl⟩ := r1.form
  have z1 : w.heap.size + 3 ≤ w1.heap.size := P1.out.2.2.lt
  have sz1 : (w1.setCell ⟨w.heap.size + 2, 0, none⟩ (.slice b0 S.nc d0)).heap.size = w1.heap.size := by simp [World.setCell]
  have k1 := (P1.out.1.setFar (p := ⟨w.heap.size + 2, 0, none⟩) (by simp) (.slice b0 S.nc d0)).later q2
  have k2 := (P1.out.2.1.setFar (p := ⟨w.heap.size + 2, 0, none⟩) (by simp) (.slice b0 S.nc d0)).later q2
  have k3 := (P1.out.2.2.set0 (.slice b0 S.nc d0)).later q2
  have R2 : Hid (Row w2 (w.heap.size + 3) 3 S.nc S.c (.slice b0 S.nc d0) ∧ Free w2 (S.nc * 3) (.slice b0 S.nc d0)) :=
    have e := R1.out.1.far (a := ⟨w.heap.size + 2, 0, none⟩) (Or.inl (by simp)) (.slice b0 S.nc d0)
    ⟨e.later q2, (R1.out.2.far _ _).ofRow e q2⟩
  have T2 : Hid (Row w2 (w.heap.size + 3) 5 S.nl S.l (.slice b1 S.nl d1) ∧ Free w2 (S.nl * 5) (.slice b1 S.nl d1)) := ⟨r1.mono (by omega), f1⟩
  have B2 : Hid (Below w.heap.size w w2) := B1'.out.trans (q2.mono (by have := B1'.out.size; omega))
  have P2 : Hid (Blk3 w2 w.heap.size (.slice a0 S.nc c0) (.slice a1 S.nl c1) (.slice a2 S.nw c2) ∧ Blk3 w2 (w.heap.size + 1) (.slice none 0 0) (.slice none 0 0) (.slice none 0 0) ∧ Blk3 w2 (w.heap.size + 2) (.slice b0 S.nc d0) (.slice none 0 0) (.slice none 0 0)) := ⟨k1, k2, k3⟩
  have A2 : Hid ((0 < S.nc → ∀ k, (Value.slice b0 S.nc d0).ownBlock = some k → k < w1.heap.size) ∧ (0 < S.nl → ∀ k, (Value.slice b1 S.nl d1).ownBlock = some k → w1.heap.size ≤ k ∧ k < w2.heap.size)) := ⟨fun hn k hk => (R1.out.1.lt hn k hk).2, fun hn k hk => by have := r1.lt hn k hk; rw [sz1] at this; exact this⟩
  have zz2 : Hid (w1.heap.size ≤ w2.heap.size) := by have := q2.size; rw [sz1] at this; exact this
  clear x1 y0 z0 q2 r1 f1 B1 B1' P1 R1 k2 z1 sz1
  obtain ⟨⟨_, _, x2⟩, _⟩ := k1
  obtain ⟨⟨_, y1, _⟩, _, z1, _⟩ := k3
  go_wp2_with fail
  have B2' : Hid (Below w.heap.size w (w2.setCell ⟨w.heap.size + 2, 1, none⟩ (.slice b1 S.nl d1))) := B2.out.setCell (by simp) _
  refine (toWriteS_any _ B _ _ _ (H.out.2.2.later B2'.out) hk).mono ?_
  rintro e w3 ⟨u2, rfl, r2, f2, q3⟩
  obtain ⟨b2, d2, rfl⟩ := r2.form
  have z2 : w.heap.size + 3 ≤ w2.heap.size := P2.out.2.2.lt
  have sz2 : (w2.setCell ⟨w.heap.size + 2, 1, none⟩ (.slice b1 S.nl d1)).heap.size = w2.heap.size := by simp [World.setCell]
  have k2 := (P2.out.2.1.setFar (p := ⟨w.heap.size + 2, 1, none⟩) (by simp) (.slice b1 S.nl d1)).later q3
  have k3 := (P2.out.2.2.set1 (.slice b1 S.nl d1)).later q3
  have R3 : Hid (St w3 (w.heap.size + 3) S (.slice b0 S.nc d0) (.slice b1 S.nl d1) (.slice b2 S.nw d2) ∧ FreeS w3 S (.slice b0 S.nc d0) (.slice b1 S.nl d1) (.slice b2 S.nw d2)) :=
    have e := R2.out.1.far (a := ⟨w.heap.size + 2, 1, none⟩) (Or.inl (by simp)) (.slice b1 S.nl d1)
    have e' := T2.out.1.far (a := ⟨w.heap.size + 2, 1, none⟩) (Or.inl (by simp)) (.slice b1 S.nl d1)
    ⟨⟨e.later q3, e'.later q3, r2.mono (by omega)⟩, (R2.out.2.far _ _).ofRow e q3, (T2.out.2.far _ _).ofRow e' q3, f2⟩
  have B3 : Hid (Below w.heap.size w w3) := B2'.out.trans (q3.mono (by have := B2'.out.size; omega))
  have A3 : Hid (ApartS S (.slice b0 S.nc d0) (.slice b1 S.nl d1) (.slice b2 S.nw d2)) := ⟨_, _, zz2.out, A2.out.1, A2.out.2, fun hn k hk => by have := (r2.lt hn k hk).1; rw [sz2] at this; exact this⟩
  clear x2 y1 z1 q3 r2 f2 B2 B2' P2 R2 T2 z2 sz2
  obtain ⟨⟨x0, x1, x2⟩, y0, y1, y2⟩ := k2
  obtain ⟨⟨p0, p1, p2⟩, q0, q1, q2⟩ := k3
  go_wp2
  refine bodyPost_ret (v := .agg #[.slice b0 S.nc d0, .slice b1 S.nl d1, .slice b2 S.nw d2]) (by simp [results, Tryz.results96, go_sem, x0, x1, x2]) rfl ⟨_, _, _, rfl, ?_, ?_, ?_⟩
  · exact ((((R3.out.1.far (by simp) _).far (by simp) _).far (by simp) _).far (by simp) _).mono (by omega)
  · exact ⟨(((R3.out.2.far _ _).far _ _).far _ _).far _ _, A3.out⟩
  · exact (((B3.out.setCell (by simp; omega) _).setCell (by simp) _).setCell (by simp) _).setCell (by simp) _

set_option maxHeartbeats 1000000 in
theorem eqStore_same (S : Sto) (v0 v1 v2 u0 u1 u2 : Value) (B B' : Nat) (w : World) (h : St w B S v0 v1 v2) (h' : St w B' S u0 u1 u2) (hc : S.nc ≤ 1048576) (hl : S.nl ≤ 1048576) (hk : S.nw ≤ 1048576) :
    Calls Tryz.prog 101 #[.agg #[v0, v1, v2], .agg #[u0, u1, u2]] w fun e w' => e = .returned (.bool true) ∧ Below w.heap.size w w' := by
  obtain ⟨a0, c0, a1, c1, a2, c2, rfl, rfl, rfl⟩ := h.form
  obtain ⟨b0, d0, b1, d1, b2, d2, rfl, rfl, rfl⟩ := h'.form
  have H : Hid (St w B S (.slice a0 S.nc c0) (.slice a1 S.nl c1) (.slice a2 S.nw c2)) := h
  have H' : Hid (St w B' S (.slice b0 S.nc d0) (.slice b1 S.nl d1) (.slice b2 S.nw d2)) := h'
  clear h h'
  go_enter Tryz.func101, Tryz.ntmps101
  go_wp2_with fail
  refine (eqCellS_same _ _ B B' _ _ _ ((H.out.1.alloc _).alloc _) ((H'.out.1.alloc _).alloc _) hc).mono ?_
  rintro e w1 ⟨rfl, q1⟩
  have k1 := ((Blk3.new w (.slice a0 S.nc c0) (.slice a1 S.nl c1) (.slice a2 S.nw c2) 37).alloc (.cells #[.slice b0 S.nc d0, .slice b1 S.nl d1, .slice b2 S.nw d2] 37)).later q1
  have k2 := (Blk3.new (w.alloc (.cells #[.slice a0 S.nc c0, .slice a1 S.nl c1, .slice a2 S.nw c2] 37)) (.slice b0 S.nc d0) (.slice b1 S.nl d1) (.slice b2 S.nw d2) 37).later q1
  simp only [World.size_alloc] at k2 q1
  have B1 : Hid (Below w.heap.size w w1) := ((below_alloc w _).alloc (by simp) _).trans (q1.mono (by omega))
  have P1 : Hid (Blk3 w1 w.heap.size (.slice a0 S.nc c0) (.slice a1 S.nl c1) (.slice a2 S.nw c2) ∧ Blk3 w1 (w.heap.size + 1) (.slice b0 S.nc d0) (.slice b1 S.nl d1) (.slice b2 S.nw d2)) := ⟨k1, k2⟩
  obtain ⟨⟨_, x1, _⟩, _⟩ := k1
  obtain ⟨⟨_, y1, _⟩, _⟩ := k2
  clear q1
  go_wp2_with fail
  refine (eqLockS_same _ _ B B' _ _ _ (H.out.2.1.later B1.out) (H'.out.2.1.later B1.out) hl).mono ?_
  rintro e w2 ⟨rfl, q2⟩
  have k1 := P1.out.1.later q2
  have k2 := P1.out.2.later q2
  have B2 : Hid (Below w.heap.size w w2) := B1.out.trans (q2.mono B1.out.size)
  clear q2 x1 y1 B1 P1
  obtain ⟨⟨_, _, x2⟩, _⟩ := k1
  obtain ⟨⟨_, _, y2⟩, _⟩ := k2
  go_wp2_with fail
  refine (eqWriteS_same _ _ B B' _ _ _ (H.out.2.2.later B2.out) (H'.out.2.2.later B2.out) hk).mono ?_
  rintro e w3 ⟨rfl, q3⟩
  have B3 : Hid (Below w.heap.size w w3) := B2.out.trans (q3.mono B2.out.size)
  clear q3 x2 y2 B2
  go_wp2
  go_ret
  exact ⟨rfl, B3.out⟩

set_option maxHeartbeats 400000 in
theorem szStore_ok (left : Int) (a0 a1 a2 : Option Addr) (n0 n1 n2 c0 c1 c2 : Nat) (w : World) (h : (n0 : Int) + n1 + n2 ≤ left) (h0 : 0 ≤ left) (h2 : left ≤ 1048576) (hn0 : n0 ≤ 9223372036854775807) (hn1 : n1 ≤ 9223372036854775807) (hn2 : n2 ≤ 9223372036854775807) :
    Calls Tryz.prog 93 #[.agg #[.slice a0 n0 c0, .slice a1 n1 c1, .slice a2 n2 c2], .int .i64 left] w fun e w' => e = .returned (.int .i64 (left - n0 - n1 - n2)) ∧ Below w.heap.size w w' := by
  go_enter Tryz.func93, Tryz.ntmps93
  go_wp2_with fail
  refine (szCellS_ok _ _ _ _ _ (by omega) (by omega)).mono ?_
  rintro e w1 ⟨rfl, rfl⟩
  go_wp2_with fail
  refine (szLockS_ok _ _ _ _ _ (by omega) (by omega)).mono ?_
  rintro e w1 ⟨rfl, rfl⟩
  go_wp2_with fail
  refine (szWriteS_ok _ _ _ _ _ (by omega) (by omega)).mono ?_
  rintro e w1 ⟨rfl, rfl⟩
  go_wp2
  go_ret
  exact ⟨rfl, below_alloc _ _⟩
set_option maxHeartbeats 400000 in
theorem szStore_no0 (left : Int) (a0 a1 a2 : Option Addr) (n0 n1 n2 c0 c1 c2 : Nat) (w : World) (h : left < n0) (h0 : 0 ≤ left) (h2 : left ≤ 1048576) (hn0 : n0 ≤ 9223372036854775807) (hn1 : n1 ≤ 9223372036854775807) (hn2 : n2 ≤ 9223372036854775807) :
    Calls Tryz.prog 93 #[.agg #[.slice a0 n0 c0, .slice a1 n1 c1, .slice a2 n2 c2], .int .i64 left] w fun e w' => e = .returned (.int .i64 (-1)) ∧ Below w.heap.size w w' := by
  go_enter Tryz.func93, Tryz.ntmps93
  go_wp2_with fail
  refine (szCellS_no _ _ _ _ _ (by omega) (by omega) (by omega) hn0).mono ?_
  rintro e w1 ⟨rfl, rfl⟩
  go_wp2
  go_ret
  exact ⟨rfl, below_alloc _ _⟩
set_option maxHeartbeats 400000 in
theorem szStore_no1 (left : Int) (a0 a1 a2 : Option Addr) (n0 n1 n2 c0 c1 c2 : Nat) (w : World) (h : (n0 : Int) ≤ left ∧ left < n0 + n1) (h0 : 0 ≤ left) (h2 : left ≤ 1048576) (hn0 : n0 ≤ 9223372036854775807) (hn1 : n1 ≤ 9223372036854775807) (hn2 : n2 ≤ 9223372036854775807) :
    Calls Tryz.prog 93 #[.agg #[.slice a0 n0 c0, .slice a1 n1 c1, .slice a2 n2 c2], .int .i64 left] w fun e w' => e = .returned (.int .i64 (-1)) ∧ Below w.heap.size w w' := by
  go_enter Tryz.func93, Tryz.ntmps93
  go_wp2_with fail
  refine (szCellS_ok _ _ _ _ _ (by omega) (by omega)).mono ?_
  rintro e w1 ⟨rfl, rfl⟩
  go_wp2_with fail
  refine (szLockS_no _ _ _ _ _ (by omega) (by omega) (by omega) hn1).mono ?_
  rintro e w1 ⟨rfl, rfl⟩
  go_wp2
  go_ret
  exact ⟨rfl, below_alloc _ _⟩
set_option maxHeartbeats 400000 in
theorem szStore_no2 (left : Int) (a0 a1 a2 : Option Addr) (n0 n1 n2 c0 c1 c2 : Nat) (w : World) (h : (n0 : Int) + n1 ≤ left ∧ left < n0 + n1 + n2) (h0 : 0 ≤ left) (h2 : left ≤ 1048576) (hn0 : n0 ≤ 9223372036854775807) (hn1 : n1 ≤ 9223372036854775807) (hn2 : n2 ≤ 9223372036854775807) :
    Calls Tryz.prog 93 #[.agg #[.slice a0 n0 c0, .slice a1 n1 c1, .slice a2 n2 c2], .int .i64 left] w fun e w' => e = .returned (.int .i64 (-1)) ∧ Below w.heap.size w w' := by
  go_enter Tryz.func93, Tryz.ntmps93
  go_wp2_with fail
  refine (szCellS_ok _ _ _ _ _ (by omega) (by omega)).mono ?_
  rintro e w1 ⟨rfl, rfl⟩
  go_wp2_with fail
  refine (szLockS_ok _ _ _ _ _ (by omega) (by omega)).mono ?_
  rintro e w1 ⟨rfl, rfl⟩
  go_wp2_with fail
  refine (szWriteS_no _ _ _ _ _ (by omega) (by omega) (by omega) hn2).mono ?_
  rintro e w1 ⟨rfl, rfl⟩
  go_wp2
  go_ret
  exact ⟨rfl, below_alloc _ _⟩
theorem szStore_no (left : Int) (a0 a1 a2 : Option Addr) (n0 n1 n2 c0 c1 c2 : Nat) (w : World) (h : left < (n0 : Int) + n1 + n2) (h0 : 0 ≤ left) (h2 : left ≤ 1048576) (hn0 : n0 ≤ 9223372036854775807) (hn1 : n1 ≤ 9223372036854775807) (hn2 : n2 ≤ 9223372036854775807) :
    Calls Tryz.prog 93 #[.agg #[.slice a0 n0 c0, .slice a1 n1 c1, .slice a2 n2 c2], .int .i64 left] w fun e w' => e = .returned (.int .i64 (-1)) ∧ Below w.heap.size w w' := by
  by_cases e0 : left < n0
  · exact szStore_no0 left a0 a1 a2 n0 n1 n2 c0 c1 c2 w e0 h0 h2 hn0 hn1 hn2
  by_cases e1 : left < n0 + n1
  · exact szStore_no1 left a0 a1 a2 n0 n1 n2 c0 c1 c2 w ⟨by omega, e1⟩ h0 h2 hn0 hn1 hn2
  · exact szStore_no2 left a0 a1 a2 n0 n1 n2 c0 c1 c2 w ⟨by omega, h⟩ h0 h2 hn0 hn1 hn2
end Go.Proofs.YtpfmbfmlpoibeaaGreat
