/-
  Own text. The laws' helpers over a code and a store: eq, mark, held; mark numbers all three rows, one number behind the other.
-/
import Derived.Test.YtlojbhadodbohaaGreatMarkB
import Derived.Test.YtlojbhadodbohaaGreatStorQ
namespace Go.Proofs.YtlojbhadodbohaaGreat
open Go.RowKit

theorem turn_eq {n : Nat} {v : Value} {b : Nat} (h : turn n v = some b) : 0 < n ∧ v.ownBlock = some b := by
  unfold turn at h
  split at h
  · cases h
  · exact ⟨by omega, h⟩
/-- The three rows of a store lie in three blocks. -/
def ApartD (S : Sto) (u0 u1 u2 : Value) : Prop := (0 < S.nc → 0 < S.nl → u0.ownBlock ≠ u1.ownBlock) ∧ (0 < S.nc → 0 < S.nw → u0.ownBlock ≠ u2.ownBlock) ∧ (0 < S.nl → 0 < S.nw → u1.ownBlock ≠ u2.ownBlock)
theorem apart_rows {w : World} {B m n m' n' : Nat} {F F' : Nat → Int} {u u' : Value} (_ : Row w B m n F u) (_ : Row w B m' n' F' u') (hd : 0 < n → 0 < n' → u.ownBlock ≠ u'.ownBlock) : 0 < n' → ∀ k, u'.ownBlock = some k → some k ≠ turn n u := by
  intro hn k hk e
  obtain ⟨h0, h1⟩ := turn_eq e.symm
  exact hd h0 hn (h1.trans hk.symm)
/-- A store numbered from 1 on. -/
def markS (S : Sto) : Sto := ⟨S.nc, fun p => 1 + (p : Nat), S.nl, fun p => 1 + S.nc * 3 + (p : Nat), S.nw, fun p => 1 + S.nc * 3 + S.nl * 5 + (p : Nat)⟩
set_option maxRecDepth 100000 in
set_option maxHeartbeats 2000000 in
theorem markStore_full (S : Sto) (v0 v1 v2 : Value) (B E : Nat) (w : World) (h : St w B S v0 v1 v2) (hf : FreeS w S v0 v1 v2) (ha : ApartD S v0 v1 v2) (hE : (0 < S.nc → ∀ k, v0.ownBlock = some k → k < E) ∧ (0 < S.nl → ∀ k, v1.ownBlock = some k → k < E) ∧ (0 < S.nw → ∀ k, v2.ownBlock = some k → k < E)) (hEw : E ≤ w.heap.size) (hc : S.nc ≤ 1048576) (hl : S.nl ≤ 1048576) (hk : S.nw ≤ 1048576) :
    Calls Tryz.prog 17 #[.agg #[v0, v1, v2], .int .i64 1] w fun e w' => e = .returned (.int .i64 (1 + S.nc * 3 + S.nl * 5 + S.nw * 4)) ∧ St w' B (markS S) v0 v1 v2 ∧ Within B E w w' := by
  obtain ⟨a0, c0, a1, c1, a2, c2, rfl, rfl, rfl⟩ := h.form
  have H : Hid (St w B S (.slice a0 S.nc c0) (.slice a1 S.nl c1) (.slice a2 S.nw c2) ∧ FreeS w S (.slice a0 S.nc c0) (.slice a1 S.nl c1) (.slice a2 S.nw c2)) := ⟨h, hf⟩
  have HD : Hid (ApartD S (.slice a0 S.nc c0) (.slice a1 S.nl c1) (.slice a2 S.nw c2)) := ha
  have HA : Hid ((0 < S.nc → ∀ k, (Value.slice a0 S.nc c0).ownBlock = some k → B ≤ k ∧ k < E) ∧ (0 < S.nl → ∀ k, (Value.slice a1 S.nl c1).ownBlock = some k → B ≤ k ∧ k < E) ∧ (0 < S.nw → ∀ k, (Value.slice a2 S.nw c2).ownBlock = some k → B ≤ k ∧ k < E)) :=
    ⟨fun hn k q => ⟨(h.1.lt hn k q).1, hE.1 hn k q⟩, fun hn k q => ⟨(h.2.1.lt hn k q).1, hE.2.1 hn k q⟩, fun hn k q => ⟨(h.2.2.lt hn k q).1, hE.2.2 hn k q⟩⟩
  clear h hf ha hE
  go_enter Tryz.func17, Tryz.ntmps17
  go_wp2_with fail
  refine (markCellS_turn _ B S.nc S.c 1 _ (H.out.1.1.alloc _) (H.out.2.1.ofRow H.out.1.1 (below_alloc _ _)) hc (by omega) (by omega)).mono ?_
  rintro e w1 ⟨rfl, m1, _, g1⟩
  have hb1 : w1.heap[w.heap.size]? = (w.alloc (.cells #[.slice a0 S.nc c0, .slice a1 S.nl c1, .slice a2 S.nw c2] 45)).heap[w.heap.size]? := g1.block _ (by simp) (fun q => by have := turn_off HA.out.1 _ q.symm; omega)
  have W1 : Hid (Within B E w w1) := (Within.grow (below_alloc w _)).trans (Within.of g1 (fun b q => turn_off HA.out.1 b q))
  have K1 : Hid (Blk3 w1 w.heap.size (.slice a0 S.nc c0) (.slice a1 S.nl c1) (.slice a2 S.nw c2)) := (Blk3.new w _ _ _ _).kept hb1
  have M1 : Hid (Row w1 B 3 S.nc (fun p => 1 + (p : Nat)) (.slice a0 S.nc c0)) := m1
  have x1 := apart_rows H.out.1.1 H.out.1.2.1 HD.out.1
  have x2 := apart_rows H.out.1.1 H.out.1.2.2 HD.out.2.1
  have R1 : Hid (Row w1 B 5 S.nl S.l (.slice a1 S.nl c1) ∧ Free w1 (S.nl * 5) (.slice a1 S.nl c1)) :=
    ⟨(H.out.1.2.1.alloc _).turned g1 x1, (H.out.2.2.1.ofRow H.out.1.2.1 (below_alloc _ _)).turned (H.out.1.2.1.alloc _) g1 x1⟩
  have T1 : Hid (Row w1 B 4 S.nw S.k (.slice a2 S.nw c2) ∧ Free w1 (S.nw * 4) (.slice a2 S.nw c2)) :=
    ⟨(H.out.1.2.2.alloc _).turned g1 x2, (H.out.2.2.2.ofRow H.out.1.2.2 (below_alloc _ _)).turned (H.out.1.2.2.alloc _) g1 x2⟩
  obtain ⟨⟨p0, p1, p2⟩, _⟩ := K1.out
  clear hb1 g1 H m1 x1 x2
  go_wp2_with fail
  refine (markLockS_turn _ B S.nl S.l _ _ R1.out.1 R1.out.2 hl (by omega) (by omega)).mono ?_
  rintro e w2 ⟨rfl, m2, _, g2⟩
  have x0 := apart_rows R1.out.1 M1.out (fun h1 h2 e => HD.out.1 h2 h1 e.symm)
  have x2 := apart_rows R1.out.1 T1.out.1 HD.out.2.2
  have W2 : Hid (Within B E w w2) := W1.out.trans (Within.of g2 (fun b q => turn_off HA.out.2.1 b q))
  have K2 : Hid (Blk3 w2 w.heap.size (.slice a0 S.nc c0) (.slice a1 S.nl c1) (.slice a2 S.nw c2)) := K1.out.kept (g2.block _ K1.out.lt (fun q => by have := turn_off HA.out.2.1 _ q.symm; omega))
  have M2 : Hid (Row w2 B 3 S.nc (fun p => 1 + (p : Nat)) (.slice a0 S.nc c0) ∧ Row w2 B 5 S.nl (fun p => 1 + S.nc * 3 + (p : Nat)) (.slice a1 S.nl c1)) := ⟨M1.out.turned g2 x0, m2⟩
  have T2 : Hid (Row w2 B 4 S.nw S.k (.slice a2 S.nw c2) ∧ Free w2 (S.nw * 4) (.slice a2 S.nw c2)) := ⟨T1.out.1.turned g2 x2, T1.out.2.turned T1.out.1 g2 x2⟩
  clear p0 p1 p2 g2 T1 R1 K1 W1 m2 x0 x2 M1
  obtain ⟨⟨p0, p1, p2⟩, _⟩ := K2.out
  go_wp2_with fail
  refine (markWriteS_turn _ B S.nw S.k _ _ T2.out.1 T2.out.2 hk (by omega) (by omega)).mono ?_
  rintro e w3 ⟨rfl, m3, _, g3⟩
  have x0 := apart_rows T2.out.1 M2.out.1 (fun h1 h2 e => HD.out.2.1 h2 h1 e.symm)
  have x1 := apart_rows T2.out.1 M2.out.2 (fun h1 h2 e => HD.out.2.2 h2 h1 e.symm)
  have W3 : Hid (Within B E w w3) := W2.out.trans (Within.of g3 (fun b q => turn_off HA.out.2.2 b q))
  have M3 : Hid (St w3 B (markS S) (.slice a0 S.nc c0) (.slice a1 S.nl c1) (.slice a2 S.nw c2)) := ⟨M2.out.1.turned g3 x0, M2.out.2.turned g3 x1, m3⟩
  clear p0 p1 p2 g3 T2 K2 W2 m3 x0 x1 M2
  go_wp2
  go_ret
  exact ⟨rfl, M3.out, W3.out⟩
set_option maxRecDepth 100000 in
set_option maxHeartbeats 2000000 in
theorem heldStore_any (S : Sto) (v0 v1 v2 : Value) (B : Nat) (w : World) (h : St w B (markS S) v0 v1 v2) (hc : S.nc ≤ 1048576) (hl : S.nl ≤ 1048576) (hk : S.nw ≤ 1048576) :
    Calls Tryz.prog 74 #[.agg #[v0, v1, v2], .int .i64 1] w fun e w' => e = .returned (.int .i64 (1 + S.nc * 3 + S.nl * 5 + S.nw * 4)) ∧ Below w.heap.size w w' := by
  obtain ⟨a0, c0, a1, c1, a2, c2, rfl, rfl, rfl⟩ := h.form
  have H : Hid (Row w B 3 S.nc (fun p => 1 + (p : Nat)) (.slice a0 S.nc c0) ∧ Row w B 5 S.nl (fun p => 1 + S.nc * 3 + (p : Nat)) (.slice a1 S.nl c1) ∧ Row w B 4 S.nw (fun p => 1 + S.nc * 3 + S.nl * 5 + (p : Nat)) (.slice a2 S.nw c2)) := h
  have d0 : decide ((1 : Int) + S.nc * 3 < 0) = false := decide_eq_false (by omega)
  have d1 : decide ((1 : Int) + S.nc * 3 + S.nl * 5 < 0) = false := decide_eq_false (by omega)
  have d2 : decide ((1 : Int) + S.nc * 3 + S.nl * 5 + S.nw * 4 < 0) = false := decide_eq_false (by omega)
  clear h
  simp only [markS]
  go_enter Tryz.func74, Tryz.ntmps74
  go_wp2_with fail
  refine (heldCellS_any _ B S.nc 1 _ (H.out.1.alloc _) hc (by omega) (by omega)).mono ?_
  rintro e w1 ⟨rfl, rfl⟩
  go_wp2_with fail
  refine (heldLockS_any _ B S.nl _ _ (H.out.2.1.alloc _) hl (by omega) (by omega)).mono ?_
  rintro e w1 ⟨rfl, rfl⟩
  go_wp2_with fail
  refine (heldWriteS_any _ B S.nw _ _ (H.out.2.2.alloc _) hk (by omega) (by omega)).mono ?_
  rintro e w1 ⟨rfl, rfl⟩
  go_wp2
  go_ret
  exact ⟨rfl, below_alloc _ _⟩
set_option maxHeartbeats 1000000 in
theorem eqStoreResult_same (c : Int) (S : Sto) (v0 v1 v2 u0 u1 u2 : Value) (B B' : Nat) (w : World) (h : St w B S v0 v1 v2) (h' : St w B' S u0 u1 u2) (hc : S.nc ≤ 1048576) (hl : S.nl ≤ 1048576) (hk : S.nw ≤ 1048576) :
    Calls Tryz.prog 26 #[.agg #[.int .i64 c, v0, v1, v2], .agg #[.int .i64 c, u0, u1, u2]] w fun e w' => e = .returned (.bool true) ∧ Below w.heap.size w w' := by
  obtain ⟨a0, c0, a1, c1, a2, c2, rfl, rfl, rfl⟩ := h.form
  obtain ⟨b0, d0, b1, d1, b2, d2, rfl, rfl, rfl⟩ := h'.form
  have H : Hid (St w B S (.slice a0 S.nc c0) (.slice a1 S.nl c1) (.slice a2 S.nw c2) ∧ St w B' S (.slice b0 S.nc d0) (.slice b1 S.nl d1) (.slice b2 S.nw d2)) := ⟨h, h'⟩
  clear h h'
  go_enter Tryz.func26, Tryz.ntmps26
  go_wp2_with fail
  refine (eqStore_same S _ _ _ _ _ _ B B' _ ((H.out.1.alloc _).alloc _) ((H.out.2.alloc _).alloc _) hc hl hk).mono ?_
  rintro e w1 ⟨rfl, q1⟩
  have Q : Hid (Below w.heap.size w w1) := ((below_alloc _ _).alloc (by simp) _).trans (q1.mono (by simp; omega))
  clear q1
  go_wp2
  go_ret
  exact ⟨rfl, Q.out⟩
set_option maxHeartbeats 1000000 in
theorem markStoreResult_any (c : Int) (S : Sto) (v0 v1 v2 : Value) (B E : Nat) (w : World) (h : St w B S v0 v1 v2) (hf : FreeS w S v0 v1 v2) (ha : ApartD S v0 v1 v2) (hE : (0 < S.nc → ∀ k, v0.ownBlock = some k → k < E) ∧ (0 < S.nl → ∀ k, v1.ownBlock = some k → k < E) ∧ (0 < S.nw → ∀ k, v2.ownBlock = some k → k < E)) (hEw : E ≤ w.heap.size) (hc : S.nc ≤ 1048576) (hl : S.nl ≤ 1048576) (hk : S.nw ≤ 1048576) :
    Calls Tryz.prog 27 #[.agg #[.int .i64 c, v0, v1, v2], .int .i64 1] w fun e w' => e = .returned (.int .i64 (1 + S.nc * 3 + S.nl * 5 + S.nw * 4)) ∧ St w' B (markS S) v0 v1 v2 ∧ Within B E w w' := by
  obtain ⟨a0, c0, a1, c1, a2, c2, rfl, rfl, rfl⟩ := h.form
  have H : Hid ((St w B S (.slice a0 S.nc c0) (.slice a1 S.nl c1) (.slice a2 S.nw c2) ∧ FreeS w S (.slice a0 S.nc c0) (.slice a1 S.nl c1) (.slice a2 S.nw c2)) ∧ ApartD S (.slice a0 S.nc c0) (.slice a1 S.nl c1) (.slice a2 S.nw c2)) := ⟨⟨h, hf⟩, ha⟩
  have HE : Hid ((0 < S.nc → ∀ k, (Value.slice a0 S.nc c0).ownBlock = some k → k < E) ∧ (0 < S.nl → ∀ k, (Value.slice a1 S.nl c1).ownBlock = some k → k < E) ∧ (0 < S.nw → ∀ k, (Value.slice a2 S.nw c2).ownBlock = some k → k < E)) := hE
  clear h hf ha hE
  go_enter Tryz.func27, Tryz.ntmps27
  go_wp2_with fail
  refine (markStore_full S _ _ _ B E _ (H.out.1.1.alloc _) (H.out.1.2.later H.out.1.1 (below_alloc _ _)) H.out.2 HE.out (by simp; omega) hc hl hk).mono ?_
  rintro e w1 ⟨rfl, m1, W1⟩
  have Q : Hid (St w1 B (markS S) (.slice a0 S.nc c0) (.slice a1 S.nl c1) (.slice a2 S.nw c2) ∧ Within B E w w1) := ⟨m1, (Within.grow (below_alloc _ _)).trans W1⟩
  clear m1 W1
  go_wp2
  go_ret
  exact ⟨rfl, Q.out.1, Q.out.2⟩
set_option maxHeartbeats 1000000 in
theorem heldStoreResult_any (c : Int) (S : Sto) (v0 v1 v2 : Value) (B : Nat) (w : World) (h : St w B (markS S) v0 v1 v2) (hc : S.nc ≤ 1048576) (hl : S.nl ≤ 1048576) (hk : S.nw ≤ 1048576) :
    Calls Tryz.prog 28 #[.agg #[.int .i64 c, v0, v1, v2], .int .i64 1] w fun e w' => e = .returned (.int .i64 (1 + S.nc * 3 + S.nl * 5 + S.nw * 4)) ∧ Below w.heap.size w w' := by
  obtain ⟨a0, c0, a1, c1, a2, c2, rfl, rfl, rfl⟩ := h.form
  have H : Hid (St w B (markS S) (.slice a0 (markS S).nc c0) (.slice a1 (markS S).nl c1) (.slice a2 (markS S).nw c2)) := h
  have d2 : decide ((1 : Int) + S.nc * 3 + S.nl * 5 + S.nw * 4 < 0) = false := decide_eq_false (by omega)
  clear h
  simp only [markS] at H ⊢
  go_enter Tryz.func28, Tryz.ntmps28
  go_wp2_with fail
  refine (heldStore_any S _ _ _ B _ (St.alloc (S := markS S) H.out _) hc hl hk).mono ?_
  rintro e w1 ⟨rfl, q1⟩
  have Q : Hid (Below w.heap.size w w1) := (below_alloc _ _).trans (q1.mono (by simp))
  clear q1
  go_wp2
  go_ret
  exact ⟨rfl, Q.out⟩
end Go.Proofs.YtlojbhadodbohaaGreat
