/-
  Own text. The law's markStore: it numbers all of a store of the call's own, and writes nowhere else.
-/
import Derived.Test.YtlojbhadodbohaaGreatColsE
import Derived.Test.YtlojbhadodbohaaGreatMarkA
namespace Go.Proofs.YtlojbhadodbohaaGreat
open Go.RowKit

set_option maxRecDepth 100000 in
set_option maxHeartbeats 2000000 in
theorem markStore_any (S : Sto) (v0 v1 v2 : Value) (B E : Nat) (w : World) (h : St w B S v0 v1 v2) (hf : FreeS w S v0 v1 v2) (ha : ApartS S v0 v1 v2) (hE : (0 < S.nc → ∀ k, v0.ownBlock = some k → k < E) ∧ (0 < S.nl → ∀ k, v1.ownBlock = some k → k < E) ∧ (0 < S.nw → ∀ k, v2.ownBlock = some k → k < E)) (hEw : E ≤ w.heap.size) (hc : S.nc ≤ 1048576) (hl : S.nl ≤ 1048576) (hk : S.nw ≤ 1048576) :
    Calls Tryz.prog 17 #[.agg #[v0, v1, v2], .int .i64 1] w fun e w' => e = .returned (.int .i64 (1 + S.nc * 3 + S.nl * 5 + S.nw * 4)) ∧ Within B E w w' := by
  obtain ⟨a0, c0, a1, c1, a2, c2, rfl, rfl, rfl⟩ := h.form
  have H : Hid (St w B S (.slice a0 S.nc c0) (.slice a1 S.nl c1) (.slice a2 S.nw c2) ∧ FreeS w S (.slice a0 S.nc c0) (.slice a1 S.nl c1) (.slice a2 S.nw c2)) := ⟨h, hf⟩
  obtain ⟨z1, z2, hz, A0, A1, A2⟩ := ha
  have HA : Hid (z1 ≤ z2 ∧ (0 < S.nc → ∀ k, (Value.slice a0 S.nc c0).ownBlock = some k → B ≤ k ∧ k < E ∧ k < z1) ∧ (0 < S.nl → ∀ k, (Value.slice a1 S.nl c1).ownBlock = some k → B ≤ k ∧ k < E ∧ z1 ≤ k ∧ k < z2) ∧ (0 < S.nw → ∀ k, (Value.slice a2 S.nw c2).ownBlock = some k → B ≤ k ∧ k < E ∧ z2 ≤ k)) :=
    ⟨hz, fun hn k q => ⟨(h.1.lt hn k q).1, hE.1 hn k q, A0 hn k q⟩, fun hn k q => ⟨(h.2.1.lt hn k q).1, hE.2.1 hn k q, A1 hn k q⟩, fun hn k q => ⟨(h.2.2.lt hn k q).1, hE.2.2 hn k q, A2 hn k q⟩⟩
  clear h hf hz A0 A1 A2 hE
  go_enter Tryz.func17, Tryz.ntmps17
  go_wp2_with fail
  refine (markCellS_turn _ B S.nc S.c 1 _ (H.out.1.1.alloc _) (H.out.2.1.ofRow H.out.1.1 (below_alloc _ _)) hc (by omega) (by omega)).mono ?_
  rintro e w1 ⟨rfl, _, _, g1⟩
  have hb1 : w1.heap[w.heap.size]? = (w.alloc (.cells #[.slice a0 S.nc c0, .slice a1 S.nl c1, .slice a2 S.nw c2] 45)).heap[w.heap.size]? := g1.block _ (by simp) (fun q => by have := turn_off HA.out.2.1 _ q.symm; omega)
  have W1 : Hid (Within B E w w1) := (Within.grow (below_alloc w _)).trans (Within.of g1 (fun b q => by have := turn_off HA.out.2.1 b q; omega))
  have K1 : Hid (Blk3 w1 w.heap.size (.slice a0 S.nc c0) (.slice a1 S.nl c1) (.slice a2 S.nw c2)) := (Blk3.new w _ _ _ _).kept hb1
  have R1 : Hid (Row w1 B 5 S.nl S.l (.slice a1 S.nl c1) ∧ Free w1 (S.nl * 5) (.slice a1 S.nl c1)) :=
    ⟨(H.out.1.2.1.alloc _).turned g1 (fun hn k q e => by have := HA.out.2.2.1 hn k q; have := turn_off HA.out.2.1 k e.symm; omega), (H.out.2.2.1.ofRow H.out.1.2.1 (below_alloc _ _)).turned (H.out.1.2.1.alloc _) g1 (fun hn k q e => by have := HA.out.2.2.1 hn k q; have := turn_off HA.out.2.1 k e.symm; omega)⟩
  have T1 : Hid (Row w1 B 4 S.nw S.k (.slice a2 S.nw c2) ∧ Free w1 (S.nw * 4) (.slice a2 S.nw c2)) :=
    ⟨(H.out.1.2.2.alloc _).turned g1 (fun hn k q e => by have := HA.out.2.2.2 hn k q; have := turn_off HA.out.2.1 k e.symm; have := HA.out.1; omega), (H.out.2.2.2.ofRow H.out.1.2.2 (below_alloc _ _)).turned (H.out.1.2.2.alloc _) g1 (fun hn k q e => by have := HA.out.2.2.2 hn k q; have := turn_off HA.out.2.1 k e.symm; have := HA.out.1; omega)⟩
  obtain ⟨⟨p0, p1, p2⟩, _⟩ := K1.out
  clear hb1 g1 H
  go_wp2_with fail
  refine (markLockS_turn _ B S.nl S.l _ _ R1.out.1 R1.out.2 hl (by omega) (by omega)).mono ?_
  rintro e w2 ⟨rfl, _, _, g2⟩
  have W2 : Hid (Within B E w w2) := W1.out.trans (Within.of g2 (fun b q => by have := turn_off HA.out.2.2.1 b q; omega))
  have K2 : Hid (Blk3 w2 w.heap.size (.slice a0 S.nc c0) (.slice a1 S.nl c1) (.slice a2 S.nw c2)) := K1.out.kept (g2.block _ K1.out.lt (fun q => by have := turn_off HA.out.2.2.1 _ q.symm; omega))
  have T2 : Hid (Row w2 B 4 S.nw S.k (.slice a2 S.nw c2) ∧ Free w2 (S.nw * 4) (.slice a2 S.nw c2)) :=
    ⟨T1.out.1.turned g2 (fun hn k q e => by have := HA.out.2.2.2 hn k q; have := turn_off HA.out.2.2.1 k e.symm; omega), T1.out.2.turned T1.out.1 g2 (fun hn k q e => by have := HA.out.2.2.2 hn k q; have := turn_off HA.out.2.2.1 k e.symm; omega)⟩
  clear p0 p1 p2 g2 T1 R1 K1 W1
  obtain ⟨⟨p0, p1, p2⟩, _⟩ := K2.out
  go_wp2_with fail
  refine (markWriteS_turn _ B S.nw S.k _ _ T2.out.1 T2.out.2 hk (by omega) (by omega)).mono ?_
  rintro e w3 ⟨rfl, _, _, g3⟩
  have W3 : Hid (Within B E w w3) := W2.out.trans (Within.of g3 (fun b q => by have := turn_off HA.out.2.2.2 b q; omega))
  clear p0 p1 p2 g3 T2 K2 W2
  go_wp2
  go_ret
  exact ⟨rfl, W3.out⟩
end Go.Proofs.YtlojbhadodbohaaGreat
