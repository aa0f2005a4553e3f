/-
  Own text. The law's markStore: it numbers all of a store of the call's own, and writes nowhere else.
-/
import Derived.Test.YtpakmdihbfegeaaGreatDoorColsE
import Derived.Test.YtpakmdihbfegeaaGreatDoorMarkA
namespace Go.Proofs.YtpakmdihbfegeaaGreatDoor
open Go.RowKit

/-- x' is x but for blocks from B on below E, and new ones. -/
structure Within (B E : Nat) (x x' : World) : Prop where
  os : x'.os = x.os
  tape : x'.tape = x.tape
  output : x'.output = x.output
  size : x.heap.size ≤ x'.heap.size
  block : ∀ k, k < x.heap.size → k < B ∨ E ≤ k → x'.heap[k]? = x.heap[k]?
theorem Within.refl (B E : Nat) (x : World) : Within B E x x := ⟨rfl, rfl, rfl, Nat.le_refl _, fun _ _ _ => rfl⟩
theorem Within.trans {B E : Nat} {a b c : World} (h : Within B E a b) (k : Within B E b c) : Within B E a c :=
  ⟨k.os.trans h.os, k.tape.trans h.tape, k.output.trans h.output, Nat.le_trans h.size k.size, fun i hi hr => (k.block i (Nat.lt_of_lt_of_le hi h.size) hr).trans (h.block i hi hr)⟩
theorem Within.grow {B E : Nat} {x x' : World} (h : Below x.heap.size x x') : Within B E x x' := ⟨h.os, h.tape, h.output, h.size, fun k hk _ => h.block k hk⟩
theorem Within.of {B E : Nat} {x x' : World} {row : Option Nat} (h : x.grownBy x' row) (hr : ∀ b, row = some b → B ≤ b ∧ b < E) : Within B E x x' :=
  ⟨h.os, h.tape, h.output, h.size, fun k hk ho => h.block k hk (fun e => by have := hr k e.symm; omega)⟩
theorem Within.below {B E : Nat} {w x x' : World} (h : Within B E x x') (hw : Below w.heap.size w x) (hB : w.heap.size ≤ B) : Below w.heap.size w x' :=
  ⟨h.os.trans hw.os, h.tape.trans hw.tape, h.output.trans hw.output, Nat.le_trans hw.size h.size, fun k hk => (h.block k (Nat.lt_of_lt_of_le hk hw.size) (Or.inl (by omega))).trans (hw.block k hk)⟩
theorem Within.mono {B E B' E' : Nat} {x x' : World} (h : Within B E x x') (hB : B' ≤ B) (hE : E ≤ E') : Within B' E' x x' := ⟨h.os, h.tape, h.output, h.size, fun k hk ho => h.block k hk (by omega)⟩
theorem Row.within {x x' : World} {C m n B E : Nat} {F : Nat → Int} {v : Value} (h : Row x C m n F v) (hw : Within B E x x') (ho : 0 < n → ∀ k, v.ownBlock = some k → k < B ∨ E ≤ k) : Row x' C m n F v := by
  rcases Nat.eq_zero_or_pos n with e | e
  · subst e
    obtain ⟨ao, cp, rfl, _⟩ := h
    exact ⟨ao, cp, rfl, fun q => absurd q (Nat.lt_irrefl 0)⟩
  · exact h.kept hw.size (fun k hk hlt => hw.block k hlt (ho e k hk))
theorem Free.within {x x' : World} {C m n B E : Nat} {F : Nat → Int} {v : Value} (h : Free x (n * m) v) (hr : Row x C m n F v) (hw : Within B E x x') (ho : 0 < n → ∀ k, v.ownBlock = some k → k < B ∨ E ≤ k) : Free x' (n * m) v := by
  rcases Nat.eq_zero_or_pos n with e | e
  · subst e; rw [Nat.zero_mul]; exact Free.of0 _ _
  · intro g o n' c hv p hp
    rw [World.frozen?_of_block (w := x) (a := ⟨g, o + p, none⟩) (hw.block g (hr.lt e g (by rw [hv]; rfl)).2 (ho e g (by rw [hv]; rfl)))]
    exact h g o n' c hv p hp
theorem Blk3.within {x x' : World} {b B E : Nat} {a0 a1 a2 : Value} (h : Blk3 x b a0 a1 a2) (hw : Within B E x x') (ho : b < B ∨ E ≤ b) : Blk3 x' b a0 a1 a2 := h.kept (hw.block b h.lt ho)
/-- The block that is turned by numbering: none, if there is nothing. -/
def turn (n : Nat) (v : Value) : Option Nat := if n = 0 then none else v.ownBlock
set_option maxHeartbeats 1000000 in
theorem markCellS_none (ao : Option Addr) (cp : Nat) (k0 : Int) (w : World) :
    Calls Tryz.prog 46 #[.slice ao 0 cp, .int .i64 k0] w fun e w' => e = .returned (.int .i64 k0) ∧ w' = w := by
  go_enter Tryz.func46, Tryz.ntmps46
  go_wp2
  go_loop [1, 5] (fun k i => i = .int .i64 0 ∧ k = .int .i64 k0) (fun _ i => 1 - (intOf i).toNat)
  case atStart => exact ⟨rfl, rfl⟩
  case round =>
    obtain ⟨rfl, rfl⟩ := hrel
    go_wp2
    go_ret
    exact ⟨rfl, rfl⟩
theorem markCellS_turn (v : Value) (B n : Nat) (F : Nat → Int) (k0 : Int) (w : World) (h : Row w B 3 n F v) (hf : Free w (n * 3) v) (hn : n ≤ 1048576) (hk0 : 0 ≤ k0) (hk1 : k0 ≤ 100000000) :
    Calls Tryz.prog 46 #[v, .int .i64 k0] w fun e w' => e = .returned (.int .i64 (k0 + n * 3)) ∧ Row w' B 3 n (fun p => k0 + (p : Nat)) v ∧ Free w' (n * 3) v ∧ w.grownBy w' (turn n v) := by
  rcases Nat.eq_zero_or_pos n with e | e
  · subst e
    obtain ⟨ao, cp, rfl⟩ := h.form
    refine (markCellS_none ao cp k0 w).mono fun e w' ⟨he, hw⟩ => ?_
    subst hw
    exact ⟨by rw [he]; simp, ⟨_, _, rfl, fun q => absurd q (Nat.lt_irrefl 0)⟩, hf, rfl, rfl, rfl, Nat.le_refl _, fun _ _ _ => rfl⟩
  · refine (markCellS_any v B n F k0 w h hf hn hk0 hk1).mono fun e' w' ⟨he, h1, h2, h3⟩ => ⟨he, h1, h2, ?_⟩
    unfold turn
    rw [if_neg (by omega)]
    exact h3
set_option maxHeartbeats 1000000 in
theorem markLockS_none (ao : Option Addr) (cp : Nat) (k0 : Int) (w : World) :
    Calls Tryz.prog 47 #[.slice ao 0 cp, .int .i64 k0] w fun e w' => e = .returned (.int .i64 k0) ∧ w' = w := by
  go_enter Tryz.func47, Tryz.ntmps47
  go_wp2
  go_loop [1, 5] (fun k i => i = .int .i64 0 ∧ k = .int .i64 k0) (fun _ i => 1 - (intOf i).toNat)
  case atStart => exact ⟨rfl, rfl⟩
  case round =>
    obtain ⟨rfl, rfl⟩ := hrel
    go_wp2
    go_ret
    exact ⟨rfl, rfl⟩
theorem markLockS_turn (v : Value) (B n : Nat) (F : Nat → Int) (k0 : Int) (w : World) (h : Row w B 5 n F v) (hf : Free w (n * 5) v) (hn : n ≤ 1048576) (hk0 : 0 ≤ k0) (hk1 : k0 ≤ 100000000) :
    Calls Tryz.prog 47 #[v, .int .i64 k0] w fun e w' => e = .returned (.int .i64 (k0 + n * 5)) ∧ Row w' B 5 n (fun p => k0 + (p : Nat)) v ∧ Free w' (n * 5) v ∧ w.grownBy w' (turn n v) := by
  rcases Nat.eq_zero_or_pos n with e | e
  · subst e
    obtain ⟨ao, cp, rfl⟩ := h.form
    refine (markLockS_none ao cp k0 w).mono fun e w' ⟨he, hw⟩ => ?_
    subst hw
    exact ⟨by rw [he]; simp, ⟨_, _, rfl, fun q => absurd q (Nat.lt_irrefl 0)⟩, hf, rfl, rfl, rfl, Nat.le_refl _, fun _ _ _ => rfl⟩
  · refine (markLockS_any v B n F k0 w h hf hn hk0 hk1).mono fun e' w' ⟨he, h1, h2, h3⟩ => ⟨he, h1, h2, ?_⟩
    unfold turn
    rw [if_neg (by omega)]
    exact h3
set_option maxHeartbeats 1000000 in
theorem markWriteS_none (ao : Option Addr) (cp : Nat) (k0 : Int) (w : World) :
    Calls Tryz.prog 48 #[.slice ao 0 cp, .int .i64 k0] w fun e w' => e = .returned (.int .i64 k0) ∧ w' = w := by
  go_enter Tryz.func48, Tryz.ntmps48
  go_wp2
  go_loop [1, 5] (fun k i => i = .int .i64 0 ∧ k = .int .i64 k0) (fun _ i => 1 - (intOf i).toNat)
  case atStart => exact ⟨rfl, rfl⟩
  case round =>
    obtain ⟨rfl, rfl⟩ := hrel
    go_wp2
    go_ret
    exact ⟨rfl, rfl⟩
theorem markWriteS_turn (v : Value) (B n : Nat) (F : Nat → Int) (k0 : Int) (w : World) (h : Row w B 4 n F v) (hf : Free w (n * 4) v) (hn : n ≤ 1048576) (hk0 : 0 ≤ k0) (hk1 : k0 ≤ 100000000) :
    Calls Tryz.prog 48 #[v, .int .i64 k0] w fun e w' => e = .returned (.int .i64 (k0 + n * 4)) ∧ Row w' B 4 n (fun p => k0 + (p : Nat)) v ∧ Free w' (n * 4) v ∧ w.grownBy w' (turn n v) := by
  rcases Nat.eq_zero_or_pos n with e | e
  · subst e
    obtain ⟨ao, cp, rfl⟩ := h.form
    refine (markWriteS_none ao cp k0 w).mono fun e w' ⟨he, hw⟩ => ?_
    subst hw
    exact ⟨by rw [he]; simp, ⟨_, _, rfl, fun q => absurd q (Nat.lt_irrefl 0)⟩, hf, rfl, rfl, rfl, Nat.le_refl _, fun _ _ _ => rfl⟩
  · refine (markWriteS_any v B n F k0 w h hf hn hk0 hk1).mono fun e' w' ⟨he, h1, h2, h3⟩ => ⟨he, h1, h2, ?_⟩
    unfold turn
    rw [if_neg (by omega)]
    exact h3
theorem turn_in {x : World} {B m n : Nat} {F : Nat → Int} {v : Value} (h : Row x B m n F v) {E : Nat} (hE : x.heap.size ≤ E) : ∀ b, turn n v = some b → B ≤ b ∧ b < E := by
  intro b hb
  unfold turn at hb
  split at hb
  · cases hb
  · have := h.lt (by omega) b hb; omega
theorem turn_off {n : Nat} {v : Value} {P : Nat → Prop} (h : 0 < n → ∀ k, v.ownBlock = some k → P k) : ∀ b, turn n v = some b → P b := by
  intro b hb
  unfold turn at hb
  split at hb
  · cases hb
  · exact h (by omega) b hb
theorem Row.turned {x x' : World} {C m n : Nat} {F : Nat → Int} {v : Value} {row : Option Nat} (h : Row x C m n F v) (hg : x.grownBy x' row) (ho : 0 < n → ∀ k, v.ownBlock = some k → some k ≠ row) : Row x' C m n F v := by
  rcases Nat.eq_zero_or_pos n with e | e
  · subst e
    obtain ⟨ao, cp, rfl, _⟩ := h
    exact ⟨ao, cp, rfl, fun q => absurd q (Nat.lt_irrefl 0)⟩
  · exact h.kept hg.size (fun k hk hlt => hg.block k hlt (ho e k hk))
theorem Free.turned {x x' : World} {C m n : Nat} {F : Nat → Int} {v : Value} {row : Option Nat} (h : Free x (n * m) v) (hr : Row x C m n F v) (hg : x.grownBy x' row) (ho : 0 < n → ∀ k, v.ownBlock = some k → some k ≠ row) : Free x' (n * m) v := by
  rcases Nat.eq_zero_or_pos n with e | e
  · subst e; rw [Nat.zero_mul]; exact Free.of0 _ _
  · intro g o n' c hv p hp
    rw [World.frozen?_of_block (w := x) (a := ⟨g, o + p, none⟩) (hg.block g (hr.lt e g (by rw [hv]; rfl)).2 (ho e g (by rw [hv]; rfl)))]
    exact h g o n' c hv p hp
set_option maxRecDepth 100000 in
set_option maxHeartbeats 2000000 in
theorem markStore_any (S : Sto) (v0 v1 v2 : Value) (B E : Nat) (w : World) (h : St w B S v0 v1 v2) (hf : FreeS w S v0 v1 v2) (ha : ApartS S v0 v1 v2) (hE : (0 < S.nc → ∀ k, v0.ownBlock = some k → k < E) ∧ (0 < S.nl → ∀ k, v1.ownBlock = some k → k < E) ∧ (0 < S.nw → ∀ k, v2.ownBlock = some k → k < E)) (hEw : E ≤ w.heap.size) (hc : S.nc ≤ 1048576) (hl : S.nl ≤ 1048576) (hk : S.nw ≤ 1048576) :
    Calls Tryz.prog 13 #[.agg #[v0, v1, v2], .int .i64 1] w fun e w' => e = .returned (.int .i64 (1 + S.nc * 3 + S.nl * 5 + S.nw * 4)) ∧ Within B E w w' := by
  obtain ⟨a0, c0, a1, c1, a2, c2, rfl, rfl, rfl⟩ := h.form
  have H : Hid (St w B S (.slice a0 S.nc c0) (.slice a1 S.nl c1) (.slice a2 S.nw c2) ∧ FreeS w S (.slice a0 S.nc c0) (.slice a1 S.nl c1) (.slice a2 S.nw c2)) := ⟨h, hf⟩
  obtain ⟨z1, z2, hz, A0, A1, A2⟩ := ha
  have HA : Hid (z1 ≤ z2 ∧ (0 < S.nc → ∀ k, (Value.slice a0 S.nc c0).ownBlock = some k → B ≤ k ∧ k < E ∧ k < z1) ∧ (0 < S.nl → ∀ k, (Value.slice a1 S.nl c1).ownBlock = some k → B ≤ k ∧ k < E ∧ z1 ≤ k ∧ k < z2) ∧ (0 < S.nw → ∀ k, (Value.slice a2 S.nw c2).ownBlock = some k → B ≤ k ∧ k < E ∧ z2 ≤ k)) :=
    ⟨hz, fun hn k q => ⟨(h.1.lt hn k q).1, hE.1 hn k q, A0 hn k q⟩, fun hn k q => ⟨(h.2.1.lt hn k q).1, hE.2.1 hn k q, A1 hn k q⟩, fun hn k q => ⟨(h.2.2.lt hn k q).1, hE.2.2 hn k q, A2 hn k q⟩⟩
  clear h hf hz A0 A1 A2 hE
  go_enter Tryz.func13, Tryz.ntmps13
  go_wp2_with fail
  refine (markCellS_turn _ B S.nc S.c 1 _ (H.out.1.1.alloc _) (H.out.2.1.ofRow H.out.1.1 (below_alloc _ _)) hc (by omega) (by omega)).mono ?_
  rintro e w1 ⟨rfl, _, _, g1⟩
  have hb1 : w1.heap[w.heap.size]? = (w.alloc (.cells #[.slice a0 S.nc c0, .slice a1 S.nl c1, .slice a2 S.nw c2] 32)).heap[w.heap.size]? := g1.block _ (by simp) (fun q => by have := turn_off HA.out.2.1 _ q.symm; omega)
  have W1 : Hid (Within B E w w1) := (Within.grow (below_alloc w _)).trans (Within.of g1 (fun b q => by have := turn_off HA.out.2.1 b q; omega))
  have K1 : Hid (Blk3 w1 w.heap.size (.slice a0 S.nc c0) (.slice a1 S.nl c1) (.slice a2 S.nw c2)) := (Blk3.new w _ _ _ _).kept hb1
  have R1 : Hid (Row w1 B 5 S.nl S.l (.slice a1 S.nl c1) ∧ Free w1 (S.nl * 5) (.slice a1 S.nl c1)) :=
    ⟨(H.out.1.2.1.alloc _).turned g1 (fun hn k q e => by have := HA.out.2.2.1 hn k q; have := turn_off HA.out.2.1 k e.symm; omega), (H.out.2.2.1.ofRow H.out.1.2.1 (below_alloc _ _)).turned (H.out.1.2.1.alloc _) g1 (fun hn k q e => by have := HA.out.2.2.1 hn k q; have := turn_off HA.out.2.1 k e.symm; omega)⟩
  have T1 : Hid (Row w1 B 4 S.nw S.k (.slice a2 S.nw c2) ∧ Free w1 (S.nw * 4) (.slice a2 S.nw c2)) :=
    ⟨(H.out.1.2.2.alloc _).turned g1 (fun hn k q e => by have := HA.out.2.2.2 hn k q; have := turn_off HA.out.2.1 k e.symm; have := HA.out.1; omega), (H.out.2.2.2.ofRow H.out.1.2.2 (below_alloc _ _)).turned (H.out.1.2.2.alloc _) g1 (fun hn k q e => by have := HA.out.2.2.2 hn k q; have := turn_off HA.out.2.1 k e.symm; have := HA.out.1; omega)⟩
  obtain ⟨⟨p0, p1, p2⟩, _⟩ := K1.out
  clear hb1 g1 H
  go_wp2_with fail
  refine (markLockS_turn _ B S.nl S.l _ _ R1.out.1 R1.out.2 hl (by omega) (by omega)).mono ?_
  rintro e w2 ⟨rfl, _, _, g2⟩
  have W2 : Hid (Within B E w w2) := W1.out.trans (Within.of g2 (fun b q => by have := turn_off HA.out.2.2.1 b q; omega))
  have K2 : Hid (Blk3 w2 w.heap.size (.slice a0 S.nc c0) (.slice a1 S.nl c1) (.slice a2 S.nw c2)) := K1.out.kept (g2.block _ K1.out.lt (fun q => by have := turn_off HA.out.2.2.1 _ q.symm; omega))
  have T2 : Hid (Row w2 B 4 S.nw S.k (.slice a2 S.nw c2) ∧ Free w2 (S.nw * 4) (.slice a2 S.nw c2)) :=
    ⟨T1.out.1.turned g2 (fun hn k q e => by have := HA.out.2.2.2 hn k q; have := turn_off HA.out.2.2.1 k e.symm; omega), T1.out.2.turned T1.out.1 g2 (fun hn k q e => by have := HA.out.2.2.2 hn k q; have := turn_off HA.out.2.2.1 k e.symm; omega)⟩
  clear p0 p1 p2 g2 T1 R1 K1 W1
  obtain ⟨⟨p0, p1, p2⟩, _⟩ := K2.out
  go_wp2_with fail
  refine (markWriteS_turn _ B S.nw S.k _ _ T2.out.1 T2.out.2 hk (by omega) (by omega)).mono ?_
  rintro e w3 ⟨rfl, _, _, g3⟩
  have W3 : Hid (Within B E w w3) := W2.out.trans (Within.of g3 (fun b q => by have := turn_off HA.out.2.2.2 b q; omega))
  clear p0 p1 p2 g3 T2 K2 W2
  go_wp2
  go_ret
  exact ⟨rfl, W3.out⟩
end Go.Proofs.YtpakmdihbfegeaaGreatDoor
