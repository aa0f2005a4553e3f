/-
  Own text, merged of GrpN, GrpO, LawN.
-/
import Derived.Test.YtlojbhadodbohaaGreatGrpJ
import Derived.Test.YtlojbhadodbohaaGreatLawT
namespace Go.Proofs.YtlojbhadodbohaaGreat
section
open Go.RowKit
-- Own text. The numbering of groups that were answered: eq, mark, held of groups and of a code and groups.
/-- No list of a store lies in block q. -/
def Spare (n : Nat) (S : Nat → Sto) (U : Nat → Nat → Value) (q : Nat) : Prop := ∀ i, i < n → OwnIn (S i) (U i 0) (U i 1) (U i 2) (fun p => p ≠ q)
/-- Nothing is turned but the stores' own lists. -/
structure KeptS (n : Nat) (S : Nat → Sto) (U : Nat → Nat → Value) (w w' : World) : Prop where
  os : w'.os = w.os
  tape : w'.tape = w.tape
  output : w'.output = w.output
  size : w.heap.size ≤ w'.heap.size
  block : ∀ q, q < w.heap.size → Spare n S U q → w'.heap[q]? = w.heap[q]?
theorem KeptS.refl {n : Nat} {S : Nat → Sto} {U : Nat → Nat → Value} (w : World) : KeptS n S U w w := ⟨rfl, rfl, rfl, Nat.le_refl _, fun _ _ _ => rfl⟩
theorem KeptS.trans {n : Nat} {S : Nat → Sto} {U : Nat → Nat → Value} {a b c : World} (h : KeptS n S U a b) (k : KeptS n S U b c) : KeptS n S U a c :=
  ⟨k.os.trans h.os, k.tape.trans h.tape, k.output.trans h.output, Nat.le_trans h.size k.size, fun q hq hs => (k.block q (Nat.lt_of_lt_of_le hq h.size) hs).trans (h.block q hq hs)⟩
theorem KeptS.of {n : Nat} {S : Nat → Sto} {U : Nat → Nat → Value} {w w' : World} {row : Option Nat} (h : w.grownBy w' row) (hr : ∀ q, Spare n S U q → row ≠ some q) : KeptS n S U w w' :=
  ⟨h.os, h.tape, h.output, h.size, fun q hq hs => h.block q hq (fun e => hr q hs e.symm)⟩
set_option maxRecDepth 100000 in
set_option maxHeartbeats 8000000 in
theorem markStoreS_pos (n cp g : Nat) (S : Nat → Sto) (U : Nat → Nat → Value) (z : Nat → Nat) (k0 : Int) (w : World) (hF : FillS w g n n U) (hf : Fine w z n S U) (hg : Spare n S U g) (hs : ∀ i, i < n → SmallS (S i)) (ht : sumN (sizeT S) n ≤ 1048576) (h0 : 0 ≤ k0) (h1 : k0 ≤ 10000000) (hn : n ≤ 1048576) :
    Calls Tryz.prog 54 #[.slice (some ⟨g, 0, none⟩) n cp, .int .i64 k0] w fun e w' => e = .returned (.int .i64 (k0 + (sumN (markT S) n : Nat))) ∧ (FillS w' g n n U ∧ Fine w' z n (mixS S k0 n) U) ∧ KeptS n S U w w' := by
  have HF : Hid (FillS w g n n U ∧ Fine w z n S U ∧ Spare n S U g) := ⟨hF, hf, hg⟩
  have HN : Hid ((∀ i, i < n → SmallS (S i)) ∧ ∀ k, k ≤ n → sumN (markT S) k ≤ 5242880) := ⟨hs, fun k hk => by have := sum_mono (markT S) hk; have := markT_le S n; omega⟩
  clear hF hf hg hs ht
  go_enter Tryz.func54, Tryz.ntmps54
  go_wp2
  go_loopw [1, 5] (fun j i wr => ∃ (k c : Nat), k ≤ n ∧ j = .int .i64 (k0 + (c : Nat)) ∧ i = .int .i64 k ∧ Hid (c = sumN (markT S) k) ∧ Hid (KeptS n S U w wr ∧ FillS wr g n n U ∧ Fine wr z n (mixS S k0 k) U)) (fun _ i _ => n - (intOf i).toNat)
  case atStart => exact ⟨0, 0, Nat.zero_le _, by simp, rfl, rfl, KeptS.refl _, HF.out.1, HF.out.2.1.congr (fun i _ => by unfold mixS; rw [if_neg (Nat.not_lt_zero i)])⟩
  case round =>
    obtain ⟨k, c, hk, rfl, rfl, HC, HR⟩ := hrel
    have hcb : c ≤ 5242880 := by rw [HC.out]; exact HN.out.2 k hk
    by_cases hlt : k < n
    · obtain ⟨b0, b1, b2⟩ := HR.out.2.1.2.2 k hlt
      obtain ⟨⟨sk, fk, ak⟩, ok, uk⟩ := HR.out.2.2 k hlt
      have emx : mixS S k0 k k = S k := by unfold mixS; rw [if_neg (Nat.lt_irrefl k)]
      rw [emx] at sk fk ak ok
      obtain ⟨i0, d0, i1, d1, i2, d2, e0, e1, e2⟩ := sk.form
      obtain ⟨n0, hn0⟩ : ∃ x, (S k).nc = x := ⟨_, rfl⟩
      obtain ⟨n1, hn1⟩ : ∃ x, (S k).nl = x := ⟨_, rfl⟩
      obtain ⟨n2, hn2⟩ : ∃ x, (S k).nw = x := ⟨_, rfl⟩
      rw [e0, hn0] at b0
      rw [e1, hn1] at b1
      rw [e2, hn2] at b2
      have EU : Hid (U k 0 = .slice i0 n0 d0 ∧ U k 1 = .slice i1 n1 d1 ∧ U k 2 = .slice i2 n2 d2) := ⟨by rw [e0, hn0], by rw [e1, hn1], by rw [e2, hn2]⟩
      have hsm := HN.out.1 k hlt
      unfold SmallS at hsm
      rw [hn0, hn1, hn2] at hsm
      obtain ⟨m0, m1, m2⟩ := hsm
      have SK : Hid ((Row wr (z k) 3 n0 (S k).c (.slice i0 n0 d0) ∧ Row wr (z k) 5 n1 (S k).l (.slice i1 n1 d1) ∧ Row wr (z k) 4 n2 (S k).k (.slice i2 n2 d2)) ∧ Free wr (n0 * 3) (.slice i0 n0 d0) ∧ Free wr (n1 * 5) (.slice i1 n1 d1) ∧ Free wr (n2 * 4) (.slice i2 n2 d2)) := by
        rw [e0, e1, e2] at sk fk
        obtain ⟨x0, x1, x2⟩ := sk
        obtain ⟨y0, y1, y2⟩ := fk
        rw [hn0] at x0 y0
        rw [hn1] at x1 y1
        rw [hn2] at x2 y2
        exact ⟨⟨x0, x1, x2⟩, y0, y1, y2⟩
      have AK : Hid ((0 < n0 → 0 < n1 → (Value.slice i0 n0 d0).ownBlock ≠ (Value.slice i1 n1 d1).ownBlock) ∧ (0 < n0 → 0 < n2 → (Value.slice i0 n0 d0).ownBlock ≠ (Value.slice i2 n2 d2).ownBlock) ∧ (0 < n1 → 0 < n2 → (Value.slice i1 n1 d1).ownBlock ≠ (Value.slice i2 n2 d2).ownBlock)) := by
        unfold ApartD at ak
        rw [e0, e1, e2, hn0, hn1, hn2] at ak
        exact ak
      have OK : Hid ((0 < n0 → ∀ j, (Value.slice i0 n0 d0).ownBlock = some j → z k ≤ j ∧ j < z (k + 1)) ∧ (0 < n1 → ∀ j, (Value.slice i1 n1 d1).ownBlock = some j → z k ≤ j ∧ j < z (k + 1)) ∧ (0 < n2 → ∀ j, (Value.slice i2 n2 d2).ownBlock = some j → z k ≤ j ∧ j < z (k + 1))) := by
        unfold OwnIn at ok
        rw [e0, e1, e2, hn0, hn1, hn2] at ok
        exact ok
      have SP : Hid (∀ q, Spare n S U q → (0 < n0 → (Value.slice i0 n0 d0).ownBlock ≠ some q) ∧ (0 < n1 → (Value.slice i1 n1 d1).ownBlock ≠ some q) ∧ (0 < n2 → (Value.slice i2 n2 d2).ownBlock ≠ some q)) := fun q hq => by
        have h := hq k hlt
        unfold OwnIn at h
        rw [e0, e1, e2, hn0, hn1, hn2] at h
        exact ⟨fun hp e => h.1 hp q e rfl, fun hp e => h.2.1 hp q e rfl, fun hp e => h.2.2 hp q e rfl⟩
      have HE : Hid ((S k).nc = n0 ∧ (S k).nl = n1 ∧ (S k).nw = n2) := ⟨hn0, hn1, hn2⟩
      have HC1 : Hid (c + n0 * 3 + n1 * 5 + n2 * 4 = sumN (markT S) (k + 1)) := by
        unfold Hid
        show _ = sumN (markT S) k + ((S k).nc * 3 + (S k).nl * 5 + (S k).nw * 4)
        rw [HC.out, hn0, hn1, hn2]
        omega
      clear sk fk ak ok uk emx e0 e1 e2 hn0 hn1 hn2
      go_wp2_with fail
      refine (markCellS_turn _ (z k) n0 (S k).c (k0 + (c : Nat)) _ SK.out.1.1 SK.out.2.1 m0 (by omega) (by omega)).mono ?_
      rintro e w1 ⟨rfl, r1, f1, g1⟩
      have W1 : Hid (Within (z k) (z (k + 1)) wr w1) := Within.of g1 (fun b q => by obtain ⟨h0, h1⟩ := turn_eq q; exact OK.out.1 h0 b h1)
      have x1 := apart_rows SK.out.1.1 SK.out.1.2.1 AK.out.1
      have x2 := apart_rows SK.out.1.1 SK.out.1.2.2 AK.out.2.1
      have SK1 : Hid ((Row w1 (z k) 3 n0 (fun p => k0 + (c : Nat) + (p : Nat)) (.slice i0 n0 d0) ∧ Row w1 (z k) 5 n1 (S k).l (.slice i1 n1 d1) ∧ Row w1 (z k) 4 n2 (S k).k (.slice i2 n2 d2)) ∧ Free w1 (n0 * 3) (.slice i0 n0 d0) ∧ Free w1 (n1 * 5) (.slice i1 n1 d1) ∧ Free w1 (n2 * 4) (.slice i2 n2 d2)) :=
        ⟨⟨r1, SK.out.1.2.1.turned g1 x1, SK.out.1.2.2.turned g1 x2⟩, f1, SK.out.2.2.1.turned SK.out.1.2.1 g1 x1, SK.out.2.2.2.turned SK.out.1.2.2 g1 x2⟩
      have KP1 : Hid (KeptS n S U wr w1) := KeptS.of g1 (fun q hq e => by obtain ⟨h0, h1⟩ := turn_eq e; exact (SP.out q hq).1 h0 h1)
      have FL1 : Hid (FillS w1 g n n U) := HR.out.2.1.kept KP1.out.size (KP1.out.block g HR.out.2.1.1 HF.out.2.2)
      clear r1 f1 g1 x1 x2 b0 b1 b2 SK
      obtain ⟨b0, b1, b2⟩ := FL1.out.2.2 k hlt
      rw [EU.out.1] at b0
      rw [EU.out.2.1] at b1
      rw [EU.out.2.2] at b2
      go_wp2_with fail
      refine (markLockS_turn _ (z k) n1 (S k).l _ _ SK1.out.1.2.1 SK1.out.2.2.1 m1 (by omega) (by omega)).mono ?_
      rintro e w2 ⟨rfl, r2, f2, g2⟩
      have W2 : Hid (Within (z k) (z (k + 1)) wr w2) := W1.out.trans (Within.of g2 (fun b q => by obtain ⟨h0, h1⟩ := turn_eq q; exact OK.out.2.1 h0 b h1))
      have x0 := apart_rows SK1.out.1.2.1 SK1.out.1.1 (fun h1 h2 e => AK.out.1 h2 h1 e.symm)
      have x2 := apart_rows SK1.out.1.2.1 SK1.out.1.2.2 AK.out.2.2
      have SK2 : Hid ((Row w2 (z k) 3 n0 (fun p => k0 + (c : Nat) + (p : Nat)) (.slice i0 n0 d0) ∧ Row w2 (z k) 5 n1 (fun p => k0 + (c : Nat) + n0 * 3 + (p : Nat)) (.slice i1 n1 d1) ∧ Row w2 (z k) 4 n2 (S k).k (.slice i2 n2 d2)) ∧ Free w2 (n0 * 3) (.slice i0 n0 d0) ∧ Free w2 (n1 * 5) (.slice i1 n1 d1) ∧ Free w2 (n2 * 4) (.slice i2 n2 d2)) :=
        ⟨⟨SK1.out.1.1.turned g2 x0, r2, SK1.out.1.2.2.turned g2 x2⟩, SK1.out.2.1.turned SK1.out.1.1 g2 x0, f2, SK1.out.2.2.2.turned SK1.out.1.2.2 g2 x2⟩
      have KP2 : Hid (KeptS n S U wr w2) := KP1.out.trans (KeptS.of g2 (fun q hq e => by obtain ⟨h0, h1⟩ := turn_eq e; exact (SP.out q hq).2.1 h0 h1))
      have FL2 : Hid (FillS w2 g n n U) := HR.out.2.1.kept KP2.out.size (KP2.out.block g HR.out.2.1.1 HF.out.2.2)
      clear r2 f2 g2 x0 x2 b0 b1 b2 SK1 FL1 W1
      obtain ⟨b0, b1, b2⟩ := FL2.out.2.2 k hlt
      rw [EU.out.1] at b0
      rw [EU.out.2.1] at b1
      rw [EU.out.2.2] at b2
      go_wp2_with fail
      refine (markWriteS_turn _ (z k) n2 (S k).k _ _ SK2.out.1.2.2 SK2.out.2.2.2 m2 (by omega) (by omega)).mono ?_
      rintro e w3 ⟨rfl, r3, f3, g3⟩
      have W3 : Hid (Within (z k) (z (k + 1)) wr w3) := W2.out.trans (Within.of g3 (fun b q => by obtain ⟨h0, h1⟩ := turn_eq q; exact OK.out.2.2 h0 b h1))
      have x0 := apart_rows SK2.out.1.2.2 SK2.out.1.1 (fun h1 h2 e => AK.out.2.1 h2 h1 e.symm)
      have x1 := apart_rows SK2.out.1.2.2 SK2.out.1.2.1 (fun h1 h2 e => AK.out.2.2 h2 h1 e.symm)
      have SK3 : Hid (Fine w3 z n (mixS S k0 (k + 1)) U) := by
        have hm : (markK (S k) (k0 + (sumN (markT S) k : Nat))).nc = n0 ∧ (markK (S k) (k0 + (sumN (markT S) k : Nat))).nl = n1 ∧ (markK (S k) (k0 + (sumN (markT S) k : Nat))).nw = n2 := HE.out
        have h1 := HR.out.2.2.turn1 hlt W3.out (markK (S k) (k0 + (sumN (markT S) k : Nat))) (by have := mix_same S k0 k k; rw [this.1, this.2.1, this.2.2]; exact ⟨rfl, rfl, rfl⟩) (by
          rw [EU.out.1, EU.out.2.1, EU.out.2.2]
          unfold St FreeS markK
          simp only
          rw [HE.out.1, HE.out.2.1, HE.out.2.2, ← HC.out]
          exact ⟨⟨SK2.out.1.1.turned g3 x0, SK2.out.1.2.1.turned g3 x1, r3⟩, SK2.out.2.1.turned SK2.out.1.1 g3 x0, SK2.out.2.2.1.turned SK2.out.1.2.1 g3 x1, f3⟩)
        refine h1.congr (fun i hi => ?_)
        unfold mixS
        by_cases q : i = k
        · subst q; rw [if_pos rfl, if_pos (Nat.lt_succ_self i)]
        · rw [if_neg q]
          by_cases q2 : i < k
          · rw [if_pos q2, if_pos (by omega)]
          · rw [if_neg q2, if_neg (by omega)]
      have KP3 : Hid (KeptS n S U wr w3) := KP2.out.trans (KeptS.of g3 (fun q hq e => by obtain ⟨h0, h1⟩ := turn_eq e; exact (SP.out q hq).2.2 h0 h1))
      have WW : Hid (KeptS n S U w w3) := HR.out.1.trans KP3.out
      have FL3 : Hid (FillS w3 g n n U) := HR.out.2.1.kept KP3.out.size (KP3.out.block g HR.out.2.1.1 HF.out.2.2)
      clear r3 f3 g3 x0 x1 b0 b1 b2 SK2 FL2 W2 W3 HR AK OK EU SP KP1 KP2 KP3
      go_wp2
      go_roundw
      case rel => exact ⟨k + 1, c + n0 * 3 + n1 * 5 + n2 * 4, by omega, by congr 1; push_cast; omega, by go_num, HC1, WW.out, FL3.out, SK3.out⟩
      case measure => simp [intOf]; omega
    · obtain rfl : k = n := by omega
      go_wp2
      go_ret
      exact ⟨by rw [HC.out]; rfl, HR.out.2, HR.out.1⟩
set_option maxHeartbeats 1000000 in
theorem markStoreS_none (sa : Option Addr) (cp : Nat) (k0 : Int) (w : World) :
    Calls Tryz.prog 54 #[.slice sa 0 cp, .int .i64 k0] w fun e w' => e = .returned (.int .i64 k0) ∧ w' = w := by
  go_enter Tryz.func54, Tryz.ntmps54
  go_wp2
  go_loop [1, 5] (fun k i => i = .int .i64 0 ∧ k = .int .i64 k0) (fun _ i => 1 - (intOf i).toNat)
  case atStart => exact ⟨rfl, rfl⟩
  case round =>
    obtain ⟨rfl, rfl⟩ := hrel
    go_wp2
    go_ret
    exact ⟨rfl, rfl⟩
theorem mixS_all (S : Nat → Sto) (k0 : Int) (n i : Nat) (hi : i < n) : mixS S k0 n i = markK (S i) (k0 + (sumN (markT S) i : Nat)) := by unfold mixS; rw [if_pos hi]
/-- A row of stores that was answered: nil, or a block of its own. -/
def RowS (w : World) (lo n : Nat) (S : Nat → Sto) (U : Nat → Nat → Value) (sa : Option Addr) : Prop := 0 < n → ∃ g, sa = some ⟨g, 0, none⟩ ∧ lo ≤ g ∧ FillS w g n n U ∧ Spare n S U g
theorem markStoreS_full (n cp lo : Nat) (sa : Option Addr) (S : Nat → Sto) (U : Nat → Nat → Value) (z : Nat → Nat) (k0 : Int) (w : World) (hF : RowS w lo n S U sa) (hf : Fine w z n S U) (hs : ∀ i, i < n → SmallS (S i)) (ht : sumN (sizeT S) n ≤ 1048576) (h0 : 0 ≤ k0) (h1 : k0 ≤ 10000000) (hn : n ≤ 1048576) :
    Calls Tryz.prog 54 #[.slice sa n cp, .int .i64 k0] w fun e w' => e = .returned (.int .i64 (k0 + (sumN (markT S) n : Nat))) ∧ (RowS w' lo n S U sa ∧ Fine w' z n (mixS S k0 n) U) ∧ KeptS n S U w w' := by
  rcases Nat.eq_zero_or_pos n with e | e
  · subst e
    refine (markStoreS_none sa cp k0 w).mono fun e w' ⟨he, hw⟩ => ?_
    subst hw
    exact ⟨by rw [he]; simp [sumN], ⟨hF, fun i hi => absurd hi (Nat.not_lt_zero i)⟩, KeptS.refl _⟩
  · obtain ⟨g, rfl, hlo, h2, h3⟩ := hF e
    refine (markStoreS_pos n cp g S U z k0 w h2 hf h3 hs ht h0 h1 hn).mono fun e' w' ⟨he, ⟨x1, x2⟩, x3⟩ => ⟨he, ⟨fun _ => ⟨g, rfl, hlo, x1, h3⟩, x2⟩, x3⟩
set_option maxRecDepth 100000 in
set_option maxHeartbeats 4000000 in
theorem heldStoreS_any (n cp B : Nat) (sa : Option Addr) (S : Nat → Sto) (U : Nat → Nat → Value) (k0 : Int) (w : World) (h : Stos w B n (mixS S k0 n) U (.slice sa n cp)) (hs : ∀ i, i < n → SmallS (S i)) (ht : sumN (sizeT S) n ≤ 1048576) (h0 : 0 ≤ k0) (h1 : k0 ≤ 10000000) (hn : n ≤ 1048576) :
    Calls Tryz.prog 90 #[.slice sa n cp, .int .i64 k0] w fun e w' => e = .returned (.int .i64 (k0 + (sumN (markT S) n : Nat))) ∧ w' = w := by
  have H : Hid (Stos w B n (mixS S k0 n) U (.slice sa n cp)) := h
  have HN : Hid ((∀ i, i < n → SmallS (S i)) ∧ ∀ k, k ≤ n → sumN (markT S) k ≤ 5242880) := ⟨hs, fun k hk => by have := sum_mono (markT S) hk; have := markT_le S n; omega⟩
  clear h hs ht
  go_enter Tryz.func90, Tryz.ntmps90
  go_wp2
  go_loopw [1, 5] (fun j i wr => ∃ (k c : Nat), k ≤ n ∧ j = .int .i64 (k0 + (c : Nat)) ∧ i = .int .i64 k ∧ Hid (c = sumN (markT S) k) ∧ wr = w) (fun _ i _ => n - (intOf i).toNat)
  case atStart => exact ⟨0, 0, Nat.zero_le _, by simp, rfl, rfl, rfl⟩
  case round =>
    obtain ⟨k, c, hk, rfl, rfl, HC, rfl⟩ := hrel
    have hcb : c ≤ 5242880 := by rw [HC.out]; exact HN.out.2 k hk
    by_cases hlt : k < n
    · obtain ⟨g, o, rfl, _, hg, ⟨b0, b1, b2⟩, sk⟩ := H.out.at hlt
      rw [mixS_all S k0 n k hlt, ← HC.out] at sk
      obtain ⟨i0, d0, i1, d1, i2, d2, e0, e1, e2⟩ := sk.form
      obtain ⟨n0, hn0⟩ : ∃ x, (S k).nc = x := ⟨_, rfl⟩
      obtain ⟨n1, hn1⟩ : ∃ x, (S k).nl = x := ⟨_, rfl⟩
      obtain ⟨n2, hn2⟩ : ∃ x, (S k).nw = x := ⟨_, rfl⟩
      have e0' : U k 0 = .slice i0 n0 d0 := by rw [e0]; show Value.slice i0 (S k).nc d0 = _; rw [hn0]
      have e1' : U k 1 = .slice i1 n1 d1 := by rw [e1]; show Value.slice i1 (S k).nl d1 = _; rw [hn1]
      have e2' : U k 2 = .slice i2 n2 d2 := by rw [e2]; show Value.slice i2 (S k).nw d2 = _; rw [hn2]
      rw [e0'] at b0
      rw [e1'] at b1
      rw [e2'] at b2
      have SK : Hid (Row wr B 3 n0 (fun p => k0 + (c : Nat) + (p : Nat)) (.slice i0 n0 d0) ∧ Row wr B 5 n1 (fun p => k0 + (c : Nat) + n0 * 3 + (p : Nat)) (.slice i1 n1 d1) ∧ Row wr B 4 n2 (fun p => k0 + (c : Nat) + n0 * 3 + n1 * 5 + (p : Nat)) (.slice i2 n2 d2)) := by
        rw [e0', e1', e2'] at sk
        unfold St markK at sk
        simp only at sk
        rw [hn0, hn1, hn2] at sk
        exact sk
      have hsm := HN.out.1 k hlt
      unfold SmallS at hsm
      rw [hn0, hn1, hn2] at hsm
      obtain ⟨m0, m1, m2⟩ := hsm
      have HC1 : Hid (c + n0 * 3 + n1 * 5 + n2 * 4 = sumN (markT S) (k + 1)) := by
        unfold Hid
        show _ = sumN (markT S) k + ((S k).nc * 3 + (S k).nl * 5 + (S k).nw * 4)
        rw [HC.out, hn0, hn1, hn2]
        omega
      have hcb1 : c + n0 * 3 + n1 * 5 + n2 * 4 ≤ 5242880 := by rw [HC1.out]; exact HN.out.2 (k + 1) hlt
      have z0 : decide (k0 + (c : Nat) + n0 * 3 < 0) = false := decide_eq_false (by omega)
      have z1 : decide (k0 + (c : Nat) + n0 * 3 + n1 * 5 < 0) = false := decide_eq_false (by omega)
      have z2 : decide (k0 + (c : Nat) + n0 * 3 + n1 * 5 + n2 * 4 < 0) = false := decide_eq_false (by omega)
      clear sk e0 e1 e2 e0' e1' e2' hn0 hn1 hn2 HC
      go_wp2_with fail
      refine (heldCellS_any _ B n0 (k0 + (c : Nat)) _ SK.out.1 m0 (by omega) (by omega)).mono ?_
      rintro e w1 ⟨rfl, rfl⟩
      go_wp2_with fail
      refine (heldLockS_any _ B n1 _ _ SK.out.2.1 m1 (by omega) (by omega)).mono ?_
      rintro e w1 ⟨rfl, rfl⟩
      go_wp2_with fail
      refine (heldWriteS_any _ B n2 _ _ SK.out.2.2 m2 (by omega) (by omega)).mono ?_
      rintro e w1 ⟨rfl, rfl⟩
      clear SK b0 b1 b2
      go_wp2
      go_roundw
      case rel => exact ⟨k + 1, c + n0 * 3 + n1 * 5 + n2 * 4, by omega, by congr 1; push_cast; omega, by go_num, HC1, by trivial⟩
      case measure => simp [intOf]; omega
    · obtain rfl : k = n := by omega
      go_wp2
      go_ret
      exact ⟨by rw [HC.out]; rfl, rfl⟩
end

section
open Go.RowKit
-- Own text. Groups that were answered: what they stand on; eq, mark, held of groups and of a code and groups.
/-- Groups in new memory, from block lo on: all may be written, and every list lies in a block of its own. -/
def FineR (w : World) (lo tp nr : Nat) (F : Nat → Int) (n : Nat) (S : Nat → Sto) (ra : Option Addr) (rc : Nat) (sa : Option Addr) (U : Nat → Nat → Value) (z : Nat → Nat) : Prop :=
  (Row w lo 3 nr F (.slice ra nr rc) ∧ Free w (nr * 3) (.slice ra nr rc)) ∧ (RowS w lo n S U sa ∧ Fine w z n S U) ∧ ((∀ i, i < n → lo ≤ z i) ∧ (∀ i, i < n → z (i + 1) ≤ tp) ∧ tp ≤ w.heap.size) ∧ (0 < nr → ∀ q, (Value.slice ra nr rc).ownBlock = some q → Spare n S U q ∧ (0 < n → sa ≠ some ⟨q, 0, none⟩) ∧ q < tp)
theorem RowS.kept {w w' : World} {lo n : Nat} {S : Nat → Sto} {U : Nat → Nat → Value} {sa : Option Addr} (h : RowS w lo n S U sa) (hs : w.heap.size ≤ w'.heap.size) (hb : ∀ g, 0 < n → sa = some ⟨g, 0, none⟩ → g < w.heap.size → w'.heap[g]? = w.heap[g]?) : RowS w' lo n S U sa := fun hn => by
  obtain ⟨g, h1, h2, h3, h4⟩ := h hn
  exact ⟨g, h1, h2, h3.kept hs (hb g hn h1 h3.1), h4⟩
theorem RowS.later {w w' : World} {lo n : Nat} {S : Nat → Sto} {U : Nat → Nat → Value} {sa : Option Addr} (h : RowS w lo n S U sa) (hb : Below w.heap.size w w') : RowS w' lo n S U sa := h.kept hb.size (fun g _ _ hg => hb.block g hg)
theorem RowS.stos {w : World} {lo n : Nat} {S : Nat → Sto} {U : Nat → Nat → Value} {sa : Option Addr} {z : Nat → Nat} (h : RowS w lo n S U sa) (hf : Fine w z n S U) (hz : ∀ i, i < n → lo ≤ z i) (sc : Nat) : Stos w lo n S U (.slice sa n sc) :=
  ⟨⟨_, _, rfl, fun hn => by
    obtain ⟨g, h1, h2, h3, _⟩ := h hn
    refine ⟨g, 0, h1, h2, h3.1, fun i hi => ?_⟩
    obtain ⟨c0, c1, c2⟩ := h3.2.2 i hi
    simp only [Nat.zero_add]
    exact ⟨c0, c1, c2⟩⟩, fun i hi => (hf i hi).1.1.mono (hz i hi)⟩
theorem FineR.grs {w : World} {lo tp nr : Nat} {F : Nat → Int} {n : Nat} {S : Nat → Sto} {ra : Option Addr} {rc : Nat} {sa : Option Addr} {U : Nat → Nat → Value} {z : Nat → Nat} (h : FineR w lo tp nr F n S ra rc sa U z) (sc : Nat) : Grs w lo nr F n S U (.slice ra nr rc) (.slice sa n sc) := ⟨h.1.1, h.2.1.1.stos h.2.1.2 h.2.2.1.1 sc⟩
theorem FineR.later {w w' : World} {lo tp nr : Nat} {F : Nat → Int} {n : Nat} {S : Nat → Sto} {ra : Option Addr} {rc : Nat} {sa : Option Addr} {U : Nat → Nat → Value} {z : Nat → Nat} (h : FineR w lo tp nr F n S ra rc sa U z) (hb : Below w.heap.size w w') : FineR w' lo tp nr F n S ra rc sa U z :=
  ⟨⟨h.1.1.later hb, h.1.2.ofRow h.1.1 hb⟩, ⟨h.2.1.1.later hb, h.2.1.2.later hb⟩, ⟨h.2.2.1.1, h.2.2.1.2.1, Nat.le_trans h.2.2.1.2.2 hb.size⟩, h.2.2.2⟩
theorem Fine.within {w w' : World} {z : Nat → Nat} {n : Nat} {S : Nat → Sto} {U : Nat → Nat → Value} {B E : Nat} (h : Fine w z n S U) (hw : Within B E w w') (hz : ∀ i, i < n → E ≤ z i) : Fine w' z n S U := fun i hi => by
  obtain ⟨⟨h1, h2, h3⟩, h4, h5⟩ := h i hi
  have ho : OwnIn (S i) (U i 0) (U i 1) (U i 2) (fun j => j < B ∨ E ≤ j) := h4.mono (fun j hj => Or.inr (by have := hz i hi; omega))
  exact ⟨⟨h1.within hw ho, h2.within h1 hw ho, h3⟩, h4, h5⟩
theorem FineR.within {w w' : World} {lo tp nr : Nat} {F : Nat → Int} {n : Nat} {S : Nat → Sto} {ra : Option Addr} {rc : Nat} {sa : Option Addr} {U : Nat → Nat → Value} {z : Nat → Nat} {B E : Nat} (h : FineR w lo tp nr F n S ra rc sa U z) (hw : Within B E w w') (hE : E ≤ lo) : FineR w' lo tp nr F n S ra rc sa U z := by
  have ho : 0 < nr → ∀ k, (Value.slice ra nr rc).ownBlock = some k → k < B ∨ E ≤ k := fun hn k hk => Or.inr (Nat.le_trans hE (h.1.1.lt hn k hk).1)
  refine ⟨⟨h.1.1.within hw ho, h.1.2.within h.1.1 hw ho⟩, ⟨h.2.1.1.kept hw.size (fun g hn e hg => hw.block g hg (Or.inr ?_)), h.2.1.2.within hw (fun i hi => Nat.le_trans hE (h.2.2.1.1 i hi))⟩, ⟨h.2.2.1.1, h.2.2.1.2.1, Nat.le_trans h.2.2.1.2.2 hw.size⟩, h.2.2.2⟩
  obtain ⟨g', e', hl, _⟩ := h.2.1.1 hn
  rw [e] at e'
  simp only [Option.some.injEq, Addr.mk.injEq, and_true] at e'
  omega
theorem Spare.mix {n : Nat} {S : Nat → Sto} {U : Nat → Nat → Value} {q : Nat} (h : Spare n S U q) (k0 : Int) (k : Nat) : Spare n (mixS S k0 k) U q := fun i hi => by
  have := h i hi
  obtain ⟨e0, e1, e2⟩ := mix_same S k0 k i
  unfold OwnIn at this ⊢
  rw [e0, e1, e2]
  exact this
/-- A code, and groups in new memory. -/
def ResGr (w : World) (c : Int) (nr : Nat) (F : Nat → Int) (n : Nat) (S : Nat → Sto) (e : Ending) (w' : World) : Prop :=
  ∃ ra rc sa sc U z, e = .returned (.agg #[.int .i64 c, .slice ra nr rc, .slice sa n sc]) ∧ FineR w' w.heap.size w'.heap.size nr F n S ra rc sa U z ∧ Below w.heap.size w w'
/-- Groups that are numbered. -/
def MarkG (w : World) (lo nr n : Nat) (S : Nat → Sto) (ra : Option Addr) (rc : Nat) (sa : Option Addr) (sc : Nat) (U : Nat → Nat → Value) : Prop := Row w lo 3 nr (fun p => 1 + (p : Nat)) (.slice ra nr rc) ∧ Stos w lo n (mixS S (1 + nr * 3) n) U (.slice sa n sc)
theorem MarkG.later {w w' : World} {lo nr n : Nat} {S : Nat → Sto} {ra : Option Addr} {rc : Nat} {sa : Option Addr} {sc : Nat} {U : Nat → Nat → Value} (h : MarkG w lo nr n S ra rc sa sc U) (hb : Below w.heap.size w w') : MarkG w' lo nr n S ra rc sa sc U := ⟨h.1.later hb, h.2.later hb⟩
def SmallG (nr n : Nat) (S : Nat → Sto) : Prop := nr ≤ 1048576 ∧ n ≤ 1048576 ∧ (∀ i, i < n → SmallS (S i)) ∧ sumN (sizeT S) n ≤ 1048576
set_option maxHeartbeats 2000000 in
theorem markGroups_full (nr : Nat) (F : Nat → Int) (n : Nat) (S : Nat → Sto) (ra : Option Addr) (rc : Nat) (sa : Option Addr) (sc : Nat) (U : Nat → Nat → Value) (z : Nat → Nat) (lo tp : Nat) (w : World) (h : FineR w lo tp nr F n S ra rc sa U z) (hs : SmallG nr n S) :
    Calls Tryz.prog 16 #[.agg #[.slice ra nr rc, .slice sa n sc], .int .i64 1] w fun e w' => e = .returned (.int .i64 (1 + nr * 3 + (sumN (markT S) n : Nat))) ∧ MarkG w' lo nr n S ra rc sa sc U ∧ Within lo tp w w' := by
  have H : Hid (FineR w lo tp nr F n S ra rc sa U z) := h
  have HN : Hid (SmallG nr n S) := hs
  obtain ⟨hr, hn, _⟩ := hs
  clear h
  have HB : Hid (Blk2 (w.alloc (.cells #[.slice ra nr rc, .slice sa n sc] 36)) w.heap.size (.slice ra nr rc) (.slice sa n sc)) := Blk2.new w (.slice ra nr rc) (.slice sa n sc) 36
  go_enter Tryz.func16, Tryz.ntmps16
  go_wp2_with fail
  refine (markRangeS_turn _ lo nr F 1 _ (H.out.1.1.alloc _) (H.out.1.2.ofRow H.out.1.1 (below_alloc _ _)) hr (by omega) (by omega)).mono ?_
  rintro e w1 ⟨rfl, r1, _, g1⟩
  have tn : ∀ q, turn nr (.slice ra nr rc) = some q → (lo ≤ q ∧ q < tp ∧ tp ≤ w.heap.size) ∧ Spare n S U q ∧ (0 < n → sa ≠ some ⟨q, 0, none⟩) := fun q e => by obtain ⟨h0, h1⟩ := turn_eq e; have x := H.out.2.2.2 h0 q h1; exact ⟨⟨(H.out.1.1.lt h0 q h1).1, x.2.2, H.out.2.2.1.2.2⟩, x.1, x.2.1⟩
  have bl : ∀ q, q < w.heap.size → (turn nr (.slice ra nr rc) ≠ some q) → w1.heap[q]? = w.heap[q]? := fun q hq hne => (g1.block q (by simp; omega) (fun e => hne e.symm)).trans ((below_alloc w _).block q hq)
  have W1 : Hid (Within lo tp w w1) := ⟨g1.os, g1.tape, g1.output, Nat.le_trans (by simp) g1.size, fun q hq ho => bl q hq (fun e => by have := (tn q e).1; omega)⟩
  have HB1 : Hid (Blk2 w1 w.heap.size (.slice ra nr rc) (.slice sa n sc)) := HB.out.kept (g1.block w.heap.size (by simp) (fun e => by have := (tn _ e.symm).1; omega))
  have RS1 : Hid (RowS w1 lo n S U sa) := H.out.2.1.1.kept W1.out.size (fun g hn e hg => bl g hg (fun q => (tn g q).2.2 hn e))
  have ob : ∀ i, i < n → OwnIn (S i) (U i 0) (U i 1) (U i 2) (fun q => q < w.heap.size ∧ turn nr (.slice ra nr rc) ≠ some q) := fun i hi => by
    obtain ⟨_, h4, _⟩ := H.out.2.1.2 i hi
    have hz := H.out.2.2.1.2.1 i hi
    have hz2 := H.out.2.2.1.2.2
    refine ⟨fun hp k hk => ⟨?_, fun e => ?_⟩, fun hp k hk => ⟨?_, fun e => ?_⟩, fun hp k hk => ⟨?_, fun e => ?_⟩⟩
    · have := (h4.1 hp k hk).2; omega
    · exact ((tn k e).2.1 i hi).1 hp k hk rfl
    · have := (h4.2.1 hp k hk).2; omega
    · exact ((tn k e).2.1 i hi).2.1 hp k hk rfl
    · have := (h4.2.2 hp k hk).2; omega
    · exact ((tn k e).2.1 i hi).2.2 hp k hk rfl
  have FI1 : Hid (Fine w1 z n S U) := fun i hi => by
    obtain ⟨⟨⟨s0, s1, s2⟩, ⟨f0, f1, f2⟩, h3⟩, h4⟩ := (H.out.2.1.2.later (below_alloc w (.cells #[.slice ra nr rc, .slice sa n sc] 36))) i hi
    have o := ob i hi
    have x0 : 0 < (S i).nc → ∀ k, (U i 0).ownBlock = some k → some k ≠ turn nr (.slice ra nr rc) := fun hp k hk e => (o.1 hp k hk).2 e.symm
    have x1 : 0 < (S i).nl → ∀ k, (U i 1).ownBlock = some k → some k ≠ turn nr (.slice ra nr rc) := fun hp k hk e => (o.2.1 hp k hk).2 e.symm
    have x2 : 0 < (S i).nw → ∀ k, (U i 2).ownBlock = some k → some k ≠ turn nr (.slice ra nr rc) := fun hp k hk e => (o.2.2 hp k hk).2 e.symm
    exact ⟨⟨⟨s0.turned g1 x0, s1.turned g1 x1, s2.turned g1 x2⟩, ⟨f0.turned s0 g1 x0, f1.turned s1 g1 x1, f2.turned s2 g1 x2⟩, h3⟩, h4⟩
  have R1 : Hid (Row w1 lo 3 nr (fun p => 1 + (p : Nat)) (.slice ra nr rc)) := r1
  have HSP : Hid (0 < nr → ∀ q, (Value.slice ra nr rc).ownBlock = some q → Spare n S U q) := fun hp q hq => (H.out.2.2.2 hp q hq).1
  have HOB : Hid (∀ i, i < n → OwnIn (S i) (U i 0) (U i 1) (U i 2) (fun q => lo ≤ q ∧ q < tp)) := fun i hi => by
    obtain ⟨_, h4, _⟩ := H.out.2.1.2 i hi
    have hz := H.out.2.2.1.2.1 i hi
    have hl := H.out.2.2.1.1 i hi
    exact h4.mono (fun q hq => by omega)
  have HZ : Hid (∀ i, i < n → lo ≤ z i) := H.out.2.2.1.1
  clear r1 g1 tn bl ob H HB
  obtain ⟨⟨p0, p1⟩, _⟩ := HB1.out
  go_wp2_with fail
  refine (markStoreS_full n sc lo sa S U z (1 + nr * 3) _ RS1.out FI1.out HN.out.2.2.1 HN.out.2.2.2 (by omega) (by omega) hn).mono ?_
  rintro e w2 ⟨rfl, ⟨RS2, FI2⟩, K2⟩
  have RS2' : RowS w2 lo n (mixS S (1 + nr * 3) n) U sa := fun hp => by
    obtain ⟨g, x1, x2, x3, x4⟩ := RS2 hp
    exact ⟨g, x1, x2, x3, x4.mix _ _⟩
  have MM : Hid (MarkG w2 lo nr n S ra rc sa sc U) := by
    refine ⟨?_, RS2'.stos FI2 HZ.out sc⟩
    rcases Nat.eq_zero_or_pos nr with q | q
    · subst q
      exact ⟨_, _, rfl, fun hq => absurd hq (Nat.lt_irrefl 0)⟩
    · exact R1.out.kept K2.size (fun k hk hlt => K2.block k hlt (HSP.out q k hk))
  have WW : Hid (Within lo tp w w2) := ⟨K2.os.trans W1.out.os, K2.tape.trans W1.out.tape, K2.output.trans W1.out.output, Nat.le_trans W1.out.size K2.size, fun q hq ho => (K2.block q (Nat.lt_of_lt_of_le hq W1.out.size) (fun i hi => (HOB.out i hi).mono (fun p hp => by omega))).trans (W1.out.block q hq ho)⟩
  clear RS2 FI2 K2 RS2' RS1 FI1 R1 HSP HOB W1
  go_wp2
  go_ret
  exact ⟨rfl, MM.out, WW.out⟩
set_option maxHeartbeats 2000000 in
theorem heldGroups_any (nr n : Nat) (S : Nat → Sto) (ra : Option Addr) (rc : Nat) (sa : Option Addr) (sc : Nat) (U : Nat → Nat → Value) (lo : Nat) (w : World) (h : MarkG w lo nr n S ra rc sa sc U) (hs : SmallG nr n S) :
    Calls Tryz.prog 58 #[.agg #[.slice ra nr rc, .slice sa n sc], .int .i64 1] w fun e w' => e = .returned (.int .i64 (1 + nr * 3 + (sumN (markT S) n : Nat))) ∧ Below w.heap.size w w' := by
  have H : Hid (MarkG w lo nr n S ra rc sa sc U) := h
  have HN : Hid (SmallG nr n S) := hs
  obtain ⟨hr, hn, _⟩ := hs
  obtain ⟨t, ht⟩ : ∃ t, sumN (markT S) n = t := ⟨_, rfl⟩
  have HT : Hid (sumN (markT S) n = t) := ht
  have d0 : decide ((1 : Int) + nr * 3 < 0) = false := decide_eq_false (by omega)
  have d1 : decide ((1 : Int) + nr * 3 + (t : Nat) < 0) = false := decide_eq_false (by omega)
  rw [ht]
  clear h ht
  go_enter Tryz.func58, Tryz.ntmps58
  go_wp2_with fail
  refine (heldRangeS_any _ lo nr 1 _ (H.out.1.alloc _) hr (by omega) (by omega)).mono ?_
  rintro e w1 ⟨rfl, rfl⟩
  go_wp2_with fail
  refine (heldStoreS_any n sc lo sa S U (1 + nr * 3) _ (H.out.2.alloc _) HN.out.2.2.1 HN.out.2.2.2 (by omega) (by omega) hn).mono ?_
  rw [HT.out]
  rintro e w1 ⟨rfl, rfl⟩
  go_wp2
  go_ret
  exact ⟨rfl, below_alloc _ _⟩
set_option maxHeartbeats 2000000 in
theorem eqGroupsResult_same (c : Int) (nr : Nat) (F : Nat → Int) (n : Nat) (S : Nat → Sto) (V U : Nat → Nat → Value) (vr vs ur us : Value) (B B' : Nat) (w : World) (h : Grs w B nr F n S V vr vs) (h' : Grs w B' nr F n S U ur us) (hs : SmallG nr n S) :
    Calls Tryz.prog 13 #[.agg #[.int .i64 c, vr, vs], .agg #[.int .i64 c, ur, us]] w fun e w' => e = .returned (.bool true) ∧ Below w.heap.size w w' := by
  obtain ⟨a0, c0, a1, c1, rfl, rfl⟩ := h.form
  obtain ⟨b0, d0, b1, d1, rfl, rfl⟩ := h'.form
  have H : Hid (Grs w B nr F n S V (.slice a0 nr c0) (.slice a1 n c1)) := h
  have H' : Hid (Grs w B' nr F n S U (.slice b0 nr d0) (.slice b1 n d1)) := h'
  have HN : Hid (SmallG nr n S) := hs
  clear h h' hs
  go_enter Tryz.func13, Tryz.ntmps13
  go_wp2_with fail
  refine (eqGroups_same nr F n S V U _ _ _ _ B B' _ ((H.out.alloc _).alloc _) ((H'.out.alloc _).alloc _) HN.out.1 HN.out.2.1 HN.out.2.2.1).mono ?_
  rintro e w1 ⟨rfl, q1⟩
  have B1 : Hid (Below w.heap.size w w1) := ((below_alloc w _).alloc (by simp) _).trans (q1.mono (by simp; omega))
  clear q1
  go_wp2
  go_ret
  exact ⟨rfl, B1.out⟩
set_option maxHeartbeats 2000000 in
theorem markGroupsResult_any (c : Int) (nr : Nat) (F : Nat → Int) (n : Nat) (S : Nat → Sto) (ra : Option Addr) (rc : Nat) (sa : Option Addr) (sc : Nat) (U : Nat → Nat → Value) (z : Nat → Nat) (lo tp : Nat) (w : World) (h : FineR w lo tp nr F n S ra rc sa U z) (hs : SmallG nr n S) :
    Calls Tryz.prog 18 #[.agg #[.int .i64 c, .slice ra nr rc, .slice sa n sc], .int .i64 1] w fun e w' => e = .returned (.int .i64 (1 + nr * 3 + (sumN (markT S) n : Nat))) ∧ MarkG w' lo nr n S ra rc sa sc U ∧ Within lo tp w w' := by
  have H : Hid (FineR w lo tp nr F n S ra rc sa U z) := h
  have HN : Hid (SmallG nr n S) := hs
  obtain ⟨t, ht⟩ : ∃ t, sumN (markT S) n = t := ⟨_, rfl⟩
  have HT : Hid (sumN (markT S) n = t) := ht
  rw [ht]
  clear h hs ht
  go_enter Tryz.func18, Tryz.ntmps18
  go_wp2_with fail
  refine (markGroups_full nr F n S ra rc sa sc U z lo tp _ (H.out.later (below_alloc _ _)) HN.out).mono ?_
  rw [HT.out]
  rintro e w1 ⟨rfl, m1, W1⟩
  have Q : Hid (MarkG w1 lo nr n S ra rc sa sc U ∧ Within lo tp w w1) := ⟨m1, (Within.grow (below_alloc _ _)).trans W1⟩
  clear m1 W1
  go_wp2
  go_ret
  exact ⟨rfl, Q.out.1, Q.out.2⟩
set_option maxHeartbeats 2000000 in
theorem heldGroupsResult_any (c : Int) (nr n : Nat) (S : Nat → Sto) (ra : Option Addr) (rc : Nat) (sa : Option Addr) (sc : Nat) (U : Nat → Nat → Value) (lo : Nat) (w : World) (h : MarkG w lo nr n S ra rc sa sc U) (hs : SmallG nr n S) :
    Calls Tryz.prog 19 #[.agg #[.int .i64 c, .slice ra nr rc, .slice sa n sc], .int .i64 1] w fun e w' => e = .returned (.int .i64 (1 + nr * 3 + (sumN (markT S) n : Nat))) ∧ Below w.heap.size w w' := by
  have H : Hid (MarkG w lo nr n S ra rc sa sc U) := h
  have HN : Hid (SmallG nr n S) := hs
  obtain ⟨t, ht⟩ : ∃ t, sumN (markT S) n = t := ⟨_, rfl⟩
  have HT : Hid (sumN (markT S) n = t) := ht
  have d1 : decide ((1 : Int) + nr * 3 + (t : Nat) < 0) = false := decide_eq_false (by omega)
  rw [ht]
  clear h hs ht
  go_enter Tryz.func19, Tryz.ntmps19
  go_wp2_with fail
  refine (heldGroups_any nr n S ra rc sa sc U lo _ (H.out.later (below_alloc _ _)) HN.out).mono ?_
  rw [HT.out]
  rintro e w1 ⟨rfl, q1⟩
  have Q : Hid (Below w.heap.size w w1) := (below_alloc _ _).trans (q1.mono (by simp))
  clear q1
  go_wp2
  go_ret
  exact ⟨rfl, Q.out⟩
end

section
open Go.RowKit
-- Own text. What a law over a store whose answer is a code and groups stands on.
theorem Fine.under {w w' : World} {z : Nat → Nat} {n : Nat} {S : Nat → Sto} {U : Nat → Nat → Value} {B E : Nat} (h : Fine w z n S U) (hw : Within B E w w') (hz : ∀ i, i < n → z (i + 1) ≤ B) : Fine w' z n S U := fun i hi => by
  obtain ⟨⟨h1, h2, h3⟩, h4, h5⟩ := h i hi
  have ho : OwnIn (S i) (U i 0) (U i 1) (U i 2) (fun j => j < B ∨ E ≤ j) := h4.mono (fun j hj => Or.inl (by have := hz i hi; omega))
  exact ⟨⟨h1.within hw ho, h2.within h1 hw ho, h3⟩, h4, h5⟩
/-- Groups that lie below what is written. -/
theorem FineR.under {w w' : World} {lo tp nr : Nat} {F : Nat → Int} {n : Nat} {S : Nat → Sto} {ra : Option Addr} {rc : Nat} {sa : Option Addr} {U : Nat → Nat → Value} {z : Nat → Nat} {B E : Nat} (h : FineR w lo tp nr F n S ra rc sa U z) (hw : Within B E w w') (hB : tp ≤ B) (hg : 0 < n → ∀ g, sa = some ⟨g, 0, none⟩ → g < B) : FineR w' lo tp nr F n S ra rc sa U z := by
  have ho : 0 < nr → ∀ k, (Value.slice ra nr rc).ownBlock = some k → k < B ∨ E ≤ k := fun hn k hk => Or.inl (Nat.lt_of_lt_of_le (h.2.2.2 hn k hk).2.2 hB)
  exact ⟨⟨h.1.1.within hw ho, h.1.2.within h.1.1 hw ho⟩, ⟨h.2.1.1.kept hw.size (fun g hn e hl => hw.block g hl (Or.inl (hg hn g e))), h.2.1.2.under hw (fun i hi => Nat.le_trans (h.2.2.1.2.1 i hi) hB)⟩, ⟨h.2.2.1.1, h.2.2.1.2.1, Nat.le_trans h.2.2.1.2.2 hw.size⟩, h.2.2.2⟩
theorem FineR.row {w : World} {lo tp nr : Nat} {F : Nat → Int} {n : Nat} {S : Nat → Sto} {ra : Option Addr} {rc : Nat} {sa : Option Addr} {U : Nat → Nat → Value} {z : Nat → Nat} (h : FineR w lo tp nr F n S ra rc sa U z) : 0 < n → ∀ g, sa = some ⟨g, 0, none⟩ → g < w.heap.size := fun hn g e => by
  obtain ⟨g', e', _, hf, _⟩ := h.2.1.1 hn
  rw [e] at e'
  simp only [Option.some.injEq, Addr.mk.injEq, and_true] at e'
  rw [e']
  exact hf.1
/-- The law's own store; what the model answered (block W); the store that was handed over (block X); what the program answered (block G). -/
def LawN (w : World) (v0 v1 v2 : Value) (W : Nat) (c : Int) (m0 m1 : Value) (X : Nat) (x0 x1 x2 : Value) (G : Nat) (g0 g1 : Value) (x : World) : Prop :=
  One w v0 v1 v2 x ∧ Blk3 x W (.int .i64 c) m0 m1 ∧ Blk3 x X x0 x1 x2 ∧ Blk3 x G (.int .i64 c) g0 g1
theorem LawN.later {w x x' : World} {v0 v1 v2 : Value} {W : Nat} {c : Int} {m0 m1 : Value} {X : Nat} {x0 x1 x2 : Value} {G : Nat} {g0 g1 : Value} (h : LawN w v0 v1 v2 W c m0 m1 X x0 x1 x2 G g0 g1 x) (hb : Below x.heap.size x x') : LawN w v0 v1 v2 W c m0 m1 X x0 x1 x2 G g0 g1 x' :=
  ⟨h.1.later hb, h.2.1.later hb, h.2.2.1.later hb, h.2.2.2.later hb⟩
theorem LawN.within {w x x' : World} {v0 v1 v2 : Value} {W : Nat} {c : Int} {m0 m1 : Value} {X : Nat} {x0 x1 x2 : Value} {G : Nat} {g0 g1 : Value} {B E : Nat} (h : LawN w v0 v1 v2 W c m0 m1 X x0 x1 x2 G g0 g1 x) (hw : Within B E x x') (hL : w.heap.size < B) (hW : W < B ∨ E ≤ W) (hX : X < B ∨ E ≤ X) (hG : G < B ∨ E ≤ G) : LawN w v0 v1 v2 W c m0 m1 X x0 x1 x2 G g0 g1 x' :=
  ⟨⟨hw.below h.1.1 (Nat.le_of_lt hL), h.1.2.within hw (Or.inl hL)⟩, h.2.1.within hw hW, h.2.2.1.within hw hX, h.2.2.2.within hw hG⟩
theorem LawN.drew {w x : World} {v0 v1 v2 : Value} {W : Nat} {c : Int} {m0 m1 : Value} {X : Nat} {x0 x1 x2 : Value} {G : Nat} {g0 g1 : Value} (h : LawN w v0 v1 v2 W c m0 m1 X x0 x1 x2 G g0 g1 x) : LawN w v0 v1 v2 W c m0 m1 X x0 x1 x2 G g0 g1 x.drew := ⟨⟨h.1.1.drew, h.1.2⟩, h.2⟩
end
end Go.Proofs.YtlojbhadodbohaaGreat
