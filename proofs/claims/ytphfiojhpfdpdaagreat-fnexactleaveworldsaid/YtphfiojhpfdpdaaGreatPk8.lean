/-
  Own text, merged of GrpO, RngI, GrpW, StorD, StorG, FatX, AddC, DelB, DelP, WrkA, AppT.
-/
import Derived.Test.YtphfiojhpfdpdaaGreatPk7
namespace Go.Proofs.YtphfiojhpfdpdaaGreat
section
open Go.RowKit
def markT (S : Nat → Sto) (i : Nat) : Nat := (S i).nc * 3 + (S i).nl * 5 + (S i).nw * 4
/-- A store numbered from k on. -/
def markK (S : Sto) (k : Int) : Sto := ⟨S.nc, fun p => k + (p : Nat), S.nl, fun p => k + S.nc * 3 + (p : Nat), S.nw, fun p => k + S.nc * 3 + S.nl * 5 + (p : Nat)⟩
theorem markT_le (S : Nat → Sto) : ∀ n, sumN (markT S) n ≤ 5 * sumN (sizeT S) n
  | 0 => by simp [sumN]
  | n + 1 => by
    have := markT_le S n
    show sumN (markT S) n + markT S n ≤ 5 * (sumN (sizeT S) n + sizeT S n)
    unfold markT sizeT at *
    omega
theorem sum_mono (f : Nat → Nat) {k n : Nat} (h : k ≤ n) : sumN f k ≤ sumN f n := by
  induction n with
  | zero => obtain rfl : k = 0 := by omega
            exact Nat.le_refl _
  | succ n ih =>
    by_cases q : k = n + 1
    · subst q; exact Nat.le_refl _
    · exact Nat.le_trans (ih (by omega)) (Nat.le_add_right _ _)
theorem Fine.up {w : World} {z : Nat → Nat} {n : Nat} {S : Nat → Sto} {U : Nat → Nat → Value} (h : Fine w z n S U) : ∀ j, j ≤ n → ∀ i, i ≤ j → z i ≤ z j
  | 0, _, i, hi => by obtain rfl : i = 0 := by omega
                      exact Nat.le_refl _
  | j + 1, hj, i, hi => by
    by_cases q : i = j + 1
    · subst q; exact Nat.le_refl _
    · exact Nat.le_trans (h.up j (by omega) i (by omega)) (h j (by omega)).2.2
/-- One store is turned inside its own blocks: the others stand. -/
theorem Fine.turn1 {x x' : World} {z : Nat → Nat} {n : Nat} {S : Nat → Sto} {U : Nat → Nat → Value} (h : Fine x z n S U) {k : Nat} (hk : k < n) (hw : Within (z k) (z (k + 1)) x x') (T : Sto) (hsz : T.nc = (S k).nc ∧ T.nl = (S k).nl ∧ T.nw = (S k).nw) (hst : St x' (z k) T (U k 0) (U k 1) (U k 2) ∧ FreeS x' T (U k 0) (U k 1) (U k 2)) :
    Fine x' z n (fun i => if i = k then T else S i) U := fun i hi => by
  obtain ⟨⟨h1, h2, h3⟩, h4, h5⟩ := h i hi
  by_cases q : i = k
  · subst q
    simp only [if_true]
    obtain ⟨e0, e1, e2⟩ := hsz
    refine ⟨⟨hst.1, hst.2, ?_⟩, ?_, h5⟩
    · unfold ApartD at h3 ⊢
      rw [e0, e1, e2]
      exact h3
    · unfold OwnIn at h4 ⊢
      rw [e0, e1, e2]
      exact h4
  · simp only [if_neg q]
    have ho : OwnIn (S i) (U i 0) (U i 1) (U i 2) (fun j => j < z k ∨ z (k + 1) ≤ j) := h4.mono (fun j hj => by
      rcases Nat.lt_or_ge i k with c | c
      · have := h.up k (by omega) (i + 1) (by omega)
        exact Or.inl (by omega)
      · have := h.up i (by omega) (k + 1) (by omega)
        exact Or.inr (by omega))
    exact ⟨⟨h1.within hw ho, h2.within h1 hw ho, h3⟩, h4, h5⟩
theorem FillS.within {w w' : World} {g n k B E : Nat} {U : Nat → Nat → Value} (h : FillS w g n k U) (hw : Within B E w w') (hg : g < B ∨ E ≤ g) : FillS w' g n k U := h.kept hw.size (hw.block g h.1 hg)
theorem Fine.congr {w : World} {z : Nat → Nat} {n : Nat} {S T : Nat → Sto} {U : Nat → Nat → Value} (h : Fine w z n S U) (e : ∀ i, i < n → S i = T i) : Fine w z n T U := fun i hi => by rw [← e i hi]; exact h i hi
def mixS (S : Nat → Sto) (k0 : Int) (k i : Nat) : Sto := if i < k then markK (S i) (k0 + (sumN (markT S) i : Nat)) else S i
theorem mix_same (S : Nat → Sto) (k0 : Int) (k i : Nat) : (mixS S k0 k i).nc = (S i).nc ∧ (mixS S k0 k i).nl = (S i).nl ∧ (mixS S k0 k i).nw = (S i).nw := by
  unfold mixS
  split <;> exact ⟨rfl, rfl, rfl⟩
set_option maxRecDepth 100000 in
set_option maxHeartbeats 8000000 in
theorem markStoreS_any (n cp g : Nat) (S : Nat → Sto) (U : Nat → Nat → Value) (z : Nat → Nat) (k0 : Int) (w : World) (hF : FillS w g n n U) (hf : Fine w z n S U) (hg : g < z 0) (hz : z n ≤ w.heap.size) (hs : ∀ i, i < n → SmallS (S i)) (ht : sumN (sizeT S) n ≤ 1048576) (h0 : 0 ≤ k0) (h1 : k0 ≤ 10000000) (hn : n ≤ 1048576) :
    Calls Tryz.prog 68 #[.slice (some ⟨g, 0, none⟩) n cp, .int .i64 k0] w fun e w' => e = .returned (.int .i64 (k0 + (sumN (markT S) n : Nat))) ∧ (FillS w' g n n U ∧ Fine w' z n (mixS S k0 n) U) ∧ Within (z 0) (z n) w w' := by
  have HF : Hid (FillS w g n n U ∧ Fine w z n S U ∧ g < z 0 ∧ z n ≤ w.heap.size) := ⟨hF, hf, hg, hz⟩
  have HN : Hid ((∀ i, i < n → SmallS (S i)) ∧ ∀ k, k ≤ n → sumN (markT S) k ≤ 5242880) := ⟨hs, fun k hk => by have := sum_mono (markT S) hk; have := markT_le S n; omega⟩
  clear hF hf hg hz hs ht
  go_enter Tryz.func68, Tryz.ntmps68
  go_wp2
  go_loopw [1, 5] (fun j i wr => ∃ (k c : Nat), k ≤ n ∧ j = .int .i64 (k0 + (c : Nat)) ∧ i = .int .i64 k ∧ Hid (c = sumN (markT S) k) ∧ Hid (Within (z 0) (z n) w wr ∧ FillS wr g n n U ∧ Fine wr z n (mixS S k0 k) U)) (fun _ i _ => n - (intOf i).toNat)
  case atStart => exact ⟨0, 0, Nat.zero_le _, by simp, rfl, rfl, Within.refl _ _ _, HF.out.1, HF.out.2.1.congr (fun i _ => by unfold mixS; rw [if_neg (Nat.not_lt_zero i)])⟩
  case round =>
    obtain ⟨k, c, hk, rfl, rfl, HC, HR⟩ := hrel
    have hcb : c ≤ 5242880 := by rw [HC.out]; exact HN.out.2 k hk
    by_cases hlt : k < n
    · obtain ⟨b0, b1, b2⟩ := HR.out.2.1.2.2 k hlt
      obtain ⟨⟨sk, fk, ak⟩, ok, uk⟩ := HR.out.2.2 k hlt
      have emx : mixS S k0 k k = S k := by unfold mixS; rw [if_neg (Nat.lt_irrefl k)]
      rw [emx] at sk fk ak ok
      obtain ⟨i0, d0, i1, d1, i2, d2, e0, e1, e2⟩ := sk.form
      obtain ⟨n0, hn0⟩ : ∃ x, (S k).nc = x := ⟨_, rfl⟩
      obtain ⟨n1, hn1⟩ : ∃ x, (S k).nl = x := ⟨_, rfl⟩
      obtain ⟨n2, hn2⟩ : ∃ x, (S k).nw = x := ⟨_, rfl⟩
      rw [e0, hn0] at b0
      rw [e1, hn1] at b1
      rw [e2, hn2] at b2
      have EU : Hid (U k 0 = .slice i0 n0 d0 ∧ U k 1 = .slice i1 n1 d1 ∧ U k 2 = .slice i2 n2 d2) := ⟨by rw [e0, hn0], by rw [e1, hn1], by rw [e2, hn2]⟩
      have hsm := HN.out.1 k hlt
      unfold SmallS at hsm
      rw [hn0, hn1, hn2] at hsm
      obtain ⟨m0, m1, m2⟩ := hsm
      have SK : Hid ((Row wr (z k) 3 n0 (S k).c (.slice i0 n0 d0) ∧ Row wr (z k) 5 n1 (S k).l (.slice i1 n1 d1) ∧ Row wr (z k) 4 n2 (S k).k (.slice i2 n2 d2)) ∧ Free wr (n0 * 3) (.slice i0 n0 d0) ∧ Free wr (n1 * 5) (.slice i1 n1 d1) ∧ Free wr (n2 * 4) (.slice i2 n2 d2)) := by
        rw [e0, e1, e2] at sk fk
        obtain ⟨x0, x1, x2⟩ := sk
        obtain ⟨y0, y1, y2⟩ := fk
        rw [hn0] at x0 y0
        rw [hn1] at x1 y1
        rw [hn2] at x2 y2
        exact ⟨⟨x0, x1, x2⟩, y0, y1, y2⟩
      have AK : Hid ((0 < n0 → 0 < n1 → (Value.slice i0 n0 d0).ownBlock ≠ (Value.slice i1 n1 d1).ownBlock) ∧ (0 < n0 → 0 < n2 → (Value.slice i0 n0 d0).ownBlock ≠ (Value.slice i2 n2 d2).ownBlock) ∧ (0 < n1 → 0 < n2 → (Value.slice i1 n1 d1).ownBlock ≠ (Value.slice i2 n2 d2).ownBlock)) := by
        unfold ApartD at ak
        rw [e0, e1, e2, hn0, hn1, hn2] at ak
        exact ak
      have OK : Hid ((0 < n0 → ∀ j, (Value.slice i0 n0 d0).ownBlock = some j → z k ≤ j ∧ j < z (k + 1)) ∧ (0 < n1 → ∀ j, (Value.slice i1 n1 d1).ownBlock = some j → z k ≤ j ∧ j < z (k + 1)) ∧ (0 < n2 → ∀ j, (Value.slice i2 n2 d2).ownBlock = some j → z k ≤ j ∧ j < z (k + 1))) := by
        unfold OwnIn at ok
        rw [e0, e1, e2, hn0, hn1, hn2] at ok
        exact ok
      have hgz : Hid (g < z k ∧ z 0 ≤ z k ∧ z (k + 1) ≤ z n) := ⟨by have := HF.out.2.2.1; have := HF.out.2.1.up k hk 0 (Nat.zero_le _); omega, HF.out.2.1.up k hk 0 (Nat.zero_le _), HF.out.2.1.up n (Nat.le_refl _) (k + 1) hlt⟩
      have HE : Hid ((S k).nc = n0 ∧ (S k).nl = n1 ∧ (S k).nw = n2) := ⟨hn0, hn1, hn2⟩
      have HC1 : Hid (c + n0 * 3 + n1 * 5 + n2 * 4 = sumN (markT S) (k + 1)) := by
        unfold Hid
        show _ = sumN (markT S) k + ((S k).nc * 3 + (S k).nl * 5 + (S k).nw * 4)
        rw [HC.out, hn0, hn1, hn2]
        omega
      clear sk fk ak ok uk emx e0 e1 e2 hn0 hn1 hn2
      go_wp2_with fail
      refine (markCellS_turn _ (z k) n0 (S k).c (k0 + (c : Nat)) _ SK.out.1.1 SK.out.2.1 m0 (by omega) (by omega)).mono ?_
      rintro e w1 ⟨rfl, r1, f1, g1⟩
      have W1 : Hid (Within (z k) (z (k + 1)) wr w1) := Within.of g1 (fun b q => by obtain ⟨h0, h1⟩ := turn_eq q; exact OK.out.1 h0 b h1)
      have x1 := apart_rows SK.out.1.1 SK.out.1.2.1 AK.out.1
      have x2 := apart_rows SK.out.1.1 SK.out.1.2.2 AK.out.2.1
      have SK1 : Hid ((Row w1 (z k) 3 n0 (fun p => k0 + (c : Nat) + (p : Nat)) (.slice i0 n0 d0) ∧ Row w1 (z k) 5 n1 (S k).l (.slice i1 n1 d1) ∧ Row w1 (z k) 4 n2 (S k).k (.slice i2 n2 d2)) ∧ Free w1 (n0 * 3) (.slice i0 n0 d0) ∧ Free w1 (n1 * 5) (.slice i1 n1 d1) ∧ Free w1 (n2 * 4) (.slice i2 n2 d2)) :=
        ⟨⟨r1, SK.out.1.2.1.turned g1 x1, SK.out.1.2.2.turned g1 x2⟩, f1, SK.out.2.2.1.turned SK.out.1.2.1 g1 x1, SK.out.2.2.2.turned SK.out.1.2.2 g1 x2⟩
      have FL1 : Hid (FillS w1 g n n U) := HR.out.2.1.within W1.out (Or.inl hgz.out.1)
      clear r1 f1 g1 x1 x2 b0 b1 b2 SK
      obtain ⟨b0, b1, b2⟩ := FL1.out.2.2 k hlt
      rw [EU.out.1] at b0
      rw [EU.out.2.1] at b1
      rw [EU.out.2.2] at b2
      go_wp2_with fail
      refine (markLockS_turn _ (z k) n1 (S k).l _ _ SK1.out.1.2.1 SK1.out.2.2.1 m1 (by omega) (by omega)).mono ?_
      rintro e w2 ⟨rfl, r2, f2, g2⟩
      have W2 : Hid (Within (z k) (z (k + 1)) wr w2) := W1.out.trans (Within.of g2 (fun b q => by obtain ⟨h0, h1⟩ := turn_eq q; exact OK.out.2.1 h0 b h1))
      have x0 := apart_rows SK1.out.1.2.1 SK1.out.1.1 (fun h1 h2 e => AK.out.1 h2 h1 e.symm)
      have x2 := apart_rows SK1.out.1.2.1 SK1.out.1.2.2 AK.out.2.2
      have SK2 : Hid ((Row w2 (z k) 3 n0 (fun p => k0 + (c : Nat) + (p : Nat)) (.slice i0 n0 d0) ∧ Row w2 (z k) 5 n1 (fun p => k0 + (c : Nat) + n0 * 3 + (p : Nat)) (.slice i1 n1 d1) ∧ Row w2 (z k) 4 n2 (S k).k (.slice i2 n2 d2)) ∧ Free w2 (n0 * 3) (.slice i0 n0 d0) ∧ Free w2 (n1 * 5) (.slice i1 n1 d1) ∧ Free w2 (n2 * 4) (.slice i2 n2 d2)) :=
        ⟨⟨SK1.out.1.1.turned g2 x0, r2, SK1.out.1.2.2.turned g2 x2⟩, SK1.out.2.1.turned SK1.out.1.1 g2 x0, f2, SK1.out.2.2.2.turned SK1.out.1.2.2 g2 x2⟩
      have FL2 : Hid (FillS w2 g n n U) := HR.out.2.1.within W2.out (Or.inl hgz.out.1)
      clear r2 f2 g2 x0 x2 b0 b1 b2 SK1 FL1 W1
      obtain ⟨b0, b1, b2⟩ := FL2.out.2.2 k hlt
      rw [EU.out.1] at b0
      rw [EU.out.2.1] at b1
      rw [EU.out.2.2] at b2
      go_wp2_with fail
      refine (markWriteS_turn _ (z k) n2 (S k).k _ _ SK2.out.1.2.2 SK2.out.2.2.2 m2 (by omega) (by omega)).mono ?_
      rintro e w3 ⟨rfl, r3, f3, g3⟩
      have W3 : Hid (Within (z k) (z (k + 1)) wr w3) := W2.out.trans (Within.of g3 (fun b q => by obtain ⟨h0, h1⟩ := turn_eq q; exact OK.out.2.2 h0 b h1))
      have x0 := apart_rows SK2.out.1.2.2 SK2.out.1.1 (fun h1 h2 e => AK.out.2.1 h2 h1 e.symm)
      have x1 := apart_rows SK2.out.1.2.2 SK2.out.1.2.1 (fun h1 h2 e => AK.out.2.2 h2 h1 e.symm)
      have SK3 : Hid (Fine w3 z n (mixS S k0 (k + 1)) U) := by
        have hm : (markK (S k) (k0 + (sumN (markT S) k : Nat))).nc = n0 ∧ (markK (S k) (k0 + (sumN (markT S) k : Nat))).nl = n1 ∧ (markK (S k) (k0 + (sumN (markT S) k : Nat))).nw = n2 := HE.out
        have h1 := HR.out.2.2.turn1 hlt W3.out (markK (S k) (k0 + (sumN (markT S) k : Nat))) (by have := mix_same S k0 k k; rw [this.1, this.2.1, this.2.2]; exact ⟨rfl, rfl, rfl⟩) (by
          rw [EU.out.1, EU.out.2.1, EU.out.2.2]
          unfold St FreeS markK
          simp only
          rw [HE.out.1, HE.out.2.1, HE.out.2.2, ← HC.out]
          exact ⟨⟨SK2.out.1.1.turned g3 x0, SK2.out.1.2.1.turned g3 x1, r3⟩, SK2.out.2.1.turned SK2.out.1.1 g3 x0, SK2.out.2.2.1.turned SK2.out.1.2.1 g3 x1, f3⟩)
        refine h1.congr (fun i hi => ?_)
        unfold mixS
        by_cases q : i = k
        · subst q; rw [if_pos rfl, if_pos (Nat.lt_succ_self i)]
        · rw [if_neg q]
          by_cases q2 : i < k
          · rw [if_pos q2, if_pos (by omega)]
          · rw [if_neg q2, if_neg (by omega)]
      have WW : Hid (Within (z 0) (z n) w w3) := HR.out.1.trans (W3.out.mono hgz.out.2.1 hgz.out.2.2)
      have FL3 : Hid (FillS w3 g n n U) := HR.out.2.1.within W3.out (Or.inl hgz.out.1)
      clear r3 f3 g3 x0 x1 b0 b1 b2 SK2 FL2 W2 W3 HR AK OK EU
      go_wp2
      go_roundw
      case rel => exact ⟨k + 1, c + n0 * 3 + n1 * 5 + n2 * 4, by omega, by congr 1; push_cast; omega, by go_num, HC1, WW.out, FL3.out, SK3.out⟩
      case measure => simp [intOf]; omega
    · obtain rfl : k = n := by omega
      go_wp2
      go_ret
      exact ⟨by rw [HC.out]; rfl, HR.out.2, HR.out.1⟩
end

section
open Go.RowKit
section
/-- No list of a store lies in block q. -/
def Spare (n : Nat) (S : Nat → Sto) (U : Nat → Nat → Value) (q : Nat) : Prop := ∀ i, i < n → OwnIn (S i) (U i 0) (U i 1) (U i 2) (fun p => p ≠ q)
/-- Nothing is turned but the stores' own lists. -/
structure KeptS (n : Nat) (S : Nat → Sto) (U : Nat → Nat → Value) (w w' : World) : Prop where
  os : w'.os = w.os
  tape : w'.tape = w.tape
  output : w'.output = w.output
  size : w.heap.size ≤ w'.heap.size
  block : ∀ q, q < w.heap.size → Spare n S U q → w'.heap[q]? = w.heap[q]?
theorem KeptS.refl {n : Nat} {S : Nat → Sto} {U : Nat → Nat → Value} (w : World) : KeptS n S U w w := ⟨rfl, rfl, rfl, Nat.le_refl _, fun _ _ _ => rfl⟩
theorem KeptS.trans {n : Nat} {S : Nat → Sto} {U : Nat → Nat → Value} {a b c : World} (h : KeptS n S U a b) (k : KeptS n S U b c) : KeptS n S U a c :=
  ⟨k.os.trans h.os, k.tape.trans h.tape, k.output.trans h.output, Nat.le_trans h.size k.size, fun q hq hs => (k.block q (Nat.lt_of_lt_of_le hq h.size) hs).trans (h.block q hq hs)⟩
theorem KeptS.of {n : Nat} {S : Nat → Sto} {U : Nat → Nat → Value} {w w' : World} {row : Option Nat} (h : w.grownBy w' row) (hr : ∀ q, Spare n S U q → row ≠ some q) : KeptS n S U w w' :=
  ⟨h.os, h.tape, h.output, h.size, fun q hq hs => h.block q hq (fun e => hr q hs e.symm)⟩
set_option maxRecDepth 100000 in
set_option maxHeartbeats 8000000 in
theorem markStoreS_pos (n cp g : Nat) (S : Nat → Sto) (U : Nat → Nat → Value) (z : Nat → Nat) (k0 : Int) (w : World) (hF : FillS w g n n U) (hf : Fine w z n S U) (hg : Spare n S U g) (hs : ∀ i, i < n → SmallS (S i)) (ht : sumN (sizeT S) n ≤ 1048576) (h0 : 0 ≤ k0) (h1 : k0 ≤ 10000000) (hn : n ≤ 1048576) :
    Calls Tryz.prog 68 #[.slice (some ⟨g, 0, none⟩) n cp, .int .i64 k0] w fun e w' => e = .returned (.int .i64 (k0 + (sumN (markT S) n : Nat))) ∧ (FillS w' g n n U ∧ Fine w' z n (mixS S k0 n) U) ∧ KeptS n S U w w' := by
  have HF : Hid (FillS w g n n U ∧ Fine w z n S U ∧ Spare n S U g) := ⟨hF, hf, hg⟩
  have HN : Hid ((∀ i, i < n → SmallS (S i)) ∧ ∀ k, k ≤ n → sumN (markT S) k ≤ 5242880) := ⟨hs, fun k hk => by have := sum_mono (markT S) hk; have := markT_le S n; omega⟩
  clear hF hf hg hs ht
  go_enter Tryz.func68, Tryz.ntmps68
  go_wp2
  go_loopw [1, 5] (fun j i wr => ∃ (k c : Nat), k ≤ n ∧ j = .int .i64 (k0 + (c : Nat)) ∧ i = .int .i64 k ∧ Hid (c = sumN (markT S) k) ∧ Hid (KeptS n S U w wr ∧ FillS wr g n n U ∧ Fine wr z n (mixS S k0 k) U)) (fun _ i _ => n - (intOf i).toNat)
  case atStart => exact ⟨0, 0, Nat.zero_le _, by simp, rfl, rfl, KeptS.refl _, HF.out.1, HF.out.2.1.congr (fun i _ => by unfold mixS; rw [if_neg (Nat.not_lt_zero i)])⟩
  case round =>
    obtain ⟨k, c, hk, rfl, rfl, HC, HR⟩ := hrel
    have hcb : c ≤ 5242880 := by rw [HC.out]; exact HN.out.2 k hk
    by_cases hlt : k < n
    · obtain ⟨b0, b1, b2⟩ := HR.out.2.1.2.2 k hlt
      obtain ⟨⟨sk, fk, ak⟩, ok, uk⟩ := HR.out.2.2 k hlt
      have emx : mixS S k0 k k = S k := by unfold mixS; rw [if_neg (Nat.lt_irrefl k)]
      rw [emx] at sk fk ak ok
      obtain ⟨i0, d0, i1, d1, i2, d2, e0, e1, e2⟩ := sk.form
      obtain ⟨n0, hn0⟩ : ∃ x, (S k).nc = x := ⟨_, rfl⟩
      obtain ⟨n1, hn1⟩ : ∃ x, (S k).nl = x := ⟨_, rfl⟩
      obtain ⟨n2, hn2⟩ : ∃ x, (S k).nw = x := ⟨_, rfl⟩
      rw [e0, hn0] at b0
      rw [e1, hn1] at b1
      rw [e2, hn2] at b2
      have EU : Hid (U k 0 = .slice i0 n0 d0 ∧ U k 1 = .slice i1 n1 d1 ∧ U k 2 = .slice i2 n2 d2) := ⟨by rw [e0, hn0], by rw [e1, hn1], by rw [e2, hn2]⟩
      have hsm := HN.out.1 k hlt
      unfold SmallS at hsm
      rw [hn0, hn1, hn2] at hsm
      obtain ⟨m0, m1, m2⟩ := hsm
      have SK : Hid ((Row wr (z k) 3 n0 (S k).c (.slice i0 n0 d0) ∧ Row wr (z k) 5 n1 (S k).l (.slice i1 n1 d1) ∧ Row wr (z k) 4 n2 (S k).k (.slice i2 n2 d2)) ∧ Free wr (n0 * 3) (.slice i0 n0 d0) ∧ Free wr (n1 * 5) (.slice i1 n1 d1) ∧ Free wr (n2 * 4) (.slice i2 n2 d2)) := by
        rw [e0, e1, e2] at sk fk
        obtain ⟨x0, x1, x2⟩ := sk
        obtain ⟨y0, y1, y2⟩ := fk
        rw [hn0] at x0 y0
        rw [hn1] at x1 y1
        rw [hn2] at x2 y2
        exact ⟨⟨x0, x1, x2⟩, y0, y1, y2⟩
      have AK : Hid ((0 < n0 → 0 < n1 → (Value.slice i0 n0 d0).ownBlock ≠ (Value.slice i1 n1 d1).ownBlock) ∧ (0 < n0 → 0 < n2 → (Value.slice i0 n0 d0).ownBlock ≠ (Value.slice i2 n2 d2).ownBlock) ∧ (0 < n1 → 0 < n2 → (Value.slice i1 n1 d1).ownBlock ≠ (Value.slice i2 n2 d2).ownBlock)) := by
        unfold ApartD at ak
        rw [e0, e1, e2, hn0, hn1, hn2] at ak
        exact ak
      have OK : Hid ((0 < n0 → ∀ j, (Value.slice i0 n0 d0).ownBlock = some j → z k ≤ j ∧ j < z (k + 1)) ∧ (0 < n1 → ∀ j, (Value.slice i1 n1 d1).ownBlock = some j → z k ≤ j ∧ j < z (k + 1)) ∧ (0 < n2 → ∀ j, (Value.slice i2 n2 d2).ownBlock = some j → z k ≤ j ∧ j < z (k + 1))) := by
        unfold OwnIn at ok
        rw [e0, e1, e2, hn0, hn1, hn2] at ok
        exact ok
      have SP : Hid (∀ q, Spare n S U q → (0 < n0 → (Value.slice i0 n0 d0).ownBlock ≠ some q) ∧ (0 < n1 → (Value.slice i1 n1 d1).ownBlock ≠ some q) ∧ (0 < n2 → (Value.slice i2 n2 d2).ownBlock ≠ some q)) := fun q hq => by
        have h := hq k hlt
        unfold OwnIn at h
        rw [e0, e1, e2, hn0, hn1, hn2] at h
        exact ⟨fun hp e => h.1 hp q e rfl, fun hp e => h.2.1 hp q e rfl, fun hp e => h.2.2 hp q e rfl⟩
      have HE : Hid ((S k).nc = n0 ∧ (S k).nl = n1 ∧ (S k).nw = n2) := ⟨hn0, hn1, hn2⟩
      have HC1 : Hid (c + n0 * 3 + n1 * 5 + n2 * 4 = sumN (markT S) (k + 1)) := by
        unfold Hid
        show _ = sumN (markT S) k + ((S k).nc * 3 + (S k).nl * 5 + (S k).nw * 4)
        rw [HC.out, hn0, hn1, hn2]
        omega
      clear sk fk ak ok uk emx e0 e1 e2 hn0 hn1 hn2
      go_wp2_with fail
      refine (markCellS_turn _ (z k) n0 (S k).c (k0 + (c : Nat)) _ SK.out.1.1 SK.out.2.1 m0 (by omega) (by omega)).mono ?_
      rintro e w1 ⟨rfl, r1, f1, g1⟩
      have W1 : Hid (Within (z k) (z (k + 1)) wr w1) := Within.of g1 (fun b q => by obtain ⟨h0, h1⟩ := turn_eq q; exact OK.out.1 h0 b h1)
      have x1 := apart_rows SK.out.1.1 SK.out.1.2.1 AK.out.1
      have x2 := apart_rows SK.out.1.1 SK.out.1.2.2 AK.out.2.1
      have SK1 : Hid ((Row w1 (z k) 3 n0 (fun p => k0 + (c : Nat) + (p : Nat)) (.slice i0 n0 d0) ∧ Row w1 (z k) 5 n1 (S k).l (.slice i1 n1 d1) ∧ Row w1 (z k) 4 n2 (S k).k (.slice i2 n2 d2)) ∧ Free w1 (n0 * 3) (.slice i0 n0 d0) ∧ Free w1 (n1 * 5) (.slice i1 n1 d1) ∧ Free w1 (n2 * 4) (.slice i2 n2 d2)) :=
        ⟨⟨r1, SK.out.1.2.1.turned g1 x1, SK.out.1.2.2.turned g1 x2⟩, f1, SK.out.2.2.1.turned SK.out.1.2.1 g1 x1, SK.out.2.2.2.turned SK.out.1.2.2 g1 x2⟩
      have KP1 : Hid (KeptS n S U wr w1) := KeptS.of g1 (fun q hq e => by obtain ⟨h0, h1⟩ := turn_eq e; exact (SP.out q hq).1 h0 h1)
      have FL1 : Hid (FillS w1 g n n U) := HR.out.2.1.kept KP1.out.size (KP1.out.block g HR.out.2.1.1 HF.out.2.2)
      clear r1 f1 g1 x1 x2 b0 b1 b2 SK
      obtain ⟨b0, b1, b2⟩ := FL1.out.2.2 k hlt
      rw [EU.out.1] at b0
      rw [EU.out.2.1] at b1
      rw [EU.out.2.2] at b2
      go_wp2_with fail
      refine (markLockS_turn _ (z k) n1 (S k).l _ _ SK1.out.1.2.1 SK1.out.2.2.1 m1 (by omega) (by omega)).mono ?_
      rintro e w2 ⟨rfl, r2, f2, g2⟩
      have W2 : Hid (Within (z k) (z (k + 1)) wr w2) := W1.out.trans (Within.of g2 (fun b q => by obtain ⟨h0, h1⟩ := turn_eq q; exact OK.out.2.1 h0 b h1))
      have x0 := apart_rows SK1.out.1.2.1 SK1.out.1.1 (fun h1 h2 e => AK.out.1 h2 h1 e.symm)
      have x2 := apart_rows SK1.out.1.2.1 SK1.out.1.2.2 AK.out.2.2
      have SK2 : Hid ((Row w2 (z k) 3 n0 (fun p => k0 + (c : Nat) + (p : Nat)) (.slice i0 n0 d0) ∧ Row w2 (z k) 5 n1 (fun p => k0 + (c : Nat) + n0 * 3 + (p : Nat)) (.slice i1 n1 d1) ∧ Row w2 (z k) 4 n2 (S k).k (.slice i2 n2 d2)) ∧ Free w2 (n0 * 3) (.slice i0 n0 d0) ∧ Free w2 (n1 * 5) (.slice i1 n1 d1) ∧ Free w2 (n2 * 4) (.slice i2 n2 d2)) :=
        ⟨⟨SK1.out.1.1.turned g2 x0, r2, SK1.out.1.2.2.turned g2 x2⟩, SK1.out.2.1.turned SK1.out.1.1 g2 x0, f2, SK1.out.2.2.2.turned SK1.out.1.2.2 g2 x2⟩
      have KP2 : Hid (KeptS n S U wr w2) := KP1.out.trans (KeptS.of g2 (fun q hq e => by obtain ⟨h0, h1⟩ := turn_eq e; exact (SP.out q hq).2.1 h0 h1))
      have FL2 : Hid (FillS w2 g n n U) := HR.out.2.1.kept KP2.out.size (KP2.out.block g HR.out.2.1.1 HF.out.2.2)
      clear r2 f2 g2 x0 x2 b0 b1 b2 SK1 FL1 W1
      obtain ⟨b0, b1, b2⟩ := FL2.out.2.2 k hlt
      rw [EU.out.1] at b0
      rw [EU.out.2.1] at b1
      rw [EU.out.2.2] at b2
      go_wp2_with fail
      refine (markWriteS_turn _ (z k) n2 (S k).k _ _ SK2.out.1.2.2 SK2.out.2.2.2 m2 (by omega) (by omega)).mono ?_
      rintro e w3 ⟨rfl, r3, f3, g3⟩
      have W3 : Hid (Within (z k) (z (k + 1)) wr w3) := W2.out.trans (Within.of g3 (fun b q => by obtain ⟨h0, h1⟩ := turn_eq q; exact OK.out.2.2 h0 b h1))
      have x0 := apart_rows SK2.out.1.2.2 SK2.out.1.1 (fun h1 h2 e => AK.out.2.1 h2 h1 e.symm)
      have x1 := apart_rows SK2.out.1.2.2 SK2.out.1.2.1 (fun h1 h2 e => AK.out.2.2 h2 h1 e.symm)
      have SK3 : Hid (Fine w3 z n (mixS S k0 (k + 1)) U) := by
        have hm : (markK (S k) (k0 + (sumN (markT S) k : Nat))).nc = n0 ∧ (markK (S k) (k0 + (sumN (markT S) k : Nat))).nl = n1 ∧ (markK (S k) (k0 + (sumN (markT S) k : Nat))).nw = n2 := HE.out
        have h1 := HR.out.2.2.turn1 hlt W3.out (markK (S k) (k0 + (sumN (markT S) k : Nat))) (by have := mix_same S k0 k k; rw [this.1, this.2.1, this.2.2]; exact ⟨rfl, rfl, rfl⟩) (by
          rw [EU.out.1, EU.out.2.1, EU.out.2.2]
          unfold St FreeS markK
          simp only
          rw [HE.out.1, HE.out.2.1, HE.out.2.2, ← HC.out]
          exact ⟨⟨SK2.out.1.1.turned g3 x0, SK2.out.1.2.1.turned g3 x1, r3⟩, SK2.out.2.1.turned SK2.out.1.1 g3 x0, SK2.out.2.2.1.turned SK2.out.1.2.1 g3 x1, f3⟩)
        refine h1.congr (fun i hi => ?_)
        unfold mixS
        by_cases q : i = k
        · subst q; rw [if_pos rfl, if_pos (Nat.lt_succ_self i)]
        · rw [if_neg q]
          by_cases q2 : i < k
          · rw [if_pos q2, if_pos (by omega)]
          · rw [if_neg q2, if_neg (by omega)]
      have KP3 : Hid (KeptS n S U wr w3) := KP2.out.trans (KeptS.of g3 (fun q hq e => by obtain ⟨h0, h1⟩ := turn_eq e; exact (SP.out q hq).2.2 h0 h1))
      have WW : Hid (KeptS n S U w w3) := HR.out.1.trans KP3.out
      have FL3 : Hid (FillS w3 g n n U) := HR.out.2.1.kept KP3.out.size (KP3.out.block g HR.out.2.1.1 HF.out.2.2)
      clear r3 f3 g3 x0 x1 b0 b1 b2 SK2 FL2 W2 W3 HR AK OK EU SP KP1 KP2 KP3
      go_wp2
      go_roundw
      case rel => exact ⟨k + 1, c + n0 * 3 + n1 * 5 + n2 * 4, by omega, by congr 1; push_cast; omega, by go_num, HC1, WW.out, FL3.out, SK3.out⟩
      case measure => simp [intOf]; omega
    · obtain rfl : k = n := by omega
      go_wp2
      go_ret
      exact ⟨by rw [HC.out]; rfl, HR.out.2, HR.out.1⟩
set_option maxHeartbeats 1000000 in
theorem markStoreS_none (sa : Option Addr) (cp : Nat) (k0 : Int) (w : World) :
    Calls Tryz.prog 68 #[.slice sa 0 cp, .int .i64 k0] w fun e w' => e = .returned (.int .i64 k0) ∧ w' = w := by
  go_enter Tryz.func68, Tryz.ntmps68
  go_wp2
  go_loop [1, 5] (fun k i => i = .int .i64 0 ∧ k = .int .i64 k0) (fun _ i => 1 - (intOf i).toNat)
  case atStart => exact ⟨rfl, rfl⟩
  case round =>
    obtain ⟨rfl, rfl⟩ := hrel
    go_wp2
    go_ret
    exact ⟨rfl, rfl⟩
theorem mixS_all (S : Nat → Sto) (k0 : Int) (n i : Nat) (hi : i < n) : mixS S k0 n i = markK (S i) (k0 + (sumN (markT S) i : Nat)) := by unfold mixS; rw [if_pos hi]
/-- A row of stores that was answered: nil, or a block of its own. -/
def RowS (w : World) (lo n : Nat) (S : Nat → Sto) (U : Nat → Nat → Value) (sa : Option Addr) : Prop := 0 < n → ∃ g, sa = some ⟨g, 0, none⟩ ∧ lo ≤ g ∧ FillS w g n n U ∧ Spare n S U g
theorem markStoreS_full (n cp lo : Nat) (sa : Option Addr) (S : Nat → Sto) (U : Nat → Nat → Value) (z : Nat → Nat) (k0 : Int) (w : World) (hF : RowS w lo n S U sa) (hf : Fine w z n S U) (hs : ∀ i, i < n → SmallS (S i)) (ht : sumN (sizeT S) n ≤ 1048576) (h0 : 0 ≤ k0) (h1 : k0 ≤ 10000000) (hn : n ≤ 1048576) :
    Calls Tryz.prog 68 #[.slice sa n cp, .int .i64 k0] w fun e w' => e = .returned (.int .i64 (k0 + (sumN (markT S) n : Nat))) ∧ (RowS w' lo n S U sa ∧ Fine w' z n (mixS S k0 n) U) ∧ KeptS n S U w w' := by
  rcases Nat.eq_zero_or_pos n with e | e
  · subst e
    refine (markStoreS_none sa cp k0 w).mono fun e w' ⟨he, hw⟩ => ?_
    subst hw
    exact ⟨by rw [he]; simp [sumN], ⟨hF, fun i hi => absurd hi (Nat.not_lt_zero i)⟩, KeptS.refl _⟩
  · obtain ⟨g, rfl, hlo, h2, h3⟩ := hF e
    refine (markStoreS_pos n cp g S U z k0 w h2 hf h3 hs ht h0 h1 hn).mono fun e' w' ⟨he, ⟨x1, x2⟩, x3⟩ => ⟨he, ⟨fun _ => ⟨g, rfl, hlo, x1, h3⟩, x2⟩, x3⟩
set_option maxRecDepth 100000 in
set_option maxHeartbeats 4000000 in
theorem heldStoreS_any (n cp B : Nat) (sa : Option Addr) (S : Nat → Sto) (U : Nat → Nat → Value) (k0 : Int) (w : World) (h : Stos w B n (mixS S k0 n) U (.slice sa n cp)) (hs : ∀ i, i < n → SmallS (S i)) (ht : sumN (sizeT S) n ≤ 1048576) (h0 : 0 ≤ k0) (h1 : k0 ≤ 10000000) (hn : n ≤ 1048576) :
    Calls Tryz.prog 100 #[.slice sa n cp, .int .i64 k0] w fun e w' => e = .returned (.int .i64 (k0 + (sumN (markT S) n : Nat))) ∧ w' = w := by
  have H : Hid (Stos w B n (mixS S k0 n) U (.slice sa n cp)) := h
  have HN : Hid ((∀ i, i < n → SmallS (S i)) ∧ ∀ k, k ≤ n → sumN (markT S) k ≤ 5242880) := ⟨hs, fun k hk => by have := sum_mono (markT S) hk; have := markT_le S n; omega⟩
  clear h hs ht
  go_enter Tryz.func100, Tryz.ntmps100
  go_wp2
  go_loopw [1, 5] (fun j i wr => ∃ (k c : Nat), k ≤ n ∧ j = .int .i64 (k0 + (c : Nat)) ∧ i = .int .i64 k ∧ Hid (c = sumN (markT S) k) ∧ wr = w) (fun _ i _ => n - (intOf i).toNat)
  case atStart => exact ⟨0, 0, Nat.zero_le _, by simp, rfl, rfl, rfl⟩
  case round =>
    obtain ⟨k, c, hk, rfl, rfl, HC, rfl⟩ := hrel
    have hcb : c ≤ 5242880 := by rw [HC.out]; exact HN.out.2 k hk
    by_cases hlt : k < n
    · obtain ⟨g, o, rfl, _, hg, ⟨b0, b1, b2⟩, sk⟩ := H.out.at hlt
      rw [mixS_all S k0 n k hlt, ← HC.out] at sk
      obtain ⟨i0, d0, i1, d1, i2, d2, e0, e1, e2⟩ := sk.form
      obtain ⟨n0, hn0⟩ : ∃ x, (S k).nc = x := ⟨_, rfl⟩
      obtain ⟨n1, hn1⟩ : ∃ x, (S k).nl = x := ⟨_, rfl⟩
      obtain ⟨n2, hn2⟩ : ∃ x, (S k).nw = x := ⟨_, rfl⟩
      have e0' : U k 0 = .slice i0 n0 d0 := by rw [e0]; show Value.slice i0 (S k).nc d0 = _; rw [hn0]
      have e1' : U k 1 = .slice i1 n1 d1 := by rw [e1]; show Value.slice i1 (S k).nl d1 = _; rw [hn1]
      have e2' : U k 2 = .slice i2 n2 d2 := by rw [e2]; show Value.slice i2 (S k).nw d2 = _; rw [hn2]
      rw [e0'] at b0
      rw [e1'] at b1
      rw [e2'] at b2
      have SK : Hid (Row wr B 3 n0 (fun p => k0 + (c : Nat) + (p : Nat)) (.slice i0 n0 d0) ∧ Row wr B 5 n1 (fun p => k0 + (c : Nat) + n0 * 3 + (p : Nat)) (.slice i1 n1 d1) ∧ Row wr B 4 n2 (fun p => k0 + (c : Nat) + n0 * 3 + n1 * 5 + (p : Nat)) (.slice i2 n2 d2)) := by
        rw [e0', e1', e2'] at sk
        unfold St markK at sk
        simp only at sk
        rw [hn0, hn1, hn2] at sk
        exact sk
      have hsm := HN.out.1 k hlt
      unfold SmallS at hsm
      rw [hn0, hn1, hn2] at hsm
      obtain ⟨m0, m1, m2⟩ := hsm
      have HC1 : Hid (c + n0 * 3 + n1 * 5 + n2 * 4 = sumN (markT S) (k + 1)) := by
        unfold Hid
        show _ = sumN (markT S) k + ((S k).nc * 3 + (S k).nl * 5 + (S k).nw * 4)
        rw [HC.out, hn0, hn1, hn2]
        omega
      have hcb1 : c + n0 * 3 + n1 * 5 + n2 * 4 ≤ 5242880 := by rw [HC1.out]; exact HN.out.2 (k + 1) hlt
      have z0 : decide (k0 + (c : Nat) + n0 * 3 < 0) = false := decide_eq_false (by omega)
      have z1 : decide (k0 + (c : Nat) + n0 * 3 + n1 * 5 < 0) = false := decide_eq_false (by omega)
      have z2 : decide (k0 + (c : Nat) + n0 * 3 + n1 * 5 + n2 * 4 < 0) = false := decide_eq_false (by omega)
      clear sk e0 e1 e2 e0' e1' e2' hn0 hn1 hn2 HC
      go_wp2_with fail
      refine (heldCellS_any _ B n0 (k0 + (c : Nat)) _ SK.out.1 m0 (by omega) (by omega)).mono ?_
      rintro e w1 ⟨rfl, rfl⟩
      go_wp2_with fail
      refine (heldLockS_any _ B n1 _ _ SK.out.2.1 m1 (by omega) (by omega)).mono ?_
      rintro e w1 ⟨rfl, rfl⟩
      go_wp2_with fail
      refine (heldWriteS_any _ B n2 _ _ SK.out.2.2 m2 (by omega) (by omega)).mono ?_
      rintro e w1 ⟨rfl, rfl⟩
      clear SK b0 b1 b2
      go_wp2
      go_roundw
      case rel => exact ⟨k + 1, c + n0 * 3 + n1 * 5 + n2 * 4, by omega, by congr 1; push_cast; omega, by go_num, HC1, by trivial⟩
      case measure => simp [intOf]; omega
    · obtain rfl : k = n := by omega
      go_wp2
      go_ret
      exact ⟨by rw [HC.out]; rfl, rfl⟩
end

section
open Go.RowKit
/-- Groups in new memory, from block lo on: all may be written, and every list lies in a block of its own. -/
def FineR (w : World) (lo tp nr : Nat) (F : Nat → Int) (n : Nat) (S : Nat → Sto) (ra : Option Addr) (rc : Nat) (sa : Option Addr) (U : Nat → Nat → Value) (z : Nat → Nat) : Prop :=
  (Row w lo 3 nr F (.slice ra nr rc) ∧ Free w (nr * 3) (.slice ra nr rc)) ∧ (RowS w lo n S U sa ∧ Fine w z n S U) ∧ ((∀ i, i < n → lo ≤ z i) ∧ (∀ i, i < n → z (i + 1) ≤ tp) ∧ tp ≤ w.heap.size) ∧ (0 < nr → ∀ q, (Value.slice ra nr rc).ownBlock = some q → Spare n S U q ∧ (0 < n → sa ≠ some ⟨q, 0, none⟩) ∧ q < tp)
theorem RowS.kept {w w' : World} {lo n : Nat} {S : Nat → Sto} {U : Nat → Nat → Value} {sa : Option Addr} (h : RowS w lo n S U sa) (hs : w.heap.size ≤ w'.heap.size) (hb : ∀ g, 0 < n → sa = some ⟨g, 0, none⟩ → g < w.heap.size → w'.heap[g]? = w.heap[g]?) : RowS w' lo n S U sa := fun hn => by
  obtain ⟨g, h1, h2, h3, h4⟩ := h hn
  exact ⟨g, h1, h2, h3.kept hs (hb g hn h1 h3.1), h4⟩
theorem RowS.later {w w' : World} {lo n : Nat} {S : Nat → Sto} {U : Nat → Nat → Value} {sa : Option Addr} (h : RowS w lo n S U sa) (hb : Below w.heap.size w w') : RowS w' lo n S U sa := h.kept hb.size (fun g _ _ hg => hb.block g hg)
theorem RowS.stos {w : World} {lo n : Nat} {S : Nat → Sto} {U : Nat → Nat → Value} {sa : Option Addr} {z : Nat → Nat} (h : RowS w lo n S U sa) (hf : Fine w z n S U) (hz : ∀ i, i < n → lo ≤ z i) (sc : Nat) : Stos w lo n S U (.slice sa n sc) :=
  ⟨⟨_, _, rfl, fun hn => by
    obtain ⟨g, h1, h2, h3, _⟩ := h hn
    refine ⟨g, 0, h1, h2, h3.1, fun i hi => ?_⟩
    obtain ⟨c0, c1, c2⟩ := h3.2.2 i hi
    simp only [Nat.zero_add]
    exact ⟨c0, c1, c2⟩⟩, fun i hi => (hf i hi).1.1.mono (hz i hi)⟩
theorem FineR.grs {w : World} {lo tp nr : Nat} {F : Nat → Int} {n : Nat} {S : Nat → Sto} {ra : Option Addr} {rc : Nat} {sa : Option Addr} {U : Nat → Nat → Value} {z : Nat → Nat} (h : FineR w lo tp nr F n S ra rc sa U z) (sc : Nat) : Grs w lo nr F n S U (.slice ra nr rc) (.slice sa n sc) := ⟨h.1.1, h.2.1.1.stos h.2.1.2 h.2.2.1.1 sc⟩
theorem FineR.later {w w' : World} {lo tp nr : Nat} {F : Nat → Int} {n : Nat} {S : Nat → Sto} {ra : Option Addr} {rc : Nat} {sa : Option Addr} {U : Nat → Nat → Value} {z : Nat → Nat} (h : FineR w lo tp nr F n S ra rc sa U z) (hb : Below w.heap.size w w') : FineR w' lo tp nr F n S ra rc sa U z :=
  ⟨⟨h.1.1.later hb, h.1.2.ofRow h.1.1 hb⟩, ⟨h.2.1.1.later hb, h.2.1.2.later hb⟩, ⟨h.2.2.1.1, h.2.2.1.2.1, Nat.le_trans h.2.2.1.2.2 hb.size⟩, h.2.2.2⟩
theorem Fine.within {w w' : World} {z : Nat → Nat} {n : Nat} {S : Nat → Sto} {U : Nat → Nat → Value} {B E : Nat} (h : Fine w z n S U) (hw : Within B E w w') (hz : ∀ i, i < n → E ≤ z i) : Fine w' z n S U := fun i hi => by
  obtain ⟨⟨h1, h2, h3⟩, h4, h5⟩ := h i hi
  have ho : OwnIn (S i) (U i 0) (U i 1) (U i 2) (fun j => j < B ∨ E ≤ j) := h4.mono (fun j hj => Or.inr (by have := hz i hi; omega))
  exact ⟨⟨h1.within hw ho, h2.within h1 hw ho, h3⟩, h4, h5⟩
theorem FineR.within {w w' : World} {lo tp nr : Nat} {F : Nat → Int} {n : Nat} {S : Nat → Sto} {ra : Option Addr} {rc : Nat} {sa : Option Addr} {U : Nat → Nat → Value} {z : Nat → Nat} {B E : Nat} (h : FineR w lo tp nr F n S ra rc sa U z) (hw : Within B E w w') (hE : E ≤ lo) : FineR w' lo tp nr F n S ra rc sa U z := by
  have ho : 0 < nr → ∀ k, (Value.slice ra nr rc).ownBlock = some k → k < B ∨ E ≤ k := fun hn k hk => Or.inr (Nat.le_trans hE (h.1.1.lt hn k hk).1)
  refine ⟨⟨h.1.1.within hw ho, h.1.2.within h.1.1 hw ho⟩, ⟨h.2.1.1.kept hw.size (fun g hn e hg => hw.block g hg (Or.inr ?_)), h.2.1.2.within hw (fun i hi => Nat.le_trans hE (h.2.2.1.1 i hi))⟩, ⟨h.2.2.1.1, h.2.2.1.2.1, Nat.le_trans h.2.2.1.2.2 hw.size⟩, h.2.2.2⟩
  obtain ⟨g', e', hl, _⟩ := h.2.1.1 hn
  rw [e] at e'
  simp only [Option.some.injEq, Addr.mk.injEq, and_true] at e'
  omega
theorem Spare.mix {n : Nat} {S : Nat → Sto} {U : Nat → Nat → Value} {q : Nat} (h : Spare n S U q) (k0 : Int) (k : Nat) : Spare n (mixS S k0 k) U q := fun i hi => by
  have := h i hi
  obtain ⟨e0, e1, e2⟩ := mix_same S k0 k i
  unfold OwnIn at this ⊢
  rw [e0, e1, e2]
  exact this
/-- A code, and groups in new memory. -/
def ResGr (w : World) (c : Int) (nr : Nat) (F : Nat → Int) (n : Nat) (S : Nat → Sto) (e : Ending) (w' : World) : Prop :=
  ∃ ra rc sa sc U z, e = .returned (.agg #[.int .i64 c, .slice ra nr rc, .slice sa n sc]) ∧ FineR w' w.heap.size w'.heap.size nr F n S ra rc sa U z ∧ Below w.heap.size w w'
/-- Groups that are numbered. -/
def MarkG (w : World) (lo nr n : Nat) (S : Nat → Sto) (ra : Option Addr) (rc : Nat) (sa : Option Addr) (sc : Nat) (U : Nat → Nat → Value) : Prop := Row w lo 3 nr (fun p => 1 + (p : Nat)) (.slice ra nr rc) ∧ Stos w lo n (mixS S (1 + nr * 3) n) U (.slice sa n sc)
theorem MarkG.later {w w' : World} {lo nr n : Nat} {S : Nat → Sto} {ra : Option Addr} {rc : Nat} {sa : Option Addr} {sc : Nat} {U : Nat → Nat → Value} (h : MarkG w lo nr n S ra rc sa sc U) (hb : Below w.heap.size w w') : MarkG w' lo nr n S ra rc sa sc U := ⟨h.1.later hb, h.2.later hb⟩
def SmallG (nr n : Nat) (S : Nat → Sto) : Prop := nr ≤ 1048576 ∧ n ≤ 1048576 ∧ (∀ i, i < n → SmallS (S i)) ∧ sumN (sizeT S) n ≤ 1048576
set_option maxHeartbeats 2000000 in
theorem markGroups_full (nr : Nat) (F : Nat → Int) (n : Nat) (S : Nat → Sto) (ra : Option Addr) (rc : Nat) (sa : Option Addr) (sc : Nat) (U : Nat → Nat → Value) (z : Nat → Nat) (lo tp : Nat) (w : World) (h : FineR w lo tp nr F n S ra rc sa U z) (hs : SmallG nr n S) :
    Calls Tryz.prog 39 #[.agg #[.slice ra nr rc, .slice sa n sc], .int .i64 1] w fun e w' => e = .returned (.int .i64 (1 + nr * 3 + (sumN (markT S) n : Nat))) ∧ MarkG w' lo nr n S ra rc sa sc U ∧ Within lo tp w w' := by
  have H : Hid (FineR w lo tp nr F n S ra rc sa U z) := h
  have HN : Hid (SmallG nr n S) := hs
  obtain ⟨hr, hn, _⟩ := hs
  clear h
  have HB : Hid (Blk2 (w.alloc (.cells #[.slice ra nr rc, .slice sa n sc] 36)) w.heap.size (.slice ra nr rc) (.slice sa n sc)) := Blk2.new w (.slice ra nr rc) (.slice sa n sc) 36
  go_enter Tryz.func39, Tryz.ntmps39
  go_wp2_with fail
  refine (markRangeS_turn _ lo nr F 1 _ (H.out.1.1.alloc _) (H.out.1.2.ofRow H.out.1.1 (below_alloc _ _)) hr (by omega) (by omega)).mono ?_
  rintro e w1 ⟨rfl, r1, _, g1⟩
  have tn : ∀ q, turn nr (.slice ra nr rc) = some q → (lo ≤ q ∧ q < tp ∧ tp ≤ w.heap.size) ∧ Spare n S U q ∧ (0 < n → sa ≠ some ⟨q, 0, none⟩) := fun q e => by obtain ⟨h0, h1⟩ := turn_eq e; have x := H.out.2.2.2 h0 q h1; exact ⟨⟨(H.out.1.1.lt h0 q h1).1, x.2.2, H.out.2.2.1.2.2⟩, x.1, x.2.1⟩
  have bl : ∀ q, q < w.heap.size → (turn nr (.slice ra nr rc) ≠ some q) → w1.heap[q]? = w.heap[q]? := fun q hq hne => (g1.block q (by simp; omega) (fun e => hne e.symm)).trans ((below_alloc w _).block q hq)
  have W1 : Hid (Within lo tp w w1) := ⟨g1.os, g1.tape, g1.output, Nat.le_trans (by simp) g1.size, fun q hq ho => bl q hq (fun e => by have := (tn q e).1; omega)⟩
  have HB1 : Hid (Blk2 w1 w.heap.size (.slice ra nr rc) (.slice sa n sc)) := HB.out.kept (g1.block w.heap.size (by simp) (fun e => by have := (tn _ e.symm).1; omega))
  have RS1 : Hid (RowS w1 lo n S U sa) := H.out.2.1.1.kept W1.out.size (fun g hn e hg => bl g hg (fun q => (tn g q).2.2 hn e))
  have ob : ∀ i, i < n → OwnIn (S i) (U i 0) (U i 1) (U i 2) (fun q => q < w.heap.size ∧ turn nr (.slice ra nr rc) ≠ some q) := fun i hi => by
    obtain ⟨_, h4, _⟩ := H.out.2.1.2 i hi
    have hz := H.out.2.2.1.2.1 i hi
    have hz2 := H.out.2.2.1.2.2
    refine ⟨fun hp k hk => ⟨?_, fun e => ?_⟩, fun hp k hk => ⟨?_, fun e => ?_⟩, fun hp k hk => ⟨?_, fun e => ?_⟩⟩
    · have := (h4.1 hp k hk).2; omega
    · exact ((tn k e).2.1 i hi).1 hp k hk rfl
    · have := (h4.2.1 hp k hk).2; omega
    · exact ((tn k e).2.1 i hi).2.1 hp k hk rfl
    · have := (h4.2.2 hp k hk).2; omega
    · exact ((tn k e).2.1 i hi).2.2 hp k hk rfl
  have FI1 : Hid (Fine w1 z n S U) := fun i hi => by
    obtain ⟨⟨⟨s0, s1, s2⟩, ⟨f0, f1, f2⟩, h3⟩, h4⟩ := (H.out.2.1.2.later (below_alloc w (.cells #[.slice ra nr rc, .slice sa n sc] 36))) i hi
    have o := ob i hi
    have x0 : 0 < (S i).nc → ∀ k, (U i 0).ownBlock = some k → some k ≠ turn nr (.slice ra nr rc) := fun hp k hk e => (o.1 hp k hk).2 e.symm
    have x1 : 0 < (S i).nl → ∀ k, (U i 1).ownBlock = some k → some k ≠ turn nr (.slice ra nr rc) := fun hp k hk e => (o.2.1 hp k hk).2 e.symm
    have x2 : 0 < (S i).nw → ∀ k, (U i 2).ownBlock = some k → some k ≠ turn nr (.slice ra nr rc) := fun hp k hk e => (o.2.2 hp k hk).2 e.symm
    exact ⟨⟨⟨s0.turned g1 x0, s1.turned g1 x1, s2.turned g1 x2⟩, ⟨f0.turned s0 g1 x0, f1.turned s1 g1 x1, f2.turned s2 g1 x2⟩, h3⟩, h4⟩
  have R1 : Hid (Row w1 lo 3 nr (fun p => 1 + (p : Nat)) (.slice ra nr rc)) := r1
  have HSP : Hid (0 < nr → ∀ q, (Value.slice ra nr rc).ownBlock = some q → Spare n S U q) := fun hp q hq => (H.out.2.2.2 hp q hq).1
  have HOB : Hid (∀ i, i < n → OwnIn (S i) (U i 0) (U i 1) (U i 2) (fun q => lo ≤ q ∧ q < tp)) := fun i hi => by
    obtain ⟨_, h4, _⟩ := H.out.2.1.2 i hi
    have hz := H.out.2.2.1.2.1 i hi
    have hl := H.out.2.2.1.1 i hi
    exact h4.mono (fun q hq => by omega)
  have HZ : Hid (∀ i, i < n → lo ≤ z i) := H.out.2.2.1.1
  clear r1 g1 tn bl ob H HB
  obtain ⟨⟨p0, p1⟩, _⟩ := HB1.out
  go_wp2_with fail
  refine (markStoreS_full n sc lo sa S U z (1 + nr * 3) _ RS1.out FI1.out HN.out.2.2.1 HN.out.2.2.2 (by omega) (by omega) hn).mono ?_
  rintro e w2 ⟨rfl, ⟨RS2, FI2⟩, K2⟩
  have RS2' : RowS w2 lo n (mixS S (1 + nr * 3) n) U sa := fun hp => by
    obtain ⟨g, x1, x2, x3, x4⟩ := RS2 hp
    exact ⟨g, x1, x2, x3, x4.mix _ _⟩
  have MM : Hid (MarkG w2 lo nr n S ra rc sa sc U) := by
    refine ⟨?_, RS2'.stos FI2 HZ.out sc⟩
    rcases Nat.eq_zero_or_pos nr with q | q
    · subst q
      exact ⟨_, _, rfl, fun hq => absurd hq (Nat.lt_irrefl 0)⟩
    · exact R1.out.kept K2.size (fun k hk hlt => K2.block k hlt (HSP.out q k hk))
  have WW : Hid (Within lo tp w w2) := ⟨K2.os.trans W1.out.os, K2.tape.trans W1.out.tape, K2.output.trans W1.out.output, Nat.le_trans W1.out.size K2.size, fun q hq ho => (K2.block q (Nat.lt_of_lt_of_le hq W1.out.size) (fun i hi => (HOB.out i hi).mono (fun p hp => by omega))).trans (W1.out.block q hq ho)⟩
  clear RS2 FI2 K2 RS2' RS1 FI1 R1 HSP HOB W1
  go_wp2
  go_ret
  exact ⟨rfl, MM.out, WW.out⟩
set_option maxHeartbeats 2000000 in
theorem heldGroups_any (nr n : Nat) (S : Nat → Sto) (ra : Option Addr) (rc : Nat) (sa : Option Addr) (sc : Nat) (U : Nat → Nat → Value) (lo : Nat) (w : World) (h : MarkG w lo nr n S ra rc sa sc U) (hs : SmallG nr n S) :
    Calls Tryz.prog 69 #[.agg #[.slice ra nr rc, .slice sa n sc], .int .i64 1] w fun e w' => e = .returned (.int .i64 (1 + nr * 3 + (sumN (markT S) n : Nat))) ∧ Below w.heap.size w w' := by
  have H : Hid (MarkG w lo nr n S ra rc sa sc U) := h
  have HN : Hid (SmallG nr n S) := hs
  obtain ⟨hr, hn, _⟩ := hs
  obtain ⟨t, ht⟩ : ∃ t, sumN (markT S) n = t := ⟨_, rfl⟩
  have HT : Hid (sumN (markT S) n = t) := ht
  have d0 : decide ((1 : Int) + nr * 3 < 0) = false := decide_eq_false (by omega)
  have d1 : decide ((1 : Int) + nr * 3 + (t : Nat) < 0) = false := decide_eq_false (by omega)
  rw [ht]
  clear h ht
  go_enter Tryz.func69, Tryz.ntmps69
  go_wp2_with fail
  refine (heldRangeS_any _ lo nr 1 _ (H.out.1.alloc _) hr (by omega) (by omega)).mono ?_
  rintro e w1 ⟨rfl, rfl⟩
  go_wp2_with fail
  refine (heldStoreS_any n sc lo sa S U (1 + nr * 3) _ (H.out.2.alloc _) HN.out.2.2.1 HN.out.2.2.2 (by omega) (by omega) hn).mono ?_
  rw [HT.out]
  rintro e w1 ⟨rfl, rfl⟩
  go_wp2
  go_ret
  exact ⟨rfl, below_alloc _ _⟩
end

section
open Go.RowKit
theorem FineR.row {w : World} {lo tp nr : Nat} {F : Nat → Int} {n : Nat} {S : Nat → Sto} {ra : Option Addr} {rc : Nat} {sa : Option Addr} {U : Nat → Nat → Value} {z : Nat → Nat} (h : FineR w lo tp nr F n S ra rc sa U z) : 0 < n → ∀ g, sa = some ⟨g, 0, none⟩ → g < w.heap.size := fun hn g e => by
  obtain ⟨g', e', _, hf, _⟩ := h.2.1.1 hn
  rw [e] at e'
  simp only [Option.some.injEq, Addr.mk.injEq, and_true] at e'
  rw [e']
  exact hf.1
end

section
open Go.RowKit
theorem FillS.set {w : World} {g n k : Nat} {U : Nat → Nat → Value} (h : FillS w g n n U) (hk : k < n) (u0 u1 u2 : Value) : FillS (((w.setCell ⟨g, k * 3, none⟩ u0).setCell ⟨g, k * 3 + 1, none⟩ u1).setCell ⟨g, k * 3 + 2, none⟩ u2) g n n (putU U k u0 u1 u2) := by
  have h' : FillS w g n k U := ⟨h.1, h.2.1, fun i hi => h.2.2 i (by omega)⟩
  have hp := h'.put hk u0 u1 u2
  refine ⟨hp.1, hp.2.1, fun i hi => ?_⟩
  by_cases q : i < k + 1
  · exact hp.2.2 i q
  · have other : ∀ p, k * 3 + 3 ≤ p → (((w.setCell ⟨g, k * 3, none⟩ u0).setCell ⟨g, k * 3 + 1, none⟩ u1).setCell ⟨g, k * 3 + 2, none⟩ u2).cell? ⟨g, p, none⟩ = w.cell? ⟨g, p, none⟩ := fun p hp =>
      (World.cell?_setCell_other _ _ _ _ (by intro q; simp at q; try omega)).trans ((World.cell?_setCell_other _ _ _ _ (by intro q; simp at q; try omega)).trans (World.cell?_setCell_other _ _ _ _ (by intro q; simp at q; try omega)))
    obtain ⟨d0, d1, d2⟩ := h.2.2 i hi
    unfold putU
    rw [if_neg (by omega), if_neg (by omega), if_neg (by omega)]
    exact ⟨(other _ (by omega)).trans d0, (other _ (by omega)).trans d1, (other _ (by omega)).trans d2⟩
end
end
end Go.Proofs.YtphfiojhpfdpdaaGreat

namespace Go.Proofs.YtphfiojhpfdpdaaGreat
section
open Go.RowKit
end

section
open Go.RowKit
end

section
open Go.RowKit
end

section
open Go.RowKit
theorem Blk3.row {x : World} {b B : Nat} {F : Nat → Int} (h : Blk3 x b (.int .i64 (F 0)) (.int .i64 (F 1)) (.int .i64 (F 2))) (hB : B ≤ b) (cp : Nat) : Row x B 3 1 F (.slice (some ⟨b, 0, none⟩) 1 cp) ∧ Free x (1 * 3) (.slice (some ⟨b, 0, none⟩) 1 cp) := by
  have hl := h.lt
  obtain ⟨⟨h0, h1, h2⟩, f0, f1, f2⟩ := h
  refine ⟨⟨_, _, rfl, fun _ => ⟨b, 0, rfl, hB, hl, fun p hp => ?_⟩⟩, ?_⟩
  · match p, hp with
    | 0, _ => exact h0
    | 1, _ => exact h1
    | 2, _ => exact h2
  · intro g o n c hv p hp
    simp only [Value.slice.injEq, Option.some.injEq, Addr.mk.injEq] at hv
    obtain ⟨⟨rfl, rfl, _⟩, _, _⟩ := hv
    match p, hp with
    | 0, _ => exact f0
    | 1, _ => exact f1
    | 2, _ => exact f2
end
end Go.Proofs.YtphfiojhpfdpdaaGreat

namespace Go.Proofs.YtphfiojhpfdpdaaGreat
section
open Go.RowKit Go.Maps
/-- A range's store that is worked on: its range and its columns, in block b. -/
def RSt (x : World) (B b : Nat) (fr tto ep : Int) (N : Nat) (m : Int → Int → Option Int) (nl : Nat) (l : Nat → Int) (nw : Nat) (k : Nat → Int) (g : Nat) (u1 u2 : Value) : Prop :=
  (x.cell? ⟨b, 0, none⟩ = some (.int .i64 fr) ∧ x.cell? ⟨b, 1, none⟩ = some (.int .i64 tto) ∧ x.cell? ⟨b, 2, none⟩ = some (.int .i64 ep)) ∧ ColsO x B b 3 N m nl l nw k g u1 u2 ∧ ApartC b g u1 u2
def PtE (w : World) (s0 s1 s2 r0 r1 r2 : Value) (x : World) : Prop := Blk3 x w.heap.size s0 s1 s2 ∧ Blk3 x (w.heap.size + 1) r0 r1 r2
set_option maxRecDepth 100000 in
set_option maxHeartbeats 4000000 in
theorem pointTo_is (S : Sto) (v0 v1 v2 : Value) (fr tto ep : Int) (B : Nat) (w : World) (h : St w B S v0 v1 v2) (hz : storeF S = 0) :
    Calls Tryz.prog 92 #[.agg #[v0, v1, v2], .agg #[.int .i64 fr, .int .i64 tto, .int .i64 ep]] w fun e w' => ∃ b g u1 u2, e = .returned (.pointer (some ⟨b, 0, none⟩)) ∧ RSt w' w.heap.size b fr tto ep S.nc (cellM S S.nc) S.nl S.l S.nw S.k g u1 u2 ∧ Below w.heap.size w w' := by
  obtain ⟨a0, c0, a1, c1, a2, c2, rfl, rfl, rfl⟩ := h.form
  have H : Hid (St w B S (.slice a0 S.nc c0) (.slice a1 S.nl c1) (.slice a2 S.nw c2)) := h
  have Z := storeF_zero hz
  have HZ : Hid ((S.nc ≤ 200 ∧ S.nl ≤ 200 ∧ S.nw ≤ 200) ∧ scan (cellF S.c) S.nc = 0) := ⟨Z.1, Z.2.1⟩
  have HP : Hid (PtE w (.slice a0 S.nc c0) (.slice a1 S.nl c1) (.slice a2 S.nw c2) (.int .i64 fr) (.int .i64 tto) (.int .i64 ep) ((w.alloc (.cells #[.slice a0 S.nc c0, .slice a1 S.nl c1, .slice a2 S.nw c2] 149)).alloc (.cells #[.int .i64 fr, .int .i64 tto, .int .i64 ep] 152)) ∧ Below w.heap.size w ((w.alloc (.cells #[.slice a0 S.nc c0, .slice a1 S.nl c1, .slice a2 S.nw c2] 149)).alloc (.cells #[.int .i64 fr, .int .i64 tto, .int .i64 ep] 152))) := by
    refine ⟨⟨(Blk3.new w _ _ _ _).alloc _, ?_⟩, (below_alloc _ _).alloc (by simp) _⟩
    have := Blk3.new (w.alloc (.cells #[.slice a0 S.nc c0, .slice a1 S.nl c1, .slice a2 S.nw c2] 149)) (.int .i64 fr) (.int .i64 tto) (.int .i64 ep) 152
    rwa [World.size_alloc] at this
  clear h hz Z
  go_enter Tryz.func92, Tryz.ntmps92
  go_wp2_with fail
  generalize (w.alloc (.cells #[.slice a0 S.nc c0, .slice a1 S.nl c1, .slice a2 S.nw c2] 149)).alloc (.cells #[.int .i64 fr, .int .i64 tto, .int .i64 ep] 152) = w1 at HP ⊢
  refine wp_region_held_drew (S := PtE w (.slice a0 S.nc c0) (.slice a1 S.nl c1) (.slice a2 S.nw c2) (.int .i64 fr) (.int .i64 tto) (.int .i64 ep)) (by kernel_rfl) ⟨HP.out.1.1.kept rfl, HP.out.1.2.kept rfl⟩ (fun hS => ?_)
  refine tkH 0 ?_ hS (fun wx hx => ?_) ?_; rotate_left
  · obtain ⟨⟨⟨hx0, hx1, hx2⟩, _⟩, ⟨hx3, hx4, hx5⟩, _⟩ := hx; go_simp; try with_reducible rfl
  refine tkH 1 ?_ hS (fun wx hx => ?_) ?_; rotate_left
  · obtain ⟨⟨⟨hx0, hx1, hx2⟩, _⟩, ⟨hx3, hx4, hx5⟩, _⟩ := hx; go_simp; try with_reducible rfl
  refine rdH 2 (fun K hK => ?_)
  go_simp
  go_wp2_with fail
  refine (columnsOf_apart S B _ _ _ _ ((H.out.later HP.out.2).later (below_dr (Below.refl _ _) 1)) HZ.out.1.1 HZ.out.1.2.1 HZ.out.1.2.2 HZ.out.2).mono ?_
  rintro e w2 ⟨b, g, u1, u2, rfl, hC, hap, q2⟩
  have q2' : Below w1.heap.size w1 w2 := ⟨q2.os, q2.tape, q2.output, q2.size, q2.block⟩
  obtain ⟨b1, d1, rfl⟩ := hC.2.2.2.2.1.form
  obtain ⟨b2, d2, rfl⟩ := hC.2.2.2.2.2.form
  have HC : Hid (Cols w2 w1.heap.size b S.nc (cellM S S.nc) S.nl S.l S.nw S.k g (.slice b1 S.nl d1) (.slice b2 S.nw d2) ∧ ApartC b g (.slice b1 S.nl d1) (.slice b2 S.nw d2)) := ⟨hC, hap⟩
  have HB2 : Hid (Below w.heap.size w w2 ∧ w.heap.size ≤ w1.heap.size) := ⟨HP.out.2.trans (q2'.mono HP.out.2.size), HP.out.2.size⟩
  have hS' : PtE w (.slice a0 S.nc c0) (.slice a1 S.nl c1) (.slice a2 S.nw c2) (.int .i64 fr) (.int .i64 tto) (.int .i64 ep) w2 := ⟨hS.1.later q2, hS.2.later q2⟩
  obtain ⟨⟨t0, t1, t2⟩, _⟩ := hC.2.2.1
  clear hC hap q2 q2'
  go_wp2_with fail
  refine hK.out _ _ hS' (fun hS => ?_)
  clear hK K hS'
  refine tkH 3 ?_ hS (fun wx hx => ?_) ?_; rotate_left
  · obtain ⟨⟨⟨hx0, hx1, hx2⟩, _⟩, ⟨hx3, hx4, hx5⟩, _⟩ := hx; go_simp; try with_reducible rfl
  refine rdH 4 (fun K hK => ?_)
  go_simp
  refine hK.out _ _ hS (fun hS => ?_)
  clear hK K
  refine tkH 5 ?_ hS (fun wx hx => ?_) ?_; rotate_left
  · obtain ⟨⟨⟨hx0, hx1, hx2⟩, _⟩, ⟨hx3, hx4, hx5⟩, _⟩ := hx; go_simp; try with_reducible rfl
  refine rdH 6 (fun K hK => ?_)
  go_simp
  refine hK.out _ _ (show PtE w _ _ _ _ _ _ _ from ⟨hS.1.alloc _, hS.2.alloc _⟩) (fun hS => ?_)
  clear hK K
  refine tkH 7 ?_ hS (fun wx hx => ?_) ?_; rotate_left
  · obtain ⟨⟨⟨hx0, hx1, hx2⟩, _⟩, ⟨hx3, hx4, hx5⟩, _⟩ := hx; go_simp; try with_reducible rfl
  refine wpAnyH_done (by kernel_rfl) ?_ _
  clear hS t0 t1 t2
  go_simp
  go_wp2
  go_ret
  have hlt := HC.out.1.2.2.1.lt
  have hgl := HC.out.1.2.2.2.1.lt
  have cl : ∀ (j : Nat) (u : Value), (#[.int .i64 fr, .int .i64 tto, .int .i64 ep, .map (some g), .slice b1 S.nl d1, .slice b2 S.nw d2] : Array Value)[j]? = some u → (w2.alloc (.cells #[.int .i64 fr, .int .i64 tto, .int .i64 ep, .map (some g), .slice b1 S.nl d1, .slice b2 S.nw d2] 173)).cell? ⟨w2.heap.size, j, none⟩ = some u := fun j u hu => (World.cell?_alloc_mark w2 _ _ _ j).trans hu
  have cf : ∀ (j : Nat), (w2.alloc (.cells #[.int .i64 fr, .int .i64 tto, .int .i64 ep, .map (some g), .slice b1 S.nl d1, .slice b2 S.nw d2] 173)).frozen? ⟨w2.heap.size, j, none⟩ = false := fun j => by simp
  refine ⟨w2.heap.size, g, _, _, rfl, ⟨⟨cl 0 _ rfl, cl 1 _ rfl, cl 2 _ rfl⟩, ⟨HB2.out.1.size, Nat.le_trans HB2.out.2 HC.out.1.2.1, ⟨⟨cl 3 _ rfl, cl 4 _ rfl, cl 5 _ rfl⟩, cf 3, cf 4, cf 5⟩, HC.out.1.2.2.2.1.later (below_alloc _ _), (HC.out.1.2.2.2.2.1.later (below_alloc _ _)).mono HB2.out.2, (HC.out.1.2.2.2.2.2.later (below_alloc _ _)).mono HB2.out.2⟩, ⟨by omega, fun q e => ⟨by have := (own_in HC.out.1.2.2.2.2.1 q e).2; omega, (HC.out.2.2.1 q e).2⟩, fun q e => ⟨by have := (own_in HC.out.1.2.2.2.2.2 q e).2; omega, (HC.out.2.2.2.1 q e).2⟩, HC.out.2.2.2.2⟩⟩, HB2.out.1.trans ((below_alloc _ _).mono HB2.out.1.size)⟩
theorem mapSelf {S : Sto} (hz : scan (cellF S.c) S.nc = 0) : MapRow (cellM S S.nc) S.nc S.c :=
  ⟨cells_rise hz, fun i hi => by
    have hc := cellF_zero (scan_zero hz i hi)
    have hk := faultOf_zero hc.1
    exact ⟨wf_small hk.1 (by omega), wf_small (by omega) hc.2.2.1⟩, fun i hi => cellM_at hz hi ⟨rfl, rfl⟩, fun _ _ _ _ _ h => cellM_some h⟩
end

section
open Go.RowKit
section
/-- The lists of the first k stores, one behind the other. -/
def listU (U : Nat → Nat → Value) : Nat → List Value
  | 0 => []
  | k + 1 => listU U k ++ [U k 0, U k 1, U k 2]
theorem listU_len (U : Nat → Nat → Value) : ∀ k, (listU U k).length = k * 3
  | 0 => rfl
  | k + 1 => by
    show (listU U k ++ [U k 0, U k 1, U k 2]).length = (k + 1) * 3
    rw [List.length_append, listU_len U k]
    simp only [List.length_cons, List.length_nil]
    omega
theorem listU_at (U : Nat → Nat → Value) : ∀ k i, i < k → (listU U k)[i * 3]? = some (U i 0) ∧ (listU U k)[i * 3 + 1]? = some (U i 1) ∧ (listU U k)[i * 3 + 2]? = some (U i 2)
  | 0, i, hi => absurd hi (Nat.not_lt_zero i)
  | k + 1, i, hi => by
    have hl := listU_len U k
    show (listU U k ++ [U k 0, U k 1, U k 2])[i * 3]? = _ ∧ (listU U k ++ [U k 0, U k 1, U k 2])[i * 3 + 1]? = _ ∧ (listU U k ++ [U k 0, U k 1, U k 2])[i * 3 + 2]? = _
    by_cases q : i = k
    · subst q
      rw [List.getElem?_append_right (by omega), List.getElem?_append_right (by omega), List.getElem?_append_right (by omega), hl, Nat.sub_self, show i * 3 + 1 - i * 3 = 1 by omega, show i * 3 + 2 - i * 3 = 2 by omega]
      exact ⟨rfl, rfl, rfl⟩
    · obtain ⟨h0, h1, h2⟩ := listU_at U k i (by omega)
      rw [List.getElem?_append_left (by omega), List.getElem?_append_left (by omega), List.getElem?_append_left (by omega)]
      exact ⟨h0, h1, h2⟩
theorem listU_put (U : Nat → Nat → Value) (u0 u1 u2 : Value) : ∀ k j, j ≤ k → listU (putU U k u0 u1 u2) j = listU U j
  | _, 0, _ => rfl
  | k, j + 1, hj => by
    show listU (putU U k u0 u1 u2) j ++ [putU U k u0 u1 u2 j 0, putU U k u0 u1 u2 j 1, putU U k u0 u1 u2 j 2] = listU U j ++ [U j 0, U j 1, U j 2]
    rw [listU_put U u0 u1 u2 k j (by omega)]
    unfold putU
    rw [if_neg (by omega), if_neg (by omega), if_neg (by omega)]
theorem listU_new (U : Nat → Nat → Value) (u0 u1 u2 : Value) (k : Nat) : listU (putU U k u0 u1 u2) (k + 1) = listU U k ++ [u0, u1, u2] := by
  show listU (putU U k u0 u1 u2) k ++ [putU U k u0 u1 u2 k 0, putU U k u0 u1 u2 k 1, putU U k u0 u1 u2 k 2] = _
  rw [listU_put U u0 u1 u2 k k (Nat.le_refl _)]
  simp [putU]
/-- A row of stores that a call owns. -/
def OwnV (x : World) (B : Nat) (v : Value) (k : Nat) (U : Nat → Nat → Value) : Prop := x.ownsRow B 149 3 v k (listU U k)
theorem OwnV.block {x : World} {B : Nat} {v : Value} {k : Nat} {U : Nat → Nat → Value} (h : OwnV x B v k U) : ∀ q, v.ownBlock = some q → B ≤ q ∧ q < x.heap.size := World.ownsRow.lt h
theorem OwnV.keptB {x x' : World} {B : Nat} {v : Value} {k : Nat} {U : Nat → Nat → Value} (h : OwnV x B v k U) (hb : ∀ q, v.ownBlock = some q → x'.heap[q]? = x.heap[q]?) : OwnV x' B v k U := by
  obtain ⟨h1, h2⟩ := h
  refine ⟨h1, ?_⟩
  rcases h2 with q | ⟨g, cap, cur, rfl, q1, q2, q3⟩
  · exact Or.inl q
  · exact Or.inr ⟨g, cap, cur, rfl, q1, (hb g rfl).trans q2, q3⟩
theorem OwnV.later {x x' : World} {B : Nat} {v : Value} {k : Nat} {U : Nat → Nat → Value} (h : OwnV x B v k U) (hb : Below x.heap.size x x') : OwnV x' B v k U := h.keptB (fun q hq => hb.block q (h.block q hq).2)
theorem OwnV.far {x : World} {B : Nat} {v : Value} {k : Nat} {U : Nat → Nat → Value} (h : OwnV x B v k U) {a : Addr} (ha : a.block < B) (u : Value) : OwnV (x.setCell a u) B v k U := h.keptB (fun q hq => Below.heap_setCell x a u q (by have := (h.block q hq).1; omega))
theorem OwnV.fill {x : World} {B g cp : Nat} {k : Nat} {U : Nat → Nat → Value} (h : OwnV x B (.slice (some ⟨g, 0, none⟩) k cp) k U) : FillS x g k k U := by
  have hc : ∀ p, p < k * 3 → x.cell? ⟨g, p, none⟩ = (listU U k)[p]? := fun p hp => World.ownsRow.cellAt h p hp
  refine ⟨(h.block g rfl).2, fun p hp => ⟨⟨(listU U k)[p]'(by rw [listU_len]; exact hp), ?_⟩, World.ownsRow.frozenAt h p⟩, fun i hi => ?_⟩
  · rw [hc p hp, List.getElem?_eq_getElem]
  · obtain ⟨h0, h1, h2⟩ := listU_at U k i hi
    exact ⟨(hc _ (by omega)).trans h0, (hc _ (by omega)).trans h1, (hc _ (by omega)).trans h2⟩
/-- Groups under way: kr ranges and k stores are laid. -/
structure GT (w x : World) (kr k : Nat) (F : Nat → Int) (S : Nat → Sto) (U : Nat → Nat → Value) (z : Nat → Nat) (vr vs : Value) : Prop where
  below : Below w.heap.size w x
  res : Blk3 x w.heap.size (.int .i64 0) (.slice none 0 0) (.slice none 0 0)
  blk : Blk2 x (w.heap.size + 1) vr vs
  lo : w.heap.size + 2 ≤ x.heap.size
  rr : OwnM x (w.heap.size + 2) 152 3 vr kr (nums F (kr * 3))
  rs : OwnV x (w.heap.size + 2) vs k U
  fine : Fine x z k S U
  zl : ∀ i, i ≤ k → w.heap.size + 2 ≤ z i
  zh : z k ≤ x.heap.size
  sr : ∀ q, vr.ownBlock = some q → Spare k S U q
  ss : ∀ q, vs.ownBlock = some q → Spare k S U q
  ap : ApaO vr vs
theorem GT.later {w x x' : World} {kr k : Nat} {F : Nat → Int} {S : Nat → Sto} {U : Nat → Nat → Value} {z : Nat → Nat} {vr vs : Value} (h : GT w x kr k F S U z vr vs) (hb : Below x.heap.size x x') : GT w x' kr k F S U z vr vs :=
  ⟨h.below.trans (hb.mono h.below.size), h.res.later hb, h.blk.later hb, Nat.le_trans h.lo hb.size, h.rr.later hb, h.rs.later hb, h.fine.later hb, h.zl, Nat.le_trans h.zh hb.size, h.sr, h.ss, h.ap⟩
/-- What is turned is a list of its own: the stores' lists stand. -/
theorem Fine.past {x x' : World} {z : Nat → Nat} {k : Nat} {S : Nat → Sto} {U : Nat → Nat → Value} {v : Value} (h : Fine x z k S U) (hg : x.grownBy x' v.ownBlock) (hs : ∀ q, v.ownBlock = some q → Spare k S U q) : Fine x' z k S U := fun i hi => by
  obtain ⟨⟨⟨s0, s1, s2⟩, ⟨f0, f1, f2⟩, h3⟩, h4⟩ := h i hi
  have x0 : 0 < (S i).nc → ∀ k, (U i 0).ownBlock = some k → some k ≠ v.ownBlock := fun hp k hk e => (hs k e.symm i hi).1 hp k hk rfl
  have x1 : 0 < (S i).nl → ∀ k, (U i 1).ownBlock = some k → some k ≠ v.ownBlock := fun hp k hk e => (hs k e.symm i hi).2.1 hp k hk rfl
  have x2 : 0 < (S i).nw → ∀ k, (U i 2).ownBlock = some k → some k ≠ v.ownBlock := fun hp k hk e => (hs k e.symm i hi).2.2 hp k hk rfl
  exact ⟨⟨⟨s0.turned hg x0, s1.turned hg x1, s2.turned hg x2⟩, ⟨f0.turned s0 hg x0, f1.turned s1 hg x1, f2.turned s2 hg x2⟩, h3⟩, h4⟩
/-- A block behind all of them holds none of their lists. -/
theorem Fine.spare {x : World} {z : Nat → Nat} {k : Nat} {S : Nat → Sto} {U : Nat → Nat → Value} (h : Fine x z k S U) {q : Nat} (hq : z k ≤ q) : Spare k S U q := fun i hi => by
  obtain ⟨_, h4, _⟩ := h i hi
  have := h.up k (Nat.le_refl _) (i + 1) (by omega)
  exact h4.mono (fun p hp => by omega)
theorem blk2_past {x x' : World} {b : Nat} {row : Option Nat} {a0 a1 : Value} (h : Blk2 x b a0 a1) (hg : x.grownBy x' row) (hb : row ≠ some b) : Blk2 x' b a0 a1 := h.kept (hg.block b h.lt (fun q => hb q.symm))
theorem blk3_past {x x' : World} {b : Nat} {row : Option Nat} {a0 a1 a2 : Value} (h : Blk3 x b a0 a1 a2) (hg : x.grownBy x' row) (hb : row ≠ some b) : Blk3 x' b a0 a1 a2 := h.kept (hg.block b h.lt (fun q => hb q.symm))
theorem GT.putR {w x y : World} {kr k : Nat} {F : Nat → Int} {S : Nat → Sto} {U : Nat → Nat → Value} {z : Nat → Nat} {vr vs u : Value} (h : GT w x kr k F S U z vr vs) (ho : OwnM y (w.heap.size + 2) 152 3 u (kr + 1) (nums F ((kr + 1) * 3))) (hg : x.grownBy y vr.ownBlock) (hat : u.ownBlock = vr.ownBlock ∨ u.ownBlock = some x.heap.size) :
    GT w (y.setCell ⟨w.heap.size + 1, 0, none⟩ u) (kr + 1) k F S U z u vs := by
  have nb : ∀ b, b < w.heap.size + 2 → vr.ownBlock ≠ some b := fun b hb e => by have := (h.rr.block b e).1; omega
  have hlt : (⟨w.heap.size + 1, 0, none⟩ : Addr).block < w.heap.size + 2 := Nat.lt_succ_self _
  refine ⟨(below_past h.below h.rr (by omega) hg).setCell (Nat.le_succ _) _, (blk3_past h.res hg (nb _ (by omega))).setFar (by simp) _, (blk2_past h.blk hg (nb _ (by omega))).set0 _, by have := h.lo; have := hg.size; simp [World.setCell]; omega, ho.far hlt _, (h.rs.keptB (fun q hq => hg.block q (h.rs.block q hq).2 (fun e => h.ap q e.symm hq))).far hlt _, (h.fine.past hg h.sr).far (fun i hi => by have := h.zl i (by omega); show w.heap.size + 1 < z i; omega) _, h.zl, by have := h.zh; have := hg.size; simp [World.setCell]; omega, fun q hq => ?_, h.ss, fun q hq e => ?_⟩
  · rcases hat with e | e
    · exact h.sr q (e ▸ hq)
    · rw [e] at hq
      simp at hq
      exact h.fine.spare (by have := h.zh; omega)
  · rcases hat with e' | e'
    · exact h.ap q (e' ▸ hq) e
    · rw [e'] at hq
      simp at hq
      have := (h.rs.block q e).2
      omega
theorem GT.putS {w x y : World} {kr k : Nat} {F : Nat → Int} {S : Nat → Sto} {U : Nat → Nat → Value} {z : Nat → Nat} {vr vs u u0 u1 u2 : Value} {zz zt : Nat} (h : GT w x kr k F S U z vr vs) (hk : St x zz (S k) u0 u1 u2 ∧ FreeS x (S k) u0 u1 u2 ∧ ApartD (S k) u0 u1 u2) (hok : OwnIn (S k) u0 u1 u2 (fun q => zz ≤ q ∧ q < zt)) (hz : z k ≤ zz ∧ zz ≤ zt ∧ zt ≤ x.heap.size) (hr0 : ∀ q, vr.ownBlock = some q → q < zz) (hs0 : ∀ q, vs.ownBlock = some q → q < zz)
    (ho : OwnV y (w.heap.size + 2) u (k + 1) (putU U k u0 u1 u2)) (hg : x.grownBy y vs.ownBlock) (hat : u.ownBlock = vs.ownBlock ∨ u.ownBlock = some x.heap.size) :
    GT w (y.setCell ⟨w.heap.size + 1, 1, none⟩ u) kr (k + 1) F S (putU U k u0 u1 u2) (fun i => if i = k + 1 then zt else z i) vr u := by
  have nb : ∀ b, b < w.heap.size + 2 → vs.ownBlock ≠ some b := fun b hb e => by have := (h.rs.block b e).1; omega
  have hlt : (⟨w.heap.size + 1, 1, none⟩ : Addr).block < w.heap.size + 2 := Nat.lt_succ_self _
  have f1 : Fine x (fun i => if i = k + 1 then zt else z i) (k + 1) S (putU U k u0 u1 u2) := h.fine.put rfl ⟨hk.1.mono hz.1, hk.2⟩ (hok.mono (fun q hq => ⟨Nat.le_trans hz.1 hq.1, hq.2⟩)) (by omega)
  have spOld : ∀ q, q < zz → Spare k S U q → Spare (k + 1) S (putU U k u0 u1 u2) q := fun q hq hs i hi => by
    by_cases e : i = k
    · subst e
      simp only [putU, if_true]
      exact hok.mono (fun p hp => by omega)
    · have := hs i (by omega)
      simp only [putU, if_neg e]
      exact this
  have zl' : ∀ i, i ≤ k + 1 → w.heap.size + 2 ≤ (if i = k + 1 then zt else z i) := fun i hi => by
    by_cases e : i = k + 1
    · rw [if_pos e]; have := h.zl k (Nat.le_refl _); omega
    · rw [if_neg e]; exact h.zl i (by omega)
  have bel : Below w.heap.size w y := ⟨hg.os.trans h.below.os, hg.tape.trans h.below.tape, hg.output.trans h.below.output, Nat.le_trans h.below.size hg.size, fun i hi => (hg.block i (Nat.lt_of_lt_of_le hi h.below.size) (fun e => nb i (by omega) e.symm)).trans (h.below.block i hi)⟩
  refine ⟨bel.setCell (Nat.le_succ _) _, (blk3_past h.res hg (nb _ (by omega))).setFar (by simp) _, (blk2_past h.blk hg (nb _ (by omega))).set1 _, by have := h.lo; have := hg.size; simp [World.setCell]; omega, (h.rr.keptB (fun q hq => hg.block q (h.rr.block q hq).2 (fun e => h.ap q hq e.symm))).far hlt _, ho.far hlt _, (f1.past hg (fun q hq => spOld q (hs0 q hq) (h.ss q hq))).far (fun i hi => by have := zl' i (by omega); show w.heap.size + 1 < _; omega) _, zl', ?_, fun q hq => spOld q (hr0 q hq) (h.sr q hq), fun q hq => ?_, fun q hq e => ?_⟩
  · show (if k + 1 = k + 1 then zt else z (k + 1)) ≤ _
    rw [if_pos rfl]
    have := hg.size
    simp [World.setCell]
    omega
  · rcases hat with e | e
    · exact spOld q (hs0 q (e ▸ hq)) (h.ss q (e ▸ hq))
    · rw [e] at hq
      simp at hq
      refine f1.spare ?_
      show (if k + 1 = k + 1 then zt else z (k + 1)) ≤ q
      rw [if_pos rfl]
      omega
  · rcases hat with e' | e'
    · exact h.ap q hq (e' ▸ e)
    · rw [e'] at e
      simp at e
      have := hr0 q hq
      omega
theorem GT.fineR {w x : World} {k : Nat} {F : Nat → Int} {S : Nat → Sto} {U : Nat → Nat → Value} {z : Nat → Nat} {ra : Option Addr} {rc : Nat} {sa : Option Addr} {sc : Nat} (h : GT w x k k F S U z (.slice ra k rc) (.slice sa k sc)) : FineR x (w.heap.size + 2) x.heap.size k F k S ra rc sa U z := by
  have hl : (nums F (k * 3)).length = k * 3 := nums_length _ _
  have o := (h.rr.own hl).row
  refine ⟨⟨o.1.congr (fun p hp => ?_), o.2⟩, ⟨fun hk => ?_, h.fine⟩, ⟨fun i hi => h.zl i (by omega), fun i hi => Nat.le_trans (h.fine.up k (Nat.le_refl _) (i + 1) (by omega)) h.zh, Nat.le_refl _⟩, fun hk q hq => ⟨h.sr q hq, fun _ e => ?_, (h.rr.block q hq).2⟩⟩
  · simp [nums, hp]
  · rcases h.rs.2 with ⟨q, e⟩ | ⟨g, cap, cur, q, hb, hc, _⟩
    · omega
    · simp only [Value.slice.injEq] at q
      obtain ⟨rfl, _, rfl⟩ := q
      exact ⟨g, rfl, hb, OwnV.fill h.rs, h.ss g rfl⟩
  · subst e
    exact h.ap q hq rfl
end

section
open Go.RowKit Go.Maps
theorem RSt.later {x x' : World} {B b : Nat} {fr tto ep : Int} {N : Nat} {m : Int → Int → Option Int} {nl : Nat} {l : Nat → Int} {nw : Nat} {k : Nat → Int} {g : Nat} {u1 u2 : Value} (h : RSt x B b fr tto ep N m nl l nw k g u1 u2) (hb : Below x.heap.size x x') : RSt x' B b fr tto ep N m nl l nw k g u1 u2 := by
  have hl := h.2.1.2.2.1.lt
  exact ⟨⟨(hb.cell (p := ⟨b, 0, none⟩) hl).trans h.1.1, (hb.cell (p := ⟨b, 1, none⟩) hl).trans h.1.2.1, (hb.cell (p := ⟨b, 2, none⟩) hl).trans h.1.2.2⟩, h.2.1.later hb, h.2.2⟩
/-- The stores that are worked on: number i lies in block P i. -/
def ToldG (w : World) (B n : Nat) (F : Nat → Int) (S : Nat → Sto) (P : Nat → Nat) : Prop := ∀ i, i < n → ∃ N m g u1 u2, (N ≤ 400 ∧ (S i).nl ≤ 200 ∧ (S i).nw ≤ 200) ∧ MapRow m (S i).nc (S i).c ∧ RSt w B (P i) (F (i * 3)) (F (i * 3 + 1)) (F (i * 3 + 2)) N m (S i).nl (S i).l (S i).nw (S i).k g u1 u2
def PtrRow (w : World) (n : Nat) (pa : Option Addr) (P : Nat → Nat) : Prop := 0 < n → ∃ gp op, pa = some ⟨gp, op, none⟩ ∧ gp < w.heap.size ∧ ∀ i, i < n → w.cell? ⟨gp, op + i, none⟩ = some (.pointer (some ⟨P i, 0, none⟩))
theorem nums_three (F : Nat → Int) (k : Nat) : nums F ((k + 1) * 3) = nums F (k * 3) ++ [F (k * 3), F (k * 3 + 1), F (k * 3 + 2)] := by
  unfold nums
  rw [show (k + 1) * 3 = k * 3 + 1 + 1 + 1 by omega, List.range_succ, List.range_succ, List.range_succ]
  simp
theorem within_set (x : World) (b j : Nat) (u : Value) : Within b (b + 1) x (x.setCell ⟨b, j, none⟩ u) := ⟨rfl, rfl, rfl, by simp [World.setCell], fun q _ ho => Below.heap_setCell x ⟨b, j, none⟩ u q (by show q ≠ b; omega)⟩
theorem FineR.mono {w : World} {lo lo' tp nr : Nat} {F : Nat → Int} {n : Nat} {S : Nat → Sto} {ra : Option Addr} {rc : Nat} {sa : Option Addr} {U : Nat → Nat → Value} {z : Nat → Nat} (h : FineR w lo tp nr F n S ra rc sa U z) (hl : lo' ≤ lo) : FineR w lo' tp nr F n S ra rc sa U z :=
  ⟨⟨h.1.1.mono hl, h.1.2⟩, ⟨fun hn => by obtain ⟨g, x1, x2, x3⟩ := h.2.1.1 hn; exact ⟨g, x1, by omega, x3⟩, h.2.1.2⟩, ⟨fun i hi => Nat.le_trans hl (h.2.2.1.1 i hi), h.2.2.1.2⟩, h.2.2.2⟩
theorem FineR.up {w : World} {lo lo' tp nr : Nat} {F : Nat → Int} {n : Nat} {S : Nat → Sto} {ra : Option Addr} {rc : Nat} {sa : Option Addr} {U : Nat → Nat → Value} {z : Nat → Nat} (h : FineR w lo tp nr F n S ra rc sa U z) (hl : lo' ≤ lo) : FineR w lo' w.heap.size nr F n S ra rc sa U z := by
  have h' := h.mono hl
  refine ⟨h'.1, h'.2.1, ⟨h'.2.2.1.1, fun i hi => Nat.le_trans (h'.2.2.1.2.1 i hi) h'.2.2.1.2.2, Nat.le_refl _⟩, fun hn q e => ?_⟩
  obtain ⟨x1, x2, x3⟩ := h'.2.2.2 hn q e
  exact ⟨x1, x2, Nat.lt_of_lt_of_le x3 h'.2.2.1.2.2⟩
def RgS (pk : Nat) (fr tto ep : Int) (x : World) : Prop := x.cell? ⟨pk, 0, none⟩ = some (.int .i64 fr) ∧ x.cell? ⟨pk, 1, none⟩ = some (.int .i64 tto) ∧ x.cell? ⟨pk, 2, none⟩ = some (.int .i64 ep)
theorem RgS.below {w x : World} {pk : Nat} {fr tto ep : Int} (h : RgS pk fr tto ep w) (hb : Below w.heap.size w x) : RgS pk fr tto ep x :=
  ⟨(hb.cell (p := ⟨pk, 0, none⟩) (World.block_lt_of_cell? w _ h.1)).trans h.1, (hb.cell (p := ⟨pk, 1, none⟩) (World.block_lt_of_cell? w _ h.2.1)).trans h.2.1, (hb.cell (p := ⟨pk, 2, none⟩) (World.block_lt_of_cell? w _ h.2.2)).trans h.2.2⟩
set_option maxRecDepth 100000 in
set_option maxHeartbeats 16000000 in
theorem groupsTold_is (n : Nat) (pa : Option Addr) (pc : Nat) (F : Nat → Int) (S : Nat → Sto) (P : Nat → Nat) (B : Nat) (w : World) (hp : PtrRow w n pa P) (ht : ToldG w B n F S P) (hn : n ≤ 12) :
    Calls Tryz.prog 63 #[.slice pa n pc] w (ResGr w 0 n F n S) := by
  have HP : Hid (PtrRow w n pa P) := hp
  have HT : Hid (ToldG w B n F S P) := ht
  clear hp ht
  go_enter Tryz.func63, Tryz.ntmps63
  go_wp2
  go_loopw [8] (fun i wr => ∃ (k : Nat) (U : Nat → Nat → Value) (z : Nat → Nat) (ra : Option Addr) (rc : Nat) (sa : Option Addr) (sc : Nat), k ≤ n ∧ i = .int .i64 k ∧ Hid (GT w wr k k F S U z (.slice ra k rc) (.slice sa k sc))) (fun i _ => n - (intOf i).toNat)
  case atStart =>
    refine ⟨0, fun _ _ => .bool true, fun _ => w.heap.size + 2, none, 0, none, 0, Nat.zero_le _, rfl, ⟨(below_alloc _ _).alloc (by simp) _, (Blk3.new w _ _ _ _).alloc _, ?_, by simp, OwnM.nil _ _ _ _, ⟨rfl, Or.inl ⟨rfl, rfl⟩⟩, fun i hi => absurd hi (Nat.not_lt_zero i), fun _ _ => Nat.le_refl _, by simp, (fun q e => by cases e), (fun q e => by cases e), (fun q e => by cases e)⟩⟩
    have := Blk2.new (w.alloc (.cells #[.int .i64 0, .slice none 0 0, .slice none 0 0] 120)) (.slice none 0 0) (.slice none 0 0) 36
    rwa [World.size_alloc] at this
  case round =>
    obtain ⟨k, U, z, ra, rc, sa, sc, hk, rfl, TT⟩ := hrel
    by_cases hlt : k < n
    · obtain ⟨gp, op, rfl, hgp, hpc⟩ := HP.out (by omega)
      have pk := (TT.out.below.cell (p := ⟨gp, op + k, none⟩) hgp).trans (hpc k hlt)
      obtain ⟨N, m, gm, u1, u2, hN, hM, hR⟩ := HT.out k hlt
      obtain ⟨fr, hfr⟩ : ∃ x, F (k * 3) = x := ⟨_, rfl⟩
      obtain ⟨tto, hto⟩ : ∃ x, F (k * 3 + 1) = x := ⟨_, rfl⟩
      obtain ⟨ep, hep⟩ : ∃ x, F (k * 3 + 2) = x := ⟨_, rfl⟩
      rw [hfr, hto, hep] at hR
      have HF : Hid (F (k * 3) = fr ∧ F (k * 3 + 1) = tto ∧ F (k * 3 + 2) = ep) := ⟨hfr, hto, hep⟩
      have RG : Hid (RgS (P k) fr tto ep w) := hR.1
      have RS : Hid ((N ≤ 400 ∧ (S k).nl ≤ 200 ∧ (S k).nw ≤ 200) ∧ MapRow m (S k).nc (S k).c ∧ RSt w B (P k) fr tto ep N m (S k).nl (S k).l (S k).nw (S k).k gm u1 u2) := ⟨hN, hM, hR⟩
      obtain ⟨i0, hi, hz0, hz1, hz2⟩ := info_parts info_Range
      obtain ⟨j0, gi, gz0, gz1, gz2⟩ := info_parts info_Store
      have F0 : wr.drew.cell? ⟨w.heap.size + 1, 0, none⟩ = some (.slice ra k rc) := TT.out.blk.1.1
      have F0d : wr.cell? ⟨w.heap.size + 1, 0, none⟩ = some (.slice ra k rc) := TT.out.blk.1.1
      have F1 : (wr.alloc (.cells #[.int .i64 fr, .int .i64 tto, .int .i64 ep] 152)).drew.cell? ⟨w.heap.size + 1, 0, none⟩ = some (.slice ra k rc) := (TT.out.later (below_alloc _ _)).blk.1.1
      have F1d : (wr.alloc (.cells #[.int .i64 fr, .int .i64 tto, .int .i64 ep] 152)).cell? ⟨w.heap.size + 1, 0, none⟩ = some (.slice ra k rc) := (TT.out.later (below_alloc _ _)).blk.1.1
      have TA : Hid (GT w (wr.alloc (.cells #[.int .i64 fr, .int .i64 tto, .int .i64 ep] 152)).drew k k F S U z (.slice ra k rc) (.slice sa k sc)) := TT.out.later (below_alloc _ _).drew
      clear hN hM hR hfr hto hep hpc
      go_upto_region 5 with fail
      clear pk
      refine wp_region_held_drew (S := RgS (P k) fr tto ep) (by kernel_rfl) (RG.out.below TT.out.below.drew) (fun hS => ?_)
      refine tkH 0 ?_ hS (fun wx hx => ?_) ?_; rotate_left
      · obtain ⟨hx0, hx1, hx2⟩ := hx; go_simp; try with_reducible rfl
      refine tkH 2 ?_ hS (fun wx hx => ?_) ?_; rotate_left
      · obtain ⟨hx0, hx1, hx2⟩ := hx; go_simp; try with_reducible rfl
      refine tkH 3 ?_ hS (fun wx hx => ?_) ?_; rotate_left
      · obtain ⟨hx0, hx1, hx2⟩ := hx; go_simp; try with_reducible rfl
      refine tkH 4 ?_ hS (fun wx hx => ?_) ?_; rotate_left
      · obtain ⟨hx0, hx1, hx2⟩ := hx; go_simp; try with_reducible rfl
      refine tkH 5 ?_ hS (fun wx hx => ?_) ?_; rotate_left
      · obtain ⟨hx0, hx1, hx2⟩ := hx; go_simp; try with_reducible rfl
      refine wpAnyH_ready (rs := [1, 6]) (by kernel_rfl) (by simp) ?_
      refine AllReadyH.cons rfl (fun K hK => ?_) (AllReadyH.cons rfl (fun K hK => ?_) AllReadyH.nil)
      focus
        go_simp
        refine hK.out _ _ hS (fun hS => ?_)
        clear hK K
        refine rdH 6 (fun K hK => ?_)
        go_simp
        refine hK.out _ _ (RG.out.below TA.out.below) (fun hS => ?_)
        clear hK K
        refine rdH 7 (fun K hK => ?_)
        refine step_append_lies _ (by rfl) _ _ 33 (by rfl) (w.heap.size + 2) 152 i0 (.agg #[.int .i64 0, .int .i64 0, .int .i64 0]) 3 24 Tryz.underlying33 hi hz0 hz1 hz2 rfl (by omega) (.slice ra k rc) k _ (by rfl) TA.out.rr ⟨wr.heap.size, 0, none⟩ 1 1 [.int .i64 fr, .int .i64 tto, .int .i64 ep] (by rfl) (by rfl) (World.news_of_block (cs := #[.int .i64 fr, .int .i64 tto, .int .i64 ep]) (t := 152) (fr := (0, 0)) (heap_alloc_new wr _)) (by simp [Value.oneCell']) (by omega) (by unfold maxLen; omega) (by omega) TA.out.lo (wr.heap.size + 1) (by simp) ?_
        intro gg cap y OY GY AY LY
        have OR : OwnM y (w.heap.size + 2) 152 3 (.slice (some ⟨gg, 0, none⟩) (k + 1) cap) (k + 1) (nums F ((k + 1) * 3)) := by
          unfold OwnM
          rw [nums_three, HF.out.1, HF.out.2.1, HF.out.2.2, List.map_append]
          exact OY
        have T1 := TA.out.putR OR GY (by rcases AY with e | e; exact Or.inl e.symm; exact Or.inr (by rw [e]; simp [Value.ownBlock]))
        have hS' := RG.out.below (below_past TA.out.below TA.out.rr (by omega) GY)
        refine hK.out _ _ hS' (fun hS => ?_)
        clear hK K hS'
        refine tkH 8 ?_ hS (fun wx hx => ?_) ?_; rotate_left
        · obtain ⟨hx0, hx1, hx2⟩ := hx; go_simp; try with_reducible rfl
        obtain ⟨⟨t0, t1⟩, ft0, ft1⟩ := blk2_past TA.out.blk GY (fun e => by have := (TA.out.rr.block _ e).1; omega)
        have T1' : Hid (GT w (y.setCell ⟨w.heap.size + 1, 0, none⟩ (.slice (some ⟨gg, 0, none⟩) (k + 1) cap)) (k + 1) k F S U z (.slice (some ⟨gg, 0, none⟩) (k + 1) cap) (.slice sa k sc)) := T1
        clear T1
        refine rdH 9 (fun K hK => ?_)
        go_simp
        refine hK.out _ _ (RG.out.below T1'.out.below) (fun hS => ?_)
        clear hK K
        refine wpAnyH_done (by kernel_rfl) ?_ _
        clear hS
        go_simp
        generalize y.setCell ⟨w.heap.size + 1, 0, none⟩ (.slice (some ⟨gg, 0, none⟩) (k + 1) cap) = x1 at T1' ⊢
        clear t0 t1 ft0 ft1 OY GY AY LY OR TA TT F0 F1 F1d F0d
        go_wp2_with fail
        have G0 : x1.drew.cell? ⟨w.heap.size + 1, 1, none⟩ = some (.slice sa k sc) := T1'.out.blk.1.2
        refine wp_region_held_drew (S := fun _ => True) (by kernel_rfl) trivial (fun hS => ?_)
        refine tkH 0 ?_ hS (fun wx hx => ?_) ?_; rotate_left
        · go_simp; try with_reducible rfl
        refine tkH 2 ?_ hS (fun wx hx => ?_) ?_; rotate_left
        · go_simp; try with_reducible rfl
        refine tkH 3 ?_ hS (fun wx hx => ?_) ?_; rotate_left
        · go_simp; try with_reducible rfl
        refine tkH 4 ?_ hS (fun wx hx => ?_) ?_; rotate_left
        · go_simp; try with_reducible rfl
        refine wpAnyH_ready (rs := [1, 5]) (by kernel_rfl) (by simp) ?_
        refine AllReadyH.cons rfl (fun K hK => ?_) (AllReadyH.cons rfl (fun K hK => ?_) AllReadyH.nil)
        focus
          go_simp
          refine hK.out _ _ trivial (fun hS => ?_)
          clear hK K
          refine rdH 5 (fun K hK => ?_)
          go_simp
          go_wp2_with fail
          refine (store_isO _ (P k) 3 _ _ _ _ _ _ gm u1 u2 _ (((RS.out.2.2.later T1'.out.below).2.1).later (below_dr (Below.refl _ _) 1)) RS.out.1.2.1 RS.out.1.2.2 RS.out.1.1 (S k).nc (S k).c RS.out.2.1).mono ?_
          rintro e x2 ⟨d0, e0, d1, e1, d2, e2, rfl, ⟨s3, f3, a3⟩, q2⟩
          have q2' : Below x1.heap.size x1 x2 := ⟨q2.os, q2.tape, q2.output, q2.size, q2.block⟩
          have ZX : Hid (x1.heap.size ≤ x2.heap.size) := q2'.size
          have TB : Hid (GT w x2 (k + 1) k F S U z (.slice (some ⟨gg, 0, none⟩) (k + 1) cap) (.slice sa k sc)) := T1'.out.later q2'
          have SC : Hid ((St (x2.alloc (.cells #[.slice d0 (S k).nc e0, .slice d1 (S k).nl e1, .slice d2 (S k).nw e2] 149)) x1.heap.size (S k) (.slice d0 (S k).nc e0) (.slice d1 (S k).nl e1) (.slice d2 (S k).nw e2) ∧ FreeS (x2.alloc (.cells #[.slice d0 (S k).nc e0, .slice d1 (S k).nl e1, .slice d2 (S k).nw e2] 149)) (S k) (.slice d0 (S k).nc e0) (.slice d1 (S k).nl e1) (.slice d2 (S k).nw e2) ∧ ApartD (S k) (.slice d0 (S k).nc e0) (.slice d1 (S k).nl e1) (.slice d2 (S k).nw e2)) ∧ OwnIn (S k) (.slice d0 (S k).nc e0) (.slice d1 (S k).nl e1) (.slice d2 (S k).nw e2) (fun q => x1.heap.size ≤ q ∧ q < x2.heap.size)) := ⟨⟨s3.alloc _, f3.later s3 (below_alloc _ _), a3⟩, s3.ownIn⟩
          have TC : Hid (GT w (x2.alloc (.cells #[.slice d0 (S k).nc e0, .slice d1 (S k).nl e1, .slice d2 (S k).nw e2] 149)) (k + 1) k F S U z (.slice (some ⟨gg, 0, none⟩) (k + 1) cap) (.slice sa k sc)) := TB.out.later (below_alloc _ _)
          have G2 : x2.cell? ⟨w.heap.size + 1, 1, none⟩ = some (.slice sa k sc) := TB.out.blk.1.2
          have G3 : (x2.alloc (.cells #[.slice d0 (S k).nc e0, .slice d1 (S k).nl e1, .slice d2 (S k).nw e2] 149)).cell? ⟨w.heap.size + 1, 1, none⟩ = some (.slice sa k sc) := TC.out.blk.1.2
          have G3d : True := trivial
          clear s3 f3 a3 q2 q2' TB
          go_wp2_with fail
          refine hK.out _ _ trivial (fun hS => ?_)
          clear hK K
          refine rdH 6 (fun K hK => ?_)
        rotate_left
        focus
          go_simp
          go_wp2_with fail
          refine (store_isO _ (P k) 3 _ _ _ _ _ _ gm u1 u2 _ (((RS.out.2.2.later T1'.out.below).2.1).later (below_dr (Below.refl _ _) 1)) RS.out.1.2.1 RS.out.1.2.2 RS.out.1.1 (S k).nc (S k).c RS.out.2.1).mono ?_
          rintro e x2 ⟨d0, e0, d1, e1, d2, e2, rfl, ⟨s3, f3, a3⟩, q2⟩
          have q2' : Below x1.heap.size x1 x2 := ⟨q2.os, q2.tape, q2.output, q2.size, q2.block⟩
          have ZX : Hid (x1.heap.size ≤ x2.heap.size) := q2'.size
          have TB : Hid (GT w x2 (k + 1) k F S U z (.slice (some ⟨gg, 0, none⟩) (k + 1) cap) (.slice sa k sc)) := T1'.out.later q2'
          have SC : Hid ((St (x2.alloc (.cells #[.slice d0 (S k).nc e0, .slice d1 (S k).nl e1, .slice d2 (S k).nw e2] 149)) x1.heap.size (S k) (.slice d0 (S k).nc e0) (.slice d1 (S k).nl e1) (.slice d2 (S k).nw e2) ∧ FreeS (x2.alloc (.cells #[.slice d0 (S k).nc e0, .slice d1 (S k).nl e1, .slice d2 (S k).nw e2] 149)) (S k) (.slice d0 (S k).nc e0) (.slice d1 (S k).nl e1) (.slice d2 (S k).nw e2) ∧ ApartD (S k) (.slice d0 (S k).nc e0) (.slice d1 (S k).nl e1) (.slice d2 (S k).nw e2)) ∧ OwnIn (S k) (.slice d0 (S k).nc e0) (.slice d1 (S k).nl e1) (.slice d2 (S k).nw e2) (fun q => x1.heap.size ≤ q ∧ q < x2.heap.size)) := ⟨⟨s3.alloc _, f3.later s3 (below_alloc _ _), a3⟩, s3.ownIn⟩
          have TC : Hid (GT w (x2.alloc (.cells #[.slice d0 (S k).nc e0, .slice d1 (S k).nl e1, .slice d2 (S k).nw e2] 149)) (k + 1) k F S U z (.slice (some ⟨gg, 0, none⟩) (k + 1) cap) (.slice sa k sc)) := TB.out.later (below_alloc _ _)
          have G2 : x2.cell? ⟨w.heap.size + 1, 1, none⟩ = some (.slice sa k sc) := TB.out.blk.1.2
          have G3 : (x2.alloc (.cells #[.slice d0 (S k).nc e0, .slice d1 (S k).nl e1, .slice d2 (S k).nw e2] 149)).cell? ⟨w.heap.size + 1, 1, none⟩ = some (.slice sa k sc) := TC.out.blk.1.2
          have G3d : True := trivial
          clear s3 f3 a3 q2 q2' TB
          go_wp2_with fail
          refine hK.out _ _ trivial (fun hS => ?_)
          clear hK K
          refine wpAnyH_ready (rs := [1, 6]) (by kernel_rfl) (by simp) ?_
          refine AllReadyH.cons rfl (fun K hK => ?_) (AllReadyH.cons rfl (fun K hK => ?_) AllReadyH.nil)
          focus
            go_simp
            refine hK.out _ _ trivial (fun hS => ?_)
            clear hK K
            refine rdH 6 (fun K hK => ?_)
          rotate_left
          focus
            go_simp
            refine hK.out _ _ trivial (fun hS => ?_)
            clear hK K
            refine rdH 1 (fun K hK => ?_)
          rotate_left
        rotate_left 2
      rotate_left 3
      focus
        go_simp
        refine hK.out _ _ (RG.out.below TA.out.below) (fun hS => ?_)
        clear hK K
        refine rdH 1 (fun K hK => ?_)
        go_simp
        refine hK.out _ _ hS (fun hS => ?_)
        clear hK K
        refine rdH 7 (fun K hK => ?_)
        refine step_append_lies _ (by rfl) _ _ 33 (by rfl) (w.heap.size + 2) 152 i0 (.agg #[.int .i64 0, .int .i64 0, .int .i64 0]) 3 24 Tryz.underlying33 hi hz0 hz1 hz2 rfl (by omega) (.slice ra k rc) k _ (by rfl) TA.out.rr ⟨wr.heap.size, 0, none⟩ 1 1 [.int .i64 fr, .int .i64 tto, .int .i64 ep] (by rfl) (by rfl) (World.news_of_block (cs := #[.int .i64 fr, .int .i64 tto, .int .i64 ep]) (t := 152) (fr := (0, 0)) (heap_alloc_new wr _)) (by simp [Value.oneCell']) (by omega) (by unfold maxLen; omega) (by omega) TA.out.lo (wr.heap.size + 1) (by simp) ?_
        intro gg cap y OY GY AY LY
        have OR : OwnM y (w.heap.size + 2) 152 3 (.slice (some ⟨gg, 0, none⟩) (k + 1) cap) (k + 1) (nums F ((k + 1) * 3)) := by
          unfold OwnM
          rw [nums_three, HF.out.1, HF.out.2.1, HF.out.2.2, List.map_append]
          exact OY
        have T1 := TA.out.putR OR GY (by rcases AY with e | e; exact Or.inl e.symm; exact Or.inr (by rw [e]; simp [Value.ownBlock]))
        have hS' := RG.out.below (below_past TA.out.below TA.out.rr (by omega) GY)
        refine hK.out _ _ hS' (fun hS => ?_)
        clear hK K hS'
        refine tkH 8 ?_ hS (fun wx hx => ?_) ?_; rotate_left
        · obtain ⟨hx0, hx1, hx2⟩ := hx; go_simp; try with_reducible rfl
        obtain ⟨⟨t0, t1⟩, ft0, ft1⟩ := blk2_past TA.out.blk GY (fun e => by have := (TA.out.rr.block _ e).1; omega)
        have T1' : Hid (GT w (y.setCell ⟨w.heap.size + 1, 0, none⟩ (.slice (some ⟨gg, 0, none⟩) (k + 1) cap)) (k + 1) k F S U z (.slice (some ⟨gg, 0, none⟩) (k + 1) cap) (.slice sa k sc)) := T1
        clear T1
        refine rdH 9 (fun K hK => ?_)
        go_simp
        refine hK.out _ _ (RG.out.below T1'.out.below) (fun hS => ?_)
        clear hK K
        refine wpAnyH_done (by kernel_rfl) ?_ _
        clear hS
        go_simp
        generalize y.setCell ⟨w.heap.size + 1, 0, none⟩ (.slice (some ⟨gg, 0, none⟩) (k + 1) cap) = x1 at T1' ⊢
        clear t0 t1 ft0 ft1 OY GY AY LY OR TA TT F0 F1 F1d F0d
        go_wp2_with fail
        have G0 : x1.drew.cell? ⟨w.heap.size + 1, 1, none⟩ = some (.slice sa k sc) := T1'.out.blk.1.2
        refine wp_region_held_drew (S := fun _ => True) (by kernel_rfl) trivial (fun hS => ?_)
        refine tkH 0 ?_ hS (fun wx hx => ?_) ?_; rotate_left
        · go_simp; try with_reducible rfl
        refine tkH 2 ?_ hS (fun wx hx => ?_) ?_; rotate_left
        · go_simp; try with_reducible rfl
        refine tkH 3 ?_ hS (fun wx hx => ?_) ?_; rotate_left
        · go_simp; try with_reducible rfl
        refine tkH 4 ?_ hS (fun wx hx => ?_) ?_; rotate_left
        · go_simp; try with_reducible rfl
        refine wpAnyH_ready (rs := [1, 5]) (by kernel_rfl) (by simp) ?_
        refine AllReadyH.cons rfl (fun K hK => ?_) (AllReadyH.cons rfl (fun K hK => ?_) AllReadyH.nil)
        focus
          go_simp
          refine hK.out _ _ trivial (fun hS => ?_)
          clear hK K
          refine rdH 5 (fun K hK => ?_)
          go_simp
          go_wp2_with fail
          refine (store_isO _ (P k) 3 _ _ _ _ _ _ gm u1 u2 _ (((RS.out.2.2.later T1'.out.below).2.1).later (below_dr (Below.refl _ _) 1)) RS.out.1.2.1 RS.out.1.2.2 RS.out.1.1 (S k).nc (S k).c RS.out.2.1).mono ?_
          rintro e x2 ⟨d0, e0, d1, e1, d2, e2, rfl, ⟨s3, f3, a3⟩, q2⟩
          have q2' : Below x1.heap.size x1 x2 := ⟨q2.os, q2.tape, q2.output, q2.size, q2.block⟩
          have ZX : Hid (x1.heap.size ≤ x2.heap.size) := q2'.size
          have TB : Hid (GT w x2 (k + 1) k F S U z (.slice (some ⟨gg, 0, none⟩) (k + 1) cap) (.slice sa k sc)) := T1'.out.later q2'
          have SC : Hid ((St (x2.alloc (.cells #[.slice d0 (S k).nc e0, .slice d1 (S k).nl e1, .slice d2 (S k).nw e2] 149)) x1.heap.size (S k) (.slice d0 (S k).nc e0) (.slice d1 (S k).nl e1) (.slice d2 (S k).nw e2) ∧ FreeS (x2.alloc (.cells #[.slice d0 (S k).nc e0, .slice d1 (S k).nl e1, .slice d2 (S k).nw e2] 149)) (S k) (.slice d0 (S k).nc e0) (.slice d1 (S k).nl e1) (.slice d2 (S k).nw e2) ∧ ApartD (S k) (.slice d0 (S k).nc e0) (.slice d1 (S k).nl e1) (.slice d2 (S k).nw e2)) ∧ OwnIn (S k) (.slice d0 (S k).nc e0) (.slice d1 (S k).nl e1) (.slice d2 (S k).nw e2) (fun q => x1.heap.size ≤ q ∧ q < x2.heap.size)) := ⟨⟨s3.alloc _, f3.later s3 (below_alloc _ _), a3⟩, s3.ownIn⟩
          have TC : Hid (GT w (x2.alloc (.cells #[.slice d0 (S k).nc e0, .slice d1 (S k).nl e1, .slice d2 (S k).nw e2] 149)) (k + 1) k F S U z (.slice (some ⟨gg, 0, none⟩) (k + 1) cap) (.slice sa k sc)) := TB.out.later (below_alloc _ _)
          have G2 : x2.cell? ⟨w.heap.size + 1, 1, none⟩ = some (.slice sa k sc) := TB.out.blk.1.2
          have G3 : (x2.alloc (.cells #[.slice d0 (S k).nc e0, .slice d1 (S k).nl e1, .slice d2 (S k).nw e2] 149)).cell? ⟨w.heap.size + 1, 1, none⟩ = some (.slice sa k sc) := TC.out.blk.1.2
          have G3d : True := trivial
          clear s3 f3 a3 q2 q2' TB
          go_wp2_with fail
          refine hK.out _ _ trivial (fun hS => ?_)
          clear hK K
          refine rdH 6 (fun K hK => ?_)
        rotate_left
        focus
          go_simp
          go_wp2_with fail
          refine (store_isO _ (P k) 3 _ _ _ _ _ _ gm u1 u2 _ (((RS.out.2.2.later T1'.out.below).2.1).later (below_dr (Below.refl _ _) 1)) RS.out.1.2.1 RS.out.1.2.2 RS.out.1.1 (S k).nc (S k).c RS.out.2.1).mono ?_
          rintro e x2 ⟨d0, e0, d1, e1, d2, e2, rfl, ⟨s3, f3, a3⟩, q2⟩
          have q2' : Below x1.heap.size x1 x2 := ⟨q2.os, q2.tape, q2.output, q2.size, q2.block⟩
          have ZX : Hid (x1.heap.size ≤ x2.heap.size) := q2'.size
          have TB : Hid (GT w x2 (k + 1) k F S U z (.slice (some ⟨gg, 0, none⟩) (k + 1) cap) (.slice sa k sc)) := T1'.out.later q2'
          have SC : Hid ((St (x2.alloc (.cells #[.slice d0 (S k).nc e0, .slice d1 (S k).nl e1, .slice d2 (S k).nw e2] 149)) x1.heap.size (S k) (.slice d0 (S k).nc e0) (.slice d1 (S k).nl e1) (.slice d2 (S k).nw e2) ∧ FreeS (x2.alloc (.cells #[.slice d0 (S k).nc e0, .slice d1 (S k).nl e1, .slice d2 (S k).nw e2] 149)) (S k) (.slice d0 (S k).nc e0) (.slice d1 (S k).nl e1) (.slice d2 (S k).nw e2) ∧ ApartD (S k) (.slice d0 (S k).nc e0) (.slice d1 (S k).nl e1) (.slice d2 (S k).nw e2)) ∧ OwnIn (S k) (.slice d0 (S k).nc e0) (.slice d1 (S k).nl e1) (.slice d2 (S k).nw e2) (fun q => x1.heap.size ≤ q ∧ q < x2.heap.size)) := ⟨⟨s3.alloc _, f3.later s3 (below_alloc _ _), a3⟩, s3.ownIn⟩
          have TC : Hid (GT w (x2.alloc (.cells #[.slice d0 (S k).nc e0, .slice d1 (S k).nl e1, .slice d2 (S k).nw e2] 149)) (k + 1) k F S U z (.slice (some ⟨gg, 0, none⟩) (k + 1) cap) (.slice sa k sc)) := TB.out.later (below_alloc _ _)
          have G2 : x2.cell? ⟨w.heap.size + 1, 1, none⟩ = some (.slice sa k sc) := TB.out.blk.1.2
          have G3 : (x2.alloc (.cells #[.slice d0 (S k).nc e0, .slice d1 (S k).nl e1, .slice d2 (S k).nw e2] 149)).cell? ⟨w.heap.size + 1, 1, none⟩ = some (.slice sa k sc) := TC.out.blk.1.2
          have G3d : True := trivial
          clear s3 f3 a3 q2 q2' TB
          go_wp2_with fail
          refine hK.out _ _ trivial (fun hS => ?_)
          clear hK K
          refine wpAnyH_ready (rs := [1, 6]) (by kernel_rfl) (by simp) ?_
          refine AllReadyH.cons rfl (fun K hK => ?_) (AllReadyH.cons rfl (fun K hK => ?_) AllReadyH.nil)
          focus
            go_simp
            refine hK.out _ _ trivial (fun hS => ?_)
            clear hK K
            refine rdH 6 (fun K hK => ?_)
          rotate_left
          focus
            go_simp
            refine hK.out _ _ trivial (fun hS => ?_)
            clear hK K
            refine rdH 1 (fun K hK => ?_)
          rotate_left
        rotate_left 2
      rotate_left 3
      all_goals
        go_simp
        refine hK.out _ _ trivial (fun hS => ?_)
        clear hK K
        refine rdH 7 (fun K hK => ?_)
        refine step_append_lies _ (by rfl) _ _ 34 (by rfl) (w.heap.size + 2) 149 j0 (.agg #[.slice none 0 0, .slice none 0 0, .slice none 0 0]) 3 72 Tryz.underlying34 gi gz0 gz1 gz2 rfl (by omega) (.slice sa k sc) k _ (by rfl) TC.out.rs ⟨x2.heap.size, 0, none⟩ 1 1 [.slice d0 (S k).nc e0, .slice d1 (S k).nl e1, .slice d2 (S k).nw e2] (by rfl) (by rfl) (World.news_of_block (cs := #[.slice d0 (S k).nc e0, .slice d1 (S k).nl e1, .slice d2 (S k).nw e2]) (t := 149) (fr := (0, 0)) (heap_alloc_new x2 _)) (by simp [Value.oneCell']) (by omega) (by unfold maxLen; omega) (by omega) TC.out.lo (x2.heap.size + 1) (by simp) ?_
        intro hh cap' y OY GY AY LY
        have OS : OwnV y (w.heap.size + 2) (.slice (some ⟨hh, 0, none⟩) (k + 1) cap') (k + 1) (putU U k (.slice d0 (S k).nc e0) (.slice d1 (S k).nl e1) (.slice d2 (S k).nw e2)) := by
          unfold OwnV
          rw [listU_new]
          exact OY
        have T2 : Hid (GT w (y.setCell ⟨w.heap.size + 1, 1, none⟩ (.slice (some ⟨hh, 0, none⟩) (k + 1) cap')) (k + 1) (k + 1) F S (putU U k (.slice d0 (S k).nc e0) (.slice d1 (S k).nl e1) (.slice d2 (S k).nw e2)) (fun i => if i = k + 1 then x2.heap.size else z i) (.slice (some ⟨gg, 0, none⟩) (k + 1) cap) (.slice (some ⟨hh, 0, none⟩) (k + 1) cap')) := TC.out.putS (zz := x1.heap.size) (zt := x2.heap.size) SC.out.1 SC.out.2 ⟨T1'.out.zh, ZX.out, by simp⟩ (fun q e => (T1'.out.rr.block q e).2) (fun q e => (T1'.out.rs.block q e).2) OS GY (by rcases AY with e | e; exact Or.inl e.symm; exact Or.inr (by rw [e]; simp [Value.ownBlock]))
        refine hK.out _ _ trivial (fun hS => ?_)
        clear hK K
        refine tkH 8 ?_ hS (fun wx hx => ?_) ?_; rotate_left
        · go_simp; try with_reducible rfl
        obtain ⟨⟨t0, t1⟩, ft0, ft1⟩ := blk2_past TC.out.blk GY (fun e => by have := (TC.out.rs.block _ e).1; omega)
        refine rdH 9 (fun K hK => ?_)
        go_simp
        refine hK.out _ _ trivial (fun hS => ?_)
        clear hK K
        refine wpAnyH_done (by kernel_rfl) ?_ _
        clear hS
        go_simp
        generalize y.setCell ⟨w.heap.size + 1, 1, none⟩ (.slice (some ⟨hh, 0, none⟩) (k + 1) cap') = x4 at T2 ⊢
        clear t0 t1 ft0 ft1 OY GY AY LY OS TC SC ZX T1' G0 G2 G3 G3d
        go_wp2
        go_roundw
        case rel => exact ⟨k + 1, putU U k (.slice d0 (S k).nc e0) (.slice d1 (S k).nl e1) (.slice d2 (S k).nw e2), fun i => if i = k + 1 then x2.heap.size else z i, some ⟨gg, 0, none⟩, cap, some ⟨hh, 0, none⟩, cap', by omega, by go_num, T2⟩
        case measure => simp [intOf]; omega
    · obtain rfl : k = n := by omega
      obtain ⟨⟨t0, t1⟩, _⟩ := TT.out.blk
      obtain ⟨⟨r0, r1, r2⟩, f0, f1, f2⟩ := TT.out.res
      go_wp2
      refine bodyPost_ret (v := .agg #[.int .i64 0, .slice ra k rc, .slice sa k sc]) (by simp [results, Tryz.results63, go_sem, r0, r1, r2]) rfl ⟨ra, rc, sa, sc, U, z, rfl, ?_, ((TT.out.below.setCell (Nat.le_refl _) _).setCell (Nat.le_refl _) _).setCell (Nat.le_refl _) _⟩
      have h1 := TT.out.fineR
      have h2 := ((h1.within (within_set _ w.heap.size 0 (.int .i64 0)) (by omega)).within (within_set _ w.heap.size 1 (.slice ra k rc)) (by omega)).within (within_set _ w.heap.size 2 (.slice sa k sc)) (by omega)
      exact h2.up (by omega)
end

section
open Go.RowKit Go.Maps
theorem fineR_nil (w : World) (lo : Nat) (F : Nat → Int) (T : Nat → Sto) (_ : lo ≤ w.heap.size) : FineR w lo w.heap.size 0 F 0 T none 0 none (fun _ _ => .bool true) (fun _ => lo) :=
  ⟨⟨⟨_, _, rfl, fun h => absurd h (Nat.lt_irrefl 0)⟩, Free.of0 _ _⟩, ⟨fun h => absurd h (Nat.lt_irrefl 0), fun i hi => absurd hi (Nat.not_lt_zero i)⟩, ⟨fun i hi => absurd hi (Nat.not_lt_zero i), fun i hi => absurd hi (Nat.not_lt_zero i), Nat.le_refl _⟩, fun h => absurd h (Nat.lt_irrefl 0)⟩
end
end

section
open Go.RowKit Go.Maps
section
theorem Own.keptB {w w' : World} {B : Nat} {e : TypeId} {m n : Nat} {F : Nat → Int} {v : Value} (h : Own w B e m n F v) (hb : ∀ q, B ≤ q → q < w.heap.size → w'.heap[q]? = w.heap[q]?) : Own w' B e m n F v := by
  refine ⟨h.1, ?_⟩
  rcases h.2 with q | ⟨g, cap, cur, rfl, hg, hw, r⟩
  · exact Or.inl q
  · exact Or.inr ⟨g, cap, cur, rfl, hg, (hb g hg (Array.getElem?_eq_some_iff.1 hw).1).trans hw, r⟩
theorem RSt.keptB {x x' : World} {B b : Nat} {fr tto ep : Int} {N : Nat} {m : Int → Int → Option Int} {nl : Nat} {l : Nat → Int} {nw : Nat} {k : Nat → Int} {g : Nat} {u1 u2 : Value} (h : RSt x B b fr tto ep N m nl l nw k g u1 u2) (hb : ∀ q, B ≤ q → q < x.heap.size → x'.heap[q]? = x.heap[q]?) : RSt x' B b fr tto ep N m nl l nw k g u1 u2 := by
  obtain ⟨⟨h0, h1, h2⟩, ⟨c1, c2, c3, c4, c5, c6⟩, h4⟩ := h
  have e := hb b c1 c3.lt
  exact ⟨⟨(World.cell?_of_block (w := x) (a := ⟨b, 0, none⟩) e).trans h0, (World.cell?_of_block (w := x) (a := ⟨b, 1, none⟩) e).trans h1, (World.cell?_of_block (w := x) (a := ⟨b, 2, none⟩) e).trans h2⟩, ⟨c1, c2, c3.kept e, c4.kept (hb g c2 c4.lt), c5.keptB hb, c6.keptB hb⟩, h4⟩
theorem RSt.mono {x : World} {B B' b : Nat} {fr tto ep : Int} {N : Nat} {m : Int → Int → Option Int} {nl : Nat} {l : Nat → Int} {nw : Nat} {k : Nat → Int} {g : Nat} {u1 u2 : Value} (h : RSt x B b fr tto ep N m nl l nw k g u1 u2) (hB : B' ≤ B) : RSt x B' b fr tto ep N m nl l nw k g u1 u2 :=
  ⟨h.1, ⟨Nat.le_trans hB h.2.1.1, Nat.le_trans hB h.2.1.2.1, h.2.1.2.2.1, h.2.1.2.2.2.1, h.2.1.2.2.2.2.1.mono hB, h.2.1.2.2.2.2.2.mono hB⟩, h.2.2⟩
theorem ToldG.keptB {x x' : World} {B n : Nat} {F : Nat → Int} {S : Nat → Sto} {P : Nat → Nat} (h : ToldG x B n F S P) (hb : ∀ q, B ≤ q → q < x.heap.size → x'.heap[q]? = x.heap[q]?) : ToldG x' B n F S P := fun i hi => by
  obtain ⟨N, m, g, u1, u2, h1, h2, h3⟩ := h i hi
  exact ⟨N, m, g, u1, u2, h1, h2, h3.keptB hb⟩
theorem ToldG.later {x x' : World} {B n : Nat} {F : Nat → Int} {S : Nat → Sto} {P : Nat → Nat} (h : ToldG x B n F S P) (hb : Below x.heap.size x x') : ToldG x' B n F S P := h.keptB (fun q _ hq => hb.block q hq)
theorem ToldG.mono {x : World} {B B' n : Nat} {F : Nat → Int} {S : Nat → Sto} {P : Nat → Nat} (h : ToldG x B n F S P) (hB : B' ≤ B) : ToldG x B' n F S P := fun i hi => by
  obtain ⟨N, m, g, u1, u2, h1, h2, h3⟩ := h i hi
  exact ⟨N, m, g, u1, u2, h1, h2, h3.mono hB⟩
/-- One more store that is worked on. -/
theorem ToldG.put {x : World} {B k b : Nat} {F : Nat → Int} {S : Nat → Sto} {P : Nat → Nat} (h : ToldG x B k F S P) {fr tto ep : Int} (hF : F (k * 3) = fr ∧ F (k * 3 + 1) = tto ∧ F (k * 3 + 2) = ep) (hz : storeF (S k) = 0) {g : Nat} {u1 u2 : Value} (hr : RSt x B b fr tto ep (S k).nc (cellM (S k) (S k).nc) (S k).nl (S k).l (S k).nw (S k).k g u1 u2) : ToldG x B (k + 1) F S (fun i => if i = k then b else P i) := fun i hi => by
  have Z := storeF_zero hz
  by_cases q : i = k
  · subst q
    simp only [if_pos]
    rw [hF.1, hF.2.1, hF.2.2]
    exact ⟨(S i).nc, cellM (S i) (S i).nc, g, u1, u2, ⟨by have := Z.1.1; omega, Z.1.2.1, Z.1.2.2⟩, mapSelf Z.2.1, hr⟩
  · simp only [if_neg q]
    exact h i (by omega)
/-- A new row of pointers, k of them laid. -/
def FillP (w : World) (g n k : Nat) (P : Nat → Nat) : Prop := g < w.heap.size ∧ (∀ p, p < n → (∃ u, w.cell? ⟨g, p, none⟩ = some u) ∧ w.frozen? ⟨g, p, none⟩ = false) ∧ ∀ i, i < k → w.cell? ⟨g, i, none⟩ = some (.pointer (some ⟨P i, 0, none⟩))
theorem FillP.later {w w' : World} {g n k : Nat} {P : Nat → Nat} (h : FillP w g n k P) (hb : Below w.heap.size w w') : FillP w' g n k P := by
  obtain ⟨h1, h2, h3⟩ := h
  refine ⟨Nat.lt_of_lt_of_le h1 hb.size, fun p hp => ⟨?_, (hb.frozen (p := ⟨g, p, none⟩) h1).trans (h2 p hp).2⟩, fun i hi => (hb.cell (p := ⟨g, i, none⟩) h1).trans (h3 i hi)⟩
  obtain ⟨u, hu⟩ := (h2 p hp).1
  exact ⟨u, (hb.cell (p := ⟨g, p, none⟩) h1).trans hu⟩
theorem FillP.made (w : World) (z : Array Value) (n : Nat) (e : TypeId) (P : Nat → Nat) : FillP (w.alloc (.cells (madeCells z n) e)) w.heap.size n 0 P := by
  refine ⟨by simp, fun p hp => ⟨⟨(madeCells z n)[p]'(by rw [size_madeCells]; omega), ?_⟩, by simp⟩, fun p hp => absurd hp (Nat.not_lt_zero p)⟩
  rw [World.cell?_alloc_mark]
  simp
theorem FillP.at {w : World} {g n k p : Nat} {P : Nat → Nat} (h : FillP w g n k P) (hp : p < n) : ∃ u, w.cell? ⟨g, p, none⟩ = some u ∧ w.frozen? ⟨g, p, none⟩ = false := by
  obtain ⟨⟨u, hu⟩, hf⟩ := h.2.1 p hp
  exact ⟨u, hu, hf⟩
theorem FillP.put {w : World} {g n k : Nat} {P : Nat → Nat} (h : FillP w g n k P) (hk : k < n) (b : Nat) : FillP (w.setCell ⟨g, k, none⟩ (.pointer (some ⟨b, 0, none⟩))) g n (k + 1) (fun i => if i = k then b else P i) := by
  obtain ⟨h1, h2, h3⟩ := h
  obtain ⟨u, hu⟩ := (h2 k hk).1
  refine ⟨by simpa [World.setCell] using h1, fun p hp => ⟨?_, by simp [(h2 p hp).2]⟩, fun i hi => ?_⟩
  · obtain ⟨v, hv⟩ := (h2 p hp).1
    by_cases q : p = k
    · subst q
      exact ⟨_, World.cell?_setCell_same _ _ _ hu⟩
    · exact ⟨v, by rw [World.cell?_setCell_other _ _ _ _ (by intro e; simp at e; first | done | omega)]; exact hv⟩
  · by_cases q : i = k
    · subst q
      simp only [if_pos]
      exact World.cell?_setCell_same _ _ _ hu
    · simp only [if_neg q]
      rw [World.cell?_setCell_other _ _ _ _ (by intro e; simp at e; first | done | omega)]
      exact h3 i (by omega)
theorem info_Ptr : (Tryz.prog.info? 167).map (fun i => (i.zero, i.size, i.bytes)) = some (some (.pointer none), 1, 8) := by kernel_rfl
/-- What the region that points reads: the groups' box, the store's copy in block b, the range. -/
def PtaE (w : World) (vr vs : Value) (b : Nat) (s0 s1 s2 : Value) (gr oR k : Nat) (fr tto ep : Int) (x : World) : Prop :=
  Blk2 x w.heap.size vr vs ∧ Blk3 x b s0 s1 s2 ∧ x.cell? ⟨gr, oR + k * 3, none⟩ = some (.int .i64 fr) ∧ x.cell? ⟨gr, oR + k * 3 + 1, none⟩ = some (.int .i64 tto) ∧ x.cell? ⟨gr, oR + k * 3 + 2, none⟩ = some (.int .i64 ep)
theorem PtaE.kept {w x x' : World} {vr vs : Value} {b : Nat} {s0 s1 s2 : Value} {gr oR k : Nat} {fr tto ep : Int} (h : PtaE w vr vs b s0 s1 s2 gr oR k fr tto ep x) (hb : ∀ q, q = w.heap.size ∨ q = b ∨ q = gr → x'.heap[q]? = x.heap[q]?) : PtaE w vr vs b s0 s1 s2 gr oR k fr tto ep x' := by
  obtain ⟨h1, h2, h3, h4, h5⟩ := h
  have e := hb gr (Or.inr (Or.inr rfl))
  exact ⟨h1.kept (hb _ (Or.inl rfl)), h2.kept (hb _ (Or.inr (Or.inl rfl))), (World.cell?_of_block (w := x) (a := ⟨gr, oR + k * 3, none⟩) e).trans h3, (World.cell?_of_block (w := x) (a := ⟨gr, oR + k * 3 + 1, none⟩) e).trans h4, (World.cell?_of_block (w := x) (a := ⟨gr, oR + k * 3 + 2, none⟩) e).trans h5⟩
/-- Where the row of pointers stands, k of them laid. -/
def PtaT (w : World) (vr vs : Value) (n k : Nat) (F : Nat → Int) (S : Nat → Sto) (x : World) : Prop :=
  (Below w.heap.size w x ∧ Blk2 x w.heap.size vr vs) ∧ ∃ P, FillP x (w.heap.size + 1) n k P ∧ ToldG x (w.heap.size + 2) k F S P
set_option maxRecDepth 100000 in
set_option maxHeartbeats 8000000 in
theorem pointToAll_is (nr : Nat) (F : Nat → Int) (n : Nat) (S : Nat → Sto) (V : Nat → Nat → Value) (vr vs : Value) (B : Nat) (w : World) (h : Grs w B nr F n S V vr vs) (hz : ∀ i, i < n → storeF (S i) = 0) (hn : n = nr) (hm : n ≤ 12) :
    Calls Tryz.prog 62 #[.agg #[vr, vs]] w fun e w' => ∃ g P, e = .returned (.slice (some ⟨g, 0, none⟩) n n) ∧ PtrRow w' n (some ⟨g, 0, none⟩) P ∧ ToldG w' w.heap.size n F S P ∧ Below w.heap.size w w' := by
  obtain ⟨a0, c0, a1, c1, rfl, rfl⟩ := h.form
  have HG : Hid (Grs w B nr F n S V (.slice a0 nr c0) (.slice a1 n c1)) := h
  have HZ : Hid (∀ i, i < n → storeF (S i) = 0) := hz
  have HM : Hid (n = nr) := hn
  clear h hz hn
  have hmk := make_row Tryz.underlying78 info_Ptr n (by omega) (by omega)
  have b0 : Hid (Blk2 (w.alloc (.cells #[.slice a0 nr c0, .slice a1 n c1] 36)) w.heap.size (.slice a0 nr c0) (.slice a1 n c1)) := Blk2.new w (.slice a0 nr c0) (.slice a1 n c1) 36
  obtain ⟨⟨p0, p1⟩, _⟩ := b0.out
  have q0 := (b0.out.alloc (.cells (madeCells #[Value.pointer none] n) 167)).1
  obtain ⟨q0, q1⟩ := q0
  go_enter Tryz.func62, Tryz.ntmps62
  go_wp2
  go_loopw [13] (fun i wr => ∃ k : Nat, k ≤ n ∧ i = .int .i64 k ∧ Hid (PtaT w (.slice a0 nr c0) (.slice a1 n c1) n k F S wr)) (fun i _ => n - (intOf i).toNat)
  case atStart =>
    refine ⟨0, Nat.zero_le _, rfl, ⟨(below_alloc _ _).alloc (by simp) _, b0.out.alloc _⟩, fun _ => 0, ?_, fun i hi => absurd hi (Nat.not_lt_zero i)⟩
    have := FillP.made (w.alloc (.cells #[.slice a0 nr c0, .slice a1 n c1] 36)) #[Value.pointer none] n 167 (fun _ => 0)
    rwa [World.size_alloc] at this
  case round =>
    obtain ⟨k, hk, rfl, hR⟩ := hrel
    by_cases hlt : k < n
    · have hkr : k < nr := by have := HM.out; omega
      obtain ⟨g, o, rfl, _, hg, ⟨b0', b1', b2'⟩, sk⟩ := HG.out.2.at hlt
      obtain ⟨gr, oR, rfl, _, hgr, t0, t1, t2⟩ := HG.out.1.at3 hkr
      obtain ⟨i0', d0', i1', d1', i2', d2', e0', e1', e2'⟩ := sk.form
      rw [e0'] at b0'
      rw [e1'] at b1'
      rw [e2'] at b2'
      rw [e0', e1', e2'] at sk
      obtain ⟨fr, hfr⟩ : ∃ x, F (k * 3) = x := ⟨_, rfl⟩
      obtain ⟨tto, hto⟩ : ∃ x, F (k * 3 + 1) = x := ⟨_, rfl⟩
      obtain ⟨ep, hep⟩ : ∃ x, F (k * 3 + 2) = x := ⟨_, rfl⟩
      rw [hfr] at t0
      rw [hto] at t1
      rw [hep] at t2
      have HF : Hid (F (k * 3) = fr ∧ F (k * 3 + 1) = tto ∧ F (k * 3 + 2) = ep) := ⟨hfr, hto, hep⟩
      have y0 := (hR.out.1.1.cell (p := ⟨g, o + k * 3, none⟩) hg).trans b0'
      have y1 := (hR.out.1.1.cell (p := ⟨g, o + k * 3 + 1, none⟩) hg).trans b1'
      have y2 := (hR.out.1.1.cell (p := ⟨g, o + k * 3 + 2, none⟩) hg).trans b2'
      have x0 := (hR.out.1.1.cell (p := ⟨gr, oR + k * 3, none⟩) hgr).trans t0
      have x1 := (hR.out.1.1.cell (p := ⟨gr, oR + k * 3 + 1, none⟩) hgr).trans t1
      have x2 := (hR.out.1.1.cell (p := ⟨gr, oR + k * 3 + 2, none⟩) hgr).trans t2
      obtain ⟨n0, hn0⟩ : ∃ x, (S k).nc = x := ⟨_, rfl⟩
      obtain ⟨n1, hn1⟩ : ∃ x, (S k).nl = x := ⟨_, rfl⟩
      obtain ⟨n2, hn2⟩ : ∃ x, (S k).nw = x := ⟨_, rfl⟩
      rw [hn0] at y0
      rw [hn1] at y1
      rw [hn2] at y2
      rw [hn0, hn1, hn2] at sk
      have SK : Hid (St wr B (S k) (.slice i0' n0 d0') (.slice i1' n1 d1') (.slice i2' n2 d2')) := sk.later hR.out.1.1
      clear hfr hto hep sk e0' e1' e2' b0' b1' b2' t0 t1 t2 hn0 hn1 hn2
      have zz : Hid (w.heap.size + 2 ≤ wr.heap.size) := by obtain ⟨_, P, hF, _⟩ := hR.out; have := hF.1; unfold Hid; omega
      have ZW : Hid (gr < w.heap.size) := hgr
      have HS0 : Hid (PtaE w (.slice (some ⟨gr, oR, none⟩) nr c0) (.slice (some ⟨g, o, none⟩) n c1) wr.heap.size (.slice i0' n0 d0') (.slice i1' n1 d1') (.slice i2' n2 d2') gr oR k fr tto ep (wr.alloc (.cells #[.slice i0' n0 d0', .slice i1' n1 d1', .slice i2' n2 d2'] 149))) := ⟨hR.out.1.2.alloc _, Blk3.new wr _ _ _ _, ((below_alloc wr _).cell (p := ⟨gr, oR + k * 3, none⟩) (by show gr < wr.heap.size; have := zz.out; have := ZW.out; omega)).trans x0, ((below_alloc wr _).cell (p := ⟨gr, oR + k * 3 + 1, none⟩) (by show gr < wr.heap.size; have := zz.out; have := ZW.out; omega)).trans x1, ((below_alloc wr _).cell (p := ⟨gr, oR + k * 3 + 2, none⟩) (by show gr < wr.heap.size; have := zz.out; have := ZW.out; omega)).trans x2⟩
      clear x0 x1 x2 hg hgr p0 p1 q0 q1 hmk
      go_upto_region 5 with fail
      refine wp_region_held_drew (S := PtaE w (.slice (some ⟨gr, oR, none⟩) nr c0) (.slice (some ⟨g, o, none⟩) n c1) wr.heap.size (.slice i0' n0 d0') (.slice i1' n1 d1') (.slice i2' n2 d2') gr oR k fr tto ep) (by kernel_rfl) (HS0.out.kept (fun _ _ => rfl)) (fun hS => ?_)
      clear y0 y1 y2
      refine tkH 0 ?_ hS (fun wx hx => ?_) ?_; rotate_left
      · obtain ⟨⟨⟨hx0, hx1⟩, _⟩, ⟨⟨hx2, hx3, hx4⟩, _⟩, hx5, hx6, hx7⟩ := hx; go_simp; try with_reducible rfl
      refine tkH 1 ?_ hS (fun wx hx => ?_) ?_; rotate_left
      · obtain ⟨⟨⟨hx0, hx1⟩, _⟩, ⟨⟨hx2, hx3, hx4⟩, _⟩, hx5, hx6, hx7⟩ := hx; go_simp; try with_reducible rfl
      refine tkH 2 ?_ hS (fun wx hx => ?_) ?_; rotate_left
      · obtain ⟨⟨⟨hx0, hx1⟩, _⟩, ⟨⟨hx2, hx3, hx4⟩, _⟩, hx5, hx6, hx7⟩ := hx; go_simp; try with_reducible rfl
      refine tkH 3 ?_ hS (fun wx hx => ?_) ?_; rotate_left
      · obtain ⟨⟨⟨hx0, hx1⟩, _⟩, ⟨⟨hx2, hx3, hx4⟩, _⟩, hx5, hx6, hx7⟩ := hx; go_simp; try with_reducible rfl
      refine tkH 4 ?_ hS (fun wx hx => ?_) ?_; rotate_left
      · obtain ⟨⟨⟨hx0, hx1⟩, _⟩, ⟨⟨hx2, hx3, hx4⟩, _⟩, hx5, hx6, hx7⟩ := hx; go_simp; try with_reducible rfl
      refine tkH 5 ?_ hS (fun wx hx => ?_) ?_; rotate_left
      · obtain ⟨⟨⟨hx0, hx1⟩, _⟩, ⟨⟨hx2, hx3, hx4⟩, _⟩, hx5, hx6, hx7⟩ := hx; go_simp; try with_reducible rfl
      refine tkH 6 ?_ hS (fun wx hx => ?_) ?_; rotate_left
      · obtain ⟨⟨⟨hx0, hx1⟩, _⟩, ⟨⟨hx2, hx3, hx4⟩, _⟩, hx5, hx6, hx7⟩ := hx; go_simp; try with_reducible rfl
      refine tkH 7 ?_ hS (fun wx hx => ?_) ?_; rotate_left
      · obtain ⟨⟨⟨hx0, hx1⟩, _⟩, ⟨⟨hx2, hx3, hx4⟩, _⟩, hx5, hx6, hx7⟩ := hx; go_simp; try with_reducible rfl
      refine rdH 8 (fun K hK => ?_)
      go_simp
      go_wp2_with fail
      refine (pointTo_is (S k) _ _ _ fr tto ep B _ (SK.out.later ((below_alloc _ _).drew)) (HZ.out k hlt)).mono ?_
      rintro e w4 ⟨b, gm, u1, u2, rfl, hRS, q4⟩
      have q4' : Below wr.heap.size wr w4 := (below_alloc wr _).trans (Below.mono ⟨q4.os, q4.tape, q4.output, q4.size, q4.block⟩ (by simp))
      have z4 : Hid (wr.heap.size ≤ w4.heap.size) := q4'.size
      have RS : Hid (RSt w4 (w.heap.size + 2) b fr tto ep (S k).nc (cellM (S k) (S k).nc) (S k).nl (S k).l (S k).nw (S k).k gm u1 u2) := hRS.mono (by have := zz.out; simp; omega)
      have R4 : Hid ((Below w.heap.size w w4 ∧ Blk2 w4 w.heap.size (.slice (some ⟨gr, oR, none⟩) nr c0) (.slice (some ⟨g, o, none⟩) n c1)) ∧ ∃ P, FillP w4 (w.heap.size + 1) n k P ∧ ToldG w4 (w.heap.size + 2) k F S P) := by
        obtain ⟨⟨h1, h2⟩, P, h3, h4⟩ := hR.out
        exact ⟨⟨h1.trans (q4'.mono h1.size), h2.later q4'⟩, P, h3.later q4', h4.later q4'⟩
      have hS' := hS.kept (x' := w4) (fun q hq => q4.block q (by have := zz.out; have := ZW.out; simp; rcases hq with e | e | e <;> omega))
      clear q4 q4' hRS hR HS0 SK
      go_wp2_with fail
      refine hK.out _ _ hS' (fun hS => ?_)
      clear hK K hS'
      refine tkH 9 ?_ hS (fun wx hx => ?_) ?_; rotate_left
      · obtain ⟨⟨⟨hx0, hx1⟩, _⟩, ⟨⟨hx2, hx3, hx4⟩, _⟩, hx5, hx6, hx7⟩ := hx; go_simp; try with_reducible rfl
      obtain ⟨⟨h1, h2⟩, P, h3, h4⟩ := R4.out
      obtain ⟨ux, x0, x1⟩ := h3.at hlt
      have R5 : Hid (PtaT w (.slice (some ⟨gr, oR, none⟩) nr c0) (.slice (some ⟨g, o, none⟩) n c1) n (k + 1) F S (w4.setCell ⟨w.heap.size + 1, k, none⟩ (.pointer (some ⟨b, 0, none⟩)))) := ⟨⟨h1.setCell (Nat.le_succ _) _, h2.kept (Below.heap_setCell _ _ _ _ (by show w.heap.size ≠ w.heap.size + 1; omega))⟩, _, h3.put hlt b, (h4.put HF.out (HZ.out k hlt) RS.out).keptB (fun q hq _ => Below.heap_setCell _ _ _ q (by show q ≠ w.heap.size + 1; omega))⟩
      clear h1 h2 h3 h4 R4 RS
      refine rdH 10 (fun K hK => ?_)
      go_simp
      have hS' := hS.kept (x' := w4.setCell ⟨w.heap.size + 1, k, none⟩ (.pointer (some ⟨b, 0, none⟩))) (fun q hq => Below.heap_setCell _ _ _ q (by show q ≠ w.heap.size + 1; have := zz.out; have := ZW.out; rcases hq with e | e | e <;> omega))
      refine hK.out _ _ hS' (fun hS => ?_)
      clear hK K hS'
      refine wpAnyH_done (by kernel_rfl) ?_ _
      clear hS x0 x1
      go_simp
      generalize w4.setCell ⟨w.heap.size + 1, k, none⟩ (.pointer (some ⟨b, 0, none⟩)) = x4 at R5 ⊢
      go_wp2
      go_roundw
      case rel => exact ⟨k + 1, by omega, by go_num, R5⟩
      case measure => simp [intOf]; omega
    · obtain rfl : k = n := by omega
      go_wp2
      go_ret
      obtain ⟨⟨hB, _⟩, P, hF, hT⟩ := hR.out
      exact ⟨w.heap.size + 1, P, rfl, fun _ => ⟨_, _, rfl, hF.1, fun i hi => by rw [Nat.zero_add]; exact hF.2.2 i hi⟩, hT.mono (by omega), hB⟩
end

section
open Go.RowKit Go.Maps
theorem listU_inv {V : Nat → Nat → Value} {n j : Nat} {u : Value} (h : (listU V n)[j]? = some u) : ∃ i r, i < n ∧ r < 3 ∧ j = i * 3 + r ∧ u = V i r := by
  have hj : j < n * 3 := by
    have := (List.getElem?_eq_some_iff.1 h).1
    rw [listU_len] at this
    exact this
  obtain ⟨h0, h1, h2⟩ := listU_at V n (j / 3) (by omega)
  have e : j = j / 3 * 3 + j % 3 := by omega
  have hr : j % 3 = 0 ∨ j % 3 = 1 ∨ j % 3 = 2 := by omega
  rcases hr with r | r | r
  · refine ⟨j / 3, 0, by omega, by omega, by omega, ?_⟩
    rw [show j / 3 * 3 = j by omega, h] at h0
    exact Option.some.inj h0
  · refine ⟨j / 3, 1, by omega, by omega, by omega, ?_⟩
    rw [show j / 3 * 3 + 1 = j by omega, h] at h1
    exact Option.some.inj h1
  · refine ⟨j / 3, 2, by omega, by omega, by omega, ?_⟩
    rw [show j / 3 * 3 + 2 = j by omega, h] at h2
    exact Option.some.inj h2
theorem St.slices {w : World} {B : Nat} {S : Sto} {u0 u1 u2 : Value} (h : St w B S u0 u1 u2) : u0.oneCell' = true ∧ u1.oneCell' = true ∧ u2.oneCell' = true := by
  obtain ⟨a0, c0, a1, c1, a2, c2, rfl, rfl, rfl⟩ := h.form
  exact ⟨rfl, rfl, rfl⟩
theorem Stos.one {w : World} {B n : Nat} {S : Nat → Sto} {V : Nat → Nat → Value} {v : Value} (h : Stos w B n S V v) : ∀ u ∈ listU V n, u.oneCell' = true := fun u hu => by
  obtain ⟨j, hj⟩ := List.getElem?_of_mem hu
  obtain ⟨i, r, hi, hr, _, rfl⟩ := listU_inv hj
  obtain ⟨h0, h1, h2⟩ := (h.2 i hi).slices
  have hr : r = 0 ∨ r = 1 ∨ r = 2 := by omega
  rcases hr with rfl | rfl | rfl
  · exact h0
  · exact h1
  · exact h2
theorem Stos.cells {w : World} {B n : Nat} {S : Nat → Sto} {V : Nat → Nat → Value} {a : Addr} {cp : Nat} (h : Stos w B n S V (.slice (some a) n cp)) : ∀ j u, (listU V n)[j]? = some u → w.cell? (a.add j) = some u := fun j u hu => by
  obtain ⟨i, r, hi, hr, rfl, rfl⟩ := listU_inv hu
  obtain ⟨ao, cp', hv, h'⟩ := h.1
  obtain ⟨g, o, rfl, _, _, hc⟩ := h' (by omega)
  simp only [Value.slice.injEq, Option.some.injEq] at hv
  obtain ⟨rfl, _⟩ := hv
  rw [WideShapes.add_plain]
  obtain ⟨h0, h1, h2⟩ := hc i hi
  have hr : r = 0 ∨ r = 1 ∨ r = 2 := by omega
  rcases hr with rfl | rfl | rfl
  · exact h0
  · rw [← Nat.add_assoc]; exact h1
  · rw [← Nat.add_assoc]; exact h2
end

section
open Go.RowKit Go.Maps
/-- Groups that are copied: k stores are laid; the groups under way lie in block bo, the ranges below it, all else behind it. -/
structure CopT (w : World) (vr vs : Value) (nr : Nat) (F : Nat → Int) (xr : Value) (bo : Nat) (S : Nat → Sto) (x : World) (k : Nat) (U : Nat → Nat → Value) (vS : Value) : Prop where
  below : Below w.heap.size w x
  box : Blk2 x w.heap.size vr vs
  res : Blk2 x (w.heap.size + 1) (.slice none 0 0) (.slice none 0 0)
  blk : Blk2 x bo xr vS
  lo : w.heap.size + 2 ≤ bo
  rr : Row x (w.heap.size + 2) 3 nr F xr
  rb : 0 < nr → ∀ q, xr.ownBlock = some q → q < bo
  rs : OwnV x (bo + 1) vS k U
  st : ∀ i, i < k → St x (bo + 1) (S i) (U i 0) (U i 1) (U i 2)
  sp : ∀ q, vS.ownBlock = some q → Spare k S U q
theorem CopT.later {w x x' : World} {vr vs : Value} {nr : Nat} {F : Nat → Int} {xr : Value} {bo : Nat} {S : Nat → Sto} {k : Nat} {U : Nat → Nat → Value} {vS : Value} (h : CopT w vr vs nr F xr bo S x k U vS) (hb : Below x.heap.size x x') : CopT w vr vs nr F xr bo S x' k U vS :=
  ⟨h.below.trans (hb.mono h.below.size), h.box.later hb, h.res.later hb, h.blk.later hb, h.lo, h.rr.later hb, h.rb, h.rs.later hb, fun i hi => (h.st i hi).later hb, h.sp⟩
theorem St.farO {x : World} {B : Nat} {S : Sto} {u0 u1 u2 : Value} (h : St x B S u0 u1 u2) {b j : Nat} (hb : b < B) (u : Value) : St (x.setCell ⟨b, j, none⟩ u) B S u0 u1 u2 := h.within (within_set x b j u) (h.ownIn.mono (fun k hk => Or.inr (by omega)))
theorem CopT.put {w x y : World} {vr vs : Value} {nr : Nat} {F : Nat → Int} {xr : Value} {bo : Nat} {S : Nat → Sto} {k : Nat} {U : Nat → Nat → Value} {vS u u0 u1 u2 : Value} {zz : Nat} (h : CopT w vr vs nr F xr bo S x k U vS) (hk : St x zz (S k) u0 u1 u2) (hz : bo + 1 ≤ zz) (hs0 : ∀ q, vS.ownBlock = some q → q < zz) (ho : OwnV y (bo + 1) u (k + 1) (putU U k u0 u1 u2)) (hg : x.grownBy y vS.ownBlock) (hat : u.ownBlock = vS.ownBlock ∨ u.ownBlock = some x.heap.size) : CopT w vr vs nr F xr bo S (y.setCell ⟨bo, 1, none⟩ u) (k + 1) (putU U k u0 u1 u2) u := by
  have nb : ∀ b, b < bo + 1 → vS.ownBlock ≠ some b := fun b hb e => by have := (h.rs.block b e).1; omega
  have hlo := h.lo
  have bel : Below w.heap.size w y := ⟨hg.os.trans h.below.os, hg.tape.trans h.below.tape, hg.output.trans h.below.output, Nat.le_trans h.below.size hg.size, fun i hi => (hg.block i (Nat.lt_of_lt_of_le hi h.below.size) (fun e => nb i (by omega) e.symm)).trans (h.below.block i hi)⟩
  have stx : ∀ i, i < k + 1 → St x (bo + 1) (S i) (putU U k u0 u1 u2 i 0) (putU U k u0 u1 u2 i 1) (putU U k u0 u1 u2 i 2) := fun i hi => by
    by_cases e : i = k
    · subst e
      simp only [putU, if_true]
      exact hk.mono hz
    · simp only [putU, if_neg e]
      exact h.st i (by omega)
  have spx : ∀ q, vS.ownBlock = some q → Spare (k + 1) S (putU U k u0 u1 u2) q := fun q hq i hi => by
    by_cases e : i = k
    · subst e
      simp only [putU, if_true]
      exact hk.ownIn.mono (fun p hp => by have := hs0 q hq; omega)
    · have := h.sp q hq i (by omega)
      simp only [putU, if_neg e]
      exact this
  refine ⟨bel.setCell (by show w.heap.size ≤ bo; omega) _, (blk2_past h.box hg (nb _ (by omega))).setFar (by show w.heap.size ≠ bo; omega) _, (blk2_past h.res hg (nb _ (by omega))).setFar (by show w.heap.size + 1 ≠ bo; omega) _, (blk2_past h.blk hg (nb _ (by omega))).set1 _, hlo, ?_, h.rb, ho.far (Nat.lt_succ_self _) _, fun i hi => ?_, fun q hq => ?_⟩
  · have r1 := h.rr.turned hg (fun hp q hq e => nb q (by have := h.rb hp q hq; omega) e.symm)
    exact r1.within (within_set y bo 1 u) (fun hp q hq => Or.inl (h.rb hp q hq))
  · obtain ⟨s0, s1, s2⟩ := stx i hi
    have hs : St y (bo + 1) (S i) (putU U k u0 u1 u2 i 0) (putU U k u0 u1 u2 i 1) (putU U k u0 u1 u2 i 2) := ⟨s0.turned hg (fun hp q hq e => (spx q e.symm i hi).1 hp q hq rfl), s1.turned hg (fun hp q hq e => (spx q e.symm i hi).2.1 hp q hq rfl), s2.turned hg (fun hp q hq e => (spx q e.symm i hi).2.2 hp q hq rfl)⟩
    exact hs.farO (Nat.lt_succ_self _) _
  · rcases hat with e | e
    · exact spx q (e ▸ hq)
    · rw [e] at hq
      simp at hq
      intro i hi
      exact (stx i hi).ownIn.mono (fun p hp => by omega)
/-- What the copying region reads: the groups' box and the store. -/
def CopE (w : World) (vr vs : Value) (g o k : Nat) (s0 s1 s2 : Value) (x : World) : Prop :=
  Blk2 x w.heap.size vr vs ∧ x.cell? ⟨g, o + k * 3, none⟩ = some s0 ∧ x.cell? ⟨g, o + k * 3 + 1, none⟩ = some s1 ∧ x.cell? ⟨g, o + k * 3 + 2, none⟩ = some s2
theorem CopE.kept {w x x' : World} {vr vs : Value} {g o k : Nat} {s0 s1 s2 : Value} (h : CopE w vr vs g o k s0 s1 s2 x) (hb : ∀ q, q = w.heap.size ∨ q = g → x'.heap[q]? = x.heap[q]?) : CopE w vr vs g o k s0 s1 s2 x' := by
  obtain ⟨h1, h3, h4, h5⟩ := h
  have e := hb g (Or.inr rfl)
  exact ⟨h1.kept (hb _ (Or.inl rfl)), (World.cell?_of_block (w := x) (a := ⟨g, o + k * 3, none⟩) e).trans h3, (World.cell?_of_block (w := x) (a := ⟨g, o + k * 3 + 1, none⟩) e).trans h4, (World.cell?_of_block (w := x) (a := ⟨g, o + k * 3 + 2, none⟩) e).trans h5⟩
set_option maxRecDepth 100000 in
set_option maxHeartbeats 16000000 in
theorem l7Copy_is (nr : Nat) (F : Nat → Int) (n : Nat) (S : Nat → Sto) (V : Nat → Nat → Value) (vr vs : Value) (B : Nat) (w : World) (h : Grs w B nr F n S V vr vs) (hr : 0 < nr ∧ nr ≤ 12) (hn : n ≤ 12) (hs : ∀ i, i < n → (S i).nc ≤ 1048576 ∧ (S i).nl ≤ 1048576 ∧ (S i).nw ≤ 1048576) :
    Calls Tryz.prog 54 #[.agg #[vr, vs]] w fun e w' => ∃ xr vS U, e = .returned (.agg #[xr, vS]) ∧ (Row w' w.heap.size 3 nr F xr ∧ OwnV w' w.heap.size vS n U ∧ (∀ i, i < n → St w' w.heap.size (S i) (U i 0) (U i 1) (U i 2)) ∧ (∀ q, vS.ownBlock = some q → Spare n S U q ∧ xr.ownBlock ≠ some q)) ∧ Below w.heap.size w w' := by
  obtain ⟨a0, c0, a1, c1, rfl, rfl⟩ := h.form
  have HG : Hid (Grs w B nr F n S V (.slice a0 nr c0) (.slice a1 n c1)) := h
  have HS : Hid (∀ i, i < n → (S i).nc ≤ 1048576 ∧ (S i).nl ≤ 1048576 ∧ (S i).nw ≤ 1048576) := hs
  clear h hs
  obtain ⟨ad, rfl⟩ : ∃ a, a0 = some a := by
    obtain ⟨ao, cp, hv, h'⟩ := HG.out.1
    obtain ⟨g, o, rfl, _⟩ := h' hr.1
    simp only [Value.slice.injEq] at hv
    exact ⟨_, hv.1⟩
  obtain ⟨i0, hi, hz0, hz1, hz2⟩ := info_parts info_Range
  obtain ⟨j0, gi, gz0, gz1, gz2⟩ := info_parts info_Store
  go_enter Tryz.func54, Tryz.ntmps54
  have OE : (((w.alloc (.cells #[.slice (some ad) nr c0, .slice a1 n c1] 36)).alloc (.cells #[.slice none 0 0, .slice none 0 0] 36)).alloc (.cells #[] 152)).ownsRow (w.heap.size + 2) 152 3 (.slice (some ⟨w.heap.size + 1 + 1, 0, none⟩) 0 0) 0 [] := by
    have := own_empty ((w.alloc (.cells #[.slice (some ad) nr c0, .slice a1 n c1] 36)).alloc (.cells #[.slice none 0 0, .slice none 0 0] 36)) 152 3
    rw [World.size_alloc, World.size_alloc] at this
    exact this
  have RC : ∀ j u, (vals F (nr * 3))[j]? = some u → (((w.alloc (.cells #[.slice (some ad) nr c0, .slice a1 n c1] 36)).alloc (.cells #[.slice none 0 0, .slice none 0 0] 36)).alloc (.cells #[] 152)).cell? (ad.add j) = some u := row_cells (((HG.out.1.alloc _).alloc _).alloc _)
  have b3 : Hid (Blk2 (((w.alloc (.cells #[.slice (some ad) nr c0, .slice a1 n c1] 36)).alloc (.cells #[.slice none 0 0, .slice none 0 0] 36)).alloc (.cells #[] 152)) w.heap.size (.slice (some ad) nr c0) (.slice a1 n c1)) := ((Blk2.new w _ _ _).alloc _).alloc _
  have b4 : Hid (Blk2 (((w.alloc (.cells #[.slice (some ad) nr c0, .slice a1 n c1] 36)).alloc (.cells #[.slice none 0 0, .slice none 0 0] 36)).alloc (.cells #[] 152)) (w.heap.size + 1) (.slice none 0 0) (.slice none 0 0)) := by
    have := Blk2.new (w.alloc (.cells #[.slice (some ad) nr c0, .slice a1 n c1] 36)) (.slice none 0 0) (.slice none 0 0) 36
    rw [World.size_alloc] at this
    exact this.alloc _
  have BW : Hid (Below w.heap.size w (((w.alloc (.cells #[.slice (some ad) nr c0, .slice a1 n c1] 36)).alloc (.cells #[.slice none 0 0, .slice none 0 0] 36)).alloc (.cells #[] 152)) ∧ (((w.alloc (.cells #[.slice (some ad) nr c0, .slice a1 n c1] 36)).alloc (.cells #[.slice none 0 0, .slice none 0 0] 36)).alloc (.cells #[] 152)).heap.size = w.heap.size + 3) := ⟨((below_alloc _ _).alloc (by simp) _).alloc (by simp; omega) _, by simp⟩
  obtain ⟨⟨p0, p1⟩, _⟩ := b3.out
  go_wp2_with (at_builtin; refine wpList_append_own _ rfl _ _ 33 rfl (w.heap.size + 2) 152 i0 (.agg #[.int .i64 0, .int .i64 0, .int .i64 0]) 3 24 Tryz.underlying33 hi hz0 hz1 hz2 rfl (by decide) _ 0 [] rfl OE ad nr c0 (vals F (nr * 3)) rfl (vals_length _ _) RC (vals_one _ _) ?c3 ?c4 ?c5 ?_)
  case c3 => unfold maxLen; omega
  case c4 => omega
  case c5 => simp
  intro xr w1 ho hg _
  have HO : Own w1 (w.heap.size + 2) 152 3 nr F xr := by simpa [Own] using ho
  obtain ⟨xa, xc, rfl⟩ := HO.form
  have nb : ∀ q, q < w.heap.size + 2 → (Value.slice (some ⟨w.heap.size + 1 + 1, 0, none⟩) 0 0).ownBlock ≠ some q := fun q hq e => by simp [Value.ownBlock] at e; omega
  have T0 : Hid (CopT w (.slice (some ad) nr c0) (.slice a1 n c1) nr F (.slice xa nr xc) w1.heap.size S (w1.alloc (.cells #[.slice xa nr xc, .slice none 0 0] 36)) 0 (fun _ _ => .bool true) (.slice none 0 0)) := by
    have hsz : w.heap.size + 3 ≤ w1.heap.size := by have := hg.size; rw [BW.out.2] at this; exact this
    refine ⟨(below_grownBy BW.out.1 (by rw [BW.out.2]; omega) (fun b hb => by simp [Value.ownBlock] at hb; omega) hg).alloc (by omega) _, (blk2_past b3.out hg (nb _ (by omega))).alloc _, (blk2_past b4.out hg (nb _ (by omega))).alloc _, Blk2.new _ _ _ _, by omega, HO.row.1.alloc _, fun hp q hq => (HO.row.1.lt hp q hq).2, ⟨rfl, Or.inl ⟨rfl, rfl⟩⟩, fun i hi => absurd hi (Nat.not_lt_zero i), fun q e => by cases e⟩
  clear ho hg HO nb p0 p1 b3 b4 OE RC BW
  go_upto_region 2 with fail
  generalize w1.alloc (.cells #[.slice xa nr xc, .slice none 0 0] 36) = x0 at T0 ⊢
  generalize w1.heap.size = bo at T0 ⊢
  obtain ⟨⟨p0, p1⟩, _⟩ := T0.out.box
  go_wp2
  go_loopw [4] (fun i wr => ∃ (k : Nat) (U : Nat → Nat → Value) (sa : Option Addr) (sc : Nat), k ≤ n ∧ i = .int .i64 k ∧ Hid (CopT w (.slice (some ad) nr c0) (.slice a1 n c1) nr F (.slice xa nr xc) bo S wr k U (.slice sa k sc))) (fun i _ => n - (intOf i).toNat)
  case atStart => exact ⟨0, _, none, 0, Nat.zero_le _, rfl, T0⟩
  case round =>
    obtain ⟨k, U, sa, sc, hk, rfl, TT⟩ := hrel
    clear p0 p1
    obtain ⟨⟨p0, p1⟩, _⟩ := TT.out.box
    by_cases hlt : k < n
    · obtain ⟨g, o, rfl, _, hg, ⟨b0', b1', b2'⟩, sk⟩ := HG.out.2.at hlt
      obtain ⟨i0', d0', i1', d1', i2', d2', e0', e1', e2'⟩ := sk.form
      rw [e0'] at b0'
      rw [e1'] at b1'
      rw [e2'] at b2'
      rw [e0', e1', e2'] at sk
      obtain ⟨n0, hn0⟩ : ∃ x, (S k).nc = x := ⟨_, rfl⟩
      obtain ⟨n1, hn1⟩ : ∃ x, (S k).nl = x := ⟨_, rfl⟩
      obtain ⟨n2, hn2⟩ : ∃ x, (S k).nw = x := ⟨_, rfl⟩
      have y0 := (TT.out.below.cell (p := ⟨g, o + k * 3, none⟩) hg).trans b0'
      have y1 := (TT.out.below.cell (p := ⟨g, o + k * 3 + 1, none⟩) hg).trans b1'
      have y2 := (TT.out.below.cell (p := ⟨g, o + k * 3 + 2, none⟩) hg).trans b2'
      rw [hn0] at y0
      rw [hn1] at y1
      rw [hn2] at y2
      rw [hn0, hn1, hn2] at sk
      have SK : Hid (St wr B (S k) (.slice i0' n0 d0') (.slice i1' n1 d1') (.slice i2' n2 d2')) := sk.later TT.out.below
      have ZG : Hid (g < w.heap.size) := hg
      have ZB : Hid (w.heap.size + 2 ≤ bo ∧ bo < wr.heap.size) := ⟨TT.out.lo, TT.out.blk.lt⟩
      have HS0 : Hid (CopE w (.slice (some ad) nr c0) (.slice (some ⟨g, o, none⟩) n c1) g o k (.slice i0' n0 d0') (.slice i1' n1 d1') (.slice i2' n2 d2') wr) := ⟨TT.out.box, y0, y1, y2⟩
      have G0 : wr.drew.cell? ⟨bo, 1, none⟩ = some (.slice sa k sc) := TT.out.blk.1.2
      clear sk e0' e1' e2' b0' b1' b2' hn0 hn1 hn2 y0 y1 y2 hg
      go_upto_region 5 with fail
      clear p0 p1
      refine wp_region_held_drew (S := CopE w (.slice (some ad) nr c0) (.slice (some ⟨g, o, none⟩) n c1) g o k (.slice i0' n0 d0') (.slice i1' n1 d1') (.slice i2' n2 d2')) (by kernel_rfl) (HS0.out.kept (fun _ _ => rfl)) (fun hS => ?_)
      clear HS0
      refine tkH 0 ?_ hS (fun wx hx => ?_) ?_; rotate_left
      · obtain ⟨⟨⟨hx0, hx1⟩, _⟩, hx2, hx3, hx4⟩ := hx; go_simp; try with_reducible rfl
      refine tkH 2 ?_ hS (fun wx hx => ?_) ?_; rotate_left
      · obtain ⟨⟨⟨hx0, hx1⟩, _⟩, hx2, hx3, hx4⟩ := hx; go_simp; try with_reducible rfl
      refine tkH 3 ?_ hS (fun wx hx => ?_) ?_; rotate_left
      · obtain ⟨⟨⟨hx0, hx1⟩, _⟩, hx2, hx3, hx4⟩ := hx; go_simp; try with_reducible rfl
      refine tkH 4 ?_ hS (fun wx hx => ?_) ?_; rotate_left
      · obtain ⟨⟨⟨hx0, hx1⟩, _⟩, hx2, hx3, hx4⟩ := hx; go_simp; try with_reducible rfl
      refine tkH 5 ?_ hS (fun wx hx => ?_) ?_; rotate_left
      · obtain ⟨⟨⟨hx0, hx1⟩, _⟩, hx2, hx3, hx4⟩ := hx; go_simp; try with_reducible rfl
      refine tkH 6 ?_ hS (fun wx hx => ?_) ?_; rotate_left
      · obtain ⟨⟨⟨hx0, hx1⟩, _⟩, hx2, hx3, hx4⟩ := hx; go_simp; try with_reducible rfl
      refine wpAnyH_ready (rs := [1, 7]) (by kernel_rfl) (by simp) ?_
      refine AllReadyH.cons rfl (fun K hK => ?_) (AllReadyH.cons rfl (fun K hK => ?_) AllReadyH.nil)
      focus
        go_simp
        refine hK.out _ _ hS (fun hS => ?_)
        clear hK K
        refine rdH 7 (fun K hK => ?_)
        go_simp
        go_wp2_with fail
        refine (l2Copy_is (S k) _ _ _ B _ (SK.out.later (below_dr (Below.refl _ _) 1)) (HS.out k hlt)).mono ?_
        rintro e x2 ⟨d0, e0, d1, e1, d2, e2, rfl, ⟨s3, f3, a3⟩, q2⟩
        have q2' : Below wr.heap.size wr x2 := ⟨q2.os, q2.tape, q2.output, q2.size, q2.block⟩
        have TC : Hid (CopT w (.slice (some ad) nr c0) (.slice (some ⟨g, o, none⟩) n c1) nr F (.slice xa nr xc) bo S (x2.alloc (.cells #[.slice d0 (S k).nc e0, .slice d1 (S k).nl e1, .slice d2 (S k).nw e2] 149)) k U (.slice sa k sc)) := (TT.out.later q2').later (below_alloc _ _)
        have SC : Hid (St (x2.alloc (.cells #[.slice d0 (S k).nc e0, .slice d1 (S k).nl e1, .slice d2 (S k).nw e2] 149)) wr.heap.size (S k) (.slice d0 (S k).nc e0) (.slice d1 (S k).nl e1) (.slice d2 (S k).nw e2)) := s3.alloc _
        have G2 : x2.cell? ⟨bo, 1, none⟩ = some (.slice sa k sc) := (TT.out.later q2').blk.1.2
        have G3 : (x2.alloc (.cells #[.slice d0 (S k).nc e0, .slice d1 (S k).nl e1, .slice d2 (S k).nw e2] 149)).cell? ⟨bo, 1, none⟩ = some (.slice sa k sc) := TC.out.blk.1.2
        have hS2 : CopE w (.slice (some ad) nr c0) (.slice (some ⟨g, o, none⟩) n c1) g o k (.slice i0' n0 d0') (.slice i1' n1 d1') (.slice i2' n2 d2') x2 := hS.kept (fun q hq => q2.block q (by have := ZB.out; have := ZG.out; simp; rcases hq with e | e <;> omega))
        have hS3 : CopE w (.slice (some ad) nr c0) (.slice (some ⟨g, o, none⟩) n c1) g o k (.slice i0' n0 d0') (.slice i1' n1 d1') (.slice i2' n2 d2') (x2.alloc (.cells #[.slice d0 (S k).nc e0, .slice d1 (S k).nl e1, .slice d2 (S k).nw e2] 149)) := hS2.kept (fun q hq => (below_alloc x2 _).block q (by have := ZB.out; have := ZG.out; have := q2'.size; rcases hq with e | e <;> omega))
        clear s3 f3 a3 q2 q2'
        go_wp2_with fail
        refine hK.out _ _ hS2 (fun hS => ?_)
        clear hK K hS2
        refine rdH 8 (fun K hK => ?_)
        go_simp
        refine hK.out _ _ hS3 (fun hS => ?_)
      rotate_left
      focus
        go_simp
        go_wp2_with fail
        refine (l2Copy_is (S k) _ _ _ B _ (SK.out.later (below_dr (Below.refl _ _) 1)) (HS.out k hlt)).mono ?_
        rintro e x2 ⟨d0, e0, d1, e1, d2, e2, rfl, ⟨s3, f3, a3⟩, q2⟩
        have q2' : Below wr.heap.size wr x2 := ⟨q2.os, q2.tape, q2.output, q2.size, q2.block⟩
        have TC : Hid (CopT w (.slice (some ad) nr c0) (.slice (some ⟨g, o, none⟩) n c1) nr F (.slice xa nr xc) bo S (x2.alloc (.cells #[.slice d0 (S k).nc e0, .slice d1 (S k).nl e1, .slice d2 (S k).nw e2] 149)) k U (.slice sa k sc)) := (TT.out.later q2').later (below_alloc _ _)
        have SC : Hid (St (x2.alloc (.cells #[.slice d0 (S k).nc e0, .slice d1 (S k).nl e1, .slice d2 (S k).nw e2] 149)) wr.heap.size (S k) (.slice d0 (S k).nc e0) (.slice d1 (S k).nl e1) (.slice d2 (S k).nw e2)) := s3.alloc _
        have G2 : x2.cell? ⟨bo, 1, none⟩ = some (.slice sa k sc) := (TT.out.later q2').blk.1.2
        have G3 : (x2.alloc (.cells #[.slice d0 (S k).nc e0, .slice d1 (S k).nl e1, .slice d2 (S k).nw e2] 149)).cell? ⟨bo, 1, none⟩ = some (.slice sa k sc) := TC.out.blk.1.2
        have hS2 : CopE w (.slice (some ad) nr c0) (.slice (some ⟨g, o, none⟩) n c1) g o k (.slice i0' n0 d0') (.slice i1' n1 d1') (.slice i2' n2 d2') x2 := hS.kept (fun q hq => q2.block q (by have := ZB.out; have := ZG.out; simp; rcases hq with e | e <;> omega))
        have hS3 : CopE w (.slice (some ad) nr c0) (.slice (some ⟨g, o, none⟩) n c1) g o k (.slice i0' n0 d0') (.slice i1' n1 d1') (.slice i2' n2 d2') (x2.alloc (.cells #[.slice d0 (S k).nc e0, .slice d1 (S k).nl e1, .slice d2 (S k).nw e2] 149)) := hS2.kept (fun q hq => (below_alloc x2 _).block q (by have := ZB.out; have := ZG.out; have := q2'.size; rcases hq with e | e <;> omega))
        clear s3 f3 a3 q2 q2'
        go_wp2_with fail
        refine hK.out _ _ hS2 (fun hS => ?_)
        clear hK K hS2
        refine wpAnyH_ready (rs := [1, 8]) (by kernel_rfl) (by simp) ?_
        refine AllReadyH.cons rfl (fun K hK => ?_) (AllReadyH.cons rfl (fun K hK => ?_) AllReadyH.nil)
        focus
          go_simp
          refine hK.out _ _ hS (fun hS => ?_)
          clear hK K
          refine rdH 8 (fun K hK => ?_)
          go_simp
          refine hK.out _ _ hS3 (fun hS => ?_)
        rotate_left
        focus
          go_simp
          refine hK.out _ _ hS3 (fun hS => ?_)
          clear hK K
          refine rdH 1 (fun K hK => ?_)
          go_simp
          refine hK.out _ _ hS (fun hS => ?_)
        rotate_left
      rotate_left 2
      all_goals
        clear hK K
        refine rdH 9 (fun K hK => ?_)
        refine step_append_lies _ (by rfl) _ _ 34 (by rfl) (bo + 1) 149 j0 (.agg #[.slice none 0 0, .slice none 0 0, .slice none 0 0]) 3 72 Tryz.underlying34 gi gz0 gz1 gz2 rfl (by omega) (.slice sa k sc) k _ (by rfl) TC.out.rs ⟨x2.heap.size, 0, none⟩ 1 1 [.slice d0 (S k).nc e0, .slice d1 (S k).nl e1, .slice d2 (S k).nw e2] (by rfl) (by rfl) (World.news_of_block (cs := #[.slice d0 (S k).nc e0, .slice d1 (S k).nl e1, .slice d2 (S k).nw e2]) (t := 149) (fr := (0, 0)) (heap_alloc_new x2 _)) (by simp [Value.oneCell']) (by omega) (by unfold maxLen; omega) (by omega) TC.out.blk.lt (x2.heap.size + 1) (by simp) ?_
        intro hh cap' y OY GY AY LY
        have OS : OwnV y (bo + 1) (.slice (some ⟨hh, 0, none⟩) (k + 1) cap') (k + 1) (putU U k (.slice d0 (S k).nc e0) (.slice d1 (S k).nl e1) (.slice d2 (S k).nw e2)) := by
          unfold OwnV
          rw [listU_new]
          exact OY
        have T2 : Hid (CopT w (.slice (some ad) nr c0) (.slice (some ⟨g, o, none⟩) n c1) nr F (.slice xa nr xc) bo S (y.setCell ⟨bo, 1, none⟩ (.slice (some ⟨hh, 0, none⟩) (k + 1) cap')) (k + 1) (putU U k (.slice d0 (S k).nc e0) (.slice d1 (S k).nl e1) (.slice d2 (S k).nw e2)) (.slice (some ⟨hh, 0, none⟩) (k + 1) cap')) := TC.out.put (zz := wr.heap.size) SC.out TT.out.blk.lt (fun q e => (TT.out.rs.block q e).2) OS GY (by rcases AY with e | e; exact Or.inl e.symm; exact Or.inr (by rw [e]; simp [Value.ownBlock]))
        have nbs : ∀ q, q < bo + 1 → (Value.slice sa k sc).ownBlock ≠ some q := fun q hq e => by have := (TC.out.rs.block q e).1; omega
        have hSy : CopE w (.slice (some ad) nr c0) (.slice (some ⟨g, o, none⟩) n c1) g o k (.slice i0' n0 d0') (.slice i1' n1 d1') (.slice i2' n2 d2') y := hS3.kept (fun q hq => GY.block q (by have := ZB.out; have := ZG.out; have := TC.out.blk.lt; rcases hq with e | e <;> omega) (fun e => nbs q (by have := ZB.out; have := ZG.out; rcases hq with e | e <;> omega) e.symm))
        have hSz : CopE w (.slice (some ad) nr c0) (.slice (some ⟨g, o, none⟩) n c1) g o k (.slice i0' n0 d0') (.slice i1' n1 d1') (.slice i2' n2 d2') (y.setCell ⟨bo, 1, none⟩ (.slice (some ⟨hh, 0, none⟩) (k + 1) cap')) := hSy.kept (fun q hq => Below.heap_setCell _ _ _ q (by show q ≠ bo; have := ZB.out; have := ZG.out; rcases hq with e | e <;> omega))
        refine hK.out _ _ hSy (fun hS => ?_)
        clear hK K hSy
        refine tkH 10 ?_ hS (fun wx hx => ?_) ?_; rotate_left
        · obtain ⟨⟨⟨hx0, hx1⟩, _⟩, hx2, hx3, hx4⟩ := hx; go_simp; try with_reducible rfl
        obtain ⟨⟨t0, t1⟩, ft0, ft1⟩ := blk2_past TC.out.blk GY (nbs _ (by omega))
        refine rdH 11 (fun K hK => ?_)
        go_simp
        refine hK.out _ _ hSz (fun hS => ?_)
        clear hK K hSz
        refine wpAnyH_done (by kernel_rfl) ?_ _
        clear hS
        go_simp
        generalize y.setCell ⟨bo, 1, none⟩ (.slice (some ⟨hh, 0, none⟩) (k + 1) cap') = x4 at T2 ⊢
        clear t0 t1 ft0 ft1 OY GY AY LY OS TC SC TT G0 G2 G3 nbs hS3
        go_wp2
        go_roundw
        case rel => exact ⟨k + 1, putU U k (.slice d0 (S k).nc e0) (.slice d1 (S k).nl e1) (.slice d2 (S k).nw e2), some ⟨hh, 0, none⟩, cap', by omega, by go_num, T2⟩
        case measure => simp [intOf]; omega
    · obtain rfl : k = n := by omega
      obtain ⟨⟨t0, t1⟩, _⟩ := TT.out.blk
      obtain ⟨⟨r0, r1⟩, f0, f1⟩ := TT.out.res
      go_wp2
      refine bodyPost_ret (v := .agg #[.slice xa nr xc, .slice sa k sc]) (by simp [results, Tryz.results54, go_sem, r0, r1]) rfl ⟨.slice xa nr xc, .slice sa k sc, U, rfl, ⟨?_, ?_, ?_, ?_⟩, (TT.out.below.setCell (Nat.le_succ _) _).setCell (Nat.le_succ _) _⟩
      · exact ((TT.out.rr.within (within_set _ (w.heap.size + 1) 0 _) (fun hp q hq => Or.inr (TT.out.rr.lt hp q hq).1)).within (within_set _ (w.heap.size + 1) 1 _) (fun hp q hq => Or.inr (TT.out.rr.lt hp q hq).1)).mono (by omega)
      · have hl := TT.out.lo
        have h1 := (TT.out.rs.far (a := ⟨w.heap.size + 1, 0, none⟩) (by show w.heap.size + 1 < bo + 1; omega) (.slice xa nr xc)).far (a := ⟨w.heap.size + 1, 1, none⟩) (by show w.heap.size + 1 < bo + 1; omega) (.slice sa k sc)
        exact World.ownsRow.mono h1 (by omega)
      · intro i hi
        have hl := TT.out.lo
        exact (((TT.out.st i hi).farO (b := w.heap.size + 1) (by omega) _).farO (b := w.heap.size + 1) (by omega) _).mono (by omega)
      · intro q hq
        exact ⟨TT.out.sp q hq, fun e => by have := TT.out.rb hr.1 q e; have := (TT.out.rs.block q hq).1; omega⟩
end

section
open Go.RowKit Go.Maps
end
end
end Go.Proofs.YtphfiojhpfdpdaaGreat

namespace Go.Proofs.YtphfiojhpfdpdaaGreat
open Go.RowKit

def lockIs (l : Nat → Int) (a : Int) (i : Nat) : Prop := l (i * 5) = a
end Go.Proofs.YtphfiojhpfdpdaaGreat

namespace Go.Proofs.YtphfiojhpfdpdaaGreat
open Go.RowKit

def firstL (l : Nat → Int) (nl : Nat) (key : Int) (i : Nat) : Prop := i < nl ∧ lockIs l key i ∧ ∀ j, j < i → ¬ lockIs l key j
theorem firstL.one {l : Nat → Int} {n : Nat} {a : Int} {i j : Nat} (h : firstL l n a i) (h' : firstL l n a j) : i = j := by
  rcases Nat.lt_trichotomy i j with e | e | e
  · exact absurd h.2.1 (h'.2.2 i e)
  · exact e
  · exact absurd h'.2.1 (h.2.2 j e)
/-- Key has a lock with a start that is not above ts. -/
def blocks (l : Nat → Int) (nl : Nat) (key ts : Int) : Prop := ∃ i, firstL l nl key i ∧ l (i * 5 + 1) ≤ ts
end Go.Proofs.YtphfiojhpfdpdaaGreat

namespace Go.Proofs.YtphfiojhpfdpdaaGreat
section
open Go.RowKit Go.Maps
/-- The rows of pointers that are worked on, and what they point at. -/
def Work (x : World) (B n : Nat) (F : Nat → Int) (S : Nat → Sto) (pa : Option Addr) (P : Nat → Nat) : Prop := PtrRow x n pa P ∧ ToldG x B n F S P
theorem PtrRow.later {x x' : World} {n : Nat} {pa : Option Addr} {P : Nat → Nat} (h : PtrRow x n pa P) (hb : Below x.heap.size x x') : PtrRow x' n pa P := fun hn => by
  obtain ⟨gp, op, e, hg, hc⟩ := h hn
  exact ⟨gp, op, e, Nat.lt_of_lt_of_le hg hb.size, fun i hi => (hb.cell (p := ⟨gp, op + i, none⟩) hg).trans (hc i hi)⟩
theorem Work.later {x x' : World} {B n : Nat} {F : Nat → Int} {S : Nat → Sto} {pa : Option Addr} {P : Nat → Nat} (h : Work x B n F S pa P) (hb : Below x.heap.size x x') : Work x' B n F S pa P := ⟨h.1.later hb, h.2.later hb⟩
end

section
open Go.RowKit
end

section
open Go.RowKit
end
end Go.Proofs.YtphfiojhpfdpdaaGreat

namespace Go.Proofs.YtphfiojhpfdpdaaGreat
section
open Go.RowKit
theorem lt_cell {X : World} {b k : Nat} {v : Value} (h : X.cell? ⟨b, k, none⟩ = some v) : b < X.heap.size := World.block_lt_of_cell? X ⟨b, k, none⟩ h
end

section
open Go.RowKit
end

section
open Go.RowKit
end
end Go.Proofs.YtphfiojhpfdpdaaGreat

namespace Go.Proofs.YtphfiojhpfdpdaaGreat
section
open Go.RowKit Go.Sort Go.Shelf Go.Lib
end

section
open Go.RowKit Go.Sort Go.Shelf Go.Lib
theorem Own.congr {x : World} {B : Nat} {e : TypeId} {m n : Nat} {F G : Nat → Int} {v : Value} (h : Own x B e m n F v) (hF : ∀ p, p < n * m → F p = G p) : Own x B e m n G v := by
  have hv : vals F (n * m) = vals G (n * m) := by
    unfold vals
    refine List.map_congr_left (fun p hp => ?_)
    rw [hF p (List.mem_range.1 hp)]
  unfold Own at *
  rw [← hv]
  exact h
end
end Go.Proofs.YtphfiojhpfdpdaaGreat

namespace Go.Proofs.YtphfiojhpfdpdaaGreat
open Go.RowKit Go.Lib

theorem step_appInM {ops : Array Oper} {o : Oper} {a : Act} {w : World} {K : Act → World → Prop} {Q : Exit → Act → World → Prop} {E : Prop}
    (hg : o.guard = none) (d x : Operand) (dT sT : TypeId) (hop : o.op = Op.call { callee := Callee.builtin Builtin.append, args := #[d, x], argTypes := #[dT, sT] })
    (v u : Value) (hd : a.eval d = v) (hx : a.eval x = u) {v' : Value} {w' : World} (hr : (Builtin.append_ #[dT, sT] o.type #[v, u]).run Tryz.prog w = .ok v' w') (hK : K (a.put o.dst v') w') :
    if Region.wanted o (yielded ops a.tmps) = true then Oper.wp Tryz.prog o a w K Q else E := by
  have hw : Region.wanted o (yielded ops a.tmps) = true := by simp [Region.wanted, hg]
  rw [if_pos hw]
  unfold Oper.wp
  simp [execOp, hop, resolve, invoke, builtin, hd, hx, hr, Result.andThen]
  exact hK
end Go.Proofs.YtphfiojhpfdpdaaGreat

namespace Go.Proofs.YtphfiojhpfdpdaaGreat
open Go.RowKit

/-- Five cells of a block. -/
def Blk5w (x : World) (b : Nat) (a0 a1 a2 a3 a4 : Value) : Prop := (x.cell? ⟨b, 0, none⟩ = some a0 ∧ x.cell? ⟨b, 1, none⟩ = some a1 ∧ x.cell? ⟨b, 2, none⟩ = some a2 ∧ x.cell? ⟨b, 3, none⟩ = some a3 ∧ x.cell? ⟨b, 4, none⟩ = some a4) ∧ ∀ j, x.frozen? ⟨b, j, none⟩ = false
theorem Blk5w.kept {x x' : World} {b : Nat} {a0 a1 a2 a3 a4 : Value} (h : Blk5w x b a0 a1 a2 a3 a4) (hb : x'.heap[b]? = x.heap[b]?) : Blk5w x' b a0 a1 a2 a3 a4 := by
  have hc : ∀ j, x'.cell? ⟨b, j, none⟩ = x.cell? ⟨b, j, none⟩ := fun j => World.cell?_of_block (w := x) hb
  have hf : ∀ j, x'.frozen? ⟨b, j, none⟩ = x.frozen? ⟨b, j, none⟩ := fun j => World.frozen?_of_block (w := x) hb
  obtain ⟨⟨h0, h1, h2, h3, h4⟩, h5⟩ := h
  exact ⟨⟨(hc 0).trans h0, (hc 1).trans h1, (hc 2).trans h2, (hc 3).trans h3, (hc 4).trans h4⟩, fun j => (hf j).trans (h5 j)⟩
theorem Blk5w.lt {x : World} {b : Nat} {a0 a1 a2 a3 a4 : Value} (h : Blk5w x b a0 a1 a2 a3 a4) : b < x.heap.size := World.block_lt_of_cell? x _ h.1.1
theorem Blk5w.later {x x' : World} {b : Nat} {a0 a1 a2 a3 a4 : Value} (h : Blk5w x b a0 a1 a2 a3 a4) (hb : Below x.heap.size x x') : Blk5w x' b a0 a1 a2 a3 a4 := h.kept (hb.block b h.lt)
/-- The cells of n transactions, one behind the other. -/
def tvals (T : Nat → Tx) (Y : Nat → Value) : Nat → List Value
  | 0 => []
  | n + 1 => tvals T Y n ++ [.int .i64 (T n).s, .int .i64 (T n).c, .int .i64 (T n).u, .int .i64 (T n).st, .int .i64 (T n).a, Y n]
theorem tvals_length (T : Nat → Tx) (Y : Nat → Value) : ∀ n, (tvals T Y n).length = n * 6
  | 0 => rfl
  | n + 1 => by
    rw [tvals, List.length_append, tvals_length T Y n]
    simp only [List.length_cons, List.length_nil]
    omega
theorem tvals_get (T : Nat → Tx) (Y : Nat → Value) : ∀ (n i j : Nat), i < n → j < 6 → (tvals T Y n)[i * 6 + j]? = some (txV (T i) (Y i) j)
  | 0, i, _, hi, _ => absurd hi (Nat.not_lt_zero i)
  | n + 1, i, j, hi, hj => by
    rw [tvals]
    rcases Nat.lt_or_ge i n with q | q
    · rw [List.getElem?_append_left (by rw [tvals_length]; omega)]
      exact tvals_get T Y n i j q hj
    · obtain rfl : i = n := by omega
      rw [List.getElem?_append_right (by rw [tvals_length]; omega), tvals_length, show i * 6 + j - i * 6 = j by omega]
      match j, hj with
      | 0, _ => rfl
      | 1, _ => rfl
      | 2, _ => rfl
      | 3, _ => rfl
      | 4, _ => rfl
      | 5, _ => rfl
theorem tvals_congr {T : Nat → Tx} {Y Z : Nat → Value} : ∀ {n : Nat}, (∀ i, i < n → Y i = Z i) → tvals T Y n = tvals T Z n
  | 0, _ => rfl
  | n + 1, h => by rw [tvals, tvals, tvals_congr (fun i hi => h i (by omega)), h n (by omega)]
/-- Transactions under way: a row of their own, items of their own. -/
structure WrkT (x : World) (B n : Nat) (T : Nat → Tx) (Y : Nat → Value) (v : Value) : Prop where
  own : x.ownsRow B 69 6 v n (tvals T Y n)
  items : ∀ i, i < n → Row x B 3 (T i).m (T i).L (Y i) ∧ CapOk (Y i) ∧ (0 < (T i).m → ∀ k, (Y i).ownBlock = some k → v.ownBlock ≠ some k ∧ k < x.heap.size)
  free : ∀ i, i < n → Free x ((T i).m * 3) (Y i)
  apart : ∀ i j, i < n → j < n → i ≠ j → 0 < (T i).m → 0 < (T j).m → ∀ q, (Y i).ownBlock = some q → (Y j).ownBlock ≠ some q
theorem WrkT.txs {x : World} {B n : Nat} {T : Nat → Tx} {Y : Nat → Value} {v : Value} (h : WrkT x B n T Y v) : Txs x B n T Y v := by
  refine ⟨?_, fun i hi => ⟨(h.items i hi).1, (h.items i hi).2.1⟩⟩
  rcases h.own.2 with ⟨rfl, rfl⟩ | ⟨g, cap, cur, rfl, hB, hg, _⟩
  · exact ⟨_, _, rfl, fun q => absurd q (Nat.lt_irrefl 0)⟩
  · refine ⟨_, _, rfl, fun hn => ⟨g, 0, rfl, hB, (Array.getElem?_eq_some_iff.1 hg).1, fun i hi j hj => ?_⟩⟩
    rw [Nat.zero_add, World.ownsRow.cellAt h.own _ (by omega), tvals_get T Y n i j hi hj]
theorem WrkT.grown {x x' : World} {B n : Nat} {T : Nat → Tx} {Y : Nat → Value} {v : Value} {row : Option Nat} (h : WrkT x B n T Y v) (hg : x.grownBy x' row) (hv : ∀ k, v.ownBlock = some k → row ≠ some k) (hi : ∀ i, i < n → 0 < (T i).m → ∀ k, (Y i).ownBlock = some k → row ≠ some k) : WrkT x' B n T Y v :=
  ⟨h.own.kept hg (by cases hq : v.ownBlock with | none => exact Or.inl rfl | some k => exact Or.inr (fun e => hv k hq e.symm)), fun i hin => ⟨(h.items i hin).1.turned hg (fun h0 k hk e => hi i hin h0 k hk e.symm), (h.items i hin).2.1, fun h0 k hk => ⟨((h.items i hin).2.2 h0 k hk).1, Nat.lt_of_lt_of_le ((h.items i hin).2.2 h0 k hk).2 hg.size⟩⟩, fun i hin => (h.free i hin).turned (h.items i hin).1 hg (fun h0 k hk e => hi i hin h0 k hk e.symm), h.apart⟩
theorem WrkT.later {x x' : World} {B n : Nat} {T : Nat → Tx} {Y : Nat → Value} {v : Value} (h : WrkT x B n T Y v) (hb : Below x.heap.size x x') : WrkT x' B n T Y v :=
  h.grown (row := none) ⟨hb.os, hb.tape, hb.output, hb.size, fun i hi _ => hb.block i hi⟩ (fun _ _ e => by cases e) (fun _ _ _ _ _ e => by cases e)
/-- One more. -/
theorem WrkT.put {x : World} {B n : Nat} {T : Nat → Tx} {Y : Nat → Value} {v : Value} (h : WrkT x B n T Y v) {y v' : Value} {x' : World} (hy : Row x B 3 (T n).m (T n).L y ∧ CapOk y) (hyb : 0 < (T n).m → ∀ k, y.ownBlock = some k → v.ownBlock ≠ some k ∧ k < x.heap.size) (hyf : Free x ((T n).m * 3) y) (hya : ∀ i, i < n → 0 < (T i).m → 0 < (T n).m → ∀ q, (Y i).ownBlock = some q → y.ownBlock ≠ some q)
    (ho : x'.ownsRow B 69 6 v' (n + 1) (tvals T Y n ++ [.int .i64 (T n).s, .int .i64 (T n).c, .int .i64 (T n).u, .int .i64 (T n).st, .int .i64 (T n).a, y])) (hg : x.grownBy x' v.ownBlock) (hv' : ∀ k, v'.ownBlock = some k → v.ownBlock = some k ∨ x.heap.size ≤ k) : WrkT x' B (n + 1) T (fun i => if i = n then y else Y i) v' := by
  refine ⟨?_, fun i hi => ?_, fun i hi => ?_, fun i j hi hj hij h0 h1 q hq => ?_⟩
  · rw [tvals, if_pos rfl, tvals_congr (Z := Y) (fun i hi => if_neg (by omega))]
    exact ho
  · have hall : Row x B 3 (T i).m (T i).L (if i = n then y else Y i) ∧ CapOk (if i = n then y else Y i) ∧ (0 < (T i).m → ∀ k, (if i = n then y else Y i).ownBlock = some k → v.ownBlock ≠ some k ∧ k < x.heap.size) := by
      by_cases q : i = n
      · subst q
        rw [if_pos rfl]
        exact ⟨hy.1, hy.2, hyb⟩
      · rw [if_neg q]
        exact h.items i (by omega)
    refine ⟨hall.1.turned hg (fun h0 k hk e => (hall.2.2 h0 k hk).1 e.symm), hall.2.1, fun h0 k hk => ?_⟩
    have := hall.2.2 h0 k hk
    exact ⟨fun e => (hv' k e).elim this.1 (fun q => by omega), Nat.lt_of_lt_of_le this.2 hg.size⟩
  · by_cases q : i = n
    · subst q
      rw [if_pos rfl]
      exact hyf.turned hy.1 hg (fun h0 k hk e => (hyb h0 k hk).1 e.symm)
    · rw [if_neg q]
      exact (h.free i (by omega)).turned (h.items i (by omega)).1 hg (fun h0 k hk e => ((h.items i (by omega)).2.2 h0 k hk).1 e.symm)
  · by_cases q1 : i = n
    · subst q1
      rw [if_pos rfl] at hq
      rw [if_neg (fun e => hij e.symm)]
      exact fun e => hya j (by omega) h1 h0 q e hq
    · rw [if_neg q1] at hq
      by_cases q2 : j = n
      · subst q2
        rw [if_pos rfl]
        exact hya i (by omega) h0 h1 q hq
      · rw [if_neg q2]
        exact h.apart i j (by omega) (by omega) hij h0 h1 q hq
end Go.Proofs.YtphfiojhpfdpdaaGreat

namespace Go.Proofs.YtphfiojhpfdpdaaGreat
open Go.RowKit

theorem run_appX (t ty e : TypeId) (i : TypeInfo) (z : Value) (m bytes : Nat) (ht : Tryz.prog.underlying t = some (.slice e)) (hi : Tryz.prog.info? e = some i) (hz : i.zero = some z) (hsize : i.size = m) (hby : i.bytes = bytes) (hzs : z.cells.size = m) (hm : 0 < m) (hb5 : bytes ≤ 1000)
    (w : World) (base n0 : Nat) (L : List Int) (v : Value) (hown : OwnM w base e m v n0 L) (B n : Nat) (F : Nat → Int) (x : Value) (h : Row w B m n F x) (hn : n0 + n ≤ 2097152) (hbase : base ≤ w.heap.size) :
    ∃ ao cp w', (Builtin.append_ #[t, t] ty #[v, x]).run Tryz.prog w = .ok (.slice ao (n0 + n) cp) w' ∧ OwnM w' base e m (.slice ao (n0 + n) cp) (n0 + n) (L ++ nums F (n * m)) ∧ w.grownBy w' v.ownBlock ∧ ((Value.slice ao (n0 + n) cp).ownBlock = v.ownBlock ∨ (Value.slice ao (n0 + n) cp).ownBlock = some w.heap.size) := by
  have hbb : (n0 + n) * bytes ≤ 2097152 * 1000 := Nat.mul_le_mul hn hb5
  obtain ⟨ao, cp, rfl⟩ := h.form
  cases ao with
  | none =>
    have e0 : n = 0 := by
      rcases Nat.eq_zero_or_pos n with q | q
      · exact q
      · obtain ⟨g, o, hg, _⟩ := h.at q
        cases hg
    subst e0
    obtain ⟨av, cv, rfl⟩ := hown.form
    refine ⟨av, cv, w, ?_, ?_, ⟨rfl, rfl, rfl, Nat.le_refl _, fun _ _ _ => rfl⟩, Or.inl rfl⟩
    · rcases hown.2 with ⟨q, _⟩ | ⟨g, cap, cur, q, _, _, hnc, _⟩
      · cases q
        simp [Builtin.append_, run_underlying ht, sizeOf, typeInfo, hi, Builtin.lenOf, Builtin.firstCells]
      · cases q
        simp [Builtin.append_, run_underlying ht, sizeOf, typeInfo, hi, Builtin.lenOf, Builtin.firstCells, hnc, storeCells]
    · simpa [nums] using hown
  | some a =>
    obtain ⟨v', w', h1, h2, h3, _, h5⟩ := run_append_own_at (P := Tryz.prog) w base t ty e i z m bytes ht hi hz hsize hby hzs hm v n0 _ hown a n cp (vals F (n * m)) (vals_length _ _) (row_cells h) (vals_one _ _) (by unfold maxLen; omega) (by omega) hbase
    have h2' : OwnM w' base e m v' (n0 + n) (L ++ nums F (n * m)) := by
      unfold OwnM
      rw [List.map_append, nums_vals]
      exact h2
    obtain ⟨ao', cp', rfl⟩ := h2'.form
    exact ⟨ao', cp', w', h1, h2', h3, h5⟩
/-- .. with the word where the new row lies, for the walk. -/
theorem wpList_appX (e : TypeId) (i : TypeInfo) (z : Value) (m bytes : Nat) {ops : Array Oper} {rest : List Oper} {o : Oper} {a : Act} {Q : Exit → Act → World → Prop} (hgd : o.guard = none) (s x : Operand) (t : TypeId) (ho : o.op = .call { callee := .builtin .append, args := #[s, x], argTypes := #[t, t] })
    (ht : Tryz.prog.underlying t = some (.slice e)) (hi : Tryz.prog.info? e = some i) (hz : i.zero = some z) (hsize : i.size = m) (hby : i.bytes = bytes) (hzs : z.cells.size = m) (hm : 0 < m) (hb5 : bytes ≤ 1000)
    (w : World) (base n0 : Nat) (L : List Int) (v : Value) (hs : a.eval s = v) (hown : OwnM w base e m v n0 L) (B n : Nat) (F : Nat → Int) (u : Value) (hx : a.eval x = u) (h : Row w B m n F u) (hn : n0 + n ≤ 2097152) (hbase : base ≤ w.heap.size)
    (hK : ∀ ao cp w', OwnM w' base e m (.slice ao (n0 + n) cp) (n0 + n) (L ++ nums F (n * m)) → w.grownBy w' v.ownBlock → ((Value.slice ao (n0 + n) cp).ownBlock = v.ownBlock ∨ (Value.slice ao (n0 + n) cp).ownBlock = some w.heap.size) → wpList Tryz.prog ops Q rest (a.put o.dst (.slice ao (n0 + n) cp)) w') : wpList Tryz.prog ops Q (o :: rest) a w := by
  refine wpList_plain hgd fun K hK' => ?_
  obtain ⟨ao, cp, w', hr, h2, h3, h5⟩ := run_appX t o.type e i z m bytes ht hi hz hsize hby hzs hm hb5 w base n0 L v hown B n F u h hn hbase
  unfold Oper.wp execOp
  simp only [ho, resolve, invoke, builtin, Sem.run_bind, Sem.run_pure, Result.andThen_ok, List.map_toArray, List.map_cons, List.map_nil, hs, hx, hr]
  exact hK' _ _ (hK ao cp w' h2 h3 h5)
end Go.Proofs.YtphfiojhpfdpdaaGreat

