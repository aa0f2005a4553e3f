/-
  Own text. The law's markGroups: it numbers all lists of groups, one number behind the other, and turns nothing else.
-/
import Derived.Test.YtlojbhadodbohaaGreatGrpC
import Derived.Test.YtlojbhadodbohaaGreatMarkS
namespace Go.Proofs.YtlojbhadodbohaaGreat
open Go.RowKit

def markT (S : Nat → Sto) (i : Nat) : Nat := (S i).nc * 3 + (S i).nl * 5 + (S i).nw * 4
/-- A store numbered from k on. -/
def markK (S : Sto) (k : Int) : Sto := ⟨S.nc, fun p => k + (p : Nat), S.nl, fun p => k + S.nc * 3 + (p : Nat), S.nw, fun p => k + S.nc * 3 + S.nl * 5 + (p : Nat)⟩
theorem markT_le (S : Nat → Sto) : ∀ n, sumN (markT S) n ≤ 5 * sumN (sizeT S) n
  | 0 => by simp [sumN]
  | n + 1 => by
    have := markT_le S n
    show sumN (markT S) n + markT S n ≤ 5 * (sumN (sizeT S) n + sizeT S n)
    unfold markT sizeT at *
    omega
theorem sum_mono (f : Nat → Nat) {k n : Nat} (h : k ≤ n) : sumN f k ≤ sumN f n := by
  induction n with
  | zero => obtain rfl : k = 0 := by omega
            exact Nat.le_refl _
  | succ n ih =>
    by_cases q : k = n + 1
    · subst q; exact Nat.le_refl _
    · exact Nat.le_trans (ih (by omega)) (Nat.le_add_right _ _)
theorem Fine.up {w : World} {z : Nat → Nat} {n : Nat} {S : Nat → Sto} {U : Nat → Nat → Value} (h : Fine w z n S U) : ∀ j, j ≤ n → ∀ i, i ≤ j → z i ≤ z j
  | 0, _, i, hi => by obtain rfl : i = 0 := by omega
                      exact Nat.le_refl _
  | j + 1, hj, i, hi => by
    by_cases q : i = j + 1
    · subst q; exact Nat.le_refl _
    · exact Nat.le_trans (h.up j (by omega) i (by omega)) (h j (by omega)).2.2
/-- One store is turned inside its own blocks: the others stand. -/
theorem Fine.turn1 {x x' : World} {z : Nat → Nat} {n : Nat} {S : Nat → Sto} {U : Nat → Nat → Value} (h : Fine x z n S U) {k : Nat} (hk : k < n) (hw : Within (z k) (z (k + 1)) x x') (T : Sto) (hsz : T.nc = (S k).nc ∧ T.nl = (S k).nl ∧ T.nw = (S k).nw) (hst : St x' (z k) T (U k 0) (U k 1) (U k 2) ∧ FreeS x' T (U k 0) (U k 1) (U k 2)) :
    Fine x' z n (fun i => if i = k then T else S i) U := fun i hi => by
  obtain ⟨⟨h1, h2, h3⟩, h4, h5⟩ := h i hi
  by_cases q : i = k
  · subst q
    simp only [if_true]
    obtain ⟨e0, e1, e2⟩ := hsz
    refine ⟨⟨hst.1, hst.2, ?_⟩, ?_, h5⟩
    · unfold ApartD at h3 ⊢
      rw [e0, e1, e2]
      exact h3
    · unfold OwnIn at h4 ⊢
      rw [e0, e1, e2]
      exact h4
  · simp only [if_neg q]
    have ho : OwnIn (S i) (U i 0) (U i 1) (U i 2) (fun j => j < z k ∨ z (k + 1) ≤ j) := h4.mono (fun j hj => by
      rcases Nat.lt_or_ge i k with c | c
      · have := h.up k (by omega) (i + 1) (by omega)
        exact Or.inl (by omega)
      · have := h.up i (by omega) (k + 1) (by omega)
        exact Or.inr (by omega))
    exact ⟨⟨h1.within hw ho, h2.within h1 hw ho, h3⟩, h4, h5⟩
theorem FillS.within {w w' : World} {g n k B E : Nat} {U : Nat → Nat → Value} (h : FillS w g n k U) (hw : Within B E w w') (hg : g < B ∨ E ≤ g) : FillS w' g n k U := h.kept hw.size (hw.block g h.1 hg)
theorem Fine.congr {w : World} {z : Nat → Nat} {n : Nat} {S T : Nat → Sto} {U : Nat → Nat → Value} (h : Fine w z n S U) (e : ∀ i, i < n → S i = T i) : Fine w z n T U := fun i hi => by rw [← e i hi]; exact h i hi
def mixS (S : Nat → Sto) (k0 : Int) (k i : Nat) : Sto := if i < k then markK (S i) (k0 + (sumN (markT S) i : Nat)) else S i
theorem mix_same (S : Nat → Sto) (k0 : Int) (k i : Nat) : (mixS S k0 k i).nc = (S i).nc ∧ (mixS S k0 k i).nl = (S i).nl ∧ (mixS S k0 k i).nw = (S i).nw := by
  unfold mixS
  split <;> exact ⟨rfl, rfl, rfl⟩
set_option maxRecDepth 100000 in
set_option maxHeartbeats 8000000 in
theorem markStoreS_any (n cp g : Nat) (S : Nat → Sto) (U : Nat → Nat → Value) (z : Nat → Nat) (k0 : Int) (w : World) (hF : FillS w g n n U) (hf : Fine w z n S U) (hg : g < z 0) (hz : z n ≤ w.heap.size) (hs : ∀ i, i < n → SmallS (S i)) (ht : sumN (sizeT S) n ≤ 1048576) (h0 : 0 ≤ k0) (h1 : k0 ≤ 10000000) (hn : n ≤ 1048576) :
    Calls Tryz.prog 54 #[.slice (some ⟨g, 0, none⟩) n cp, .int .i64 k0] w fun e w' => e = .returned (.int .i64 (k0 + (sumN (markT S) n : Nat))) ∧ (FillS w' g n n U ∧ Fine w' z n (mixS S k0 n) U) ∧ Within (z 0) (z n) w w' := by
  have HF : Hid (FillS w g n n U ∧ Fine w z n S U ∧ g < z 0 ∧ z n ≤ w.heap.size) := ⟨hF, hf, hg, hz⟩
  have HN : Hid ((∀ i, i < n → SmallS (S i)) ∧ ∀ k, k ≤ n → sumN (markT S) k ≤ 5242880) := ⟨hs, fun k hk => by have := sum_mono (markT S) hk; have := markT_le S n; omega⟩
  clear hF hf hg hz hs ht
  go_enter Tryz.func54, Tryz.ntmps54
  go_wp2
  go_loopw [1, 5] (fun j i wr => ∃ (k c : Nat), k ≤ n ∧ j = .int .i64 (k0 + (c : Nat)) ∧ i = .int .i64 k ∧ Hid (c = sumN (markT S) k) ∧ Hid (Within (z 0) (z n) w wr ∧ FillS wr g n n U ∧ Fine wr z n (mixS S k0 k) U)) (fun _ i _ => n - (intOf i).toNat)
  case atStart => exact ⟨0, 0, Nat.zero_le _, by simp, rfl, rfl, Within.refl _ _ _, HF.out.1, HF.out.2.1.congr (fun i _ => by unfold mixS; rw [if_neg (Nat.not_lt_zero i)])⟩
  case round =>
    obtain ⟨k, c, hk, rfl, rfl, HC, HR⟩ := hrel
    have hcb : c ≤ 5242880 := by rw [HC.out]; exact HN.out.2 k hk
    by_cases hlt : k < n
    · obtain ⟨b0, b1, b2⟩ := HR.out.2.1.2.2 k hlt
      obtain ⟨⟨sk, fk, ak⟩, ok, uk⟩ := HR.out.2.2 k hlt
      have emx : mixS S k0 k k = S k := by unfold mixS; rw [if_neg (Nat.lt_irrefl k)]
      rw [emx] at sk fk ak ok
      obtain ⟨i0, d0, i1, d1, i2, d2, e0, e1, e2⟩ := sk.form
      obtain ⟨n0, hn0⟩ : ∃ x, (S k).nc = x := ⟨_, rfl⟩
      obtain ⟨n1, hn1⟩ : ∃ x, (S k).nl = x := ⟨_, rfl⟩
      obtain ⟨n2, hn2⟩ : ∃ x, (S k).nw = x := ⟨_, rfl⟩
      rw [e0, hn0] at b0
      rw [e1, hn1] at b1
      rw [e2, hn2] at b2
      have EU : Hid (U k 0 = .slice i0 n0 d0 ∧ U k 1 = .slice i1 n1 d1 ∧ U k 2 = .slice i2 n2 d2) := ⟨by rw [e0, hn0], by rw [e1, hn1], by rw [e2, hn2]⟩
      have hsm := HN.out.1 k hlt
      unfold SmallS at hsm
      rw [hn0, hn1, hn2] at hsm
      obtain ⟨m0, m1, m2⟩ := hsm
      have SK : Hid ((Row wr (z k) 3 n0 (S k).c (.slice i0 n0 d0) ∧ Row wr (z k) 5 n1 (S k).l (.slice i1 n1 d1) ∧ Row wr (z k) 4 n2 (S k).k (.slice i2 n2 d2)) ∧ Free wr (n0 * 3) (.slice i0 n0 d0) ∧ Free wr (n1 * 5) (.slice i1 n1 d1) ∧ Free wr (n2 * 4) (.slice i2 n2 d2)) := by
        rw [e0, e1, e2] at sk fk
        obtain ⟨x0, x1, x2⟩ := sk
        obtain ⟨y0, y1, y2⟩ := fk
        rw [hn0] at x0 y0
        rw [hn1] at x1 y1
        rw [hn2] at x2 y2
        exact ⟨⟨x0, x1, x2⟩, y0, y1, y2⟩
      have AK : Hid ((0 < n0 → 0 < n1 → (Value.slice i0 n0 d0).ownBlock ≠ (Value.slice i1 n1 d1).ownBlock) ∧ (0 < n0 → 0 < n2 → (Value.slice i0 n0 d0).ownBlock ≠ (Value.slice i2 n2 d2).ownBlock) ∧ (0 < n1 → 0 < n2 → (Value.slice i1 n1 d1).ownBlock ≠ (Value.slice i2 n2 d2).ownBlock)) := by
        unfold ApartD at ak
        rw [e0, e1, e2, hn0, hn1, hn2] at ak
        exact ak
      have OK : Hid ((0 < n0 → ∀ j, (Value.slice i0 n0 d0).ownBlock = some j → z k ≤ j ∧ j < z (k + 1)) ∧ (0 < n1 → ∀ j, (Value.slice i1 n1 d1).ownBlock = some j → z k ≤ j ∧ j < z (k + 1)) ∧ (0 < n2 → ∀ j, (Value.slice i2 n2 d2).ownBlock = some j → z k ≤ j ∧ j < z (k + 1))) := by
        unfold OwnIn at ok
        rw [e0, e1, e2, hn0, hn1, hn2] at ok
        exact ok
      have hgz : Hid (g < z k ∧ z 0 ≤ z k ∧ z (k + 1) ≤ z n) := ⟨by have := HF.out.2.2.1; have := HF.out.2.1.up k hk 0 (Nat.zero_le _); omega, HF.out.2.1.up k hk 0 (Nat.zero_le _), HF.out.2.1.up n (Nat.le_refl _) (k + 1) hlt⟩
      have HE : Hid ((S k).nc = n0 ∧ (S k).nl = n1 ∧ (S k).nw = n2) := ⟨hn0, hn1, hn2⟩
      have HC1 : Hid (c + n0 * 3 + n1 * 5 + n2 * 4 = sumN (markT S) (k + 1)) := by
        unfold Hid
        show _ = sumN (markT S) k + ((S k).nc * 3 + (S k).nl * 5 + (S k).nw * 4)
        rw [HC.out, hn0, hn1, hn2]
        omega
      clear sk fk ak ok uk emx e0 e1 e2 hn0 hn1 hn2
      go_wp2_with fail
      refine (markCellS_turn _ (z k) n0 (S k).c (k0 + (c : Nat)) _ SK.out.1.1 SK.out.2.1 m0 (by omega) (by omega)).mono ?_
      rintro e w1 ⟨rfl, r1, f1, g1⟩
      have W1 : Hid (Within (z k) (z (k + 1)) wr w1) := Within.of g1 (fun b q => by obtain ⟨h0, h1⟩ := turn_eq q; exact OK.out.1 h0 b h1)
      have x1 := apart_rows SK.out.1.1 SK.out.1.2.1 AK.out.1
      have x2 := apart_rows SK.out.1.1 SK.out.1.2.2 AK.out.2.1
      have SK1 : Hid ((Row w1 (z k) 3 n0 (fun p => k0 + (c : Nat) + (p : Nat)) (.slice i0 n0 d0) ∧ Row w1 (z k) 5 n1 (S k).l (.slice i1 n1 d1) ∧ Row w1 (z k) 4 n2 (S k).k (.slice i2 n2 d2)) ∧ Free w1 (n0 * 3) (.slice i0 n0 d0) ∧ Free w1 (n1 * 5) (.slice i1 n1 d1) ∧ Free w1 (n2 * 4) (.slice i2 n2 d2)) :=
        ⟨⟨r1, SK.out.1.2.1.turned g1 x1, SK.out.1.2.2.turned g1 x2⟩, f1, SK.out.2.2.1.turned SK.out.1.2.1 g1 x1, SK.out.2.2.2.turned SK.out.1.2.2 g1 x2⟩
      have FL1 : Hid (FillS w1 g n n U) := HR.out.2.1.within W1.out (Or.inl hgz.out.1)
      clear r1 f1 g1 x1 x2 b0 b1 b2 SK
      obtain ⟨b0, b1, b2⟩ := FL1.out.2.2 k hlt
      rw [EU.out.1] at b0
      rw [EU.out.2.1] at b1
      rw [EU.out.2.2] at b2
      go_wp2_with fail
      refine (markLockS_turn _ (z k) n1 (S k).l _ _ SK1.out.1.2.1 SK1.out.2.2.1 m1 (by omega) (by omega)).mono ?_
      rintro e w2 ⟨rfl, r2, f2, g2⟩
      have W2 : Hid (Within (z k) (z (k + 1)) wr w2) := W1.out.trans (Within.of g2 (fun b q => by obtain ⟨h0, h1⟩ := turn_eq q; exact OK.out.2.1 h0 b h1))
      have x0 := apart_rows SK1.out.1.2.1 SK1.out.1.1 (fun h1 h2 e => AK.out.1 h2 h1 e.symm)
      have x2 := apart_rows SK1.out.1.2.1 SK1.out.1.2.2 AK.out.2.2
      have SK2 : Hid ((Row w2 (z k) 3 n0 (fun p => k0 + (c : Nat) + (p : Nat)) (.slice i0 n0 d0) ∧ Row w2 (z k) 5 n1 (fun p => k0 + (c : Nat) + n0 * 3 + (p : Nat)) (.slice i1 n1 d1) ∧ Row w2 (z k) 4 n2 (S k).k (.slice i2 n2 d2)) ∧ Free w2 (n0 * 3) (.slice i0 n0 d0) ∧ Free w2 (n1 * 5) (.slice i1 n1 d1) ∧ Free w2 (n2 * 4) (.slice i2 n2 d2)) :=
        ⟨⟨SK1.out.1.1.turned g2 x0, r2, SK1.out.1.2.2.turned g2 x2⟩, SK1.out.2.1.turned SK1.out.1.1 g2 x0, f2, SK1.out.2.2.2.turned SK1.out.1.2.2 g2 x2⟩
      have FL2 : Hid (FillS w2 g n n U) := HR.out.2.1.within W2.out (Or.inl hgz.out.1)
      clear r2 f2 g2 x0 x2 b0 b1 b2 SK1 FL1 W1
      obtain ⟨b0, b1, b2⟩ := FL2.out.2.2 k hlt
      rw [EU.out.1] at b0
      rw [EU.out.2.1] at b1
      rw [EU.out.2.2] at b2
      go_wp2_with fail
      refine (markWriteS_turn _ (z k) n2 (S k).k _ _ SK2.out.1.2.2 SK2.out.2.2.2 m2 (by omega) (by omega)).mono ?_
      rintro e w3 ⟨rfl, r3, f3, g3⟩
      have W3 : Hid (Within (z k) (z (k + 1)) wr w3) := W2.out.trans (Within.of g3 (fun b q => by obtain ⟨h0, h1⟩ := turn_eq q; exact OK.out.2.2 h0 b h1))
      have x0 := apart_rows SK2.out.1.2.2 SK2.out.1.1 (fun h1 h2 e => AK.out.2.1 h2 h1 e.symm)
      have x1 := apart_rows SK2.out.1.2.2 SK2.out.1.2.1 (fun h1 h2 e => AK.out.2.2 h2 h1 e.symm)
      have SK3 : Hid (Fine w3 z n (mixS S k0 (k + 1)) U) := by
        have hm : (markK (S k) (k0 + (sumN (markT S) k : Nat))).nc = n0 ∧ (markK (S k) (k0 + (sumN (markT S) k : Nat))).nl = n1 ∧ (markK (S k) (k0 + (sumN (markT S) k : Nat))).nw = n2 := HE.out
        have h1 := HR.out.2.2.turn1 hlt W3.out (markK (S k) (k0 + (sumN (markT S) k : Nat))) (by have := mix_same S k0 k k; rw [this.1, this.2.1, this.2.2]; exact ⟨rfl, rfl, rfl⟩) (by
          rw [EU.out.1, EU.out.2.1, EU.out.2.2]
          unfold St FreeS markK
          simp only
          rw [HE.out.1, HE.out.2.1, HE.out.2.2, ← HC.out]
          exact ⟨⟨SK2.out.1.1.turned g3 x0, SK2.out.1.2.1.turned g3 x1, r3⟩, SK2.out.2.1.turned SK2.out.1.1 g3 x0, SK2.out.2.2.1.turned SK2.out.1.2.1 g3 x1, f3⟩)
        refine h1.congr (fun i hi => ?_)
        unfold mixS
        by_cases q : i = k
        · subst q; rw [if_pos rfl, if_pos (Nat.lt_succ_self i)]
        · rw [if_neg q]
          by_cases q2 : i < k
          · rw [if_pos q2, if_pos (by omega)]
          · rw [if_neg q2, if_neg (by omega)]
      have WW : Hid (Within (z 0) (z n) w w3) := HR.out.1.trans (W3.out.mono hgz.out.2.1 hgz.out.2.2)
      have FL3 : Hid (FillS w3 g n n U) := HR.out.2.1.within W3.out (Or.inl hgz.out.1)
      clear r3 f3 g3 x0 x1 b0 b1 b2 SK2 FL2 W2 W3 HR AK OK EU
      go_wp2
      go_roundw
      case rel => exact ⟨k + 1, c + n0 * 3 + n1 * 5 + n2 * 4, by omega, by congr 1; push_cast; omega, by go_num, HC1, WW.out, FL3.out, SK3.out⟩
      case measure => simp [intOf]; omega
    · obtain rfl : k = n := by omega
      go_wp2
      go_ret
      exact ⟨by rw [HC.out]; rfl, HR.out.2, HR.out.1⟩
set_option maxHeartbeats 2000000 in
/-- The numbering of groups, as the law needs it of an argument: what is turned lies in the groups' own blocks. -/
theorem markGroups_any (nr : Nat) (F : Nat → Int) (n : Nat) (S : Nat → Sto) (ra : Option Addr) (rc g : Nat) (U : Nat → Nat → Value) (z : Nat → Nat) (lo : Nat) (w : World) (h : FineG w lo nr F n S ra rc g U z) (hr : nr ≤ 1048576) (hn : n ≤ 1048576) (hs : ∀ i, i < n → SmallS (S i)) (ht : sumN (sizeT S) n ≤ 1048576) :
    Calls Tryz.prog 16 #[.agg #[.slice ra nr rc, .slice (some ⟨g, 0, none⟩) n n], .int .i64 1] w fun e w' => ∃ k : Int, 0 ≤ k ∧ e = .returned (.int .i64 k) ∧ Within lo (z n) w w' := by
  have H : Hid (FineG w lo nr F n S ra rc g U z) := h
  have HN : Hid ((∀ i, i < n → SmallS (S i)) ∧ sumN (sizeT S) n ≤ 1048576) := ⟨hs, ht⟩
  clear h hs ht
  have hb2 := Blk2.new w (.slice ra nr rc) (.slice (some ⟨g, 0, none⟩) n n) 36
  have HB : Hid (Blk2 (w.alloc (.cells #[.slice ra nr rc, .slice (some ⟨g, 0, none⟩) n n] 36)) w.heap.size (.slice ra nr rc) (.slice (some ⟨g, 0, none⟩) n n)) := hb2
  clear hb2
  go_enter Tryz.func16, Tryz.ntmps16
  go_wp2_with fail
  refine (markRangeS_turn _ lo nr F 1 _ (H.out.1.1.alloc _) (H.out.1.2.1.ofRow H.out.1.1 (below_alloc _ _)) hr (by omega) (by omega)).mono ?_
  rintro e w1 ⟨rfl, _, _, g1⟩
  have hzn : g < z n := H.out.2.2.2.2.2.1 n (Nat.le_refl _)
  have hz0 : z 0 = g + 1 := H.out.2.2.2.2.1
  have hzs : z n ≤ w.heap.size := H.out.2.2.2.2.2.2
  have W1 : Hid (Within lo (g + 1) (w.alloc (.cells #[.slice ra nr rc, .slice (some ⟨g, 0, none⟩) n n] 36)) w1) := Within.of g1 (fun b q => by obtain ⟨h0, h1⟩ := turn_eq q; exact ⟨(H.out.1.1.lt h0 b h1).1, by have := H.out.1.2.2 h0 b h1; omega⟩)
  have g1b := g1.block w.heap.size (by simp) (fun q => by obtain ⟨h0, h1⟩ := turn_eq q.symm; have := (H.out.1.1.lt h0 _ h1).2; omega)
  have HB1 : Hid (Blk2 w1 w.heap.size (.slice ra nr rc) (.slice (some ⟨g, 0, none⟩) n n)) := HB.out.kept g1b
  have gg : w1.heap[g]? = w.heap[g]? := by
    have h1 := g1.block g (by have := H.out.2.2.1.1; simp; omega) (fun q => by obtain ⟨h0, h1⟩ := turn_eq q.symm; have := H.out.1.2.2 h0 _ h1; omega)
    exact h1.trans ((below_alloc w _).block g H.out.2.2.1.1)
  have FL : Hid (FillS w1 g n n U) := H.out.2.2.1.kept (Nat.le_trans (by simp) g1.size) gg
  have FI : Hid (Fine w1 z n S U) := fun i hi => by
    obtain ⟨⟨x1, x2, x3⟩, x4, x5⟩ := (H.out.2.2.2.1.later (below_alloc w (.cells #[.slice ra nr rc, .slice (some ⟨g, 0, none⟩) n n] 36))) i hi
    have ho : OwnIn (S i) (U i 0) (U i 1) (U i 2) (fun j => j < lo ∨ g + 1 ≤ j) := x4.mono (fun j hj => Or.inr (by have := H.out.2.2.2.1.up i (by omega) 0 (Nat.zero_le _); omega))
    exact ⟨⟨x1.within W1.out ho, x2.within x1 W1.out ho, x3⟩, x4, x5⟩
  have hs1 : z n ≤ w1.heap.size := Nat.le_trans hzs (Nat.le_trans (by simp) g1.size)
  clear g1 g1b gg
  obtain ⟨⟨p0, p1⟩, _⟩ := HB1.out
  go_wp2_with fail
  refine (markStoreS_any n n g S U z (1 + nr * 3) _ FL.out FI.out (by omega) hs1 HN.out.1 HN.out.2 (by omega) (by omega) hn).mono ?_
  rintro e w2 ⟨rfl, _, W2⟩
  have hlo : lo ≤ g := H.out.2.1
  have WW : Hid (Within lo (z n) w w2) := ((Within.grow (below_alloc w _)).trans (W1.out.mono (Nat.le_refl _) (by omega))).trans (W2.mono (by omega) (Nat.le_refl _))
  clear W2 W1 FL FI HB1 HB p0 p1
  go_wp2
  go_ret
  exact ⟨1 + nr * 3 + (sumN (markT S) n : Nat), by omega, rfl, WW.out⟩
end Go.Proofs.YtlojbhadodbohaaGreat
