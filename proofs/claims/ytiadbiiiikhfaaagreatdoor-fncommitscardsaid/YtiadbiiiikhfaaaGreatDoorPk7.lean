/-
 Own text, merged of CmpD, RegZ, RolB, RolC, PreE.
-/
import Derived.Test.YtiadbiiiikhfaaaGreatDoorPk6
namespace Go.Proofs.YtiadbiiiikhfaaaGreatDoor
section
open Go.RowKit Go.Lib
/-- The first lock of a key. -/
def firstK (l : Nat → Int) (nl : Nat) (key : Int) (i : Nat) : Prop := i < nl ∧ lockIs l key i ∧ ∀ j, j < i → ¬ lockIs l key j
theorem firstK.one {l : Nat → Int} {n : Nat} {a : Int} {i j : Nat} (h : firstK l n a i) (h' : firstK l n a j) : i = j := by
 rcases Nat.lt_trichotomy i j with e | e | e
 ·exact absurd h.2.1 (h'.2.2 i e)
 ·exact e
 ·exact absurd h'.2.1 (h.2.2 j e)

set_option maxRecDepth 100000 in
set_option maxHeartbeats 4000000 in
theorem colCommit_said (B b N : Nat) (m : Int → Int → Option Int) (nl : Nat) (l : Nat → Int) (nw : Nat) (k : Nat → Int) (g : Nat) (u1 u2 : Value) (a s c : Int) (i : Nat) (w : World) (h : Cols w B b N m nl l nw k g u1 u2) (hw : nw ≤ 200) (hi : firstW k nw a s i) (v : Value) (hv : v = if k (i * 4 + 1) = c then .nilIface else .iface 123 (.agg #[.int .i64 3])) :
  Calls Tryz.prog 61 #[.pointer (some ⟨b, 0, none⟩), .int .i64 a, .int .i64 s, .int .i64 c] w fun e w' => e = .returned v ∧ Below w.heap.size w w' := by
 have H : Hid (Cols w B b N m nl l nw k g u1 u2) := h
 have HI : Hid (firstW k nw a s i) := hi
 clear h hi
 go_enter Tryz.func61, Tryz.ntmps61
 go_wp2_with fail
 refine (writeOf_any B b N m nl l nw k g u1 u2 a s _ H.out hw).mono ?_
 rintro e w1 ⟨v1, rfl, ht, q1⟩
 rcases ht with ⟨j, hj, rfl⟩ | ⟨hj, rfl⟩
 ·obtain rfl : j = i := hj.one HI.out
  have HB : Hid (Below w.heap.size w (w1.alloc (.cells #[.int .i64 (k (j * 4)), .int .i64 (k (j * 4 + 1)), .int .i64 (k (j * 4 + 2)), .int .i64 (k (j * 4 + 3))] 55))) := q1.trans ((below_alloc w1 _).mono q1.size)
  clear hj HI H q1
  generalize k (j * 4) = n0 at *
  generalize k (j * 4 + 1) = n1 at *
  generalize k (j * 4 + 2) = n2 at *
  generalize k (j * 4 + 3) = n3 at *
  by_cases hc : n1 = c
  ·subst hc
   rw [if_pos rfl] at hv
   subst hv
   go_wp2
   go_ret
   exact ⟨rfl, HB.out⟩
  ·rw [if_neg hc] at hv
   subst hv
   go_wp2
   go_ret
   exact ⟨rfl, HB.out⟩
 ·exact absurd HI.out (hj i)
set_option maxRecDepth 100000 in
set_option maxHeartbeats 4000000 in
theorem colCommit_never (B b N : Nat) (m : Int → Int → Option Int) (nl : Nat) (l : Nat → Int) (nw : Nat) (k : Nat → Int) (g : Nat) (u1 u2 : Value) (a s c : Int) (w : World) (h : Cols w B b N m nl l nw k g u1 u2) (hw : nw ≤ 200) (hl : nl ≤ 200) (hi : ∀ i, ¬ firstW k nw a s i) (hn : ∀ i, firstK l nl a i → l (i * 5 + 1) ≠ s) :
  Calls Tryz.prog 61 #[.pointer (some ⟨b, 0, none⟩), .int .i64 a, .int .i64 s, .int .i64 c] w fun e w' => e = .returned (.iface 123 (.agg #[.int .i64 2])) ∧ Below w.heap.size w w' := by
 have H : Hid (Cols w B b N m nl l nw k g u1 u2) := h
 have HI : Hid (∀ i, ¬ firstW k nw a s i) := hi
 have HN : Hid (∀ i, firstK l nl a i → l (i * 5 + 1) ≠ s) := hn
 clear h hi hn
 go_enter Tryz.func61, Tryz.ntmps61
 go_wp2_with fail
 refine (writeOf_any B b N m nl l nw k g u1 u2 a s _ H.out hw).mono ?_
 rintro e w1 ⟨v1, rfl, ht, q1⟩
 rcases ht with ⟨j, hj, rfl⟩ | ⟨hj, rfl⟩
 ·exact absurd hj (HI.out j)
 have HB : Hid (Below w.heap.size w (w1.alloc (.cells #[.int .i64 0, .int .i64 0, .int .i64 0, .int .i64 0] 55))) := q1.trans ((below_alloc w1 _).mono q1.size)
 clear hj q1
 go_wp2_with fail
 refine (lockOf_any B b N m nl l nw k g u1 u2 a _ (H.out.later HB.out) hl).mono ?_
 rintro e w2 ⟨v2, rfl, ht, q2⟩
 rcases ht with ⟨i, h1, h2, h3, rfl⟩ | ⟨h1, rfl⟩
 ·have hne := HN.out i ⟨h1, h2, h3⟩
  generalize l (i * 5) = n0 at *
  generalize l (i * 5 + 1) = n1 at *
  generalize l (i * 5 + 2) = n2 at *
  generalize l (i * 5 + 3) = n3 at *
  generalize l (i * 5 + 4) = n4 at *
  have HB2 : Hid (Below w.heap.size w (w2.alloc (.cells #[.int .i64 n0, .int .i64 n1, .int .i64 n2, .int .i64 n3, .int .i64 n4] 40))) := (HB.out.trans (q2.mono HB.out.size)).trans ((below_alloc w2 _).mono (Nat.le_trans HB.out.size q2.size))
  clear h1 h2 h3 HN H HI HB q2
  go_wp2
  go_ret
  exact ⟨rfl, HB2.out⟩
 ·have HB2 : Hid (Below w.heap.size w (w2.alloc (.cells #[.int .i64 0, .int .i64 0, .int .i64 0, .int .i64 0, .int .i64 0] 40))) := (HB.out.trans (q2.mono HB.out.size)).trans ((below_alloc w2 _).mono (Nat.le_trans HB.out.size q2.size))
  clear h1 HN H HI HB q2
  go_wp2
  go_ret
  exact ⟨rfl, HB2.out⟩
set_option maxRecDepth 100000 in
set_option maxHeartbeats 4000000 in
/-- .. and where the lock is there: what settle answers. -/
theorem colCommit_settle (B b N : Nat) (m : Int → Int → Option Int) (nl : Nat) (l : Nat → Int) (nw : Nat) (k : Nat → Int) (g : Nat) (u1 u2 : Value) (a s c : Int) (j : Nat) (w : World) (h : Cols w B b N m nl l nw k g u1 u2) (hw : nw ≤ 200) (hl : nl ≤ 200) (hi : ∀ i, ¬ firstW k nw a s i) (hj : firstK l nl a j) (hs : l (j * 5 + 1) = s)
  (Q : World → Value → World → Prop) (HS : ∀ x, Below w.heap.size w x → Cols x B b N m nl l nw k g u1 u2 → Calls Tryz.prog 91 #[.pointer (some ⟨b, 0, none⟩), .agg #[.int .i64 a, .int .i64 c, .int .i64 s, .int .i64 (l (j * 5 + 2))]] x fun e w' => ∃ v, e = .returned v ∧ Q x v w') :
  Calls Tryz.prog 61 #[.pointer (some ⟨b, 0, none⟩), .int .i64 a, .int .i64 s, .int .i64 c] w fun e w' => ∃ x v, e = .returned v ∧ Below w.heap.size w x ∧ Q x v w' := by
 have H : Hid (Cols w B b N m nl l nw k g u1 u2) := h
 have HI : Hid (∀ i, ¬ firstW k nw a s i) := hi
 have HJ : Hid (firstK l nl a j) := hj
 have HSS : Hid (∀ x, Below w.heap.size w x → Cols x B b N m nl l nw k g u1 u2 → Calls Tryz.prog 91 #[.pointer (some ⟨b, 0, none⟩), .agg #[.int .i64 a, .int .i64 c, .int .i64 s, .int .i64 (l (j * 5 + 2))]] x fun e w' => ∃ v, e = .returned v ∧ Q x v w') := HS
 clear h hi hj HS
 go_enter Tryz.func61, Tryz.ntmps61
 go_wp2_with fail
 refine (writeOf_any B b N m nl l nw k g u1 u2 a s _ H.out hw).mono ?_
 rintro e w1 ⟨v1, rfl, ht, q1⟩
 rcases ht with ⟨j, hj, rfl⟩ | ⟨hj, rfl⟩
 ·exact absurd hj (HI.out j)
 have HB : Hid (Below w.heap.size w (w1.alloc (.cells #[.int .i64 0, .int .i64 0, .int .i64 0, .int .i64 0] 55))) := q1.trans ((below_alloc w1 _).mono q1.size)
 clear hj q1
 go_wp2_with fail
 refine (lockOf_any B b N m nl l nw k g u1 u2 a _ (H.out.later HB.out) hl).mono ?_
 rintro e w2 ⟨v2, rfl, ht, q2⟩
 rcases ht with ⟨i, h1, h2, h3, rfl⟩ | ⟨h1, rfl⟩
 ·obtain rfl : i = j := firstK.one ⟨h1, h2, h3⟩ HJ.out
  rw [hs]
  have HB2 : Hid (Below w.heap.size w (w2.alloc (.cells #[.int .i64 (l (i * 5)), .int .i64 s, .int .i64 (l (i * 5 + 2)), .int .i64 (l (i * 5 + 3)), .int .i64 (l (i * 5 + 4))] 40))) := (HB.out.trans (q2.mono HB.out.size)).trans ((below_alloc w2 _).mono (Nat.le_trans HB.out.size q2.size))
  have HCC := HSS.out _ HB2.out (H.out.later HB2.out)
  clear h1 h2 h3 H HI HB q2 HJ hs HSS
  generalize l (i * 5) = n0 at *
  generalize l (i * 5 + 2) = n2 at *
  generalize l (i * 5 + 3) = n3 at *
  generalize l (i * 5 + 4) = n4 at *
  have HC : Hid _ := HCC
  clear HCC
  go_wp2_with fail
  refine Calls.mono HC.out ?_
  rintro e w3 ⟨v, rfl, hq⟩
  go_wp2
  go_ret
  exact ⟨_, _, rfl, HB2.out, hq⟩
 ·exact absurd HJ.out.2.1 (h1 j HJ.out.1)
end

section
open Go.RowKit Go.Lib
set_option maxRecDepth 100000 in
set_option maxHeartbeats 4000000 in
theorem unless_hit (k c : Int) (h : codeOf k c) (hc : (c == 0) = false) (p : Option Addr) (w : World) (hL : Laid w) :
  Calls Tryz.prog 38 #[.iface 123 (.agg #[.int .i64 k]), .pointer p] w (ResSto w c emptyS) := by
 have HL : Hid (Laid (w.alloc (.cells #[.int .i64 0, .slice none 0 0, .slice none 0 0, .slice none 0 0] 32))) := hL.later (below_alloc _ _)
 have HH : Hid (codeOf k c) := h
 have HB : Hid (Blk4 (w.alloc (.cells #[.int .i64 0, .slice none 0 0, .slice none 0 0, .slice none 0 0] 32)) w.heap.size (.int .i64 0) (.slice none 0 0) (.slice none 0 0) (.slice none 0 0)) := Blk4.new w _ _ _ _ _
 unfold ResSto
 clear hL h
 go_enter Tryz.func38, Tryz.ntmps38
 go_wp2_with fail
 refine (refusalCode_hit k c HH.out _ HL.out).mono ?_
 rintro e w1 ⟨rfl, q1⟩
 obtain ⟨⟨r0, r1, r2, r3⟩, f0, f1, f2, f3⟩ := HB.out.later q1
 have HW : Hid (Below w.heap.size w w1) := (below_alloc w _).trans (q1.mono (by simp))
 clear q1 HL HH HB
 have hlo : (w.heap.size : Nat) ≤ w.heap.size := Nat.le_refl _
 go_wp2
 exact bodyPost_ret (v := .agg #[.int .i64 c, .slice none 0 0, .slice none 0 0, .slice none 0 0]) (by simp [results, Tryz.results38, go_sem, r0, r1, r2, r3]) rfl ⟨none, 0, none, 0, none, 0, rfl, empty_sto _ _, (((HW.out.setCell hlo _).setCell hlo _).setCell hlo _).setCell hlo _⟩
set_option maxRecDepth 100000 in
set_option maxHeartbeats 4000000 in
theorem unless_ok (B b N : Nat) (m : Int → Int → Option Int) (nl : Nat) (l : Nat → Int) (nw : Nat) (k : Nat → Int) (g : Nat) (u1 u2 : Value) (w : World) (h : Cols w B b N m nl l nw k g u1 u2) (hl : nl ≤ 200) (hw : nw ≤ 200) (hN : N ≤ 400) (nc : Nat) (c : Nat → Int) (hM : MapRow m nc c) :
  Calls Tryz.prog 38 #[.nilIface, .pointer (some ⟨b, 0, none⟩)] w (ResSto w 0 ⟨nc, c, nl, l, nw, k⟩) := by
 have H : Hid (Cols w B b N m nl l nw k g u1 u2) := h
 have HM : Hid (MapRow m nc c) := hM
 have HB : Hid (Blk4 (w.alloc (.cells #[.int .i64 0, .slice none 0 0, .slice none 0 0, .slice none 0 0] 32)) w.heap.size (.int .i64 0) (.slice none 0 0) (.slice none 0 0) (.slice none 0 0)) := Blk4.new w _ _ _ _ _
 unfold ResSto
 clear h hM
 go_enter Tryz.func38, Tryz.ntmps38
 go_wp2_with fail
 refine (refusalCode_nil _).mono ?_
 rintro e w1 ⟨rfl, q1⟩
 have HB1 : Hid (Blk4 w1 w.heap.size (.int .i64 0) (.slice none 0 0) (.slice none 0 0) (.slice none 0 0)) := HB.out.later q1
 have HW : Hid (Below w.heap.size w w1) := (below_alloc w _).trans (q1.mono (by simp))
 clear q1 HB
 go_wp2_with fail
 refine (store_is B b N m nl l nw k g u1 u2 w1 (H.out.later HW.out) hl hw hN nc c HM.out).mono ?_
 rintro e w2 ⟨y0, z0, y1, z1, y2, z2, rfl, ⟨s2, fr2, ap2⟩, q2⟩
 have hlt : w.heap.size < w1.heap.size := HB1.out.lt
 have S2 : Hid ((St w2 (w.heap.size + 1) ⟨nc, c, nl, l, nw, k⟩ (.slice y0 nc z0) (.slice y1 nl z1) (.slice y2 nw z2) ∧ FreeS w2 ⟨nc, c, nl, l, nw, k⟩ (.slice y0 nc z0) (.slice y1 nl z1) (.slice y2 nw z2)) ∧ ApartD ⟨nc, c, nl, l, nw, k⟩ (.slice y0 nc z0) (.slice y1 nl z1) (.slice y2 nw z2)) := ⟨⟨s2.mono hlt, fr2⟩, ap2⟩
 obtain ⟨⟨r0, r1, r2, r3⟩, f0, f1, f2, f3⟩ := HB1.out.later q2
 have HW2 : Hid (Below w.heap.size w w2) := HW.out.trans (q2.mono HW.out.size)
 clear s2 fr2 ap2 q2 HB1 HW HM H hlt
 have hlo : (w.heap.size : Nat) < w.heap.size + 1 := Nat.lt_succ_self _
 have hle : (w.heap.size : Nat) ≤ w.heap.size := Nat.le_refl _
 go_wp2
 exact bodyPost_ret (v := .agg #[.int .i64 0, .slice y0 nc z0, .slice y1 nl z1, .slice y2 nw z2]) (by simp [results, Tryz.results38, go_sem, r0, r1, r2, r3]) rfl ⟨y0, z0, y1, z1, y2, z2, rfl, ⟨((((S2.out.1.1.far hlo _).far hlo _).far hlo _).far hlo _).mono (Nat.le_succ _), (((S2.out.1.2.far _ _).far _ _).far _ _).far _ _, S2.out.2⟩, (((HW2.out.setCell hle _).setCell hle _).setCell hle _).setCell hle _⟩
end

section
open Go.RowKit Go.Lib
theorem wnext {k : Nat → Int} {i : Nat} (h : writeF k (i + 1) = 0) : pairLt (k (i * 4)) (k (i * 4 + 1)) (k ((i + 1) * 4)) (k ((i + 1) * 4 + 1)) := by
 have hz := writeF_zero h
 unfold writeF at h
 rw [if_neg (by rw [hz.1]; exact fun q => q rfl), if_neg (fun q => q hz.2)] at h
 by_cases q : (0 < i + 1 ∧ ¬ (k ((i + 1 - 1) * 4) < k ((i + 1) * 4) ∨ k ((i + 1 - 1) * 4) = k ((i + 1) * 4) ∧ k ((i + 1 - 1) * 4 + 1) < k ((i + 1) * 4 + 1))) ∨ ¬ fits k (i + 1)
 ·rw [if_pos q] at h
  exact absurd h (by decide)
 ·unfold pairLt
  rw [Nat.add_sub_cancel] at q
  have : ¬ ¬ (k (i * 4) < k ((i + 1) * 4) ∨ k (i * 4) = k ((i + 1) * 4) ∧ k (i * 4 + 1) < k ((i + 1) * 4 + 1)) := fun e => q (Or.inl ⟨Nat.succ_pos _, e⟩)
  exact Classical.not_not.1 this
theorem wrise {S : Sto} (h : scan (writeF S.k) S.nw = 0) : ∀ j, j < S.nw → ∀ i, i < j → pairLt (S.k (i * 4)) (S.k (i * 4 + 1)) (S.k (j * 4)) (S.k (j * 4 + 1)) :=
 rise_pairs (p := fun i => S.k (i * 4)) (q := fun i => S.k (i * 4 + 1)) (fun i hi => wnext (scan_zero h (i + 1) hi))
theorem w_mono {S : Sto} (h : scan (writeF S.k) S.nw = 0) (x0 x1 : Int) : ∀ i j, i ≤ j → j < S.nw → aheadW S.k x0 x1 j → aheadW S.k x0 x1 i := fun i j hij hj ha => by
 rcases Nat.eq_or_lt_of_le hij with rfl | hlt
 ·exact ha
 ·have := wrise h j hj i hlt
  unfold aheadW pairLt at *
  omega
theorem w_taken {S : Sto} (h : scan (writeF S.k) S.nw = 0) {a c : Int} (he : ∃ i, i < S.nw ∧ writeAt S.k a c i) : ∀ q, placeAt (aheadW S.k a c) S.nw q → q < S.nw ∧ S.k (q * 4) = a ∧ S.k (q * 4 + 1) = c := fun q hq => by
 obtain ⟨i, hi, h0, h1⟩ := he
 rcases Nat.lt_trichotomy i q with e | e | e
 ·have := hq.2.1 i e
  unfold aheadW at this
  omega
 ·subst e
  exact ⟨hi, h0, h1⟩
 ·have h2 := wrise h i hi q e
  have h3 := hq.2.2 (Nat.lt_trans e hi)
  unfold aheadW at h3
  unfold pairLt at h2
  omega
theorem first_w {k : Nat → Int} {n : Nat} {a s : Int} {i : Nat} (h : FirstAt (writeIs k a s) n i) : firstW k n a s i := by
 rcases h with ⟨q, _⟩ | ⟨j, hj, q, h1, h2⟩
 ·omega
 ·obtain rfl : i = j := by omega
  exact ⟨hj, h1, h2⟩
theorem first_k {l : Nat → Int} {n : Nat} {a : Int} {i : Nat} (h : FirstAt (lockIs l a) n i) : firstK l n a i := by
 rcases h with ⟨q, _⟩ | ⟨j, hj, q, h1, h2⟩
 ·omega
 ·obtain rfl : i = j := by omega
  exact ⟨hj, h1, h2⟩
theorem none_w {k : Nat → Int} {n : Nat} {a s : Int} (h : FirstAt (writeIs k a s) n (-1)) : ∀ i, ¬ firstW k n a s i := fun i hi => by
 rcases h with ⟨_, q⟩ | ⟨j, _, q, _⟩
 ·exact q i hi.1 hi.2.1
 ·omega
theorem none_k {l : Nat → Int} {n : Nat} {a : Int} (h : FirstAt (lockIs l a) n (-1)) : ∀ i, ¬ firstK l n a i := fun i hi => by
 rcases h with ⟨_, q⟩ | ⟨j, _, q, _⟩
 ·exact q i hi.1 hi.2.1
 ·omega
/-- What columns.commit answers. -/
def ColAns (x : World) (B b g : Nat) (S : Sto) (r : Int) (R : Sto) (e : Ending) (w' : World) : Prop :=
 Below B x w' ∧ ((∃ kk, e = .returned (.iface 123 (.agg #[.int .i64 kk])) ∧ codeOf kk r ∧ R = emptyS) ∨
  (e = .returned .nilIface ∧ r = 0 ∧ (R.nc = S.nc ∧ R.c = S.c ∧ R.nl ≤ 200 ∧ R.nw ≤ 200) ∧ ∃ u1' u2', Cols w' B b S.nc (cellM S S.nc) R.nl R.l R.nw R.k g u1' u2'))
theorem colCommit_res (S : Sto) (hz : storeF S = 0) (B b g : Nat) (u1 u2 : Value) (a s c r : Int) (R : Sto) (x : World) (h : Cols x B b S.nc (cellM S S.nc) S.nl S.l S.nw S.k g u1 u2) (hA : ApartC b g u1 u2) (hR : CommitRes S a s c r R) :
  Calls Tryz.prog 61 #[.pointer (some ⟨b, 0, none⟩), .int .i64 a, .int .i64 s, .int .i64 c] x (ColAns x B b g S r R) := by
 have Z := storeF_zero hz
 obtain ⟨⟨_, hl, hw⟩, _, _, zw, _⟩ := Z
 have hBx : B ≤ x.heap.size := Nat.le_trans h.1 (Nat.le_of_lt h.2.2.1.lt)
 rcases hR with ⟨i, h1, h2, rfl, rfl⟩ | ⟨i, h1, h2, rfl, rfl⟩ | ⟨h1, h2, rfl, rfl⟩ | ⟨j, h1, h2, h3, h4, rfl, rfl⟩ | ⟨j, h1, h2, h3, h4, h5, rfl, rfl⟩ | ⟨j, k, h1, h2, h3, h4, h5, h6, rfl, rfl⟩
 ·refine (colCommit_said B b _ _ _ _ _ _ g u1 u2 a s c i x h hw (first_w h1) _ rfl).mono ?_
  rintro e w' ⟨rfl, hb⟩
  rw [if_pos h2]
  exact ⟨hb.mono hBx, Or.inr ⟨rfl, rfl, ⟨rfl, rfl, hl, hw⟩, u1, u2, h.later hb⟩⟩
 ·refine (colCommit_said B b _ _ _ _ _ _ g u1 u2 a s c i x h hw (first_w h1) _ rfl).mono ?_
  rintro e w' ⟨rfl, hb⟩
  rw [if_neg h2]
  exact ⟨hb.mono hBx, Or.inl ⟨3, rfl, by unfold codeOf; decide, rfl⟩⟩
 ·refine (colCommit_never B b _ _ _ _ _ _ g u1 u2 a s c x h hw hl (none_w h1) (fun i hi => ?_)).mono ?_
  ·rcases h2 with h2 | ⟨j, h2, h3⟩
   ·exact absurd hi (none_k h2 i)
   ·rw [hi.one (first_k h2)]
    exact h3
  ·rintro e w' ⟨rfl, hb⟩
   exact ⟨hb.mono hBx, Or.inl ⟨2, rfl, by unfold codeOf; decide, rfl⟩⟩
 ·refine (colCommit_settle B b _ _ _ _ _ _ g u1 u2 a s c j x h hw hl (none_w h1) (first_k h2) h3 (fun y v w' => v = .iface 123 (.agg #[.int .i64 4]) ∧ Below y.heap.size y w') (fun y _ hy => (settle_taken B b _ _ _ _ _ _ g u1 u2 a c s _ y hy hw (w_mono zw a c) (w_taken zw h4)).mono (fun e w' q => ⟨_, q.1, rfl, q.2⟩))).mono ?_
  rintro e w' ⟨y, v, rfl, hb, rfl, hb'⟩
  exact ⟨(hb.trans (hb'.mono hb.size)).mono hBx, Or.inl ⟨4, rfl, by unfold codeOf; decide, rfl⟩⟩
 ·refine (colCommit_settle B b _ _ _ _ _ _ g u1 u2 a s c j x h hw hl (none_w h1) (first_k h2) h3 (fun y v w' => v = .iface 123 (.agg #[.int .i64 5]) ∧ Below y.heap.size y w') (fun y _ hy => (settle_full B b _ _ _ _ _ _ g u1 u2 a c s _ y hy (by omega) (w_mono zw a c) (fun q _ hq => h4 ⟨q, hq.1, hq.2⟩)).mono (fun e w' q => ⟨_, q.1, rfl, q.2⟩))).mono ?_
  rintro e w' ⟨y, v, rfl, hb, rfl, hb'⟩
  exact ⟨(hb.trans (hb'.mono hb.size)).mono hBx, Or.inl ⟨5, rfl, by unfold codeOf; decide, rfl⟩⟩
 ·refine (colCommit_settle B b _ _ _ _ _ _ g u1 u2 a s c j x h hw hl (none_w h1) (first_k h2) h3 (fun y v w' => v = .nilIface ∧ (∃ q u1' u2', placeAt (aheadW S.k a c) S.nw q ∧ Cols w' B b S.nc (cellM S S.nc) (unlL S.l a s S.nl).length (fun p => (unlL S.l a s S.nl).flatten.getD p 0) (S.nw + 1) (insF S.k 4 S.nw q [a, c, s, S.l (j * 5 + 2)]) g u1' u2' ∧ ApartC b g u1' u2') ∧ Below B y w') (fun y _ hy => (settle_done B b _ _ _ _ _ _ g u1 u2 a c s _ y hy hA hl h5 (w_mono zw a c) (fun q _ hq => h4 ⟨q, hq.1, hq.2⟩)).mono (fun e w' q => ⟨_, q.1, rfl, q.2⟩))).mono ?_
  rintro e w' ⟨y, v, rfl, hb, rfl, ⟨q, v1, v2, hq, hC, _⟩, hb'⟩
  obtain rfl : q = k := hq.one h6
  exact ⟨(hb.mono hBx).trans hb', Or.inr ⟨rfl, rfl, ⟨rfl, rfl, Nat.le_trans (selD_le _ _ _ _) hl, h5⟩, v1, v2, hC⟩⟩
end

section
open Go.RowKit Go.Lib
theorem self_map {S : Sto} (hz : scan (cellF S.c) S.nc = 0) : MapRow (cellM S S.nc) S.nc S.c :=
 ⟨cells_rise hz, fun i hi => by
  have hc := cellF_zero (scan_zero hz i hi)
  have hk := faultOf_zero hc.1
  exact ⟨wf_small hk.1 (by omega), wf_small (by omega) hc.2.2.1⟩, fun i hi => cellM_at hz hi ⟨rfl, rfl⟩, fun _ _ _ _ _ h => cellM_some h⟩
set_option maxRecDepth 100000 in
set_option maxHeartbeats 8000000 in
theorem implCommitKey_is (S : Sto) (v0 v1 v2 : Value) (a s c r : Int) (R : Sto) (B : Nat) (w : World) (h : St w B S v0 v1 v2) (hL : Laid w) (hA : CommitAns S a s c r R) :
  Calls Tryz.prog 18 #[.agg #[v0, v1, v2], .int .i64 a, .int .i64 s, .int .i64 c] w (ResSto w r R) := by
 obtain ⟨a0, c0, a1, c1, a2, c2, rfl, rfl, rfl⟩ := h.form
 have HE : Hid (CallSto w B S (.slice a0 S.nc c0) (.slice a1 S.nl c1) (.slice a2 S.nw c2) ((w.alloc (.cells #[.slice a0 S.nc c0, .slice a1 S.nl c1, .slice a2 S.nw c2] 28)).alloc (.cells #[.int .i64 0, .slice none 0 0, .slice none 0 0, .slice none 0 0] 32))) := CallSto.new h _ _
 have HL : Hid (Laid w) := hL
 clear h hL
 unfold ResSto
 rcases hA with ⟨hz, rfl, rfl⟩ | ⟨hz, ht, rfl, rfl⟩ | ⟨hz, ht, hu, rfl, rfl⟩ | ⟨hz, ht, hu, hc, rfl, rfl⟩ | ⟨hz, ht, hu, hc, hR⟩
 ·obtain ⟨f, hf⟩ : ∃ f, askF S a = f := ⟨_, rfl⟩
  have HF : Hid (askF S a = f) := hf
  have hfn : (f == 0) = false := beq_eq_false_iff_ne.2 (by rw [← hf]; exact hz)
  rw [hf]
  clear hz hf
  go_enter Tryz.func18, Tryz.ntmps18
  go_wp2_with fail
  refine (askFault_any S _ _ _ a B _ HE.out.2.2.1).mono ?_
  rw [HF.out]
  rintro e w1 ⟨rfl, q1⟩
  have HE : Hid (CallSto w B S (.slice a0 S.nc c0) (.slice a1 S.nl c1) (.slice a2 S.nw c2) w1) := HE.out.later q1
  obtain ⟨⟨⟨p0, p1, p2⟩, _⟩, ⟨⟨r0, r1, r2, r3⟩, f0, f1, f2, f3⟩, _⟩ := HE.out
  clear q1
  go_wp2
  exact bodyPost_ret (v := .agg #[.int .i64 f, .slice none 0 0, .slice none 0 0, .slice none 0 0]) (by simp [results, Tryz.results18, go_sem, r0, r1, r2, r3]) rfl ⟨none, 0, none, 0, none, 0, rfl, empty_sto _ _, (((HE.out.2.2.2.setCell (Nat.le_succ _) _).setCell (Nat.le_succ _) _).setCell (Nat.le_succ _) _).setCell (Nat.le_succ _) _⟩
 ·have HA : Hid (askF S a = 0) := hz
  have HT : Hid (decide (1 ≤ s ∧ s ≤ 100000) = false) := decide_eq_false ht
  clear hz ht
  go_enter Tryz.func18, Tryz.ntmps18
  go_wp2_with fail
  refine (askFault_any S _ _ _ a B _ HE.out.2.2.1).mono ?_
  rw [HA.out]
  rintro e w1 ⟨rfl, q1⟩
  have HE : Hid (CallSto w B S (.slice a0 S.nc c0) (.slice a1 S.nl c1) (.slice a2 S.nw c2) w1) := HE.out.later q1
  obtain ⟨⟨⟨p0, p1, p2⟩, _⟩, ⟨⟨r0, r1, r2, r3⟩, f0, f1, f2, f3⟩, _⟩ := HE.out
  clear q1
  go_wp2_with fail
  refine (isTime_is s false HT.out _).mono ?_
  rintro e w2 ⟨rfl, rfl⟩
  go_wp2
  exact bodyPost_ret (v := .agg #[.int .i64 3, .slice none 0 0, .slice none 0 0, .slice none 0 0]) (by simp [results, Tryz.results18, go_sem, r0, r1, r2, r3]) rfl ⟨none, 0, none, 0, none, 0, rfl, empty_sto _ _, (((HE.out.2.2.2.setCell (Nat.le_succ _) _).setCell (Nat.le_succ _) _).setCell (Nat.le_succ _) _).setCell (Nat.le_succ _) _⟩
 ·have HA : Hid (askF S a = 0) := hz
  have HT : Hid (decide (1 ≤ s ∧ s ≤ 100000) = true) := decide_eq_true ht
  have HU : Hid (decide (1 ≤ c ∧ c ≤ 100000) = false) := decide_eq_false hu
  clear hz ht hu
  go_enter Tryz.func18, Tryz.ntmps18
  go_wp2_with fail
  refine (askFault_any S _ _ _ a B _ HE.out.2.2.1).mono ?_
  rw [HA.out]
  rintro e w1 ⟨rfl, q1⟩
  have HE : Hid (CallSto w B S (.slice a0 S.nc c0) (.slice a1 S.nl c1) (.slice a2 S.nw c2) w1) := HE.out.later q1
  obtain ⟨⟨⟨p0, p1, p2⟩, _⟩, ⟨⟨r0, r1, r2, r3⟩, f0, f1, f2, f3⟩, _⟩ := HE.out
  clear q1
  go_wp2_with fail
  refine (isTime_is s true HT.out _).mono ?_
  rintro e w2 ⟨rfl, rfl⟩
  go_wp2_with fail
  refine (isTime_is c false HU.out _).mono ?_
  rintro e w2' ⟨rfl, rfl⟩
  go_wp2
  exact bodyPost_ret (v := .agg #[.int .i64 3, .slice none 0 0, .slice none 0 0, .slice none 0 0]) (by simp [results, Tryz.results18, go_sem, r0, r1, r2, r3]) rfl ⟨none, 0, none, 0, none, 0, rfl, empty_sto _ _, (((HE.out.2.2.2.setCell (Nat.le_succ _) _).setCell (Nat.le_succ _) _).setCell (Nat.le_succ _) _).setCell (Nat.le_succ _) _⟩
 ·have HA : Hid (askF S a = 0) := hz
  have HT : Hid (decide (1 ≤ s ∧ s ≤ 100000) = true) := decide_eq_true ht
  have HU : Hid (decide (1 ≤ c ∧ c ≤ 100000) = true) := decide_eq_true hu
  have dc : decide (c ≤ s) = true := decide_eq_true hc
  clear hz ht hu hc
  go_enter Tryz.func18, Tryz.ntmps18
  go_wp2_with fail
  refine (askFault_any S _ _ _ a B _ HE.out.2.2.1).mono ?_
  rw [HA.out]
  rintro e w1 ⟨rfl, q1⟩
  have HE : Hid (CallSto w B S (.slice a0 S.nc c0) (.slice a1 S.nl c1) (.slice a2 S.nw c2) w1) := HE.out.later q1
  obtain ⟨⟨⟨p0, p1, p2⟩, _⟩, ⟨⟨r0, r1, r2, r3⟩, f0, f1, f2, f3⟩, _⟩ := HE.out
  clear q1
  go_wp2_with fail
  refine (isTime_is s true HT.out _).mono ?_
  rintro e w1' ⟨rfl, rfl⟩
  go_wp2_with fail
  refine (isTime_is c true HU.out _).mono ?_
  rintro e w2' ⟨rfl, rfl⟩
  go_wp2
  exact bodyPost_ret (v := .agg #[.int .i64 1, .slice none 0 0, .slice none 0 0, .slice none 0 0]) (by simp [results, Tryz.results18, go_sem, r0, r1, r2, r3]) rfl ⟨none, 0, none, 0, none, 0, rfl, empty_sto _ _, (((HE.out.2.2.2.setCell (Nat.le_succ _) _).setCell (Nat.le_succ _) _).setCell (Nat.le_succ _) _).setCell (Nat.le_succ _) _⟩
 ·have HA : Hid (askF S a = 0) := hz
  have hs := (askF_zero hz).1
  have Z := storeF_zero hs
  have HZ : Hid (scan (cellF S.c) S.nc = 0 ∧ (S.nc ≤ 200 ∧ S.nl ≤ 200 ∧ S.nw ≤ 200)) := ⟨Z.2.1, Z.1⟩
  have HS : Hid (storeF S = 0) := hs
  have HR : Hid (CommitRes S a s c r R) := hR
  have HT : Hid (decide (1 ≤ s ∧ s ≤ 100000) = true) := decide_eq_true ht
  have HU : Hid (decide (1 ≤ c ∧ c ≤ 100000) = true) := decide_eq_true hu
  have dc : decide (c ≤ s) = false := decide_eq_false (by omega)
  clear hz hs ht hu hc hR Z
  go_enter Tryz.func18, Tryz.ntmps18
  go_wp2_with fail
  refine (askFault_any S _ _ _ a B _ HE.out.2.2.1).mono ?_
  rw [HA.out]
  rintro e w1 ⟨rfl, q1⟩
  have HE : Hid (CallSto w B S (.slice a0 S.nc c0) (.slice a1 S.nl c1) (.slice a2 S.nw c2) w1) := HE.out.later q1
  obtain ⟨⟨⟨p0, p1, p2⟩, _⟩, ⟨⟨r0, r1, r2, r3⟩, f0, f1, f2, f3⟩, _⟩ := HE.out
  clear q1
  go_wp2_with fail
  refine (isTime_is s true HT.out _).mono ?_
  rintro e w1' ⟨rfl, rfl⟩
  go_wp2_with fail
  refine (isTime_is c true HU.out _).mono ?_
  rintro e w2' ⟨rfl, rfl⟩
  go_wp2_with fail
  refine (columnsOf_apart S B _ _ _ _ HE.out.2.2.1 HZ.out.2.1 HZ.out.2.2.1 HZ.out.2.2.2 HZ.out.1).mono ?_
  rintro e w2 ⟨b, g, u1, u2, rfl, hC, hap, q1⟩
  clear p0 p1 p2 r0 r1 r2 r3 f0 f1 f2 f3
  have HC : Hid (Cols w2 w2'.heap.size b S.nc (cellM S S.nc) S.nl S.l S.nw S.k g u1 u2 ∧ ApartC b g u1 u2) := ⟨hC, hap⟩
  have zw : Hid (w.heap.size + 2 ≤ w2'.heap.size) := HE.out.2.1.lt
  have HE : Hid (CallSto w B S (.slice a0 S.nc c0) (.slice a1 S.nl c1) (.slice a2 S.nw c2) w2) := HE.out.later q1
  clear q1 hC hap
  go_wp2_with fail
  refine (colCommit_res S HS.out _ b g u1 u2 a s c r R w2 HC.out.1 HC.out.2 HR.out).mono ?_
  rintro e w3 ⟨hb3, hans⟩
  have HR3 : Hid (Blk4 w3 (w.heap.size + 1) (.int .i64 0) (.slice none 0 0) (.slice none 0 0) (.slice none 0 0) ∧ Below w.heap.size w w3) := ⟨HE.out.2.1.kept (hb3.block (w.heap.size + 1) (by have := zw.out; omega)), HE.out.2.2.2.trans (hb3.mono (by have := zw.out; omega))⟩
  have z3 : Hid (w.heap.size + 2 ≤ w3.heap.size) := HR3.out.1.lt
  clear hb3 HE HC
  rcases hans with ⟨kk, rfl, hk, rfl⟩ | ⟨rfl, rfl, hn, y1, y2, hC3⟩
  ·have hrn : (r == 0) = false := beq_eq_false_iff_ne.2 (by unfold codeOf at hk; omega)
   have HK : Hid (codeOf kk r) := hk
   clear hk HR
   go_wp2_with fail
   refine (unless_hit kk r HK.out hrn (some ⟨b, 0, none⟩) w3 (HL.out.later HR3.out.2)).mono ?_
   rintro e w4 ⟨d0, e0, d1, e1, d2, e2, rfl, ⟨s3, f3', a3⟩, q4⟩
   have S3 : Hid ((St w4 (w.heap.size + 2) emptyS (.slice d0 (emptyS).nc e0) (.slice d1 (emptyS).nl e1) (.slice d2 (emptyS).nw e2) ∧ FreeS w4 emptyS (.slice d0 (emptyS).nc e0) (.slice d1 (emptyS).nl e1) (.slice d2 (emptyS).nw e2)) ∧ ApartD emptyS (.slice d0 (emptyS).nc e0) (.slice d1 (emptyS).nl e1) (.slice d2 (emptyS).nw e2)) := ⟨⟨s3.mono z3.out, f3'⟩, a3⟩
   have HBW : Hid (Below w.heap.size w w4) := HR3.out.2.trans (q4.mono HR3.out.2.size)
   obtain ⟨⟨r0, r1, r2, r3⟩, f0, f1, f2, f3⟩ := HR3.out.1.later q4
   clear s3 f3' a3 q4
   have hlo : (w.heap.size + 1 : Nat) < w.heap.size + 2 := Nat.lt_succ_self _
   go_wp2
   exact bodyPost_ret (v := .agg #[.int .i64 r, .slice d0 emptyS.nc e0, .slice d1 emptyS.nl e1, .slice d2 emptyS.nw e2]) (by simp [results, Tryz.results18, go_sem, r0, r1, r2, r3]) rfl ⟨d0, e0, d1, e1, d2, e2, rfl, ⟨((((S3.out.1.1.far hlo _).far hlo _).far hlo _).far hlo _).mono (by omega), (((S3.out.1.2.far _ _).far _ _).far _ _).far _ _, S3.out.2⟩, (((HBW.out.setCell (Nat.le_succ _) _).setCell (Nat.le_succ _) _).setCell (Nat.le_succ _) _).setCell (Nat.le_succ _) _⟩
  ·obtain ⟨nc, cc, nl, l, nw, k⟩ := R
   obtain ⟨rfl, rfl, h3, h4⟩ := hn
   have HC3 : Hid (Cols w3 w2'.heap.size b S.nc (cellM S S.nc) nl l nw k g y1 y2) := hC3
   have HM : Hid (nl ≤ 200 ∧ nw ≤ 200) := ⟨h3, h4⟩
   clear hC3 h3 h4 HR
   go_wp2_with fail
   refine (unless_ok _ b S.nc _ nl l nw k g y1 y2 w3 HC3.out HM.out.1 HM.out.2 (by have := HZ.out.2.1; omega) S.nc S.c (self_map HZ.out.1)).mono ?_
   rintro e w4 ⟨d0, e0, d1, e1, d2, e2, rfl, ⟨s3, f3', a3⟩, q4⟩
   obtain ⟨RR, hRR⟩ : ∃ RR : Sto, RR = ⟨S.nc, S.c, nl, l, nw, k⟩ := ⟨_, rfl⟩
   rw [← hRR] at s3 f3' a3 ⊢
   have HRR : Hid (RR = ⟨S.nc, S.c, nl, l, nw, k⟩) := hRR
   clear hRR
   have S3 : Hid ((St w4 (w.heap.size + 2) RR (.slice d0 (RR).nc e0) (.slice d1 (RR).nl e1) (.slice d2 (RR).nw e2) ∧ FreeS w4 RR (.slice d0 (RR).nc e0) (.slice d1 (RR).nl e1) (.slice d2 (RR).nw e2)) ∧ ApartD RR (.slice d0 (RR).nc e0) (.slice d1 (RR).nl e1) (.slice d2 (RR).nw e2)) := ⟨⟨s3.mono z3.out, f3'⟩, a3⟩
   have HBW : Hid (Below w.heap.size w w4) := HR3.out.2.trans (q4.mono HR3.out.2.size)
   obtain ⟨⟨r0, r1, r2, r3⟩, f0, f1, f2, f3⟩ := HR3.out.1.later q4
   clear s3 f3' a3 q4
   have hlo : (w.heap.size + 1 : Nat) < w.heap.size + 2 := Nat.lt_succ_self _
   go_wp2
   have hRR := HRR.out
   clear HRR
   subst hRR
   exact bodyPost_ret (v := .agg #[.int .i64 0, .slice d0 S.nc e0, .slice d1 nl e1, .slice d2 nw e2]) (by simp [results, Tryz.results18, go_sem, r0, r1, r2, r3]) rfl ⟨d0, e0, d1, e1, d2, e2, rfl, ⟨((((S3.out.1.1.far hlo _).far hlo _).far hlo _).far hlo _).mono (by omega), (((S3.out.1.2.far _ _).far _ _).far _ _).far _ _, S3.out.2⟩, (((HBW.out.setCell (Nat.le_succ _) _).setCell (Nat.le_succ _) _).setCell (Nat.le_succ _) _).setCell (Nat.le_succ _) _⟩
end

section
open Go.RowKit Go.Lib
theorem placeAt.get (p : Nat → Prop) : ∀ n, ∃ k, placeAt p n k
 | 0 => ⟨0, Nat.le_refl _, fun j hj => absurd hj (Nat.not_lt_zero _), fun h => absurd h (Nat.lt_irrefl _)⟩
 | n + 1 => by
  obtain ⟨k, h1, h2, h3⟩ := placeAt.get p n
  rcases Nat.lt_or_ge k n with e | e
  ·exact ⟨k, by omega, h2, fun _ => h3 e⟩
  ·obtain rfl : k = n := by omega
   by_cases q : p k
   ·exact ⟨k + 1, Nat.le_refl _, fun j hj => by
     rcases Nat.lt_or_ge j k with r | r
     ·exact h2 j r
     ·obtain rfl : j = k := by omega
      exact q, fun h => absurd h (Nat.lt_irrefl _)⟩
   ·exact ⟨k, by omega, h2, fun _ => q⟩
def Small (R : Sto) : Prop := R.nc ≤ 1048576 ∧ R.nl ≤ 1048576 ∧ R.nw ≤ 1048576
theorem small_empty : Small emptyS := by unfold Small emptyS; decide
theorem CommitRes.get (S : Sto) (hz : storeF S = 0) (a s c : Int) : ∃ r R, Small R ∧ CommitRes S a s c r R := by
 obtain ⟨⟨hc, hl, hw⟩, _⟩ := storeF_zero hz
 have hS : Small S := ⟨by omega, by omega, by omega⟩
 obtain ⟨i, hi⟩ := FirstAt.get (writeIs S.k a s) S.nw
 rcases hi with ⟨rfl, hn⟩ | ⟨i, hi, rfl, hp, hq⟩
 ·have h1 : FirstAt (writeIs S.k a s) S.nw (-1) := Or.inl ⟨rfl, hn⟩
  obtain ⟨j, hj⟩ := FirstAt.get (lockIs S.l a) S.nl
  rcases hj with ⟨rfl, hn2⟩ | ⟨j, hj, rfl, hp2, hq2⟩
  ·exact ⟨4, emptyS, small_empty, Or.inr (Or.inr (Or.inl ⟨h1, Or.inl (Or.inl ⟨rfl, hn2⟩), rfl, rfl⟩))⟩
  ·have h2 : FirstAt (lockIs S.l a) S.nl (j : Int) := Or.inr ⟨j, hj, rfl, hp2, hq2⟩
   by_cases h3 : S.l (j * 5 + 1) = s
   ·by_cases h4 : ∃ i, i < S.nw ∧ writeAt S.k a c i
    ·exact ⟨6, emptyS, small_empty, Or.inr (Or.inr (Or.inr (Or.inl ⟨j, h1, h2, h3, h4, rfl, rfl⟩)))⟩
    ·by_cases h5 : 200 ≤ S.nw
     ·exact ⟨2, emptyS, small_empty, Or.inr (Or.inr (Or.inr (Or.inr (Or.inl ⟨j, h1, h2, h3, h4, h5, rfl, rfl⟩))))⟩
     ·obtain ⟨k, hk⟩ := placeAt.get (aheadW S.k a c) S.nw
      refine ⟨0, commitS S a s c (S.l (j * 5 + 2)) k, ⟨hS.1, ?_, ?_⟩, Or.inr (Or.inr (Or.inr (Or.inr (Or.inr ⟨j, k, h1, h2, h3, h4, by omega, hk, rfl, rfl⟩))))⟩
      ·exact Nat.le_trans (selD_le _ _ _ _) hS.2.1
      ·show S.nw + 1 ≤ _
       omega
   ·exact ⟨4, emptyS, small_empty, Or.inr (Or.inr (Or.inl ⟨h1, Or.inr ⟨j, h2, h3⟩, rfl, rfl⟩))⟩
 ·have h1 : FirstAt (writeIs S.k a s) S.nw (i : Int) := Or.inr ⟨i, hi, rfl, hp, hq⟩
  by_cases h2 : S.k (i * 4 + 1) = c
  ·exact ⟨0, S, hS, Or.inl ⟨i, h1, h2, rfl, rfl⟩⟩
  ·exact ⟨6, emptyS, small_empty, Or.inr (Or.inl ⟨i, h1, h2, rfl, rfl⟩)⟩
theorem CommitAns.get (S : Sto) (a s c : Int) : ∃ r R, Small R ∧ CommitAns S a s c r R := by
 by_cases hz : askF S a = 0
 ·by_cases hs : isT s
  ·by_cases hc : isT c
   ·by_cases h : c ≤ s
    ·exact ⟨1, emptyS, small_empty, Or.inr (Or.inr (Or.inr (Or.inl ⟨hz, hs, hc, h, rfl, rfl⟩)))⟩
    ·obtain ⟨r, R, h1, h2⟩ := CommitRes.get S (askF_zero hz).1 a s c
     exact ⟨r, R, h1, Or.inr (Or.inr (Or.inr (Or.inr ⟨hz, hs, hc, by omega, h2⟩)))⟩
   ·exact ⟨3, emptyS, small_empty, Or.inr (Or.inr (Or.inl ⟨hz, hs, hc, rfl, rfl⟩))⟩
  ·exact ⟨3, emptyS, small_empty, Or.inr (Or.inl ⟨hz, hs, rfl, rfl⟩)⟩
 ·exact ⟨_, emptyS, small_empty, Or.inl ⟨hz, rfl, rfl⟩⟩
end
end Go.Proofs.YtiadbiiiikhfaaaGreatDoor

namespace Go.Proofs.YtiadbiiiikhfaaaGreatDoor
section
variable {P : Program} {ops : Array Oper} {Q : Exit → Act → World → Prop} {md : Region.Mode} {S : World → Prop} {z : Nat}
/-- Whatever order is picked, and S holds behind every operation but number z. -/
def wpAnyZ (P : Program) (md : Region.Mode) (ops : Array Oper) (Q : Exit → Act → World → Prop) (S : World → Prop) (z : Nat) : Nat → Array Bool → Act → World → Prop
 | 0, listed, a, w => Region.ready md ops listed = [] ∧ Q .normal a w
 | fuel + 1, listed, a, w =>
  (Region.ready md ops listed = [] → Q .normal a w) ∧
  ∀ i ∈ Region.ready md ops listed, wpOp P ops Q i (fun a' w' => (i ≠ z → S w') ∧ wpAnyZ P md ops Q S z fuel (listed.setIfInBounds i true) a' w') a w
theorem wpAny_of_Z : ∀ (fuel : Nat) (listed : Array Bool) (a : Act) (w : World), wpAnyZ P md ops Q S z fuel listed a w → wpAny P md ops Q fuel listed a w
 | 0, _, _, _, h => h
 | fuel + 1, _, _, _, h => ⟨h.1, fun i hi => wpOp_mono (fun a' w' h' => wpAny_of_Z fuel _ a' w' h'.2) (h.2 i hi)⟩
def leZ (l m : Array Bool) : Prop := ∀ k, l.getD k false = true → m.getD k false = true
theorem ready_leZ {l m : Array Bool} (hs : m.size = ops.size) (h : leZ l m) {j : Nat} (hj : j ∈ Region.ready md ops l) : m.getD j false = true ∨ j ∈ Region.ready md ops m := by
 obtain ⟨_, o, ho, hall⟩ := mem_ready.1 hj
 have hlt : j < m.size := by rw [hs]; exact (Array.getElem?_eq_some_iff.1 ho).1
 by_cases e : m.getD j false = true
 ·exact Or.inl e
 ·refine Or.inr (mem_ready.2 ⟨?_, o, ho, fun e he hb => h _ (hall e he hb)⟩)
  simp [Array.getD, hlt] at e ⊢
  exact e
theorem leZ_set {l m : Array Bool} (h : leZ l m) {j : Nat} (hj : m.getD j false = true) : leZ (l.setIfInBounds j true) m := fun k hk => by
 by_cases e : j = k
 ·subst e; exact hj
 ·rw [getD_set_ne false e] at hk; exact h k hk
theorem wpAnyZ_first {i : Nat} {oi : Oper} {v : Value} (hi : ops[i]? = some oi) (hsel : ∀ (j : Nat) (o : Oper) cs b, ops[j]? = some o → o.op ≠ .select cs b)
  (hQ : ∀ c a w, Q (.panic c) (a.put oi.dst v) w → Q (.panic c) a w) {m : Array Bool} (hsz : m.size = ops.size) (hm : ∀ j ∈ Region.ready md ops m, j = i) (hz : m.getD z false = false) :
  ∀ (fuel : Nat) (listed : Array Bool) (a : Act) (w : World),
   (∀ j oj, ops[j]? = some oj → j ≠ i → listed.getD j true = false → (∀ e ∈ oj.after, Region.binds md e = true → e.on ≠ i) → oi.apart ops oj = true) → leZ listed m →
   i ∈ Region.ready md ops listed → YieldsIf P ops S oi v a → S w →
   wpAnyZ P md ops Q S z fuel (listed.setIfInBounds i true) (a.put oi.dst v) w → wpAnyZ P md ops Q S z (fuel + 1) listed a w := by
 intro fuel
 induction fuel with
 | zero =>
  intro listed a w _ _ hr hy hS H
  refine ⟨fun h => (by rw [h] at hr; cases hr), fun j hj => ?_⟩
  by_cases hji : j = i
  ·subst hji; exact hy.wpOp hi hS ⟨fun _ => hS, H⟩
  ·have := ready_mono hj hji
   rw [H.1] at this
   cases this
 | succ fuel ih =>
  intro listed a w hfree hle hr hy hS H
  refine ⟨fun h => (by rw [h] at hr; cases hr), fun j hj => ?_⟩
  by_cases hji : j = i
  ·subst hji; exact hy.wpOp hi hS ⟨fun _ => hS, H⟩
  ·have hmj : m.getD j false = true := (ready_leZ hsz hle hj).resolve_right (fun q => hji (hm j q))
   have hjz : j ≠ z := fun q => by rw [q, hz] at hmj; cases hmj
   have h1 := H.2 j (ready_mono hj hji)
   obtain ⟨hjun, oj, hoj, hall⟩ := mem_ready.1 hj
   have hnot : ∀ e ∈ oj.after, Region.binds md e = true → e.on ≠ i := fun e he hb heq => by
    have h1 := hall e he hb
    have h0 := (mem_ready.1 hr).1
    rw [heq] at h1
    rcases Nat.lt_or_ge i listed.size with h' | h'
    ·simp [h'] at h0 h1; rw [h0] at h1; cases h1
    ·simp [Array.getElem?_eq_none h'] at h1
   have h2 := wpOp_putIf hoj (hfree j oj hoj hji hjun hnot) (fun cs b => hsel i oi cs b hi) (fun cs b => hsel j oj cs b hoj) hQ hy h1
   have hfree' : ∀ k ok, ops[k]? = some ok → k ≠ i → (listed.setIfInBounds j true).getD k true = false →
     (∀ e ∈ ok.after, Region.binds md e = true → e.on ≠ i) → oi.apart ops ok = true := fun k ok hk hki hun hno => by
    refine hfree k ok hk hki ?_ hno
    by_cases hjk : j = k
    ·subst hjk; exact hjun
    ·rw [getD_set_ne true hjk] at hun; exact hun
   refine wpOp_mono (fun a' w' h3 => ⟨h3.2.1, ih (listed.setIfInBounds j true) a' w' hfree' (leZ_set hle hmj) (ready_mono hr (Ne.symm hji)) h3.1 (h3.2.1 hjz) ?_⟩) h2
   rw [Array.setIfInBounds_comm _ _ hji]
   exact h3.2.2
/-- All that may have come up before number i. -/
def satZ (md : Region.Mode) (ops : Array Oper) (i : Nat) : Nat → Array Bool → Array Bool
 | 0, l => l
 | n + 1, l => satZ md ops i n (((Region.ready md ops l).filter (· != i)).foldl (fun l j => l.setIfInBounds j true) l)
def okZ (md : Region.Mode) (ops : Array Oper) (z : Nat) (listed : Array Bool) (i : Nat) : Bool :=
 (fun m : Array Bool => m.size == ops.size && ((List.range listed.size).all fun k => !listed.getD k false || m.getD k false) && ((Region.ready md ops m).all (· == i)) && !m.getD z false) (satZ md ops i ops.size listed)
theorem wpAnyZ_take {i : Nat} {oi : Oper} {v : Value} {fuel : Nat} {listed : Array Bool} {a : Act} {w : World} (hi : ops[i]? = some oi)
  (hs : Region.noSelect ops = true) (hf : Region.free md ops listed i = true) (hr : (Region.ready md ops listed).contains i = true) (hz : okZ md ops z listed i = true)
  (hQ : ∀ c a w, Q (.panic c) (a.put oi.dst v) w → Q (.panic c) a w) (hy : YieldsIf P ops S oi v a) (hS : S w)
  (h : wpAnyZ P md ops Q S z fuel (listed.setIfInBounds i true) (a.put oi.dst v) w) : wpAnyZ P md ops Q S z (fuel + 1) listed a w := by
 unfold okZ at hz
 simp only [Bool.and_eq_true, beq_iff_eq, List.all_eq_true, Bool.not_eq_true', Bool.or_eq_true, List.mem_range] at hz
 obtain ⟨⟨⟨h1, h2⟩, h3⟩, h4⟩ := hz
 refine wpAnyZ_first hi (Region.noSelect_spec hs) hQ h1 h3 h4 fuel listed a w (Region.free_spec hi hf) (fun k hk => ?_) (by simpa using hr) hy hS h
 have hk' : k < listed.size := by
  rcases Nat.lt_or_ge k listed.size with h' | h'
  ·exact h'
  ·simp [Array.getElem?_eq_none h'] at hk
 rcases h2 k hk' with q | q
 ·rw [hk] at q; cases q
 ·exact q
theorem wpAnyZ_done {listed : Array Bool} {a : Act} {w : World} (hr : Region.ready md ops listed = []) (h : Q .normal a w) :
  ∀ fuel, wpAnyZ P md ops Q S z fuel listed a w
 | 0 => ⟨hr, h⟩
 | _ + 1 => ⟨fun _ => h, by rw [hr]; simp⟩
/-- But one may come up, and it isn't the last. -/
theorem wpAnyZ_one (i : Nat) {o : Oper} {fuel : Nat} {listed : Array Bool} {a : Act} {w : World} (hr : Region.ready md ops listed = [i]) (ho : ops[i]? = some o)
  (h : ∀ K' : Act → World → Prop, Shut (∀ a w, S w → (S w → wpAnyZ P md ops Q S z fuel (listed.setIfInBounds i true) a w) → K' a w) → if Region.wanted o (yielded ops a.tmps) = true then Oper.wp P o a w K' Q else K' (a.put o.dst undef) w) : wpAnyZ P md ops Q S z (fuel + 1) listed a w :=
 ⟨fun h0 => (by rw [hr] at h0; cases h0), fun j hj => by
  rw [hr] at hj
  obtain rfl : j = i := by simpa using hj
  exact wpOp_step ho (fun K' hK => h K' (fun a w hS hW => hK a w ⟨fun _ => hS, hW hS⟩))⟩
/-- The last. -/
theorem wpAnyZ_last {o : Oper} {fuel : Nat} {listed : Array Bool} {a : Act} {w : World} (hr : Region.ready md ops listed = [z]) (ho : ops[z]? = some o)
  (h : ∀ K' : Act → World → Prop, Shut (∀ a w, wpAnyZ P md ops Q S z fuel (listed.setIfInBounds z true) a w → K' a w) → if Region.wanted o (yielded ops a.tmps) = true then Oper.wp P o a w K' Q else K' (a.put o.dst undef) w) : wpAnyZ P md ops Q S z (fuel + 1) listed a w :=
 ⟨fun h0 => (by rw [hr] at h0; cases h0), fun j hj => by
  rw [hr] at hj
  obtain rfl : j = z := by simpa using hj
  exact wpOp_step ho (fun K' hK => h K' (fun a w hW => hK a w ⟨fun q => absurd rfl q, hW⟩))⟩
/-- The beginning. -/
theorem wp_regionZ (z : Nat) {id : Nat} {a : Act} {w : World} (hm : P.follows .mixedOrders = true) (hS : S w.drew)
  (h : S w.drew → wpAnyZ P .any ops Q S z ops.size (Array.replicate ops.size false) a w.drew) : (Code.region id ops true).wp P Q a w :=
 wp_region_any hm (wpAny_of_Z _ _ _ _ (h hS))
end
end Go.Proofs.YtiadbiiiikhfaaaGreatDoor

namespace Go.Proofs.YtiadbiiiikhfaaaGreatDoor
section
open Go.RowKit Go.Maps Go.Sort Go.Shelf Go.Lib
/-- The cells without that of a key and start. -/
def goneK (a s : Int) (t : List Int) : Bool := t.getD 0 0 == a && t.getD 1 0 == s
def unlC (F : Nat → Int) (a s : Int) (n : Nat) : List (List Int) := selD F 3 (goneK a s) n
theorem goneK_iff {F : Nat → Int} {a s : Int} {i : Nat} : goneK a s (struD F 3 i) = true ↔ cellIs F a s i := by
 unfold goneK cellIs
 rw [struD_get F 3 i 0 (by omega), struD_get F 3 i 1 (by omega), Bool.and_eq_true, beq_iff_eq, beq_iff_eq]
 exact Iff.rfl
theorem goneK_not {F : Nat → Int} {a s : Int} {i : Nat} (h : ¬ cellIs F a s i) : goneK a s (struD F 3 i) = false := by
 cases e : goneK a s (struD F 3 i) with
 | false => rfl
 | true => exact absurd (goneK_iff.1 e) h
/-- A store of which what began at s for the key a is taken back. -/
def rollS (S : Sto) (a s : Int) (k : Nat) : Sto := ⟨(unlC S.c a s S.nc).length, fun p => (unlC S.c a s S.nc).flatten.getD p 0, (unlL S.l a s S.nl).length, fun p => (unlL S.l a s S.nl).flatten.getD p 0, S.nw + 1, insF S.k 4 S.nw k [a, s, s, 4]⟩
theorem selD_one {F : Nat → Int} {m : Nat} {D : List Int → Bool} {j : Nat} (hj : D (struD F m j) = true) : ∀ k, j < k → (∀ i, i < k → i ≠ j → D (struD F m i) = false) → (selD F m D k).length = k - 1 ∧ ∀ p, p < (k - 1) * m → (selD F m D k).flatten.getD p 0 = if p < j * m then F p else F (p + m)
 | 0, h, _ => absurd h (Nat.not_lt_zero _)
 | k + 1, h, ha => by
  rcases Nat.lt_or_ge j k with q | q
  ·obtain ⟨i1, i2⟩ := selD_one hj k q (fun i hi hn => ha i (by omega) hn)
   rw [selD_kept (ha k (by omega) (by omega))]
   refine ⟨by rw [List.length_append, i1]; simp; omega, fun p hp => ?_⟩
   have hfl : (selD F m D k).flatten.length = (k - 1) * m := by rw [flat_len _ (selD_len F m D k), i1]
   rw [List.flatten_append, List.getD_eq_getElem?_getD]
   by_cases hq : p < (k - 1) * m
   ·rw [List.getElem?_append_left (by rw [hfl]; exact hq), ← List.getD_eq_getElem?_getD]
    exact i2 p hq
   ·have e1 : (k + 1 - 1) * m = (k - 1) * m + m := by rw [show k + 1 - 1 = (k - 1) + 1 by omega, Nat.succ_mul]
    have e2 : j * m ≤ (k - 1) * m := Nat.mul_le_mul_right m (by omega)
    have e3 : k * m = (k - 1) * m + m := by rw [← Nat.succ_mul, show (k - 1).succ = k by omega]
    rw [List.getElem?_append_right (by rw [hfl]; omega), hfl, if_neg (by omega), ← List.getD_eq_getElem?_getD]
    simp only [List.flatten_cons, List.flatten_nil, List.append_nil]
    rw [struD_get F m k _ (by omega)]
    congr 1
    omega
  ·obtain rfl : j = k := by omega
   rw [selD_gone hj]
   obtain ⟨i1, i2⟩ := selD_same (fun i hi => ha i (by omega) (by omega)) (F := F) (m := m) (D := D) (k := j)
   refine ⟨by rw [i1]; omega, fun p hp => ?_⟩
   rw [show j + 1 - 1 = j by omega] at hp
   rw [i2 p hp, if_pos hp]
/-- Cells of a store without a fault: no two of one key and start. -/
theorem cell_once {S : Sto} (h : scan (cellF S.c) S.nc = 0) {a s : Int} {i j : Nat} (hi : i < S.nc) (hj : j < S.nc) (h1 : cellIs S.c a s i) (h2 : cellIs S.c a s j) : i = j := by
 unfold cellIs at h1 h2
 rcases Nat.lt_trichotomy i j with q | q | q
 ·have := cells_rise h j hj i q
  unfold pairLt at this
  omega
 ·exact q
 ·have := cells_rise h i hi j q
  unfold pairLt at this
  omega
theorem cellAt_isO (S : Sto) (b oo : Nat) (v0 v1 v2 : Value) (a s r : Int) (w : World) (h : LiesO w b oo S v0 v1 v2) (hn : S.nc ≤ 200) (hr : FirstAt (cellIs S.c a s) S.nc r) :
  Calls Tryz.prog 88 #[.pointer (some ⟨b, oo, none⟩), .int .i64 a, .int .i64 s] w fun e w' => e = .returned (.int .i64 r) ∧ w' = w :=
 (l2Cell_anyO S b oo v0 v1 v2 a s w h hn).mono fun e w' ⟨r', he, hf, hw⟩ => ⟨by rw [he, hf.one hr], hw⟩
theorem cellAt_is (S : Sto) (b : Nat) (v0 v1 v2 : Value) (a s r : Int) (w : World) (h : Lies w b S v0 v1 v2) (hn : S.nc ≤ 200) (hr : FirstAt (cellIs S.c a s) S.nc r) :
  Calls Tryz.prog 88 #[.pointer (some ⟨b, 0, none⟩), .int .i64 a, .int .i64 s] w fun e w' => e = .returned (.int .i64 r) ∧ w' = w := cellAt_isO S b 0 v0 v1 v2 a s r w h hn hr
end

section
open Go.RowKit Go.Lib
set_option maxRecDepth 100000 in
set_option maxHeartbeats 8000000 in
theorem l3Roll_sameO (S : Sto) (b oo : Nat) (v0 v1 v2 : Value) (a s : Int) (i : Nat) (w : World) (h : LiesO w b oo S v0 v1 v2) (hz : storeF S = 0) (hi : FirstAt (writeIs S.k a s) S.nw i) (hc : S.k (i * 4 + 3) = 4) :
  Calls Tryz.prog 67 #[.pointer (some ⟨b, oo, none⟩), .int .i64 a, .int .i64 s] w (ResStoK w 0 S) := by
 have hin : i < S.nw := hi.at.1
 obtain ⟨a0, c0, a1, c1, a2, c2, rfl, rfl, rfl⟩ := h.2.form
 have H : Hid (LiesO w b oo S (.slice a0 S.nc c0) (.slice a1 S.nl c1) (.slice a2 S.nw c2)) := h
 obtain ⟨p0, p1, p2⟩ := h.1
 have hb := h.lt
 obtain ⟨⟨hn0, hn1, hn2⟩, _⟩ := storeF_zero hz
 clear h
 go_enter Tryz.func67, Tryz.ntmps67
 go_wp2_with fail
 refine (l2Copy_own S _ _ _ 0 _ (H.out.2.alloc _) ⟨by omega, by omega, by omega⟩).mono ?_
 rintro e w2 ⟨d0, e0, d1, e1, d2, e2, rfl, o2, q2⟩
 have g0 := own_cap o2.1.1
 have g1 := own_cap o2.1.2.1
 have g2 := own_cap o2.1.2.2
 obtain ⟨s2, fr2, ap2⟩ := o2.all
 simp only [World.size_alloc] at s2 q2 o2
 have BW2 : Below w.heap.size w w2 := (below_alloc w _).trans (q2.mono (Nat.le_succ _))
 have HE : Hid (CmE w b oo S (.slice a0 S.nc c0) (.slice a1 S.nl c1) (.slice a2 S.nw c2) w2.heap.size (.slice d0 S.nc e0) (.slice d1 S.nl e1) (.slice d2 S.nw e2) (w2.alloc (.cells #[.slice d0 S.nc e0, .slice d1 S.nl e1, .slice d2 S.nw e2] 28))) :=
  ⟨((Blk4.new w _ _ _ _ _).kept (q2.block w.heap.size (Nat.lt_succ_self _))).alloc _, Blk3.new _ _ _ _ _, (H.out.later BW2).later (below_alloc _ _), BW2.trans ((below_alloc w2 _).mono BW2.size)⟩
 have HS : Hid ((St w2 (w.heap.size + 1) S (.slice d0 S.nc e0) (.slice d1 S.nl e1) (.slice d2 S.nw e2) ∧ FreeS w2 S (.slice d0 S.nc e0) (.slice d1 S.nl e1) (.slice d2 S.nw e2)) ∧ ApartD S (.slice d0 S.nc e0) (.slice d1 S.nl e1) (.slice d2 S.nw e2)) := ⟨⟨s2, fr2⟩, ap2⟩
 have HOS : Hid (OwnS w2 (w.heap.size + 1) S (.slice d0 S.nc e0) (.slice d1 S.nl e1) (.slice d2 S.nw e2)) := o2
 have hzw : w.heap.size < w2.heap.size := by have := q2.size; simp at this; omega
 have B23 : Hid (Below w2.heap.size w2 (w2.alloc (.cells #[.slice d0 S.nc e0, .slice d1 S.nl e1, .slice d2 S.nw e2] 28))) := below_alloc _ _
 have hbl : b < w2.heap.size := Nat.lt_trans hb hzw
 clear o2 s2 fr2 ap2 q2 BW2 p0 p1 p2
 go_wp2_with fail
 generalize w2.alloc (.cells #[.slice d0 S.nc e0, .slice d1 S.nl e1, .slice d2 S.nw e2] 28) = w3 at HE B23 ⊢
 have hz3 : w2.heap.size < w3.heap.size := HE.out.2.1.lt
 refine (l2Write_isO S b oo _ _ _ a s i _ HE.out.2.2.1 hn2 hi).mono ?_
 rintro e w' ⟨rfl, rfl⟩
 obtain ⟨⟨⟨r0, r1, r2, r3⟩, f0, f1, f2, f3⟩, ⟨⟨t0, t1, t2⟩, _⟩, ⟨⟨p0, p1, p2⟩, pst⟩, _⟩ := HE.out
 obtain ⟨g, o, hg, _, hgl, x0, x1, x2, x3⟩ := pst.2.2.at4 hin
 subst hg
 rw [hc] at x3
 unfold ResStoK
 clear pst
 go_wp2
 have S3 : St w' (w.heap.size + 1) S (.slice d0 S.nc e0) (.slice d1 S.nl e1) (.slice d2 S.nw e2) := HS.out.1.1.later B23.out
 have O3 := HOS.out.later B23.out
 have hlo : (w.heap.size : Nat) < w.heap.size + 1 := Nat.lt_succ_self _
 exact bodyPost_ret (v := .agg #[.int .i64 0, .slice d0 S.nc e0, .slice d1 S.nl e1, .slice d2 S.nw e2]) (by simp [results, Tryz.results67, go_sem, r0, r1, r2, r3]) rfl ⟨d0, e0, d1, e1, d2, e2, rfl, ((((O3.far hlo _).far hlo _).far hlo _).far hlo _).mono (by omega), (((HE.out.2.2.2.setCell (Nat.le_refl _) _).setCell (Nat.le_refl _) _).setCell (Nat.le_refl _) _).setCell (Nat.le_refl _) _⟩
set_option maxRecDepth 100000 in
set_option maxHeartbeats 8000000 in
theorem l3Roll_takenO (S : Sto) (b oo : Nat) (v0 v1 v2 : Value) (a s : Int) (i : Nat) (w : World) (h : LiesO w b oo S v0 v1 v2) (hz : storeF S = 0) (hi : FirstAt (writeIs S.k a s) S.nw i) (hc : S.k (i * 4 + 3) ≠ 4) :
  Calls Tryz.prog 67 #[.pointer (some ⟨b, oo, none⟩), .int .i64 a, .int .i64 s] w (ResStoK w 6 emptyS) := by
 have hin : i < S.nw := hi.at.1
 obtain ⟨a0, c0, a1, c1, a2, c2, rfl, rfl, rfl⟩ := h.2.form
 have H : Hid (LiesO w b oo S (.slice a0 S.nc c0) (.slice a1 S.nl c1) (.slice a2 S.nw c2)) := h
 obtain ⟨p0, p1, p2⟩ := h.1
 have hb := h.lt
 obtain ⟨⟨hn0, hn1, hn2⟩, _⟩ := storeF_zero hz
 clear h
 go_enter Tryz.func67, Tryz.ntmps67
 go_wp2_with fail
 refine (l2Copy_own S _ _ _ 0 _ (H.out.2.alloc _) ⟨by omega, by omega, by omega⟩).mono ?_
 rintro e w2 ⟨d0, e0, d1, e1, d2, e2, rfl, o2, q2⟩
 have g0 := own_cap o2.1.1
 have g1 := own_cap o2.1.2.1
 have g2 := own_cap o2.1.2.2
 obtain ⟨s2, fr2, ap2⟩ := o2.all
 simp only [World.size_alloc] at s2 q2 o2
 have BW2 : Below w.heap.size w w2 := (below_alloc w _).trans (q2.mono (Nat.le_succ _))
 have HE : Hid (CmE w b oo S (.slice a0 S.nc c0) (.slice a1 S.nl c1) (.slice a2 S.nw c2) w2.heap.size (.slice d0 S.nc e0) (.slice d1 S.nl e1) (.slice d2 S.nw e2) (w2.alloc (.cells #[.slice d0 S.nc e0, .slice d1 S.nl e1, .slice d2 S.nw e2] 28))) :=
  ⟨((Blk4.new w _ _ _ _ _).kept (q2.block w.heap.size (Nat.lt_succ_self _))).alloc _, Blk3.new _ _ _ _ _, (H.out.later BW2).later (below_alloc _ _), BW2.trans ((below_alloc w2 _).mono BW2.size)⟩
 have HS : Hid ((St w2 (w.heap.size + 1) S (.slice d0 S.nc e0) (.slice d1 S.nl e1) (.slice d2 S.nw e2) ∧ FreeS w2 S (.slice d0 S.nc e0) (.slice d1 S.nl e1) (.slice d2 S.nw e2)) ∧ ApartD S (.slice d0 S.nc e0) (.slice d1 S.nl e1) (.slice d2 S.nw e2)) := ⟨⟨s2, fr2⟩, ap2⟩
 have HOS : Hid (OwnS w2 (w.heap.size + 1) S (.slice d0 S.nc e0) (.slice d1 S.nl e1) (.slice d2 S.nw e2)) := o2
 have hzw : w.heap.size < w2.heap.size := by have := q2.size; simp at this; omega
 have B23 : Hid (Below w2.heap.size w2 (w2.alloc (.cells #[.slice d0 S.nc e0, .slice d1 S.nl e1, .slice d2 S.nw e2] 28))) := below_alloc _ _
 have hbl : b < w2.heap.size := Nat.lt_trans hb hzw
 clear o2 s2 fr2 ap2 q2 BW2 p0 p1 p2
 go_wp2_with fail
 generalize w2.alloc (.cells #[.slice d0 S.nc e0, .slice d1 S.nl e1, .slice d2 S.nw e2] 28) = w3 at HE B23 ⊢
 have hz3 : w2.heap.size < w3.heap.size := HE.out.2.1.lt
 refine (l2Write_isO S b oo _ _ _ a s i _ HE.out.2.2.1 hn2 hi).mono ?_
 rintro e w' ⟨rfl, rfl⟩
 obtain ⟨⟨⟨r0, r1, r2, r3⟩, f0, f1, f2, f3⟩, ⟨⟨t0, t1, t2⟩, _⟩, ⟨⟨p0, p1, p2⟩, pst⟩, _⟩ := HE.out
 obtain ⟨g, o, hg, _, hgl, x0, x1, x2, x3⟩ := pst.2.2.at4 hin
 subst hg
 obtain ⟨y, hy⟩ : ∃ y, S.k (i * 4 + 3) = y := ⟨_, rfl⟩
 rw [hy] at x3 hc
 have dc : (y == 4) = false := beq_eq_false_iff_ne.2 hc
 unfold ResStoK
 clear pst hc hy
 go_wp2_with fail
 refine (l3Bad_own 6 _).mono ?_
 rintro e w4 ⟨y0, z0, y1, z1, y2, z2, rfl, o4, q4⟩
 have S4 : Hid (OwnS w4 (w.heap.size + 1) emptyS (.slice y0 emptyS.nc z0) (.slice y1 emptyS.nl z1) (.slice y2 emptyS.nw z2)) := o4.mono (Nat.le_trans hzw (Nat.le_of_lt hz3))
 have HBW : Hid (Below w.heap.size w w4) := HE.out.2.2.2.trans (q4.mono HE.out.2.2.2.size)
 obtain ⟨⟨r0, r1, r2, r3⟩, f0, f1, f2, f3⟩ := HE.out.1.later q4
 clear o4 q4
 have hlo : (w.heap.size : Nat) < w.heap.size + 1 := Nat.lt_succ_self _
 go_wp2
 exact bodyPost_ret (v := .agg #[.int .i64 6, .slice y0 emptyS.nc z0, .slice y1 emptyS.nl z1, .slice y2 emptyS.nw z2]) (by simp [results, Tryz.results67, go_sem, r0, r1, r2, r3]) rfl ⟨y0, z0, y1, z1, y2, z2, rfl, ((((S4.out.far hlo _).far hlo _).far hlo _).far hlo _).mono (by omega), (((HBW.out.setCell (Nat.le_refl _) _).setCell (Nat.le_refl _) _).setCell (Nat.le_refl _) _).setCell (Nat.le_refl _) _⟩
set_option maxRecDepth 100000 in
set_option maxHeartbeats 8000000 in
theorem l3Roll_atO (S : Sto) (b oo : Nat) (v0 v1 v2 : Value) (a s : Int) (w : World) (h : LiesO w b oo S v0 v1 v2) (hz : storeF S = 0) (hi : FirstAt (writeIs S.k a s) S.nw (-1)) (hat : ∃ i, i < S.nw ∧ writeAt S.k a s i) :
  Calls Tryz.prog 67 #[.pointer (some ⟨b, oo, none⟩), .int .i64 a, .int .i64 s] w (ResStoK w 6 emptyS) := by
 obtain ⟨a0, c0, a1, c1, a2, c2, rfl, rfl, rfl⟩ := h.2.form
 have H : Hid (LiesO w b oo S (.slice a0 S.nc c0) (.slice a1 S.nl c1) (.slice a2 S.nw c2)) := h
 obtain ⟨p0, p1, p2⟩ := h.1
 have hb := h.lt
 obtain ⟨⟨hn0, hn1, hn2⟩, _⟩ := storeF_zero hz
 clear h
 go_enter Tryz.func67, Tryz.ntmps67
 go_wp2_with fail
 refine (l2Copy_own S _ _ _ 0 _ (H.out.2.alloc _) ⟨by omega, by omega, by omega⟩).mono ?_
 rintro e w2 ⟨d0, e0, d1, e1, d2, e2, rfl, o2, q2⟩
 have g0 := own_cap o2.1.1
 have g1 := own_cap o2.1.2.1
 have g2 := own_cap o2.1.2.2
 obtain ⟨s2, fr2, ap2⟩ := o2.all
 simp only [World.size_alloc] at s2 q2 o2
 have BW2 : Below w.heap.size w w2 := (below_alloc w _).trans (q2.mono (Nat.le_succ _))
 have HE : Hid (CmE w b oo S (.slice a0 S.nc c0) (.slice a1 S.nl c1) (.slice a2 S.nw c2) w2.heap.size (.slice d0 S.nc e0) (.slice d1 S.nl e1) (.slice d2 S.nw e2) (w2.alloc (.cells #[.slice d0 S.nc e0, .slice d1 S.nl e1, .slice d2 S.nw e2] 28))) :=
  ⟨((Blk4.new w _ _ _ _ _).kept (q2.block w.heap.size (Nat.lt_succ_self _))).alloc _, Blk3.new _ _ _ _ _, (H.out.later BW2).later (below_alloc _ _), BW2.trans ((below_alloc w2 _).mono BW2.size)⟩
 have HS : Hid ((St w2 (w.heap.size + 1) S (.slice d0 S.nc e0) (.slice d1 S.nl e1) (.slice d2 S.nw e2) ∧ FreeS w2 S (.slice d0 S.nc e0) (.slice d1 S.nl e1) (.slice d2 S.nw e2)) ∧ ApartD S (.slice d0 S.nc e0) (.slice d1 S.nl e1) (.slice d2 S.nw e2)) := ⟨⟨s2, fr2⟩, ap2⟩
 have HOS : Hid (OwnS w2 (w.heap.size + 1) S (.slice d0 S.nc e0) (.slice d1 S.nl e1) (.slice d2 S.nw e2)) := o2
 have hzw : w.heap.size < w2.heap.size := by have := q2.size; simp at this; omega
 have B23 : Hid (Below w2.heap.size w2 (w2.alloc (.cells #[.slice d0 S.nc e0, .slice d1 S.nl e1, .slice d2 S.nw e2] 28))) := below_alloc _ _
 have hbl : b < w2.heap.size := Nat.lt_trans hb hzw
 clear o2 s2 fr2 ap2 q2 BW2 p0 p1 p2
 go_wp2_with fail
 generalize w2.alloc (.cells #[.slice d0 S.nc e0, .slice d1 S.nl e1, .slice d2 S.nw e2] 28) = w3 at HE B23 ⊢
 have hz3 : w2.heap.size < w3.heap.size := HE.out.2.1.lt
 refine (l2Write_isO S b oo _ _ _ a s (-1) _ HE.out.2.2.1 hn2 hi).mono ?_
 rintro e w' ⟨rfl, rfl⟩
 obtain ⟨⟨⟨r0, r1, r2, r3⟩, f0, f1, f2, f3⟩, ⟨⟨t0, t1, t2⟩, _⟩, ⟨⟨p0, p1, p2⟩, pst⟩, _⟩ := HE.out
 unfold ResStoK
 clear pst
 go_wp2_with fail
 refine (l3At_anyO S b oo _ _ _ a s _ HE.out.2.2.1 hn2).mono ?_
 rintro e w5 ⟨r, rfl, hr, rfl⟩
 obtain rfl : r = true := hr.2 hat
 clear hr hat
 go_wp2_with fail
 refine (l3Bad_own 6 _).mono ?_
 rintro e w4 ⟨y0, z0, y1, z1, y2, z2, rfl, o4, q4⟩
 have S4 : Hid (OwnS w4 (w.heap.size + 1) emptyS (.slice y0 emptyS.nc z0) (.slice y1 emptyS.nl z1) (.slice y2 emptyS.nw z2)) := o4.mono (Nat.le_trans hzw (Nat.le_of_lt hz3))
 have HBW : Hid (Below w.heap.size w w4) := HE.out.2.2.2.trans (q4.mono HE.out.2.2.2.size)
 obtain ⟨⟨r0, r1, r2, r3⟩, f0, f1, f2, f3⟩ := HE.out.1.later q4
 clear o4 q4
 have hlo : (w.heap.size : Nat) < w.heap.size + 1 := Nat.lt_succ_self _
 go_wp2
 exact bodyPost_ret (v := .agg #[.int .i64 6, .slice y0 emptyS.nc z0, .slice y1 emptyS.nl z1, .slice y2 emptyS.nw z2]) (by simp [results, Tryz.results67, go_sem, r0, r1, r2, r3]) rfl ⟨y0, z0, y1, z1, y2, z2, rfl, ((((S4.out.far hlo _).far hlo _).far hlo _).far hlo _).mono (by omega), (((HBW.out.setCell (Nat.le_refl _) _).setCell (Nat.le_refl _) _).setCell (Nat.le_refl _) _).setCell (Nat.le_refl _) _⟩
set_option maxRecDepth 100000 in
set_option maxHeartbeats 8000000 in
theorem l3Roll_manyO (S : Sto) (b oo : Nat) (v0 v1 v2 : Value) (a s : Int) (w : World) (h : LiesO w b oo S v0 v1 v2) (hz : storeF S = 0) (hi : FirstAt (writeIs S.k a s) S.nw (-1)) (hat : ¬ ∃ i, i < S.nw ∧ writeAt S.k a s i) (hm : 200 ≤ S.nw) :
  Calls Tryz.prog 67 #[.pointer (some ⟨b, oo, none⟩), .int .i64 a, .int .i64 s] w (ResStoK w 2 emptyS) := by
 have dm : decide ((200 : Int) ≤ (S.nw : Int)) = true := decide_eq_true (by omega)
 clear hm
 obtain ⟨a0, c0, a1, c1, a2, c2, rfl, rfl, rfl⟩ := h.2.form
 have H : Hid (LiesO w b oo S (.slice a0 S.nc c0) (.slice a1 S.nl c1) (.slice a2 S.nw c2)) := h
 obtain ⟨p0, p1, p2⟩ := h.1
 have hb := h.lt
 obtain ⟨⟨hn0, hn1, hn2⟩, _⟩ := storeF_zero hz
 clear h
 go_enter Tryz.func67, Tryz.ntmps67
 go_wp2_with fail
 refine (l2Copy_own S _ _ _ 0 _ (H.out.2.alloc _) ⟨by omega, by omega, by omega⟩).mono ?_
 rintro e w2 ⟨d0, e0, d1, e1, d2, e2, rfl, o2, q2⟩
 have g0 := own_cap o2.1.1
 have g1 := own_cap o2.1.2.1
 have g2 := own_cap o2.1.2.2
 obtain ⟨s2, fr2, ap2⟩ := o2.all
 simp only [World.size_alloc] at s2 q2 o2
 have BW2 : Below w.heap.size w w2 := (below_alloc w _).trans (q2.mono (Nat.le_succ _))
 have HE : Hid (CmE w b oo S (.slice a0 S.nc c0) (.slice a1 S.nl c1) (.slice a2 S.nw c2) w2.heap.size (.slice d0 S.nc e0) (.slice d1 S.nl e1) (.slice d2 S.nw e2) (w2.alloc (.cells #[.slice d0 S.nc e0, .slice d1 S.nl e1, .slice d2 S.nw e2] 28))) :=
  ⟨((Blk4.new w _ _ _ _ _).kept (q2.block w.heap.size (Nat.lt_succ_self _))).alloc _, Blk3.new _ _ _ _ _, (H.out.later BW2).later (below_alloc _ _), BW2.trans ((below_alloc w2 _).mono BW2.size)⟩
 have HS : Hid ((St w2 (w.heap.size + 1) S (.slice d0 S.nc e0) (.slice d1 S.nl e1) (.slice d2 S.nw e2) ∧ FreeS w2 S (.slice d0 S.nc e0) (.slice d1 S.nl e1) (.slice d2 S.nw e2)) ∧ ApartD S (.slice d0 S.nc e0) (.slice d1 S.nl e1) (.slice d2 S.nw e2)) := ⟨⟨s2, fr2⟩, ap2⟩
 have HOS : Hid (OwnS w2 (w.heap.size + 1) S (.slice d0 S.nc e0) (.slice d1 S.nl e1) (.slice d2 S.nw e2)) := o2
 have hzw : w.heap.size < w2.heap.size := by have := q2.size; simp at this; omega
 have B23 : Hid (Below w2.heap.size w2 (w2.alloc (.cells #[.slice d0 S.nc e0, .slice d1 S.nl e1, .slice d2 S.nw e2] 28))) := below_alloc _ _
 have hbl : b < w2.heap.size := Nat.lt_trans hb hzw
 clear o2 s2 fr2 ap2 q2 BW2 p0 p1 p2
 go_wp2_with fail
 generalize w2.alloc (.cells #[.slice d0 S.nc e0, .slice d1 S.nl e1, .slice d2 S.nw e2] 28) = w3 at HE B23 ⊢
 have hz3 : w2.heap.size < w3.heap.size := HE.out.2.1.lt
 refine (l2Write_isO S b oo _ _ _ a s (-1) _ HE.out.2.2.1 hn2 hi).mono ?_
 rintro e w' ⟨rfl, rfl⟩
 obtain ⟨⟨⟨r0, r1, r2, r3⟩, f0, f1, f2, f3⟩, ⟨⟨t0, t1, t2⟩, _⟩, ⟨⟨p0, p1, p2⟩, pst⟩, _⟩ := HE.out
 unfold ResStoK
 clear pst
 go_wp2_with fail
 refine (l3At_anyO S b oo _ _ _ a s _ HE.out.2.2.1 hn2).mono ?_
 rintro e w5 ⟨r, rfl, hr, rfl⟩
 obtain rfl : r = false := bool_no hr hat
 clear hr hat
 go_wp2_with fail
 refine (l3Bad_own 2 _).mono ?_
 rintro e w4 ⟨y0, z0, y1, z1, y2, z2, rfl, o4, q4⟩
 have S4 : Hid (OwnS w4 (w.heap.size + 1) emptyS (.slice y0 emptyS.nc z0) (.slice y1 emptyS.nl z1) (.slice y2 emptyS.nw z2)) := o4.mono (Nat.le_trans hzw (Nat.le_of_lt hz3))
 have HBW : Hid (Below w.heap.size w w4) := HE.out.2.2.2.trans (q4.mono HE.out.2.2.2.size)
 obtain ⟨⟨r0, r1, r2, r3⟩, f0, f1, f2, f3⟩ := HE.out.1.later q4
 clear o4 q4
 have hlo : (w.heap.size : Nat) < w.heap.size + 1 := Nat.lt_succ_self _
 go_wp2
 exact bodyPost_ret (v := .agg #[.int .i64 2, .slice y0 emptyS.nc z0, .slice y1 emptyS.nl z1, .slice y2 emptyS.nw z2]) (by simp [results, Tryz.results67, go_sem, r0, r1, r2, r3]) rfl ⟨y0, z0, y1, z1, y2, z2, rfl, ((((S4.out.far hlo _).far hlo _).far hlo _).far hlo _).mono (by omega), (((HBW.out.setCell (Nat.le_refl _) _).setCell (Nat.le_refl _) _).setCell (Nat.le_refl _) _).setCell (Nat.le_refl _) _⟩
set_option maxRecDepth 100000 in
set_option maxHeartbeats 8000000 in
theorem l3Roll_noneO (S : Sto) (b oo : Nat) (v0 v1 v2 : Value) (a s : Int) (k : Nat) (w : World) (h : LiesO w b oo S v0 v1 v2) (hz : storeF S = 0) (hi : FirstAt (writeIs S.k a s) S.nw (-1)) (hat : ¬ ∃ i, i < S.nw ∧ writeAt S.k a s i) (hm : S.nw < 200) (hk : placeAt (aheadW S.k a s) S.nw k) (hcl : FirstAt (cellIs S.c a s) S.nc (-1)) :
  Calls Tryz.prog 67 #[.pointer (some ⟨b, oo, none⟩), .int .i64 a, .int .i64 s] w (ResStoK w 0 (rollS S a s k)) := by
 have dm : decide ((200 : Int) ≤ (S.nw : Int)) = false := decide_eq_false (by omega)
 have HK : Hid (placeAt (aheadW S.k a s) S.nw k) := hk
 clear hm hk
 obtain ⟨a0, c0, a1, c1, a2, c2, rfl, rfl, rfl⟩ := h.2.form
 have H : Hid (LiesO w b oo S (.slice a0 S.nc c0) (.slice a1 S.nl c1) (.slice a2 S.nw c2)) := h
 obtain ⟨p0, p1, p2⟩ := h.1
 have hb := h.lt
 obtain ⟨⟨hn0, hn1, hn2⟩, _⟩ := storeF_zero hz
 clear h
 go_enter Tryz.func67, Tryz.ntmps67
 go_wp2_with fail
 refine (l2Copy_own S _ _ _ 0 _ (H.out.2.alloc _) ⟨by omega, by omega, by omega⟩).mono ?_
 rintro e w2 ⟨d0, e0, d1, e1, d2, e2, rfl, o2, q2⟩
 have g0 := own_cap o2.1.1
 have g1 := own_cap o2.1.2.1
 have g2 := own_cap o2.1.2.2
 obtain ⟨s2, fr2, ap2⟩ := o2.all
 simp only [World.size_alloc] at s2 q2 o2
 have BW2 : Below w.heap.size w w2 := (below_alloc w _).trans (q2.mono (Nat.le_succ _))
 have HE : Hid (CmE w b oo S (.slice a0 S.nc c0) (.slice a1 S.nl c1) (.slice a2 S.nw c2) w2.heap.size (.slice d0 S.nc e0) (.slice d1 S.nl e1) (.slice d2 S.nw e2) (w2.alloc (.cells #[.slice d0 S.nc e0, .slice d1 S.nl e1, .slice d2 S.nw e2] 28))) :=
  ⟨((Blk4.new w _ _ _ _ _).kept (q2.block w.heap.size (Nat.lt_succ_self _))).alloc _, Blk3.new _ _ _ _ _, (H.out.later BW2).later (below_alloc _ _), BW2.trans ((below_alloc w2 _).mono BW2.size)⟩
 have HS : Hid ((St w2 (w.heap.size + 1) S (.slice d0 S.nc e0) (.slice d1 S.nl e1) (.slice d2 S.nw e2) ∧ FreeS w2 S (.slice d0 S.nc e0) (.slice d1 S.nl e1) (.slice d2 S.nw e2)) ∧ ApartD S (.slice d0 S.nc e0) (.slice d1 S.nl e1) (.slice d2 S.nw e2)) := ⟨⟨s2, fr2⟩, ap2⟩
 have HOS : Hid (OwnS w2 (w.heap.size + 1) S (.slice d0 S.nc e0) (.slice d1 S.nl e1) (.slice d2 S.nw e2)) := o2
 have hzw : w.heap.size < w2.heap.size := by have := q2.size; simp at this; omega
 have B23 : Hid (Below w2.heap.size w2 (w2.alloc (.cells #[.slice d0 S.nc e0, .slice d1 S.nl e1, .slice d2 S.nw e2] 28))) := below_alloc _ _
 have hbl : b < w2.heap.size := Nat.lt_trans hb hzw
 clear o2 s2 fr2 ap2 q2 BW2 p0 p1 p2
 go_wp2_with fail
 generalize w2.alloc (.cells #[.slice d0 S.nc e0, .slice d1 S.nl e1, .slice d2 S.nw e2] 28) = w3 at HE B23 ⊢
 have hz3 : w2.heap.size < w3.heap.size := HE.out.2.1.lt
 refine (l2Write_isO S b oo _ _ _ a s (-1) _ HE.out.2.2.1 hn2 hi).mono ?_
 rintro e w' ⟨rfl, rfl⟩
 obtain ⟨⟨⟨r0, r1, r2, r3⟩, f0, f1, f2, f3⟩, ⟨⟨t0, t1, t2⟩, ft0, ft1, ft2⟩, ⟨⟨p0, p1, p2⟩, pst⟩, _⟩ := HE.out
 clear pst
 go_wp2_with fail
 refine (l3At_anyO S b oo _ _ _ a s _ HE.out.2.2.1 hn2).mono ?_
 rintro e w5 ⟨r, rfl, hr, rfl⟩
 obtain rfl : r = false := bool_no hr hat
 clear hr hat
 go_wp2_with fail
 refine (l3Unlock_any S.nl S.l _ (w.heap.size + 1) a s _ (HS.out.1.1.later B23.out).2.1 (by omega)).mono ?_
 rintro e w6 ⟨y1, z1, rfl, O6, q6⟩
 have ft1' : w6.frozen? ⟨w2.heap.size, 1, none⟩ = false := (q6.frozen (p := ⟨w2.heap.size, 1, none⟩) hz3).trans ft1
 have t1' : w6.cell? ⟨w2.heap.size, 1, none⟩ = some (.slice d1 S.nl e1) := (q6.cell (p := ⟨w2.heap.size, 1, none⟩) hz3).trans t1
 have HE6 : Hid (CmE w b oo S (.slice a0 S.nc c0) (.slice a1 S.nl c1) (.slice a2 S.nw c2) w2.heap.size (.slice d0 S.nc e0) (.slice d1 S.nl e1) (.slice d2 S.nw e2) w6) := HE.out.later q6
 have B26 : Hid (Below w2.heap.size w2 w6) := B23.out.trans (q6.mono (Nat.le_of_lt hz3))
 obtain ⟨U, hU⟩ : ∃ U, unlL S.l a s S.nl = U := ⟨_, rfl⟩
 have HU : Hid (unlL S.l a s S.nl = U) := hU
 rw [hU] at O6
 have O6' : Hid (OwnM w6 w5.heap.size 40 5 (.slice y1 U.length z1) U.length U.flatten) := O6
 have hz6 : w5.heap.size ≤ w6.heap.size := q6.size
 rw [hU]
 clear O6 q6 hU r0 r1 r2 r3 f0 f1 f2 f3 t0 t1 t2 ft0 ft1 ft2 p0 p1 p2
 go_upto_region 12 with fail
 -- the world behind the store of the locks
 have BX : Hid (Below w.heap.size w (w6.setCell ⟨w2.heap.size, 1, none⟩ (.slice y1 U.length z1))) := HE6.out.2.2.2.setCell (Nat.le_of_lt hzw) _
 have B2X : Hid (Below w2.heap.size w2 (w6.setCell ⟨w2.heap.size, 1, none⟩ (.slice y1 U.length z1))) := B26.out.setCell (Nat.le_refl _) _
 have RX : Hid (Blk4 (w6.setCell ⟨w2.heap.size, 1, none⟩ (.slice y1 U.length z1)) w.heap.size (.int .i64 0) (.slice none 0 0) (.slice none 0 0) (.slice none 0 0)) := HE6.out.1.kept (Below.heap_setCell _ _ _ _ (Nat.ne_of_lt hzw))
 have TX : Hid (Blk3 (w6.setCell ⟨w2.heap.size, 1, none⟩ (.slice y1 U.length z1)) w2.heap.size (.slice d0 S.nc e0) (.slice y1 U.length z1) (.slice d2 S.nw e2)) := HE6.out.2.1.set1 _
 have OX : Hid (OwnM (w6.setCell ⟨w2.heap.size, 1, none⟩ (.slice y1 U.length z1)) w5.heap.size 40 5 (.slice y1 U.length z1) U.length U.flatten) := O6'.out.far hz3 _
 have LX : Hid (LiesO (w6.setCell ⟨w2.heap.size, 1, none⟩ (.slice y1 U.length z1)) b oo S (.slice a0 S.nc c0) (.slice a1 S.nl c1) (.slice a2 S.nw c2)) := H.out.later BX.out
 have zX : w2.heap.size < (w6.setCell ⟨w2.heap.size, 1, none⟩ (.slice y1 U.length z1)).heap.size := TX.out.lt
 have z5X : w5.heap.size ≤ (w6.setCell ⟨w2.heap.size, 1, none⟩ (.slice y1 U.length z1)).heap.size := by simpa [World.setCell] using hz6
 generalize w6.setCell ⟨w2.heap.size, 1, none⟩ (.slice y1 U.length z1) = X0 at BX B2X RX TX OX LX zX z5X ⊢
 clear HE6 O6' B26 hz6 t1' ft1' HE
 go_wp2_with fail
 refine (cellAt_isO S b oo _ _ _ a s (-1) _ LX.out hn0 hcl).mono ?_
 rintro e X1 ⟨rfl, hX1⟩
 obtain rfl := hX1.symm
 clear hX1
 obtain ⟨⟨t0, t1, t2⟩, _⟩ := TX.out
 go_wp2_with fail
 refine (l2AddWrite_any S.nw S.k d2 e2 (w.heap.size + 1) a s s 4 _ (HS.out.1.1.2.2.later B2X.out) (by omega) g2).mono ?_
 rintro e w7 ⟨k', y2, z2, hk', rfl, O7, q7⟩
 obtain rfl : k' = k := hk'.one HK.out
 have BY : Hid (Below w.heap.size w w7) := BX.out.trans (q7.mono BX.out.size)
 have B2Y : Hid (Below w2.heap.size w2 w7) := B2X.out.trans (q7.mono (Nat.le_of_lt zX))
 have RY : Hid (Blk4 w7 w.heap.size (.int .i64 0) (.slice none 0 0) (.slice none 0 0) (.slice none 0 0)) := RX.out.later q7
 have TY : Hid (Blk3 w7 w2.heap.size (.slice d0 (S.nc) e0) (.slice y1 U.length z1) (.slice d2 S.nw e2)) := TX.out.later q7
 have OY : Hid (OwnM w7 w5.heap.size 40 5 (.slice y1 U.length z1) U.length U.flatten) := OX.out.later q7
 have hob : Hid (∀ q, (Value.slice y1 U.length z1).ownBlock = some q → w5.heap.size ≤ q ∧ q < X0.heap.size) := OX.out.block
 have PY : Hid (OwnM w7 X0.heap.size 55 4 (.slice y2 (S.nw + 1) z2) (S.nw + 1) (nums S.k (k' * 4) ++ [a, s, s, 4] ++ nums (fun p => S.k (k' * 4 + p)) ((S.nw - k') * 4))) := O7
 have hkn : k' ≤ S.nw := hk'.1
 have hqX : Hid (Below X0.heap.size X0 w7) := q7
 clear O7 q7 hk' OX RX TX LX BX B2X HK t0 t1 t2
 obtain ⟨⟨t0, t1, t2⟩, ft0, ft1, ft2⟩ := TY.out
 go_upto_region 16 with fail
 have RZ := RY.out.kept (Below.heap_setCell w7 ⟨w2.heap.size, 2, none⟩ (.slice y2 (S.nw + 1) z2) _ (Nat.ne_of_lt hzw))
 have TZ := TY.out.set2 (.slice y2 (S.nw + 1) z2)
 have BZ : Hid (Below w.heap.size w (w7.setCell ⟨w2.heap.size, 2, none⟩ (.slice y2 (S.nw + 1) z2))) := BY.out.setCell (Nat.le_of_lt hzw) _
 have B2Z : Hid (Below w2.heap.size w2 (w7.setCell ⟨w2.heap.size, 2, none⟩ (.slice y2 (S.nw + 1) z2))) := B2Y.out.setCell (Nat.le_refl _) _
 have OZ : Hid (OwnM (w7.setCell ⟨w2.heap.size, 2, none⟩ (.slice y2 (S.nw + 1) z2)) w5.heap.size 40 5 (.slice y1 U.length z1) U.length U.flatten) := OY.out.far hz3 _
 have PZ : Hid (OwnM (w7.setCell ⟨w2.heap.size, 2, none⟩ (.slice y2 (S.nw + 1) z2)) X0.heap.size 55 4 (.slice y2 (S.nw + 1) z2) (S.nw + 1) (nums S.k (k' * 4) ++ [a, s, s, 4] ++ nums (fun p => S.k (k' * 4 + p)) ((S.nw - k') * 4))) := PY.out.far zX _
 generalize w7.setCell ⟨w2.heap.size, 2, none⟩ (.slice y2 (S.nw + 1) z2) = w8 at RZ TZ BZ B2Z OZ PZ ⊢
 clear t0 t1 t2 ft0 ft1 ft2 RY TY BY B2Y OY PY
 obtain ⟨⟨r0, r1, r2, r3⟩, f0, f1, f2, f3⟩ := RZ
 obtain ⟨⟨t0, t1, t2⟩, _⟩ := TZ
 go_wp2
 have hsame := selD_same (F := S.c) (m := 3) (D := goneK a s) (k := S.nc) (fun i hi => goneK_not (by
  rcases hcl with ⟨_, q⟩ | ⟨j, _, q, _⟩
  ·exact q i hi
  ·omega))
 have hN : (unlC S.c a s S.nc).length = S.nc := hsame.1
 have rC : Own w8 (w.heap.size + 1) 93 3 S.nc (fun p => (unlC S.c a s S.nc).flatten.getD p 0) (.slice d0 S.nc e0) := own_congr (HOS.out.1.1.later B2Z.out) (fun p hp => (hsame.2 p hp).symm)
 have A8 : ApartB (.slice d0 S.nc e0) (.slice y1 U.length z1) (.slice y2 (S.nw + 1) z2) :=
  ⟨fun q a b => by have h1 := (own_blk HOS.out.1.1 q a).2; have h2 := (hob.out q b).1; omega, fun q a b => by have h1 := (own_blk HOS.out.1.1 q a).2; have h2 := (PZ.out.block q b).1; omega, fun q a b => by have h1 := (hob.out q a).2; have h2 := (PZ.out.block q b).1; omega⟩
 have lenL : U.flatten.length = U.length * 5 := flat_len U (by rw [← HU.out]; exact selD_len _ _ _ _)
 have lenW : (nums S.k (k' * 4) ++ [a, s, s, 4] ++ nums (fun p => S.k (k' * 4 + p)) ((S.nw - k') * 4)).length = (S.nw + 1) * 4 := by
  rw [List.length_append, List.length_append, nums_length, nums_length]
  simp only [List.length_cons, List.length_nil]
  omega
 have O8 : OwnS w8 (w.heap.size + 1) (rollS S a s k') (.slice d0 (S.nc) e0) (.slice y1 U.length z1) (.slice y2 (S.nw + 1) z2) := by
  unfold rollS
  rw [HU.out, hN]
  exact ⟨⟨rC, (OZ.out.own lenL).mono (by omega), (PZ.out.own lenW).mono (by omega)⟩, A8⟩
 have hlo : (w.heap.size : Nat) < w.heap.size + 1 := Nat.lt_succ_self _
 have hul : (rollS S a s k').nl = U.length := by unfold rollS; rw [HU.out]
 have hcl' : (rollS S a s k').nc = S.nc := hN
 refine bodyPost_ret (v := .agg #[.int .i64 0, .slice d0 (S.nc) e0, .slice y1 U.length z1, .slice y2 (S.nw + 1) z2]) (by simp [results, Tryz.results67, go_sem, r0, r1, r2, r3]) rfl ?_
 refine ⟨d0, e0, y1, z1, y2, z2, ?_, ?_, (((BZ.out.setCell (Nat.le_refl _) _).setCell (Nat.le_refl _) _).setCell (Nat.le_refl _) _).setCell (Nat.le_refl _) _⟩
 ·rw [hul, hcl']; rfl
 ·rw [hul, hcl']
  exact ((((O8.far hlo _).far hlo _).far hlo _).far hlo _).mono (by omega)
theorem Row.tailR {w : World} {B m n g o : Nat} {F : Nat → Int} {cp : Nat} (h : Row w B m n F (.slice (some ⟨g, o, none⟩) n cp)) (k : Nat) (hc : n ≤ cp) : Row w B m (n - k) (fun p => F (k * m + p)) (.slice (if cp = k then some ⟨g, o, none⟩ else some ⟨g, o + k * m, none⟩) (n - k) (cp - k)) := by
 by_cases hk : k < n
 ·exact h.tailS hk hc
 ·exact Row.over _ _ _ _ _ _ _ _ hk
theorem roll_cells {F : Nat → Int} {n j : Nat} (hj : j < n) : ∀ p, p < (n - 1) * 3 → (nums F (j * 3) ++ nums (fun p => F ((j + 1) * 3 + p)) ((n - (j + 1)) * 3)).getD p 0 = if p < j * 3 then F p else F (p + 3) := by
 intro p hp
 rw [List.getD_eq_getElem?_getD]
 by_cases q : p < j * 3
 ·rw [List.getElem?_append_left (by rw [nums_length]; exact q), if_pos q]
  simp [nums, q]
 ·rw [List.getElem?_append_right (by rw [nums_length]; omega), nums_length, if_neg q]
  have h1 : p - j * 3 < (n - (j + 1)) * 3 := by omega
  simp only [nums, List.getElem?_map, List.getElem?_range h1, Option.map_some, Option.getD_some]
  congr 1
  omega
set_option maxRecDepth 100000 in
set_option maxHeartbeats 16000000 in
theorem l3Roll_cellO (S : Sto) (b oo : Nat) (v0 v1 v2 : Value) (a s : Int) (k j : Nat) (w : World) (h : LiesO w b oo S v0 v1 v2) (hz : storeF S = 0) (hi : FirstAt (writeIs S.k a s) S.nw (-1)) (hat : ¬ ∃ i, i < S.nw ∧ writeAt S.k a s i) (hm : S.nw < 200) (hk : placeAt (aheadW S.k a s) S.nw k) (hcl : FirstAt (cellIs S.c a s) S.nc (j : Int)) :
  Calls Tryz.prog 67 #[.pointer (some ⟨b, oo, none⟩), .int .i64 a, .int .i64 s] w (ResStoK w 0 (rollS S a s k)) := by
 have hjn : j < S.nc := hcl.at.1
 have HZ : Hid (scan (cellF S.c) S.nc = 0) := (storeF_zero hz).2.1
 have dm : decide ((200 : Int) ≤ (S.nw : Int)) = false := decide_eq_false (by omega)
 have HK : Hid (placeAt (aheadW S.k a s) S.nw k) := hk
 clear hm hk
 obtain ⟨a0, c0, a1, c1, a2, c2, rfl, rfl, rfl⟩ := h.2.form
 have H : Hid (LiesO w b oo S (.slice a0 S.nc c0) (.slice a1 S.nl c1) (.slice a2 S.nw c2)) := h
 obtain ⟨p0, p1, p2⟩ := h.1
 have hb := h.lt
 obtain ⟨⟨hn0, hn1, hn2⟩, _⟩ := storeF_zero hz
 clear h
 go_enter Tryz.func67, Tryz.ntmps67
 go_wp2_with fail
 refine (l2Copy_own S _ _ _ 0 _ (H.out.2.alloc _) ⟨by omega, by omega, by omega⟩).mono ?_
 rintro e w2 ⟨d0, e0, d1, e1, d2, e2, rfl, o2, q2⟩
 have g0 := own_cap o2.1.1
 have g1 := own_cap o2.1.2.1
 have g2 := own_cap o2.1.2.2
 obtain ⟨s2, fr2, ap2⟩ := o2.all
 simp only [World.size_alloc] at s2 q2 o2
 have BW2 : Below w.heap.size w w2 := (below_alloc w _).trans (q2.mono (Nat.le_succ _))
 have HE : Hid (CmE w b oo S (.slice a0 S.nc c0) (.slice a1 S.nl c1) (.slice a2 S.nw c2) w2.heap.size (.slice d0 S.nc e0) (.slice d1 S.nl e1) (.slice d2 S.nw e2) (w2.alloc (.cells #[.slice d0 S.nc e0, .slice d1 S.nl e1, .slice d2 S.nw e2] 28))) :=
  ⟨((Blk4.new w _ _ _ _ _).kept (q2.block w.heap.size (Nat.lt_succ_self _))).alloc _, Blk3.new _ _ _ _ _, (H.out.later BW2).later (below_alloc _ _), BW2.trans ((below_alloc w2 _).mono BW2.size)⟩
 have HS : Hid ((St w2 (w.heap.size + 1) S (.slice d0 S.nc e0) (.slice d1 S.nl e1) (.slice d2 S.nw e2) ∧ FreeS w2 S (.slice d0 S.nc e0) (.slice d1 S.nl e1) (.slice d2 S.nw e2)) ∧ ApartD S (.slice d0 S.nc e0) (.slice d1 S.nl e1) (.slice d2 S.nw e2)) := ⟨⟨s2, fr2⟩, ap2⟩
 have HOS : Hid (OwnS w2 (w.heap.size + 1) S (.slice d0 S.nc e0) (.slice d1 S.nl e1) (.slice d2 S.nw e2)) := o2
 have hzw : w.heap.size < w2.heap.size := by have := q2.size; simp at this; omega
 have B23 : Hid (Below w2.heap.size w2 (w2.alloc (.cells #[.slice d0 S.nc e0, .slice d1 S.nl e1, .slice d2 S.nw e2] 28))) := below_alloc _ _
 have hbl : b < w2.heap.size := Nat.lt_trans hb hzw
 clear o2 s2 fr2 ap2 q2 BW2 p0 p1 p2
 go_wp2_with fail
 generalize w2.alloc (.cells #[.slice d0 S.nc e0, .slice d1 S.nl e1, .slice d2 S.nw e2] 28) = w3 at HE B23 ⊢
 have hz3 : w2.heap.size < w3.heap.size := HE.out.2.1.lt
 refine (l2Write_isO S b oo _ _ _ a s (-1) _ HE.out.2.2.1 hn2 hi).mono ?_
 rintro e w' ⟨rfl, rfl⟩
 obtain ⟨⟨⟨r0, r1, r2, r3⟩, f0, f1, f2, f3⟩, ⟨⟨t0, t1, t2⟩, ft0, ft1, ft2⟩, ⟨⟨p0, p1, p2⟩, pst⟩, _⟩ := HE.out
 clear pst
 go_wp2_with fail
 refine (l3At_anyO S b oo _ _ _ a s _ HE.out.2.2.1 hn2).mono ?_
 rintro e w5 ⟨r, rfl, hr, rfl⟩
 obtain rfl : r = false := bool_no hr hat
 clear hr hat
 go_wp2_with fail
 refine (l3Unlock_any S.nl S.l _ (w.heap.size + 1) a s _ (HS.out.1.1.later B23.out).2.1 (by omega)).mono ?_
 rintro e w6 ⟨y1, z1, rfl, O6, q6⟩
 have ft1' : w6.frozen? ⟨w2.heap.size, 1, none⟩ = false := (q6.frozen (p := ⟨w2.heap.size, 1, none⟩) hz3).trans ft1
 have t1' : w6.cell? ⟨w2.heap.size, 1, none⟩ = some (.slice d1 S.nl e1) := (q6.cell (p := ⟨w2.heap.size, 1, none⟩) hz3).trans t1
 have HE6 : Hid (CmE w b oo S (.slice a0 S.nc c0) (.slice a1 S.nl c1) (.slice a2 S.nw c2) w2.heap.size (.slice d0 S.nc e0) (.slice d1 S.nl e1) (.slice d2 S.nw e2) w6) := HE.out.later q6
 have B26 : Hid (Below w2.heap.size w2 w6) := B23.out.trans (q6.mono (Nat.le_of_lt hz3))
 obtain ⟨U, hU⟩ : ∃ U, unlL S.l a s S.nl = U := ⟨_, rfl⟩
 have HU : Hid (unlL S.l a s S.nl = U) := hU
 rw [hU] at O6
 have O6' : Hid (OwnM w6 w5.heap.size 40 5 (.slice y1 U.length z1) U.length U.flatten) := O6
 have hz6 : w5.heap.size ≤ w6.heap.size := q6.size
 rw [hU]
 clear O6 q6 hU r0 r1 r2 r3 f0 f1 f2 f3 t0 t1 t2 ft0 ft1 ft2 p0 p1 p2
 go_upto_region 12 with fail
 -- the world behind the store of the locks
 have BX : Hid (Below w.heap.size w (w6.setCell ⟨w2.heap.size, 1, none⟩ (.slice y1 U.length z1))) := HE6.out.2.2.2.setCell (Nat.le_of_lt hzw) _
 have B2X : Hid (Below w2.heap.size w2 (w6.setCell ⟨w2.heap.size, 1, none⟩ (.slice y1 U.length z1))) := B26.out.setCell (Nat.le_refl _) _
 have RX : Hid (Blk4 (w6.setCell ⟨w2.heap.size, 1, none⟩ (.slice y1 U.length z1)) w.heap.size (.int .i64 0) (.slice none 0 0) (.slice none 0 0) (.slice none 0 0)) := HE6.out.1.kept (Below.heap_setCell _ _ _ _ (Nat.ne_of_lt hzw))
 have TX : Hid (Blk3 (w6.setCell ⟨w2.heap.size, 1, none⟩ (.slice y1 U.length z1)) w2.heap.size (.slice d0 S.nc e0) (.slice y1 U.length z1) (.slice d2 S.nw e2)) := HE6.out.2.1.set1 _
 have OX : Hid (OwnM (w6.setCell ⟨w2.heap.size, 1, none⟩ (.slice y1 U.length z1)) w5.heap.size 40 5 (.slice y1 U.length z1) U.length U.flatten) := O6'.out.far hz3 _
 have LX : Hid (LiesO (w6.setCell ⟨w2.heap.size, 1, none⟩ (.slice y1 U.length z1)) b oo S (.slice a0 S.nc c0) (.slice a1 S.nl c1) (.slice a2 S.nw c2)) := H.out.later BX.out
 have zX : w2.heap.size < (w6.setCell ⟨w2.heap.size, 1, none⟩ (.slice y1 U.length z1)).heap.size := TX.out.lt
 have z5X : w5.heap.size ≤ (w6.setCell ⟨w2.heap.size, 1, none⟩ (.slice y1 U.length z1)).heap.size := by simpa [World.setCell] using hz6
 generalize w6.setCell ⟨w2.heap.size, 1, none⟩ (.slice y1 U.length z1) = X0 at BX B2X RX TX OX LX zX z5X ⊢
 clear HE6 O6' B26 hz6 t1' ft1' HE
 go_wp2_with fail
 refine (cellAt_isO S b oo _ _ _ a s (j : Int) _ LX.out hn0 hcl).mono ?_
 rintro e X1 ⟨rfl, hX1⟩
 obtain rfl := hX1.symm
 clear hX1
 obtain ⟨i0, hi0, hz0, hz1, hz2⟩ := info_parts info_Cell
 obtain ⟨cg, co, hd0, _⟩ := HS.out.1.1.1.at (k := 0) (by omega)
 subst hd0
 have hw1 : IntKind.i64.wrap ((j : Int) + 1) = ((j + 1 : Nat) : Int) := by simp [IntKind.wrap, IntKind.bits, IntKind.signed]; omega
 have hj1 : j + 1 ≤ S.nc := hjn
 have hj2 : j + 1 ≤ e0 := by omega
 have hj3 : j ≤ e0 := by omega
 have hj4 : j ≤ S.nc := by omega
 have hq1 : (0 : Int) ≤ (j : Int) + 1 := by omega
 have hq2 : (j : Int) + 1 ≤ (S.nc : Int) := by omega
 have hq3 : (0 : Int) ≤ (j : Int) + 1 ∧ (j : Int) + 1 ≤ (S.nc : Int) := ⟨hq1, hq2⟩
 obtain ⟨A, hA⟩ : ∃ A, (if e0 = j + 1 then (some ⟨cg, co, none⟩ : Option Addr) else some ⟨cg, co + (j + 1) * 3, none⟩) = A := ⟨_, rfl⟩
 have F0 : X0.drew.cell? ⟨w2.heap.size, 0, none⟩ = some (.slice (some ⟨cg, co, none⟩) S.nc e0) := TX.out.1.1
 have F1 : (X0.alloc (.cells #[] 93)).drew.cell? ⟨w2.heap.size, 0, none⟩ = some (.slice (some ⟨cg, co, none⟩) S.nc e0) := (TX.out.alloc _).1.1
 have F1d : (X0.alloc (.cells #[] 93)).cell? ⟨w2.heap.size, 0, none⟩ = some (.slice (some ⟨cg, co, none⟩) S.nc e0) := (TX.out.alloc _).1.1
 have F0d : X0.cell? ⟨w2.heap.size, 0, none⟩ = some (.slice (some ⟨cg, co, none⟩) S.nc e0) := TX.out.1.1
 have O0 : Hid (OwnM (X0.alloc (.cells #[] 93)).drew X0.heap.size 93 3 (.slice (some ⟨X0.heap.size, 0, none⟩) 0 0) 0 []) := OwnM.lit0 X0.drew X0.heap.size _ _ rfl
 have C0 : Hid (Row (X0.alloc (.cells #[] 93)).drew (w.heap.size + 1) 3 S.nc S.c (.slice (some ⟨cg, co, none⟩) S.nc e0)) := ((HS.out.1.1.1.later B2X.out).drewN 1).alloc _
 go_wp2_with fail
 refine wp_regionZ 13 (S := fun X => X.cell? ⟨w2.heap.size, 0, none⟩ = some (.slice (some ⟨cg, co, none⟩) S.nc e0)) (by kernel_rfl) F0 (fun hS => ?_)
 refine wpAnyZ_take (i := 1) (v := ?_) rfl (by kernel_rfl) (by kernel_rfl) (by kernel_rfl) (by kernel_rfl) (fun _ _ _ h => h) (Or.inl ⟨by kernel_rfl, ?_⟩) hS ?_
 rotate_left
 ·intro wx hx
  try dsimp only at hx
  go_simp
  try with_reducible rfl
 refine wpAnyZ_take (i := 2) (v := ?_) rfl (by kernel_rfl) (by kernel_rfl) (by kernel_rfl) (by kernel_rfl) (fun _ _ _ h => h) (Or.inl ⟨by kernel_rfl, ?_⟩) hS ?_
 rotate_left
 ·intro wx hx
  try dsimp only at hx
  go_simp
  try with_reducible rfl
 refine wpAnyZ_take (i := 3) (v := ?_) rfl (by kernel_rfl) (by kernel_rfl) (by kernel_rfl) (by kernel_rfl) (fun _ _ _ h => h) (Or.inl ⟨by kernel_rfl, ?_⟩) hS ?_
 rotate_left
 ·intro wx hx
  try dsimp only at hx
  go_simp
  try with_reducible rfl
 refine wpAnyZ_take (i := 4) (v := ?_) rfl (by kernel_rfl) (by kernel_rfl) (by kernel_rfl) (by kernel_rfl) (fun _ _ _ h => h) (Or.inl ⟨by kernel_rfl, ?_⟩) hS ?_
 rotate_left
 ·intro wx hx
  try dsimp only at hx
  go_simp
  try with_reducible rfl
 refine wpAnyZ_take (i := 6) (v := ?_) rfl (by kernel_rfl) (by kernel_rfl) (by kernel_rfl) (by kernel_rfl) (fun _ _ _ h => h) (Or.inl ⟨by kernel_rfl, ?_⟩) hS ?_
 rotate_left
 ·intro wx hx
  try dsimp only at hx
  go_simp
  try with_reducible rfl
 refine wpAnyZ_take (i := 7) (v := ?_) rfl (by kernel_rfl) (by kernel_rfl) (by kernel_rfl) (by kernel_rfl) (fun _ _ _ h => h) (Or.inl ⟨by kernel_rfl, ?_⟩) hS ?_
 rotate_left
 ·intro wx hx
  try dsimp only at hx
  go_simp
  try with_reducible rfl
 refine wpAnyZ_take (i := 8) (v := ?_) rfl (by kernel_rfl) (by kernel_rfl) (by kernel_rfl) (by kernel_rfl) (fun _ _ _ h => h) (Or.inl ⟨by kernel_rfl, ?_⟩) hS ?_
 rotate_left
 ·intro wx hx
  try dsimp only at hx
  go_simp
  try with_reducible rfl
 refine wpAnyZ_take (i := 9) (v := ?_) rfl (by kernel_rfl) (by kernel_rfl) (by kernel_rfl) (by kernel_rfl) (fun _ _ _ h => h) (Or.inl ⟨by kernel_rfl, ?_⟩) hS ?_
 rotate_left
 ·intro wx hx
  try dsimp only at hx
  go_simp
  try with_reducible rfl
 refine wpAnyZ_take (i := 10) (v := ?_) rfl (by kernel_rfl) (by kernel_rfl) (by kernel_rfl) (by kernel_rfl) (fun _ _ _ h => h) (Or.inl ⟨by kernel_rfl, ?_⟩) hS ?_
 rotate_left
 ·intro wx hx
  try dsimp only at hx
  go_simp
  try with_reducible rfl
 clear hS
 refine wpAnyZ_one 0 (by kernel_rfl) rfl (fun K hK => ?_)
 go_simp
 refine hK.out _ _ F1 (fun _ => ?_)
 clear hK K
 refine wpAnyZ_one 5 (by kernel_rfl) rfl (fun K hK => ?_)
 refine step_app 93 i0 (.agg #[.int .i64 0, .int .i64 0, .int .i64 0]) 3 24 (by rfl) _ _ 24 (by rfl) Tryz.underlying24 hi0 hz0 hz1 hz2 rfl (by omega) (by omega) _ X0.heap.size 0 [] (.slice (some ⟨X0.heap.size, 0, none⟩) 0 0) (by rfl) O0.out (w.heap.size + 1) j S.c (.slice (some ⟨cg, co, none⟩) j e0) (by rfl) (C0.out.head hj4 e0) (by omega) (by show X0.heap.size ≤ (World.alloc X0 _).heap.size; simp) ?_
 intro ao5 cp5 w7 O7 G7
 rw [Nat.zero_add, List.nil_append] at O7
 rw [show (0 : Nat) + j = j from Nat.zero_add j]
 have F2 : w7.cell? ⟨w2.heap.size, 0, none⟩ = some (.slice (some ⟨cg, co, none⟩) S.nc e0) := G7.cell F1 (fun q => by simp [Value.ownBlock] at q; omega)
 refine hK.out _ _ F2 (fun _ => ?_)
 clear hK K
 have C7 : Hid (Row w7 (w.heap.size + 1) 3 S.nc S.c (.slice (some ⟨cg, co, none⟩) S.nc e0)) := C0.out.turned G7 (fun h0 k hk q => by
  have h1 := (HS.out.1.1.1.lt h0 k hk).2
  rw [q] at hk
  simp [Value.ownBlock] at hk q
  omega)
 refine wpAnyZ_one 11 (by kernel_rfl) rfl (fun K hK => ?_)
 refine step_app 93 i0 (.agg #[.int .i64 0, .int .i64 0, .int .i64 0]) 3 24 (by rfl) _ _ 24 (by rfl) Tryz.underlying24 hi0 hz0 hz1 hz2 rfl (by omega) (by omega) _ X0.heap.size j (nums S.c (j * 3)) (.slice ao5 j cp5) (by rfl) O7 (w.heap.size + 1) (S.nc - (j + 1)) (fun p => S.c ((j + 1) * 3 + p)) (.slice A (S.nc - (j + 1)) (e0 - (j + 1))) (by rfl) (hA ▸ C7.out.tailR (j + 1) g0) (by omega) (Nat.le_trans (by show X0.heap.size ≤ (World.alloc X0 _).heap.size; simp) G7.size) ?_
 intro ao6 cp6 wC O8 G8
 have keep : ∀ q, q < X0.heap.size → wC.heap[q]? = X0.heap[q]? := fun q hq => by
  have h1 : (X0.alloc (.cells #[] 93)).drew.heap[q]? = X0.heap[q]? := (below_alloc X0 (.cells #[] 93)).block q hq
  have h2 : w7.heap[q]? = (X0.alloc (.cells #[] 93)).drew.heap[q]? := G7.block q (by show q < (World.alloc X0 _).heap.size; simp; omega) (fun e => by simp [Value.ownBlock] at e; omega)
  have h3 : wC.heap[q]? = w7.heap[q]? := G8.block q (Nat.lt_of_lt_of_le (by show q < (World.alloc X0 _).heap.size; simp; omega) G7.size) (fun e => by have := (O7.block q e.symm).1; omega)
  exact h3.trans (h2.trans h1)
 have szC : X0.heap.size ≤ wC.heap.size := Nat.le_trans (Nat.le_trans (by show X0.heap.size ≤ (World.alloc X0 _).heap.size; simp) G7.size) G8.size
 have osC : wC.os = X0.os ∧ wC.tape = X0.tape ∧ wC.output = X0.output := ⟨G8.os.trans G7.os, G8.tape.trans G7.tape, G8.output.trans G7.output⟩
 have TC : Blk3 wC w2.heap.size (.slice (some ⟨cg, co, none⟩) S.nc e0) (.slice y1 U.length z1) (.slice d2 S.nw e2) := TX.out.kept (keep _ zX)
 refine hK.out _ _ TC.1.1 (fun hS => ?_)
 clear hK K
 refine wpAnyZ_take (i := 12) (v := ?_) rfl (by kernel_rfl) (by kernel_rfl) (by kernel_rfl) (by kernel_rfl) (fun _ _ _ h => h) (Or.inl ⟨by kernel_rfl, ?_⟩) hS ?_
 rotate_left
 ·intro wx hx
  try dsimp only at hx
  go_simp
  try with_reducible rfl
 obtain ⟨⟨t0, t1, t2⟩, ft0, ft1, ft2⟩ := TC
 clear hS
 refine wpAnyZ_last (by kernel_rfl) rfl (fun K hK => ?_)
 go_simp
 refine hK.out _ _ ?_
 clear hK K
 have TC : Blk3 wC w2.heap.size (.slice (some ⟨cg, co, none⟩) S.nc e0) (.slice y1 U.length z1) (.slice d2 S.nw e2) := TX.out.kept (keep _ zX)
 have BC : Below X0.heap.size X0 wC := ⟨osC.1, osC.2.1, osC.2.2, szC, keep⟩
 have BX1 : Hid (Below w.heap.size w (wC.setCell ⟨w2.heap.size, 0, none⟩ (.slice ao6 (j + (S.nc - (j + 1))) cp6))) := (BX.out.trans (BC.mono BX.out.size)).setCell (Nat.le_of_lt hzw) _
 have B2X1 : Hid (Below w2.heap.size w2 (wC.setCell ⟨w2.heap.size, 0, none⟩ (.slice ao6 (j + (S.nc - (j + 1))) cp6))) := (B2X.out.trans (BC.mono (Nat.le_of_lt zX))).setCell (Nat.le_refl _) _
 have RX1 : Hid (Blk4 (wC.setCell ⟨w2.heap.size, 0, none⟩ (.slice ao6 (j + (S.nc - (j + 1))) cp6)) w.heap.size (.int .i64 0) (.slice none 0 0) (.slice none 0 0) (.slice none 0 0)) := (RX.out.later BC).kept (Below.heap_setCell _ _ _ _ (Nat.ne_of_lt hzw))
 have TX1 : Hid (Blk3 (wC.setCell ⟨w2.heap.size, 0, none⟩ (.slice ao6 (j + (S.nc - (j + 1))) cp6)) w2.heap.size (.slice ao6 (j + (S.nc - (j + 1))) cp6) (.slice y1 U.length z1) (.slice d2 S.nw e2)) := TC.set0 _
 have OX1 : Hid (OwnM (wC.setCell ⟨w2.heap.size, 0, none⟩ (.slice ao6 (j + (S.nc - (j + 1))) cp6)) w5.heap.size 40 5 (.slice y1 U.length z1) U.length U.flatten) := (OX.out.later BC).far hz3 _
 have hobX : Hid (∀ q, (Value.slice y1 U.length z1).ownBlock = some q → w5.heap.size ≤ q ∧ q < X0.heap.size) := OX.out.block
 have OC : Hid (OwnM (wC.setCell ⟨w2.heap.size, 0, none⟩ (.slice ao6 (j + (S.nc - (j + 1))) cp6)) X0.heap.size 93 3 (.slice ao6 (j + (S.nc - (j + 1))) cp6) (j + (S.nc - (j + 1))) (nums S.c (j * 3) ++ nums (fun p => S.c ((j + 1) * 3 + p)) ((S.nc - (j + 1)) * 3))) := O8.far zX _
 have hobC : Hid (∀ q, (Value.slice ao6 (j + (S.nc - (j + 1))) cp6).ownBlock = some q → X0.heap.size ≤ q ∧ q < (wC.setCell ⟨w2.heap.size, 0, none⟩ (.slice ao6 (j + (S.nc - (j + 1))) cp6)).heap.size) := OC.out.block
 have zX0 : w2.heap.size < X0.heap.size := zX
 have zX1 : w2.heap.size < (wC.setCell ⟨w2.heap.size, 0, none⟩ (.slice ao6 (j + (S.nc - (j + 1))) cp6)).heap.size := TX1.out.lt
 have z5X1 : w5.heap.size ≤ (wC.setCell ⟨w2.heap.size, 0, none⟩ (.slice ao6 (j + (S.nc - (j + 1))) cp6)).heap.size := Nat.le_trans z5X (by simpa [World.setCell] using szC)
 generalize wC.setCell ⟨w2.heap.size, 0, none⟩ (.slice ao6 (j + (S.nc - (j + 1))) cp6) = X1 at BX1 B2X1 RX1 TX1 OX1 OC hobC zX1 z5X1 ⊢
 clear BX B2X RX TX OX zX z5X LX F0 F1 F1d F0d F2 O0 C0 C7 O7 G7 O8 G8 keep szC osC TC BC t0 t1 t2 ft0 ft1 ft2
 have BX := BX1
 have B2X := B2X1
 have RX := RX1
 have TX := TX1
 have OX := OX1
 have zX := zX1
 have z5X := z5X1
 have LX : True := trivial
 clear BX1 B2X1 RX1 TX1 OX1 zX1 z5X1
 refine wpAnyZ_done (by kernel_rfl) ?_ _
 obtain ⟨⟨t0, t1, t2⟩, _⟩ := TX.out
 go_simp
 go_wp2_with fail
 refine (l2AddWrite_any S.nw S.k d2 e2 (w.heap.size + 1) a s s 4 _ (HS.out.1.1.2.2.later B2X.out) (by omega) g2).mono ?_
 rintro e w7 ⟨k', y2, z2, hk', rfl, O7, q7⟩
 obtain rfl : k' = k := hk'.one HK.out
 have BY : Hid (Below w.heap.size w w7) := BX.out.trans (q7.mono BX.out.size)
 have B2Y : Hid (Below w2.heap.size w2 w7) := B2X.out.trans (q7.mono (Nat.le_of_lt zX))
 have RY : Hid (Blk4 w7 w.heap.size (.int .i64 0) (.slice none 0 0) (.slice none 0 0) (.slice none 0 0)) := RX.out.later q7
 have TY : Hid (Blk3 w7 w2.heap.size (.slice ao6 (j + (S.nc - (j + 1))) cp6) (.slice y1 U.length z1) (.slice d2 S.nw e2)) := TX.out.later q7
 have OY : Hid (OwnM w7 w5.heap.size 40 5 (.slice y1 U.length z1) U.length U.flatten) := OX.out.later q7
 have hob : Hid (∀ q, (Value.slice y1 U.length z1).ownBlock = some q → w5.heap.size ≤ q ∧ q < X1.heap.size) := OX.out.block
 have PY : Hid (OwnM w7 X1.heap.size 55 4 (.slice y2 (S.nw + 1) z2) (S.nw + 1) (nums S.k (k' * 4) ++ [a, s, s, 4] ++ nums (fun p => S.k (k' * 4 + p)) ((S.nw - k') * 4))) := O7
 have hkn : k' ≤ S.nw := hk'.1
 have hqX : Hid (Below X1.heap.size X1 w7) := q7
 clear O7 q7 hk' OX RX TX LX BX B2X HK t0 t1 t2
 obtain ⟨⟨t0, t1, t2⟩, ft0, ft1, ft2⟩ := TY.out
 go_upto_region 16 with fail
 have RZ := RY.out.kept (Below.heap_setCell w7 ⟨w2.heap.size, 2, none⟩ (.slice y2 (S.nw + 1) z2) _ (Nat.ne_of_lt hzw))
 have TZ := TY.out.set2 (.slice y2 (S.nw + 1) z2)
 have BZ : Hid (Below w.heap.size w (w7.setCell ⟨w2.heap.size, 2, none⟩ (.slice y2 (S.nw + 1) z2))) := BY.out.setCell (Nat.le_of_lt hzw) _
 have B2Z : Hid (Below w2.heap.size w2 (w7.setCell ⟨w2.heap.size, 2, none⟩ (.slice y2 (S.nw + 1) z2))) := B2Y.out.setCell (Nat.le_refl _) _
 have OZ : Hid (OwnM (w7.setCell ⟨w2.heap.size, 2, none⟩ (.slice y2 (S.nw + 1) z2)) w5.heap.size 40 5 (.slice y1 U.length z1) U.length U.flatten) := OY.out.far hz3 _
 have PZ : Hid (OwnM (w7.setCell ⟨w2.heap.size, 2, none⟩ (.slice y2 (S.nw + 1) z2)) X1.heap.size 55 4 (.slice y2 (S.nw + 1) z2) (S.nw + 1) (nums S.k (k' * 4) ++ [a, s, s, 4] ++ nums (fun p => S.k (k' * 4 + p)) ((S.nw - k') * 4))) := PY.out.far zX _
 have OC8 : Hid (OwnM (w7.setCell ⟨w2.heap.size, 2, none⟩ (.slice y2 (S.nw + 1) z2)) X0.heap.size 93 3 (.slice ao6 (j + (S.nc - (j + 1))) cp6) (j + (S.nc - (j + 1))) (nums S.c (j * 3) ++ nums (fun p => S.c ((j + 1) * 3 + p)) ((S.nc - (j + 1)) * 3))) := (OC.out.later hqX.out).far zX0 _
 generalize w7.setCell ⟨w2.heap.size, 2, none⟩ (.slice y2 (S.nw + 1) z2) = w8 at RZ TZ BZ B2Z OZ PZ OC8 ⊢
 clear t0 t1 t2 ft0 ft1 ft2 RY TY BY B2Y OY PY
 obtain ⟨⟨r0, r1, r2, r3⟩, f0, f1, f2, f3⟩ := RZ
 obtain ⟨⟨t0, t1, t2⟩, _⟩ := TZ
 go_wp2
 have hone := selD_one (F := S.c) (m := 3) (D := goneK a s) (j := j) (goneK_iff.2 hcl.at.2.1) S.nc hjn (fun i hi' hne => goneK_not (fun q => hne (cell_once HZ.out hi' hjn q hcl.at.2.1)))
 have hN : (unlC S.c a s S.nc).length = j + (S.nc - (j + 1)) := by
  have : (unlC S.c a s S.nc).length = S.nc - 1 := hone.1
  omega
 have lenC : (nums S.c (j * 3) ++ nums (fun p => S.c ((j + 1) * 3 + p)) ((S.nc - (j + 1)) * 3)).length = (j + (S.nc - (j + 1))) * 3 := by
  rw [List.length_append, nums_length, nums_length]
  omega
 have rC : Own w8 (w.heap.size + 1) 93 3 (j + (S.nc - (j + 1))) (fun p => (unlC S.c a s S.nc).flatten.getD p 0) (.slice ao6 (j + (S.nc - (j + 1))) cp6) := (own_congr (OC8.out.own lenC) (fun p hp => (roll_cells hjn p (by omega)).trans (hone.2 p (by omega)).symm)).mono (by omega)
 have A8 : ApartB (.slice ao6 (j + (S.nc - (j + 1))) cp6) (.slice y1 U.length z1) (.slice y2 (S.nw + 1) z2) :=
  ⟨fun q a b => by have := (hobC.out q a).1; have := (hobX.out q b).2; omega, fun q a b => by have := (hobC.out q a).2; have := (PZ.out.block q b).1; omega, fun q a b => by have := (hob.out q a).2; have := (PZ.out.block q b).1; omega⟩
 have lenL : U.flatten.length = U.length * 5 := flat_len U (by rw [← HU.out]; exact selD_len _ _ _ _)
 have lenW : (nums S.k (k' * 4) ++ [a, s, s, 4] ++ nums (fun p => S.k (k' * 4 + p)) ((S.nw - k') * 4)).length = (S.nw + 1) * 4 := by
  rw [List.length_append, List.length_append, nums_length, nums_length]
  simp only [List.length_cons, List.length_nil]
  omega
 have O8 : OwnS w8 (w.heap.size + 1) (rollS S a s k') (.slice ao6 (j + (S.nc - (j + 1))) cp6) (.slice y1 U.length z1) (.slice y2 (S.nw + 1) z2) := by
  unfold rollS
  rw [HU.out, hN]
  exact ⟨⟨rC, (OZ.out.own lenL).mono (by omega), (PZ.out.own lenW).mono (by omega)⟩, A8⟩
 have hlo : (w.heap.size : Nat) < w.heap.size + 1 := Nat.lt_succ_self _
 have hul : (rollS S a s k').nl = U.length := by unfold rollS; rw [HU.out]
 have hcl' : (rollS S a s k').nc = j + (S.nc - (j + 1)) := hN
 refine bodyPost_ret (v := .agg #[.int .i64 0, .slice ao6 (j + (S.nc - (j + 1))) cp6, .slice y1 U.length z1, .slice y2 (S.nw + 1) z2]) (by simp [results, Tryz.results67, go_sem, r0, r1, r2, r3]) rfl ?_
 refine ⟨ao6, cp6, y1, z1, y2, z2, ?_, ?_, (((BZ.out.setCell (Nat.le_refl _) _).setCell (Nat.le_refl _) _).setCell (Nat.le_refl _) _).setCell (Nat.le_refl _) _⟩
 ·rw [hul, hcl']; rfl
 ·rw [hul, hcl']
  exact ((((O8.far hlo _).far hlo _).far hlo _).far hlo _).mono (by omega)
end
end Go.Proofs.YtiadbiiiikhfaaaGreatDoor

namespace Go.Proofs.YtiadbiiiikhfaaaGreatDoor
section
open Go.RowKit
end

section
open Go.RowKit Go.Maps Go.Lib
/-- What a rollback comes to on a store without a fault: a code and a store. -/
def RollRes (S : Sto) (a s : Int) (r : Int) (R : Sto) : Prop :=
 (∃ i : Nat, FirstAt (writeIs S.k a s) S.nw i ∧ S.k (i * 4 + 3) = 4 ∧ r = 0 ∧ R = S) ∨
 (∃ i : Nat, FirstAt (writeIs S.k a s) S.nw i ∧ S.k (i * 4 + 3) ≠ 4 ∧ r = 6 ∧ R = emptyS) ∨
 (FirstAt (writeIs S.k a s) S.nw (-1) ∧ (∃ i, i < S.nw ∧ writeAt S.k a s i) ∧ r = 6 ∧ R = emptyS) ∨
 (FirstAt (writeIs S.k a s) S.nw (-1) ∧ (¬ ∃ i, i < S.nw ∧ writeAt S.k a s i) ∧ 200 ≤ S.nw ∧ r = 2 ∧ R = emptyS) ∨
 (∃ k : Nat, FirstAt (writeIs S.k a s) S.nw (-1) ∧ (¬ ∃ i, i < S.nw ∧ writeAt S.k a s i) ∧ S.nw < 200 ∧ placeAt (aheadW S.k a s) S.nw k ∧ r = 0 ∧ R = rollS S a s k)
theorem l3Roll_ownO (S : Sto) (b oo : Nat) (v0 v1 v2 : Value) (a s r : Int) (R : Sto) (w : World) (h : LiesO w b oo S v0 v1 v2) (hz : storeF S = 0) (hA : RollRes S a s r R) :
  Calls Tryz.prog 67 #[.pointer (some ⟨b, oo, none⟩), .int .i64 a, .int .i64 s] w (ResStoK w r R) := by
 rcases hA with ⟨i, h1, h2, rfl, rfl⟩ | ⟨i, h1, h2, rfl, rfl⟩ | ⟨h1, h2, rfl, rfl⟩ | ⟨h1, h2, h3, rfl, rfl⟩ | ⟨k, h1, h2, h3, h4, rfl, rfl⟩
 ·exact l3Roll_sameO _ b oo v0 v1 v2 a s i w h hz h1 h2
 ·exact l3Roll_takenO S b oo v0 v1 v2 a s i w h hz h1 h2
 ·exact l3Roll_atO S b oo v0 v1 v2 a s w h hz h1 h2
 ·exact l3Roll_manyO S b oo v0 v1 v2 a s w h hz h1 h2 h3
 ·obtain ⟨j, hj⟩ := FirstAt.get (cellIs S.c a s) S.nc
  rcases hj with ⟨rfl, q⟩ | ⟨j, hjn, rfl, q1, q2⟩
  ·exact l3Roll_noneO S b oo v0 v1 v2 a s k w h hz h1 h2 h3 h4 (Or.inl ⟨rfl, q⟩)
  ·exact l3Roll_cellO S b oo v0 v1 v2 a s k j w h hz h1 h2 h3 h4 (Or.inr ⟨j, hjn, rfl, q1, q2⟩)
def RollAns (S : Sto) (a s : Int) (r : Int) (R : Sto) : Prop :=
 (askF S a ≠ 0 ∧ r = askF S a ∧ R = emptyS) ∨ (askF S a = 0 ∧ ¬ isT s ∧ r = 3 ∧ R = emptyS) ∨ (askF S a = 0 ∧ isT s ∧ RollRes S a s r R)
set_option maxRecDepth 100000 in
set_option maxHeartbeats 8000000 in
theorem specRollbackKey_own (S : Sto) (v0 v1 v2 : Value) (a s r : Int) (R : Sto) (B : Nat) (w : World) (h : St w B S v0 v1 v2) (hA : RollAns S a s r R) :
  Calls Tryz.prog 25 #[.agg #[v0, v1, v2], .int .i64 a, .int .i64 s] w (ResStoK w r R) := by
 obtain ⟨a0, c0, a1, c1, a2, c2, rfl, rfl, rfl⟩ := h.form
 have HE : Hid (CallSto w B S (.slice a0 S.nc c0) (.slice a1 S.nl c1) (.slice a2 S.nw c2) ((w.alloc (.cells #[.slice a0 S.nc c0, .slice a1 S.nl c1, .slice a2 S.nw c2] 28)).alloc (.cells #[.int .i64 0, .slice none 0 0, .slice none 0 0, .slice none 0 0] 32))) := CallSto.new h _ _
 clear h
 unfold ResStoK
 rcases hA with ⟨hz, rfl, rfl⟩ | ⟨hz, ht, rfl, rfl⟩ | ⟨hz, ht, hR⟩
 ·obtain ⟨f, hf⟩ : ∃ f, askF S a = f := ⟨_, rfl⟩
  have HF : Hid (askF S a = f) := hf
  have hfn : (f == 0) = false := beq_eq_false_iff_ne.2 (by rw [← hf]; exact hz)
  have hfn' : (f != 0) = true := by rw [bne_iff_ne, ← hf]; exact hz
  rw [hf]
  clear hz hf
  go_enter Tryz.func25, Tryz.ntmps25
  go_wp2_with fail
  refine (asked_any S w.heap.size _ _ _ _ _ ⟨HE.out.1.1, HE.out.2.2.1.mono (Nat.zero_le _)⟩).mono ?_
  rw [HF.out]
  rintro e w1 ⟨rfl, q1⟩
  have HE : Hid (CallSto w B S (.slice a0 S.nc c0) (.slice a1 S.nl c1) (.slice a2 S.nw c2) w1) := HE.out.later q1
  obtain ⟨⟨⟨p0, p1, p2⟩, _⟩, ⟨⟨r0, r1, r2, r3⟩, f0, f1, f2, f3⟩, _⟩ := HE.out
  clear q1
  go_wp2_with fail
  refine (l3Bad_own f _).mono ?_
  rintro e w4 ⟨d0, e0, d1, e1, d2, e2, rfl, o3, q4⟩
  have z3 : Hid (w.heap.size + 2 ≤ w1.heap.size) := HE.out.2.1.lt
  have S3 : Hid (OwnS w4 (w.heap.size + 2) emptyS (.slice d0 (emptyS).nc e0) (.slice d1 (emptyS).nl e1) (.slice d2 (emptyS).nw e2)) := o3.mono z3.out
  have HBW : Hid (Below w.heap.size w w4) := HE.out.2.2.2.trans (q4.mono HE.out.2.2.2.size)
  obtain ⟨⟨r0, r1, r2, r3⟩, f0, f1, f2, f3⟩ := HE.out.2.1.later q4
  clear o3 q4
  have hlo : (w.heap.size + 1 : Nat) < w.heap.size + 2 := Nat.lt_succ_self _
  go_wp2
  exact bodyPost_ret (v := .agg #[.int .i64 f, .slice d0 (emptyS).nc e0, .slice d1 (emptyS).nl e1, .slice d2 (emptyS).nw e2]) (by simp [results, Tryz.results25, go_sem, r0, r1, r2, r3]) rfl ⟨d0, e0, d1, e1, d2, e2, rfl, ((((S3.out.far hlo _).far hlo _).far hlo _).far hlo _).mono (by omega), (((HBW.out.setCell (Nat.le_succ _) _).setCell (Nat.le_succ _) _).setCell (Nat.le_succ _) _).setCell (Nat.le_succ _) _⟩
 ·have HA : Hid (askF S a = 0) := hz
  have HT : Hid (decide (1 ≤ s ∧ s ≤ 100000) = false) := decide_eq_false ht
  clear hz ht
  go_enter Tryz.func25, Tryz.ntmps25
  go_wp2_with fail
  refine (asked_any S w.heap.size _ _ _ _ _ ⟨HE.out.1.1, HE.out.2.2.1.mono (Nat.zero_le _)⟩).mono ?_
  rw [HA.out]
  rintro e w1 ⟨rfl, q1⟩
  have HE : Hid (CallSto w B S (.slice a0 S.nc c0) (.slice a1 S.nl c1) (.slice a2 S.nw c2) w1) := HE.out.later q1
  obtain ⟨⟨⟨p0, p1, p2⟩, _⟩, ⟨⟨r0, r1, r2, r3⟩, f0, f1, f2, f3⟩, _⟩ := HE.out
  clear q1
  go_wp2_with fail
  refine (l2Ts_is s false HT.out _).mono ?_
  rintro e w1' ⟨rfl, rfl⟩
  go_wp2_with fail
  refine (l3Bad_own 3 _).mono ?_
  rintro e w4 ⟨d0, e0, d1, e1, d2, e2, rfl, o3, q4⟩
  have z3 : Hid (w.heap.size + 2 ≤ w1'.heap.size) := HE.out.2.1.lt
  have S3 : Hid (OwnS w4 (w.heap.size + 2) emptyS (.slice d0 (emptyS).nc e0) (.slice d1 (emptyS).nl e1) (.slice d2 (emptyS).nw e2)) := o3.mono z3.out
  have HBW : Hid (Below w.heap.size w w4) := HE.out.2.2.2.trans (q4.mono HE.out.2.2.2.size)
  obtain ⟨⟨r0, r1, r2, r3⟩, f0, f1, f2, f3⟩ := HE.out.2.1.later q4
  clear o3 q4
  have hlo : (w.heap.size + 1 : Nat) < w.heap.size + 2 := Nat.lt_succ_self _
  go_wp2
  exact bodyPost_ret (v := .agg #[.int .i64 3, .slice d0 (emptyS).nc e0, .slice d1 (emptyS).nl e1, .slice d2 (emptyS).nw e2]) (by simp [results, Tryz.results25, go_sem, r0, r1, r2, r3]) rfl ⟨d0, e0, d1, e1, d2, e2, rfl, ((((S3.out.far hlo _).far hlo _).far hlo _).far hlo _).mono (by omega), (((HBW.out.setCell (Nat.le_succ _) _).setCell (Nat.le_succ _) _).setCell (Nat.le_succ _) _).setCell (Nat.le_succ _) _⟩
 ·have HA : Hid (askF S a = 0) := hz
  have HT : Hid (decide (1 ≤ s ∧ s ≤ 100000) = true) := decide_eq_true ht
  have HP : Hid (∀ (b : Nat) (u0 u1 u2 : Value) (x : World), Lies x b S u0 u1 u2 → Calls Tryz.prog 67 #[.pointer (some ⟨b, 0, none⟩), .int .i64 a, .int .i64 s] x (ResStoK x r R)) := fun b u0 u1 u2 x hx => l3Roll_ownO S b 0 u0 u1 u2 a s r R x hx (askF_zero hz).1 hR
  clear hz ht hR
  go_enter Tryz.func25, Tryz.ntmps25
  go_wp2_with fail
  refine (asked_any S w.heap.size _ _ _ _ _ ⟨HE.out.1.1, HE.out.2.2.1.mono (Nat.zero_le _)⟩).mono ?_
  rw [HA.out]
  rintro e w1 ⟨rfl, q1⟩
  have HE : Hid (CallSto w B S (.slice a0 S.nc c0) (.slice a1 S.nl c1) (.slice a2 S.nw c2) w1) := HE.out.later q1
  obtain ⟨⟨⟨p0, p1, p2⟩, _⟩, ⟨⟨r0, r1, r2, r3⟩, f0, f1, f2, f3⟩, _⟩ := HE.out
  clear q1
  go_wp2_with fail
  refine (l2Ts_is s true HT.out _).mono ?_
  rintro e w1' ⟨rfl, rfl⟩
  go_wp2_with fail
  refine (HP.out w.heap.size _ _ _ _ ⟨HE.out.1.1, HE.out.2.2.1.mono (Nat.zero_le _)⟩).mono ?_
  rintro e w4 ⟨d0, e0, d1, e1, d2, e2, rfl, o3, q4⟩
  have z3 : Hid (w.heap.size + 2 ≤ w1'.heap.size) := HE.out.2.1.lt
  have S3 : Hid (OwnS w4 (w.heap.size + 2) R (.slice d0 (R).nc e0) (.slice d1 (R).nl e1) (.slice d2 (R).nw e2)) := o3.mono z3.out
  have HBW : Hid (Below w.heap.size w w4) := HE.out.2.2.2.trans (q4.mono HE.out.2.2.2.size)
  obtain ⟨⟨r0, r1, r2, r3⟩, f0, f1, f2, f3⟩ := HE.out.2.1.later q4
  clear o3 q4
  have hlo : (w.heap.size + 1 : Nat) < w.heap.size + 2 := Nat.lt_succ_self _
  go_wp2
  exact bodyPost_ret (v := .agg #[.int .i64 r, .slice d0 (R).nc e0, .slice d1 (R).nl e1, .slice d2 (R).nw e2]) (by simp [results, Tryz.results25, go_sem, r0, r1, r2, r3]) rfl ⟨d0, e0, d1, e1, d2, e2, rfl, ((((S3.out.far hlo _).far hlo _).far hlo _).far hlo _).mono (by omega), (((HBW.out.setCell (Nat.le_succ _) _).setCell (Nat.le_succ _) _).setCell (Nat.le_succ _) _).setCell (Nat.le_succ _) _⟩
theorem RollRes.get (S : Sto) (hz : storeF S = 0) (a s : Int) : ∃ r R, Small R ∧ RollRes S a s r R := by
 obtain ⟨⟨hc, hl, hw⟩, _⟩ := storeF_zero hz
 have hS : Small S := ⟨by omega, by omega, by omega⟩
 obtain ⟨i, hi⟩ := FirstAt.get (writeIs S.k a s) S.nw
 rcases hi with ⟨rfl, hn⟩ | ⟨i, hi, rfl, hp, hq⟩
 ·have h1 : FirstAt (writeIs S.k a s) S.nw (-1) := Or.inl ⟨rfl, hn⟩
  by_cases h4 : ∃ i, i < S.nw ∧ writeAt S.k a s i
  ·exact ⟨6, emptyS, small_empty, Or.inr (Or.inr (Or.inl ⟨h1, h4, rfl, rfl⟩))⟩
  ·by_cases h5 : 200 ≤ S.nw
   ·exact ⟨2, emptyS, small_empty, Or.inr (Or.inr (Or.inr (Or.inl ⟨h1, h4, h5, rfl, rfl⟩)))⟩
   ·obtain ⟨k, hk⟩ := placeAt.get (aheadW S.k a s) S.nw
    refine ⟨0, rollS S a s k, ⟨Nat.le_trans (selD_le _ _ _ _) hS.1, Nat.le_trans (selD_le _ _ _ _) hS.2.1, ?_⟩, Or.inr (Or.inr (Or.inr (Or.inr ⟨k, h1, h4, by omega, hk, rfl, rfl⟩)))⟩
    show S.nw + 1 ≤ _
    omega
 ·have h1 : FirstAt (writeIs S.k a s) S.nw (i : Int) := Or.inr ⟨i, hi, rfl, hp, hq⟩
  by_cases h2 : S.k (i * 4 + 3) = 4
  ·exact ⟨0, S, hS, Or.inl ⟨i, h1, h2, rfl, rfl⟩⟩
  ·exact ⟨6, emptyS, small_empty, Or.inr (Or.inl ⟨i, h1, h2, rfl, rfl⟩)⟩
theorem RollAns.get (S : Sto) (a s : Int) : ∃ r R, Small R ∧ RollAns S a s r R := by
 by_cases hz : askF S a = 0
 ·by_cases hs : isT s
  ·obtain ⟨r, R, h1, h2⟩ := RollRes.get S (askF_zero hz).1 a s
   exact ⟨r, R, h1, Or.inr (Or.inr ⟨hz, hs, h2⟩)⟩
  ·exact ⟨3, emptyS, small_empty, Or.inr (Or.inl ⟨hz, hs, rfl, rfl⟩)⟩
 ·exact ⟨_, emptyS, small_empty, Or.inl ⟨hz, rfl, rfl⟩⟩
end
end Go.Proofs.YtiadbiiiikhfaaaGreatDoor

namespace Go.Proofs.YtiadbiiiikhfaaaGreatDoor
section
open Go.RowKit Go.Maps
open Go.WideElems (rd_key rg_of)

theorem len_sub {α : Type} : ∀ (K L : List α), K.Pairwise (fun p q => p ≠ q) → (∀ x, x ∈ K → x ∈ L) → K.length ≤ L.length
 | [], _, _, _ => Nat.zero_le _
 | x :: K, L, hp, hs => by
  obtain ⟨L1, L2, rfl⟩ := List.append_of_mem (hs x (List.mem_cons_self ..))
  have hx := (List.pairwise_cons.1 hp).1
  have ih := len_sub K (L1 ++ L2) (List.pairwise_cons.1 hp).2 (fun y hy => by
   have h1 := hs y (List.mem_cons_of_mem _ hy)
   have h2 := hx y hy
   simp only [List.mem_append, List.mem_cons] at h1 ⊢
   rcases h1 with h1 | h1 | h1
   ·exact Or.inl h1
   ·exact absurd h1.symm h2
   ·exact Or.inr h1)
  simp at ih ⊢
  omega
/-- The map's keys are just those of a row: so many entries. -/
theorem PM.count {w : World} {b n : Nat} {m : Int → Int → Option Int} (h : PM w b n m) (L : List (Int × Int)) (hd : L.Pairwise (fun p q => p ≠ q)) (hw : ∀ p, p ∈ L → Wf p.1 ∧ Wf p.2) (hs : ∀ x y, Wf x → Wf y → ((m x y).isSome = true ↔ (x, y) ∈ L)) :
  ∃ D : DataW Unit, w.ownsMap Tryz.prog 105 (plainElem Tryz.prog 2) b n D ∧ Maps.size D = L.length := by
 obtain ⟨D, h, r⟩ := h
 refine ⟨D, h, ?_⟩
 have hK : ∃ es, D = .map es ∧ es.Pairwise (fun p q => p.1 ≠ q.1) ∧ ∀ p ∈ es, ∃ x y, p.1 = kp x y ∧ Wf x ∧ Wf y := by
  obtain ⟨es, e1, e2, _⟩ := h.entries placeKeyed
  refine ⟨es, e1, e2, ?_⟩
  obtain ⟨es', clock, _, F, _, e3⟩ := h
  rw [e1] at e3
  obtain rfl : es = _ := DataW.map.inj e3
  intro p hp
  obtain ⟨x, hx, rfl⟩ := List.mem_map.1 (mem_sorted.1 hp)
  obtain ⟨y, hy⟩ := F.reads x hx
  rw [rg_of hy]
  obtain ⟨a, c, _, e4, ha, hc⟩ := keyOf_place_inv (rd_key hy)
  exact ⟨a, c, e4, ha, hc⟩
 obtain ⟨es, rfl, hp, hk⟩ := hK
 rw [size_eq]
 have mem : ∀ x y, Wf x → Wf y → (kp x y ∈ es.map (·.1) ↔ (x, y) ∈ L) := by
  intro x y hx hy
  rw [← hs x y hx hy, ← (r x y hx hy).1, has_eq, List.any_eq_true]
  constructor
  ·intro q
   obtain ⟨p, h1, h2⟩ := List.mem_map.1 q
   refine ⟨p, h1, ?_⟩
   rw [h2, kp_same hx hy hx hy]
   simp
  ·rintro ⟨p, h1, h2⟩
   obtain ⟨x', y', e, hx', hy'⟩ := hk p h1
   rw [e, kp_same hx' hy' hx hy] at h2
   obtain ⟨rfl, rfl⟩ := of_decide_eq_true h2
   exact List.mem_map.2 ⟨p, h1, e⟩
 have h1 : (es.map (·.1)).length ≤ (L.map (fun p => kp p.1 p.2)).length := len_sub _ _ (List.pairwise_map.2 hp) (fun k hk' => by
  obtain ⟨p, h1, rfl⟩ := List.mem_map.1 hk'
  obtain ⟨x, y, e, hx, hy⟩ := hk p h1
  rw [e] at hk' ⊢
  exact List.mem_map.2 ⟨(x, y), (mem x y hx hy).1 hk', rfl⟩)
 have h2 : (L.map (fun p => kp p.1 p.2)).length ≤ (es.map (·.1)).length := by
  refine len_sub _ _ ?_ (fun k hk' => ?_)
  ·rw [List.pairwise_map]
   refine (List.Pairwise.imp_of_mem ?_ hd)
   rintro ⟨p1, p2⟩ ⟨q1, q2⟩ hp' hq' hne e
   obtain ⟨e1, e2⟩ := kp_inj (hw _ hp').1 (hw _ hp').2 (hw _ hq').1 (hw _ hq').2 e
   exact hne (by simp at e1 e2; rw [e1, e2])
  ·obtain ⟨p, h1, rfl⟩ := List.mem_map.1 hk'
   exact (mem p.1 p.2 (hw p h1).1 (hw p h1).2).2 h1
 simp at h1 h2
 omega
end

section
open Go.RowKit Go.Maps
/-- A write of that start, or a put or a delete at that time or behind it. -/
def lateP (k : Nat → Int) (nw : Nat) (a s : Int) : Prop := (∃ i, firstW k nw a s i) ∨ ∃ i, lastW k nw a 100000 i ∧ s ≤ k (i * 4 + 1)
end

section
open Go.RowKit Go.Maps
/-- The lock lies in a block of its own. -/
def LkE (w : World) (a s kd pr un : Int) (x : World) : Prop :=
 (x.cell? ⟨w.heap.size, 0, none⟩ = some (.int .i64 a) ∧ x.cell? ⟨w.heap.size, 1, none⟩ = some (.int .i64 s) ∧ x.cell? ⟨w.heap.size, 2, none⟩ = some (.int .i64 kd) ∧ x.cell? ⟨w.heap.size, 3, none⟩ = some (.int .i64 pr) ∧ x.cell? ⟨w.heap.size, 4, none⟩ = some (.int .i64 un)) ∧ Below w.heap.size w x
theorem LkE.later {w x x' : World} {a s kd pr un : Int} (h : LkE w a s kd pr un x) (hb : Below x.heap.size x x') : LkE w a s kd pr un x' := by
 obtain ⟨⟨h0, h1, h2, h3, h4⟩, hB⟩ := h
 have hl := lt_cell h0
 exact ⟨⟨(hb.cell (p := ⟨w.heap.size, 0, none⟩) hl).trans h0, (hb.cell (p := ⟨w.heap.size, 1, none⟩) hl).trans h1, (hb.cell (p := ⟨w.heap.size, 2, none⟩) hl).trans h2, (hb.cell (p := ⟨w.heap.size, 3, none⟩) hl).trans h3, (hb.cell (p := ⟨w.heap.size, 4, none⟩) hl).trans h4⟩, hB.trans (hb.mono hB.size)⟩
theorem LkE.new (w : World) (a s kd pr un : Int) (t : TypeId) : LkE w a s kd pr un (w.alloc (.cells #[.int .i64 a, .int .i64 s, .int .i64 kd, .int .i64 pr, .int .i64 un] t)) :=
 ⟨⟨World.cell?_alloc_mark w _ _ _ 0, World.cell?_alloc_mark w _ _ _ 1, World.cell?_alloc_mark w _ _ _ 2, World.cell?_alloc_mark w _ _ _ 3, World.cell?_alloc_mark w _ _ _ 4⟩, below_alloc _ _⟩
theorem cell_kept {x x' : World} {b : Nat} (h : x'.heap[b]? = x.heap[b]?) (i : Nat) : x'.cell? ⟨b, i, none⟩ = x.cell? ⟨b, i, none⟩ := World.cell?_of_block (w := x) (a := ⟨b, i, none⟩) h
end

section
open Go.RowKit
def newerP (k : Nat → Int) (nw : Nat) (a s : Int) : Prop := ∃ i, lastW k nw a 100000 i ∧ s ≤ k (i * 4 + 1)
theorem lateP_iff {k : Nat → Int} {nw : Nat} {a s : Int} : lateP k nw a s ↔ (∃ i, firstW k nw a s i) ∨ newerP k nw a s := Iff.rfl
set_option maxRecDepth 100000 in
set_option maxHeartbeats 2000000 in
theorem l3Newer_is (S : Sto) (b : Nat) (v0 v1 v2 : Value) (a s : Int) (w : World) (h : Lies w b S v0 v1 v2) (hn : S.nw ≤ 200) (r : Bool) (hr : r = true ↔ newerP S.k S.nw a s) :
  Calls Tryz.prog 85 #[.pointer (some ⟨b, 0, none⟩), .int .i64 a, .int .i64 s] w fun e w' => e = .returned (.bool r) ∧ Below w.heap.size w w' := by
 obtain ⟨a0, c0, a1, c1, a2, c2, rfl, rfl, rfl⟩ := h.2.form
 have H : Hid (Lies w b S (.slice a0 S.nc c0) (.slice a1 S.nl c1) (.slice a2 S.nw c2)) := h
 clear h
 by_cases hi : ∃ i, lastW S.k S.nw a 100000 i
 ·obtain ⟨i, hi⟩ := hi
  obtain ⟨n1, N1⟩ : ∃ x, S.k (i * 4 + 1) = x := ⟨_, rfl⟩
  have e : r = decide (s ≤ n1) := by
   by_cases h1 : s ≤ n1
   ·rw [decide_eq_true h1]; exact hr.2 ⟨i, hi, by rw [N1]; exact h1⟩
   ·rw [decide_eq_false h1]
    cases r with
    | false => rfl
    | true => obtain ⟨j, hj, h2⟩ := hr.1 rfl; obtain rfl := hj.one hi; rw [N1] at h2; exact absurd h2 h1
  have HN : Hid (lastW S.k S.nw a 100000 i) := hi
  have HV : Hid (S.k (i * 4 + 1) = n1) := N1
  have hin : (i : Int) < (S.nw : Int) := by have := hi.1; omega
  clear N1 hi hr
  subst e
  go_enter Tryz.func85, Tryz.ntmps85
  go_wp2_with fail
  refine (l2Last_yes S b _ _ _ a 100000 i _ H.out hn HN.out).mono ?_
  rintro e w1 ⟨rfl, q1⟩
  have HL : Lies w1 b S (.slice a0 S.nc c0) (.slice a1 S.nl c1) (.slice a2 S.nw c2) := H.out.later q1
  obtain ⟨g, o, rfl, _, hg, x0, x1, x2, x3⟩ := HL.2.2.2.at4 HN.out.1
  rw [HV.out] at x1
  have p2 := HL.1.2.2
  have HB : Hid (Below w.heap.size w w1) := q1
  clear HL q1 H HN HV
  go_wp2
  go_ret
  exact ⟨rfl, HB.out⟩
 ·obtain rfl : r = false := by
   cases r with
   | false => rfl
   | true => obtain ⟨i, h1, _⟩ := hr.1 rfl; exact absurd ⟨i, h1⟩ hi
  have HN : Hid (∀ i, ¬ lastW S.k S.nw a 100000 i) := fun i q => hi ⟨i, q⟩
  clear hi hr
  go_enter Tryz.func85, Tryz.ntmps85
  go_wp2_with fail
  refine (l2Last_no S b _ _ _ a 100000 _ H.out hn HN.out).mono ?_
  rintro e w1 ⟨rfl, q1⟩
  have HB : Hid (Below w.heap.size w w1) := q1
  clear q1 H HN
  go_wp2
  go_ret
  exact ⟨rfl, HB.out⟩
end

section
open Go.RowKit Go.Lib
/-- The call's own blocks and the store that it was given. -/
def PrS (w : World) (b : Nat) (S : Sto) (v0 v1 v2 : Value) (a s kd pr un : Int) (x : World) : Prop :=
 LkE w a s kd pr un x ∧ Blk4 x (w.heap.size + 1) (.int .i64 0) (.slice none 0 0) (.slice none 0 0) (.slice none 0 0) ∧ Lies x b S v0 v1 v2
theorem PrS.later {w x x' : World} {b : Nat} {S : Sto} {v0 v1 v2 : Value} {a s kd pr un : Int} (h : PrS w b S v0 v1 v2 a s kd pr un x) (hb : Below x.heap.size x x') : PrS w b S v0 v1 v2 a s kd pr un x' := ⟨h.1.later hb, h.2.1.later hb, h.2.2.later hb⟩
set_option maxRecDepth 100000 in
set_option maxHeartbeats 8000000 in
theorem l3Pre_said (S : Sto) (b : Nat) (v0 v1 v2 : Value) (a s kd pr un va : Int) (i : Nat) (w : World) (h : Lies w b S v0 v1 v2) (hz : storeF S = 0) (hi : FirstAt (writeIs S.k a s) S.nw i) :
  Calls Tryz.prog 45 #[.pointer (some ⟨b, 0, none⟩), .agg #[.int .i64 a, .int .i64 s, .int .i64 kd, .int .i64 pr, .int .i64 un], .int .i64 va] w (ResStoK w 8 emptyS) := by
 obtain ⟨a0, c0, a1, c1, a2, c2, rfl, rfl, rfl⟩ := h.2.form
 have HE : Hid (PrS w b S (.slice a0 S.nc c0) (.slice a1 S.nl c1) (.slice a2 S.nw c2) a s kd pr un ((w.alloc (.cells #[.int .i64 a, .int .i64 s, .int .i64 kd, .int .i64 pr, .int .i64 un] 40)).alloc (.cells #[.int .i64 0, .slice none 0 0, .slice none 0 0, .slice none 0 0] 32))) := by
  refine ⟨(LkE.new w a s kd pr un _).later (below_alloc _ _), ?_, (h.later (below_alloc _ _)).later (below_alloc _ _)⟩
  have := Blk4.new (w.alloc (.cells #[.int .i64 a, .int .i64 s, .int .i64 kd, .int .i64 pr, .int .i64 un] 40)) (.int .i64 0) (.slice none 0 0) (.slice none 0 0) (.slice none 0 0) 32
  rwa [World.size_alloc] at this
 obtain ⟨⟨hn0, hn1, hn2⟩, _⟩ := storeF_zero hz
 clear h hz
 go_enter Tryz.func45, Tryz.ntmps45
 go_wp2_with fail
 generalize (w.alloc (.cells #[.int .i64 a, .int .i64 s, .int .i64 kd, .int .i64 pr, .int .i64 un] 40)).alloc (.cells #[.int .i64 0, .slice none 0 0, .slice none 0 0, .slice none 0 0] 32) = w1 at HE ⊢
 refine (l2Write_is S b _ _ _ a s i _ HE.out.2.2 hn2 hi).mono ?_
 rintro e w' ⟨rfl, rfl⟩
 obtain ⟨⟨⟨y0, y1, y2, y3, y4⟩, _⟩, ⟨⟨r0, r1, r2, r3⟩, f0, f1, f2, f3⟩, ⟨p0, p1, p2⟩, pst⟩ := HE.out
 unfold ResStoK
 clear pst hi
 go_wp2_with fail
 refine (l3Bad_own 8 _).mono ?_
 rintro e w9 ⟨x0, z0, x1, z1, x2, z2, rfl, o4, q4⟩
 have hsz : w.heap.size + 2 ≤ _ := HE.out.2.1.lt
 have S4 : Hid (OwnS w9 (w.heap.size + 2) emptyS (.slice x0 emptyS.nc z0) (.slice x1 emptyS.nl z1) (.slice x2 emptyS.nw z2)) := o4.mono hsz
 have HBW : Hid (Below w.heap.size w w9) := (HE.out.later q4).1.2
 obtain ⟨⟨r0, r1, r2, r3⟩, f0, f1, f2, f3⟩ := (HE.out.later q4).2.1
 clear o4 q4 hsz
 have hlo : (w.heap.size + 1 : Nat) < w.heap.size + 2 := Nat.lt_succ_self _
 go_wp2
 exact bodyPost_ret (v := .agg #[.int .i64 8, .slice x0 emptyS.nc z0, .slice x1 emptyS.nl z1, .slice x2 emptyS.nw z2]) (by simp [results, Tryz.results45, go_sem, r0, r1, r2, r3]) rfl ⟨x0, z0, x1, z1, x2, z2, rfl, ((((S4.out.far hlo _).far hlo _).far hlo _).far hlo _).mono (by omega), (((HBW.out.setCell (Nat.le_succ _) _).setCell (Nat.le_succ _) _).setCell (Nat.le_succ _) _).setCell (Nat.le_succ _) _⟩
set_option maxRecDepth 100000 in
set_option maxHeartbeats 8000000 in
theorem l3Pre_newer (S : Sto) (b : Nat) (v0 v1 v2 : Value) (a s kd pr un va : Int) (w : World) (h : Lies w b S v0 v1 v2) (hz : storeF S = 0) (hi : FirstAt (writeIs S.k a s) S.nw (-1)) (hm : newerP S.k S.nw a s) :
  Calls Tryz.prog 45 #[.pointer (some ⟨b, 0, none⟩), .agg #[.int .i64 a, .int .i64 s, .int .i64 kd, .int .i64 pr, .int .i64 un], .int .i64 va] w (ResStoK w 8 emptyS) := by
 obtain ⟨a0, c0, a1, c1, a2, c2, rfl, rfl, rfl⟩ := h.2.form
 have HE : Hid (PrS w b S (.slice a0 S.nc c0) (.slice a1 S.nl c1) (.slice a2 S.nw c2) a s kd pr un ((w.alloc (.cells #[.int .i64 a, .int .i64 s, .int .i64 kd, .int .i64 pr, .int .i64 un] 40)).alloc (.cells #[.int .i64 0, .slice none 0 0, .slice none 0 0, .slice none 0 0] 32))) := by
  refine ⟨(LkE.new w a s kd pr un _).later (below_alloc _ _), ?_, (h.later (below_alloc _ _)).later (below_alloc _ _)⟩
  have := Blk4.new (w.alloc (.cells #[.int .i64 a, .int .i64 s, .int .i64 kd, .int .i64 pr, .int .i64 un] 40)) (.int .i64 0) (.slice none 0 0) (.slice none 0 0) (.slice none 0 0) 32
  rwa [World.size_alloc] at this
 obtain ⟨⟨hn0, hn1, hn2⟩, _⟩ := storeF_zero hz
 clear h hz
 go_enter Tryz.func45, Tryz.ntmps45
 go_wp2_with fail
 generalize (w.alloc (.cells #[.int .i64 a, .int .i64 s, .int .i64 kd, .int .i64 pr, .int .i64 un] 40)).alloc (.cells #[.int .i64 0, .slice none 0 0, .slice none 0 0, .slice none 0 0] 32) = w1 at HE ⊢
 refine (l2Write_is S b _ _ _ a s (-1) _ HE.out.2.2 hn2 hi).mono ?_
 rintro e w' ⟨rfl, rfl⟩
 obtain ⟨⟨⟨y0, y1, y2, y3, y4⟩, _⟩, ⟨⟨r0, r1, r2, r3⟩, f0, f1, f2, f3⟩, ⟨p0, p1, p2⟩, pst⟩ := HE.out
 unfold ResStoK
 clear pst hi
 have HM : Hid (newerP S.k S.nw a s) := hm
 clear hm
 go_wp2_with fail
 refine (l3Newer_is S b _ _ _ a s _ HE.out.2.2 hn2 true ⟨fun _ => HM.out, fun _ => rfl⟩).mono ?_
 rintro e w3 ⟨rfl, q3⟩
 have HE : Hid (PrS w b S (.slice a0 S.nc c0) (.slice a1 S.nl c1) (.slice a2 S.nw c2) a s kd pr un w3) := HE.out.later q3
 clear q3 y0 y1 y2 y3 y4 r0 r1 r2 r3 f0 f1 f2 f3 p0 p1 p2
 obtain ⟨⟨⟨y0, y1, y2, y3, y4⟩, _⟩, ⟨⟨r0, r1, r2, r3⟩, f0, f1, f2, f3⟩, ⟨p0, p1, p2⟩, pst⟩ := HE.out
 clear pst
 go_wp2_with fail
 refine (l3Bad_own 8 _).mono ?_
 rintro e w9 ⟨x0, z0, x1, z1, x2, z2, rfl, o4, q4⟩
 have hsz : w.heap.size + 2 ≤ _ := HE.out.2.1.lt
 have S4 : Hid (OwnS w9 (w.heap.size + 2) emptyS (.slice x0 emptyS.nc z0) (.slice x1 emptyS.nl z1) (.slice x2 emptyS.nw z2)) := o4.mono hsz
 have HBW : Hid (Below w.heap.size w w9) := (HE.out.later q4).1.2
 obtain ⟨⟨r0, r1, r2, r3⟩, f0, f1, f2, f3⟩ := (HE.out.later q4).2.1
 clear o4 q4 hsz
 have hlo : (w.heap.size + 1 : Nat) < w.heap.size + 2 := Nat.lt_succ_self _
 go_wp2
 exact bodyPost_ret (v := .agg #[.int .i64 8, .slice x0 emptyS.nc z0, .slice x1 emptyS.nl z1, .slice x2 emptyS.nw z2]) (by simp [results, Tryz.results45, go_sem, r0, r1, r2, r3]) rfl ⟨x0, z0, x1, z1, x2, z2, rfl, ((((S4.out.far hlo _).far hlo _).far hlo _).far hlo _).mono (by omega), (((HBW.out.setCell (Nat.le_succ _) _).setCell (Nat.le_succ _) _).setCell (Nat.le_succ _) _).setCell (Nat.le_succ _) _⟩
set_option maxRecDepth 100000 in
set_option maxHeartbeats 8000000 in
theorem l3Pre_same (S : Sto) (b : Nat) (v0 v1 v2 : Value) (a s kd pr un va : Int) (j : Nat) (w : World) (h : Lies w b S v0 v1 v2) (hz : storeF S = 0) (hi : FirstAt (writeIs S.k a s) S.nw (-1)) (hm : ¬ newerP S.k S.nw a s) (hl : FirstAt (lockIs S.l a) S.nl j) (hj : S.l (j * 5 + 1) = s) :
  Calls Tryz.prog 45 #[.pointer (some ⟨b, 0, none⟩), .agg #[.int .i64 a, .int .i64 s, .int .i64 kd, .int .i64 pr, .int .i64 un], .int .i64 va] w (ResStoK w 0 S) := by
 have HJ : Hid (FirstAt (lockIs S.l a) S.nl j ∧ S.l (j * 5 + 1) = s) := ⟨hl, hj⟩
 clear hl hj
 obtain ⟨a0, c0, a1, c1, a2, c2, rfl, rfl, rfl⟩ := h.2.form
 have HE : Hid (PrS w b S (.slice a0 S.nc c0) (.slice a1 S.nl c1) (.slice a2 S.nw c2) a s kd pr un ((w.alloc (.cells #[.int .i64 a, .int .i64 s, .int .i64 kd, .int .i64 pr, .int .i64 un] 40)).alloc (.cells #[.int .i64 0, .slice none 0 0, .slice none 0 0, .slice none 0 0] 32))) := by
  refine ⟨(LkE.new w a s kd pr un _).later (below_alloc _ _), ?_, (h.later (below_alloc _ _)).later (below_alloc _ _)⟩
  have := Blk4.new (w.alloc (.cells #[.int .i64 a, .int .i64 s, .int .i64 kd, .int .i64 pr, .int .i64 un] 40)) (.int .i64 0) (.slice none 0 0) (.slice none 0 0) (.slice none 0 0) 32
  rwa [World.size_alloc] at this
 obtain ⟨⟨hn0, hn1, hn2⟩, _⟩ := storeF_zero hz
 clear h hz
 go_enter Tryz.func45, Tryz.ntmps45
 go_wp2_with fail
 generalize (w.alloc (.cells #[.int .i64 a, .int .i64 s, .int .i64 kd, .int .i64 pr, .int .i64 un] 40)).alloc (.cells #[.int .i64 0, .slice none 0 0, .slice none 0 0, .slice none 0 0] 32) = w1 at HE ⊢
 refine (l2Write_is S b _ _ _ a s (-1) _ HE.out.2.2 hn2 hi).mono ?_
 rintro e w' ⟨rfl, rfl⟩
 obtain ⟨⟨⟨y0, y1, y2, y3, y4⟩, _⟩, ⟨⟨r0, r1, r2, r3⟩, f0, f1, f2, f3⟩, ⟨p0, p1, p2⟩, pst⟩ := HE.out
 unfold ResStoK
 clear pst hi
 have HM : Hid (¬ newerP S.k S.nw a s) := hm
 clear hm
 go_wp2_with fail
 refine (l3Newer_is S b _ _ _ a s _ HE.out.2.2 hn2 false ⟨fun q => (Bool.false_ne_true q).elim, fun q => (HM.out q).elim⟩).mono ?_
 rintro e w3 ⟨rfl, q3⟩
 have HE : Hid (PrS w b S (.slice a0 S.nc c0) (.slice a1 S.nl c1) (.slice a2 S.nw c2) a s kd pr un w3) := HE.out.later q3
 clear q3 y0 y1 y2 y3 y4 r0 r1 r2 r3 f0 f1 f2 f3 p0 p1 p2 HM
 obtain ⟨⟨⟨y0, y1, y2, y3, y4⟩, _⟩, ⟨⟨r0, r1, r2, r3⟩, f0, f1, f2, f3⟩, ⟨p0, p1, p2⟩, pst⟩ := HE.out
 clear pst
 go_wp2_with fail
 refine (l2Copy_own S _ _ _ 0 _ HE.out.2.2.2 ⟨by omega, by omega, by omega⟩).mono ?_
 rintro e w4 ⟨d0, e0, d1, e1, d2, e2, rfl, o2, q2⟩
 have g0 := own_cap o2.1.1
 have g1 := own_cap o2.1.2.1
 have g2 := own_cap o2.1.2.2
 obtain ⟨s2, fr2, ap2⟩ := o2.all
 have hz3 : Hid (w.heap.size + 2 ≤ w3.heap.size) := HE.out.2.1.lt
 have HS : Hid ((St w4 w3.heap.size S (.slice d0 S.nc e0) (.slice d1 S.nl e1) (.slice d2 S.nw e2) ∧ FreeS w4 S (.slice d0 S.nc e0) (.slice d1 S.nl e1) (.slice d2 S.nw e2)) ∧ ApartD S (.slice d0 S.nc e0) (.slice d1 S.nl e1) (.slice d2 S.nw e2)) := ⟨⟨s2, fr2⟩, ap2⟩
 have HOS : Hid (OwnS w4 w3.heap.size S (.slice d0 S.nc e0) (.slice d1 S.nl e1) (.slice d2 S.nw e2)) := o2
 have HE : Hid (PrS w b S (.slice a0 S.nc c0) (.slice a1 S.nl c1) (.slice a2 S.nw c2) a s kd pr un (w4.alloc (.cells #[.slice d0 S.nc e0, .slice d1 S.nl e1, .slice d2 S.nw e2] 28)) ∧ Blk3 (w4.alloc (.cells #[.slice d0 S.nc e0, .slice d1 S.nl e1, .slice d2 S.nw e2] 28)) w4.heap.size (.slice d0 S.nc e0) (.slice d1 S.nl e1) (.slice d2 S.nw e2)) := ⟨(HE.out.later q2).later (below_alloc _ _), Blk3.new _ _ _ _ _⟩
 have hz4 : Hid (w3.heap.size ≤ w4.heap.size) := q2.size
 have B45 : Hid (Below w4.heap.size w4 (w4.alloc (.cells #[.slice d0 S.nc e0, .slice d1 S.nl e1, .slice d2 S.nw e2] 28))) := below_alloc _ _
 clear o2 s2 fr2 ap2 q2 y0 y1 y2 y3 y4 r0 r1 r2 r3 f0 f1 f2 f3 p0 p1 p2
 have HO : Hid (Blk3 (w4.alloc (.cells #[.slice d0 S.nc e0, .slice d1 S.nl e1, .slice d2 S.nw e2] 28)) w4.heap.size (.slice d0 S.nc e0) (.slice d1 S.nl e1) (.slice d2 S.nw e2)) := HE.out.2
 have HE : Hid (PrS w b S (.slice a0 S.nc c0) (.slice a1 S.nl c1) (.slice a2 S.nw c2) a s kd pr un (w4.alloc (.cells #[.slice d0 S.nc e0, .slice d1 S.nl e1, .slice d2 S.nw e2] 28))) := HE.out.1
 obtain ⟨⟨⟨y0, y1, y2, y3, y4⟩, _⟩, ⟨⟨r0, r1, r2, r3⟩, f0, f1, f2, f3⟩, ⟨p0, p1, p2⟩, pst⟩ := HE.out
 go_wp2_with fail
 clear y0 y1 y2 y3 y4 r0 r1 r2 r3 f0 f1 f2 f3 p0 p1 p2 pst
 generalize w4.alloc (.cells #[.slice d0 S.nc e0, .slice d1 S.nl e1, .slice d2 S.nw e2] 28) = w5 at HE HO B45 ⊢
 obtain ⟨⟨⟨y0, y1, y2, y3, y4⟩, _⟩, ⟨⟨r0, r1, r2, r3⟩, f0, f1, f2, f3⟩, ⟨p0, p1, p2⟩, pst⟩ := HE.out
 obtain ⟨⟨t0, t1, t2⟩, _⟩ := HO.out
 refine (l2Lock_is S b _ _ _ a j _ HE.out.2.2 hn1 HJ.out.1).mono ?_
 rintro e w' ⟨rfl, rfl⟩
 obtain ⟨g, o, hg, _, hgl, x0, x1, x2, x3, x4⟩ := pst.2.1.at5 HJ.out.1.at.1
 subst hg
 rw [HJ.out.2] at x1
 have hjn : (j : Int) < (S.nl : Int) := by have := HJ.out.1.at.1; omega
 clear pst HJ
 clear r0 r1 r2 r3 f0 f1 f2 f3 t0 t1 t2
 go_upto_region 6 with fail
 refine wp_region_held_drew (S := fun X => X.cell? ⟨b, 1, none⟩ = some (.slice (some ⟨g, o, none⟩) S.nl c1) ∧ X.cell? ⟨w.heap.size, 1, none⟩ = some (.int .i64 s) ∧ X.cell? ⟨g, o + j * 5 + 1, none⟩ = some (.int .i64 s)) (by kernel_rfl) ⟨p1, y1, x1⟩ (fun hS => ?_)
 refine tkH 0 ?_ hS (fun wx hx => ?_) ?_; rotate_left
 ·obtain ⟨hx0, hx1, hx2⟩ := hx; go_simp; try with_reducible rfl
 refine tkH 1 ?_ hS (fun wx hx => ?_) ?_; rotate_left
 ·obtain ⟨hx0, hx1, hx2⟩ := hx; go_simp; try with_reducible rfl
 refine tkH 2 ?_ hS (fun wx hx => ?_) ?_; rotate_left
 ·obtain ⟨hx0, hx1, hx2⟩ := hx; go_simp; try with_reducible rfl
 refine tkH 3 ?_ hS (fun wx hx => ?_) ?_; rotate_left
 ·obtain ⟨hx0, hx1, hx2⟩ := hx; go_simp; try with_reducible rfl
 refine tkH 4 ?_ hS (fun wx hx => ?_) ?_; rotate_left
 ·obtain ⟨hx0, hx1, hx2⟩ := hx; go_simp; try with_reducible rfl
 refine tkH 5 ?_ hS (fun wx hx => ?_) ?_; rotate_left
 ·obtain ⟨hx0, hx1, hx2⟩ := hx; go_simp; try with_reducible rfl
 refine tkH 6 ?_ hS (fun wx hx => ?_) ?_; rotate_left
 ·obtain ⟨hx0, hx1, hx2⟩ := hx; go_simp; try with_reducible rfl
 refine tkH 7 ?_ hS (fun wx hx => ?_) ?_; rotate_left
 ·obtain ⟨hx0, hx1, hx2⟩ := hx; go_simp; try with_reducible rfl
 refine tkH 8 ?_ hS (fun wx hx => ?_) ?_; rotate_left
 ·obtain ⟨hx0, hx1, hx2⟩ := hx; go_simp; try with_reducible rfl
 refine tkH 9 ?_ hS (fun wx hx => ?_) ?_; rotate_left
 ·obtain ⟨hx0, hx1, hx2⟩ := hx; go_simp; try with_reducible rfl
 refine tkH 10 ?_ hS (fun wx hx => ?_) ?_; rotate_left
 ·obtain ⟨hx0, hx1, hx2⟩ := hx; go_simp; try with_reducible rfl
 refine wpAnyH_done (by kernel_rfl) ?_ _
 go_simp
 clear hS x0 x1 x2 x3 x4 p0 p1 p2 y0 y1 y2 y3 y4 hgl
 have HE : Hid (PrS w b S (.slice a0 S.nc c0) (.slice (some ⟨g, o, none⟩) S.nl c1) (.slice a2 S.nw c2) a s kd pr un w'.drew) := HE.out.later (below_drew _)
 have HO : Hid (Blk3 w'.drew w4.heap.size (.slice d0 S.nc e0) (.slice d1 S.nl e1) (.slice d2 S.nw e2)) := HO.out.later (below_drew _)
 have B45 : Hid (Below w4.heap.size w4 w'.drew) := B45.out.trans ((below_drew w').mono B45.out.size)
 generalize w'.drew = w6 at HE HO B45 ⊢
 obtain ⟨⟨⟨y0, y1, y2, y3, y4⟩, _⟩, ⟨⟨r0, r1, r2, r3⟩, f0, f1, f2, f3⟩, ⟨p0, p1, p2⟩, pst⟩ := HE.out
 obtain ⟨⟨t0, t1, t2⟩, _⟩ := HO.out
 clear pst
 go_wp2
 have S3 : St w6 w3.heap.size S (.slice d0 S.nc e0) (.slice d1 S.nl e1) (.slice d2 S.nw e2) := HS.out.1.1.later B45.out
 have O3 := HOS.out.later B45.out
 have HBW : Below w.heap.size w w6 := HE.out.1.2
 have hlo : (w.heap.size + 1 : Nat) < w3.heap.size := by have := hz3.out; omega
 exact bodyPost_ret (v := .agg #[.int .i64 0, .slice d0 S.nc e0, .slice d1 S.nl e1, .slice d2 S.nw e2]) (by simp [results, Tryz.results45, go_sem, r0, r1, r2, r3]) rfl ⟨d0, e0, d1, e1, d2, e2, rfl, ((((O3.far hlo _).far hlo _).far hlo _).far hlo _).mono (by omega), (((HBW.setCell (Nat.le_succ _) _).setCell (Nat.le_succ _) _).setCell (Nat.le_succ _) _).setCell (Nat.le_succ _) _⟩
set_option maxRecDepth 100000 in
set_option maxHeartbeats 8000000 in
theorem l3Pre_locked (S : Sto) (b : Nat) (v0 v1 v2 : Value) (a s kd pr un va : Int) (j : Nat) (w : World) (h : Lies w b S v0 v1 v2) (hz : storeF S = 0) (hi : FirstAt (writeIs S.k a s) S.nw (-1)) (hm : ¬ newerP S.k S.nw a s) (hl : FirstAt (lockIs S.l a) S.nl j) (hj : S.l (j * 5 + 1) ≠ s) :
  Calls Tryz.prog 45 #[.pointer (some ⟨b, 0, none⟩), .agg #[.int .i64 a, .int .i64 s, .int .i64 kd, .int .i64 pr, .int .i64 un], .int .i64 va] w (ResStoK w 7 emptyS) := by
 have HJ : Hid (FirstAt (lockIs S.l a) S.nl j ∧ S.l (j * 5 + 1) ≠ s) := ⟨hl, hj⟩
 clear hl hj
 obtain ⟨a0, c0, a1, c1, a2, c2, rfl, rfl, rfl⟩ := h.2.form
 have HE : Hid (PrS w b S (.slice a0 S.nc c0) (.slice a1 S.nl c1) (.slice a2 S.nw c2) a s kd pr un ((w.alloc (.cells #[.int .i64 a, .int .i64 s, .int .i64 kd, .int .i64 pr, .int .i64 un] 40)).alloc (.cells #[.int .i64 0, .slice none 0 0, .slice none 0 0, .slice none 0 0] 32))) := by
  refine ⟨(LkE.new w a s kd pr un _).later (below_alloc _ _), ?_, (h.later (below_alloc _ _)).later (below_alloc _ _)⟩
  have := Blk4.new (w.alloc (.cells #[.int .i64 a, .int .i64 s, .int .i64 kd, .int .i64 pr, .int .i64 un] 40)) (.int .i64 0) (.slice none 0 0) (.slice none 0 0) (.slice none 0 0) 32
  rwa [World.size_alloc] at this
 obtain ⟨⟨hn0, hn1, hn2⟩, _⟩ := storeF_zero hz
 clear h hz
 go_enter Tryz.func45, Tryz.ntmps45
 go_wp2_with fail
 generalize (w.alloc (.cells #[.int .i64 a, .int .i64 s, .int .i64 kd, .int .i64 pr, .int .i64 un] 40)).alloc (.cells #[.int .i64 0, .slice none 0 0, .slice none 0 0, .slice none 0 0] 32) = w1 at HE ⊢
 refine (l2Write_is S b _ _ _ a s (-1) _ HE.out.2.2 hn2 hi).mono ?_
 rintro e w' ⟨rfl, rfl⟩
 obtain ⟨⟨⟨y0, y1, y2, y3, y4⟩, _⟩, ⟨⟨r0, r1, r2, r3⟩, f0, f1, f2, f3⟩, ⟨p0, p1, p2⟩, pst⟩ := HE.out
 unfold ResStoK
 clear pst hi
 have HM : Hid (¬ newerP S.k S.nw a s) := hm
 clear hm
 go_wp2_with fail
 refine (l3Newer_is S b _ _ _ a s _ HE.out.2.2 hn2 false ⟨fun q => (Bool.false_ne_true q).elim, fun q => (HM.out q).elim⟩).mono ?_
 rintro e w3 ⟨rfl, q3⟩
 have HE : Hid (PrS w b S (.slice a0 S.nc c0) (.slice a1 S.nl c1) (.slice a2 S.nw c2) a s kd pr un w3) := HE.out.later q3
 clear q3 y0 y1 y2 y3 y4 r0 r1 r2 r3 f0 f1 f2 f3 p0 p1 p2 HM
 obtain ⟨⟨⟨y0, y1, y2, y3, y4⟩, _⟩, ⟨⟨r0, r1, r2, r3⟩, f0, f1, f2, f3⟩, ⟨p0, p1, p2⟩, pst⟩ := HE.out
 clear pst
 go_wp2_with fail
 refine (l2Copy_own S _ _ _ 0 _ HE.out.2.2.2 ⟨by omega, by omega, by omega⟩).mono ?_
 rintro e w4 ⟨d0, e0, d1, e1, d2, e2, rfl, o2, q2⟩
 have g0 := own_cap o2.1.1
 have g1 := own_cap o2.1.2.1
 have g2 := own_cap o2.1.2.2
 obtain ⟨s2, fr2, ap2⟩ := o2.all
 have hz3 : Hid (w.heap.size + 2 ≤ w3.heap.size) := HE.out.2.1.lt
 have HS : Hid ((St w4 w3.heap.size S (.slice d0 S.nc e0) (.slice d1 S.nl e1) (.slice d2 S.nw e2) ∧ FreeS w4 S (.slice d0 S.nc e0) (.slice d1 S.nl e1) (.slice d2 S.nw e2)) ∧ ApartD S (.slice d0 S.nc e0) (.slice d1 S.nl e1) (.slice d2 S.nw e2)) := ⟨⟨s2, fr2⟩, ap2⟩
 have HOS : Hid (OwnS w4 w3.heap.size S (.slice d0 S.nc e0) (.slice d1 S.nl e1) (.slice d2 S.nw e2)) := o2
 have HE : Hid (PrS w b S (.slice a0 S.nc c0) (.slice a1 S.nl c1) (.slice a2 S.nw c2) a s kd pr un (w4.alloc (.cells #[.slice d0 S.nc e0, .slice d1 S.nl e1, .slice d2 S.nw e2] 28)) ∧ Blk3 (w4.alloc (.cells #[.slice d0 S.nc e0, .slice d1 S.nl e1, .slice d2 S.nw e2] 28)) w4.heap.size (.slice d0 S.nc e0) (.slice d1 S.nl e1) (.slice d2 S.nw e2)) := ⟨(HE.out.later q2).later (below_alloc _ _), Blk3.new _ _ _ _ _⟩
 have hz4 : Hid (w3.heap.size ≤ w4.heap.size) := q2.size
 have B45 : Hid (Below w4.heap.size w4 (w4.alloc (.cells #[.slice d0 S.nc e0, .slice d1 S.nl e1, .slice d2 S.nw e2] 28))) := below_alloc _ _
 clear o2 s2 fr2 ap2 q2 y0 y1 y2 y3 y4 r0 r1 r2 r3 f0 f1 f2 f3 p0 p1 p2
 have HO : Hid (Blk3 (w4.alloc (.cells #[.slice d0 S.nc e0, .slice d1 S.nl e1, .slice d2 S.nw e2] 28)) w4.heap.size (.slice d0 S.nc e0) (.slice d1 S.nl e1) (.slice d2 S.nw e2)) := HE.out.2
 have HE : Hid (PrS w b S (.slice a0 S.nc c0) (.slice a1 S.nl c1) (.slice a2 S.nw c2) a s kd pr un (w4.alloc (.cells #[.slice d0 S.nc e0, .slice d1 S.nl e1, .slice d2 S.nw e2] 28))) := HE.out.1
 obtain ⟨⟨⟨y0, y1, y2, y3, y4⟩, _⟩, ⟨⟨r0, r1, r2, r3⟩, f0, f1, f2, f3⟩, ⟨p0, p1, p2⟩, pst⟩ := HE.out
 go_wp2_with fail
 clear y0 y1 y2 y3 y4 r0 r1 r2 r3 f0 f1 f2 f3 p0 p1 p2 pst
 generalize w4.alloc (.cells #[.slice d0 S.nc e0, .slice d1 S.nl e1, .slice d2 S.nw e2] 28) = w5 at HE HO B45 ⊢
 obtain ⟨⟨⟨y0, y1, y2, y3, y4⟩, _⟩, ⟨⟨r0, r1, r2, r3⟩, f0, f1, f2, f3⟩, ⟨p0, p1, p2⟩, pst⟩ := HE.out
 obtain ⟨⟨t0, t1, t2⟩, _⟩ := HO.out
 refine (l2Lock_is S b _ _ _ a j _ HE.out.2.2 hn1 HJ.out.1).mono ?_
 rintro e w' ⟨rfl, rfl⟩
 obtain ⟨g, o, hg, _, hgl, x0, x1, x2, x3, x4⟩ := pst.2.1.at5 HJ.out.1.at.1
 subst hg
 obtain ⟨n1, N1⟩ : ∃ x, S.l (j * 5 + 1) = x := ⟨_, rfl⟩
 rw [N1] at x1
 have dn : (n1 == s) = false := beq_eq_false_iff_ne.2 (by rw [← N1]; exact HJ.out.2)
 have hjn : (j : Int) < (S.nl : Int) := by have := HJ.out.1.at.1; omega
 clear pst HJ N1
 clear r0 r1 r2 r3 f0 f1 f2 f3 t0 t1 t2
 go_upto_region 6 with fail
 refine wp_region_held_drew (S := fun X => X.cell? ⟨b, 1, none⟩ = some (.slice (some ⟨g, o, none⟩) S.nl c1) ∧ X.cell? ⟨w.heap.size, 1, none⟩ = some (.int .i64 s) ∧ X.cell? ⟨g, o + j * 5 + 1, none⟩ = some (.int .i64 n1)) (by kernel_rfl) ⟨p1, y1, x1⟩ (fun hS => ?_)
 refine tkH 0 ?_ hS (fun wx hx => ?_) ?_; rotate_left
 ·obtain ⟨hx0, hx1, hx2⟩ := hx; go_simp; try with_reducible rfl
 refine tkH 1 ?_ hS (fun wx hx => ?_) ?_; rotate_left
 ·obtain ⟨hx0, hx1, hx2⟩ := hx; go_simp; try with_reducible rfl
 refine tkH 2 ?_ hS (fun wx hx => ?_) ?_; rotate_left
 ·obtain ⟨hx0, hx1, hx2⟩ := hx; go_simp; try with_reducible rfl
 refine tkH 3 ?_ hS (fun wx hx => ?_) ?_; rotate_left
 ·obtain ⟨hx0, hx1, hx2⟩ := hx; go_simp; try with_reducible rfl
 refine tkH 4 ?_ hS (fun wx hx => ?_) ?_; rotate_left
 ·obtain ⟨hx0, hx1, hx2⟩ := hx; go_simp; try with_reducible rfl
 refine tkH 5 ?_ hS (fun wx hx => ?_) ?_; rotate_left
 ·obtain ⟨hx0, hx1, hx2⟩ := hx; go_simp; try with_reducible rfl
 refine tkH 6 ?_ hS (fun wx hx => ?_) ?_; rotate_left
 ·obtain ⟨hx0, hx1, hx2⟩ := hx; go_simp; try with_reducible rfl
 refine tkH 7 ?_ hS (fun wx hx => ?_) ?_; rotate_left
 ·obtain ⟨hx0, hx1, hx2⟩ := hx; go_simp; try with_reducible rfl
 refine tkH 8 ?_ hS (fun wx hx => ?_) ?_; rotate_left
 ·obtain ⟨hx0, hx1, hx2⟩ := hx; go_simp; try with_reducible rfl
 refine tkH 9 ?_ hS (fun wx hx => ?_) ?_; rotate_left
 ·obtain ⟨hx0, hx1, hx2⟩ := hx; go_simp; try with_reducible rfl
 refine tkH 10 ?_ hS (fun wx hx => ?_) ?_; rotate_left
 ·obtain ⟨hx0, hx1, hx2⟩ := hx; go_simp; try with_reducible rfl
 refine wpAnyH_done (by kernel_rfl) ?_ _
 go_simp
 clear hS x0 x1 x2 x3 x4 p0 p1 p2 y0 y1 y2 y3 y4 hgl
 have HE : Hid (PrS w b S (.slice a0 S.nc c0) (.slice (some ⟨g, o, none⟩) S.nl c1) (.slice a2 S.nw c2) a s kd pr un w'.drew) := HE.out.later (below_drew _)
 have HO : Hid (Blk3 w'.drew w4.heap.size (.slice d0 S.nc e0) (.slice d1 S.nl e1) (.slice d2 S.nw e2)) := HO.out.later (below_drew _)
 have B45 : Hid (Below w4.heap.size w4 w'.drew) := B45.out.trans ((below_drew w').mono B45.out.size)
 generalize w'.drew = w6 at HE HO B45 ⊢
 obtain ⟨⟨⟨y0, y1, y2, y3, y4⟩, _⟩, ⟨⟨r0, r1, r2, r3⟩, f0, f1, f2, f3⟩, ⟨p0, p1, p2⟩, pst⟩ := HE.out
 obtain ⟨⟨t0, t1, t2⟩, _⟩ := HO.out
 clear pst
 go_wp2_with fail
 refine (l3Bad_own 7 _).mono ?_
 rintro e w9 ⟨x0, z0, x1, z1, x2, z2, rfl, o4, q4⟩
 have hsz : w.heap.size + 2 ≤ _ := HE.out.2.1.lt
 have S4 : Hid (OwnS w9 (w.heap.size + 2) emptyS (.slice x0 emptyS.nc z0) (.slice x1 emptyS.nl z1) (.slice x2 emptyS.nw z2)) := o4.mono hsz
 have HBW : Hid (Below w.heap.size w w9) := (HE.out.later q4).1.2
 obtain ⟨⟨r0, r1, r2, r3⟩, f0, f1, f2, f3⟩ := (HE.out.later q4).2.1
 clear o4 q4 hsz
 have hlo : (w.heap.size + 1 : Nat) < w.heap.size + 2 := Nat.lt_succ_self _
 go_wp2
 exact bodyPost_ret (v := .agg #[.int .i64 7, .slice x0 emptyS.nc z0, .slice x1 emptyS.nl z1, .slice x2 emptyS.nw z2]) (by simp [results, Tryz.results45, go_sem, r0, r1, r2, r3]) rfl ⟨x0, z0, x1, z1, x2, z2, rfl, ((((S4.out.far hlo _).far hlo _).far hlo _).far hlo _).mono (by omega), (((HBW.out.setCell (Nat.le_succ _) _).setCell (Nat.le_succ _) _).setCell (Nat.le_succ _) _).setCell (Nat.le_succ _) _⟩
set_option maxRecDepth 100000 in
set_option maxHeartbeats 8000000 in
theorem l3Pre_many (S : Sto) (b : Nat) (v0 v1 v2 : Value) (a s kd pr un va : Int) (hv : Int) (w : World) (h : Lies w b S v0 v1 v2) (hz : storeF S = 0) (hi : FirstAt (writeIs S.k a s) S.nw (-1)) (hm : ¬ newerP S.k S.nw a s) (hl : FirstAt (lockIs S.l a) S.nl (-1)) (hc : FirstAt (cellIs S.c a s) S.nc hv) (hf : 200 ≤ S.nl ∨ kd = 1 ∧ hv = -1 ∧ 200 ≤ S.nc) :
  Calls Tryz.prog 45 #[.pointer (some ⟨b, 0, none⟩), .agg #[.int .i64 a, .int .i64 s, .int .i64 kd, .int .i64 pr, .int .i64 un], .int .i64 va] w (ResStoK w 2 emptyS) := by
 have HJ : Hid (FirstAt (lockIs S.l a) S.nl (-1) ∧ FirstAt (cellIs S.c a s) S.nc hv) := ⟨hl, hc⟩
 clear hl hc
 have HF : Hid (200 ≤ S.nl ∨ kd = 1 ∧ hv = -1 ∧ 200 ≤ S.nc) := hf
 clear hf
 obtain ⟨a0, c0, a1, c1, a2, c2, rfl, rfl, rfl⟩ := h.2.form
 have HE : Hid (PrS w b S (.slice a0 S.nc c0) (.slice a1 S.nl c1) (.slice a2 S.nw c2) a s kd pr un ((w.alloc (.cells #[.int .i64 a, .int .i64 s, .int .i64 kd, .int .i64 pr, .int .i64 un] 40)).alloc (.cells #[.int .i64 0, .slice none 0 0, .slice none 0 0, .slice none 0 0] 32))) := by
  refine ⟨(LkE.new w a s kd pr un _).later (below_alloc _ _), ?_, (h.later (below_alloc _ _)).later (below_alloc _ _)⟩
  have := Blk4.new (w.alloc (.cells #[.int .i64 a, .int .i64 s, .int .i64 kd, .int .i64 pr, .int .i64 un] 40)) (.int .i64 0) (.slice none 0 0) (.slice none 0 0) (.slice none 0 0) 32
  rwa [World.size_alloc] at this
 obtain ⟨⟨hn0, hn1, hn2⟩, _⟩ := storeF_zero hz
 clear h hz
 go_enter Tryz.func45, Tryz.ntmps45
 go_wp2_with fail
 generalize (w.alloc (.cells #[.int .i64 a, .int .i64 s, .int .i64 kd, .int .i64 pr, .int .i64 un] 40)).alloc (.cells #[.int .i64 0, .slice none 0 0, .slice none 0 0, .slice none 0 0] 32) = w1 at HE ⊢
 refine (l2Write_is S b _ _ _ a s (-1) _ HE.out.2.2 hn2 hi).mono ?_
 rintro e w' ⟨rfl, rfl⟩
 obtain ⟨⟨⟨y0, y1, y2, y3, y4⟩, _⟩, ⟨⟨r0, r1, r2, r3⟩, f0, f1, f2, f3⟩, ⟨p0, p1, p2⟩, pst⟩ := HE.out
 unfold ResStoK
 clear pst hi
 have HM : Hid (¬ newerP S.k S.nw a s) := hm
 clear hm
 go_wp2_with fail
 refine (l3Newer_is S b _ _ _ a s _ HE.out.2.2 hn2 false ⟨fun q => (Bool.false_ne_true q).elim, fun q => (HM.out q).elim⟩).mono ?_
 rintro e w3 ⟨rfl, q3⟩
 have HE : Hid (PrS w b S (.slice a0 S.nc c0) (.slice a1 S.nl c1) (.slice a2 S.nw c2) a s kd pr un w3) := HE.out.later q3
 clear q3 y0 y1 y2 y3 y4 r0 r1 r2 r3 f0 f1 f2 f3 p0 p1 p2 HM
 obtain ⟨⟨⟨y0, y1, y2, y3, y4⟩, _⟩, ⟨⟨r0, r1, r2, r3⟩, f0, f1, f2, f3⟩, ⟨p0, p1, p2⟩, pst⟩ := HE.out
 clear pst
 go_wp2_with fail
 refine (l2Copy_own S _ _ _ 0 _ HE.out.2.2.2 ⟨by omega, by omega, by omega⟩).mono ?_
 rintro e w4 ⟨d0, e0, d1, e1, d2, e2, rfl, o2, q2⟩
 have g0 := own_cap o2.1.1
 have g1 := own_cap o2.1.2.1
 have g2 := own_cap o2.1.2.2
 obtain ⟨s2, fr2, ap2⟩ := o2.all
 have hz3 : Hid (w.heap.size + 2 ≤ w3.heap.size) := HE.out.2.1.lt
 have HS : Hid ((St w4 w3.heap.size S (.slice d0 S.nc e0) (.slice d1 S.nl e1) (.slice d2 S.nw e2) ∧ FreeS w4 S (.slice d0 S.nc e0) (.slice d1 S.nl e1) (.slice d2 S.nw e2)) ∧ ApartD S (.slice d0 S.nc e0) (.slice d1 S.nl e1) (.slice d2 S.nw e2)) := ⟨⟨s2, fr2⟩, ap2⟩
 have HOS : Hid (OwnS w4 w3.heap.size S (.slice d0 S.nc e0) (.slice d1 S.nl e1) (.slice d2 S.nw e2)) := o2
 have HE : Hid (PrS w b S (.slice a0 S.nc c0) (.slice a1 S.nl c1) (.slice a2 S.nw c2) a s kd pr un (w4.alloc (.cells #[.slice d0 S.nc e0, .slice d1 S.nl e1, .slice d2 S.nw e2] 28)) ∧ Blk3 (w4.alloc (.cells #[.slice d0 S.nc e0, .slice d1 S.nl e1, .slice d2 S.nw e2] 28)) w4.heap.size (.slice d0 S.nc e0) (.slice d1 S.nl e1) (.slice d2 S.nw e2)) := ⟨(HE.out.later q2).later (below_alloc _ _), Blk3.new _ _ _ _ _⟩
 have hz4 : Hid (w3.heap.size ≤ w4.heap.size) := q2.size
 have B45 : Hid (Below w4.heap.size w4 (w4.alloc (.cells #[.slice d0 S.nc e0, .slice d1 S.nl e1, .slice d2 S.nw e2] 28))) := below_alloc _ _
 clear o2 s2 fr2 ap2 q2 y0 y1 y2 y3 y4 r0 r1 r2 r3 f0 f1 f2 f3 p0 p1 p2
 have HO : Hid (Blk3 (w4.alloc (.cells #[.slice d0 S.nc e0, .slice d1 S.nl e1, .slice d2 S.nw e2] 28)) w4.heap.size (.slice d0 S.nc e0) (.slice d1 S.nl e1) (.slice d2 S.nw e2)) := HE.out.2
 have HE : Hid (PrS w b S (.slice a0 S.nc c0) (.slice a1 S.nl c1) (.slice a2 S.nw c2) a s kd pr un (w4.alloc (.cells #[.slice d0 S.nc e0, .slice d1 S.nl e1, .slice d2 S.nw e2] 28))) := HE.out.1
 obtain ⟨⟨⟨y0, y1, y2, y3, y4⟩, _⟩, ⟨⟨r0, r1, r2, r3⟩, f0, f1, f2, f3⟩, ⟨p0, p1, p2⟩, pst⟩ := HE.out
 go_wp2_with fail
 clear y0 y1 y2 y3 y4 r0 r1 r2 r3 f0 f1 f2 f3 p0 p1 p2 pst
 generalize w4.alloc (.cells #[.slice d0 S.nc e0, .slice d1 S.nl e1, .slice d2 S.nw e2] 28) = w5 at HE HO B45 ⊢
 obtain ⟨⟨⟨y0, y1, y2, y3, y4⟩, _⟩, ⟨⟨r0, r1, r2, r3⟩, f0, f1, f2, f3⟩, ⟨p0, p1, p2⟩, pst⟩ := HE.out
 obtain ⟨⟨t0, t1, t2⟩, _⟩ := HO.out
 refine (l2Lock_is S b _ _ _ a (-1) _ HE.out.2.2 hn1 HJ.out.1).mono ?_
 rintro e w' ⟨rfl, rfl⟩
 clear pst
 go_wp2_with fail
 refine (cellAt_is S b _ _ _ a s _ _ HE.out.2.2 hn0 HJ.out.2).mono ?_
 rintro e w'' ⟨rfl, rfl⟩
 clear HJ
 rcases HF.out with q | ⟨q1, q2, q3⟩
 focus
  have dn : decide ((200 : Int) ≤ (S.nl : Int)) = true := decide_eq_true (by omega)
  clear q HF
 rotate_left
 focus
  subst q1 q2
  have dc : decide ((200 : Int) ≤ (S.nc : Int)) = true := decide_eq_true (by omega)
  clear q3 HF
  by_cases q : 200 ≤ S.nl
  focus
   have dn : decide ((200 : Int) ≤ (S.nl : Int)) = true := decide_eq_true (by omega)
  rotate_left
  focus
   have dn : decide ((200 : Int) ≤ (S.nl : Int)) = false := decide_eq_false (by omega)
  rotate_left
  all_goals
   clear q
 rotate_left 2
 all_goals
  go_wp2_with fail
  refine (l3Bad_own 2 _).mono ?_
  rintro e w9 ⟨x0, z0, x1, z1, x2, z2, rfl, o4, q4⟩
  have hsz : w.heap.size + 2 ≤ _ := HE.out.2.1.lt
  have S4 : Hid (OwnS w9 (w.heap.size + 2) emptyS (.slice x0 emptyS.nc z0) (.slice x1 emptyS.nl z1) (.slice x2 emptyS.nw z2)) := o4.mono hsz
  have HBW : Hid (Below w.heap.size w w9) := (HE.out.later q4).1.2
  obtain ⟨⟨r0, r1, r2, r3⟩, f0, f1, f2, f3⟩ := (HE.out.later q4).2.1
  clear o4 q4 hsz
  have hlo : (w.heap.size + 1 : Nat) < w.heap.size + 2 := Nat.lt_succ_self _
  go_wp2
  exact bodyPost_ret (v := .agg #[.int .i64 2, .slice x0 emptyS.nc z0, .slice x1 emptyS.nl z1, .slice x2 emptyS.nw z2]) (by simp [results, Tryz.results45, go_sem, r0, r1, r2, r3]) rfl ⟨x0, z0, x1, z1, x2, z2, rfl, ((((S4.out.far hlo _).far hlo _).far hlo _).far hlo _).mono (by omega), (((HBW.out.setCell (Nat.le_succ _) _).setCell (Nat.le_succ _) _).setCell (Nat.le_succ _) _).setCell (Nat.le_succ _) _⟩
end
end Go.Proofs.YtiadbiiiikhfaaaGreatDoor

