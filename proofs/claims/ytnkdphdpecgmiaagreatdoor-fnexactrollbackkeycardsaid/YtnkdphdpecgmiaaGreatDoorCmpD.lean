/-
  Own text, merged of CmpA, UnlA, CmpB, CmpC, CmpD.
-/
import Derived.Test.YtnkdphdpecgmiaaGreatDoorSetB
import Derived.Test.YtnkdphdpecgmiaaGreatDoorStorE
import Derived.Test.YtnkdphdpecgmiaaGreatDoorStorD
import Derived.Test.YtnkdphdpecgmiaaGreatDoorAsB
import Derived.Test.YtnkdphdpecgmiaaGreatDoorStoA
import Derived.Test.YtnkdphdpecgmiaaGreatDoorLawT
import Derived.Test.YtnkdphdpecgmiaaGreatDoorCmtD
import Derived.Test.YtnkdphdpecgmiaaGreatDoorStorB
import Derived.Test.YtnkdphdpecgmiaaGreatDoorColsM
namespace Go.Proofs.YtnkdphdpecgmiaaGreatDoor
section
open Go.RowKit Go.Lib
-- Own text. The program's columns.commit, a theorem a way.
/-- The first lock of a key. -/
def firstK (l : Nat → Int) (nl : Nat) (key : Int) (i : Nat) : Prop := i < nl ∧ lockIs l key i ∧ ∀ j, j < i → ¬ lockIs l key j
theorem firstK.one {l : Nat → Int} {n : Nat} {a : Int} {i j : Nat} (h : firstK l n a i) (h' : firstK l n a j) : i = j := by
  rcases Nat.lt_trichotomy i j with e | e | e
  · exact absurd h.2.1 (h'.2.2 i e)
  · exact e
  · exact absurd h'.2.1 (h.2.2 j e)

set_option maxRecDepth 100000 in
set_option maxHeartbeats 4000000 in
theorem colCommit_said (B b N : Nat) (m : Int → Int → Option Int) (nl : Nat) (l : Nat → Int) (nw : Nat) (k : Nat → Int) (g : Nat) (u1 u2 : Value) (a s c : Int) (i : Nat) (w : World) (h : Cols w B b N m nl l nw k g u1 u2) (hw : nw ≤ 200) (hi : firstW k nw a s i) (v : Value) (hv : v = if k (i * 4 + 1) = c then .nilIface else .iface 111 (.agg #[.int .i64 3])) :
    Calls Tryz.prog 48 #[.pointer (some ⟨b, 0, none⟩), .int .i64 a, .int .i64 s, .int .i64 c] w fun e w' => e = .returned v ∧ Below w.heap.size w w' := by
  have H : Hid (Cols w B b N m nl l nw k g u1 u2) := h
  have HI : Hid (firstW k nw a s i) := hi
  clear h hi
  go_enter Tryz.func48, Tryz.ntmps48
  go_wp2_with fail
  refine (writeOf_any B b N m nl l nw k g u1 u2 a s _ H.out hw).mono ?_
  rintro e w1 ⟨v1, rfl, ht, q1⟩
  rcases ht with ⟨j, hj, rfl⟩ | ⟨hj, rfl⟩
  · obtain rfl : j = i := hj.one HI.out
    have HB : Hid (Below w.heap.size w (w1.alloc (.cells #[.int .i64 (k (j * 4)), .int .i64 (k (j * 4 + 1)), .int .i64 (k (j * 4 + 2)), .int .i64 (k (j * 4 + 3))] 92))) := q1.trans ((below_alloc w1 _).mono q1.size)
    clear hj HI H q1
    generalize k (j * 4) = n0 at *
    generalize k (j * 4 + 1) = n1 at *
    generalize k (j * 4 + 2) = n2 at *
    generalize k (j * 4 + 3) = n3 at *
    by_cases hc : n1 = c
    · subst hc
      rw [if_pos rfl] at hv
      subst hv
      go_wp2
      go_ret
      exact ⟨rfl, HB.out⟩
    · rw [if_neg hc] at hv
      subst hv
      go_wp2
      go_ret
      exact ⟨rfl, HB.out⟩
  · exact absurd HI.out (hj i)
set_option maxRecDepth 100000 in
set_option maxHeartbeats 4000000 in
theorem colCommit_never (B b N : Nat) (m : Int → Int → Option Int) (nl : Nat) (l : Nat → Int) (nw : Nat) (k : Nat → Int) (g : Nat) (u1 u2 : Value) (a s c : Int) (w : World) (h : Cols w B b N m nl l nw k g u1 u2) (hw : nw ≤ 200) (hl : nl ≤ 200) (hi : ∀ i, ¬ firstW k nw a s i) (hn : ∀ i, firstK l nl a i → l (i * 5 + 1) ≠ s) :
    Calls Tryz.prog 48 #[.pointer (some ⟨b, 0, none⟩), .int .i64 a, .int .i64 s, .int .i64 c] w fun e w' => e = .returned (.iface 111 (.agg #[.int .i64 2])) ∧ Below w.heap.size w w' := by
  have H : Hid (Cols w B b N m nl l nw k g u1 u2) := h
  have HI : Hid (∀ i, ¬ firstW k nw a s i) := hi
  have HN : Hid (∀ i, firstK l nl a i → l (i * 5 + 1) ≠ s) := hn
  clear h hi hn
  go_enter Tryz.func48, Tryz.ntmps48
  go_wp2_with fail
  refine (writeOf_any B b N m nl l nw k g u1 u2 a s _ H.out hw).mono ?_
  rintro e w1 ⟨v1, rfl, ht, q1⟩
  rcases ht with ⟨j, hj, rfl⟩ | ⟨hj, rfl⟩
  · exact absurd hj (HI.out j)
  have HB : Hid (Below w.heap.size w (w1.alloc (.cells #[.int .i64 0, .int .i64 0, .int .i64 0, .int .i64 0] 92))) := q1.trans ((below_alloc w1 _).mono q1.size)
  clear hj q1
  go_wp2_with fail
  refine (lockOf_any B b N m nl l nw k g u1 u2 a _ (H.out.later HB.out) hl).mono ?_
  rintro e w2 ⟨v2, rfl, ht, q2⟩
  rcases ht with ⟨i, h1, h2, h3, rfl⟩ | ⟨h1, rfl⟩
  · have hne := HN.out i ⟨h1, h2, h3⟩
    generalize l (i * 5) = n0 at *
    generalize l (i * 5 + 1) = n1 at *
    generalize l (i * 5 + 2) = n2 at *
    generalize l (i * 5 + 3) = n3 at *
    generalize l (i * 5 + 4) = n4 at *
    have HB2 : Hid (Below w.heap.size w (w2.alloc (.cells #[.int .i64 n0, .int .i64 n1, .int .i64 n2, .int .i64 n3, .int .i64 n4] 57))) := (HB.out.trans (q2.mono HB.out.size)).trans ((below_alloc w2 _).mono (Nat.le_trans HB.out.size q2.size))
    clear h1 h2 h3 HN H HI HB q2
    go_wp2
    go_ret
    exact ⟨rfl, HB2.out⟩
  · have HB2 : Hid (Below w.heap.size w (w2.alloc (.cells #[.int .i64 0, .int .i64 0, .int .i64 0, .int .i64 0, .int .i64 0] 57))) := (HB.out.trans (q2.mono HB.out.size)).trans ((below_alloc w2 _).mono (Nat.le_trans HB.out.size q2.size))
    clear h1 HN H HI HB q2
    go_wp2
    go_ret
    exact ⟨rfl, HB2.out⟩
set_option maxRecDepth 100000 in
set_option maxHeartbeats 4000000 in
/-- .. and where the lock is there: what settle answers. -/
theorem colCommit_settle (B b N : Nat) (m : Int → Int → Option Int) (nl : Nat) (l : Nat → Int) (nw : Nat) (k : Nat → Int) (g : Nat) (u1 u2 : Value) (a s c : Int) (j : Nat) (w : World) (h : Cols w B b N m nl l nw k g u1 u2) (hw : nw ≤ 200) (hl : nl ≤ 200) (hi : ∀ i, ¬ firstW k nw a s i) (hj : firstK l nl a j) (hs : l (j * 5 + 1) = s)
    (Q : World → Value → World → Prop) (HS : ∀ x, Below w.heap.size w x → Cols x B b N m nl l nw k g u1 u2 → Calls Tryz.prog 87 #[.pointer (some ⟨b, 0, none⟩), .agg #[.int .i64 a, .int .i64 c, .int .i64 s, .int .i64 (l (j * 5 + 2))]] x fun e w' => ∃ v, e = .returned v ∧ Q x v w') :
    Calls Tryz.prog 48 #[.pointer (some ⟨b, 0, none⟩), .int .i64 a, .int .i64 s, .int .i64 c] w fun e w' => ∃ x v, e = .returned v ∧ Below w.heap.size w x ∧ Q x v w' := by
  have H : Hid (Cols w B b N m nl l nw k g u1 u2) := h
  have HI : Hid (∀ i, ¬ firstW k nw a s i) := hi
  have HJ : Hid (firstK l nl a j) := hj
  have HSS : Hid (∀ x, Below w.heap.size w x → Cols x B b N m nl l nw k g u1 u2 → Calls Tryz.prog 87 #[.pointer (some ⟨b, 0, none⟩), .agg #[.int .i64 a, .int .i64 c, .int .i64 s, .int .i64 (l (j * 5 + 2))]] x fun e w' => ∃ v, e = .returned v ∧ Q x v w') := HS
  clear h hi hj HS
  go_enter Tryz.func48, Tryz.ntmps48
  go_wp2_with fail
  refine (writeOf_any B b N m nl l nw k g u1 u2 a s _ H.out hw).mono ?_
  rintro e w1 ⟨v1, rfl, ht, q1⟩
  rcases ht with ⟨j, hj, rfl⟩ | ⟨hj, rfl⟩
  · exact absurd hj (HI.out j)
  have HB : Hid (Below w.heap.size w (w1.alloc (.cells #[.int .i64 0, .int .i64 0, .int .i64 0, .int .i64 0] 92))) := q1.trans ((below_alloc w1 _).mono q1.size)
  clear hj q1
  go_wp2_with fail
  refine (lockOf_any B b N m nl l nw k g u1 u2 a _ (H.out.later HB.out) hl).mono ?_
  rintro e w2 ⟨v2, rfl, ht, q2⟩
  rcases ht with ⟨i, h1, h2, h3, rfl⟩ | ⟨h1, rfl⟩
  · obtain rfl : i = j := firstK.one ⟨h1, h2, h3⟩ HJ.out
    rw [hs]
    have HB2 : Hid (Below w.heap.size w (w2.alloc (.cells #[.int .i64 (l (i * 5)), .int .i64 s, .int .i64 (l (i * 5 + 2)), .int .i64 (l (i * 5 + 3)), .int .i64 (l (i * 5 + 4))] 57))) := (HB.out.trans (q2.mono HB.out.size)).trans ((below_alloc w2 _).mono (Nat.le_trans HB.out.size q2.size))
    have HCC := HSS.out _ HB2.out (H.out.later HB2.out)
    clear h1 h2 h3 H HI HB q2 HJ hs HSS
    generalize l (i * 5) = n0 at *
    generalize l (i * 5 + 2) = n2 at *
    generalize l (i * 5 + 3) = n3 at *
    generalize l (i * 5 + 4) = n4 at *
    have HC : Hid _ := HCC
    clear HCC
    go_wp2_with fail
    refine Calls.mono HC.out ?_
    rintro e w3 ⟨v, rfl, hq⟩
    go_wp2
    go_ret
    exact ⟨_, _, rfl, HB2.out, hq⟩
  · exact absurd HJ.out.2.1 (h1 j HJ.out.1)
end

section
open Go.RowKit Go.Lib
-- Own text. The program's storeUnless: a code alone, or the columns' store.
set_option maxRecDepth 100000 in
set_option maxHeartbeats 4000000 in
theorem unless_hit (k c : Int) (h : codeOf k c) (hc : (c == 0) = false) (p : Option Addr) (w : World) (hL : Laid w) :
    Calls Tryz.prog 38 #[.iface 111 (.agg #[.int .i64 k]), .pointer p] w (ResSto w c emptyS) := by
  have HL : Hid (Laid (w.alloc (.cells #[.int .i64 0, .slice none 0 0, .slice none 0 0, .slice none 0 0] 34))) := hL.later (below_alloc _ _)
  have HH : Hid (codeOf k c) := h
  have HB : Hid (Blk4 (w.alloc (.cells #[.int .i64 0, .slice none 0 0, .slice none 0 0, .slice none 0 0] 34)) w.heap.size (.int .i64 0) (.slice none 0 0) (.slice none 0 0) (.slice none 0 0)) := Blk4.new w _ _ _ _ _
  unfold ResSto
  clear hL h
  go_enter Tryz.func38, Tryz.ntmps38
  go_wp2_with fail
  refine (refusalCode_hit k c HH.out _ HL.out).mono ?_
  rintro e w1 ⟨rfl, q1⟩
  obtain ⟨⟨r0, r1, r2, r3⟩, f0, f1, f2, f3⟩ := HB.out.later q1
  have HW : Hid (Below w.heap.size w w1) := (below_alloc w _).trans (q1.mono (by simp))
  clear q1 HL HH HB
  have hlo : (w.heap.size : Nat) ≤ w.heap.size := Nat.le_refl _
  go_wp2
  exact bodyPost_ret (v := .agg #[.int .i64 c, .slice none 0 0, .slice none 0 0, .slice none 0 0]) (by simp [results, Tryz.results38, go_sem, r0, r1, r2, r3]) rfl ⟨none, 0, none, 0, none, 0, rfl, empty_sto _ _, (((HW.out.setCell hlo _).setCell hlo _).setCell hlo _).setCell hlo _⟩
set_option maxRecDepth 100000 in
set_option maxHeartbeats 4000000 in
theorem unless_ok (B b N : Nat) (m : Int → Int → Option Int) (nl : Nat) (l : Nat → Int) (nw : Nat) (k : Nat → Int) (g : Nat) (u1 u2 : Value) (w : World) (h : Cols w B b N m nl l nw k g u1 u2) (hl : nl ≤ 200) (hw : nw ≤ 200) (hN : N ≤ 400) (nc : Nat) (c : Nat → Int) (hM : MapRow m nc c) :
    Calls Tryz.prog 38 #[.nilIface, .pointer (some ⟨b, 0, none⟩)] w (ResSto w 0 ⟨nc, c, nl, l, nw, k⟩) := by
  have H : Hid (Cols w B b N m nl l nw k g u1 u2) := h
  have HM : Hid (MapRow m nc c) := hM
  have HB : Hid (Blk4 (w.alloc (.cells #[.int .i64 0, .slice none 0 0, .slice none 0 0, .slice none 0 0] 34)) w.heap.size (.int .i64 0) (.slice none 0 0) (.slice none 0 0) (.slice none 0 0)) := Blk4.new w _ _ _ _ _
  unfold ResSto
  clear h hM
  go_enter Tryz.func38, Tryz.ntmps38
  go_wp2_with fail
  refine (refusalCode_nil _).mono ?_
  rintro e w1 ⟨rfl, q1⟩
  have HB1 : Hid (Blk4 w1 w.heap.size (.int .i64 0) (.slice none 0 0) (.slice none 0 0) (.slice none 0 0)) := HB.out.later q1
  have HW : Hid (Below w.heap.size w w1) := (below_alloc w _).trans (q1.mono (by simp))
  clear q1 HB
  go_wp2_with fail
  refine (store_is B b N m nl l nw k g u1 u2 w1 (H.out.later HW.out) hl hw hN nc c HM.out).mono ?_
  rintro e w2 ⟨y0, z0, y1, z1, y2, z2, rfl, ⟨s2, fr2, ap2⟩, q2⟩
  have hlt : w.heap.size < w1.heap.size := HB1.out.lt
  have S2 : Hid ((St w2 (w.heap.size + 1) ⟨nc, c, nl, l, nw, k⟩ (.slice y0 nc z0) (.slice y1 nl z1) (.slice y2 nw z2) ∧ FreeS w2 ⟨nc, c, nl, l, nw, k⟩ (.slice y0 nc z0) (.slice y1 nl z1) (.slice y2 nw z2)) ∧ ApartD ⟨nc, c, nl, l, nw, k⟩ (.slice y0 nc z0) (.slice y1 nl z1) (.slice y2 nw z2)) := ⟨⟨s2.mono hlt, fr2⟩, ap2⟩
  obtain ⟨⟨r0, r1, r2, r3⟩, f0, f1, f2, f3⟩ := HB1.out.later q2
  have HW2 : Hid (Below w.heap.size w w2) := HW.out.trans (q2.mono HW.out.size)
  clear s2 fr2 ap2 q2 HB1 HW HM H hlt
  have hlo : (w.heap.size : Nat) < w.heap.size + 1 := Nat.lt_succ_self _
  have hle : (w.heap.size : Nat) ≤ w.heap.size := Nat.le_refl _
  go_wp2
  exact bodyPost_ret (v := .agg #[.int .i64 0, .slice y0 nc z0, .slice y1 nl z1, .slice y2 nw z2]) (by simp [results, Tryz.results38, go_sem, r0, r1, r2, r3]) rfl ⟨y0, z0, y1, z1, y2, z2, rfl, ⟨((((S2.out.1.1.far hlo _).far hlo _).far hlo _).far hlo _).mono (Nat.le_succ _), (((S2.out.1.2.far _ _).far _ _).far _ _).far _ _, S2.out.2⟩, (((HW2.out.setCell hle _).setCell hle _).setCell hle _).setCell hle _⟩
end

section
open Go.RowKit Go.Lib
-- Own text. The program's columns.commit: one theorem of all ways, in the words of CommitRes.
theorem wnext {k : Nat → Int} {i : Nat} (h : writeF k (i + 1) = 0) : pairLt (k (i * 4)) (k (i * 4 + 1)) (k ((i + 1) * 4)) (k ((i + 1) * 4 + 1)) := by
  have hz := writeF_zero h
  unfold writeF at h
  rw [if_neg (by rw [hz.1]; exact fun q => q rfl), if_neg (fun q => q hz.2)] at h
  by_cases q : (0 < i + 1 ∧ ¬ (k ((i + 1 - 1) * 4) < k ((i + 1) * 4) ∨ k ((i + 1 - 1) * 4) = k ((i + 1) * 4) ∧ k ((i + 1 - 1) * 4 + 1) < k ((i + 1) * 4 + 1))) ∨ ¬ fits k (i + 1)
  · rw [if_pos q] at h
    exact absurd h (by decide)
  · unfold pairLt
    rw [Nat.add_sub_cancel] at q
    have : ¬ ¬ (k (i * 4) < k ((i + 1) * 4) ∨ k (i * 4) = k ((i + 1) * 4) ∧ k (i * 4 + 1) < k ((i + 1) * 4 + 1)) := fun e => q (Or.inl ⟨Nat.succ_pos _, e⟩)
    exact Classical.not_not.1 this
theorem wrise {S : Sto} (h : scan (writeF S.k) S.nw = 0) : ∀ j, j < S.nw → ∀ i, i < j → pairLt (S.k (i * 4)) (S.k (i * 4 + 1)) (S.k (j * 4)) (S.k (j * 4 + 1)) :=
  rise_pairs (p := fun i => S.k (i * 4)) (q := fun i => S.k (i * 4 + 1)) (fun i hi => wnext (scan_zero h (i + 1) hi))
theorem w_mono {S : Sto} (h : scan (writeF S.k) S.nw = 0) (x0 x1 : Int) : ∀ i j, i ≤ j → j < S.nw → aheadW S.k x0 x1 j → aheadW S.k x0 x1 i := fun i j hij hj ha => by
  rcases Nat.eq_or_lt_of_le hij with rfl | hlt
  · exact ha
  · have := wrise h j hj i hlt
    unfold aheadW pairLt at *
    omega
theorem w_taken {S : Sto} (h : scan (writeF S.k) S.nw = 0) {a c : Int} (he : ∃ i, i < S.nw ∧ writeAt S.k a c i) : ∀ q, placeAt (aheadW S.k a c) S.nw q → q < S.nw ∧ S.k (q * 4) = a ∧ S.k (q * 4 + 1) = c := fun q hq => by
  obtain ⟨i, hi, h0, h1⟩ := he
  rcases Nat.lt_trichotomy i q with e | e | e
  · have := hq.2.1 i e
    unfold aheadW at this
    omega
  · subst e
    exact ⟨hi, h0, h1⟩
  · have h2 := wrise h i hi q e
    have h3 := hq.2.2 (Nat.lt_trans e hi)
    unfold aheadW at h3
    unfold pairLt at h2
    omega
theorem first_w {k : Nat → Int} {n : Nat} {a s : Int} {i : Nat} (h : FirstAt (writeIs k a s) n i) : firstW k n a s i := by
  rcases h with ⟨q, _⟩ | ⟨j, hj, q, h1, h2⟩
  · omega
  · obtain rfl : i = j := by omega
    exact ⟨hj, h1, h2⟩
theorem first_k {l : Nat → Int} {n : Nat} {a : Int} {i : Nat} (h : FirstAt (lockIs l a) n i) : firstK l n a i := by
  rcases h with ⟨q, _⟩ | ⟨j, hj, q, h1, h2⟩
  · omega
  · obtain rfl : i = j := by omega
    exact ⟨hj, h1, h2⟩
theorem none_w {k : Nat → Int} {n : Nat} {a s : Int} (h : FirstAt (writeIs k a s) n (-1)) : ∀ i, ¬ firstW k n a s i := fun i hi => by
  rcases h with ⟨_, q⟩ | ⟨j, _, q, _⟩
  · exact q i hi.1 hi.2.1
  · omega
theorem none_k {l : Nat → Int} {n : Nat} {a : Int} (h : FirstAt (lockIs l a) n (-1)) : ∀ i, ¬ firstK l n a i := fun i hi => by
  rcases h with ⟨_, q⟩ | ⟨j, _, q, _⟩
  · exact q i hi.1 hi.2.1
  · omega
/-- What columns.commit answers. -/
def ColAns (x : World) (B b g : Nat) (S : Sto) (r : Int) (R : Sto) (e : Ending) (w' : World) : Prop :=
  Below B x w' ∧ ((∃ kk, e = .returned (.iface 111 (.agg #[.int .i64 kk])) ∧ codeOf kk r ∧ R = emptyS) ∨
    (e = .returned .nilIface ∧ r = 0 ∧ (R.nc = S.nc ∧ R.c = S.c ∧ R.nl ≤ 200 ∧ R.nw ≤ 200) ∧ ∃ u1' u2', Cols w' B b S.nc (cellM S S.nc) R.nl R.l R.nw R.k g u1' u2'))
theorem colCommit_res (S : Sto) (hz : storeF S = 0) (B b g : Nat) (u1 u2 : Value) (a s c r : Int) (R : Sto) (x : World) (h : Cols x B b S.nc (cellM S S.nc) S.nl S.l S.nw S.k g u1 u2) (hA : ApartC b g u1 u2) (hR : CommitRes S a s c r R) :
    Calls Tryz.prog 48 #[.pointer (some ⟨b, 0, none⟩), .int .i64 a, .int .i64 s, .int .i64 c] x (ColAns x B b g S r R) := by
  have Z := storeF_zero hz
  obtain ⟨⟨_, hl, hw⟩, _, _, zw, _⟩ := Z
  have hBx : B ≤ x.heap.size := Nat.le_trans h.1 (Nat.le_of_lt h.2.2.1.lt)
  rcases hR with ⟨i, h1, h2, rfl, rfl⟩ | ⟨i, h1, h2, rfl, rfl⟩ | ⟨h1, h2, rfl, rfl⟩ | ⟨j, h1, h2, h3, h4, rfl, rfl⟩ | ⟨j, h1, h2, h3, h4, h5, rfl, rfl⟩ | ⟨j, k, h1, h2, h3, h4, h5, h6, rfl, rfl⟩
  · refine (colCommit_said B b _ _ _ _ _ _ g u1 u2 a s c i x h hw (first_w h1) _ rfl).mono ?_
    rintro e w' ⟨rfl, hb⟩
    rw [if_pos h2]
    exact ⟨hb.mono hBx, Or.inr ⟨rfl, rfl, ⟨rfl, rfl, hl, hw⟩, u1, u2, h.later hb⟩⟩
  · refine (colCommit_said B b _ _ _ _ _ _ g u1 u2 a s c i x h hw (first_w h1) _ rfl).mono ?_
    rintro e w' ⟨rfl, hb⟩
    rw [if_neg h2]
    exact ⟨hb.mono hBx, Or.inl ⟨3, rfl, by unfold codeOf; decide, rfl⟩⟩
  · refine (colCommit_never B b _ _ _ _ _ _ g u1 u2 a s c x h hw hl (none_w h1) (fun i hi => ?_)).mono ?_
    · rcases h2 with h2 | ⟨j, h2, h3⟩
      · exact absurd hi (none_k h2 i)
      · rw [hi.one (first_k h2)]
        exact h3
    · rintro e w' ⟨rfl, hb⟩
      exact ⟨hb.mono hBx, Or.inl ⟨2, rfl, by unfold codeOf; decide, rfl⟩⟩
  · refine (colCommit_settle B b _ _ _ _ _ _ g u1 u2 a s c j x h hw hl (none_w h1) (first_k h2) h3 (fun y v w' => v = .iface 111 (.agg #[.int .i64 4]) ∧ Below y.heap.size y w') (fun y _ hy => (settle_taken B b _ _ _ _ _ _ g u1 u2 a c s _ y hy hw (w_mono zw a c) (w_taken zw h4)).mono (fun e w' q => ⟨_, q.1, rfl, q.2⟩))).mono ?_
    rintro e w' ⟨y, v, rfl, hb, rfl, hb'⟩
    exact ⟨(hb.trans (hb'.mono hb.size)).mono hBx, Or.inl ⟨4, rfl, by unfold codeOf; decide, rfl⟩⟩
  · refine (colCommit_settle B b _ _ _ _ _ _ g u1 u2 a s c j x h hw hl (none_w h1) (first_k h2) h3 (fun y v w' => v = .iface 111 (.agg #[.int .i64 5]) ∧ Below y.heap.size y w') (fun y _ hy => (settle_full B b _ _ _ _ _ _ g u1 u2 a c s _ y hy (by omega) (w_mono zw a c) (fun q _ hq => h4 ⟨q, hq.1, hq.2⟩)).mono (fun e w' q => ⟨_, q.1, rfl, q.2⟩))).mono ?_
    rintro e w' ⟨y, v, rfl, hb, rfl, hb'⟩
    exact ⟨(hb.trans (hb'.mono hb.size)).mono hBx, Or.inl ⟨5, rfl, by unfold codeOf; decide, rfl⟩⟩
  · refine (colCommit_settle B b _ _ _ _ _ _ g u1 u2 a s c j x h hw hl (none_w h1) (first_k h2) h3 (fun y v w' => v = .nilIface ∧ (∃ q u1' u2', placeAt (aheadW S.k a c) S.nw q ∧ Cols w' B b S.nc (cellM S S.nc) (unlL S.l a s S.nl).length (fun p => (unlL S.l a s S.nl).flatten.getD p 0) (S.nw + 1) (insF S.k 4 S.nw q [a, c, s, S.l (j * 5 + 2)]) g u1' u2' ∧ ApartC b g u1' u2') ∧ Below B y w') (fun y _ hy => (settle_done B b _ _ _ _ _ _ g u1 u2 a c s _ y hy hA hl h5 (w_mono zw a c) (fun q _ hq => h4 ⟨q, hq.1, hq.2⟩)).mono (fun e w' q => ⟨_, q.1, rfl, q.2⟩))).mono ?_
    rintro e w' ⟨y, v, rfl, hb, rfl, ⟨q, v1, v2, hq, hC, _⟩, hb'⟩
    obtain rfl : q = k := hq.one h6
    exact ⟨(hb.mono hBx).trans hb', Or.inr ⟨rfl, rfl, ⟨rfl, rfl, Nat.le_trans (selD_le _ _ _ _) hl, h5⟩, v1, v2, hC⟩⟩
end

section
open Go.RowKit Go.Lib
-- Own text. The program's CommitKey.
theorem self_map {S : Sto} (hz : scan (cellF S.c) S.nc = 0) : MapRow (cellM S S.nc) S.nc S.c :=
  ⟨cells_rise hz, fun i hi => by
    have hc := cellF_zero (scan_zero hz i hi)
    have hk := faultOf_zero hc.1
    exact ⟨wf_small hk.1 (by omega), wf_small (by omega) hc.2.2.1⟩, fun i hi => cellM_at hz hi ⟨rfl, rfl⟩, fun _ _ _ _ _ h => cellM_some h⟩
set_option maxRecDepth 100000 in
set_option maxHeartbeats 8000000 in
theorem implCommitKey_is (S : Sto) (v0 v1 v2 : Value) (a s c r : Int) (R : Sto) (B : Nat) (w : World) (h : St w B S v0 v1 v2) (hL : Laid w) (hA : CommitAns S a s c r R) :
    Calls Tryz.prog 16 #[.agg #[v0, v1, v2], .int .i64 a, .int .i64 s, .int .i64 c] w (ResSto w r R) := by
  obtain ⟨a0, c0, a1, c1, a2, c2, rfl, rfl, rfl⟩ := h.form
  have HE : Hid (CallSto w B S (.slice a0 S.nc c0) (.slice a1 S.nl c1) (.slice a2 S.nw c2) ((w.alloc (.cells #[.slice a0 S.nc c0, .slice a1 S.nl c1, .slice a2 S.nw c2] 32)).alloc (.cells #[.int .i64 0, .slice none 0 0, .slice none 0 0, .slice none 0 0] 34))) := CallSto.new h _ _
  have HL : Hid (Laid w) := hL
  clear h hL
  unfold ResSto
  rcases hA with ⟨hz, rfl, rfl⟩ | ⟨hz, ht, rfl, rfl⟩ | ⟨hz, ht, hu, rfl, rfl⟩ | ⟨hz, ht, hu, hc, rfl, rfl⟩ | ⟨hz, ht, hu, hc, hR⟩
  · obtain ⟨f, hf⟩ : ∃ f, askF S a = f := ⟨_, rfl⟩
    have HF : Hid (askF S a = f) := hf
    have hfn : (f == 0) = false := beq_eq_false_iff_ne.2 (by rw [← hf]; exact hz)
    rw [hf]
    clear hz hf
    go_enter Tryz.func16, Tryz.ntmps16
    go_wp2_with fail
    refine (askFault_any S _ _ _ a B _ HE.out.2.2.1).mono ?_
    rw [HF.out]
    rintro e w1 ⟨rfl, q1⟩
    have HE : Hid (CallSto w B S (.slice a0 S.nc c0) (.slice a1 S.nl c1) (.slice a2 S.nw c2) w1) := HE.out.later q1
    obtain ⟨⟨⟨p0, p1, p2⟩, _⟩, ⟨⟨r0, r1, r2, r3⟩, f0, f1, f2, f3⟩, _⟩ := HE.out
    clear q1
    go_wp2
    exact bodyPost_ret (v := .agg #[.int .i64 f, .slice none 0 0, .slice none 0 0, .slice none 0 0]) (by simp [results, Tryz.results16, go_sem, r0, r1, r2, r3]) rfl ⟨none, 0, none, 0, none, 0, rfl, empty_sto _ _, (((HE.out.2.2.2.setCell (Nat.le_succ _) _).setCell (Nat.le_succ _) _).setCell (Nat.le_succ _) _).setCell (Nat.le_succ _) _⟩
  · have HA : Hid (askF S a = 0) := hz
    have HT : Hid (decide (1 ≤ s ∧ s ≤ 100000) = false) := decide_eq_false ht
    clear hz ht
    go_enter Tryz.func16, Tryz.ntmps16
    go_wp2_with fail
    refine (askFault_any S _ _ _ a B _ HE.out.2.2.1).mono ?_
    rw [HA.out]
    rintro e w1 ⟨rfl, q1⟩
    have HE : Hid (CallSto w B S (.slice a0 S.nc c0) (.slice a1 S.nl c1) (.slice a2 S.nw c2) w1) := HE.out.later q1
    obtain ⟨⟨⟨p0, p1, p2⟩, _⟩, ⟨⟨r0, r1, r2, r3⟩, f0, f1, f2, f3⟩, _⟩ := HE.out
    clear q1
    go_wp2_with fail
    refine (isTime_is s false HT.out _).mono ?_
    rintro e w2 ⟨rfl, rfl⟩
    go_wp2
    exact bodyPost_ret (v := .agg #[.int .i64 3, .slice none 0 0, .slice none 0 0, .slice none 0 0]) (by simp [results, Tryz.results16, go_sem, r0, r1, r2, r3]) rfl ⟨none, 0, none, 0, none, 0, rfl, empty_sto _ _, (((HE.out.2.2.2.setCell (Nat.le_succ _) _).setCell (Nat.le_succ _) _).setCell (Nat.le_succ _) _).setCell (Nat.le_succ _) _⟩
  · have HA : Hid (askF S a = 0) := hz
    have HT : Hid (decide (1 ≤ s ∧ s ≤ 100000) = true) := decide_eq_true ht
    have HU : Hid (decide (1 ≤ c ∧ c ≤ 100000) = false) := decide_eq_false hu
    clear hz ht hu
    go_enter Tryz.func16, Tryz.ntmps16
    go_wp2_with fail
    refine (askFault_any S _ _ _ a B _ HE.out.2.2.1).mono ?_
    rw [HA.out]
    rintro e w1 ⟨rfl, q1⟩
    have HE : Hid (CallSto w B S (.slice a0 S.nc c0) (.slice a1 S.nl c1) (.slice a2 S.nw c2) w1) := HE.out.later q1
    obtain ⟨⟨⟨p0, p1, p2⟩, _⟩, ⟨⟨r0, r1, r2, r3⟩, f0, f1, f2, f3⟩, _⟩ := HE.out
    clear q1
    go_wp2_with fail
    refine (isTime_is s true HT.out _).mono ?_
    rintro e w2 ⟨rfl, rfl⟩
    go_wp2_with fail
    refine (isTime_is c false HU.out _).mono ?_
    rintro e w2' ⟨rfl, rfl⟩
    go_wp2
    exact bodyPost_ret (v := .agg #[.int .i64 3, .slice none 0 0, .slice none 0 0, .slice none 0 0]) (by simp [results, Tryz.results16, go_sem, r0, r1, r2, r3]) rfl ⟨none, 0, none, 0, none, 0, rfl, empty_sto _ _, (((HE.out.2.2.2.setCell (Nat.le_succ _) _).setCell (Nat.le_succ _) _).setCell (Nat.le_succ _) _).setCell (Nat.le_succ _) _⟩
  · have HA : Hid (askF S a = 0) := hz
    have HT : Hid (decide (1 ≤ s ∧ s ≤ 100000) = true) := decide_eq_true ht
    have HU : Hid (decide (1 ≤ c ∧ c ≤ 100000) = true) := decide_eq_true hu
    have dc : decide (c ≤ s) = true := decide_eq_true hc
    clear hz ht hu hc
    go_enter Tryz.func16, Tryz.ntmps16
    go_wp2_with fail
    refine (askFault_any S _ _ _ a B _ HE.out.2.2.1).mono ?_
    rw [HA.out]
    rintro e w1 ⟨rfl, q1⟩
    have HE : Hid (CallSto w B S (.slice a0 S.nc c0) (.slice a1 S.nl c1) (.slice a2 S.nw c2) w1) := HE.out.later q1
    obtain ⟨⟨⟨p0, p1, p2⟩, _⟩, ⟨⟨r0, r1, r2, r3⟩, f0, f1, f2, f3⟩, _⟩ := HE.out
    clear q1
    go_wp2_with fail
    refine (isTime_is s true HT.out _).mono ?_
    rintro e w1' ⟨rfl, rfl⟩
    go_wp2_with fail
    refine (isTime_is c true HU.out _).mono ?_
    rintro e w2' ⟨rfl, rfl⟩
    go_wp2
    exact bodyPost_ret (v := .agg #[.int .i64 1, .slice none 0 0, .slice none 0 0, .slice none 0 0]) (by simp [results, Tryz.results16, go_sem, r0, r1, r2, r3]) rfl ⟨none, 0, none, 0, none, 0, rfl, empty_sto _ _, (((HE.out.2.2.2.setCell (Nat.le_succ _) _).setCell (Nat.le_succ _) _).setCell (Nat.le_succ _) _).setCell (Nat.le_succ _) _⟩
  · have HA : Hid (askF S a = 0) := hz
    have hs := (askF_zero hz).1
    have Z := storeF_zero hs
    have HZ : Hid (scan (cellF S.c) S.nc = 0 ∧ (S.nc ≤ 200 ∧ S.nl ≤ 200 ∧ S.nw ≤ 200)) := ⟨Z.2.1, Z.1⟩
    have HS : Hid (storeF S = 0) := hs
    have HR : Hid (CommitRes S a s c r R) := hR
    have HT : Hid (decide (1 ≤ s ∧ s ≤ 100000) = true) := decide_eq_true ht
    have HU : Hid (decide (1 ≤ c ∧ c ≤ 100000) = true) := decide_eq_true hu
    have dc : decide (c ≤ s) = false := decide_eq_false (by omega)
    clear hz hs ht hu hc hR Z
    go_enter Tryz.func16, Tryz.ntmps16
    go_wp2_with fail
    refine (askFault_any S _ _ _ a B _ HE.out.2.2.1).mono ?_
    rw [HA.out]
    rintro e w1 ⟨rfl, q1⟩
    have HE : Hid (CallSto w B S (.slice a0 S.nc c0) (.slice a1 S.nl c1) (.slice a2 S.nw c2) w1) := HE.out.later q1
    obtain ⟨⟨⟨p0, p1, p2⟩, _⟩, ⟨⟨r0, r1, r2, r3⟩, f0, f1, f2, f3⟩, _⟩ := HE.out
    clear q1
    go_wp2_with fail
    refine (isTime_is s true HT.out _).mono ?_
    rintro e w1' ⟨rfl, rfl⟩
    go_wp2_with fail
    refine (isTime_is c true HU.out _).mono ?_
    rintro e w2' ⟨rfl, rfl⟩
    go_wp2_with fail
    refine (columnsOf_apart S B _ _ _ _ HE.out.2.2.1 HZ.out.2.1 HZ.out.2.2.1 HZ.out.2.2.2 HZ.out.1).mono ?_
    rintro e w2 ⟨b, g, u1, u2, rfl, hC, hap, q1⟩
    clear p0 p1 p2 r0 r1 r2 r3 f0 f1 f2 f3
    have HC : Hid (Cols w2 w2'.heap.size b S.nc (cellM S S.nc) S.nl S.l S.nw S.k g u1 u2 ∧ ApartC b g u1 u2) := ⟨hC, hap⟩
    have zw : Hid (w.heap.size + 2 ≤ w2'.heap.size) := HE.out.2.1.lt
    have HE : Hid (CallSto w B S (.slice a0 S.nc c0) (.slice a1 S.nl c1) (.slice a2 S.nw c2) w2) := HE.out.later q1
    clear q1 hC hap
    go_wp2_with fail
    refine (colCommit_res S HS.out _ b g u1 u2 a s c r R w2 HC.out.1 HC.out.2 HR.out).mono ?_
    rintro e w3 ⟨hb3, hans⟩
    have HR3 : Hid (Blk4 w3 (w.heap.size + 1) (.int .i64 0) (.slice none 0 0) (.slice none 0 0) (.slice none 0 0) ∧ Below w.heap.size w w3) := ⟨HE.out.2.1.kept (hb3.block (w.heap.size + 1) (by have := zw.out; omega)), HE.out.2.2.2.trans (hb3.mono (by have := zw.out; omega))⟩
    have z3 : Hid (w.heap.size + 2 ≤ w3.heap.size) := HR3.out.1.lt
    clear hb3 HE HC
    rcases hans with ⟨kk, rfl, hk, rfl⟩ | ⟨rfl, rfl, hn, y1, y2, hC3⟩
    · have hrn : (r == 0) = false := beq_eq_false_iff_ne.2 (by unfold codeOf at hk; omega)
      have HK : Hid (codeOf kk r) := hk
      clear hk HR
      go_wp2_with fail
      refine (unless_hit kk r HK.out hrn (some ⟨b, 0, none⟩) w3 (HL.out.later HR3.out.2)).mono ?_
      rintro e w4 ⟨d0, e0, d1, e1, d2, e2, rfl, ⟨s3, f3', a3⟩, q4⟩
      have S3 : Hid ((St w4 (w.heap.size + 2) emptyS (.slice d0 (emptyS).nc e0) (.slice d1 (emptyS).nl e1) (.slice d2 (emptyS).nw e2) ∧ FreeS w4 emptyS (.slice d0 (emptyS).nc e0) (.slice d1 (emptyS).nl e1) (.slice d2 (emptyS).nw e2)) ∧ ApartD emptyS (.slice d0 (emptyS).nc e0) (.slice d1 (emptyS).nl e1) (.slice d2 (emptyS).nw e2)) := ⟨⟨s3.mono z3.out, f3'⟩, a3⟩
      have HBW : Hid (Below w.heap.size w w4) := HR3.out.2.trans (q4.mono HR3.out.2.size)
      obtain ⟨⟨r0, r1, r2, r3⟩, f0, f1, f2, f3⟩ := HR3.out.1.later q4
      clear s3 f3' a3 q4
      have hlo : (w.heap.size + 1 : Nat) < w.heap.size + 2 := Nat.lt_succ_self _
      go_wp2
      exact bodyPost_ret (v := .agg #[.int .i64 r, .slice d0 emptyS.nc e0, .slice d1 emptyS.nl e1, .slice d2 emptyS.nw e2]) (by simp [results, Tryz.results16, go_sem, r0, r1, r2, r3]) rfl ⟨d0, e0, d1, e1, d2, e2, rfl, ⟨((((S3.out.1.1.far hlo _).far hlo _).far hlo _).far hlo _).mono (by omega), (((S3.out.1.2.far _ _).far _ _).far _ _).far _ _, S3.out.2⟩, (((HBW.out.setCell (Nat.le_succ _) _).setCell (Nat.le_succ _) _).setCell (Nat.le_succ _) _).setCell (Nat.le_succ _) _⟩
    · obtain ⟨nc, cc, nl, l, nw, k⟩ := R
      obtain ⟨rfl, rfl, h3, h4⟩ := hn
      have HC3 : Hid (Cols w3 w2'.heap.size b S.nc (cellM S S.nc) nl l nw k g y1 y2) := hC3
      have HM : Hid (nl ≤ 200 ∧ nw ≤ 200) := ⟨h3, h4⟩
      clear hC3 h3 h4 HR
      go_wp2_with fail
      refine (unless_ok _ b S.nc _ nl l nw k g y1 y2 w3 HC3.out HM.out.1 HM.out.2 (by have := HZ.out.2.1; omega) S.nc S.c (self_map HZ.out.1)).mono ?_
      rintro e w4 ⟨d0, e0, d1, e1, d2, e2, rfl, ⟨s3, f3', a3⟩, q4⟩
      obtain ⟨RR, hRR⟩ : ∃ RR : Sto, RR = ⟨S.nc, S.c, nl, l, nw, k⟩ := ⟨_, rfl⟩
      rw [← hRR] at s3 f3' a3 ⊢
      have HRR : Hid (RR = ⟨S.nc, S.c, nl, l, nw, k⟩) := hRR
      clear hRR
      have S3 : Hid ((St w4 (w.heap.size + 2) RR (.slice d0 (RR).nc e0) (.slice d1 (RR).nl e1) (.slice d2 (RR).nw e2) ∧ FreeS w4 RR (.slice d0 (RR).nc e0) (.slice d1 (RR).nl e1) (.slice d2 (RR).nw e2)) ∧ ApartD RR (.slice d0 (RR).nc e0) (.slice d1 (RR).nl e1) (.slice d2 (RR).nw e2)) := ⟨⟨s3.mono z3.out, f3'⟩, a3⟩
      have HBW : Hid (Below w.heap.size w w4) := HR3.out.2.trans (q4.mono HR3.out.2.size)
      obtain ⟨⟨r0, r1, r2, r3⟩, f0, f1, f2, f3⟩ := HR3.out.1.later q4
      clear s3 f3' a3 q4
      have hlo : (w.heap.size + 1 : Nat) < w.heap.size + 2 := Nat.lt_succ_self _
      go_wp2
      have hRR := HRR.out
      clear HRR
      subst hRR
      exact bodyPost_ret (v := .agg #[.int .i64 0, .slice d0 S.nc e0, .slice d1 nl e1, .slice d2 nw e2]) (by simp [results, Tryz.results16, go_sem, r0, r1, r2, r3]) rfl ⟨d0, e0, d1, e1, d2, e2, rfl, ⟨((((S3.out.1.1.far hlo _).far hlo _).far hlo _).far hlo _).mono (by omega), (((S3.out.1.2.far _ _).far _ _).far _ _).far _ _, S3.out.2⟩, (((HBW.out.setCell (Nat.le_succ _) _).setCell (Nat.le_succ _) _).setCell (Nat.le_succ _) _).setCell (Nat.le_succ _) _⟩
end

section
open Go.RowKit Go.Lib
-- Own text. CommitKey: there is an answer, and both give it.
theorem placeAt.get (p : Nat → Prop) : ∀ n, ∃ k, placeAt p n k
  | 0 => ⟨0, Nat.le_refl _, fun j hj => absurd hj (Nat.not_lt_zero _), fun h => absurd h (Nat.lt_irrefl _)⟩
  | n + 1 => by
    obtain ⟨k, h1, h2, h3⟩ := placeAt.get p n
    rcases Nat.lt_or_ge k n with e | e
    · exact ⟨k, by omega, h2, fun _ => h3 e⟩
    · obtain rfl : k = n := by omega
      by_cases q : p k
      · exact ⟨k + 1, Nat.le_refl _, fun j hj => by
          rcases Nat.lt_or_ge j k with r | r
          · exact h2 j r
          · obtain rfl : j = k := by omega
            exact q, fun h => absurd h (Nat.lt_irrefl _)⟩
      · exact ⟨k, by omega, h2, fun _ => q⟩
def Small (R : Sto) : Prop := R.nc ≤ 1048576 ∧ R.nl ≤ 1048576 ∧ R.nw ≤ 1048576
theorem small_empty : Small emptyS := by unfold Small emptyS; decide
theorem CommitRes.get (S : Sto) (hz : storeF S = 0) (a s c : Int) : ∃ r R, Small R ∧ CommitRes S a s c r R := by
  obtain ⟨⟨hc, hl, hw⟩, _⟩ := storeF_zero hz
  have hS : Small S := ⟨by omega, by omega, by omega⟩
  obtain ⟨i, hi⟩ := FirstAt.get (writeIs S.k a s) S.nw
  rcases hi with ⟨rfl, hn⟩ | ⟨i, hi, rfl, hp, hq⟩
  · have h1 : FirstAt (writeIs S.k a s) S.nw (-1) := Or.inl ⟨rfl, hn⟩
    obtain ⟨j, hj⟩ := FirstAt.get (lockIs S.l a) S.nl
    rcases hj with ⟨rfl, hn2⟩ | ⟨j, hj, rfl, hp2, hq2⟩
    · exact ⟨4, emptyS, small_empty, Or.inr (Or.inr (Or.inl ⟨h1, Or.inl (Or.inl ⟨rfl, hn2⟩), rfl, rfl⟩))⟩
    · have h2 : FirstAt (lockIs S.l a) S.nl (j : Int) := Or.inr ⟨j, hj, rfl, hp2, hq2⟩
      by_cases h3 : S.l (j * 5 + 1) = s
      · by_cases h4 : ∃ i, i < S.nw ∧ writeAt S.k a c i
        · exact ⟨6, emptyS, small_empty, Or.inr (Or.inr (Or.inr (Or.inl ⟨j, h1, h2, h3, h4, rfl, rfl⟩)))⟩
        · by_cases h5 : 200 ≤ S.nw
          · exact ⟨2, emptyS, small_empty, Or.inr (Or.inr (Or.inr (Or.inr (Or.inl ⟨j, h1, h2, h3, h4, h5, rfl, rfl⟩))))⟩
          · obtain ⟨k, hk⟩ := placeAt.get (aheadW S.k a c) S.nw
            refine ⟨0, commitS S a s c (S.l (j * 5 + 2)) k, ⟨hS.1, ?_, ?_⟩, Or.inr (Or.inr (Or.inr (Or.inr (Or.inr ⟨j, k, h1, h2, h3, h4, by omega, hk, rfl, rfl⟩))))⟩
            · exact Nat.le_trans (selD_le _ _ _ _) hS.2.1
            · show S.nw + 1 ≤ _
              omega
      · exact ⟨4, emptyS, small_empty, Or.inr (Or.inr (Or.inl ⟨h1, Or.inr ⟨j, h2, h3⟩, rfl, rfl⟩))⟩
  · have h1 : FirstAt (writeIs S.k a s) S.nw (i : Int) := Or.inr ⟨i, hi, rfl, hp, hq⟩
    by_cases h2 : S.k (i * 4 + 1) = c
    · exact ⟨0, S, hS, Or.inl ⟨i, h1, h2, rfl, rfl⟩⟩
    · exact ⟨6, emptyS, small_empty, Or.inr (Or.inl ⟨i, h1, h2, rfl, rfl⟩)⟩
theorem CommitAns.get (S : Sto) (a s c : Int) : ∃ r R, Small R ∧ CommitAns S a s c r R := by
  by_cases hz : askF S a = 0
  · by_cases hs : isT s
    · by_cases hc : isT c
      · by_cases h : c ≤ s
        · exact ⟨1, emptyS, small_empty, Or.inr (Or.inr (Or.inr (Or.inl ⟨hz, hs, hc, h, rfl, rfl⟩)))⟩
        · obtain ⟨r, R, h1, h2⟩ := CommitRes.get S (askF_zero hz).1 a s c
          exact ⟨r, R, h1, Or.inr (Or.inr (Or.inr (Or.inr ⟨hz, hs, hc, by omega, h2⟩)))⟩
      · exact ⟨3, emptyS, small_empty, Or.inr (Or.inr (Or.inl ⟨hz, hs, hc, rfl, rfl⟩))⟩
    · exact ⟨3, emptyS, small_empty, Or.inr (Or.inl ⟨hz, hs, rfl, rfl⟩)⟩
  · exact ⟨_, emptyS, small_empty, Or.inl ⟨hz, rfl, rfl⟩⟩
theorem commitKey_ans (S : Sto) (a s c : Int) : ∃ r R, (R.nc ≤ 1048576 ∧ R.nl ≤ 1048576 ∧ R.nw ≤ 1048576) ∧
      (∀ y0 y1 y2 x, St x 0 S y0 y1 y2 → Calls Tryz.prog 15 #[.agg #[y0, y1, y2], .int .i64 a, .int .i64 s, .int .i64 c] x (ResSto x r R)) ∧
      (∀ y0 y1 y2 x, St x 0 S y0 y1 y2 → Laid x → Calls Tryz.prog 16 #[.agg #[y0, y1, y2], .int .i64 a, .int .i64 s, .int .i64 c] x (ResSto x r R)) := by
  obtain ⟨r, R, hb, hA⟩ := CommitAns.get S a s c
  exact ⟨r, R, hb, fun y0 y1 y2 x hx => specCommitKey_is S y0 y1 y2 a s c r R 0 x hx hA, fun y0 y1 y2 x hx hL => implCommitKey_is S y0 y1 y2 a s c r R 0 x hx hL hA⟩
end
end Go.Proofs.YtnkdphdpecgmiaaGreatDoor
