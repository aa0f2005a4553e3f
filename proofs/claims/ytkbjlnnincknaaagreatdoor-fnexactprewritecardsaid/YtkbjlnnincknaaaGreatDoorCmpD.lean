/-
  Own text, merged of CmpA, UnlA, CmpB, CmpC, CmpD.
-/
import Derived.Test.YtkbjlnnincknaaaGreatDoorSetB
import Derived.Test.YtkbjlnnincknaaaGreatDoorStorL
import Derived.Test.YtkbjlnnincknaaaGreatDoorStorD
import Derived.Test.YtkbjlnnincknaaaGreatDoorAsB
import Derived.Test.YtkbjlnnincknaaaGreatDoorStoA
import Derived.Test.YtkbjlnnincknaaaGreatDoorLawT
import Derived.Test.YtkbjlnnincknaaaGreatDoorCmtD
import Derived.Test.YtkbjlnnincknaaaGreatDoorStorB
import Derived.Test.YtkbjlnnincknaaaGreatDoorColsM
namespace Go.Proofs.YtkbjlnnincknaaaGreatDoor
section
open Go.RowKit Go.Lib
-- Own text. The program's columns.commit, a theorem a way.
/-- The first lock of a key. -/
def firstK (l : Nat → Int) (nl : Nat) (key : Int) (i : Nat) : Prop := i < nl ∧ lockIs l key i ∧ ∀ j, j < i → ¬ lockIs l key j
theorem firstK.one {l : Nat → Int} {n : Nat} {a : Int} {i j : Nat} (h : firstK l n a i) (h' : firstK l n a j) : i = j := by
  rcases Nat.lt_trichotomy i j with e | e | e
  · exact absurd h.2.1 (h'.2.2 i e)
  · exact e
  · exact absurd h'.2.1 (h.2.2 j e)

end

section
open Go.RowKit Go.Lib
-- Own text. The program's storeUnless: a code alone, or the columns' store.
set_option maxRecDepth 100000 in
set_option maxHeartbeats 4000000 in
theorem unless_hit (k c : Int) (h : codeOf k c) (hc : (c == 0) = false) (p : Option Addr) (w : World) (hL : Laid w) :
    Calls Tryz.prog 32 #[.iface 103 (.agg #[.int .i64 k]), .pointer p] w (ResSto w c emptyS) := by
  have HL : Hid (Laid (w.alloc (.cells #[.int .i64 0, .slice none 0 0, .slice none 0 0, .slice none 0 0] 34))) := hL.later (below_alloc _ _)
  have HH : Hid (codeOf k c) := h
  have HB : Hid (Blk4 (w.alloc (.cells #[.int .i64 0, .slice none 0 0, .slice none 0 0, .slice none 0 0] 34)) w.heap.size (.int .i64 0) (.slice none 0 0) (.slice none 0 0) (.slice none 0 0)) := Blk4.new w _ _ _ _ _
  unfold ResSto
  clear hL h
  go_enter Tryz.func32, Tryz.ntmps32
  go_wp2_with fail
  refine (refusalCode_hit k c HH.out _ HL.out).mono ?_
  rintro e w1 ⟨rfl, q1⟩
  obtain ⟨⟨r0, r1, r2, r3⟩, f0, f1, f2, f3⟩ := HB.out.later q1
  have HW : Hid (Below w.heap.size w w1) := (below_alloc w _).trans (q1.mono (by simp))
  clear q1 HL HH HB
  have hlo : (w.heap.size : Nat) ≤ w.heap.size := Nat.le_refl _
  go_wp2
  exact bodyPost_ret (v := .agg #[.int .i64 c, .slice none 0 0, .slice none 0 0, .slice none 0 0]) (by simp [results, Tryz.results32, go_sem, r0, r1, r2, r3]) rfl ⟨none, 0, none, 0, none, 0, rfl, empty_sto _ _, (((HW.out.setCell hlo _).setCell hlo _).setCell hlo _).setCell hlo _⟩
set_option maxRecDepth 100000 in
set_option maxHeartbeats 4000000 in
theorem unless_ok (B b N : Nat) (m : Int → Int → Option Int) (nl : Nat) (l : Nat → Int) (nw : Nat) (k : Nat → Int) (g : Nat) (u1 u2 : Value) (w : World) (h : Cols w B b N m nl l nw k g u1 u2) (hl : nl ≤ 200) (hw : nw ≤ 200) (hN : N ≤ 400) (nc : Nat) (c : Nat → Int) (hM : MapRow m nc c) :
    Calls Tryz.prog 32 #[.nilIface, .pointer (some ⟨b, 0, none⟩)] w (ResSto w 0 ⟨nc, c, nl, l, nw, k⟩) := by
  have H : Hid (Cols w B b N m nl l nw k g u1 u2) := h
  have HM : Hid (MapRow m nc c) := hM
  have HB : Hid (Blk4 (w.alloc (.cells #[.int .i64 0, .slice none 0 0, .slice none 0 0, .slice none 0 0] 34)) w.heap.size (.int .i64 0) (.slice none 0 0) (.slice none 0 0) (.slice none 0 0)) := Blk4.new w _ _ _ _ _
  unfold ResSto
  clear h hM
  go_enter Tryz.func32, Tryz.ntmps32
  go_wp2_with fail
  refine (refusalCode_nil _).mono ?_
  rintro e w1 ⟨rfl, q1⟩
  have HB1 : Hid (Blk4 w1 w.heap.size (.int .i64 0) (.slice none 0 0) (.slice none 0 0) (.slice none 0 0)) := HB.out.later q1
  have HW : Hid (Below w.heap.size w w1) := (below_alloc w _).trans (q1.mono (by simp))
  clear q1 HB
  go_wp2_with fail
  refine (store_is B b N m nl l nw k g u1 u2 w1 (H.out.later HW.out) hl hw hN nc c HM.out).mono ?_
  rintro e w2 ⟨y0, z0, y1, z1, y2, z2, rfl, ⟨s2, fr2, ap2⟩, q2⟩
  have hlt : w.heap.size < w1.heap.size := HB1.out.lt
  have S2 : Hid ((St w2 (w.heap.size + 1) ⟨nc, c, nl, l, nw, k⟩ (.slice y0 nc z0) (.slice y1 nl z1) (.slice y2 nw z2) ∧ FreeS w2 ⟨nc, c, nl, l, nw, k⟩ (.slice y0 nc z0) (.slice y1 nl z1) (.slice y2 nw z2)) ∧ ApartD ⟨nc, c, nl, l, nw, k⟩ (.slice y0 nc z0) (.slice y1 nl z1) (.slice y2 nw z2)) := ⟨⟨s2.mono hlt, fr2⟩, ap2⟩
  obtain ⟨⟨r0, r1, r2, r3⟩, f0, f1, f2, f3⟩ := HB1.out.later q2
  have HW2 : Hid (Below w.heap.size w w2) := HW.out.trans (q2.mono HW.out.size)
  clear s2 fr2 ap2 q2 HB1 HW HM H hlt
  have hlo : (w.heap.size : Nat) < w.heap.size + 1 := Nat.lt_succ_self _
  have hle : (w.heap.size : Nat) ≤ w.heap.size := Nat.le_refl _
  go_wp2
  exact bodyPost_ret (v := .agg #[.int .i64 0, .slice y0 nc z0, .slice y1 nl z1, .slice y2 nw z2]) (by simp [results, Tryz.results32, go_sem, r0, r1, r2, r3]) rfl ⟨y0, z0, y1, z1, y2, z2, rfl, ⟨((((S2.out.1.1.far hlo _).far hlo _).far hlo _).far hlo _).mono (Nat.le_succ _), (((S2.out.1.2.far _ _).far _ _).far _ _).far _ _, S2.out.2⟩, (((HW2.out.setCell hle _).setCell hle _).setCell hle _).setCell hle _⟩
end

section
open Go.RowKit Go.Lib
-- Own text. The program's columns.commit: one theorem of all ways, in the words of CommitRes.
theorem wnext {k : Nat → Int} {i : Nat} (h : writeF k (i + 1) = 0) : pairLt (k (i * 4)) (k (i * 4 + 1)) (k ((i + 1) * 4)) (k ((i + 1) * 4 + 1)) := by
  have hz := writeF_zero h
  unfold writeF at h
  rw [if_neg (by rw [hz.1]; exact fun q => q rfl), if_neg (fun q => q hz.2)] at h
  by_cases q : (0 < i + 1 ∧ ¬ (k ((i + 1 - 1) * 4) < k ((i + 1) * 4) ∨ k ((i + 1 - 1) * 4) = k ((i + 1) * 4) ∧ k ((i + 1 - 1) * 4 + 1) < k ((i + 1) * 4 + 1))) ∨ ¬ fits k (i + 1)
  · rw [if_pos q] at h
    exact absurd h (by decide)
  · unfold pairLt
    rw [Nat.add_sub_cancel] at q
    have : ¬ ¬ (k (i * 4) < k ((i + 1) * 4) ∨ k (i * 4) = k ((i + 1) * 4) ∧ k (i * 4 + 1) < k ((i + 1) * 4 + 1)) := fun e => q (Or.inl ⟨Nat.succ_pos _, e⟩)
    exact Classical.not_not.1 this
theorem wrise {S : Sto} (h : scan (writeF S.k) S.nw = 0) : ∀ j, j < S.nw → ∀ i, i < j → pairLt (S.k (i * 4)) (S.k (i * 4 + 1)) (S.k (j * 4)) (S.k (j * 4 + 1)) :=
  rise_pairs (p := fun i => S.k (i * 4)) (q := fun i => S.k (i * 4 + 1)) (fun i hi => wnext (scan_zero h (i + 1) hi))
theorem w_mono {S : Sto} (h : scan (writeF S.k) S.nw = 0) (x0 x1 : Int) : ∀ i j, i ≤ j → j < S.nw → aheadW S.k x0 x1 j → aheadW S.k x0 x1 i := fun i j hij hj ha => by
  rcases Nat.eq_or_lt_of_le hij with rfl | hlt
  · exact ha
  · have := wrise h j hj i hlt
    unfold aheadW pairLt at *
    omega
theorem w_taken {S : Sto} (h : scan (writeF S.k) S.nw = 0) {a c : Int} (he : ∃ i, i < S.nw ∧ writeAt S.k a c i) : ∀ q, placeAt (aheadW S.k a c) S.nw q → q < S.nw ∧ S.k (q * 4) = a ∧ S.k (q * 4 + 1) = c := fun q hq => by
  obtain ⟨i, hi, h0, h1⟩ := he
  rcases Nat.lt_trichotomy i q with e | e | e
  · have := hq.2.1 i e
    unfold aheadW at this
    omega
  · subst e
    exact ⟨hi, h0, h1⟩
  · have h2 := wrise h i hi q e
    have h3 := hq.2.2 (Nat.lt_trans e hi)
    unfold aheadW at h3
    unfold pairLt at h2
    omega
theorem first_w {k : Nat → Int} {n : Nat} {a s : Int} {i : Nat} (h : FirstAt (writeIs k a s) n i) : firstW k n a s i := by
  rcases h with ⟨q, _⟩ | ⟨j, hj, q, h1, h2⟩
  · omega
  · obtain rfl : i = j := by omega
    exact ⟨hj, h1, h2⟩
theorem first_k {l : Nat → Int} {n : Nat} {a : Int} {i : Nat} (h : FirstAt (lockIs l a) n i) : firstK l n a i := by
  rcases h with ⟨q, _⟩ | ⟨j, hj, q, h1, h2⟩
  · omega
  · obtain rfl : i = j := by omega
    exact ⟨hj, h1, h2⟩
theorem none_w {k : Nat → Int} {n : Nat} {a s : Int} (h : FirstAt (writeIs k a s) n (-1)) : ∀ i, ¬ firstW k n a s i := fun i hi => by
  rcases h with ⟨_, q⟩ | ⟨j, _, q, _⟩
  · exact q i hi.1 hi.2.1
  · omega
theorem none_k {l : Nat → Int} {n : Nat} {a : Int} (h : FirstAt (lockIs l a) n (-1)) : ∀ i, ¬ firstK l n a i := fun i hi => by
  rcases h with ⟨_, q⟩ | ⟨j, _, q, _⟩
  · exact q i hi.1 hi.2.1
  · omega
/-- What columns.commit answers. -/
def ColAns (x : World) (B b g : Nat) (S : Sto) (r : Int) (R : Sto) (e : Ending) (w' : World) : Prop :=
  Below B x w' ∧ ((∃ kk, e = .returned (.iface 103 (.agg #[.int .i64 kk])) ∧ codeOf kk r ∧ R = emptyS) ∨
    (e = .returned .nilIface ∧ r = 0 ∧ (R.nc = S.nc ∧ R.c = S.c ∧ R.nl ≤ 200 ∧ R.nw ≤ 200) ∧ ∃ u1' u2', Cols w' B b S.nc (cellM S S.nc) R.nl R.l R.nw R.k g u1' u2'))
end

section
open Go.RowKit Go.Lib
-- Own text. The program's CommitKey.
theorem self_map {S : Sto} (hz : scan (cellF S.c) S.nc = 0) : MapRow (cellM S S.nc) S.nc S.c :=
  ⟨cells_rise hz, fun i hi => by
    have hc := cellF_zero (scan_zero hz i hi)
    have hk := faultOf_zero hc.1
    exact ⟨wf_small hk.1 (by omega), wf_small (by omega) hc.2.2.1⟩, fun i hi => cellM_at hz hi ⟨rfl, rfl⟩, fun _ _ _ _ _ h => cellM_some h⟩
end

section
open Go.RowKit Go.Lib
-- Own text. CommitKey: there is an answer, and both give it.
theorem placeAt.get (p : Nat → Prop) : ∀ n, ∃ k, placeAt p n k
  | 0 => ⟨0, Nat.le_refl _, fun j hj => absurd hj (Nat.not_lt_zero _), fun h => absurd h (Nat.lt_irrefl _)⟩
  | n + 1 => by
    obtain ⟨k, h1, h2, h3⟩ := placeAt.get p n
    rcases Nat.lt_or_ge k n with e | e
    · exact ⟨k, by omega, h2, fun _ => h3 e⟩
    · obtain rfl : k = n := by omega
      by_cases q : p k
      · exact ⟨k + 1, Nat.le_refl _, fun j hj => by
          rcases Nat.lt_or_ge j k with r | r
          · exact h2 j r
          · obtain rfl : j = k := by omega
            exact q, fun h => absurd h (Nat.lt_irrefl _)⟩
      · exact ⟨k, by omega, h2, fun _ => q⟩
def Small (R : Sto) : Prop := R.nc ≤ 1048576 ∧ R.nl ≤ 1048576 ∧ R.nw ≤ 1048576
theorem small_empty : Small emptyS := by unfold Small emptyS; decide
theorem CommitRes.get (S : Sto) (hz : storeF S = 0) (a s c : Int) : ∃ r R, Small R ∧ CommitRes S a s c r R := by
  obtain ⟨⟨hc, hl, hw⟩, _⟩ := storeF_zero hz
  have hS : Small S := ⟨by omega, by omega, by omega⟩
  obtain ⟨i, hi⟩ := FirstAt.get (writeIs S.k a s) S.nw
  rcases hi with ⟨rfl, hn⟩ | ⟨i, hi, rfl, hp, hq⟩
  · have h1 : FirstAt (writeIs S.k a s) S.nw (-1) := Or.inl ⟨rfl, hn⟩
    obtain ⟨j, hj⟩ := FirstAt.get (lockIs S.l a) S.nl
    rcases hj with ⟨rfl, hn2⟩ | ⟨j, hj, rfl, hp2, hq2⟩
    · exact ⟨4, emptyS, small_empty, Or.inr (Or.inr (Or.inl ⟨h1, Or.inl (Or.inl ⟨rfl, hn2⟩), rfl, rfl⟩))⟩
    · have h2 : FirstAt (lockIs S.l a) S.nl (j : Int) := Or.inr ⟨j, hj, rfl, hp2, hq2⟩
      by_cases h3 : S.l (j * 5 + 1) = s
      · by_cases h4 : ∃ i, i < S.nw ∧ writeAt S.k a c i
        · exact ⟨6, emptyS, small_empty, Or.inr (Or.inr (Or.inr (Or.inl ⟨j, h1, h2, h3, h4, rfl, rfl⟩)))⟩
        · by_cases h5 : 200 ≤ S.nw
          · exact ⟨2, emptyS, small_empty, Or.inr (Or.inr (Or.inr (Or.inr (Or.inl ⟨j, h1, h2, h3, h4, h5, rfl, rfl⟩))))⟩
          · obtain ⟨k, hk⟩ := placeAt.get (aheadW S.k a c) S.nw
            refine ⟨0, commitS S a s c (S.l (j * 5 + 2)) k, ⟨hS.1, ?_, ?_⟩, Or.inr (Or.inr (Or.inr (Or.inr (Or.inr ⟨j, k, h1, h2, h3, h4, by omega, hk, rfl, rfl⟩))))⟩
            · exact Nat.le_trans (selD_le _ _ _ _) hS.2.1
            · show S.nw + 1 ≤ _
              omega
      · exact ⟨4, emptyS, small_empty, Or.inr (Or.inr (Or.inl ⟨h1, Or.inr ⟨j, h2, h3⟩, rfl, rfl⟩))⟩
  · have h1 : FirstAt (writeIs S.k a s) S.nw (i : Int) := Or.inr ⟨i, hi, rfl, hp, hq⟩
    by_cases h2 : S.k (i * 4 + 1) = c
    · exact ⟨0, S, hS, Or.inl ⟨i, h1, h2, rfl, rfl⟩⟩
    · exact ⟨6, emptyS, small_empty, Or.inr (Or.inl ⟨i, h1, h2, rfl, rfl⟩)⟩
theorem CommitAns.get (S : Sto) (a s c : Int) : ∃ r R, Small R ∧ CommitAns S a s c r R := by
  by_cases hz : askF S a = 0
  · by_cases hs : isT s
    · by_cases hc : isT c
      · by_cases h : c ≤ s
        · exact ⟨1, emptyS, small_empty, Or.inr (Or.inr (Or.inr (Or.inl ⟨hz, hs, hc, h, rfl, rfl⟩)))⟩
        · obtain ⟨r, R, h1, h2⟩ := CommitRes.get S (askF_zero hz).1 a s c
          exact ⟨r, R, h1, Or.inr (Or.inr (Or.inr (Or.inr ⟨hz, hs, hc, by omega, h2⟩)))⟩
      · exact ⟨3, emptyS, small_empty, Or.inr (Or.inr (Or.inl ⟨hz, hs, hc, rfl, rfl⟩))⟩
    · exact ⟨3, emptyS, small_empty, Or.inr (Or.inl ⟨hz, hs, rfl, rfl⟩)⟩
  · exact ⟨_, emptyS, small_empty, Or.inl ⟨hz, rfl, rfl⟩⟩
end
end Go.Proofs.YtkbjlnnincknaaaGreatDoor
