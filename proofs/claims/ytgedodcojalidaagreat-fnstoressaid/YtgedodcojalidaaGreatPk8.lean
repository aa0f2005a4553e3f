/-
  Own text, merged of RolB, RolC, PreE, PreH.
-/
import Derived.Test.YtgedodcojalidaaGreatPk7
namespace Go.Proofs.YtgedodcojalidaaGreat
section
open Go.RowKit Go.Maps Go.Sort Go.Shelf Go.Lib
/-- The cells without that of a key and start. -/
def goneK (a s : Int) (t : List Int) : Bool := t.getD 0 0 == a && t.getD 1 0 == s
def unlC (F : Nat → Int) (a s : Int) (n : Nat) : List (List Int) := selD F 3 (goneK a s) n
theorem goneK_iff {F : Nat → Int} {a s : Int} {i : Nat} : goneK a s (struD F 3 i) = true ↔ cellIs F a s i := by
  unfold goneK cellIs
  rw [struD_get F 3 i 0 (by omega), struD_get F 3 i 1 (by omega), Bool.and_eq_true, beq_iff_eq, beq_iff_eq]
  exact Iff.rfl
theorem goneK_not {F : Nat → Int} {a s : Int} {i : Nat} (h : ¬ cellIs F a s i) : goneK a s (struD F 3 i) = false := by
  cases e : goneK a s (struD F 3 i) with
  | false => rfl
  | true => exact absurd (goneK_iff.1 e) h
/-- A store of which what began at s for the key a is taken back. -/
def rollS (S : Sto) (a s : Int) (k : Nat) : Sto := ⟨(unlC S.c a s S.nc).length, fun p => (unlC S.c a s S.nc).flatten.getD p 0, (unlL S.l a s S.nl).length, fun p => (unlL S.l a s S.nl).flatten.getD p 0, S.nw + 1, insF S.k 4 S.nw k [a, s, s, 4]⟩
theorem selD_one {F : Nat → Int} {m : Nat} {D : List Int → Bool} {j : Nat} (hj : D (struD F m j) = true) : ∀ k, j < k → (∀ i, i < k → i ≠ j → D (struD F m i) = false) → (selD F m D k).length = k - 1 ∧ ∀ p, p < (k - 1) * m → (selD F m D k).flatten.getD p 0 = if p < j * m then F p else F (p + m)
  | 0, h, _ => absurd h (Nat.not_lt_zero _)
  | k + 1, h, ha => by
    rcases Nat.lt_or_ge j k with q | q
    · obtain ⟨i1, i2⟩ := selD_one hj k q (fun i hi hn => ha i (by omega) hn)
      rw [selD_kept (ha k (by omega) (by omega))]
      refine ⟨by rw [List.length_append, i1]; simp; omega, fun p hp => ?_⟩
      have hfl : (selD F m D k).flatten.length = (k - 1) * m := by rw [flat_len _ (selD_len F m D k), i1]
      rw [List.flatten_append, List.getD_eq_getElem?_getD]
      by_cases hq : p < (k - 1) * m
      · rw [List.getElem?_append_left (by rw [hfl]; exact hq), ← List.getD_eq_getElem?_getD]
        exact i2 p hq
      · have e1 : (k + 1 - 1) * m = (k - 1) * m + m := by rw [show k + 1 - 1 = (k - 1) + 1 by omega, Nat.succ_mul]
        have e2 : j * m ≤ (k - 1) * m := Nat.mul_le_mul_right m (by omega)
        have e3 : k * m = (k - 1) * m + m := by rw [← Nat.succ_mul, show (k - 1).succ = k by omega]
        rw [List.getElem?_append_right (by rw [hfl]; omega), hfl, if_neg (by omega), ← List.getD_eq_getElem?_getD]
        simp only [List.flatten_cons, List.flatten_nil, List.append_nil]
        rw [struD_get F m k _ (by omega)]
        congr 1
        omega
    · obtain rfl : j = k := by omega
      rw [selD_gone hj]
      obtain ⟨i1, i2⟩ := selD_same (fun i hi => ha i (by omega) (by omega)) (F := F) (m := m) (D := D) (k := j)
      refine ⟨by rw [i1]; omega, fun p hp => ?_⟩
      rw [show j + 1 - 1 = j by omega] at hp
      rw [i2 p hp, if_pos hp]
/-- Cells of a store without a fault: no two of one key and start. -/
theorem cell_once {S : Sto} (h : scan (cellF S.c) S.nc = 0) {a s : Int} {i j : Nat} (hi : i < S.nc) (hj : j < S.nc) (h1 : cellIs S.c a s i) (h2 : cellIs S.c a s j) : i = j := by
  unfold cellIs at h1 h2
  rcases Nat.lt_trichotomy i j with q | q | q
  · have := cells_rise h j hj i q
    unfold pairLt at this
    omega
  · exact q
  · have := cells_rise h i hi j q
    unfold pairLt at this
    omega
theorem cellAt_isO (S : Sto) (b oo : Nat) (v0 v1 v2 : Value) (a s r : Int) (w : World) (h : LiesO w b oo S v0 v1 v2) (hn : S.nc ≤ 200) (hr : FirstAt (cellIs S.c a s) S.nc r) :
    Calls Tryz.prog 75 #[.pointer (some ⟨b, oo, none⟩), .int .i64 a, .int .i64 s] w fun e w' => e = .returned (.int .i64 r) ∧ w' = w :=
  (l2Cell_anyO S b oo v0 v1 v2 a s w h hn).mono fun e w' ⟨r', he, hf, hw⟩ => ⟨by rw [he, hf.one hr], hw⟩
theorem cellAt_is (S : Sto) (b : Nat) (v0 v1 v2 : Value) (a s r : Int) (w : World) (h : Lies w b S v0 v1 v2) (hn : S.nc ≤ 200) (hr : FirstAt (cellIs S.c a s) S.nc r) :
    Calls Tryz.prog 75 #[.pointer (some ⟨b, 0, none⟩), .int .i64 a, .int .i64 s] w fun e w' => e = .returned (.int .i64 r) ∧ w' = w := cellAt_isO S b 0 v0 v1 v2 a s r w h hn hr
end

section
open Go.RowKit Go.Lib
set_option maxRecDepth 100000 in
set_option maxHeartbeats 8000000 in
theorem l3Roll_sameO (S : Sto) (b oo : Nat) (v0 v1 v2 : Value) (a s : Int) (i : Nat) (w : World) (h : LiesO w b oo S v0 v1 v2) (hz : storeF S = 0) (hi : FirstAt (writeIs S.k a s) S.nw i) (hc : S.k (i * 4 + 3) = 4) :
    Calls Tryz.prog 89 #[.pointer (some ⟨b, oo, none⟩), .int .i64 a, .int .i64 s] w (ResStoK w 0 S) := by
  have hin : i < S.nw := hi.at.1
  obtain ⟨a0, c0, a1, c1, a2, c2, rfl, rfl, rfl⟩ := h.2.form
  have H : Hid (LiesO w b oo S (.slice a0 S.nc c0) (.slice a1 S.nl c1) (.slice a2 S.nw c2)) := h
  obtain ⟨p0, p1, p2⟩ := h.1
  have hb := h.lt
  obtain ⟨⟨hn0, hn1, hn2⟩, _⟩ := storeF_zero hz
  clear h
  go_enter Tryz.func89, Tryz.ntmps89
  go_wp2_with fail
  refine (l2Copy_own S _ _ _ 0 _ (H.out.2.alloc _) ⟨by omega, by omega, by omega⟩).mono ?_
  rintro e w2 ⟨d0, e0, d1, e1, d2, e2, rfl, o2, q2⟩
  have g0 := own_cap o2.1.1
  have g1 := own_cap o2.1.2.1
  have g2 := own_cap o2.1.2.2
  obtain ⟨s2, fr2, ap2⟩ := o2.all
  simp only [World.size_alloc] at s2 q2 o2
  have BW2 : Below w.heap.size w w2 := (below_alloc w _).trans (q2.mono (Nat.le_succ _))
  have HE : Hid (CmE w b oo S (.slice a0 S.nc c0) (.slice a1 S.nl c1) (.slice a2 S.nw c2) w2.heap.size (.slice d0 S.nc e0) (.slice d1 S.nl e1) (.slice d2 S.nw e2) (w2.alloc (.cells #[.slice d0 S.nc e0, .slice d1 S.nl e1, .slice d2 S.nw e2] 28))) :=
    ⟨((Blk4.new w _ _ _ _ _).kept (q2.block w.heap.size (Nat.lt_succ_self _))).alloc _, Blk3.new _ _ _ _ _, (H.out.later BW2).later (below_alloc _ _), BW2.trans ((below_alloc w2 _).mono BW2.size)⟩
  have HS : Hid ((St w2 (w.heap.size + 1) S (.slice d0 S.nc e0) (.slice d1 S.nl e1) (.slice d2 S.nw e2) ∧ FreeS w2 S (.slice d0 S.nc e0) (.slice d1 S.nl e1) (.slice d2 S.nw e2)) ∧ ApartD S (.slice d0 S.nc e0) (.slice d1 S.nl e1) (.slice d2 S.nw e2)) := ⟨⟨s2, fr2⟩, ap2⟩
  have HOS : Hid (OwnS w2 (w.heap.size + 1) S (.slice d0 S.nc e0) (.slice d1 S.nl e1) (.slice d2 S.nw e2)) := o2
  have hzw : w.heap.size < w2.heap.size := by have := q2.size; simp at this; omega
  have B23 : Hid (Below w2.heap.size w2 (w2.alloc (.cells #[.slice d0 S.nc e0, .slice d1 S.nl e1, .slice d2 S.nw e2] 28))) := below_alloc _ _
  have hbl : b < w2.heap.size := Nat.lt_trans hb hzw
  clear o2 s2 fr2 ap2 q2 BW2 p0 p1 p2
  go_wp2_with fail
  generalize w2.alloc (.cells #[.slice d0 S.nc e0, .slice d1 S.nl e1, .slice d2 S.nw e2] 28) = w3 at HE B23 ⊢
  have hz3 : w2.heap.size < w3.heap.size := HE.out.2.1.lt
  refine (l2Write_isO S b oo _ _ _ a s i _ HE.out.2.2.1 hn2 hi).mono ?_
  rintro e w' ⟨rfl, rfl⟩
  obtain ⟨⟨⟨r0, r1, r2, r3⟩, f0, f1, f2, f3⟩, ⟨⟨t0, t1, t2⟩, _⟩, ⟨⟨p0, p1, p2⟩, pst⟩, _⟩ := HE.out
  obtain ⟨g, o, hg, _, hgl, x0, x1, x2, x3⟩ := pst.2.2.at4 hin
  subst hg
  rw [hc] at x3
  unfold ResStoK
  clear pst
  go_wp2
  have S3 : St w' (w.heap.size + 1) S (.slice d0 S.nc e0) (.slice d1 S.nl e1) (.slice d2 S.nw e2) := HS.out.1.1.later B23.out
  have O3 := HOS.out.later B23.out
  have hlo : (w.heap.size : Nat) < w.heap.size + 1 := Nat.lt_succ_self _
  exact bodyPost_ret (v := .agg #[.int .i64 0, .slice d0 S.nc e0, .slice d1 S.nl e1, .slice d2 S.nw e2]) (by simp [results, Tryz.results89, go_sem, r0, r1, r2, r3]) rfl ⟨d0, e0, d1, e1, d2, e2, rfl, ((((O3.far hlo _).far hlo _).far hlo _).far hlo _).mono (by omega), (((HE.out.2.2.2.setCell (Nat.le_refl _) _).setCell (Nat.le_refl _) _).setCell (Nat.le_refl _) _).setCell (Nat.le_refl _) _⟩
set_option maxRecDepth 100000 in
set_option maxHeartbeats 8000000 in
theorem l3Roll_takenO (S : Sto) (b oo : Nat) (v0 v1 v2 : Value) (a s : Int) (i : Nat) (w : World) (h : LiesO w b oo S v0 v1 v2) (hz : storeF S = 0) (hi : FirstAt (writeIs S.k a s) S.nw i) (hc : S.k (i * 4 + 3) ≠ 4) :
    Calls Tryz.prog 89 #[.pointer (some ⟨b, oo, none⟩), .int .i64 a, .int .i64 s] w (ResStoK w 6 emptyS) := by
  have hin : i < S.nw := hi.at.1
  obtain ⟨a0, c0, a1, c1, a2, c2, rfl, rfl, rfl⟩ := h.2.form
  have H : Hid (LiesO w b oo S (.slice a0 S.nc c0) (.slice a1 S.nl c1) (.slice a2 S.nw c2)) := h
  obtain ⟨p0, p1, p2⟩ := h.1
  have hb := h.lt
  obtain ⟨⟨hn0, hn1, hn2⟩, _⟩ := storeF_zero hz
  clear h
  go_enter Tryz.func89, Tryz.ntmps89
  go_wp2_with fail
  refine (l2Copy_own S _ _ _ 0 _ (H.out.2.alloc _) ⟨by omega, by omega, by omega⟩).mono ?_
  rintro e w2 ⟨d0, e0, d1, e1, d2, e2, rfl, o2, q2⟩
  have g0 := own_cap o2.1.1
  have g1 := own_cap o2.1.2.1
  have g2 := own_cap o2.1.2.2
  obtain ⟨s2, fr2, ap2⟩ := o2.all
  simp only [World.size_alloc] at s2 q2 o2
  have BW2 : Below w.heap.size w w2 := (below_alloc w _).trans (q2.mono (Nat.le_succ _))
  have HE : Hid (CmE w b oo S (.slice a0 S.nc c0) (.slice a1 S.nl c1) (.slice a2 S.nw c2) w2.heap.size (.slice d0 S.nc e0) (.slice d1 S.nl e1) (.slice d2 S.nw e2) (w2.alloc (.cells #[.slice d0 S.nc e0, .slice d1 S.nl e1, .slice d2 S.nw e2] 28))) :=
    ⟨((Blk4.new w _ _ _ _ _).kept (q2.block w.heap.size (Nat.lt_succ_self _))).alloc _, Blk3.new _ _ _ _ _, (H.out.later BW2).later (below_alloc _ _), BW2.trans ((below_alloc w2 _).mono BW2.size)⟩
  have HS : Hid ((St w2 (w.heap.size + 1) S (.slice d0 S.nc e0) (.slice d1 S.nl e1) (.slice d2 S.nw e2) ∧ FreeS w2 S (.slice d0 S.nc e0) (.slice d1 S.nl e1) (.slice d2 S.nw e2)) ∧ ApartD S (.slice d0 S.nc e0) (.slice d1 S.nl e1) (.slice d2 S.nw e2)) := ⟨⟨s2, fr2⟩, ap2⟩
  have HOS : Hid (OwnS w2 (w.heap.size + 1) S (.slice d0 S.nc e0) (.slice d1 S.nl e1) (.slice d2 S.nw e2)) := o2
  have hzw : w.heap.size < w2.heap.size := by have := q2.size; simp at this; omega
  have B23 : Hid (Below w2.heap.size w2 (w2.alloc (.cells #[.slice d0 S.nc e0, .slice d1 S.nl e1, .slice d2 S.nw e2] 28))) := below_alloc _ _
  have hbl : b < w2.heap.size := Nat.lt_trans hb hzw
  clear o2 s2 fr2 ap2 q2 BW2 p0 p1 p2
  go_wp2_with fail
  generalize w2.alloc (.cells #[.slice d0 S.nc e0, .slice d1 S.nl e1, .slice d2 S.nw e2] 28) = w3 at HE B23 ⊢
  have hz3 : w2.heap.size < w3.heap.size := HE.out.2.1.lt
  refine (l2Write_isO S b oo _ _ _ a s i _ HE.out.2.2.1 hn2 hi).mono ?_
  rintro e w' ⟨rfl, rfl⟩
  obtain ⟨⟨⟨r0, r1, r2, r3⟩, f0, f1, f2, f3⟩, ⟨⟨t0, t1, t2⟩, _⟩, ⟨⟨p0, p1, p2⟩, pst⟩, _⟩ := HE.out
  obtain ⟨g, o, hg, _, hgl, x0, x1, x2, x3⟩ := pst.2.2.at4 hin
  subst hg
  obtain ⟨y, hy⟩ : ∃ y, S.k (i * 4 + 3) = y := ⟨_, rfl⟩
  rw [hy] at x3 hc
  have dc : (y == 4) = false := beq_eq_false_iff_ne.2 hc
  unfold ResStoK
  clear pst hc hy
  go_wp2_with fail
  refine (l3Bad_own 6 _).mono ?_
  rintro e w4 ⟨y0, z0, y1, z1, y2, z2, rfl, o4, q4⟩
  have S4 : Hid (OwnS w4 (w.heap.size + 1) emptyS (.slice y0 emptyS.nc z0) (.slice y1 emptyS.nl z1) (.slice y2 emptyS.nw z2)) := o4.mono (Nat.le_trans hzw (Nat.le_of_lt hz3))
  have HBW : Hid (Below w.heap.size w w4) := HE.out.2.2.2.trans (q4.mono HE.out.2.2.2.size)
  obtain ⟨⟨r0, r1, r2, r3⟩, f0, f1, f2, f3⟩ := HE.out.1.later q4
  clear o4 q4
  have hlo : (w.heap.size : Nat) < w.heap.size + 1 := Nat.lt_succ_self _
  go_wp2
  exact bodyPost_ret (v := .agg #[.int .i64 6, .slice y0 emptyS.nc z0, .slice y1 emptyS.nl z1, .slice y2 emptyS.nw z2]) (by simp [results, Tryz.results89, go_sem, r0, r1, r2, r3]) rfl ⟨y0, z0, y1, z1, y2, z2, rfl, ((((S4.out.far hlo _).far hlo _).far hlo _).far hlo _).mono (by omega), (((HBW.out.setCell (Nat.le_refl _) _).setCell (Nat.le_refl _) _).setCell (Nat.le_refl _) _).setCell (Nat.le_refl _) _⟩
set_option maxRecDepth 100000 in
set_option maxHeartbeats 8000000 in
theorem l3Roll_atO (S : Sto) (b oo : Nat) (v0 v1 v2 : Value) (a s : Int) (w : World) (h : LiesO w b oo S v0 v1 v2) (hz : storeF S = 0) (hi : FirstAt (writeIs S.k a s) S.nw (-1)) (hat : ∃ i, i < S.nw ∧ writeAt S.k a s i) :
    Calls Tryz.prog 89 #[.pointer (some ⟨b, oo, none⟩), .int .i64 a, .int .i64 s] w (ResStoK w 6 emptyS) := by
  obtain ⟨a0, c0, a1, c1, a2, c2, rfl, rfl, rfl⟩ := h.2.form
  have H : Hid (LiesO w b oo S (.slice a0 S.nc c0) (.slice a1 S.nl c1) (.slice a2 S.nw c2)) := h
  obtain ⟨p0, p1, p2⟩ := h.1
  have hb := h.lt
  obtain ⟨⟨hn0, hn1, hn2⟩, _⟩ := storeF_zero hz
  clear h
  go_enter Tryz.func89, Tryz.ntmps89
  go_wp2_with fail
  refine (l2Copy_own S _ _ _ 0 _ (H.out.2.alloc _) ⟨by omega, by omega, by omega⟩).mono ?_
  rintro e w2 ⟨d0, e0, d1, e1, d2, e2, rfl, o2, q2⟩
  have g0 := own_cap o2.1.1
  have g1 := own_cap o2.1.2.1
  have g2 := own_cap o2.1.2.2
  obtain ⟨s2, fr2, ap2⟩ := o2.all
  simp only [World.size_alloc] at s2 q2 o2
  have BW2 : Below w.heap.size w w2 := (below_alloc w _).trans (q2.mono (Nat.le_succ _))
  have HE : Hid (CmE w b oo S (.slice a0 S.nc c0) (.slice a1 S.nl c1) (.slice a2 S.nw c2) w2.heap.size (.slice d0 S.nc e0) (.slice d1 S.nl e1) (.slice d2 S.nw e2) (w2.alloc (.cells #[.slice d0 S.nc e0, .slice d1 S.nl e1, .slice d2 S.nw e2] 28))) :=
    ⟨((Blk4.new w _ _ _ _ _).kept (q2.block w.heap.size (Nat.lt_succ_self _))).alloc _, Blk3.new _ _ _ _ _, (H.out.later BW2).later (below_alloc _ _), BW2.trans ((below_alloc w2 _).mono BW2.size)⟩
  have HS : Hid ((St w2 (w.heap.size + 1) S (.slice d0 S.nc e0) (.slice d1 S.nl e1) (.slice d2 S.nw e2) ∧ FreeS w2 S (.slice d0 S.nc e0) (.slice d1 S.nl e1) (.slice d2 S.nw e2)) ∧ ApartD S (.slice d0 S.nc e0) (.slice d1 S.nl e1) (.slice d2 S.nw e2)) := ⟨⟨s2, fr2⟩, ap2⟩
  have HOS : Hid (OwnS w2 (w.heap.size + 1) S (.slice d0 S.nc e0) (.slice d1 S.nl e1) (.slice d2 S.nw e2)) := o2
  have hzw : w.heap.size < w2.heap.size := by have := q2.size; simp at this; omega
  have B23 : Hid (Below w2.heap.size w2 (w2.alloc (.cells #[.slice d0 S.nc e0, .slice d1 S.nl e1, .slice d2 S.nw e2] 28))) := below_alloc _ _
  have hbl : b < w2.heap.size := Nat.lt_trans hb hzw
  clear o2 s2 fr2 ap2 q2 BW2 p0 p1 p2
  go_wp2_with fail
  generalize w2.alloc (.cells #[.slice d0 S.nc e0, .slice d1 S.nl e1, .slice d2 S.nw e2] 28) = w3 at HE B23 ⊢
  have hz3 : w2.heap.size < w3.heap.size := HE.out.2.1.lt
  refine (l2Write_isO S b oo _ _ _ a s (-1) _ HE.out.2.2.1 hn2 hi).mono ?_
  rintro e w' ⟨rfl, rfl⟩
  obtain ⟨⟨⟨r0, r1, r2, r3⟩, f0, f1, f2, f3⟩, ⟨⟨t0, t1, t2⟩, _⟩, ⟨⟨p0, p1, p2⟩, pst⟩, _⟩ := HE.out
  unfold ResStoK
  clear pst
  go_wp2_with fail
  refine (l3At_anyO S b oo _ _ _ a s _ HE.out.2.2.1 hn2).mono ?_
  rintro e w5 ⟨r, rfl, hr, rfl⟩
  obtain rfl : r = true := hr.2 hat
  clear hr hat
  go_wp2_with fail
  refine (l3Bad_own 6 _).mono ?_
  rintro e w4 ⟨y0, z0, y1, z1, y2, z2, rfl, o4, q4⟩
  have S4 : Hid (OwnS w4 (w.heap.size + 1) emptyS (.slice y0 emptyS.nc z0) (.slice y1 emptyS.nl z1) (.slice y2 emptyS.nw z2)) := o4.mono (Nat.le_trans hzw (Nat.le_of_lt hz3))
  have HBW : Hid (Below w.heap.size w w4) := HE.out.2.2.2.trans (q4.mono HE.out.2.2.2.size)
  obtain ⟨⟨r0, r1, r2, r3⟩, f0, f1, f2, f3⟩ := HE.out.1.later q4
  clear o4 q4
  have hlo : (w.heap.size : Nat) < w.heap.size + 1 := Nat.lt_succ_self _
  go_wp2
  exact bodyPost_ret (v := .agg #[.int .i64 6, .slice y0 emptyS.nc z0, .slice y1 emptyS.nl z1, .slice y2 emptyS.nw z2]) (by simp [results, Tryz.results89, go_sem, r0, r1, r2, r3]) rfl ⟨y0, z0, y1, z1, y2, z2, rfl, ((((S4.out.far hlo _).far hlo _).far hlo _).far hlo _).mono (by omega), (((HBW.out.setCell (Nat.le_refl _) _).setCell (Nat.le_refl _) _).setCell (Nat.le_refl _) _).setCell (Nat.le_refl _) _⟩
set_option maxRecDepth 100000 in
set_option maxHeartbeats 8000000 in
theorem l3Roll_manyO (S : Sto) (b oo : Nat) (v0 v1 v2 : Value) (a s : Int) (w : World) (h : LiesO w b oo S v0 v1 v2) (hz : storeF S = 0) (hi : FirstAt (writeIs S.k a s) S.nw (-1)) (hat : ¬ ∃ i, i < S.nw ∧ writeAt S.k a s i) (hm : 200 ≤ S.nw) :
    Calls Tryz.prog 89 #[.pointer (some ⟨b, oo, none⟩), .int .i64 a, .int .i64 s] w (ResStoK w 2 emptyS) := by
  have dm : decide ((200 : Int) ≤ (S.nw : Int)) = true := decide_eq_true (by omega)
  clear hm
  obtain ⟨a0, c0, a1, c1, a2, c2, rfl, rfl, rfl⟩ := h.2.form
  have H : Hid (LiesO w b oo S (.slice a0 S.nc c0) (.slice a1 S.nl c1) (.slice a2 S.nw c2)) := h
  obtain ⟨p0, p1, p2⟩ := h.1
  have hb := h.lt
  obtain ⟨⟨hn0, hn1, hn2⟩, _⟩ := storeF_zero hz
  clear h
  go_enter Tryz.func89, Tryz.ntmps89
  go_wp2_with fail
  refine (l2Copy_own S _ _ _ 0 _ (H.out.2.alloc _) ⟨by omega, by omega, by omega⟩).mono ?_
  rintro e w2 ⟨d0, e0, d1, e1, d2, e2, rfl, o2, q2⟩
  have g0 := own_cap o2.1.1
  have g1 := own_cap o2.1.2.1
  have g2 := own_cap o2.1.2.2
  obtain ⟨s2, fr2, ap2⟩ := o2.all
  simp only [World.size_alloc] at s2 q2 o2
  have BW2 : Below w.heap.size w w2 := (below_alloc w _).trans (q2.mono (Nat.le_succ _))
  have HE : Hid (CmE w b oo S (.slice a0 S.nc c0) (.slice a1 S.nl c1) (.slice a2 S.nw c2) w2.heap.size (.slice d0 S.nc e0) (.slice d1 S.nl e1) (.slice d2 S.nw e2) (w2.alloc (.cells #[.slice d0 S.nc e0, .slice d1 S.nl e1, .slice d2 S.nw e2] 28))) :=
    ⟨((Blk4.new w _ _ _ _ _).kept (q2.block w.heap.size (Nat.lt_succ_self _))).alloc _, Blk3.new _ _ _ _ _, (H.out.later BW2).later (below_alloc _ _), BW2.trans ((below_alloc w2 _).mono BW2.size)⟩
  have HS : Hid ((St w2 (w.heap.size + 1) S (.slice d0 S.nc e0) (.slice d1 S.nl e1) (.slice d2 S.nw e2) ∧ FreeS w2 S (.slice d0 S.nc e0) (.slice d1 S.nl e1) (.slice d2 S.nw e2)) ∧ ApartD S (.slice d0 S.nc e0) (.slice d1 S.nl e1) (.slice d2 S.nw e2)) := ⟨⟨s2, fr2⟩, ap2⟩
  have HOS : Hid (OwnS w2 (w.heap.size + 1) S (.slice d0 S.nc e0) (.slice d1 S.nl e1) (.slice d2 S.nw e2)) := o2
  have hzw : w.heap.size < w2.heap.size := by have := q2.size; simp at this; omega
  have B23 : Hid (Below w2.heap.size w2 (w2.alloc (.cells #[.slice d0 S.nc e0, .slice d1 S.nl e1, .slice d2 S.nw e2] 28))) := below_alloc _ _
  have hbl : b < w2.heap.size := Nat.lt_trans hb hzw
  clear o2 s2 fr2 ap2 q2 BW2 p0 p1 p2
  go_wp2_with fail
  generalize w2.alloc (.cells #[.slice d0 S.nc e0, .slice d1 S.nl e1, .slice d2 S.nw e2] 28) = w3 at HE B23 ⊢
  have hz3 : w2.heap.size < w3.heap.size := HE.out.2.1.lt
  refine (l2Write_isO S b oo _ _ _ a s (-1) _ HE.out.2.2.1 hn2 hi).mono ?_
  rintro e w' ⟨rfl, rfl⟩
  obtain ⟨⟨⟨r0, r1, r2, r3⟩, f0, f1, f2, f3⟩, ⟨⟨t0, t1, t2⟩, _⟩, ⟨⟨p0, p1, p2⟩, pst⟩, _⟩ := HE.out
  unfold ResStoK
  clear pst
  go_wp2_with fail
  refine (l3At_anyO S b oo _ _ _ a s _ HE.out.2.2.1 hn2).mono ?_
  rintro e w5 ⟨r, rfl, hr, rfl⟩
  obtain rfl : r = false := bool_no hr hat
  clear hr hat
  go_wp2_with fail
  refine (l3Bad_own 2 _).mono ?_
  rintro e w4 ⟨y0, z0, y1, z1, y2, z2, rfl, o4, q4⟩
  have S4 : Hid (OwnS w4 (w.heap.size + 1) emptyS (.slice y0 emptyS.nc z0) (.slice y1 emptyS.nl z1) (.slice y2 emptyS.nw z2)) := o4.mono (Nat.le_trans hzw (Nat.le_of_lt hz3))
  have HBW : Hid (Below w.heap.size w w4) := HE.out.2.2.2.trans (q4.mono HE.out.2.2.2.size)
  obtain ⟨⟨r0, r1, r2, r3⟩, f0, f1, f2, f3⟩ := HE.out.1.later q4
  clear o4 q4
  have hlo : (w.heap.size : Nat) < w.heap.size + 1 := Nat.lt_succ_self _
  go_wp2
  exact bodyPost_ret (v := .agg #[.int .i64 2, .slice y0 emptyS.nc z0, .slice y1 emptyS.nl z1, .slice y2 emptyS.nw z2]) (by simp [results, Tryz.results89, go_sem, r0, r1, r2, r3]) rfl ⟨y0, z0, y1, z1, y2, z2, rfl, ((((S4.out.far hlo _).far hlo _).far hlo _).far hlo _).mono (by omega), (((HBW.out.setCell (Nat.le_refl _) _).setCell (Nat.le_refl _) _).setCell (Nat.le_refl _) _).setCell (Nat.le_refl _) _⟩
set_option maxRecDepth 100000 in
set_option maxHeartbeats 8000000 in
theorem l3Roll_noneO (S : Sto) (b oo : Nat) (v0 v1 v2 : Value) (a s : Int) (k : Nat) (w : World) (h : LiesO w b oo S v0 v1 v2) (hz : storeF S = 0) (hi : FirstAt (writeIs S.k a s) S.nw (-1)) (hat : ¬ ∃ i, i < S.nw ∧ writeAt S.k a s i) (hm : S.nw < 200) (hk : placeAt (aheadW S.k a s) S.nw k) (hcl : FirstAt (cellIs S.c a s) S.nc (-1)) :
    Calls Tryz.prog 89 #[.pointer (some ⟨b, oo, none⟩), .int .i64 a, .int .i64 s] w (ResStoK w 0 (rollS S a s k)) := by
  have dm : decide ((200 : Int) ≤ (S.nw : Int)) = false := decide_eq_false (by omega)
  have HK : Hid (placeAt (aheadW S.k a s) S.nw k) := hk
  clear hm hk
  obtain ⟨a0, c0, a1, c1, a2, c2, rfl, rfl, rfl⟩ := h.2.form
  have H : Hid (LiesO w b oo S (.slice a0 S.nc c0) (.slice a1 S.nl c1) (.slice a2 S.nw c2)) := h
  obtain ⟨p0, p1, p2⟩ := h.1
  have hb := h.lt
  obtain ⟨⟨hn0, hn1, hn2⟩, _⟩ := storeF_zero hz
  clear h
  go_enter Tryz.func89, Tryz.ntmps89
  go_wp2_with fail
  refine (l2Copy_own S _ _ _ 0 _ (H.out.2.alloc _) ⟨by omega, by omega, by omega⟩).mono ?_
  rintro e w2 ⟨d0, e0, d1, e1, d2, e2, rfl, o2, q2⟩
  have g0 := own_cap o2.1.1
  have g1 := own_cap o2.1.2.1
  have g2 := own_cap o2.1.2.2
  obtain ⟨s2, fr2, ap2⟩ := o2.all
  simp only [World.size_alloc] at s2 q2 o2
  have BW2 : Below w.heap.size w w2 := (below_alloc w _).trans (q2.mono (Nat.le_succ _))
  have HE : Hid (CmE w b oo S (.slice a0 S.nc c0) (.slice a1 S.nl c1) (.slice a2 S.nw c2) w2.heap.size (.slice d0 S.nc e0) (.slice d1 S.nl e1) (.slice d2 S.nw e2) (w2.alloc (.cells #[.slice d0 S.nc e0, .slice d1 S.nl e1, .slice d2 S.nw e2] 28))) :=
    ⟨((Blk4.new w _ _ _ _ _).kept (q2.block w.heap.size (Nat.lt_succ_self _))).alloc _, Blk3.new _ _ _ _ _, (H.out.later BW2).later (below_alloc _ _), BW2.trans ((below_alloc w2 _).mono BW2.size)⟩
  have HS : Hid ((St w2 (w.heap.size + 1) S (.slice d0 S.nc e0) (.slice d1 S.nl e1) (.slice d2 S.nw e2) ∧ FreeS w2 S (.slice d0 S.nc e0) (.slice d1 S.nl e1) (.slice d2 S.nw e2)) ∧ ApartD S (.slice d0 S.nc e0) (.slice d1 S.nl e1) (.slice d2 S.nw e2)) := ⟨⟨s2, fr2⟩, ap2⟩
  have HOS : Hid (OwnS w2 (w.heap.size + 1) S (.slice d0 S.nc e0) (.slice d1 S.nl e1) (.slice d2 S.nw e2)) := o2
  have hzw : w.heap.size < w2.heap.size := by have := q2.size; simp at this; omega
  have B23 : Hid (Below w2.heap.size w2 (w2.alloc (.cells #[.slice d0 S.nc e0, .slice d1 S.nl e1, .slice d2 S.nw e2] 28))) := below_alloc _ _
  have hbl : b < w2.heap.size := Nat.lt_trans hb hzw
  clear o2 s2 fr2 ap2 q2 BW2 p0 p1 p2
  go_wp2_with fail
  generalize w2.alloc (.cells #[.slice d0 S.nc e0, .slice d1 S.nl e1, .slice d2 S.nw e2] 28) = w3 at HE B23 ⊢
  have hz3 : w2.heap.size < w3.heap.size := HE.out.2.1.lt
  refine (l2Write_isO S b oo _ _ _ a s (-1) _ HE.out.2.2.1 hn2 hi).mono ?_
  rintro e w' ⟨rfl, rfl⟩
  obtain ⟨⟨⟨r0, r1, r2, r3⟩, f0, f1, f2, f3⟩, ⟨⟨t0, t1, t2⟩, ft0, ft1, ft2⟩, ⟨⟨p0, p1, p2⟩, pst⟩, _⟩ := HE.out
  clear pst
  go_wp2_with fail
  refine (l3At_anyO S b oo _ _ _ a s _ HE.out.2.2.1 hn2).mono ?_
  rintro e w5 ⟨r, rfl, hr, rfl⟩
  obtain rfl : r = false := bool_no hr hat
  clear hr hat
  go_wp2_with fail
  refine (l3Unlock_any S.nl S.l _ (w.heap.size + 1) a s _ (HS.out.1.1.later B23.out).2.1 (by omega)).mono ?_
  rintro e w6 ⟨y1, z1, rfl, O6, q6⟩
  have ft1' : w6.frozen? ⟨w2.heap.size, 1, none⟩ = false := (q6.frozen (p := ⟨w2.heap.size, 1, none⟩) hz3).trans ft1
  have t1' : w6.cell? ⟨w2.heap.size, 1, none⟩ = some (.slice d1 S.nl e1) := (q6.cell (p := ⟨w2.heap.size, 1, none⟩) hz3).trans t1
  have HE6 : Hid (CmE w b oo S (.slice a0 S.nc c0) (.slice a1 S.nl c1) (.slice a2 S.nw c2) w2.heap.size (.slice d0 S.nc e0) (.slice d1 S.nl e1) (.slice d2 S.nw e2) w6) := HE.out.later q6
  have B26 : Hid (Below w2.heap.size w2 w6) := B23.out.trans (q6.mono (Nat.le_of_lt hz3))
  obtain ⟨U, hU⟩ : ∃ U, unlL S.l a s S.nl = U := ⟨_, rfl⟩
  have HU : Hid (unlL S.l a s S.nl = U) := hU
  rw [hU] at O6
  have O6' : Hid (OwnM w6 w5.heap.size 62 5 (.slice y1 U.length z1) U.length U.flatten) := O6
  have hz6 : w5.heap.size ≤ w6.heap.size := q6.size
  rw [hU]
  clear O6 q6 hU r0 r1 r2 r3 f0 f1 f2 f3 t0 t1 t2 ft0 ft1 ft2 p0 p1 p2
  go_upto_region 12 with fail
  -- the world behind the store of the locks
  have BX : Hid (Below w.heap.size w (w6.setCell ⟨w2.heap.size, 1, none⟩ (.slice y1 U.length z1))) := HE6.out.2.2.2.setCell (Nat.le_of_lt hzw) _
  have B2X : Hid (Below w2.heap.size w2 (w6.setCell ⟨w2.heap.size, 1, none⟩ (.slice y1 U.length z1))) := B26.out.setCell (Nat.le_refl _) _
  have RX : Hid (Blk4 (w6.setCell ⟨w2.heap.size, 1, none⟩ (.slice y1 U.length z1)) w.heap.size (.int .i64 0) (.slice none 0 0) (.slice none 0 0) (.slice none 0 0)) := HE6.out.1.kept (Below.heap_setCell _ _ _ _ (Nat.ne_of_lt hzw))
  have TX : Hid (Blk3 (w6.setCell ⟨w2.heap.size, 1, none⟩ (.slice y1 U.length z1)) w2.heap.size (.slice d0 S.nc e0) (.slice y1 U.length z1) (.slice d2 S.nw e2)) := HE6.out.2.1.set1 _
  have OX : Hid (OwnM (w6.setCell ⟨w2.heap.size, 1, none⟩ (.slice y1 U.length z1)) w5.heap.size 62 5 (.slice y1 U.length z1) U.length U.flatten) := O6'.out.far hz3 _
  have LX : Hid (LiesO (w6.setCell ⟨w2.heap.size, 1, none⟩ (.slice y1 U.length z1)) b oo S (.slice a0 S.nc c0) (.slice a1 S.nl c1) (.slice a2 S.nw c2)) := H.out.later BX.out
  have zX : w2.heap.size < (w6.setCell ⟨w2.heap.size, 1, none⟩ (.slice y1 U.length z1)).heap.size := TX.out.lt
  have z5X : w5.heap.size ≤ (w6.setCell ⟨w2.heap.size, 1, none⟩ (.slice y1 U.length z1)).heap.size := by simpa [World.setCell] using hz6
  generalize w6.setCell ⟨w2.heap.size, 1, none⟩ (.slice y1 U.length z1) = X0 at BX B2X RX TX OX LX zX z5X ⊢
  clear HE6 O6' B26 hz6 t1' ft1' HE
  go_wp2_with fail
  refine (cellAt_isO S b oo _ _ _ a s (-1) _ LX.out hn0 hcl).mono ?_
  rintro e X1 ⟨rfl, hX1⟩
  obtain rfl := hX1.symm
  clear hX1
  obtain ⟨⟨t0, t1, t2⟩, _⟩ := TX.out
  go_wp2_with fail
  refine (l2AddWrite_any S.nw S.k d2 e2 (w.heap.size + 1) a s s 4 _ (HS.out.1.1.2.2.later B2X.out) (by omega) g2).mono ?_
  rintro e w7 ⟨k', y2, z2, hk', rfl, O7, q7⟩
  obtain rfl : k' = k := hk'.one HK.out
  have BY : Hid (Below w.heap.size w w7) := BX.out.trans (q7.mono BX.out.size)
  have B2Y : Hid (Below w2.heap.size w2 w7) := B2X.out.trans (q7.mono (Nat.le_of_lt zX))
  have RY : Hid (Blk4 w7 w.heap.size (.int .i64 0) (.slice none 0 0) (.slice none 0 0) (.slice none 0 0)) := RX.out.later q7
  have TY : Hid (Blk3 w7 w2.heap.size (.slice d0 (S.nc) e0) (.slice y1 U.length z1) (.slice d2 S.nw e2)) := TX.out.later q7
  have OY : Hid (OwnM w7 w5.heap.size 62 5 (.slice y1 U.length z1) U.length U.flatten) := OX.out.later q7
  have hob : Hid (∀ q, (Value.slice y1 U.length z1).ownBlock = some q → w5.heap.size ≤ q ∧ q < X0.heap.size) := OX.out.block
  have PY : Hid (OwnM w7 X0.heap.size 36 4 (.slice y2 (S.nw + 1) z2) (S.nw + 1) (nums S.k (k' * 4) ++ [a, s, s, 4] ++ nums (fun p => S.k (k' * 4 + p)) ((S.nw - k') * 4))) := O7
  have hkn : k' ≤ S.nw := hk'.1
  have hqX : Hid (Below X0.heap.size X0 w7) := q7
  clear O7 q7 hk' OX RX TX LX BX B2X HK t0 t1 t2
  obtain ⟨⟨t0, t1, t2⟩, ft0, ft1, ft2⟩ := TY.out
  go_upto_region 16 with fail
  have RZ := RY.out.kept (Below.heap_setCell w7 ⟨w2.heap.size, 2, none⟩ (.slice y2 (S.nw + 1) z2) _ (Nat.ne_of_lt hzw))
  have TZ := TY.out.set2 (.slice y2 (S.nw + 1) z2)
  have BZ : Hid (Below w.heap.size w (w7.setCell ⟨w2.heap.size, 2, none⟩ (.slice y2 (S.nw + 1) z2))) := BY.out.setCell (Nat.le_of_lt hzw) _
  have B2Z : Hid (Below w2.heap.size w2 (w7.setCell ⟨w2.heap.size, 2, none⟩ (.slice y2 (S.nw + 1) z2))) := B2Y.out.setCell (Nat.le_refl _) _
  have OZ : Hid (OwnM (w7.setCell ⟨w2.heap.size, 2, none⟩ (.slice y2 (S.nw + 1) z2)) w5.heap.size 62 5 (.slice y1 U.length z1) U.length U.flatten) := OY.out.far hz3 _
  have PZ : Hid (OwnM (w7.setCell ⟨w2.heap.size, 2, none⟩ (.slice y2 (S.nw + 1) z2)) X0.heap.size 36 4 (.slice y2 (S.nw + 1) z2) (S.nw + 1) (nums S.k (k' * 4) ++ [a, s, s, 4] ++ nums (fun p => S.k (k' * 4 + p)) ((S.nw - k') * 4))) := PY.out.far zX _
  generalize w7.setCell ⟨w2.heap.size, 2, none⟩ (.slice y2 (S.nw + 1) z2) = w8 at RZ TZ BZ B2Z OZ PZ ⊢
  clear t0 t1 t2 ft0 ft1 ft2 RY TY BY B2Y OY PY
  obtain ⟨⟨r0, r1, r2, r3⟩, f0, f1, f2, f3⟩ := RZ
  obtain ⟨⟨t0, t1, t2⟩, _⟩ := TZ
  go_wp2
  have hsame := selD_same (F := S.c) (m := 3) (D := goneK a s) (k := S.nc) (fun i hi => goneK_not (by
    rcases hcl with ⟨_, q⟩ | ⟨j, _, q, _⟩
    · exact q i hi
    · omega))
  have hN : (unlC S.c a s S.nc).length = S.nc := hsame.1
  have rC : Own w8 (w.heap.size + 1) 59 3 S.nc (fun p => (unlC S.c a s S.nc).flatten.getD p 0) (.slice d0 S.nc e0) := own_congr (HOS.out.1.1.later B2Z.out) (fun p hp => (hsame.2 p hp).symm)
  have A8 : ApartB (.slice d0 S.nc e0) (.slice y1 U.length z1) (.slice y2 (S.nw + 1) z2) :=
    ⟨fun q a b => by have h1 := (own_blk HOS.out.1.1 q a).2; have h2 := (hob.out q b).1; omega, fun q a b => by have h1 := (own_blk HOS.out.1.1 q a).2; have h2 := (PZ.out.block q b).1; omega, fun q a b => by have h1 := (hob.out q a).2; have h2 := (PZ.out.block q b).1; omega⟩
  have lenL : U.flatten.length = U.length * 5 := flat_len U (by rw [← HU.out]; exact selD_len _ _ _ _)
  have lenW : (nums S.k (k' * 4) ++ [a, s, s, 4] ++ nums (fun p => S.k (k' * 4 + p)) ((S.nw - k') * 4)).length = (S.nw + 1) * 4 := by
    rw [List.length_append, List.length_append, nums_length, nums_length]
    simp only [List.length_cons, List.length_nil]
    omega
  have O8 : OwnS w8 (w.heap.size + 1) (rollS S a s k') (.slice d0 (S.nc) e0) (.slice y1 U.length z1) (.slice y2 (S.nw + 1) z2) := by
    unfold rollS
    rw [HU.out, hN]
    exact ⟨⟨rC, (OZ.out.own lenL).mono (by omega), (PZ.out.own lenW).mono (by omega)⟩, A8⟩
  have hlo : (w.heap.size : Nat) < w.heap.size + 1 := Nat.lt_succ_self _
  have hul : (rollS S a s k').nl = U.length := by unfold rollS; rw [HU.out]
  have hcl' : (rollS S a s k').nc = S.nc := hN
  refine bodyPost_ret (v := .agg #[.int .i64 0, .slice d0 (S.nc) e0, .slice y1 U.length z1, .slice y2 (S.nw + 1) z2]) (by simp [results, Tryz.results89, go_sem, r0, r1, r2, r3]) rfl ?_
  refine ⟨d0, e0, y1, z1, y2, z2, ?_, ?_, (((BZ.out.setCell (Nat.le_refl _) _).setCell (Nat.le_refl _) _).setCell (Nat.le_refl _) _).setCell (Nat.le_refl _) _⟩
  · rw [hul, hcl']; rfl
  · rw [hul, hcl']
    exact ((((O8.far hlo _).far hlo _).far hlo _).far hlo _).mono (by omega)
theorem Row.tailR {w : World} {B m n g o : Nat} {F : Nat → Int} {cp : Nat} (h : Row w B m n F (.slice (some ⟨g, o, none⟩) n cp)) (k : Nat) (hc : n ≤ cp) : Row w B m (n - k) (fun p => F (k * m + p)) (.slice (if cp = k then some ⟨g, o, none⟩ else some ⟨g, o + k * m, none⟩) (n - k) (cp - k)) := by
  by_cases hk : k < n
  · exact h.tailS hk hc
  · exact Row.over _ _ _ _ _ _ _ _ hk
theorem roll_cells {F : Nat → Int} {n j : Nat} (hj : j < n) : ∀ p, p < (n - 1) * 3 → (nums F (j * 3) ++ nums (fun p => F ((j + 1) * 3 + p)) ((n - (j + 1)) * 3)).getD p 0 = if p < j * 3 then F p else F (p + 3) := by
  intro p hp
  rw [List.getD_eq_getElem?_getD]
  by_cases q : p < j * 3
  · rw [List.getElem?_append_left (by rw [nums_length]; exact q), if_pos q]
    simp [nums, q]
  · rw [List.getElem?_append_right (by rw [nums_length]; omega), nums_length, if_neg q]
    have h1 : p - j * 3 < (n - (j + 1)) * 3 := by omega
    simp only [nums, List.getElem?_map, List.getElem?_range h1, Option.map_some, Option.getD_some]
    congr 1
    omega
set_option maxRecDepth 100000 in
set_option maxHeartbeats 16000000 in
theorem l3Roll_cellO (S : Sto) (b oo : Nat) (v0 v1 v2 : Value) (a s : Int) (k j : Nat) (w : World) (h : LiesO w b oo S v0 v1 v2) (hz : storeF S = 0) (hi : FirstAt (writeIs S.k a s) S.nw (-1)) (hat : ¬ ∃ i, i < S.nw ∧ writeAt S.k a s i) (hm : S.nw < 200) (hk : placeAt (aheadW S.k a s) S.nw k) (hcl : FirstAt (cellIs S.c a s) S.nc (j : Int)) :
    Calls Tryz.prog 89 #[.pointer (some ⟨b, oo, none⟩), .int .i64 a, .int .i64 s] w (ResStoK w 0 (rollS S a s k)) := by
  have hjn : j < S.nc := hcl.at.1
  have HZ : Hid (scan (cellF S.c) S.nc = 0) := (storeF_zero hz).2.1
  have dm : decide ((200 : Int) ≤ (S.nw : Int)) = false := decide_eq_false (by omega)
  have HK : Hid (placeAt (aheadW S.k a s) S.nw k) := hk
  clear hm hk
  obtain ⟨a0, c0, a1, c1, a2, c2, rfl, rfl, rfl⟩ := h.2.form
  have H : Hid (LiesO w b oo S (.slice a0 S.nc c0) (.slice a1 S.nl c1) (.slice a2 S.nw c2)) := h
  obtain ⟨p0, p1, p2⟩ := h.1
  have hb := h.lt
  obtain ⟨⟨hn0, hn1, hn2⟩, _⟩ := storeF_zero hz
  clear h
  go_enter Tryz.func89, Tryz.ntmps89
  go_wp2_with fail
  refine (l2Copy_own S _ _ _ 0 _ (H.out.2.alloc _) ⟨by omega, by omega, by omega⟩).mono ?_
  rintro e w2 ⟨d0, e0, d1, e1, d2, e2, rfl, o2, q2⟩
  have g0 := own_cap o2.1.1
  have g1 := own_cap o2.1.2.1
  have g2 := own_cap o2.1.2.2
  obtain ⟨s2, fr2, ap2⟩ := o2.all
  simp only [World.size_alloc] at s2 q2 o2
  have BW2 : Below w.heap.size w w2 := (below_alloc w _).trans (q2.mono (Nat.le_succ _))
  have HE : Hid (CmE w b oo S (.slice a0 S.nc c0) (.slice a1 S.nl c1) (.slice a2 S.nw c2) w2.heap.size (.slice d0 S.nc e0) (.slice d1 S.nl e1) (.slice d2 S.nw e2) (w2.alloc (.cells #[.slice d0 S.nc e0, .slice d1 S.nl e1, .slice d2 S.nw e2] 28))) :=
    ⟨((Blk4.new w _ _ _ _ _).kept (q2.block w.heap.size (Nat.lt_succ_self _))).alloc _, Blk3.new _ _ _ _ _, (H.out.later BW2).later (below_alloc _ _), BW2.trans ((below_alloc w2 _).mono BW2.size)⟩
  have HS : Hid ((St w2 (w.heap.size + 1) S (.slice d0 S.nc e0) (.slice d1 S.nl e1) (.slice d2 S.nw e2) ∧ FreeS w2 S (.slice d0 S.nc e0) (.slice d1 S.nl e1) (.slice d2 S.nw e2)) ∧ ApartD S (.slice d0 S.nc e0) (.slice d1 S.nl e1) (.slice d2 S.nw e2)) := ⟨⟨s2, fr2⟩, ap2⟩
  have HOS : Hid (OwnS w2 (w.heap.size + 1) S (.slice d0 S.nc e0) (.slice d1 S.nl e1) (.slice d2 S.nw e2)) := o2
  have hzw : w.heap.size < w2.heap.size := by have := q2.size; simp at this; omega
  have B23 : Hid (Below w2.heap.size w2 (w2.alloc (.cells #[.slice d0 S.nc e0, .slice d1 S.nl e1, .slice d2 S.nw e2] 28))) := below_alloc _ _
  have hbl : b < w2.heap.size := Nat.lt_trans hb hzw
  clear o2 s2 fr2 ap2 q2 BW2 p0 p1 p2
  go_wp2_with fail
  generalize w2.alloc (.cells #[.slice d0 S.nc e0, .slice d1 S.nl e1, .slice d2 S.nw e2] 28) = w3 at HE B23 ⊢
  have hz3 : w2.heap.size < w3.heap.size := HE.out.2.1.lt
  refine (l2Write_isO S b oo _ _ _ a s (-1) _ HE.out.2.2.1 hn2 hi).mono ?_
  rintro e w' ⟨rfl, rfl⟩
  obtain ⟨⟨⟨r0, r1, r2, r3⟩, f0, f1, f2, f3⟩, ⟨⟨t0, t1, t2⟩, ft0, ft1, ft2⟩, ⟨⟨p0, p1, p2⟩, pst⟩, _⟩ := HE.out
  clear pst
  go_wp2_with fail
  refine (l3At_anyO S b oo _ _ _ a s _ HE.out.2.2.1 hn2).mono ?_
  rintro e w5 ⟨r, rfl, hr, rfl⟩
  obtain rfl : r = false := bool_no hr hat
  clear hr hat
  go_wp2_with fail
  refine (l3Unlock_any S.nl S.l _ (w.heap.size + 1) a s _ (HS.out.1.1.later B23.out).2.1 (by omega)).mono ?_
  rintro e w6 ⟨y1, z1, rfl, O6, q6⟩
  have ft1' : w6.frozen? ⟨w2.heap.size, 1, none⟩ = false := (q6.frozen (p := ⟨w2.heap.size, 1, none⟩) hz3).trans ft1
  have t1' : w6.cell? ⟨w2.heap.size, 1, none⟩ = some (.slice d1 S.nl e1) := (q6.cell (p := ⟨w2.heap.size, 1, none⟩) hz3).trans t1
  have HE6 : Hid (CmE w b oo S (.slice a0 S.nc c0) (.slice a1 S.nl c1) (.slice a2 S.nw c2) w2.heap.size (.slice d0 S.nc e0) (.slice d1 S.nl e1) (.slice d2 S.nw e2) w6) := HE.out.later q6
  have B26 : Hid (Below w2.heap.size w2 w6) := B23.out.trans (q6.mono (Nat.le_of_lt hz3))
  obtain ⟨U, hU⟩ : ∃ U, unlL S.l a s S.nl = U := ⟨_, rfl⟩
  have HU : Hid (unlL S.l a s S.nl = U) := hU
  rw [hU] at O6
  have O6' : Hid (OwnM w6 w5.heap.size 62 5 (.slice y1 U.length z1) U.length U.flatten) := O6
  have hz6 : w5.heap.size ≤ w6.heap.size := q6.size
  rw [hU]
  clear O6 q6 hU r0 r1 r2 r3 f0 f1 f2 f3 t0 t1 t2 ft0 ft1 ft2 p0 p1 p2
  go_upto_region 12 with fail
  -- the world behind the store of the locks
  have BX : Hid (Below w.heap.size w (w6.setCell ⟨w2.heap.size, 1, none⟩ (.slice y1 U.length z1))) := HE6.out.2.2.2.setCell (Nat.le_of_lt hzw) _
  have B2X : Hid (Below w2.heap.size w2 (w6.setCell ⟨w2.heap.size, 1, none⟩ (.slice y1 U.length z1))) := B26.out.setCell (Nat.le_refl _) _
  have RX : Hid (Blk4 (w6.setCell ⟨w2.heap.size, 1, none⟩ (.slice y1 U.length z1)) w.heap.size (.int .i64 0) (.slice none 0 0) (.slice none 0 0) (.slice none 0 0)) := HE6.out.1.kept (Below.heap_setCell _ _ _ _ (Nat.ne_of_lt hzw))
  have TX : Hid (Blk3 (w6.setCell ⟨w2.heap.size, 1, none⟩ (.slice y1 U.length z1)) w2.heap.size (.slice d0 S.nc e0) (.slice y1 U.length z1) (.slice d2 S.nw e2)) := HE6.out.2.1.set1 _
  have OX : Hid (OwnM (w6.setCell ⟨w2.heap.size, 1, none⟩ (.slice y1 U.length z1)) w5.heap.size 62 5 (.slice y1 U.length z1) U.length U.flatten) := O6'.out.far hz3 _
  have LX : Hid (LiesO (w6.setCell ⟨w2.heap.size, 1, none⟩ (.slice y1 U.length z1)) b oo S (.slice a0 S.nc c0) (.slice a1 S.nl c1) (.slice a2 S.nw c2)) := H.out.later BX.out
  have zX : w2.heap.size < (w6.setCell ⟨w2.heap.size, 1, none⟩ (.slice y1 U.length z1)).heap.size := TX.out.lt
  have z5X : w5.heap.size ≤ (w6.setCell ⟨w2.heap.size, 1, none⟩ (.slice y1 U.length z1)).heap.size := by simpa [World.setCell] using hz6
  generalize w6.setCell ⟨w2.heap.size, 1, none⟩ (.slice y1 U.length z1) = X0 at BX B2X RX TX OX LX zX z5X ⊢
  clear HE6 O6' B26 hz6 t1' ft1' HE
  go_wp2_with fail
  refine (cellAt_isO S b oo _ _ _ a s (j : Int) _ LX.out hn0 hcl).mono ?_
  rintro e X1 ⟨rfl, hX1⟩
  obtain rfl := hX1.symm
  clear hX1
  obtain ⟨i0, hi0, hz0, hz1, hz2⟩ := info_parts info_Cell
  obtain ⟨cg, co, hd0, _⟩ := HS.out.1.1.1.at (k := 0) (by omega)
  subst hd0
  have hw1 : IntKind.i64.wrap ((j : Int) + 1) = ((j + 1 : Nat) : Int) := by simp [IntKind.wrap, IntKind.bits, IntKind.signed]; omega
  have hj1 : j + 1 ≤ S.nc := hjn
  have hj2 : j + 1 ≤ e0 := by omega
  have hj3 : j ≤ e0 := by omega
  have hj4 : j ≤ S.nc := by omega
  have hq1 : (0 : Int) ≤ (j : Int) + 1 := by omega
  have hq2 : (j : Int) + 1 ≤ (S.nc : Int) := by omega
  have hq3 : (0 : Int) ≤ (j : Int) + 1 ∧ (j : Int) + 1 ≤ (S.nc : Int) := ⟨hq1, hq2⟩
  obtain ⟨A, hA⟩ : ∃ A, (if e0 = j + 1 then (some ⟨cg, co, none⟩ : Option Addr) else some ⟨cg, co + (j + 1) * 3, none⟩) = A := ⟨_, rfl⟩
  have F0 : X0.drew.cell? ⟨w2.heap.size, 0, none⟩ = some (.slice (some ⟨cg, co, none⟩) S.nc e0) := TX.out.1.1
  have F1 : (X0.alloc (.cells #[] 59)).drew.cell? ⟨w2.heap.size, 0, none⟩ = some (.slice (some ⟨cg, co, none⟩) S.nc e0) := (TX.out.alloc _).1.1
  have F1d : (X0.alloc (.cells #[] 59)).cell? ⟨w2.heap.size, 0, none⟩ = some (.slice (some ⟨cg, co, none⟩) S.nc e0) := (TX.out.alloc _).1.1
  have F0d : X0.cell? ⟨w2.heap.size, 0, none⟩ = some (.slice (some ⟨cg, co, none⟩) S.nc e0) := TX.out.1.1
  have O0 : Hid (OwnM (X0.alloc (.cells #[] 59)).drew X0.heap.size 59 3 (.slice (some ⟨X0.heap.size, 0, none⟩) 0 0) 0 []) := OwnM.lit0 X0.drew X0.heap.size _ _ rfl
  have C0 : Hid (Row (X0.alloc (.cells #[] 59)).drew (w.heap.size + 1) 3 S.nc S.c (.slice (some ⟨cg, co, none⟩) S.nc e0)) := ((HS.out.1.1.1.later B2X.out).drewN 1).alloc _
  go_wp2_with fail
  refine wp_region_held_drew (S := fun _ => True) (by kernel_rfl) trivial (fun hS => ?_)
  refine tkH 1 ?_ hS (fun wx hx => ?_) ?_; rotate_left
  · go_simp; try with_reducible rfl
  refine tkH 3 ?_ hS (fun wx hx => ?_) ?_; rotate_left
  · go_simp; try with_reducible rfl
  refine tkH 6 ?_ hS (fun wx hx => ?_) ?_; rotate_left
  · go_simp; try with_reducible rfl
  refine tkH 8 ?_ hS (fun wx hx => ?_) ?_; rotate_left
  · go_simp; try with_reducible rfl
  refine tkH 9 ?_ hS (fun wx hx => ?_) ?_; rotate_left
  · go_simp; try with_reducible rfl
  refine wpAnyH_ready (rs := [0, 2, 7]) (by kernel_rfl) (by simp) ?_
  refine AllReadyH.cons rfl (fun K hK => ?_) (AllReadyH.cons rfl (fun K hK => ?_) (AllReadyH.cons rfl (fun K hK => ?_) AllReadyH.nil))
  focus
    go_simp
    refine hK.out _ _ trivial (fun hS => ?_)
    clear hK K
    refine wpAnyH_ready (rs := [2, 7]) (by kernel_rfl) (by simp) ?_
    refine AllReadyH.cons rfl (fun K hK => ?_) (AllReadyH.cons rfl (fun K hK => ?_) AllReadyH.nil)
    focus
      go_simp
      refine hK.out _ _ trivial (fun hS => ?_)
      clear hK K
      refine tkH 4 ?_ hS (fun wx hx => ?_) ?_; rotate_left
      · go_simp; try with_reducible rfl
      refine wpAnyH_ready (rs := [5, 7]) (by kernel_rfl) (by simp) ?_
      refine AllReadyH.cons rfl (fun K hK => ?_) (AllReadyH.cons rfl (fun K hK => ?_) AllReadyH.nil)
      focus
        refine step_app 59 i0 (.agg #[.int .i64 0, .int .i64 0, .int .i64 0]) 3 24 (by rfl) _ _ 24 (by rfl) Tryz.underlying24 hi0 hz0 hz1 hz2 rfl (by omega) (by omega) _ X0.heap.size 0 [] (.slice (some ⟨X0.heap.size, 0, none⟩) 0 0) (by rfl) O0.out (w.heap.size + 1) j S.c (.slice (some ⟨cg, co, none⟩) j e0) (by rfl) (C0.out.head hj4 e0) (by omega) (by show X0.heap.size ≤ (World.alloc X0 _).heap.size; simp) ?_
        intro ao5 cp5 w7 O7 G7
        rw [Nat.zero_add, List.nil_append] at O7
        rw [show (0 : Nat) + j = j from Nat.zero_add j]
        have F2 : w7.cell? ⟨w2.heap.size, 0, none⟩ = some (.slice (some ⟨cg, co, none⟩) S.nc e0) := G7.cell F1 (fun q => by simp [Value.ownBlock] at q; omega)
        refine hK.out _ _ trivial (fun hS => ?_)
        clear hK K
        refine rdH 7 (fun K hK => ?_)
        go_simp
        refine hK.out _ _ trivial (fun hS => ?_)
        clear hK K
        refine tkH 10 ?_ hS (fun wx hx => ?_) ?_; rotate_left
        · go_simp; try with_reducible rfl
      rotate_left
      focus
        go_simp
        refine hK.out _ _ trivial (fun hS => ?_)
        clear hK K
        refine tkH 10 ?_ hS (fun wx hx => ?_) ?_; rotate_left
        · go_simp; try with_reducible rfl
        refine rdH 5 (fun K hK => ?_)
        refine step_app 59 i0 (.agg #[.int .i64 0, .int .i64 0, .int .i64 0]) 3 24 (by rfl) _ _ 24 (by rfl) Tryz.underlying24 hi0 hz0 hz1 hz2 rfl (by omega) (by omega) _ X0.heap.size 0 [] (.slice (some ⟨X0.heap.size, 0, none⟩) 0 0) (by rfl) O0.out (w.heap.size + 1) j S.c (.slice (some ⟨cg, co, none⟩) j e0) (by rfl) (C0.out.head hj4 e0) (by omega) (by show X0.heap.size ≤ (World.alloc X0 _).heap.size; simp) ?_
        intro ao5 cp5 w7 O7 G7
        rw [Nat.zero_add, List.nil_append] at O7
        rw [show (0 : Nat) + j = j from Nat.zero_add j]
        have F2 : w7.cell? ⟨w2.heap.size, 0, none⟩ = some (.slice (some ⟨cg, co, none⟩) S.nc e0) := G7.cell F1 (fun q => by simp [Value.ownBlock] at q; omega)
        refine hK.out _ _ trivial (fun hS => ?_)
        clear hK K
      rotate_left
    rotate_left 2
    focus
      go_simp
      refine hK.out _ _ trivial (fun hS => ?_)
      clear hK K
      refine tkH 10 ?_ hS (fun wx hx => ?_) ?_; rotate_left
      · go_simp; try with_reducible rfl
      refine rdH 2 (fun K hK => ?_)
      go_simp
      refine hK.out _ _ trivial (fun hS => ?_)
      clear hK K
      refine tkH 4 ?_ hS (fun wx hx => ?_) ?_; rotate_left
      · go_simp; try with_reducible rfl
      refine rdH 5 (fun K hK => ?_)
      refine step_app 59 i0 (.agg #[.int .i64 0, .int .i64 0, .int .i64 0]) 3 24 (by rfl) _ _ 24 (by rfl) Tryz.underlying24 hi0 hz0 hz1 hz2 rfl (by omega) (by omega) _ X0.heap.size 0 [] (.slice (some ⟨X0.heap.size, 0, none⟩) 0 0) (by rfl) O0.out (w.heap.size + 1) j S.c (.slice (some ⟨cg, co, none⟩) j e0) (by rfl) (C0.out.head hj4 e0) (by omega) (by show X0.heap.size ≤ (World.alloc X0 _).heap.size; simp) ?_
      intro ao5 cp5 w7 O7 G7
      rw [Nat.zero_add, List.nil_append] at O7
      rw [show (0 : Nat) + j = j from Nat.zero_add j]
      have F2 : w7.cell? ⟨w2.heap.size, 0, none⟩ = some (.slice (some ⟨cg, co, none⟩) S.nc e0) := G7.cell F1 (fun q => by simp [Value.ownBlock] at q; omega)
      refine hK.out _ _ trivial (fun hS => ?_)
      clear hK K
    rotate_left
  rotate_left 3
  focus
    go_simp
    refine hK.out _ _ trivial (fun hS => ?_)
    clear hK K
    refine tkH 4 ?_ hS (fun wx hx => ?_) ?_; rotate_left
    · go_simp; try with_reducible rfl
    refine wpAnyH_ready (rs := [0, 7]) (by kernel_rfl) (by simp) ?_
    refine AllReadyH.cons rfl (fun K hK => ?_) (AllReadyH.cons rfl (fun K hK => ?_) AllReadyH.nil)
    focus
      go_simp
      refine hK.out _ _ trivial (fun hS => ?_)
      clear hK K
      refine wpAnyH_ready (rs := [5, 7]) (by kernel_rfl) (by simp) ?_
      refine AllReadyH.cons rfl (fun K hK => ?_) (AllReadyH.cons rfl (fun K hK => ?_) AllReadyH.nil)
      focus
        refine step_app 59 i0 (.agg #[.int .i64 0, .int .i64 0, .int .i64 0]) 3 24 (by rfl) _ _ 24 (by rfl) Tryz.underlying24 hi0 hz0 hz1 hz2 rfl (by omega) (by omega) _ X0.heap.size 0 [] (.slice (some ⟨X0.heap.size, 0, none⟩) 0 0) (by rfl) O0.out (w.heap.size + 1) j S.c (.slice (some ⟨cg, co, none⟩) j e0) (by rfl) (C0.out.head hj4 e0) (by omega) (by show X0.heap.size ≤ (World.alloc X0 _).heap.size; simp) ?_
        intro ao5 cp5 w7 O7 G7
        rw [Nat.zero_add, List.nil_append] at O7
        rw [show (0 : Nat) + j = j from Nat.zero_add j]
        have F2 : w7.cell? ⟨w2.heap.size, 0, none⟩ = some (.slice (some ⟨cg, co, none⟩) S.nc e0) := G7.cell F1 (fun q => by simp [Value.ownBlock] at q; omega)
        refine hK.out _ _ trivial (fun hS => ?_)
        clear hK K
        refine rdH 7 (fun K hK => ?_)
        go_simp
        refine hK.out _ _ trivial (fun hS => ?_)
        clear hK K
        refine tkH 10 ?_ hS (fun wx hx => ?_) ?_; rotate_left
        · go_simp; try with_reducible rfl
      rotate_left
      focus
        go_simp
        refine hK.out _ _ trivial (fun hS => ?_)
        clear hK K
        refine tkH 10 ?_ hS (fun wx hx => ?_) ?_; rotate_left
        · go_simp; try with_reducible rfl
        refine rdH 5 (fun K hK => ?_)
        refine step_app 59 i0 (.agg #[.int .i64 0, .int .i64 0, .int .i64 0]) 3 24 (by rfl) _ _ 24 (by rfl) Tryz.underlying24 hi0 hz0 hz1 hz2 rfl (by omega) (by omega) _ X0.heap.size 0 [] (.slice (some ⟨X0.heap.size, 0, none⟩) 0 0) (by rfl) O0.out (w.heap.size + 1) j S.c (.slice (some ⟨cg, co, none⟩) j e0) (by rfl) (C0.out.head hj4 e0) (by omega) (by show X0.heap.size ≤ (World.alloc X0 _).heap.size; simp) ?_
        intro ao5 cp5 w7 O7 G7
        rw [Nat.zero_add, List.nil_append] at O7
        rw [show (0 : Nat) + j = j from Nat.zero_add j]
        have F2 : w7.cell? ⟨w2.heap.size, 0, none⟩ = some (.slice (some ⟨cg, co, none⟩) S.nc e0) := G7.cell F1 (fun q => by simp [Value.ownBlock] at q; omega)
        refine hK.out _ _ trivial (fun hS => ?_)
        clear hK K
      rotate_left
    rotate_left 2
    focus
      go_simp
      refine hK.out _ _ trivial (fun hS => ?_)
      clear hK K
      refine tkH 10 ?_ hS (fun wx hx => ?_) ?_; rotate_left
      · go_simp; try with_reducible rfl
      refine rdH 0 (fun K hK => ?_)
      go_simp
      refine hK.out _ _ trivial (fun hS => ?_)
      clear hK K
      refine rdH 5 (fun K hK => ?_)
      refine step_app 59 i0 (.agg #[.int .i64 0, .int .i64 0, .int .i64 0]) 3 24 (by rfl) _ _ 24 (by rfl) Tryz.underlying24 hi0 hz0 hz1 hz2 rfl (by omega) (by omega) _ X0.heap.size 0 [] (.slice (some ⟨X0.heap.size, 0, none⟩) 0 0) (by rfl) O0.out (w.heap.size + 1) j S.c (.slice (some ⟨cg, co, none⟩) j e0) (by rfl) (C0.out.head hj4 e0) (by omega) (by show X0.heap.size ≤ (World.alloc X0 _).heap.size; simp) ?_
      intro ao5 cp5 w7 O7 G7
      rw [Nat.zero_add, List.nil_append] at O7
      rw [show (0 : Nat) + j = j from Nat.zero_add j]
      have F2 : w7.cell? ⟨w2.heap.size, 0, none⟩ = some (.slice (some ⟨cg, co, none⟩) S.nc e0) := G7.cell F1 (fun q => by simp [Value.ownBlock] at q; omega)
      refine hK.out _ _ trivial (fun hS => ?_)
      clear hK K
    rotate_left
  rotate_left 3
  focus
    go_simp
    refine hK.out _ _ trivial (fun hS => ?_)
    clear hK K
    refine tkH 10 ?_ hS (fun wx hx => ?_) ?_; rotate_left
    · go_simp; try with_reducible rfl
    refine wpAnyH_ready (rs := [0, 2]) (by kernel_rfl) (by simp) ?_
    refine AllReadyH.cons rfl (fun K hK => ?_) (AllReadyH.cons rfl (fun K hK => ?_) AllReadyH.nil)
    focus
      go_simp
      refine hK.out _ _ trivial (fun hS => ?_)
      clear hK K
      refine rdH 2 (fun K hK => ?_)
      go_simp
      refine hK.out _ _ trivial (fun hS => ?_)
      clear hK K
      refine tkH 4 ?_ hS (fun wx hx => ?_) ?_; rotate_left
      · go_simp; try with_reducible rfl
    rotate_left
    focus
      go_simp
      refine hK.out _ _ trivial (fun hS => ?_)
      clear hK K
      refine tkH 4 ?_ hS (fun wx hx => ?_) ?_; rotate_left
      · go_simp; try with_reducible rfl
      refine rdH 0 (fun K hK => ?_)
      go_simp
      refine hK.out _ _ trivial (fun hS => ?_)
      clear hK K
    rotate_left
    all_goals
      refine rdH 5 (fun K hK => ?_)
      refine step_app 59 i0 (.agg #[.int .i64 0, .int .i64 0, .int .i64 0]) 3 24 (by rfl) _ _ 24 (by rfl) Tryz.underlying24 hi0 hz0 hz1 hz2 rfl (by omega) (by omega) _ X0.heap.size 0 [] (.slice (some ⟨X0.heap.size, 0, none⟩) 0 0) (by rfl) O0.out (w.heap.size + 1) j S.c (.slice (some ⟨cg, co, none⟩) j e0) (by rfl) (C0.out.head hj4 e0) (by omega) (by show X0.heap.size ≤ (World.alloc X0 _).heap.size; simp) ?_
      intro ao5 cp5 w7 O7 G7
      rw [Nat.zero_add, List.nil_append] at O7
      rw [show (0 : Nat) + j = j from Nat.zero_add j]
      have F2 : w7.cell? ⟨w2.heap.size, 0, none⟩ = some (.slice (some ⟨cg, co, none⟩) S.nc e0) := G7.cell F1 (fun q => by simp [Value.ownBlock] at q; omega)
      refine hK.out _ _ trivial (fun hS => ?_)
      clear hK K
  rotate_left 2
  all_goals
    have C7 : Hid (Row w7 (w.heap.size + 1) 3 S.nc S.c (.slice (some ⟨cg, co, none⟩) S.nc e0)) := C0.out.turned G7 (fun h0 k hk q => by
      have h1 := (HS.out.1.1.1.lt h0 k hk).2
      rw [q] at hk
      simp [Value.ownBlock] at hk q
      omega)
    refine rdH 11 (fun K hK => ?_)
    refine step_app 59 i0 (.agg #[.int .i64 0, .int .i64 0, .int .i64 0]) 3 24 (by rfl) _ _ 24 (by rfl) Tryz.underlying24 hi0 hz0 hz1 hz2 rfl (by omega) (by omega) _ X0.heap.size j (nums S.c (j * 3)) (.slice ao5 j cp5) (by rfl) O7 (w.heap.size + 1) (S.nc - (j + 1)) (fun p => S.c ((j + 1) * 3 + p)) (.slice A (S.nc - (j + 1)) (e0 - (j + 1))) (by rfl) (hA ▸ C7.out.tailR (j + 1) g0) (by omega) (Nat.le_trans (by show X0.heap.size ≤ (World.alloc X0 _).heap.size; simp) G7.size) ?_
    intro ao6 cp6 wC O8 G8
    have keep : ∀ q, q < X0.heap.size → wC.heap[q]? = X0.heap[q]? := fun q hq => by
      have h1 : (X0.alloc (.cells #[] 59)).drew.heap[q]? = X0.heap[q]? := (below_alloc X0 (.cells #[] 59)).block q hq
      have h2 : w7.heap[q]? = (X0.alloc (.cells #[] 59)).drew.heap[q]? := G7.block q (by show q < (World.alloc X0 _).heap.size; simp; omega) (fun e => by simp [Value.ownBlock] at e; omega)
      have h3 : wC.heap[q]? = w7.heap[q]? := G8.block q (Nat.lt_of_lt_of_le (by show q < (World.alloc X0 _).heap.size; simp; omega) G7.size) (fun e => by have := (O7.block q e.symm).1; omega)
      exact h3.trans (h2.trans h1)
    have szC : X0.heap.size ≤ wC.heap.size := Nat.le_trans (Nat.le_trans (by show X0.heap.size ≤ (World.alloc X0 _).heap.size; simp) G7.size) G8.size
    have osC : wC.os = X0.os ∧ wC.tape = X0.tape ∧ wC.output = X0.output := ⟨G8.os.trans G7.os, G8.tape.trans G7.tape, G8.output.trans G7.output⟩
    have TC : Blk3 wC w2.heap.size (.slice (some ⟨cg, co, none⟩) S.nc e0) (.slice y1 U.length z1) (.slice d2 S.nw e2) := TX.out.kept (keep _ zX)
    refine hK.out _ _ trivial (fun hS => ?_)
    clear hK K
    refine tkH 12 ?_ hS (fun wx hx => ?_) ?_; rotate_left
    · go_simp; try with_reducible rfl
    obtain ⟨⟨t0, t1, t2⟩, ft0, ft1, ft2⟩ := TC
    refine rdH 13 (fun K hK => ?_)
    go_simp
    refine hK.out _ _ trivial (fun hS => ?_)
    clear hK K
    have TC : Blk3 wC w2.heap.size (.slice (some ⟨cg, co, none⟩) S.nc e0) (.slice y1 U.length z1) (.slice d2 S.nw e2) := TX.out.kept (keep _ zX)
    have BC : Below X0.heap.size X0 wC := ⟨osC.1, osC.2.1, osC.2.2, szC, keep⟩
    have BX1 : Hid (Below w.heap.size w (wC.setCell ⟨w2.heap.size, 0, none⟩ (.slice ao6 (j + (S.nc - (j + 1))) cp6))) := (BX.out.trans (BC.mono BX.out.size)).setCell (Nat.le_of_lt hzw) _
    have B2X1 : Hid (Below w2.heap.size w2 (wC.setCell ⟨w2.heap.size, 0, none⟩ (.slice ao6 (j + (S.nc - (j + 1))) cp6))) := (B2X.out.trans (BC.mono (Nat.le_of_lt zX))).setCell (Nat.le_refl _) _
    have RX1 : Hid (Blk4 (wC.setCell ⟨w2.heap.size, 0, none⟩ (.slice ao6 (j + (S.nc - (j + 1))) cp6)) w.heap.size (.int .i64 0) (.slice none 0 0) (.slice none 0 0) (.slice none 0 0)) := (RX.out.later BC).kept (Below.heap_setCell _ _ _ _ (Nat.ne_of_lt hzw))
    have TX1 : Hid (Blk3 (wC.setCell ⟨w2.heap.size, 0, none⟩ (.slice ao6 (j + (S.nc - (j + 1))) cp6)) w2.heap.size (.slice ao6 (j + (S.nc - (j + 1))) cp6) (.slice y1 U.length z1) (.slice d2 S.nw e2)) := TC.set0 _
    have OX1 : Hid (OwnM (wC.setCell ⟨w2.heap.size, 0, none⟩ (.slice ao6 (j + (S.nc - (j + 1))) cp6)) w5.heap.size 62 5 (.slice y1 U.length z1) U.length U.flatten) := (OX.out.later BC).far hz3 _
    have hobX : Hid (∀ q, (Value.slice y1 U.length z1).ownBlock = some q → w5.heap.size ≤ q ∧ q < X0.heap.size) := OX.out.block
    have OC : Hid (OwnM (wC.setCell ⟨w2.heap.size, 0, none⟩ (.slice ao6 (j + (S.nc - (j + 1))) cp6)) X0.heap.size 59 3 (.slice ao6 (j + (S.nc - (j + 1))) cp6) (j + (S.nc - (j + 1))) (nums S.c (j * 3) ++ nums (fun p => S.c ((j + 1) * 3 + p)) ((S.nc - (j + 1)) * 3))) := O8.far zX _
    have hobC : Hid (∀ q, (Value.slice ao6 (j + (S.nc - (j + 1))) cp6).ownBlock = some q → X0.heap.size ≤ q ∧ q < (wC.setCell ⟨w2.heap.size, 0, none⟩ (.slice ao6 (j + (S.nc - (j + 1))) cp6)).heap.size) := OC.out.block
    have zX0 : w2.heap.size < X0.heap.size := zX
    have zX1 : w2.heap.size < (wC.setCell ⟨w2.heap.size, 0, none⟩ (.slice ao6 (j + (S.nc - (j + 1))) cp6)).heap.size := TX1.out.lt
    have z5X1 : w5.heap.size ≤ (wC.setCell ⟨w2.heap.size, 0, none⟩ (.slice ao6 (j + (S.nc - (j + 1))) cp6)).heap.size := Nat.le_trans z5X (by simpa [World.setCell] using szC)
    generalize wC.setCell ⟨w2.heap.size, 0, none⟩ (.slice ao6 (j + (S.nc - (j + 1))) cp6) = X1 at BX1 B2X1 RX1 TX1 OX1 OC hobC zX1 z5X1 ⊢
    clear BX B2X RX TX OX zX z5X LX F0 F1 F1d F0d F2 O0 C0 C7 O7 G7 O8 G8 keep szC osC TC BC t0 t1 t2 ft0 ft1 ft2
    have BX := BX1
    have B2X := B2X1
    have RX := RX1
    have TX := TX1
    have OX := OX1
    have zX := zX1
    have z5X := z5X1
    have LX : True := trivial
    clear BX1 B2X1 RX1 TX1 OX1 zX1 z5X1
    refine wpAnyH_done (by kernel_rfl) ?_ _
    obtain ⟨⟨t0, t1, t2⟩, _⟩ := TX.out
    go_simp
    go_wp2_with fail
    refine (l2AddWrite_any S.nw S.k d2 e2 (w.heap.size + 1) a s s 4 _ (HS.out.1.1.2.2.later B2X.out) (by omega) g2).mono ?_
    rintro e w7 ⟨k', y2, z2, hk', rfl, O7, q7⟩
    obtain rfl : k' = k := hk'.one HK.out
    have BY : Hid (Below w.heap.size w w7) := BX.out.trans (q7.mono BX.out.size)
    have B2Y : Hid (Below w2.heap.size w2 w7) := B2X.out.trans (q7.mono (Nat.le_of_lt zX))
    have RY : Hid (Blk4 w7 w.heap.size (.int .i64 0) (.slice none 0 0) (.slice none 0 0) (.slice none 0 0)) := RX.out.later q7
    have TY : Hid (Blk3 w7 w2.heap.size (.slice ao6 (j + (S.nc - (j + 1))) cp6) (.slice y1 U.length z1) (.slice d2 S.nw e2)) := TX.out.later q7
    have OY : Hid (OwnM w7 w5.heap.size 62 5 (.slice y1 U.length z1) U.length U.flatten) := OX.out.later q7
    have hob : Hid (∀ q, (Value.slice y1 U.length z1).ownBlock = some q → w5.heap.size ≤ q ∧ q < X1.heap.size) := OX.out.block
    have PY : Hid (OwnM w7 X1.heap.size 36 4 (.slice y2 (S.nw + 1) z2) (S.nw + 1) (nums S.k (k' * 4) ++ [a, s, s, 4] ++ nums (fun p => S.k (k' * 4 + p)) ((S.nw - k') * 4))) := O7
    have hkn : k' ≤ S.nw := hk'.1
    have hqX : Hid (Below X1.heap.size X1 w7) := q7
    clear O7 q7 hk' OX RX TX LX BX B2X HK t0 t1 t2
    obtain ⟨⟨t0, t1, t2⟩, ft0, ft1, ft2⟩ := TY.out
    go_upto_region 16 with fail
    have RZ := RY.out.kept (Below.heap_setCell w7 ⟨w2.heap.size, 2, none⟩ (.slice y2 (S.nw + 1) z2) _ (Nat.ne_of_lt hzw))
    have TZ := TY.out.set2 (.slice y2 (S.nw + 1) z2)
    have BZ : Hid (Below w.heap.size w (w7.setCell ⟨w2.heap.size, 2, none⟩ (.slice y2 (S.nw + 1) z2))) := BY.out.setCell (Nat.le_of_lt hzw) _
    have B2Z : Hid (Below w2.heap.size w2 (w7.setCell ⟨w2.heap.size, 2, none⟩ (.slice y2 (S.nw + 1) z2))) := B2Y.out.setCell (Nat.le_refl _) _
    have OZ : Hid (OwnM (w7.setCell ⟨w2.heap.size, 2, none⟩ (.slice y2 (S.nw + 1) z2)) w5.heap.size 62 5 (.slice y1 U.length z1) U.length U.flatten) := OY.out.far hz3 _
    have PZ : Hid (OwnM (w7.setCell ⟨w2.heap.size, 2, none⟩ (.slice y2 (S.nw + 1) z2)) X1.heap.size 36 4 (.slice y2 (S.nw + 1) z2) (S.nw + 1) (nums S.k (k' * 4) ++ [a, s, s, 4] ++ nums (fun p => S.k (k' * 4 + p)) ((S.nw - k') * 4))) := PY.out.far zX _
    have OC8 : Hid (OwnM (w7.setCell ⟨w2.heap.size, 2, none⟩ (.slice y2 (S.nw + 1) z2)) X0.heap.size 59 3 (.slice ao6 (j + (S.nc - (j + 1))) cp6) (j + (S.nc - (j + 1))) (nums S.c (j * 3) ++ nums (fun p => S.c ((j + 1) * 3 + p)) ((S.nc - (j + 1)) * 3))) := (OC.out.later hqX.out).far zX0 _
    generalize w7.setCell ⟨w2.heap.size, 2, none⟩ (.slice y2 (S.nw + 1) z2) = w8 at RZ TZ BZ B2Z OZ PZ OC8 ⊢
    clear t0 t1 t2 ft0 ft1 ft2 RY TY BY B2Y OY PY
    obtain ⟨⟨r0, r1, r2, r3⟩, f0, f1, f2, f3⟩ := RZ
    obtain ⟨⟨t0, t1, t2⟩, _⟩ := TZ
    go_wp2
    have hone := selD_one (F := S.c) (m := 3) (D := goneK a s) (j := j) (goneK_iff.2 hcl.at.2.1) S.nc hjn (fun i hi' hne => goneK_not (fun q => hne (cell_once HZ.out hi' hjn q hcl.at.2.1)))
    have hN : (unlC S.c a s S.nc).length = j + (S.nc - (j + 1)) := by
      have : (unlC S.c a s S.nc).length = S.nc - 1 := hone.1
      omega
    have lenC : (nums S.c (j * 3) ++ nums (fun p => S.c ((j + 1) * 3 + p)) ((S.nc - (j + 1)) * 3)).length = (j + (S.nc - (j + 1))) * 3 := by
      rw [List.length_append, nums_length, nums_length]
      omega
    have rC : Own w8 (w.heap.size + 1) 59 3 (j + (S.nc - (j + 1))) (fun p => (unlC S.c a s S.nc).flatten.getD p 0) (.slice ao6 (j + (S.nc - (j + 1))) cp6) := (own_congr (OC8.out.own lenC) (fun p hp => (roll_cells hjn p (by omega)).trans (hone.2 p (by omega)).symm)).mono (by omega)
    have A8 : ApartB (.slice ao6 (j + (S.nc - (j + 1))) cp6) (.slice y1 U.length z1) (.slice y2 (S.nw + 1) z2) :=
      ⟨fun q a b => by have := (hobC.out q a).1; have := (hobX.out q b).2; omega, fun q a b => by have := (hobC.out q a).2; have := (PZ.out.block q b).1; omega, fun q a b => by have := (hob.out q a).2; have := (PZ.out.block q b).1; omega⟩
    have lenL : U.flatten.length = U.length * 5 := flat_len U (by rw [← HU.out]; exact selD_len _ _ _ _)
    have lenW : (nums S.k (k' * 4) ++ [a, s, s, 4] ++ nums (fun p => S.k (k' * 4 + p)) ((S.nw - k') * 4)).length = (S.nw + 1) * 4 := by
      rw [List.length_append, List.length_append, nums_length, nums_length]
      simp only [List.length_cons, List.length_nil]
      omega
    have O8 : OwnS w8 (w.heap.size + 1) (rollS S a s k') (.slice ao6 (j + (S.nc - (j + 1))) cp6) (.slice y1 U.length z1) (.slice y2 (S.nw + 1) z2) := by
      unfold rollS
      rw [HU.out, hN]
      exact ⟨⟨rC, (OZ.out.own lenL).mono (by omega), (PZ.out.own lenW).mono (by omega)⟩, A8⟩
    have hlo : (w.heap.size : Nat) < w.heap.size + 1 := Nat.lt_succ_self _
    have hul : (rollS S a s k').nl = U.length := by unfold rollS; rw [HU.out]
    have hcl' : (rollS S a s k').nc = j + (S.nc - (j + 1)) := hN
    refine bodyPost_ret (v := .agg #[.int .i64 0, .slice ao6 (j + (S.nc - (j + 1))) cp6, .slice y1 U.length z1, .slice y2 (S.nw + 1) z2]) (by simp [results, Tryz.results89, go_sem, r0, r1, r2, r3]) rfl ?_
    refine ⟨ao6, cp6, y1, z1, y2, z2, ?_, ?_, (((BZ.out.setCell (Nat.le_refl _) _).setCell (Nat.le_refl _) _).setCell (Nat.le_refl _) _).setCell (Nat.le_refl _) _⟩
    · rw [hul, hcl']; rfl
    · rw [hul, hcl']
      exact ((((O8.far hlo _).far hlo _).far hlo _).far hlo _).mono (by omega)
end
end Go.Proofs.YtgedodcojalidaaGreat

namespace Go.Proofs.YtgedodcojalidaaGreat
section
open Go.RowKit
end

section
open Go.RowKit Go.Maps Go.Lib
/-- What a rollback comes to on a store without a fault: a code and a store. -/
def RollRes (S : Sto) (a s : Int) (r : Int) (R : Sto) : Prop :=
  (∃ i : Nat, FirstAt (writeIs S.k a s) S.nw i ∧ S.k (i * 4 + 3) = 4 ∧ r = 0 ∧ R = S) ∨
  (∃ i : Nat, FirstAt (writeIs S.k a s) S.nw i ∧ S.k (i * 4 + 3) ≠ 4 ∧ r = 6 ∧ R = emptyS) ∨
  (FirstAt (writeIs S.k a s) S.nw (-1) ∧ (∃ i, i < S.nw ∧ writeAt S.k a s i) ∧ r = 6 ∧ R = emptyS) ∨
  (FirstAt (writeIs S.k a s) S.nw (-1) ∧ (¬ ∃ i, i < S.nw ∧ writeAt S.k a s i) ∧ 200 ≤ S.nw ∧ r = 2 ∧ R = emptyS) ∨
  (∃ k : Nat, FirstAt (writeIs S.k a s) S.nw (-1) ∧ (¬ ∃ i, i < S.nw ∧ writeAt S.k a s i) ∧ S.nw < 200 ∧ placeAt (aheadW S.k a s) S.nw k ∧ r = 0 ∧ R = rollS S a s k)
theorem l3Roll_ownO (S : Sto) (b oo : Nat) (v0 v1 v2 : Value) (a s r : Int) (R : Sto) (w : World) (h : LiesO w b oo S v0 v1 v2) (hz : storeF S = 0) (hA : RollRes S a s r R) :
    Calls Tryz.prog 89 #[.pointer (some ⟨b, oo, none⟩), .int .i64 a, .int .i64 s] w (ResStoK w r R) := by
  rcases hA with ⟨i, h1, h2, rfl, rfl⟩ | ⟨i, h1, h2, rfl, rfl⟩ | ⟨h1, h2, rfl, rfl⟩ | ⟨h1, h2, h3, rfl, rfl⟩ | ⟨k, h1, h2, h3, h4, rfl, rfl⟩
  · exact l3Roll_sameO _ b oo v0 v1 v2 a s i w h hz h1 h2
  · exact l3Roll_takenO S b oo v0 v1 v2 a s i w h hz h1 h2
  · exact l3Roll_atO S b oo v0 v1 v2 a s w h hz h1 h2
  · exact l3Roll_manyO S b oo v0 v1 v2 a s w h hz h1 h2 h3
  · obtain ⟨j, hj⟩ := FirstAt.get (cellIs S.c a s) S.nc
    rcases hj with ⟨rfl, q⟩ | ⟨j, hjn, rfl, q1, q2⟩
    · exact l3Roll_noneO S b oo v0 v1 v2 a s k w h hz h1 h2 h3 h4 (Or.inl ⟨rfl, q⟩)
    · exact l3Roll_cellO S b oo v0 v1 v2 a s k j w h hz h1 h2 h3 h4 (Or.inr ⟨j, hjn, rfl, q1, q2⟩)
def RollAns (S : Sto) (a s : Int) (r : Int) (R : Sto) : Prop :=
  (askF S a ≠ 0 ∧ r = askF S a ∧ R = emptyS) ∨ (askF S a = 0 ∧ ¬ isT s ∧ r = 3 ∧ R = emptyS) ∨ (askF S a = 0 ∧ isT s ∧ RollRes S a s r R)
set_option maxRecDepth 100000 in
set_option maxHeartbeats 8000000 in
theorem specRollbackKey_own (S : Sto) (v0 v1 v2 : Value) (a s r : Int) (R : Sto) (B : Nat) (w : World) (h : St w B S v0 v1 v2) (hA : RollAns S a s r R) :
    Calls Tryz.prog 66 #[.agg #[v0, v1, v2], .int .i64 a, .int .i64 s] w (ResStoK w r R) := by
  obtain ⟨a0, c0, a1, c1, a2, c2, rfl, rfl, rfl⟩ := h.form
  have HE : Hid (CallSto w B S (.slice a0 S.nc c0) (.slice a1 S.nl c1) (.slice a2 S.nw c2) ((w.alloc (.cells #[.slice a0 S.nc c0, .slice a1 S.nl c1, .slice a2 S.nw c2] 28)).alloc (.cells #[.int .i64 0, .slice none 0 0, .slice none 0 0, .slice none 0 0] 32))) := CallSto.new h _ _
  clear h
  unfold ResStoK
  rcases hA with ⟨hz, rfl, rfl⟩ | ⟨hz, ht, rfl, rfl⟩ | ⟨hz, ht, hR⟩
  · obtain ⟨f, hf⟩ : ∃ f, askF S a = f := ⟨_, rfl⟩
    have HF : Hid (askF S a = f) := hf
    have hfn : (f == 0) = false := beq_eq_false_iff_ne.2 (by rw [← hf]; exact hz)
    have hfn' : (f != 0) = true := by rw [bne_iff_ne, ← hf]; exact hz
    rw [hf]
    clear hz hf
    go_enter Tryz.func66, Tryz.ntmps66
    go_wp2_with fail
    refine (asked_any S w.heap.size _ _ _ _ _ ⟨HE.out.1.1, HE.out.2.2.1.mono (Nat.zero_le _)⟩).mono ?_
    rw [HF.out]
    rintro e w1 ⟨rfl, q1⟩
    have HE : Hid (CallSto w B S (.slice a0 S.nc c0) (.slice a1 S.nl c1) (.slice a2 S.nw c2) w1) := HE.out.later q1
    obtain ⟨⟨⟨p0, p1, p2⟩, _⟩, ⟨⟨r0, r1, r2, r3⟩, f0, f1, f2, f3⟩, _⟩ := HE.out
    clear q1
    go_wp2_with fail
    refine (l3Bad_own f _).mono ?_
    rintro e w4 ⟨d0, e0, d1, e1, d2, e2, rfl, o3, q4⟩
    have z3 : Hid (w.heap.size + 2 ≤ w1.heap.size) := HE.out.2.1.lt
    have S3 : Hid (OwnS w4 (w.heap.size + 2) emptyS (.slice d0 (emptyS).nc e0) (.slice d1 (emptyS).nl e1) (.slice d2 (emptyS).nw e2)) := o3.mono z3.out
    have HBW : Hid (Below w.heap.size w w4) := HE.out.2.2.2.trans (q4.mono HE.out.2.2.2.size)
    obtain ⟨⟨r0, r1, r2, r3⟩, f0, f1, f2, f3⟩ := HE.out.2.1.later q4
    clear o3 q4
    have hlo : (w.heap.size + 1 : Nat) < w.heap.size + 2 := Nat.lt_succ_self _
    go_wp2
    exact bodyPost_ret (v := .agg #[.int .i64 f, .slice d0 (emptyS).nc e0, .slice d1 (emptyS).nl e1, .slice d2 (emptyS).nw e2]) (by simp [results, Tryz.results66, go_sem, r0, r1, r2, r3]) rfl ⟨d0, e0, d1, e1, d2, e2, rfl, ((((S3.out.far hlo _).far hlo _).far hlo _).far hlo _).mono (by omega), (((HBW.out.setCell (Nat.le_succ _) _).setCell (Nat.le_succ _) _).setCell (Nat.le_succ _) _).setCell (Nat.le_succ _) _⟩
  · have HA : Hid (askF S a = 0) := hz
    have HT : Hid (decide (1 ≤ s ∧ s ≤ 100000) = false) := decide_eq_false ht
    clear hz ht
    go_enter Tryz.func66, Tryz.ntmps66
    go_wp2_with fail
    refine (asked_any S w.heap.size _ _ _ _ _ ⟨HE.out.1.1, HE.out.2.2.1.mono (Nat.zero_le _)⟩).mono ?_
    rw [HA.out]
    rintro e w1 ⟨rfl, q1⟩
    have HE : Hid (CallSto w B S (.slice a0 S.nc c0) (.slice a1 S.nl c1) (.slice a2 S.nw c2) w1) := HE.out.later q1
    obtain ⟨⟨⟨p0, p1, p2⟩, _⟩, ⟨⟨r0, r1, r2, r3⟩, f0, f1, f2, f3⟩, _⟩ := HE.out
    clear q1
    go_wp2_with fail
    refine (l2Ts_is s false HT.out _).mono ?_
    rintro e w1' ⟨rfl, rfl⟩
    go_wp2_with fail
    refine (l3Bad_own 3 _).mono ?_
    rintro e w4 ⟨d0, e0, d1, e1, d2, e2, rfl, o3, q4⟩
    have z3 : Hid (w.heap.size + 2 ≤ w1'.heap.size) := HE.out.2.1.lt
    have S3 : Hid (OwnS w4 (w.heap.size + 2) emptyS (.slice d0 (emptyS).nc e0) (.slice d1 (emptyS).nl e1) (.slice d2 (emptyS).nw e2)) := o3.mono z3.out
    have HBW : Hid (Below w.heap.size w w4) := HE.out.2.2.2.trans (q4.mono HE.out.2.2.2.size)
    obtain ⟨⟨r0, r1, r2, r3⟩, f0, f1, f2, f3⟩ := HE.out.2.1.later q4
    clear o3 q4
    have hlo : (w.heap.size + 1 : Nat) < w.heap.size + 2 := Nat.lt_succ_self _
    go_wp2
    exact bodyPost_ret (v := .agg #[.int .i64 3, .slice d0 (emptyS).nc e0, .slice d1 (emptyS).nl e1, .slice d2 (emptyS).nw e2]) (by simp [results, Tryz.results66, go_sem, r0, r1, r2, r3]) rfl ⟨d0, e0, d1, e1, d2, e2, rfl, ((((S3.out.far hlo _).far hlo _).far hlo _).far hlo _).mono (by omega), (((HBW.out.setCell (Nat.le_succ _) _).setCell (Nat.le_succ _) _).setCell (Nat.le_succ _) _).setCell (Nat.le_succ _) _⟩
  · have HA : Hid (askF S a = 0) := hz
    have HT : Hid (decide (1 ≤ s ∧ s ≤ 100000) = true) := decide_eq_true ht
    have HP : Hid (∀ (b : Nat) (u0 u1 u2 : Value) (x : World), Lies x b S u0 u1 u2 → Calls Tryz.prog 89 #[.pointer (some ⟨b, 0, none⟩), .int .i64 a, .int .i64 s] x (ResStoK x r R)) := fun b u0 u1 u2 x hx => l3Roll_ownO S b 0 u0 u1 u2 a s r R x hx (askF_zero hz).1 hR
    clear hz ht hR
    go_enter Tryz.func66, Tryz.ntmps66
    go_wp2_with fail
    refine (asked_any S w.heap.size _ _ _ _ _ ⟨HE.out.1.1, HE.out.2.2.1.mono (Nat.zero_le _)⟩).mono ?_
    rw [HA.out]
    rintro e w1 ⟨rfl, q1⟩
    have HE : Hid (CallSto w B S (.slice a0 S.nc c0) (.slice a1 S.nl c1) (.slice a2 S.nw c2) w1) := HE.out.later q1
    obtain ⟨⟨⟨p0, p1, p2⟩, _⟩, ⟨⟨r0, r1, r2, r3⟩, f0, f1, f2, f3⟩, _⟩ := HE.out
    clear q1
    go_wp2_with fail
    refine (l2Ts_is s true HT.out _).mono ?_
    rintro e w1' ⟨rfl, rfl⟩
    go_wp2_with fail
    refine (HP.out w.heap.size _ _ _ _ ⟨HE.out.1.1, HE.out.2.2.1.mono (Nat.zero_le _)⟩).mono ?_
    rintro e w4 ⟨d0, e0, d1, e1, d2, e2, rfl, o3, q4⟩
    have z3 : Hid (w.heap.size + 2 ≤ w1'.heap.size) := HE.out.2.1.lt
    have S3 : Hid (OwnS w4 (w.heap.size + 2) R (.slice d0 (R).nc e0) (.slice d1 (R).nl e1) (.slice d2 (R).nw e2)) := o3.mono z3.out
    have HBW : Hid (Below w.heap.size w w4) := HE.out.2.2.2.trans (q4.mono HE.out.2.2.2.size)
    obtain ⟨⟨r0, r1, r2, r3⟩, f0, f1, f2, f3⟩ := HE.out.2.1.later q4
    clear o3 q4
    have hlo : (w.heap.size + 1 : Nat) < w.heap.size + 2 := Nat.lt_succ_self _
    go_wp2
    exact bodyPost_ret (v := .agg #[.int .i64 r, .slice d0 (R).nc e0, .slice d1 (R).nl e1, .slice d2 (R).nw e2]) (by simp [results, Tryz.results66, go_sem, r0, r1, r2, r3]) rfl ⟨d0, e0, d1, e1, d2, e2, rfl, ((((S3.out.far hlo _).far hlo _).far hlo _).far hlo _).mono (by omega), (((HBW.out.setCell (Nat.le_succ _) _).setCell (Nat.le_succ _) _).setCell (Nat.le_succ _) _).setCell (Nat.le_succ _) _⟩
theorem RollRes.get (S : Sto) (hz : storeF S = 0) (a s : Int) : ∃ r R, Small R ∧ RollRes S a s r R := by
  obtain ⟨⟨hc, hl, hw⟩, _⟩ := storeF_zero hz
  have hS : Small S := ⟨by omega, by omega, by omega⟩
  obtain ⟨i, hi⟩ := FirstAt.get (writeIs S.k a s) S.nw
  rcases hi with ⟨rfl, hn⟩ | ⟨i, hi, rfl, hp, hq⟩
  · have h1 : FirstAt (writeIs S.k a s) S.nw (-1) := Or.inl ⟨rfl, hn⟩
    by_cases h4 : ∃ i, i < S.nw ∧ writeAt S.k a s i
    · exact ⟨6, emptyS, small_empty, Or.inr (Or.inr (Or.inl ⟨h1, h4, rfl, rfl⟩))⟩
    · by_cases h5 : 200 ≤ S.nw
      · exact ⟨2, emptyS, small_empty, Or.inr (Or.inr (Or.inr (Or.inl ⟨h1, h4, h5, rfl, rfl⟩)))⟩
      · obtain ⟨k, hk⟩ := placeAt.get (aheadW S.k a s) S.nw
        refine ⟨0, rollS S a s k, ⟨Nat.le_trans (selD_le _ _ _ _) hS.1, Nat.le_trans (selD_le _ _ _ _) hS.2.1, ?_⟩, Or.inr (Or.inr (Or.inr (Or.inr ⟨k, h1, h4, by omega, hk, rfl, rfl⟩)))⟩
        show S.nw + 1 ≤ _
        omega
  · have h1 : FirstAt (writeIs S.k a s) S.nw (i : Int) := Or.inr ⟨i, hi, rfl, hp, hq⟩
    by_cases h2 : S.k (i * 4 + 3) = 4
    · exact ⟨0, S, hS, Or.inl ⟨i, h1, h2, rfl, rfl⟩⟩
    · exact ⟨6, emptyS, small_empty, Or.inr (Or.inl ⟨i, h1, h2, rfl, rfl⟩)⟩
theorem RollAns.get (S : Sto) (a s : Int) : ∃ r R, Small R ∧ RollAns S a s r R := by
  by_cases hz : askF S a = 0
  · by_cases hs : isT s
    · obtain ⟨r, R, h1, h2⟩ := RollRes.get S (askF_zero hz).1 a s
      exact ⟨r, R, h1, Or.inr (Or.inr ⟨hz, hs, h2⟩)⟩
    · exact ⟨3, emptyS, small_empty, Or.inr (Or.inl ⟨hz, hs, rfl, rfl⟩)⟩
  · exact ⟨_, emptyS, small_empty, Or.inl ⟨hz, rfl, rfl⟩⟩
end
end Go.Proofs.YtgedodcojalidaaGreat

namespace Go.Proofs.YtgedodcojalidaaGreat
section
open Go.RowKit Go.Maps
open Go.WideElems (rd_key rg_of)

theorem len_sub {α : Type} : ∀ (K L : List α), K.Pairwise (fun p q => p ≠ q) → (∀ x, x ∈ K → x ∈ L) → K.length ≤ L.length
  | [], _, _, _ => Nat.zero_le _
  | x :: K, L, hp, hs => by
    obtain ⟨L1, L2, rfl⟩ := List.append_of_mem (hs x (List.mem_cons_self ..))
    have hx := (List.pairwise_cons.1 hp).1
    have ih := len_sub K (L1 ++ L2) (List.pairwise_cons.1 hp).2 (fun y hy => by
      have h1 := hs y (List.mem_cons_of_mem _ hy)
      have h2 := hx y hy
      simp only [List.mem_append, List.mem_cons] at h1 ⊢
      rcases h1 with h1 | h1 | h1
      · exact Or.inl h1
      · exact absurd h1.symm h2
      · exact Or.inr h1)
    simp at ih ⊢
    omega
/-- The map's keys are just those of a row: so many entries. -/
theorem PM.count {w : World} {b n : Nat} {m : Int → Int → Option Int} (h : PM w b n m) (L : List (Int × Int)) (hd : L.Pairwise (fun p q => p ≠ q)) (hw : ∀ p, p ∈ L → Wf p.1 ∧ Wf p.2) (hs : ∀ x y, Wf x → Wf y → ((m x y).isSome = true ↔ (x, y) ∈ L)) :
    ∃ D : DataW Unit, w.ownsMap Tryz.prog 76 (plainElem Tryz.prog 2) b n D ∧ Maps.size D = L.length := by
  obtain ⟨D, h, r⟩ := h
  refine ⟨D, h, ?_⟩
  have hK : ∃ es, D = .map es ∧ es.Pairwise (fun p q => p.1 ≠ q.1) ∧ ∀ p ∈ es, ∃ x y, p.1 = kp x y ∧ Wf x ∧ Wf y := by
    obtain ⟨es, e1, e2, _⟩ := h.entries placeKeyed
    refine ⟨es, e1, e2, ?_⟩
    obtain ⟨es', clock, _, F, _, e3⟩ := h
    rw [e1] at e3
    obtain rfl : es = _ := DataW.map.inj e3
    intro p hp
    obtain ⟨x, hx, rfl⟩ := List.mem_map.1 (mem_sorted.1 hp)
    obtain ⟨y, hy⟩ := F.reads x hx
    rw [rg_of hy]
    obtain ⟨a, c, _, e4, ha, hc⟩ := keyOf_place_inv (rd_key hy)
    exact ⟨a, c, e4, ha, hc⟩
  obtain ⟨es, rfl, hp, hk⟩ := hK
  rw [size_eq]
  have mem : ∀ x y, Wf x → Wf y → (kp x y ∈ es.map (·.1) ↔ (x, y) ∈ L) := by
    intro x y hx hy
    rw [← hs x y hx hy, ← (r x y hx hy).1, has_eq, List.any_eq_true]
    constructor
    · intro q
      obtain ⟨p, h1, h2⟩ := List.mem_map.1 q
      refine ⟨p, h1, ?_⟩
      rw [h2, kp_same hx hy hx hy]
      simp
    · rintro ⟨p, h1, h2⟩
      obtain ⟨x', y', e, hx', hy'⟩ := hk p h1
      rw [e, kp_same hx' hy' hx hy] at h2
      obtain ⟨rfl, rfl⟩ := of_decide_eq_true h2
      exact List.mem_map.2 ⟨p, h1, e⟩
  have h1 : (es.map (·.1)).length ≤ (L.map (fun p => kp p.1 p.2)).length := len_sub _ _ (List.pairwise_map.2 hp) (fun k hk' => by
    obtain ⟨p, h1, rfl⟩ := List.mem_map.1 hk'
    obtain ⟨x, y, e, hx, hy⟩ := hk p h1
    rw [e] at hk' ⊢
    exact List.mem_map.2 ⟨(x, y), (mem x y hx hy).1 hk', rfl⟩)
  have h2 : (L.map (fun p => kp p.1 p.2)).length ≤ (es.map (·.1)).length := by
    refine len_sub _ _ ?_ (fun k hk' => ?_)
    · rw [List.pairwise_map]
      refine (List.Pairwise.imp_of_mem ?_ hd)
      rintro ⟨p1, p2⟩ ⟨q1, q2⟩ hp' hq' hne e
      obtain ⟨e1, e2⟩ := kp_inj (hw _ hp').1 (hw _ hp').2 (hw _ hq').1 (hw _ hq').2 e
      exact hne (by simp at e1 e2; rw [e1, e2])
    · obtain ⟨p, h1, rfl⟩ := List.mem_map.1 hk'
      exact (mem p.1 p.2 (hw p h1).1 (hw p h1).2).2 h1
  simp at h1 h2
  omega
end

section
open Go.RowKit Go.Maps
/-- A write of that start, or a put or a delete at that time or behind it. -/
def lateP (k : Nat → Int) (nw : Nat) (a s : Int) : Prop := (∃ i, firstW k nw a s i) ∨ ∃ i, lastW k nw a 100000 i ∧ s ≤ k (i * 4 + 1)
end

section
open Go.RowKit Go.Maps
/-- The lock lies in a block of its own. -/
def LkE (w : World) (a s kd pr un : Int) (x : World) : Prop :=
  (x.cell? ⟨w.heap.size, 0, none⟩ = some (.int .i64 a) ∧ x.cell? ⟨w.heap.size, 1, none⟩ = some (.int .i64 s) ∧ x.cell? ⟨w.heap.size, 2, none⟩ = some (.int .i64 kd) ∧ x.cell? ⟨w.heap.size, 3, none⟩ = some (.int .i64 pr) ∧ x.cell? ⟨w.heap.size, 4, none⟩ = some (.int .i64 un)) ∧ Below w.heap.size w x
theorem LkE.later {w x x' : World} {a s kd pr un : Int} (h : LkE w a s kd pr un x) (hb : Below x.heap.size x x') : LkE w a s kd pr un x' := by
  obtain ⟨⟨h0, h1, h2, h3, h4⟩, hB⟩ := h
  have hl := lt_cell h0
  exact ⟨⟨(hb.cell (p := ⟨w.heap.size, 0, none⟩) hl).trans h0, (hb.cell (p := ⟨w.heap.size, 1, none⟩) hl).trans h1, (hb.cell (p := ⟨w.heap.size, 2, none⟩) hl).trans h2, (hb.cell (p := ⟨w.heap.size, 3, none⟩) hl).trans h3, (hb.cell (p := ⟨w.heap.size, 4, none⟩) hl).trans h4⟩, hB.trans (hb.mono hB.size)⟩
theorem LkE.new (w : World) (a s kd pr un : Int) (t : TypeId) : LkE w a s kd pr un (w.alloc (.cells #[.int .i64 a, .int .i64 s, .int .i64 kd, .int .i64 pr, .int .i64 un] t)) :=
  ⟨⟨World.cell?_alloc_mark w _ _ _ 0, World.cell?_alloc_mark w _ _ _ 1, World.cell?_alloc_mark w _ _ _ 2, World.cell?_alloc_mark w _ _ _ 3, World.cell?_alloc_mark w _ _ _ 4⟩, below_alloc _ _⟩
theorem cell_kept {x x' : World} {b : Nat} (h : x'.heap[b]? = x.heap[b]?) (i : Nat) : x'.cell? ⟨b, i, none⟩ = x.cell? ⟨b, i, none⟩ := World.cell?_of_block (w := x) (a := ⟨b, i, none⟩) h
end

section
open Go.RowKit
def newerP (k : Nat → Int) (nw : Nat) (a s : Int) : Prop := ∃ i, lastW k nw a 100000 i ∧ s ≤ k (i * 4 + 1)
theorem lateP_iff {k : Nat → Int} {nw : Nat} {a s : Int} : lateP k nw a s ↔ (∃ i, firstW k nw a s i) ∨ newerP k nw a s := Iff.rfl
set_option maxRecDepth 100000 in
set_option maxHeartbeats 2000000 in
theorem l3Newer_is (S : Sto) (b : Nat) (v0 v1 v2 : Value) (a s : Int) (w : World) (h : Lies w b S v0 v1 v2) (hn : S.nw ≤ 200) (r : Bool) (hr : r = true ↔ newerP S.k S.nw a s) :
    Calls Tryz.prog 118 #[.pointer (some ⟨b, 0, none⟩), .int .i64 a, .int .i64 s] w fun e w' => e = .returned (.bool r) ∧ Below w.heap.size w w' := by
  obtain ⟨a0, c0, a1, c1, a2, c2, rfl, rfl, rfl⟩ := h.2.form
  have H : Hid (Lies w b S (.slice a0 S.nc c0) (.slice a1 S.nl c1) (.slice a2 S.nw c2)) := h
  clear h
  by_cases hi : ∃ i, lastW S.k S.nw a 100000 i
  · obtain ⟨i, hi⟩ := hi
    obtain ⟨n1, N1⟩ : ∃ x, S.k (i * 4 + 1) = x := ⟨_, rfl⟩
    have e : r = decide (s ≤ n1) := by
      by_cases h1 : s ≤ n1
      · rw [decide_eq_true h1]; exact hr.2 ⟨i, hi, by rw [N1]; exact h1⟩
      · rw [decide_eq_false h1]
        cases r with
        | false => rfl
        | true => obtain ⟨j, hj, h2⟩ := hr.1 rfl; obtain rfl := hj.one hi; rw [N1] at h2; exact absurd h2 h1
    have HN : Hid (lastW S.k S.nw a 100000 i) := hi
    have HV : Hid (S.k (i * 4 + 1) = n1) := N1
    have hin : (i : Int) < (S.nw : Int) := by have := hi.1; omega
    clear N1 hi hr
    subst e
    go_enter Tryz.func118, Tryz.ntmps118
    go_wp2_with fail
    refine (l2Last_yes S b _ _ _ a 100000 i _ H.out hn HN.out).mono ?_
    rintro e w1 ⟨rfl, q1⟩
    have HL : Lies w1 b S (.slice a0 S.nc c0) (.slice a1 S.nl c1) (.slice a2 S.nw c2) := H.out.later q1
    obtain ⟨g, o, rfl, _, hg, x0, x1, x2, x3⟩ := HL.2.2.2.at4 HN.out.1
    rw [HV.out] at x1
    have p2 := HL.1.2.2
    have HB : Hid (Below w.heap.size w w1) := q1
    clear HL q1 H HN HV
    go_wp2
    go_ret
    exact ⟨rfl, HB.out⟩
  · obtain rfl : r = false := by
      cases r with
      | false => rfl
      | true => obtain ⟨i, h1, _⟩ := hr.1 rfl; exact absurd ⟨i, h1⟩ hi
    have HN : Hid (∀ i, ¬ lastW S.k S.nw a 100000 i) := fun i q => hi ⟨i, q⟩
    clear hi hr
    go_enter Tryz.func118, Tryz.ntmps118
    go_wp2_with fail
    refine (l2Last_no S b _ _ _ a 100000 _ H.out hn HN.out).mono ?_
    rintro e w1 ⟨rfl, q1⟩
    have HB : Hid (Below w.heap.size w w1) := q1
    clear q1 H HN
    go_wp2
    go_ret
    exact ⟨rfl, HB.out⟩
end

section
open Go.RowKit Go.Lib
/-- The call's own blocks and the store that it was given. -/
def PrS (w : World) (b : Nat) (S : Sto) (v0 v1 v2 : Value) (a s kd pr un : Int) (x : World) : Prop :=
  LkE w a s kd pr un x ∧ Blk4 x (w.heap.size + 1) (.int .i64 0) (.slice none 0 0) (.slice none 0 0) (.slice none 0 0) ∧ Lies x b S v0 v1 v2
theorem PrS.later {w x x' : World} {b : Nat} {S : Sto} {v0 v1 v2 : Value} {a s kd pr un : Int} (h : PrS w b S v0 v1 v2 a s kd pr un x) (hb : Below x.heap.size x x') : PrS w b S v0 v1 v2 a s kd pr un x' := ⟨h.1.later hb, h.2.1.later hb, h.2.2.later hb⟩
set_option maxRecDepth 100000 in
set_option maxHeartbeats 8000000 in
theorem l3Pre_said (S : Sto) (b : Nat) (v0 v1 v2 : Value) (a s kd pr un va : Int) (i : Nat) (w : World) (h : Lies w b S v0 v1 v2) (hz : storeF S = 0) (hi : FirstAt (writeIs S.k a s) S.nw i) :
    Calls Tryz.prog 87 #[.pointer (some ⟨b, 0, none⟩), .agg #[.int .i64 a, .int .i64 s, .int .i64 kd, .int .i64 pr, .int .i64 un], .int .i64 va] w (ResStoK w 8 emptyS) := by
  obtain ⟨a0, c0, a1, c1, a2, c2, rfl, rfl, rfl⟩ := h.2.form
  have HE : Hid (PrS w b S (.slice a0 S.nc c0) (.slice a1 S.nl c1) (.slice a2 S.nw c2) a s kd pr un ((w.alloc (.cells #[.int .i64 a, .int .i64 s, .int .i64 kd, .int .i64 pr, .int .i64 un] 62)).alloc (.cells #[.int .i64 0, .slice none 0 0, .slice none 0 0, .slice none 0 0] 32))) := by
    refine ⟨(LkE.new w a s kd pr un _).later (below_alloc _ _), ?_, (h.later (below_alloc _ _)).later (below_alloc _ _)⟩
    have := Blk4.new (w.alloc (.cells #[.int .i64 a, .int .i64 s, .int .i64 kd, .int .i64 pr, .int .i64 un] 62)) (.int .i64 0) (.slice none 0 0) (.slice none 0 0) (.slice none 0 0) 32
    rwa [World.size_alloc] at this
  obtain ⟨⟨hn0, hn1, hn2⟩, _⟩ := storeF_zero hz
  clear h hz
  go_enter Tryz.func87, Tryz.ntmps87
  go_wp2_with fail
  generalize (w.alloc (.cells #[.int .i64 a, .int .i64 s, .int .i64 kd, .int .i64 pr, .int .i64 un] 62)).alloc (.cells #[.int .i64 0, .slice none 0 0, .slice none 0 0, .slice none 0 0] 32) = w1 at HE ⊢
  refine (l2Write_is S b _ _ _ a s i _ HE.out.2.2 hn2 hi).mono ?_
  rintro e w' ⟨rfl, rfl⟩
  obtain ⟨⟨⟨y0, y1, y2, y3, y4⟩, _⟩, ⟨⟨r0, r1, r2, r3⟩, f0, f1, f2, f3⟩, ⟨p0, p1, p2⟩, pst⟩ := HE.out
  unfold ResStoK
  clear pst hi
  go_wp2_with fail
  refine (l3Bad_own 8 _).mono ?_
  rintro e w9 ⟨x0, z0, x1, z1, x2, z2, rfl, o4, q4⟩
  have hsz : w.heap.size + 2 ≤ _ := HE.out.2.1.lt
  have S4 : Hid (OwnS w9 (w.heap.size + 2) emptyS (.slice x0 emptyS.nc z0) (.slice x1 emptyS.nl z1) (.slice x2 emptyS.nw z2)) := o4.mono hsz
  have HBW : Hid (Below w.heap.size w w9) := (HE.out.later q4).1.2
  obtain ⟨⟨r0, r1, r2, r3⟩, f0, f1, f2, f3⟩ := (HE.out.later q4).2.1
  clear o4 q4 hsz
  have hlo : (w.heap.size + 1 : Nat) < w.heap.size + 2 := Nat.lt_succ_self _
  go_wp2
  exact bodyPost_ret (v := .agg #[.int .i64 8, .slice x0 emptyS.nc z0, .slice x1 emptyS.nl z1, .slice x2 emptyS.nw z2]) (by simp [results, Tryz.results87, go_sem, r0, r1, r2, r3]) rfl ⟨x0, z0, x1, z1, x2, z2, rfl, ((((S4.out.far hlo _).far hlo _).far hlo _).far hlo _).mono (by omega), (((HBW.out.setCell (Nat.le_succ _) _).setCell (Nat.le_succ _) _).setCell (Nat.le_succ _) _).setCell (Nat.le_succ _) _⟩
set_option maxRecDepth 100000 in
set_option maxHeartbeats 8000000 in
theorem l3Pre_newer (S : Sto) (b : Nat) (v0 v1 v2 : Value) (a s kd pr un va : Int) (w : World) (h : Lies w b S v0 v1 v2) (hz : storeF S = 0) (hi : FirstAt (writeIs S.k a s) S.nw (-1)) (hm : newerP S.k S.nw a s) :
    Calls Tryz.prog 87 #[.pointer (some ⟨b, 0, none⟩), .agg #[.int .i64 a, .int .i64 s, .int .i64 kd, .int .i64 pr, .int .i64 un], .int .i64 va] w (ResStoK w 8 emptyS) := by
  obtain ⟨a0, c0, a1, c1, a2, c2, rfl, rfl, rfl⟩ := h.2.form
  have HE : Hid (PrS w b S (.slice a0 S.nc c0) (.slice a1 S.nl c1) (.slice a2 S.nw c2) a s kd pr un ((w.alloc (.cells #[.int .i64 a, .int .i64 s, .int .i64 kd, .int .i64 pr, .int .i64 un] 62)).alloc (.cells #[.int .i64 0, .slice none 0 0, .slice none 0 0, .slice none 0 0] 32))) := by
    refine ⟨(LkE.new w a s kd pr un _).later (below_alloc _ _), ?_, (h.later (below_alloc _ _)).later (below_alloc _ _)⟩
    have := Blk4.new (w.alloc (.cells #[.int .i64 a, .int .i64 s, .int .i64 kd, .int .i64 pr, .int .i64 un] 62)) (.int .i64 0) (.slice none 0 0) (.slice none 0 0) (.slice none 0 0) 32
    rwa [World.size_alloc] at this
  obtain ⟨⟨hn0, hn1, hn2⟩, _⟩ := storeF_zero hz
  clear h hz
  go_enter Tryz.func87, Tryz.ntmps87
  go_wp2_with fail
  generalize (w.alloc (.cells #[.int .i64 a, .int .i64 s, .int .i64 kd, .int .i64 pr, .int .i64 un] 62)).alloc (.cells #[.int .i64 0, .slice none 0 0, .slice none 0 0, .slice none 0 0] 32) = w1 at HE ⊢
  refine (l2Write_is S b _ _ _ a s (-1) _ HE.out.2.2 hn2 hi).mono ?_
  rintro e w' ⟨rfl, rfl⟩
  obtain ⟨⟨⟨y0, y1, y2, y3, y4⟩, _⟩, ⟨⟨r0, r1, r2, r3⟩, f0, f1, f2, f3⟩, ⟨p0, p1, p2⟩, pst⟩ := HE.out
  unfold ResStoK
  clear pst hi
  have HM : Hid (newerP S.k S.nw a s) := hm
  clear hm
  go_wp2_with fail
  refine (l3Newer_is S b _ _ _ a s _ HE.out.2.2 hn2 true ⟨fun _ => HM.out, fun _ => rfl⟩).mono ?_
  rintro e w3 ⟨rfl, q3⟩
  have HE : Hid (PrS w b S (.slice a0 S.nc c0) (.slice a1 S.nl c1) (.slice a2 S.nw c2) a s kd pr un w3) := HE.out.later q3
  clear q3 y0 y1 y2 y3 y4 r0 r1 r2 r3 f0 f1 f2 f3 p0 p1 p2
  obtain ⟨⟨⟨y0, y1, y2, y3, y4⟩, _⟩, ⟨⟨r0, r1, r2, r3⟩, f0, f1, f2, f3⟩, ⟨p0, p1, p2⟩, pst⟩ := HE.out
  clear pst
  go_wp2_with fail
  refine (l3Bad_own 8 _).mono ?_
  rintro e w9 ⟨x0, z0, x1, z1, x2, z2, rfl, o4, q4⟩
  have hsz : w.heap.size + 2 ≤ _ := HE.out.2.1.lt
  have S4 : Hid (OwnS w9 (w.heap.size + 2) emptyS (.slice x0 emptyS.nc z0) (.slice x1 emptyS.nl z1) (.slice x2 emptyS.nw z2)) := o4.mono hsz
  have HBW : Hid (Below w.heap.size w w9) := (HE.out.later q4).1.2
  obtain ⟨⟨r0, r1, r2, r3⟩, f0, f1, f2, f3⟩ := (HE.out.later q4).2.1
  clear o4 q4 hsz
  have hlo : (w.heap.size + 1 : Nat) < w.heap.size + 2 := Nat.lt_succ_self _
  go_wp2
  exact bodyPost_ret (v := .agg #[.int .i64 8, .slice x0 emptyS.nc z0, .slice x1 emptyS.nl z1, .slice x2 emptyS.nw z2]) (by simp [results, Tryz.results87, go_sem, r0, r1, r2, r3]) rfl ⟨x0, z0, x1, z1, x2, z2, rfl, ((((S4.out.far hlo _).far hlo _).far hlo _).far hlo _).mono (by omega), (((HBW.out.setCell (Nat.le_succ _) _).setCell (Nat.le_succ _) _).setCell (Nat.le_succ _) _).setCell (Nat.le_succ _) _⟩
set_option maxRecDepth 100000 in
set_option maxHeartbeats 8000000 in
theorem l3Pre_same (S : Sto) (b : Nat) (v0 v1 v2 : Value) (a s kd pr un va : Int) (j : Nat) (w : World) (h : Lies w b S v0 v1 v2) (hz : storeF S = 0) (hi : FirstAt (writeIs S.k a s) S.nw (-1)) (hm : ¬ newerP S.k S.nw a s) (hl : FirstAt (lockIs S.l a) S.nl j) (hj : S.l (j * 5 + 1) = s) :
    Calls Tryz.prog 87 #[.pointer (some ⟨b, 0, none⟩), .agg #[.int .i64 a, .int .i64 s, .int .i64 kd, .int .i64 pr, .int .i64 un], .int .i64 va] w (ResStoK w 0 S) := by
  have HJ : Hid (FirstAt (lockIs S.l a) S.nl j ∧ S.l (j * 5 + 1) = s) := ⟨hl, hj⟩
  clear hl hj
  obtain ⟨a0, c0, a1, c1, a2, c2, rfl, rfl, rfl⟩ := h.2.form
  have HE : Hid (PrS w b S (.slice a0 S.nc c0) (.slice a1 S.nl c1) (.slice a2 S.nw c2) a s kd pr un ((w.alloc (.cells #[.int .i64 a, .int .i64 s, .int .i64 kd, .int .i64 pr, .int .i64 un] 62)).alloc (.cells #[.int .i64 0, .slice none 0 0, .slice none 0 0, .slice none 0 0] 32))) := by
    refine ⟨(LkE.new w a s kd pr un _).later (below_alloc _ _), ?_, (h.later (below_alloc _ _)).later (below_alloc _ _)⟩
    have := Blk4.new (w.alloc (.cells #[.int .i64 a, .int .i64 s, .int .i64 kd, .int .i64 pr, .int .i64 un] 62)) (.int .i64 0) (.slice none 0 0) (.slice none 0 0) (.slice none 0 0) 32
    rwa [World.size_alloc] at this
  obtain ⟨⟨hn0, hn1, hn2⟩, _⟩ := storeF_zero hz
  clear h hz
  go_enter Tryz.func87, Tryz.ntmps87
  go_wp2_with fail
  generalize (w.alloc (.cells #[.int .i64 a, .int .i64 s, .int .i64 kd, .int .i64 pr, .int .i64 un] 62)).alloc (.cells #[.int .i64 0, .slice none 0 0, .slice none 0 0, .slice none 0 0] 32) = w1 at HE ⊢
  refine (l2Write_is S b _ _ _ a s (-1) _ HE.out.2.2 hn2 hi).mono ?_
  rintro e w' ⟨rfl, rfl⟩
  obtain ⟨⟨⟨y0, y1, y2, y3, y4⟩, _⟩, ⟨⟨r0, r1, r2, r3⟩, f0, f1, f2, f3⟩, ⟨p0, p1, p2⟩, pst⟩ := HE.out
  unfold ResStoK
  clear pst hi
  have HM : Hid (¬ newerP S.k S.nw a s) := hm
  clear hm
  go_wp2_with fail
  refine (l3Newer_is S b _ _ _ a s _ HE.out.2.2 hn2 false ⟨fun q => (Bool.false_ne_true q).elim, fun q => (HM.out q).elim⟩).mono ?_
  rintro e w3 ⟨rfl, q3⟩
  have HE : Hid (PrS w b S (.slice a0 S.nc c0) (.slice a1 S.nl c1) (.slice a2 S.nw c2) a s kd pr un w3) := HE.out.later q3
  clear q3 y0 y1 y2 y3 y4 r0 r1 r2 r3 f0 f1 f2 f3 p0 p1 p2 HM
  obtain ⟨⟨⟨y0, y1, y2, y3, y4⟩, _⟩, ⟨⟨r0, r1, r2, r3⟩, f0, f1, f2, f3⟩, ⟨p0, p1, p2⟩, pst⟩ := HE.out
  clear pst
  go_wp2_with fail
  refine (l2Copy_own S _ _ _ 0 _ HE.out.2.2.2 ⟨by omega, by omega, by omega⟩).mono ?_
  rintro e w4 ⟨d0, e0, d1, e1, d2, e2, rfl, o2, q2⟩
  have g0 := own_cap o2.1.1
  have g1 := own_cap o2.1.2.1
  have g2 := own_cap o2.1.2.2
  obtain ⟨s2, fr2, ap2⟩ := o2.all
  have hz3 : Hid (w.heap.size + 2 ≤ w3.heap.size) := HE.out.2.1.lt
  have HS : Hid ((St w4 w3.heap.size S (.slice d0 S.nc e0) (.slice d1 S.nl e1) (.slice d2 S.nw e2) ∧ FreeS w4 S (.slice d0 S.nc e0) (.slice d1 S.nl e1) (.slice d2 S.nw e2)) ∧ ApartD S (.slice d0 S.nc e0) (.slice d1 S.nl e1) (.slice d2 S.nw e2)) := ⟨⟨s2, fr2⟩, ap2⟩
  have HOS : Hid (OwnS w4 w3.heap.size S (.slice d0 S.nc e0) (.slice d1 S.nl e1) (.slice d2 S.nw e2)) := o2
  have HE : Hid (PrS w b S (.slice a0 S.nc c0) (.slice a1 S.nl c1) (.slice a2 S.nw c2) a s kd pr un (w4.alloc (.cells #[.slice d0 S.nc e0, .slice d1 S.nl e1, .slice d2 S.nw e2] 28)) ∧ Blk3 (w4.alloc (.cells #[.slice d0 S.nc e0, .slice d1 S.nl e1, .slice d2 S.nw e2] 28)) w4.heap.size (.slice d0 S.nc e0) (.slice d1 S.nl e1) (.slice d2 S.nw e2)) := ⟨(HE.out.later q2).later (below_alloc _ _), Blk3.new _ _ _ _ _⟩
  have hz4 : Hid (w3.heap.size ≤ w4.heap.size) := q2.size
  have B45 : Hid (Below w4.heap.size w4 (w4.alloc (.cells #[.slice d0 S.nc e0, .slice d1 S.nl e1, .slice d2 S.nw e2] 28))) := below_alloc _ _
  clear o2 s2 fr2 ap2 q2 y0 y1 y2 y3 y4 r0 r1 r2 r3 f0 f1 f2 f3 p0 p1 p2
  have HO : Hid (Blk3 (w4.alloc (.cells #[.slice d0 S.nc e0, .slice d1 S.nl e1, .slice d2 S.nw e2] 28)) w4.heap.size (.slice d0 S.nc e0) (.slice d1 S.nl e1) (.slice d2 S.nw e2)) := HE.out.2
  have HE : Hid (PrS w b S (.slice a0 S.nc c0) (.slice a1 S.nl c1) (.slice a2 S.nw c2) a s kd pr un (w4.alloc (.cells #[.slice d0 S.nc e0, .slice d1 S.nl e1, .slice d2 S.nw e2] 28))) := HE.out.1
  obtain ⟨⟨⟨y0, y1, y2, y3, y4⟩, _⟩, ⟨⟨r0, r1, r2, r3⟩, f0, f1, f2, f3⟩, ⟨p0, p1, p2⟩, pst⟩ := HE.out
  go_wp2_with fail
  clear y0 y1 y2 y3 y4 r0 r1 r2 r3 f0 f1 f2 f3 p0 p1 p2 pst
  generalize w4.alloc (.cells #[.slice d0 S.nc e0, .slice d1 S.nl e1, .slice d2 S.nw e2] 28) = w5 at HE HO B45 ⊢
  obtain ⟨⟨⟨y0, y1, y2, y3, y4⟩, _⟩, ⟨⟨r0, r1, r2, r3⟩, f0, f1, f2, f3⟩, ⟨p0, p1, p2⟩, pst⟩ := HE.out
  obtain ⟨⟨t0, t1, t2⟩, _⟩ := HO.out
  refine (l2Lock_is S b _ _ _ a j _ HE.out.2.2 hn1 HJ.out.1).mono ?_
  rintro e w' ⟨rfl, rfl⟩
  obtain ⟨g, o, hg, _, hgl, x0, x1, x2, x3, x4⟩ := pst.2.1.at5 HJ.out.1.at.1
  subst hg
  rw [HJ.out.2] at x1
  have hjn : (j : Int) < (S.nl : Int) := by have := HJ.out.1.at.1; omega
  clear pst HJ
  clear r0 r1 r2 r3 f0 f1 f2 f3 t0 t1 t2
  go_upto_region 6 with fail
  refine wp_region_held_drew (S := fun X => X.cell? ⟨b, 1, none⟩ = some (.slice (some ⟨g, o, none⟩) S.nl c1) ∧ X.cell? ⟨w.heap.size, 1, none⟩ = some (.int .i64 s) ∧ X.cell? ⟨g, o + j * 5 + 1, none⟩ = some (.int .i64 s)) (by kernel_rfl) ⟨p1, y1, x1⟩ (fun hS => ?_)
  refine tkH 0 ?_ hS (fun wx hx => ?_) ?_; rotate_left
  · obtain ⟨hx0, hx1, hx2⟩ := hx; go_simp; try with_reducible rfl
  refine tkH 1 ?_ hS (fun wx hx => ?_) ?_; rotate_left
  · obtain ⟨hx0, hx1, hx2⟩ := hx; go_simp; try with_reducible rfl
  refine tkH 2 ?_ hS (fun wx hx => ?_) ?_; rotate_left
  · obtain ⟨hx0, hx1, hx2⟩ := hx; go_simp; try with_reducible rfl
  refine tkH 3 ?_ hS (fun wx hx => ?_) ?_; rotate_left
  · obtain ⟨hx0, hx1, hx2⟩ := hx; go_simp; try with_reducible rfl
  refine tkH 4 ?_ hS (fun wx hx => ?_) ?_; rotate_left
  · obtain ⟨hx0, hx1, hx2⟩ := hx; go_simp; try with_reducible rfl
  refine tkH 5 ?_ hS (fun wx hx => ?_) ?_; rotate_left
  · obtain ⟨hx0, hx1, hx2⟩ := hx; go_simp; try with_reducible rfl
  refine tkH 6 ?_ hS (fun wx hx => ?_) ?_; rotate_left
  · obtain ⟨hx0, hx1, hx2⟩ := hx; go_simp; try with_reducible rfl
  refine tkH 7 ?_ hS (fun wx hx => ?_) ?_; rotate_left
  · obtain ⟨hx0, hx1, hx2⟩ := hx; go_simp; try with_reducible rfl
  refine tkH 8 ?_ hS (fun wx hx => ?_) ?_; rotate_left
  · obtain ⟨hx0, hx1, hx2⟩ := hx; go_simp; try with_reducible rfl
  refine tkH 9 ?_ hS (fun wx hx => ?_) ?_; rotate_left
  · obtain ⟨hx0, hx1, hx2⟩ := hx; go_simp; try with_reducible rfl
  refine tkH 10 ?_ hS (fun wx hx => ?_) ?_; rotate_left
  · obtain ⟨hx0, hx1, hx2⟩ := hx; go_simp; try with_reducible rfl
  refine wpAnyH_done (by kernel_rfl) ?_ _
  go_simp
  clear hS x0 x1 x2 x3 x4 p0 p1 p2 y0 y1 y2 y3 y4 hgl
  have HE : Hid (PrS w b S (.slice a0 S.nc c0) (.slice (some ⟨g, o, none⟩) S.nl c1) (.slice a2 S.nw c2) a s kd pr un w'.drew) := HE.out.later (below_drew _)
  have HO : Hid (Blk3 w'.drew w4.heap.size (.slice d0 S.nc e0) (.slice d1 S.nl e1) (.slice d2 S.nw e2)) := HO.out.later (below_drew _)
  have B45 : Hid (Below w4.heap.size w4 w'.drew) := B45.out.trans ((below_drew w').mono B45.out.size)
  generalize w'.drew = w6 at HE HO B45 ⊢
  obtain ⟨⟨⟨y0, y1, y2, y3, y4⟩, _⟩, ⟨⟨r0, r1, r2, r3⟩, f0, f1, f2, f3⟩, ⟨p0, p1, p2⟩, pst⟩ := HE.out
  obtain ⟨⟨t0, t1, t2⟩, _⟩ := HO.out
  clear pst
  go_wp2
  have S3 : St w6 w3.heap.size S (.slice d0 S.nc e0) (.slice d1 S.nl e1) (.slice d2 S.nw e2) := HS.out.1.1.later B45.out
  have O3 := HOS.out.later B45.out
  have HBW : Below w.heap.size w w6 := HE.out.1.2
  have hlo : (w.heap.size + 1 : Nat) < w3.heap.size := by have := hz3.out; omega
  exact bodyPost_ret (v := .agg #[.int .i64 0, .slice d0 S.nc e0, .slice d1 S.nl e1, .slice d2 S.nw e2]) (by simp [results, Tryz.results87, go_sem, r0, r1, r2, r3]) rfl ⟨d0, e0, d1, e1, d2, e2, rfl, ((((O3.far hlo _).far hlo _).far hlo _).far hlo _).mono (by omega), (((HBW.setCell (Nat.le_succ _) _).setCell (Nat.le_succ _) _).setCell (Nat.le_succ _) _).setCell (Nat.le_succ _) _⟩
set_option maxRecDepth 100000 in
set_option maxHeartbeats 8000000 in
theorem l3Pre_locked (S : Sto) (b : Nat) (v0 v1 v2 : Value) (a s kd pr un va : Int) (j : Nat) (w : World) (h : Lies w b S v0 v1 v2) (hz : storeF S = 0) (hi : FirstAt (writeIs S.k a s) S.nw (-1)) (hm : ¬ newerP S.k S.nw a s) (hl : FirstAt (lockIs S.l a) S.nl j) (hj : S.l (j * 5 + 1) ≠ s) :
    Calls Tryz.prog 87 #[.pointer (some ⟨b, 0, none⟩), .agg #[.int .i64 a, .int .i64 s, .int .i64 kd, .int .i64 pr, .int .i64 un], .int .i64 va] w (ResStoK w 7 emptyS) := by
  have HJ : Hid (FirstAt (lockIs S.l a) S.nl j ∧ S.l (j * 5 + 1) ≠ s) := ⟨hl, hj⟩
  clear hl hj
  obtain ⟨a0, c0, a1, c1, a2, c2, rfl, rfl, rfl⟩ := h.2.form
  have HE : Hid (PrS w b S (.slice a0 S.nc c0) (.slice a1 S.nl c1) (.slice a2 S.nw c2) a s kd pr un ((w.alloc (.cells #[.int .i64 a, .int .i64 s, .int .i64 kd, .int .i64 pr, .int .i64 un] 62)).alloc (.cells #[.int .i64 0, .slice none 0 0, .slice none 0 0, .slice none 0 0] 32))) := by
    refine ⟨(LkE.new w a s kd pr un _).later (below_alloc _ _), ?_, (h.later (below_alloc _ _)).later (below_alloc _ _)⟩
    have := Blk4.new (w.alloc (.cells #[.int .i64 a, .int .i64 s, .int .i64 kd, .int .i64 pr, .int .i64 un] 62)) (.int .i64 0) (.slice none 0 0) (.slice none 0 0) (.slice none 0 0) 32
    rwa [World.size_alloc] at this
  obtain ⟨⟨hn0, hn1, hn2⟩, _⟩ := storeF_zero hz
  clear h hz
  go_enter Tryz.func87, Tryz.ntmps87
  go_wp2_with fail
  generalize (w.alloc (.cells #[.int .i64 a, .int .i64 s, .int .i64 kd, .int .i64 pr, .int .i64 un] 62)).alloc (.cells #[.int .i64 0, .slice none 0 0, .slice none 0 0, .slice none 0 0] 32) = w1 at HE ⊢
  refine (l2Write_is S b _ _ _ a s (-1) _ HE.out.2.2 hn2 hi).mono ?_
  rintro e w' ⟨rfl, rfl⟩
  obtain ⟨⟨⟨y0, y1, y2, y3, y4⟩, _⟩, ⟨⟨r0, r1, r2, r3⟩, f0, f1, f2, f3⟩, ⟨p0, p1, p2⟩, pst⟩ := HE.out
  unfold ResStoK
  clear pst hi
  have HM : Hid (¬ newerP S.k S.nw a s) := hm
  clear hm
  go_wp2_with fail
  refine (l3Newer_is S b _ _ _ a s _ HE.out.2.2 hn2 false ⟨fun q => (Bool.false_ne_true q).elim, fun q => (HM.out q).elim⟩).mono ?_
  rintro e w3 ⟨rfl, q3⟩
  have HE : Hid (PrS w b S (.slice a0 S.nc c0) (.slice a1 S.nl c1) (.slice a2 S.nw c2) a s kd pr un w3) := HE.out.later q3
  clear q3 y0 y1 y2 y3 y4 r0 r1 r2 r3 f0 f1 f2 f3 p0 p1 p2 HM
  obtain ⟨⟨⟨y0, y1, y2, y3, y4⟩, _⟩, ⟨⟨r0, r1, r2, r3⟩, f0, f1, f2, f3⟩, ⟨p0, p1, p2⟩, pst⟩ := HE.out
  clear pst
  go_wp2_with fail
  refine (l2Copy_own S _ _ _ 0 _ HE.out.2.2.2 ⟨by omega, by omega, by omega⟩).mono ?_
  rintro e w4 ⟨d0, e0, d1, e1, d2, e2, rfl, o2, q2⟩
  have g0 := own_cap o2.1.1
  have g1 := own_cap o2.1.2.1
  have g2 := own_cap o2.1.2.2
  obtain ⟨s2, fr2, ap2⟩ := o2.all
  have hz3 : Hid (w.heap.size + 2 ≤ w3.heap.size) := HE.out.2.1.lt
  have HS : Hid ((St w4 w3.heap.size S (.slice d0 S.nc e0) (.slice d1 S.nl e1) (.slice d2 S.nw e2) ∧ FreeS w4 S (.slice d0 S.nc e0) (.slice d1 S.nl e1) (.slice d2 S.nw e2)) ∧ ApartD S (.slice d0 S.nc e0) (.slice d1 S.nl e1) (.slice d2 S.nw e2)) := ⟨⟨s2, fr2⟩, ap2⟩
  have HOS : Hid (OwnS w4 w3.heap.size S (.slice d0 S.nc e0) (.slice d1 S.nl e1) (.slice d2 S.nw e2)) := o2
  have HE : Hid (PrS w b S (.slice a0 S.nc c0) (.slice a1 S.nl c1) (.slice a2 S.nw c2) a s kd pr un (w4.alloc (.cells #[.slice d0 S.nc e0, .slice d1 S.nl e1, .slice d2 S.nw e2] 28)) ∧ Blk3 (w4.alloc (.cells #[.slice d0 S.nc e0, .slice d1 S.nl e1, .slice d2 S.nw e2] 28)) w4.heap.size (.slice d0 S.nc e0) (.slice d1 S.nl e1) (.slice d2 S.nw e2)) := ⟨(HE.out.later q2).later (below_alloc _ _), Blk3.new _ _ _ _ _⟩
  have hz4 : Hid (w3.heap.size ≤ w4.heap.size) := q2.size
  have B45 : Hid (Below w4.heap.size w4 (w4.alloc (.cells #[.slice d0 S.nc e0, .slice d1 S.nl e1, .slice d2 S.nw e2] 28))) := below_alloc _ _
  clear o2 s2 fr2 ap2 q2 y0 y1 y2 y3 y4 r0 r1 r2 r3 f0 f1 f2 f3 p0 p1 p2
  have HO : Hid (Blk3 (w4.alloc (.cells #[.slice d0 S.nc e0, .slice d1 S.nl e1, .slice d2 S.nw e2] 28)) w4.heap.size (.slice d0 S.nc e0) (.slice d1 S.nl e1) (.slice d2 S.nw e2)) := HE.out.2
  have HE : Hid (PrS w b S (.slice a0 S.nc c0) (.slice a1 S.nl c1) (.slice a2 S.nw c2) a s kd pr un (w4.alloc (.cells #[.slice d0 S.nc e0, .slice d1 S.nl e1, .slice d2 S.nw e2] 28))) := HE.out.1
  obtain ⟨⟨⟨y0, y1, y2, y3, y4⟩, _⟩, ⟨⟨r0, r1, r2, r3⟩, f0, f1, f2, f3⟩, ⟨p0, p1, p2⟩, pst⟩ := HE.out
  go_wp2_with fail
  clear y0 y1 y2 y3 y4 r0 r1 r2 r3 f0 f1 f2 f3 p0 p1 p2 pst
  generalize w4.alloc (.cells #[.slice d0 S.nc e0, .slice d1 S.nl e1, .slice d2 S.nw e2] 28) = w5 at HE HO B45 ⊢
  obtain ⟨⟨⟨y0, y1, y2, y3, y4⟩, _⟩, ⟨⟨r0, r1, r2, r3⟩, f0, f1, f2, f3⟩, ⟨p0, p1, p2⟩, pst⟩ := HE.out
  obtain ⟨⟨t0, t1, t2⟩, _⟩ := HO.out
  refine (l2Lock_is S b _ _ _ a j _ HE.out.2.2 hn1 HJ.out.1).mono ?_
  rintro e w' ⟨rfl, rfl⟩
  obtain ⟨g, o, hg, _, hgl, x0, x1, x2, x3, x4⟩ := pst.2.1.at5 HJ.out.1.at.1
  subst hg
  obtain ⟨n1, N1⟩ : ∃ x, S.l (j * 5 + 1) = x := ⟨_, rfl⟩
  rw [N1] at x1
  have dn : (n1 == s) = false := beq_eq_false_iff_ne.2 (by rw [← N1]; exact HJ.out.2)
  have hjn : (j : Int) < (S.nl : Int) := by have := HJ.out.1.at.1; omega
  clear pst HJ N1
  clear r0 r1 r2 r3 f0 f1 f2 f3 t0 t1 t2
  go_upto_region 6 with fail
  refine wp_region_held_drew (S := fun X => X.cell? ⟨b, 1, none⟩ = some (.slice (some ⟨g, o, none⟩) S.nl c1) ∧ X.cell? ⟨w.heap.size, 1, none⟩ = some (.int .i64 s) ∧ X.cell? ⟨g, o + j * 5 + 1, none⟩ = some (.int .i64 n1)) (by kernel_rfl) ⟨p1, y1, x1⟩ (fun hS => ?_)
  refine tkH 0 ?_ hS (fun wx hx => ?_) ?_; rotate_left
  · obtain ⟨hx0, hx1, hx2⟩ := hx; go_simp; try with_reducible rfl
  refine tkH 1 ?_ hS (fun wx hx => ?_) ?_; rotate_left
  · obtain ⟨hx0, hx1, hx2⟩ := hx; go_simp; try with_reducible rfl
  refine tkH 2 ?_ hS (fun wx hx => ?_) ?_; rotate_left
  · obtain ⟨hx0, hx1, hx2⟩ := hx; go_simp; try with_reducible rfl
  refine tkH 3 ?_ hS (fun wx hx => ?_) ?_; rotate_left
  · obtain ⟨hx0, hx1, hx2⟩ := hx; go_simp; try with_reducible rfl
  refine tkH 4 ?_ hS (fun wx hx => ?_) ?_; rotate_left
  · obtain ⟨hx0, hx1, hx2⟩ := hx; go_simp; try with_reducible rfl
  refine tkH 5 ?_ hS (fun wx hx => ?_) ?_; rotate_left
  · obtain ⟨hx0, hx1, hx2⟩ := hx; go_simp; try with_reducible rfl
  refine tkH 6 ?_ hS (fun wx hx => ?_) ?_; rotate_left
  · obtain ⟨hx0, hx1, hx2⟩ := hx; go_simp; try with_reducible rfl
  refine tkH 7 ?_ hS (fun wx hx => ?_) ?_; rotate_left
  · obtain ⟨hx0, hx1, hx2⟩ := hx; go_simp; try with_reducible rfl
  refine tkH 8 ?_ hS (fun wx hx => ?_) ?_; rotate_left
  · obtain ⟨hx0, hx1, hx2⟩ := hx; go_simp; try with_reducible rfl
  refine tkH 9 ?_ hS (fun wx hx => ?_) ?_; rotate_left
  · obtain ⟨hx0, hx1, hx2⟩ := hx; go_simp; try with_reducible rfl
  refine tkH 10 ?_ hS (fun wx hx => ?_) ?_; rotate_left
  · obtain ⟨hx0, hx1, hx2⟩ := hx; go_simp; try with_reducible rfl
  refine wpAnyH_done (by kernel_rfl) ?_ _
  go_simp
  clear hS x0 x1 x2 x3 x4 p0 p1 p2 y0 y1 y2 y3 y4 hgl
  have HE : Hid (PrS w b S (.slice a0 S.nc c0) (.slice (some ⟨g, o, none⟩) S.nl c1) (.slice a2 S.nw c2) a s kd pr un w'.drew) := HE.out.later (below_drew _)
  have HO : Hid (Blk3 w'.drew w4.heap.size (.slice d0 S.nc e0) (.slice d1 S.nl e1) (.slice d2 S.nw e2)) := HO.out.later (below_drew _)
  have B45 : Hid (Below w4.heap.size w4 w'.drew) := B45.out.trans ((below_drew w').mono B45.out.size)
  generalize w'.drew = w6 at HE HO B45 ⊢
  obtain ⟨⟨⟨y0, y1, y2, y3, y4⟩, _⟩, ⟨⟨r0, r1, r2, r3⟩, f0, f1, f2, f3⟩, ⟨p0, p1, p2⟩, pst⟩ := HE.out
  obtain ⟨⟨t0, t1, t2⟩, _⟩ := HO.out
  clear pst
  go_wp2_with fail
  refine (l3Bad_own 7 _).mono ?_
  rintro e w9 ⟨x0, z0, x1, z1, x2, z2, rfl, o4, q4⟩
  have hsz : w.heap.size + 2 ≤ _ := HE.out.2.1.lt
  have S4 : Hid (OwnS w9 (w.heap.size + 2) emptyS (.slice x0 emptyS.nc z0) (.slice x1 emptyS.nl z1) (.slice x2 emptyS.nw z2)) := o4.mono hsz
  have HBW : Hid (Below w.heap.size w w9) := (HE.out.later q4).1.2
  obtain ⟨⟨r0, r1, r2, r3⟩, f0, f1, f2, f3⟩ := (HE.out.later q4).2.1
  clear o4 q4 hsz
  have hlo : (w.heap.size + 1 : Nat) < w.heap.size + 2 := Nat.lt_succ_self _
  go_wp2
  exact bodyPost_ret (v := .agg #[.int .i64 7, .slice x0 emptyS.nc z0, .slice x1 emptyS.nl z1, .slice x2 emptyS.nw z2]) (by simp [results, Tryz.results87, go_sem, r0, r1, r2, r3]) rfl ⟨x0, z0, x1, z1, x2, z2, rfl, ((((S4.out.far hlo _).far hlo _).far hlo _).far hlo _).mono (by omega), (((HBW.out.setCell (Nat.le_succ _) _).setCell (Nat.le_succ _) _).setCell (Nat.le_succ _) _).setCell (Nat.le_succ _) _⟩
set_option maxRecDepth 100000 in
set_option maxHeartbeats 8000000 in
theorem l3Pre_many (S : Sto) (b : Nat) (v0 v1 v2 : Value) (a s kd pr un va : Int) (hv : Int) (w : World) (h : Lies w b S v0 v1 v2) (hz : storeF S = 0) (hi : FirstAt (writeIs S.k a s) S.nw (-1)) (hm : ¬ newerP S.k S.nw a s) (hl : FirstAt (lockIs S.l a) S.nl (-1)) (hc : FirstAt (cellIs S.c a s) S.nc hv) (hf : 200 ≤ S.nl ∨ kd = 1 ∧ hv = -1 ∧ 200 ≤ S.nc) :
    Calls Tryz.prog 87 #[.pointer (some ⟨b, 0, none⟩), .agg #[.int .i64 a, .int .i64 s, .int .i64 kd, .int .i64 pr, .int .i64 un], .int .i64 va] w (ResStoK w 2 emptyS) := by
  have HJ : Hid (FirstAt (lockIs S.l a) S.nl (-1) ∧ FirstAt (cellIs S.c a s) S.nc hv) := ⟨hl, hc⟩
  clear hl hc
  have HF : Hid (200 ≤ S.nl ∨ kd = 1 ∧ hv = -1 ∧ 200 ≤ S.nc) := hf
  clear hf
  obtain ⟨a0, c0, a1, c1, a2, c2, rfl, rfl, rfl⟩ := h.2.form
  have HE : Hid (PrS w b S (.slice a0 S.nc c0) (.slice a1 S.nl c1) (.slice a2 S.nw c2) a s kd pr un ((w.alloc (.cells #[.int .i64 a, .int .i64 s, .int .i64 kd, .int .i64 pr, .int .i64 un] 62)).alloc (.cells #[.int .i64 0, .slice none 0 0, .slice none 0 0, .slice none 0 0] 32))) := by
    refine ⟨(LkE.new w a s kd pr un _).later (below_alloc _ _), ?_, (h.later (below_alloc _ _)).later (below_alloc _ _)⟩
    have := Blk4.new (w.alloc (.cells #[.int .i64 a, .int .i64 s, .int .i64 kd, .int .i64 pr, .int .i64 un] 62)) (.int .i64 0) (.slice none 0 0) (.slice none 0 0) (.slice none 0 0) 32
    rwa [World.size_alloc] at this
  obtain ⟨⟨hn0, hn1, hn2⟩, _⟩ := storeF_zero hz
  clear h hz
  go_enter Tryz.func87, Tryz.ntmps87
  go_wp2_with fail
  generalize (w.alloc (.cells #[.int .i64 a, .int .i64 s, .int .i64 kd, .int .i64 pr, .int .i64 un] 62)).alloc (.cells #[.int .i64 0, .slice none 0 0, .slice none 0 0, .slice none 0 0] 32) = w1 at HE ⊢
  refine (l2Write_is S b _ _ _ a s (-1) _ HE.out.2.2 hn2 hi).mono ?_
  rintro e w' ⟨rfl, rfl⟩
  obtain ⟨⟨⟨y0, y1, y2, y3, y4⟩, _⟩, ⟨⟨r0, r1, r2, r3⟩, f0, f1, f2, f3⟩, ⟨p0, p1, p2⟩, pst⟩ := HE.out
  unfold ResStoK
  clear pst hi
  have HM : Hid (¬ newerP S.k S.nw a s) := hm
  clear hm
  go_wp2_with fail
  refine (l3Newer_is S b _ _ _ a s _ HE.out.2.2 hn2 false ⟨fun q => (Bool.false_ne_true q).elim, fun q => (HM.out q).elim⟩).mono ?_
  rintro e w3 ⟨rfl, q3⟩
  have HE : Hid (PrS w b S (.slice a0 S.nc c0) (.slice a1 S.nl c1) (.slice a2 S.nw c2) a s kd pr un w3) := HE.out.later q3
  clear q3 y0 y1 y2 y3 y4 r0 r1 r2 r3 f0 f1 f2 f3 p0 p1 p2 HM
  obtain ⟨⟨⟨y0, y1, y2, y3, y4⟩, _⟩, ⟨⟨r0, r1, r2, r3⟩, f0, f1, f2, f3⟩, ⟨p0, p1, p2⟩, pst⟩ := HE.out
  clear pst
  go_wp2_with fail
  refine (l2Copy_own S _ _ _ 0 _ HE.out.2.2.2 ⟨by omega, by omega, by omega⟩).mono ?_
  rintro e w4 ⟨d0, e0, d1, e1, d2, e2, rfl, o2, q2⟩
  have g0 := own_cap o2.1.1
  have g1 := own_cap o2.1.2.1
  have g2 := own_cap o2.1.2.2
  obtain ⟨s2, fr2, ap2⟩ := o2.all
  have hz3 : Hid (w.heap.size + 2 ≤ w3.heap.size) := HE.out.2.1.lt
  have HS : Hid ((St w4 w3.heap.size S (.slice d0 S.nc e0) (.slice d1 S.nl e1) (.slice d2 S.nw e2) ∧ FreeS w4 S (.slice d0 S.nc e0) (.slice d1 S.nl e1) (.slice d2 S.nw e2)) ∧ ApartD S (.slice d0 S.nc e0) (.slice d1 S.nl e1) (.slice d2 S.nw e2)) := ⟨⟨s2, fr2⟩, ap2⟩
  have HOS : Hid (OwnS w4 w3.heap.size S (.slice d0 S.nc e0) (.slice d1 S.nl e1) (.slice d2 S.nw e2)) := o2
  have HE : Hid (PrS w b S (.slice a0 S.nc c0) (.slice a1 S.nl c1) (.slice a2 S.nw c2) a s kd pr un (w4.alloc (.cells #[.slice d0 S.nc e0, .slice d1 S.nl e1, .slice d2 S.nw e2] 28)) ∧ Blk3 (w4.alloc (.cells #[.slice d0 S.nc e0, .slice d1 S.nl e1, .slice d2 S.nw e2] 28)) w4.heap.size (.slice d0 S.nc e0) (.slice d1 S.nl e1) (.slice d2 S.nw e2)) := ⟨(HE.out.later q2).later (below_alloc _ _), Blk3.new _ _ _ _ _⟩
  have hz4 : Hid (w3.heap.size ≤ w4.heap.size) := q2.size
  have B45 : Hid (Below w4.heap.size w4 (w4.alloc (.cells #[.slice d0 S.nc e0, .slice d1 S.nl e1, .slice d2 S.nw e2] 28))) := below_alloc _ _
  clear o2 s2 fr2 ap2 q2 y0 y1 y2 y3 y4 r0 r1 r2 r3 f0 f1 f2 f3 p0 p1 p2
  have HO : Hid (Blk3 (w4.alloc (.cells #[.slice d0 S.nc e0, .slice d1 S.nl e1, .slice d2 S.nw e2] 28)) w4.heap.size (.slice d0 S.nc e0) (.slice d1 S.nl e1) (.slice d2 S.nw e2)) := HE.out.2
  have HE : Hid (PrS w b S (.slice a0 S.nc c0) (.slice a1 S.nl c1) (.slice a2 S.nw c2) a s kd pr un (w4.alloc (.cells #[.slice d0 S.nc e0, .slice d1 S.nl e1, .slice d2 S.nw e2] 28))) := HE.out.1
  obtain ⟨⟨⟨y0, y1, y2, y3, y4⟩, _⟩, ⟨⟨r0, r1, r2, r3⟩, f0, f1, f2, f3⟩, ⟨p0, p1, p2⟩, pst⟩ := HE.out
  go_wp2_with fail
  clear y0 y1 y2 y3 y4 r0 r1 r2 r3 f0 f1 f2 f3 p0 p1 p2 pst
  generalize w4.alloc (.cells #[.slice d0 S.nc e0, .slice d1 S.nl e1, .slice d2 S.nw e2] 28) = w5 at HE HO B45 ⊢
  obtain ⟨⟨⟨y0, y1, y2, y3, y4⟩, _⟩, ⟨⟨r0, r1, r2, r3⟩, f0, f1, f2, f3⟩, ⟨p0, p1, p2⟩, pst⟩ := HE.out
  obtain ⟨⟨t0, t1, t2⟩, _⟩ := HO.out
  refine (l2Lock_is S b _ _ _ a (-1) _ HE.out.2.2 hn1 HJ.out.1).mono ?_
  rintro e w' ⟨rfl, rfl⟩
  clear pst
  go_wp2_with fail
  refine (cellAt_is S b _ _ _ a s _ _ HE.out.2.2 hn0 HJ.out.2).mono ?_
  rintro e w'' ⟨rfl, rfl⟩
  clear HJ
  rcases HF.out with q | ⟨q1, q2, q3⟩
  focus
    have dn : decide ((200 : Int) ≤ (S.nl : Int)) = true := decide_eq_true (by omega)
    clear q HF
  rotate_left
  focus
    subst q1 q2
    have dc : decide ((200 : Int) ≤ (S.nc : Int)) = true := decide_eq_true (by omega)
    clear q3 HF
    by_cases q : 200 ≤ S.nl
    focus
      have dn : decide ((200 : Int) ≤ (S.nl : Int)) = true := decide_eq_true (by omega)
    rotate_left
    focus
      have dn : decide ((200 : Int) ≤ (S.nl : Int)) = false := decide_eq_false (by omega)
    rotate_left
    all_goals
      clear q
  rotate_left 2
  all_goals
    go_wp2_with fail
    refine (l3Bad_own 2 _).mono ?_
    rintro e w9 ⟨x0, z0, x1, z1, x2, z2, rfl, o4, q4⟩
    have hsz : w.heap.size + 2 ≤ _ := HE.out.2.1.lt
    have S4 : Hid (OwnS w9 (w.heap.size + 2) emptyS (.slice x0 emptyS.nc z0) (.slice x1 emptyS.nl z1) (.slice x2 emptyS.nw z2)) := o4.mono hsz
    have HBW : Hid (Below w.heap.size w w9) := (HE.out.later q4).1.2
    obtain ⟨⟨r0, r1, r2, r3⟩, f0, f1, f2, f3⟩ := (HE.out.later q4).2.1
    clear o4 q4 hsz
    have hlo : (w.heap.size + 1 : Nat) < w.heap.size + 2 := Nat.lt_succ_self _
    go_wp2
    exact bodyPost_ret (v := .agg #[.int .i64 2, .slice x0 emptyS.nc z0, .slice x1 emptyS.nl z1, .slice x2 emptyS.nw z2]) (by simp [results, Tryz.results87, go_sem, r0, r1, r2, r3]) rfl ⟨x0, z0, x1, z1, x2, z2, rfl, ((((S4.out.far hlo _).far hlo _).far hlo _).far hlo _).mono (by omega), (((HBW.out.setCell (Nat.le_succ _) _).setCell (Nat.le_succ _) _).setCell (Nat.le_succ _) _).setCell (Nat.le_succ _) _⟩
end
end Go.Proofs.YtgedodcojalidaaGreat

namespace Go.Proofs.YtgedodcojalidaaGreat
section
open Go.RowKit
theorem MapRow.congr {m m' : Int → Int → Option Int} {n : Nat} {c : Nat → Int} (h : MapRow m n c) (e : ∀ x y, m x y = m' x y) : MapRow m' n c :=
  ⟨h.rise, h.wf, fun i hi => (e _ _).symm.trans (h.has i hi), fun x y v hx hy q => h.all x y v hx hy ((e x y).trans q)⟩
end

section
open Go.RowKit Go.Lib
/-- A store that has one lock more, at place k. -/
def lockS (S : Sto) (k : Nat) (a s kd pr un : Int) : Sto := ⟨S.nc, S.c, S.nl + 1, insF S.l 5 S.nl k [a, s, kd, pr, un], S.nw, S.k⟩
set_option maxRecDepth 100000 in
set_option maxHeartbeats 8000000 in
theorem l3Pre_lock (S : Sto) (b : Nat) (v0 v1 v2 : Value) (a s kd pr un va : Int) (hv : Int) (k : Nat) (w : World) (h : Lies w b S v0 v1 v2) (hz : storeF S = 0) (hi : FirstAt (writeIs S.k a s) S.nw (-1)) (hm : ¬ newerP S.k S.nw a s) (hl : FirstAt (lockIs S.l a) S.nl (-1)) (hc : FirstAt (cellIs S.c a s) S.nc hv) (hf : S.nl < 200) (hk1 : kd ≠ 1) (hk : placeAt (aheadL S.l a) S.nl k) :
    Calls Tryz.prog 87 #[.pointer (some ⟨b, 0, none⟩), .agg #[.int .i64 a, .int .i64 s, .int .i64 kd, .int .i64 pr, .int .i64 un], .int .i64 va] w (ResStoK w 0 (lockS S k a s kd pr un)) := by
  have HJ : Hid (FirstAt (lockIs S.l a) S.nl (-1) ∧ FirstAt (cellIs S.c a s) S.nc hv) := ⟨hl, hc⟩
  have HK : Hid (placeAt (aheadL S.l a) S.nl k) := hk
  have dn : decide ((200 : Int) ≤ (S.nl : Int)) = false := decide_eq_false (by omega)
  have dk : (kd == 1) = false := beq_eq_false_iff_ne.2 hk1
  clear hl hc hk hf hk1
  obtain ⟨a0, c0, a1, c1, a2, c2, rfl, rfl, rfl⟩ := h.2.form
  have HE : Hid (PrS w b S (.slice a0 S.nc c0) (.slice a1 S.nl c1) (.slice a2 S.nw c2) a s kd pr un ((w.alloc (.cells #[.int .i64 a, .int .i64 s, .int .i64 kd, .int .i64 pr, .int .i64 un] 62)).alloc (.cells #[.int .i64 0, .slice none 0 0, .slice none 0 0, .slice none 0 0] 32))) := by
    refine ⟨(LkE.new w a s kd pr un _).later (below_alloc _ _), ?_, (h.later (below_alloc _ _)).later (below_alloc _ _)⟩
    have := Blk4.new (w.alloc (.cells #[.int .i64 a, .int .i64 s, .int .i64 kd, .int .i64 pr, .int .i64 un] 62)) (.int .i64 0) (.slice none 0 0) (.slice none 0 0) (.slice none 0 0) 32
    rwa [World.size_alloc] at this
  obtain ⟨⟨hn0, hn1, hn2⟩, _⟩ := storeF_zero hz
  clear h hz
  go_enter Tryz.func87, Tryz.ntmps87
  go_wp2_with fail
  generalize (w.alloc (.cells #[.int .i64 a, .int .i64 s, .int .i64 kd, .int .i64 pr, .int .i64 un] 62)).alloc (.cells #[.int .i64 0, .slice none 0 0, .slice none 0 0, .slice none 0 0] 32) = w1 at HE ⊢
  refine (l2Write_is S b _ _ _ a s (-1) _ HE.out.2.2 hn2 hi).mono ?_
  rintro e w' ⟨rfl, rfl⟩
  obtain ⟨⟨⟨y0, y1, y2, y3, y4⟩, _⟩, ⟨⟨r0, r1, r2, r3⟩, f0, f1, f2, f3⟩, ⟨p0, p1, p2⟩, pst⟩ := HE.out
  unfold ResStoK
  clear pst hi
  have HM : Hid (¬ newerP S.k S.nw a s) := hm
  clear hm
  go_wp2_with fail
  refine (l3Newer_is S b _ _ _ a s _ HE.out.2.2 hn2 false ⟨fun q => (Bool.false_ne_true q).elim, fun q => (HM.out q).elim⟩).mono ?_
  rintro e w3 ⟨rfl, q3⟩
  have HE : Hid (PrS w b S (.slice a0 S.nc c0) (.slice a1 S.nl c1) (.slice a2 S.nw c2) a s kd pr un w3) := HE.out.later q3
  clear q3 y0 y1 y2 y3 y4 r0 r1 r2 r3 f0 f1 f2 f3 p0 p1 p2 HM
  obtain ⟨⟨⟨y0, y1, y2, y3, y4⟩, _⟩, ⟨⟨r0, r1, r2, r3⟩, f0, f1, f2, f3⟩, ⟨p0, p1, p2⟩, pst⟩ := HE.out
  clear pst
  go_wp2_with fail
  refine (l2Copy_own S _ _ _ 0 _ HE.out.2.2.2 ⟨by omega, by omega, by omega⟩).mono ?_
  rintro e w4 ⟨d0, e0, d1, e1, d2, e2, rfl, o2, q2⟩
  have g0 := own_cap o2.1.1
  have g1 := own_cap o2.1.2.1
  have g2 := own_cap o2.1.2.2
  obtain ⟨s2, fr2, ap2⟩ := o2.all
  have hz3 : Hid (w.heap.size + 2 ≤ w3.heap.size) := HE.out.2.1.lt
  have HS : Hid ((St w4 w3.heap.size S (.slice d0 S.nc e0) (.slice d1 S.nl e1) (.slice d2 S.nw e2) ∧ FreeS w4 S (.slice d0 S.nc e0) (.slice d1 S.nl e1) (.slice d2 S.nw e2)) ∧ ApartD S (.slice d0 S.nc e0) (.slice d1 S.nl e1) (.slice d2 S.nw e2)) := ⟨⟨s2, fr2⟩, ap2⟩
  have HOS : Hid (OwnS w4 w3.heap.size S (.slice d0 S.nc e0) (.slice d1 S.nl e1) (.slice d2 S.nw e2)) := o2
  have HE : Hid (PrS w b S (.slice a0 S.nc c0) (.slice a1 S.nl c1) (.slice a2 S.nw c2) a s kd pr un (w4.alloc (.cells #[.slice d0 S.nc e0, .slice d1 S.nl e1, .slice d2 S.nw e2] 28)) ∧ Blk3 (w4.alloc (.cells #[.slice d0 S.nc e0, .slice d1 S.nl e1, .slice d2 S.nw e2] 28)) w4.heap.size (.slice d0 S.nc e0) (.slice d1 S.nl e1) (.slice d2 S.nw e2)) := ⟨(HE.out.later q2).later (below_alloc _ _), Blk3.new _ _ _ _ _⟩
  have hz4 : Hid (w3.heap.size ≤ w4.heap.size) := q2.size
  have B45 : Hid (Below w4.heap.size w4 (w4.alloc (.cells #[.slice d0 S.nc e0, .slice d1 S.nl e1, .slice d2 S.nw e2] 28))) := below_alloc _ _
  clear o2 s2 fr2 ap2 q2 y0 y1 y2 y3 y4 r0 r1 r2 r3 f0 f1 f2 f3 p0 p1 p2
  have HO : Hid (Blk3 (w4.alloc (.cells #[.slice d0 S.nc e0, .slice d1 S.nl e1, .slice d2 S.nw e2] 28)) w4.heap.size (.slice d0 S.nc e0) (.slice d1 S.nl e1) (.slice d2 S.nw e2)) := HE.out.2
  have HE : Hid (PrS w b S (.slice a0 S.nc c0) (.slice a1 S.nl c1) (.slice a2 S.nw c2) a s kd pr un (w4.alloc (.cells #[.slice d0 S.nc e0, .slice d1 S.nl e1, .slice d2 S.nw e2] 28))) := HE.out.1
  obtain ⟨⟨⟨y0, y1, y2, y3, y4⟩, _⟩, ⟨⟨r0, r1, r2, r3⟩, f0, f1, f2, f3⟩, ⟨p0, p1, p2⟩, pst⟩ := HE.out
  go_wp2_with fail
  clear y0 y1 y2 y3 y4 r0 r1 r2 r3 f0 f1 f2 f3 p0 p1 p2 pst
  generalize w4.alloc (.cells #[.slice d0 S.nc e0, .slice d1 S.nl e1, .slice d2 S.nw e2] 28) = w5 at HE HO B45 ⊢
  obtain ⟨⟨⟨y0, y1, y2, y3, y4⟩, _⟩, ⟨⟨r0, r1, r2, r3⟩, f0, f1, f2, f3⟩, ⟨p0, p1, p2⟩, pst⟩ := HE.out
  obtain ⟨⟨t0, t1, t2⟩, _⟩ := HO.out
  refine (l2Lock_is S b _ _ _ a (-1) _ HE.out.2.2 hn1 HJ.out.1).mono ?_
  rintro e w' ⟨rfl, rfl⟩
  clear pst
  go_wp2_with fail
  refine (cellAt_is S b _ _ _ a s _ _ HE.out.2.2 hn0 HJ.out.2).mono ?_
  rintro e w'' ⟨rfl, rfl⟩
  clear HJ
  go_wp2_with fail
  refine (l2AddLock_any S.nl S.l d1 e1 w3.heap.size a s kd pr un _ (HS.out.1.1.2.1.later B45.out) (by omega) g1).mono ?_
  rintro e w7 ⟨k', y1', z1', hk', rfl, O7, q7⟩
  have HO7 : Hid (Blk3 w7 w4.heap.size (.slice d0 S.nc e0) (.slice d1 S.nl e1) (.slice d2 S.nw e2)) := HO.out.later q7
  have HE7 : Hid (PrS w b S (.slice a0 S.nc c0) (.slice a1 S.nl c1) (.slice a2 S.nw c2) a s kd pr un w7) := HE.out.later q7
  have B47 : Hid (Below w4.heap.size w4 w7) := B45.out.trans (q7.mono B45.out.size)
  have O7' : Hid (OwnM w7 w''.heap.size 62 5 (.slice y1' (S.nl + 1) z1') (S.nl + 1) (nums S.l (k' * 5) ++ [a, s, kd, pr, un] ++ nums (fun p => S.l (k' * 5 + p)) ((S.nl - k') * 5))) := O7
  have hk1 : Hid (placeAt (aheadL S.l a) S.nl k') := hk'
  have hz5 : Hid (w4.heap.size < w''.heap.size) := HO.out.lt
  clear O7 q7 hk' y0 y1 y2 y3 y4 r0 r1 r2 r3 f0 f1 f2 f3 p0 p1 p2 t0 t1 t2 HE HO
  obtain ⟨⟨t0, t1, t2⟩, ft0, ft1, ft2⟩ := HO7.out
  go_upto_region 13 with fail
  have hwl : w.heap.size + 1 < w4.heap.size := by have := hz3.out; have := hz4.out; omega
  have hks : ∀ i, i ≠ w4.heap.size → (w7.setCell ⟨w4.heap.size, 1, none⟩ (.slice y1' (S.nl + 1) z1')).heap[i]? = w7.heap[i]? := fun i hi => Below.heap_setCell w7 ⟨w4.heap.size, 1, none⟩ _ i hi
  have y2 : (w7.setCell ⟨w4.heap.size, 1, none⟩ (.slice y1' (S.nl + 1) z1')).cell? ⟨w.heap.size, 2, none⟩ = some (.int .i64 kd) := (cell_kept (hks _ (by omega)) 2).trans HE7.out.1.1.2.2.1
  have RZ : Blk4 (w7.setCell ⟨w4.heap.size, 1, none⟩ (.slice y1' (S.nl + 1) z1')) (w.heap.size + 1) (.int .i64 0) (.slice none 0 0) (.slice none 0 0) (.slice none 0 0) := HE7.out.2.1.kept (hks _ (by omega))
  have TZ : Blk3 (w7.setCell ⟨w4.heap.size, 1, none⟩ (.slice y1' (S.nl + 1) z1')) w4.heap.size (.slice d0 S.nc e0) (.slice y1' (S.nl + 1) z1') (.slice d2 S.nw e2) := HO7.out.set1 _
  have BZ : Hid (Below w.heap.size w (w7.setCell ⟨w4.heap.size, 1, none⟩ (.slice y1' (S.nl + 1) z1'))) := HE7.out.1.2.setCell (by show w.heap.size ≤ w4.heap.size; omega) _
  have B4Z : Hid (Below w4.heap.size w4 (w7.setCell ⟨w4.heap.size, 1, none⟩ (.slice y1' (S.nl + 1) z1'))) := B47.out.setCell (Nat.le_refl _) _
  have OZ : Hid (OwnM (w7.setCell ⟨w4.heap.size, 1, none⟩ (.slice y1' (S.nl + 1) z1')) w''.heap.size 62 5 (.slice y1' (S.nl + 1) z1') (S.nl + 1) (nums S.l (k' * 5) ++ [a, s, kd, pr, un] ++ nums (fun p => S.l (k' * 5 + p)) ((S.nl - k') * 5))) := O7'.out.far hz5.out _
  generalize (w7.setCell ⟨w4.heap.size, 1, none⟩ (.slice y1' (S.nl + 1) z1')) = w8 at y2 RZ TZ BZ B4Z OZ ⊢
  clear hks t0 t1 t2 ft0 ft1 ft2 HO7 HE7 B47 O7' B45
  obtain ⟨⟨r0, r1, r2, r3⟩, f0, f1, f2, f3⟩ := RZ
  obtain ⟨⟨t0, t1, t2⟩, _⟩ := TZ
  obtain rfl : k' = k := hk1.out.one HK.out
  have lenL : (nums S.l (k' * 5) ++ [a, s, kd, pr, un] ++ nums (fun p => S.l (k' * 5 + p)) ((S.nl - k') * 5)).length = (S.nl + 1) * 5 := by
    have := hk1.out.1
    rw [List.length_append, List.length_append, nums_length, nums_length]
    simp only [List.length_cons, List.length_nil]
    omega
  have HL8 : Hid (Own _ _ _ _ _ _ _) := OZ.out.own lenL
  clear lenL
  go_wp2
  have O8 : OwnS w8 w3.heap.size (lockS S k' a s kd pr un) (.slice d0 S.nc e0) (.slice y1' (S.nl + 1) z1') (.slice d2 S.nw e2) :=
    ⟨⟨HOS.out.1.1.later B4Z.out, HL8.out.mono (by have := hz4.out; have := hz5.out; omega), HOS.out.1.2.2.later B4Z.out⟩, fun q a b => by have h1 := (own_blk HOS.out.1.1 q a).2; have h2 := (OZ.out.block q b).1; have := hz5.out; omega, HOS.out.2.2.1, fun q a b => by have h1 := (own_blk HOS.out.1.2.2 q b).2; have h2 := (OZ.out.block q a).1; have := hz5.out; omega⟩
  have hlo : (w.heap.size + 1 : Nat) < w3.heap.size := by have := hz3.out; omega
  exact bodyPost_ret (v := .agg #[.int .i64 0, .slice d0 S.nc e0, .slice y1' (S.nl + 1) z1', .slice d2 S.nw e2]) (by simp [results, Tryz.results87, go_sem, r0, r1, r2, r3]) rfl ⟨d0, e0, y1', z1', d2, e2, rfl, ((((O8.far hlo _).far hlo _).far hlo _).far hlo _).mono (by omega), (((BZ.out.setCell (Nat.le_succ _) _).setCell (Nat.le_succ _) _).setCell (Nat.le_succ _) _).setCell (Nat.le_succ _) _⟩
end

section
open Go.RowKit Go.Lib
/-- A store that has one lock more, at place k, and one cell more, at place q. -/
def putS (S : Sto) (k q : Nat) (a s pr un va : Int) : Sto := ⟨S.nc + 1, insF S.c 3 S.nc q [a, s, va], S.nl + 1, insF S.l 5 S.nl k [a, s, 1, pr, un], S.nw, S.k⟩
set_option maxRecDepth 100000 in
set_option maxHeartbeats 8000000 in
theorem l3Pre_put (S : Sto) (b : Nat) (v0 v1 v2 : Value) (a s pr un va : Int) (k q : Nat) (w : World) (h : Lies w b S v0 v1 v2) (hz : storeF S = 0) (hi : FirstAt (writeIs S.k a s) S.nw (-1)) (hm : ¬ newerP S.k S.nw a s) (hl : FirstAt (lockIs S.l a) S.nl (-1)) (hc : FirstAt (cellIs S.c a s) S.nc (-1)) (hf : S.nl < 200) (hg : S.nc < 200) (hk : placeAt (aheadL S.l a) S.nl k) (hq : placeAt (aheadC S.c a s) S.nc q) :
    Calls Tryz.prog 87 #[.pointer (some ⟨b, 0, none⟩), .agg #[.int .i64 a, .int .i64 s, .int .i64 1, .int .i64 pr, .int .i64 un], .int .i64 va] w (ResStoK w 0 (putS S k q a s pr un va)) := by
  have HJ : Hid (FirstAt (lockIs S.l a) S.nl (-1) ∧ FirstAt (cellIs S.c a s) S.nc (-1)) := ⟨hl, hc⟩
  have HK : Hid (placeAt (aheadL S.l a) S.nl k ∧ placeAt (aheadC S.c a s) S.nc q) := ⟨hk, hq⟩
  have dn : decide ((200 : Int) ≤ (S.nl : Int)) = false := decide_eq_false (by omega)
  have dc : decide ((200 : Int) ≤ (S.nc : Int)) = false := decide_eq_false (by omega)
  clear hl hc hk hq hf hg
  obtain ⟨a0, c0, a1, c1, a2, c2, rfl, rfl, rfl⟩ := h.2.form
  have HE : Hid (PrS w b S (.slice a0 S.nc c0) (.slice a1 S.nl c1) (.slice a2 S.nw c2) a s 1 pr un ((w.alloc (.cells #[.int .i64 a, .int .i64 s, .int .i64 1, .int .i64 pr, .int .i64 un] 62)).alloc (.cells #[.int .i64 0, .slice none 0 0, .slice none 0 0, .slice none 0 0] 32))) := by
    refine ⟨(LkE.new w a s 1 pr un _).later (below_alloc _ _), ?_, (h.later (below_alloc _ _)).later (below_alloc _ _)⟩
    have := Blk4.new (w.alloc (.cells #[.int .i64 a, .int .i64 s, .int .i64 1, .int .i64 pr, .int .i64 un] 62)) (.int .i64 0) (.slice none 0 0) (.slice none 0 0) (.slice none 0 0) 32
    rwa [World.size_alloc] at this
  obtain ⟨⟨hn0, hn1, hn2⟩, _⟩ := storeF_zero hz
  clear h hz
  go_enter Tryz.func87, Tryz.ntmps87
  go_wp2_with fail
  generalize (w.alloc (.cells #[.int .i64 a, .int .i64 s, .int .i64 1, .int .i64 pr, .int .i64 un] 62)).alloc (.cells #[.int .i64 0, .slice none 0 0, .slice none 0 0, .slice none 0 0] 32) = w1 at HE ⊢
  refine (l2Write_is S b _ _ _ a s (-1) _ HE.out.2.2 hn2 hi).mono ?_
  rintro e w' ⟨rfl, rfl⟩
  obtain ⟨⟨⟨y0, y1, y2, y3, y4⟩, _⟩, ⟨⟨r0, r1, r2, r3⟩, f0, f1, f2, f3⟩, ⟨p0, p1, p2⟩, pst⟩ := HE.out
  unfold ResStoK
  clear pst hi
  have HM : Hid (¬ newerP S.k S.nw a s) := hm
  clear hm
  go_wp2_with fail
  refine (l3Newer_is S b _ _ _ a s _ HE.out.2.2 hn2 false ⟨fun q => (Bool.false_ne_true q).elim, fun q => (HM.out q).elim⟩).mono ?_
  rintro e w3 ⟨rfl, q3⟩
  have HE : Hid (PrS w b S (.slice a0 S.nc c0) (.slice a1 S.nl c1) (.slice a2 S.nw c2) a s 1 pr un w3) := HE.out.later q3
  clear q3 y0 y1 y2 y3 y4 r0 r1 r2 r3 f0 f1 f2 f3 p0 p1 p2 HM
  obtain ⟨⟨⟨y0, y1, y2, y3, y4⟩, _⟩, ⟨⟨r0, r1, r2, r3⟩, f0, f1, f2, f3⟩, ⟨p0, p1, p2⟩, pst⟩ := HE.out
  clear pst
  go_wp2_with fail
  refine (l2Copy_own S _ _ _ 0 _ HE.out.2.2.2 ⟨by omega, by omega, by omega⟩).mono ?_
  rintro e w4 ⟨d0, e0, d1, e1, d2, e2, rfl, o2, q2⟩
  have g0 := own_cap o2.1.1
  have g1 := own_cap o2.1.2.1
  have g2 := own_cap o2.1.2.2
  obtain ⟨s2, fr2, ap2⟩ := o2.all
  have hz3 : Hid (w.heap.size + 2 ≤ w3.heap.size) := HE.out.2.1.lt
  have HS : Hid ((St w4 w3.heap.size S (.slice d0 S.nc e0) (.slice d1 S.nl e1) (.slice d2 S.nw e2) ∧ FreeS w4 S (.slice d0 S.nc e0) (.slice d1 S.nl e1) (.slice d2 S.nw e2)) ∧ ApartD S (.slice d0 S.nc e0) (.slice d1 S.nl e1) (.slice d2 S.nw e2)) := ⟨⟨s2, fr2⟩, ap2⟩
  have HOS : Hid (OwnS w4 w3.heap.size S (.slice d0 S.nc e0) (.slice d1 S.nl e1) (.slice d2 S.nw e2)) := o2
  have HE : Hid (PrS w b S (.slice a0 S.nc c0) (.slice a1 S.nl c1) (.slice a2 S.nw c2) a s 1 pr un (w4.alloc (.cells #[.slice d0 S.nc e0, .slice d1 S.nl e1, .slice d2 S.nw e2] 28)) ∧ Blk3 (w4.alloc (.cells #[.slice d0 S.nc e0, .slice d1 S.nl e1, .slice d2 S.nw e2] 28)) w4.heap.size (.slice d0 S.nc e0) (.slice d1 S.nl e1) (.slice d2 S.nw e2)) := ⟨(HE.out.later q2).later (below_alloc _ _), Blk3.new _ _ _ _ _⟩
  have hz4 : Hid (w3.heap.size ≤ w4.heap.size) := q2.size
  have B45 : Hid (Below w4.heap.size w4 (w4.alloc (.cells #[.slice d0 S.nc e0, .slice d1 S.nl e1, .slice d2 S.nw e2] 28))) := below_alloc _ _
  clear o2 s2 fr2 ap2 q2 y0 y1 y2 y3 y4 r0 r1 r2 r3 f0 f1 f2 f3 p0 p1 p2
  have HO : Hid (Blk3 (w4.alloc (.cells #[.slice d0 S.nc e0, .slice d1 S.nl e1, .slice d2 S.nw e2] 28)) w4.heap.size (.slice d0 S.nc e0) (.slice d1 S.nl e1) (.slice d2 S.nw e2)) := HE.out.2
  have HE : Hid (PrS w b S (.slice a0 S.nc c0) (.slice a1 S.nl c1) (.slice a2 S.nw c2) a s 1 pr un (w4.alloc (.cells #[.slice d0 S.nc e0, .slice d1 S.nl e1, .slice d2 S.nw e2] 28))) := HE.out.1
  obtain ⟨⟨⟨y0, y1, y2, y3, y4⟩, _⟩, ⟨⟨r0, r1, r2, r3⟩, f0, f1, f2, f3⟩, ⟨p0, p1, p2⟩, pst⟩ := HE.out
  go_wp2_with fail
  clear y0 y1 y2 y3 y4 r0 r1 r2 r3 f0 f1 f2 f3 p0 p1 p2 pst
  generalize w4.alloc (.cells #[.slice d0 S.nc e0, .slice d1 S.nl e1, .slice d2 S.nw e2] 28) = w5 at HE HO B45 ⊢
  obtain ⟨⟨⟨y0, y1, y2, y3, y4⟩, _⟩, ⟨⟨r0, r1, r2, r3⟩, f0, f1, f2, f3⟩, ⟨p0, p1, p2⟩, pst⟩ := HE.out
  obtain ⟨⟨t0, t1, t2⟩, _⟩ := HO.out
  refine (l2Lock_is S b _ _ _ a (-1) _ HE.out.2.2 hn1 HJ.out.1).mono ?_
  rintro e w' ⟨rfl, rfl⟩
  clear pst
  go_wp2_with fail
  refine (cellAt_is S b _ _ _ a s _ _ HE.out.2.2 hn0 HJ.out.2).mono ?_
  rintro e w'' ⟨rfl, rfl⟩
  clear HJ
  go_wp2_with fail
  refine (l2AddLock_any S.nl S.l d1 e1 w3.heap.size a s 1 pr un _ (HS.out.1.1.2.1.later B45.out) (by omega) g1).mono ?_
  rintro e w7 ⟨k', y1', z1', hk', rfl, O7, q7⟩
  have HO7 : Hid (Blk3 w7 w4.heap.size (.slice d0 S.nc e0) (.slice d1 S.nl e1) (.slice d2 S.nw e2)) := HO.out.later q7
  have HE7 : Hid (PrS w b S (.slice a0 S.nc c0) (.slice a1 S.nl c1) (.slice a2 S.nw c2) a s 1 pr un w7) := HE.out.later q7
  have B47 : Hid (Below w4.heap.size w4 w7) := B45.out.trans (q7.mono B45.out.size)
  have O7' : Hid (OwnM w7 w''.heap.size 62 5 (.slice y1' (S.nl + 1) z1') (S.nl + 1) (nums S.l (k' * 5) ++ [a, s, 1, pr, un] ++ nums (fun p => S.l (k' * 5 + p)) ((S.nl - k') * 5))) := O7
  have hk1 : Hid (placeAt (aheadL S.l a) S.nl k') := hk'
  have hz5 : Hid (w4.heap.size < w''.heap.size) := HO.out.lt
  have hz7 : Hid (w''.heap.size ≤ w7.heap.size) := q7.size
  clear O7 q7 hk' y0 y1 y2 y3 y4 r0 r1 r2 r3 f0 f1 f2 f3 p0 p1 p2 t0 t1 t2 HE HO
  obtain ⟨⟨t0, t1, t2⟩, ft0, ft1, ft2⟩ := HO7.out
  go_upto_region 13 with fail
  have hwl : w.heap.size + 1 < w4.heap.size := by have := hz3.out; have := hz4.out; omega
  have hks : ∀ i, i ≠ w4.heap.size → (w7.setCell ⟨w4.heap.size, 1, none⟩ (.slice y1' (S.nl + 1) z1')).heap[i]? = w7.heap[i]? := fun i hi => Below.heap_setCell w7 ⟨w4.heap.size, 1, none⟩ _ i hi
  have YZ : Hid (LkE w a s 1 pr un (w7.setCell ⟨w4.heap.size, 1, none⟩ (.slice y1' (S.nl + 1) z1'))) := ⟨⟨(cell_kept (hks _ (by omega)) 0).trans HE7.out.1.1.1, (cell_kept (hks _ (by omega)) 1).trans HE7.out.1.1.2.1, (cell_kept (hks _ (by omega)) 2).trans HE7.out.1.1.2.2.1, (cell_kept (hks _ (by omega)) 3).trans HE7.out.1.1.2.2.2.1, (cell_kept (hks _ (by omega)) 4).trans HE7.out.1.1.2.2.2.2⟩, HE7.out.1.2.setCell (by show w.heap.size ≤ w4.heap.size; omega) _⟩
  have RZ : Hid (Blk4 (w7.setCell ⟨w4.heap.size, 1, none⟩ (.slice y1' (S.nl + 1) z1')) (w.heap.size + 1) (.int .i64 0) (.slice none 0 0) (.slice none 0 0) (.slice none 0 0)) := HE7.out.2.1.kept (hks _ (by omega))
  have TZ : Hid (Blk3 (w7.setCell ⟨w4.heap.size, 1, none⟩ (.slice y1' (S.nl + 1) z1')) w4.heap.size (.slice d0 S.nc e0) (.slice y1' (S.nl + 1) z1') (.slice d2 S.nw e2)) := HO7.out.set1 _
  have B4Z : Hid (Below w4.heap.size w4 (w7.setCell ⟨w4.heap.size, 1, none⟩ (.slice y1' (S.nl + 1) z1'))) := B47.out.setCell (Nat.le_refl _) _
  have OZ : Hid (OwnM (w7.setCell ⟨w4.heap.size, 1, none⟩ (.slice y1' (S.nl + 1) z1')) w''.heap.size 62 5 (.slice y1' (S.nl + 1) z1') (S.nl + 1) (nums S.l (k' * 5) ++ [a, s, 1, pr, un] ++ nums (fun p => S.l (k' * 5 + p)) ((S.nl - k') * 5))) := O7'.out.far hz5.out _
  have zZ : Hid (w''.heap.size ≤ (w7.setCell ⟨w4.heap.size, 1, none⟩ (.slice y1' (S.nl + 1) z1')).heap.size) := by
    have := hz7.out
    unfold Hid
    simpa [World.setCell] using this
  generalize (w7.setCell ⟨w4.heap.size, 1, none⟩ (.slice y1' (S.nl + 1) z1')) = X0 at YZ RZ TZ B4Z OZ zZ ⊢
  clear hks t0 t1 t2 ft0 ft1 ft2 HO7 HE7 B47 O7' B45
  have hobL : Hid (∀ q, (Value.slice y1' (S.nl + 1) z1').ownBlock = some q → w''.heap.size ≤ q ∧ q < X0.heap.size) := OZ.out.block
  obtain ⟨⟨y0, y1, y2, y3, y4⟩, _⟩ := YZ.out
  obtain ⟨⟨r0, r1, r2, r3⟩, f0, f1, f2, f3⟩ := RZ.out
  obtain ⟨⟨t0, t1, t2⟩, ft0, ft1, ft2⟩ := TZ.out
  go_wp2_with fail
  refine (l2AddCell_any S.nc (S.c) d0 e0 w3.heap.size a s va _ (HS.out.1.1.1.later B4Z.out) (by omega) g0).mono ?_
  rintro e w9 ⟨q', y0', z0', hq', rfl, O9, q9⟩
  have hq1 : Hid (placeAt (aheadC (S.c) a s) S.nc q') := hq'
  have R9 : Hid (Blk4 w9 (w.heap.size + 1) (.int .i64 0) (.slice none 0 0) (.slice none 0 0) (.slice none 0 0)) := RZ.out.later q9
  have T9 : Hid (Blk3 w9 w4.heap.size (.slice d0 S.nc e0) (.slice y1' (S.nl + 1) z1') (.slice d2 S.nw e2)) := TZ.out.later q9
  have B49 : Hid (Below w4.heap.size w4 w9) := B4Z.out.trans (q9.mono B4Z.out.size)
  have BW9 : Hid (Below w.heap.size w w9) := YZ.out.2.trans (q9.mono YZ.out.2.size)
  have OL9 : Hid (OwnM w9 w''.heap.size 62 5 (.slice y1' (S.nl + 1) z1') (S.nl + 1) (nums S.l (k' * 5) ++ [a, s, 1, pr, un] ++ nums (fun p => S.l (k' * 5 + p)) ((S.nl - k') * 5))) := OZ.out.later q9
  have OC9 : Hid (OwnM w9 X0.heap.size 59 3 (.slice y0' (S.nc + 1) z0') (S.nc + 1) (nums (S.c) (q' * 3) ++ [a, s, va] ++ nums (fun p => (S.c) (q' * 3 + p)) ((S.nc - q') * 3))) := O9
  clear O9 q9 hq' y0 y1 y2 y3 y4 r0 r1 r2 r3 f0 f1 f2 f3 t0 t1 t2 ft0 ft1 ft2
  obtain ⟨⟨t0, t1, t2⟩, ft0, ft1, ft2⟩ := T9.out
  go_upto_region 17 with fail
  have hks : ∀ i, i ≠ w4.heap.size → (w9.setCell ⟨w4.heap.size, 0, none⟩ (.slice y0' (S.nc + 1) z0')).heap[i]? = w9.heap[i]? := fun i hi => Below.heap_setCell w9 ⟨w4.heap.size, 0, none⟩ _ i hi
  have RY : Blk4 (w9.setCell ⟨w4.heap.size, 0, none⟩ (.slice y0' (S.nc + 1) z0')) (w.heap.size + 1) (.int .i64 0) (.slice none 0 0) (.slice none 0 0) (.slice none 0 0) := R9.out.kept (hks _ (by omega))
  have TY : Blk3 (w9.setCell ⟨w4.heap.size, 0, none⟩ (.slice y0' (S.nc + 1) z0')) w4.heap.size (.slice y0' (S.nc + 1) z0') (.slice y1' (S.nl + 1) z1') (.slice d2 S.nw e2) := T9.out.set0 _
  have BY : Hid (Below w.heap.size w (w9.setCell ⟨w4.heap.size, 0, none⟩ (.slice y0' (S.nc + 1) z0'))) := BW9.out.setCell (by show w.heap.size ≤ w4.heap.size; omega) _
  have B4Y : Hid (Below w4.heap.size w4 (w9.setCell ⟨w4.heap.size, 0, none⟩ (.slice y0' (S.nc + 1) z0'))) := B49.out.setCell (Nat.le_refl _) _
  have OLY : Hid (OwnM (w9.setCell ⟨w4.heap.size, 0, none⟩ (.slice y0' (S.nc + 1) z0')) w''.heap.size 62 5 (.slice y1' (S.nl + 1) z1') (S.nl + 1) (nums S.l (k' * 5) ++ [a, s, 1, pr, un] ++ nums (fun p => S.l (k' * 5 + p)) ((S.nl - k') * 5))) := OL9.out.far hz5.out _
  have OCY : Hid (OwnM (w9.setCell ⟨w4.heap.size, 0, none⟩ (.slice y0' (S.nc + 1) z0')) X0.heap.size 59 3 (.slice y0' (S.nc + 1) z0') (S.nc + 1) (nums (S.c) (q' * 3) ++ [a, s, va] ++ nums (fun p => (S.c) (q' * 3 + p)) ((S.nc - q') * 3))) := OC9.out.far (by show w4.heap.size < _; have := hz5.out; have := zZ.out; omega) _
  generalize (w9.setCell ⟨w4.heap.size, 0, none⟩ (.slice y0' (S.nc + 1) z0')) = w8 at RY TY BY B4Y OLY OCY ⊢
  clear hks t0 t1 t2 ft0 ft1 ft2 R9 T9 B49 BW9 OL9 OC9
  obtain ⟨⟨r0, r1, r2, r3⟩, f0, f1, f2, f3⟩ := RY
  obtain ⟨⟨t0, t1, t2⟩, _⟩ := TY
  obtain rfl : k' = k := hk1.out.one HK.out.1
  obtain rfl : q' = q := hq1.out.one HK.out.2
  have lenL : (nums S.l (k' * 5) ++ [a, s, 1, pr, un] ++ nums (fun p => S.l (k' * 5 + p)) ((S.nl - k') * 5)).length = (S.nl + 1) * 5 := by
    have := hk1.out.1
    rw [List.length_append, List.length_append, nums_length, nums_length]
    simp only [List.length_cons, List.length_nil]
    omega
  have lenC : (nums (S.c) (q' * 3) ++ [a, s, va] ++ nums (fun p => (S.c) (q' * 3 + p)) ((S.nc - q') * 3)).length = (S.nc + 1) * 3 := by
    have := hq1.out.1
    rw [List.length_append, List.length_append, nums_length, nums_length]
    simp only [List.length_cons, List.length_nil]
    omega
  have HL8 : Hid (Own _ _ _ _ _ _ _) := OLY.out.own lenL
  have HC8 : Hid (Own _ _ _ _ _ _ _) := OCY.out.own lenC
  clear lenL lenC
  go_wp2
  have O8 : OwnS w8 w3.heap.size (putS S k' q' a s pr un va) (.slice y0' (S.nc + 1) z0') (.slice y1' (S.nl + 1) z1') (.slice d2 S.nw e2) :=
    ⟨⟨HC8.out.mono (by have := hz4.out; have := hz5.out; have := zZ.out; omega), HL8.out.mono (by have := hz4.out; have := hz5.out; omega), HOS.out.1.2.2.later B4Y.out⟩, fun q a b => by have h1 := (OCY.out.block q a).1; have h2 := (hobL.out q b).2; omega, fun q a b => by have h1 := (OCY.out.block q a).1; have h2 := (own_blk HOS.out.1.2.2 q b).2; have := zZ.out; have := hz5.out; omega, fun q a b => by have h1 := (hobL.out q a).1; have h2 := (own_blk HOS.out.1.2.2 q b).2; have := hz5.out; omega⟩
  have hlo : (w.heap.size + 1 : Nat) < w3.heap.size := by have := hz3.out; omega
  exact bodyPost_ret (v := .agg #[.int .i64 0, .slice y0' (S.nc + 1) z0', .slice y1' (S.nl + 1) z1', .slice d2 S.nw e2]) (by simp [results, Tryz.results87, go_sem, r0, r1, r2, r3]) rfl ⟨y0', z0', y1', z1', d2, e2, rfl, ((((O8.far hlo _).far hlo _).far hlo _).far hlo _).mono (by omega), (((BY.out.setCell (Nat.le_succ _) _).setCell (Nat.le_succ _) _).setCell (Nat.le_succ _) _).setCell (Nat.le_succ _) _⟩
end
end Go.Proofs.YtgedodcojalidaaGreat

