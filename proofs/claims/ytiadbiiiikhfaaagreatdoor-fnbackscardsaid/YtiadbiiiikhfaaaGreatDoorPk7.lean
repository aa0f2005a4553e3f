/-
 Own text, merged of RolB, RolC, KeepF, StorG, StatA, LawI, StatB, StorF.
-/
import Derived.Test.YtiadbiiiikhfaaaGreatDoorPk6
namespace Go.Proofs.YtiadbiiiikhfaaaGreatDoor
section
open Go.RowKit Go.Maps Go.Sort Go.Shelf Go.Lib
theorem selM_mem {F : Nat → Int} {m : Nat} {D : List Int → Bool} {x : List Int} : ∀ {k : Nat}, x ∈ selD F m D k → ∃ i, i < k ∧ x = struD F m i ∧ D x = false
 | 0, h => by simp [selD] at h
 | k + 1, h => by
  cases e : D (struD F m k) with
  | true =>
   rw [selD_gone e] at h
   obtain ⟨i, hi, r⟩ := selM_mem h
   exact ⟨i, by omega, r⟩
  | false =>
   rw [selD_kept e] at h
   rcases List.mem_append.1 h with h | h
   ·obtain ⟨i, hi, r⟩ := selM_mem h
    exact ⟨i, by omega, r⟩
   ·simp at h
    subst h
    exact ⟨k, by omega, rfl, e⟩
theorem selM_in {F : Nat → Int} {m : Nat} {D : List Int → Bool} {i : Nat} (h : D (struD F m i) = false) : ∀ {k : Nat}, i < k → struD F m i ∈ selD F m D k
 | 0, hi => by omega
 | k + 1, hi => by
  by_cases q : i = k
  ·subst q; rw [selD_kept h]; simp
  ·cases e : D (struD F m k) with
   | true => rw [selD_gone e]; exact selM_in h (by omega)
   | false => rw [selD_kept e]; exact List.mem_append.2 (Or.inl (selM_in h (by omega)))
theorem selM_rise {F : Nat → Int} {m : Nat} (hm : 2 ≤ m) {D : List Int → Bool} {n : Nat} (hr : ∀ j, j < n → ∀ i, i < j → pairLt (F (i * m)) (F (i * m + 1)) (F (j * m)) (F (j * m + 1))) : ∀ k, k ≤ n → (selD F m D k).Pairwise (Lt2 (fun x => x.getD 0 0) (fun x => x.getD 1 0))
 | 0, _ => by simp [selD]
 | k + 1, hk => by
  have ih := selM_rise hm (D := D) hr k (by omega)
  cases e : D (struD F m k) with
  | true => rw [selD_gone e]; exact ih
  | false =>
   rw [selD_kept e]
   refine List.pairwise_append.2 ⟨ih, by simp, ?_⟩
   intro x hx y hy
   simp at hy
   subst hy
   obtain ⟨i, hi, rfl, _⟩ := selM_mem hx
   have := hr k (by omega) i hi
   show (struD F m i).getD 0 0 < (struD F m k).getD 0 0 ∨ (struD F m i).getD 0 0 = (struD F m k).getD 0 0 ∧ (struD F m i).getD 1 0 < (struD F m k).getD 1 0
   rw [struD_get F m i 0 (by omega), struD_get F m k 0 (by omega), struD_get F m i 1 (by omega), struD_get F m k 1 (by omega)]
   exact this
/-- The cells without that of a key and start. -/
def goneK (a s : Int) (t : List Int) : Bool := t.getD 0 0 == a && t.getD 1 0 == s
def unlC (F : Nat → Int) (a s : Int) (n : Nat) : List (List Int) := selD F 3 (goneK a s) n
theorem goneK_iff {F : Nat → Int} {a s : Int} {i : Nat} : goneK a s (struD F 3 i) = true ↔ cellIs F a s i := by
 unfold goneK cellIs
 rw [struD_get F 3 i 0 (by omega), struD_get F 3 i 1 (by omega), Bool.and_eq_true, beq_iff_eq, beq_iff_eq]
 exact Iff.rfl
theorem goneK_not {F : Nat → Int} {a s : Int} {i : Nat} (h : ¬ cellIs F a s i) : goneK a s (struD F 3 i) = false := by
 cases e : goneK a s (struD F 3 i) with
 | false => rfl
 | true => exact absurd (goneK_iff.1 e) h
/-- A store of which what began at s for the key a is taken back. -/
def rollS (S : Sto) (a s : Int) (k : Nat) : Sto := ⟨(unlC S.c a s S.nc).length, fun p => (unlC S.c a s S.nc).flatten.getD p 0, (unlL S.l a s S.nl).length, fun p => (unlL S.l a s S.nl).flatten.getD p 0, S.nw + 1, insF S.k 4 S.nw k [a, s, s, 4]⟩
theorem selD_one {F : Nat → Int} {m : Nat} {D : List Int → Bool} {j : Nat} (hj : D (struD F m j) = true) : ∀ k, j < k → (∀ i, i < k → i ≠ j → D (struD F m i) = false) → (selD F m D k).length = k - 1 ∧ ∀ p, p < (k - 1) * m → (selD F m D k).flatten.getD p 0 = if p < j * m then F p else F (p + m)
 | 0, h, _ => absurd h (Nat.not_lt_zero _)
 | k + 1, h, ha => by
  rcases Nat.lt_or_ge j k with q | q
  ·obtain ⟨i1, i2⟩ := selD_one hj k q (fun i hi hn => ha i (by omega) hn)
   rw [selD_kept (ha k (by omega) (by omega))]
   refine ⟨by rw [List.length_append, i1]; simp; omega, fun p hp => ?_⟩
   have hfl : (selD F m D k).flatten.length = (k - 1) * m := by rw [flat_len _ (selD_len F m D k), i1]
   rw [List.flatten_append, List.getD_eq_getElem?_getD]
   by_cases hq : p < (k - 1) * m
   ·rw [List.getElem?_append_left (by rw [hfl]; exact hq), ← List.getD_eq_getElem?_getD]
    exact i2 p hq
   ·have e1 : (k + 1 - 1) * m = (k - 1) * m + m := by rw [show k + 1 - 1 = (k - 1) + 1 by omega, Nat.succ_mul]
    have e2 : j * m ≤ (k - 1) * m := Nat.mul_le_mul_right m (by omega)
    have e3 : k * m = (k - 1) * m + m := by rw [← Nat.succ_mul, show (k - 1).succ = k by omega]
    rw [List.getElem?_append_right (by rw [hfl]; omega), hfl, if_neg (by omega), ← List.getD_eq_getElem?_getD]
    simp only [List.flatten_cons, List.flatten_nil, List.append_nil]
    rw [struD_get F m k _ (by omega)]
    congr 1
    omega
  ·obtain rfl : j = k := by omega
   rw [selD_gone hj]
   obtain ⟨i1, i2⟩ := selD_same (fun i hi => ha i (by omega) (by omega)) (F := F) (m := m) (D := D) (k := j)
   refine ⟨by rw [i1]; omega, fun p hp => ?_⟩
   rw [show j + 1 - 1 = j by omega] at hp
   rw [i2 p hp, if_pos hp]
/-- Cells of a store without a fault: no two of one key and start. -/
theorem cell_once {S : Sto} (h : scan (cellF S.c) S.nc = 0) {a s : Int} {i j : Nat} (hi : i < S.nc) (hj : j < S.nc) (h1 : cellIs S.c a s i) (h2 : cellIs S.c a s j) : i = j := by
 unfold cellIs at h1 h2
 rcases Nat.lt_trichotomy i j with q | q | q
 ·have := cells_rise h j hj i q
  unfold pairLt at this
  omega
 ·exact q
 ·have := cells_rise h i hi j q
  unfold pairLt at this
  omega
theorem roll_map {S : Sto} (hz : scan (cellF S.c) S.nc = 0) (a s : Int) : MapRow (delM (cellM S S.nc) a s) (unlC S.c a s S.nc).length (fun p => (unlC S.c a s S.nc).flatten.getD p 0) := by
 refine mapRow_list (selD_len _ _ _ _) (selM_rise (by omega) (n := S.nc) (cells_rise hz) S.nc (Nat.le_refl _)) (fun x y v hm => ?_) (fun x y v hx hy hm => ?_)
 ·obtain ⟨i, hi, e, hd⟩ := selM_mem hm
  rw [e] at hd
  have hn : ¬ cellIs S.c a s i := fun q => by rw [goneK_iff.2 q] at hd; cases hd
  rw [struD_three] at e
  simp at e
  obtain ⟨rfl, rfl, rfl⟩ := e
  have hc := cellF_zero (scan_zero hz i hi)
  have hk := faultOf_zero hc.1
  refine ⟨⟨wf_small hk.1 (by omega), wf_small (by omega) hc.2.2.1⟩, ?_⟩
  unfold delM
  rw [if_neg (show ¬ (S.c (i * 3) = a ∧ S.c (i * 3 + 1) = s) from hn)]
  exact cellM_at hz hi ⟨rfl, rfl⟩
 ·unfold delM at hm
  split at hm
  ·cases hm
  ·rename_i hne
   obtain ⟨i, hi, h1, h2, h3⟩ := cellM_some hm
   have hs : struD S.c 3 i = [x, y, v] := by rw [struD_three, h1, h2, h3]
   rw [← hs]
   exact selM_in (goneK_not (fun q => hne ⟨h1.symm.trans q.1, h2.symm.trans q.2⟩)) hi
theorem cellAt_isO (S : Sto) (b oo : Nat) (v0 v1 v2 : Value) (a s r : Int) (w : World) (h : LiesO w b oo S v0 v1 v2) (hn : S.nc ≤ 200) (hr : FirstAt (cellIs S.c a s) S.nc r) :
  Calls Tryz.prog 88 #[.pointer (some ⟨b, oo, none⟩), .int .i64 a, .int .i64 s] w fun e w' => e = .returned (.int .i64 r) ∧ w' = w :=
 (l2Cell_anyO S b oo v0 v1 v2 a s w h hn).mono fun e w' ⟨r', he, hf, hw⟩ => ⟨by rw [he, hf.one hr], hw⟩
theorem cellAt_is (S : Sto) (b : Nat) (v0 v1 v2 : Value) (a s r : Int) (w : World) (h : Lies w b S v0 v1 v2) (hn : S.nc ≤ 200) (hr : FirstAt (cellIs S.c a s) S.nc r) :
  Calls Tryz.prog 88 #[.pointer (some ⟨b, 0, none⟩), .int .i64 a, .int .i64 s] w fun e w' => e = .returned (.int .i64 r) ∧ w' = w := cellAt_isO S b 0 v0 v1 v2 a s r w h hn hr
/-- 'delete(m, k)' at a map of two whole numbers. -/
theorem wpList_pdrop (w : World) {ops : Array Oper} {rest : List Oper} {o : Oper} {a : Act} {Q : Exit → Act → World → Prop} (hg : o.guard = none) (mo xo : Operand) (hop : o.op = Op.call { callee := Callee.builtin Builtin.delete, args := #[mo, xo], argTypes := #[101, 105] })
  (b n : Nat) (m : Int → Int → Option Int) (hm : a.eval mo = .map (some b)) (h : PM w b n m) (x y : Int) (hx : a.eval xo = .agg #[.int .i64 x, .int .i64 y]) (hwx : Wf x) (hwy : Wf y)
  (hK : ∀ w', PM w' b n (delM m x y) → w.grownBy w' (some b) → wpList Tryz.prog ops Q rest (a.put o.dst (.tuple #[])) w') :
  wpList Tryz.prog ops Q (o :: rest) a w := by
 obtain ⟨D, h1, h2⟩ := h
 refine wpList_delete_own w hg mo xo 101 105 hop _ placeKeyed Tryz.underlying101 _ b n D hm h1 _ _ hx (keyOf_place hwx hwy) ?_
 intro w' hr ht
 refine hK w' ⟨_, hr, fun p q hp hq => ?_⟩ ht.grown
 unfold delM
 by_cases e : p = x ∧ q = y
 ·obtain ⟨rfl, rfl⟩ := e
  rw [if_pos ⟨rfl, rfl⟩]
  exact ⟨has_del_same, atKey_del_same _⟩
 ·rw [if_neg e, has_del_other (fun q => e (kp_inj hp hq hwx hwy q)), atKey_del_other (fun q => e (kp_inj hp hq hwx hwy q))]
  exact h2 p q hp hq
end

section
open Go.RowKit Go.Lib
set_option maxRecDepth 100000 in
set_option maxHeartbeats 8000000 in
theorem l3Roll_sameO (S : Sto) (b oo : Nat) (v0 v1 v2 : Value) (a s : Int) (i : Nat) (w : World) (h : LiesO w b oo S v0 v1 v2) (hz : storeF S = 0) (hi : FirstAt (writeIs S.k a s) S.nw i) (hc : S.k (i * 4 + 3) = 4) :
  Calls Tryz.prog 67 #[.pointer (some ⟨b, oo, none⟩), .int .i64 a, .int .i64 s] w (ResStoK w 0 S) := by
 have hin : i < S.nw := hi.at.1
 obtain ⟨a0, c0, a1, c1, a2, c2, rfl, rfl, rfl⟩ := h.2.form
 have H : Hid (LiesO w b oo S (.slice a0 S.nc c0) (.slice a1 S.nl c1) (.slice a2 S.nw c2)) := h
 obtain ⟨p0, p1, p2⟩ := h.1
 have hb := h.lt
 obtain ⟨⟨hn0, hn1, hn2⟩, _⟩ := storeF_zero hz
 clear h
 go_enter Tryz.func67, Tryz.ntmps67
 go_wp2_with fail
 refine (l2Copy_own S _ _ _ 0 _ (H.out.2.alloc _) ⟨by omega, by omega, by omega⟩).mono ?_
 rintro e w2 ⟨d0, e0, d1, e1, d2, e2, rfl, o2, q2⟩
 have g0 := own_cap o2.1.1
 have g1 := own_cap o2.1.2.1
 have g2 := own_cap o2.1.2.2
 obtain ⟨s2, fr2, ap2⟩ := o2.all
 simp only [World.size_alloc] at s2 q2 o2
 have BW2 : Below w.heap.size w w2 := (below_alloc w _).trans (q2.mono (Nat.le_succ _))
 have HE : Hid (CmE w b oo S (.slice a0 S.nc c0) (.slice a1 S.nl c1) (.slice a2 S.nw c2) w2.heap.size (.slice d0 S.nc e0) (.slice d1 S.nl e1) (.slice d2 S.nw e2) (w2.alloc (.cells #[.slice d0 S.nc e0, .slice d1 S.nl e1, .slice d2 S.nw e2] 28))) :=
  ⟨((Blk4.new w _ _ _ _ _).kept (q2.block w.heap.size (Nat.lt_succ_self _))).alloc _, Blk3.new _ _ _ _ _, (H.out.later BW2).later (below_alloc _ _), BW2.trans ((below_alloc w2 _).mono BW2.size)⟩
 have HS : Hid ((St w2 (w.heap.size + 1) S (.slice d0 S.nc e0) (.slice d1 S.nl e1) (.slice d2 S.nw e2) ∧ FreeS w2 S (.slice d0 S.nc e0) (.slice d1 S.nl e1) (.slice d2 S.nw e2)) ∧ ApartD S (.slice d0 S.nc e0) (.slice d1 S.nl e1) (.slice d2 S.nw e2)) := ⟨⟨s2, fr2⟩, ap2⟩
 have HOS : Hid (OwnS w2 (w.heap.size + 1) S (.slice d0 S.nc e0) (.slice d1 S.nl e1) (.slice d2 S.nw e2)) := o2
 have hzw : w.heap.size < w2.heap.size := by have := q2.size; simp at this; omega
 have B23 : Hid (Below w2.heap.size w2 (w2.alloc (.cells #[.slice d0 S.nc e0, .slice d1 S.nl e1, .slice d2 S.nw e2] 28))) := below_alloc _ _
 have hbl : b < w2.heap.size := Nat.lt_trans hb hzw
 clear o2 s2 fr2 ap2 q2 BW2 p0 p1 p2
 go_wp2_with fail
 generalize w2.alloc (.cells #[.slice d0 S.nc e0, .slice d1 S.nl e1, .slice d2 S.nw e2] 28) = w3 at HE B23 ⊢
 have hz3 : w2.heap.size < w3.heap.size := HE.out.2.1.lt
 refine (l2Write_isO S b oo _ _ _ a s i _ HE.out.2.2.1 hn2 hi).mono ?_
 rintro e w' ⟨rfl, rfl⟩
 obtain ⟨⟨⟨r0, r1, r2, r3⟩, f0, f1, f2, f3⟩, ⟨⟨t0, t1, t2⟩, _⟩, ⟨⟨p0, p1, p2⟩, pst⟩, _⟩ := HE.out
 obtain ⟨g, o, hg, _, hgl, x0, x1, x2, x3⟩ := pst.2.2.at4 hin
 subst hg
 rw [hc] at x3
 unfold ResStoK
 clear pst
 go_wp2
 have S3 : St w' (w.heap.size + 1) S (.slice d0 S.nc e0) (.slice d1 S.nl e1) (.slice d2 S.nw e2) := HS.out.1.1.later B23.out
 have O3 := HOS.out.later B23.out
 have hlo : (w.heap.size : Nat) < w.heap.size + 1 := Nat.lt_succ_self _
 exact bodyPost_ret (v := .agg #[.int .i64 0, .slice d0 S.nc e0, .slice d1 S.nl e1, .slice d2 S.nw e2]) (by simp [results, Tryz.results67, go_sem, r0, r1, r2, r3]) rfl ⟨d0, e0, d1, e1, d2, e2, rfl, ((((O3.far hlo _).far hlo _).far hlo _).far hlo _).mono (by omega), (((HE.out.2.2.2.setCell (Nat.le_refl _) _).setCell (Nat.le_refl _) _).setCell (Nat.le_refl _) _).setCell (Nat.le_refl _) _⟩
set_option maxRecDepth 100000 in
set_option maxHeartbeats 8000000 in
theorem l3Roll_takenO (S : Sto) (b oo : Nat) (v0 v1 v2 : Value) (a s : Int) (i : Nat) (w : World) (h : LiesO w b oo S v0 v1 v2) (hz : storeF S = 0) (hi : FirstAt (writeIs S.k a s) S.nw i) (hc : S.k (i * 4 + 3) ≠ 4) :
  Calls Tryz.prog 67 #[.pointer (some ⟨b, oo, none⟩), .int .i64 a, .int .i64 s] w (ResStoK w 6 emptyS) := by
 have hin : i < S.nw := hi.at.1
 obtain ⟨a0, c0, a1, c1, a2, c2, rfl, rfl, rfl⟩ := h.2.form
 have H : Hid (LiesO w b oo S (.slice a0 S.nc c0) (.slice a1 S.nl c1) (.slice a2 S.nw c2)) := h
 obtain ⟨p0, p1, p2⟩ := h.1
 have hb := h.lt
 obtain ⟨⟨hn0, hn1, hn2⟩, _⟩ := storeF_zero hz
 clear h
 go_enter Tryz.func67, Tryz.ntmps67
 go_wp2_with fail
 refine (l2Copy_own S _ _ _ 0 _ (H.out.2.alloc _) ⟨by omega, by omega, by omega⟩).mono ?_
 rintro e w2 ⟨d0, e0, d1, e1, d2, e2, rfl, o2, q2⟩
 have g0 := own_cap o2.1.1
 have g1 := own_cap o2.1.2.1
 have g2 := own_cap o2.1.2.2
 obtain ⟨s2, fr2, ap2⟩ := o2.all
 simp only [World.size_alloc] at s2 q2 o2
 have BW2 : Below w.heap.size w w2 := (below_alloc w _).trans (q2.mono (Nat.le_succ _))
 have HE : Hid (CmE w b oo S (.slice a0 S.nc c0) (.slice a1 S.nl c1) (.slice a2 S.nw c2) w2.heap.size (.slice d0 S.nc e0) (.slice d1 S.nl e1) (.slice d2 S.nw e2) (w2.alloc (.cells #[.slice d0 S.nc e0, .slice d1 S.nl e1, .slice d2 S.nw e2] 28))) :=
  ⟨((Blk4.new w _ _ _ _ _).kept (q2.block w.heap.size (Nat.lt_succ_self _))).alloc _, Blk3.new _ _ _ _ _, (H.out.later BW2).later (below_alloc _ _), BW2.trans ((below_alloc w2 _).mono BW2.size)⟩
 have HS : Hid ((St w2 (w.heap.size + 1) S (.slice d0 S.nc e0) (.slice d1 S.nl e1) (.slice d2 S.nw e2) ∧ FreeS w2 S (.slice d0 S.nc e0) (.slice d1 S.nl e1) (.slice d2 S.nw e2)) ∧ ApartD S (.slice d0 S.nc e0) (.slice d1 S.nl e1) (.slice d2 S.nw e2)) := ⟨⟨s2, fr2⟩, ap2⟩
 have HOS : Hid (OwnS w2 (w.heap.size + 1) S (.slice d0 S.nc e0) (.slice d1 S.nl e1) (.slice d2 S.nw e2)) := o2
 have hzw : w.heap.size < w2.heap.size := by have := q2.size; simp at this; omega
 have B23 : Hid (Below w2.heap.size w2 (w2.alloc (.cells #[.slice d0 S.nc e0, .slice d1 S.nl e1, .slice d2 S.nw e2] 28))) := below_alloc _ _
 have hbl : b < w2.heap.size := Nat.lt_trans hb hzw
 clear o2 s2 fr2 ap2 q2 BW2 p0 p1 p2
 go_wp2_with fail
 generalize w2.alloc (.cells #[.slice d0 S.nc e0, .slice d1 S.nl e1, .slice d2 S.nw e2] 28) = w3 at HE B23 ⊢
 have hz3 : w2.heap.size < w3.heap.size := HE.out.2.1.lt
 refine (l2Write_isO S b oo _ _ _ a s i _ HE.out.2.2.1 hn2 hi).mono ?_
 rintro e w' ⟨rfl, rfl⟩
 obtain ⟨⟨⟨r0, r1, r2, r3⟩, f0, f1, f2, f3⟩, ⟨⟨t0, t1, t2⟩, _⟩, ⟨⟨p0, p1, p2⟩, pst⟩, _⟩ := HE.out
 obtain ⟨g, o, hg, _, hgl, x0, x1, x2, x3⟩ := pst.2.2.at4 hin
 subst hg
 obtain ⟨y, hy⟩ : ∃ y, S.k (i * 4 + 3) = y := ⟨_, rfl⟩
 rw [hy] at x3 hc
 have dc : (y == 4) = false := beq_eq_false_iff_ne.2 hc
 unfold ResStoK
 clear pst hc hy
 go_wp2_with fail
 refine (l3Bad_own 6 _).mono ?_
 rintro e w4 ⟨y0, z0, y1, z1, y2, z2, rfl, o4, q4⟩
 have S4 : Hid (OwnS w4 (w.heap.size + 1) emptyS (.slice y0 emptyS.nc z0) (.slice y1 emptyS.nl z1) (.slice y2 emptyS.nw z2)) := o4.mono (Nat.le_trans hzw (Nat.le_of_lt hz3))
 have HBW : Hid (Below w.heap.size w w4) := HE.out.2.2.2.trans (q4.mono HE.out.2.2.2.size)
 obtain ⟨⟨r0, r1, r2, r3⟩, f0, f1, f2, f3⟩ := HE.out.1.later q4
 clear o4 q4
 have hlo : (w.heap.size : Nat) < w.heap.size + 1 := Nat.lt_succ_self _
 go_wp2
 exact bodyPost_ret (v := .agg #[.int .i64 6, .slice y0 emptyS.nc z0, .slice y1 emptyS.nl z1, .slice y2 emptyS.nw z2]) (by simp [results, Tryz.results67, go_sem, r0, r1, r2, r3]) rfl ⟨y0, z0, y1, z1, y2, z2, rfl, ((((S4.out.far hlo _).far hlo _).far hlo _).far hlo _).mono (by omega), (((HBW.out.setCell (Nat.le_refl _) _).setCell (Nat.le_refl _) _).setCell (Nat.le_refl _) _).setCell (Nat.le_refl _) _⟩
set_option maxRecDepth 100000 in
set_option maxHeartbeats 8000000 in
theorem l3Roll_atO (S : Sto) (b oo : Nat) (v0 v1 v2 : Value) (a s : Int) (w : World) (h : LiesO w b oo S v0 v1 v2) (hz : storeF S = 0) (hi : FirstAt (writeIs S.k a s) S.nw (-1)) (hat : ∃ i, i < S.nw ∧ writeAt S.k a s i) :
  Calls Tryz.prog 67 #[.pointer (some ⟨b, oo, none⟩), .int .i64 a, .int .i64 s] w (ResStoK w 6 emptyS) := by
 obtain ⟨a0, c0, a1, c1, a2, c2, rfl, rfl, rfl⟩ := h.2.form
 have H : Hid (LiesO w b oo S (.slice a0 S.nc c0) (.slice a1 S.nl c1) (.slice a2 S.nw c2)) := h
 obtain ⟨p0, p1, p2⟩ := h.1
 have hb := h.lt
 obtain ⟨⟨hn0, hn1, hn2⟩, _⟩ := storeF_zero hz
 clear h
 go_enter Tryz.func67, Tryz.ntmps67
 go_wp2_with fail
 refine (l2Copy_own S _ _ _ 0 _ (H.out.2.alloc _) ⟨by omega, by omega, by omega⟩).mono ?_
 rintro e w2 ⟨d0, e0, d1, e1, d2, e2, rfl, o2, q2⟩
 have g0 := own_cap o2.1.1
 have g1 := own_cap o2.1.2.1
 have g2 := own_cap o2.1.2.2
 obtain ⟨s2, fr2, ap2⟩ := o2.all
 simp only [World.size_alloc] at s2 q2 o2
 have BW2 : Below w.heap.size w w2 := (below_alloc w _).trans (q2.mono (Nat.le_succ _))
 have HE : Hid (CmE w b oo S (.slice a0 S.nc c0) (.slice a1 S.nl c1) (.slice a2 S.nw c2) w2.heap.size (.slice d0 S.nc e0) (.slice d1 S.nl e1) (.slice d2 S.nw e2) (w2.alloc (.cells #[.slice d0 S.nc e0, .slice d1 S.nl e1, .slice d2 S.nw e2] 28))) :=
  ⟨((Blk4.new w _ _ _ _ _).kept (q2.block w.heap.size (Nat.lt_succ_self _))).alloc _, Blk3.new _ _ _ _ _, (H.out.later BW2).later (below_alloc _ _), BW2.trans ((below_alloc w2 _).mono BW2.size)⟩
 have HS : Hid ((St w2 (w.heap.size + 1) S (.slice d0 S.nc e0) (.slice d1 S.nl e1) (.slice d2 S.nw e2) ∧ FreeS w2 S (.slice d0 S.nc e0) (.slice d1 S.nl e1) (.slice d2 S.nw e2)) ∧ ApartD S (.slice d0 S.nc e0) (.slice d1 S.nl e1) (.slice d2 S.nw e2)) := ⟨⟨s2, fr2⟩, ap2⟩
 have HOS : Hid (OwnS w2 (w.heap.size + 1) S (.slice d0 S.nc e0) (.slice d1 S.nl e1) (.slice d2 S.nw e2)) := o2
 have hzw : w.heap.size < w2.heap.size := by have := q2.size; simp at this; omega
 have B23 : Hid (Below w2.heap.size w2 (w2.alloc (.cells #[.slice d0 S.nc e0, .slice d1 S.nl e1, .slice d2 S.nw e2] 28))) := below_alloc _ _
 have hbl : b < w2.heap.size := Nat.lt_trans hb hzw
 clear o2 s2 fr2 ap2 q2 BW2 p0 p1 p2
 go_wp2_with fail
 generalize w2.alloc (.cells #[.slice d0 S.nc e0, .slice d1 S.nl e1, .slice d2 S.nw e2] 28) = w3 at HE B23 ⊢
 have hz3 : w2.heap.size < w3.heap.size := HE.out.2.1.lt
 refine (l2Write_isO S b oo _ _ _ a s (-1) _ HE.out.2.2.1 hn2 hi).mono ?_
 rintro e w' ⟨rfl, rfl⟩
 obtain ⟨⟨⟨r0, r1, r2, r3⟩, f0, f1, f2, f3⟩, ⟨⟨t0, t1, t2⟩, _⟩, ⟨⟨p0, p1, p2⟩, pst⟩, _⟩ := HE.out
 unfold ResStoK
 clear pst
 go_wp2_with fail
 refine (l3At_anyO S b oo _ _ _ a s _ HE.out.2.2.1 hn2).mono ?_
 rintro e w5 ⟨r, rfl, hr, rfl⟩
 obtain rfl : r = true := hr.2 hat
 clear hr hat
 go_wp2_with fail
 refine (l3Bad_own 6 _).mono ?_
 rintro e w4 ⟨y0, z0, y1, z1, y2, z2, rfl, o4, q4⟩
 have S4 : Hid (OwnS w4 (w.heap.size + 1) emptyS (.slice y0 emptyS.nc z0) (.slice y1 emptyS.nl z1) (.slice y2 emptyS.nw z2)) := o4.mono (Nat.le_trans hzw (Nat.le_of_lt hz3))
 have HBW : Hid (Below w.heap.size w w4) := HE.out.2.2.2.trans (q4.mono HE.out.2.2.2.size)
 obtain ⟨⟨r0, r1, r2, r3⟩, f0, f1, f2, f3⟩ := HE.out.1.later q4
 clear o4 q4
 have hlo : (w.heap.size : Nat) < w.heap.size + 1 := Nat.lt_succ_self _
 go_wp2
 exact bodyPost_ret (v := .agg #[.int .i64 6, .slice y0 emptyS.nc z0, .slice y1 emptyS.nl z1, .slice y2 emptyS.nw z2]) (by simp [results, Tryz.results67, go_sem, r0, r1, r2, r3]) rfl ⟨y0, z0, y1, z1, y2, z2, rfl, ((((S4.out.far hlo _).far hlo _).far hlo _).far hlo _).mono (by omega), (((HBW.out.setCell (Nat.le_refl _) _).setCell (Nat.le_refl _) _).setCell (Nat.le_refl _) _).setCell (Nat.le_refl _) _⟩
set_option maxRecDepth 100000 in
set_option maxHeartbeats 8000000 in
theorem l3Roll_manyO (S : Sto) (b oo : Nat) (v0 v1 v2 : Value) (a s : Int) (w : World) (h : LiesO w b oo S v0 v1 v2) (hz : storeF S = 0) (hi : FirstAt (writeIs S.k a s) S.nw (-1)) (hat : ¬ ∃ i, i < S.nw ∧ writeAt S.k a s i) (hm : 200 ≤ S.nw) :
  Calls Tryz.prog 67 #[.pointer (some ⟨b, oo, none⟩), .int .i64 a, .int .i64 s] w (ResStoK w 2 emptyS) := by
 have dm : decide ((200 : Int) ≤ (S.nw : Int)) = true := decide_eq_true (by omega)
 clear hm
 obtain ⟨a0, c0, a1, c1, a2, c2, rfl, rfl, rfl⟩ := h.2.form
 have H : Hid (LiesO w b oo S (.slice a0 S.nc c0) (.slice a1 S.nl c1) (.slice a2 S.nw c2)) := h
 obtain ⟨p0, p1, p2⟩ := h.1
 have hb := h.lt
 obtain ⟨⟨hn0, hn1, hn2⟩, _⟩ := storeF_zero hz
 clear h
 go_enter Tryz.func67, Tryz.ntmps67
 go_wp2_with fail
 refine (l2Copy_own S _ _ _ 0 _ (H.out.2.alloc _) ⟨by omega, by omega, by omega⟩).mono ?_
 rintro e w2 ⟨d0, e0, d1, e1, d2, e2, rfl, o2, q2⟩
 have g0 := own_cap o2.1.1
 have g1 := own_cap o2.1.2.1
 have g2 := own_cap o2.1.2.2
 obtain ⟨s2, fr2, ap2⟩ := o2.all
 simp only [World.size_alloc] at s2 q2 o2
 have BW2 : Below w.heap.size w w2 := (below_alloc w _).trans (q2.mono (Nat.le_succ _))
 have HE : Hid (CmE w b oo S (.slice a0 S.nc c0) (.slice a1 S.nl c1) (.slice a2 S.nw c2) w2.heap.size (.slice d0 S.nc e0) (.slice d1 S.nl e1) (.slice d2 S.nw e2) (w2.alloc (.cells #[.slice d0 S.nc e0, .slice d1 S.nl e1, .slice d2 S.nw e2] 28))) :=
  ⟨((Blk4.new w _ _ _ _ _).kept (q2.block w.heap.size (Nat.lt_succ_self _))).alloc _, Blk3.new _ _ _ _ _, (H.out.later BW2).later (below_alloc _ _), BW2.trans ((below_alloc w2 _).mono BW2.size)⟩
 have HS : Hid ((St w2 (w.heap.size + 1) S (.slice d0 S.nc e0) (.slice d1 S.nl e1) (.slice d2 S.nw e2) ∧ FreeS w2 S (.slice d0 S.nc e0) (.slice d1 S.nl e1) (.slice d2 S.nw e2)) ∧ ApartD S (.slice d0 S.nc e0) (.slice d1 S.nl e1) (.slice d2 S.nw e2)) := ⟨⟨s2, fr2⟩, ap2⟩
 have HOS : Hid (OwnS w2 (w.heap.size + 1) S (.slice d0 S.nc e0) (.slice d1 S.nl e1) (.slice d2 S.nw e2)) := o2
 have hzw : w.heap.size < w2.heap.size := by have := q2.size; simp at this; omega
 have B23 : Hid (Below w2.heap.size w2 (w2.alloc (.cells #[.slice d0 S.nc e0, .slice d1 S.nl e1, .slice d2 S.nw e2] 28))) := below_alloc _ _
 have hbl : b < w2.heap.size := Nat.lt_trans hb hzw
 clear o2 s2 fr2 ap2 q2 BW2 p0 p1 p2
 go_wp2_with fail
 generalize w2.alloc (.cells #[.slice d0 S.nc e0, .slice d1 S.nl e1, .slice d2 S.nw e2] 28) = w3 at HE B23 ⊢
 have hz3 : w2.heap.size < w3.heap.size := HE.out.2.1.lt
 refine (l2Write_isO S b oo _ _ _ a s (-1) _ HE.out.2.2.1 hn2 hi).mono ?_
 rintro e w' ⟨rfl, rfl⟩
 obtain ⟨⟨⟨r0, r1, r2, r3⟩, f0, f1, f2, f3⟩, ⟨⟨t0, t1, t2⟩, _⟩, ⟨⟨p0, p1, p2⟩, pst⟩, _⟩ := HE.out
 unfold ResStoK
 clear pst
 go_wp2_with fail
 refine (l3At_anyO S b oo _ _ _ a s _ HE.out.2.2.1 hn2).mono ?_
 rintro e w5 ⟨r, rfl, hr, rfl⟩
 obtain rfl : r = false := bool_no hr hat
 clear hr hat
 go_wp2_with fail
 refine (l3Bad_own 2 _).mono ?_
 rintro e w4 ⟨y0, z0, y1, z1, y2, z2, rfl, o4, q4⟩
 have S4 : Hid (OwnS w4 (w.heap.size + 1) emptyS (.slice y0 emptyS.nc z0) (.slice y1 emptyS.nl z1) (.slice y2 emptyS.nw z2)) := o4.mono (Nat.le_trans hzw (Nat.le_of_lt hz3))
 have HBW : Hid (Below w.heap.size w w4) := HE.out.2.2.2.trans (q4.mono HE.out.2.2.2.size)
 obtain ⟨⟨r0, r1, r2, r3⟩, f0, f1, f2, f3⟩ := HE.out.1.later q4
 clear o4 q4
 have hlo : (w.heap.size : Nat) < w.heap.size + 1 := Nat.lt_succ_self _
 go_wp2
 exact bodyPost_ret (v := .agg #[.int .i64 2, .slice y0 emptyS.nc z0, .slice y1 emptyS.nl z1, .slice y2 emptyS.nw z2]) (by simp [results, Tryz.results67, go_sem, r0, r1, r2, r3]) rfl ⟨y0, z0, y1, z1, y2, z2, rfl, ((((S4.out.far hlo _).far hlo _).far hlo _).far hlo _).mono (by omega), (((HBW.out.setCell (Nat.le_refl _) _).setCell (Nat.le_refl _) _).setCell (Nat.le_refl _) _).setCell (Nat.le_refl _) _⟩
set_option maxRecDepth 100000 in
set_option maxHeartbeats 8000000 in
theorem l3Roll_noneO (S : Sto) (b oo : Nat) (v0 v1 v2 : Value) (a s : Int) (k : Nat) (w : World) (h : LiesO w b oo S v0 v1 v2) (hz : storeF S = 0) (hi : FirstAt (writeIs S.k a s) S.nw (-1)) (hat : ¬ ∃ i, i < S.nw ∧ writeAt S.k a s i) (hm : S.nw < 200) (hk : placeAt (aheadW S.k a s) S.nw k) (hcl : FirstAt (cellIs S.c a s) S.nc (-1)) :
  Calls Tryz.prog 67 #[.pointer (some ⟨b, oo, none⟩), .int .i64 a, .int .i64 s] w (ResStoK w 0 (rollS S a s k)) := by
 have dm : decide ((200 : Int) ≤ (S.nw : Int)) = false := decide_eq_false (by omega)
 have HK : Hid (placeAt (aheadW S.k a s) S.nw k) := hk
 clear hm hk
 obtain ⟨a0, c0, a1, c1, a2, c2, rfl, rfl, rfl⟩ := h.2.form
 have H : Hid (LiesO w b oo S (.slice a0 S.nc c0) (.slice a1 S.nl c1) (.slice a2 S.nw c2)) := h
 obtain ⟨p0, p1, p2⟩ := h.1
 have hb := h.lt
 obtain ⟨⟨hn0, hn1, hn2⟩, _⟩ := storeF_zero hz
 clear h
 go_enter Tryz.func67, Tryz.ntmps67
 go_wp2_with fail
 refine (l2Copy_own S _ _ _ 0 _ (H.out.2.alloc _) ⟨by omega, by omega, by omega⟩).mono ?_
 rintro e w2 ⟨d0, e0, d1, e1, d2, e2, rfl, o2, q2⟩
 have g0 := own_cap o2.1.1
 have g1 := own_cap o2.1.2.1
 have g2 := own_cap o2.1.2.2
 obtain ⟨s2, fr2, ap2⟩ := o2.all
 simp only [World.size_alloc] at s2 q2 o2
 have BW2 : Below w.heap.size w w2 := (below_alloc w _).trans (q2.mono (Nat.le_succ _))
 have HE : Hid (CmE w b oo S (.slice a0 S.nc c0) (.slice a1 S.nl c1) (.slice a2 S.nw c2) w2.heap.size (.slice d0 S.nc e0) (.slice d1 S.nl e1) (.slice d2 S.nw e2) (w2.alloc (.cells #[.slice d0 S.nc e0, .slice d1 S.nl e1, .slice d2 S.nw e2] 28))) :=
  ⟨((Blk4.new w _ _ _ _ _).kept (q2.block w.heap.size (Nat.lt_succ_self _))).alloc _, Blk3.new _ _ _ _ _, (H.out.later BW2).later (below_alloc _ _), BW2.trans ((below_alloc w2 _).mono BW2.size)⟩
 have HS : Hid ((St w2 (w.heap.size + 1) S (.slice d0 S.nc e0) (.slice d1 S.nl e1) (.slice d2 S.nw e2) ∧ FreeS w2 S (.slice d0 S.nc e0) (.slice d1 S.nl e1) (.slice d2 S.nw e2)) ∧ ApartD S (.slice d0 S.nc e0) (.slice d1 S.nl e1) (.slice d2 S.nw e2)) := ⟨⟨s2, fr2⟩, ap2⟩
 have HOS : Hid (OwnS w2 (w.heap.size + 1) S (.slice d0 S.nc e0) (.slice d1 S.nl e1) (.slice d2 S.nw e2)) := o2
 have hzw : w.heap.size < w2.heap.size := by have := q2.size; simp at this; omega
 have B23 : Hid (Below w2.heap.size w2 (w2.alloc (.cells #[.slice d0 S.nc e0, .slice d1 S.nl e1, .slice d2 S.nw e2] 28))) := below_alloc _ _
 have hbl : b < w2.heap.size := Nat.lt_trans hb hzw
 clear o2 s2 fr2 ap2 q2 BW2 p0 p1 p2
 go_wp2_with fail
 generalize w2.alloc (.cells #[.slice d0 S.nc e0, .slice d1 S.nl e1, .slice d2 S.nw e2] 28) = w3 at HE B23 ⊢
 have hz3 : w2.heap.size < w3.heap.size := HE.out.2.1.lt
 refine (l2Write_isO S b oo _ _ _ a s (-1) _ HE.out.2.2.1 hn2 hi).mono ?_
 rintro e w' ⟨rfl, rfl⟩
 obtain ⟨⟨⟨r0, r1, r2, r3⟩, f0, f1, f2, f3⟩, ⟨⟨t0, t1, t2⟩, ft0, ft1, ft2⟩, ⟨⟨p0, p1, p2⟩, pst⟩, _⟩ := HE.out
 clear pst
 go_wp2_with fail
 refine (l3At_anyO S b oo _ _ _ a s _ HE.out.2.2.1 hn2).mono ?_
 rintro e w5 ⟨r, rfl, hr, rfl⟩
 obtain rfl : r = false := bool_no hr hat
 clear hr hat
 go_wp2_with fail
 refine (l3Unlock_any S.nl S.l _ (w.heap.size + 1) a s _ (HS.out.1.1.later B23.out).2.1 (by omega)).mono ?_
 rintro e w6 ⟨y1, z1, rfl, O6, q6⟩
 have ft1' : w6.frozen? ⟨w2.heap.size, 1, none⟩ = false := (q6.frozen (p := ⟨w2.heap.size, 1, none⟩) hz3).trans ft1
 have t1' : w6.cell? ⟨w2.heap.size, 1, none⟩ = some (.slice d1 S.nl e1) := (q6.cell (p := ⟨w2.heap.size, 1, none⟩) hz3).trans t1
 have HE6 : Hid (CmE w b oo S (.slice a0 S.nc c0) (.slice a1 S.nl c1) (.slice a2 S.nw c2) w2.heap.size (.slice d0 S.nc e0) (.slice d1 S.nl e1) (.slice d2 S.nw e2) w6) := HE.out.later q6
 have B26 : Hid (Below w2.heap.size w2 w6) := B23.out.trans (q6.mono (Nat.le_of_lt hz3))
 obtain ⟨U, hU⟩ : ∃ U, unlL S.l a s S.nl = U := ⟨_, rfl⟩
 have HU : Hid (unlL S.l a s S.nl = U) := hU
 rw [hU] at O6
 have O6' : Hid (OwnM w6 w5.heap.size 40 5 (.slice y1 U.length z1) U.length U.flatten) := O6
 have hz6 : w5.heap.size ≤ w6.heap.size := q6.size
 rw [hU]
 clear O6 q6 hU r0 r1 r2 r3 f0 f1 f2 f3 t0 t1 t2 ft0 ft1 ft2 p0 p1 p2
 go_upto_region 12 with fail
 -- the world behind the store of the locks
 have BX : Hid (Below w.heap.size w (w6.setCell ⟨w2.heap.size, 1, none⟩ (.slice y1 U.length z1))) := HE6.out.2.2.2.setCell (Nat.le_of_lt hzw) _
 have B2X : Hid (Below w2.heap.size w2 (w6.setCell ⟨w2.heap.size, 1, none⟩ (.slice y1 U.length z1))) := B26.out.setCell (Nat.le_refl _) _
 have RX : Hid (Blk4 (w6.setCell ⟨w2.heap.size, 1, none⟩ (.slice y1 U.length z1)) w.heap.size (.int .i64 0) (.slice none 0 0) (.slice none 0 0) (.slice none 0 0)) := HE6.out.1.kept (Below.heap_setCell _ _ _ _ (Nat.ne_of_lt hzw))
 have TX : Hid (Blk3 (w6.setCell ⟨w2.heap.size, 1, none⟩ (.slice y1 U.length z1)) w2.heap.size (.slice d0 S.nc e0) (.slice y1 U.length z1) (.slice d2 S.nw e2)) := HE6.out.2.1.set1 _
 have OX : Hid (OwnM (w6.setCell ⟨w2.heap.size, 1, none⟩ (.slice y1 U.length z1)) w5.heap.size 40 5 (.slice y1 U.length z1) U.length U.flatten) := O6'.out.far hz3 _
 have LX : Hid (LiesO (w6.setCell ⟨w2.heap.size, 1, none⟩ (.slice y1 U.length z1)) b oo S (.slice a0 S.nc c0) (.slice a1 S.nl c1) (.slice a2 S.nw c2)) := H.out.later BX.out
 have zX : w2.heap.size < (w6.setCell ⟨w2.heap.size, 1, none⟩ (.slice y1 U.length z1)).heap.size := TX.out.lt
 have z5X : w5.heap.size ≤ (w6.setCell ⟨w2.heap.size, 1, none⟩ (.slice y1 U.length z1)).heap.size := by simpa [World.setCell] using hz6
 generalize w6.setCell ⟨w2.heap.size, 1, none⟩ (.slice y1 U.length z1) = X0 at BX B2X RX TX OX LX zX z5X ⊢
 clear HE6 O6' B26 hz6 t1' ft1' HE
 go_wp2_with fail
 refine (cellAt_isO S b oo _ _ _ a s (-1) _ LX.out hn0 hcl).mono ?_
 rintro e X1 ⟨rfl, hX1⟩
 obtain rfl := hX1.symm
 clear hX1
 obtain ⟨⟨t0, t1, t2⟩, _⟩ := TX.out
 go_wp2_with fail
 refine (l2AddWrite_any S.nw S.k d2 e2 (w.heap.size + 1) a s s 4 _ (HS.out.1.1.2.2.later B2X.out) (by omega) g2).mono ?_
 rintro e w7 ⟨k', y2, z2, hk', rfl, O7, q7⟩
 obtain rfl : k' = k := hk'.one HK.out
 have BY : Hid (Below w.heap.size w w7) := BX.out.trans (q7.mono BX.out.size)
 have B2Y : Hid (Below w2.heap.size w2 w7) := B2X.out.trans (q7.mono (Nat.le_of_lt zX))
 have RY : Hid (Blk4 w7 w.heap.size (.int .i64 0) (.slice none 0 0) (.slice none 0 0) (.slice none 0 0)) := RX.out.later q7
 have TY : Hid (Blk3 w7 w2.heap.size (.slice d0 (S.nc) e0) (.slice y1 U.length z1) (.slice d2 S.nw e2)) := TX.out.later q7
 have OY : Hid (OwnM w7 w5.heap.size 40 5 (.slice y1 U.length z1) U.length U.flatten) := OX.out.later q7
 have hob : Hid (∀ q, (Value.slice y1 U.length z1).ownBlock = some q → w5.heap.size ≤ q ∧ q < X0.heap.size) := OX.out.block
 have PY : Hid (OwnM w7 X0.heap.size 55 4 (.slice y2 (S.nw + 1) z2) (S.nw + 1) (nums S.k (k' * 4) ++ [a, s, s, 4] ++ nums (fun p => S.k (k' * 4 + p)) ((S.nw - k') * 4))) := O7
 have hkn : k' ≤ S.nw := hk'.1
 have hqX : Hid (Below X0.heap.size X0 w7) := q7
 clear O7 q7 hk' OX RX TX LX BX B2X HK t0 t1 t2
 obtain ⟨⟨t0, t1, t2⟩, ft0, ft1, ft2⟩ := TY.out
 go_upto_region 16 with fail
 have RZ := RY.out.kept (Below.heap_setCell w7 ⟨w2.heap.size, 2, none⟩ (.slice y2 (S.nw + 1) z2) _ (Nat.ne_of_lt hzw))
 have TZ := TY.out.set2 (.slice y2 (S.nw + 1) z2)
 have BZ : Hid (Below w.heap.size w (w7.setCell ⟨w2.heap.size, 2, none⟩ (.slice y2 (S.nw + 1) z2))) := BY.out.setCell (Nat.le_of_lt hzw) _
 have B2Z : Hid (Below w2.heap.size w2 (w7.setCell ⟨w2.heap.size, 2, none⟩ (.slice y2 (S.nw + 1) z2))) := B2Y.out.setCell (Nat.le_refl _) _
 have OZ : Hid (OwnM (w7.setCell ⟨w2.heap.size, 2, none⟩ (.slice y2 (S.nw + 1) z2)) w5.heap.size 40 5 (.slice y1 U.length z1) U.length U.flatten) := OY.out.far hz3 _
 have PZ : Hid (OwnM (w7.setCell ⟨w2.heap.size, 2, none⟩ (.slice y2 (S.nw + 1) z2)) X0.heap.size 55 4 (.slice y2 (S.nw + 1) z2) (S.nw + 1) (nums S.k (k' * 4) ++ [a, s, s, 4] ++ nums (fun p => S.k (k' * 4 + p)) ((S.nw - k') * 4))) := PY.out.far zX _
 generalize w7.setCell ⟨w2.heap.size, 2, none⟩ (.slice y2 (S.nw + 1) z2) = w8 at RZ TZ BZ B2Z OZ PZ ⊢
 clear t0 t1 t2 ft0 ft1 ft2 RY TY BY B2Y OY PY
 obtain ⟨⟨r0, r1, r2, r3⟩, f0, f1, f2, f3⟩ := RZ
 obtain ⟨⟨t0, t1, t2⟩, _⟩ := TZ
 go_wp2
 have hsame := selD_same (F := S.c) (m := 3) (D := goneK a s) (k := S.nc) (fun i hi => goneK_not (by
  rcases hcl with ⟨_, q⟩ | ⟨j, _, q, _⟩
  ·exact q i hi
  ·omega))
 have hN : (unlC S.c a s S.nc).length = S.nc := hsame.1
 have rC : Own w8 (w.heap.size + 1) 93 3 S.nc (fun p => (unlC S.c a s S.nc).flatten.getD p 0) (.slice d0 S.nc e0) := own_congr (HOS.out.1.1.later B2Z.out) (fun p hp => (hsame.2 p hp).symm)
 have A8 : ApartB (.slice d0 S.nc e0) (.slice y1 U.length z1) (.slice y2 (S.nw + 1) z2) :=
  ⟨fun q a b => by have h1 := (own_blk HOS.out.1.1 q a).2; have h2 := (hob.out q b).1; omega, fun q a b => by have h1 := (own_blk HOS.out.1.1 q a).2; have h2 := (PZ.out.block q b).1; omega, fun q a b => by have h1 := (hob.out q a).2; have h2 := (PZ.out.block q b).1; omega⟩
 have lenL : U.flatten.length = U.length * 5 := flat_len U (by rw [← HU.out]; exact selD_len _ _ _ _)
 have lenW : (nums S.k (k' * 4) ++ [a, s, s, 4] ++ nums (fun p => S.k (k' * 4 + p)) ((S.nw - k') * 4)).length = (S.nw + 1) * 4 := by
  rw [List.length_append, List.length_append, nums_length, nums_length]
  simp only [List.length_cons, List.length_nil]
  omega
 have O8 : OwnS w8 (w.heap.size + 1) (rollS S a s k') (.slice d0 (S.nc) e0) (.slice y1 U.length z1) (.slice y2 (S.nw + 1) z2) := by
  unfold rollS
  rw [HU.out, hN]
  exact ⟨⟨rC, (OZ.out.own lenL).mono (by omega), (PZ.out.own lenW).mono (by omega)⟩, A8⟩
 have hlo : (w.heap.size : Nat) < w.heap.size + 1 := Nat.lt_succ_self _
 have hul : (rollS S a s k').nl = U.length := by unfold rollS; rw [HU.out]
 have hcl' : (rollS S a s k').nc = S.nc := hN
 refine bodyPost_ret (v := .agg #[.int .i64 0, .slice d0 (S.nc) e0, .slice y1 U.length z1, .slice y2 (S.nw + 1) z2]) (by simp [results, Tryz.results67, go_sem, r0, r1, r2, r3]) rfl ?_
 refine ⟨d0, e0, y1, z1, y2, z2, ?_, ?_, (((BZ.out.setCell (Nat.le_refl _) _).setCell (Nat.le_refl _) _).setCell (Nat.le_refl _) _).setCell (Nat.le_refl _) _⟩
 ·rw [hul, hcl']; rfl
 ·rw [hul, hcl']
  exact ((((O8.far hlo _).far hlo _).far hlo _).far hlo _).mono (by omega)
theorem Row.tailR {w : World} {B m n g o : Nat} {F : Nat → Int} {cp : Nat} (h : Row w B m n F (.slice (some ⟨g, o, none⟩) n cp)) (k : Nat) (hc : n ≤ cp) : Row w B m (n - k) (fun p => F (k * m + p)) (.slice (if cp = k then some ⟨g, o, none⟩ else some ⟨g, o + k * m, none⟩) (n - k) (cp - k)) := by
 by_cases hk : k < n
 ·exact h.tailS hk hc
 ·exact Row.over _ _ _ _ _ _ _ _ hk
theorem roll_cells {F : Nat → Int} {n j : Nat} (hj : j < n) : ∀ p, p < (n - 1) * 3 → (nums F (j * 3) ++ nums (fun p => F ((j + 1) * 3 + p)) ((n - (j + 1)) * 3)).getD p 0 = if p < j * 3 then F p else F (p + 3) := by
 intro p hp
 rw [List.getD_eq_getElem?_getD]
 by_cases q : p < j * 3
 ·rw [List.getElem?_append_left (by rw [nums_length]; exact q), if_pos q]
  simp [nums, q]
 ·rw [List.getElem?_append_right (by rw [nums_length]; omega), nums_length, if_neg q]
  have h1 : p - j * 3 < (n - (j + 1)) * 3 := by omega
  simp only [nums, List.getElem?_map, List.getElem?_range h1, Option.map_some, Option.getD_some]
  congr 1
  omega
set_option maxRecDepth 100000 in
set_option maxHeartbeats 16000000 in
theorem l3Roll_cellO (S : Sto) (b oo : Nat) (v0 v1 v2 : Value) (a s : Int) (k j : Nat) (w : World) (h : LiesO w b oo S v0 v1 v2) (hz : storeF S = 0) (hi : FirstAt (writeIs S.k a s) S.nw (-1)) (hat : ¬ ∃ i, i < S.nw ∧ writeAt S.k a s i) (hm : S.nw < 200) (hk : placeAt (aheadW S.k a s) S.nw k) (hcl : FirstAt (cellIs S.c a s) S.nc (j : Int)) :
  Calls Tryz.prog 67 #[.pointer (some ⟨b, oo, none⟩), .int .i64 a, .int .i64 s] w (ResStoK w 0 (rollS S a s k)) := by
 have hjn : j < S.nc := hcl.at.1
 have HZ : Hid (scan (cellF S.c) S.nc = 0) := (storeF_zero hz).2.1
 have dm : decide ((200 : Int) ≤ (S.nw : Int)) = false := decide_eq_false (by omega)
 have HK : Hid (placeAt (aheadW S.k a s) S.nw k) := hk
 clear hm hk
 obtain ⟨a0, c0, a1, c1, a2, c2, rfl, rfl, rfl⟩ := h.2.form
 have H : Hid (LiesO w b oo S (.slice a0 S.nc c0) (.slice a1 S.nl c1) (.slice a2 S.nw c2)) := h
 obtain ⟨p0, p1, p2⟩ := h.1
 have hb := h.lt
 obtain ⟨⟨hn0, hn1, hn2⟩, _⟩ := storeF_zero hz
 clear h
 go_enter Tryz.func67, Tryz.ntmps67
 go_wp2_with fail
 refine (l2Copy_own S _ _ _ 0 _ (H.out.2.alloc _) ⟨by omega, by omega, by omega⟩).mono ?_
 rintro e w2 ⟨d0, e0, d1, e1, d2, e2, rfl, o2, q2⟩
 have g0 := own_cap o2.1.1
 have g1 := own_cap o2.1.2.1
 have g2 := own_cap o2.1.2.2
 obtain ⟨s2, fr2, ap2⟩ := o2.all
 simp only [World.size_alloc] at s2 q2 o2
 have BW2 : Below w.heap.size w w2 := (below_alloc w _).trans (q2.mono (Nat.le_succ _))
 have HE : Hid (CmE w b oo S (.slice a0 S.nc c0) (.slice a1 S.nl c1) (.slice a2 S.nw c2) w2.heap.size (.slice d0 S.nc e0) (.slice d1 S.nl e1) (.slice d2 S.nw e2) (w2.alloc (.cells #[.slice d0 S.nc e0, .slice d1 S.nl e1, .slice d2 S.nw e2] 28))) :=
  ⟨((Blk4.new w _ _ _ _ _).kept (q2.block w.heap.size (Nat.lt_succ_self _))).alloc _, Blk3.new _ _ _ _ _, (H.out.later BW2).later (below_alloc _ _), BW2.trans ((below_alloc w2 _).mono BW2.size)⟩
 have HS : Hid ((St w2 (w.heap.size + 1) S (.slice d0 S.nc e0) (.slice d1 S.nl e1) (.slice d2 S.nw e2) ∧ FreeS w2 S (.slice d0 S.nc e0) (.slice d1 S.nl e1) (.slice d2 S.nw e2)) ∧ ApartD S (.slice d0 S.nc e0) (.slice d1 S.nl e1) (.slice d2 S.nw e2)) := ⟨⟨s2, fr2⟩, ap2⟩
 have HOS : Hid (OwnS w2 (w.heap.size + 1) S (.slice d0 S.nc e0) (.slice d1 S.nl e1) (.slice d2 S.nw e2)) := o2
 have hzw : w.heap.size < w2.heap.size := by have := q2.size; simp at this; omega
 have B23 : Hid (Below w2.heap.size w2 (w2.alloc (.cells #[.slice d0 S.nc e0, .slice d1 S.nl e1, .slice d2 S.nw e2] 28))) := below_alloc _ _
 have hbl : b < w2.heap.size := Nat.lt_trans hb hzw
 clear o2 s2 fr2 ap2 q2 BW2 p0 p1 p2
 go_wp2_with fail
 generalize w2.alloc (.cells #[.slice d0 S.nc e0, .slice d1 S.nl e1, .slice d2 S.nw e2] 28) = w3 at HE B23 ⊢
 have hz3 : w2.heap.size < w3.heap.size := HE.out.2.1.lt
 refine (l2Write_isO S b oo _ _ _ a s (-1) _ HE.out.2.2.1 hn2 hi).mono ?_
 rintro e w' ⟨rfl, rfl⟩
 obtain ⟨⟨⟨r0, r1, r2, r3⟩, f0, f1, f2, f3⟩, ⟨⟨t0, t1, t2⟩, ft0, ft1, ft2⟩, ⟨⟨p0, p1, p2⟩, pst⟩, _⟩ := HE.out
 clear pst
 go_wp2_with fail
 refine (l3At_anyO S b oo _ _ _ a s _ HE.out.2.2.1 hn2).mono ?_
 rintro e w5 ⟨r, rfl, hr, rfl⟩
 obtain rfl : r = false := bool_no hr hat
 clear hr hat
 go_wp2_with fail
 refine (l3Unlock_any S.nl S.l _ (w.heap.size + 1) a s _ (HS.out.1.1.later B23.out).2.1 (by omega)).mono ?_
 rintro e w6 ⟨y1, z1, rfl, O6, q6⟩
 have ft1' : w6.frozen? ⟨w2.heap.size, 1, none⟩ = false := (q6.frozen (p := ⟨w2.heap.size, 1, none⟩) hz3).trans ft1
 have t1' : w6.cell? ⟨w2.heap.size, 1, none⟩ = some (.slice d1 S.nl e1) := (q6.cell (p := ⟨w2.heap.size, 1, none⟩) hz3).trans t1
 have HE6 : Hid (CmE w b oo S (.slice a0 S.nc c0) (.slice a1 S.nl c1) (.slice a2 S.nw c2) w2.heap.size (.slice d0 S.nc e0) (.slice d1 S.nl e1) (.slice d2 S.nw e2) w6) := HE.out.later q6
 have B26 : Hid (Below w2.heap.size w2 w6) := B23.out.trans (q6.mono (Nat.le_of_lt hz3))
 obtain ⟨U, hU⟩ : ∃ U, unlL S.l a s S.nl = U := ⟨_, rfl⟩
 have HU : Hid (unlL S.l a s S.nl = U) := hU
 rw [hU] at O6
 have O6' : Hid (OwnM w6 w5.heap.size 40 5 (.slice y1 U.length z1) U.length U.flatten) := O6
 have hz6 : w5.heap.size ≤ w6.heap.size := q6.size
 rw [hU]
 clear O6 q6 hU r0 r1 r2 r3 f0 f1 f2 f3 t0 t1 t2 ft0 ft1 ft2 p0 p1 p2
 go_upto_region 12 with fail
 -- the world behind the store of the locks
 have BX : Hid (Below w.heap.size w (w6.setCell ⟨w2.heap.size, 1, none⟩ (.slice y1 U.length z1))) := HE6.out.2.2.2.setCell (Nat.le_of_lt hzw) _
 have B2X : Hid (Below w2.heap.size w2 (w6.setCell ⟨w2.heap.size, 1, none⟩ (.slice y1 U.length z1))) := B26.out.setCell (Nat.le_refl _) _
 have RX : Hid (Blk4 (w6.setCell ⟨w2.heap.size, 1, none⟩ (.slice y1 U.length z1)) w.heap.size (.int .i64 0) (.slice none 0 0) (.slice none 0 0) (.slice none 0 0)) := HE6.out.1.kept (Below.heap_setCell _ _ _ _ (Nat.ne_of_lt hzw))
 have TX : Hid (Blk3 (w6.setCell ⟨w2.heap.size, 1, none⟩ (.slice y1 U.length z1)) w2.heap.size (.slice d0 S.nc e0) (.slice y1 U.length z1) (.slice d2 S.nw e2)) := HE6.out.2.1.set1 _
 have OX : Hid (OwnM (w6.setCell ⟨w2.heap.size, 1, none⟩ (.slice y1 U.length z1)) w5.heap.size 40 5 (.slice y1 U.length z1) U.length U.flatten) := O6'.out.far hz3 _
 have LX : Hid (LiesO (w6.setCell ⟨w2.heap.size, 1, none⟩ (.slice y1 U.length z1)) b oo S (.slice a0 S.nc c0) (.slice a1 S.nl c1) (.slice a2 S.nw c2)) := H.out.later BX.out
 have zX : w2.heap.size < (w6.setCell ⟨w2.heap.size, 1, none⟩ (.slice y1 U.length z1)).heap.size := TX.out.lt
 have z5X : w5.heap.size ≤ (w6.setCell ⟨w2.heap.size, 1, none⟩ (.slice y1 U.length z1)).heap.size := by simpa [World.setCell] using hz6
 generalize w6.setCell ⟨w2.heap.size, 1, none⟩ (.slice y1 U.length z1) = X0 at BX B2X RX TX OX LX zX z5X ⊢
 clear HE6 O6' B26 hz6 t1' ft1' HE
 go_wp2_with fail
 refine (cellAt_isO S b oo _ _ _ a s (j : Int) _ LX.out hn0 hcl).mono ?_
 rintro e X1 ⟨rfl, hX1⟩
 obtain rfl := hX1.symm
 clear hX1
 obtain ⟨i0, hi0, hz0, hz1, hz2⟩ := info_parts info_Cell
 obtain ⟨cg, co, hd0, _⟩ := HS.out.1.1.1.at (k := 0) (by omega)
 subst hd0
 have hw1 : IntKind.i64.wrap ((j : Int) + 1) = ((j + 1 : Nat) : Int) := by simp [IntKind.wrap, IntKind.bits, IntKind.signed]; omega
 have hj1 : j + 1 ≤ S.nc := hjn
 have hj2 : j + 1 ≤ e0 := by omega
 have hj3 : j ≤ e0 := by omega
 have hj4 : j ≤ S.nc := by omega
 have hq1 : (0 : Int) ≤ (j : Int) + 1 := by omega
 have hq2 : (j : Int) + 1 ≤ (S.nc : Int) := by omega
 have hq3 : (0 : Int) ≤ (j : Int) + 1 ∧ (j : Int) + 1 ≤ (S.nc : Int) := ⟨hq1, hq2⟩
 obtain ⟨A, hA⟩ : ∃ A, (if e0 = j + 1 then (some ⟨cg, co, none⟩ : Option Addr) else some ⟨cg, co + (j + 1) * 3, none⟩) = A := ⟨_, rfl⟩
 have F0 : X0.drew.cell? ⟨w2.heap.size, 0, none⟩ = some (.slice (some ⟨cg, co, none⟩) S.nc e0) := TX.out.1.1
 have F1 : (X0.alloc (.cells #[] 93)).drew.cell? ⟨w2.heap.size, 0, none⟩ = some (.slice (some ⟨cg, co, none⟩) S.nc e0) := (TX.out.alloc _).1.1
 have F1d : (X0.alloc (.cells #[] 93)).cell? ⟨w2.heap.size, 0, none⟩ = some (.slice (some ⟨cg, co, none⟩) S.nc e0) := (TX.out.alloc _).1.1
 have F0d : X0.cell? ⟨w2.heap.size, 0, none⟩ = some (.slice (some ⟨cg, co, none⟩) S.nc e0) := TX.out.1.1
 have O0 : Hid (OwnM (X0.alloc (.cells #[] 93)).drew X0.heap.size 93 3 (.slice (some ⟨X0.heap.size, 0, none⟩) 0 0) 0 []) := OwnM.lit0 X0.drew X0.heap.size _ _ rfl
 have C0 : Hid (Row (X0.alloc (.cells #[] 93)).drew (w.heap.size + 1) 3 S.nc S.c (.slice (some ⟨cg, co, none⟩) S.nc e0)) := ((HS.out.1.1.1.later B2X.out).drewN 1).alloc _
 go_wp2_with fail
 refine wp_regionZ 13 (S := fun X => X.cell? ⟨w2.heap.size, 0, none⟩ = some (.slice (some ⟨cg, co, none⟩) S.nc e0)) (by kernel_rfl) F0 (fun hS => ?_)
 refine wpAnyZ_take (i := 1) (v := ?_) rfl (by kernel_rfl) (by kernel_rfl) (by kernel_rfl) (by kernel_rfl) (fun _ _ _ h => h) (Or.inl ⟨by kernel_rfl, ?_⟩) hS ?_
 rotate_left
 ·intro wx hx
  try dsimp only at hx
  go_simp
  try with_reducible rfl
 refine wpAnyZ_take (i := 2) (v := ?_) rfl (by kernel_rfl) (by kernel_rfl) (by kernel_rfl) (by kernel_rfl) (fun _ _ _ h => h) (Or.inl ⟨by kernel_rfl, ?_⟩) hS ?_
 rotate_left
 ·intro wx hx
  try dsimp only at hx
  go_simp
  try with_reducible rfl
 refine wpAnyZ_take (i := 3) (v := ?_) rfl (by kernel_rfl) (by kernel_rfl) (by kernel_rfl) (by kernel_rfl) (fun _ _ _ h => h) (Or.inl ⟨by kernel_rfl, ?_⟩) hS ?_
 rotate_left
 ·intro wx hx
  try dsimp only at hx
  go_simp
  try with_reducible rfl
 refine wpAnyZ_take (i := 4) (v := ?_) rfl (by kernel_rfl) (by kernel_rfl) (by kernel_rfl) (by kernel_rfl) (fun _ _ _ h => h) (Or.inl ⟨by kernel_rfl, ?_⟩) hS ?_
 rotate_left
 ·intro wx hx
  try dsimp only at hx
  go_simp
  try with_reducible rfl
 refine wpAnyZ_take (i := 6) (v := ?_) rfl (by kernel_rfl) (by kernel_rfl) (by kernel_rfl) (by kernel_rfl) (fun _ _ _ h => h) (Or.inl ⟨by kernel_rfl, ?_⟩) hS ?_
 rotate_left
 ·intro wx hx
  try dsimp only at hx
  go_simp
  try with_reducible rfl
 refine wpAnyZ_take (i := 7) (v := ?_) rfl (by kernel_rfl) (by kernel_rfl) (by kernel_rfl) (by kernel_rfl) (fun _ _ _ h => h) (Or.inl ⟨by kernel_rfl, ?_⟩) hS ?_
 rotate_left
 ·intro wx hx
  try dsimp only at hx
  go_simp
  try with_reducible rfl
 refine wpAnyZ_take (i := 8) (v := ?_) rfl (by kernel_rfl) (by kernel_rfl) (by kernel_rfl) (by kernel_rfl) (fun _ _ _ h => h) (Or.inl ⟨by kernel_rfl, ?_⟩) hS ?_
 rotate_left
 ·intro wx hx
  try dsimp only at hx
  go_simp
  try with_reducible rfl
 refine wpAnyZ_take (i := 9) (v := ?_) rfl (by kernel_rfl) (by kernel_rfl) (by kernel_rfl) (by kernel_rfl) (fun _ _ _ h => h) (Or.inl ⟨by kernel_rfl, ?_⟩) hS ?_
 rotate_left
 ·intro wx hx
  try dsimp only at hx
  go_simp
  try with_reducible rfl
 refine wpAnyZ_take (i := 10) (v := ?_) rfl (by kernel_rfl) (by kernel_rfl) (by kernel_rfl) (by kernel_rfl) (fun _ _ _ h => h) (Or.inl ⟨by kernel_rfl, ?_⟩) hS ?_
 rotate_left
 ·intro wx hx
  try dsimp only at hx
  go_simp
  try with_reducible rfl
 clear hS
 refine wpAnyZ_one 0 (by kernel_rfl) rfl (fun K hK => ?_)
 go_simp
 refine hK.out _ _ F1 (fun _ => ?_)
 clear hK K
 refine wpAnyZ_one 5 (by kernel_rfl) rfl (fun K hK => ?_)
 refine step_app 93 i0 (.agg #[.int .i64 0, .int .i64 0, .int .i64 0]) 3 24 (by rfl) _ _ 24 (by rfl) Tryz.underlying24 hi0 hz0 hz1 hz2 rfl (by omega) (by omega) _ X0.heap.size 0 [] (.slice (some ⟨X0.heap.size, 0, none⟩) 0 0) (by rfl) O0.out (w.heap.size + 1) j S.c (.slice (some ⟨cg, co, none⟩) j e0) (by rfl) (C0.out.head hj4 e0) (by omega) (by show X0.heap.size ≤ (World.alloc X0 _).heap.size; simp) ?_
 intro ao5 cp5 w7 O7 G7
 rw [Nat.zero_add, List.nil_append] at O7
 rw [show (0 : Nat) + j = j from Nat.zero_add j]
 have F2 : w7.cell? ⟨w2.heap.size, 0, none⟩ = some (.slice (some ⟨cg, co, none⟩) S.nc e0) := G7.cell F1 (fun q => by simp [Value.ownBlock] at q; omega)
 refine hK.out _ _ F2 (fun _ => ?_)
 clear hK K
 have C7 : Hid (Row w7 (w.heap.size + 1) 3 S.nc S.c (.slice (some ⟨cg, co, none⟩) S.nc e0)) := C0.out.turned G7 (fun h0 k hk q => by
  have h1 := (HS.out.1.1.1.lt h0 k hk).2
  rw [q] at hk
  simp [Value.ownBlock] at hk q
  omega)
 refine wpAnyZ_one 11 (by kernel_rfl) rfl (fun K hK => ?_)
 refine step_app 93 i0 (.agg #[.int .i64 0, .int .i64 0, .int .i64 0]) 3 24 (by rfl) _ _ 24 (by rfl) Tryz.underlying24 hi0 hz0 hz1 hz2 rfl (by omega) (by omega) _ X0.heap.size j (nums S.c (j * 3)) (.slice ao5 j cp5) (by rfl) O7 (w.heap.size + 1) (S.nc - (j + 1)) (fun p => S.c ((j + 1) * 3 + p)) (.slice A (S.nc - (j + 1)) (e0 - (j + 1))) (by rfl) (hA ▸ C7.out.tailR (j + 1) g0) (by omega) (Nat.le_trans (by show X0.heap.size ≤ (World.alloc X0 _).heap.size; simp) G7.size) ?_
 intro ao6 cp6 wC O8 G8
 have keep : ∀ q, q < X0.heap.size → wC.heap[q]? = X0.heap[q]? := fun q hq => by
  have h1 : (X0.alloc (.cells #[] 93)).drew.heap[q]? = X0.heap[q]? := (below_alloc X0 (.cells #[] 93)).block q hq
  have h2 : w7.heap[q]? = (X0.alloc (.cells #[] 93)).drew.heap[q]? := G7.block q (by show q < (World.alloc X0 _).heap.size; simp; omega) (fun e => by simp [Value.ownBlock] at e; omega)
  have h3 : wC.heap[q]? = w7.heap[q]? := G8.block q (Nat.lt_of_lt_of_le (by show q < (World.alloc X0 _).heap.size; simp; omega) G7.size) (fun e => by have := (O7.block q e.symm).1; omega)
  exact h3.trans (h2.trans h1)
 have szC : X0.heap.size ≤ wC.heap.size := Nat.le_trans (Nat.le_trans (by show X0.heap.size ≤ (World.alloc X0 _).heap.size; simp) G7.size) G8.size
 have osC : wC.os = X0.os ∧ wC.tape = X0.tape ∧ wC.output = X0.output := ⟨G8.os.trans G7.os, G8.tape.trans G7.tape, G8.output.trans G7.output⟩
 have TC : Blk3 wC w2.heap.size (.slice (some ⟨cg, co, none⟩) S.nc e0) (.slice y1 U.length z1) (.slice d2 S.nw e2) := TX.out.kept (keep _ zX)
 refine hK.out _ _ TC.1.1 (fun hS => ?_)
 clear hK K
 refine wpAnyZ_take (i := 12) (v := ?_) rfl (by kernel_rfl) (by kernel_rfl) (by kernel_rfl) (by kernel_rfl) (fun _ _ _ h => h) (Or.inl ⟨by kernel_rfl, ?_⟩) hS ?_
 rotate_left
 ·intro wx hx
  try dsimp only at hx
  go_simp
  try with_reducible rfl
 obtain ⟨⟨t0, t1, t2⟩, ft0, ft1, ft2⟩ := TC
 clear hS
 refine wpAnyZ_last (by kernel_rfl) rfl (fun K hK => ?_)
 go_simp
 refine hK.out _ _ ?_
 clear hK K
 have TC : Blk3 wC w2.heap.size (.slice (some ⟨cg, co, none⟩) S.nc e0) (.slice y1 U.length z1) (.slice d2 S.nw e2) := TX.out.kept (keep _ zX)
 have BC : Below X0.heap.size X0 wC := ⟨osC.1, osC.2.1, osC.2.2, szC, keep⟩
 have BX1 : Hid (Below w.heap.size w (wC.setCell ⟨w2.heap.size, 0, none⟩ (.slice ao6 (j + (S.nc - (j + 1))) cp6))) := (BX.out.trans (BC.mono BX.out.size)).setCell (Nat.le_of_lt hzw) _
 have B2X1 : Hid (Below w2.heap.size w2 (wC.setCell ⟨w2.heap.size, 0, none⟩ (.slice ao6 (j + (S.nc - (j + 1))) cp6))) := (B2X.out.trans (BC.mono (Nat.le_of_lt zX))).setCell (Nat.le_refl _) _
 have RX1 : Hid (Blk4 (wC.setCell ⟨w2.heap.size, 0, none⟩ (.slice ao6 (j + (S.nc - (j + 1))) cp6)) w.heap.size (.int .i64 0) (.slice none 0 0) (.slice none 0 0) (.slice none 0 0)) := (RX.out.later BC).kept (Below.heap_setCell _ _ _ _ (Nat.ne_of_lt hzw))
 have TX1 : Hid (Blk3 (wC.setCell ⟨w2.heap.size, 0, none⟩ (.slice ao6 (j + (S.nc - (j + 1))) cp6)) w2.heap.size (.slice ao6 (j + (S.nc - (j + 1))) cp6) (.slice y1 U.length z1) (.slice d2 S.nw e2)) := TC.set0 _
 have OX1 : Hid (OwnM (wC.setCell ⟨w2.heap.size, 0, none⟩ (.slice ao6 (j + (S.nc - (j + 1))) cp6)) w5.heap.size 40 5 (.slice y1 U.length z1) U.length U.flatten) := (OX.out.later BC).far hz3 _
 have hobX : Hid (∀ q, (Value.slice y1 U.length z1).ownBlock = some q → w5.heap.size ≤ q ∧ q < X0.heap.size) := OX.out.block
 have OC : Hid (OwnM (wC.setCell ⟨w2.heap.size, 0, none⟩ (.slice ao6 (j + (S.nc - (j + 1))) cp6)) X0.heap.size 93 3 (.slice ao6 (j + (S.nc - (j + 1))) cp6) (j + (S.nc - (j + 1))) (nums S.c (j * 3) ++ nums (fun p => S.c ((j + 1) * 3 + p)) ((S.nc - (j + 1)) * 3))) := O8.far zX _
 have hobC : Hid (∀ q, (Value.slice ao6 (j + (S.nc - (j + 1))) cp6).ownBlock = some q → X0.heap.size ≤ q ∧ q < (wC.setCell ⟨w2.heap.size, 0, none⟩ (.slice ao6 (j + (S.nc - (j + 1))) cp6)).heap.size) := OC.out.block
 have zX0 : w2.heap.size < X0.heap.size := zX
 have zX1 : w2.heap.size < (wC.setCell ⟨w2.heap.size, 0, none⟩ (.slice ao6 (j + (S.nc - (j + 1))) cp6)).heap.size := TX1.out.lt
 have z5X1 : w5.heap.size ≤ (wC.setCell ⟨w2.heap.size, 0, none⟩ (.slice ao6 (j + (S.nc - (j + 1))) cp6)).heap.size := Nat.le_trans z5X (by simpa [World.setCell] using szC)
 generalize wC.setCell ⟨w2.heap.size, 0, none⟩ (.slice ao6 (j + (S.nc - (j + 1))) cp6) = X1 at BX1 B2X1 RX1 TX1 OX1 OC hobC zX1 z5X1 ⊢
 clear BX B2X RX TX OX zX z5X LX F0 F1 F1d F0d F2 O0 C0 C7 O7 G7 O8 G8 keep szC osC TC BC t0 t1 t2 ft0 ft1 ft2
 have BX := BX1
 have B2X := B2X1
 have RX := RX1
 have TX := TX1
 have OX := OX1
 have zX := zX1
 have z5X := z5X1
 have LX : True := trivial
 clear BX1 B2X1 RX1 TX1 OX1 zX1 z5X1
 refine wpAnyZ_done (by kernel_rfl) ?_ _
 obtain ⟨⟨t0, t1, t2⟩, _⟩ := TX.out
 go_simp
 go_wp2_with fail
 refine (l2AddWrite_any S.nw S.k d2 e2 (w.heap.size + 1) a s s 4 _ (HS.out.1.1.2.2.later B2X.out) (by omega) g2).mono ?_
 rintro e w7 ⟨k', y2, z2, hk', rfl, O7, q7⟩
 obtain rfl : k' = k := hk'.one HK.out
 have BY : Hid (Below w.heap.size w w7) := BX.out.trans (q7.mono BX.out.size)
 have B2Y : Hid (Below w2.heap.size w2 w7) := B2X.out.trans (q7.mono (Nat.le_of_lt zX))
 have RY : Hid (Blk4 w7 w.heap.size (.int .i64 0) (.slice none 0 0) (.slice none 0 0) (.slice none 0 0)) := RX.out.later q7
 have TY : Hid (Blk3 w7 w2.heap.size (.slice ao6 (j + (S.nc - (j + 1))) cp6) (.slice y1 U.length z1) (.slice d2 S.nw e2)) := TX.out.later q7
 have OY : Hid (OwnM w7 w5.heap.size 40 5 (.slice y1 U.length z1) U.length U.flatten) := OX.out.later q7
 have hob : Hid (∀ q, (Value.slice y1 U.length z1).ownBlock = some q → w5.heap.size ≤ q ∧ q < X1.heap.size) := OX.out.block
 have PY : Hid (OwnM w7 X1.heap.size 55 4 (.slice y2 (S.nw + 1) z2) (S.nw + 1) (nums S.k (k' * 4) ++ [a, s, s, 4] ++ nums (fun p => S.k (k' * 4 + p)) ((S.nw - k') * 4))) := O7
 have hkn : k' ≤ S.nw := hk'.1
 have hqX : Hid (Below X1.heap.size X1 w7) := q7
 clear O7 q7 hk' OX RX TX LX BX B2X HK t0 t1 t2
 obtain ⟨⟨t0, t1, t2⟩, ft0, ft1, ft2⟩ := TY.out
 go_upto_region 16 with fail
 have RZ := RY.out.kept (Below.heap_setCell w7 ⟨w2.heap.size, 2, none⟩ (.slice y2 (S.nw + 1) z2) _ (Nat.ne_of_lt hzw))
 have TZ := TY.out.set2 (.slice y2 (S.nw + 1) z2)
 have BZ : Hid (Below w.heap.size w (w7.setCell ⟨w2.heap.size, 2, none⟩ (.slice y2 (S.nw + 1) z2))) := BY.out.setCell (Nat.le_of_lt hzw) _
 have B2Z : Hid (Below w2.heap.size w2 (w7.setCell ⟨w2.heap.size, 2, none⟩ (.slice y2 (S.nw + 1) z2))) := B2Y.out.setCell (Nat.le_refl _) _
 have OZ : Hid (OwnM (w7.setCell ⟨w2.heap.size, 2, none⟩ (.slice y2 (S.nw + 1) z2)) w5.heap.size 40 5 (.slice y1 U.length z1) U.length U.flatten) := OY.out.far hz3 _
 have PZ : Hid (OwnM (w7.setCell ⟨w2.heap.size, 2, none⟩ (.slice y2 (S.nw + 1) z2)) X1.heap.size 55 4 (.slice y2 (S.nw + 1) z2) (S.nw + 1) (nums S.k (k' * 4) ++ [a, s, s, 4] ++ nums (fun p => S.k (k' * 4 + p)) ((S.nw - k') * 4))) := PY.out.far zX _
 have OC8 : Hid (OwnM (w7.setCell ⟨w2.heap.size, 2, none⟩ (.slice y2 (S.nw + 1) z2)) X0.heap.size 93 3 (.slice ao6 (j + (S.nc - (j + 1))) cp6) (j + (S.nc - (j + 1))) (nums S.c (j * 3) ++ nums (fun p => S.c ((j + 1) * 3 + p)) ((S.nc - (j + 1)) * 3))) := (OC.out.later hqX.out).far zX0 _
 generalize w7.setCell ⟨w2.heap.size, 2, none⟩ (.slice y2 (S.nw + 1) z2) = w8 at RZ TZ BZ B2Z OZ PZ OC8 ⊢
 clear t0 t1 t2 ft0 ft1 ft2 RY TY BY B2Y OY PY
 obtain ⟨⟨r0, r1, r2, r3⟩, f0, f1, f2, f3⟩ := RZ
 obtain ⟨⟨t0, t1, t2⟩, _⟩ := TZ
 go_wp2
 have hone := selD_one (F := S.c) (m := 3) (D := goneK a s) (j := j) (goneK_iff.2 hcl.at.2.1) S.nc hjn (fun i hi' hne => goneK_not (fun q => hne (cell_once HZ.out hi' hjn q hcl.at.2.1)))
 have hN : (unlC S.c a s S.nc).length = j + (S.nc - (j + 1)) := by
  have : (unlC S.c a s S.nc).length = S.nc - 1 := hone.1
  omega
 have lenC : (nums S.c (j * 3) ++ nums (fun p => S.c ((j + 1) * 3 + p)) ((S.nc - (j + 1)) * 3)).length = (j + (S.nc - (j + 1))) * 3 := by
  rw [List.length_append, nums_length, nums_length]
  omega
 have rC : Own w8 (w.heap.size + 1) 93 3 (j + (S.nc - (j + 1))) (fun p => (unlC S.c a s S.nc).flatten.getD p 0) (.slice ao6 (j + (S.nc - (j + 1))) cp6) := (own_congr (OC8.out.own lenC) (fun p hp => (roll_cells hjn p (by omega)).trans (hone.2 p (by omega)).symm)).mono (by omega)
 have A8 : ApartB (.slice ao6 (j + (S.nc - (j + 1))) cp6) (.slice y1 U.length z1) (.slice y2 (S.nw + 1) z2) :=
  ⟨fun q a b => by have := (hobC.out q a).1; have := (hobX.out q b).2; omega, fun q a b => by have := (hobC.out q a).2; have := (PZ.out.block q b).1; omega, fun q a b => by have := (hob.out q a).2; have := (PZ.out.block q b).1; omega⟩
 have lenL : U.flatten.length = U.length * 5 := flat_len U (by rw [← HU.out]; exact selD_len _ _ _ _)
 have lenW : (nums S.k (k' * 4) ++ [a, s, s, 4] ++ nums (fun p => S.k (k' * 4 + p)) ((S.nw - k') * 4)).length = (S.nw + 1) * 4 := by
  rw [List.length_append, List.length_append, nums_length, nums_length]
  simp only [List.length_cons, List.length_nil]
  omega
 have O8 : OwnS w8 (w.heap.size + 1) (rollS S a s k') (.slice ao6 (j + (S.nc - (j + 1))) cp6) (.slice y1 U.length z1) (.slice y2 (S.nw + 1) z2) := by
  unfold rollS
  rw [HU.out, hN]
  exact ⟨⟨rC, (OZ.out.own lenL).mono (by omega), (PZ.out.own lenW).mono (by omega)⟩, A8⟩
 have hlo : (w.heap.size : Nat) < w.heap.size + 1 := Nat.lt_succ_self _
 have hul : (rollS S a s k').nl = U.length := by unfold rollS; rw [HU.out]
 have hcl' : (rollS S a s k').nc = j + (S.nc - (j + 1)) := hN
 refine bodyPost_ret (v := .agg #[.int .i64 0, .slice ao6 (j + (S.nc - (j + 1))) cp6, .slice y1 U.length z1, .slice y2 (S.nw + 1) z2]) (by simp [results, Tryz.results67, go_sem, r0, r1, r2, r3]) rfl ?_
 refine ⟨ao6, cp6, y1, z1, y2, z2, ?_, ?_, (((BZ.out.setCell (Nat.le_refl _) _).setCell (Nat.le_refl _) _).setCell (Nat.le_refl _) _).setCell (Nat.le_refl _) _⟩
 ·rw [hul, hcl']; rfl
 ·rw [hul, hcl']
  exact ((((O8.far hlo _).far hlo _).far hlo _).far hlo _).mono (by omega)
end
end Go.Proofs.YtiadbiiiikhfaaaGreatDoor

namespace Go.Proofs.YtiadbiiiikhfaaaGreatDoor
section
open Go.RowKit
end

section
open Go.RowKit Go.Maps Go.Lib
/-- What a rollback comes to on a store without a fault: a code and a store. -/
def RollRes (S : Sto) (a s : Int) (r : Int) (R : Sto) : Prop :=
 (∃ i : Nat, FirstAt (writeIs S.k a s) S.nw i ∧ S.k (i * 4 + 3) = 4 ∧ r = 0 ∧ R = S) ∨
 (∃ i : Nat, FirstAt (writeIs S.k a s) S.nw i ∧ S.k (i * 4 + 3) ≠ 4 ∧ r = 6 ∧ R = emptyS) ∨
 (FirstAt (writeIs S.k a s) S.nw (-1) ∧ (∃ i, i < S.nw ∧ writeAt S.k a s i) ∧ r = 6 ∧ R = emptyS) ∨
 (FirstAt (writeIs S.k a s) S.nw (-1) ∧ (¬ ∃ i, i < S.nw ∧ writeAt S.k a s i) ∧ 200 ≤ S.nw ∧ r = 2 ∧ R = emptyS) ∨
 (∃ k : Nat, FirstAt (writeIs S.k a s) S.nw (-1) ∧ (¬ ∃ i, i < S.nw ∧ writeAt S.k a s i) ∧ S.nw < 200 ∧ placeAt (aheadW S.k a s) S.nw k ∧ r = 0 ∧ R = rollS S a s k)
theorem l3Roll_ownO (S : Sto) (b oo : Nat) (v0 v1 v2 : Value) (a s r : Int) (R : Sto) (w : World) (h : LiesO w b oo S v0 v1 v2) (hz : storeF S = 0) (hA : RollRes S a s r R) :
  Calls Tryz.prog 67 #[.pointer (some ⟨b, oo, none⟩), .int .i64 a, .int .i64 s] w (ResStoK w r R) := by
 rcases hA with ⟨i, h1, h2, rfl, rfl⟩ | ⟨i, h1, h2, rfl, rfl⟩ | ⟨h1, h2, rfl, rfl⟩ | ⟨h1, h2, h3, rfl, rfl⟩ | ⟨k, h1, h2, h3, h4, rfl, rfl⟩
 ·exact l3Roll_sameO _ b oo v0 v1 v2 a s i w h hz h1 h2
 ·exact l3Roll_takenO S b oo v0 v1 v2 a s i w h hz h1 h2
 ·exact l3Roll_atO S b oo v0 v1 v2 a s w h hz h1 h2
 ·exact l3Roll_manyO S b oo v0 v1 v2 a s w h hz h1 h2 h3
 ·obtain ⟨j, hj⟩ := FirstAt.get (cellIs S.c a s) S.nc
  rcases hj with ⟨rfl, q⟩ | ⟨j, hjn, rfl, q1, q2⟩
  ·exact l3Roll_noneO S b oo v0 v1 v2 a s k w h hz h1 h2 h3 h4 (Or.inl ⟨rfl, q⟩)
  ·exact l3Roll_cellO S b oo v0 v1 v2 a s k j w h hz h1 h2 h3 h4 (Or.inr ⟨j, hjn, rfl, q1, q2⟩)
def RollAns (S : Sto) (a s : Int) (r : Int) (R : Sto) : Prop :=
 (askF S a ≠ 0 ∧ r = askF S a ∧ R = emptyS) ∨ (askF S a = 0 ∧ ¬ isT s ∧ r = 3 ∧ R = emptyS) ∨ (askF S a = 0 ∧ isT s ∧ RollRes S a s r R)
set_option maxRecDepth 100000 in
set_option maxHeartbeats 8000000 in
theorem specRollbackKey_own (S : Sto) (v0 v1 v2 : Value) (a s r : Int) (R : Sto) (B : Nat) (w : World) (h : St w B S v0 v1 v2) (hA : RollAns S a s r R) :
  Calls Tryz.prog 25 #[.agg #[v0, v1, v2], .int .i64 a, .int .i64 s] w (ResStoK w r R) := by
 obtain ⟨a0, c0, a1, c1, a2, c2, rfl, rfl, rfl⟩ := h.form
 have HE : Hid (CallSto w B S (.slice a0 S.nc c0) (.slice a1 S.nl c1) (.slice a2 S.nw c2) ((w.alloc (.cells #[.slice a0 S.nc c0, .slice a1 S.nl c1, .slice a2 S.nw c2] 28)).alloc (.cells #[.int .i64 0, .slice none 0 0, .slice none 0 0, .slice none 0 0] 32))) := CallSto.new h _ _
 clear h
 unfold ResStoK
 rcases hA with ⟨hz, rfl, rfl⟩ | ⟨hz, ht, rfl, rfl⟩ | ⟨hz, ht, hR⟩
 ·obtain ⟨f, hf⟩ : ∃ f, askF S a = f := ⟨_, rfl⟩
  have HF : Hid (askF S a = f) := hf
  have hfn : (f == 0) = false := beq_eq_false_iff_ne.2 (by rw [← hf]; exact hz)
  have hfn' : (f != 0) = true := by rw [bne_iff_ne, ← hf]; exact hz
  rw [hf]
  clear hz hf
  go_enter Tryz.func25, Tryz.ntmps25
  go_wp2_with fail
  refine (asked_any S w.heap.size _ _ _ _ _ ⟨HE.out.1.1, HE.out.2.2.1.mono (Nat.zero_le _)⟩).mono ?_
  rw [HF.out]
  rintro e w1 ⟨rfl, q1⟩
  have HE : Hid (CallSto w B S (.slice a0 S.nc c0) (.slice a1 S.nl c1) (.slice a2 S.nw c2) w1) := HE.out.later q1
  obtain ⟨⟨⟨p0, p1, p2⟩, _⟩, ⟨⟨r0, r1, r2, r3⟩, f0, f1, f2, f3⟩, _⟩ := HE.out
  clear q1
  go_wp2_with fail
  refine (l3Bad_own f _).mono ?_
  rintro e w4 ⟨d0, e0, d1, e1, d2, e2, rfl, o3, q4⟩
  have z3 : Hid (w.heap.size + 2 ≤ w1.heap.size) := HE.out.2.1.lt
  have S3 : Hid (OwnS w4 (w.heap.size + 2) emptyS (.slice d0 (emptyS).nc e0) (.slice d1 (emptyS).nl e1) (.slice d2 (emptyS).nw e2)) := o3.mono z3.out
  have HBW : Hid (Below w.heap.size w w4) := HE.out.2.2.2.trans (q4.mono HE.out.2.2.2.size)
  obtain ⟨⟨r0, r1, r2, r3⟩, f0, f1, f2, f3⟩ := HE.out.2.1.later q4
  clear o3 q4
  have hlo : (w.heap.size + 1 : Nat) < w.heap.size + 2 := Nat.lt_succ_self _
  go_wp2
  exact bodyPost_ret (v := .agg #[.int .i64 f, .slice d0 (emptyS).nc e0, .slice d1 (emptyS).nl e1, .slice d2 (emptyS).nw e2]) (by simp [results, Tryz.results25, go_sem, r0, r1, r2, r3]) rfl ⟨d0, e0, d1, e1, d2, e2, rfl, ((((S3.out.far hlo _).far hlo _).far hlo _).far hlo _).mono (by omega), (((HBW.out.setCell (Nat.le_succ _) _).setCell (Nat.le_succ _) _).setCell (Nat.le_succ _) _).setCell (Nat.le_succ _) _⟩
 ·have HA : Hid (askF S a = 0) := hz
  have HT : Hid (decide (1 ≤ s ∧ s ≤ 100000) = false) := decide_eq_false ht
  clear hz ht
  go_enter Tryz.func25, Tryz.ntmps25
  go_wp2_with fail
  refine (asked_any S w.heap.size _ _ _ _ _ ⟨HE.out.1.1, HE.out.2.2.1.mono (Nat.zero_le _)⟩).mono ?_
  rw [HA.out]
  rintro e w1 ⟨rfl, q1⟩
  have HE : Hid (CallSto w B S (.slice a0 S.nc c0) (.slice a1 S.nl c1) (.slice a2 S.nw c2) w1) := HE.out.later q1
  obtain ⟨⟨⟨p0, p1, p2⟩, _⟩, ⟨⟨r0, r1, r2, r3⟩, f0, f1, f2, f3⟩, _⟩ := HE.out
  clear q1
  go_wp2_with fail
  refine (l2Ts_is s false HT.out _).mono ?_
  rintro e w1' ⟨rfl, rfl⟩
  go_wp2_with fail
  refine (l3Bad_own 3 _).mono ?_
  rintro e w4 ⟨d0, e0, d1, e1, d2, e2, rfl, o3, q4⟩
  have z3 : Hid (w.heap.size + 2 ≤ w1'.heap.size) := HE.out.2.1.lt
  have S3 : Hid (OwnS w4 (w.heap.size + 2) emptyS (.slice d0 (emptyS).nc e0) (.slice d1 (emptyS).nl e1) (.slice d2 (emptyS).nw e2)) := o3.mono z3.out
  have HBW : Hid (Below w.heap.size w w4) := HE.out.2.2.2.trans (q4.mono HE.out.2.2.2.size)
  obtain ⟨⟨r0, r1, r2, r3⟩, f0, f1, f2, f3⟩ := HE.out.2.1.later q4
  clear o3 q4
  have hlo : (w.heap.size + 1 : Nat) < w.heap.size + 2 := Nat.lt_succ_self _
  go_wp2
  exact bodyPost_ret (v := .agg #[.int .i64 3, .slice d0 (emptyS).nc e0, .slice d1 (emptyS).nl e1, .slice d2 (emptyS).nw e2]) (by simp [results, Tryz.results25, go_sem, r0, r1, r2, r3]) rfl ⟨d0, e0, d1, e1, d2, e2, rfl, ((((S3.out.far hlo _).far hlo _).far hlo _).far hlo _).mono (by omega), (((HBW.out.setCell (Nat.le_succ _) _).setCell (Nat.le_succ _) _).setCell (Nat.le_succ _) _).setCell (Nat.le_succ _) _⟩
 ·have HA : Hid (askF S a = 0) := hz
  have HT : Hid (decide (1 ≤ s ∧ s ≤ 100000) = true) := decide_eq_true ht
  have HP : Hid (∀ (b : Nat) (u0 u1 u2 : Value) (x : World), Lies x b S u0 u1 u2 → Calls Tryz.prog 67 #[.pointer (some ⟨b, 0, none⟩), .int .i64 a, .int .i64 s] x (ResStoK x r R)) := fun b u0 u1 u2 x hx => l3Roll_ownO S b 0 u0 u1 u2 a s r R x hx (askF_zero hz).1 hR
  clear hz ht hR
  go_enter Tryz.func25, Tryz.ntmps25
  go_wp2_with fail
  refine (asked_any S w.heap.size _ _ _ _ _ ⟨HE.out.1.1, HE.out.2.2.1.mono (Nat.zero_le _)⟩).mono ?_
  rw [HA.out]
  rintro e w1 ⟨rfl, q1⟩
  have HE : Hid (CallSto w B S (.slice a0 S.nc c0) (.slice a1 S.nl c1) (.slice a2 S.nw c2) w1) := HE.out.later q1
  obtain ⟨⟨⟨p0, p1, p2⟩, _⟩, ⟨⟨r0, r1, r2, r3⟩, f0, f1, f2, f3⟩, _⟩ := HE.out
  clear q1
  go_wp2_with fail
  refine (l2Ts_is s true HT.out _).mono ?_
  rintro e w1' ⟨rfl, rfl⟩
  go_wp2_with fail
  refine (HP.out w.heap.size _ _ _ _ ⟨HE.out.1.1, HE.out.2.2.1.mono (Nat.zero_le _)⟩).mono ?_
  rintro e w4 ⟨d0, e0, d1, e1, d2, e2, rfl, o3, q4⟩
  have z3 : Hid (w.heap.size + 2 ≤ w1'.heap.size) := HE.out.2.1.lt
  have S3 : Hid (OwnS w4 (w.heap.size + 2) R (.slice d0 (R).nc e0) (.slice d1 (R).nl e1) (.slice d2 (R).nw e2)) := o3.mono z3.out
  have HBW : Hid (Below w.heap.size w w4) := HE.out.2.2.2.trans (q4.mono HE.out.2.2.2.size)
  obtain ⟨⟨r0, r1, r2, r3⟩, f0, f1, f2, f3⟩ := HE.out.2.1.later q4
  clear o3 q4
  have hlo : (w.heap.size + 1 : Nat) < w.heap.size + 2 := Nat.lt_succ_self _
  go_wp2
  exact bodyPost_ret (v := .agg #[.int .i64 r, .slice d0 (R).nc e0, .slice d1 (R).nl e1, .slice d2 (R).nw e2]) (by simp [results, Tryz.results25, go_sem, r0, r1, r2, r3]) rfl ⟨d0, e0, d1, e1, d2, e2, rfl, ((((S3.out.far hlo _).far hlo _).far hlo _).far hlo _).mono (by omega), (((HBW.out.setCell (Nat.le_succ _) _).setCell (Nat.le_succ _) _).setCell (Nat.le_succ _) _).setCell (Nat.le_succ _) _⟩
theorem specRollbackKey_is (S : Sto) (v0 v1 v2 : Value) (a s r : Int) (R : Sto) (B : Nat) (w : World) (h : St w B S v0 v1 v2) (hA : RollAns S a s r R) :
  Calls Tryz.prog 25 #[.agg #[v0, v1, v2], .int .i64 a, .int .i64 s] w (ResSto w r R) := (specRollbackKey_own S v0 v1 v2 a s r R B w h hA).mono fun _ _ q => q.res
set_option maxRecDepth 100000 in
set_option maxHeartbeats 4000000 in
theorem colRoll_said (B b N : Nat) (m : Int → Int → Option Int) (nl : Nat) (l : Nat → Int) (nw : Nat) (k : Nat → Int) (g : Nat) (u1 u2 : Value) (a s : Int) (i : Nat) (w : World) (h : Cols w B b N m nl l nw k g u1 u2) (hw : nw ≤ 200) (hi : firstW k nw a s i) (v : Value) (hv : v = if k (i * 4 + 3) = 4 then .nilIface else .iface 123 (.agg #[.int .i64 3])) :
  Calls Tryz.prog 47 #[.pointer (some ⟨b, 0, none⟩), .int .i64 a, .int .i64 s] w fun e w' => e = .returned v ∧ Below w.heap.size w w' := by
 have H : Hid (Cols w B b N m nl l nw k g u1 u2) := h
 have HI : Hid (firstW k nw a s i) := hi
 clear h hi
 go_enter Tryz.func47, Tryz.ntmps47
 go_wp2_with fail
 refine (writeOf_any B b N m nl l nw k g u1 u2 a s _ H.out hw).mono ?_
 rintro e w1 ⟨v1, rfl, ht, q1⟩
 rcases ht with ⟨j, hj, rfl⟩ | ⟨hj, rfl⟩
 ·obtain rfl : j = i := hj.one HI.out
  have HB : Hid (Below w.heap.size w (w1.alloc (.cells #[.int .i64 (k (j * 4)), .int .i64 (k (j * 4 + 1)), .int .i64 (k (j * 4 + 2)), .int .i64 (k (j * 4 + 3))] 55))) := q1.trans ((below_alloc w1 _).mono q1.size)
  clear hj HI H q1
  generalize k (j * 4) = n0 at *
  generalize k (j * 4 + 1) = n1 at *
  generalize k (j * 4 + 2) = n2 at *
  generalize k (j * 4 + 3) = n3 at *
  by_cases hc : n3 = 4
  ·subst hc
   rw [if_pos rfl] at hv
   subst hv
   go_wp2
   go_ret
   exact ⟨rfl, HB.out⟩
  ·rw [if_neg hc] at hv
   subst hv
   go_wp2
   go_ret
   exact ⟨rfl, HB.out⟩
 ·exact absurd HI.out (hj i)
set_option maxRecDepth 100000 in
set_option maxHeartbeats 4000000 in
theorem colRoll_bad (B b N : Nat) (m : Int → Int → Option Int) (nl : Nat) (l : Nat → Int) (nw : Nat) (k : Nat → Int) (g : Nat) (u1 u2 : Value) (a s kk : Int) (w : World) (h : Cols w B b N m nl l nw k g u1 u2) (hw : nw ≤ 200) (hi : ∀ i, ¬ firstW k nw a s i)
  (HS : ∀ x, Below w.heap.size w x → Cols x B b N m nl l nw k g u1 u2 → Calls Tryz.prog 91 #[.pointer (some ⟨b, 0, none⟩), .agg #[.int .i64 a, .int .i64 s, .int .i64 s, .int .i64 4]] x fun e w' => e = .returned (.iface 123 (.agg #[.int .i64 kk])) ∧ Below x.heap.size x w') :
  Calls Tryz.prog 47 #[.pointer (some ⟨b, 0, none⟩), .int .i64 a, .int .i64 s] w fun e w' => e = .returned (.iface 123 (.agg #[.int .i64 kk])) ∧ Below w.heap.size w w' := by
 have H : Hid (Cols w B b N m nl l nw k g u1 u2) := h
 have HI : Hid (∀ i, ¬ firstW k nw a s i) := hi
 have HSS : Hid (∀ x, Below w.heap.size w x → Cols x B b N m nl l nw k g u1 u2 → Calls Tryz.prog 91 #[.pointer (some ⟨b, 0, none⟩), .agg #[.int .i64 a, .int .i64 s, .int .i64 s, .int .i64 4]] x fun e w' => e = .returned (.iface 123 (.agg #[.int .i64 kk])) ∧ Below x.heap.size x w') := HS
 clear h hi HS
 go_enter Tryz.func47, Tryz.ntmps47
 go_wp2_with fail
 refine (writeOf_any B b N m nl l nw k g u1 u2 a s _ H.out hw).mono ?_
 rintro e w1 ⟨v1, rfl, ht, q1⟩
 rcases ht with ⟨j, hj, rfl⟩ | ⟨hj, rfl⟩
 ·exact absurd hj (HI.out j)
 have HB : Hid (Below w.heap.size w (w1.alloc (.cells #[.int .i64 0, .int .i64 0, .int .i64 0, .int .i64 0] 55))) := q1.trans ((below_alloc w1 _).mono q1.size)
 clear hj q1
 go_wp2_with fail
 refine (HSS.out _ HB.out (H.out.later HB.out)).mono ?_
 rintro e w3 ⟨rfl, q3⟩
 have HB3 : Hid (Below w.heap.size w w3) := HB.out.trans (q3.mono HB.out.size)
 clear q3 HB HSS HI H
 go_wp2
 go_ret
 exact ⟨rfl, HB3.out⟩
set_option maxRecDepth 100000 in
set_option maxHeartbeats 4000000 in
theorem colRoll_done (B b N : Nat) (m : Int → Int → Option Int) (nl : Nat) (l : Nat → Int) (nw : Nat) (k : Nat → Int) (g : Nat) (u1 u2 : Value) (a s : Int) (wa : Wf a) (ws : Wf s) (nl' : Nat) (l' : Nat → Int) (nw' : Nat) (k' : Nat → Int) (w : World) (h : Cols w B b N m nl l nw k g u1 u2) (hw : nw ≤ 200) (hi : ∀ i, ¬ firstW k nw a s i)
  (HS : ∀ x, Below w.heap.size w x → Cols x B b N m nl l nw k g u1 u2 → Calls Tryz.prog 91 #[.pointer (some ⟨b, 0, none⟩), .agg #[.int .i64 a, .int .i64 s, .int .i64 s, .int .i64 4]] x fun e w' => e = .returned .nilIface ∧ (∃ u1' u2', Cols w' B b N m nl' l' nw' k' g u1' u2' ∧ ApartC b g u1' u2') ∧ Below B x w') :
  Calls Tryz.prog 47 #[.pointer (some ⟨b, 0, none⟩), .int .i64 a, .int .i64 s] w fun e w' => e = .returned .nilIface ∧ (∃ u1' u2', Cols w' B b N (delM m a s) nl' l' nw' k' g u1' u2') ∧ Below B w w' := by
 have hBx : B ≤ w.heap.size := Nat.le_trans h.1 (Nat.le_of_lt h.2.2.1.lt)
 have hBg : B ≤ g := h.2.1
 have H : Hid (Cols w B b N m nl l nw k g u1 u2) := h
 have HI : Hid (∀ i, ¬ firstW k nw a s i) := hi
 have HSS : Hid (∀ x, Below w.heap.size w x → Cols x B b N m nl l nw k g u1 u2 → Calls Tryz.prog 91 #[.pointer (some ⟨b, 0, none⟩), .agg #[.int .i64 a, .int .i64 s, .int .i64 s, .int .i64 4]] x fun e w' => e = .returned .nilIface ∧ (∃ u1' u2', Cols w' B b N m nl' l' nw' k' g u1' u2' ∧ ApartC b g u1' u2') ∧ Below B x w') := HS
 clear h hi HS
 go_enter Tryz.func47, Tryz.ntmps47
 go_wp2_with fail
 refine (writeOf_any B b N m nl l nw k g u1 u2 a s _ H.out hw).mono ?_
 rintro e w1 ⟨v1, rfl, ht, q1⟩
 rcases ht with ⟨j, hj, rfl⟩ | ⟨hj, rfl⟩
 ·exact absurd hj (HI.out j)
 have HB : Hid (Below w.heap.size w (w1.alloc (.cells #[.int .i64 0, .int .i64 0, .int .i64 0, .int .i64 0] 55))) := q1.trans ((below_alloc w1 _).mono q1.size)
 clear hj q1
 go_wp2_with fail
 refine (HSS.out _ HB.out (H.out.later HB.out)).mono ?_
 rintro e w3 ⟨rfl, ⟨x1, x2, hC, hA⟩, q3⟩
 have HB3 : Hid (Below B w w3) := (HB.out.mono hBx).trans q3
 have HC : Hid (Cols w3 B b N m nl' l' nw' k' g x1 x2 ∧ ApartC b g x1 x2) := ⟨hC, hA⟩
 obtain ⟨⟨t0, t1, t2⟩, _⟩ := hC.2.2.1
 clear q3 HB HSS HI H hC hA
 go_wp2_with (at_delete; refine wpList_pdrop _ rfl _ _ rfl g N m rfl HC.out.1.2.2.2.1 a s rfl wa ws ?_; intro w4 P4 G4)
 have hk4 : ∀ i, i < w3.heap.size → i ≠ g → w4.heap[i]? = w3.heap[i]? := fun i hi hne => G4.block i hi (fun e => hne (Option.some.inj e))
 go_ret
 refine ⟨rfl, ⟨x1, x2, HC.out.1.1, HC.out.1.2.1, HC.out.1.2.2.1.kept (hk4 b HC.out.1.2.2.1.lt (fun e => HC.out.2.1 e.symm)), P4, HC.out.1.2.2.2.2.1.kept (fun j hj => hk4 j (own_in HC.out.1.2.2.2.2.1 j hj).2 (HC.out.2.2.1 j hj).2), HC.out.1.2.2.2.2.2.kept (fun j hj => hk4 j (own_in HC.out.1.2.2.2.2.2 j hj).2 (HC.out.2.2.2.1 j hj).2)⟩, ⟨G4.os.trans HB3.out.os, G4.tape.trans HB3.out.tape, G4.output.trans HB3.out.output, Nat.le_trans HB3.out.size G4.size, fun i hi => (hk4 i (Nat.lt_of_lt_of_le (by omega) HB3.out.size) (by omega)).trans (HB3.out.block i hi)⟩⟩
/-- What the columns' rollback comes to. -/
def ColRoll (x : World) (B b g : Nat) (r : Int) (R : Sto) (e : Ending) (w' : World) : Prop :=
 Below B x w' ∧ ((∃ kk, e = .returned (.iface 123 (.agg #[.int .i64 kk])) ∧ codeOf kk r ∧ R = emptyS) ∨
  (e = .returned .nilIface ∧ r = 0 ∧ (R.nl ≤ 200 ∧ R.nw ≤ 200) ∧ ∃ N m u1' u2', N ≤ 400 ∧ MapRow m R.nc R.c ∧ Cols w' B b N m R.nl R.l R.nw R.k g u1' u2'))
theorem colRoll_res (S : Sto) (hz : storeF S = 0) (B b g : Nat) (u1 u2 : Value) (a s r : Int) (wa : Wf a) (ws : Wf s) (R : Sto) (x : World) (h : Cols x B b S.nc (cellM S S.nc) S.nl S.l S.nw S.k g u1 u2) (hA : ApartC b g u1 u2) (hR : RollRes S a s r R) :
  Calls Tryz.prog 47 #[.pointer (some ⟨b, 0, none⟩), .int .i64 a, .int .i64 s] x (ColRoll x B b g r R) := by
 have Z := storeF_zero hz
 obtain ⟨⟨hc, hl, hw⟩, zc, _, zw, _⟩ := Z
 have hBx : B ≤ x.heap.size := Nat.le_trans h.1 (Nat.le_of_lt h.2.2.1.lt)
 rcases hR with ⟨i, h1, h2, rfl, rfl⟩ | ⟨i, h1, h2, rfl, rfl⟩ | ⟨h1, h4, rfl, rfl⟩ | ⟨h1, h4, h5, rfl, rfl⟩ | ⟨k, h1, h4, h5, h6, rfl, rfl⟩
 ·refine (colRoll_said B b _ _ _ _ _ _ g u1 u2 a s i x h hw (first_w h1) _ rfl).mono ?_
  rintro e w' ⟨rfl, hb⟩
  rw [if_pos h2]
  exact ⟨hb.mono hBx, Or.inr ⟨rfl, rfl, ⟨hl, hw⟩, _, _, u1, u2, by omega, self_map zc, h.later hb⟩⟩
 ·refine (colRoll_said B b _ _ _ _ _ _ g u1 u2 a s i x h hw (first_w h1) _ rfl).mono ?_
  rintro e w' ⟨rfl, hb⟩
  rw [if_neg h2]
  exact ⟨hb.mono hBx, Or.inl ⟨3, rfl, by unfold codeOf; decide, rfl⟩⟩
 ·refine (colRoll_bad B b _ _ _ _ _ _ g u1 u2 a s 4 x h hw (none_w h1) (fun y _ hy => settle_taken B b _ _ _ _ _ _ g u1 u2 a s s _ y hy hw (w_mono zw a s) (w_taken zw h4))).mono ?_
  rintro e w' ⟨rfl, hb⟩
  exact ⟨hb.mono hBx, Or.inl ⟨4, rfl, by unfold codeOf; decide, rfl⟩⟩
 ·refine (colRoll_bad B b _ _ _ _ _ _ g u1 u2 a s 5 x h hw (none_w h1) (fun y _ hy => settle_full B b _ _ _ _ _ _ g u1 u2 a s s _ y hy (by omega) (w_mono zw a s) (fun q _ hq => h4 ⟨q, hq.1, hq.2⟩))).mono ?_
  rintro e w' ⟨rfl, hb⟩
  exact ⟨hb.mono hBx, Or.inl ⟨5, rfl, by unfold codeOf; decide, rfl⟩⟩
 ·refine (colRoll_done B b S.nc (cellM S S.nc) S.nl S.l S.nw S.k g u1 u2 a s wa ws (unlL S.l a s S.nl).length (fun p => (unlL S.l a s S.nl).flatten.getD p 0) (S.nw + 1) (insF S.k 4 S.nw k [a, s, s, 4]) x h hw (none_w h1) (fun y _ hy => (settle_done B b _ _ _ _ _ _ g u1 u2 a s s 4 y hy hA hl h5 (w_mono zw a s) (fun q _ hq => h4 ⟨q, hq.1, hq.2⟩)).mono (fun e w' ⟨e1, ⟨q, v1, v2, hq, hC, hA'⟩, hb⟩ => by
   obtain rfl : q = k := hq.one h6
   exact ⟨e1, ⟨v1, v2, hC, hA'⟩, hb⟩))).mono ?_
  rintro e w' ⟨rfl, ⟨v1, v2, hC⟩, hb⟩
  exact ⟨hb, Or.inr ⟨rfl, rfl, ⟨Nat.le_trans (selD_le _ _ _ _) hl, h5⟩, _, _, v1, v2, by omega, roll_map zc a s, hC⟩⟩
set_option maxRecDepth 100000 in
set_option maxHeartbeats 8000000 in
theorem implRollbackKey_is (S : Sto) (v0 v1 v2 : Value) (a s r : Int) (R : Sto) (B : Nat) (w : World) (h : St w B S v0 v1 v2) (hL : Laid w) (hA : RollAns S a s r R) :
  Calls Tryz.prog 11 #[.agg #[v0, v1, v2], .int .i64 a, .int .i64 s] w (ResSto w r R) := by
 obtain ⟨a0, c0, a1, c1, a2, c2, rfl, rfl, rfl⟩ := h.form
 have HE : Hid (CallSto w B S (.slice a0 S.nc c0) (.slice a1 S.nl c1) (.slice a2 S.nw c2) ((w.alloc (.cells #[.slice a0 S.nc c0, .slice a1 S.nl c1, .slice a2 S.nw c2] 28)).alloc (.cells #[.int .i64 0, .slice none 0 0, .slice none 0 0, .slice none 0 0] 32))) := CallSto.new h _ _
 have HL : Hid (Laid w) := hL
 clear h hL
 unfold ResSto
 rcases hA with ⟨hz, rfl, rfl⟩ | ⟨hz, ht, rfl, rfl⟩ | ⟨hz, ht, hR⟩
 ·obtain ⟨f, hf⟩ : ∃ f, askF S a = f := ⟨_, rfl⟩
  have HF : Hid (askF S a = f) := hf
  have hfn : (f == 0) = false := beq_eq_false_iff_ne.2 (by rw [← hf]; exact hz)
  rw [hf]
  clear hz hf
  go_enter Tryz.func11, Tryz.ntmps11
  go_wp2_with fail
  refine (askFault_any S _ _ _ a B _ HE.out.2.2.1).mono ?_
  rw [HF.out]
  rintro e w1 ⟨rfl, q1⟩
  have HE : Hid (CallSto w B S (.slice a0 S.nc c0) (.slice a1 S.nl c1) (.slice a2 S.nw c2) w1) := HE.out.later q1
  obtain ⟨⟨⟨p0, p1, p2⟩, _⟩, ⟨⟨r0, r1, r2, r3⟩, f0, f1, f2, f3⟩, _⟩ := HE.out
  clear q1
  go_wp2
  exact bodyPost_ret (v := .agg #[.int .i64 f, .slice none 0 0, .slice none 0 0, .slice none 0 0]) (by simp [results, Tryz.results11, go_sem, r0, r1, r2, r3]) rfl ⟨none, 0, none, 0, none, 0, rfl, empty_sto _ _, (((HE.out.2.2.2.setCell (Nat.le_succ _) _).setCell (Nat.le_succ _) _).setCell (Nat.le_succ _) _).setCell (Nat.le_succ _) _⟩
 ·have HA : Hid (askF S a = 0) := hz
  have HT : Hid (decide (1 ≤ s ∧ s ≤ 100000) = false) := decide_eq_false ht
  clear hz ht
  go_enter Tryz.func11, Tryz.ntmps11
  go_wp2_with fail
  refine (askFault_any S _ _ _ a B _ HE.out.2.2.1).mono ?_
  rw [HA.out]
  rintro e w1 ⟨rfl, q1⟩
  have HE : Hid (CallSto w B S (.slice a0 S.nc c0) (.slice a1 S.nl c1) (.slice a2 S.nw c2) w1) := HE.out.later q1
  obtain ⟨⟨⟨p0, p1, p2⟩, _⟩, ⟨⟨r0, r1, r2, r3⟩, f0, f1, f2, f3⟩, _⟩ := HE.out
  clear q1
  go_wp2_with fail
  refine (isTime_is s false HT.out _).mono ?_
  rintro e w2 ⟨rfl, rfl⟩
  go_wp2
  exact bodyPost_ret (v := .agg #[.int .i64 3, .slice none 0 0, .slice none 0 0, .slice none 0 0]) (by simp [results, Tryz.results11, go_sem, r0, r1, r2, r3]) rfl ⟨none, 0, none, 0, none, 0, rfl, empty_sto _ _, (((HE.out.2.2.2.setCell (Nat.le_succ _) _).setCell (Nat.le_succ _) _).setCell (Nat.le_succ _) _).setCell (Nat.le_succ _) _⟩
 ·have HA : Hid (askF S a = 0) := hz
  have hs := (askF_zero hz).1
  have hka := faultOf_zero (askF_zero hz).2
  have WA : Hid (Wf a ∧ Wf s) := ⟨wf_small hka.1 (by omega), by unfold isT at ht; exact wf_small (by omega) ht.2⟩
  have Z := storeF_zero hs
  have HZ : Hid (scan (cellF S.c) S.nc = 0 ∧ (S.nc ≤ 200 ∧ S.nl ≤ 200 ∧ S.nw ≤ 200)) := ⟨Z.2.1, Z.1⟩
  have HS : Hid (storeF S = 0) := hs
  have HR : Hid (RollRes S a s r R) := hR
  have HT : Hid (decide (1 ≤ s ∧ s ≤ 100000) = true) := decide_eq_true ht
  clear hz hs ht hR Z hka
  go_enter Tryz.func11, Tryz.ntmps11
  go_wp2_with fail
  refine (askFault_any S _ _ _ a B _ HE.out.2.2.1).mono ?_
  rw [HA.out]
  rintro e w1 ⟨rfl, q1⟩
  have HE : Hid (CallSto w B S (.slice a0 S.nc c0) (.slice a1 S.nl c1) (.slice a2 S.nw c2) w1) := HE.out.later q1
  obtain ⟨⟨⟨p0, p1, p2⟩, _⟩, ⟨⟨r0, r1, r2, r3⟩, f0, f1, f2, f3⟩, _⟩ := HE.out
  clear q1
  go_wp2_with fail
  refine (isTime_is s true HT.out _).mono ?_
  rintro e w2' ⟨rfl, rfl⟩
  go_wp2_with fail
  refine (columnsOf_apart S B _ _ _ _ HE.out.2.2.1 HZ.out.2.1 HZ.out.2.2.1 HZ.out.2.2.2 HZ.out.1).mono ?_
  rintro e w2 ⟨b, g, u1, u2, rfl, hC, hap, q1⟩
  clear p0 p1 p2 r0 r1 r2 r3 f0 f1 f2 f3
  have HC : Hid (Cols w2 w2'.heap.size b S.nc (cellM S S.nc) S.nl S.l S.nw S.k g u1 u2 ∧ ApartC b g u1 u2) := ⟨hC, hap⟩
  have zw : Hid (w.heap.size + 2 ≤ w2'.heap.size) := HE.out.2.1.lt
  have HE : Hid (CallSto w B S (.slice a0 S.nc c0) (.slice a1 S.nl c1) (.slice a2 S.nw c2) w2) := HE.out.later q1
  clear q1 hC hap
  go_wp2_with fail
  refine (colRoll_res S HS.out _ b g u1 u2 a s r WA.out.1 WA.out.2 R w2 HC.out.1 HC.out.2 HR.out).mono ?_
  rintro e w3 ⟨hb3, hans⟩
  have HR3 : Hid (Blk4 w3 (w.heap.size + 1) (.int .i64 0) (.slice none 0 0) (.slice none 0 0) (.slice none 0 0) ∧ Below w.heap.size w w3) := ⟨HE.out.2.1.kept (hb3.block (w.heap.size + 1) (by have := zw.out; omega)), HE.out.2.2.2.trans (hb3.mono (by have := zw.out; omega))⟩
  have z3 : Hid (w.heap.size + 2 ≤ w3.heap.size) := HR3.out.1.lt
  clear hb3 HE HC
  rcases hans with ⟨kk, rfl, hk, rfl⟩ | ⟨rfl, rfl, hn, NN, mm, y1, y2, hNN, hMM, hC3⟩
  ·have hrn : (r == 0) = false := beq_eq_false_iff_ne.2 (by unfold codeOf at hk; omega)
   have HK : Hid (codeOf kk r) := hk
   clear hk HR
   go_wp2_with fail
   refine (unless_hit kk r HK.out hrn (some ⟨b, 0, none⟩) w3 (HL.out.later HR3.out.2)).mono ?_
   rintro e w4 ⟨d0, e0, d1, e1, d2, e2, rfl, ⟨s3, f3', a3⟩, q4⟩
   have S3 : Hid ((St w4 (w.heap.size + 2) emptyS (.slice d0 (emptyS).nc e0) (.slice d1 (emptyS).nl e1) (.slice d2 (emptyS).nw e2) ∧ FreeS w4 emptyS (.slice d0 (emptyS).nc e0) (.slice d1 (emptyS).nl e1) (.slice d2 (emptyS).nw e2)) ∧ ApartD emptyS (.slice d0 (emptyS).nc e0) (.slice d1 (emptyS).nl e1) (.slice d2 (emptyS).nw e2)) := ⟨⟨s3.mono z3.out, f3'⟩, a3⟩
   have HBW : Hid (Below w.heap.size w w4) := HR3.out.2.trans (q4.mono HR3.out.2.size)
   obtain ⟨⟨r0, r1, r2, r3⟩, f0, f1, f2, f3⟩ := HR3.out.1.later q4
   clear s3 f3' a3 q4
   have hlo : (w.heap.size + 1 : Nat) < w.heap.size + 2 := Nat.lt_succ_self _
   go_wp2
   exact bodyPost_ret (v := .agg #[.int .i64 r, .slice d0 emptyS.nc e0, .slice d1 emptyS.nl e1, .slice d2 emptyS.nw e2]) (by simp [results, Tryz.results11, go_sem, r0, r1, r2, r3]) rfl ⟨d0, e0, d1, e1, d2, e2, rfl, ⟨((((S3.out.1.1.far hlo _).far hlo _).far hlo _).far hlo _).mono (by omega), (((S3.out.1.2.far _ _).far _ _).far _ _).far _ _, S3.out.2⟩, (((HBW.out.setCell (Nat.le_succ _) _).setCell (Nat.le_succ _) _).setCell (Nat.le_succ _) _).setCell (Nat.le_succ _) _⟩
  ·obtain ⟨nc, cc, nl, l, nw, k⟩ := R
   have HC3 : Hid (Cols w3 w2'.heap.size b NN mm nl l nw k g y1 y2 ∧ MapRow mm nc cc) := ⟨hC3, hMM⟩
   have HM : Hid ((nl ≤ 200 ∧ nw ≤ 200) ∧ NN ≤ 400) := ⟨hn, hNN⟩
   clear hC3 hn hNN hMM HR
   go_wp2_with fail
   refine (unless_ok _ b NN mm nl l nw k g y1 y2 w3 HC3.out.1 HM.out.1.1 HM.out.1.2 HM.out.2 nc cc HC3.out.2).mono ?_
   rintro e w4 ⟨d0, e0, d1, e1, d2, e2, rfl, ⟨s3, f3', a3⟩, q4⟩
   obtain ⟨RR, hRR⟩ : ∃ RR : Sto, RR = ⟨nc, cc, nl, l, nw, k⟩ := ⟨_, rfl⟩
   rw [← hRR] at s3 f3' a3 ⊢
   have HRR : Hid (RR = ⟨nc, cc, nl, l, nw, k⟩) := hRR
   clear hRR
   have S3 : Hid ((St w4 (w.heap.size + 2) RR (.slice d0 (RR).nc e0) (.slice d1 (RR).nl e1) (.slice d2 (RR).nw e2) ∧ FreeS w4 RR (.slice d0 (RR).nc e0) (.slice d1 (RR).nl e1) (.slice d2 (RR).nw e2)) ∧ ApartD RR (.slice d0 (RR).nc e0) (.slice d1 (RR).nl e1) (.slice d2 (RR).nw e2)) := ⟨⟨s3.mono z3.out, f3'⟩, a3⟩
   have HBW : Hid (Below w.heap.size w w4) := HR3.out.2.trans (q4.mono HR3.out.2.size)
   obtain ⟨⟨r0, r1, r2, r3⟩, f0, f1, f2, f3⟩ := HR3.out.1.later q4
   clear s3 f3' a3 q4
   have hlo : (w.heap.size + 1 : Nat) < w.heap.size + 2 := Nat.lt_succ_self _
   go_wp2
   have hRR := HRR.out
   clear HRR
   subst hRR
   exact bodyPost_ret (v := .agg #[.int .i64 0, .slice d0 nc e0, .slice d1 nl e1, .slice d2 nw e2]) (by simp [results, Tryz.results11, go_sem, r0, r1, r2, r3]) rfl ⟨d0, e0, d1, e1, d2, e2, rfl, ⟨((((S3.out.1.1.far hlo _).far hlo _).far hlo _).far hlo _).mono (by omega), (((S3.out.1.2.far _ _).far _ _).far _ _).far _ _, S3.out.2⟩, (((HBW.out.setCell (Nat.le_succ _) _).setCell (Nat.le_succ _) _).setCell (Nat.le_succ _) _).setCell (Nat.le_succ _) _⟩
theorem RollRes.get (S : Sto) (hz : storeF S = 0) (a s : Int) : ∃ r R, Small R ∧ RollRes S a s r R := by
 obtain ⟨⟨hc, hl, hw⟩, _⟩ := storeF_zero hz
 have hS : Small S := ⟨by omega, by omega, by omega⟩
 obtain ⟨i, hi⟩ := FirstAt.get (writeIs S.k a s) S.nw
 rcases hi with ⟨rfl, hn⟩ | ⟨i, hi, rfl, hp, hq⟩
 ·have h1 : FirstAt (writeIs S.k a s) S.nw (-1) := Or.inl ⟨rfl, hn⟩
  by_cases h4 : ∃ i, i < S.nw ∧ writeAt S.k a s i
  ·exact ⟨6, emptyS, small_empty, Or.inr (Or.inr (Or.inl ⟨h1, h4, rfl, rfl⟩))⟩
  ·by_cases h5 : 200 ≤ S.nw
   ·exact ⟨2, emptyS, small_empty, Or.inr (Or.inr (Or.inr (Or.inl ⟨h1, h4, h5, rfl, rfl⟩)))⟩
   ·obtain ⟨k, hk⟩ := placeAt.get (aheadW S.k a s) S.nw
    refine ⟨0, rollS S a s k, ⟨Nat.le_trans (selD_le _ _ _ _) hS.1, Nat.le_trans (selD_le _ _ _ _) hS.2.1, ?_⟩, Or.inr (Or.inr (Or.inr (Or.inr ⟨k, h1, h4, by omega, hk, rfl, rfl⟩)))⟩
    show S.nw + 1 ≤ _
    omega
 ·have h1 : FirstAt (writeIs S.k a s) S.nw (i : Int) := Or.inr ⟨i, hi, rfl, hp, hq⟩
  by_cases h2 : S.k (i * 4 + 3) = 4
  ·exact ⟨0, S, hS, Or.inl ⟨i, h1, h2, rfl, rfl⟩⟩
  ·exact ⟨6, emptyS, small_empty, Or.inr (Or.inl ⟨i, h1, h2, rfl, rfl⟩)⟩
theorem RollAns.get (S : Sto) (a s : Int) : ∃ r R, Small R ∧ RollAns S a s r R := by
 by_cases hz : askF S a = 0
 ·by_cases hs : isT s
  ·obtain ⟨r, R, h1, h2⟩ := RollRes.get S (askF_zero hz).1 a s
   exact ⟨r, R, h1, Or.inr (Or.inr ⟨hz, hs, h2⟩)⟩
  ·exact ⟨3, emptyS, small_empty, Or.inr (Or.inl ⟨hz, hs, rfl, rfl⟩)⟩
 ·exact ⟨_, emptyS, small_empty, Or.inl ⟨hz, rfl, rfl⟩⟩
end
end Go.Proofs.YtiadbiiiikhfaaaGreatDoor

namespace Go.Proofs.YtiadbiiiikhfaaaGreatDoor
open Go.RowKit

theorem scan_all {g : Nat → Int} : ∀ {n : Nat}, (∀ i, i < n → g i = 0) → scan g n = 0
 | 0, _ => rfl
 | n + 1, h => scan_go (scan_all fun i hi => h i (by omega)) (h n (Nat.lt_succ_self n))
/-- Where the structs of a list that leaves some out come from. -/
def Picks (F : Nat → Int) (m : Nat) (D : List Int → Bool) (k n : Nat) (G : Nat → Int) (f : Nat → Nat) : Prop :=
 (∀ i, i < n → f i < k ∧ (∀ d, d < m → G (i * m + d) = F (f i * m + d)) ∧ D (struD F m (f i)) = false) ∧ (∀ i j, i < j → j < n → f i < f j) ∧ ∀ q, q < k → D (struD F m q) = false → ∃ i, i < n ∧ f i = q
theorem flatG {m : Nat} {L : List (List Int)} (hl : ∀ t ∈ L, t.length = m) {i d : Nat} (hi : i < L.length) (hd : d < m) : L.flatten.getD (i * m + d) 0 = (L.getD i []).getD d 0 := by
 induction L generalizing i with
 | nil => simp at hi
 | cons x L ih =>
  have hx : x.length = m := hl x (by simp)
  cases i with
  | zero =>
   simp only [List.flatten_cons, Nat.zero_mul, Nat.zero_add, List.getD_cons_zero]
   rw [List.getD_eq_getElem?_getD, List.getD_eq_getElem?_getD, List.getElem?_append_left (by omega)]
  | succ i =>
   simp only [List.flatten_cons, List.getD_cons_succ]
   rw [List.getD_eq_getElem?_getD, List.getElem?_append_right (by rw [hx, Nat.succ_mul]; omega), hx, ← List.getD_eq_getElem?_getD]
   rw [show (i + 1) * m + d - m = i * m + d by rw [Nat.succ_mul]; omega]
   exact ih (fun t ht => hl t (by simp [ht])) (by simpa using hi)
theorem picks_get (F : Nat → Int) (m : Nat) (D : List Int → Bool) : ∀ k, ∃ f, Picks F m D k (selD F m D k).length (fun p => (selD F m D k).flatten.getD p 0) f
 | 0 => ⟨fun i => i, fun i hi => by simp [selD] at hi, fun i j _ hj => by simp [selD] at hj, fun q hq => absurd hq (Nat.not_lt_zero q)⟩
 | k + 1 => by
  obtain ⟨f, h1, h2, h3⟩ := picks_get F m D k
  cases e : D (struD F m k) with
  | true =>
   rw [selD_gone e]
   refine ⟨f, fun i hi => ⟨Nat.lt_succ_of_lt (h1 i hi).1, (h1 i hi).2⟩, h2, fun q hq hd => ?_⟩
   by_cases c : q = k
   ·subst c; rw [e] at hd; cases hd
   ·exact h3 q (by omega) hd
  | false =>
   have hn : (selD F m D (k + 1)).length = (selD F m D k).length + 1 := by rw [selD_kept e]; simp
   have old : ∀ i, i < (selD F m D k).length → ∀ d, d < m → (selD F m D (k + 1)).flatten.getD (i * m + d) 0 = (selD F m D k).flatten.getD (i * m + d) 0 := fun i hi d hd => by
    rw [flatG (selD_len F m D (k + 1)) (by omega) hd, flatG (selD_len F m D k) hi hd, selD_kept e]
    have e1 : (selD F m D k ++ [struD F m k]).getD i [] = (selD F m D k).getD i [] := by rw [List.getD_eq_getElem?_getD, List.getD_eq_getElem?_getD, List.getElem?_append_left hi]
    rw [e1]
   have new : ∀ d, d < m → (selD F m D (k + 1)).flatten.getD ((selD F m D k).length * m + d) 0 = F (k * m + d) := fun d hd => by
    rw [flatG (selD_len F m D (k + 1)) (by omega) hd, selD_kept e]
    have e1 : (selD F m D k ++ [struD F m k]).getD (selD F m D k).length [] = struD F m k := by rw [List.getD_eq_getElem?_getD, List.getElem?_append_right (Nat.le_refl _)]; simp
    rw [e1]
    exact struD_get F m k d hd
   refine ⟨fun i => if i < (selD F m D k).length then f i else k, ?_, ?_, ?_⟩
   ·intro i hi
    by_cases c : i < (selD F m D k).length
    ·simp only [if_pos c]
     exact ⟨Nat.lt_succ_of_lt (h1 i c).1, fun d hd => (old i c d hd).trans ((h1 i c).2.1 d hd), (h1 i c).2.2⟩
    ·obtain rfl : i = (selD F m D k).length := by omega
     simp only [if_neg c]
     exact ⟨Nat.lt_succ_self k, new, e⟩
   ·intro i j hij hj
    by_cases c : j < (selD F m D k).length
    ·simp only [if_pos c, if_pos (Nat.lt_trans hij c)]
     exact h2 i j hij c
    ·simp only [if_neg c, if_pos (show i < (selD F m D k).length by omega)]
     exact (h1 i (by omega)).1
   ·intro q hq hd
    by_cases c : q = k
    ·subst c
     exact ⟨(selD F m D q).length, by omega, by simp⟩
    ·obtain ⟨i, hi, e'⟩ := h3 q (by omega) hd
     exact ⟨i, by omega, by simp only [if_pos hi]; exact e'⟩
theorem lockF_full {l : Nat → Int} {i : Nat} (h : lockF l i = 0) : faultOf (l (i * 5)) = 0 ∧ faultOf (l (i * 5 + 3)) = 0 ∧ (1 ≤ l (i * 5 + 1) ∧ l (i * 5 + 1) ≤ 100000 ∧ 1 ≤ l (i * 5 + 2) ∧ l (i * 5 + 2) ≤ 3 ∧ 0 ≤ l (i * 5 + 4) ∧ l (i * 5 + 4) ≤ 100000) ∧ (0 < i → l ((i - 1) * 5) < l (i * 5)) := by
 unfold lockF at h
 by_cases h0 : faultOf (l (i * 5)) = 0
 ·rw [if_neg (fun q => q h0)] at h
  by_cases h2 : faultOf (l (i * 5 + 3)) = 0
  ·rw [if_neg (fun q => q h2)] at h
   by_cases h1 : 1 ≤ l (i * 5 + 1) ∧ l (i * 5 + 1) ≤ 100000 ∧ 1 ≤ l (i * 5 + 2) ∧ l (i * 5 + 2) ≤ 3 ∧ 0 ≤ l (i * 5 + 4) ∧ l (i * 5 + 4) ≤ 100000
   ·rw [if_neg (fun q => q h1)] at h
    refine ⟨h0, h2, h1, fun hi => ?_⟩
    by_cases h3 : l ((i - 1) * 5) < l (i * 5)
    ·exact h3
    ·rw [if_pos ⟨hi, h3⟩] at h; exact absurd h (by decide)
   ·rw [if_pos h1] at h; exact absurd h (by decide)
  ·rw [if_pos h2] at h; exact absurd h h2
 ·rw [if_pos h0] at h; exact absurd h h0
theorem lockF_mk {l : Nat → Int} {i : Nat} (h0 : faultOf (l (i * 5)) = 0) (h2 : faultOf (l (i * 5 + 3)) = 0) (h1 : 1 ≤ l (i * 5 + 1) ∧ l (i * 5 + 1) ≤ 100000 ∧ 1 ≤ l (i * 5 + 2) ∧ l (i * 5 + 2) ≤ 3 ∧ 0 ≤ l (i * 5 + 4) ∧ l (i * 5 + 4) ≤ 100000) (h3 : 0 < i → l ((i - 1) * 5) < l (i * 5)) : lockF l i = 0 := by
 unfold lockF
 rw [if_neg (fun q => q h0), if_neg (fun q => q h2), if_neg (fun q => q h1), if_neg (fun q => q.2 (h3 q.1))]
theorem locks_rise {l : Nat → Int} {n : Nat} (h : scan (lockF l) n = 0) : ∀ j, j < n → ∀ i, i < j → l (i * 5) < l (j * 5)
 | 0, _, i, hi => absurd hi (Nat.not_lt_zero i)
 | j + 1, hj, i, hi => by
  have h1 := (lockF_full (scan_zero h (j + 1) hj)).2.2.2 (Nat.succ_pos j)
  rw [Nat.add_sub_cancel] at h1
  by_cases c : i = j
  ·rw [c]; exact h1
  ·have := locks_rise h j (by omega) i (by omega)
   omega
theorem lockF_picks {l G : Nat → Int} {n n' : Nat} {D : List Int → Bool} {f : Nat → Nat} (h : scan (lockF l) n = 0) (p : Picks l 5 D n n' G f) : scan (lockF G) n' = 0 := by
 refine scan_all fun i hi => ?_
 obtain ⟨h1, h2, _⟩ := p.1 i hi
 have z := lockF_full (scan_zero h (f i) h1)
 have g0 := h2 0 (by decide)
 have g1 := h2 1 (by decide)
 have g2 := h2 2 (by decide)
 have g3 := h2 3 (by decide)
 have g4 := h2 4 (by decide)
 rw [Nat.add_zero, Nat.add_zero] at g0
 refine lockF_mk (by rw [g0]; exact z.1) (by rw [g3]; exact z.2.1) (by rw [g1, g2, g4]; exact z.2.2.1) (fun hp => ?_)
 have k0 := (p.1 (i - 1) (by omega)).2.1 0 (by decide)
 rw [Nat.add_zero, Nat.add_zero] at k0
 rw [g0, k0]
 exact locks_rise h (f i) h1 (f (i - 1)) (p.2.1 (i - 1) i (by omega) hi)
theorem cellF_full {c : Nat → Int} {i : Nat} (h : cellF c i = 0) : faultOf (c (i * 3)) = 0 ∧ (1 ≤ c (i * 3 + 1) ∧ c (i * 3 + 1) ≤ 100000 ∧ 0 ≤ c (i * 3 + 2) ∧ c (i * 3 + 2) ≤ 9999) := by
 unfold cellF at h
 by_cases h0 : faultOf (c (i * 3)) = 0
 ·rw [if_neg (fun q => q h0)] at h
  by_cases h1 : 1 ≤ c (i * 3 + 1) ∧ c (i * 3 + 1) ≤ 100000 ∧ 0 ≤ c (i * 3 + 2) ∧ c (i * 3 + 2) ≤ 9999
  ·exact ⟨h0, h1⟩
  ·rw [if_pos h1] at h; exact absurd h (by decide)
 ·rw [if_pos h0] at h; exact absurd h h0
theorem cellF_mk {c : Nat → Int} {i : Nat} (h0 : faultOf (c (i * 3)) = 0) (h1 : 1 ≤ c (i * 3 + 1) ∧ c (i * 3 + 1) ≤ 100000 ∧ 0 ≤ c (i * 3 + 2) ∧ c (i * 3 + 2) ≤ 9999) (h2 : 0 < i → c ((i - 1) * 3) < c (i * 3) ∨ c ((i - 1) * 3) = c (i * 3) ∧ c ((i - 1) * 3 + 1) < c (i * 3 + 1)) : cellF c i = 0 := by
 unfold cellF
 rw [if_neg (fun q => q h0), if_neg (fun q => q h1), if_neg (fun q => q.2 (h2 q.1))]
theorem cellF_picks {S : Sto} {G : Nat → Int} {n' : Nat} {D : List Int → Bool} {f : Nat → Nat} (h : scan (cellF S.c) S.nc = 0) (p : Picks S.c 3 D S.nc n' G f) : scan (cellF G) n' = 0 := by
 refine scan_all fun i hi => ?_
 obtain ⟨h1, h2, _⟩ := p.1 i hi
 have z := cellF_full (scan_zero h (f i) h1)
 have g0 := h2 0 (by decide)
 have g1 := h2 1 (by decide)
 have g2 := h2 2 (by decide)
 rw [Nat.add_zero, Nat.add_zero] at g0
 refine cellF_mk (by rw [g0]; exact z.1) (by rw [g1, g2]; exact z.2) (fun hp => ?_)
 have k0 := (p.1 (i - 1) (by omega)).2.1 0 (by decide)
 have k1 := (p.1 (i - 1) (by omega)).2.1 1 (by decide)
 rw [Nat.add_zero, Nat.add_zero] at k0
 rw [g0, k0, g1, k1]
 exact cells_rise h (f i) h1 (f (i - 1)) (p.2.1 (i - 1) i (by omega) hi)
/-- Where a row's structs come from into which one more was put at k. -/
def spot (k i : Nat) : Nat := if i < k then i else i - 1
theorem ins_old {F : Nat → Int} {m n k i d : Nat} {xs : List Int} (hx : xs.length = m) (hk : k ≤ n) (hi : i < n + 1) (hne : i ≠ k) (hd : d < m) : insF F m n k xs (i * m + d) = F (spot k i * m + d) := by
 unfold spot
 by_cases c : i < k
 ·rw [if_pos c]
  refine insF_lt ?_
  calc i * m + d < i * m + m := by omega
   _ = (i + 1) * m := by rw [Nat.succ_mul]
   _ ≤ k * m := Nat.mul_le_mul_right m c
 ·rw [if_neg c]
  obtain ⟨e, rfl⟩ : ∃ e, i = k + 1 + e := ⟨i - k - 1, by omega⟩
  have h1 : (k + 1 + e) * m + d = (k + 1) * m + (e * m + d) := by rw [Nat.add_mul (k + 1) e m]; omega
  have h2 : (k + 1 + e - 1) * m + d = k * m + (e * m + d) := by rw [show k + 1 + e - 1 = k + e by omega, Nat.add_mul]; omega
  rw [h1, h2]
  refine insF_gt hx ?_
  calc e * m + d < e * m + m := by omega
   _ = (e + 1) * m := by rw [Nat.succ_mul]
   _ ≤ (n - k) * m := Nat.mul_le_mul_right m (by omega)
theorem writeF_full {k : Nat → Int} {i : Nat} (h : writeF k i = 0) : faultOf (k (i * 4)) = 0 ∧ (1 ≤ k (i * 4 + 1) ∧ k (i * 4 + 1) ≤ 100000 ∧ 1 ≤ k (i * 4 + 2) ∧ k (i * 4 + 2) ≤ 100000 ∧ 1 ≤ k (i * 4 + 3) ∧ k (i * 4 + 3) ≤ 4) ∧ (0 < i → k ((i - 1) * 4) < k (i * 4) ∨ k ((i - 1) * 4) = k (i * 4) ∧ k ((i - 1) * 4 + 1) < k (i * 4 + 1)) ∧ fits k i := by
 unfold writeF at h
 by_cases h0 : faultOf (k (i * 4)) = 0
 ·rw [if_neg (fun q => q h0)] at h
  by_cases h1 : 1 ≤ k (i * 4 + 1) ∧ k (i * 4 + 1) ≤ 100000 ∧ 1 ≤ k (i * 4 + 2) ∧ k (i * 4 + 2) ≤ 100000 ∧ 1 ≤ k (i * 4 + 3) ∧ k (i * 4 + 3) ≤ 4
  ·rw [if_neg (fun q => q h1)] at h
   by_cases h3 : (0 < i ∧ ¬ (k ((i - 1) * 4) < k (i * 4) ∨ k ((i - 1) * 4) = k (i * 4) ∧ k ((i - 1) * 4 + 1) < k (i * 4 + 1))) ∨ ¬ fits k i
   ·rw [if_pos h3] at h; exact absurd h (by decide)
   ·refine ⟨h0, h1, fun hi => ?_, ?_⟩
    ·exact Classical.byContradiction fun q => h3 (Or.inl ⟨hi, q⟩)
    ·exact Classical.byContradiction fun q => h3 (Or.inr q)
  ·rw [if_pos h1] at h; exact absurd h (by decide)
 ·rw [if_pos h0] at h; exact absurd h h0
theorem writeF_mk {k : Nat → Int} {i : Nat} (h0 : faultOf (k (i * 4)) = 0) (h1 : 1 ≤ k (i * 4 + 1) ∧ k (i * 4 + 1) ≤ 100000 ∧ 1 ≤ k (i * 4 + 2) ∧ k (i * 4 + 2) ≤ 100000 ∧ 1 ≤ k (i * 4 + 3) ∧ k (i * 4 + 3) ≤ 4) (h2 : 0 < i → k ((i - 1) * 4) < k (i * 4) ∨ k ((i - 1) * 4) = k (i * 4) ∧ k ((i - 1) * 4 + 1) < k (i * 4 + 1)) (h3 : fits k i) : writeF k i = 0 := by
 unfold writeF
 rw [if_neg (fun q => q h0), if_neg (fun q => q h1), if_neg (fun q => q.elim (fun q => q.2 (h2 q.1)) (fun q => q h3))]
theorem spot_lt {k i j : Nat} (h : i < j) (hi : i ≠ k) (hj : j ≠ k) : spot k i < spot k j := by
 unfold spot
 split <;> split <;> omega
theorem spot_bound {k i n : Nat} (hi : i < n + 1) (hne : i ≠ k) (hk : k ≤ n) : spot k i < n := by
 unfold spot
 split <;> omega
section
variable {F : Nat → Int} {n k : Nat} {a c s d : Int}
theorem ins_new0 : insF F 4 n k [a, c, s, d] (k * 4) = a := insF_at (p := 0) rfl (by decide)
theorem ins_new1 : insF F 4 n k [a, c, s, d] (k * 4 + 1) = c := insF_at (p := 1) rfl (by decide)
theorem ins_new2 : insF F 4 n k [a, c, s, d] (k * 4 + 2) = s := insF_at (p := 2) rfl (by decide)
theorem ins_new3 : insF F 4 n k [a, c, s, d] (k * 4 + 3) = d := insF_at (p := 3) rfl (by decide)
theorem ins_old0 {i : Nat} (hk : k ≤ n) (hi : i < n + 1) (hne : i ≠ k) : insF F 4 n k [a, c, s, d] (i * 4) = F (spot k i * 4) := ins_old (d := 0) rfl hk hi hne (by decide)
theorem ins_oldd {i e : Nat} (hk : k ≤ n) (hi : i < n + 1) (hne : i ≠ k) (he : e < 4) : insF F 4 n k [a, c, s, d] (i * 4 + e) = F (spot k i * 4 + e) := ins_old rfl hk hi hne he
theorem writeF_ins (h : scan (writeF F) n = 0) (pl : placeAt (aheadW F a c) n k) (hat : ¬ ∃ i, i < n ∧ writeAt F a c i) (ha : faultOf a = 0) (hc : 1 ≤ c ∧ c ≤ 100000) (hs : 1 ≤ s ∧ s ≤ 100000) (hd : 1 ≤ d ∧ d ≤ 4) (hf : (d = 4 → c = s) ∧ (d ≠ 4 → s < c)) :
  scan (writeF (insF F 4 n k [a, c, s, d])) (n + 1) = 0 := by
 refine scan_all fun i hi => ?_
 have hk := pl.1
 by_cases e : i = k
 ·subst e
  refine writeF_mk (by rw [ins_new0]; exact ha) (by rw [ins_new1, ins_new2, ins_new3]; omega) (fun hp => ?_) ?_
  ·rw [ins_new0, ins_new1, ins_old0 hk (by omega) (by omega), ins_oldd hk (by omega) (by omega) (by decide)]
   have q : spot i (i - 1) = i - 1 := by unfold spot; rw [if_pos (by omega)]
   rw [q]
   exact pl.2.1 (i - 1) (by omega)
  ·unfold fits
   rw [ins_new1, ins_new2, ins_new3]
   exact hf
 ·have hb := spot_bound hi e hk
  have z := writeF_full (scan_zero h (spot k i) hb)
  refine writeF_mk (by rw [ins_old0 hk hi e]; exact z.1) (by rw [ins_oldd hk hi e (by decide), ins_oldd hk hi e (by decide), ins_oldd hk hi e (by decide)]; exact z.2.1) (fun hp => ?_) ?_
  ·rw [ins_old0 hk hi e, ins_oldd hk hi e (by decide)]
   by_cases e2 : i - 1 = k
   ·have q : spot k i = k := by unfold spot; rw [if_neg (by omega)]; omega
    rw [e2, ins_new0, ins_new1, q]
    have hkn : k < n := by omega
    have h1 := pl.2.2 hkn
    have h2 : ¬ writeAt F a c k := fun q => hat ⟨k, hkn, q⟩
    unfold aheadW at h1
    unfold writeAt at h2
    omega
   ·rw [ins_old0 hk (by omega) e2, ins_oldd hk (by omega) e2 (by decide)]
    have q : spot k (i - 1) = spot k i - 1 := by unfold spot; split <;> split <;> omega
    rw [q]
    exact z.2.2.1 (by unfold spot; split <;> omega)
  ·unfold fits
   rw [ins_oldd hk hi e (by decide), ins_oldd hk hi e (by decide), ins_oldd hk hi e (by decide)]
   exact z.2.2.2
end
theorem pick3 {F G : Nat → Int} {D : List Int → Bool} {k n : Nat} {f : Nat → Nat} (p : Picks F 3 D k n G f) {i : Nat} (hi : i < n) : G (i * 3) = F (f i * 3) := (p.1 i hi).2.1 0 (by decide)
theorem goneL_iff' {F : Nat → Int} {a s : Int} {i : Nat} : goneL a s (struD F 5 i) = true ↔ F (i * 5) = a ∧ F (i * 5 + 1) = s := by
 unfold goneL
 rw [struD_get F 5 i 0 (by omega), struD_get F 5 i 1 (by omega), Bool.and_eq_true, beq_iff_eq, beq_iff_eq]
 exact Iff.rfl
theorem storeF_mk {S : Sto} (h0 : S.nc ≤ 200 ∧ S.nl ≤ 200 ∧ S.nw ≤ 200) (h1 : scan (cellF S.c) S.nc = 0) (h2 : scan (lockF S.l) S.nl = 0) (h3 : scan (writeF S.k) S.nw = 0) (h4 : needs S) (h5 : once S) : storeF S = 0 := by
 unfold storeF
 rw [if_neg (by omega), if_neg (fun q => q h1), if_neg (fun q => q h2), if_neg (fun q => q h3), if_neg (fun q => q h4), if_neg (fun q => q h5)]
theorem no_write {k : Nat → Int} {a s : Int} {n : Nat} (h : FirstAt (writeIs k a s) n (-1)) : ∀ i, i < n → ¬ writeIs k a s i := by
 rcases h with ⟨_, h⟩ | ⟨i, _, e, _⟩
 ·exact h
 ·exact absurd e (by omega)
theorem rollS_ok {S : Sto} {a s : Int} {k : Nat} (hz : storeF S = 0) (ha : faultOf a = 0) (hs : 1 ≤ s ∧ s ≤ 100000) (hw : FirstAt (writeIs S.k a s) S.nw (-1)) (hat : ¬ ∃ i, i < S.nw ∧ writeAt S.k a s i) (hn : S.nw < 200) (pl : placeAt (aheadW S.k a s) S.nw k) : storeF (rollS S a s k) = 0 := by
 obtain ⟨⟨b0, b1, b2⟩, z0, z1, z2, z3, z4⟩ := storeF_zero hz
 have nw := no_write hw
 have hk := pl.1
 obtain ⟨f, pf⟩ := picks_get S.c 3 (goneK a s) S.nc
 obtain ⟨g, pg⟩ := picks_get S.l 5 (goneL a s) S.nl
 have l0 : (unlC S.c a s S.nc).length ≤ S.nc := selD_le _ _ _ _
 have l1 : (unlL S.l a s S.nl).length ≤ S.nl := selD_le _ _ _ _
 have cell : ∀ x y, ¬ (x = a ∧ y = s) → hasCell S S.nc x y → hasCell (rollS S a s k) (rollS S a s k).nc x y := fun x y hne ⟨q, hq, h1, h2⟩ => by
  obtain ⟨i, hi, e⟩ := pf.2.2 q hq (goneK_not (fun e => hne ⟨h1.symm.trans e.1, h2.symm.trans e.2⟩))
  refine ⟨i, hi, ?_, ?_⟩
  ·exact (pick3 pf hi).trans (by rw [e]; exact h1)
  ·exact ((pf.1 i hi).2.1 1 (by decide)).trans (by rw [e]; exact h2)
 refine storeF_mk ⟨Nat.le_trans l0 b0, Nat.le_trans l1 b1, hn⟩ (cellF_picks z0 pf) (lockF_picks z1 pg) (writeF_ins z2 pl hat ha hs hs (by decide) ⟨fun _ => rfl, fun q => absurd rfl q⟩) ⟨fun i hi => ?_, fun i hi => ?_⟩ ⟨fun i hi => ?_, fun i hi => ?_⟩
 ·show insF S.k 4 S.nw k [a, s, s, 4] (i * 4 + 3) = 1 → hasCell (rollS S a s k) (rollS S a s k).nc (insF S.k 4 S.nw k [a, s, s, 4] (i * 4)) (insF S.k 4 S.nw k [a, s, s, 4] (i * 4 + 2))
  by_cases e : i = k
  ·subst e
   rw [ins_new3]
   intro q
   exact absurd q (by decide)
  ·rw [ins_oldd hk hi e (by decide), ins_old0 hk hi e, ins_oldd hk hi e (by decide)]
   intro q
   have hb := spot_bound hi e hk
   exact cell _ _ (fun q => nw _ hb q) (z3.1 _ hb q)
 ·obtain ⟨h1, h2, h3⟩ := pg.1 i hi
  have e0 : (rollS S a s k).l (i * 5) = S.l (g i * 5) := h2 0 (by decide)
  have e1 : (rollS S a s k).l (i * 5 + 1) = S.l (g i * 5 + 1) := h2 1 (by decide)
  have e2 : (rollS S a s k).l (i * 5 + 2) = S.l (g i * 5 + 2) := h2 2 (by decide)
  unfold putL
  rw [e0, e1, e2]
  intro q
  exact cell _ _ (fun q => by rw [goneL_iff'.2 q] at h3; cases h3) (z3.2 _ h1 q)
 ·rintro ⟨q, hq, h1, h2⟩
  replace h1 : insF S.k 4 S.nw k [a, s, s, 4] (q * 4) = insF S.k 4 S.nw k [a, s, s, 4] (i * 4) := h1
  replace h2 : insF S.k 4 S.nw k [a, s, s, 4] (q * 4 + 2) = insF S.k 4 S.nw k [a, s, s, 4] (i * 4 + 2) := h2
  have hi' : i < S.nw + 1 := hi
  by_cases e : i = k
  ·subst e
   rw [ins_new0, ins_old0 hk (by omega) (by omega)] at h1
   rw [ins_new2, ins_oldd hk (by omega) (by omega) (by decide)] at h2
   exact nw _ (spot_bound (by omega) (by omega) hk) ⟨h1, h2⟩
  ·rw [ins_old0 hk hi' e] at h1
   rw [ins_oldd hk hi' e (by decide)] at h2
   by_cases e2 : q = k
   ·subst e2
    rw [ins_new0] at h1
    rw [ins_new2] at h2
    exact nw _ (spot_bound hi' e hk) ⟨h1.symm, h2.symm⟩
   ·rw [ins_old0 hk (by omega) e2] at h1
    rw [ins_oldd hk (by omega) e2 (by decide)] at h2
    exact z4.1 _ (spot_bound hi' e hk) ⟨spot k q, spot_lt hq e2 e, h1, h2⟩
 ·obtain ⟨h1, h2, h3⟩ := pg.1 i hi
  have e0 : (rollS S a s k).l (i * 5) = S.l (g i * 5) := h2 0 (by decide)
  have e1 : (rollS S a s k).l (i * 5 + 1) = S.l (g i * 5 + 1) := h2 1 (by decide)
  unfold onceL
  rw [e0, e1]
  rintro ⟨q, hq, k1, k2⟩
  replace k1 : insF S.k 4 S.nw k [a, s, s, 4] (q * 4) = S.l (g i * 5) := k1
  replace k2 : insF S.k 4 S.nw k [a, s, s, 4] (q * 4 + 2) = S.l (g i * 5 + 1) := k2
  have hq' : q < S.nw + 1 := hq
  by_cases e : q = k
  ·subst e
   rw [ins_new0] at k1
   rw [ins_new2] at k2
   rw [goneL_iff'.2 ⟨k1.symm, k2.symm⟩] at h3
   cases h3
  ·rw [ins_old0 hk hq' e] at k1
   rw [ins_oldd hk hq' e (by decide)] at k2
   exact z4.2 _ h1 ⟨spot k q, spot_bound hq' e hk, k1, k2⟩
theorem RollRes.ok {S : Sto} {a s : Int} {R : Sto} (hz : storeF S = 0) (ha : faultOf a = 0) (hs : 1 ≤ s ∧ s ≤ 100000) (h : RollRes S a s 0 R) : storeF R = 0 := by
 rcases h with ⟨i, _, _, _, rfl⟩ | ⟨i, _, _, h, _⟩ | ⟨_, _, h, _⟩ | ⟨_, _, _, h, _⟩ | ⟨k, h1, h2, hn, h3, _, rfl⟩
 ·exact hz
 ·exact absurd h (by decide)
 ·exact absurd h (by decide)
 ·exact absurd h (by decide)
 ·exact rollS_ok hz ha hs h1 h2 hn h3
theorem commitS_ok {S : Sto} {a s c : Int} {j k : Nat} (hz : storeF S = 0) (hc : s < c ∧ c ≤ 100000) (hw : FirstAt (writeIs S.k a s) S.nw (-1)) (hl : FirstAt (lockIs S.l a) S.nl j) (hj : S.l (j * 5 + 1) = s) (hat : ¬ ∃ i, i < S.nw ∧ writeAt S.k a c i) (hn : S.nw < 200) (pl : placeAt (aheadW S.k a c) S.nw k) : storeF (commitS S a s c (S.l (j * 5 + 2)) k) = 0 := by
 obtain ⟨⟨b0, b1, b2⟩, z0, z1, z2, z3, z4⟩ := storeF_zero hz
 have nw := no_write hw
 have hk := pl.1
 obtain ⟨hjn, hja, _⟩ := hl.at
 have L := lockF_full (scan_zero z1 j hjn)
 have ja : S.l (j * 5) = a := hja
 rw [ja, hj] at L
 obtain ⟨g, pg⟩ := picks_get S.l 5 (goneL a s) S.nl
 have l1 : (unlL S.l a s S.nl).length ≤ S.nl := selD_le _ _ _ _
 obtain ⟨d, hd⟩ : ∃ d, S.l (j * 5 + 2) = d := ⟨_, rfl⟩
 have pj := z3.2 j hjn
 unfold putL at pj
 rw [hd, ja, hj] at pj
 rw [hd] at L ⊢
 refine storeF_mk ⟨b0, Nat.le_trans l1 b1, hn⟩ z0 (lockF_picks z1 pg) (writeF_ins z2 pl hat L.1 (by omega) (by omega) (by omega) ⟨fun q => by omega, fun _ => hc.1⟩) ⟨fun i hi => ?_, fun i hi => ?_⟩ ⟨fun i hi => ?_, fun i hi => ?_⟩
 ·show insF S.k 4 S.nw k [a, c, s, d] (i * 4 + 3) = 1 → hasCell S S.nc (insF S.k 4 S.nw k [a, c, s, d] (i * 4)) (insF S.k 4 S.nw k [a, c, s, d] (i * 4 + 2))
  by_cases e : i = k
  ·subst e
   rw [ins_new3, ins_new0, ins_new2]
   exact pj
  ·rw [ins_oldd hk hi e (by decide), ins_old0 hk hi e, ins_oldd hk hi e (by decide)]
   exact z3.1 _ (spot_bound hi e hk)
 ·obtain ⟨h1, h2, h3⟩ := pg.1 i hi
  have e0 : (commitS S a s c d k).l (i * 5) = S.l (g i * 5) := h2 0 (by decide)
  have e1 : (commitS S a s c d k).l (i * 5 + 1) = S.l (g i * 5 + 1) := h2 1 (by decide)
  have e2 : (commitS S a s c d k).l (i * 5 + 2) = S.l (g i * 5 + 2) := h2 2 (by decide)
  unfold putL
  rw [e0, e1, e2]
  exact z3.2 _ h1
 ·rintro ⟨q, hq, h1, h2⟩
  replace h1 : insF S.k 4 S.nw k [a, c, s, d] (q * 4) = insF S.k 4 S.nw k [a, c, s, d] (i * 4) := h1
  replace h2 : insF S.k 4 S.nw k [a, c, s, d] (q * 4 + 2) = insF S.k 4 S.nw k [a, c, s, d] (i * 4 + 2) := h2
  have hi' : i < S.nw + 1 := hi
  by_cases e : i = k
  ·subst e
   rw [ins_new0, ins_old0 hk (by omega) (by omega)] at h1
   rw [ins_new2, ins_oldd hk (by omega) (by omega) (by decide)] at h2
   exact nw _ (spot_bound (by omega) (by omega) hk) ⟨h1, h2⟩
  ·rw [ins_old0 hk hi' e] at h1
   rw [ins_oldd hk hi' e (by decide)] at h2
   by_cases e2 : q = k
   ·subst e2
    rw [ins_new0] at h1
    rw [ins_new2] at h2
    exact nw _ (spot_bound hi' e hk) ⟨h1.symm, h2.symm⟩
   ·rw [ins_old0 hk (by omega) e2] at h1
    rw [ins_oldd hk (by omega) e2 (by decide)] at h2
    exact z4.1 _ (spot_bound hi' e hk) ⟨spot k q, spot_lt hq e2 e, h1, h2⟩
 ·obtain ⟨h1, h2, h3⟩ := pg.1 i hi
  have e0 : (commitS S a s c d k).l (i * 5) = S.l (g i * 5) := h2 0 (by decide)
  have e1 : (commitS S a s c d k).l (i * 5 + 1) = S.l (g i * 5 + 1) := h2 1 (by decide)
  unfold onceL
  rw [e0, e1]
  rintro ⟨q, hq, k1, k2⟩
  replace k1 : insF S.k 4 S.nw k [a, c, s, d] (q * 4) = S.l (g i * 5) := k1
  replace k2 : insF S.k 4 S.nw k [a, c, s, d] (q * 4 + 2) = S.l (g i * 5 + 1) := k2
  have hq' : q < S.nw + 1 := hq
  by_cases e : q = k
  ·subst e
   rw [ins_new0] at k1
   rw [ins_new2] at k2
   rw [goneL_iff'.2 ⟨k1.symm, k2.symm⟩] at h3
   cases h3
  ·rw [ins_old0 hk hq' e] at k1
   rw [ins_oldd hk hq' e (by decide)] at k2
   exact z4.2 _ h1 ⟨spot k q, spot_bound hq' e hk, k1, k2⟩
theorem CommitRes.ok {S : Sto} {a s c : Int} {R : Sto} (hz : storeF S = 0) (hc : s < c ∧ c ≤ 100000) (h : CommitRes S a s c 0 R) : storeF R = 0 := by
 rcases h with ⟨i, _, _, _, rfl⟩ | ⟨i, _, _, h, _⟩ | ⟨_, _, h, _⟩ | ⟨j, _, _, _, _, h, _⟩ | ⟨j, _, _, _, _, _, h, _⟩ | ⟨j, k, h1, h2, h3, h4, hn, h5, _, rfl⟩
 ·exact hz
 ·exact absurd h (by decide)
 ·exact absurd h (by decide)
 ·exact absurd h (by decide)
 ·exact absurd h (by decide)
 ·exact commitS_ok hz hc h1 h2 h3 h4 hn h5
end Go.Proofs.YtiadbiiiikhfaaaGreatDoor

namespace Go.Proofs.YtiadbiiiikhfaaaGreatDoor
open Go.RowKit

def firstL (l : Nat → Int) (nl : Nat) (key : Int) (i : Nat) : Prop := i < nl ∧ lockIs l key i ∧ ∀ j, j < i → ¬ lockIs l key j
theorem firstL.one {l : Nat → Int} {n : Nat} {a : Int} {i j : Nat} (h : firstL l n a i) (h' : firstL l n a j) : i = j := by
 rcases Nat.lt_trichotomy i j with e | e | e
 ·exact absurd h.2.1 (h'.2.2 i e)
 ·exact e
 ·exact absurd h'.2.1 (h.2.2 j e)
/-- Key has a lock with a start that is not above ts. -/
def blocks (l : Nat → Int) (nl : Nat) (key ts : Int) : Prop := ∃ i, firstL l nl key i ∧ l (i * 5 + 1) ≤ ts
theorem first_or (l : Nat → Int) (nl : Nat) (key : Int) : (∀ i, i < nl → ¬ lockIs l key i) ∨ ∃ i, firstL l nl key i := by
 obtain ⟨r, h⟩ := FirstAt.get (lockIs l key) nl
 rcases h with ⟨_, h⟩ | ⟨i, h1, _, h2, h3⟩
 ·exact Or.inl h
 ·exact Or.inr ⟨i, h1, h2, h3⟩
end Go.Proofs.YtiadbiiiikhfaaaGreatDoor

namespace Go.Proofs.YtiadbiiiikhfaaaGreatDoor
open Go.RowKit

theorem firstW_or (k : Nat → Int) (nw : Nat) (key start : Int) : (∀ i, ¬ firstW k nw key start i) ∨ ∃ i, firstW k nw key start i := by
 obtain ⟨r, hr⟩ := FirstAt.get (writeIs k key start) nw
 rcases hr with ⟨_, h⟩ | ⟨i, h1, _, h2, h3⟩
 ·exact Or.inl fun i hi => h i hi.1 hi.2.1
 ·exact Or.inr ⟨i, h1, h2, h3⟩
/-- A write that is no rollback. -/
def doneW (k : Nat → Int) (n : Nat) (key start : Int) (i : Nat) : Prop := firstW k n key start i ∧ k (i * 4 + 3) ≠ 4
/-- What became of it: 3 taken back, 2 done, 1 locked, 0 none. -/
def StatIs (nl : Nat) (l : Nat → Int) (nw : Nat) (k : Nat → Int) (key start r : Int) : Prop :=
 (∃ i, firstW k nw key start i ∧ ((k (i * 4 + 3) = 4 ∧ r = 3) ∨ (k (i * 4 + 3) ≠ 4 ∧ r = 2))) ∨
 ((∀ i, ¬ firstW k nw key start i) ∧ ((∃ i, firstL l nl key i ∧ ((l (i * 5 + 1) = start ∧ r = 1) ∨ (l (i * 5 + 1) ≠ start ∧ r = 0))) ∨ ((∀ i, i < nl → ¬ lockIs l key i) ∧ r = 0)))
theorem StatIs.get (nl : Nat) (l : Nat → Int) (nw : Nat) (k : Nat → Int) (key start : Int) : ∃ r, StatIs nl l nw k key start r := by
 rcases firstW_or k nw key start with hno | ⟨i, hi⟩
 ·rcases first_or l nl key with hl | ⟨i, hi⟩
  ·exact ⟨0, Or.inr ⟨hno, Or.inr ⟨hl, rfl⟩⟩⟩
  ·by_cases e : l (i * 5 + 1) = start
   ·exact ⟨1, Or.inr ⟨hno, Or.inl ⟨i, hi, Or.inl ⟨e, rfl⟩⟩⟩⟩
   ·exact ⟨0, Or.inr ⟨hno, Or.inl ⟨i, hi, Or.inr ⟨e, rfl⟩⟩⟩⟩
 ·by_cases e : k (i * 4 + 3) = 4
  ·exact ⟨3, Or.inl ⟨i, hi, Or.inl ⟨e, rfl⟩⟩⟩
  ·exact ⟨2, Or.inl ⟨i, hi, Or.inr ⟨e, rfl⟩⟩⟩
set_option maxRecDepth 100000 in
set_option maxHeartbeats 4000000 in
theorem doneOf_anyO (B b oo N : Nat) (m : Int → Int → Option Int) (nl : Nat) (l : Nat → Int) (nw : Nat) (k : Nat → Int) (g : Nat) (u1 u2 : Value) (key start : Int) (w : World) (h : ColsO w B b oo N m nl l nw k g u1 u2) (hn : nw ≤ 200) :
  Calls Tryz.prog 65 #[.pointer (some ⟨b, oo, none⟩), .int .i64 key, .int .i64 start] w fun e w' => ∃ v, e = .returned v ∧ Told (doneW k nw key start) k v ∧ Below w.heap.size w w' := by
 have HZ : Hid (ColsO (w.alloc (.cells #[.int .i64 0, .int .i64 0, .int .i64 0, .int .i64 0] 55)) B b oo N m nl l nw k g u1 u2) := h.later (below_alloc _ _)
 clear h
 rcases firstW_or k nw key start with hno | ⟨i, hi⟩
 ·have HN : Hid (∀ i, ¬ firstW k nw key start i) := hno
  clear hno
  go_enter Tryz.func65, Tryz.ntmps65
  go_wp2_with fail
  refine (writeOf_anyO B b oo N m nl l nw k g u1 u2 key start _ HZ.out hn).mono ?_
  rintro e w1 ⟨v, rfl, hT, q1⟩
  obtain rfl : v = .tuple #[.agg #[.int .i64 0, .int .i64 0, .int .i64 0, .int .i64 0], .bool false] := by
   rcases hT with ⟨i, hi, _⟩ | ⟨_, e⟩
   ·exact absurd hi (HN.out i)
   ·exact e
  have Q : Hid (Blk4 w1 w.heap.size (.int .i64 0) (.int .i64 0) (.int .i64 0) (.int .i64 0) ∧ Below w.heap.size w w1) := ⟨(Blk4.new w _ _ _ _ _).later q1, (below_alloc _ _).trans (q1.mono (by simp))⟩
  obtain ⟨⟨t0, t1, t2, t3⟩, f0, f1, f2, f3⟩ := Q.out.1
  obtain ⟨⟨r0, r1, r2, r3⟩, _⟩ := (Q.out.1.put (.int .i64 0) (.int .i64 0) (.int .i64 0) (.int .i64 0)).alloc (.cells #[.int .i64 0, .int .i64 0, .int .i64 0, .int .i64 0] 55)
  have hne : ¬ w1.heap.size = w.heap.size := fun e => by have := Q.out.1.lt; omega
  have z1 := Q.out.1.lt
  clear hT q1
  go_wp2
  refine bodyPost_ret (v := .tuple #[.agg #[.int .i64 0, .int .i64 0, .int .i64 0, .int .i64 0], .bool false]) (by simp [results, Tryz.results65, go_sem, r0, r1, r2, r3]) rfl ⟨_, rfl, Or.inr ⟨fun i hi => HN.out i hi.1, rfl⟩, ?_⟩
  exact ((((Q.out.2.setCell (Nat.le_refl _) _).setCell (Nat.le_refl _) _).setCell (Nat.le_refl _) _).setCell (Nat.le_refl _) _).alloc (by simpa using Nat.le_of_lt z1) _
 ·obtain ⟨n0, N0⟩ : ∃ x, k (i * 4) = x := ⟨_, rfl⟩
  obtain ⟨n1, N1⟩ : ∃ x, k (i * 4 + 1) = x := ⟨_, rfl⟩
  obtain ⟨n2, N2⟩ : ∃ x, k (i * 4 + 2) = x := ⟨_, rfl⟩
  obtain ⟨n3, N3⟩ : ∃ x, k (i * 4 + 3) = x := ⟨_, rfl⟩
  have NN : Hid (k (i * 4) = n0 ∧ k (i * 4 + 1) = n1 ∧ k (i * 4 + 2) = n2 ∧ k (i * 4 + 3) = n3) := ⟨N0, N1, N2, N3⟩
  have HI : Hid (firstW k nw key start i) := hi
  by_cases h3 : n3 = 4
  ·have HN : Hid (∀ j, ¬ doneW k nw key start j) := fun j hj => by
    obtain rfl := firstW.one hj.1 hi
    exact hj.2 (N3.trans h3)
   clear N0 N1 N2 N3 hi
   subst h3
   go_enter Tryz.func65, Tryz.ntmps65
   go_wp2_with fail
   refine (writeOf_anyO B b oo N m nl l nw k g u1 u2 key start _ HZ.out hn).mono ?_
   rintro e w1 ⟨v, rfl, hT, q1⟩
   obtain rfl : v = .tuple #[.agg #[.int .i64 n0, .int .i64 n1, .int .i64 n2, .int .i64 4], .bool true] := by
    rcases hT with ⟨j, hj, e⟩ | ⟨h, _⟩
    ·obtain rfl := firstW.one hj HI.out
     rw [e, NN.out.1, NN.out.2.1, NN.out.2.2.1, NN.out.2.2.2]
    ·exact absurd HI.out (h _)
   have Q : Hid (Blk4 w1 w.heap.size (.int .i64 0) (.int .i64 0) (.int .i64 0) (.int .i64 0) ∧ Below w.heap.size w w1) := ⟨(Blk4.new w _ _ _ _ _).later q1, (below_alloc _ _).trans (q1.mono (by simp))⟩
   obtain ⟨⟨t0, t1, t2, t3⟩, f0, f1, f2, f3⟩ := Q.out.1
   obtain ⟨⟨r0, r1, r2, r3⟩, _⟩ := (Q.out.1.put (.int .i64 0) (.int .i64 0) (.int .i64 0) (.int .i64 0)).alloc (.cells #[.int .i64 n0, .int .i64 n1, .int .i64 n2, .int .i64 4] 55)
   have hne : ¬ w1.heap.size = w.heap.size := fun e => by have := Q.out.1.lt; omega
   have z1 := Q.out.1.lt
   clear hT q1
   go_wp2
   refine bodyPost_ret (v := .tuple #[.agg #[.int .i64 0, .int .i64 0, .int .i64 0, .int .i64 0], .bool false]) (by simp [results, Tryz.results65, go_sem, r0, r1, r2, r3]) rfl ⟨_, rfl, Or.inr ⟨HN.out, rfl⟩, ?_⟩
   exact ((((Q.out.2.setCell (Nat.le_refl _) _).setCell (Nat.le_refl _) _).setCell (Nat.le_refl _) _).setCell (Nat.le_refl _) _).alloc (by simpa using Nat.le_of_lt z1) _
  ·have HD : Hid (doneW k nw key start i) := ⟨hi, by rw [N3]; exact h3⟩
   have d3 : (n3 == 4) = false := beq_eq_false_iff_ne.2 h3
   clear N0 N1 N2 N3 hi h3
   go_enter Tryz.func65, Tryz.ntmps65
   go_wp2_with fail
   refine (writeOf_anyO B b oo N m nl l nw k g u1 u2 key start _ HZ.out hn).mono ?_
   rintro e w1 ⟨v, rfl, hT, q1⟩
   obtain rfl : v = .tuple #[.agg #[.int .i64 n0, .int .i64 n1, .int .i64 n2, .int .i64 n3], .bool true] := by
    rcases hT with ⟨j, hj, e⟩ | ⟨h, _⟩
    ·obtain rfl := firstW.one hj HI.out
     rw [e, NN.out.1, NN.out.2.1, NN.out.2.2.1, NN.out.2.2.2]
    ·exact absurd HI.out (h _)
   have Q : Hid (Blk4 w1 w.heap.size (.int .i64 0) (.int .i64 0) (.int .i64 0) (.int .i64 0) ∧ Below w.heap.size w w1) := ⟨(Blk4.new w _ _ _ _ _).later q1, (below_alloc _ _).trans (q1.mono (by simp))⟩
   obtain ⟨⟨t0, t1, t2, t3⟩, f0, f1, f2, f3⟩ := Q.out.1
   obtain ⟨⟨r0, r1, r2, r3⟩, _⟩ := (Q.out.1.put (.int .i64 n0) (.int .i64 n1) (.int .i64 n2) (.int .i64 n3)).alloc (.cells #[.int .i64 n0, .int .i64 n1, .int .i64 n2, .int .i64 n3] 55)
   have hne : ¬ w1.heap.size = w.heap.size := fun e => by have := Q.out.1.lt; omega
   have z1 := Q.out.1.lt
   clear hT q1
   go_wp2
   refine bodyPost_ret (v := .tuple #[.agg #[.int .i64 n0, .int .i64 n1, .int .i64 n2, .int .i64 n3], .bool true]) (by simp [results, Tryz.results65, go_sem, r0, r1, r2, r3]) rfl ⟨_, rfl, Or.inl ⟨i, HD.out, by rw [NN.out.1, NN.out.2.1, NN.out.2.2.1, NN.out.2.2.2]⟩, ?_⟩
   exact ((((Q.out.2.setCell (Nat.le_refl _) _).setCell (Nat.le_refl _) _).setCell (Nat.le_refl _) _).setCell (Nat.le_refl _) _).alloc (by simpa using Nat.le_of_lt z1) _
set_option maxRecDepth 100000 in
set_option maxHeartbeats 4000000 in
theorem status_isO (B b oo N : Nat) (m : Int → Int → Option Int) (nl : Nat) (l : Nat → Int) (nw : Nat) (k : Nat → Int) (g : Nat) (u1 u2 : Value) (key start r : Int) (w : World) (h : ColsO w B b oo N m nl l nw k g u1 u2) (hl : nl ≤ 200) (hw : nw ≤ 200) (hr : StatIs nl l nw k key start r) :
  Calls Tryz.prog 53 #[.pointer (some ⟨b, oo, none⟩), .int .i64 key, .int .i64 start] w fun e w' => e = .returned (.int .i64 r) ∧ Below w.heap.size w w' := by
 have H : Hid (ColsO w B b oo N m nl l nw k g u1 u2) := h
 clear h
 rcases hr with ⟨i, hi, ⟨h3, rfl⟩ | ⟨h3, rfl⟩⟩ | ⟨hno, ⟨j, hj, ⟨h1, rfl⟩ | ⟨h1, rfl⟩⟩ | ⟨hno2, rfl⟩⟩
 ·have HD : Hid (∀ j, ¬ doneW k nw key start j) := fun j hj => by
   obtain rfl := firstW.one hj.1 hi
   exact hj.2 h3
  obtain ⟨n0, N0⟩ : ∃ x, k (i * 4) = x := ⟨_, rfl⟩
  obtain ⟨n1, N1⟩ : ∃ x, k (i * 4 + 1) = x := ⟨_, rfl⟩
  obtain ⟨n2, N2⟩ : ∃ x, k (i * 4 + 2) = x := ⟨_, rfl⟩
  obtain ⟨n3, N3⟩ : ∃ x, k (i * 4 + 3) = x := ⟨_, rfl⟩
  have NN : Hid (k (i * 4) = n0 ∧ k (i * 4 + 1) = n1 ∧ k (i * 4 + 2) = n2 ∧ k (i * 4 + 3) = n3) := ⟨N0, N1, N2, N3⟩
  have HI : Hid (firstW k nw key start i) := hi
  clear N0 N1 N2 N3 hi h3
  go_enter Tryz.func53, Tryz.ntmps53
  go_wp2_with fail
  refine (doneOf_anyO B b oo N m nl l nw k g u1 u2 key start _ H.out hw).mono ?_
  rintro e w1 ⟨v, rfl, hT, q1⟩
  obtain rfl : v = .tuple #[.agg #[.int .i64 0, .int .i64 0, .int .i64 0, .int .i64 0], .bool false] := by
   rcases hT with ⟨i, hi, _⟩ | ⟨_, e⟩
   ·exact absurd hi (HD.out i)
   ·exact e
  have Q : Hid (Below w.heap.size w (w1.alloc (.cells #[.int .i64 0, .int .i64 0, .int .i64 0, .int .i64 0] 55))) := q1.alloc q1.size _
  clear hT q1
  go_wp2_with fail
  refine (writeOf_anyO B b oo N m nl l nw k g u1 u2 key start _ (H.out.later (Q.out.mono (Nat.le_refl _))) hw).mono ?_
  rintro e w2 ⟨v, rfl, hT, q1⟩
  obtain rfl : v = .tuple #[.agg #[.int .i64 n0, .int .i64 n1, .int .i64 n2, .int .i64 n3], .bool true] := by
   rcases hT with ⟨j, hj, e⟩ | ⟨h, _⟩
   ·obtain rfl := firstW.one hj HI.out
    rw [e, NN.out.1, NN.out.2.1, NN.out.2.2.1, NN.out.2.2.2]
   ·exact absurd HI.out (h _)
  have Q2 : Hid (Below w.heap.size w (w2.alloc (.cells #[.int .i64 n0, .int .i64 n1, .int .i64 n2, .int .i64 n3] 55))) := (Q.out.trans (q1.mono Q.out.size)).alloc (by have h1 := Q.out.size; have h2 := q1.size; omega) _
  clear hT q1
  go_wp2
  go_ret
  exact ⟨rfl, Q2.out⟩
 ·have HD : Hid (doneW k nw key start i) := ⟨hi, h3⟩
  obtain ⟨n0, N0⟩ : ∃ x, k (i * 4) = x := ⟨_, rfl⟩
  obtain ⟨n1, N1⟩ : ∃ x, k (i * 4 + 1) = x := ⟨_, rfl⟩
  obtain ⟨n2, N2⟩ : ∃ x, k (i * 4 + 2) = x := ⟨_, rfl⟩
  obtain ⟨n3, N3⟩ : ∃ x, k (i * 4 + 3) = x := ⟨_, rfl⟩
  have NN : Hid (k (i * 4) = n0 ∧ k (i * 4 + 1) = n1 ∧ k (i * 4 + 2) = n2 ∧ k (i * 4 + 3) = n3) := ⟨N0, N1, N2, N3⟩
  clear N0 N1 N2 N3 hi h3
  go_enter Tryz.func53, Tryz.ntmps53
  go_wp2_with fail
  refine (doneOf_anyO B b oo N m nl l nw k g u1 u2 key start _ H.out hw).mono ?_
  rintro e w1 ⟨v, rfl, hT, q1⟩
  obtain rfl : v = .tuple #[.agg #[.int .i64 n0, .int .i64 n1, .int .i64 n2, .int .i64 n3], .bool true] := by
   rcases hT with ⟨j, hj, e⟩ | ⟨h, _⟩
   ·obtain rfl := firstW.one hj.1 HD.out.1
    rw [e, NN.out.1, NN.out.2.1, NN.out.2.2.1, NN.out.2.2.2]
   ·exact absurd HD.out (h _)
  have Q : Hid (Below w.heap.size w (w1.alloc (.cells #[.int .i64 n0, .int .i64 n1, .int .i64 n2, .int .i64 n3] 55))) := q1.alloc q1.size _
  clear hT q1
  go_wp2
  go_ret
  exact ⟨rfl, Q.out⟩
 ·have HN : Hid (∀ i, ¬ firstW k nw key start i) := hno
  have HD : Hid (∀ j, ¬ doneW k nw key start j) := fun j hj => hno j hj.1
  have HL : Hid (firstL l nl key j) := hj
  obtain ⟨y0, Y0⟩ : ∃ x, l (j * 5) = x := ⟨_, rfl⟩
  obtain ⟨y1, Y1⟩ : ∃ x, l (j * 5 + 1) = x := ⟨_, rfl⟩
  obtain ⟨y2, Y2⟩ : ∃ x, l (j * 5 + 2) = x := ⟨_, rfl⟩
  obtain ⟨y3, Y3⟩ : ∃ x, l (j * 5 + 3) = x := ⟨_, rfl⟩
  obtain ⟨y4, Y4⟩ : ∃ x, l (j * 5 + 4) = x := ⟨_, rfl⟩
  have YY : Hid (l (j * 5) = y0 ∧ l (j * 5 + 1) = y1 ∧ l (j * 5 + 2) = y2 ∧ l (j * 5 + 3) = y3 ∧ l (j * 5 + 4) = y4) := ⟨Y0, Y1, Y2, Y3, Y4⟩
  obtain rfl : start = y1 := h1.symm.trans Y1
  clear Y0 Y1 Y2 Y3 Y4 hno hj h1
  go_enter Tryz.func53, Tryz.ntmps53
  go_wp2_with fail
  refine (doneOf_anyO B b oo N m nl l nw k g u1 u2 key start _ H.out hw).mono ?_
  rintro e w1 ⟨v, rfl, hT, q1⟩
  obtain rfl : v = .tuple #[.agg #[.int .i64 0, .int .i64 0, .int .i64 0, .int .i64 0], .bool false] := by
   rcases hT with ⟨i, hi, _⟩ | ⟨_, e⟩
   ·exact absurd hi (HD.out i)
   ·exact e
  have Q : Hid (Below w.heap.size w (w1.alloc (.cells #[.int .i64 0, .int .i64 0, .int .i64 0, .int .i64 0] 55))) := q1.alloc q1.size _
  clear hT q1
  go_wp2_with fail
  refine (writeOf_anyO B b oo N m nl l nw k g u1 u2 key start _ (H.out.later (Q.out.mono (Nat.le_refl _))) hw).mono ?_
  rintro e w2 ⟨v, rfl, hT, q1⟩
  obtain rfl : v = .tuple #[.agg #[.int .i64 0, .int .i64 0, .int .i64 0, .int .i64 0], .bool false] := by
   rcases hT with ⟨i, hi, _⟩ | ⟨_, e⟩
   ·exact absurd hi (HN.out i)
   ·exact e
  have Q2 : Hid (Below w.heap.size w (w2.alloc (.cells #[.int .i64 0, .int .i64 0, .int .i64 0, .int .i64 0] 55))) := (Q.out.trans (q1.mono Q.out.size)).alloc (by have h1 := Q.out.size; have h2 := q1.size; omega) _
  clear hT q1
  go_wp2_with fail
  refine (lockOf_anyO B b oo N m nl l nw k g u1 u2 key _ (H.out.later (Q2.out.mono (Nat.le_refl _))) hl).mono ?_
  rintro e w3 ⟨v, rfl, hT, q1⟩
  obtain rfl : v = .tuple #[.agg #[.int .i64 y0, .int .i64 start, .int .i64 y2, .int .i64 y3, .int .i64 y4], .bool true] := by
   rcases hT with ⟨q, hq, hp, hr, e⟩ | ⟨h, _⟩
   ·obtain rfl := firstL.one ⟨hq, hp, hr⟩ HL.out
    rw [e, YY.out.1, YY.out.2.1, YY.out.2.2.1, YY.out.2.2.2.1, YY.out.2.2.2.2]
   ·exact absurd HL.out.2.1 (h j HL.out.1)
  have Q3 : Hid (Below w.heap.size w (w3.alloc (.cells #[.int .i64 y0, .int .i64 start, .int .i64 y2, .int .i64 y3, .int .i64 y4] 40))) := (Q2.out.trans (q1.mono Q2.out.size)).alloc (by have h1 := Q2.out.size; have h2 := q1.size; omega) _
  clear hT q1
  go_wp2
  go_ret
  exact ⟨rfl, Q3.out⟩
 ·have HN : Hid (∀ i, ¬ firstW k nw key start i) := hno
  have HD : Hid (∀ j, ¬ doneW k nw key start j) := fun j hj => hno j hj.1
  have HL : Hid (firstL l nl key j) := hj
  obtain ⟨y0, Y0⟩ : ∃ x, l (j * 5) = x := ⟨_, rfl⟩
  obtain ⟨y1, Y1⟩ : ∃ x, l (j * 5 + 1) = x := ⟨_, rfl⟩
  obtain ⟨y2, Y2⟩ : ∃ x, l (j * 5 + 2) = x := ⟨_, rfl⟩
  obtain ⟨y3, Y3⟩ : ∃ x, l (j * 5 + 3) = x := ⟨_, rfl⟩
  obtain ⟨y4, Y4⟩ : ∃ x, l (j * 5 + 4) = x := ⟨_, rfl⟩
  have YY : Hid (l (j * 5) = y0 ∧ l (j * 5 + 1) = y1 ∧ l (j * 5 + 2) = y2 ∧ l (j * 5 + 3) = y3 ∧ l (j * 5 + 4) = y4) := ⟨Y0, Y1, Y2, Y3, Y4⟩
  have d1 : (y1 == start) = false := beq_eq_false_iff_ne.2 (by rw [← Y1]; exact h1)
  clear Y0 Y1 Y2 Y3 Y4 hno hj h1
  go_enter Tryz.func53, Tryz.ntmps53
  go_wp2_with fail
  refine (doneOf_anyO B b oo N m nl l nw k g u1 u2 key start _ H.out hw).mono ?_
  rintro e w1 ⟨v, rfl, hT, q1⟩
  obtain rfl : v = .tuple #[.agg #[.int .i64 0, .int .i64 0, .int .i64 0, .int .i64 0], .bool false] := by
   rcases hT with ⟨i, hi, _⟩ | ⟨_, e⟩
   ·exact absurd hi (HD.out i)
   ·exact e
  have Q : Hid (Below w.heap.size w (w1.alloc (.cells #[.int .i64 0, .int .i64 0, .int .i64 0, .int .i64 0] 55))) := q1.alloc q1.size _
  clear hT q1
  go_wp2_with fail
  refine (writeOf_anyO B b oo N m nl l nw k g u1 u2 key start _ (H.out.later (Q.out.mono (Nat.le_refl _))) hw).mono ?_
  rintro e w2 ⟨v, rfl, hT, q1⟩
  obtain rfl : v = .tuple #[.agg #[.int .i64 0, .int .i64 0, .int .i64 0, .int .i64 0], .bool false] := by
   rcases hT with ⟨i, hi, _⟩ | ⟨_, e⟩
   ·exact absurd hi (HN.out i)
   ·exact e
  have Q2 : Hid (Below w.heap.size w (w2.alloc (.cells #[.int .i64 0, .int .i64 0, .int .i64 0, .int .i64 0] 55))) := (Q.out.trans (q1.mono Q.out.size)).alloc (by have h1 := Q.out.size; have h2 := q1.size; omega) _
  clear hT q1
  go_wp2_with fail
  refine (lockOf_anyO B b oo N m nl l nw k g u1 u2 key _ (H.out.later (Q2.out.mono (Nat.le_refl _))) hl).mono ?_
  rintro e w3 ⟨v, rfl, hT, q1⟩
  obtain rfl : v = .tuple #[.agg #[.int .i64 y0, .int .i64 y1, .int .i64 y2, .int .i64 y3, .int .i64 y4], .bool true] := by
   rcases hT with ⟨q, hq, hp, hr, e⟩ | ⟨h, _⟩
   ·obtain rfl := firstL.one ⟨hq, hp, hr⟩ HL.out
    rw [e, YY.out.1, YY.out.2.1, YY.out.2.2.1, YY.out.2.2.2.1, YY.out.2.2.2.2]
   ·exact absurd HL.out.2.1 (h j HL.out.1)
  have Q3 : Hid (Below w.heap.size w (w3.alloc (.cells #[.int .i64 y0, .int .i64 y1, .int .i64 y2, .int .i64 y3, .int .i64 y4] 40))) := (Q2.out.trans (q1.mono Q2.out.size)).alloc (by have h1 := Q2.out.size; have h2 := q1.size; omega) _
  clear hT q1
  go_wp2
  go_ret
  exact ⟨rfl, Q3.out⟩
 ·have HN : Hid (∀ i, ¬ firstW k nw key start i) := hno
  have HD : Hid (∀ j, ¬ doneW k nw key start j) := fun j hj => hno j hj.1
  have HL : Hid (∀ i, i < nl → ¬ lockIs l key i) := hno2
  clear hno hno2
  go_enter Tryz.func53, Tryz.ntmps53
  go_wp2_with fail
  refine (doneOf_anyO B b oo N m nl l nw k g u1 u2 key start _ H.out hw).mono ?_
  rintro e w1 ⟨v, rfl, hT, q1⟩
  obtain rfl : v = .tuple #[.agg #[.int .i64 0, .int .i64 0, .int .i64 0, .int .i64 0], .bool false] := by
   rcases hT with ⟨i, hi, _⟩ | ⟨_, e⟩
   ·exact absurd hi (HD.out i)
   ·exact e
  have Q : Hid (Below w.heap.size w (w1.alloc (.cells #[.int .i64 0, .int .i64 0, .int .i64 0, .int .i64 0] 55))) := q1.alloc q1.size _
  clear hT q1
  go_wp2_with fail
  refine (writeOf_anyO B b oo N m nl l nw k g u1 u2 key start _ (H.out.later (Q.out.mono (Nat.le_refl _))) hw).mono ?_
  rintro e w2 ⟨v, rfl, hT, q1⟩
  obtain rfl : v = .tuple #[.agg #[.int .i64 0, .int .i64 0, .int .i64 0, .int .i64 0], .bool false] := by
   rcases hT with ⟨i, hi, _⟩ | ⟨_, e⟩
   ·exact absurd hi (HN.out i)
   ·exact e
  have Q2 : Hid (Below w.heap.size w (w2.alloc (.cells #[.int .i64 0, .int .i64 0, .int .i64 0, .int .i64 0] 55))) := (Q.out.trans (q1.mono Q.out.size)).alloc (by have h1 := Q.out.size; have h2 := q1.size; omega) _
  clear hT q1
  go_wp2_with fail
  refine (lockOf_anyO B b oo N m nl l nw k g u1 u2 key _ (H.out.later (Q2.out.mono (Nat.le_refl _))) hl).mono ?_
  rintro e w3 ⟨v, rfl, hT, q1⟩
  obtain rfl : v = .tuple #[.agg #[.int .i64 0, .int .i64 0, .int .i64 0, .int .i64 0, .int .i64 0], .bool false] := by
   rcases hT with ⟨i, hi, hp, _⟩ | ⟨_, e⟩
   ·exact absurd hp (HL.out i hi)
   ·exact e
  have Q3 : Hid (Below w.heap.size w (w3.alloc (.cells #[.int .i64 0, .int .i64 0, .int .i64 0, .int .i64 0, .int .i64 0] 40))) := (Q2.out.trans (q1.mono Q2.out.size)).alloc (by have h1 := Q2.out.size; have h2 := q1.size; omega) _
  clear hT q1
  go_wp2
  go_ret
  exact ⟨rfl, Q3.out⟩
theorem status_is (B b N : Nat) (m : Int → Int → Option Int) (nl : Nat) (l : Nat → Int) (nw : Nat) (k : Nat → Int) (g : Nat) (u1 u2 : Value) (key start r : Int) (w : World) (h : Cols w B b N m nl l nw k g u1 u2) (hl : nl ≤ 200) (hw : nw ≤ 200) (hr : StatIs nl l nw k key start r) :
  Calls Tryz.prog 53 #[.pointer (some ⟨b, 0, none⟩), .int .i64 key, .int .i64 start] w fun e w' => e = .returned (.int .i64 r) ∧ Below w.heap.size w w' := status_isO B b 0 N m nl l nw k g u1 u2 key start r w h hl hw hr
end Go.Proofs.YtiadbiiiikhfaaaGreatDoor

namespace Go.Proofs.YtiadbiiiikhfaaaGreatDoor
open Go.RowKit

/-- A code and a value. -/
def ResInt (w : World) (c v : Int) (e : Ending) (w' : World) : Prop := e = .returned (.agg #[.int .i64 c, .int .i64 v]) ∧ Below w.heap.size w w'
end Go.Proofs.YtiadbiiiikhfaaaGreatDoor

namespace Go.Proofs.YtiadbiiiikhfaaaGreatDoor
open Go.RowKit

def StatAns (S : Sto) (key start c v : Int) : Prop := (askF S key ≠ 0 ∧ c = askF S key ∧ v = 0) ∨ (askF S key = 0 ∧ c = 0 ∧ StatIs S.nl S.l S.nw S.k key start v)
theorem StatAns.get (S : Sto) (key start : Int) : ∃ c v, StatAns S key start c v := by
 by_cases h : askF S key = 0
 ·obtain ⟨r, hr⟩ := StatIs.get S.nl S.l S.nw S.k key start
  exact ⟨0, r, Or.inr ⟨h, rfl, hr⟩⟩
 ·exact ⟨_, _, Or.inl ⟨h, rfl, rfl⟩⟩
theorem StatIs.two {S : Sto} {key start r : Int} (h : StatIs S.nl S.l S.nw S.k key start r) : r = 2 ↔ ∃ i, doneW S.k S.nw key start i := by
 rcases h with ⟨i, hi, ⟨h3, rfl⟩ | ⟨h3, rfl⟩⟩ | ⟨hno, h⟩
 ·exact ⟨fun q => absurd q (by decide), fun ⟨j, hj⟩ => by obtain rfl := firstW.one hj.1 hi; exact absurd h3 hj.2⟩
 ·exact ⟨fun _ => ⟨i, hi, h3⟩, fun _ => rfl⟩
 ·refine ⟨fun q => ?_, fun ⟨j, hj⟩ => absurd hj.1 (hno j)⟩
  subst q
  rcases h with ⟨_, _, ⟨_, e⟩ | ⟨_, e⟩⟩ | ⟨_, e⟩ <;> exact absurd e (by decide)
set_option maxRecDepth 100000 in
set_option maxHeartbeats 4000000 in
theorem implStatusOf_is (S : Sto) (v0 v1 v2 : Value) (key start c v : Int) (B : Nat) (w : World) (h : St w B S v0 v1 v2) (hA : StatAns S key start c v) :
  Calls Tryz.prog 13 #[.agg #[v0, v1, v2], .int .i64 key, .int .i64 start] w (ResInt w c v) := by
 obtain ⟨a0, c0, a1, c1, a2, c2, rfl, rfl, rfl⟩ := h.form
 have HE : Hid (CallEnv w B S (.slice a0 S.nc c0) (.slice a1 S.nl c1) (.slice a2 S.nw c2) (.int .i64 0) (.int .i64 0) ((w.alloc (.cells #[.slice a0 S.nc c0, .slice a1 S.nl c1, .slice a2 S.nw c2] 28)).alloc (.cells #[.int .i64 0, .int .i64 0] 42))) := CallEnv.new h _ _ _ _
 clear h
 unfold ResInt
 rcases hA with ⟨hz, rfl, rfl⟩ | ⟨hz, rfl, hr⟩
 ·obtain ⟨f, hf⟩ : ∃ f, askF S key = f := ⟨_, rfl⟩
  rw [hf]
  have HF : Hid (askF S key = f) := hf
  have hfn : (f == 0) = false := beq_eq_false_iff_ne.2 (by rw [← hf]; exact hz)
  clear hz hf
  go_enter Tryz.func13, Tryz.ntmps13
  go_wp2_with fail
  refine (askFault_any S _ _ _ key B _ HE.out.2.2.1).mono ?_
  rw [HF.out]
  rintro e w1 ⟨rfl, q1⟩
  have HE : Hid (CallEnv w B S (.slice a0 S.nc c0) (.slice a1 S.nl c1) (.slice a2 S.nw c2) (.int .i64 0) (.int .i64 0) w1) := HE.out.later q1
  obtain ⟨⟨⟨p0, p1, p2⟩, _⟩, ⟨⟨r0, r1⟩, f0, f1⟩, _⟩ := HE.out
  clear q1
  go_wp2
  exact bodyPost_ret (v := .agg #[.int .i64 f, .int .i64 0]) (by simp [results, Tryz.results13, go_sem, r0, r1]) rfl ⟨rfl, (HE.out.2.2.2.setCell (Nat.le_succ _) _).setCell (Nat.le_succ _) _⟩
 ·have Z := storeF_zero (askF_zero hz).1
  have HZ : Hid (scan (cellF S.c) S.nc = 0 ∧ (S.nc ≤ 200 ∧ S.nl ≤ 200 ∧ S.nw ≤ 200)) := ⟨Z.2.1, Z.1⟩
  have HA : Hid (askF S key = 0) := hz
  clear Z hz
  have HR : Hid (StatIs S.nl S.l S.nw S.k key start v) := hr
  clear hr
  go_enter Tryz.func13, Tryz.ntmps13
  go_wp2_with fail
  refine (askFault_any S _ _ _ key B _ HE.out.2.2.1).mono ?_
  rw [HA.out]
  rintro e w1 ⟨rfl, q1⟩
  have HE : Hid (CallEnv w B S (.slice a0 S.nc c0) (.slice a1 S.nl c1) (.slice a2 S.nw c2) (.int .i64 0) (.int .i64 0) w1) := HE.out.later q1
  obtain ⟨⟨⟨p0, p1, p2⟩, _⟩, ⟨⟨r0, r1⟩, f0, f1⟩, _⟩ := HE.out
  clear q1
  go_wp2_with fail
  refine (columnsOf_any S B _ _ _ _ HE.out.2.2.1 HZ.out.2.1 HZ.out.2.2.1 HZ.out.2.2.2 HZ.out.1).mono ?_
  rintro e w2 ⟨b, g, u1, u2, rfl, hC, q1⟩
  clear p0 p1 p2 r0 r1 f0 f1
  have HC : Hid (Cols w2 w1.heap.size b S.nc (cellM S S.nc) S.nl S.l S.nw S.k g u1 u2) := hC
  have HE : Hid (CallEnv w B S (.slice a0 S.nc c0) (.slice a1 S.nl c1) (.slice a2 S.nw c2) (.int .i64 0) (.int .i64 0) w2) := HE.out.later q1
  clear q1 hC
  go_wp2_with fail
  refine (status_is _ b _ _ _ _ _ _ g u1 u2 key start v _ HC.out HZ.out.2.2.1 HZ.out.2.2.2 HR.out).mono ?_
  rintro e w3 ⟨rfl, q1⟩
  have HE : Hid (CallEnv w B S (.slice a0 S.nc c0) (.slice a1 S.nl c1) (.slice a2 S.nw c2) (.int .i64 0) (.int .i64 0) w3) := HE.out.later q1
  obtain ⟨⟨⟨p0, p1, p2⟩, _⟩, ⟨⟨r0, r1⟩, f0, f1⟩, _⟩ := HE.out
  clear q1
  go_wp2
  exact bodyPost_ret (v := .agg #[.int .i64 0, .int .i64 v]) (by simp [results, Tryz.results13, go_sem, r0, r1]) rfl ⟨rfl, (HE.out.2.2.2.setCell (Nat.le_succ _) _).setCell (Nat.le_succ _) _⟩
end Go.Proofs.YtiadbiiiikhfaaaGreatDoor

namespace Go.Proofs.YtiadbiiiikhfaaaGreatDoor
open Go.RowKit

theorem row_one4 (w : World) (x0 x1 x2 x3 : Int) (t : TypeId) (F : Nat → Int) (h0 : F 0 = x0) (h1 : F 1 = x1) (h2 : F 2 = x2) (h3 : F 3 = x3) :
  Row (w.alloc (.cells #[.int .i64 x0, .int .i64 x1, .int .i64 x2, .int .i64 x3] t)) w.heap.size 4 1 F (.slice (some ⟨w.heap.size, 0, none⟩) 1 1) ∧ Free (w.alloc (.cells #[.int .i64 x0, .int .i64 x1, .int .i64 x2, .int .i64 x3] t)) (1 * 4) (.slice (some ⟨w.heap.size, 0, none⟩) 1 1) := by
 refine ⟨⟨_, _, rfl, fun _ => ⟨_, _, rfl, Nat.le_refl _, by simp, fun p hp => ?_⟩⟩, ?_⟩
 ·rw [Nat.zero_add]
  match p, hp with
  | 0, _ => rw [h0]; exact World.cell?_alloc_mark w _ _ _ 0
  | 1, _ => rw [h1]; exact World.cell?_alloc_mark w _ _ _ 1
  | 2, _ => rw [h2]; exact World.cell?_alloc_mark w _ _ _ 2
  | 3, _ => rw [h3]; exact World.cell?_alloc_mark w _ _ _ 3
 ·intro g o n c hv p hp
  simp only [Value.slice.injEq, Option.some.injEq, Addr.mk.injEq] at hv
  obtain ⟨⟨rfl, rfl, _⟩, _, _⟩ := hv
  simp
theorem row_none4 (w : World) (B : Nat) (F : Nat → Int) : Row w B 4 0 F (.slice none 0 0) ∧ Free w (0 * 4) (.slice none 0 0) := ⟨⟨_, _, rfl, fun q => absurd q (Nat.lt_irrefl 0)⟩, by rw [Nat.zero_mul]; exact Free.of0 _ _⟩
set_option maxHeartbeats 1000000 in
theorem writeAlone_no (F : Nat → Int) (x0 x1 x2 x3 : Int) (w : World) :
  Calls Tryz.prog 63 #[.agg #[.int .i64 x0, .int .i64 x1, .int .i64 x2, .int .i64 x3], .bool false] w (ResRow 4 w 4 0 F) := by
 unfold ResRow
 go_enter Tryz.func63, Tryz.ntmps63
 go_wp2
 exact bodyPost_ret (v := .agg #[.int .i64 4, .slice none 0 0]) (by simp [results, Tryz.results63, go_sem]) rfl ⟨none, 0, rfl, (row_none4 _ _ _).1, (row_none4 _ w.heap.size F).2, (below_alloc _ _).alloc (by simp) _⟩
set_option maxHeartbeats 1000000 in
theorem writeAlone_yes (F : Nat → Int) (x0 x1 x2 x3 : Int) (h0 : F 0 = x0) (h1 : F 1 = x1) (h2 : F 2 = x2) (h3 : F 3 = x3) (w : World) :
  Calls Tryz.prog 63 #[.agg #[.int .i64 x0, .int .i64 x1, .int .i64 x2, .int .i64 x3], .bool true] w (ResRow 4 w 0 1 F) := by
 have HH : Hid (F 0 = x0 ∧ F 1 = x1 ∧ F 2 = x2 ∧ F 3 = x3) := ⟨h0, h1, h2, h3⟩
 clear h0 h1 h2 h3
 unfold ResRow
 go_enter Tryz.func63, Tryz.ntmps63
 go_wp2
 have hO := row_one4 ((w.alloc (.cells #[.int .i64 x0, .int .i64 x1, .int .i64 x2, .int .i64 x3] 55)).alloc (.cells #[.int .i64 0, .slice (some ⟨w.heap.size + 1 + 1, 0, none⟩) 1 1] 52)) x0 x1 x2 x3 55 F HH.out.1 HH.out.2.1 HH.out.2.2.1 HH.out.2.2.2
 simp only [World.size_alloc] at hO
 exact bodyPost_ret (v := .agg #[.int .i64 0, .slice (some ⟨w.heap.size + 1 + 1, 0, none⟩) 1 1]) (by simp [results, Tryz.results63, go_sem]) rfl ⟨_, _, rfl, hO.1.mono (by omega), hO.2, ((below_alloc _ _).alloc (by simp) _).alloc (by simp; omega) _⟩
/-- What is answered of one write: a code, and a row of it or of none. -/
def WAns (S : Sto) (key : Int) (q : Nat → Prop) (c : Int) (n : Nat) (F : Nat → Int) : Prop :=
 (askF S key ≠ 0 ∧ c = askF S key ∧ n = 0) ∨ (askF S key = 0 ∧ (∀ i, ¬ q i) ∧ c = 4 ∧ n = 0) ∨ (askF S key = 0 ∧ ∃ i, i < S.nw ∧ q i ∧ c = 0 ∧ n = 1 ∧ F = fun p => S.k (i * 4 + p))
theorem WAns.get (S : Sto) (key : Int) (q : Nat → Prop) (hq : ∀ i, q i → i < S.nw) : ∃ c n F, n ≤ 1000 ∧ WAns S key q c n F := by
 by_cases hz : askF S key = 0
 ·by_cases he : ∃ i, q i
  ·obtain ⟨i, hi⟩ := he
   exact ⟨0, 1, _, by omega, Or.inr (Or.inr ⟨hz, i, hq i hi, hi, rfl, rfl, rfl⟩)⟩
  ·exact ⟨4, 0, fun _ => 0, by omega, Or.inr (Or.inl ⟨hz, fun i hi => he ⟨i, hi⟩, rfl, rfl⟩)⟩
 ·exact ⟨_, 0, fun _ => 0, by omega, Or.inl ⟨hz, rfl, rfl⟩⟩
def LastWriteAns (S : Sto) (key ts c : Int) (n : Nat) (F : Nat → Int) : Prop := WAns S key (lastW S.k S.nw key ts) c n F
theorem LastWriteAns.get (S : Sto) (key ts : Int) : ∃ c n F, n ≤ 1000 ∧ LastWriteAns S key ts c n F := WAns.get S key _ (fun _ h => h.1)
set_option maxRecDepth 100000 in
set_option maxHeartbeats 4000000 in
theorem implLastWrite_is (S : Sto) (v0 v1 v2 : Value) (key ts c : Int) (n : Nat) (F : Nat → Int) (B : Nat) (w : World) (h : St w B S v0 v1 v2) (hA : LastWriteAns S key ts c n F) :
  Calls Tryz.prog 22 #[.agg #[v0, v1, v2], .int .i64 key, .int .i64 ts] w (ResRow 4 w c n F) := by
 obtain ⟨a0, c0, a1, c1, a2, c2, rfl, rfl, rfl⟩ := h.form
 have HE : Hid (CallEnv w B S (.slice a0 S.nc c0) (.slice a1 S.nl c1) (.slice a2 S.nw c2) (.int .i64 0) (.slice none 0 0) ((w.alloc (.cells #[.slice a0 S.nc c0, .slice a1 S.nl c1, .slice a2 S.nw c2] 28)).alloc (.cells #[.int .i64 0, .slice none 0 0] 52))) := CallEnv.new h _ _ _ _
 clear h
 unfold ResRow
 rcases hA with ⟨hz, rfl, rfl⟩ | ⟨hz, hno, rfl, rfl⟩ | ⟨hz, i, hi, hp, rfl, rfl, rfl⟩
 ·obtain ⟨f, hf⟩ : ∃ f, askF S key = f := ⟨_, rfl⟩
  have HF : Hid (askF S key = f) := hf
  have hfn : (f == 0) = false := beq_eq_false_iff_ne.2 (by rw [← hf]; exact hz)
  rw [hf]
  clear hz hf
  go_enter Tryz.func22, Tryz.ntmps22
  go_wp2_with fail
  refine (askFault_any S _ _ _ key B _ HE.out.2.2.1).mono ?_
  rw [HF.out]
  rintro e w1 ⟨rfl, q1⟩
  have HE : Hid (CallEnv w B S (.slice a0 S.nc c0) (.slice a1 S.nl c1) (.slice a2 S.nw c2) (.int .i64 0) (.slice none 0 0) w1) := HE.out.later q1
  obtain ⟨⟨⟨p0, p1, p2⟩, _⟩, ⟨⟨r0, r1⟩, f0, f1⟩, _⟩ := HE.out
  clear q1
  go_wp2
  refine bodyPost_ret (v := .agg #[.int .i64 f, .slice none 0 0]) (by simp [results, Tryz.results22, go_sem, r0, r1]) rfl ⟨none, 0, rfl, (row_none4 _ _ _).1, (row_none4 _ w.heap.size F).2, (HE.out.2.2.2.setCell (Nat.le_succ _) _).setCell (Nat.le_succ _) _⟩
 ·have Z := storeF_zero (askF_zero hz).1
  have HZ : Hid (scan (cellF S.c) S.nc = 0 ∧ (S.nc ≤ 200 ∧ S.nl ≤ 200 ∧ S.nw ≤ 200)) := ⟨Z.2.1, Z.1⟩
  have HK : Hid (∀ i, i < S.nw → 1 ≤ S.k (i * 4 + 3)) := fun i hi => (writeF_zero (scan_zero Z.2.2.2.1 i hi)).2.2.2.2.2.1
  have HA : Hid (askF S key = 0) := hz
  have HN : Hid (∀ i, ¬ lastW S.k S.nw key ts i) := hno
  clear Z hz hno
  go_enter Tryz.func22, Tryz.ntmps22
  go_wp2_with fail
  refine (askFault_any S _ _ _ key B _ HE.out.2.2.1).mono ?_
  rw [HA.out]
  rintro e w1 ⟨rfl, q1⟩
  have HE : Hid (CallEnv w B S (.slice a0 S.nc c0) (.slice a1 S.nl c1) (.slice a2 S.nw c2) (.int .i64 0) (.slice none 0 0) w1) := HE.out.later q1
  obtain ⟨⟨⟨p0, p1, p2⟩, _⟩, ⟨⟨r0, r1⟩, f0, f1⟩, _⟩ := HE.out
  clear q1
  go_wp2_with fail
  refine (columnsOf_any S B _ _ _ _ HE.out.2.2.1 HZ.out.2.1 HZ.out.2.2.1 HZ.out.2.2.2 HZ.out.1).mono ?_
  rintro e w2 ⟨b, g, u1, u2, rfl, HC, q1⟩
  clear p0 p1 p2 r0 r1 f0 f1
  have HE : Hid (CallEnv w B S (.slice a0 S.nc c0) (.slice a1 S.nl c1) (.slice a2 S.nw c2) (.int .i64 0) (.slice none 0 0) w2) := HE.out.later q1
  clear q1
  go_wp2_with fail
  refine (lastWrite_any _ b _ _ _ _ S.nw S.k g u1 u2 key ts _ HC HZ.out.2.2.2 HK.out).mono ?_
  rintro e w3 ⟨v, rfl, hT, q1⟩
  obtain rfl : v = .tuple #[.agg #[.int .i64 0, .int .i64 0, .int .i64 0, .int .i64 0], .bool false] := by
   rcases hT with ⟨i, hi, _⟩ | ⟨_, e⟩
   ·exact absurd hi (HN.out i)
   ·exact e
  have HE : Hid (CallEnv w B S (.slice a0 S.nc c0) (.slice a1 S.nl c1) (.slice a2 S.nw c2) (.int .i64 0) (.slice none 0 0) w3) := HE.out.later q1
  clear q1 hT HC
  go_wp2_with fail
  refine (writeAlone_no F 0 0 0 0 _).mono ?_
  rintro e w4 ⟨ao, cp, rfl, ro, fo, q1⟩
  have HO : Hid (Row w4 (w.heap.size + 2) 4 0 F (.slice ao 0 cp) ∧ Free w4 (0 * 4) (.slice ao 0 cp)) := ⟨ro.mono (by have := HE.out.2.1.lt; omega), fo⟩
  have HE : Hid (CallEnv w B S (.slice a0 S.nc c0) (.slice a1 S.nl c1) (.slice a2 S.nw c2) (.int .i64 0) (.slice none 0 0) w4) := HE.out.later q1
  have z9 := HE.out.2.1.lt
  obtain ⟨_, ⟨⟨r0, r1⟩, f0, f1⟩, _⟩ := HE.out
  clear q1 ro fo
  go_wp2
  refine bodyPost_ret (v := .agg #[.int .i64 4, .slice ao 0 cp]) (by simp [results, Tryz.results22, go_sem, r0, r1]) rfl ⟨ao, cp, rfl, ((HO.out.1.far (Or.inl (by simp)) _).far (Or.inl (by simp)) _).mono (by omega), (HO.out.2.far _ _).far _ _, (HE.out.2.2.2.setCell (Nat.le_succ _) _).setCell (Nat.le_succ _) _⟩
 ·have Z := storeF_zero (askF_zero hz).1
  have HZ : Hid (scan (cellF S.c) S.nc = 0 ∧ (S.nc ≤ 200 ∧ S.nl ≤ 200 ∧ S.nw ≤ 200)) := ⟨Z.2.1, Z.1⟩
  have HK : Hid (∀ i, i < S.nw → 1 ≤ S.k (i * 4 + 3)) := fun i hi => (writeF_zero (scan_zero Z.2.2.2.1 i hi)).2.2.2.2.2.1
  have HA : Hid (askF S key = 0) := hz
  have HN : Hid (lastW S.k S.nw key ts i) := hp
  clear Z hz hp
  obtain ⟨n0, N0⟩ : ∃ x, S.k (i * 4) = x := ⟨_, rfl⟩
  obtain ⟨n1, N1⟩ : ∃ x, S.k (i * 4 + 1) = x := ⟨_, rfl⟩
  obtain ⟨n2, N2⟩ : ∃ x, S.k (i * 4 + 2) = x := ⟨_, rfl⟩
  obtain ⟨n3, N3⟩ : ∃ x, S.k (i * 4 + 3) = x := ⟨_, rfl⟩
  have NN : Hid (S.k (i * 4) = n0 ∧ S.k (i * 4 + 1) = n1 ∧ S.k (i * 4 + 2) = n2 ∧ S.k (i * 4 + 3) = n3) := ⟨N0, N1, N2, N3⟩
  clear N0 N1 N2 N3
  go_enter Tryz.func22, Tryz.ntmps22
  go_wp2_with fail
  refine (askFault_any S _ _ _ key B _ HE.out.2.2.1).mono ?_
  rw [HA.out]
  rintro e w1 ⟨rfl, q1⟩
  have HE : Hid (CallEnv w B S (.slice a0 S.nc c0) (.slice a1 S.nl c1) (.slice a2 S.nw c2) (.int .i64 0) (.slice none 0 0) w1) := HE.out.later q1
  obtain ⟨⟨⟨p0, p1, p2⟩, _⟩, ⟨⟨r0, r1⟩, f0, f1⟩, _⟩ := HE.out
  clear q1
  go_wp2_with fail
  refine (columnsOf_any S B _ _ _ _ HE.out.2.2.1 HZ.out.2.1 HZ.out.2.2.1 HZ.out.2.2.2 HZ.out.1).mono ?_
  rintro e w2 ⟨b, g, u1, u2, rfl, HC, q1⟩
  clear p0 p1 p2 r0 r1 f0 f1
  have HE : Hid (CallEnv w B S (.slice a0 S.nc c0) (.slice a1 S.nl c1) (.slice a2 S.nw c2) (.int .i64 0) (.slice none 0 0) w2) := HE.out.later q1
  clear q1
  go_wp2_with fail
  refine (lastWrite_any _ b _ _ _ _ S.nw S.k g u1 u2 key ts _ HC HZ.out.2.2.2 HK.out).mono ?_
  rintro e w3 ⟨v, rfl, hT, q1⟩
  obtain rfl : v = .tuple #[.agg #[.int .i64 n0, .int .i64 n1, .int .i64 n2, .int .i64 n3], .bool true] := by
   rcases hT with ⟨j, hj, e⟩ | ⟨h, _⟩
   ·obtain rfl := hj.one HN.out
    rw [e, NN.out.1, NN.out.2.1, NN.out.2.2.1, NN.out.2.2.2]
   ·exact absurd HN.out (h i)
  have HE : Hid (CallEnv w B S (.slice a0 S.nc c0) (.slice a1 S.nl c1) (.slice a2 S.nw c2) (.int .i64 0) (.slice none 0 0) w3) := HE.out.later q1
  clear q1 hT HC
  go_wp2_with fail
  refine (writeAlone_yes (fun p => S.k (i * 4 + p)) n0 n1 n2 n3 NN.out.1 NN.out.2.1 NN.out.2.2.1 NN.out.2.2.2 _).mono ?_
  rintro e w4 ⟨ao, cp, rfl, ro, fo, q1⟩
  have HO : Hid (Row w4 (w.heap.size + 2) 4 1 (fun p => S.k (i * 4 + p)) (.slice ao 1 cp) ∧ Free w4 (1 * 4) (.slice ao 1 cp)) := ⟨ro.mono (by have := HE.out.2.1.lt; omega), fo⟩
  have HE : Hid (CallEnv w B S (.slice a0 S.nc c0) (.slice a1 S.nl c1) (.slice a2 S.nw c2) (.int .i64 0) (.slice none 0 0) w4) := HE.out.later q1
  have z9 := HE.out.2.1.lt
  obtain ⟨_, ⟨⟨r0, r1⟩, f0, f1⟩, _⟩ := HE.out
  clear q1 ro fo
  go_wp2
  refine bodyPost_ret (v := .agg #[.int .i64 0, .slice ao 1 cp]) (by simp [results, Tryz.results22, go_sem, r0, r1]) rfl ⟨ao, cp, rfl, ((HO.out.1.far (Or.inl (by simp)) _).far (Or.inl (by simp)) _).mono (by omega), (HO.out.2.far _ _).far _ _, (HE.out.2.2.2.setCell (Nat.le_succ _) _).setCell (Nat.le_succ _) _⟩
end Go.Proofs.YtiadbiiiikhfaaaGreatDoor

