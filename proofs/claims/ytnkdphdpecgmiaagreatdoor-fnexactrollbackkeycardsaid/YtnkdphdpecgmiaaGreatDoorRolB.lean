/-
  Own text, merged of RolA, RolB.
-/
import Derived.Test.YtnkdphdpecgmiaaGreatDoorCmpD
namespace Go.Proofs.YtnkdphdpecgmiaaGreatDoor
section
open Go.RowKit Go.Maps Go.Sort Go.Shelf Go.Lib
-- Own text. What a rollback leaves of a store, as plain lists; the map without a cell has just the cells that stay.
theorem selM_mem {F : Nat → Int} {m : Nat} {D : List Int → Bool} {x : List Int} : ∀ {k : Nat}, x ∈ selD F m D k → ∃ i, i < k ∧ x = struD F m i ∧ D x = false
  | 0, h => by simp [selD] at h
  | k + 1, h => by
    cases e : D (struD F m k) with
    | true =>
      rw [selD_gone e] at h
      obtain ⟨i, hi, r⟩ := selM_mem h
      exact ⟨i, by omega, r⟩
    | false =>
      rw [selD_kept e] at h
      rcases List.mem_append.1 h with h | h
      · obtain ⟨i, hi, r⟩ := selM_mem h
        exact ⟨i, by omega, r⟩
      · simp at h
        subst h
        exact ⟨k, by omega, rfl, e⟩
theorem selM_in {F : Nat → Int} {m : Nat} {D : List Int → Bool} {i : Nat} (h : D (struD F m i) = false) : ∀ {k : Nat}, i < k → struD F m i ∈ selD F m D k
  | 0, hi => by omega
  | k + 1, hi => by
    by_cases q : i = k
    · subst q; rw [selD_kept h]; simp
    · cases e : D (struD F m k) with
      | true => rw [selD_gone e]; exact selM_in h (by omega)
      | false => rw [selD_kept e]; exact List.mem_append.2 (Or.inl (selM_in h (by omega)))
theorem selM_rise {F : Nat → Int} {m : Nat} (hm : 2 ≤ m) {D : List Int → Bool} {n : Nat} (hr : ∀ j, j < n → ∀ i, i < j → pairLt (F (i * m)) (F (i * m + 1)) (F (j * m)) (F (j * m + 1))) : ∀ k, k ≤ n → (selD F m D k).Pairwise (Lt2 (fun x => x.getD 0 0) (fun x => x.getD 1 0))
  | 0, _ => by simp [selD]
  | k + 1, hk => by
    have ih := selM_rise hm (D := D) hr k (by omega)
    cases e : D (struD F m k) with
    | true => rw [selD_gone e]; exact ih
    | false =>
      rw [selD_kept e]
      refine List.pairwise_append.2 ⟨ih, by simp, ?_⟩
      intro x hx y hy
      simp at hy
      subst hy
      obtain ⟨i, hi, rfl, _⟩ := selM_mem hx
      have := hr k (by omega) i hi
      show (struD F m i).getD 0 0 < (struD F m k).getD 0 0 ∨ (struD F m i).getD 0 0 = (struD F m k).getD 0 0 ∧ (struD F m i).getD 1 0 < (struD F m k).getD 1 0
      rw [struD_get F m i 0 (by omega), struD_get F m k 0 (by omega), struD_get F m i 1 (by omega), struD_get F m k 1 (by omega)]
      exact this
/-- The cells without that of a key and start. -/
def goneK (a s : Int) (t : List Int) : Bool := t.getD 0 0 == a && t.getD 1 0 == s
def unlC (F : Nat → Int) (a s : Int) (n : Nat) : List (List Int) := selD F 3 (goneK a s) n
theorem goneK_iff {F : Nat → Int} {a s : Int} {i : Nat} : goneK a s (struD F 3 i) = true ↔ cellIs F a s i := by
  unfold goneK cellIs
  rw [struD_get F 3 i 0 (by omega), struD_get F 3 i 1 (by omega), Bool.and_eq_true, beq_iff_eq, beq_iff_eq]
  exact Iff.rfl
theorem goneK_not {F : Nat → Int} {a s : Int} {i : Nat} (h : ¬ cellIs F a s i) : goneK a s (struD F 3 i) = false := by
  cases e : goneK a s (struD F 3 i) with
  | false => rfl
  | true => exact absurd (goneK_iff.1 e) h
/-- A store of which what began at s for the key a is taken back. -/
def rollS (S : Sto) (a s : Int) (k : Nat) : Sto := ⟨(unlC S.c a s S.nc).length, fun p => (unlC S.c a s S.nc).flatten.getD p 0, (unlL S.l a s S.nl).length, fun p => (unlL S.l a s S.nl).flatten.getD p 0, S.nw + 1, insF S.k 4 S.nw k [a, s, s, 4]⟩
theorem selD_one {F : Nat → Int} {m : Nat} {D : List Int → Bool} {j : Nat} (hj : D (struD F m j) = true) : ∀ k, j < k → (∀ i, i < k → i ≠ j → D (struD F m i) = false) → (selD F m D k).length = k - 1 ∧ ∀ p, p < (k - 1) * m → (selD F m D k).flatten.getD p 0 = if p < j * m then F p else F (p + m)
  | 0, h, _ => absurd h (Nat.not_lt_zero _)
  | k + 1, h, ha => by
    rcases Nat.lt_or_ge j k with q | q
    · obtain ⟨i1, i2⟩ := selD_one hj k q (fun i hi hn => ha i (by omega) hn)
      rw [selD_kept (ha k (by omega) (by omega))]
      refine ⟨by rw [List.length_append, i1]; simp; omega, fun p hp => ?_⟩
      have hfl : (selD F m D k).flatten.length = (k - 1) * m := by rw [flat_len _ (selD_len F m D k), i1]
      rw [List.flatten_append, List.getD_eq_getElem?_getD]
      by_cases hq : p < (k - 1) * m
      · rw [List.getElem?_append_left (by rw [hfl]; exact hq), ← List.getD_eq_getElem?_getD]
        exact i2 p hq
      · have e1 : (k + 1 - 1) * m = (k - 1) * m + m := by rw [show k + 1 - 1 = (k - 1) + 1 by omega, Nat.succ_mul]
        have e2 : j * m ≤ (k - 1) * m := Nat.mul_le_mul_right m (by omega)
        have e3 : k * m = (k - 1) * m + m := by rw [← Nat.succ_mul, show (k - 1).succ = k by omega]
        rw [List.getElem?_append_right (by rw [hfl]; omega), hfl, if_neg (by omega), ← List.getD_eq_getElem?_getD]
        simp only [List.flatten_cons, List.flatten_nil, List.append_nil]
        rw [struD_get F m k _ (by omega)]
        congr 1
        omega
    · obtain rfl : j = k := by omega
      rw [selD_gone hj]
      obtain ⟨i1, i2⟩ := selD_same (fun i hi => ha i (by omega) (by omega)) (F := F) (m := m) (D := D) (k := j)
      refine ⟨by rw [i1]; omega, fun p hp => ?_⟩
      rw [show j + 1 - 1 = j by omega] at hp
      rw [i2 p hp, if_pos hp]
/-- Cells of a store without a fault: no two of one key and start. -/
theorem cell_once {S : Sto} (h : scan (cellF S.c) S.nc = 0) {a s : Int} {i j : Nat} (hi : i < S.nc) (hj : j < S.nc) (h1 : cellIs S.c a s i) (h2 : cellIs S.c a s j) : i = j := by
  unfold cellIs at h1 h2
  rcases Nat.lt_trichotomy i j with q | q | q
  · have := cells_rise h j hj i q
    unfold pairLt at this
    omega
  · exact q
  · have := cells_rise h i hi j q
    unfold pairLt at this
    omega
theorem roll_map {S : Sto} (hz : scan (cellF S.c) S.nc = 0) (a s : Int) : MapRow (delM (cellM S S.nc) a s) (unlC S.c a s S.nc).length (fun p => (unlC S.c a s S.nc).flatten.getD p 0) := by
  refine mapRow_list (selD_len _ _ _ _) (selM_rise (by omega) (n := S.nc) (cells_rise hz) S.nc (Nat.le_refl _)) (fun x y v hm => ?_) (fun x y v hx hy hm => ?_)
  · obtain ⟨i, hi, e, hd⟩ := selM_mem hm
    rw [e] at hd
    have hn : ¬ cellIs S.c a s i := fun q => by rw [goneK_iff.2 q] at hd; cases hd
    rw [struD_three] at e
    simp at e
    obtain ⟨rfl, rfl, rfl⟩ := e
    have hc := cellF_zero (scan_zero hz i hi)
    have hk := faultOf_zero hc.1
    refine ⟨⟨wf_small hk.1 (by omega), wf_small (by omega) hc.2.2.1⟩, ?_⟩
    unfold delM
    rw [if_neg (show ¬ (S.c (i * 3) = a ∧ S.c (i * 3 + 1) = s) from hn)]
    exact cellM_at hz hi ⟨rfl, rfl⟩
  · unfold delM at hm
    split at hm
    · cases hm
    · rename_i hne
      obtain ⟨i, hi, h1, h2, h3⟩ := cellM_some hm
      have hs : struD S.c 3 i = [x, y, v] := by rw [struD_three, h1, h2, h3]
      rw [← hs]
      exact selM_in (goneK_not (fun q => hne ⟨h1.symm.trans q.1, h2.symm.trans q.2⟩)) hi
theorem cellAt_is (S : Sto) (b : Nat) (v0 v1 v2 : Value) (a s r : Int) (w : World) (h : Lies w b S v0 v1 v2) (hn : S.nc ≤ 200) (hr : FirstAt (cellIs S.c a s) S.nc r) :
    Calls Tryz.prog 56 #[.pointer (some ⟨b, 0, none⟩), .int .i64 a, .int .i64 s] w fun e w' => e = .returned (.int .i64 r) ∧ w' = w :=
  (l2Cell_any S b v0 v1 v2 a s w h hn).mono fun e w' ⟨r', he, hf, hw⟩ => ⟨by rw [he, hf.one hr], hw⟩
/-- 'delete(m, k)' at a map of two whole numbers. -/
theorem wpList_pdrop (w : World) {ops : Array Oper} {rest : List Oper} {o : Oper} {a : Act} {Q : Exit → Act → World → Prop} (hg : o.guard = none) (mo xo : Operand) (hop : o.op = Op.call { callee := Callee.builtin Builtin.delete, args := #[mo, xo], argTypes := #[100, 120] })
    (b n : Nat) (m : Int → Int → Option Int) (hm : a.eval mo = .map (some b)) (h : PM w b n m) (x y : Int) (hx : a.eval xo = .agg #[.int .i64 x, .int .i64 y]) (hwx : Wf x) (hwy : Wf y)
    (hK : ∀ w', PM w' b n (delM m x y) → w.grownBy w' (some b) → wpList Tryz.prog ops Q rest (a.put o.dst (.tuple #[])) w') :
    wpList Tryz.prog ops Q (o :: rest) a w := by
  obtain ⟨D, h1, h2⟩ := h
  refine wpList_delete_own w hg mo xo 100 120 hop _ placeKeyed Tryz.underlying100 _ b n D hm h1 _ _ hx (keyOf_place hwx hwy) ?_
  intro w' hr ht
  refine hK w' ⟨_, hr, fun p q hp hq => ?_⟩ ht.grown
  unfold delM
  by_cases e : p = x ∧ q = y
  · obtain ⟨rfl, rfl⟩ := e
    rw [if_pos ⟨rfl, rfl⟩]
    exact ⟨has_del_same, atKey_del_same _⟩
  · rw [if_neg e, has_del_other (fun q => e (kp_inj hp hq hwx hwy q)), atKey_del_other (fun q => e (kp_inj hp hq hwx hwy q))]
    exact h2 p q hp hq
end

section
open Go.RowKit Go.Lib
-- Own text. The model's l3Rollback: what it answers of a store without a fault.
set_option maxRecDepth 100000 in
set_option maxHeartbeats 8000000 in
theorem l3Roll_same (S : Sto) (b : Nat) (v0 v1 v2 : Value) (a s : Int) (i : Nat) (w : World) (h : Lies w b S v0 v1 v2) (hz : storeF S = 0) (hi : FirstAt (writeIs S.k a s) S.nw i) (hc : S.k (i * 4 + 3) = 4) :
    Calls Tryz.prog 49 #[.pointer (some ⟨b, 0, none⟩), .int .i64 a, .int .i64 s] w (ResSto w 0 S) := by
  have hin : i < S.nw := hi.at.1
  obtain ⟨a0, c0, a1, c1, a2, c2, rfl, rfl, rfl⟩ := h.2.form
  have H : Hid (Lies w b S (.slice a0 S.nc c0) (.slice a1 S.nl c1) (.slice a2 S.nw c2)) := h
  obtain ⟨p0, p1, p2⟩ := h.1
  have hb := h.lt
  obtain ⟨⟨hn0, hn1, hn2⟩, _⟩ := storeF_zero hz
  clear h
  go_enter Tryz.func49, Tryz.ntmps49
  go_wp2_with fail
  refine (l2Copy_cap S _ _ _ 0 _ (H.out.2.alloc _) ⟨by omega, by omega, by omega⟩).mono ?_
  rintro e w2 ⟨d0, e0, d1, e1, d2, e2, ⟨g0, g1, g2⟩, rfl, ⟨s2, fr2, ap2⟩, q2⟩
  simp only [World.size_alloc] at s2 q2
  have BW2 : Below w.heap.size w w2 := (below_alloc w _).trans (q2.mono (Nat.le_succ _))
  have HE : Hid (CmE w b S (.slice a0 S.nc c0) (.slice a1 S.nl c1) (.slice a2 S.nw c2) w2.heap.size (.slice d0 S.nc e0) (.slice d1 S.nl e1) (.slice d2 S.nw e2) (w2.alloc (.cells #[.slice d0 S.nc e0, .slice d1 S.nl e1, .slice d2 S.nw e2] 32))) :=
    ⟨((Blk4.new w _ _ _ _ _).kept (q2.block w.heap.size (Nat.lt_succ_self _))).alloc _, Blk3.new _ _ _ _ _, (H.out.later BW2).later (below_alloc _ _), BW2.trans ((below_alloc w2 _).mono BW2.size)⟩
  have HS : Hid ((St w2 (w.heap.size + 1) S (.slice d0 S.nc e0) (.slice d1 S.nl e1) (.slice d2 S.nw e2) ∧ FreeS w2 S (.slice d0 S.nc e0) (.slice d1 S.nl e1) (.slice d2 S.nw e2)) ∧ ApartD S (.slice d0 S.nc e0) (.slice d1 S.nl e1) (.slice d2 S.nw e2)) := ⟨⟨s2, fr2⟩, ap2⟩
  have hzw : w.heap.size < w2.heap.size := by have := q2.size; simp at this; omega
  have B23 : Hid (Below w2.heap.size w2 (w2.alloc (.cells #[.slice d0 S.nc e0, .slice d1 S.nl e1, .slice d2 S.nw e2] 32))) := below_alloc _ _
  have hbl : b < w2.heap.size := Nat.lt_trans hb hzw
  clear s2 fr2 ap2 q2 BW2 p0 p1 p2
  go_wp2_with fail
  generalize w2.alloc (.cells #[.slice d0 S.nc e0, .slice d1 S.nl e1, .slice d2 S.nw e2] 32) = w3 at HE B23 ⊢
  have hz3 : w2.heap.size < w3.heap.size := HE.out.2.1.lt
  refine (l2Write_is S b _ _ _ a s i _ HE.out.2.2.1 hn2 hi).mono ?_
  rintro e w' ⟨rfl, rfl⟩
  obtain ⟨⟨⟨r0, r1, r2, r3⟩, f0, f1, f2, f3⟩, ⟨⟨t0, t1, t2⟩, _⟩, ⟨⟨p0, p1, p2⟩, pst⟩, _⟩ := HE.out
  obtain ⟨g, o, hg, _, hgl, x0, x1, x2, x3⟩ := pst.2.2.at4 hin
  subst hg
  rw [hc] at x3
  unfold ResSto
  clear pst
  go_wp2
  have S3 : St w' (w.heap.size + 1) S (.slice d0 S.nc e0) (.slice d1 S.nl e1) (.slice d2 S.nw e2) := HS.out.1.1.later B23.out
  have F3 : FreeS w' S (.slice d0 S.nc e0) (.slice d1 S.nl e1) (.slice d2 S.nw e2) := HS.out.1.2.later HS.out.1.1 B23.out
  have hlo : (w.heap.size : Nat) < w.heap.size + 1 := Nat.lt_succ_self _
  exact bodyPost_ret (v := .agg #[.int .i64 0, .slice d0 S.nc e0, .slice d1 S.nl e1, .slice d2 S.nw e2]) (by simp [results, Tryz.results49, go_sem, r0, r1, r2, r3]) rfl ⟨d0, e0, d1, e1, d2, e2, rfl, ⟨((((S3.far hlo _).far hlo _).far hlo _).far hlo _).mono (by omega), (((F3.far _ _).far _ _).far _ _).far _ _, HS.out.2⟩, (((HE.out.2.2.2.setCell (Nat.le_refl _) _).setCell (Nat.le_refl _) _).setCell (Nat.le_refl _) _).setCell (Nat.le_refl _) _⟩
set_option maxRecDepth 100000 in
set_option maxHeartbeats 8000000 in
theorem l3Roll_taken (S : Sto) (b : Nat) (v0 v1 v2 : Value) (a s : Int) (i : Nat) (w : World) (h : Lies w b S v0 v1 v2) (hz : storeF S = 0) (hi : FirstAt (writeIs S.k a s) S.nw i) (hc : S.k (i * 4 + 3) ≠ 4) :
    Calls Tryz.prog 49 #[.pointer (some ⟨b, 0, none⟩), .int .i64 a, .int .i64 s] w (ResSto w 6 emptyS) := by
  have hin : i < S.nw := hi.at.1
  obtain ⟨a0, c0, a1, c1, a2, c2, rfl, rfl, rfl⟩ := h.2.form
  have H : Hid (Lies w b S (.slice a0 S.nc c0) (.slice a1 S.nl c1) (.slice a2 S.nw c2)) := h
  obtain ⟨p0, p1, p2⟩ := h.1
  have hb := h.lt
  obtain ⟨⟨hn0, hn1, hn2⟩, _⟩ := storeF_zero hz
  clear h
  go_enter Tryz.func49, Tryz.ntmps49
  go_wp2_with fail
  refine (l2Copy_cap S _ _ _ 0 _ (H.out.2.alloc _) ⟨by omega, by omega, by omega⟩).mono ?_
  rintro e w2 ⟨d0, e0, d1, e1, d2, e2, ⟨g0, g1, g2⟩, rfl, ⟨s2, fr2, ap2⟩, q2⟩
  simp only [World.size_alloc] at s2 q2
  have BW2 : Below w.heap.size w w2 := (below_alloc w _).trans (q2.mono (Nat.le_succ _))
  have HE : Hid (CmE w b S (.slice a0 S.nc c0) (.slice a1 S.nl c1) (.slice a2 S.nw c2) w2.heap.size (.slice d0 S.nc e0) (.slice d1 S.nl e1) (.slice d2 S.nw e2) (w2.alloc (.cells #[.slice d0 S.nc e0, .slice d1 S.nl e1, .slice d2 S.nw e2] 32))) :=
    ⟨((Blk4.new w _ _ _ _ _).kept (q2.block w.heap.size (Nat.lt_succ_self _))).alloc _, Blk3.new _ _ _ _ _, (H.out.later BW2).later (below_alloc _ _), BW2.trans ((below_alloc w2 _).mono BW2.size)⟩
  have HS : Hid ((St w2 (w.heap.size + 1) S (.slice d0 S.nc e0) (.slice d1 S.nl e1) (.slice d2 S.nw e2) ∧ FreeS w2 S (.slice d0 S.nc e0) (.slice d1 S.nl e1) (.slice d2 S.nw e2)) ∧ ApartD S (.slice d0 S.nc e0) (.slice d1 S.nl e1) (.slice d2 S.nw e2)) := ⟨⟨s2, fr2⟩, ap2⟩
  have hzw : w.heap.size < w2.heap.size := by have := q2.size; simp at this; omega
  have B23 : Hid (Below w2.heap.size w2 (w2.alloc (.cells #[.slice d0 S.nc e0, .slice d1 S.nl e1, .slice d2 S.nw e2] 32))) := below_alloc _ _
  have hbl : b < w2.heap.size := Nat.lt_trans hb hzw
  clear s2 fr2 ap2 q2 BW2 p0 p1 p2
  go_wp2_with fail
  generalize w2.alloc (.cells #[.slice d0 S.nc e0, .slice d1 S.nl e1, .slice d2 S.nw e2] 32) = w3 at HE B23 ⊢
  have hz3 : w2.heap.size < w3.heap.size := HE.out.2.1.lt
  refine (l2Write_is S b _ _ _ a s i _ HE.out.2.2.1 hn2 hi).mono ?_
  rintro e w' ⟨rfl, rfl⟩
  obtain ⟨⟨⟨r0, r1, r2, r3⟩, f0, f1, f2, f3⟩, ⟨⟨t0, t1, t2⟩, _⟩, ⟨⟨p0, p1, p2⟩, pst⟩, _⟩ := HE.out
  obtain ⟨g, o, hg, _, hgl, x0, x1, x2, x3⟩ := pst.2.2.at4 hin
  subst hg
  obtain ⟨y, hy⟩ : ∃ y, S.k (i * 4 + 3) = y := ⟨_, rfl⟩
  rw [hy] at x3 hc
  have dc : (y == 4) = false := beq_eq_false_iff_ne.2 hc
  unfold ResSto
  clear pst hc hy
  go_wp2_with fail
  refine (l3Bad_is 6 _).mono ?_
  rintro e w4 ⟨y0, z0, y1, z1, y2, z2, rfl, ⟨s4, f4, a4⟩, q4⟩
  have S4 : Hid ((St w4 (w.heap.size + 1) emptyS (.slice y0 emptyS.nc z0) (.slice y1 emptyS.nl z1) (.slice y2 emptyS.nw z2) ∧ FreeS w4 emptyS (.slice y0 emptyS.nc z0) (.slice y1 emptyS.nl z1) (.slice y2 emptyS.nw z2)) ∧ ApartD emptyS (.slice y0 emptyS.nc z0) (.slice y1 emptyS.nl z1) (.slice y2 emptyS.nw z2)) := ⟨⟨s4.mono (Nat.le_trans hzw (Nat.le_of_lt hz3)), f4⟩, a4⟩
  have HBW : Hid (Below w.heap.size w w4) := HE.out.2.2.2.trans (q4.mono HE.out.2.2.2.size)
  obtain ⟨⟨r0, r1, r2, r3⟩, f0, f1, f2, f3⟩ := HE.out.1.later q4
  clear s4 f4 a4 q4
  have hlo : (w.heap.size : Nat) < w.heap.size + 1 := Nat.lt_succ_self _
  go_wp2
  exact bodyPost_ret (v := .agg #[.int .i64 6, .slice y0 emptyS.nc z0, .slice y1 emptyS.nl z1, .slice y2 emptyS.nw z2]) (by simp [results, Tryz.results49, go_sem, r0, r1, r2, r3]) rfl ⟨y0, z0, y1, z1, y2, z2, rfl, ⟨((((S4.out.1.1.far hlo _).far hlo _).far hlo _).far hlo _).mono (by omega), (((S4.out.1.2.far _ _).far _ _).far _ _).far _ _, S4.out.2⟩, (((HBW.out.setCell (Nat.le_refl _) _).setCell (Nat.le_refl _) _).setCell (Nat.le_refl _) _).setCell (Nat.le_refl _) _⟩
set_option maxRecDepth 100000 in
set_option maxHeartbeats 8000000 in
theorem l3Roll_at (S : Sto) (b : Nat) (v0 v1 v2 : Value) (a s : Int) (w : World) (h : Lies w b S v0 v1 v2) (hz : storeF S = 0) (hi : FirstAt (writeIs S.k a s) S.nw (-1)) (hat : ∃ i, i < S.nw ∧ writeAt S.k a s i) :
    Calls Tryz.prog 49 #[.pointer (some ⟨b, 0, none⟩), .int .i64 a, .int .i64 s] w (ResSto w 6 emptyS) := by
  obtain ⟨a0, c0, a1, c1, a2, c2, rfl, rfl, rfl⟩ := h.2.form
  have H : Hid (Lies w b S (.slice a0 S.nc c0) (.slice a1 S.nl c1) (.slice a2 S.nw c2)) := h
  obtain ⟨p0, p1, p2⟩ := h.1
  have hb := h.lt
  obtain ⟨⟨hn0, hn1, hn2⟩, _⟩ := storeF_zero hz
  clear h
  go_enter Tryz.func49, Tryz.ntmps49
  go_wp2_with fail
  refine (l2Copy_cap S _ _ _ 0 _ (H.out.2.alloc _) ⟨by omega, by omega, by omega⟩).mono ?_
  rintro e w2 ⟨d0, e0, d1, e1, d2, e2, ⟨g0, g1, g2⟩, rfl, ⟨s2, fr2, ap2⟩, q2⟩
  simp only [World.size_alloc] at s2 q2
  have BW2 : Below w.heap.size w w2 := (below_alloc w _).trans (q2.mono (Nat.le_succ _))
  have HE : Hid (CmE w b S (.slice a0 S.nc c0) (.slice a1 S.nl c1) (.slice a2 S.nw c2) w2.heap.size (.slice d0 S.nc e0) (.slice d1 S.nl e1) (.slice d2 S.nw e2) (w2.alloc (.cells #[.slice d0 S.nc e0, .slice d1 S.nl e1, .slice d2 S.nw e2] 32))) :=
    ⟨((Blk4.new w _ _ _ _ _).kept (q2.block w.heap.size (Nat.lt_succ_self _))).alloc _, Blk3.new _ _ _ _ _, (H.out.later BW2).later (below_alloc _ _), BW2.trans ((below_alloc w2 _).mono BW2.size)⟩
  have HS : Hid ((St w2 (w.heap.size + 1) S (.slice d0 S.nc e0) (.slice d1 S.nl e1) (.slice d2 S.nw e2) ∧ FreeS w2 S (.slice d0 S.nc e0) (.slice d1 S.nl e1) (.slice d2 S.nw e2)) ∧ ApartD S (.slice d0 S.nc e0) (.slice d1 S.nl e1) (.slice d2 S.nw e2)) := ⟨⟨s2, fr2⟩, ap2⟩
  have hzw : w.heap.size < w2.heap.size := by have := q2.size; simp at this; omega
  have B23 : Hid (Below w2.heap.size w2 (w2.alloc (.cells #[.slice d0 S.nc e0, .slice d1 S.nl e1, .slice d2 S.nw e2] 32))) := below_alloc _ _
  have hbl : b < w2.heap.size := Nat.lt_trans hb hzw
  clear s2 fr2 ap2 q2 BW2 p0 p1 p2
  go_wp2_with fail
  generalize w2.alloc (.cells #[.slice d0 S.nc e0, .slice d1 S.nl e1, .slice d2 S.nw e2] 32) = w3 at HE B23 ⊢
  have hz3 : w2.heap.size < w3.heap.size := HE.out.2.1.lt
  refine (l2Write_is S b _ _ _ a s (-1) _ HE.out.2.2.1 hn2 hi).mono ?_
  rintro e w' ⟨rfl, rfl⟩
  obtain ⟨⟨⟨r0, r1, r2, r3⟩, f0, f1, f2, f3⟩, ⟨⟨t0, t1, t2⟩, _⟩, ⟨⟨p0, p1, p2⟩, pst⟩, _⟩ := HE.out
  unfold ResSto
  clear pst
  go_wp2_with fail
  refine (l3At_any S b _ _ _ a s _ HE.out.2.2.1 hn2).mono ?_
  rintro e w5 ⟨r, rfl, hr, rfl⟩
  obtain rfl : r = true := hr.2 hat
  clear hr hat
  go_wp2_with fail
  refine (l3Bad_is 6 _).mono ?_
  rintro e w4 ⟨y0, z0, y1, z1, y2, z2, rfl, ⟨s4, f4, a4⟩, q4⟩
  have S4 : Hid ((St w4 (w.heap.size + 1) emptyS (.slice y0 emptyS.nc z0) (.slice y1 emptyS.nl z1) (.slice y2 emptyS.nw z2) ∧ FreeS w4 emptyS (.slice y0 emptyS.nc z0) (.slice y1 emptyS.nl z1) (.slice y2 emptyS.nw z2)) ∧ ApartD emptyS (.slice y0 emptyS.nc z0) (.slice y1 emptyS.nl z1) (.slice y2 emptyS.nw z2)) := ⟨⟨s4.mono (Nat.le_trans hzw (Nat.le_of_lt hz3)), f4⟩, a4⟩
  have HBW : Hid (Below w.heap.size w w4) := HE.out.2.2.2.trans (q4.mono HE.out.2.2.2.size)
  obtain ⟨⟨r0, r1, r2, r3⟩, f0, f1, f2, f3⟩ := HE.out.1.later q4
  clear s4 f4 a4 q4
  have hlo : (w.heap.size : Nat) < w.heap.size + 1 := Nat.lt_succ_self _
  go_wp2
  exact bodyPost_ret (v := .agg #[.int .i64 6, .slice y0 emptyS.nc z0, .slice y1 emptyS.nl z1, .slice y2 emptyS.nw z2]) (by simp [results, Tryz.results49, go_sem, r0, r1, r2, r3]) rfl ⟨y0, z0, y1, z1, y2, z2, rfl, ⟨((((S4.out.1.1.far hlo _).far hlo _).far hlo _).far hlo _).mono (by omega), (((S4.out.1.2.far _ _).far _ _).far _ _).far _ _, S4.out.2⟩, (((HBW.out.setCell (Nat.le_refl _) _).setCell (Nat.le_refl _) _).setCell (Nat.le_refl _) _).setCell (Nat.le_refl _) _⟩
set_option maxRecDepth 100000 in
set_option maxHeartbeats 8000000 in
theorem l3Roll_many (S : Sto) (b : Nat) (v0 v1 v2 : Value) (a s : Int) (w : World) (h : Lies w b S v0 v1 v2) (hz : storeF S = 0) (hi : FirstAt (writeIs S.k a s) S.nw (-1)) (hat : ¬ ∃ i, i < S.nw ∧ writeAt S.k a s i) (hm : 200 ≤ S.nw) :
    Calls Tryz.prog 49 #[.pointer (some ⟨b, 0, none⟩), .int .i64 a, .int .i64 s] w (ResSto w 2 emptyS) := by
  have dm : decide ((200 : Int) ≤ (S.nw : Int)) = true := decide_eq_true (by omega)
  clear hm
  obtain ⟨a0, c0, a1, c1, a2, c2, rfl, rfl, rfl⟩ := h.2.form
  have H : Hid (Lies w b S (.slice a0 S.nc c0) (.slice a1 S.nl c1) (.slice a2 S.nw c2)) := h
  obtain ⟨p0, p1, p2⟩ := h.1
  have hb := h.lt
  obtain ⟨⟨hn0, hn1, hn2⟩, _⟩ := storeF_zero hz
  clear h
  go_enter Tryz.func49, Tryz.ntmps49
  go_wp2_with fail
  refine (l2Copy_cap S _ _ _ 0 _ (H.out.2.alloc _) ⟨by omega, by omega, by omega⟩).mono ?_
  rintro e w2 ⟨d0, e0, d1, e1, d2, e2, ⟨g0, g1, g2⟩, rfl, ⟨s2, fr2, ap2⟩, q2⟩
  simp only [World.size_alloc] at s2 q2
  have BW2 : Below w.heap.size w w2 := (below_alloc w _).trans (q2.mono (Nat.le_succ _))
  have HE : Hid (CmE w b S (.slice a0 S.nc c0) (.slice a1 S.nl c1) (.slice a2 S.nw c2) w2.heap.size (.slice d0 S.nc e0) (.slice d1 S.nl e1) (.slice d2 S.nw e2) (w2.alloc (.cells #[.slice d0 S.nc e0, .slice d1 S.nl e1, .slice d2 S.nw e2] 32))) :=
    ⟨((Blk4.new w _ _ _ _ _).kept (q2.block w.heap.size (Nat.lt_succ_self _))).alloc _, Blk3.new _ _ _ _ _, (H.out.later BW2).later (below_alloc _ _), BW2.trans ((below_alloc w2 _).mono BW2.size)⟩
  have HS : Hid ((St w2 (w.heap.size + 1) S (.slice d0 S.nc e0) (.slice d1 S.nl e1) (.slice d2 S.nw e2) ∧ FreeS w2 S (.slice d0 S.nc e0) (.slice d1 S.nl e1) (.slice d2 S.nw e2)) ∧ ApartD S (.slice d0 S.nc e0) (.slice d1 S.nl e1) (.slice d2 S.nw e2)) := ⟨⟨s2, fr2⟩, ap2⟩
  have hzw : w.heap.size < w2.heap.size := by have := q2.size; simp at this; omega
  have B23 : Hid (Below w2.heap.size w2 (w2.alloc (.cells #[.slice d0 S.nc e0, .slice d1 S.nl e1, .slice d2 S.nw e2] 32))) := below_alloc _ _
  have hbl : b < w2.heap.size := Nat.lt_trans hb hzw
  clear s2 fr2 ap2 q2 BW2 p0 p1 p2
  go_wp2_with fail
  generalize w2.alloc (.cells #[.slice d0 S.nc e0, .slice d1 S.nl e1, .slice d2 S.nw e2] 32) = w3 at HE B23 ⊢
  have hz3 : w2.heap.size < w3.heap.size := HE.out.2.1.lt
  refine (l2Write_is S b _ _ _ a s (-1) _ HE.out.2.2.1 hn2 hi).mono ?_
  rintro e w' ⟨rfl, rfl⟩
  obtain ⟨⟨⟨r0, r1, r2, r3⟩, f0, f1, f2, f3⟩, ⟨⟨t0, t1, t2⟩, _⟩, ⟨⟨p0, p1, p2⟩, pst⟩, _⟩ := HE.out
  unfold ResSto
  clear pst
  go_wp2_with fail
  refine (l3At_any S b _ _ _ a s _ HE.out.2.2.1 hn2).mono ?_
  rintro e w5 ⟨r, rfl, hr, rfl⟩
  obtain rfl : r = false := bool_no hr hat
  clear hr hat
  go_wp2_with fail
  refine (l3Bad_is 2 _).mono ?_
  rintro e w4 ⟨y0, z0, y1, z1, y2, z2, rfl, ⟨s4, f4, a4⟩, q4⟩
  have S4 : Hid ((St w4 (w.heap.size + 1) emptyS (.slice y0 emptyS.nc z0) (.slice y1 emptyS.nl z1) (.slice y2 emptyS.nw z2) ∧ FreeS w4 emptyS (.slice y0 emptyS.nc z0) (.slice y1 emptyS.nl z1) (.slice y2 emptyS.nw z2)) ∧ ApartD emptyS (.slice y0 emptyS.nc z0) (.slice y1 emptyS.nl z1) (.slice y2 emptyS.nw z2)) := ⟨⟨s4.mono (Nat.le_trans hzw (Nat.le_of_lt hz3)), f4⟩, a4⟩
  have HBW : Hid (Below w.heap.size w w4) := HE.out.2.2.2.trans (q4.mono HE.out.2.2.2.size)
  obtain ⟨⟨r0, r1, r2, r3⟩, f0, f1, f2, f3⟩ := HE.out.1.later q4
  clear s4 f4 a4 q4
  have hlo : (w.heap.size : Nat) < w.heap.size + 1 := Nat.lt_succ_self _
  go_wp2
  exact bodyPost_ret (v := .agg #[.int .i64 2, .slice y0 emptyS.nc z0, .slice y1 emptyS.nl z1, .slice y2 emptyS.nw z2]) (by simp [results, Tryz.results49, go_sem, r0, r1, r2, r3]) rfl ⟨y0, z0, y1, z1, y2, z2, rfl, ⟨((((S4.out.1.1.far hlo _).far hlo _).far hlo _).far hlo _).mono (by omega), (((S4.out.1.2.far _ _).far _ _).far _ _).far _ _, S4.out.2⟩, (((HBW.out.setCell (Nat.le_refl _) _).setCell (Nat.le_refl _) _).setCell (Nat.le_refl _) _).setCell (Nat.le_refl _) _⟩
set_option maxRecDepth 100000 in
set_option maxHeartbeats 8000000 in
theorem l3Roll_none (S : Sto) (b : Nat) (v0 v1 v2 : Value) (a s : Int) (k : Nat) (w : World) (h : Lies w b S v0 v1 v2) (hz : storeF S = 0) (hi : FirstAt (writeIs S.k a s) S.nw (-1)) (hat : ¬ ∃ i, i < S.nw ∧ writeAt S.k a s i) (hm : S.nw < 200) (hk : placeAt (aheadW S.k a s) S.nw k) (hcl : FirstAt (cellIs S.c a s) S.nc (-1)) :
    Calls Tryz.prog 49 #[.pointer (some ⟨b, 0, none⟩), .int .i64 a, .int .i64 s] w (ResSto w 0 (rollS S a s k)) := by
  have dm : decide ((200 : Int) ≤ (S.nw : Int)) = false := decide_eq_false (by omega)
  have HK : Hid (placeAt (aheadW S.k a s) S.nw k) := hk
  clear hm hk
  obtain ⟨a0, c0, a1, c1, a2, c2, rfl, rfl, rfl⟩ := h.2.form
  have H : Hid (Lies w b S (.slice a0 S.nc c0) (.slice a1 S.nl c1) (.slice a2 S.nw c2)) := h
  obtain ⟨p0, p1, p2⟩ := h.1
  have hb := h.lt
  obtain ⟨⟨hn0, hn1, hn2⟩, _⟩ := storeF_zero hz
  clear h
  go_enter Tryz.func49, Tryz.ntmps49
  go_wp2_with fail
  refine (l2Copy_cap S _ _ _ 0 _ (H.out.2.alloc _) ⟨by omega, by omega, by omega⟩).mono ?_
  rintro e w2 ⟨d0, e0, d1, e1, d2, e2, ⟨g0, g1, g2⟩, rfl, ⟨s2, fr2, ap2⟩, q2⟩
  simp only [World.size_alloc] at s2 q2
  have BW2 : Below w.heap.size w w2 := (below_alloc w _).trans (q2.mono (Nat.le_succ _))
  have HE : Hid (CmE w b S (.slice a0 S.nc c0) (.slice a1 S.nl c1) (.slice a2 S.nw c2) w2.heap.size (.slice d0 S.nc e0) (.slice d1 S.nl e1) (.slice d2 S.nw e2) (w2.alloc (.cells #[.slice d0 S.nc e0, .slice d1 S.nl e1, .slice d2 S.nw e2] 32))) :=
    ⟨((Blk4.new w _ _ _ _ _).kept (q2.block w.heap.size (Nat.lt_succ_self _))).alloc _, Blk3.new _ _ _ _ _, (H.out.later BW2).later (below_alloc _ _), BW2.trans ((below_alloc w2 _).mono BW2.size)⟩
  have HS : Hid ((St w2 (w.heap.size + 1) S (.slice d0 S.nc e0) (.slice d1 S.nl e1) (.slice d2 S.nw e2) ∧ FreeS w2 S (.slice d0 S.nc e0) (.slice d1 S.nl e1) (.slice d2 S.nw e2)) ∧ ApartD S (.slice d0 S.nc e0) (.slice d1 S.nl e1) (.slice d2 S.nw e2)) := ⟨⟨s2, fr2⟩, ap2⟩
  have hzw : w.heap.size < w2.heap.size := by have := q2.size; simp at this; omega
  have B23 : Hid (Below w2.heap.size w2 (w2.alloc (.cells #[.slice d0 S.nc e0, .slice d1 S.nl e1, .slice d2 S.nw e2] 32))) := below_alloc _ _
  have hbl : b < w2.heap.size := Nat.lt_trans hb hzw
  clear s2 fr2 ap2 q2 BW2 p0 p1 p2
  go_wp2_with fail
  generalize w2.alloc (.cells #[.slice d0 S.nc e0, .slice d1 S.nl e1, .slice d2 S.nw e2] 32) = w3 at HE B23 ⊢
  have hz3 : w2.heap.size < w3.heap.size := HE.out.2.1.lt
  refine (l2Write_is S b _ _ _ a s (-1) _ HE.out.2.2.1 hn2 hi).mono ?_
  rintro e w' ⟨rfl, rfl⟩
  obtain ⟨⟨⟨r0, r1, r2, r3⟩, f0, f1, f2, f3⟩, ⟨⟨t0, t1, t2⟩, ft0, ft1, ft2⟩, ⟨⟨p0, p1, p2⟩, pst⟩, _⟩ := HE.out
  clear pst
  go_wp2_with fail
  refine (l3At_any S b _ _ _ a s _ HE.out.2.2.1 hn2).mono ?_
  rintro e w5 ⟨r, rfl, hr, rfl⟩
  obtain rfl : r = false := bool_no hr hat
  clear hr hat
  go_wp2_with fail
  refine (l3Unlock_any S.nl S.l _ (w.heap.size + 1) a s _ (HS.out.1.1.later B23.out).2.1 (by omega)).mono ?_
  rintro e w6 ⟨y1, z1, rfl, O6, q6⟩
  have ft1' : w6.frozen? ⟨w2.heap.size, 1, none⟩ = false := (q6.frozen (p := ⟨w2.heap.size, 1, none⟩) hz3).trans ft1
  have t1' : w6.cell? ⟨w2.heap.size, 1, none⟩ = some (.slice d1 S.nl e1) := (q6.cell (p := ⟨w2.heap.size, 1, none⟩) hz3).trans t1
  have HE6 : Hid (CmE w b S (.slice a0 S.nc c0) (.slice a1 S.nl c1) (.slice a2 S.nw c2) w2.heap.size (.slice d0 S.nc e0) (.slice d1 S.nl e1) (.slice d2 S.nw e2) w6) := HE.out.later q6
  have B26 : Hid (Below w2.heap.size w2 w6) := B23.out.trans (q6.mono (Nat.le_of_lt hz3))
  obtain ⟨U, hU⟩ : ∃ U, unlL S.l a s S.nl = U := ⟨_, rfl⟩
  have HU : Hid (unlL S.l a s S.nl = U) := hU
  rw [hU] at O6
  have O6' : Hid (OwnM w6 w5.heap.size 57 5 (.slice y1 U.length z1) U.length U.flatten) := O6
  have hz6 : w5.heap.size ≤ w6.heap.size := q6.size
  rw [hU]
  clear O6 q6 hU r0 r1 r2 r3 f0 f1 f2 f3 t0 t1 t2 ft0 ft1 ft2 p0 p1 p2
  go_upto_region 12 with fail
  -- the world behind the store of the locks
  have BX : Hid (Below w.heap.size w (w6.setCell ⟨w2.heap.size, 1, none⟩ (.slice y1 U.length z1))) := HE6.out.2.2.2.setCell (Nat.le_of_lt hzw) _
  have B2X : Hid (Below w2.heap.size w2 (w6.setCell ⟨w2.heap.size, 1, none⟩ (.slice y1 U.length z1))) := B26.out.setCell (Nat.le_refl _) _
  have RX : Hid (Blk4 (w6.setCell ⟨w2.heap.size, 1, none⟩ (.slice y1 U.length z1)) w.heap.size (.int .i64 0) (.slice none 0 0) (.slice none 0 0) (.slice none 0 0)) := HE6.out.1.kept (Below.heap_setCell _ _ _ _ (Nat.ne_of_lt hzw))
  have TX : Hid (Blk3 (w6.setCell ⟨w2.heap.size, 1, none⟩ (.slice y1 U.length z1)) w2.heap.size (.slice d0 S.nc e0) (.slice y1 U.length z1) (.slice d2 S.nw e2)) := HE6.out.2.1.set1 _
  have OX : Hid (OwnM (w6.setCell ⟨w2.heap.size, 1, none⟩ (.slice y1 U.length z1)) w5.heap.size 57 5 (.slice y1 U.length z1) U.length U.flatten) := O6'.out.far hz3 _
  have LX : Hid (Lies (w6.setCell ⟨w2.heap.size, 1, none⟩ (.slice y1 U.length z1)) b S (.slice a0 S.nc c0) (.slice a1 S.nl c1) (.slice a2 S.nw c2)) := H.out.later BX.out
  have zX : w2.heap.size < (w6.setCell ⟨w2.heap.size, 1, none⟩ (.slice y1 U.length z1)).heap.size := TX.out.lt
  have z5X : w5.heap.size ≤ (w6.setCell ⟨w2.heap.size, 1, none⟩ (.slice y1 U.length z1)).heap.size := by simpa [World.setCell] using hz6
  generalize w6.setCell ⟨w2.heap.size, 1, none⟩ (.slice y1 U.length z1) = X0 at BX B2X RX TX OX LX zX z5X ⊢
  clear HE6 O6' B26 hz6 t1' ft1' HE
  go_wp2_with fail
  refine (cellAt_is S b _ _ _ a s (-1) _ LX.out hn0 hcl).mono ?_
  rintro e X1 ⟨rfl, hX1⟩
  obtain rfl := hX1.symm
  clear hX1
  obtain ⟨⟨t0, t1, t2⟩, _⟩ := TX.out
  go_wp2_with fail
  refine (l2AddWrite_any S.nw S.k d2 e2 (w.heap.size + 1) a s s 4 _ (HS.out.1.1.2.2.later B2X.out) (by omega) g2).mono ?_
  rintro e w7 ⟨k', y2, z2, hk', rfl, O7, q7⟩
  obtain rfl : k' = k := hk'.one HK.out
  have BY : Hid (Below w.heap.size w w7) := BX.out.trans (q7.mono BX.out.size)
  have B2Y : Hid (Below w2.heap.size w2 w7) := B2X.out.trans (q7.mono (Nat.le_of_lt zX))
  have RY : Hid (Blk4 w7 w.heap.size (.int .i64 0) (.slice none 0 0) (.slice none 0 0) (.slice none 0 0)) := RX.out.later q7
  have TY : Hid (Blk3 w7 w2.heap.size (.slice d0 (S.nc) e0) (.slice y1 U.length z1) (.slice d2 S.nw e2)) := TX.out.later q7
  have OY : Hid (OwnM w7 w5.heap.size 57 5 (.slice y1 U.length z1) U.length U.flatten) := OX.out.later q7
  have hob : Hid (∀ q, (Value.slice y1 U.length z1).ownBlock = some q → w5.heap.size ≤ q ∧ q < X0.heap.size) := OX.out.block
  have PY : Hid (OwnM w7 X0.heap.size 92 4 (.slice y2 (S.nw + 1) z2) (S.nw + 1) (nums S.k (k' * 4) ++ [a, s, s, 4] ++ nums (fun p => S.k (k' * 4 + p)) ((S.nw - k') * 4))) := O7
  have hkn : k' ≤ S.nw := hk'.1
  have hqX : Hid (Below X0.heap.size X0 w7) := q7
  clear O7 q7 hk' OX RX TX LX BX B2X HK t0 t1 t2
  obtain ⟨⟨t0, t1, t2⟩, ft0, ft1, ft2⟩ := TY.out
  go_upto_region 16 with fail
  have RZ := RY.out.kept (Below.heap_setCell w7 ⟨w2.heap.size, 2, none⟩ (.slice y2 (S.nw + 1) z2) _ (Nat.ne_of_lt hzw))
  have TZ := TY.out.set2 (.slice y2 (S.nw + 1) z2)
  have BZ : Hid (Below w.heap.size w (w7.setCell ⟨w2.heap.size, 2, none⟩ (.slice y2 (S.nw + 1) z2))) := BY.out.setCell (Nat.le_of_lt hzw) _
  have B2Z : Hid (Below w2.heap.size w2 (w7.setCell ⟨w2.heap.size, 2, none⟩ (.slice y2 (S.nw + 1) z2))) := B2Y.out.setCell (Nat.le_refl _) _
  have OZ : Hid (OwnM (w7.setCell ⟨w2.heap.size, 2, none⟩ (.slice y2 (S.nw + 1) z2)) w5.heap.size 57 5 (.slice y1 U.length z1) U.length U.flatten) := OY.out.far hz3 _
  have PZ : Hid (OwnM (w7.setCell ⟨w2.heap.size, 2, none⟩ (.slice y2 (S.nw + 1) z2)) X0.heap.size 92 4 (.slice y2 (S.nw + 1) z2) (S.nw + 1) (nums S.k (k' * 4) ++ [a, s, s, 4] ++ nums (fun p => S.k (k' * 4 + p)) ((S.nw - k') * 4))) := PY.out.far zX _
  generalize w7.setCell ⟨w2.heap.size, 2, none⟩ (.slice y2 (S.nw + 1) z2) = w8 at RZ TZ BZ B2Z OZ PZ ⊢
  clear t0 t1 t2 ft0 ft1 ft2 RY TY BY B2Y OY PY
  obtain ⟨⟨r0, r1, r2, r3⟩, f0, f1, f2, f3⟩ := RZ
  obtain ⟨⟨t0, t1, t2⟩, _⟩ := TZ
  go_wp2
  have hsame := selD_same (F := S.c) (m := 3) (D := goneK a s) (k := S.nc) (fun i hi => goneK_not (by
    rcases hcl with ⟨_, q⟩ | ⟨j, _, q, _⟩
    · exact q i hi
    · omega))
  have hN : (unlC S.c a s S.nc).length = S.nc := hsame.1
  have rC : Row w8 (w.heap.size + 1) 3 S.nc (fun p => (unlC S.c a s S.nc).flatten.getD p 0) (.slice d0 S.nc e0) := (HS.out.1.1.1.later B2Z.out).congr (fun p hp => (hsame.2 p hp).symm)
  have fC : Free w8 (S.nc * 3) (.slice d0 S.nc e0) := HS.out.1.2.1.ofRow HS.out.1.1.1 B2Z.out
  have lenL : U.flatten.length = U.length * 5 := flat_len U (by rw [← HU.out]; exact selD_len _ _ _ _)
  have lenW : (nums S.k (k' * 4) ++ [a, s, s, 4] ++ nums (fun p => S.k (k' * 4 + p)) ((S.nw - k') * 4)).length = (S.nw + 1) * 4 := by
    rw [List.length_append, List.length_append, nums_length, nums_length]
    simp only [List.length_cons, List.length_nil]
    omega
  have rL := (OZ.out.own lenL).row
  have rW := (PZ.out.own lenW).row
  have S8 : St w8 (w.heap.size + 1) (rollS S a s k') (.slice d0 (S.nc) e0) (.slice y1 U.length z1) (.slice y2 (S.nw + 1) z2) := by
    unfold rollS
    rw [HU.out, hN]
    exact ⟨rC, rL.1.mono (by omega), rW.1.mono (by omega)⟩
  have F8 : FreeS w8 (rollS S a s k') (.slice d0 (S.nc) e0) (.slice y1 U.length z1) (.slice y2 (S.nw + 1) z2) := by
    unfold rollS
    rw [HU.out, hN]
    exact ⟨fC, rL.2, rW.2⟩
  have A8 : ApartD (rollS S a s k') (.slice d0 S.nc e0) (.slice y1 U.length z1) (.slice y2 (S.nw + 1) z2) :=
    apartD_at (w := w8) (z1 := w2.heap.size) (z2 := X0.heap.size) (Nat.le_of_lt zX) (fun q k hk => (HS.out.1.1.1.lt (by have : 0 < (unlC S.c a s S.nc).length := q; omega) k hk).2) (fun _ k hk => ⟨Nat.le_trans (Nat.le_of_lt hz3) (hob.out k hk).1, (hob.out k hk).2⟩) (fun _ k hk => (PZ.out.block k hk).1) S8.1 S8.2.1
  have hlo : (w.heap.size : Nat) < w.heap.size + 1 := Nat.lt_succ_self _
  have hul : (rollS S a s k').nl = U.length := by unfold rollS; rw [HU.out]
  have hcl' : (rollS S a s k').nc = S.nc := hN
  refine bodyPost_ret (v := .agg #[.int .i64 0, .slice d0 (S.nc) e0, .slice y1 U.length z1, .slice y2 (S.nw + 1) z2]) (by simp [results, Tryz.results49, go_sem, r0, r1, r2, r3]) rfl ?_
  refine ⟨d0, e0, y1, z1, y2, z2, ?_, ?_, (((BZ.out.setCell (Nat.le_refl _) _).setCell (Nat.le_refl _) _).setCell (Nat.le_refl _) _).setCell (Nat.le_refl _) _⟩
  · rw [hul, hcl']; rfl
  · rw [hul, hcl']
    exact ⟨((((S8.far hlo _).far hlo _).far hlo _).far hlo _).mono (by omega), (((F8.far _ _).far _ _).far _ _).far _ _, A8⟩
theorem Row.tailR {w : World} {B m n g o : Nat} {F : Nat → Int} {cp : Nat} (h : Row w B m n F (.slice (some ⟨g, o, none⟩) n cp)) (k : Nat) (hc : n ≤ cp) : Row w B m (n - k) (fun p => F (k * m + p)) (.slice (if cp = k then some ⟨g, o, none⟩ else some ⟨g, o + k * m, none⟩) (n - k) (cp - k)) := by
  by_cases hk : k < n
  · exact h.tailS hk hc
  · exact Row.over _ _ _ _ _ _ _ _ hk
theorem roll_cells {F : Nat → Int} {n j : Nat} (hj : j < n) : ∀ p, p < (n - 1) * 3 → (nums F (j * 3) ++ nums (fun p => F ((j + 1) * 3 + p)) ((n - (j + 1)) * 3)).getD p 0 = if p < j * 3 then F p else F (p + 3) := by
  intro p hp
  rw [List.getD_eq_getElem?_getD]
  by_cases q : p < j * 3
  · rw [List.getElem?_append_left (by rw [nums_length]; exact q), if_pos q]
    simp [nums, q]
  · rw [List.getElem?_append_right (by rw [nums_length]; omega), nums_length, if_neg q]
    have h1 : p - j * 3 < (n - (j + 1)) * 3 := by omega
    simp only [nums, List.getElem?_map, List.getElem?_range h1, Option.map_some, Option.getD_some]
    congr 1
    omega
set_option maxRecDepth 100000 in
set_option maxHeartbeats 16000000 in
theorem l3Roll_cell (S : Sto) (b : Nat) (v0 v1 v2 : Value) (a s : Int) (k j : Nat) (w : World) (h : Lies w b S v0 v1 v2) (hz : storeF S = 0) (hi : FirstAt (writeIs S.k a s) S.nw (-1)) (hat : ¬ ∃ i, i < S.nw ∧ writeAt S.k a s i) (hm : S.nw < 200) (hk : placeAt (aheadW S.k a s) S.nw k) (hcl : FirstAt (cellIs S.c a s) S.nc (j : Int)) :
    Calls Tryz.prog 49 #[.pointer (some ⟨b, 0, none⟩), .int .i64 a, .int .i64 s] w (ResSto w 0 (rollS S a s k)) := by
  have hjn : j < S.nc := hcl.at.1
  have HZ : Hid (scan (cellF S.c) S.nc = 0) := (storeF_zero hz).2.1
  have dm : decide ((200 : Int) ≤ (S.nw : Int)) = false := decide_eq_false (by omega)
  have HK : Hid (placeAt (aheadW S.k a s) S.nw k) := hk
  clear hm hk
  obtain ⟨a0, c0, a1, c1, a2, c2, rfl, rfl, rfl⟩ := h.2.form
  have H : Hid (Lies w b S (.slice a0 S.nc c0) (.slice a1 S.nl c1) (.slice a2 S.nw c2)) := h
  obtain ⟨p0, p1, p2⟩ := h.1
  have hb := h.lt
  obtain ⟨⟨hn0, hn1, hn2⟩, _⟩ := storeF_zero hz
  clear h
  go_enter Tryz.func49, Tryz.ntmps49
  go_wp2_with fail
  refine (l2Copy_cap S _ _ _ 0 _ (H.out.2.alloc _) ⟨by omega, by omega, by omega⟩).mono ?_
  rintro e w2 ⟨d0, e0, d1, e1, d2, e2, ⟨g0, g1, g2⟩, rfl, ⟨s2, fr2, ap2⟩, q2⟩
  simp only [World.size_alloc] at s2 q2
  have BW2 : Below w.heap.size w w2 := (below_alloc w _).trans (q2.mono (Nat.le_succ _))
  have HE : Hid (CmE w b S (.slice a0 S.nc c0) (.slice a1 S.nl c1) (.slice a2 S.nw c2) w2.heap.size (.slice d0 S.nc e0) (.slice d1 S.nl e1) (.slice d2 S.nw e2) (w2.alloc (.cells #[.slice d0 S.nc e0, .slice d1 S.nl e1, .slice d2 S.nw e2] 32))) :=
    ⟨((Blk4.new w _ _ _ _ _).kept (q2.block w.heap.size (Nat.lt_succ_self _))).alloc _, Blk3.new _ _ _ _ _, (H.out.later BW2).later (below_alloc _ _), BW2.trans ((below_alloc w2 _).mono BW2.size)⟩
  have HS : Hid ((St w2 (w.heap.size + 1) S (.slice d0 S.nc e0) (.slice d1 S.nl e1) (.slice d2 S.nw e2) ∧ FreeS w2 S (.slice d0 S.nc e0) (.slice d1 S.nl e1) (.slice d2 S.nw e2)) ∧ ApartD S (.slice d0 S.nc e0) (.slice d1 S.nl e1) (.slice d2 S.nw e2)) := ⟨⟨s2, fr2⟩, ap2⟩
  have hzw : w.heap.size < w2.heap.size := by have := q2.size; simp at this; omega
  have B23 : Hid (Below w2.heap.size w2 (w2.alloc (.cells #[.slice d0 S.nc e0, .slice d1 S.nl e1, .slice d2 S.nw e2] 32))) := below_alloc _ _
  have hbl : b < w2.heap.size := Nat.lt_trans hb hzw
  clear s2 fr2 ap2 q2 BW2 p0 p1 p2
  go_wp2_with fail
  generalize w2.alloc (.cells #[.slice d0 S.nc e0, .slice d1 S.nl e1, .slice d2 S.nw e2] 32) = w3 at HE B23 ⊢
  have hz3 : w2.heap.size < w3.heap.size := HE.out.2.1.lt
  refine (l2Write_is S b _ _ _ a s (-1) _ HE.out.2.2.1 hn2 hi).mono ?_
  rintro e w' ⟨rfl, rfl⟩
  obtain ⟨⟨⟨r0, r1, r2, r3⟩, f0, f1, f2, f3⟩, ⟨⟨t0, t1, t2⟩, ft0, ft1, ft2⟩, ⟨⟨p0, p1, p2⟩, pst⟩, _⟩ := HE.out
  clear pst
  go_wp2_with fail
  refine (l3At_any S b _ _ _ a s _ HE.out.2.2.1 hn2).mono ?_
  rintro e w5 ⟨r, rfl, hr, rfl⟩
  obtain rfl : r = false := bool_no hr hat
  clear hr hat
  go_wp2_with fail
  refine (l3Unlock_any S.nl S.l _ (w.heap.size + 1) a s _ (HS.out.1.1.later B23.out).2.1 (by omega)).mono ?_
  rintro e w6 ⟨y1, z1, rfl, O6, q6⟩
  have ft1' : w6.frozen? ⟨w2.heap.size, 1, none⟩ = false := (q6.frozen (p := ⟨w2.heap.size, 1, none⟩) hz3).trans ft1
  have t1' : w6.cell? ⟨w2.heap.size, 1, none⟩ = some (.slice d1 S.nl e1) := (q6.cell (p := ⟨w2.heap.size, 1, none⟩) hz3).trans t1
  have HE6 : Hid (CmE w b S (.slice a0 S.nc c0) (.slice a1 S.nl c1) (.slice a2 S.nw c2) w2.heap.size (.slice d0 S.nc e0) (.slice d1 S.nl e1) (.slice d2 S.nw e2) w6) := HE.out.later q6
  have B26 : Hid (Below w2.heap.size w2 w6) := B23.out.trans (q6.mono (Nat.le_of_lt hz3))
  obtain ⟨U, hU⟩ : ∃ U, unlL S.l a s S.nl = U := ⟨_, rfl⟩
  have HU : Hid (unlL S.l a s S.nl = U) := hU
  rw [hU] at O6
  have O6' : Hid (OwnM w6 w5.heap.size 57 5 (.slice y1 U.length z1) U.length U.flatten) := O6
  have hz6 : w5.heap.size ≤ w6.heap.size := q6.size
  rw [hU]
  clear O6 q6 hU r0 r1 r2 r3 f0 f1 f2 f3 t0 t1 t2 ft0 ft1 ft2 p0 p1 p2
  go_upto_region 12 with fail
  -- the world behind the store of the locks
  have BX : Hid (Below w.heap.size w (w6.setCell ⟨w2.heap.size, 1, none⟩ (.slice y1 U.length z1))) := HE6.out.2.2.2.setCell (Nat.le_of_lt hzw) _
  have B2X : Hid (Below w2.heap.size w2 (w6.setCell ⟨w2.heap.size, 1, none⟩ (.slice y1 U.length z1))) := B26.out.setCell (Nat.le_refl _) _
  have RX : Hid (Blk4 (w6.setCell ⟨w2.heap.size, 1, none⟩ (.slice y1 U.length z1)) w.heap.size (.int .i64 0) (.slice none 0 0) (.slice none 0 0) (.slice none 0 0)) := HE6.out.1.kept (Below.heap_setCell _ _ _ _ (Nat.ne_of_lt hzw))
  have TX : Hid (Blk3 (w6.setCell ⟨w2.heap.size, 1, none⟩ (.slice y1 U.length z1)) w2.heap.size (.slice d0 S.nc e0) (.slice y1 U.length z1) (.slice d2 S.nw e2)) := HE6.out.2.1.set1 _
  have OX : Hid (OwnM (w6.setCell ⟨w2.heap.size, 1, none⟩ (.slice y1 U.length z1)) w5.heap.size 57 5 (.slice y1 U.length z1) U.length U.flatten) := O6'.out.far hz3 _
  have LX : Hid (Lies (w6.setCell ⟨w2.heap.size, 1, none⟩ (.slice y1 U.length z1)) b S (.slice a0 S.nc c0) (.slice a1 S.nl c1) (.slice a2 S.nw c2)) := H.out.later BX.out
  have zX : w2.heap.size < (w6.setCell ⟨w2.heap.size, 1, none⟩ (.slice y1 U.length z1)).heap.size := TX.out.lt
  have z5X : w5.heap.size ≤ (w6.setCell ⟨w2.heap.size, 1, none⟩ (.slice y1 U.length z1)).heap.size := by simpa [World.setCell] using hz6
  generalize w6.setCell ⟨w2.heap.size, 1, none⟩ (.slice y1 U.length z1) = X0 at BX B2X RX TX OX LX zX z5X ⊢
  clear HE6 O6' B26 hz6 t1' ft1' HE
  go_wp2_with fail
  refine (cellAt_is S b _ _ _ a s (j : Int) _ LX.out hn0 hcl).mono ?_
  rintro e X1 ⟨rfl, hX1⟩
  obtain rfl := hX1.symm
  clear hX1
  obtain ⟨i0, hi0, hz0, hz1, hz2⟩ := info_parts info_Cell
  obtain ⟨cg, co, hd0, _⟩ := HS.out.1.1.1.at (k := 0) (by omega)
  subst hd0
  have hw1 : IntKind.i64.wrap ((j : Int) + 1) = ((j + 1 : Nat) : Int) := by simp [IntKind.wrap, IntKind.bits, IntKind.signed]; omega
  have hj1 : j + 1 ≤ S.nc := hjn
  have hj2 : j + 1 ≤ e0 := by omega
  have hj3 : j ≤ e0 := by omega
  have hj4 : j ≤ S.nc := by omega
  have hq1 : (0 : Int) ≤ (j : Int) + 1 := by omega
  have hq2 : (j : Int) + 1 ≤ (S.nc : Int) := by omega
  have hq3 : (0 : Int) ≤ (j : Int) + 1 ∧ (j : Int) + 1 ≤ (S.nc : Int) := ⟨hq1, hq2⟩
  obtain ⟨A, hA⟩ : ∃ A, (if e0 = j + 1 then (some ⟨cg, co, none⟩ : Option Addr) else some ⟨cg, co + (j + 1) * 3, none⟩) = A := ⟨_, rfl⟩
  have F0 : X0.drew.cell? ⟨w2.heap.size, 0, none⟩ = some (.slice (some ⟨cg, co, none⟩) S.nc e0) := TX.out.1.1
  have F1 : (X0.alloc (.cells #[] 86)).drew.cell? ⟨w2.heap.size, 0, none⟩ = some (.slice (some ⟨cg, co, none⟩) S.nc e0) := (TX.out.alloc _).1.1
  have F1d : (X0.alloc (.cells #[] 86)).cell? ⟨w2.heap.size, 0, none⟩ = some (.slice (some ⟨cg, co, none⟩) S.nc e0) := (TX.out.alloc _).1.1
  have F0d : X0.cell? ⟨w2.heap.size, 0, none⟩ = some (.slice (some ⟨cg, co, none⟩) S.nc e0) := TX.out.1.1
  have O0 : Hid (OwnM (X0.alloc (.cells #[] 86)).drew X0.heap.size 86 3 (.slice (some ⟨X0.heap.size, 0, none⟩) 0 0) 0 []) := OwnM.lit0 X0.drew X0.heap.size _ _ rfl
  have C0 : Hid (Row (X0.alloc (.cells #[] 86)).drew (w.heap.size + 1) 3 S.nc S.c (.slice (some ⟨cg, co, none⟩) S.nc e0)) := ((HS.out.1.1.1.later B2X.out).drewN 1).alloc _
  go_wp2_with fail
  refine wp_region_held_drew (S := fun _ => True) (by kernel_rfl) trivial (fun hS => ?_)
  refine wpAnyH_take (i := 1) (v := ?_) rfl (by kernel_rfl) (by kernel_rfl) (by kernel_rfl) (fun _ _ _ h => h) (Or.inl ⟨by kernel_rfl, ?_⟩) hS ?_
  rotate_left
  · intro wx hx
    go_simp
    try with_reducible rfl
  refine wpAnyH_take (i := 3) (v := ?_) rfl (by kernel_rfl) (by kernel_rfl) (by kernel_rfl) (fun _ _ _ h => h) (Or.inl ⟨by kernel_rfl, ?_⟩) hS ?_
  rotate_left
  · intro wx hx
    go_simp
    try with_reducible rfl
  refine wpAnyH_take (i := 6) (v := ?_) rfl (by kernel_rfl) (by kernel_rfl) (by kernel_rfl) (fun _ _ _ h => h) (Or.inl ⟨by kernel_rfl, ?_⟩) hS ?_
  rotate_left
  · intro wx hx
    go_simp
    try with_reducible rfl
  refine wpAnyH_take (i := 8) (v := ?_) rfl (by kernel_rfl) (by kernel_rfl) (by kernel_rfl) (fun _ _ _ h => h) (Or.inl ⟨by kernel_rfl, ?_⟩) hS ?_
  rotate_left
  · intro wx hx
    go_simp
    try with_reducible rfl
  refine wpAnyH_take (i := 9) (v := ?_) rfl (by kernel_rfl) (by kernel_rfl) (by kernel_rfl) (fun _ _ _ h => h) (Or.inl ⟨by kernel_rfl, ?_⟩) hS ?_
  rotate_left
  · intro wx hx
    go_simp
    try with_reducible rfl
  refine wpAnyH_ready (rs := [0, 2, 7]) (by kernel_rfl) (by simp) ?_
  refine AllReadyH.cons rfl (fun K hK => ?_) (AllReadyH.cons rfl (fun K hK => ?_) (AllReadyH.cons rfl (fun K hK => ?_) AllReadyH.nil))
  · go_simp
    refine hK.out _ _ trivial (fun hS => ?_)
    clear hK K
    refine wpAnyH_ready (rs := [2, 7]) (by kernel_rfl) (by simp) ?_
    refine AllReadyH.cons rfl (fun K hK => ?_) (AllReadyH.cons rfl (fun K hK => ?_) AllReadyH.nil)
    · go_simp
      refine hK.out _ _ trivial (fun hS => ?_)
      clear hK K
      refine wpAnyH_take (i := 4) (v := ?_) rfl (by kernel_rfl) (by kernel_rfl) (by kernel_rfl) (fun _ _ _ h => h) (Or.inl ⟨by kernel_rfl, ?_⟩) hS ?_
      rotate_left
      · intro wx hx
        go_simp
        try with_reducible rfl
      refine wpAnyH_ready (rs := [5, 7]) (by kernel_rfl) (by simp) ?_
      refine AllReadyH.cons rfl (fun K hK => ?_) (AllReadyH.cons rfl (fun K hK => ?_) AllReadyH.nil)
      · refine step_app 86 i0 (.agg #[.int .i64 0, .int .i64 0, .int .i64 0]) 3 24 (by rfl) _ _ 28 (by rfl) Tryz.underlying28 hi0 hz0 hz1 hz2 rfl (by omega) (by omega) _ X0.heap.size 0 [] (.slice (some ⟨X0.heap.size, 0, none⟩) 0 0) (by rfl) O0.out (w.heap.size + 1) j S.c (.slice (some ⟨cg, co, none⟩) j e0) (by rfl) (C0.out.head hj4 e0) (by omega) (by show X0.heap.size ≤ (World.alloc X0 _).heap.size; simp) ?_
        intro ao5 cp5 w7 O7 G7
        rw [Nat.zero_add, List.nil_append] at O7
        rw [show (0 : Nat) + j = j from Nat.zero_add j]
        have F2 : w7.cell? ⟨w2.heap.size, 0, none⟩ = some (.slice (some ⟨cg, co, none⟩) S.nc e0) := G7.cell F1 (fun q => by simp [Value.ownBlock] at q; omega)
        refine hK.out _ _ trivial (fun hS => ?_)
        clear hK K
        refine wpAnyH_ready (rs := [7]) (by kernel_rfl) (by simp) ?_
        refine AllReadyH.cons rfl (fun K hK => ?_) AllReadyH.nil
        go_simp
        refine hK.out _ _ trivial (fun hS => ?_)
        clear hK K
        refine wpAnyH_take (i := 10) (v := ?_) rfl (by kernel_rfl) (by kernel_rfl) (by kernel_rfl) (fun _ _ _ h => h) (Or.inl ⟨by kernel_rfl, ?_⟩) hS ?_
        rotate_left
        · intro wx hx
          go_simp
          try with_reducible rfl
        have C7 : Hid (Row w7 (w.heap.size + 1) 3 S.nc S.c (.slice (some ⟨cg, co, none⟩) S.nc e0)) := C0.out.turned G7 (fun h0 k hk q => by
          have h1 := (HS.out.1.1.1.lt h0 k hk).2
          rw [q] at hk
          simp [Value.ownBlock] at hk q
          omega)
        refine wpAnyH_ready (rs := [11]) (by kernel_rfl) (by simp) ?_
        refine AllReadyH.cons rfl (fun K hK => ?_) AllReadyH.nil
        refine step_app 86 i0 (.agg #[.int .i64 0, .int .i64 0, .int .i64 0]) 3 24 (by rfl) _ _ 28 (by rfl) Tryz.underlying28 hi0 hz0 hz1 hz2 rfl (by omega) (by omega) _ X0.heap.size j (nums S.c (j * 3)) (.slice ao5 j cp5) (by rfl) O7 (w.heap.size + 1) (S.nc - (j + 1)) (fun p => S.c ((j + 1) * 3 + p)) (.slice A (S.nc - (j + 1)) (e0 - (j + 1))) (by rfl) (hA ▸ C7.out.tailR (j + 1) g0) (by omega) (Nat.le_trans (by show X0.heap.size ≤ (World.alloc X0 _).heap.size; simp) G7.size) ?_
        intro ao6 cp6 wC O8 G8
        have keep : ∀ q, q < X0.heap.size → wC.heap[q]? = X0.heap[q]? := fun q hq => by
          have h1 : (X0.alloc (.cells #[] 86)).drew.heap[q]? = X0.heap[q]? := (below_alloc X0 (.cells #[] 86)).block q hq
          have h2 : w7.heap[q]? = (X0.alloc (.cells #[] 86)).drew.heap[q]? := G7.block q (by show q < (World.alloc X0 _).heap.size; simp; omega) (fun e => by simp [Value.ownBlock] at e; omega)
          have h3 : wC.heap[q]? = w7.heap[q]? := G8.block q (Nat.lt_of_lt_of_le (by show q < (World.alloc X0 _).heap.size; simp; omega) G7.size) (fun e => by have := (O7.block q e.symm).1; omega)
          exact h3.trans (h2.trans h1)
        have szC : X0.heap.size ≤ wC.heap.size := Nat.le_trans (Nat.le_trans (by show X0.heap.size ≤ (World.alloc X0 _).heap.size; simp) G7.size) G8.size
        have osC : wC.os = X0.os ∧ wC.tape = X0.tape ∧ wC.output = X0.output := ⟨G8.os.trans G7.os, G8.tape.trans G7.tape, G8.output.trans G7.output⟩
        have TC : Blk3 wC w2.heap.size (.slice (some ⟨cg, co, none⟩) S.nc e0) (.slice y1 U.length z1) (.slice d2 S.nw e2) := TX.out.kept (keep _ zX)
        refine hK.out _ _ trivial (fun hS => ?_)
        clear hK K
        refine wpAnyH_take (i := 12) (v := ?_) rfl (by kernel_rfl) (by kernel_rfl) (by kernel_rfl) (fun _ _ _ h => h) (Or.inl ⟨by kernel_rfl, ?_⟩) hS ?_
        rotate_left
        · intro wx hx
          go_simp
          try with_reducible rfl
        obtain ⟨⟨t0, t1, t2⟩, ft0, ft1, ft2⟩ := TC
        refine wpAnyH_ready (rs := [13]) (by kernel_rfl) (by simp) ?_
        refine AllReadyH.cons rfl (fun K hK => ?_) AllReadyH.nil
        go_simp
        refine hK.out _ _ trivial (fun hS => ?_)
        clear hK K
        have TC : Blk3 wC w2.heap.size (.slice (some ⟨cg, co, none⟩) S.nc e0) (.slice y1 U.length z1) (.slice d2 S.nw e2) := TX.out.kept (keep _ zX)
        have BC : Below X0.heap.size X0 wC := ⟨osC.1, osC.2.1, osC.2.2, szC, keep⟩
        have BX1 : Hid (Below w.heap.size w (wC.setCell ⟨w2.heap.size, 0, none⟩ (.slice ao6 (j + (S.nc - (j + 1))) cp6))) := (BX.out.trans (BC.mono BX.out.size)).setCell (Nat.le_of_lt hzw) _
        have B2X1 : Hid (Below w2.heap.size w2 (wC.setCell ⟨w2.heap.size, 0, none⟩ (.slice ao6 (j + (S.nc - (j + 1))) cp6))) := (B2X.out.trans (BC.mono (Nat.le_of_lt zX))).setCell (Nat.le_refl _) _
        have RX1 : Hid (Blk4 (wC.setCell ⟨w2.heap.size, 0, none⟩ (.slice ao6 (j + (S.nc - (j + 1))) cp6)) w.heap.size (.int .i64 0) (.slice none 0 0) (.slice none 0 0) (.slice none 0 0)) := (RX.out.later BC).kept (Below.heap_setCell _ _ _ _ (Nat.ne_of_lt hzw))
        have TX1 : Hid (Blk3 (wC.setCell ⟨w2.heap.size, 0, none⟩ (.slice ao6 (j + (S.nc - (j + 1))) cp6)) w2.heap.size (.slice ao6 (j + (S.nc - (j + 1))) cp6) (.slice y1 U.length z1) (.slice d2 S.nw e2)) := TC.set0 _
        have OX1 : Hid (OwnM (wC.setCell ⟨w2.heap.size, 0, none⟩ (.slice ao6 (j + (S.nc - (j + 1))) cp6)) w5.heap.size 57 5 (.slice y1 U.length z1) U.length U.flatten) := (OX.out.later BC).far hz3 _
        have hobX : Hid (∀ q, (Value.slice y1 U.length z1).ownBlock = some q → w5.heap.size ≤ q ∧ q < X0.heap.size) := OX.out.block
        have OC : Hid (OwnM (wC.setCell ⟨w2.heap.size, 0, none⟩ (.slice ao6 (j + (S.nc - (j + 1))) cp6)) X0.heap.size 86 3 (.slice ao6 (j + (S.nc - (j + 1))) cp6) (j + (S.nc - (j + 1))) (nums S.c (j * 3) ++ nums (fun p => S.c ((j + 1) * 3 + p)) ((S.nc - (j + 1)) * 3))) := O8.far zX _
        have hobC : Hid (∀ q, (Value.slice ao6 (j + (S.nc - (j + 1))) cp6).ownBlock = some q → X0.heap.size ≤ q ∧ q < (wC.setCell ⟨w2.heap.size, 0, none⟩ (.slice ao6 (j + (S.nc - (j + 1))) cp6)).heap.size) := OC.out.block
        have zX0 : w2.heap.size < X0.heap.size := zX
        have zX1 : w2.heap.size < (wC.setCell ⟨w2.heap.size, 0, none⟩ (.slice ao6 (j + (S.nc - (j + 1))) cp6)).heap.size := TX1.out.lt
        have z5X1 : w5.heap.size ≤ (wC.setCell ⟨w2.heap.size, 0, none⟩ (.slice ao6 (j + (S.nc - (j + 1))) cp6)).heap.size := Nat.le_trans z5X (by simpa [World.setCell] using szC)
        generalize wC.setCell ⟨w2.heap.size, 0, none⟩ (.slice ao6 (j + (S.nc - (j + 1))) cp6) = X1 at BX1 B2X1 RX1 TX1 OX1 OC hobC zX1 z5X1 ⊢
        clear BX B2X RX TX OX zX z5X LX F0 F1 F1d F0d F2 O0 C0 C7 O7 G7 O8 G8 keep szC osC TC BC t0 t1 t2 ft0 ft1 ft2
        have BX := BX1
        have B2X := B2X1
        have RX := RX1
        have TX := TX1
        have OX := OX1
        have zX := zX1
        have z5X := z5X1
        have LX : True := trivial
        clear BX1 B2X1 RX1 TX1 OX1 zX1 z5X1
        refine wpAnyH_done (by kernel_rfl) ?_ _
        obtain ⟨⟨t0, t1, t2⟩, _⟩ := TX.out
        go_simp
        go_wp2_with fail
        refine (l2AddWrite_any S.nw S.k d2 e2 (w.heap.size + 1) a s s 4 _ (HS.out.1.1.2.2.later B2X.out) (by omega) g2).mono ?_
        rintro e w7 ⟨k', y2, z2, hk', rfl, O7, q7⟩
        obtain rfl : k' = k := hk'.one HK.out
        have BY : Hid (Below w.heap.size w w7) := BX.out.trans (q7.mono BX.out.size)
        have B2Y : Hid (Below w2.heap.size w2 w7) := B2X.out.trans (q7.mono (Nat.le_of_lt zX))
        have RY : Hid (Blk4 w7 w.heap.size (.int .i64 0) (.slice none 0 0) (.slice none 0 0) (.slice none 0 0)) := RX.out.later q7
        have TY : Hid (Blk3 w7 w2.heap.size (.slice ao6 (j + (S.nc - (j + 1))) cp6) (.slice y1 U.length z1) (.slice d2 S.nw e2)) := TX.out.later q7
        have OY : Hid (OwnM w7 w5.heap.size 57 5 (.slice y1 U.length z1) U.length U.flatten) := OX.out.later q7
        have hob : Hid (∀ q, (Value.slice y1 U.length z1).ownBlock = some q → w5.heap.size ≤ q ∧ q < X1.heap.size) := OX.out.block
        have PY : Hid (OwnM w7 X1.heap.size 92 4 (.slice y2 (S.nw + 1) z2) (S.nw + 1) (nums S.k (k' * 4) ++ [a, s, s, 4] ++ nums (fun p => S.k (k' * 4 + p)) ((S.nw - k') * 4))) := O7
        have hkn : k' ≤ S.nw := hk'.1
        have hqX : Hid (Below X1.heap.size X1 w7) := q7
        clear O7 q7 hk' OX RX TX LX BX B2X HK t0 t1 t2
        obtain ⟨⟨t0, t1, t2⟩, ft0, ft1, ft2⟩ := TY.out
        go_upto_region 16 with fail
        have RZ := RY.out.kept (Below.heap_setCell w7 ⟨w2.heap.size, 2, none⟩ (.slice y2 (S.nw + 1) z2) _ (Nat.ne_of_lt hzw))
        have TZ := TY.out.set2 (.slice y2 (S.nw + 1) z2)
        have BZ : Hid (Below w.heap.size w (w7.setCell ⟨w2.heap.size, 2, none⟩ (.slice y2 (S.nw + 1) z2))) := BY.out.setCell (Nat.le_of_lt hzw) _
        have B2Z : Hid (Below w2.heap.size w2 (w7.setCell ⟨w2.heap.size, 2, none⟩ (.slice y2 (S.nw + 1) z2))) := B2Y.out.setCell (Nat.le_refl _) _
        have OZ : Hid (OwnM (w7.setCell ⟨w2.heap.size, 2, none⟩ (.slice y2 (S.nw + 1) z2)) w5.heap.size 57 5 (.slice y1 U.length z1) U.length U.flatten) := OY.out.far hz3 _
        have PZ : Hid (OwnM (w7.setCell ⟨w2.heap.size, 2, none⟩ (.slice y2 (S.nw + 1) z2)) X1.heap.size 92 4 (.slice y2 (S.nw + 1) z2) (S.nw + 1) (nums S.k (k' * 4) ++ [a, s, s, 4] ++ nums (fun p => S.k (k' * 4 + p)) ((S.nw - k') * 4))) := PY.out.far zX _
        have OC8 : Hid (OwnM (w7.setCell ⟨w2.heap.size, 2, none⟩ (.slice y2 (S.nw + 1) z2)) X0.heap.size 86 3 (.slice ao6 (j + (S.nc - (j + 1))) cp6) (j + (S.nc - (j + 1))) (nums S.c (j * 3) ++ nums (fun p => S.c ((j + 1) * 3 + p)) ((S.nc - (j + 1)) * 3))) := (OC.out.later hqX.out).far zX0 _
        generalize w7.setCell ⟨w2.heap.size, 2, none⟩ (.slice y2 (S.nw + 1) z2) = w8 at RZ TZ BZ B2Z OZ PZ OC8 ⊢
        clear t0 t1 t2 ft0 ft1 ft2 RY TY BY B2Y OY PY
        obtain ⟨⟨r0, r1, r2, r3⟩, f0, f1, f2, f3⟩ := RZ
        obtain ⟨⟨t0, t1, t2⟩, _⟩ := TZ
        go_wp2
        have hone := selD_one (F := S.c) (m := 3) (D := goneK a s) (j := j) (goneK_iff.2 hcl.at.2.1) S.nc hjn (fun i hi' hne => goneK_not (fun q => hne (cell_once HZ.out hi' hjn q hcl.at.2.1)))
        have hN : (unlC S.c a s S.nc).length = j + (S.nc - (j + 1)) := by
          have : (unlC S.c a s S.nc).length = S.nc - 1 := hone.1
          omega
        have lenC : (nums S.c (j * 3) ++ nums (fun p => S.c ((j + 1) * 3 + p)) ((S.nc - (j + 1)) * 3)).length = (j + (S.nc - (j + 1))) * 3 := by
          rw [List.length_append, nums_length, nums_length]
          omega
        have rC0 := (OC8.out.own lenC).row
        have rC : Row w8 (w.heap.size + 1) 3 (j + (S.nc - (j + 1))) (fun p => (unlC S.c a s S.nc).flatten.getD p 0) (.slice ao6 (j + (S.nc - (j + 1))) cp6) := (rC0.1.congr (fun p hp => (roll_cells hjn p (by omega)).trans (hone.2 p (by omega)).symm)).mono (by omega)
        have fC : Free w8 ((j + (S.nc - (j + 1))) * 3) (.slice ao6 (j + (S.nc - (j + 1))) cp6) := rC0.2
        have lenL : U.flatten.length = U.length * 5 := flat_len U (by rw [← HU.out]; exact selD_len _ _ _ _)
        have lenW : (nums S.k (k' * 4) ++ [a, s, s, 4] ++ nums (fun p => S.k (k' * 4 + p)) ((S.nw - k') * 4)).length = (S.nw + 1) * 4 := by
          rw [List.length_append, List.length_append, nums_length, nums_length]
          simp only [List.length_cons, List.length_nil]
          omega
        have rL := (OZ.out.own lenL).row
        have rW := (PZ.out.own lenW).row
        have S8 : St w8 (w.heap.size + 1) (rollS S a s k') (.slice ao6 (j + (S.nc - (j + 1))) cp6) (.slice y1 U.length z1) (.slice y2 (S.nw + 1) z2) := by
          unfold rollS
          rw [HU.out, hN]
          exact ⟨rC, rL.1.mono (by omega), rW.1.mono (by omega)⟩
        have F8 : FreeS w8 (rollS S a s k') (.slice ao6 (j + (S.nc - (j + 1))) cp6) (.slice y1 U.length z1) (.slice y2 (S.nw + 1) z2) := by
          unfold rollS
          rw [HU.out, hN]
          exact ⟨fC, rL.2, rW.2⟩
        have A8 : ApartD (rollS S a s k') (.slice ao6 (j + (S.nc - (j + 1))) cp6) (.slice y1 U.length z1) (.slice y2 (S.nw + 1) z2) :=
          apart_mk S8.1 S8.2.1 (fun i i' h1 h2 => by have := (hobC.out i h1).1; have := (hobX.out i' h2).2; omega) (fun i i' h1 h2 => by have := (hobC.out i h1).2; have := (PZ.out.block i' h2).1; omega) (fun i i' h1 h2 => by have := (hob.out i h1).2; have := (PZ.out.block i' h2).1; omega)
        have hlo : (w.heap.size : Nat) < w.heap.size + 1 := Nat.lt_succ_self _
        have hul : (rollS S a s k').nl = U.length := by unfold rollS; rw [HU.out]
        have hcl' : (rollS S a s k').nc = j + (S.nc - (j + 1)) := hN
        refine bodyPost_ret (v := .agg #[.int .i64 0, .slice ao6 (j + (S.nc - (j + 1))) cp6, .slice y1 U.length z1, .slice y2 (S.nw + 1) z2]) (by simp [results, Tryz.results49, go_sem, r0, r1, r2, r3]) rfl ?_
        refine ⟨ao6, cp6, y1, z1, y2, z2, ?_, ?_, (((BZ.out.setCell (Nat.le_refl _) _).setCell (Nat.le_refl _) _).setCell (Nat.le_refl _) _).setCell (Nat.le_refl _) _⟩
        · rw [hul, hcl']; rfl
        · rw [hul, hcl']
          exact ⟨((((S8.far hlo _).far hlo _).far hlo _).far hlo _).mono (by omega), (((F8.far _ _).far _ _).far _ _).far _ _, A8⟩
      · go_simp
        refine hK.out _ _ trivial (fun hS => ?_)
        clear hK K
        refine wpAnyH_take (i := 10) (v := ?_) rfl (by kernel_rfl) (by kernel_rfl) (by kernel_rfl) (fun _ _ _ h => h) (Or.inl ⟨by kernel_rfl, ?_⟩) hS ?_
        rotate_left
        · intro wx hx
          go_simp
          try with_reducible rfl
        refine wpAnyH_ready (rs := [5]) (by kernel_rfl) (by simp) ?_
        refine AllReadyH.cons rfl (fun K hK => ?_) AllReadyH.nil
        refine step_app 86 i0 (.agg #[.int .i64 0, .int .i64 0, .int .i64 0]) 3 24 (by rfl) _ _ 28 (by rfl) Tryz.underlying28 hi0 hz0 hz1 hz2 rfl (by omega) (by omega) _ X0.heap.size 0 [] (.slice (some ⟨X0.heap.size, 0, none⟩) 0 0) (by rfl) O0.out (w.heap.size + 1) j S.c (.slice (some ⟨cg, co, none⟩) j e0) (by rfl) (C0.out.head hj4 e0) (by omega) (by show X0.heap.size ≤ (World.alloc X0 _).heap.size; simp) ?_
        intro ao5 cp5 w7 O7 G7
        rw [Nat.zero_add, List.nil_append] at O7
        rw [show (0 : Nat) + j = j from Nat.zero_add j]
        have F2 : w7.cell? ⟨w2.heap.size, 0, none⟩ = some (.slice (some ⟨cg, co, none⟩) S.nc e0) := G7.cell F1 (fun q => by simp [Value.ownBlock] at q; omega)
        refine hK.out _ _ trivial (fun hS => ?_)
        clear hK K
        have C7 : Hid (Row w7 (w.heap.size + 1) 3 S.nc S.c (.slice (some ⟨cg, co, none⟩) S.nc e0)) := C0.out.turned G7 (fun h0 k hk q => by
          have h1 := (HS.out.1.1.1.lt h0 k hk).2
          rw [q] at hk
          simp [Value.ownBlock] at hk q
          omega)
        refine wpAnyH_ready (rs := [11]) (by kernel_rfl) (by simp) ?_
        refine AllReadyH.cons rfl (fun K hK => ?_) AllReadyH.nil
        refine step_app 86 i0 (.agg #[.int .i64 0, .int .i64 0, .int .i64 0]) 3 24 (by rfl) _ _ 28 (by rfl) Tryz.underlying28 hi0 hz0 hz1 hz2 rfl (by omega) (by omega) _ X0.heap.size j (nums S.c (j * 3)) (.slice ao5 j cp5) (by rfl) O7 (w.heap.size + 1) (S.nc - (j + 1)) (fun p => S.c ((j + 1) * 3 + p)) (.slice A (S.nc - (j + 1)) (e0 - (j + 1))) (by rfl) (hA ▸ C7.out.tailR (j + 1) g0) (by omega) (Nat.le_trans (by show X0.heap.size ≤ (World.alloc X0 _).heap.size; simp) G7.size) ?_
        intro ao6 cp6 wC O8 G8
        have keep : ∀ q, q < X0.heap.size → wC.heap[q]? = X0.heap[q]? := fun q hq => by
          have h1 : (X0.alloc (.cells #[] 86)).drew.heap[q]? = X0.heap[q]? := (below_alloc X0 (.cells #[] 86)).block q hq
          have h2 : w7.heap[q]? = (X0.alloc (.cells #[] 86)).drew.heap[q]? := G7.block q (by show q < (World.alloc X0 _).heap.size; simp; omega) (fun e => by simp [Value.ownBlock] at e; omega)
          have h3 : wC.heap[q]? = w7.heap[q]? := G8.block q (Nat.lt_of_lt_of_le (by show q < (World.alloc X0 _).heap.size; simp; omega) G7.size) (fun e => by have := (O7.block q e.symm).1; omega)
          exact h3.trans (h2.trans h1)
        have szC : X0.heap.size ≤ wC.heap.size := Nat.le_trans (Nat.le_trans (by show X0.heap.size ≤ (World.alloc X0 _).heap.size; simp) G7.size) G8.size
        have osC : wC.os = X0.os ∧ wC.tape = X0.tape ∧ wC.output = X0.output := ⟨G8.os.trans G7.os, G8.tape.trans G7.tape, G8.output.trans G7.output⟩
        have TC : Blk3 wC w2.heap.size (.slice (some ⟨cg, co, none⟩) S.nc e0) (.slice y1 U.length z1) (.slice d2 S.nw e2) := TX.out.kept (keep _ zX)
        refine hK.out _ _ trivial (fun hS => ?_)
        clear hK K
        refine wpAnyH_take (i := 12) (v := ?_) rfl (by kernel_rfl) (by kernel_rfl) (by kernel_rfl) (fun _ _ _ h => h) (Or.inl ⟨by kernel_rfl, ?_⟩) hS ?_
        rotate_left
        · intro wx hx
          go_simp
          try with_reducible rfl
        obtain ⟨⟨t0, t1, t2⟩, ft0, ft1, ft2⟩ := TC
        refine wpAnyH_ready (rs := [13]) (by kernel_rfl) (by simp) ?_
        refine AllReadyH.cons rfl (fun K hK => ?_) AllReadyH.nil
        go_simp
        refine hK.out _ _ trivial (fun hS => ?_)
        clear hK K
        have TC : Blk3 wC w2.heap.size (.slice (some ⟨cg, co, none⟩) S.nc e0) (.slice y1 U.length z1) (.slice d2 S.nw e2) := TX.out.kept (keep _ zX)
        have BC : Below X0.heap.size X0 wC := ⟨osC.1, osC.2.1, osC.2.2, szC, keep⟩
        have BX1 : Hid (Below w.heap.size w (wC.setCell ⟨w2.heap.size, 0, none⟩ (.slice ao6 (j + (S.nc - (j + 1))) cp6))) := (BX.out.trans (BC.mono BX.out.size)).setCell (Nat.le_of_lt hzw) _
        have B2X1 : Hid (Below w2.heap.size w2 (wC.setCell ⟨w2.heap.size, 0, none⟩ (.slice ao6 (j + (S.nc - (j + 1))) cp6))) := (B2X.out.trans (BC.mono (Nat.le_of_lt zX))).setCell (Nat.le_refl _) _
        have RX1 : Hid (Blk4 (wC.setCell ⟨w2.heap.size, 0, none⟩ (.slice ao6 (j + (S.nc - (j + 1))) cp6)) w.heap.size (.int .i64 0) (.slice none 0 0) (.slice none 0 0) (.slice none 0 0)) := (RX.out.later BC).kept (Below.heap_setCell _ _ _ _ (Nat.ne_of_lt hzw))
        have TX1 : Hid (Blk3 (wC.setCell ⟨w2.heap.size, 0, none⟩ (.slice ao6 (j + (S.nc - (j + 1))) cp6)) w2.heap.size (.slice ao6 (j + (S.nc - (j + 1))) cp6) (.slice y1 U.length z1) (.slice d2 S.nw e2)) := TC.set0 _
        have OX1 : Hid (OwnM (wC.setCell ⟨w2.heap.size, 0, none⟩ (.slice ao6 (j + (S.nc - (j + 1))) cp6)) w5.heap.size 57 5 (.slice y1 U.length z1) U.length U.flatten) := (OX.out.later BC).far hz3 _
        have hobX : Hid (∀ q, (Value.slice y1 U.length z1).ownBlock = some q → w5.heap.size ≤ q ∧ q < X0.heap.size) := OX.out.block
        have OC : Hid (OwnM (wC.setCell ⟨w2.heap.size, 0, none⟩ (.slice ao6 (j + (S.nc - (j + 1))) cp6)) X0.heap.size 86 3 (.slice ao6 (j + (S.nc - (j + 1))) cp6) (j + (S.nc - (j + 1))) (nums S.c (j * 3) ++ nums (fun p => S.c ((j + 1) * 3 + p)) ((S.nc - (j + 1)) * 3))) := O8.far zX _
        have hobC : Hid (∀ q, (Value.slice ao6 (j + (S.nc - (j + 1))) cp6).ownBlock = some q → X0.heap.size ≤ q ∧ q < (wC.setCell ⟨w2.heap.size, 0, none⟩ (.slice ao6 (j + (S.nc - (j + 1))) cp6)).heap.size) := OC.out.block
        have zX0 : w2.heap.size < X0.heap.size := zX
        have zX1 : w2.heap.size < (wC.setCell ⟨w2.heap.size, 0, none⟩ (.slice ao6 (j + (S.nc - (j + 1))) cp6)).heap.size := TX1.out.lt
        have z5X1 : w5.heap.size ≤ (wC.setCell ⟨w2.heap.size, 0, none⟩ (.slice ao6 (j + (S.nc - (j + 1))) cp6)).heap.size := Nat.le_trans z5X (by simpa [World.setCell] using szC)
        generalize wC.setCell ⟨w2.heap.size, 0, none⟩ (.slice ao6 (j + (S.nc - (j + 1))) cp6) = X1 at BX1 B2X1 RX1 TX1 OX1 OC hobC zX1 z5X1 ⊢
        clear BX B2X RX TX OX zX z5X LX F0 F1 F1d F0d F2 O0 C0 C7 O7 G7 O8 G8 keep szC osC TC BC t0 t1 t2 ft0 ft1 ft2
        have BX := BX1
        have B2X := B2X1
        have RX := RX1
        have TX := TX1
        have OX := OX1
        have zX := zX1
        have z5X := z5X1
        have LX : True := trivial
        clear BX1 B2X1 RX1 TX1 OX1 zX1 z5X1
        refine wpAnyH_done (by kernel_rfl) ?_ _
        obtain ⟨⟨t0, t1, t2⟩, _⟩ := TX.out
        go_simp
        go_wp2_with fail
        refine (l2AddWrite_any S.nw S.k d2 e2 (w.heap.size + 1) a s s 4 _ (HS.out.1.1.2.2.later B2X.out) (by omega) g2).mono ?_
        rintro e w7 ⟨k', y2, z2, hk', rfl, O7, q7⟩
        obtain rfl : k' = k := hk'.one HK.out
        have BY : Hid (Below w.heap.size w w7) := BX.out.trans (q7.mono BX.out.size)
        have B2Y : Hid (Below w2.heap.size w2 w7) := B2X.out.trans (q7.mono (Nat.le_of_lt zX))
        have RY : Hid (Blk4 w7 w.heap.size (.int .i64 0) (.slice none 0 0) (.slice none 0 0) (.slice none 0 0)) := RX.out.later q7
        have TY : Hid (Blk3 w7 w2.heap.size (.slice ao6 (j + (S.nc - (j + 1))) cp6) (.slice y1 U.length z1) (.slice d2 S.nw e2)) := TX.out.later q7
        have OY : Hid (OwnM w7 w5.heap.size 57 5 (.slice y1 U.length z1) U.length U.flatten) := OX.out.later q7
        have hob : Hid (∀ q, (Value.slice y1 U.length z1).ownBlock = some q → w5.heap.size ≤ q ∧ q < X1.heap.size) := OX.out.block
        have PY : Hid (OwnM w7 X1.heap.size 92 4 (.slice y2 (S.nw + 1) z2) (S.nw + 1) (nums S.k (k' * 4) ++ [a, s, s, 4] ++ nums (fun p => S.k (k' * 4 + p)) ((S.nw - k') * 4))) := O7
        have hkn : k' ≤ S.nw := hk'.1
        have hqX : Hid (Below X1.heap.size X1 w7) := q7
        clear O7 q7 hk' OX RX TX LX BX B2X HK t0 t1 t2
        obtain ⟨⟨t0, t1, t2⟩, ft0, ft1, ft2⟩ := TY.out
        go_upto_region 16 with fail
        have RZ := RY.out.kept (Below.heap_setCell w7 ⟨w2.heap.size, 2, none⟩ (.slice y2 (S.nw + 1) z2) _ (Nat.ne_of_lt hzw))
        have TZ := TY.out.set2 (.slice y2 (S.nw + 1) z2)
        have BZ : Hid (Below w.heap.size w (w7.setCell ⟨w2.heap.size, 2, none⟩ (.slice y2 (S.nw + 1) z2))) := BY.out.setCell (Nat.le_of_lt hzw) _
        have B2Z : Hid (Below w2.heap.size w2 (w7.setCell ⟨w2.heap.size, 2, none⟩ (.slice y2 (S.nw + 1) z2))) := B2Y.out.setCell (Nat.le_refl _) _
        have OZ : Hid (OwnM (w7.setCell ⟨w2.heap.size, 2, none⟩ (.slice y2 (S.nw + 1) z2)) w5.heap.size 57 5 (.slice y1 U.length z1) U.length U.flatten) := OY.out.far hz3 _
        have PZ : Hid (OwnM (w7.setCell ⟨w2.heap.size, 2, none⟩ (.slice y2 (S.nw + 1) z2)) X1.heap.size 92 4 (.slice y2 (S.nw + 1) z2) (S.nw + 1) (nums S.k (k' * 4) ++ [a, s, s, 4] ++ nums (fun p => S.k (k' * 4 + p)) ((S.nw - k') * 4))) := PY.out.far zX _
        have OC8 : Hid (OwnM (w7.setCell ⟨w2.heap.size, 2, none⟩ (.slice y2 (S.nw + 1) z2)) X0.heap.size 86 3 (.slice ao6 (j + (S.nc - (j + 1))) cp6) (j + (S.nc - (j + 1))) (nums S.c (j * 3) ++ nums (fun p => S.c ((j + 1) * 3 + p)) ((S.nc - (j + 1)) * 3))) := (OC.out.later hqX.out).far zX0 _
        generalize w7.setCell ⟨w2.heap.size, 2, none⟩ (.slice y2 (S.nw + 1) z2) = w8 at RZ TZ BZ B2Z OZ PZ OC8 ⊢
        clear t0 t1 t2 ft0 ft1 ft2 RY TY BY B2Y OY PY
        obtain ⟨⟨r0, r1, r2, r3⟩, f0, f1, f2, f3⟩ := RZ
        obtain ⟨⟨t0, t1, t2⟩, _⟩ := TZ
        go_wp2
        have hone := selD_one (F := S.c) (m := 3) (D := goneK a s) (j := j) (goneK_iff.2 hcl.at.2.1) S.nc hjn (fun i hi' hne => goneK_not (fun q => hne (cell_once HZ.out hi' hjn q hcl.at.2.1)))
        have hN : (unlC S.c a s S.nc).length = j + (S.nc - (j + 1)) := by
          have : (unlC S.c a s S.nc).length = S.nc - 1 := hone.1
          omega
        have lenC : (nums S.c (j * 3) ++ nums (fun p => S.c ((j + 1) * 3 + p)) ((S.nc - (j + 1)) * 3)).length = (j + (S.nc - (j + 1))) * 3 := by
          rw [List.length_append, nums_length, nums_length]
          omega
        have rC0 := (OC8.out.own lenC).row
        have rC : Row w8 (w.heap.size + 1) 3 (j + (S.nc - (j + 1))) (fun p => (unlC S.c a s S.nc).flatten.getD p 0) (.slice ao6 (j + (S.nc - (j + 1))) cp6) := (rC0.1.congr (fun p hp => (roll_cells hjn p (by omega)).trans (hone.2 p (by omega)).symm)).mono (by omega)
        have fC : Free w8 ((j + (S.nc - (j + 1))) * 3) (.slice ao6 (j + (S.nc - (j + 1))) cp6) := rC0.2
        have lenL : U.flatten.length = U.length * 5 := flat_len U (by rw [← HU.out]; exact selD_len _ _ _ _)
        have lenW : (nums S.k (k' * 4) ++ [a, s, s, 4] ++ nums (fun p => S.k (k' * 4 + p)) ((S.nw - k') * 4)).length = (S.nw + 1) * 4 := by
          rw [List.length_append, List.length_append, nums_length, nums_length]
          simp only [List.length_cons, List.length_nil]
          omega
        have rL := (OZ.out.own lenL).row
        have rW := (PZ.out.own lenW).row
        have S8 : St w8 (w.heap.size + 1) (rollS S a s k') (.slice ao6 (j + (S.nc - (j + 1))) cp6) (.slice y1 U.length z1) (.slice y2 (S.nw + 1) z2) := by
          unfold rollS
          rw [HU.out, hN]
          exact ⟨rC, rL.1.mono (by omega), rW.1.mono (by omega)⟩
        have F8 : FreeS w8 (rollS S a s k') (.slice ao6 (j + (S.nc - (j + 1))) cp6) (.slice y1 U.length z1) (.slice y2 (S.nw + 1) z2) := by
          unfold rollS
          rw [HU.out, hN]
          exact ⟨fC, rL.2, rW.2⟩
        have A8 : ApartD (rollS S a s k') (.slice ao6 (j + (S.nc - (j + 1))) cp6) (.slice y1 U.length z1) (.slice y2 (S.nw + 1) z2) :=
          apart_mk S8.1 S8.2.1 (fun i i' h1 h2 => by have := (hobC.out i h1).1; have := (hobX.out i' h2).2; omega) (fun i i' h1 h2 => by have := (hobC.out i h1).2; have := (PZ.out.block i' h2).1; omega) (fun i i' h1 h2 => by have := (hob.out i h1).2; have := (PZ.out.block i' h2).1; omega)
        have hlo : (w.heap.size : Nat) < w.heap.size + 1 := Nat.lt_succ_self _
        have hul : (rollS S a s k').nl = U.length := by unfold rollS; rw [HU.out]
        have hcl' : (rollS S a s k').nc = j + (S.nc - (j + 1)) := hN
        refine bodyPost_ret (v := .agg #[.int .i64 0, .slice ao6 (j + (S.nc - (j + 1))) cp6, .slice y1 U.length z1, .slice y2 (S.nw + 1) z2]) (by simp [results, Tryz.results49, go_sem, r0, r1, r2, r3]) rfl ?_
        refine ⟨ao6, cp6, y1, z1, y2, z2, ?_, ?_, (((BZ.out.setCell (Nat.le_refl _) _).setCell (Nat.le_refl _) _).setCell (Nat.le_refl _) _).setCell (Nat.le_refl _) _⟩
        · rw [hul, hcl']; rfl
        · rw [hul, hcl']
          exact ⟨((((S8.far hlo _).far hlo _).far hlo _).far hlo _).mono (by omega), (((F8.far _ _).far _ _).far _ _).far _ _, A8⟩
    · go_simp
      refine hK.out _ _ trivial (fun hS => ?_)
      clear hK K
      refine wpAnyH_take (i := 10) (v := ?_) rfl (by kernel_rfl) (by kernel_rfl) (by kernel_rfl) (fun _ _ _ h => h) (Or.inl ⟨by kernel_rfl, ?_⟩) hS ?_
      rotate_left
      · intro wx hx
        go_simp
        try with_reducible rfl
      refine wpAnyH_ready (rs := [2]) (by kernel_rfl) (by simp) ?_
      refine AllReadyH.cons rfl (fun K hK => ?_) AllReadyH.nil
      go_simp
      refine hK.out _ _ trivial (fun hS => ?_)
      clear hK K
      refine wpAnyH_take (i := 4) (v := ?_) rfl (by kernel_rfl) (by kernel_rfl) (by kernel_rfl) (fun _ _ _ h => h) (Or.inl ⟨by kernel_rfl, ?_⟩) hS ?_
      rotate_left
      · intro wx hx
        go_simp
        try with_reducible rfl
      refine wpAnyH_ready (rs := [5]) (by kernel_rfl) (by simp) ?_
      refine AllReadyH.cons rfl (fun K hK => ?_) AllReadyH.nil
      refine step_app 86 i0 (.agg #[.int .i64 0, .int .i64 0, .int .i64 0]) 3 24 (by rfl) _ _ 28 (by rfl) Tryz.underlying28 hi0 hz0 hz1 hz2 rfl (by omega) (by omega) _ X0.heap.size 0 [] (.slice (some ⟨X0.heap.size, 0, none⟩) 0 0) (by rfl) O0.out (w.heap.size + 1) j S.c (.slice (some ⟨cg, co, none⟩) j e0) (by rfl) (C0.out.head hj4 e0) (by omega) (by show X0.heap.size ≤ (World.alloc X0 _).heap.size; simp) ?_
      intro ao5 cp5 w7 O7 G7
      rw [Nat.zero_add, List.nil_append] at O7
      rw [show (0 : Nat) + j = j from Nat.zero_add j]
      have F2 : w7.cell? ⟨w2.heap.size, 0, none⟩ = some (.slice (some ⟨cg, co, none⟩) S.nc e0) := G7.cell F1 (fun q => by simp [Value.ownBlock] at q; omega)
      refine hK.out _ _ trivial (fun hS => ?_)
      clear hK K
      have C7 : Hid (Row w7 (w.heap.size + 1) 3 S.nc S.c (.slice (some ⟨cg, co, none⟩) S.nc e0)) := C0.out.turned G7 (fun h0 k hk q => by
        have h1 := (HS.out.1.1.1.lt h0 k hk).2
        rw [q] at hk
        simp [Value.ownBlock] at hk q
        omega)
      refine wpAnyH_ready (rs := [11]) (by kernel_rfl) (by simp) ?_
      refine AllReadyH.cons rfl (fun K hK => ?_) AllReadyH.nil
      refine step_app 86 i0 (.agg #[.int .i64 0, .int .i64 0, .int .i64 0]) 3 24 (by rfl) _ _ 28 (by rfl) Tryz.underlying28 hi0 hz0 hz1 hz2 rfl (by omega) (by omega) _ X0.heap.size j (nums S.c (j * 3)) (.slice ao5 j cp5) (by rfl) O7 (w.heap.size + 1) (S.nc - (j + 1)) (fun p => S.c ((j + 1) * 3 + p)) (.slice A (S.nc - (j + 1)) (e0 - (j + 1))) (by rfl) (hA ▸ C7.out.tailR (j + 1) g0) (by omega) (Nat.le_trans (by show X0.heap.size ≤ (World.alloc X0 _).heap.size; simp) G7.size) ?_
      intro ao6 cp6 wC O8 G8
      have keep : ∀ q, q < X0.heap.size → wC.heap[q]? = X0.heap[q]? := fun q hq => by
        have h1 : (X0.alloc (.cells #[] 86)).drew.heap[q]? = X0.heap[q]? := (below_alloc X0 (.cells #[] 86)).block q hq
        have h2 : w7.heap[q]? = (X0.alloc (.cells #[] 86)).drew.heap[q]? := G7.block q (by show q < (World.alloc X0 _).heap.size; simp; omega) (fun e => by simp [Value.ownBlock] at e; omega)
        have h3 : wC.heap[q]? = w7.heap[q]? := G8.block q (Nat.lt_of_lt_of_le (by show q < (World.alloc X0 _).heap.size; simp; omega) G7.size) (fun e => by have := (O7.block q e.symm).1; omega)
        exact h3.trans (h2.trans h1)
      have szC : X0.heap.size ≤ wC.heap.size := Nat.le_trans (Nat.le_trans (by show X0.heap.size ≤ (World.alloc X0 _).heap.size; simp) G7.size) G8.size
      have osC : wC.os = X0.os ∧ wC.tape = X0.tape ∧ wC.output = X0.output := ⟨G8.os.trans G7.os, G8.tape.trans G7.tape, G8.output.trans G7.output⟩
      have TC : Blk3 wC w2.heap.size (.slice (some ⟨cg, co, none⟩) S.nc e0) (.slice y1 U.length z1) (.slice d2 S.nw e2) := TX.out.kept (keep _ zX)
      refine hK.out _ _ trivial (fun hS => ?_)
      clear hK K
      refine wpAnyH_take (i := 12) (v := ?_) rfl (by kernel_rfl) (by kernel_rfl) (by kernel_rfl) (fun _ _ _ h => h) (Or.inl ⟨by kernel_rfl, ?_⟩) hS ?_
      rotate_left
      · intro wx hx
        go_simp
        try with_reducible rfl
      obtain ⟨⟨t0, t1, t2⟩, ft0, ft1, ft2⟩ := TC
      refine wpAnyH_ready (rs := [13]) (by kernel_rfl) (by simp) ?_
      refine AllReadyH.cons rfl (fun K hK => ?_) AllReadyH.nil
      go_simp
      refine hK.out _ _ trivial (fun hS => ?_)
      clear hK K
      have TC : Blk3 wC w2.heap.size (.slice (some ⟨cg, co, none⟩) S.nc e0) (.slice y1 U.length z1) (.slice d2 S.nw e2) := TX.out.kept (keep _ zX)
      have BC : Below X0.heap.size X0 wC := ⟨osC.1, osC.2.1, osC.2.2, szC, keep⟩
      have BX1 : Hid (Below w.heap.size w (wC.setCell ⟨w2.heap.size, 0, none⟩ (.slice ao6 (j + (S.nc - (j + 1))) cp6))) := (BX.out.trans (BC.mono BX.out.size)).setCell (Nat.le_of_lt hzw) _
      have B2X1 : Hid (Below w2.heap.size w2 (wC.setCell ⟨w2.heap.size, 0, none⟩ (.slice ao6 (j + (S.nc - (j + 1))) cp6))) := (B2X.out.trans (BC.mono (Nat.le_of_lt zX))).setCell (Nat.le_refl _) _
      have RX1 : Hid (Blk4 (wC.setCell ⟨w2.heap.size, 0, none⟩ (.slice ao6 (j + (S.nc - (j + 1))) cp6)) w.heap.size (.int .i64 0) (.slice none 0 0) (.slice none 0 0) (.slice none 0 0)) := (RX.out.later BC).kept (Below.heap_setCell _ _ _ _ (Nat.ne_of_lt hzw))
      have TX1 : Hid (Blk3 (wC.setCell ⟨w2.heap.size, 0, none⟩ (.slice ao6 (j + (S.nc - (j + 1))) cp6)) w2.heap.size (.slice ao6 (j + (S.nc - (j + 1))) cp6) (.slice y1 U.length z1) (.slice d2 S.nw e2)) := TC.set0 _
      have OX1 : Hid (OwnM (wC.setCell ⟨w2.heap.size, 0, none⟩ (.slice ao6 (j + (S.nc - (j + 1))) cp6)) w5.heap.size 57 5 (.slice y1 U.length z1) U.length U.flatten) := (OX.out.later BC).far hz3 _
      have hobX : Hid (∀ q, (Value.slice y1 U.length z1).ownBlock = some q → w5.heap.size ≤ q ∧ q < X0.heap.size) := OX.out.block
      have OC : Hid (OwnM (wC.setCell ⟨w2.heap.size, 0, none⟩ (.slice ao6 (j + (S.nc - (j + 1))) cp6)) X0.heap.size 86 3 (.slice ao6 (j + (S.nc - (j + 1))) cp6) (j + (S.nc - (j + 1))) (nums S.c (j * 3) ++ nums (fun p => S.c ((j + 1) * 3 + p)) ((S.nc - (j + 1)) * 3))) := O8.far zX _
      have hobC : Hid (∀ q, (Value.slice ao6 (j + (S.nc - (j + 1))) cp6).ownBlock = some q → X0.heap.size ≤ q ∧ q < (wC.setCell ⟨w2.heap.size, 0, none⟩ (.slice ao6 (j + (S.nc - (j + 1))) cp6)).heap.size) := OC.out.block
      have zX0 : w2.heap.size < X0.heap.size := zX
      have zX1 : w2.heap.size < (wC.setCell ⟨w2.heap.size, 0, none⟩ (.slice ao6 (j + (S.nc - (j + 1))) cp6)).heap.size := TX1.out.lt
      have z5X1 : w5.heap.size ≤ (wC.setCell ⟨w2.heap.size, 0, none⟩ (.slice ao6 (j + (S.nc - (j + 1))) cp6)).heap.size := Nat.le_trans z5X (by simpa [World.setCell] using szC)
      generalize wC.setCell ⟨w2.heap.size, 0, none⟩ (.slice ao6 (j + (S.nc - (j + 1))) cp6) = X1 at BX1 B2X1 RX1 TX1 OX1 OC hobC zX1 z5X1 ⊢
      clear BX B2X RX TX OX zX z5X LX F0 F1 F1d F0d F2 O0 C0 C7 O7 G7 O8 G8 keep szC osC TC BC t0 t1 t2 ft0 ft1 ft2
      have BX := BX1
      have B2X := B2X1
      have RX := RX1
      have TX := TX1
      have OX := OX1
      have zX := zX1
      have z5X := z5X1
      have LX : True := trivial
      clear BX1 B2X1 RX1 TX1 OX1 zX1 z5X1
      refine wpAnyH_done (by kernel_rfl) ?_ _
      obtain ⟨⟨t0, t1, t2⟩, _⟩ := TX.out
      go_simp
      go_wp2_with fail
      refine (l2AddWrite_any S.nw S.k d2 e2 (w.heap.size + 1) a s s 4 _ (HS.out.1.1.2.2.later B2X.out) (by omega) g2).mono ?_
      rintro e w7 ⟨k', y2, z2, hk', rfl, O7, q7⟩
      obtain rfl : k' = k := hk'.one HK.out
      have BY : Hid (Below w.heap.size w w7) := BX.out.trans (q7.mono BX.out.size)
      have B2Y : Hid (Below w2.heap.size w2 w7) := B2X.out.trans (q7.mono (Nat.le_of_lt zX))
      have RY : Hid (Blk4 w7 w.heap.size (.int .i64 0) (.slice none 0 0) (.slice none 0 0) (.slice none 0 0)) := RX.out.later q7
      have TY : Hid (Blk3 w7 w2.heap.size (.slice ao6 (j + (S.nc - (j + 1))) cp6) (.slice y1 U.length z1) (.slice d2 S.nw e2)) := TX.out.later q7
      have OY : Hid (OwnM w7 w5.heap.size 57 5 (.slice y1 U.length z1) U.length U.flatten) := OX.out.later q7
      have hob : Hid (∀ q, (Value.slice y1 U.length z1).ownBlock = some q → w5.heap.size ≤ q ∧ q < X1.heap.size) := OX.out.block
      have PY : Hid (OwnM w7 X1.heap.size 92 4 (.slice y2 (S.nw + 1) z2) (S.nw + 1) (nums S.k (k' * 4) ++ [a, s, s, 4] ++ nums (fun p => S.k (k' * 4 + p)) ((S.nw - k') * 4))) := O7
      have hkn : k' ≤ S.nw := hk'.1
      have hqX : Hid (Below X1.heap.size X1 w7) := q7
      clear O7 q7 hk' OX RX TX LX BX B2X HK t0 t1 t2
      obtain ⟨⟨t0, t1, t2⟩, ft0, ft1, ft2⟩ := TY.out
      go_upto_region 16 with fail
      have RZ := RY.out.kept (Below.heap_setCell w7 ⟨w2.heap.size, 2, none⟩ (.slice y2 (S.nw + 1) z2) _ (Nat.ne_of_lt hzw))
      have TZ := TY.out.set2 (.slice y2 (S.nw + 1) z2)
      have BZ : Hid (Below w.heap.size w (w7.setCell ⟨w2.heap.size, 2, none⟩ (.slice y2 (S.nw + 1) z2))) := BY.out.setCell (Nat.le_of_lt hzw) _
      have B2Z : Hid (Below w2.heap.size w2 (w7.setCell ⟨w2.heap.size, 2, none⟩ (.slice y2 (S.nw + 1) z2))) := B2Y.out.setCell (Nat.le_refl _) _
      have OZ : Hid (OwnM (w7.setCell ⟨w2.heap.size, 2, none⟩ (.slice y2 (S.nw + 1) z2)) w5.heap.size 57 5 (.slice y1 U.length z1) U.length U.flatten) := OY.out.far hz3 _
      have PZ : Hid (OwnM (w7.setCell ⟨w2.heap.size, 2, none⟩ (.slice y2 (S.nw + 1) z2)) X1.heap.size 92 4 (.slice y2 (S.nw + 1) z2) (S.nw + 1) (nums S.k (k' * 4) ++ [a, s, s, 4] ++ nums (fun p => S.k (k' * 4 + p)) ((S.nw - k') * 4))) := PY.out.far zX _
      have OC8 : Hid (OwnM (w7.setCell ⟨w2.heap.size, 2, none⟩ (.slice y2 (S.nw + 1) z2)) X0.heap.size 86 3 (.slice ao6 (j + (S.nc - (j + 1))) cp6) (j + (S.nc - (j + 1))) (nums S.c (j * 3) ++ nums (fun p => S.c ((j + 1) * 3 + p)) ((S.nc - (j + 1)) * 3))) := (OC.out.later hqX.out).far zX0 _
      generalize w7.setCell ⟨w2.heap.size, 2, none⟩ (.slice y2 (S.nw + 1) z2) = w8 at RZ TZ BZ B2Z OZ PZ OC8 ⊢
      clear t0 t1 t2 ft0 ft1 ft2 RY TY BY B2Y OY PY
      obtain ⟨⟨r0, r1, r2, r3⟩, f0, f1, f2, f3⟩ := RZ
      obtain ⟨⟨t0, t1, t2⟩, _⟩ := TZ
      go_wp2
      have hone := selD_one (F := S.c) (m := 3) (D := goneK a s) (j := j) (goneK_iff.2 hcl.at.2.1) S.nc hjn (fun i hi' hne => goneK_not (fun q => hne (cell_once HZ.out hi' hjn q hcl.at.2.1)))
      have hN : (unlC S.c a s S.nc).length = j + (S.nc - (j + 1)) := by
        have : (unlC S.c a s S.nc).length = S.nc - 1 := hone.1
        omega
      have lenC : (nums S.c (j * 3) ++ nums (fun p => S.c ((j + 1) * 3 + p)) ((S.nc - (j + 1)) * 3)).length = (j + (S.nc - (j + 1))) * 3 := by
        rw [List.length_append, nums_length, nums_length]
        omega
      have rC0 := (OC8.out.own lenC).row
      have rC : Row w8 (w.heap.size + 1) 3 (j + (S.nc - (j + 1))) (fun p => (unlC S.c a s S.nc).flatten.getD p 0) (.slice ao6 (j + (S.nc - (j + 1))) cp6) := (rC0.1.congr (fun p hp => (roll_cells hjn p (by omega)).trans (hone.2 p (by omega)).symm)).mono (by omega)
      have fC : Free w8 ((j + (S.nc - (j + 1))) * 3) (.slice ao6 (j + (S.nc - (j + 1))) cp6) := rC0.2
      have lenL : U.flatten.length = U.length * 5 := flat_len U (by rw [← HU.out]; exact selD_len _ _ _ _)
      have lenW : (nums S.k (k' * 4) ++ [a, s, s, 4] ++ nums (fun p => S.k (k' * 4 + p)) ((S.nw - k') * 4)).length = (S.nw + 1) * 4 := by
        rw [List.length_append, List.length_append, nums_length, nums_length]
        simp only [List.length_cons, List.length_nil]
        omega
      have rL := (OZ.out.own lenL).row
      have rW := (PZ.out.own lenW).row
      have S8 : St w8 (w.heap.size + 1) (rollS S a s k') (.slice ao6 (j + (S.nc - (j + 1))) cp6) (.slice y1 U.length z1) (.slice y2 (S.nw + 1) z2) := by
        unfold rollS
        rw [HU.out, hN]
        exact ⟨rC, rL.1.mono (by omega), rW.1.mono (by omega)⟩
      have F8 : FreeS w8 (rollS S a s k') (.slice ao6 (j + (S.nc - (j + 1))) cp6) (.slice y1 U.length z1) (.slice y2 (S.nw + 1) z2) := by
        unfold rollS
        rw [HU.out, hN]
        exact ⟨fC, rL.2, rW.2⟩
      have A8 : ApartD (rollS S a s k') (.slice ao6 (j + (S.nc - (j + 1))) cp6) (.slice y1 U.length z1) (.slice y2 (S.nw + 1) z2) :=
        apart_mk S8.1 S8.2.1 (fun i i' h1 h2 => by have := (hobC.out i h1).1; have := (hobX.out i' h2).2; omega) (fun i i' h1 h2 => by have := (hobC.out i h1).2; have := (PZ.out.block i' h2).1; omega) (fun i i' h1 h2 => by have := (hob.out i h1).2; have := (PZ.out.block i' h2).1; omega)
      have hlo : (w.heap.size : Nat) < w.heap.size + 1 := Nat.lt_succ_self _
      have hul : (rollS S a s k').nl = U.length := by unfold rollS; rw [HU.out]
      have hcl' : (rollS S a s k').nc = j + (S.nc - (j + 1)) := hN
      refine bodyPost_ret (v := .agg #[.int .i64 0, .slice ao6 (j + (S.nc - (j + 1))) cp6, .slice y1 U.length z1, .slice y2 (S.nw + 1) z2]) (by simp [results, Tryz.results49, go_sem, r0, r1, r2, r3]) rfl ?_
      refine ⟨ao6, cp6, y1, z1, y2, z2, ?_, ?_, (((BZ.out.setCell (Nat.le_refl _) _).setCell (Nat.le_refl _) _).setCell (Nat.le_refl _) _).setCell (Nat.le_refl _) _⟩
      · rw [hul, hcl']; rfl
      · rw [hul, hcl']
        exact ⟨((((S8.far hlo _).far hlo _).far hlo _).far hlo _).mono (by omega), (((F8.far _ _).far _ _).far _ _).far _ _, A8⟩
  · go_simp
    refine hK.out _ _ trivial (fun hS => ?_)
    clear hK K
    refine wpAnyH_take (i := 4) (v := ?_) rfl (by kernel_rfl) (by kernel_rfl) (by kernel_rfl) (fun _ _ _ h => h) (Or.inl ⟨by kernel_rfl, ?_⟩) hS ?_
    rotate_left
    · intro wx hx
      go_simp
      try with_reducible rfl
    refine wpAnyH_ready (rs := [0, 7]) (by kernel_rfl) (by simp) ?_
    refine AllReadyH.cons rfl (fun K hK => ?_) (AllReadyH.cons rfl (fun K hK => ?_) AllReadyH.nil)
    · go_simp
      refine hK.out _ _ trivial (fun hS => ?_)
      clear hK K
      refine wpAnyH_ready (rs := [5, 7]) (by kernel_rfl) (by simp) ?_
      refine AllReadyH.cons rfl (fun K hK => ?_) (AllReadyH.cons rfl (fun K hK => ?_) AllReadyH.nil)
      · refine step_app 86 i0 (.agg #[.int .i64 0, .int .i64 0, .int .i64 0]) 3 24 (by rfl) _ _ 28 (by rfl) Tryz.underlying28 hi0 hz0 hz1 hz2 rfl (by omega) (by omega) _ X0.heap.size 0 [] (.slice (some ⟨X0.heap.size, 0, none⟩) 0 0) (by rfl) O0.out (w.heap.size + 1) j S.c (.slice (some ⟨cg, co, none⟩) j e0) (by rfl) (C0.out.head hj4 e0) (by omega) (by show X0.heap.size ≤ (World.alloc X0 _).heap.size; simp) ?_
        intro ao5 cp5 w7 O7 G7
        rw [Nat.zero_add, List.nil_append] at O7
        rw [show (0 : Nat) + j = j from Nat.zero_add j]
        have F2 : w7.cell? ⟨w2.heap.size, 0, none⟩ = some (.slice (some ⟨cg, co, none⟩) S.nc e0) := G7.cell F1 (fun q => by simp [Value.ownBlock] at q; omega)
        refine hK.out _ _ trivial (fun hS => ?_)
        clear hK K
        refine wpAnyH_ready (rs := [7]) (by kernel_rfl) (by simp) ?_
        refine AllReadyH.cons rfl (fun K hK => ?_) AllReadyH.nil
        go_simp
        refine hK.out _ _ trivial (fun hS => ?_)
        clear hK K
        refine wpAnyH_take (i := 10) (v := ?_) rfl (by kernel_rfl) (by kernel_rfl) (by kernel_rfl) (fun _ _ _ h => h) (Or.inl ⟨by kernel_rfl, ?_⟩) hS ?_
        rotate_left
        · intro wx hx
          go_simp
          try with_reducible rfl
        have C7 : Hid (Row w7 (w.heap.size + 1) 3 S.nc S.c (.slice (some ⟨cg, co, none⟩) S.nc e0)) := C0.out.turned G7 (fun h0 k hk q => by
          have h1 := (HS.out.1.1.1.lt h0 k hk).2
          rw [q] at hk
          simp [Value.ownBlock] at hk q
          omega)
        refine wpAnyH_ready (rs := [11]) (by kernel_rfl) (by simp) ?_
        refine AllReadyH.cons rfl (fun K hK => ?_) AllReadyH.nil
        refine step_app 86 i0 (.agg #[.int .i64 0, .int .i64 0, .int .i64 0]) 3 24 (by rfl) _ _ 28 (by rfl) Tryz.underlying28 hi0 hz0 hz1 hz2 rfl (by omega) (by omega) _ X0.heap.size j (nums S.c (j * 3)) (.slice ao5 j cp5) (by rfl) O7 (w.heap.size + 1) (S.nc - (j + 1)) (fun p => S.c ((j + 1) * 3 + p)) (.slice A (S.nc - (j + 1)) (e0 - (j + 1))) (by rfl) (hA ▸ C7.out.tailR (j + 1) g0) (by omega) (Nat.le_trans (by show X0.heap.size ≤ (World.alloc X0 _).heap.size; simp) G7.size) ?_
        intro ao6 cp6 wC O8 G8
        have keep : ∀ q, q < X0.heap.size → wC.heap[q]? = X0.heap[q]? := fun q hq => by
          have h1 : (X0.alloc (.cells #[] 86)).drew.heap[q]? = X0.heap[q]? := (below_alloc X0 (.cells #[] 86)).block q hq
          have h2 : w7.heap[q]? = (X0.alloc (.cells #[] 86)).drew.heap[q]? := G7.block q (by show q < (World.alloc X0 _).heap.size; simp; omega) (fun e => by simp [Value.ownBlock] at e; omega)
          have h3 : wC.heap[q]? = w7.heap[q]? := G8.block q (Nat.lt_of_lt_of_le (by show q < (World.alloc X0 _).heap.size; simp; omega) G7.size) (fun e => by have := (O7.block q e.symm).1; omega)
          exact h3.trans (h2.trans h1)
        have szC : X0.heap.size ≤ wC.heap.size := Nat.le_trans (Nat.le_trans (by show X0.heap.size ≤ (World.alloc X0 _).heap.size; simp) G7.size) G8.size
        have osC : wC.os = X0.os ∧ wC.tape = X0.tape ∧ wC.output = X0.output := ⟨G8.os.trans G7.os, G8.tape.trans G7.tape, G8.output.trans G7.output⟩
        have TC : Blk3 wC w2.heap.size (.slice (some ⟨cg, co, none⟩) S.nc e0) (.slice y1 U.length z1) (.slice d2 S.nw e2) := TX.out.kept (keep _ zX)
        refine hK.out _ _ trivial (fun hS => ?_)
        clear hK K
        refine wpAnyH_take (i := 12) (v := ?_) rfl (by kernel_rfl) (by kernel_rfl) (by kernel_rfl) (fun _ _ _ h => h) (Or.inl ⟨by kernel_rfl, ?_⟩) hS ?_
        rotate_left
        · intro wx hx
          go_simp
          try with_reducible rfl
        obtain ⟨⟨t0, t1, t2⟩, ft0, ft1, ft2⟩ := TC
        refine wpAnyH_ready (rs := [13]) (by kernel_rfl) (by simp) ?_
        refine AllReadyH.cons rfl (fun K hK => ?_) AllReadyH.nil
        go_simp
        refine hK.out _ _ trivial (fun hS => ?_)
        clear hK K
        have TC : Blk3 wC w2.heap.size (.slice (some ⟨cg, co, none⟩) S.nc e0) (.slice y1 U.length z1) (.slice d2 S.nw e2) := TX.out.kept (keep _ zX)
        have BC : Below X0.heap.size X0 wC := ⟨osC.1, osC.2.1, osC.2.2, szC, keep⟩
        have BX1 : Hid (Below w.heap.size w (wC.setCell ⟨w2.heap.size, 0, none⟩ (.slice ao6 (j + (S.nc - (j + 1))) cp6))) := (BX.out.trans (BC.mono BX.out.size)).setCell (Nat.le_of_lt hzw) _
        have B2X1 : Hid (Below w2.heap.size w2 (wC.setCell ⟨w2.heap.size, 0, none⟩ (.slice ao6 (j + (S.nc - (j + 1))) cp6))) := (B2X.out.trans (BC.mono (Nat.le_of_lt zX))).setCell (Nat.le_refl _) _
        have RX1 : Hid (Blk4 (wC.setCell ⟨w2.heap.size, 0, none⟩ (.slice ao6 (j + (S.nc - (j + 1))) cp6)) w.heap.size (.int .i64 0) (.slice none 0 0) (.slice none 0 0) (.slice none 0 0)) := (RX.out.later BC).kept (Below.heap_setCell _ _ _ _ (Nat.ne_of_lt hzw))
        have TX1 : Hid (Blk3 (wC.setCell ⟨w2.heap.size, 0, none⟩ (.slice ao6 (j + (S.nc - (j + 1))) cp6)) w2.heap.size (.slice ao6 (j + (S.nc - (j + 1))) cp6) (.slice y1 U.length z1) (.slice d2 S.nw e2)) := TC.set0 _
        have OX1 : Hid (OwnM (wC.setCell ⟨w2.heap.size, 0, none⟩ (.slice ao6 (j + (S.nc - (j + 1))) cp6)) w5.heap.size 57 5 (.slice y1 U.length z1) U.length U.flatten) := (OX.out.later BC).far hz3 _
        have hobX : Hid (∀ q, (Value.slice y1 U.length z1).ownBlock = some q → w5.heap.size ≤ q ∧ q < X0.heap.size) := OX.out.block
        have OC : Hid (OwnM (wC.setCell ⟨w2.heap.size, 0, none⟩ (.slice ao6 (j + (S.nc - (j + 1))) cp6)) X0.heap.size 86 3 (.slice ao6 (j + (S.nc - (j + 1))) cp6) (j + (S.nc - (j + 1))) (nums S.c (j * 3) ++ nums (fun p => S.c ((j + 1) * 3 + p)) ((S.nc - (j + 1)) * 3))) := O8.far zX _
        have hobC : Hid (∀ q, (Value.slice ao6 (j + (S.nc - (j + 1))) cp6).ownBlock = some q → X0.heap.size ≤ q ∧ q < (wC.setCell ⟨w2.heap.size, 0, none⟩ (.slice ao6 (j + (S.nc - (j + 1))) cp6)).heap.size) := OC.out.block
        have zX0 : w2.heap.size < X0.heap.size := zX
        have zX1 : w2.heap.size < (wC.setCell ⟨w2.heap.size, 0, none⟩ (.slice ao6 (j + (S.nc - (j + 1))) cp6)).heap.size := TX1.out.lt
        have z5X1 : w5.heap.size ≤ (wC.setCell ⟨w2.heap.size, 0, none⟩ (.slice ao6 (j + (S.nc - (j + 1))) cp6)).heap.size := Nat.le_trans z5X (by simpa [World.setCell] using szC)
        generalize wC.setCell ⟨w2.heap.size, 0, none⟩ (.slice ao6 (j + (S.nc - (j + 1))) cp6) = X1 at BX1 B2X1 RX1 TX1 OX1 OC hobC zX1 z5X1 ⊢
        clear BX B2X RX TX OX zX z5X LX F0 F1 F1d F0d F2 O0 C0 C7 O7 G7 O8 G8 keep szC osC TC BC t0 t1 t2 ft0 ft1 ft2
        have BX := BX1
        have B2X := B2X1
        have RX := RX1
        have TX := TX1
        have OX := OX1
        have zX := zX1
        have z5X := z5X1
        have LX : True := trivial
        clear BX1 B2X1 RX1 TX1 OX1 zX1 z5X1
        refine wpAnyH_done (by kernel_rfl) ?_ _
        obtain ⟨⟨t0, t1, t2⟩, _⟩ := TX.out
        go_simp
        go_wp2_with fail
        refine (l2AddWrite_any S.nw S.k d2 e2 (w.heap.size + 1) a s s 4 _ (HS.out.1.1.2.2.later B2X.out) (by omega) g2).mono ?_
        rintro e w7 ⟨k', y2, z2, hk', rfl, O7, q7⟩
        obtain rfl : k' = k := hk'.one HK.out
        have BY : Hid (Below w.heap.size w w7) := BX.out.trans (q7.mono BX.out.size)
        have B2Y : Hid (Below w2.heap.size w2 w7) := B2X.out.trans (q7.mono (Nat.le_of_lt zX))
        have RY : Hid (Blk4 w7 w.heap.size (.int .i64 0) (.slice none 0 0) (.slice none 0 0) (.slice none 0 0)) := RX.out.later q7
        have TY : Hid (Blk3 w7 w2.heap.size (.slice ao6 (j + (S.nc - (j + 1))) cp6) (.slice y1 U.length z1) (.slice d2 S.nw e2)) := TX.out.later q7
        have OY : Hid (OwnM w7 w5.heap.size 57 5 (.slice y1 U.length z1) U.length U.flatten) := OX.out.later q7
        have hob : Hid (∀ q, (Value.slice y1 U.length z1).ownBlock = some q → w5.heap.size ≤ q ∧ q < X1.heap.size) := OX.out.block
        have PY : Hid (OwnM w7 X1.heap.size 92 4 (.slice y2 (S.nw + 1) z2) (S.nw + 1) (nums S.k (k' * 4) ++ [a, s, s, 4] ++ nums (fun p => S.k (k' * 4 + p)) ((S.nw - k') * 4))) := O7
        have hkn : k' ≤ S.nw := hk'.1
        have hqX : Hid (Below X1.heap.size X1 w7) := q7
        clear O7 q7 hk' OX RX TX LX BX B2X HK t0 t1 t2
        obtain ⟨⟨t0, t1, t2⟩, ft0, ft1, ft2⟩ := TY.out
        go_upto_region 16 with fail
        have RZ := RY.out.kept (Below.heap_setCell w7 ⟨w2.heap.size, 2, none⟩ (.slice y2 (S.nw + 1) z2) _ (Nat.ne_of_lt hzw))
        have TZ := TY.out.set2 (.slice y2 (S.nw + 1) z2)
        have BZ : Hid (Below w.heap.size w (w7.setCell ⟨w2.heap.size, 2, none⟩ (.slice y2 (S.nw + 1) z2))) := BY.out.setCell (Nat.le_of_lt hzw) _
        have B2Z : Hid (Below w2.heap.size w2 (w7.setCell ⟨w2.heap.size, 2, none⟩ (.slice y2 (S.nw + 1) z2))) := B2Y.out.setCell (Nat.le_refl _) _
        have OZ : Hid (OwnM (w7.setCell ⟨w2.heap.size, 2, none⟩ (.slice y2 (S.nw + 1) z2)) w5.heap.size 57 5 (.slice y1 U.length z1) U.length U.flatten) := OY.out.far hz3 _
        have PZ : Hid (OwnM (w7.setCell ⟨w2.heap.size, 2, none⟩ (.slice y2 (S.nw + 1) z2)) X1.heap.size 92 4 (.slice y2 (S.nw + 1) z2) (S.nw + 1) (nums S.k (k' * 4) ++ [a, s, s, 4] ++ nums (fun p => S.k (k' * 4 + p)) ((S.nw - k') * 4))) := PY.out.far zX _
        have OC8 : Hid (OwnM (w7.setCell ⟨w2.heap.size, 2, none⟩ (.slice y2 (S.nw + 1) z2)) X0.heap.size 86 3 (.slice ao6 (j + (S.nc - (j + 1))) cp6) (j + (S.nc - (j + 1))) (nums S.c (j * 3) ++ nums (fun p => S.c ((j + 1) * 3 + p)) ((S.nc - (j + 1)) * 3))) := (OC.out.later hqX.out).far zX0 _
        generalize w7.setCell ⟨w2.heap.size, 2, none⟩ (.slice y2 (S.nw + 1) z2) = w8 at RZ TZ BZ B2Z OZ PZ OC8 ⊢
        clear t0 t1 t2 ft0 ft1 ft2 RY TY BY B2Y OY PY
        obtain ⟨⟨r0, r1, r2, r3⟩, f0, f1, f2, f3⟩ := RZ
        obtain ⟨⟨t0, t1, t2⟩, _⟩ := TZ
        go_wp2
        have hone := selD_one (F := S.c) (m := 3) (D := goneK a s) (j := j) (goneK_iff.2 hcl.at.2.1) S.nc hjn (fun i hi' hne => goneK_not (fun q => hne (cell_once HZ.out hi' hjn q hcl.at.2.1)))
        have hN : (unlC S.c a s S.nc).length = j + (S.nc - (j + 1)) := by
          have : (unlC S.c a s S.nc).length = S.nc - 1 := hone.1
          omega
        have lenC : (nums S.c (j * 3) ++ nums (fun p => S.c ((j + 1) * 3 + p)) ((S.nc - (j + 1)) * 3)).length = (j + (S.nc - (j + 1))) * 3 := by
          rw [List.length_append, nums_length, nums_length]
          omega
        have rC0 := (OC8.out.own lenC).row
        have rC : Row w8 (w.heap.size + 1) 3 (j + (S.nc - (j + 1))) (fun p => (unlC S.c a s S.nc).flatten.getD p 0) (.slice ao6 (j + (S.nc - (j + 1))) cp6) := (rC0.1.congr (fun p hp => (roll_cells hjn p (by omega)).trans (hone.2 p (by omega)).symm)).mono (by omega)
        have fC : Free w8 ((j + (S.nc - (j + 1))) * 3) (.slice ao6 (j + (S.nc - (j + 1))) cp6) := rC0.2
        have lenL : U.flatten.length = U.length * 5 := flat_len U (by rw [← HU.out]; exact selD_len _ _ _ _)
        have lenW : (nums S.k (k' * 4) ++ [a, s, s, 4] ++ nums (fun p => S.k (k' * 4 + p)) ((S.nw - k') * 4)).length = (S.nw + 1) * 4 := by
          rw [List.length_append, List.length_append, nums_length, nums_length]
          simp only [List.length_cons, List.length_nil]
          omega
        have rL := (OZ.out.own lenL).row
        have rW := (PZ.out.own lenW).row
        have S8 : St w8 (w.heap.size + 1) (rollS S a s k') (.slice ao6 (j + (S.nc - (j + 1))) cp6) (.slice y1 U.length z1) (.slice y2 (S.nw + 1) z2) := by
          unfold rollS
          rw [HU.out, hN]
          exact ⟨rC, rL.1.mono (by omega), rW.1.mono (by omega)⟩
        have F8 : FreeS w8 (rollS S a s k') (.slice ao6 (j + (S.nc - (j + 1))) cp6) (.slice y1 U.length z1) (.slice y2 (S.nw + 1) z2) := by
          unfold rollS
          rw [HU.out, hN]
          exact ⟨fC, rL.2, rW.2⟩
        have A8 : ApartD (rollS S a s k') (.slice ao6 (j + (S.nc - (j + 1))) cp6) (.slice y1 U.length z1) (.slice y2 (S.nw + 1) z2) :=
          apart_mk S8.1 S8.2.1 (fun i i' h1 h2 => by have := (hobC.out i h1).1; have := (hobX.out i' h2).2; omega) (fun i i' h1 h2 => by have := (hobC.out i h1).2; have := (PZ.out.block i' h2).1; omega) (fun i i' h1 h2 => by have := (hob.out i h1).2; have := (PZ.out.block i' h2).1; omega)
        have hlo : (w.heap.size : Nat) < w.heap.size + 1 := Nat.lt_succ_self _
        have hul : (rollS S a s k').nl = U.length := by unfold rollS; rw [HU.out]
        have hcl' : (rollS S a s k').nc = j + (S.nc - (j + 1)) := hN
        refine bodyPost_ret (v := .agg #[.int .i64 0, .slice ao6 (j + (S.nc - (j + 1))) cp6, .slice y1 U.length z1, .slice y2 (S.nw + 1) z2]) (by simp [results, Tryz.results49, go_sem, r0, r1, r2, r3]) rfl ?_
        refine ⟨ao6, cp6, y1, z1, y2, z2, ?_, ?_, (((BZ.out.setCell (Nat.le_refl _) _).setCell (Nat.le_refl _) _).setCell (Nat.le_refl _) _).setCell (Nat.le_refl _) _⟩
        · rw [hul, hcl']; rfl
        · rw [hul, hcl']
          exact ⟨((((S8.far hlo _).far hlo _).far hlo _).far hlo _).mono (by omega), (((F8.far _ _).far _ _).far _ _).far _ _, A8⟩
      · go_simp
        refine hK.out _ _ trivial (fun hS => ?_)
        clear hK K
        refine wpAnyH_take (i := 10) (v := ?_) rfl (by kernel_rfl) (by kernel_rfl) (by kernel_rfl) (fun _ _ _ h => h) (Or.inl ⟨by kernel_rfl, ?_⟩) hS ?_
        rotate_left
        · intro wx hx
          go_simp
          try with_reducible rfl
        refine wpAnyH_ready (rs := [5]) (by kernel_rfl) (by simp) ?_
        refine AllReadyH.cons rfl (fun K hK => ?_) AllReadyH.nil
        refine step_app 86 i0 (.agg #[.int .i64 0, .int .i64 0, .int .i64 0]) 3 24 (by rfl) _ _ 28 (by rfl) Tryz.underlying28 hi0 hz0 hz1 hz2 rfl (by omega) (by omega) _ X0.heap.size 0 [] (.slice (some ⟨X0.heap.size, 0, none⟩) 0 0) (by rfl) O0.out (w.heap.size + 1) j S.c (.slice (some ⟨cg, co, none⟩) j e0) (by rfl) (C0.out.head hj4 e0) (by omega) (by show X0.heap.size ≤ (World.alloc X0 _).heap.size; simp) ?_
        intro ao5 cp5 w7 O7 G7
        rw [Nat.zero_add, List.nil_append] at O7
        rw [show (0 : Nat) + j = j from Nat.zero_add j]
        have F2 : w7.cell? ⟨w2.heap.size, 0, none⟩ = some (.slice (some ⟨cg, co, none⟩) S.nc e0) := G7.cell F1 (fun q => by simp [Value.ownBlock] at q; omega)
        refine hK.out _ _ trivial (fun hS => ?_)
        clear hK K
        have C7 : Hid (Row w7 (w.heap.size + 1) 3 S.nc S.c (.slice (some ⟨cg, co, none⟩) S.nc e0)) := C0.out.turned G7 (fun h0 k hk q => by
          have h1 := (HS.out.1.1.1.lt h0 k hk).2
          rw [q] at hk
          simp [Value.ownBlock] at hk q
          omega)
        refine wpAnyH_ready (rs := [11]) (by kernel_rfl) (by simp) ?_
        refine AllReadyH.cons rfl (fun K hK => ?_) AllReadyH.nil
        refine step_app 86 i0 (.agg #[.int .i64 0, .int .i64 0, .int .i64 0]) 3 24 (by rfl) _ _ 28 (by rfl) Tryz.underlying28 hi0 hz0 hz1 hz2 rfl (by omega) (by omega) _ X0.heap.size j (nums S.c (j * 3)) (.slice ao5 j cp5) (by rfl) O7 (w.heap.size + 1) (S.nc - (j + 1)) (fun p => S.c ((j + 1) * 3 + p)) (.slice A (S.nc - (j + 1)) (e0 - (j + 1))) (by rfl) (hA ▸ C7.out.tailR (j + 1) g0) (by omega) (Nat.le_trans (by show X0.heap.size ≤ (World.alloc X0 _).heap.size; simp) G7.size) ?_
        intro ao6 cp6 wC O8 G8
        have keep : ∀ q, q < X0.heap.size → wC.heap[q]? = X0.heap[q]? := fun q hq => by
          have h1 : (X0.alloc (.cells #[] 86)).drew.heap[q]? = X0.heap[q]? := (below_alloc X0 (.cells #[] 86)).block q hq
          have h2 : w7.heap[q]? = (X0.alloc (.cells #[] 86)).drew.heap[q]? := G7.block q (by show q < (World.alloc X0 _).heap.size; simp; omega) (fun e => by simp [Value.ownBlock] at e; omega)
          have h3 : wC.heap[q]? = w7.heap[q]? := G8.block q (Nat.lt_of_lt_of_le (by show q < (World.alloc X0 _).heap.size; simp; omega) G7.size) (fun e => by have := (O7.block q e.symm).1; omega)
          exact h3.trans (h2.trans h1)
        have szC : X0.heap.size ≤ wC.heap.size := Nat.le_trans (Nat.le_trans (by show X0.heap.size ≤ (World.alloc X0 _).heap.size; simp) G7.size) G8.size
        have osC : wC.os = X0.os ∧ wC.tape = X0.tape ∧ wC.output = X0.output := ⟨G8.os.trans G7.os, G8.tape.trans G7.tape, G8.output.trans G7.output⟩
        have TC : Blk3 wC w2.heap.size (.slice (some ⟨cg, co, none⟩) S.nc e0) (.slice y1 U.length z1) (.slice d2 S.nw e2) := TX.out.kept (keep _ zX)
        refine hK.out _ _ trivial (fun hS => ?_)
        clear hK K
        refine wpAnyH_take (i := 12) (v := ?_) rfl (by kernel_rfl) (by kernel_rfl) (by kernel_rfl) (fun _ _ _ h => h) (Or.inl ⟨by kernel_rfl, ?_⟩) hS ?_
        rotate_left
        · intro wx hx
          go_simp
          try with_reducible rfl
        obtain ⟨⟨t0, t1, t2⟩, ft0, ft1, ft2⟩ := TC
        refine wpAnyH_ready (rs := [13]) (by kernel_rfl) (by simp) ?_
        refine AllReadyH.cons rfl (fun K hK => ?_) AllReadyH.nil
        go_simp
        refine hK.out _ _ trivial (fun hS => ?_)
        clear hK K
        have TC : Blk3 wC w2.heap.size (.slice (some ⟨cg, co, none⟩) S.nc e0) (.slice y1 U.length z1) (.slice d2 S.nw e2) := TX.out.kept (keep _ zX)
        have BC : Below X0.heap.size X0 wC := ⟨osC.1, osC.2.1, osC.2.2, szC, keep⟩
        have BX1 : Hid (Below w.heap.size w (wC.setCell ⟨w2.heap.size, 0, none⟩ (.slice ao6 (j + (S.nc - (j + 1))) cp6))) := (BX.out.trans (BC.mono BX.out.size)).setCell (Nat.le_of_lt hzw) _
        have B2X1 : Hid (Below w2.heap.size w2 (wC.setCell ⟨w2.heap.size, 0, none⟩ (.slice ao6 (j + (S.nc - (j + 1))) cp6))) := (B2X.out.trans (BC.mono (Nat.le_of_lt zX))).setCell (Nat.le_refl _) _
        have RX1 : Hid (Blk4 (wC.setCell ⟨w2.heap.size, 0, none⟩ (.slice ao6 (j + (S.nc - (j + 1))) cp6)) w.heap.size (.int .i64 0) (.slice none 0 0) (.slice none 0 0) (.slice none 0 0)) := (RX.out.later BC).kept (Below.heap_setCell _ _ _ _ (Nat.ne_of_lt hzw))
        have TX1 : Hid (Blk3 (wC.setCell ⟨w2.heap.size, 0, none⟩ (.slice ao6 (j + (S.nc - (j + 1))) cp6)) w2.heap.size (.slice ao6 (j + (S.nc - (j + 1))) cp6) (.slice y1 U.length z1) (.slice d2 S.nw e2)) := TC.set0 _
        have OX1 : Hid (OwnM (wC.setCell ⟨w2.heap.size, 0, none⟩ (.slice ao6 (j + (S.nc - (j + 1))) cp6)) w5.heap.size 57 5 (.slice y1 U.length z1) U.length U.flatten) := (OX.out.later BC).far hz3 _
        have hobX : Hid (∀ q, (Value.slice y1 U.length z1).ownBlock = some q → w5.heap.size ≤ q ∧ q < X0.heap.size) := OX.out.block
        have OC : Hid (OwnM (wC.setCell ⟨w2.heap.size, 0, none⟩ (.slice ao6 (j + (S.nc - (j + 1))) cp6)) X0.heap.size 86 3 (.slice ao6 (j + (S.nc - (j + 1))) cp6) (j + (S.nc - (j + 1))) (nums S.c (j * 3) ++ nums (fun p => S.c ((j + 1) * 3 + p)) ((S.nc - (j + 1)) * 3))) := O8.far zX _
        have hobC : Hid (∀ q, (Value.slice ao6 (j + (S.nc - (j + 1))) cp6).ownBlock = some q → X0.heap.size ≤ q ∧ q < (wC.setCell ⟨w2.heap.size, 0, none⟩ (.slice ao6 (j + (S.nc - (j + 1))) cp6)).heap.size) := OC.out.block
        have zX0 : w2.heap.size < X0.heap.size := zX
        have zX1 : w2.heap.size < (wC.setCell ⟨w2.heap.size, 0, none⟩ (.slice ao6 (j + (S.nc - (j + 1))) cp6)).heap.size := TX1.out.lt
        have z5X1 : w5.heap.size ≤ (wC.setCell ⟨w2.heap.size, 0, none⟩ (.slice ao6 (j + (S.nc - (j + 1))) cp6)).heap.size := Nat.le_trans z5X (by simpa [World.setCell] using szC)
        generalize wC.setCell ⟨w2.heap.size, 0, none⟩ (.slice ao6 (j + (S.nc - (j + 1))) cp6) = X1 at BX1 B2X1 RX1 TX1 OX1 OC hobC zX1 z5X1 ⊢
        clear BX B2X RX TX OX zX z5X LX F0 F1 F1d F0d F2 O0 C0 C7 O7 G7 O8 G8 keep szC osC TC BC t0 t1 t2 ft0 ft1 ft2
        have BX := BX1
        have B2X := B2X1
        have RX := RX1
        have TX := TX1
        have OX := OX1
        have zX := zX1
        have z5X := z5X1
        have LX : True := trivial
        clear BX1 B2X1 RX1 TX1 OX1 zX1 z5X1
        refine wpAnyH_done (by kernel_rfl) ?_ _
        obtain ⟨⟨t0, t1, t2⟩, _⟩ := TX.out
        go_simp
        go_wp2_with fail
        refine (l2AddWrite_any S.nw S.k d2 e2 (w.heap.size + 1) a s s 4 _ (HS.out.1.1.2.2.later B2X.out) (by omega) g2).mono ?_
        rintro e w7 ⟨k', y2, z2, hk', rfl, O7, q7⟩
        obtain rfl : k' = k := hk'.one HK.out
        have BY : Hid (Below w.heap.size w w7) := BX.out.trans (q7.mono BX.out.size)
        have B2Y : Hid (Below w2.heap.size w2 w7) := B2X.out.trans (q7.mono (Nat.le_of_lt zX))
        have RY : Hid (Blk4 w7 w.heap.size (.int .i64 0) (.slice none 0 0) (.slice none 0 0) (.slice none 0 0)) := RX.out.later q7
        have TY : Hid (Blk3 w7 w2.heap.size (.slice ao6 (j + (S.nc - (j + 1))) cp6) (.slice y1 U.length z1) (.slice d2 S.nw e2)) := TX.out.later q7
        have OY : Hid (OwnM w7 w5.heap.size 57 5 (.slice y1 U.length z1) U.length U.flatten) := OX.out.later q7
        have hob : Hid (∀ q, (Value.slice y1 U.length z1).ownBlock = some q → w5.heap.size ≤ q ∧ q < X1.heap.size) := OX.out.block
        have PY : Hid (OwnM w7 X1.heap.size 92 4 (.slice y2 (S.nw + 1) z2) (S.nw + 1) (nums S.k (k' * 4) ++ [a, s, s, 4] ++ nums (fun p => S.k (k' * 4 + p)) ((S.nw - k') * 4))) := O7
        have hkn : k' ≤ S.nw := hk'.1
        have hqX : Hid (Below X1.heap.size X1 w7) := q7
        clear O7 q7 hk' OX RX TX LX BX B2X HK t0 t1 t2
        obtain ⟨⟨t0, t1, t2⟩, ft0, ft1, ft2⟩ := TY.out
        go_upto_region 16 with fail
        have RZ := RY.out.kept (Below.heap_setCell w7 ⟨w2.heap.size, 2, none⟩ (.slice y2 (S.nw + 1) z2) _ (Nat.ne_of_lt hzw))
        have TZ := TY.out.set2 (.slice y2 (S.nw + 1) z2)
        have BZ : Hid (Below w.heap.size w (w7.setCell ⟨w2.heap.size, 2, none⟩ (.slice y2 (S.nw + 1) z2))) := BY.out.setCell (Nat.le_of_lt hzw) _
        have B2Z : Hid (Below w2.heap.size w2 (w7.setCell ⟨w2.heap.size, 2, none⟩ (.slice y2 (S.nw + 1) z2))) := B2Y.out.setCell (Nat.le_refl _) _
        have OZ : Hid (OwnM (w7.setCell ⟨w2.heap.size, 2, none⟩ (.slice y2 (S.nw + 1) z2)) w5.heap.size 57 5 (.slice y1 U.length z1) U.length U.flatten) := OY.out.far hz3 _
        have PZ : Hid (OwnM (w7.setCell ⟨w2.heap.size, 2, none⟩ (.slice y2 (S.nw + 1) z2)) X1.heap.size 92 4 (.slice y2 (S.nw + 1) z2) (S.nw + 1) (nums S.k (k' * 4) ++ [a, s, s, 4] ++ nums (fun p => S.k (k' * 4 + p)) ((S.nw - k') * 4))) := PY.out.far zX _
        have OC8 : Hid (OwnM (w7.setCell ⟨w2.heap.size, 2, none⟩ (.slice y2 (S.nw + 1) z2)) X0.heap.size 86 3 (.slice ao6 (j + (S.nc - (j + 1))) cp6) (j + (S.nc - (j + 1))) (nums S.c (j * 3) ++ nums (fun p => S.c ((j + 1) * 3 + p)) ((S.nc - (j + 1)) * 3))) := (OC.out.later hqX.out).far zX0 _
        generalize w7.setCell ⟨w2.heap.size, 2, none⟩ (.slice y2 (S.nw + 1) z2) = w8 at RZ TZ BZ B2Z OZ PZ OC8 ⊢
        clear t0 t1 t2 ft0 ft1 ft2 RY TY BY B2Y OY PY
        obtain ⟨⟨r0, r1, r2, r3⟩, f0, f1, f2, f3⟩ := RZ
        obtain ⟨⟨t0, t1, t2⟩, _⟩ := TZ
        go_wp2
        have hone := selD_one (F := S.c) (m := 3) (D := goneK a s) (j := j) (goneK_iff.2 hcl.at.2.1) S.nc hjn (fun i hi' hne => goneK_not (fun q => hne (cell_once HZ.out hi' hjn q hcl.at.2.1)))
        have hN : (unlC S.c a s S.nc).length = j + (S.nc - (j + 1)) := by
          have : (unlC S.c a s S.nc).length = S.nc - 1 := hone.1
          omega
        have lenC : (nums S.c (j * 3) ++ nums (fun p => S.c ((j + 1) * 3 + p)) ((S.nc - (j + 1)) * 3)).length = (j + (S.nc - (j + 1))) * 3 := by
          rw [List.length_append, nums_length, nums_length]
          omega
        have rC0 := (OC8.out.own lenC).row
        have rC : Row w8 (w.heap.size + 1) 3 (j + (S.nc - (j + 1))) (fun p => (unlC S.c a s S.nc).flatten.getD p 0) (.slice ao6 (j + (S.nc - (j + 1))) cp6) := (rC0.1.congr (fun p hp => (roll_cells hjn p (by omega)).trans (hone.2 p (by omega)).symm)).mono (by omega)
        have fC : Free w8 ((j + (S.nc - (j + 1))) * 3) (.slice ao6 (j + (S.nc - (j + 1))) cp6) := rC0.2
        have lenL : U.flatten.length = U.length * 5 := flat_len U (by rw [← HU.out]; exact selD_len _ _ _ _)
        have lenW : (nums S.k (k' * 4) ++ [a, s, s, 4] ++ nums (fun p => S.k (k' * 4 + p)) ((S.nw - k') * 4)).length = (S.nw + 1) * 4 := by
          rw [List.length_append, List.length_append, nums_length, nums_length]
          simp only [List.length_cons, List.length_nil]
          omega
        have rL := (OZ.out.own lenL).row
        have rW := (PZ.out.own lenW).row
        have S8 : St w8 (w.heap.size + 1) (rollS S a s k') (.slice ao6 (j + (S.nc - (j + 1))) cp6) (.slice y1 U.length z1) (.slice y2 (S.nw + 1) z2) := by
          unfold rollS
          rw [HU.out, hN]
          exact ⟨rC, rL.1.mono (by omega), rW.1.mono (by omega)⟩
        have F8 : FreeS w8 (rollS S a s k') (.slice ao6 (j + (S.nc - (j + 1))) cp6) (.slice y1 U.length z1) (.slice y2 (S.nw + 1) z2) := by
          unfold rollS
          rw [HU.out, hN]
          exact ⟨fC, rL.2, rW.2⟩
        have A8 : ApartD (rollS S a s k') (.slice ao6 (j + (S.nc - (j + 1))) cp6) (.slice y1 U.length z1) (.slice y2 (S.nw + 1) z2) :=
          apart_mk S8.1 S8.2.1 (fun i i' h1 h2 => by have := (hobC.out i h1).1; have := (hobX.out i' h2).2; omega) (fun i i' h1 h2 => by have := (hobC.out i h1).2; have := (PZ.out.block i' h2).1; omega) (fun i i' h1 h2 => by have := (hob.out i h1).2; have := (PZ.out.block i' h2).1; omega)
        have hlo : (w.heap.size : Nat) < w.heap.size + 1 := Nat.lt_succ_self _
        have hul : (rollS S a s k').nl = U.length := by unfold rollS; rw [HU.out]
        have hcl' : (rollS S a s k').nc = j + (S.nc - (j + 1)) := hN
        refine bodyPost_ret (v := .agg #[.int .i64 0, .slice ao6 (j + (S.nc - (j + 1))) cp6, .slice y1 U.length z1, .slice y2 (S.nw + 1) z2]) (by simp [results, Tryz.results49, go_sem, r0, r1, r2, r3]) rfl ?_
        refine ⟨ao6, cp6, y1, z1, y2, z2, ?_, ?_, (((BZ.out.setCell (Nat.le_refl _) _).setCell (Nat.le_refl _) _).setCell (Nat.le_refl _) _).setCell (Nat.le_refl _) _⟩
        · rw [hul, hcl']; rfl
        · rw [hul, hcl']
          exact ⟨((((S8.far hlo _).far hlo _).far hlo _).far hlo _).mono (by omega), (((F8.far _ _).far _ _).far _ _).far _ _, A8⟩
    · go_simp
      refine hK.out _ _ trivial (fun hS => ?_)
      clear hK K
      refine wpAnyH_take (i := 10) (v := ?_) rfl (by kernel_rfl) (by kernel_rfl) (by kernel_rfl) (fun _ _ _ h => h) (Or.inl ⟨by kernel_rfl, ?_⟩) hS ?_
      rotate_left
      · intro wx hx
        go_simp
        try with_reducible rfl
      refine wpAnyH_ready (rs := [0]) (by kernel_rfl) (by simp) ?_
      refine AllReadyH.cons rfl (fun K hK => ?_) AllReadyH.nil
      go_simp
      refine hK.out _ _ trivial (fun hS => ?_)
      clear hK K
      refine wpAnyH_ready (rs := [5]) (by kernel_rfl) (by simp) ?_
      refine AllReadyH.cons rfl (fun K hK => ?_) AllReadyH.nil
      refine step_app 86 i0 (.agg #[.int .i64 0, .int .i64 0, .int .i64 0]) 3 24 (by rfl) _ _ 28 (by rfl) Tryz.underlying28 hi0 hz0 hz1 hz2 rfl (by omega) (by omega) _ X0.heap.size 0 [] (.slice (some ⟨X0.heap.size, 0, none⟩) 0 0) (by rfl) O0.out (w.heap.size + 1) j S.c (.slice (some ⟨cg, co, none⟩) j e0) (by rfl) (C0.out.head hj4 e0) (by omega) (by show X0.heap.size ≤ (World.alloc X0 _).heap.size; simp) ?_
      intro ao5 cp5 w7 O7 G7
      rw [Nat.zero_add, List.nil_append] at O7
      rw [show (0 : Nat) + j = j from Nat.zero_add j]
      have F2 : w7.cell? ⟨w2.heap.size, 0, none⟩ = some (.slice (some ⟨cg, co, none⟩) S.nc e0) := G7.cell F1 (fun q => by simp [Value.ownBlock] at q; omega)
      refine hK.out _ _ trivial (fun hS => ?_)
      clear hK K
      have C7 : Hid (Row w7 (w.heap.size + 1) 3 S.nc S.c (.slice (some ⟨cg, co, none⟩) S.nc e0)) := C0.out.turned G7 (fun h0 k hk q => by
        have h1 := (HS.out.1.1.1.lt h0 k hk).2
        rw [q] at hk
        simp [Value.ownBlock] at hk q
        omega)
      refine wpAnyH_ready (rs := [11]) (by kernel_rfl) (by simp) ?_
      refine AllReadyH.cons rfl (fun K hK => ?_) AllReadyH.nil
      refine step_app 86 i0 (.agg #[.int .i64 0, .int .i64 0, .int .i64 0]) 3 24 (by rfl) _ _ 28 (by rfl) Tryz.underlying28 hi0 hz0 hz1 hz2 rfl (by omega) (by omega) _ X0.heap.size j (nums S.c (j * 3)) (.slice ao5 j cp5) (by rfl) O7 (w.heap.size + 1) (S.nc - (j + 1)) (fun p => S.c ((j + 1) * 3 + p)) (.slice A (S.nc - (j + 1)) (e0 - (j + 1))) (by rfl) (hA ▸ C7.out.tailR (j + 1) g0) (by omega) (Nat.le_trans (by show X0.heap.size ≤ (World.alloc X0 _).heap.size; simp) G7.size) ?_
      intro ao6 cp6 wC O8 G8
      have keep : ∀ q, q < X0.heap.size → wC.heap[q]? = X0.heap[q]? := fun q hq => by
        have h1 : (X0.alloc (.cells #[] 86)).drew.heap[q]? = X0.heap[q]? := (below_alloc X0 (.cells #[] 86)).block q hq
        have h2 : w7.heap[q]? = (X0.alloc (.cells #[] 86)).drew.heap[q]? := G7.block q (by show q < (World.alloc X0 _).heap.size; simp; omega) (fun e => by simp [Value.ownBlock] at e; omega)
        have h3 : wC.heap[q]? = w7.heap[q]? := G8.block q (Nat.lt_of_lt_of_le (by show q < (World.alloc X0 _).heap.size; simp; omega) G7.size) (fun e => by have := (O7.block q e.symm).1; omega)
        exact h3.trans (h2.trans h1)
      have szC : X0.heap.size ≤ wC.heap.size := Nat.le_trans (Nat.le_trans (by show X0.heap.size ≤ (World.alloc X0 _).heap.size; simp) G7.size) G8.size
      have osC : wC.os = X0.os ∧ wC.tape = X0.tape ∧ wC.output = X0.output := ⟨G8.os.trans G7.os, G8.tape.trans G7.tape, G8.output.trans G7.output⟩
      have TC : Blk3 wC w2.heap.size (.slice (some ⟨cg, co, none⟩) S.nc e0) (.slice y1 U.length z1) (.slice d2 S.nw e2) := TX.out.kept (keep _ zX)
      refine hK.out _ _ trivial (fun hS => ?_)
      clear hK K
      refine wpAnyH_take (i := 12) (v := ?_) rfl (by kernel_rfl) (by kernel_rfl) (by kernel_rfl) (fun _ _ _ h => h) (Or.inl ⟨by kernel_rfl, ?_⟩) hS ?_
      rotate_left
      · intro wx hx
        go_simp
        try with_reducible rfl
      obtain ⟨⟨t0, t1, t2⟩, ft0, ft1, ft2⟩ := TC
      refine wpAnyH_ready (rs := [13]) (by kernel_rfl) (by simp) ?_
      refine AllReadyH.cons rfl (fun K hK => ?_) AllReadyH.nil
      go_simp
      refine hK.out _ _ trivial (fun hS => ?_)
      clear hK K
      have TC : Blk3 wC w2.heap.size (.slice (some ⟨cg, co, none⟩) S.nc e0) (.slice y1 U.length z1) (.slice d2 S.nw e2) := TX.out.kept (keep _ zX)
      have BC : Below X0.heap.size X0 wC := ⟨osC.1, osC.2.1, osC.2.2, szC, keep⟩
      have BX1 : Hid (Below w.heap.size w (wC.setCell ⟨w2.heap.size, 0, none⟩ (.slice ao6 (j + (S.nc - (j + 1))) cp6))) := (BX.out.trans (BC.mono BX.out.size)).setCell (Nat.le_of_lt hzw) _
      have B2X1 : Hid (Below w2.heap.size w2 (wC.setCell ⟨w2.heap.size, 0, none⟩ (.slice ao6 (j + (S.nc - (j + 1))) cp6))) := (B2X.out.trans (BC.mono (Nat.le_of_lt zX))).setCell (Nat.le_refl _) _
      have RX1 : Hid (Blk4 (wC.setCell ⟨w2.heap.size, 0, none⟩ (.slice ao6 (j + (S.nc - (j + 1))) cp6)) w.heap.size (.int .i64 0) (.slice none 0 0) (.slice none 0 0) (.slice none 0 0)) := (RX.out.later BC).kept (Below.heap_setCell _ _ _ _ (Nat.ne_of_lt hzw))
      have TX1 : Hid (Blk3 (wC.setCell ⟨w2.heap.size, 0, none⟩ (.slice ao6 (j + (S.nc - (j + 1))) cp6)) w2.heap.size (.slice ao6 (j + (S.nc - (j + 1))) cp6) (.slice y1 U.length z1) (.slice d2 S.nw e2)) := TC.set0 _
      have OX1 : Hid (OwnM (wC.setCell ⟨w2.heap.size, 0, none⟩ (.slice ao6 (j + (S.nc - (j + 1))) cp6)) w5.heap.size 57 5 (.slice y1 U.length z1) U.length U.flatten) := (OX.out.later BC).far hz3 _
      have hobX : Hid (∀ q, (Value.slice y1 U.length z1).ownBlock = some q → w5.heap.size ≤ q ∧ q < X0.heap.size) := OX.out.block
      have OC : Hid (OwnM (wC.setCell ⟨w2.heap.size, 0, none⟩ (.slice ao6 (j + (S.nc - (j + 1))) cp6)) X0.heap.size 86 3 (.slice ao6 (j + (S.nc - (j + 1))) cp6) (j + (S.nc - (j + 1))) (nums S.c (j * 3) ++ nums (fun p => S.c ((j + 1) * 3 + p)) ((S.nc - (j + 1)) * 3))) := O8.far zX _
      have hobC : Hid (∀ q, (Value.slice ao6 (j + (S.nc - (j + 1))) cp6).ownBlock = some q → X0.heap.size ≤ q ∧ q < (wC.setCell ⟨w2.heap.size, 0, none⟩ (.slice ao6 (j + (S.nc - (j + 1))) cp6)).heap.size) := OC.out.block
      have zX0 : w2.heap.size < X0.heap.size := zX
      have zX1 : w2.heap.size < (wC.setCell ⟨w2.heap.size, 0, none⟩ (.slice ao6 (j + (S.nc - (j + 1))) cp6)).heap.size := TX1.out.lt
      have z5X1 : w5.heap.size ≤ (wC.setCell ⟨w2.heap.size, 0, none⟩ (.slice ao6 (j + (S.nc - (j + 1))) cp6)).heap.size := Nat.le_trans z5X (by simpa [World.setCell] using szC)
      generalize wC.setCell ⟨w2.heap.size, 0, none⟩ (.slice ao6 (j + (S.nc - (j + 1))) cp6) = X1 at BX1 B2X1 RX1 TX1 OX1 OC hobC zX1 z5X1 ⊢
      clear BX B2X RX TX OX zX z5X LX F0 F1 F1d F0d F2 O0 C0 C7 O7 G7 O8 G8 keep szC osC TC BC t0 t1 t2 ft0 ft1 ft2
      have BX := BX1
      have B2X := B2X1
      have RX := RX1
      have TX := TX1
      have OX := OX1
      have zX := zX1
      have z5X := z5X1
      have LX : True := trivial
      clear BX1 B2X1 RX1 TX1 OX1 zX1 z5X1
      refine wpAnyH_done (by kernel_rfl) ?_ _
      obtain ⟨⟨t0, t1, t2⟩, _⟩ := TX.out
      go_simp
      go_wp2_with fail
      refine (l2AddWrite_any S.nw S.k d2 e2 (w.heap.size + 1) a s s 4 _ (HS.out.1.1.2.2.later B2X.out) (by omega) g2).mono ?_
      rintro e w7 ⟨k', y2, z2, hk', rfl, O7, q7⟩
      obtain rfl : k' = k := hk'.one HK.out
      have BY : Hid (Below w.heap.size w w7) := BX.out.trans (q7.mono BX.out.size)
      have B2Y : Hid (Below w2.heap.size w2 w7) := B2X.out.trans (q7.mono (Nat.le_of_lt zX))
      have RY : Hid (Blk4 w7 w.heap.size (.int .i64 0) (.slice none 0 0) (.slice none 0 0) (.slice none 0 0)) := RX.out.later q7
      have TY : Hid (Blk3 w7 w2.heap.size (.slice ao6 (j + (S.nc - (j + 1))) cp6) (.slice y1 U.length z1) (.slice d2 S.nw e2)) := TX.out.later q7
      have OY : Hid (OwnM w7 w5.heap.size 57 5 (.slice y1 U.length z1) U.length U.flatten) := OX.out.later q7
      have hob : Hid (∀ q, (Value.slice y1 U.length z1).ownBlock = some q → w5.heap.size ≤ q ∧ q < X1.heap.size) := OX.out.block
      have PY : Hid (OwnM w7 X1.heap.size 92 4 (.slice y2 (S.nw + 1) z2) (S.nw + 1) (nums S.k (k' * 4) ++ [a, s, s, 4] ++ nums (fun p => S.k (k' * 4 + p)) ((S.nw - k') * 4))) := O7
      have hkn : k' ≤ S.nw := hk'.1
      have hqX : Hid (Below X1.heap.size X1 w7) := q7
      clear O7 q7 hk' OX RX TX LX BX B2X HK t0 t1 t2
      obtain ⟨⟨t0, t1, t2⟩, ft0, ft1, ft2⟩ := TY.out
      go_upto_region 16 with fail
      have RZ := RY.out.kept (Below.heap_setCell w7 ⟨w2.heap.size, 2, none⟩ (.slice y2 (S.nw + 1) z2) _ (Nat.ne_of_lt hzw))
      have TZ := TY.out.set2 (.slice y2 (S.nw + 1) z2)
      have BZ : Hid (Below w.heap.size w (w7.setCell ⟨w2.heap.size, 2, none⟩ (.slice y2 (S.nw + 1) z2))) := BY.out.setCell (Nat.le_of_lt hzw) _
      have B2Z : Hid (Below w2.heap.size w2 (w7.setCell ⟨w2.heap.size, 2, none⟩ (.slice y2 (S.nw + 1) z2))) := B2Y.out.setCell (Nat.le_refl _) _
      have OZ : Hid (OwnM (w7.setCell ⟨w2.heap.size, 2, none⟩ (.slice y2 (S.nw + 1) z2)) w5.heap.size 57 5 (.slice y1 U.length z1) U.length U.flatten) := OY.out.far hz3 _
      have PZ : Hid (OwnM (w7.setCell ⟨w2.heap.size, 2, none⟩ (.slice y2 (S.nw + 1) z2)) X1.heap.size 92 4 (.slice y2 (S.nw + 1) z2) (S.nw + 1) (nums S.k (k' * 4) ++ [a, s, s, 4] ++ nums (fun p => S.k (k' * 4 + p)) ((S.nw - k') * 4))) := PY.out.far zX _
      have OC8 : Hid (OwnM (w7.setCell ⟨w2.heap.size, 2, none⟩ (.slice y2 (S.nw + 1) z2)) X0.heap.size 86 3 (.slice ao6 (j + (S.nc - (j + 1))) cp6) (j + (S.nc - (j + 1))) (nums S.c (j * 3) ++ nums (fun p => S.c ((j + 1) * 3 + p)) ((S.nc - (j + 1)) * 3))) := (OC.out.later hqX.out).far zX0 _
      generalize w7.setCell ⟨w2.heap.size, 2, none⟩ (.slice y2 (S.nw + 1) z2) = w8 at RZ TZ BZ B2Z OZ PZ OC8 ⊢
      clear t0 t1 t2 ft0 ft1 ft2 RY TY BY B2Y OY PY
      obtain ⟨⟨r0, r1, r2, r3⟩, f0, f1, f2, f3⟩ := RZ
      obtain ⟨⟨t0, t1, t2⟩, _⟩ := TZ
      go_wp2
      have hone := selD_one (F := S.c) (m := 3) (D := goneK a s) (j := j) (goneK_iff.2 hcl.at.2.1) S.nc hjn (fun i hi' hne => goneK_not (fun q => hne (cell_once HZ.out hi' hjn q hcl.at.2.1)))
      have hN : (unlC S.c a s S.nc).length = j + (S.nc - (j + 1)) := by
        have : (unlC S.c a s S.nc).length = S.nc - 1 := hone.1
        omega
      have lenC : (nums S.c (j * 3) ++ nums (fun p => S.c ((j + 1) * 3 + p)) ((S.nc - (j + 1)) * 3)).length = (j + (S.nc - (j + 1))) * 3 := by
        rw [List.length_append, nums_length, nums_length]
        omega
      have rC0 := (OC8.out.own lenC).row
      have rC : Row w8 (w.heap.size + 1) 3 (j + (S.nc - (j + 1))) (fun p => (unlC S.c a s S.nc).flatten.getD p 0) (.slice ao6 (j + (S.nc - (j + 1))) cp6) := (rC0.1.congr (fun p hp => (roll_cells hjn p (by omega)).trans (hone.2 p (by omega)).symm)).mono (by omega)
      have fC : Free w8 ((j + (S.nc - (j + 1))) * 3) (.slice ao6 (j + (S.nc - (j + 1))) cp6) := rC0.2
      have lenL : U.flatten.length = U.length * 5 := flat_len U (by rw [← HU.out]; exact selD_len _ _ _ _)
      have lenW : (nums S.k (k' * 4) ++ [a, s, s, 4] ++ nums (fun p => S.k (k' * 4 + p)) ((S.nw - k') * 4)).length = (S.nw + 1) * 4 := by
        rw [List.length_append, List.length_append, nums_length, nums_length]
        simp only [List.length_cons, List.length_nil]
        omega
      have rL := (OZ.out.own lenL).row
      have rW := (PZ.out.own lenW).row
      have S8 : St w8 (w.heap.size + 1) (rollS S a s k') (.slice ao6 (j + (S.nc - (j + 1))) cp6) (.slice y1 U.length z1) (.slice y2 (S.nw + 1) z2) := by
        unfold rollS
        rw [HU.out, hN]
        exact ⟨rC, rL.1.mono (by omega), rW.1.mono (by omega)⟩
      have F8 : FreeS w8 (rollS S a s k') (.slice ao6 (j + (S.nc - (j + 1))) cp6) (.slice y1 U.length z1) (.slice y2 (S.nw + 1) z2) := by
        unfold rollS
        rw [HU.out, hN]
        exact ⟨fC, rL.2, rW.2⟩
      have A8 : ApartD (rollS S a s k') (.slice ao6 (j + (S.nc - (j + 1))) cp6) (.slice y1 U.length z1) (.slice y2 (S.nw + 1) z2) :=
        apart_mk S8.1 S8.2.1 (fun i i' h1 h2 => by have := (hobC.out i h1).1; have := (hobX.out i' h2).2; omega) (fun i i' h1 h2 => by have := (hobC.out i h1).2; have := (PZ.out.block i' h2).1; omega) (fun i i' h1 h2 => by have := (hob.out i h1).2; have := (PZ.out.block i' h2).1; omega)
      have hlo : (w.heap.size : Nat) < w.heap.size + 1 := Nat.lt_succ_self _
      have hul : (rollS S a s k').nl = U.length := by unfold rollS; rw [HU.out]
      have hcl' : (rollS S a s k').nc = j + (S.nc - (j + 1)) := hN
      refine bodyPost_ret (v := .agg #[.int .i64 0, .slice ao6 (j + (S.nc - (j + 1))) cp6, .slice y1 U.length z1, .slice y2 (S.nw + 1) z2]) (by simp [results, Tryz.results49, go_sem, r0, r1, r2, r3]) rfl ?_
      refine ⟨ao6, cp6, y1, z1, y2, z2, ?_, ?_, (((BZ.out.setCell (Nat.le_refl _) _).setCell (Nat.le_refl _) _).setCell (Nat.le_refl _) _).setCell (Nat.le_refl _) _⟩
      · rw [hul, hcl']; rfl
      · rw [hul, hcl']
        exact ⟨((((S8.far hlo _).far hlo _).far hlo _).far hlo _).mono (by omega), (((F8.far _ _).far _ _).far _ _).far _ _, A8⟩
  · go_simp
    refine hK.out _ _ trivial (fun hS => ?_)
    clear hK K
    refine wpAnyH_take (i := 10) (v := ?_) rfl (by kernel_rfl) (by kernel_rfl) (by kernel_rfl) (fun _ _ _ h => h) (Or.inl ⟨by kernel_rfl, ?_⟩) hS ?_
    rotate_left
    · intro wx hx
      go_simp
      try with_reducible rfl
    refine wpAnyH_ready (rs := [0, 2]) (by kernel_rfl) (by simp) ?_
    refine AllReadyH.cons rfl (fun K hK => ?_) (AllReadyH.cons rfl (fun K hK => ?_) AllReadyH.nil)
    · go_simp
      refine hK.out _ _ trivial (fun hS => ?_)
      clear hK K
      refine wpAnyH_ready (rs := [2]) (by kernel_rfl) (by simp) ?_
      refine AllReadyH.cons rfl (fun K hK => ?_) AllReadyH.nil
      go_simp
      refine hK.out _ _ trivial (fun hS => ?_)
      clear hK K
      refine wpAnyH_take (i := 4) (v := ?_) rfl (by kernel_rfl) (by kernel_rfl) (by kernel_rfl) (fun _ _ _ h => h) (Or.inl ⟨by kernel_rfl, ?_⟩) hS ?_
      rotate_left
      · intro wx hx
        go_simp
        try with_reducible rfl
      refine wpAnyH_ready (rs := [5]) (by kernel_rfl) (by simp) ?_
      refine AllReadyH.cons rfl (fun K hK => ?_) AllReadyH.nil
      refine step_app 86 i0 (.agg #[.int .i64 0, .int .i64 0, .int .i64 0]) 3 24 (by rfl) _ _ 28 (by rfl) Tryz.underlying28 hi0 hz0 hz1 hz2 rfl (by omega) (by omega) _ X0.heap.size 0 [] (.slice (some ⟨X0.heap.size, 0, none⟩) 0 0) (by rfl) O0.out (w.heap.size + 1) j S.c (.slice (some ⟨cg, co, none⟩) j e0) (by rfl) (C0.out.head hj4 e0) (by omega) (by show X0.heap.size ≤ (World.alloc X0 _).heap.size; simp) ?_
      intro ao5 cp5 w7 O7 G7
      rw [Nat.zero_add, List.nil_append] at O7
      rw [show (0 : Nat) + j = j from Nat.zero_add j]
      have F2 : w7.cell? ⟨w2.heap.size, 0, none⟩ = some (.slice (some ⟨cg, co, none⟩) S.nc e0) := G7.cell F1 (fun q => by simp [Value.ownBlock] at q; omega)
      refine hK.out _ _ trivial (fun hS => ?_)
      clear hK K
      have C7 : Hid (Row w7 (w.heap.size + 1) 3 S.nc S.c (.slice (some ⟨cg, co, none⟩) S.nc e0)) := C0.out.turned G7 (fun h0 k hk q => by
        have h1 := (HS.out.1.1.1.lt h0 k hk).2
        rw [q] at hk
        simp [Value.ownBlock] at hk q
        omega)
      refine wpAnyH_ready (rs := [11]) (by kernel_rfl) (by simp) ?_
      refine AllReadyH.cons rfl (fun K hK => ?_) AllReadyH.nil
      refine step_app 86 i0 (.agg #[.int .i64 0, .int .i64 0, .int .i64 0]) 3 24 (by rfl) _ _ 28 (by rfl) Tryz.underlying28 hi0 hz0 hz1 hz2 rfl (by omega) (by omega) _ X0.heap.size j (nums S.c (j * 3)) (.slice ao5 j cp5) (by rfl) O7 (w.heap.size + 1) (S.nc - (j + 1)) (fun p => S.c ((j + 1) * 3 + p)) (.slice A (S.nc - (j + 1)) (e0 - (j + 1))) (by rfl) (hA ▸ C7.out.tailR (j + 1) g0) (by omega) (Nat.le_trans (by show X0.heap.size ≤ (World.alloc X0 _).heap.size; simp) G7.size) ?_
      intro ao6 cp6 wC O8 G8
      have keep : ∀ q, q < X0.heap.size → wC.heap[q]? = X0.heap[q]? := fun q hq => by
        have h1 : (X0.alloc (.cells #[] 86)).drew.heap[q]? = X0.heap[q]? := (below_alloc X0 (.cells #[] 86)).block q hq
        have h2 : w7.heap[q]? = (X0.alloc (.cells #[] 86)).drew.heap[q]? := G7.block q (by show q < (World.alloc X0 _).heap.size; simp; omega) (fun e => by simp [Value.ownBlock] at e; omega)
        have h3 : wC.heap[q]? = w7.heap[q]? := G8.block q (Nat.lt_of_lt_of_le (by show q < (World.alloc X0 _).heap.size; simp; omega) G7.size) (fun e => by have := (O7.block q e.symm).1; omega)
        exact h3.trans (h2.trans h1)
      have szC : X0.heap.size ≤ wC.heap.size := Nat.le_trans (Nat.le_trans (by show X0.heap.size ≤ (World.alloc X0 _).heap.size; simp) G7.size) G8.size
      have osC : wC.os = X0.os ∧ wC.tape = X0.tape ∧ wC.output = X0.output := ⟨G8.os.trans G7.os, G8.tape.trans G7.tape, G8.output.trans G7.output⟩
      have TC : Blk3 wC w2.heap.size (.slice (some ⟨cg, co, none⟩) S.nc e0) (.slice y1 U.length z1) (.slice d2 S.nw e2) := TX.out.kept (keep _ zX)
      refine hK.out _ _ trivial (fun hS => ?_)
      clear hK K
      refine wpAnyH_take (i := 12) (v := ?_) rfl (by kernel_rfl) (by kernel_rfl) (by kernel_rfl) (fun _ _ _ h => h) (Or.inl ⟨by kernel_rfl, ?_⟩) hS ?_
      rotate_left
      · intro wx hx
        go_simp
        try with_reducible rfl
      obtain ⟨⟨t0, t1, t2⟩, ft0, ft1, ft2⟩ := TC
      refine wpAnyH_ready (rs := [13]) (by kernel_rfl) (by simp) ?_
      refine AllReadyH.cons rfl (fun K hK => ?_) AllReadyH.nil
      go_simp
      refine hK.out _ _ trivial (fun hS => ?_)
      clear hK K
      have TC : Blk3 wC w2.heap.size (.slice (some ⟨cg, co, none⟩) S.nc e0) (.slice y1 U.length z1) (.slice d2 S.nw e2) := TX.out.kept (keep _ zX)
      have BC : Below X0.heap.size X0 wC := ⟨osC.1, osC.2.1, osC.2.2, szC, keep⟩
      have BX1 : Hid (Below w.heap.size w (wC.setCell ⟨w2.heap.size, 0, none⟩ (.slice ao6 (j + (S.nc - (j + 1))) cp6))) := (BX.out.trans (BC.mono BX.out.size)).setCell (Nat.le_of_lt hzw) _
      have B2X1 : Hid (Below w2.heap.size w2 (wC.setCell ⟨w2.heap.size, 0, none⟩ (.slice ao6 (j + (S.nc - (j + 1))) cp6))) := (B2X.out.trans (BC.mono (Nat.le_of_lt zX))).setCell (Nat.le_refl _) _
      have RX1 : Hid (Blk4 (wC.setCell ⟨w2.heap.size, 0, none⟩ (.slice ao6 (j + (S.nc - (j + 1))) cp6)) w.heap.size (.int .i64 0) (.slice none 0 0) (.slice none 0 0) (.slice none 0 0)) := (RX.out.later BC).kept (Below.heap_setCell _ _ _ _ (Nat.ne_of_lt hzw))
      have TX1 : Hid (Blk3 (wC.setCell ⟨w2.heap.size, 0, none⟩ (.slice ao6 (j + (S.nc - (j + 1))) cp6)) w2.heap.size (.slice ao6 (j + (S.nc - (j + 1))) cp6) (.slice y1 U.length z1) (.slice d2 S.nw e2)) := TC.set0 _
      have OX1 : Hid (OwnM (wC.setCell ⟨w2.heap.size, 0, none⟩ (.slice ao6 (j + (S.nc - (j + 1))) cp6)) w5.heap.size 57 5 (.slice y1 U.length z1) U.length U.flatten) := (OX.out.later BC).far hz3 _
      have hobX : Hid (∀ q, (Value.slice y1 U.length z1).ownBlock = some q → w5.heap.size ≤ q ∧ q < X0.heap.size) := OX.out.block
      have OC : Hid (OwnM (wC.setCell ⟨w2.heap.size, 0, none⟩ (.slice ao6 (j + (S.nc - (j + 1))) cp6)) X0.heap.size 86 3 (.slice ao6 (j + (S.nc - (j + 1))) cp6) (j + (S.nc - (j + 1))) (nums S.c (j * 3) ++ nums (fun p => S.c ((j + 1) * 3 + p)) ((S.nc - (j + 1)) * 3))) := O8.far zX _
      have hobC : Hid (∀ q, (Value.slice ao6 (j + (S.nc - (j + 1))) cp6).ownBlock = some q → X0.heap.size ≤ q ∧ q < (wC.setCell ⟨w2.heap.size, 0, none⟩ (.slice ao6 (j + (S.nc - (j + 1))) cp6)).heap.size) := OC.out.block
      have zX0 : w2.heap.size < X0.heap.size := zX
      have zX1 : w2.heap.size < (wC.setCell ⟨w2.heap.size, 0, none⟩ (.slice ao6 (j + (S.nc - (j + 1))) cp6)).heap.size := TX1.out.lt
      have z5X1 : w5.heap.size ≤ (wC.setCell ⟨w2.heap.size, 0, none⟩ (.slice ao6 (j + (S.nc - (j + 1))) cp6)).heap.size := Nat.le_trans z5X (by simpa [World.setCell] using szC)
      generalize wC.setCell ⟨w2.heap.size, 0, none⟩ (.slice ao6 (j + (S.nc - (j + 1))) cp6) = X1 at BX1 B2X1 RX1 TX1 OX1 OC hobC zX1 z5X1 ⊢
      clear BX B2X RX TX OX zX z5X LX F0 F1 F1d F0d F2 O0 C0 C7 O7 G7 O8 G8 keep szC osC TC BC t0 t1 t2 ft0 ft1 ft2
      have BX := BX1
      have B2X := B2X1
      have RX := RX1
      have TX := TX1
      have OX := OX1
      have zX := zX1
      have z5X := z5X1
      have LX : True := trivial
      clear BX1 B2X1 RX1 TX1 OX1 zX1 z5X1
      refine wpAnyH_done (by kernel_rfl) ?_ _
      obtain ⟨⟨t0, t1, t2⟩, _⟩ := TX.out
      go_simp
      go_wp2_with fail
      refine (l2AddWrite_any S.nw S.k d2 e2 (w.heap.size + 1) a s s 4 _ (HS.out.1.1.2.2.later B2X.out) (by omega) g2).mono ?_
      rintro e w7 ⟨k', y2, z2, hk', rfl, O7, q7⟩
      obtain rfl : k' = k := hk'.one HK.out
      have BY : Hid (Below w.heap.size w w7) := BX.out.trans (q7.mono BX.out.size)
      have B2Y : Hid (Below w2.heap.size w2 w7) := B2X.out.trans (q7.mono (Nat.le_of_lt zX))
      have RY : Hid (Blk4 w7 w.heap.size (.int .i64 0) (.slice none 0 0) (.slice none 0 0) (.slice none 0 0)) := RX.out.later q7
      have TY : Hid (Blk3 w7 w2.heap.size (.slice ao6 (j + (S.nc - (j + 1))) cp6) (.slice y1 U.length z1) (.slice d2 S.nw e2)) := TX.out.later q7
      have OY : Hid (OwnM w7 w5.heap.size 57 5 (.slice y1 U.length z1) U.length U.flatten) := OX.out.later q7
      have hob : Hid (∀ q, (Value.slice y1 U.length z1).ownBlock = some q → w5.heap.size ≤ q ∧ q < X1.heap.size) := OX.out.block
      have PY : Hid (OwnM w7 X1.heap.size 92 4 (.slice y2 (S.nw + 1) z2) (S.nw + 1) (nums S.k (k' * 4) ++ [a, s, s, 4] ++ nums (fun p => S.k (k' * 4 + p)) ((S.nw - k') * 4))) := O7
      have hkn : k' ≤ S.nw := hk'.1
      have hqX : Hid (Below X1.heap.size X1 w7) := q7
      clear O7 q7 hk' OX RX TX LX BX B2X HK t0 t1 t2
      obtain ⟨⟨t0, t1, t2⟩, ft0, ft1, ft2⟩ := TY.out
      go_upto_region 16 with fail
      have RZ := RY.out.kept (Below.heap_setCell w7 ⟨w2.heap.size, 2, none⟩ (.slice y2 (S.nw + 1) z2) _ (Nat.ne_of_lt hzw))
      have TZ := TY.out.set2 (.slice y2 (S.nw + 1) z2)
      have BZ : Hid (Below w.heap.size w (w7.setCell ⟨w2.heap.size, 2, none⟩ (.slice y2 (S.nw + 1) z2))) := BY.out.setCell (Nat.le_of_lt hzw) _
      have B2Z : Hid (Below w2.heap.size w2 (w7.setCell ⟨w2.heap.size, 2, none⟩ (.slice y2 (S.nw + 1) z2))) := B2Y.out.setCell (Nat.le_refl _) _
      have OZ : Hid (OwnM (w7.setCell ⟨w2.heap.size, 2, none⟩ (.slice y2 (S.nw + 1) z2)) w5.heap.size 57 5 (.slice y1 U.length z1) U.length U.flatten) := OY.out.far hz3 _
      have PZ : Hid (OwnM (w7.setCell ⟨w2.heap.size, 2, none⟩ (.slice y2 (S.nw + 1) z2)) X1.heap.size 92 4 (.slice y2 (S.nw + 1) z2) (S.nw + 1) (nums S.k (k' * 4) ++ [a, s, s, 4] ++ nums (fun p => S.k (k' * 4 + p)) ((S.nw - k') * 4))) := PY.out.far zX _
      have OC8 : Hid (OwnM (w7.setCell ⟨w2.heap.size, 2, none⟩ (.slice y2 (S.nw + 1) z2)) X0.heap.size 86 3 (.slice ao6 (j + (S.nc - (j + 1))) cp6) (j + (S.nc - (j + 1))) (nums S.c (j * 3) ++ nums (fun p => S.c ((j + 1) * 3 + p)) ((S.nc - (j + 1)) * 3))) := (OC.out.later hqX.out).far zX0 _
      generalize w7.setCell ⟨w2.heap.size, 2, none⟩ (.slice y2 (S.nw + 1) z2) = w8 at RZ TZ BZ B2Z OZ PZ OC8 ⊢
      clear t0 t1 t2 ft0 ft1 ft2 RY TY BY B2Y OY PY
      obtain ⟨⟨r0, r1, r2, r3⟩, f0, f1, f2, f3⟩ := RZ
      obtain ⟨⟨t0, t1, t2⟩, _⟩ := TZ
      go_wp2
      have hone := selD_one (F := S.c) (m := 3) (D := goneK a s) (j := j) (goneK_iff.2 hcl.at.2.1) S.nc hjn (fun i hi' hne => goneK_not (fun q => hne (cell_once HZ.out hi' hjn q hcl.at.2.1)))
      have hN : (unlC S.c a s S.nc).length = j + (S.nc - (j + 1)) := by
        have : (unlC S.c a s S.nc).length = S.nc - 1 := hone.1
        omega
      have lenC : (nums S.c (j * 3) ++ nums (fun p => S.c ((j + 1) * 3 + p)) ((S.nc - (j + 1)) * 3)).length = (j + (S.nc - (j + 1))) * 3 := by
        rw [List.length_append, nums_length, nums_length]
        omega
      have rC0 := (OC8.out.own lenC).row
      have rC : Row w8 (w.heap.size + 1) 3 (j + (S.nc - (j + 1))) (fun p => (unlC S.c a s S.nc).flatten.getD p 0) (.slice ao6 (j + (S.nc - (j + 1))) cp6) := (rC0.1.congr (fun p hp => (roll_cells hjn p (by omega)).trans (hone.2 p (by omega)).symm)).mono (by omega)
      have fC : Free w8 ((j + (S.nc - (j + 1))) * 3) (.slice ao6 (j + (S.nc - (j + 1))) cp6) := rC0.2
      have lenL : U.flatten.length = U.length * 5 := flat_len U (by rw [← HU.out]; exact selD_len _ _ _ _)
      have lenW : (nums S.k (k' * 4) ++ [a, s, s, 4] ++ nums (fun p => S.k (k' * 4 + p)) ((S.nw - k') * 4)).length = (S.nw + 1) * 4 := by
        rw [List.length_append, List.length_append, nums_length, nums_length]
        simp only [List.length_cons, List.length_nil]
        omega
      have rL := (OZ.out.own lenL).row
      have rW := (PZ.out.own lenW).row
      have S8 : St w8 (w.heap.size + 1) (rollS S a s k') (.slice ao6 (j + (S.nc - (j + 1))) cp6) (.slice y1 U.length z1) (.slice y2 (S.nw + 1) z2) := by
        unfold rollS
        rw [HU.out, hN]
        exact ⟨rC, rL.1.mono (by omega), rW.1.mono (by omega)⟩
      have F8 : FreeS w8 (rollS S a s k') (.slice ao6 (j + (S.nc - (j + 1))) cp6) (.slice y1 U.length z1) (.slice y2 (S.nw + 1) z2) := by
        unfold rollS
        rw [HU.out, hN]
        exact ⟨fC, rL.2, rW.2⟩
      have A8 : ApartD (rollS S a s k') (.slice ao6 (j + (S.nc - (j + 1))) cp6) (.slice y1 U.length z1) (.slice y2 (S.nw + 1) z2) :=
        apart_mk S8.1 S8.2.1 (fun i i' h1 h2 => by have := (hobC.out i h1).1; have := (hobX.out i' h2).2; omega) (fun i i' h1 h2 => by have := (hobC.out i h1).2; have := (PZ.out.block i' h2).1; omega) (fun i i' h1 h2 => by have := (hob.out i h1).2; have := (PZ.out.block i' h2).1; omega)
      have hlo : (w.heap.size : Nat) < w.heap.size + 1 := Nat.lt_succ_self _
      have hul : (rollS S a s k').nl = U.length := by unfold rollS; rw [HU.out]
      have hcl' : (rollS S a s k').nc = j + (S.nc - (j + 1)) := hN
      refine bodyPost_ret (v := .agg #[.int .i64 0, .slice ao6 (j + (S.nc - (j + 1))) cp6, .slice y1 U.length z1, .slice y2 (S.nw + 1) z2]) (by simp [results, Tryz.results49, go_sem, r0, r1, r2, r3]) rfl ?_
      refine ⟨ao6, cp6, y1, z1, y2, z2, ?_, ?_, (((BZ.out.setCell (Nat.le_refl _) _).setCell (Nat.le_refl _) _).setCell (Nat.le_refl _) _).setCell (Nat.le_refl _) _⟩
      · rw [hul, hcl']; rfl
      · rw [hul, hcl']
        exact ⟨((((S8.far hlo _).far hlo _).far hlo _).far hlo _).mono (by omega), (((F8.far _ _).far _ _).far _ _).far _ _, A8⟩
    · go_simp
      refine hK.out _ _ trivial (fun hS => ?_)
      clear hK K
      refine wpAnyH_take (i := 4) (v := ?_) rfl (by kernel_rfl) (by kernel_rfl) (by kernel_rfl) (fun _ _ _ h => h) (Or.inl ⟨by kernel_rfl, ?_⟩) hS ?_
      rotate_left
      · intro wx hx
        go_simp
        try with_reducible rfl
      refine wpAnyH_ready (rs := [0]) (by kernel_rfl) (by simp) ?_
      refine AllReadyH.cons rfl (fun K hK => ?_) AllReadyH.nil
      go_simp
      refine hK.out _ _ trivial (fun hS => ?_)
      clear hK K
      refine wpAnyH_ready (rs := [5]) (by kernel_rfl) (by simp) ?_
      refine AllReadyH.cons rfl (fun K hK => ?_) AllReadyH.nil
      refine step_app 86 i0 (.agg #[.int .i64 0, .int .i64 0, .int .i64 0]) 3 24 (by rfl) _ _ 28 (by rfl) Tryz.underlying28 hi0 hz0 hz1 hz2 rfl (by omega) (by omega) _ X0.heap.size 0 [] (.slice (some ⟨X0.heap.size, 0, none⟩) 0 0) (by rfl) O0.out (w.heap.size + 1) j S.c (.slice (some ⟨cg, co, none⟩) j e0) (by rfl) (C0.out.head hj4 e0) (by omega) (by show X0.heap.size ≤ (World.alloc X0 _).heap.size; simp) ?_
      intro ao5 cp5 w7 O7 G7
      rw [Nat.zero_add, List.nil_append] at O7
      rw [show (0 : Nat) + j = j from Nat.zero_add j]
      have F2 : w7.cell? ⟨w2.heap.size, 0, none⟩ = some (.slice (some ⟨cg, co, none⟩) S.nc e0) := G7.cell F1 (fun q => by simp [Value.ownBlock] at q; omega)
      refine hK.out _ _ trivial (fun hS => ?_)
      clear hK K
      have C7 : Hid (Row w7 (w.heap.size + 1) 3 S.nc S.c (.slice (some ⟨cg, co, none⟩) S.nc e0)) := C0.out.turned G7 (fun h0 k hk q => by
        have h1 := (HS.out.1.1.1.lt h0 k hk).2
        rw [q] at hk
        simp [Value.ownBlock] at hk q
        omega)
      refine wpAnyH_ready (rs := [11]) (by kernel_rfl) (by simp) ?_
      refine AllReadyH.cons rfl (fun K hK => ?_) AllReadyH.nil
      refine step_app 86 i0 (.agg #[.int .i64 0, .int .i64 0, .int .i64 0]) 3 24 (by rfl) _ _ 28 (by rfl) Tryz.underlying28 hi0 hz0 hz1 hz2 rfl (by omega) (by omega) _ X0.heap.size j (nums S.c (j * 3)) (.slice ao5 j cp5) (by rfl) O7 (w.heap.size + 1) (S.nc - (j + 1)) (fun p => S.c ((j + 1) * 3 + p)) (.slice A (S.nc - (j + 1)) (e0 - (j + 1))) (by rfl) (hA ▸ C7.out.tailR (j + 1) g0) (by omega) (Nat.le_trans (by show X0.heap.size ≤ (World.alloc X0 _).heap.size; simp) G7.size) ?_
      intro ao6 cp6 wC O8 G8
      have keep : ∀ q, q < X0.heap.size → wC.heap[q]? = X0.heap[q]? := fun q hq => by
        have h1 : (X0.alloc (.cells #[] 86)).drew.heap[q]? = X0.heap[q]? := (below_alloc X0 (.cells #[] 86)).block q hq
        have h2 : w7.heap[q]? = (X0.alloc (.cells #[] 86)).drew.heap[q]? := G7.block q (by show q < (World.alloc X0 _).heap.size; simp; omega) (fun e => by simp [Value.ownBlock] at e; omega)
        have h3 : wC.heap[q]? = w7.heap[q]? := G8.block q (Nat.lt_of_lt_of_le (by show q < (World.alloc X0 _).heap.size; simp; omega) G7.size) (fun e => by have := (O7.block q e.symm).1; omega)
        exact h3.trans (h2.trans h1)
      have szC : X0.heap.size ≤ wC.heap.size := Nat.le_trans (Nat.le_trans (by show X0.heap.size ≤ (World.alloc X0 _).heap.size; simp) G7.size) G8.size
      have osC : wC.os = X0.os ∧ wC.tape = X0.tape ∧ wC.output = X0.output := ⟨G8.os.trans G7.os, G8.tape.trans G7.tape, G8.output.trans G7.output⟩
      have TC : Blk3 wC w2.heap.size (.slice (some ⟨cg, co, none⟩) S.nc e0) (.slice y1 U.length z1) (.slice d2 S.nw e2) := TX.out.kept (keep _ zX)
      refine hK.out _ _ trivial (fun hS => ?_)
      clear hK K
      refine wpAnyH_take (i := 12) (v := ?_) rfl (by kernel_rfl) (by kernel_rfl) (by kernel_rfl) (fun _ _ _ h => h) (Or.inl ⟨by kernel_rfl, ?_⟩) hS ?_
      rotate_left
      · intro wx hx
        go_simp
        try with_reducible rfl
      obtain ⟨⟨t0, t1, t2⟩, ft0, ft1, ft2⟩ := TC
      refine wpAnyH_ready (rs := [13]) (by kernel_rfl) (by simp) ?_
      refine AllReadyH.cons rfl (fun K hK => ?_) AllReadyH.nil
      go_simp
      refine hK.out _ _ trivial (fun hS => ?_)
      clear hK K
      have TC : Blk3 wC w2.heap.size (.slice (some ⟨cg, co, none⟩) S.nc e0) (.slice y1 U.length z1) (.slice d2 S.nw e2) := TX.out.kept (keep _ zX)
      have BC : Below X0.heap.size X0 wC := ⟨osC.1, osC.2.1, osC.2.2, szC, keep⟩
      have BX1 : Hid (Below w.heap.size w (wC.setCell ⟨w2.heap.size, 0, none⟩ (.slice ao6 (j + (S.nc - (j + 1))) cp6))) := (BX.out.trans (BC.mono BX.out.size)).setCell (Nat.le_of_lt hzw) _
      have B2X1 : Hid (Below w2.heap.size w2 (wC.setCell ⟨w2.heap.size, 0, none⟩ (.slice ao6 (j + (S.nc - (j + 1))) cp6))) := (B2X.out.trans (BC.mono (Nat.le_of_lt zX))).setCell (Nat.le_refl _) _
      have RX1 : Hid (Blk4 (wC.setCell ⟨w2.heap.size, 0, none⟩ (.slice ao6 (j + (S.nc - (j + 1))) cp6)) w.heap.size (.int .i64 0) (.slice none 0 0) (.slice none 0 0) (.slice none 0 0)) := (RX.out.later BC).kept (Below.heap_setCell _ _ _ _ (Nat.ne_of_lt hzw))
      have TX1 : Hid (Blk3 (wC.setCell ⟨w2.heap.size, 0, none⟩ (.slice ao6 (j + (S.nc - (j + 1))) cp6)) w2.heap.size (.slice ao6 (j + (S.nc - (j + 1))) cp6) (.slice y1 U.length z1) (.slice d2 S.nw e2)) := TC.set0 _
      have OX1 : Hid (OwnM (wC.setCell ⟨w2.heap.size, 0, none⟩ (.slice ao6 (j + (S.nc - (j + 1))) cp6)) w5.heap.size 57 5 (.slice y1 U.length z1) U.length U.flatten) := (OX.out.later BC).far hz3 _
      have hobX : Hid (∀ q, (Value.slice y1 U.length z1).ownBlock = some q → w5.heap.size ≤ q ∧ q < X0.heap.size) := OX.out.block
      have OC : Hid (OwnM (wC.setCell ⟨w2.heap.size, 0, none⟩ (.slice ao6 (j + (S.nc - (j + 1))) cp6)) X0.heap.size 86 3 (.slice ao6 (j + (S.nc - (j + 1))) cp6) (j + (S.nc - (j + 1))) (nums S.c (j * 3) ++ nums (fun p => S.c ((j + 1) * 3 + p)) ((S.nc - (j + 1)) * 3))) := O8.far zX _
      have hobC : Hid (∀ q, (Value.slice ao6 (j + (S.nc - (j + 1))) cp6).ownBlock = some q → X0.heap.size ≤ q ∧ q < (wC.setCell ⟨w2.heap.size, 0, none⟩ (.slice ao6 (j + (S.nc - (j + 1))) cp6)).heap.size) := OC.out.block
      have zX0 : w2.heap.size < X0.heap.size := zX
      have zX1 : w2.heap.size < (wC.setCell ⟨w2.heap.size, 0, none⟩ (.slice ao6 (j + (S.nc - (j + 1))) cp6)).heap.size := TX1.out.lt
      have z5X1 : w5.heap.size ≤ (wC.setCell ⟨w2.heap.size, 0, none⟩ (.slice ao6 (j + (S.nc - (j + 1))) cp6)).heap.size := Nat.le_trans z5X (by simpa [World.setCell] using szC)
      generalize wC.setCell ⟨w2.heap.size, 0, none⟩ (.slice ao6 (j + (S.nc - (j + 1))) cp6) = X1 at BX1 B2X1 RX1 TX1 OX1 OC hobC zX1 z5X1 ⊢
      clear BX B2X RX TX OX zX z5X LX F0 F1 F1d F0d F2 O0 C0 C7 O7 G7 O8 G8 keep szC osC TC BC t0 t1 t2 ft0 ft1 ft2
      have BX := BX1
      have B2X := B2X1
      have RX := RX1
      have TX := TX1
      have OX := OX1
      have zX := zX1
      have z5X := z5X1
      have LX : True := trivial
      clear BX1 B2X1 RX1 TX1 OX1 zX1 z5X1
      refine wpAnyH_done (by kernel_rfl) ?_ _
      obtain ⟨⟨t0, t1, t2⟩, _⟩ := TX.out
      go_simp
      go_wp2_with fail
      refine (l2AddWrite_any S.nw S.k d2 e2 (w.heap.size + 1) a s s 4 _ (HS.out.1.1.2.2.later B2X.out) (by omega) g2).mono ?_
      rintro e w7 ⟨k', y2, z2, hk', rfl, O7, q7⟩
      obtain rfl : k' = k := hk'.one HK.out
      have BY : Hid (Below w.heap.size w w7) := BX.out.trans (q7.mono BX.out.size)
      have B2Y : Hid (Below w2.heap.size w2 w7) := B2X.out.trans (q7.mono (Nat.le_of_lt zX))
      have RY : Hid (Blk4 w7 w.heap.size (.int .i64 0) (.slice none 0 0) (.slice none 0 0) (.slice none 0 0)) := RX.out.later q7
      have TY : Hid (Blk3 w7 w2.heap.size (.slice ao6 (j + (S.nc - (j + 1))) cp6) (.slice y1 U.length z1) (.slice d2 S.nw e2)) := TX.out.later q7
      have OY : Hid (OwnM w7 w5.heap.size 57 5 (.slice y1 U.length z1) U.length U.flatten) := OX.out.later q7
      have hob : Hid (∀ q, (Value.slice y1 U.length z1).ownBlock = some q → w5.heap.size ≤ q ∧ q < X1.heap.size) := OX.out.block
      have PY : Hid (OwnM w7 X1.heap.size 92 4 (.slice y2 (S.nw + 1) z2) (S.nw + 1) (nums S.k (k' * 4) ++ [a, s, s, 4] ++ nums (fun p => S.k (k' * 4 + p)) ((S.nw - k') * 4))) := O7
      have hkn : k' ≤ S.nw := hk'.1
      have hqX : Hid (Below X1.heap.size X1 w7) := q7
      clear O7 q7 hk' OX RX TX LX BX B2X HK t0 t1 t2
      obtain ⟨⟨t0, t1, t2⟩, ft0, ft1, ft2⟩ := TY.out
      go_upto_region 16 with fail
      have RZ := RY.out.kept (Below.heap_setCell w7 ⟨w2.heap.size, 2, none⟩ (.slice y2 (S.nw + 1) z2) _ (Nat.ne_of_lt hzw))
      have TZ := TY.out.set2 (.slice y2 (S.nw + 1) z2)
      have BZ : Hid (Below w.heap.size w (w7.setCell ⟨w2.heap.size, 2, none⟩ (.slice y2 (S.nw + 1) z2))) := BY.out.setCell (Nat.le_of_lt hzw) _
      have B2Z : Hid (Below w2.heap.size w2 (w7.setCell ⟨w2.heap.size, 2, none⟩ (.slice y2 (S.nw + 1) z2))) := B2Y.out.setCell (Nat.le_refl _) _
      have OZ : Hid (OwnM (w7.setCell ⟨w2.heap.size, 2, none⟩ (.slice y2 (S.nw + 1) z2)) w5.heap.size 57 5 (.slice y1 U.length z1) U.length U.flatten) := OY.out.far hz3 _
      have PZ : Hid (OwnM (w7.setCell ⟨w2.heap.size, 2, none⟩ (.slice y2 (S.nw + 1) z2)) X1.heap.size 92 4 (.slice y2 (S.nw + 1) z2) (S.nw + 1) (nums S.k (k' * 4) ++ [a, s, s, 4] ++ nums (fun p => S.k (k' * 4 + p)) ((S.nw - k') * 4))) := PY.out.far zX _
      have OC8 : Hid (OwnM (w7.setCell ⟨w2.heap.size, 2, none⟩ (.slice y2 (S.nw + 1) z2)) X0.heap.size 86 3 (.slice ao6 (j + (S.nc - (j + 1))) cp6) (j + (S.nc - (j + 1))) (nums S.c (j * 3) ++ nums (fun p => S.c ((j + 1) * 3 + p)) ((S.nc - (j + 1)) * 3))) := (OC.out.later hqX.out).far zX0 _
      generalize w7.setCell ⟨w2.heap.size, 2, none⟩ (.slice y2 (S.nw + 1) z2) = w8 at RZ TZ BZ B2Z OZ PZ OC8 ⊢
      clear t0 t1 t2 ft0 ft1 ft2 RY TY BY B2Y OY PY
      obtain ⟨⟨r0, r1, r2, r3⟩, f0, f1, f2, f3⟩ := RZ
      obtain ⟨⟨t0, t1, t2⟩, _⟩ := TZ
      go_wp2
      have hone := selD_one (F := S.c) (m := 3) (D := goneK a s) (j := j) (goneK_iff.2 hcl.at.2.1) S.nc hjn (fun i hi' hne => goneK_not (fun q => hne (cell_once HZ.out hi' hjn q hcl.at.2.1)))
      have hN : (unlC S.c a s S.nc).length = j + (S.nc - (j + 1)) := by
        have : (unlC S.c a s S.nc).length = S.nc - 1 := hone.1
        omega
      have lenC : (nums S.c (j * 3) ++ nums (fun p => S.c ((j + 1) * 3 + p)) ((S.nc - (j + 1)) * 3)).length = (j + (S.nc - (j + 1))) * 3 := by
        rw [List.length_append, nums_length, nums_length]
        omega
      have rC0 := (OC8.out.own lenC).row
      have rC : Row w8 (w.heap.size + 1) 3 (j + (S.nc - (j + 1))) (fun p => (unlC S.c a s S.nc).flatten.getD p 0) (.slice ao6 (j + (S.nc - (j + 1))) cp6) := (rC0.1.congr (fun p hp => (roll_cells hjn p (by omega)).trans (hone.2 p (by omega)).symm)).mono (by omega)
      have fC : Free w8 ((j + (S.nc - (j + 1))) * 3) (.slice ao6 (j + (S.nc - (j + 1))) cp6) := rC0.2
      have lenL : U.flatten.length = U.length * 5 := flat_len U (by rw [← HU.out]; exact selD_len _ _ _ _)
      have lenW : (nums S.k (k' * 4) ++ [a, s, s, 4] ++ nums (fun p => S.k (k' * 4 + p)) ((S.nw - k') * 4)).length = (S.nw + 1) * 4 := by
        rw [List.length_append, List.length_append, nums_length, nums_length]
        simp only [List.length_cons, List.length_nil]
        omega
      have rL := (OZ.out.own lenL).row
      have rW := (PZ.out.own lenW).row
      have S8 : St w8 (w.heap.size + 1) (rollS S a s k') (.slice ao6 (j + (S.nc - (j + 1))) cp6) (.slice y1 U.length z1) (.slice y2 (S.nw + 1) z2) := by
        unfold rollS
        rw [HU.out, hN]
        exact ⟨rC, rL.1.mono (by omega), rW.1.mono (by omega)⟩
      have F8 : FreeS w8 (rollS S a s k') (.slice ao6 (j + (S.nc - (j + 1))) cp6) (.slice y1 U.length z1) (.slice y2 (S.nw + 1) z2) := by
        unfold rollS
        rw [HU.out, hN]
        exact ⟨fC, rL.2, rW.2⟩
      have A8 : ApartD (rollS S a s k') (.slice ao6 (j + (S.nc - (j + 1))) cp6) (.slice y1 U.length z1) (.slice y2 (S.nw + 1) z2) :=
        apart_mk S8.1 S8.2.1 (fun i i' h1 h2 => by have := (hobC.out i h1).1; have := (hobX.out i' h2).2; omega) (fun i i' h1 h2 => by have := (hobC.out i h1).2; have := (PZ.out.block i' h2).1; omega) (fun i i' h1 h2 => by have := (hob.out i h1).2; have := (PZ.out.block i' h2).1; omega)
      have hlo : (w.heap.size : Nat) < w.heap.size + 1 := Nat.lt_succ_self _
      have hul : (rollS S a s k').nl = U.length := by unfold rollS; rw [HU.out]
      have hcl' : (rollS S a s k').nc = j + (S.nc - (j + 1)) := hN
      refine bodyPost_ret (v := .agg #[.int .i64 0, .slice ao6 (j + (S.nc - (j + 1))) cp6, .slice y1 U.length z1, .slice y2 (S.nw + 1) z2]) (by simp [results, Tryz.results49, go_sem, r0, r1, r2, r3]) rfl ?_
      refine ⟨ao6, cp6, y1, z1, y2, z2, ?_, ?_, (((BZ.out.setCell (Nat.le_refl _) _).setCell (Nat.le_refl _) _).setCell (Nat.le_refl _) _).setCell (Nat.le_refl _) _⟩
      · rw [hul, hcl']; rfl
      · rw [hul, hcl']
        exact ⟨((((S8.far hlo _).far hlo _).far hlo _).far hlo _).mono (by omega), (((F8.far _ _).far _ _).far _ _).far _ _, A8⟩
end
end Go.Proofs.YtnkdphdpecgmiaaGreatDoor
