/-
  Own text, merged of PreF, PreG, PreH.
-/
import Derived.Test.YtkbjlnnincknaaaGreatDoorPreE
namespace Go.Proofs.YtkbjlnnincknaaaGreatDoor
section
open Go.RowKit
-- Own text. A cell put into a row that rises, and into the map that has the same.
theorem ins3_lt {c : Nat → Int} {n k i : Nat} {xs : List Int} (h : i < k) (d : Nat) (hd : d < 3) : insF c 3 n k xs (i * 3 + d) = c (i * 3 + d) := insF_lt (by omega)
theorem ins3_at {c : Nat → Int} {n k : Nat} {x y v : Int} (d : Nat) (hd : d < 3) : insF c 3 n k [x, y, v] (k * 3 + d) = [x, y, v].getD d 0 := insF_at rfl hd
theorem ins3_gt {c : Nat → Int} {n k i : Nat} {x y v : Int} (h : k ≤ i) (hi : i < n) (d : Nat) (hd : d < 3) : insF c 3 n k [x, y, v] ((i + 1) * 3 + d) = c (i * 3 + d) := by
  have e : (i + 1) * 3 + d = (k + 1) * 3 + ((i - k) * 3 + d) := by omega
  rw [e, insF_gt (F := c) (m := 3) (n := n) (i := k) (xs := [x, y, v]) rfl (by omega)]
  congr 1
  omega
/-- The rows of the new list: an old one ahead, the new one, an old one behind. -/
theorem ins3_row {c : Nat → Int} {n k : Nat} {x y v : Int} (hk : k ≤ n) (i : Nat) (hi : i < n + 1) :
    (∃ j, j < n ∧ j = i ∧ i < k ∧ ∀ d, d < 3 → insF c 3 n k [x, y, v] (i * 3 + d) = c (j * 3 + d)) ∨ (i = k ∧ ∀ d, d < 3 → insF c 3 n k [x, y, v] (i * 3 + d) = [x, y, v].getD d 0) ∨ ∃ j, j < n ∧ i = j + 1 ∧ k ≤ j ∧ ∀ d, d < 3 → insF c 3 n k [x, y, v] (i * 3 + d) = c (j * 3 + d) := by
  rcases Nat.lt_trichotomy i k with q | q | q
  · exact Or.inl ⟨i, by omega, rfl, q, fun d hd => ins3_lt q d hd⟩
  · subst q
    exact Or.inr (Or.inl ⟨rfl, fun d hd => ins3_at d hd⟩)
  · obtain ⟨j, rfl⟩ : ∃ j, i = j + 1 := ⟨i - 1, by omega⟩
    exact Or.inr (Or.inr ⟨j, by omega, rfl, by omega, fun d hd => ins3_gt (by omega) (by omega) d hd⟩)
theorem MapRow.ins {m : Int → Int → Option Int} {n : Nat} {c : Nat → Int} (h : MapRow m n c) {a s v : Int} (wa : Wf a) (ws : Wf s) (hn : m a s = none) {k : Nat} (hk : placeAt (aheadC c a s) n k) : MapRow (putM m a s v) (n + 1) (insF c 3 n k [a, s, v]) := by
  obtain ⟨hkn, hlo, hhi⟩ := hk
  have hne : ∀ i, i < n → ¬ (c (i * 3) = a ∧ c (i * 3 + 1) = s) := fun i hi q => by
    have := h.has i hi
    rw [q.1, q.2, hn] at this
    cases this
  have below : ∀ i, i < k → pairLt (c (i * 3)) (c (i * 3 + 1)) a s := fun i hi => hlo i hi
  have above : ∀ i, k ≤ i → i < n → pairLt a s (c (i * 3)) (c (i * 3 + 1)) := fun i h1 h2 => by
    have hk0 : pairLt a s (c (k * 3)) (c (k * 3 + 1)) := by
      have q := hhi (by omega)
      have q2 := hne k (by omega)
      unfold aheadC at q
      unfold pairLt
      omega
    rcases Nat.lt_or_eq_of_le h1 with q | q
    · exact hk0.trans (h.rise i h2 k q)
    · subst q; exact hk0
  have three : ∀ {f g : Nat → Int} {i j : Nat}, (∀ d, d < 3 → f (i * 3 + d) = g (j * 3 + d)) → f (i * 3) = g (j * 3) ∧ f (i * 3 + 1) = g (j * 3 + 1) ∧ f (i * 3 + 2) = g (j * 3 + 2) := fun hf => ⟨hf 0 (by omega), hf 1 (by omega), hf 2 (by omega)⟩
  have mid : ∀ {f : Nat → Int} {i : Nat}, (∀ d, d < 3 → f (i * 3 + d) = [a, s, v].getD d 0) → f (i * 3) = a ∧ f (i * 3 + 1) = s ∧ f (i * 3 + 2) = v := fun hf => ⟨hf 0 (by omega), hf 1 (by omega), hf 2 (by omega)⟩
  refine ⟨fun j hj i hij => ?_, fun i hi => ?_, fun i hi => ?_, fun x y u hx hy hm => ?_⟩
  · rcases ins3_row (c := c) (x := a) (y := s) (v := v) hkn i (by omega) with ⟨i', q1, q2, q3, q4⟩ | ⟨q1, q4⟩ | ⟨i', q1, q2, q3, q4⟩ <;>
    rcases ins3_row (c := c) (x := a) (y := s) (v := v) hkn j hj with ⟨j', r1, r2, r3, r4⟩ | ⟨r1, r4⟩ | ⟨j', r1, r2, r3, r4⟩
    · rw [(three q4).1, (three q4).2.1, (three r4).1, (three r4).2.1]; exact h.rise j' r1 i' (by omega)
    · rw [(three q4).1, (three q4).2.1, (mid r4).1, (mid r4).2.1]; exact below i' (by omega)
    · rw [(three q4).1, (three q4).2.1, (three r4).1, (three r4).2.1]; exact h.rise j' r1 i' (by omega)
    · omega
    · omega
    · rw [(mid q4).1, (mid q4).2.1, (three r4).1, (three r4).2.1]; exact above j' r3 r1
    · omega
    · omega
    · rw [(three q4).1, (three q4).2.1, (three r4).1, (three r4).2.1]; exact h.rise j' r1 i' (by omega)
  · rcases ins3_row (c := c) (x := a) (y := s) (v := v) hkn i hi with ⟨i', q1, _, _, q4⟩ | ⟨_, q4⟩ | ⟨i', q1, _, _, q4⟩
    · rw [(three q4).1, (three q4).2.1]; exact h.wf i' q1
    · rw [(mid q4).1, (mid q4).2.1]; exact ⟨wa, ws⟩
    · rw [(three q4).1, (three q4).2.1]; exact h.wf i' q1
  · unfold putM
    rcases ins3_row (c := c) (x := a) (y := s) (v := v) hkn i hi with ⟨i', q1, _, _, q4⟩ | ⟨_, q4⟩ | ⟨i', q1, _, _, q4⟩
    · rw [(three q4).1, (three q4).2.1, (three q4).2.2, if_neg (hne i' q1)]; exact h.has i' q1
    · rw [(mid q4).1, (mid q4).2.1, (mid q4).2.2, if_pos ⟨rfl, rfl⟩]
    · rw [(three q4).1, (three q4).2.1, (three q4).2.2, if_neg (hne i' q1)]; exact h.has i' q1
  · unfold putM at hm
    by_cases e : x = a ∧ y = s
    · rw [if_pos e] at hm
      obtain ⟨rfl, rfl⟩ := e
      obtain rfl := Option.some.inj hm
      have q4 := mid (f := insF c 3 n k [x, y, v]) (i := k) (fun d hd => ins3_at d hd)
      exact ⟨k, by omega, q4⟩
    · rw [if_neg e] at hm
      obtain ⟨i, hi, e1, e2, e3⟩ := h.all x y u hx hy hm
      by_cases q : i < k
      · have q4 := three (f := insF c 3 n k [a, s, v]) (g := c) (i := i) (j := i) (fun d hd => ins3_lt q d hd)
        exact ⟨i, by omega, q4.1.trans e1, q4.2.1.trans e2, q4.2.2.trans e3⟩
      · have q4 := three (f := insF c 3 n k [a, s, v]) (g := c) (i := i + 1) (j := i) (fun d hd => ins3_gt (by omega) hi d hd)
        exact ⟨i + 1, by omega, q4.1.trans e1, q4.2.1.trans e2, q4.2.2.trans e3⟩
theorem MapRow.congr {m m' : Int → Int → Option Int} {n : Nat} {c : Nat → Int} (h : MapRow m n c) (e : ∀ x y, m x y = m' x y) : MapRow m' n c :=
  ⟨h.rise, h.wf, fun i hi => (e _ _).symm.trans (h.has i hi), fun x y v hx hy q => h.all x y v hx hy ((e x y).trans q)⟩
theorem put_del (m : Int → Int → Option Int) (a s v : Int) (x y : Int) : putM (delM m a s) a s v x y = putM m a s v x y := by
  unfold putM delM
  split <;> rfl
end

section
open Go.RowKit Go.Lib
-- Own text. The model's l3Prewrite where it is done.
theorem apart_new {w : World} {B z : Nat} {S : Sto} {u0 u1 u2 : Value} (r0 : Row w B 3 S.nc S.c u0) (r2 : Row w B 4 S.nw S.k u2) (h0 : 0 < S.nc → ∀ q, u0.ownBlock = some q → q < z) (h2 : 0 < S.nw → ∀ q, u2.ownBlock = some q → q < z) (h1 : ∀ q, u1.ownBlock = some q → z < q) (h02 : 0 < S.nc → 0 < S.nw → u0.ownBlock ≠ u2.ownBlock) : ApartD S u0 u1 u2 := by
  have own : ∀ {B m n : Nat} {F : Nat → Int} {u : Value}, Row w B m n F u → 0 < n → ∃ k, u.ownBlock = some k := fun hr hn => by
    obtain ⟨ao, cp, rfl, hr⟩ := hr
    obtain ⟨g, o, rfl, _⟩ := hr hn
    exact ⟨g, rfl⟩
  refine ⟨fun ha _ e => ?_, h02, fun _ hb e => ?_⟩
  · obtain ⟨k, hk⟩ := own r0 ha
    have := h0 ha k hk; have := h1 k (e ▸ hk); omega
  · obtain ⟨k, hk⟩ := own r2 hb
    have := h2 hb k hk; have := h1 k (e ▸ hk); omega
/-- A store that has one lock more, at place k. -/
def lockS (S : Sto) (k : Nat) (a s kd pr un : Int) : Sto := ⟨S.nc, S.c, S.nl + 1, insF S.l 5 S.nl k [a, s, kd, pr, un], S.nw, S.k⟩
set_option maxRecDepth 100000 in
set_option maxHeartbeats 8000000 in
theorem l3Pre_lock (S : Sto) (b : Nat) (v0 v1 v2 : Value) (a s kd pr un va : Int) (hv : Int) (k : Nat) (w : World) (h : Lies w b S v0 v1 v2) (hz : storeF S = 0) (hi : FirstAt (writeIs S.k a s) S.nw (-1)) (hm : ¬ newerP S.k S.nw a s) (hl : FirstAt (lockIs S.l a) S.nl (-1)) (hc : FirstAt (cellIs S.c a s) S.nc hv) (hf : S.nl < 200) (hk1 : kd ≠ 1) (hk : placeAt (aheadL S.l a) S.nl k) :
    Calls Tryz.prog 21 #[.pointer (some ⟨b, 0, none⟩), .agg #[.int .i64 a, .int .i64 s, .int .i64 kd, .int .i64 pr, .int .i64 un], .int .i64 va] w (ResSto w 0 (lockS S k a s kd pr un)) := by
  have HJ : Hid (FirstAt (lockIs S.l a) S.nl (-1) ∧ FirstAt (cellIs S.c a s) S.nc hv) := ⟨hl, hc⟩
  have HK : Hid (placeAt (aheadL S.l a) S.nl k) := hk
  have dn : decide ((200 : Int) ≤ (S.nl : Int)) = false := decide_eq_false (by omega)
  have dk : (kd == 1) = false := beq_eq_false_iff_ne.2 hk1
  clear hl hc hk hf hk1
  obtain ⟨a0, c0, a1, c1, a2, c2, rfl, rfl, rfl⟩ := h.2.form
  have HE : Hid (PrS w b S (.slice a0 S.nc c0) (.slice a1 S.nl c1) (.slice a2 S.nw c2) a s kd pr un ((w.alloc (.cells #[.int .i64 a, .int .i64 s, .int .i64 kd, .int .i64 pr, .int .i64 un] 53)).alloc (.cells #[.int .i64 0, .slice none 0 0, .slice none 0 0, .slice none 0 0] 34))) := by
    refine ⟨(LkE.new w a s kd pr un _).later (below_alloc _ _), ?_, (h.later (below_alloc _ _)).later (below_alloc _ _)⟩
    have := Blk4.new (w.alloc (.cells #[.int .i64 a, .int .i64 s, .int .i64 kd, .int .i64 pr, .int .i64 un] 53)) (.int .i64 0) (.slice none 0 0) (.slice none 0 0) (.slice none 0 0) 34
    rwa [World.size_alloc] at this
  obtain ⟨⟨hn0, hn1, hn2⟩, _⟩ := storeF_zero hz
  clear h hz
  go_enter Tryz.func21, Tryz.ntmps21
  go_wp2_with fail
  generalize (w.alloc (.cells #[.int .i64 a, .int .i64 s, .int .i64 kd, .int .i64 pr, .int .i64 un] 53)).alloc (.cells #[.int .i64 0, .slice none 0 0, .slice none 0 0, .slice none 0 0] 34) = w1 at HE ⊢
  refine (l2Write_is S b _ _ _ a s (-1) _ HE.out.2.2 hn2 hi).mono ?_
  rintro e w' ⟨rfl, rfl⟩
  obtain ⟨⟨⟨y0, y1, y2, y3, y4⟩, _⟩, ⟨⟨r0, r1, r2, r3⟩, f0, f1, f2, f3⟩, ⟨p0, p1, p2⟩, pst⟩ := HE.out
  unfold ResSto
  clear pst hi
  have HM : Hid (¬ newerP S.k S.nw a s) := hm
  clear hm
  go_wp2_with fail
  refine (l3Newer_is S b _ _ _ a s _ HE.out.2.2 hn2 false ⟨fun q => (Bool.false_ne_true q).elim, fun q => (HM.out q).elim⟩).mono ?_
  rintro e w3 ⟨rfl, q3⟩
  have HE : Hid (PrS w b S (.slice a0 S.nc c0) (.slice a1 S.nl c1) (.slice a2 S.nw c2) a s kd pr un w3) := HE.out.later q3
  clear q3 y0 y1 y2 y3 y4 r0 r1 r2 r3 f0 f1 f2 f3 p0 p1 p2 HM
  obtain ⟨⟨⟨y0, y1, y2, y3, y4⟩, _⟩, ⟨⟨r0, r1, r2, r3⟩, f0, f1, f2, f3⟩, ⟨p0, p1, p2⟩, pst⟩ := HE.out
  clear pst
  go_wp2_with fail
  refine (l2Copy_cap S _ _ _ 0 _ HE.out.2.2.2 ⟨by omega, by omega, by omega⟩).mono ?_
  rintro e w4 ⟨d0, e0, d1, e1, d2, e2, ⟨g0, g1, g2⟩, rfl, ⟨s2, fr2, ap2⟩, q2⟩
  have hz3 : Hid (w.heap.size + 2 ≤ w3.heap.size) := HE.out.2.1.lt
  have HS : Hid ((St w4 w3.heap.size S (.slice d0 S.nc e0) (.slice d1 S.nl e1) (.slice d2 S.nw e2) ∧ FreeS w4 S (.slice d0 S.nc e0) (.slice d1 S.nl e1) (.slice d2 S.nw e2)) ∧ ApartD S (.slice d0 S.nc e0) (.slice d1 S.nl e1) (.slice d2 S.nw e2)) := ⟨⟨s2, fr2⟩, ap2⟩
  have HE : Hid (PrS w b S (.slice a0 S.nc c0) (.slice a1 S.nl c1) (.slice a2 S.nw c2) a s kd pr un (w4.alloc (.cells #[.slice d0 S.nc e0, .slice d1 S.nl e1, .slice d2 S.nw e2] 32)) ∧ Blk3 (w4.alloc (.cells #[.slice d0 S.nc e0, .slice d1 S.nl e1, .slice d2 S.nw e2] 32)) w4.heap.size (.slice d0 S.nc e0) (.slice d1 S.nl e1) (.slice d2 S.nw e2)) := ⟨(HE.out.later q2).later (below_alloc _ _), Blk3.new _ _ _ _ _⟩
  have hz4 : Hid (w3.heap.size ≤ w4.heap.size) := q2.size
  have B45 : Hid (Below w4.heap.size w4 (w4.alloc (.cells #[.slice d0 S.nc e0, .slice d1 S.nl e1, .slice d2 S.nw e2] 32))) := below_alloc _ _
  clear s2 fr2 ap2 q2 y0 y1 y2 y3 y4 r0 r1 r2 r3 f0 f1 f2 f3 p0 p1 p2
  have HO : Hid (Blk3 (w4.alloc (.cells #[.slice d0 S.nc e0, .slice d1 S.nl e1, .slice d2 S.nw e2] 32)) w4.heap.size (.slice d0 S.nc e0) (.slice d1 S.nl e1) (.slice d2 S.nw e2)) := HE.out.2
  have HE : Hid (PrS w b S (.slice a0 S.nc c0) (.slice a1 S.nl c1) (.slice a2 S.nw c2) a s kd pr un (w4.alloc (.cells #[.slice d0 S.nc e0, .slice d1 S.nl e1, .slice d2 S.nw e2] 32))) := HE.out.1
  obtain ⟨⟨⟨y0, y1, y2, y3, y4⟩, _⟩, ⟨⟨r0, r1, r2, r3⟩, f0, f1, f2, f3⟩, ⟨p0, p1, p2⟩, pst⟩ := HE.out
  go_wp2_with fail
  clear y0 y1 y2 y3 y4 r0 r1 r2 r3 f0 f1 f2 f3 p0 p1 p2 pst
  generalize w4.alloc (.cells #[.slice d0 S.nc e0, .slice d1 S.nl e1, .slice d2 S.nw e2] 32) = w5 at HE HO B45 ⊢
  obtain ⟨⟨⟨y0, y1, y2, y3, y4⟩, _⟩, ⟨⟨r0, r1, r2, r3⟩, f0, f1, f2, f3⟩, ⟨p0, p1, p2⟩, pst⟩ := HE.out
  obtain ⟨⟨t0, t1, t2⟩, _⟩ := HO.out
  refine (l2Lock_is S b _ _ _ a (-1) _ HE.out.2.2 hn1 HJ.out.1).mono ?_
  rintro e w' ⟨rfl, rfl⟩
  clear pst
  go_wp2_with fail
  refine (cellAt_is S b _ _ _ a s _ _ HE.out.2.2 hn0 HJ.out.2).mono ?_
  rintro e w'' ⟨rfl, rfl⟩
  clear HJ
  go_wp2_with fail
  refine (l2AddLock_any S.nl S.l d1 e1 w3.heap.size a s kd pr un _ (HS.out.1.1.2.1.later B45.out) (by omega) g1).mono ?_
  rintro e w7 ⟨k', y1', z1', hk', rfl, O7, q7⟩
  have HO7 : Hid (Blk3 w7 w4.heap.size (.slice d0 S.nc e0) (.slice d1 S.nl e1) (.slice d2 S.nw e2)) := HO.out.later q7
  have HE7 : Hid (PrS w b S (.slice a0 S.nc c0) (.slice a1 S.nl c1) (.slice a2 S.nw c2) a s kd pr un w7) := HE.out.later q7
  have B47 : Hid (Below w4.heap.size w4 w7) := B45.out.trans (q7.mono B45.out.size)
  have O7' : Hid (OwnM w7 w''.heap.size 53 5 (.slice y1' (S.nl + 1) z1') (S.nl + 1) (nums S.l (k' * 5) ++ [a, s, kd, pr, un] ++ nums (fun p => S.l (k' * 5 + p)) ((S.nl - k') * 5))) := O7
  have hk1 : Hid (placeAt (aheadL S.l a) S.nl k') := hk'
  have hz5 : Hid (w4.heap.size < w''.heap.size) := HO.out.lt
  clear O7 q7 hk' y0 y1 y2 y3 y4 r0 r1 r2 r3 f0 f1 f2 f3 p0 p1 p2 t0 t1 t2 HE HO
  obtain ⟨⟨t0, t1, t2⟩, ft0, ft1, ft2⟩ := HO7.out
  go_upto_region 13 with fail
  have hwl : w.heap.size + 1 < w4.heap.size := by have := hz3.out; have := hz4.out; omega
  have hks : ∀ i, i ≠ w4.heap.size → (w7.setCell ⟨w4.heap.size, 1, none⟩ (.slice y1' (S.nl + 1) z1')).heap[i]? = w7.heap[i]? := fun i hi => Below.heap_setCell w7 ⟨w4.heap.size, 1, none⟩ _ i hi
  have y2 : (w7.setCell ⟨w4.heap.size, 1, none⟩ (.slice y1' (S.nl + 1) z1')).cell? ⟨w.heap.size, 2, none⟩ = some (.int .i64 kd) := (cell_kept (hks _ (by omega)) 2).trans HE7.out.1.1.2.2.1
  have RZ : Blk4 (w7.setCell ⟨w4.heap.size, 1, none⟩ (.slice y1' (S.nl + 1) z1')) (w.heap.size + 1) (.int .i64 0) (.slice none 0 0) (.slice none 0 0) (.slice none 0 0) := HE7.out.2.1.kept (hks _ (by omega))
  have TZ : Blk3 (w7.setCell ⟨w4.heap.size, 1, none⟩ (.slice y1' (S.nl + 1) z1')) w4.heap.size (.slice d0 S.nc e0) (.slice y1' (S.nl + 1) z1') (.slice d2 S.nw e2) := HO7.out.set1 _
  have BZ : Hid (Below w.heap.size w (w7.setCell ⟨w4.heap.size, 1, none⟩ (.slice y1' (S.nl + 1) z1'))) := HE7.out.1.2.setCell (by show w.heap.size ≤ w4.heap.size; omega) _
  have B4Z : Hid (Below w4.heap.size w4 (w7.setCell ⟨w4.heap.size, 1, none⟩ (.slice y1' (S.nl + 1) z1'))) := B47.out.setCell (Nat.le_refl _) _
  have OZ : Hid (OwnM (w7.setCell ⟨w4.heap.size, 1, none⟩ (.slice y1' (S.nl + 1) z1')) w''.heap.size 53 5 (.slice y1' (S.nl + 1) z1') (S.nl + 1) (nums S.l (k' * 5) ++ [a, s, kd, pr, un] ++ nums (fun p => S.l (k' * 5 + p)) ((S.nl - k') * 5))) := O7'.out.far hz5.out _
  generalize (w7.setCell ⟨w4.heap.size, 1, none⟩ (.slice y1' (S.nl + 1) z1')) = w8 at y2 RZ TZ BZ B4Z OZ ⊢
  clear hks t0 t1 t2 ft0 ft1 ft2 HO7 HE7 B47 O7' B45
  obtain ⟨⟨r0, r1, r2, r3⟩, f0, f1, f2, f3⟩ := RZ
  obtain ⟨⟨t0, t1, t2⟩, _⟩ := TZ
  obtain rfl : k' = k := hk1.out.one HK.out
  have lenL : (nums S.l (k' * 5) ++ [a, s, kd, pr, un] ++ nums (fun p => S.l (k' * 5 + p)) ((S.nl - k') * 5)).length = (S.nl + 1) * 5 := by
    have := hk1.out.1
    rw [List.length_append, List.length_append, nums_length, nums_length]
    simp only [List.length_cons, List.length_nil]
    omega
  have HL8 : Hid (_ ∧ _) := (OZ.out.own lenL).row
  clear lenL
  go_wp2
  have S8 : St w8 w3.heap.size (lockS S k' a s kd pr un) (.slice d0 S.nc e0) (.slice y1' (S.nl + 1) z1') (.slice d2 S.nw e2) := ⟨HS.out.1.1.1.later B4Z.out, HL8.out.1.mono (by have := hz4.out; have := hz5.out; omega), HS.out.1.1.2.2.later B4Z.out⟩
  have F8 : FreeS w8 (lockS S k' a s kd pr un) (.slice d0 S.nc e0) (.slice y1' (S.nl + 1) z1') (.slice d2 S.nw e2) := ⟨HS.out.1.2.1.ofRow HS.out.1.1.1 B4Z.out, HL8.out.2, HS.out.1.2.2.2.ofRow HS.out.1.1.2.2 B4Z.out⟩
  have A8 : ApartD (lockS S k' a s kd pr un) (.slice d0 S.nc e0) (.slice y1' (S.nl + 1) z1') (.slice d2 S.nw e2) := by
    have lo0 : 0 < S.nc → ∀ q, (Value.slice d0 S.nc e0).ownBlock = some q → q < w4.heap.size := fun h q hq => (HS.out.1.1.1.lt h q hq).2
    have lo2 : 0 < S.nw → ∀ q, (Value.slice d2 S.nw e2).ownBlock = some q → q < w4.heap.size := fun h q hq => (HS.out.1.1.2.2.lt h q hq).2
    have hi1 : ∀ q, (Value.slice y1' (S.nl + 1) z1').ownBlock = some q → w4.heap.size < q := fun q hq => Nat.lt_of_lt_of_le hz5.out (OZ.out.block q hq).1
    exact apart_new S8.1 S8.2.2 lo0 lo2 hi1 HS.out.2.2.1
  have hlo : (w.heap.size + 1 : Nat) < w3.heap.size := by have := hz3.out; omega
  exact bodyPost_ret (v := .agg #[.int .i64 0, .slice d0 S.nc e0, .slice y1' (S.nl + 1) z1', .slice d2 S.nw e2]) (by simp [results, Tryz.results21, go_sem, r0, r1, r2, r3]) rfl ⟨d0, e0, y1', z1', d2, e2, rfl, ⟨((((S8.far hlo _).far hlo _).far hlo _).far hlo _).mono (by omega), (((F8.far _ _).far _ _).far _ _).far _ _, A8⟩, (((BZ.out.setCell (Nat.le_succ _) _).setCell (Nat.le_succ _) _).setCell (Nat.le_succ _) _).setCell (Nat.le_succ _) _⟩
end

section
open Go.RowKit Go.Lib
-- Own text. The model's l3Prewrite of a put where no cell is there.
/-- A store that has one lock more, at place k, and one cell more, at place q. -/
def putS (S : Sto) (k q : Nat) (a s pr un va : Int) : Sto := ⟨S.nc + 1, insF S.c 3 S.nc q [a, s, va], S.nl + 1, insF S.l 5 S.nl k [a, s, 1, pr, un], S.nw, S.k⟩
set_option maxRecDepth 100000 in
set_option maxHeartbeats 8000000 in
theorem l3Pre_put (S : Sto) (b : Nat) (v0 v1 v2 : Value) (a s pr un va : Int) (k q : Nat) (w : World) (h : Lies w b S v0 v1 v2) (hz : storeF S = 0) (hi : FirstAt (writeIs S.k a s) S.nw (-1)) (hm : ¬ newerP S.k S.nw a s) (hl : FirstAt (lockIs S.l a) S.nl (-1)) (hc : FirstAt (cellIs S.c a s) S.nc (-1)) (hf : S.nl < 200) (hg : S.nc < 200) (hk : placeAt (aheadL S.l a) S.nl k) (hq : placeAt (aheadC S.c a s) S.nc q) :
    Calls Tryz.prog 21 #[.pointer (some ⟨b, 0, none⟩), .agg #[.int .i64 a, .int .i64 s, .int .i64 1, .int .i64 pr, .int .i64 un], .int .i64 va] w (ResSto w 0 (putS S k q a s pr un va)) := by
  have HJ : Hid (FirstAt (lockIs S.l a) S.nl (-1) ∧ FirstAt (cellIs S.c a s) S.nc (-1)) := ⟨hl, hc⟩
  have HK : Hid (placeAt (aheadL S.l a) S.nl k ∧ placeAt (aheadC S.c a s) S.nc q) := ⟨hk, hq⟩
  have dn : decide ((200 : Int) ≤ (S.nl : Int)) = false := decide_eq_false (by omega)
  have dc : decide ((200 : Int) ≤ (S.nc : Int)) = false := decide_eq_false (by omega)
  clear hl hc hk hq hf hg
  obtain ⟨a0, c0, a1, c1, a2, c2, rfl, rfl, rfl⟩ := h.2.form
  have HE : Hid (PrS w b S (.slice a0 S.nc c0) (.slice a1 S.nl c1) (.slice a2 S.nw c2) a s 1 pr un ((w.alloc (.cells #[.int .i64 a, .int .i64 s, .int .i64 1, .int .i64 pr, .int .i64 un] 53)).alloc (.cells #[.int .i64 0, .slice none 0 0, .slice none 0 0, .slice none 0 0] 34))) := by
    refine ⟨(LkE.new w a s 1 pr un _).later (below_alloc _ _), ?_, (h.later (below_alloc _ _)).later (below_alloc _ _)⟩
    have := Blk4.new (w.alloc (.cells #[.int .i64 a, .int .i64 s, .int .i64 1, .int .i64 pr, .int .i64 un] 53)) (.int .i64 0) (.slice none 0 0) (.slice none 0 0) (.slice none 0 0) 34
    rwa [World.size_alloc] at this
  obtain ⟨⟨hn0, hn1, hn2⟩, _⟩ := storeF_zero hz
  clear h hz
  go_enter Tryz.func21, Tryz.ntmps21
  go_wp2_with fail
  generalize (w.alloc (.cells #[.int .i64 a, .int .i64 s, .int .i64 1, .int .i64 pr, .int .i64 un] 53)).alloc (.cells #[.int .i64 0, .slice none 0 0, .slice none 0 0, .slice none 0 0] 34) = w1 at HE ⊢
  refine (l2Write_is S b _ _ _ a s (-1) _ HE.out.2.2 hn2 hi).mono ?_
  rintro e w' ⟨rfl, rfl⟩
  obtain ⟨⟨⟨y0, y1, y2, y3, y4⟩, _⟩, ⟨⟨r0, r1, r2, r3⟩, f0, f1, f2, f3⟩, ⟨p0, p1, p2⟩, pst⟩ := HE.out
  unfold ResSto
  clear pst hi
  have HM : Hid (¬ newerP S.k S.nw a s) := hm
  clear hm
  go_wp2_with fail
  refine (l3Newer_is S b _ _ _ a s _ HE.out.2.2 hn2 false ⟨fun q => (Bool.false_ne_true q).elim, fun q => (HM.out q).elim⟩).mono ?_
  rintro e w3 ⟨rfl, q3⟩
  have HE : Hid (PrS w b S (.slice a0 S.nc c0) (.slice a1 S.nl c1) (.slice a2 S.nw c2) a s 1 pr un w3) := HE.out.later q3
  clear q3 y0 y1 y2 y3 y4 r0 r1 r2 r3 f0 f1 f2 f3 p0 p1 p2 HM
  obtain ⟨⟨⟨y0, y1, y2, y3, y4⟩, _⟩, ⟨⟨r0, r1, r2, r3⟩, f0, f1, f2, f3⟩, ⟨p0, p1, p2⟩, pst⟩ := HE.out
  clear pst
  go_wp2_with fail
  refine (l2Copy_cap S _ _ _ 0 _ HE.out.2.2.2 ⟨by omega, by omega, by omega⟩).mono ?_
  rintro e w4 ⟨d0, e0, d1, e1, d2, e2, ⟨g0, g1, g2⟩, rfl, ⟨s2, fr2, ap2⟩, q2⟩
  have hz3 : Hid (w.heap.size + 2 ≤ w3.heap.size) := HE.out.2.1.lt
  have HS : Hid ((St w4 w3.heap.size S (.slice d0 S.nc e0) (.slice d1 S.nl e1) (.slice d2 S.nw e2) ∧ FreeS w4 S (.slice d0 S.nc e0) (.slice d1 S.nl e1) (.slice d2 S.nw e2)) ∧ ApartD S (.slice d0 S.nc e0) (.slice d1 S.nl e1) (.slice d2 S.nw e2)) := ⟨⟨s2, fr2⟩, ap2⟩
  have HE : Hid (PrS w b S (.slice a0 S.nc c0) (.slice a1 S.nl c1) (.slice a2 S.nw c2) a s 1 pr un (w4.alloc (.cells #[.slice d0 S.nc e0, .slice d1 S.nl e1, .slice d2 S.nw e2] 32)) ∧ Blk3 (w4.alloc (.cells #[.slice d0 S.nc e0, .slice d1 S.nl e1, .slice d2 S.nw e2] 32)) w4.heap.size (.slice d0 S.nc e0) (.slice d1 S.nl e1) (.slice d2 S.nw e2)) := ⟨(HE.out.later q2).later (below_alloc _ _), Blk3.new _ _ _ _ _⟩
  have hz4 : Hid (w3.heap.size ≤ w4.heap.size) := q2.size
  have B45 : Hid (Below w4.heap.size w4 (w4.alloc (.cells #[.slice d0 S.nc e0, .slice d1 S.nl e1, .slice d2 S.nw e2] 32))) := below_alloc _ _
  clear s2 fr2 ap2 q2 y0 y1 y2 y3 y4 r0 r1 r2 r3 f0 f1 f2 f3 p0 p1 p2
  have HO : Hid (Blk3 (w4.alloc (.cells #[.slice d0 S.nc e0, .slice d1 S.nl e1, .slice d2 S.nw e2] 32)) w4.heap.size (.slice d0 S.nc e0) (.slice d1 S.nl e1) (.slice d2 S.nw e2)) := HE.out.2
  have HE : Hid (PrS w b S (.slice a0 S.nc c0) (.slice a1 S.nl c1) (.slice a2 S.nw c2) a s 1 pr un (w4.alloc (.cells #[.slice d0 S.nc e0, .slice d1 S.nl e1, .slice d2 S.nw e2] 32))) := HE.out.1
  obtain ⟨⟨⟨y0, y1, y2, y3, y4⟩, _⟩, ⟨⟨r0, r1, r2, r3⟩, f0, f1, f2, f3⟩, ⟨p0, p1, p2⟩, pst⟩ := HE.out
  go_wp2_with fail
  clear y0 y1 y2 y3 y4 r0 r1 r2 r3 f0 f1 f2 f3 p0 p1 p2 pst
  generalize w4.alloc (.cells #[.slice d0 S.nc e0, .slice d1 S.nl e1, .slice d2 S.nw e2] 32) = w5 at HE HO B45 ⊢
  obtain ⟨⟨⟨y0, y1, y2, y3, y4⟩, _⟩, ⟨⟨r0, r1, r2, r3⟩, f0, f1, f2, f3⟩, ⟨p0, p1, p2⟩, pst⟩ := HE.out
  obtain ⟨⟨t0, t1, t2⟩, _⟩ := HO.out
  refine (l2Lock_is S b _ _ _ a (-1) _ HE.out.2.2 hn1 HJ.out.1).mono ?_
  rintro e w' ⟨rfl, rfl⟩
  clear pst
  go_wp2_with fail
  refine (cellAt_is S b _ _ _ a s _ _ HE.out.2.2 hn0 HJ.out.2).mono ?_
  rintro e w'' ⟨rfl, rfl⟩
  clear HJ
  go_wp2_with fail
  refine (l2AddLock_any S.nl S.l d1 e1 w3.heap.size a s 1 pr un _ (HS.out.1.1.2.1.later B45.out) (by omega) g1).mono ?_
  rintro e w7 ⟨k', y1', z1', hk', rfl, O7, q7⟩
  have HO7 : Hid (Blk3 w7 w4.heap.size (.slice d0 S.nc e0) (.slice d1 S.nl e1) (.slice d2 S.nw e2)) := HO.out.later q7
  have HE7 : Hid (PrS w b S (.slice a0 S.nc c0) (.slice a1 S.nl c1) (.slice a2 S.nw c2) a s 1 pr un w7) := HE.out.later q7
  have B47 : Hid (Below w4.heap.size w4 w7) := B45.out.trans (q7.mono B45.out.size)
  have O7' : Hid (OwnM w7 w''.heap.size 53 5 (.slice y1' (S.nl + 1) z1') (S.nl + 1) (nums S.l (k' * 5) ++ [a, s, 1, pr, un] ++ nums (fun p => S.l (k' * 5 + p)) ((S.nl - k') * 5))) := O7
  have hk1 : Hid (placeAt (aheadL S.l a) S.nl k') := hk'
  have hz5 : Hid (w4.heap.size < w''.heap.size) := HO.out.lt
  have hz7 : Hid (w''.heap.size ≤ w7.heap.size) := q7.size
  clear O7 q7 hk' y0 y1 y2 y3 y4 r0 r1 r2 r3 f0 f1 f2 f3 p0 p1 p2 t0 t1 t2 HE HO
  obtain ⟨⟨t0, t1, t2⟩, ft0, ft1, ft2⟩ := HO7.out
  go_upto_region 13 with fail
  have hwl : w.heap.size + 1 < w4.heap.size := by have := hz3.out; have := hz4.out; omega
  have hks : ∀ i, i ≠ w4.heap.size → (w7.setCell ⟨w4.heap.size, 1, none⟩ (.slice y1' (S.nl + 1) z1')).heap[i]? = w7.heap[i]? := fun i hi => Below.heap_setCell w7 ⟨w4.heap.size, 1, none⟩ _ i hi
  have YZ : Hid (LkE w a s 1 pr un (w7.setCell ⟨w4.heap.size, 1, none⟩ (.slice y1' (S.nl + 1) z1'))) := ⟨⟨(cell_kept (hks _ (by omega)) 0).trans HE7.out.1.1.1, (cell_kept (hks _ (by omega)) 1).trans HE7.out.1.1.2.1, (cell_kept (hks _ (by omega)) 2).trans HE7.out.1.1.2.2.1, (cell_kept (hks _ (by omega)) 3).trans HE7.out.1.1.2.2.2.1, (cell_kept (hks _ (by omega)) 4).trans HE7.out.1.1.2.2.2.2⟩, HE7.out.1.2.setCell (by show w.heap.size ≤ w4.heap.size; omega) _⟩
  have RZ : Hid (Blk4 (w7.setCell ⟨w4.heap.size, 1, none⟩ (.slice y1' (S.nl + 1) z1')) (w.heap.size + 1) (.int .i64 0) (.slice none 0 0) (.slice none 0 0) (.slice none 0 0)) := HE7.out.2.1.kept (hks _ (by omega))
  have TZ : Hid (Blk3 (w7.setCell ⟨w4.heap.size, 1, none⟩ (.slice y1' (S.nl + 1) z1')) w4.heap.size (.slice d0 S.nc e0) (.slice y1' (S.nl + 1) z1') (.slice d2 S.nw e2)) := HO7.out.set1 _
  have B4Z : Hid (Below w4.heap.size w4 (w7.setCell ⟨w4.heap.size, 1, none⟩ (.slice y1' (S.nl + 1) z1'))) := B47.out.setCell (Nat.le_refl _) _
  have OZ : Hid (OwnM (w7.setCell ⟨w4.heap.size, 1, none⟩ (.slice y1' (S.nl + 1) z1')) w''.heap.size 53 5 (.slice y1' (S.nl + 1) z1') (S.nl + 1) (nums S.l (k' * 5) ++ [a, s, 1, pr, un] ++ nums (fun p => S.l (k' * 5 + p)) ((S.nl - k') * 5))) := O7'.out.far hz5.out _
  have zZ : Hid (w''.heap.size ≤ (w7.setCell ⟨w4.heap.size, 1, none⟩ (.slice y1' (S.nl + 1) z1')).heap.size) := by
    have := hz7.out
    unfold Hid
    simpa [World.setCell] using this
  generalize (w7.setCell ⟨w4.heap.size, 1, none⟩ (.slice y1' (S.nl + 1) z1')) = X0 at YZ RZ TZ B4Z OZ zZ ⊢
  clear hks t0 t1 t2 ft0 ft1 ft2 HO7 HE7 B47 O7' B45
  have hobL : Hid (∀ q, (Value.slice y1' (S.nl + 1) z1').ownBlock = some q → w''.heap.size ≤ q ∧ q < X0.heap.size) := OZ.out.block
  obtain ⟨⟨y0, y1, y2, y3, y4⟩, _⟩ := YZ.out
  obtain ⟨⟨r0, r1, r2, r3⟩, f0, f1, f2, f3⟩ := RZ.out
  obtain ⟨⟨t0, t1, t2⟩, ft0, ft1, ft2⟩ := TZ.out
  go_wp2_with fail
  refine (l2AddCell_any S.nc (S.c) d0 e0 w3.heap.size a s va _ (HS.out.1.1.1.later B4Z.out) (by omega) g0).mono ?_
  rintro e w9 ⟨q', y0', z0', hq', rfl, O9, q9⟩
  have hq1 : Hid (placeAt (aheadC (S.c) a s) S.nc q') := hq'
  have R9 : Hid (Blk4 w9 (w.heap.size + 1) (.int .i64 0) (.slice none 0 0) (.slice none 0 0) (.slice none 0 0)) := RZ.out.later q9
  have T9 : Hid (Blk3 w9 w4.heap.size (.slice d0 S.nc e0) (.slice y1' (S.nl + 1) z1') (.slice d2 S.nw e2)) := TZ.out.later q9
  have B49 : Hid (Below w4.heap.size w4 w9) := B4Z.out.trans (q9.mono B4Z.out.size)
  have BW9 : Hid (Below w.heap.size w w9) := YZ.out.2.trans (q9.mono YZ.out.2.size)
  have OL9 : Hid (OwnM w9 w''.heap.size 53 5 (.slice y1' (S.nl + 1) z1') (S.nl + 1) (nums S.l (k' * 5) ++ [a, s, 1, pr, un] ++ nums (fun p => S.l (k' * 5 + p)) ((S.nl - k') * 5))) := OZ.out.later q9
  have OC9 : Hid (OwnM w9 X0.heap.size 78 3 (.slice y0' (S.nc + 1) z0') (S.nc + 1) (nums (S.c) (q' * 3) ++ [a, s, va] ++ nums (fun p => (S.c) (q' * 3 + p)) ((S.nc - q') * 3))) := O9
  clear O9 q9 hq' y0 y1 y2 y3 y4 r0 r1 r2 r3 f0 f1 f2 f3 t0 t1 t2 ft0 ft1 ft2
  obtain ⟨⟨t0, t1, t2⟩, ft0, ft1, ft2⟩ := T9.out
  go_upto_region 17 with fail
  have hks : ∀ i, i ≠ w4.heap.size → (w9.setCell ⟨w4.heap.size, 0, none⟩ (.slice y0' (S.nc + 1) z0')).heap[i]? = w9.heap[i]? := fun i hi => Below.heap_setCell w9 ⟨w4.heap.size, 0, none⟩ _ i hi
  have RY : Blk4 (w9.setCell ⟨w4.heap.size, 0, none⟩ (.slice y0' (S.nc + 1) z0')) (w.heap.size + 1) (.int .i64 0) (.slice none 0 0) (.slice none 0 0) (.slice none 0 0) := R9.out.kept (hks _ (by omega))
  have TY : Blk3 (w9.setCell ⟨w4.heap.size, 0, none⟩ (.slice y0' (S.nc + 1) z0')) w4.heap.size (.slice y0' (S.nc + 1) z0') (.slice y1' (S.nl + 1) z1') (.slice d2 S.nw e2) := T9.out.set0 _
  have BY : Hid (Below w.heap.size w (w9.setCell ⟨w4.heap.size, 0, none⟩ (.slice y0' (S.nc + 1) z0'))) := BW9.out.setCell (by show w.heap.size ≤ w4.heap.size; omega) _
  have B4Y : Hid (Below w4.heap.size w4 (w9.setCell ⟨w4.heap.size, 0, none⟩ (.slice y0' (S.nc + 1) z0'))) := B49.out.setCell (Nat.le_refl _) _
  have OLY : Hid (OwnM (w9.setCell ⟨w4.heap.size, 0, none⟩ (.slice y0' (S.nc + 1) z0')) w''.heap.size 53 5 (.slice y1' (S.nl + 1) z1') (S.nl + 1) (nums S.l (k' * 5) ++ [a, s, 1, pr, un] ++ nums (fun p => S.l (k' * 5 + p)) ((S.nl - k') * 5))) := OL9.out.far hz5.out _
  have OCY : Hid (OwnM (w9.setCell ⟨w4.heap.size, 0, none⟩ (.slice y0' (S.nc + 1) z0')) X0.heap.size 78 3 (.slice y0' (S.nc + 1) z0') (S.nc + 1) (nums (S.c) (q' * 3) ++ [a, s, va] ++ nums (fun p => (S.c) (q' * 3 + p)) ((S.nc - q') * 3))) := OC9.out.far (by show w4.heap.size < _; have := hz5.out; have := zZ.out; omega) _
  generalize (w9.setCell ⟨w4.heap.size, 0, none⟩ (.slice y0' (S.nc + 1) z0')) = w8 at RY TY BY B4Y OLY OCY ⊢
  clear hks t0 t1 t2 ft0 ft1 ft2 R9 T9 B49 BW9 OL9 OC9
  obtain ⟨⟨r0, r1, r2, r3⟩, f0, f1, f2, f3⟩ := RY
  obtain ⟨⟨t0, t1, t2⟩, _⟩ := TY
  obtain rfl : k' = k := hk1.out.one HK.out.1
  obtain rfl : q' = q := hq1.out.one HK.out.2
  have lenL : (nums S.l (k' * 5) ++ [a, s, 1, pr, un] ++ nums (fun p => S.l (k' * 5 + p)) ((S.nl - k') * 5)).length = (S.nl + 1) * 5 := by
    have := hk1.out.1
    rw [List.length_append, List.length_append, nums_length, nums_length]
    simp only [List.length_cons, List.length_nil]
    omega
  have lenC : (nums (S.c) (q' * 3) ++ [a, s, va] ++ nums (fun p => (S.c) (q' * 3 + p)) ((S.nc - q') * 3)).length = (S.nc + 1) * 3 := by
    have := hq1.out.1
    rw [List.length_append, List.length_append, nums_length, nums_length]
    simp only [List.length_cons, List.length_nil]
    omega
  have HL8 : Hid (_ ∧ _) := (OLY.out.own lenL).row
  have HC8 : Hid (_ ∧ _) := (OCY.out.own lenC).row
  clear lenL lenC
  go_wp2
  have S8 : St w8 w3.heap.size (putS S k' q' a s pr un va) (.slice y0' (S.nc + 1) z0') (.slice y1' (S.nl + 1) z1') (.slice d2 S.nw e2) := ⟨HC8.out.1.mono (by have := hz4.out; have := hz5.out; have := zZ.out; omega), HL8.out.1.mono (by have := hz4.out; have := hz5.out; omega), HS.out.1.1.2.2.later B4Y.out⟩
  have F8 : FreeS w8 (putS S k' q' a s pr un va) (.slice y0' (S.nc + 1) z0') (.slice y1' (S.nl + 1) z1') (.slice d2 S.nw e2) := ⟨HC8.out.2, HL8.out.2, HS.out.1.2.2.2.ofRow HS.out.1.1.2.2 B4Y.out⟩
  have A8 : ApartD (putS S k' q' a s pr un va) (.slice y0' (S.nc + 1) z0') (.slice y1' (S.nl + 1) z1') (.slice d2 S.nw e2) := by
    have hi0 : ∀ q, (Value.slice y0' (S.nc + 1) z0').ownBlock = some q → X0.heap.size ≤ q := fun q hq => (OCY.out.block q hq).1
    have hi1 := hobL.out
    refine ⟨fun _ _ e => ?_, fun _ hb e => ?_, fun _ hb e => ?_⟩
    · obtain ⟨g, o, hg, _⟩ := HC8.out.1.at (k := 0) (by omega)
      have h0 : (Value.slice y0' (S.nc + 1) z0').ownBlock = some g := by rw [hg]; rfl
      have := hi0 g h0; have := (hi1 g (e ▸ h0)).2; omega
    · obtain ⟨g, o, hg, _⟩ := HC8.out.1.at (k := 0) (by omega)
      have h0 : (Value.slice y0' (S.nc + 1) z0').ownBlock = some g := by rw [hg]; rfl
      have := hi0 g h0; have := (HS.out.1.1.2.2.lt hb g (e ▸ h0)).2; have := zZ.out; have := hz5.out; omega
    · obtain ⟨g, o, hg, _⟩ := HL8.out.1.at (k := 0) (by omega)
      have h0 : (Value.slice y1' (S.nl + 1) z1').ownBlock = some g := by rw [hg]; rfl
      have := (hi1 g h0).1; have := (HS.out.1.1.2.2.lt hb g (e ▸ h0)).2; have := hz5.out; omega
  have hlo : (w.heap.size + 1 : Nat) < w3.heap.size := by have := hz3.out; omega
  exact bodyPost_ret (v := .agg #[.int .i64 0, .slice y0' (S.nc + 1) z0', .slice y1' (S.nl + 1) z1', .slice d2 S.nw e2]) (by simp [results, Tryz.results21, go_sem, r0, r1, r2, r3]) rfl ⟨y0', z0', y1', z1', d2, e2, rfl, ⟨((((S8.far hlo _).far hlo _).far hlo _).far hlo _).mono (by omega), (((F8.far _ _).far _ _).far _ _).far _ _, A8⟩, (((BY.out.setCell (Nat.le_succ _) _).setCell (Nat.le_succ _) _).setCell (Nat.le_succ _) _).setCell (Nat.le_succ _) _⟩
end
end Go.Proofs.YtkbjlnnincknaaaGreatDoor
