/-
 Own text, merged of PreH, PreI, PreK, DrawS, DrawR.
-/
import Derived.Test.YtiadbiiiikhfaaaGreatDoorPk7
namespace Go.Proofs.YtiadbiiiikhfaaaGreatDoor
section
open Go.RowKit
theorem MapRow.congr {m m' : Int → Int → Option Int} {n : Nat} {c : Nat → Int} (h : MapRow m n c) (e : ∀ x y, m x y = m' x y) : MapRow m' n c :=
 ⟨h.rise, h.wf, fun i hi => (e _ _).symm.trans (h.has i hi), fun x y v hx hy q => h.all x y v hx hy ((e x y).trans q)⟩
end

section
open Go.RowKit Go.Lib
/-- A store that has one lock more, at place k. -/
def lockS (S : Sto) (k : Nat) (a s kd pr un : Int) : Sto := ⟨S.nc, S.c, S.nl + 1, insF S.l 5 S.nl k [a, s, kd, pr, un], S.nw, S.k⟩
set_option maxRecDepth 100000 in
set_option maxHeartbeats 8000000 in
theorem l3Pre_lock (S : Sto) (b : Nat) (v0 v1 v2 : Value) (a s kd pr un va : Int) (hv : Int) (k : Nat) (w : World) (h : Lies w b S v0 v1 v2) (hz : storeF S = 0) (hi : FirstAt (writeIs S.k a s) S.nw (-1)) (hm : ¬ newerP S.k S.nw a s) (hl : FirstAt (lockIs S.l a) S.nl (-1)) (hc : FirstAt (cellIs S.c a s) S.nc hv) (hf : S.nl < 200) (hk1 : kd ≠ 1) (hk : placeAt (aheadL S.l a) S.nl k) :
  Calls Tryz.prog 45 #[.pointer (some ⟨b, 0, none⟩), .agg #[.int .i64 a, .int .i64 s, .int .i64 kd, .int .i64 pr, .int .i64 un], .int .i64 va] w (ResStoK w 0 (lockS S k a s kd pr un)) := by
 have HJ : Hid (FirstAt (lockIs S.l a) S.nl (-1) ∧ FirstAt (cellIs S.c a s) S.nc hv) := ⟨hl, hc⟩
 have HK : Hid (placeAt (aheadL S.l a) S.nl k) := hk
 have dn : decide ((200 : Int) ≤ (S.nl : Int)) = false := decide_eq_false (by omega)
 have dk : (kd == 1) = false := beq_eq_false_iff_ne.2 hk1
 clear hl hc hk hf hk1
 obtain ⟨a0, c0, a1, c1, a2, c2, rfl, rfl, rfl⟩ := h.2.form
 have HE : Hid (PrS w b S (.slice a0 S.nc c0) (.slice a1 S.nl c1) (.slice a2 S.nw c2) a s kd pr un ((w.alloc (.cells #[.int .i64 a, .int .i64 s, .int .i64 kd, .int .i64 pr, .int .i64 un] 40)).alloc (.cells #[.int .i64 0, .slice none 0 0, .slice none 0 0, .slice none 0 0] 32))) := by
  refine ⟨(LkE.new w a s kd pr un _).later (below_alloc _ _), ?_, (h.later (below_alloc _ _)).later (below_alloc _ _)⟩
  have := Blk4.new (w.alloc (.cells #[.int .i64 a, .int .i64 s, .int .i64 kd, .int .i64 pr, .int .i64 un] 40)) (.int .i64 0) (.slice none 0 0) (.slice none 0 0) (.slice none 0 0) 32
  rwa [World.size_alloc] at this
 obtain ⟨⟨hn0, hn1, hn2⟩, _⟩ := storeF_zero hz
 clear h hz
 go_enter Tryz.func45, Tryz.ntmps45
 go_wp2_with fail
 generalize (w.alloc (.cells #[.int .i64 a, .int .i64 s, .int .i64 kd, .int .i64 pr, .int .i64 un] 40)).alloc (.cells #[.int .i64 0, .slice none 0 0, .slice none 0 0, .slice none 0 0] 32) = w1 at HE ⊢
 refine (l2Write_is S b _ _ _ a s (-1) _ HE.out.2.2 hn2 hi).mono ?_
 rintro e w' ⟨rfl, rfl⟩
 obtain ⟨⟨⟨y0, y1, y2, y3, y4⟩, _⟩, ⟨⟨r0, r1, r2, r3⟩, f0, f1, f2, f3⟩, ⟨p0, p1, p2⟩, pst⟩ := HE.out
 unfold ResStoK
 clear pst hi
 have HM : Hid (¬ newerP S.k S.nw a s) := hm
 clear hm
 go_wp2_with fail
 refine (l3Newer_is S b _ _ _ a s _ HE.out.2.2 hn2 false ⟨fun q => (Bool.false_ne_true q).elim, fun q => (HM.out q).elim⟩).mono ?_
 rintro e w3 ⟨rfl, q3⟩
 have HE : Hid (PrS w b S (.slice a0 S.nc c0) (.slice a1 S.nl c1) (.slice a2 S.nw c2) a s kd pr un w3) := HE.out.later q3
 clear q3 y0 y1 y2 y3 y4 r0 r1 r2 r3 f0 f1 f2 f3 p0 p1 p2 HM
 obtain ⟨⟨⟨y0, y1, y2, y3, y4⟩, _⟩, ⟨⟨r0, r1, r2, r3⟩, f0, f1, f2, f3⟩, ⟨p0, p1, p2⟩, pst⟩ := HE.out
 clear pst
 go_wp2_with fail
 refine (l2Copy_own S _ _ _ 0 _ HE.out.2.2.2 ⟨by omega, by omega, by omega⟩).mono ?_
 rintro e w4 ⟨d0, e0, d1, e1, d2, e2, rfl, o2, q2⟩
 have g0 := own_cap o2.1.1
 have g1 := own_cap o2.1.2.1
 have g2 := own_cap o2.1.2.2
 obtain ⟨s2, fr2, ap2⟩ := o2.all
 have hz3 : Hid (w.heap.size + 2 ≤ w3.heap.size) := HE.out.2.1.lt
 have HS : Hid ((St w4 w3.heap.size S (.slice d0 S.nc e0) (.slice d1 S.nl e1) (.slice d2 S.nw e2) ∧ FreeS w4 S (.slice d0 S.nc e0) (.slice d1 S.nl e1) (.slice d2 S.nw e2)) ∧ ApartD S (.slice d0 S.nc e0) (.slice d1 S.nl e1) (.slice d2 S.nw e2)) := ⟨⟨s2, fr2⟩, ap2⟩
 have HOS : Hid (OwnS w4 w3.heap.size S (.slice d0 S.nc e0) (.slice d1 S.nl e1) (.slice d2 S.nw e2)) := o2
 have HE : Hid (PrS w b S (.slice a0 S.nc c0) (.slice a1 S.nl c1) (.slice a2 S.nw c2) a s kd pr un (w4.alloc (.cells #[.slice d0 S.nc e0, .slice d1 S.nl e1, .slice d2 S.nw e2] 28)) ∧ Blk3 (w4.alloc (.cells #[.slice d0 S.nc e0, .slice d1 S.nl e1, .slice d2 S.nw e2] 28)) w4.heap.size (.slice d0 S.nc e0) (.slice d1 S.nl e1) (.slice d2 S.nw e2)) := ⟨(HE.out.later q2).later (below_alloc _ _), Blk3.new _ _ _ _ _⟩
 have hz4 : Hid (w3.heap.size ≤ w4.heap.size) := q2.size
 have B45 : Hid (Below w4.heap.size w4 (w4.alloc (.cells #[.slice d0 S.nc e0, .slice d1 S.nl e1, .slice d2 S.nw e2] 28))) := below_alloc _ _
 clear o2 s2 fr2 ap2 q2 y0 y1 y2 y3 y4 r0 r1 r2 r3 f0 f1 f2 f3 p0 p1 p2
 have HO : Hid (Blk3 (w4.alloc (.cells #[.slice d0 S.nc e0, .slice d1 S.nl e1, .slice d2 S.nw e2] 28)) w4.heap.size (.slice d0 S.nc e0) (.slice d1 S.nl e1) (.slice d2 S.nw e2)) := HE.out.2
 have HE : Hid (PrS w b S (.slice a0 S.nc c0) (.slice a1 S.nl c1) (.slice a2 S.nw c2) a s kd pr un (w4.alloc (.cells #[.slice d0 S.nc e0, .slice d1 S.nl e1, .slice d2 S.nw e2] 28))) := HE.out.1
 obtain ⟨⟨⟨y0, y1, y2, y3, y4⟩, _⟩, ⟨⟨r0, r1, r2, r3⟩, f0, f1, f2, f3⟩, ⟨p0, p1, p2⟩, pst⟩ := HE.out
 go_wp2_with fail
 clear y0 y1 y2 y3 y4 r0 r1 r2 r3 f0 f1 f2 f3 p0 p1 p2 pst
 generalize w4.alloc (.cells #[.slice d0 S.nc e0, .slice d1 S.nl e1, .slice d2 S.nw e2] 28) = w5 at HE HO B45 ⊢
 obtain ⟨⟨⟨y0, y1, y2, y3, y4⟩, _⟩, ⟨⟨r0, r1, r2, r3⟩, f0, f1, f2, f3⟩, ⟨p0, p1, p2⟩, pst⟩ := HE.out
 obtain ⟨⟨t0, t1, t2⟩, _⟩ := HO.out
 refine (l2Lock_is S b _ _ _ a (-1) _ HE.out.2.2 hn1 HJ.out.1).mono ?_
 rintro e w' ⟨rfl, rfl⟩
 clear pst
 go_wp2_with fail
 refine (cellAt_is S b _ _ _ a s _ _ HE.out.2.2 hn0 HJ.out.2).mono ?_
 rintro e w'' ⟨rfl, rfl⟩
 clear HJ
 go_wp2_with fail
 refine (l2AddLock_any S.nl S.l d1 e1 w3.heap.size a s kd pr un _ (HS.out.1.1.2.1.later B45.out) (by omega) g1).mono ?_
 rintro e w7 ⟨k', y1', z1', hk', rfl, O7, q7⟩
 have HO7 : Hid (Blk3 w7 w4.heap.size (.slice d0 S.nc e0) (.slice d1 S.nl e1) (.slice d2 S.nw e2)) := HO.out.later q7
 have HE7 : Hid (PrS w b S (.slice a0 S.nc c0) (.slice a1 S.nl c1) (.slice a2 S.nw c2) a s kd pr un w7) := HE.out.later q7
 have B47 : Hid (Below w4.heap.size w4 w7) := B45.out.trans (q7.mono B45.out.size)
 have O7' : Hid (OwnM w7 w''.heap.size 40 5 (.slice y1' (S.nl + 1) z1') (S.nl + 1) (nums S.l (k' * 5) ++ [a, s, kd, pr, un] ++ nums (fun p => S.l (k' * 5 + p)) ((S.nl - k') * 5))) := O7
 have hk1 : Hid (placeAt (aheadL S.l a) S.nl k') := hk'
 have hz5 : Hid (w4.heap.size < w''.heap.size) := HO.out.lt
 clear O7 q7 hk' y0 y1 y2 y3 y4 r0 r1 r2 r3 f0 f1 f2 f3 p0 p1 p2 t0 t1 t2 HE HO
 obtain ⟨⟨t0, t1, t2⟩, ft0, ft1, ft2⟩ := HO7.out
 go_upto_region 13 with fail
 have hwl : w.heap.size + 1 < w4.heap.size := by have := hz3.out; have := hz4.out; omega
 have hks : ∀ i, i ≠ w4.heap.size → (w7.setCell ⟨w4.heap.size, 1, none⟩ (.slice y1' (S.nl + 1) z1')).heap[i]? = w7.heap[i]? := fun i hi => Below.heap_setCell w7 ⟨w4.heap.size, 1, none⟩ _ i hi
 have y2 : (w7.setCell ⟨w4.heap.size, 1, none⟩ (.slice y1' (S.nl + 1) z1')).cell? ⟨w.heap.size, 2, none⟩ = some (.int .i64 kd) := (cell_kept (hks _ (by omega)) 2).trans HE7.out.1.1.2.2.1
 have RZ : Blk4 (w7.setCell ⟨w4.heap.size, 1, none⟩ (.slice y1' (S.nl + 1) z1')) (w.heap.size + 1) (.int .i64 0) (.slice none 0 0) (.slice none 0 0) (.slice none 0 0) := HE7.out.2.1.kept (hks _ (by omega))
 have TZ : Blk3 (w7.setCell ⟨w4.heap.size, 1, none⟩ (.slice y1' (S.nl + 1) z1')) w4.heap.size (.slice d0 S.nc e0) (.slice y1' (S.nl + 1) z1') (.slice d2 S.nw e2) := HO7.out.set1 _
 have BZ : Hid (Below w.heap.size w (w7.setCell ⟨w4.heap.size, 1, none⟩ (.slice y1' (S.nl + 1) z1'))) := HE7.out.1.2.setCell (by show w.heap.size ≤ w4.heap.size; omega) _
 have B4Z : Hid (Below w4.heap.size w4 (w7.setCell ⟨w4.heap.size, 1, none⟩ (.slice y1' (S.nl + 1) z1'))) := B47.out.setCell (Nat.le_refl _) _
 have OZ : Hid (OwnM (w7.setCell ⟨w4.heap.size, 1, none⟩ (.slice y1' (S.nl + 1) z1')) w''.heap.size 40 5 (.slice y1' (S.nl + 1) z1') (S.nl + 1) (nums S.l (k' * 5) ++ [a, s, kd, pr, un] ++ nums (fun p => S.l (k' * 5 + p)) ((S.nl - k') * 5))) := O7'.out.far hz5.out _
 generalize (w7.setCell ⟨w4.heap.size, 1, none⟩ (.slice y1' (S.nl + 1) z1')) = w8 at y2 RZ TZ BZ B4Z OZ ⊢
 clear hks t0 t1 t2 ft0 ft1 ft2 HO7 HE7 B47 O7' B45
 obtain ⟨⟨r0, r1, r2, r3⟩, f0, f1, f2, f3⟩ := RZ
 obtain ⟨⟨t0, t1, t2⟩, _⟩ := TZ
 obtain rfl : k' = k := hk1.out.one HK.out
 have lenL : (nums S.l (k' * 5) ++ [a, s, kd, pr, un] ++ nums (fun p => S.l (k' * 5 + p)) ((S.nl - k') * 5)).length = (S.nl + 1) * 5 := by
  have := hk1.out.1
  rw [List.length_append, List.length_append, nums_length, nums_length]
  simp only [List.length_cons, List.length_nil]
  omega
 have HL8 : Hid (Own _ _ _ _ _ _ _) := OZ.out.own lenL
 clear lenL
 go_wp2
 have O8 : OwnS w8 w3.heap.size (lockS S k' a s kd pr un) (.slice d0 S.nc e0) (.slice y1' (S.nl + 1) z1') (.slice d2 S.nw e2) :=
  ⟨⟨HOS.out.1.1.later B4Z.out, HL8.out.mono (by have := hz4.out; have := hz5.out; omega), HOS.out.1.2.2.later B4Z.out⟩, fun q a b => by have h1 := (own_blk HOS.out.1.1 q a).2; have h2 := (OZ.out.block q b).1; have := hz5.out; omega, HOS.out.2.2.1, fun q a b => by have h1 := (own_blk HOS.out.1.2.2 q b).2; have h2 := (OZ.out.block q a).1; have := hz5.out; omega⟩
 have hlo : (w.heap.size + 1 : Nat) < w3.heap.size := by have := hz3.out; omega
 exact bodyPost_ret (v := .agg #[.int .i64 0, .slice d0 S.nc e0, .slice y1' (S.nl + 1) z1', .slice d2 S.nw e2]) (by simp [results, Tryz.results45, go_sem, r0, r1, r2, r3]) rfl ⟨d0, e0, y1', z1', d2, e2, rfl, ((((O8.far hlo _).far hlo _).far hlo _).far hlo _).mono (by omega), (((BZ.out.setCell (Nat.le_succ _) _).setCell (Nat.le_succ _) _).setCell (Nat.le_succ _) _).setCell (Nat.le_succ _) _⟩
end

section
open Go.RowKit Go.Lib
/-- A store that has one lock more, at place k, and one cell more, at place q. -/
def putS (S : Sto) (k q : Nat) (a s pr un va : Int) : Sto := ⟨S.nc + 1, insF S.c 3 S.nc q [a, s, va], S.nl + 1, insF S.l 5 S.nl k [a, s, 1, pr, un], S.nw, S.k⟩
set_option maxRecDepth 100000 in
set_option maxHeartbeats 8000000 in
theorem l3Pre_put (S : Sto) (b : Nat) (v0 v1 v2 : Value) (a s pr un va : Int) (k q : Nat) (w : World) (h : Lies w b S v0 v1 v2) (hz : storeF S = 0) (hi : FirstAt (writeIs S.k a s) S.nw (-1)) (hm : ¬ newerP S.k S.nw a s) (hl : FirstAt (lockIs S.l a) S.nl (-1)) (hc : FirstAt (cellIs S.c a s) S.nc (-1)) (hf : S.nl < 200) (hg : S.nc < 200) (hk : placeAt (aheadL S.l a) S.nl k) (hq : placeAt (aheadC S.c a s) S.nc q) :
  Calls Tryz.prog 45 #[.pointer (some ⟨b, 0, none⟩), .agg #[.int .i64 a, .int .i64 s, .int .i64 1, .int .i64 pr, .int .i64 un], .int .i64 va] w (ResStoK w 0 (putS S k q a s pr un va)) := by
 have HJ : Hid (FirstAt (lockIs S.l a) S.nl (-1) ∧ FirstAt (cellIs S.c a s) S.nc (-1)) := ⟨hl, hc⟩
 have HK : Hid (placeAt (aheadL S.l a) S.nl k ∧ placeAt (aheadC S.c a s) S.nc q) := ⟨hk, hq⟩
 have dn : decide ((200 : Int) ≤ (S.nl : Int)) = false := decide_eq_false (by omega)
 have dc : decide ((200 : Int) ≤ (S.nc : Int)) = false := decide_eq_false (by omega)
 clear hl hc hk hq hf hg
 obtain ⟨a0, c0, a1, c1, a2, c2, rfl, rfl, rfl⟩ := h.2.form
 have HE : Hid (PrS w b S (.slice a0 S.nc c0) (.slice a1 S.nl c1) (.slice a2 S.nw c2) a s 1 pr un ((w.alloc (.cells #[.int .i64 a, .int .i64 s, .int .i64 1, .int .i64 pr, .int .i64 un] 40)).alloc (.cells #[.int .i64 0, .slice none 0 0, .slice none 0 0, .slice none 0 0] 32))) := by
  refine ⟨(LkE.new w a s 1 pr un _).later (below_alloc _ _), ?_, (h.later (below_alloc _ _)).later (below_alloc _ _)⟩
  have := Blk4.new (w.alloc (.cells #[.int .i64 a, .int .i64 s, .int .i64 1, .int .i64 pr, .int .i64 un] 40)) (.int .i64 0) (.slice none 0 0) (.slice none 0 0) (.slice none 0 0) 32
  rwa [World.size_alloc] at this
 obtain ⟨⟨hn0, hn1, hn2⟩, _⟩ := storeF_zero hz
 clear h hz
 go_enter Tryz.func45, Tryz.ntmps45
 go_wp2_with fail
 generalize (w.alloc (.cells #[.int .i64 a, .int .i64 s, .int .i64 1, .int .i64 pr, .int .i64 un] 40)).alloc (.cells #[.int .i64 0, .slice none 0 0, .slice none 0 0, .slice none 0 0] 32) = w1 at HE ⊢
 refine (l2Write_is S b _ _ _ a s (-1) _ HE.out.2.2 hn2 hi).mono ?_
 rintro e w' ⟨rfl, rfl⟩
 obtain ⟨⟨⟨y0, y1, y2, y3, y4⟩, _⟩, ⟨⟨r0, r1, r2, r3⟩, f0, f1, f2, f3⟩, ⟨p0, p1, p2⟩, pst⟩ := HE.out
 unfold ResStoK
 clear pst hi
 have HM : Hid (¬ newerP S.k S.nw a s) := hm
 clear hm
 go_wp2_with fail
 refine (l3Newer_is S b _ _ _ a s _ HE.out.2.2 hn2 false ⟨fun q => (Bool.false_ne_true q).elim, fun q => (HM.out q).elim⟩).mono ?_
 rintro e w3 ⟨rfl, q3⟩
 have HE : Hid (PrS w b S (.slice a0 S.nc c0) (.slice a1 S.nl c1) (.slice a2 S.nw c2) a s 1 pr un w3) := HE.out.later q3
 clear q3 y0 y1 y2 y3 y4 r0 r1 r2 r3 f0 f1 f2 f3 p0 p1 p2 HM
 obtain ⟨⟨⟨y0, y1, y2, y3, y4⟩, _⟩, ⟨⟨r0, r1, r2, r3⟩, f0, f1, f2, f3⟩, ⟨p0, p1, p2⟩, pst⟩ := HE.out
 clear pst
 go_wp2_with fail
 refine (l2Copy_own S _ _ _ 0 _ HE.out.2.2.2 ⟨by omega, by omega, by omega⟩).mono ?_
 rintro e w4 ⟨d0, e0, d1, e1, d2, e2, rfl, o2, q2⟩
 have g0 := own_cap o2.1.1
 have g1 := own_cap o2.1.2.1
 have g2 := own_cap o2.1.2.2
 obtain ⟨s2, fr2, ap2⟩ := o2.all
 have hz3 : Hid (w.heap.size + 2 ≤ w3.heap.size) := HE.out.2.1.lt
 have HS : Hid ((St w4 w3.heap.size S (.slice d0 S.nc e0) (.slice d1 S.nl e1) (.slice d2 S.nw e2) ∧ FreeS w4 S (.slice d0 S.nc e0) (.slice d1 S.nl e1) (.slice d2 S.nw e2)) ∧ ApartD S (.slice d0 S.nc e0) (.slice d1 S.nl e1) (.slice d2 S.nw e2)) := ⟨⟨s2, fr2⟩, ap2⟩
 have HOS : Hid (OwnS w4 w3.heap.size S (.slice d0 S.nc e0) (.slice d1 S.nl e1) (.slice d2 S.nw e2)) := o2
 have HE : Hid (PrS w b S (.slice a0 S.nc c0) (.slice a1 S.nl c1) (.slice a2 S.nw c2) a s 1 pr un (w4.alloc (.cells #[.slice d0 S.nc e0, .slice d1 S.nl e1, .slice d2 S.nw e2] 28)) ∧ Blk3 (w4.alloc (.cells #[.slice d0 S.nc e0, .slice d1 S.nl e1, .slice d2 S.nw e2] 28)) w4.heap.size (.slice d0 S.nc e0) (.slice d1 S.nl e1) (.slice d2 S.nw e2)) := ⟨(HE.out.later q2).later (below_alloc _ _), Blk3.new _ _ _ _ _⟩
 have hz4 : Hid (w3.heap.size ≤ w4.heap.size) := q2.size
 have B45 : Hid (Below w4.heap.size w4 (w4.alloc (.cells #[.slice d0 S.nc e0, .slice d1 S.nl e1, .slice d2 S.nw e2] 28))) := below_alloc _ _
 clear o2 s2 fr2 ap2 q2 y0 y1 y2 y3 y4 r0 r1 r2 r3 f0 f1 f2 f3 p0 p1 p2
 have HO : Hid (Blk3 (w4.alloc (.cells #[.slice d0 S.nc e0, .slice d1 S.nl e1, .slice d2 S.nw e2] 28)) w4.heap.size (.slice d0 S.nc e0) (.slice d1 S.nl e1) (.slice d2 S.nw e2)) := HE.out.2
 have HE : Hid (PrS w b S (.slice a0 S.nc c0) (.slice a1 S.nl c1) (.slice a2 S.nw c2) a s 1 pr un (w4.alloc (.cells #[.slice d0 S.nc e0, .slice d1 S.nl e1, .slice d2 S.nw e2] 28))) := HE.out.1
 obtain ⟨⟨⟨y0, y1, y2, y3, y4⟩, _⟩, ⟨⟨r0, r1, r2, r3⟩, f0, f1, f2, f3⟩, ⟨p0, p1, p2⟩, pst⟩ := HE.out
 go_wp2_with fail
 clear y0 y1 y2 y3 y4 r0 r1 r2 r3 f0 f1 f2 f3 p0 p1 p2 pst
 generalize w4.alloc (.cells #[.slice d0 S.nc e0, .slice d1 S.nl e1, .slice d2 S.nw e2] 28) = w5 at HE HO B45 ⊢
 obtain ⟨⟨⟨y0, y1, y2, y3, y4⟩, _⟩, ⟨⟨r0, r1, r2, r3⟩, f0, f1, f2, f3⟩, ⟨p0, p1, p2⟩, pst⟩ := HE.out
 obtain ⟨⟨t0, t1, t2⟩, _⟩ := HO.out
 refine (l2Lock_is S b _ _ _ a (-1) _ HE.out.2.2 hn1 HJ.out.1).mono ?_
 rintro e w' ⟨rfl, rfl⟩
 clear pst
 go_wp2_with fail
 refine (cellAt_is S b _ _ _ a s _ _ HE.out.2.2 hn0 HJ.out.2).mono ?_
 rintro e w'' ⟨rfl, rfl⟩
 clear HJ
 go_wp2_with fail
 refine (l2AddLock_any S.nl S.l d1 e1 w3.heap.size a s 1 pr un _ (HS.out.1.1.2.1.later B45.out) (by omega) g1).mono ?_
 rintro e w7 ⟨k', y1', z1', hk', rfl, O7, q7⟩
 have HO7 : Hid (Blk3 w7 w4.heap.size (.slice d0 S.nc e0) (.slice d1 S.nl e1) (.slice d2 S.nw e2)) := HO.out.later q7
 have HE7 : Hid (PrS w b S (.slice a0 S.nc c0) (.slice a1 S.nl c1) (.slice a2 S.nw c2) a s 1 pr un w7) := HE.out.later q7
 have B47 : Hid (Below w4.heap.size w4 w7) := B45.out.trans (q7.mono B45.out.size)
 have O7' : Hid (OwnM w7 w''.heap.size 40 5 (.slice y1' (S.nl + 1) z1') (S.nl + 1) (nums S.l (k' * 5) ++ [a, s, 1, pr, un] ++ nums (fun p => S.l (k' * 5 + p)) ((S.nl - k') * 5))) := O7
 have hk1 : Hid (placeAt (aheadL S.l a) S.nl k') := hk'
 have hz5 : Hid (w4.heap.size < w''.heap.size) := HO.out.lt
 have hz7 : Hid (w''.heap.size ≤ w7.heap.size) := q7.size
 clear O7 q7 hk' y0 y1 y2 y3 y4 r0 r1 r2 r3 f0 f1 f2 f3 p0 p1 p2 t0 t1 t2 HE HO
 obtain ⟨⟨t0, t1, t2⟩, ft0, ft1, ft2⟩ := HO7.out
 go_upto_region 13 with fail
 have hwl : w.heap.size + 1 < w4.heap.size := by have := hz3.out; have := hz4.out; omega
 have hks : ∀ i, i ≠ w4.heap.size → (w7.setCell ⟨w4.heap.size, 1, none⟩ (.slice y1' (S.nl + 1) z1')).heap[i]? = w7.heap[i]? := fun i hi => Below.heap_setCell w7 ⟨w4.heap.size, 1, none⟩ _ i hi
 have YZ : Hid (LkE w a s 1 pr un (w7.setCell ⟨w4.heap.size, 1, none⟩ (.slice y1' (S.nl + 1) z1'))) := ⟨⟨(cell_kept (hks _ (by omega)) 0).trans HE7.out.1.1.1, (cell_kept (hks _ (by omega)) 1).trans HE7.out.1.1.2.1, (cell_kept (hks _ (by omega)) 2).trans HE7.out.1.1.2.2.1, (cell_kept (hks _ (by omega)) 3).trans HE7.out.1.1.2.2.2.1, (cell_kept (hks _ (by omega)) 4).trans HE7.out.1.1.2.2.2.2⟩, HE7.out.1.2.setCell (by show w.heap.size ≤ w4.heap.size; omega) _⟩
 have RZ : Hid (Blk4 (w7.setCell ⟨w4.heap.size, 1, none⟩ (.slice y1' (S.nl + 1) z1')) (w.heap.size + 1) (.int .i64 0) (.slice none 0 0) (.slice none 0 0) (.slice none 0 0)) := HE7.out.2.1.kept (hks _ (by omega))
 have TZ : Hid (Blk3 (w7.setCell ⟨w4.heap.size, 1, none⟩ (.slice y1' (S.nl + 1) z1')) w4.heap.size (.slice d0 S.nc e0) (.slice y1' (S.nl + 1) z1') (.slice d2 S.nw e2)) := HO7.out.set1 _
 have B4Z : Hid (Below w4.heap.size w4 (w7.setCell ⟨w4.heap.size, 1, none⟩ (.slice y1' (S.nl + 1) z1'))) := B47.out.setCell (Nat.le_refl _) _
 have OZ : Hid (OwnM (w7.setCell ⟨w4.heap.size, 1, none⟩ (.slice y1' (S.nl + 1) z1')) w''.heap.size 40 5 (.slice y1' (S.nl + 1) z1') (S.nl + 1) (nums S.l (k' * 5) ++ [a, s, 1, pr, un] ++ nums (fun p => S.l (k' * 5 + p)) ((S.nl - k') * 5))) := O7'.out.far hz5.out _
 have zZ : Hid (w''.heap.size ≤ (w7.setCell ⟨w4.heap.size, 1, none⟩ (.slice y1' (S.nl + 1) z1')).heap.size) := by
  have := hz7.out
  unfold Hid
  simpa [World.setCell] using this
 generalize (w7.setCell ⟨w4.heap.size, 1, none⟩ (.slice y1' (S.nl + 1) z1')) = X0 at YZ RZ TZ B4Z OZ zZ ⊢
 clear hks t0 t1 t2 ft0 ft1 ft2 HO7 HE7 B47 O7' B45
 have hobL : Hid (∀ q, (Value.slice y1' (S.nl + 1) z1').ownBlock = some q → w''.heap.size ≤ q ∧ q < X0.heap.size) := OZ.out.block
 obtain ⟨⟨y0, y1, y2, y3, y4⟩, _⟩ := YZ.out
 obtain ⟨⟨r0, r1, r2, r3⟩, f0, f1, f2, f3⟩ := RZ.out
 obtain ⟨⟨t0, t1, t2⟩, ft0, ft1, ft2⟩ := TZ.out
 go_wp2_with fail
 refine (l2AddCell_any S.nc (S.c) d0 e0 w3.heap.size a s va _ (HS.out.1.1.1.later B4Z.out) (by omega) g0).mono ?_
 rintro e w9 ⟨q', y0', z0', hq', rfl, O9, q9⟩
 have hq1 : Hid (placeAt (aheadC (S.c) a s) S.nc q') := hq'
 have R9 : Hid (Blk4 w9 (w.heap.size + 1) (.int .i64 0) (.slice none 0 0) (.slice none 0 0) (.slice none 0 0)) := RZ.out.later q9
 have T9 : Hid (Blk3 w9 w4.heap.size (.slice d0 S.nc e0) (.slice y1' (S.nl + 1) z1') (.slice d2 S.nw e2)) := TZ.out.later q9
 have B49 : Hid (Below w4.heap.size w4 w9) := B4Z.out.trans (q9.mono B4Z.out.size)
 have BW9 : Hid (Below w.heap.size w w9) := YZ.out.2.trans (q9.mono YZ.out.2.size)
 have OL9 : Hid (OwnM w9 w''.heap.size 40 5 (.slice y1' (S.nl + 1) z1') (S.nl + 1) (nums S.l (k' * 5) ++ [a, s, 1, pr, un] ++ nums (fun p => S.l (k' * 5 + p)) ((S.nl - k') * 5))) := OZ.out.later q9
 have OC9 : Hid (OwnM w9 X0.heap.size 93 3 (.slice y0' (S.nc + 1) z0') (S.nc + 1) (nums (S.c) (q' * 3) ++ [a, s, va] ++ nums (fun p => (S.c) (q' * 3 + p)) ((S.nc - q') * 3))) := O9
 clear O9 q9 hq' y0 y1 y2 y3 y4 r0 r1 r2 r3 f0 f1 f2 f3 t0 t1 t2 ft0 ft1 ft2
 obtain ⟨⟨t0, t1, t2⟩, ft0, ft1, ft2⟩ := T9.out
 go_upto_region 17 with fail
 have hks : ∀ i, i ≠ w4.heap.size → (w9.setCell ⟨w4.heap.size, 0, none⟩ (.slice y0' (S.nc + 1) z0')).heap[i]? = w9.heap[i]? := fun i hi => Below.heap_setCell w9 ⟨w4.heap.size, 0, none⟩ _ i hi
 have RY : Blk4 (w9.setCell ⟨w4.heap.size, 0, none⟩ (.slice y0' (S.nc + 1) z0')) (w.heap.size + 1) (.int .i64 0) (.slice none 0 0) (.slice none 0 0) (.slice none 0 0) := R9.out.kept (hks _ (by omega))
 have TY : Blk3 (w9.setCell ⟨w4.heap.size, 0, none⟩ (.slice y0' (S.nc + 1) z0')) w4.heap.size (.slice y0' (S.nc + 1) z0') (.slice y1' (S.nl + 1) z1') (.slice d2 S.nw e2) := T9.out.set0 _
 have BY : Hid (Below w.heap.size w (w9.setCell ⟨w4.heap.size, 0, none⟩ (.slice y0' (S.nc + 1) z0'))) := BW9.out.setCell (by show w.heap.size ≤ w4.heap.size; omega) _
 have B4Y : Hid (Below w4.heap.size w4 (w9.setCell ⟨w4.heap.size, 0, none⟩ (.slice y0' (S.nc + 1) z0'))) := B49.out.setCell (Nat.le_refl _) _
 have OLY : Hid (OwnM (w9.setCell ⟨w4.heap.size, 0, none⟩ (.slice y0' (S.nc + 1) z0')) w''.heap.size 40 5 (.slice y1' (S.nl + 1) z1') (S.nl + 1) (nums S.l (k' * 5) ++ [a, s, 1, pr, un] ++ nums (fun p => S.l (k' * 5 + p)) ((S.nl - k') * 5))) := OL9.out.far hz5.out _
 have OCY : Hid (OwnM (w9.setCell ⟨w4.heap.size, 0, none⟩ (.slice y0' (S.nc + 1) z0')) X0.heap.size 93 3 (.slice y0' (S.nc + 1) z0') (S.nc + 1) (nums (S.c) (q' * 3) ++ [a, s, va] ++ nums (fun p => (S.c) (q' * 3 + p)) ((S.nc - q') * 3))) := OC9.out.far (by show w4.heap.size < _; have := hz5.out; have := zZ.out; omega) _
 generalize (w9.setCell ⟨w4.heap.size, 0, none⟩ (.slice y0' (S.nc + 1) z0')) = w8 at RY TY BY B4Y OLY OCY ⊢
 clear hks t0 t1 t2 ft0 ft1 ft2 R9 T9 B49 BW9 OL9 OC9
 obtain ⟨⟨r0, r1, r2, r3⟩, f0, f1, f2, f3⟩ := RY
 obtain ⟨⟨t0, t1, t2⟩, _⟩ := TY
 obtain rfl : k' = k := hk1.out.one HK.out.1
 obtain rfl : q' = q := hq1.out.one HK.out.2
 have lenL : (nums S.l (k' * 5) ++ [a, s, 1, pr, un] ++ nums (fun p => S.l (k' * 5 + p)) ((S.nl - k') * 5)).length = (S.nl + 1) * 5 := by
  have := hk1.out.1
  rw [List.length_append, List.length_append, nums_length, nums_length]
  simp only [List.length_cons, List.length_nil]
  omega
 have lenC : (nums (S.c) (q' * 3) ++ [a, s, va] ++ nums (fun p => (S.c) (q' * 3 + p)) ((S.nc - q') * 3)).length = (S.nc + 1) * 3 := by
  have := hq1.out.1
  rw [List.length_append, List.length_append, nums_length, nums_length]
  simp only [List.length_cons, List.length_nil]
  omega
 have HL8 : Hid (Own _ _ _ _ _ _ _) := OLY.out.own lenL
 have HC8 : Hid (Own _ _ _ _ _ _ _) := OCY.out.own lenC
 clear lenL lenC
 go_wp2
 have O8 : OwnS w8 w3.heap.size (putS S k' q' a s pr un va) (.slice y0' (S.nc + 1) z0') (.slice y1' (S.nl + 1) z1') (.slice d2 S.nw e2) :=
  ⟨⟨HC8.out.mono (by have := hz4.out; have := hz5.out; have := zZ.out; omega), HL8.out.mono (by have := hz4.out; have := hz5.out; omega), HOS.out.1.2.2.later B4Y.out⟩, fun q a b => by have h1 := (OCY.out.block q a).1; have h2 := (hobL.out q b).2; omega, fun q a b => by have h1 := (OCY.out.block q a).1; have h2 := (own_blk HOS.out.1.2.2 q b).2; have := zZ.out; have := hz5.out; omega, fun q a b => by have h1 := (hobL.out q a).1; have h2 := (own_blk HOS.out.1.2.2 q b).2; have := hz5.out; omega⟩
 have hlo : (w.heap.size + 1 : Nat) < w3.heap.size := by have := hz3.out; omega
 exact bodyPost_ret (v := .agg #[.int .i64 0, .slice y0' (S.nc + 1) z0', .slice y1' (S.nl + 1) z1', .slice d2 S.nw e2]) (by simp [results, Tryz.results45, go_sem, r0, r1, r2, r3]) rfl ⟨y0', z0', y1', z1', d2, e2, rfl, ((((O8.far hlo _).far hlo _).far hlo _).far hlo _).mono (by omega), (((BY.out.setCell (Nat.le_succ _) _).setCell (Nat.le_succ _) _).setCell (Nat.le_succ _) _).setCell (Nat.le_succ _) _⟩
end
end Go.Proofs.YtiadbiiiikhfaaaGreatDoor

namespace Go.Proofs.YtiadbiiiikhfaaaGreatDoor
open Go.RowKit Go.Lib

/-- A store that has one lock more, at place k, and, for the cell of a key and start, another, at place q. -/
def reputS (S : Sto) (k q : Nat) (a s pr un va : Int) : Sto := ⟨(unlC S.c a s S.nc).length + 1, insF (fun p => (unlC S.c a s S.nc).flatten.getD p 0) 3 (unlC S.c a s S.nc).length q [a, s, va], S.nl + 1, insF S.l 5 S.nl k [a, s, 1, pr, un], S.nw, S.k⟩
theorem OwnM.capM {w : World} {B : Nat} {e : TypeId} {m n : Nat} {ao : Option Addr} {cp : Nat} {L : List Int} (h : OwnM w B e m (.slice ao n cp) n L) : n ≤ cp := by
 rcases h.2 with ⟨q, e⟩ | ⟨g, cap, cur, q, _, _, hn, _⟩
 ·cases q; exact Nat.le_refl _
 ·cases q; exact hn
theorem insF_flat {F G : Nat → Int} {n q : Nat} {xs : List Int} (h : ∀ p, p < n * 3 → F p = G p) (hq : q ≤ n) : ∀ p, p < (n + 1) * 3 → (nums F (q * 3) ++ xs ++ nums (fun p => F (q * 3 + p)) ((n - q) * 3)).getD p 0 = insF G 3 n q xs p := by
 intro p _
 unfold insF
 congr 1
 congr 1
 ·congr 1
  exact List.map_congr_left (fun i hi => h i (by have := List.mem_range.1 hi; omega))
 ·exact List.map_congr_left (fun i hi => h _ (by have := List.mem_range.1 hi; omega))
theorem placeC_same {F G : Nat → Int} {n q : Nat} {a s : Int} (h : ∀ p, p < n * 3 → F p = G p) (hq : placeAt (aheadC F a s) n q) : placeAt (aheadC G a s) n q := by
 obtain ⟨h1, h2, h3⟩ := hq
 refine ⟨h1, fun i hi => ?_, fun hi => ?_⟩
 ·have := h2 i hi
  unfold aheadC at this ⊢
  rwa [h _ (by omega), h _ (by omega)] at this
 ·have := h3 hi
  unfold aheadC at this ⊢
  rwa [h _ (by omega), h _ (by omega)] at this
set_option maxRecDepth 100000 in
set_option maxHeartbeats 16000000 in
theorem l3Pre_reput (S : Sto) (b : Nat) (v0 v1 v2 : Value) (a s pr un va : Int) (k q j : Nat) (w : World) (h : Lies w b S v0 v1 v2) (hz : storeF S = 0) (hi : FirstAt (writeIs S.k a s) S.nw (-1)) (hm : ¬ newerP S.k S.nw a s) (hl : FirstAt (lockIs S.l a) S.nl (-1)) (hc : FirstAt (cellIs S.c a s) S.nc (j : Int)) (hf : S.nl < 200) (hk : placeAt (aheadL S.l a) S.nl k) (hq : placeAt (aheadC (fun p => (unlC S.c a s S.nc).flatten.getD p 0) a s) (unlC S.c a s S.nc).length q) :
  Calls Tryz.prog 45 #[.pointer (some ⟨b, 0, none⟩), .agg #[.int .i64 a, .int .i64 s, .int .i64 1, .int .i64 pr, .int .i64 un], .int .i64 va] w (ResStoK w 0 (reputS S k q a s pr un va)) := by
 have hjn : j < S.nc := hc.at.1
 have hone : Hid ((unlC S.c a s S.nc).length = S.nc - 1 ∧ ∀ p, p < (S.nc - 1) * 3 → (unlC S.c a s S.nc).flatten.getD p 0 = if p < j * 3 then S.c p else S.c (p + 3)) := selD_one (F := S.c) (m := 3) (D := goneK a s) (j := j) (goneK_iff.2 hc.at.2.1) S.nc hjn (fun i hi' hne => goneK_not (fun q => hne (cell_once (storeF_zero hz).2.1 hi' hjn q hc.at.2.1)))
 have HJ : Hid (FirstAt (lockIs S.l a) S.nl (-1) ∧ FirstAt (cellIs S.c a s) S.nc (j : Int)) := ⟨hl, hc⟩
 have HK : Hid (placeAt (aheadL S.l a) S.nl k ∧ placeAt (aheadC (fun p => (unlC S.c a s S.nc).flatten.getD p 0) a s) (unlC S.c a s S.nc).length q) := ⟨hk, hq⟩
 have dn : decide ((200 : Int) ≤ (S.nl : Int)) = false := decide_eq_false (by omega)
 clear hl hc hk hq hf
 obtain ⟨a0, c0, a1, c1, a2, c2, rfl, rfl, rfl⟩ := h.2.form
 have HE : Hid (PrS w b S (.slice a0 S.nc c0) (.slice a1 S.nl c1) (.slice a2 S.nw c2) a s 1 pr un ((w.alloc (.cells #[.int .i64 a, .int .i64 s, .int .i64 1, .int .i64 pr, .int .i64 un] 40)).alloc (.cells #[.int .i64 0, .slice none 0 0, .slice none 0 0, .slice none 0 0] 32))) := by
  refine ⟨(LkE.new w a s 1 pr un _).later (below_alloc _ _), ?_, (h.later (below_alloc _ _)).later (below_alloc _ _)⟩
  have := Blk4.new (w.alloc (.cells #[.int .i64 a, .int .i64 s, .int .i64 1, .int .i64 pr, .int .i64 un] 40)) (.int .i64 0) (.slice none 0 0) (.slice none 0 0) (.slice none 0 0) 32
  rwa [World.size_alloc] at this
 obtain ⟨⟨hn0, hn1, hn2⟩, _⟩ := storeF_zero hz
 clear h hz
 go_enter Tryz.func45, Tryz.ntmps45
 go_wp2_with fail
 generalize (w.alloc (.cells #[.int .i64 a, .int .i64 s, .int .i64 1, .int .i64 pr, .int .i64 un] 40)).alloc (.cells #[.int .i64 0, .slice none 0 0, .slice none 0 0, .slice none 0 0] 32) = w1 at HE ⊢
 refine (l2Write_is S b _ _ _ a s (-1) _ HE.out.2.2 hn2 hi).mono ?_
 rintro e w' ⟨rfl, rfl⟩
 obtain ⟨⟨⟨y0, y1, y2, y3, y4⟩, _⟩, ⟨⟨r0, r1, r2, r3⟩, f0, f1, f2, f3⟩, ⟨p0, p1, p2⟩, pst⟩ := HE.out
 unfold ResStoK
 clear pst hi
 have HM : Hid (¬ newerP S.k S.nw a s) := hm
 clear hm
 go_wp2_with fail
 refine (l3Newer_is S b _ _ _ a s _ HE.out.2.2 hn2 false ⟨fun q => (Bool.false_ne_true q).elim, fun q => (HM.out q).elim⟩).mono ?_
 rintro e w3 ⟨rfl, q3⟩
 have HE : Hid (PrS w b S (.slice a0 S.nc c0) (.slice a1 S.nl c1) (.slice a2 S.nw c2) a s 1 pr un w3) := HE.out.later q3
 clear q3 y0 y1 y2 y3 y4 r0 r1 r2 r3 f0 f1 f2 f3 p0 p1 p2 HM
 obtain ⟨⟨⟨y0, y1, y2, y3, y4⟩, _⟩, ⟨⟨r0, r1, r2, r3⟩, f0, f1, f2, f3⟩, ⟨p0, p1, p2⟩, pst⟩ := HE.out
 clear pst
 go_wp2_with fail
 refine (l2Copy_own S _ _ _ 0 _ HE.out.2.2.2 ⟨by omega, by omega, by omega⟩).mono ?_
 rintro e w4 ⟨d0, e0, d1, e1, d2, e2, rfl, o2, q2⟩
 have g0 := own_cap o2.1.1
 have g1 := own_cap o2.1.2.1
 have g2 := own_cap o2.1.2.2
 obtain ⟨s2, fr2, ap2⟩ := o2.all
 have hz3 : Hid (w.heap.size + 2 ≤ w3.heap.size) := HE.out.2.1.lt
 have HS : Hid ((St w4 w3.heap.size S (.slice d0 S.nc e0) (.slice d1 S.nl e1) (.slice d2 S.nw e2) ∧ FreeS w4 S (.slice d0 S.nc e0) (.slice d1 S.nl e1) (.slice d2 S.nw e2)) ∧ ApartD S (.slice d0 S.nc e0) (.slice d1 S.nl e1) (.slice d2 S.nw e2)) := ⟨⟨s2, fr2⟩, ap2⟩
 have HOS : Hid (OwnS w4 w3.heap.size S (.slice d0 S.nc e0) (.slice d1 S.nl e1) (.slice d2 S.nw e2)) := o2
 have HE : Hid (PrS w b S (.slice a0 S.nc c0) (.slice a1 S.nl c1) (.slice a2 S.nw c2) a s 1 pr un (w4.alloc (.cells #[.slice d0 S.nc e0, .slice d1 S.nl e1, .slice d2 S.nw e2] 28)) ∧ Blk3 (w4.alloc (.cells #[.slice d0 S.nc e0, .slice d1 S.nl e1, .slice d2 S.nw e2] 28)) w4.heap.size (.slice d0 S.nc e0) (.slice d1 S.nl e1) (.slice d2 S.nw e2)) := ⟨(HE.out.later q2).later (below_alloc _ _), Blk3.new _ _ _ _ _⟩
 have hz4 : Hid (w3.heap.size ≤ w4.heap.size) := q2.size
 have B45 : Hid (Below w4.heap.size w4 (w4.alloc (.cells #[.slice d0 S.nc e0, .slice d1 S.nl e1, .slice d2 S.nw e2] 28))) := below_alloc _ _
 clear o2 s2 fr2 ap2 q2 y0 y1 y2 y3 y4 r0 r1 r2 r3 f0 f1 f2 f3 p0 p1 p2
 have HO : Hid (Blk3 (w4.alloc (.cells #[.slice d0 S.nc e0, .slice d1 S.nl e1, .slice d2 S.nw e2] 28)) w4.heap.size (.slice d0 S.nc e0) (.slice d1 S.nl e1) (.slice d2 S.nw e2)) := HE.out.2
 have HE : Hid (PrS w b S (.slice a0 S.nc c0) (.slice a1 S.nl c1) (.slice a2 S.nw c2) a s 1 pr un (w4.alloc (.cells #[.slice d0 S.nc e0, .slice d1 S.nl e1, .slice d2 S.nw e2] 28))) := HE.out.1
 obtain ⟨⟨⟨y0, y1, y2, y3, y4⟩, _⟩, ⟨⟨r0, r1, r2, r3⟩, f0, f1, f2, f3⟩, ⟨p0, p1, p2⟩, pst⟩ := HE.out
 go_wp2_with fail
 clear y0 y1 y2 y3 y4 r0 r1 r2 r3 f0 f1 f2 f3 p0 p1 p2 pst
 generalize w4.alloc (.cells #[.slice d0 S.nc e0, .slice d1 S.nl e1, .slice d2 S.nw e2] 28) = w5 at HE HO B45 ⊢
 obtain ⟨⟨⟨y0, y1, y2, y3, y4⟩, _⟩, ⟨⟨r0, r1, r2, r3⟩, f0, f1, f2, f3⟩, ⟨p0, p1, p2⟩, pst⟩ := HE.out
 obtain ⟨⟨t0, t1, t2⟩, _⟩ := HO.out
 refine (l2Lock_is S b _ _ _ a (-1) _ HE.out.2.2 hn1 HJ.out.1).mono ?_
 rintro e w' ⟨rfl, rfl⟩
 clear pst
 go_wp2_with fail
 refine (cellAt_is S b _ _ _ a s _ _ HE.out.2.2 hn0 HJ.out.2).mono ?_
 rintro e w'' ⟨rfl, rfl⟩
 clear HJ
 go_wp2_with fail
 refine (l2AddLock_any S.nl S.l d1 e1 w3.heap.size a s 1 pr un _ (HS.out.1.1.2.1.later B45.out) (by omega) g1).mono ?_
 rintro e w7 ⟨k', y1', z1', hk', rfl, O7, q7⟩
 have HO7 : Hid (Blk3 w7 w4.heap.size (.slice d0 S.nc e0) (.slice d1 S.nl e1) (.slice d2 S.nw e2)) := HO.out.later q7
 have HE7 : Hid (PrS w b S (.slice a0 S.nc c0) (.slice a1 S.nl c1) (.slice a2 S.nw c2) a s 1 pr un w7) := HE.out.later q7
 have B47 : Hid (Below w4.heap.size w4 w7) := B45.out.trans (q7.mono B45.out.size)
 have O7' : Hid (OwnM w7 w''.heap.size 40 5 (.slice y1' (S.nl + 1) z1') (S.nl + 1) (nums S.l (k' * 5) ++ [a, s, 1, pr, un] ++ nums (fun p => S.l (k' * 5 + p)) ((S.nl - k') * 5))) := O7
 have hk1 : Hid (placeAt (aheadL S.l a) S.nl k') := hk'
 have hz5 : Hid (w4.heap.size < w''.heap.size) := HO.out.lt
 have hz7 : Hid (w''.heap.size ≤ w7.heap.size) := q7.size
 clear O7 q7 hk' y0 y1 y2 y3 y4 r0 r1 r2 r3 f0 f1 f2 f3 p0 p1 p2 t0 t1 t2 HE HO
 obtain ⟨⟨t0, t1, t2⟩, ft0, ft1, ft2⟩ := HO7.out
 go_upto_region 13 with fail
 have hwl : w.heap.size + 1 < w4.heap.size := by have := hz3.out; have := hz4.out; omega
 have hks : ∀ i, i ≠ w4.heap.size → (w7.setCell ⟨w4.heap.size, 1, none⟩ (.slice y1' (S.nl + 1) z1')).heap[i]? = w7.heap[i]? := fun i hi => Below.heap_setCell w7 ⟨w4.heap.size, 1, none⟩ _ i hi
 have YZ : Hid (LkE w a s 1 pr un (w7.setCell ⟨w4.heap.size, 1, none⟩ (.slice y1' (S.nl + 1) z1'))) := ⟨⟨(cell_kept (hks _ (by omega)) 0).trans HE7.out.1.1.1, (cell_kept (hks _ (by omega)) 1).trans HE7.out.1.1.2.1, (cell_kept (hks _ (by omega)) 2).trans HE7.out.1.1.2.2.1, (cell_kept (hks _ (by omega)) 3).trans HE7.out.1.1.2.2.2.1, (cell_kept (hks _ (by omega)) 4).trans HE7.out.1.1.2.2.2.2⟩, HE7.out.1.2.setCell (by show w.heap.size ≤ w4.heap.size; omega) _⟩
 have RZ : Hid (Blk4 (w7.setCell ⟨w4.heap.size, 1, none⟩ (.slice y1' (S.nl + 1) z1')) (w.heap.size + 1) (.int .i64 0) (.slice none 0 0) (.slice none 0 0) (.slice none 0 0)) := HE7.out.2.1.kept (hks _ (by omega))
 have TZ : Hid (Blk3 (w7.setCell ⟨w4.heap.size, 1, none⟩ (.slice y1' (S.nl + 1) z1')) w4.heap.size (.slice d0 S.nc e0) (.slice y1' (S.nl + 1) z1') (.slice d2 S.nw e2)) := HO7.out.set1 _
 have B4Z : Hid (Below w4.heap.size w4 (w7.setCell ⟨w4.heap.size, 1, none⟩ (.slice y1' (S.nl + 1) z1'))) := B47.out.setCell (Nat.le_refl _) _
 have OZ : Hid (OwnM (w7.setCell ⟨w4.heap.size, 1, none⟩ (.slice y1' (S.nl + 1) z1')) w''.heap.size 40 5 (.slice y1' (S.nl + 1) z1') (S.nl + 1) (nums S.l (k' * 5) ++ [a, s, 1, pr, un] ++ nums (fun p => S.l (k' * 5 + p)) ((S.nl - k') * 5))) := O7'.out.far hz5.out _
 have zZ : Hid (w''.heap.size ≤ (w7.setCell ⟨w4.heap.size, 1, none⟩ (.slice y1' (S.nl + 1) z1')).heap.size) := by
  have := hz7.out
  unfold Hid
  simpa [World.setCell] using this
 generalize (w7.setCell ⟨w4.heap.size, 1, none⟩ (.slice y1' (S.nl + 1) z1')) = X0 at YZ RZ TZ B4Z OZ zZ ⊢
 clear hks t0 t1 t2 ft0 ft1 ft2 HO7 HE7 B47 O7' B45
 have hobL : Hid (∀ q, (Value.slice y1' (S.nl + 1) z1').ownBlock = some q → w''.heap.size ≤ q ∧ q < X0.heap.size) := OZ.out.block
 obtain ⟨⟨y0, y1, y2, y3, y4⟩, _⟩ := YZ.out
 obtain ⟨⟨r0, r1, r2, r3⟩, f0, f1, f2, f3⟩ := RZ.out
 obtain ⟨⟨t0, t1, t2⟩, ft0, ft1, ft2⟩ := TZ.out
 have zX0 : w4.heap.size < X0.heap.size := TZ.out.lt
 obtain ⟨i0, hi0, hz0, hz1, hz2⟩ := info_parts info_Cell
 obtain ⟨cg, co, hd0, _⟩ := HS.out.1.1.1.at (k := 0) (by omega)
 subst hd0
 have hw1 : IntKind.i64.wrap ((j : Int) + 1) = ((j + 1 : Nat) : Int) := by simp [IntKind.wrap, IntKind.bits, IntKind.signed]; omega
 have hj1 : j + 1 ≤ S.nc := hjn
 have hj2 : j + 1 ≤ e0 := by omega
 have hj3 : j ≤ e0 := by omega
 have hj4 : j ≤ S.nc := by omega
 have hq1 : (0 : Int) ≤ (j : Int) + 1 := by omega
 have hq2 : (j : Int) + 1 ≤ (S.nc : Int) := by omega
 have hq3 : (0 : Int) ≤ (j : Int) + 1 ∧ (j : Int) + 1 ≤ (S.nc : Int) := ⟨hq1, hq2⟩
 obtain ⟨A, hA⟩ : ∃ A, (if e0 = j + 1 then (some ⟨cg, co, none⟩ : Option Addr) else some ⟨cg, co + (j + 1) * 3, none⟩) = A := ⟨_, rfl⟩
 have F0 : X0.drew.cell? ⟨w4.heap.size, 0, none⟩ = some (.slice (some ⟨cg, co, none⟩) S.nc e0) := TZ.out.1.1
 have F1 : (X0.alloc (.cells #[] 93)).drew.cell? ⟨w4.heap.size, 0, none⟩ = some (.slice (some ⟨cg, co, none⟩) S.nc e0) := (TZ.out.alloc _).1.1
 have F1d : (X0.alloc (.cells #[] 93)).cell? ⟨w4.heap.size, 0, none⟩ = some (.slice (some ⟨cg, co, none⟩) S.nc e0) := (TZ.out.alloc _).1.1
 have F0d : X0.cell? ⟨w4.heap.size, 0, none⟩ = some (.slice (some ⟨cg, co, none⟩) S.nc e0) := TZ.out.1.1
 have O0 : Hid (OwnM (X0.alloc (.cells #[] 93)).drew X0.heap.size 93 3 (.slice (some ⟨X0.heap.size, 0, none⟩) 0 0) 0 []) := OwnM.lit0 X0.drew X0.heap.size _ _ rfl
 have C0 : Hid (Row (X0.alloc (.cells #[] 93)).drew w3.heap.size 3 S.nc S.c (.slice (some ⟨cg, co, none⟩) S.nc e0)) := ((HS.out.1.1.1.later B4Z.out).drewN 1).alloc _
 go_upto_region 15 with fail
 clear t0 t1 t2 ft0 ft1 ft2 r0 r1 r2 r3 f0 f1 f2 f3 y0 y1 y2 y3 y4
 refine wp_regionZ 13 (S := fun X => X.cell? ⟨w4.heap.size, 0, none⟩ = some (.slice (some ⟨cg, co, none⟩) S.nc e0)) (by kernel_rfl) F0 (fun hS => ?_)
 refine wpAnyZ_take (i := 1) (v := ?_) rfl (by kernel_rfl) (by kernel_rfl) (by kernel_rfl) (by kernel_rfl) (fun _ _ _ h => h) (Or.inl ⟨by kernel_rfl, ?_⟩) hS ?_
 rotate_left
 ·intro wx hx
  try dsimp only at hx
  go_simp
  try with_reducible rfl
 refine wpAnyZ_take (i := 2) (v := ?_) rfl (by kernel_rfl) (by kernel_rfl) (by kernel_rfl) (by kernel_rfl) (fun _ _ _ h => h) (Or.inl ⟨by kernel_rfl, ?_⟩) hS ?_
 rotate_left
 ·intro wx hx
  try dsimp only at hx
  go_simp
  try with_reducible rfl
 refine wpAnyZ_take (i := 3) (v := ?_) rfl (by kernel_rfl) (by kernel_rfl) (by kernel_rfl) (by kernel_rfl) (fun _ _ _ h => h) (Or.inl ⟨by kernel_rfl, ?_⟩) hS ?_
 rotate_left
 ·intro wx hx
  try dsimp only at hx
  go_simp
  try with_reducible rfl
 refine wpAnyZ_take (i := 4) (v := ?_) rfl (by kernel_rfl) (by kernel_rfl) (by kernel_rfl) (by kernel_rfl) (fun _ _ _ h => h) (Or.inl ⟨by kernel_rfl, ?_⟩) hS ?_
 rotate_left
 ·intro wx hx
  try dsimp only at hx
  go_simp
  try with_reducible rfl
 refine wpAnyZ_take (i := 6) (v := ?_) rfl (by kernel_rfl) (by kernel_rfl) (by kernel_rfl) (by kernel_rfl) (fun _ _ _ h => h) (Or.inl ⟨by kernel_rfl, ?_⟩) hS ?_
 rotate_left
 ·intro wx hx
  try dsimp only at hx
  go_simp
  try with_reducible rfl
 refine wpAnyZ_take (i := 7) (v := ?_) rfl (by kernel_rfl) (by kernel_rfl) (by kernel_rfl) (by kernel_rfl) (fun _ _ _ h => h) (Or.inl ⟨by kernel_rfl, ?_⟩) hS ?_
 rotate_left
 ·intro wx hx
  try dsimp only at hx
  go_simp
  try with_reducible rfl
 refine wpAnyZ_take (i := 8) (v := ?_) rfl (by kernel_rfl) (by kernel_rfl) (by kernel_rfl) (by kernel_rfl) (fun _ _ _ h => h) (Or.inl ⟨by kernel_rfl, ?_⟩) hS ?_
 rotate_left
 ·intro wx hx
  try dsimp only at hx
  go_simp
  try with_reducible rfl
 refine wpAnyZ_take (i := 9) (v := ?_) rfl (by kernel_rfl) (by kernel_rfl) (by kernel_rfl) (by kernel_rfl) (fun _ _ _ h => h) (Or.inl ⟨by kernel_rfl, ?_⟩) hS ?_
 rotate_left
 ·intro wx hx
  try dsimp only at hx
  go_simp
  try with_reducible rfl
 refine wpAnyZ_take (i := 10) (v := ?_) rfl (by kernel_rfl) (by kernel_rfl) (by kernel_rfl) (by kernel_rfl) (fun _ _ _ h => h) (Or.inl ⟨by kernel_rfl, ?_⟩) hS ?_
 rotate_left
 ·intro wx hx
  try dsimp only at hx
  go_simp
  try with_reducible rfl
 clear hS
 refine wpAnyZ_one 0 (by kernel_rfl) rfl (fun K hK => ?_)
 go_simp
 refine hK.out _ _ F1 (fun _ => ?_)
 clear hK K
 refine wpAnyZ_one 5 (by kernel_rfl) rfl (fun K hK => ?_)
 refine step_app 93 i0 (.agg #[.int .i64 0, .int .i64 0, .int .i64 0]) 3 24 (by rfl) _ _ 24 (by rfl) Tryz.underlying24 hi0 hz0 hz1 hz2 rfl (by omega) (by omega) _ X0.heap.size 0 [] (.slice (some ⟨X0.heap.size, 0, none⟩) 0 0) (by rfl) O0.out w3.heap.size j S.c (.slice (some ⟨cg, co, none⟩) j e0) (by rfl) (C0.out.head hj4 e0) (by omega) (by show X0.heap.size ≤ (World.alloc X0 _).heap.size; simp) ?_
 intro ao5 cp5 w7 O7 G7
 rw [Nat.zero_add, List.nil_append] at O7
 rw [show (0 : Nat) + j = j from Nat.zero_add j]
 have F2 : w7.cell? ⟨w4.heap.size, 0, none⟩ = some (.slice (some ⟨cg, co, none⟩) S.nc e0) := G7.cell F1 (fun q => by simp [Value.ownBlock] at q; omega)
 refine hK.out _ _ F2 (fun _ => ?_)
 clear hK K
 have C7 : Hid (Row w7 w3.heap.size 3 S.nc S.c (.slice (some ⟨cg, co, none⟩) S.nc e0)) := C0.out.turned G7 (fun h0 k hk q => by
  have h1 := (HS.out.1.1.1.lt h0 k hk).2
  rw [q] at hk
  simp [Value.ownBlock] at hk q
  omega)
 refine wpAnyZ_one 11 (by kernel_rfl) rfl (fun K hK => ?_)
 refine step_app 93 i0 (.agg #[.int .i64 0, .int .i64 0, .int .i64 0]) 3 24 (by rfl) _ _ 24 (by rfl) Tryz.underlying24 hi0 hz0 hz1 hz2 rfl (by omega) (by omega) _ X0.heap.size j (nums S.c (j * 3)) (.slice ao5 j cp5) (by rfl) O7 w3.heap.size (S.nc - (j + 1)) (fun p => S.c ((j + 1) * 3 + p)) (.slice A (S.nc - (j + 1)) (e0 - (j + 1))) (by rfl) (hA ▸ C7.out.tailR (j + 1) g0) (by omega) (Nat.le_trans (by show X0.heap.size ≤ (World.alloc X0 _).heap.size; simp) G7.size) ?_
 intro ao6 cp6 wC O8 G8
 have keep : ∀ q, q < X0.heap.size → wC.heap[q]? = X0.heap[q]? := fun q hq => by
  have h1 : (X0.alloc (.cells #[] 93)).drew.heap[q]? = X0.heap[q]? := (below_alloc X0 (.cells #[] 93)).block q hq
  have h2 : w7.heap[q]? = (X0.alloc (.cells #[] 93)).drew.heap[q]? := G7.block q (by show q < (World.alloc X0 _).heap.size; simp; omega) (fun e => by simp [Value.ownBlock] at e; omega)
  have h3 : wC.heap[q]? = w7.heap[q]? := G8.block q (Nat.lt_of_lt_of_le (by show q < (World.alloc X0 _).heap.size; simp; omega) G7.size) (fun e => by have := (O7.block q e.symm).1; omega)
  exact h3.trans (h2.trans h1)
 have szC : X0.heap.size ≤ wC.heap.size := Nat.le_trans (Nat.le_trans (by show X0.heap.size ≤ (World.alloc X0 _).heap.size; simp) G7.size) G8.size
 have osC : wC.os = X0.os ∧ wC.tape = X0.tape ∧ wC.output = X0.output := ⟨G8.os.trans G7.os, G8.tape.trans G7.tape, G8.output.trans G7.output⟩
 have TC : Blk3 wC w4.heap.size (.slice (some ⟨cg, co, none⟩) S.nc e0) (.slice y1' (S.nl + 1) z1') (.slice d2 S.nw e2) := TZ.out.kept (keep _ zX0)
 refine hK.out _ _ TC.1.1 (fun hS => ?_)
 clear hK K
 refine wpAnyZ_take (i := 12) (v := ?_) rfl (by kernel_rfl) (by kernel_rfl) (by kernel_rfl) (by kernel_rfl) (fun _ _ _ h => h) (Or.inl ⟨by kernel_rfl, ?_⟩) hS ?_
 rotate_left
 ·intro wx hx
  try dsimp only at hx
  go_simp
  try with_reducible rfl
 obtain ⟨⟨t0, t1, t2⟩, ft0, ft1, ft2⟩ := TC
 clear hS
 refine wpAnyZ_last (by kernel_rfl) rfl (fun K hK => ?_)
 go_simp
 refine hK.out _ _ ?_
 clear hK K
 have TC : Blk3 wC w4.heap.size (.slice (some ⟨cg, co, none⟩) S.nc e0) (.slice y1' (S.nl + 1) z1') (.slice d2 S.nw e2) := TZ.out.kept (keep _ zX0)
 have BC : Below X0.heap.size X0 wC := ⟨osC.1, osC.2.1, osC.2.2, szC, keep⟩
 have keepY : ∀ i, i < X0.heap.size → i ≠ w4.heap.size → (wC.setCell ⟨w4.heap.size, 0, none⟩ (.slice ao6 (j + (S.nc - (j + 1))) cp6)).heap[i]? = X0.heap[i]? := fun i hi hne => (Below.heap_setCell wC ⟨w4.heap.size, 0, none⟩ _ i hne).trans (keep i hi)
 have hx0 : w4.heap.size < X0.heap.size := zX0
 have YX1 : Hid (LkE w a s 1 pr un (wC.setCell ⟨w4.heap.size, 0, none⟩ (.slice ao6 (j + (S.nc - (j + 1))) cp6))) := ⟨⟨(cell_kept (keepY _ (by omega) (by omega)) 0).trans YZ.out.1.1, (cell_kept (keepY _ (by omega) (by omega)) 1).trans YZ.out.1.2.1, (cell_kept (keepY _ (by omega) (by omega)) 2).trans YZ.out.1.2.2.1, (cell_kept (keepY _ (by omega) (by omega)) 3).trans YZ.out.1.2.2.2.1, (cell_kept (keepY _ (by omega) (by omega)) 4).trans YZ.out.1.2.2.2.2⟩, (YZ.out.2.trans (BC.mono YZ.out.2.size)).setCell (by show w.heap.size ≤ w4.heap.size; omega) _⟩
 have RX1 : Hid (Blk4 (wC.setCell ⟨w4.heap.size, 0, none⟩ (.slice ao6 (j + (S.nc - (j + 1))) cp6)) (w.heap.size + 1) (.int .i64 0) (.slice none 0 0) (.slice none 0 0) (.slice none 0 0)) := RZ.out.kept (keepY _ (by omega) (by omega))
 have TX1 : Hid (Blk3 (wC.setCell ⟨w4.heap.size, 0, none⟩ (.slice ao6 (j + (S.nc - (j + 1))) cp6)) w4.heap.size (.slice ao6 (j + (S.nc - (j + 1))) cp6) (.slice y1' (S.nl + 1) z1') (.slice d2 S.nw e2)) := TC.set0 _
 have B4X1 : Hid (Below w4.heap.size w4 (wC.setCell ⟨w4.heap.size, 0, none⟩ (.slice ao6 (j + (S.nc - (j + 1))) cp6))) := (B4Z.out.trans (BC.mono (Nat.le_of_lt zX0))).setCell (Nat.le_refl _) _
 have OX1 : Hid (OwnM (wC.setCell ⟨w4.heap.size, 0, none⟩ (.slice ao6 (j + (S.nc - (j + 1))) cp6)) w''.heap.size 40 5 (.slice y1' (S.nl + 1) z1') (S.nl + 1) (nums S.l (k' * 5) ++ [a, s, 1, pr, un] ++ nums (fun p => S.l (k' * 5 + p)) ((S.nl - k') * 5))) := (OZ.out.later BC).far hz5.out _
 have OC : Hid (OwnM (wC.setCell ⟨w4.heap.size, 0, none⟩ (.slice ao6 (j + (S.nc - (j + 1))) cp6)) X0.heap.size 93 3 (.slice ao6 (j + (S.nc - (j + 1))) cp6) (j + (S.nc - (j + 1))) (nums S.c (j * 3) ++ nums (fun p => S.c ((j + 1) * 3 + p)) ((S.nc - (j + 1)) * 3))) := O8.far zX0 _
 have zX1 : Hid (w''.heap.size ≤ (wC.setCell ⟨w4.heap.size, 0, none⟩ (.slice ao6 (j + (S.nc - (j + 1))) cp6)).heap.size ∧ X0.heap.size ≤ (wC.setCell ⟨w4.heap.size, 0, none⟩ (.slice ao6 (j + (S.nc - (j + 1))) cp6)).heap.size) := by
  have h1 := zZ.out
  have h2 : X0.heap.size ≤ (wC.setCell ⟨w4.heap.size, 0, none⟩ (.slice ao6 (j + (S.nc - (j + 1))) cp6)).heap.size := by simpa [World.setCell] using szC
  exact ⟨by omega, h2⟩
 have hcap6 : j + (S.nc - (j + 1)) ≤ cp6 := O8.capM
 generalize wC.setCell ⟨w4.heap.size, 0, none⟩ (.slice ao6 (j + (S.nc - (j + 1))) cp6) = X1 at YX1 B4X1 RX1 TX1 OX1 OC zX1 ⊢
 clear YZ B4Z RZ TZ OZ F0 F1 F1d F0d F2 O0 C0 C7 O7 G7 O8 G8 keep keepY szC osC TC BC t0 t1 t2 ft0 ft1 ft2 zX0
 have YZ := YX1
 have B4Z := B4X1
 have RZ := RX1
 have TZ := TX1
 have OZ := OX1
 have zZ : Hid (w''.heap.size ≤ X1.heap.size) := zX1.out.1
 clear YX1 B4X1 RX1 TX1 OX1
 refine wpAnyZ_done (by kernel_rfl) ?_ _
 obtain ⟨⟨y0, y1, y2, y3, y4⟩, _⟩ := YZ.out
 obtain ⟨⟨r0, r1, r2, r3⟩, f0, f1, f2, f3⟩ := RZ.out
 obtain ⟨⟨t0, t1, t2⟩, ft0, ft1, ft2⟩ := TZ.out
 go_simp
 go_wp2_with fail
 have lenC0 : (nums S.c (j * 3) ++ nums (fun p => S.c ((j + 1) * 3 + p)) ((S.nc - (j + 1)) * 3)).length = (j + (S.nc - (j + 1))) * 3 := by
  rw [List.length_append, nums_length, nums_length]
  omega
 have RC : Hid (Row X1 w3.heap.size 3 (j + (S.nc - (j + 1))) (fun p => (nums S.c (j * 3) ++ nums (fun p => S.c ((j + 1) * 3 + p)) ((S.nc - (j + 1)) * 3)).getD p 0) (.slice ao6 (j + (S.nc - (j + 1))) cp6)) := (OC.out.own lenC0).row.1.mono (by have := hz4.out; have := hz5.out; have := zX1.out.2; omega)
 clear lenC0
 obtain ⟨FC, hFC⟩ : ∃ FC : Nat → Int, (fun p => (nums S.c (j * 3) ++ nums (fun p => S.c ((j + 1) * 3 + p)) ((S.nc - (j + 1)) * 3)).getD p 0) = FC := ⟨_, rfl⟩
 rw [hFC] at RC
 have HF : Hid (∀ p, p < (j + (S.nc - (j + 1))) * 3 → FC p = (unlC S.c a s S.nc).flatten.getD p 0) := fun p hp => by
  rw [← hFC]
  exact (roll_cells hjn p (by omega)).trans (hone.out.2 p (by omega)).symm
 clear hFC OC
 refine (l2AddCell_any (j + (S.nc - (j + 1))) (FC) ao6 cp6 w3.heap.size a s va _ (RC.out) (by omega) hcap6).mono ?_
 rintro e w9 ⟨q', y0', z0', hq', rfl, O9, q9⟩
 have hq1 : Hid (placeAt (aheadC (FC) a s) (j + (S.nc - (j + 1))) q') := hq'
 have R9 : Hid (Blk4 w9 (w.heap.size + 1) (.int .i64 0) (.slice none 0 0) (.slice none 0 0) (.slice none 0 0)) := RZ.out.later q9
 have T9 : Hid (Blk3 w9 w4.heap.size (.slice ao6 (j + (S.nc - (j + 1))) cp6) (.slice y1' (S.nl + 1) z1') (.slice d2 S.nw e2)) := TZ.out.later q9
 have B49 : Hid (Below w4.heap.size w4 w9) := B4Z.out.trans (q9.mono B4Z.out.size)
 have BW9 : Hid (Below w.heap.size w w9) := YZ.out.2.trans (q9.mono YZ.out.2.size)
 have OL9 : Hid (OwnM w9 w''.heap.size 40 5 (.slice y1' (S.nl + 1) z1') (S.nl + 1) (nums S.l (k' * 5) ++ [a, s, 1, pr, un] ++ nums (fun p => S.l (k' * 5 + p)) ((S.nl - k') * 5))) := OZ.out.later q9
 have OC9 : Hid (OwnM w9 X1.heap.size 93 3 (.slice y0' ((j + (S.nc - (j + 1))) + 1) z0') ((j + (S.nc - (j + 1))) + 1) (nums (FC) (q' * 3) ++ [a, s, va] ++ nums (fun p => (FC) (q' * 3 + p)) (((j + (S.nc - (j + 1))) - q') * 3))) := O9
 clear O9 q9 hq' y0 y1 y2 y3 y4 r0 r1 r2 r3 f0 f1 f2 f3 t0 t1 t2 ft0 ft1 ft2
 obtain ⟨⟨t0, t1, t2⟩, ft0, ft1, ft2⟩ := T9.out
 go_upto_region 17 with fail
 have hks : ∀ i, i ≠ w4.heap.size → (w9.setCell ⟨w4.heap.size, 0, none⟩ (.slice y0' ((j + (S.nc - (j + 1))) + 1) z0')).heap[i]? = w9.heap[i]? := fun i hi => Below.heap_setCell w9 ⟨w4.heap.size, 0, none⟩ _ i hi
 have RY : Blk4 (w9.setCell ⟨w4.heap.size, 0, none⟩ (.slice y0' ((j + (S.nc - (j + 1))) + 1) z0')) (w.heap.size + 1) (.int .i64 0) (.slice none 0 0) (.slice none 0 0) (.slice none 0 0) := R9.out.kept (hks _ (by omega))
 have TY : Blk3 (w9.setCell ⟨w4.heap.size, 0, none⟩ (.slice y0' ((j + (S.nc - (j + 1))) + 1) z0')) w4.heap.size (.slice y0' ((j + (S.nc - (j + 1))) + 1) z0') (.slice y1' (S.nl + 1) z1') (.slice d2 S.nw e2) := T9.out.set0 _
 have BY : Hid (Below w.heap.size w (w9.setCell ⟨w4.heap.size, 0, none⟩ (.slice y0' ((j + (S.nc - (j + 1))) + 1) z0'))) := BW9.out.setCell (by show w.heap.size ≤ w4.heap.size; omega) _
 have B4Y : Hid (Below w4.heap.size w4 (w9.setCell ⟨w4.heap.size, 0, none⟩ (.slice y0' ((j + (S.nc - (j + 1))) + 1) z0'))) := B49.out.setCell (Nat.le_refl _) _
 have OLY : Hid (OwnM (w9.setCell ⟨w4.heap.size, 0, none⟩ (.slice y0' ((j + (S.nc - (j + 1))) + 1) z0')) w''.heap.size 40 5 (.slice y1' (S.nl + 1) z1') (S.nl + 1) (nums S.l (k' * 5) ++ [a, s, 1, pr, un] ++ nums (fun p => S.l (k' * 5 + p)) ((S.nl - k') * 5))) := OL9.out.far hz5.out _
 have OCY : Hid (OwnM (w9.setCell ⟨w4.heap.size, 0, none⟩ (.slice y0' ((j + (S.nc - (j + 1))) + 1) z0')) X1.heap.size 93 3 (.slice y0' ((j + (S.nc - (j + 1))) + 1) z0') ((j + (S.nc - (j + 1))) + 1) (nums (FC) (q' * 3) ++ [a, s, va] ++ nums (fun p => (FC) (q' * 3 + p)) (((j + (S.nc - (j + 1))) - q') * 3))) := OC9.out.far (by show w4.heap.size < _; have := hz5.out; have := zZ.out; omega) _
 generalize (w9.setCell ⟨w4.heap.size, 0, none⟩ (.slice y0' ((j + (S.nc - (j + 1))) + 1) z0')) = w8 at RY TY BY B4Y OLY OCY ⊢
 clear hks t0 t1 t2 ft0 ft1 ft2 R9 T9 B49 BW9 OL9 OC9
 obtain ⟨⟨r0, r1, r2, r3⟩, f0, f1, f2, f3⟩ := RY
 obtain ⟨⟨t0, t1, t2⟩, _⟩ := TY
 obtain rfl : k' = k := hk1.out.one HK.out.1
 obtain rfl : q' = q := by
  have hh : placeAt (aheadC (fun p => (unlC S.c a s S.nc).flatten.getD p 0) a s) (j + (S.nc - (j + 1))) q' := placeC_same HF.out hq1.out
  have h3 := HK.out.2
  rw [show (unlC S.c a s S.nc).length = j + (S.nc - (j + 1)) by have : (unlC S.c a s S.nc).length = S.nc - 1 := hone.out.1; omega] at h3
  exact hh.one h3
 have lenL : (nums S.l (k' * 5) ++ [a, s, 1, pr, un] ++ nums (fun p => S.l (k' * 5 + p)) ((S.nl - k') * 5)).length = (S.nl + 1) * 5 := by
  have := hk1.out.1
  rw [List.length_append, List.length_append, nums_length, nums_length]
  simp only [List.length_cons, List.length_nil]
  omega
 have lenC : (nums (FC) (q' * 3) ++ [a, s, va] ++ nums (fun p => (FC) (q' * 3 + p)) (((j + (S.nc - (j + 1))) - q') * 3)).length = ((j + (S.nc - (j + 1))) + 1) * 3 := by
  have := hq1.out.1
  rw [List.length_append, List.length_append, nums_length, nums_length]
  simp only [List.length_cons, List.length_nil]
  omega
 have HL8 : Hid (Own _ _ _ _ _ _ _) := OLY.out.own lenL
 have HC8 : Hid (Own _ _ _ _ _ _ _) := OCY.out.own lenC
 clear lenL lenC
 go_wp2
 have hN : (unlC S.c a s S.nc).length = j + (S.nc - (j + 1)) := by
  have : (unlC S.c a s S.nc).length = S.nc - 1 := hone.out.1
  omega
 have rC : Own w8 w3.heap.size 93 3 (j + (S.nc - (j + 1)) + 1) (insF (fun p => (unlC S.c a s S.nc).flatten.getD p 0) 3 (j + (S.nc - (j + 1))) q' [a, s, va]) (.slice y0' (j + (S.nc - (j + 1)) + 1) z0') := (own_congr HC8.out (fun p hp => insF_flat (HF.out) hq1.out.1 p hp)).mono (by have := hz4.out; have := hz5.out; have := zX1.out; omega)
 have O8 : OwnS w8 w3.heap.size (reputS S k' q' a s pr un va) (.slice y0' (j + (S.nc - (j + 1)) + 1) z0') (.slice y1' (S.nl + 1) z1') (.slice d2 S.nw e2) := by
  unfold reputS
  rw [hN]
  exact ⟨⟨rC, HL8.out.mono (by have := hz4.out; have := hz5.out; omega), HOS.out.1.2.2.later B4Y.out⟩, fun q a b => by have h1 := (OCY.out.block q a).1; have h2 := (hobL.out q b).2; have := zX1.out; omega, fun q a b => by have h1 := (OCY.out.block q a).1; have h2 := (own_blk HOS.out.1.2.2 q b).2; have := zX1.out; have := hz5.out; omega, fun q a b => by have h1 := (hobL.out q a).1; have h2 := (own_blk HOS.out.1.2.2 q b).2; have := hz5.out; omega⟩
 have hlo : (w.heap.size + 1 : Nat) < w3.heap.size := by have := hz3.out; omega
 have hcl' : (reputS S k' q' a s pr un va).nc = j + (S.nc - (j + 1)) + 1 := by show (unlC S.c a s S.nc).length + 1 = _; rw [hN]
 refine bodyPost_ret (v := .agg #[.int .i64 0, .slice y0' (j + (S.nc - (j + 1)) + 1) z0', .slice y1' (S.nl + 1) z1', .slice d2 S.nw e2]) (by simp [results, Tryz.results45, go_sem, r0, r1, r2, r3]) rfl ?_
 refine ⟨y0', z0', y1', z1', d2, e2, ?_, ?_, (((BY.out.setCell (Nat.le_succ _) _).setCell (Nat.le_succ _) _).setCell (Nat.le_succ _) _).setCell (Nat.le_succ _) _⟩
 ·rw [hcl']; rfl
 ·rw [hcl']
  exact ((((O8.far hlo _).far hlo _).far hlo _).far hlo _).mono (by omega)
end Go.Proofs.YtiadbiiiikhfaaaGreatDoor

namespace Go.Proofs.YtiadbiiiikhfaaaGreatDoor
section
open Go.RowKit Go.Maps Go.Lib
/-- What saying comes to on a store without a fault: a code and a store. -/
def PreRes (S : Sto) (a s kd pr un va r : Int) (R : Sto) : Prop :=
 (lateP S.k S.nw a s ∧ r = 8 ∧ R = emptyS) ∨
 (¬ lateP S.k S.nw a s ∧ ∃ j : Nat, FirstAt (lockIs S.l a) S.nl j ∧ S.l (j * 5 + 1) = s ∧ r = 0 ∧ R = S) ∨
 (¬ lateP S.k S.nw a s ∧ ∃ j : Nat, FirstAt (lockIs S.l a) S.nl j ∧ S.l (j * 5 + 1) ≠ s ∧ r = 7 ∧ R = emptyS) ∨
 (¬ lateP S.k S.nw a s ∧ FirstAt (lockIs S.l a) S.nl (-1) ∧ ∃ hv, FirstAt (cellIs S.c a s) S.nc hv ∧ (200 ≤ S.nl ∨ kd = 1 ∧ hv = -1 ∧ 200 ≤ S.nc) ∧ r = 2 ∧ R = emptyS) ∨
 (¬ lateP S.k S.nw a s ∧ FirstAt (lockIs S.l a) S.nl (-1) ∧ S.nl < 200 ∧ kd ≠ 1 ∧ ∃ hv k, FirstAt (cellIs S.c a s) S.nc hv ∧ placeAt (aheadL S.l a) S.nl k ∧ r = 0 ∧ R = lockS S k a s kd pr un) ∨
 (¬ lateP S.k S.nw a s ∧ FirstAt (lockIs S.l a) S.nl (-1) ∧ S.nl < 200 ∧ kd = 1 ∧ FirstAt (cellIs S.c a s) S.nc (-1) ∧ S.nc < 200 ∧ ∃ k q, placeAt (aheadL S.l a) S.nl k ∧ placeAt (aheadC S.c a s) S.nc q ∧ r = 0 ∧ R = putS S k q a s pr un va) ∨
 (¬ lateP S.k S.nw a s ∧ FirstAt (lockIs S.l a) S.nl (-1) ∧ S.nl < 200 ∧ kd = 1 ∧ ∃ j k q : Nat, FirstAt (cellIs S.c a s) S.nc j ∧ placeAt (aheadL S.l a) S.nl k ∧ placeAt (aheadC (fun p => (unlC S.c a s S.nc).flatten.getD p 0) a s) (unlC S.c a s S.nc).length q ∧ r = 0 ∧ R = reputS S k q a s pr un va)
theorem notLate {S : Sto} {a s : Int} (h : ¬ lateP S.k S.nw a s) : FirstAt (writeIs S.k a s) S.nw (-1) ∧ ¬ newerP S.k S.nw a s := by
 refine ⟨?_, fun q => h (lateP_iff.2 (Or.inr q))⟩
 obtain ⟨i, hi⟩ := FirstAt.get (writeIs S.k a s) S.nw
 rcases hi with ⟨rfl, hn⟩ | ⟨i, hi, rfl, hp, hq⟩
 ·exact Or.inl ⟨rfl, hn⟩
 ·exact absurd (lateP_iff.2 (Or.inl ⟨i, first_w (Or.inr ⟨i, hi, rfl, hp, hq⟩)⟩)) h
theorem l3Pre_own (S : Sto) (b : Nat) (v0 v1 v2 : Value) (a s kd pr un va r : Int) (R : Sto) (w : World) (h : Lies w b S v0 v1 v2) (hz : storeF S = 0) (hA : PreRes S a s kd pr un va r R) :
  Calls Tryz.prog 45 #[.pointer (some ⟨b, 0, none⟩), .agg #[.int .i64 a, .int .i64 s, .int .i64 kd, .int .i64 pr, .int .i64 un], .int .i64 va] w (ResStoK w r R) := by
 rcases hA with ⟨h1, rfl, rfl⟩ | ⟨h1, j, h2, h3, rfl, rfl⟩ | ⟨h1, j, h2, h3, rfl, rfl⟩ | ⟨h1, h2, hv, h3, h4, rfl, rfl⟩ | ⟨h1, h2, h3, h4, hv, k, h5, h6, rfl, rfl⟩ | ⟨h1, h2, h3, rfl, h5, h6, k, q, h7, h8, rfl, rfl⟩ | ⟨h1, h2, h3, rfl, j, k, q, h5, h7, h8, rfl, rfl⟩
 ·obtain ⟨i, hi⟩ := FirstAt.get (writeIs S.k a s) S.nw
  rcases hi with ⟨rfl, hn⟩ | ⟨i, hi, rfl, hp, hq⟩
  ·rcases lateP_iff.1 h1 with ⟨i, hi⟩ | hm
   ·exact absurd hi.2.1 (hn i hi.1)
   ·exact l3Pre_newer S b v0 v1 v2 a s kd pr un va w h hz (Or.inl ⟨rfl, hn⟩) hm
  ·exact l3Pre_said S b v0 v1 v2 a s kd pr un va i w h hz (Or.inr ⟨i, hi, rfl, hp, hq⟩)
 ·exact l3Pre_same _ b v0 v1 v2 a s kd pr un va j w h hz (notLate h1).1 (notLate h1).2 h2 h3
 ·exact l3Pre_locked S b v0 v1 v2 a s kd pr un va j w h hz (notLate h1).1 (notLate h1).2 h2 h3
 ·exact l3Pre_many S b v0 v1 v2 a s kd pr un va hv w h hz (notLate h1).1 (notLate h1).2 h2 h3 h4
 ·exact l3Pre_lock S b v0 v1 v2 a s kd pr un va hv k w h hz (notLate h1).1 (notLate h1).2 h2 h5 h3 h4 h6
 ·exact l3Pre_put S b v0 v1 v2 a s pr un va k q w h hz (notLate h1).1 (notLate h1).2 h2 h5 h3 h6 h7 h8
 ·exact l3Pre_reput S b v0 v1 v2 a s pr un va k q j w h hz (notLate h1).1 (notLate h1).2 h2 h5 h3 h7 h8
def kindOk (kd : Int) : Prop := 1 ≤ kd ∧ kd ≤ 3
def valOk (va : Int) : Prop := 0 ≤ va ∧ va ≤ 9999
def untOk (un : Int) : Prop := 0 ≤ un ∧ un ≤ 100000
def PreAns (S : Sto) (a s kd va pr un r : Int) (R : Sto) : Prop :=
 (askF S a ≠ 0 ∧ r = askF S a ∧ R = emptyS) ∨ (askF S a = 0 ∧ faultOf pr ≠ 0 ∧ r = faultOf pr ∧ R = emptyS) ∨
 (askF S a = 0 ∧ faultOf pr = 0 ∧ (¬ isT s ∨ isT s ∧ ¬ kindOk kd ∨ isT s ∧ kindOk kd ∧ ¬ valOk va ∨ isT s ∧ kindOk kd ∧ valOk va ∧ ¬ untOk un) ∧ r = 3 ∧ R = emptyS) ∨
 (askF S a = 0 ∧ faultOf pr = 0 ∧ (isT s ∧ kindOk kd ∧ valOk va ∧ untOk un) ∧ va ≠ 0 ∧ kd ≠ 1 ∧ r = 1 ∧ R = emptyS) ∨
 (askF S a = 0 ∧ faultOf pr = 0 ∧ (isT s ∧ kindOk kd ∧ valOk va ∧ untOk un) ∧ (va = 0 ∨ kd = 1) ∧ PreRes S a s kd pr un va r R)
set_option maxRecDepth 100000 in
set_option maxHeartbeats 8000000 in
theorem specPrewrite_own (S : Sto) (v0 v1 v2 : Value) (a s kd va pr un r : Int) (R : Sto) (B : Nat) (w : World) (h : St w B S v0 v1 v2) (hA : PreAns S a s kd va pr un r R) :
  Calls Tryz.prog 9 #[.agg #[v0, v1, v2], .int .i64 a, .int .i64 s, .int .i64 kd, .int .i64 va, .int .i64 pr, .int .i64 un] w (ResStoK w r R) := by
 obtain ⟨a0, c0, a1, c1, a2, c2, rfl, rfl, rfl⟩ := h.form
 have HE : Hid (CallSto w B S (.slice a0 S.nc c0) (.slice a1 S.nl c1) (.slice a2 S.nw c2) ((w.alloc (.cells #[.slice a0 S.nc c0, .slice a1 S.nl c1, .slice a2 S.nw c2] 28)).alloc (.cells #[.int .i64 0, .slice none 0 0, .slice none 0 0, .slice none 0 0] 32))) := CallSto.new h _ _
 clear h
 unfold ResStoK
 rcases hA with ⟨hz, rfl, rfl⟩ | ⟨hz, hp, rfl, rfl⟩ | ⟨hz, hp, ht, rfl, rfl⟩ | ⟨hz, hp, ht, hv, hk, rfl, rfl⟩ | ⟨hz, hp, ht, hv, hR⟩
 ·obtain ⟨f, hf⟩ : ∃ f, askF S a = f := ⟨_, rfl⟩
  have HF : Hid (askF S a = f) := hf
  have hfn : (f == 0) = false := beq_eq_false_iff_ne.2 (by rw [← hf]; exact hz)
  have hfn' : (f != 0) = true := by rw [bne_iff_ne, ← hf]; exact hz
  rw [hf]
  clear hz hf
  go_enter Tryz.func9, Tryz.ntmps9
  go_wp2_with fail
  refine (asked_any S w.heap.size _ _ _ _ _ ⟨HE.out.1.1, HE.out.2.2.1.mono (Nat.zero_le _)⟩).mono ?_
  rw [HF.out]
  rintro e w1 ⟨rfl, q1⟩
  have HE : Hid (CallSto w B S (.slice a0 S.nc c0) (.slice a1 S.nl c1) (.slice a2 S.nw c2) w1) := HE.out.later q1
  obtain ⟨⟨⟨p0, p1, p2⟩, _⟩, ⟨⟨r0, r1, r2, r3⟩, f0, f1, f2, f3⟩, _⟩ := HE.out
  clear q1
  go_wp2_with fail
  refine (l3Bad_own f _).mono ?_
  rintro e w4 ⟨d0, e0, d1, e1, d2, e2, rfl, o3, q4⟩
  have z3 : Hid (w.heap.size + 2 ≤ w1.heap.size) := HE.out.2.1.lt
  have S3 : Hid (OwnS w4 (w.heap.size + 2) emptyS (.slice d0 (emptyS).nc e0) (.slice d1 (emptyS).nl e1) (.slice d2 (emptyS).nw e2)) := o3.mono z3.out
  have HBW : Hid (Below w.heap.size w w4) := HE.out.2.2.2.trans (q4.mono HE.out.2.2.2.size)
  obtain ⟨⟨r0, r1, r2, r3⟩, f0, f1, f2, f3⟩ := HE.out.2.1.later q4
  clear o3 q4
  have hlo : (w.heap.size + 1 : Nat) < w.heap.size + 2 := Nat.lt_succ_self _
  go_wp2
  exact bodyPost_ret (v := .agg #[.int .i64 f, .slice d0 (emptyS).nc e0, .slice d1 (emptyS).nl e1, .slice d2 (emptyS).nw e2]) (by simp [results, Tryz.results9, go_sem, r0, r1, r2, r3]) rfl ⟨d0, e0, d1, e1, d2, e2, rfl, ((((S3.out.far hlo _).far hlo _).far hlo _).far hlo _).mono (by omega), (((HBW.out.setCell (Nat.le_succ _) _).setCell (Nat.le_succ _) _).setCell (Nat.le_succ _) _).setCell (Nat.le_succ _) _⟩
 ·have HA : Hid (askF S a = 0) := hz
  obtain ⟨f, hf⟩ : ∃ f, faultOf pr = f := ⟨_, rfl⟩
  have HF : Hid (faultOf pr = f) := hf
  have hfn : (f == 0) = false := beq_eq_false_iff_ne.2 (by rw [← hf]; exact hp)
  have hfn' : (f != 0) = true := by rw [bne_iff_ne, ← hf]; exact hp
  rw [hf]
  clear hz hf hp
  go_enter Tryz.func9, Tryz.ntmps9
  go_wp2_with fail
  refine (asked_any S w.heap.size _ _ _ _ _ ⟨HE.out.1.1, HE.out.2.2.1.mono (Nat.zero_le _)⟩).mono ?_
  rw [HA.out]
  rintro e w1 ⟨rfl, q1⟩
  have HE : Hid (CallSto w B S (.slice a0 S.nc c0) (.slice a1 S.nl c1) (.slice a2 S.nw c2) w1) := HE.out.later q1
  obtain ⟨⟨⟨p0, p1, p2⟩, _⟩, ⟨⟨r0, r1, r2, r3⟩, f0, f1, f2, f3⟩, _⟩ := HE.out
  clear q1
  go_wp2_with fail
  refine (l1Fault_any pr _).mono ?_
  rw [HF.out]
  rintro e w2' ⟨rfl, rfl⟩
  go_wp2_with fail
  refine (l3Bad_own f _).mono ?_
  rintro e w4 ⟨d0, e0, d1, e1, d2, e2, rfl, o3, q4⟩
  have z3 : Hid (w.heap.size + 2 ≤ w2'.heap.size) := HE.out.2.1.lt
  have S3 : Hid (OwnS w4 (w.heap.size + 2) emptyS (.slice d0 (emptyS).nc e0) (.slice d1 (emptyS).nl e1) (.slice d2 (emptyS).nw e2)) := o3.mono z3.out
  have HBW : Hid (Below w.heap.size w w4) := HE.out.2.2.2.trans (q4.mono HE.out.2.2.2.size)
  obtain ⟨⟨r0, r1, r2, r3⟩, f0, f1, f2, f3⟩ := HE.out.2.1.later q4
  clear o3 q4
  have hlo : (w.heap.size + 1 : Nat) < w.heap.size + 2 := Nat.lt_succ_self _
  go_wp2
  exact bodyPost_ret (v := .agg #[.int .i64 f, .slice d0 (emptyS).nc e0, .slice d1 (emptyS).nl e1, .slice d2 (emptyS).nw e2]) (by simp [results, Tryz.results9, go_sem, r0, r1, r2, r3]) rfl ⟨d0, e0, d1, e1, d2, e2, rfl, ((((S3.out.far hlo _).far hlo _).far hlo _).far hlo _).mono (by omega), (((HBW.out.setCell (Nat.le_succ _) _).setCell (Nat.le_succ _) _).setCell (Nat.le_succ _) _).setCell (Nat.le_succ _) _⟩
 ·have HA : Hid (askF S a = 0) := hz
  have HF : Hid (faultOf pr = 0) := hp
  clear hz hp
  rcases ht with q1 | ⟨q1, q2⟩ | ⟨q1, q2, q3⟩ | ⟨q1, q2, q3, q4⟩
  focus
   have H1 : Hid (decide (1 ≤ s ∧ s ≤ 100000) = false) := decide_eq_false q1
   clear q1
   go_enter Tryz.func9, Tryz.ntmps9
   go_wp2_with fail
   refine (asked_any S w.heap.size _ _ _ _ _ ⟨HE.out.1.1, HE.out.2.2.1.mono (Nat.zero_le _)⟩).mono ?_
   rw [HA.out]
   rintro e w1 ⟨rfl, q1⟩
   have HE : Hid (CallSto w B S (.slice a0 S.nc c0) (.slice a1 S.nl c1) (.slice a2 S.nw c2) w1) := HE.out.later q1
   obtain ⟨⟨⟨p0, p1, p2⟩, _⟩, ⟨⟨r0, r1, r2, r3⟩, f0, f1, f2, f3⟩, _⟩ := HE.out
   clear q1
   go_wp2_with fail
   refine (l1Fault_any pr _).mono ?_
   rw [HF.out]
   rintro e w2' ⟨rfl, rfl⟩
   go_wp2_with fail
   refine (l2Ts_is s false H1.out _).mono ?_
   rintro e w3' ⟨rfl, rfl⟩
   go_wp2_with fail
   refine (l3Bad_own 3 _).mono ?_
   rintro e w4 ⟨d0, e0, d1, e1, d2, e2, rfl, o3, q4⟩
   have z3 : Hid (w.heap.size + 2 ≤ w3'.heap.size) := HE.out.2.1.lt
  rotate_left
  focus
   have H1 : Hid (decide (1 ≤ s ∧ s ≤ 100000) = true) := decide_eq_true q1
   have H2 : Hid (decide (1 ≤ kd ∧ kd ≤ 3) = false) := decide_eq_false q2
   clear q1 q2
   go_enter Tryz.func9, Tryz.ntmps9
   go_wp2_with fail
   refine (asked_any S w.heap.size _ _ _ _ _ ⟨HE.out.1.1, HE.out.2.2.1.mono (Nat.zero_le _)⟩).mono ?_
   rw [HA.out]
   rintro e w1 ⟨rfl, q1⟩
   have HE : Hid (CallSto w B S (.slice a0 S.nc c0) (.slice a1 S.nl c1) (.slice a2 S.nw c2) w1) := HE.out.later q1
   obtain ⟨⟨⟨p0, p1, p2⟩, _⟩, ⟨⟨r0, r1, r2, r3⟩, f0, f1, f2, f3⟩, _⟩ := HE.out
   clear q1
   go_wp2_with fail
   refine (l1Fault_any pr _).mono ?_
   rw [HF.out]
   rintro e w2' ⟨rfl, rfl⟩
   go_wp2_with fail
   refine (l2Ts_is s true H1.out _).mono ?_
   rintro e w3' ⟨rfl, rfl⟩
   go_wp2_with fail
   refine (l1In_is kd _ _ false H2.out _).mono ?_
   rintro e w4' ⟨rfl, rfl⟩
   go_wp2_with fail
   refine (l3Bad_own 3 _).mono ?_
   rintro e w4 ⟨d0, e0, d1, e1, d2, e2, rfl, o3, q4⟩
   have z3 : Hid (w.heap.size + 2 ≤ w4'.heap.size) := HE.out.2.1.lt
  rotate_left
  focus
   have H1 : Hid (decide (1 ≤ s ∧ s ≤ 100000) = true) := decide_eq_true q1
   have H2 : Hid (decide (1 ≤ kd ∧ kd ≤ 3) = true) := decide_eq_true q2
   have H3 : Hid (decide (0 ≤ va ∧ va ≤ 9999) = false) := decide_eq_false q3
   clear q1 q2 q3
   go_enter Tryz.func9, Tryz.ntmps9
   go_wp2_with fail
   refine (asked_any S w.heap.size _ _ _ _ _ ⟨HE.out.1.1, HE.out.2.2.1.mono (Nat.zero_le _)⟩).mono ?_
   rw [HA.out]
   rintro e w1 ⟨rfl, q1⟩
   have HE : Hid (CallSto w B S (.slice a0 S.nc c0) (.slice a1 S.nl c1) (.slice a2 S.nw c2) w1) := HE.out.later q1
   obtain ⟨⟨⟨p0, p1, p2⟩, _⟩, ⟨⟨r0, r1, r2, r3⟩, f0, f1, f2, f3⟩, _⟩ := HE.out
   clear q1
   go_wp2_with fail
   refine (l1Fault_any pr _).mono ?_
   rw [HF.out]
   rintro e w2' ⟨rfl, rfl⟩
   go_wp2_with fail
   refine (l2Ts_is s true H1.out _).mono ?_
   rintro e w3' ⟨rfl, rfl⟩
   go_wp2_with fail
   refine (l1In_is kd _ _ true H2.out _).mono ?_
   rintro e w4' ⟨rfl, rfl⟩
   go_wp2_with fail
   refine (l1In_is va _ _ false H3.out _).mono ?_
   rintro e w5' ⟨rfl, rfl⟩
   go_wp2_with fail
   refine (l3Bad_own 3 _).mono ?_
   rintro e w4 ⟨d0, e0, d1, e1, d2, e2, rfl, o3, q4⟩
   have z3 : Hid (w.heap.size + 2 ≤ w5'.heap.size) := HE.out.2.1.lt
  rotate_left
  focus
   have H1 : Hid (decide (1 ≤ s ∧ s ≤ 100000) = true) := decide_eq_true q1
   have H2 : Hid (decide (1 ≤ kd ∧ kd ≤ 3) = true) := decide_eq_true q2
   have H3 : Hid (decide (0 ≤ va ∧ va ≤ 9999) = true) := decide_eq_true q3
   have H4 : Hid (decide (0 ≤ un ∧ un ≤ 100000) = false) := decide_eq_false q4
   clear q1 q2 q3 q4
   go_enter Tryz.func9, Tryz.ntmps9
   go_wp2_with fail
   refine (asked_any S w.heap.size _ _ _ _ _ ⟨HE.out.1.1, HE.out.2.2.1.mono (Nat.zero_le _)⟩).mono ?_
   rw [HA.out]
   rintro e w1 ⟨rfl, q1⟩
   have HE : Hid (CallSto w B S (.slice a0 S.nc c0) (.slice a1 S.nl c1) (.slice a2 S.nw c2) w1) := HE.out.later q1
   obtain ⟨⟨⟨p0, p1, p2⟩, _⟩, ⟨⟨r0, r1, r2, r3⟩, f0, f1, f2, f3⟩, _⟩ := HE.out
   clear q1
   go_wp2_with fail
   refine (l1Fault_any pr _).mono ?_
   rw [HF.out]
   rintro e w2' ⟨rfl, rfl⟩
   go_wp2_with fail
   refine (l2Ts_is s true H1.out _).mono ?_
   rintro e w3' ⟨rfl, rfl⟩
   go_wp2_with fail
   refine (l1In_is kd _ _ true H2.out _).mono ?_
   rintro e w4' ⟨rfl, rfl⟩
   go_wp2_with fail
   refine (l1In_is va _ _ true H3.out _).mono ?_
   rintro e w5' ⟨rfl, rfl⟩
   go_wp2_with fail
   refine (l1In_is un _ _ false H4.out _).mono ?_
   rintro e w6' ⟨rfl, rfl⟩
   go_wp2_with fail
   refine (l3Bad_own 3 _).mono ?_
   rintro e w4 ⟨d0, e0, d1, e1, d2, e2, rfl, o3, q4⟩
   have z3 : Hid (w.heap.size + 2 ≤ w6'.heap.size) := HE.out.2.1.lt
  rotate_left
  all_goals
   have S3 : Hid (OwnS w4 (w.heap.size + 2) emptyS (.slice d0 (emptyS).nc e0) (.slice d1 (emptyS).nl e1) (.slice d2 (emptyS).nw e2)) := o3.mono z3.out
   have HBW : Hid (Below w.heap.size w w4) := HE.out.2.2.2.trans (q4.mono HE.out.2.2.2.size)
   obtain ⟨⟨r0, r1, r2, r3⟩, f0, f1, f2, f3⟩ := HE.out.2.1.later q4
   clear o3 q4
   have hlo : (w.heap.size + 1 : Nat) < w.heap.size + 2 := Nat.lt_succ_self _
   go_wp2
   exact bodyPost_ret (v := .agg #[.int .i64 3, .slice d0 (emptyS).nc e0, .slice d1 (emptyS).nl e1, .slice d2 (emptyS).nw e2]) (by simp [results, Tryz.results9, go_sem, r0, r1, r2, r3]) rfl ⟨d0, e0, d1, e1, d2, e2, rfl, ((((S3.out.far hlo _).far hlo _).far hlo _).far hlo _).mono (by omega), (((HBW.out.setCell (Nat.le_succ _) _).setCell (Nat.le_succ _) _).setCell (Nat.le_succ _) _).setCell (Nat.le_succ _) _⟩
 ·have HA : Hid (askF S a = 0) := hz
  have HF : Hid (faultOf pr = 0) := hp
  obtain ⟨q1, q2, q3, q4⟩ := ht
  have H1 : Hid (decide (1 ≤ s ∧ s ≤ 100000) = true) := decide_eq_true q1
  have H2 : Hid (decide (1 ≤ kd ∧ kd ≤ 3) = true) := decide_eq_true q2
  have H3 : Hid (decide (0 ≤ va ∧ va ≤ 9999) = true) := decide_eq_true q3
  have H4 : Hid (decide (0 ≤ un ∧ un ≤ 100000) = true) := decide_eq_true q4
  have dv : (va != 0) = true := bne_iff_ne.2 hv
  have dv' : (va == 0) = false := beq_eq_false_iff_ne.2 hv
  have dk : (kd != 1) = true := bne_iff_ne.2 hk
  have dk' : (kd == 1) = false := beq_eq_false_iff_ne.2 hk
  clear hz hp q1 q2 q3 q4 hv hk
  go_enter Tryz.func9, Tryz.ntmps9
  go_wp2_with fail
  refine (asked_any S w.heap.size _ _ _ _ _ ⟨HE.out.1.1, HE.out.2.2.1.mono (Nat.zero_le _)⟩).mono ?_
  rw [HA.out]
  rintro e w1 ⟨rfl, q1⟩
  have HE : Hid (CallSto w B S (.slice a0 S.nc c0) (.slice a1 S.nl c1) (.slice a2 S.nw c2) w1) := HE.out.later q1
  obtain ⟨⟨⟨p0, p1, p2⟩, _⟩, ⟨⟨r0, r1, r2, r3⟩, f0, f1, f2, f3⟩, _⟩ := HE.out
  clear q1
  go_wp2_with fail
  refine (l1Fault_any pr _).mono ?_
  rw [HF.out]
  rintro e w2' ⟨rfl, rfl⟩
  go_wp2_with fail
  refine (l2Ts_is s true H1.out _).mono ?_
  rintro e w3' ⟨rfl, rfl⟩
  go_wp2_with fail
  refine (l1In_is kd _ _ true H2.out _).mono ?_
  rintro e w4' ⟨rfl, rfl⟩
  go_wp2_with fail
  refine (l1In_is va _ _ true H3.out _).mono ?_
  rintro e w5' ⟨rfl, rfl⟩
  go_wp2_with fail
  refine (l1In_is un _ _ true H4.out _).mono ?_
  rintro e w6' ⟨rfl, rfl⟩
  go_wp2_with fail
  refine (l3Bad_own 1 _).mono ?_
  rintro e w4 ⟨d0, e0, d1, e1, d2, e2, rfl, o3, q4⟩
  have z3 : Hid (w.heap.size + 2 ≤ w6'.heap.size) := HE.out.2.1.lt
  have S3 : Hid (OwnS w4 (w.heap.size + 2) emptyS (.slice d0 (emptyS).nc e0) (.slice d1 (emptyS).nl e1) (.slice d2 (emptyS).nw e2)) := o3.mono z3.out
  have HBW : Hid (Below w.heap.size w w4) := HE.out.2.2.2.trans (q4.mono HE.out.2.2.2.size)
  obtain ⟨⟨r0, r1, r2, r3⟩, f0, f1, f2, f3⟩ := HE.out.2.1.later q4
  clear o3 q4
  have hlo : (w.heap.size + 1 : Nat) < w.heap.size + 2 := Nat.lt_succ_self _
  go_wp2
  exact bodyPost_ret (v := .agg #[.int .i64 1, .slice d0 (emptyS).nc e0, .slice d1 (emptyS).nl e1, .slice d2 (emptyS).nw e2]) (by simp [results, Tryz.results9, go_sem, r0, r1, r2, r3]) rfl ⟨d0, e0, d1, e1, d2, e2, rfl, ((((S3.out.far hlo _).far hlo _).far hlo _).far hlo _).mono (by omega), (((HBW.out.setCell (Nat.le_succ _) _).setCell (Nat.le_succ _) _).setCell (Nat.le_succ _) _).setCell (Nat.le_succ _) _⟩
 ·have HA : Hid (askF S a = 0) := hz
  have HF : Hid (faultOf pr = 0) := hp
  have HP : Hid (∀ (b : Nat) (u0 u1 u2 : Value) (x : World), Lies x b S u0 u1 u2 → Calls Tryz.prog 45 #[.pointer (some ⟨b, 0, none⟩), .agg #[.int .i64 a, .int .i64 s, .int .i64 kd, .int .i64 pr, .int .i64 un], .int .i64 va] x (ResStoK x r R)) := fun b u0 u1 u2 x hx => l3Pre_own S b u0 u1 u2 a s kd pr un va r R x hx (askF_zero hz).1 hR
  obtain ⟨q1, q2, q3, q4⟩ := ht
  have H1 : Hid (decide (1 ≤ s ∧ s ≤ 100000) = true) := decide_eq_true q1
  have H2 : Hid (decide (1 ≤ kd ∧ kd ≤ 3) = true) := decide_eq_true q2
  have H3 : Hid (decide (0 ≤ va ∧ va ≤ 9999) = true) := decide_eq_true q3
  have H4 : Hid (decide (0 ≤ un ∧ un ≤ 100000) = true) := decide_eq_true q4
  clear hz hp q1 q2 q3 q4 hR
  by_cases hv0 : va = 0
  focus
   have dv : (va != 0) = false := by rw [hv0]; rfl
   have dv' : (va == 0) = true := beq_iff_eq.2 hv0
   clear hv hv0
  rotate_left
  focus
   have dv : (va != 0) = true := bne_iff_ne.2 hv0
   have dv' : (va == 0) = false := beq_eq_false_iff_ne.2 hv0
   have hk1 : kd = 1 := by omega
   have dk : (kd != 1) = false := by rw [hk1]; rfl
   have dk' : (kd == 1) = true := beq_iff_eq.2 hk1
   clear hv hv0 hk1
  rotate_left
  all_goals
   go_enter Tryz.func9, Tryz.ntmps9
   go_wp2_with fail
   refine (asked_any S w.heap.size _ _ _ _ _ ⟨HE.out.1.1, HE.out.2.2.1.mono (Nat.zero_le _)⟩).mono ?_
   rw [HA.out]
   rintro e w1 ⟨rfl, q1⟩
   have HE : Hid (CallSto w B S (.slice a0 S.nc c0) (.slice a1 S.nl c1) (.slice a2 S.nw c2) w1) := HE.out.later q1
   obtain ⟨⟨⟨p0, p1, p2⟩, _⟩, ⟨⟨r0, r1, r2, r3⟩, f0, f1, f2, f3⟩, _⟩ := HE.out
   clear q1
   go_wp2_with fail
   refine (l1Fault_any pr _).mono ?_
   rw [HF.out]
   rintro e w2' ⟨rfl, rfl⟩
   go_wp2_with fail
   refine (l2Ts_is s true H1.out _).mono ?_
   rintro e w3' ⟨rfl, rfl⟩
   go_wp2_with fail
   refine (l1In_is kd _ _ true H2.out _).mono ?_
   rintro e w4' ⟨rfl, rfl⟩
   go_wp2_with fail
   refine (l1In_is va _ _ true H3.out _).mono ?_
   rintro e w5' ⟨rfl, rfl⟩
   go_wp2_with fail
   refine (l1In_is un _ _ true H4.out _).mono ?_
   rintro e w6' ⟨rfl, rfl⟩
   go_wp2_with fail
   refine (HP.out w.heap.size _ _ _ _ ⟨HE.out.1.1, HE.out.2.2.1.mono (Nat.zero_le _)⟩).mono ?_
   rintro e w4 ⟨d0, e0, d1, e1, d2, e2, rfl, o3, q4⟩
   have z3 : Hid (w.heap.size + 2 ≤ w6'.heap.size) := HE.out.2.1.lt
   have S3 : Hid (OwnS w4 (w.heap.size + 2) R (.slice d0 (R).nc e0) (.slice d1 (R).nl e1) (.slice d2 (R).nw e2)) := o3.mono z3.out
   have HBW : Hid (Below w.heap.size w w4) := HE.out.2.2.2.trans (q4.mono HE.out.2.2.2.size)
   obtain ⟨⟨r0, r1, r2, r3⟩, f0, f1, f2, f3⟩ := HE.out.2.1.later q4
   clear o3 q4
   have hlo : (w.heap.size + 1 : Nat) < w.heap.size + 2 := Nat.lt_succ_self _
   go_wp2
   exact bodyPost_ret (v := .agg #[.int .i64 r, .slice d0 (R).nc e0, .slice d1 (R).nl e1, .slice d2 (R).nw e2]) (by simp [results, Tryz.results9, go_sem, r0, r1, r2, r3]) rfl ⟨d0, e0, d1, e1, d2, e2, rfl, ((((S3.out.far hlo _).far hlo _).far hlo _).far hlo _).mono (by omega), (((HBW.out.setCell (Nat.le_succ _) _).setCell (Nat.le_succ _) _).setCell (Nat.le_succ _) _).setCell (Nat.le_succ _) _⟩
end

section
open Go.RowKit
end

section
open Go.RowKit Go.Maps Go.Lib
theorem PreRes.get (S : Sto) (hz : storeF S = 0) (a s kd pr un va : Int) : ∃ r R, Small R ∧ PreRes S a s kd pr un va r R := by
 obtain ⟨⟨hc, hl, hw⟩, _⟩ := storeF_zero hz
 have hS : Small S := ⟨by omega, by omega, by omega⟩
 by_cases h1 : lateP S.k S.nw a s
 ·exact ⟨8, emptyS, small_empty, Or.inl ⟨h1, rfl, rfl⟩⟩
 obtain ⟨i, hi⟩ := FirstAt.get (lockIs S.l a) S.nl
 rcases hi with ⟨rfl, hn⟩ | ⟨j, hj, rfl, hp, hq⟩
 ·have h2 : FirstAt (lockIs S.l a) S.nl (-1) := Or.inl ⟨rfl, hn⟩
  obtain ⟨hv, h3⟩ := FirstAt.get (cellIs S.c a s) S.nc
  by_cases h4 : 200 ≤ S.nl
  ·exact ⟨2, emptyS, small_empty, Or.inr (Or.inr (Or.inr (Or.inl ⟨h1, h2, hv, h3, Or.inl h4, rfl, rfl⟩)))⟩
  obtain ⟨k, hk⟩ := placeAt.get (aheadL S.l a) S.nl
  by_cases h5 : kd = 1
  ·rcases h3 with ⟨rfl, h3⟩ | ⟨j, hj, rfl, hp, hq⟩
   ·have h3' : FirstAt (cellIs S.c a s) S.nc (-1) := Or.inl ⟨rfl, h3⟩
    by_cases h6 : 200 ≤ S.nc
    ·exact ⟨2, emptyS, small_empty, Or.inr (Or.inr (Or.inr (Or.inl ⟨h1, h2, -1, h3', Or.inr ⟨h5, rfl, h6⟩, rfl, rfl⟩)))⟩
    ·obtain ⟨q, hq⟩ := placeAt.get (aheadC S.c a s) S.nc
     refine ⟨0, putS S k q a s pr un va, ⟨?_, ?_, hS.2.2⟩, Or.inr (Or.inr (Or.inr (Or.inr (Or.inr (Or.inl ⟨h1, h2, by omega, h5, h3', by omega, k, q, hk, hq, rfl, rfl⟩)))))⟩
     ·show S.nc + 1 ≤ _; omega
     ·show S.nl + 1 ≤ _; omega
   ·obtain ⟨q, hqq⟩ := placeAt.get (aheadC (fun p => (unlC S.c a s S.nc).flatten.getD p 0) a s) (unlC S.c a s S.nc).length
    refine ⟨0, reputS S k q a s pr un va, ⟨?_, ?_, hS.2.2⟩, Or.inr (Or.inr (Or.inr (Or.inr (Or.inr (Or.inr ⟨h1, h2, by omega, h5, j, k, q, Or.inr ⟨j, hj, rfl, hp, hq⟩, hk, hqq, rfl, rfl⟩)))))⟩
    ·show (unlC S.c a s S.nc).length + 1 ≤ _
     have : (unlC S.c a s S.nc).length ≤ S.nc := selD_le _ _ _ _
     omega
    ·show S.nl + 1 ≤ _; omega
  ·refine ⟨0, lockS S k a s kd pr un, ⟨hS.1, ?_, hS.2.2⟩, Or.inr (Or.inr (Or.inr (Or.inr (Or.inl ⟨h1, h2, by omega, h5, hv, k, h3, hk, rfl, rfl⟩))))⟩
   show S.nl + 1 ≤ _; omega
 ·by_cases h4 : S.l (j * 5 + 1) = s
  ·exact ⟨0, S, hS, Or.inr (Or.inl ⟨h1, j, Or.inr ⟨j, hj, rfl, hp, hq⟩, h4, rfl, rfl⟩)⟩
  ·exact ⟨7, emptyS, small_empty, Or.inr (Or.inr (Or.inl ⟨h1, j, Or.inr ⟨j, hj, rfl, hp, hq⟩, h4, rfl, rfl⟩))⟩
theorem PreAns.get (S : Sto) (a s kd va pr un : Int) : ∃ r R, Small R ∧ PreAns S a s kd va pr un r R := by
 by_cases hz : askF S a = 0
 case neg => exact ⟨_, emptyS, small_empty, Or.inl ⟨hz, rfl, rfl⟩⟩
 by_cases hp : faultOf pr = 0
 case neg => exact ⟨_, emptyS, small_empty, Or.inr (Or.inl ⟨hz, hp, rfl, rfl⟩)⟩
 by_cases q1 : isT s
 case neg => exact ⟨3, emptyS, small_empty, Or.inr (Or.inr (Or.inl ⟨hz, hp, Or.inl q1, rfl, rfl⟩))⟩
 by_cases q2 : kindOk kd
 case neg => exact ⟨3, emptyS, small_empty, Or.inr (Or.inr (Or.inl ⟨hz, hp, Or.inr (Or.inl ⟨q1, q2⟩), rfl, rfl⟩))⟩
 by_cases q3 : valOk va
 case neg => exact ⟨3, emptyS, small_empty, Or.inr (Or.inr (Or.inl ⟨hz, hp, Or.inr (Or.inr (Or.inl ⟨q1, q2, q3⟩)), rfl, rfl⟩))⟩
 by_cases q4 : untOk un
 case neg => exact ⟨3, emptyS, small_empty, Or.inr (Or.inr (Or.inl ⟨hz, hp, Or.inr (Or.inr (Or.inr ⟨q1, q2, q3, q4⟩)), rfl, rfl⟩))⟩
 by_cases hv : va = 0 ∨ kd = 1
 ·obtain ⟨r, R, h1, h2⟩ := PreRes.get S (askF_zero hz).1 a s kd pr un va
  exact ⟨r, R, h1, Or.inr (Or.inr (Or.inr (Or.inr ⟨hz, hp, ⟨q1, q2, q3, q4⟩, hv, h2⟩)))⟩
 ·exact ⟨1, emptyS, small_empty, Or.inr (Or.inr (Or.inr (Or.inl ⟨hz, hp, ⟨q1, q2, q3, q4⟩, fun q => hv (Or.inl q), fun q => hv (Or.inr q), rfl, rfl⟩)))⟩
end
end Go.Proofs.YtiadbiiiikhfaaaGreatDoor

namespace Go.Proofs.YtiadbiiiikhfaaaGreatDoor
open Go.RowKit

def Sz (R : Sto) : Prop := R.nc ≤ 201 ∧ R.nl ≤ 201 ∧ R.nw ≤ 201
theorem sz_empty : Sz emptyS := by unfold Sz emptyS; decide
theorem sz_of {S : Sto} (h : storeF S = 0) : Sz S := by have := (storeF_zero h).1; unfold Sz; omega
theorem CommitAns.sz {S : Sto} {a s c r : Int} {R : Sto} (h : CommitAns S a s c r R) : Sz R := by
 rcases h with ⟨_, _, rfl⟩ | ⟨_, _, _, rfl⟩ | ⟨_, _, _, _, rfl⟩ | ⟨_, _, _, _, _, rfl⟩ | ⟨hz, _, _, _, hR⟩
 ·exact sz_empty
 ·exact sz_empty
 ·exact sz_empty
 ·exact sz_empty
 ·have hs := sz_of (askF_zero hz).1
  rcases hR with ⟨_, _, _, _, e⟩ | ⟨_, _, _, _, e⟩ | ⟨_, _, _, e⟩ | ⟨_, _, _, _, _, _, e⟩ | ⟨_, _, _, _, _, _, _, e⟩ | ⟨j, k, _, _, _, _, h5, _, _, e⟩
  ·rw [e]; exact hs
  ·rw [e]; exact sz_empty
  ·rw [e]; exact sz_empty
  ·rw [e]; exact sz_empty
  ·rw [e]; exact sz_empty
  ·rw [e]
   exact ⟨hs.1, Nat.le_trans (selD_le _ _ _ _) hs.2.1, by show S.nw + 1 ≤ 201; omega⟩
theorem RollAns.sz {S : Sto} {a s r : Int} {R : Sto} (h : RollAns S a s r R) : Sz R := by
 rcases h with ⟨_, _, rfl⟩ | ⟨_, _, _, rfl⟩ | ⟨hz, _, hR⟩
 ·exact sz_empty
 ·exact sz_empty
 ·have hs := sz_of (askF_zero hz).1
  rcases hR with ⟨_, _, _, _, e⟩ | ⟨_, _, _, _, e⟩ | ⟨_, _, _, e⟩ | ⟨_, _, _, _, e⟩ | ⟨k, _, _, h3, _, _, e⟩
  ·rw [e]; exact hs
  ·rw [e]; exact sz_empty
  ·rw [e]; exact sz_empty
  ·rw [e]; exact sz_empty
  ·rw [e]
   exact ⟨Nat.le_trans (selD_le _ _ _ _) hs.1, Nat.le_trans (selD_le _ _ _ _) hs.2.1, by show S.nw + 1 ≤ 201; omega⟩
theorem PreAns.sz {S : Sto} {a s kd va pr un r : Int} {R : Sto} (h : PreAns S a s kd va pr un r R) : Sz R := by
 have main : ∀ {r : Int} {R : Sto}, askF S a = 0 → PreRes S a s kd pr un va r R → Sz R := fun {r R} hz hR => by
  have hs := sz_of (askF_zero hz).1
  rcases hR with ⟨_, _, e⟩ | ⟨_, _, _, _, _, e⟩ | ⟨_, _, _, _, _, e⟩ | ⟨_, _, _, _, _, _, e⟩ | ⟨_, _, h3, _, _, _, _, _, _, e⟩ | ⟨_, _, h3, _, _, h6, _, _, _, _, _, e⟩ | ⟨_, _, h3, _, _, _, _, _, _, _, _, e⟩
  ·rw [e]; exact sz_empty
  ·rw [e]; exact hs
  ·rw [e]; exact sz_empty
  ·rw [e]; exact sz_empty
  ·rw [e]; exact ⟨hs.1, by show S.nl + 1 ≤ 201; omega, hs.2.2⟩
  ·rw [e]; exact ⟨by show S.nc + 1 ≤ 201; omega, by show S.nl + 1 ≤ 201; omega, hs.2.2⟩
  ·rw [e]
   have h8 : (unlC S.c a s S.nc).length ≤ S.nc := selD_le _ _ _ _
   have h9 := (storeF_zero (askF_zero hz).1).1
   exact ⟨by show (unlC S.c a s S.nc).length + 1 ≤ 201; omega, by show S.nl + 1 ≤ 201; omega, hs.2.2⟩
 rcases h with ⟨_, _, rfl⟩ | ⟨_, _, _, rfl⟩ | ⟨_, _, _, _, rfl⟩ | ⟨_, _, _, _, _, _, rfl⟩ | ⟨hz, _, _, _, hR⟩
 ·exact sz_empty
 ·exact sz_empty
 ·exact sz_empty
 ·exact sz_empty
 ·exact main hz hR
/-- A store under way while the source is drawn from: the answer's block, the store's box, its rows. -/
structure DrS (w : World) (b : Nat) (o : Option Addr) (len cap : Nat) (S : Sto) (v0 v1 v2 : Value) (a : Int) (x : World) : Prop where
 src : Src x b o len cap a
 but : But b w x
 res : Blk3 x w.heap.size (.slice none 0 0) (.slice none 0 0) (.slice none 0 0)
 box : Blk3 x (w.heap.size + 1) v0 v1 v2
 own : OwnS x (w.heap.size + 2) S v0 v1 v2
 lo : b < w.heap.size
 base : ∃ z, Src w b o len cap z
theorem Blk3.butS {x x' : World} {b c : Nat} {a0 a1 a2 : Value} (h : Blk3 x c a0 a1 a2) (hT : But b x x') (hc : c ≠ b) : Blk3 x' c a0 a1 a2 := h.kept (hT.block c h.lt (fun e => hc (Option.some.inj e)))
theorem OwnS.keptS {x x' : World} {B : Nat} {S : Sto} {v0 v1 v2 : Value} (h : OwnS x B S v0 v1 v2) (hb : ∀ k, B ≤ k → k < x.heap.size → x'.heap[k]? = x.heap[k]?) : OwnS x' B S v0 v1 v2 :=
 ⟨⟨own_kept h.1.1 (fun k hk => hb k (own_blk h.1.1 k hk).1 (own_blk h.1.1 k hk).2), own_kept h.1.2.1 (fun k hk => hb k (own_blk h.1.2.1 k hk).1 (own_blk h.1.2.1 k hk).2), own_kept h.1.2.2 (fun k hk => hb k (own_blk h.1.2.2 k hk).1 (own_blk h.1.2.2 k hk).2)⟩, h.2⟩
theorem DrS.step {w : World} {b : Nat} {o : Option Addr} {len cap : Nat} {S : Sto} {v0 v1 v2 : Value} {a a' : Int} {x x' : World} (h : DrS w b o len cap S v0 v1 v2 a x) (hT : But b x x') (hS : Src x' b o len cap a') : DrS w b o len cap S v0 v1 v2 a' x' where
 src := hS
 but := h.but.trans hT
 res := h.res.butS hT (by have := h.lo; omega)
 box := h.box.butS hT (by have := h.lo; omega)
 own := h.own.keptS (fun k hk hl => hT.block k hl (fun e => by have := Option.some.inj e; have := h.lo; omega))
 lo := h.lo
 base := h.base
theorem DrS.later {w : World} {b : Nat} {o : Option Addr} {len cap : Nat} {S : Sto} {v0 v1 v2 : Value} {a : Int} {x x' : World} (h : DrS w b o len cap S v0 v1 v2 a x) (hb : Below x.heap.size x x') : DrS w b o len cap S v0 v1 v2 a x' :=
 h.step ((But.refl _ _).below hb) (h.src.later hb)
theorem DrS.sz {w : World} {b : Nat} {o : Option Addr} {len cap : Nat} {S : Sto} {v0 v1 v2 : Value} {a : Int} {x : World} (h : DrS w b o len cap S v0 v1 v2 a x) : w.heap.size + 2 ≤ x.heap.size := h.box.lt
theorem But.setS {b : Nat} {w x : World} (h : But b w x) {c : Nat} (hc : w.heap.size ≤ c) (off : Nat) (v : Value) : But b w (x.setCell ⟨c, off, none⟩ v) :=
 ⟨h.os, h.tape, h.output, by simpa [World.setCell] using h.size, fun k hk hne => (Below.heap_setCell x ⟨c, off, none⟩ v k (by simp; omega)).trans (h.block k hk hne)⟩
theorem Src.setS {x : World} {b : Nat} {o : Option Addr} {len cap : Nat} {a : Int} (h : Src x b o len cap a) {w : World} {a0 : Int} (h0 : Src w b o len cap a0) (hT : But b w x) {c : Nat} (hc : w.heap.size ≤ c) (off : Nat) (v : Value) : Src (x.setCell ⟨c, off, none⟩ v) b o len cap a := by
 have hb := h0.lt
 have kb : (x.setCell ⟨c, off, none⟩ v).heap[b]? = x.heap[b]? := Below.heap_setCell x ⟨c, off, none⟩ v b (by simp; omega)
 refine ⟨(World.cell?_of_block (w := x) (a := ⟨b, 0, none⟩) kb).trans h.code, (World.cell?_of_block (w := x) (a := ⟨b, 1, none⟩) kb).trans h.count, (World.frozen?_of_block (w := x) (a := ⟨b, 1, none⟩) kb).trans h.live, h.pos, fun j hj => ?_⟩
 obtain ⟨g, off', n, e1, e2, e3, e4⟩ := h0.bytes j hj
 exact ⟨g, off', n, e1, e2, (hT.setS hc off v).cell e3 e2, e4⟩
theorem OwnS.off {x : World} {B : Nat} {R : Sto} {g0 g1 g2 : Value} (h : OwnS x B R g0 g1 g2) {c : Nat} (hc : c < B) : ∀ v ∈ [g0, g1, g2], v.ownBlock ≠ some c := fun v hv e => by
 simp only [List.mem_cons, List.not_mem_nil, or_false] at hv
 rcases hv with rfl | rfl | rfl
 ·have := (own_blk h.1.1 c e).1; omega
 ·have := (own_blk h.1.2.1 c e).1; omega
 ·have := (own_blk h.1.2.2 c e).1; omega
theorem OwnS.fresh {x : World} {B : Nat} {R : Sto} {g0 g1 g2 : Value} (h : OwnS x B R g0 g1 g2) : ∀ v ∈ [g0, g1, g2], v.ownBlock ≠ some x.heap.size := fun v hv e => by
 simp only [List.mem_cons, List.not_mem_nil, or_false] at hv
 rcases hv with rfl | rfl | rfl
 ·have := (own_blk h.1.1 _ e).2; omega
 ·have := (own_blk h.1.2.1 _ e).2; omega
 ·have := (own_blk h.1.2.2 _ e).2; omega
theorem OwnS.setO {x : World} {B : Nat} {R : Sto} {g0 g1 g2 : Value} (h : OwnS x B R g0 g1 g2) {c : Nat} (hc : ∀ v ∈ [g0, g1, g2], v.ownBlock ≠ some c) (j : Nat) (u : Value) : OwnS (x.setCell ⟨c, j, none⟩ u) B R g0 g1 g2 :=
 ⟨⟨own_kept h.1.1 (fun k hk => Below.heap_setCell x ⟨c, j, none⟩ u k (fun e => hc g0 (by simp) (by rw [hk, e]))), own_kept h.1.2.1 (fun k hk => Below.heap_setCell x ⟨c, j, none⟩ u k (fun e => hc g1 (by simp) (by rw [hk, e]))), own_kept h.1.2.2 (fun k hk => Below.heap_setCell x ⟨c, j, none⟩ u k (fun e => hc g2 (by simp) (by rw [hk, e])))⟩, h.2⟩
/-- The block of an answer that is being laid: apart from the store's rows. -/
def RbT (w : World) (v0 v1 v2 : Value) (rb : Nat) (u0 u1 u2 u3 : Value) (x : World) : Prop := w.heap.size + 2 ≤ rb ∧ Blk4 x rb u0 u1 u2 u3 ∧ ∀ v ∈ [v0, v1, v2], v.ownBlock ≠ some rb
theorem RbT.later {w x x' : World} {v0 v1 v2 : Value} {rb : Nat} {u0 u1 u2 u3 : Value} (h : RbT w v0 v1 v2 rb u0 u1 u2 u3 x) (hb : Below x.heap.size x x') : RbT w v0 v1 v2 rb u0 u1 u2 u3 x' := ⟨h.1, h.2.1.later hb, h.2.2⟩
theorem RbT.step {w x x' : World} {v0 v1 v2 : Value} {rb : Nat} {u0 u1 u2 u3 : Value} {b : Nat} (h : RbT w v0 v1 v2 rb u0 u1 u2 u3 x) (hT : But b x x') (hb : b < w.heap.size) : RbT w v0 v1 v2 rb u0 u1 u2 u3 x' :=
 ⟨h.1, h.2.1.kept (hT.block rb h.2.1.lt (fun e => by have := Option.some.inj e; have := h.1; omega)), h.2.2⟩
theorem RbT.new {w : World} {b : Nat} {o : Option Addr} {len cap : Nat} {S : Sto} {v0 v1 v2 : Value} {a : Int} {x : World} (h : DrS w b o len cap S v0 v1 v2 a x) {u0 u1 u2 u3 : Value} (t : TypeId) : RbT w v0 v1 v2 x.heap.size u0 u1 u2 u3 (x.alloc (.cells #[u0, u1, u2, u3] t)) := ⟨h.sz, Blk4.new x _ _ _ _ _, h.own.fresh⟩
theorem DrS.setR {w : World} {b : Nat} {o : Option Addr} {len cap : Nat} {S : Sto} {v0 v1 v2 : Value} {a : Int} {x : World} (h : DrS w b o len cap S v0 v1 v2 a x) {c : Nat} (hc : w.heap.size + 2 ≤ c) (hn : ∀ v ∈ [v0, v1, v2], v.ownBlock ≠ some c) (j : Nat) (u : Value) : DrS w b o len cap S v0 v1 v2 a (x.setCell ⟨c, j, none⟩ u) where
 src := by
  obtain ⟨z, h0⟩ := h.base
  exact h.src.setS h0 h.but (by omega) j u
 but := h.but.setS (by omega) j u
 res := h.res.kept (Below.heap_setCell _ _ _ _ (by show w.heap.size ≠ c; omega))
 box := h.box.kept (Below.heap_setCell _ _ _ _ (by show w.heap.size + 1 ≠ c; omega))
 own := h.own.setO hn j u
 lo := h.lo
 base := h.base
/-- An answer that was laid: a code and a store of its own. -/
structure RQ (w : World) (v0 v1 v2 : Value) (rb : Nat) (rc : Int) (R : Sto) (g0 g1 g2 : Value) (x : World) : Prop where
 blk : RbT w v0 v1 v2 rb (.int .i64 rc) g0 g1 g2 x
 own : OwnS x (w.heap.size + 2) R g0 g1 g2
 ne : ∀ v ∈ [g0, g1, g2], v.ownBlock ≠ some rb
theorem DrS.put {w : World} {b : Nat} {o : Option Addr} {len cap : Nat} {S : Sto} {v0 v1 v2 : Value} {a : Int} {x : World} (h : DrS w b o len cap S v0 v1 v2 a x) {rb : Nat} {u0 u1 u2 u3 : Value} (hr : RbT w v0 v1 v2 rb u0 u1 u2 u3 x) {B : Nat} {R : Sto} {g0 g1 g2 : Value} (ho : OwnS x B R g0 g1 g2) (hB : w.heap.size + 2 ≤ B) (hq : ∀ v ∈ [g0, g1, g2], v.ownBlock ≠ some rb) (rc : Int) :
  DrS w b o len cap S v0 v1 v2 a ((((x.setCell ⟨rb, 0, none⟩ (.int .i64 rc)).setCell ⟨rb, 1, none⟩ g0).setCell ⟨rb, 2, none⟩ g1).setCell ⟨rb, 3, none⟩ g2) ∧ RQ w v0 v1 v2 rb rc R g0 g1 g2 ((((x.setCell ⟨rb, 0, none⟩ (.int .i64 rc)).setCell ⟨rb, 1, none⟩ g0).setCell ⟨rb, 2, none⟩ g1).setCell ⟨rb, 3, none⟩ g2) :=
 ⟨(((h.setR hr.1 hr.2.2 _ _).setR hr.1 hr.2.2 _ _).setR hr.1 hr.2.2 _ _).setR hr.1 hr.2.2 _ _, ⟨⟨hr.1, hr.2.1.put _ _ _ _, hr.2.2⟩, ((((ho.setO hq _ _).setO hq _ _).setO hq _ _).setO hq _ _).mono hB, hq⟩⟩
theorem RQ.later {w x x' : World} {v0 v1 v2 : Value} {rb : Nat} {rc : Int} {R : Sto} {g0 g1 g2 : Value} (h : RQ w v0 v1 v2 rb rc R g0 g1 g2 x) (hb : Below x.heap.size x x') : RQ w v0 v1 v2 rb rc R g0 g1 g2 x' := ⟨h.blk.later hb, h.own.later hb, h.ne⟩
theorem RQ.step {w x x' : World} {v0 v1 v2 : Value} {rb : Nat} {rc : Int} {R : Sto} {g0 g1 g2 : Value} {b : Nat} (h : RQ w v0 v1 v2 rb rc R g0 g1 g2 x) (hT : But b x x') (hb : b < w.heap.size) : RQ w v0 v1 v2 rb rc R g0 g1 g2 x' :=
 ⟨h.blk.step hT hb, h.own.keptS (fun k hk hl => hT.block k hl (fun e => by have := Option.some.inj e; omega)), h.ne⟩
/-- The answer's store takes the place of the store. -/
theorem DrS.take {w : World} {b : Nat} {o : Option Addr} {len cap : Nat} {S : Sto} {v0 v1 v2 : Value} {a : Int} {x : World} (h : DrS w b o len cap S v0 v1 v2 a x) {rb : Nat} {rc : Int} {R : Sto} {g0 g1 g2 : Value} (hq : RQ w v0 v1 v2 rb rc R g0 g1 g2 x) :
  DrS w b o len cap R g0 g1 g2 a (((x.setCell ⟨w.heap.size + 1, 0, none⟩ g0).setCell ⟨w.heap.size + 1, 1, none⟩ g1).setCell ⟨w.heap.size + 1, 2, none⟩ g2) := by
 obtain ⟨z, h0⟩ := h.base
 have hb : w.heap.size ≤ w.heap.size + 1 := Nat.le_succ _
 have hne : ∀ (X : World) (j : Nat) (u : Value), (X.setCell ⟨w.heap.size + 1, j, none⟩ u).heap[w.heap.size]? = X.heap[w.heap.size]? := fun X j u => Below.heap_setCell X ⟨w.heap.size + 1, j, none⟩ u _ (by show w.heap.size ≠ w.heap.size + 1; omega)
 exact {
  src := ((h.src.setS h0 h.but hb _ _).setS h0 (h.but.setS hb _ _) hb _ _).setS h0 ((h.but.setS hb _ _).setS hb _ _) hb _ _
  but := ((h.but.setS hb _ _).setS hb _ _).setS hb _ _
  res := h.res.kept ((hne _ _ _).trans ((hne _ _ _).trans (hne _ _ _)))
  box := ((h.box.set0 g0).set1 g1).set2 g2
  own := ((hq.own.far (a := ⟨w.heap.size + 1, 0, none⟩) (Nat.lt_succ_self _) _).far (a := ⟨w.heap.size + 1, 1, none⟩) (Nat.lt_succ_self _) _).far (a := ⟨w.heap.size + 1, 2, none⟩) (Nat.lt_succ_self _) _
  lo := h.lo
  base := ⟨z, h0⟩ }
set_option maxHeartbeats 400000 in
theorem l1Chance_any (w : World) (b : Nat) (o : Option Addr) (len cap : Nat) (a n : Int) (h : Src w b o len cap a) (ha : a ≤ 1000000) (hl : len ≤ 1048576) :
  Calls Tryz.prog 29 #[.pointer (some ⟨b, 0, none⟩), .int .i64 n] w fun e w' => ∃ r : Bool, e = .returned (.bool r) ∧ Src w' b o len cap (a + 1) ∧ But b w w' := by
 have H : Hid (Src w b o len cap a) := h
 clear h
 go_enter Tryz.func29, Tryz.ntmps29
 go_wp2_with fail
 refine (l1Next_any _ b o len cap a n H.out ha hl).mono ?_
 rintro e w1 ⟨r, rfl, _, _, hS, hT⟩
 have HR : Hid (Src w1 b o len cap (a + 1) ∧ But b w w1) := ⟨hS, hT⟩
 clear hS hT
 go_wp2
 go_ret
 exact ⟨_, rfl, HR.out⟩
set_option maxRecDepth 10000 in
set_option maxHeartbeats 2000000 in
theorem l2Lock_draw (S : Sto) (b oo : Nat) (v0 v1 v2 : Value) (a : Int) (w : World) (h : LiesO w b oo S v0 v1 v2) (hn : S.nl ≤ 201) :
  Calls Tryz.prog 87 #[.pointer (some ⟨b, oo, none⟩), .int .i64 a] w fun e w' => ∃ r : Int, e = .returned (.int .i64 r) ∧ FirstAt (lockIs S.l a) S.nl r ∧ w' = w := by
 obtain ⟨a0, c0, a1, c1, a2, c2, rfl, rfl, rfl⟩ := h.2.form
 have H : Hid (LiesO w b oo S (.slice a0 S.nc c0) (.slice a1 S.nl c1) (.slice a2 S.nw c2)) := h
 have p0 := h.1.2.1
 have hb := h.lt
 clear h
 go_enter Tryz.func87, Tryz.ntmps87
 go_wp2
 go_loop [5] (fun i => ∃ k : Nat, k ≤ S.nl ∧ i = .int .i64 k ∧ Hid (∀ j, j < k → ¬ lockIs S.l a j)) (fun i => S.nl - (intOf i).toNat)
 case atStart => exact ⟨0, Nat.zero_le _, rfl, fun j hj => absurd hj (Nat.not_lt_zero j)⟩
 case round =>
  obtain ⟨k, hk, rfl, HS⟩ := hrel
  by_cases hlt : k < S.nl
  case neg =>
   obtain rfl : k = S.nl := by omega
   go_wp2
   go_ret
   exact ⟨_, rfl, Or.inl ⟨rfl, HS.out⟩, rfl⟩
  obtain ⟨g, o, rfl, _, hg, x0, x1, x2, x3, x4⟩ := H.out.2.2.1.at5 hlt
  obtain ⟨n0, N0⟩ : ∃ x, S.l (k * 5) = x := ⟨_, rfl⟩
  rw [N0] at x0
  by_cases h0 : n0 = a
  ·have E : Hid (lockIs S.l a k) := N0.trans h0
   clear N0
   subst h0
   go_wp2
   go_ret
   exact ⟨_, rfl, Or.inr ⟨k, hlt, rfl, E.out, HS.out⟩, rfl⟩
  ·have E : Hid (∀ j, j < k + 1 → ¬ lockIs S.l a j) := all_next HS.out (fun q => h0 (N0.symm.trans q))
   have d0 : (n0 == a) = false := beq_eq_false_iff_ne.2 h0
   clear N0 HS h0
   go_wp2
   go_round
   case rel => exact ⟨k + 1, by omega, by go_num, E⟩
   case measure => simp [intOf]; omega
def BoxS (b : Nat) (v0 v1 v2 : Value) (x : World) : Prop := Blk3 x b v0 v1 v2
end Go.Proofs.YtiadbiiiikhfaaaGreatDoor

namespace Go.Proofs.YtiadbiiiikhfaaaGreatDoor
open Go.RowKit

theorem hid_mk {p : Prop} (h : p) : Hid p := h
theorem commitDraw_any (S : Sto) (v0 v1 v2 : Value) (a s c : Int) (B : Nat) (w : World) (h : St w B S v0 v1 v2) :
  Calls Tryz.prog 19 #[.agg #[v0, v1, v2], .int .i64 a, .int .i64 s, .int .i64 c] w fun e w' => ∃ r R, Sz R ∧ ResStoK w r R e w' := by
 obtain ⟨r, R, _, hA⟩ := CommitAns.get S a s c
 exact (specCommitKey_own S v0 v1 v2 a s c r R B w h hA).mono fun e w' q => ⟨r, R, hA.sz, q⟩
theorem rollDraw_any (S : Sto) (v0 v1 v2 : Value) (a s : Int) (B : Nat) (w : World) (h : St w B S v0 v1 v2) :
  Calls Tryz.prog 25 #[.agg #[v0, v1, v2], .int .i64 a, .int .i64 s] w fun e w' => ∃ r R, Sz R ∧ ResStoK w r R e w' := by
 obtain ⟨r, R, _, hA⟩ := RollAns.get S a s
 exact (specRollbackKey_own S v0 v1 v2 a s r R B w h hA).mono fun e w' q => ⟨r, R, hA.sz, q⟩
set_option maxRecDepth 100000 in
set_option maxHeartbeats 16000000 in
theorem l3Right_any (w : World) (b : Nat) (o : Option Addr) (len cap : Nat) (a : Int) (h : Src w b o len cap a) (ha : a ≤ 100000) (hl : len ≤ 1048576) :
  Calls Tryz.prog 103 #[.pointer (some ⟨b, 0, none⟩)] w fun e w' => ∃ (S : Sto) (a0 : Option Addr) (c0 : Nat) (a1 : Option Addr) (c1 : Nat) (a2 : Option Addr) (c2 : Nat) (z : Int), e = .returned (.agg #[.slice a0 S.nc c0, .slice a1 S.nl c1, .slice a2 S.nw c2]) ∧ (Sz S ∧ z ≤ a + 700) ∧ OwnS w' w.heap.size S (.slice a0 S.nc c0) (.slice a1 S.nl c1) (.slice a2 S.nw c2) ∧ Src w' b o len cap z ∧ But b w w' := by
 have hbl := h.lt
 have hpos := h.pos
 have H0 : Hid (Src w b o len cap a) := h
 have D0 : Hid (DrS w b o len cap emptyS (.slice none 0 0) (.slice none 0 0) (.slice none 0 0) a ((w.alloc (.cells #[.slice none 0 0, .slice none 0 0, .slice none 0 0] 28)).alloc (.cells #[.slice none 0 0, .slice none 0 0, .slice none 0 0] 28))) := {
  src := (h.alloc _).alloc _
  but := ((But.refl _ _).alloc _).alloc _
  res := (Blk3.new w _ _ _ _).alloc _
  box := by
   have := Blk3.new (w.alloc (.cells #[.slice none 0 0, .slice none 0 0, .slice none 0 0] 28)) (.slice none 0 0) (.slice none 0 0) (.slice none 0 0) 28
   rwa [World.size_alloc] at this
  own := OwnS.empty _ _
  lo := hbl
  base := ⟨a, h⟩ }
 clear h
 go_enter Tryz.func103, Tryz.ntmps103
 go_wp2_with fail
 refine (l1Next_any _ b o len cap a 30 D0.out.src (by omega) hl).mono ?_
 rintro e w1 ⟨r, rfl, p0, p1, hS1, hT1⟩
 have p2 : r < 30 := p1 (by omega)
 obtain ⟨k0, rfl⟩ : ∃ k : Nat, r = k := ⟨r.toNat, by omega⟩
 have D1 : Hid (DrS w b o len cap emptyS (.slice none 0 0) (.slice none 0 0) (.slice none 0 0) (a + 1) w1) := D0.out.step hT1 hS1
 clear hS1 hT1 D0 p0 p1
 go_wp2
 go_loopw [4] (fun i wr => ∃ (z : Nat) (S : Sto) (a0 : Option Addr) (c0 : Nat) (a1 : Option Addr) (c1 : Nat) (a2 : Option Addr) (c2 : Nat) (c : Int), i = .int .i64 z ∧ z ≤ 29 ∧ (0 ≤ c ∧ c + 20 * z ≤ a + 601) ∧ Hid (Sz S) ∧ Hid (DrS w b o len cap S (.slice a0 S.nc c0) (.slice a1 S.nl c1) (.slice a2 S.nw c2) c wr)) (fun i _ => (intOf i).toNat)
 case atStart => exact ⟨k0, emptyS, none, 0, none, 0, none, 0, a + 1, rfl, by omega, ⟨by omega, by omega⟩, sz_empty, D1⟩
 case round =>
  clear D1
  obtain ⟨z, S, a0, c0, a1, c1, a2, c2, c, rfl, hz29, hcz, HZ, HD⟩ := hrel
  by_cases hz : 0 < z
  case neg =>
   obtain rfl : z = 0 := by omega
   obtain ⟨⟨r0, r1, r2⟩, f0, f1, f2⟩ := HD.out.res
   obtain ⟨⟨t0, t1, t2⟩, _⟩ := HD.out.box
   go_wp2
   have hlo : (w.heap.size : Nat) < w.heap.size + 2 := by omega
   refine bodyPost_ret (v := .agg #[.slice a0 S.nc c0, .slice a1 S.nl c1, .slice a2 S.nw c2]) (by simp [results, Tryz.results103, go_sem, r0, r1, r2]) rfl ⟨S, a0, c0, a1, c1, a2, c2, c, rfl, ⟨HZ.out, by omega⟩, (((HD.out.own.far hlo _).far hlo _).far hlo _).mono (by omega), ?_, ?_⟩
   ·exact ((HD.out.src.setS H0.out HD.out.but (Nat.le_refl _) _ _).setS H0.out (HD.out.but.setS (Nat.le_refl _) _ _) (Nat.le_refl _) _ _).setS H0.out ((HD.out.but.setS (Nat.le_refl _) _ _).setS (Nat.le_refl _) _ _) (Nat.le_refl _) _ _
   ·exact ((HD.out.but.setS (Nat.le_refl _) _ _).setS (Nat.le_refl _) _ _).setS (Nat.le_refl _) _ _
  have dz : decide (0 < z) = true := decide_eq_true hz
  have hwz : IntKind.i64.wrap ((z : Int) - 1) = ((z - 1 : Nat) : Int) := by simp [IntKind.wrap, IntKind.bits, IntKind.signed]; omega
  go_wp2_with fail
  refine (l1Next_any _ b o len cap c 12 HD.out.src (by omega) hl).mono ?_
  rintro e w2 ⟨rs, rfl, s0, s1, hS2, hT2⟩
  have s2 : rs < 12 := s1 (by omega)
  have HD : Hid (DrS w b o len cap S (.slice a0 S.nc c0) (.slice a1 S.nl c1) (.slice a2 S.nw c2) (c + 1) w2) := HD.out.step hT2 hS2
  clear hS2 hT2 s1
  go_wp2_with fail
  refine (l1Key_any _ b o len cap (c + 1) HD.out.src (by omega) hl).mono ?_
  rintro e w3 ⟨ky, rfl, _, hS3, hT3⟩
  have HD : Hid (DrS w b o len cap S (.slice a0 S.nc c0) (.slice a1 S.nl c1) (.slice a2 S.nw c2) (c + 1 + 5) w3) := HD.out.step hT3 hS3
  clear hS3 hT3
  go_upto_region 7 with fail
  go_cut [30] (fun s wx => ∃ (q : Bool) (d : Int), s = .bool q ∧ (q = true → 0 < S.nl) ∧ (0 ≤ d ∧ d ≤ c + 7) ∧ Hid (DrS w b o len cap S (.slice a0 S.nc c0) (.slice a1 S.nl c1) (.slice a2 S.nw c2) d wx))
  case first =>
   obtain ⟨⟨t0, t1, t2⟩, _⟩ := HD.out.box
   by_cases hnl : 0 < S.nl
   case neg =>
    have dn : decide (0 < S.nl) = false := decide_eq_false hnl
    go_wp2_with fail
    go_meet
    case rel => exact ⟨false, _, rfl, fun q => absurd q (by decide), ⟨by omega, by omega⟩, HD⟩
   have dn : decide (0 < S.nl) = true := decide_eq_true hnl
   go_wp2_with fail
   refine (l1Chance_any _ b o len cap (c + 1 + 5) 2 HD.out.src (by omega) hl).mono ?_
   rintro e w4 ⟨r, rfl, hS4, hT4⟩
   have HD : Hid (DrS w b o len cap S (.slice a0 S.nc c0) (.slice a1 S.nl c1) (.slice a2 S.nw c2) (c + 1 + 5 + 1) w4) := HD.out.step hT4 hS4
   clear hS4 hT4 t0 t1 t2
   go_wp2_with fail
   go_meet
   case rel => exact ⟨r, _, rfl, fun _ => hnl, ⟨by omega, by omega⟩, HD⟩
  case rest =>
  clear HD
  obtain ⟨q, d, rfl, hq, hd, HD⟩ := hcut
  go_upto_if 30 with fail
  go_cut [5, 6] (fun s k wx => ∃ (st ky d : Int), s = .int .i64 st ∧ k = .int .i64 ky ∧ (0 ≤ d ∧ d ≤ c + 8) ∧ Hid (DrS w b o len cap S (.slice a0 S.nc c0) (.slice a1 S.nl c1) (.slice a2 S.nw c2) d wx))
  case first =>
   cases q with
   | false =>
    go_wp2_with fail
    go_meet
    case rel => exact ⟨_, _, _, rfl, rfl, ⟨by omega, by omega⟩, HD⟩
   | true =>
    have hnl := hq rfl
    clear hq
    go_wp2_with fail
    refine wp_region_held_drew (S := BoxS (w.heap.size + 1) (.slice a0 S.nc c0) (.slice a1 S.nl c1) (.slice a2 S.nw c2)) (by kernel_rfl) (HD.out.box.kept rfl) (fun hS => ?_)
    have HD : Hid (DrS w b o len cap S (.slice a0 S.nc c0) (.slice a1 S.nl c1) (.slice a2 S.nw c2) d wc.drew) := HD.out.later (below_dr (Below.refl _ _) 1)
    generalize wc.drew = w5 at HD hS ⊢
    refine tkH 0 ?_ hS (fun wx hx => ?_) ?_; rotate_left
    ·obtain ⟨⟨hx0, hx1, hx2⟩, _⟩ := hx; go_simp; try with_reducible rfl
    refine tkH 1 ?_ hS (fun wx hx => ?_) ?_; rotate_left
    ·obtain ⟨⟨hx0, hx1, hx2⟩, _⟩ := hx; go_simp; try with_reducible rfl
    refine tkH 2 ?_ hS (fun wx hx => ?_) ?_; rotate_left
    ·obtain ⟨⟨hx0, hx1, hx2⟩, _⟩ := hx; go_simp; try with_reducible rfl
    refine tkH 3 ?_ hS (fun wx hx => ?_) ?_; rotate_left
    ·obtain ⟨⟨hx0, hx1, hx2⟩, _⟩ := hx; go_simp; try with_reducible rfl
    refine tkH 4 ?_ hS (fun wx hx => ?_) ?_; rotate_left
    ·obtain ⟨⟨hx0, hx1, hx2⟩, _⟩ := hx; go_simp; try with_reducible rfl
    refine tkH 5 ?_ hS (fun wx hx => ?_) ?_; rotate_left
    ·obtain ⟨⟨hx0, hx1, hx2⟩, _⟩ := hx; go_simp; try with_reducible rfl
    refine rdH 6 (fun K hK => ?_)
    go_simp
    go_wp2_with fail
    refine (l1Next_any _ b o len cap d S.nl HD.out.src (by omega) hl).mono ?_
    rintro e w6 ⟨ri, rfl, i0, i1, hS6, hT6⟩
    have i2 : ri < S.nl := i1 (by omega)
    obtain ⟨i, rfl⟩ : ∃ i : Nat, ri = i := ⟨ri.toNat, by omega⟩
    have hin : i < S.nl := by omega
    have HD : Hid (DrS w b o len cap S (.slice a0 S.nc c0) (.slice a1 S.nl c1) (.slice a2 S.nw c2) (d + 1) w6) := HD.out.step hT6 hS6
    have hS' : BoxS (w.heap.size + 1) (.slice a0 S.nc c0) (.slice a1 S.nl c1) (.slice a2 S.nw c2) w6 := HD.out.box
    clear hS6 hT6 i1
    go_wp2_with fail
    refine hK.out _ _ hS' (fun hS => ?_)
    clear hK K hS'
    obtain ⟨g, oo, rfl, _, hg, x0, x1, x2, x3, x4⟩ := HD.out.own.st.2.1.at5 hin
    obtain ⟨n0, N0⟩ : ∃ x, S.l (i * 5) = x := ⟨_, rfl⟩
    rw [N0] at x0
    refine tkH 7 ?_ hS (fun wx hx => ?_) ?_; rotate_left
    ·obtain ⟨⟨hx0, hx1, hx2⟩, _⟩ := hx; go_simp; try with_reducible rfl
    refine tkH 8 ?_ hS (fun wx hx => ?_) ?_; rotate_left
    ·obtain ⟨⟨hx0, hx1, hx2⟩, _⟩ := hx; go_simp; try with_reducible rfl
    refine rdH 9 (fun K hK => ?_)
    go_simp
    refine hK.out _ _ hS (fun hS => ?_)
    clear hK K
    refine tkH 10 ?_ hS (fun wx hx => ?_) ?_; rotate_left
    ·obtain ⟨⟨hx0, hx1, hx2⟩, _⟩ := hx; go_simp; try with_reducible rfl
    refine wpAnyH_done (by kernel_rfl) ?_ _
    clear hS x0 x1 x2 x3 x4
    go_simp
    go_wp2_with fail
    refine wp_region_held_drew (S := BoxS (w.heap.size + 1) (.slice a0 S.nc c0) (.slice (some ⟨g, oo, none⟩) S.nl c1) (.slice a2 S.nw c2)) (by kernel_rfl) (HD.out.box.kept rfl) (fun hS => ?_)
    have HD : Hid (DrS w b o len cap S (.slice a0 S.nc c0) (.slice (some ⟨g, oo, none⟩) S.nl c1) (.slice a2 S.nw c2) (d + 1) w6.drew) := HD.out.later (below_dr (Below.refl _ _) 1)
    generalize w6.drew = w7 at HD hS ⊢
    refine tkH 0 ?_ hS (fun wx hx => ?_) ?_; rotate_left
    ·obtain ⟨⟨hx0, hx1, hx2⟩, _⟩ := hx; go_simp; try with_reducible rfl
    refine tkH 1 ?_ hS (fun wx hx => ?_) ?_; rotate_left
    ·obtain ⟨⟨hx0, hx1, hx2⟩, _⟩ := hx; go_simp; try with_reducible rfl
    refine tkH 2 ?_ hS (fun wx hx => ?_) ?_; rotate_left
    ·obtain ⟨⟨hx0, hx1, hx2⟩, _⟩ := hx; go_simp; try with_reducible rfl
    refine rdH 3 (fun K hK => ?_)
    go_simp
    go_wp2_with fail
    refine (l2Lock_draw S (w.heap.size + 1) 0 _ _ _ n0 _ ⟨HD.out.box.1, HD.out.own.st.mono (Nat.zero_le _)⟩ HZ.out.2.1).mono ?_
    rintro e w8 ⟨rj, rfl, hF, hw8⟩
    obtain rfl := hw8.symm
    obtain ⟨j, hj, rfl⟩ : ∃ j : Nat, j < S.nl ∧ rj = j := by
     rcases hF with ⟨_, hno⟩ | ⟨j, hj, e, _⟩
     ·exact absurd N0 (hno i hin)
     ·exact ⟨j, hj, e⟩
    clear hF N0
    go_wp2_with fail
    refine hK.out _ _ hS (fun hS => ?_)
    clear hK K
    obtain ⟨g', oo', e', _, _, x0, x1, x2, x3, x4⟩ := HD.out.own.st.2.1.at5 hj
    simp only [Option.some.injEq, Addr.mk.injEq] at e'
    obtain ⟨rfl, rfl, _⟩ := e'
    obtain ⟨n1, N1⟩ : ∃ x, S.l (j * 5 + 1) = x := ⟨_, rfl⟩
    rw [N1] at x1
    refine tkH 4 ?_ hS (fun wx hx => ?_) ?_; rotate_left
    ·obtain ⟨⟨hx0, hx1, hx2⟩, _⟩ := hx; go_simp; try with_reducible rfl
    refine tkH 5 ?_ hS (fun wx hx => ?_) ?_; rotate_left
    ·obtain ⟨⟨hx0, hx1, hx2⟩, _⟩ := hx; go_simp; try with_reducible rfl
    refine rdH 6 (fun K hK => ?_)
    go_simp
    refine hK.out _ _ hS (fun hS => ?_)
    clear hK K
    refine tkH 7 ?_ hS (fun wx hx => ?_) ?_; rotate_left
    ·obtain ⟨⟨hx0, hx1, hx2⟩, _⟩ := hx; go_simp; try with_reducible rfl
    refine wpAnyH_done (by kernel_rfl) ?_ _
    clear hS x0 x1 x2 x3 x4
    go_simp
    go_wp2_with fail
    go_meet
    case rel => exact ⟨_, _, _, rfl, rfl, ⟨by omega, by omega⟩, HD⟩
  case rest =>
  obtain ⟨st, ky, d, rfl, rfl, hd, HD⟩ := hcut
  clear hq
  have hI : Hid (Ints (wc.alloc (.cells #[.int .i64 1, .int .i64 1, .int .i64 1, .int .i64 2, .int .i64 3] 2)) wc.heap.size (.slice (some ⟨wc.heap.size, 0, none⟩) 5 5) [1, 1, 1, 2, 3]) := World.ownsRow_lit wc #[.int .i64 1, .int .i64 1, .int .i64 1, .int .i64 2, .int .i64 3] 5 (Nat.le_refl _) (by decide) rfl
  go_wp2_with fail
  refine (l1Pick_any _ b o len cap d _ wc.heap.size [1, 1, 1, 2, 3] (HD.out.src.alloc _) (by omega) hl hI.out HD.out.src.lt (by simp) (by simp)).mono ?_
  rintro e w4 ⟨kd, rfl, _, hS4, hT4⟩
  have HD : Hid (DrS w b o len cap S (.slice a0 S.nc c0) (.slice a1 S.nl c1) (.slice a2 S.nw c2) (d + 1) w4) := (HD.out.later (below_alloc _ _)).step hT4 hS4
  clear hS4 hT4 hI
  go_upto_if 52 with fail
  go_cut [8] (fun s wx => ∃ (va e : Int), s = .int .i64 va ∧ (0 ≤ e ∧ e ≤ d + 2) ∧ Hid (DrS w b o len cap S (.slice a0 S.nc c0) (.slice a1 S.nl c1) (.slice a2 S.nw c2) (e) wx))
  case first =>
   by_cases hk : kd = 1
   ·have dk : (kd == 1) = true := by rw [hk]; rfl
    clear hk
    go_wp2_with fail
    refine (l1Next_any _ b o len cap (d + 1) 99 HD.out.src (by omega) hl).mono ?_
    rintro e w5 ⟨va, rfl, _, _, hS5, hT5⟩
    have HD : Hid (DrS w b o len cap S (.slice a0 S.nc c0) (.slice a1 S.nl c1) (.slice a2 S.nw c2) (d + 1 + 1) w5) := HD.out.step hT5 hS5
    clear hS5 hT5
    go_wp2_with fail
    go_meet
    case rel => exact ⟨_, _, rfl, ⟨by omega, by omega⟩, HD⟩
   ·have dk : (kd == 1) = false := beq_eq_false_iff_ne.2 hk
    clear hk
    go_wp2_with fail
    go_meet
    case rel => exact ⟨_, _, rfl, ⟨by omega, by omega⟩, HD⟩
  case rest =>
  clear HD
  obtain ⟨va, d', rfl, hd', HD⟩ := hcut
  have HB : Hid (b < w.heap.size) := hbl
  go_upto_region 14 with fail
  go_cut [9] (fun s wx => ∃ (rb : Nat) (rc : Int) (R : Sto) (g0 : Option Addr) (q0 : Nat) (g1 : Option Addr) (q1 : Nat) (g2 : Option Addr) (q2 : Nat) (e : Int), s = .pointer (some ⟨rb, 0, none⟩) ∧ (0 ≤ e ∧ e ≤ d' + 2) ∧ Hid (Sz R) ∧ Hid (DrS w b o len cap S (.slice a0 S.nc c0) (.slice a1 S.nl c1) (.slice a2 S.nw c2) (e) wx) ∧ Hid (RQ w (.slice a0 S.nc c0) (.slice a1 S.nl c1) (.slice a2 S.nw c2) rb rc R (.slice g0 R.nc q0) (.slice g1 R.nl q1) (.slice g2 R.nw q2) wx))
  case first =>
   refine wp_region_held_drew (S := BoxS (w.heap.size + 1) (.slice a0 S.nc c0) (.slice a1 S.nl c1) (.slice a2 S.nw c2)) (by kernel_rfl) (HD.out.box.kept rfl) (fun hS => ?_)
   have HD : Hid (DrS w b o len cap S (.slice a0 S.nc c0) (.slice a1 S.nl c1) (.slice a2 S.nw c2) (d') wc.drew) := HD.out.later (below_dr (Below.refl _ _) 1)
   generalize wc.drew = y0 at HD hS ⊢
   refine tkH 0 ?_ hS (fun wx hx => ?_) ?_; rotate_left
   ·obtain ⟨⟨hx0, hx1, hx2⟩, _⟩ := hx; go_simp; try with_reducible rfl
   refine tkH 1 ?_ hS (fun wx hx => ?_) ?_; rotate_left
   ·obtain ⟨⟨hx0, hx1, hx2⟩, _⟩ := hx; go_simp; try with_reducible rfl
   refine tkH 2 ?_ hS (fun wx hx => ?_) ?_; rotate_left
   ·obtain ⟨⟨hx0, hx1, hx2⟩, _⟩ := hx; go_simp; try with_reducible rfl
   refine tkH 3 ?_ hS (fun wx hx => ?_) ?_; rotate_left
   ·obtain ⟨⟨hx0, hx1, hx2⟩, _⟩ := hx; go_simp; try with_reducible rfl
   refine tkH 4 ?_ hS (fun wx hx => ?_) ?_; rotate_left
   ·obtain ⟨⟨hx0, hx1, hx2⟩, _⟩ := hx; go_simp; try with_reducible rfl
   refine tkH 5 ?_ hS (fun wx hx => ?_) ?_; rotate_left
   ·obtain ⟨⟨hx0, hx1, hx2⟩, _⟩ := hx; go_simp; try with_reducible rfl
   refine tkH 6 ?_ hS (fun wx hx => ?_) ?_; rotate_left
   ·obtain ⟨⟨hx0, hx1, hx2⟩, _⟩ := hx; go_simp; try with_reducible rfl
   refine tkH 9 ?_ hS (fun wx hx => ?_) ?_; rotate_left
   ·obtain ⟨⟨hx0, hx1, hx2⟩, _⟩ := hx; go_simp; try with_reducible rfl
   refine wpAnyH_ready (rs := [7, 12]) (by kernel_rfl) (by simp) ?_
   refine AllReadyH.cons rfl (fun K hK => ?_) (AllReadyH.cons rfl (fun K hK => ?_) AllReadyH.nil)
   focus
    go_simp
    have HI : Hid (Ints (y0.alloc (.cells #[.int .i64 ky, .int .i64 0, .int .i64 10] 2)) y0.heap.size (.slice (some ⟨y0.heap.size, 0, none⟩) 3 3) [ky, 0, 10]) := World.ownsRow_lit y0 #[.int .i64 ky, .int .i64 0, .int .i64 10] 3 (Nat.le_refl _) (by decide) rfl
    have HG : Hid (b < y0.heap.size) := HD.out.src.lt
    have HD : Hid (DrS w b o len cap S (.slice a0 S.nc c0) (.slice a1 S.nl c1) (.slice a2 S.nw c2) (d') (y0.alloc (.cells #[.int .i64 ky, .int .i64 0, .int .i64 10] 2))) := HD.out.later (below_alloc _ _)
    refine hK.out _ _ (show BoxS _ _ _ _ _ from hS.alloc _) (fun hS => ?_)
    clear hK K
    generalize y0.alloc (.cells #[.int .i64 ky, .int .i64 0, .int .i64 10] 2) = y1 at HD HI hS ⊢
    refine wpAnyH_ready (rs := [8, 12]) (by kernel_rfl) (by simp) ?_
    refine AllReadyH.cons rfl (fun K hK => ?_) (AllReadyH.cons rfl (fun K hK => ?_) AllReadyH.nil)
    focus
     go_simp
     go_wp2_with fail
     refine (l1Pick_any _ b o len cap (d') _ y0.heap.size [ky, 0, 10] HD.out.src (by omega) hl HI.out HG.out (by simp) (by simp)).mono ?_
     rintro e y2 ⟨pr, rfl, _, hS1, hT1⟩
     have HD : Hid (DrS w b o len cap S (.slice a0 S.nc c0) (.slice a1 S.nl c1) (.slice a2 S.nw c2) (d' + 1) y2) := HD.out.step hT1 hS1
     have hS' : BoxS (w.heap.size + 1) (.slice a0 S.nc c0) (.slice a1 S.nl c1) (.slice a2 S.nw c2) y2 := HD.out.box
     clear hS1 hT1 HI
     go_wp2_with fail
     refine hK.out _ _ hS' (fun hS => ?_)
     clear hK K hS'
     refine wpAnyH_ready (rs := [10, 12]) (by kernel_rfl) (by simp) ?_
     refine AllReadyH.cons rfl (fun K hK => ?_) (AllReadyH.cons rfl (fun K hK => ?_) AllReadyH.nil)
     focus
      go_simp
      go_wp2_with fail
      refine (l1Next_any _ b o len cap (d' + 1) 99 HD.out.src (by omega) hl).mono ?_
      rintro e y3 ⟨un, rfl, _, _, hS1, hT1⟩
      have HD : Hid (DrS w b o len cap S (.slice a0 S.nc c0) (.slice a1 S.nl c1) (.slice a2 S.nw c2) (d' + 1 + 1) y3) := HD.out.step hT1 hS1
      have hS' : BoxS (w.heap.size + 1) (.slice a0 S.nc c0) (.slice a1 S.nl c1) (.slice a2 S.nw c2) y3 := HD.out.box
      clear hS1 hT1
      go_wp2_with fail
      refine hK.out _ _ hS' (fun hS => ?_)
      clear hK K hS'
      refine wpAnyH_ready (rs := [11, 12]) (by kernel_rfl) (by simp) ?_
      refine AllReadyH.cons rfl (fun K hK => ?_) (AllReadyH.cons rfl (fun K hK => ?_) AllReadyH.nil)
      focus
       go_simp
       obtain ⟨rc, R, _, hA⟩ := PreAns.get S ky st kd va pr un
       have HA : Hid (PreAns S ky st kd va pr un rc R) := hA
       clear hA
       go_wp2_with fail
       refine (specPrewrite_own S _ _ _ ky st kd va pr un rc R 0 _ (HD.out.own.st.mono (Nat.zero_le _)) HA.out).mono ?_
       rintro e y4 ⟨g0, q0, g1, q1, g2, q2, rfl, o5, q5⟩
       have HP : Hid (Sz R ∧ w.heap.size + 2 ≤ y3.heap.size ∧ OwnS y4 y3.heap.size R (.slice g0 R.nc q0) (.slice g1 R.nl q1) (.slice g2 R.nw q2)) := ⟨HA.out.sz, HD.out.sz, o5⟩
       have HD : Hid (DrS w b o len cap S (.slice a0 S.nc c0) (.slice a1 S.nl c1) (.slice a2 S.nw c2) (d' + 1 + 1) y4) := HD.out.later q5
       have hS' : BoxS (w.heap.size + 1) (.slice a0 S.nc c0) (.slice a1 S.nl c1) (.slice a2 S.nw c2) y4 := HD.out.box
       clear o5 q5 HA
       go_wp2_with fail
       refine hK.out _ _ hS' (fun hS => ?_)
       clear hK K hS'
       refine rdH 12 (fun K hK => ?_)
       go_simp
       have RB : Hid (RbT w (.slice a0 S.nc c0) (.slice a1 S.nl c1) (.slice a2 S.nw c2) y4.heap.size (.int .i64 0) (.slice none 0 0) (.slice none 0 0) (.slice none 0 0) (y4.alloc (.cells #[.int .i64 0, .slice none 0 0, .slice none 0 0, .slice none 0 0] 32))) := RbT.new HD.out _
       have HN : Hid (∀ v ∈ [(.slice g0 R.nc q0 : Value), .slice g1 R.nl q1, .slice g2 R.nw q2], v.ownBlock ≠ some y4.heap.size) := HP.out.2.2.fresh
       have HP : Hid (Sz R ∧ w.heap.size + 2 ≤ y3.heap.size ∧ OwnS (y4.alloc (.cells #[.int .i64 0, .slice none 0 0, .slice none 0 0, .slice none 0 0] 32)) y3.heap.size R (.slice g0 R.nc q0) (.slice g1 R.nl q1) (.slice g2 R.nw q2)) := ⟨HP.out.1, HP.out.2.1, HP.out.2.2.later (below_alloc _ _)⟩
       have HD : Hid (DrS w b o len cap S (.slice a0 S.nc c0) (.slice a1 S.nl c1) (.slice a2 S.nw c2) (d' + 1 + 1) (y4.alloc (.cells #[.int .i64 0, .slice none 0 0, .slice none 0 0, .slice none 0 0] 32))) := HD.out.later (below_alloc _ _)
       refine hK.out _ _ (show BoxS _ _ _ _ _ from hS.alloc _) (fun hS => ?_)
       clear hK K
       generalize y4.alloc (.cells #[.int .i64 0, .slice none 0 0, .slice none 0 0, .slice none 0 0] 32) = y5 at HD RB HP hS ⊢
       obtain ⟨rb, hrb⟩ : ∃ rb, y4.heap.size = rb := ⟨_, rfl⟩
       rw [hrb] at RB HN ⊢
       clear hrb
      rotate_left
      focus
       go_simp
       have RB : Hid (RbT w (.slice a0 S.nc c0) (.slice a1 S.nl c1) (.slice a2 S.nw c2) y3.heap.size (.int .i64 0) (.slice none 0 0) (.slice none 0 0) (.slice none 0 0) (y3.alloc (.cells #[.int .i64 0, .slice none 0 0, .slice none 0 0, .slice none 0 0] 32))) := RbT.new HD.out _
       have HD : Hid (DrS w b o len cap S (.slice a0 S.nc c0) (.slice a1 S.nl c1) (.slice a2 S.nw c2) (d' + 1 + 1) (y3.alloc (.cells #[.int .i64 0, .slice none 0 0, .slice none 0 0, .slice none 0 0] 32))) := HD.out.later (below_alloc _ _)
       refine hK.out _ _ (show BoxS _ _ _ _ _ from hS.alloc _) (fun hS => ?_)
       clear hK K
       generalize y3.alloc (.cells #[.int .i64 0, .slice none 0 0, .slice none 0 0, .slice none 0 0] 32) = y4 at HD RB hS ⊢
       obtain ⟨rb, hrb⟩ : ∃ rb, y3.heap.size = rb := ⟨_, rfl⟩
       rw [hrb] at RB ⊢
       clear hrb
       refine rdH 11 (fun K hK => ?_)
       go_simp
       obtain ⟨rc, R, _, hA⟩ := PreAns.get S ky st kd va pr un
       have HA : Hid (PreAns S ky st kd va pr un rc R) := hA
       clear hA
       go_wp2_with fail
       refine (specPrewrite_own S _ _ _ ky st kd va pr un rc R 0 _ (HD.out.own.st.mono (Nat.zero_le _)) HA.out).mono ?_
       rintro e y5 ⟨g0, q0, g1, q1, g2, q2, rfl, o5, q5⟩
       have HP : Hid (Sz R ∧ w.heap.size + 2 ≤ y4.heap.size ∧ OwnS y5 y4.heap.size R (.slice g0 R.nc q0) (.slice g1 R.nl q1) (.slice g2 R.nw q2)) := ⟨HA.out.sz, HD.out.sz, o5⟩
       have HN : Hid (∀ v ∈ [(.slice g0 R.nc q0 : Value), .slice g1 R.nl q1, .slice g2 R.nw q2], v.ownBlock ≠ some rb) := o5.off RB.out.2.1.lt
       have HD : Hid (DrS w b o len cap S (.slice a0 S.nc c0) (.slice a1 S.nl c1) (.slice a2 S.nw c2) (d' + 1 + 1) y5) := HD.out.later q5
       have RB : Hid (RbT w (.slice a0 S.nc c0) (.slice a1 S.nl c1) (.slice a2 S.nw c2) rb (.int .i64 0) (.slice none 0 0) (.slice none 0 0) (.slice none 0 0) y5) := RB.out.later q5
       have hS' : BoxS (w.heap.size + 1) (.slice a0 S.nc c0) (.slice a1 S.nl c1) (.slice a2 S.nw c2) y5 := HD.out.box
       clear o5 q5 HA
       go_wp2_with fail
       refine hK.out _ _ hS' (fun hS => ?_)
       clear hK K hS'
      rotate_left
     rotate_left 2
     focus
      go_simp
      have RB : Hid (RbT w (.slice a0 S.nc c0) (.slice a1 S.nl c1) (.slice a2 S.nw c2) y2.heap.size (.int .i64 0) (.slice none 0 0) (.slice none 0 0) (.slice none 0 0) (y2.alloc (.cells #[.int .i64 0, .slice none 0 0, .slice none 0 0, .slice none 0 0] 32))) := RbT.new HD.out _
      have HD : Hid (DrS w b o len cap S (.slice a0 S.nc c0) (.slice a1 S.nl c1) (.slice a2 S.nw c2) (d' + 1) (y2.alloc (.cells #[.int .i64 0, .slice none 0 0, .slice none 0 0, .slice none 0 0] 32))) := HD.out.later (below_alloc _ _)
      refine hK.out _ _ (show BoxS _ _ _ _ _ from hS.alloc _) (fun hS => ?_)
      clear hK K
      generalize y2.alloc (.cells #[.int .i64 0, .slice none 0 0, .slice none 0 0, .slice none 0 0] 32) = y3 at HD RB hS ⊢
      obtain ⟨rb, hrb⟩ : ∃ rb, y2.heap.size = rb := ⟨_, rfl⟩
      rw [hrb] at RB ⊢
      clear hrb
      refine rdH 10 (fun K hK => ?_)
      go_simp
      go_wp2_with fail
      refine (l1Next_any _ b o len cap (d' + 1) 99 HD.out.src (by omega) hl).mono ?_
      rintro e y4 ⟨un, rfl, _, _, hS1, hT1⟩
      have HD : Hid (DrS w b o len cap S (.slice a0 S.nc c0) (.slice a1 S.nl c1) (.slice a2 S.nw c2) (d' + 1 + 1) y4) := HD.out.step hT1 hS1
      have RB : Hid (RbT w (.slice a0 S.nc c0) (.slice a1 S.nl c1) (.slice a2 S.nw c2) rb (.int .i64 0) (.slice none 0 0) (.slice none 0 0) (.slice none 0 0) y4) := RB.out.step hT1 HB.out
      have hS' : BoxS (w.heap.size + 1) (.slice a0 S.nc c0) (.slice a1 S.nl c1) (.slice a2 S.nw c2) y4 := HD.out.box
      clear hS1 hT1
      go_wp2_with fail
      refine hK.out _ _ hS' (fun hS => ?_)
      clear hK K hS'
      refine rdH 11 (fun K hK => ?_)
      go_simp
      obtain ⟨rc, R, _, hA⟩ := PreAns.get S ky st kd va pr un
      have HA : Hid (PreAns S ky st kd va pr un rc R) := hA
      clear hA
      go_wp2_with fail
      refine (specPrewrite_own S _ _ _ ky st kd va pr un rc R 0 _ (HD.out.own.st.mono (Nat.zero_le _)) HA.out).mono ?_
      rintro e y5 ⟨g0, q0, g1, q1, g2, q2, rfl, o5, q5⟩
      have HP : Hid (Sz R ∧ w.heap.size + 2 ≤ y4.heap.size ∧ OwnS y5 y4.heap.size R (.slice g0 R.nc q0) (.slice g1 R.nl q1) (.slice g2 R.nw q2)) := ⟨HA.out.sz, HD.out.sz, o5⟩
      have HN : Hid (∀ v ∈ [(.slice g0 R.nc q0 : Value), .slice g1 R.nl q1, .slice g2 R.nw q2], v.ownBlock ≠ some rb) := o5.off RB.out.2.1.lt
      have HD : Hid (DrS w b o len cap S (.slice a0 S.nc c0) (.slice a1 S.nl c1) (.slice a2 S.nw c2) (d' + 1 + 1) y5) := HD.out.later q5
      have RB : Hid (RbT w (.slice a0 S.nc c0) (.slice a1 S.nl c1) (.slice a2 S.nw c2) rb (.int .i64 0) (.slice none 0 0) (.slice none 0 0) (.slice none 0 0) y5) := RB.out.later q5
      have hS' : BoxS (w.heap.size + 1) (.slice a0 S.nc c0) (.slice a1 S.nl c1) (.slice a2 S.nw c2) y5 := HD.out.box
      clear o5 q5 HA
      go_wp2_with fail
      refine hK.out _ _ hS' (fun hS => ?_)
      clear hK K hS'
     rotate_left
    rotate_left 3
    focus
     go_simp
     have RB : Hid (RbT w (.slice a0 S.nc c0) (.slice a1 S.nl c1) (.slice a2 S.nw c2) y1.heap.size (.int .i64 0) (.slice none 0 0) (.slice none 0 0) (.slice none 0 0) (y1.alloc (.cells #[.int .i64 0, .slice none 0 0, .slice none 0 0, .slice none 0 0] 32))) := RbT.new HD.out _
     have HI : Hid (Ints (y1.alloc (.cells #[.int .i64 0, .slice none 0 0, .slice none 0 0, .slice none 0 0] 32)) y0.heap.size (.slice (some ⟨y0.heap.size, 0, none⟩) 3 3) [ky, 0, 10]) := ((But.refl b _).alloc _).ints HI.out HG.out
     have HD : Hid (DrS w b o len cap S (.slice a0 S.nc c0) (.slice a1 S.nl c1) (.slice a2 S.nw c2) (d') (y1.alloc (.cells #[.int .i64 0, .slice none 0 0, .slice none 0 0, .slice none 0 0] 32))) := HD.out.later (below_alloc _ _)
     refine hK.out _ _ (show BoxS _ _ _ _ _ from hS.alloc _) (fun hS => ?_)
     clear hK K
     generalize y1.alloc (.cells #[.int .i64 0, .slice none 0 0, .slice none 0 0, .slice none 0 0] 32) = y2 at HD RB HI hS ⊢
     obtain ⟨rb, hrb⟩ : ∃ rb, y1.heap.size = rb := ⟨_, rfl⟩
     rw [hrb] at RB ⊢
     clear hrb
     refine rdH 8 (fun K hK => ?_)
     go_simp
     go_wp2_with fail
     refine (l1Pick_any _ b o len cap (d') _ y0.heap.size [ky, 0, 10] HD.out.src (by omega) hl HI.out HG.out (by simp) (by simp)).mono ?_
     rintro e y3 ⟨pr, rfl, _, hS1, hT1⟩
     have HD : Hid (DrS w b o len cap S (.slice a0 S.nc c0) (.slice a1 S.nl c1) (.slice a2 S.nw c2) (d' + 1) y3) := HD.out.step hT1 hS1
     have RB : Hid (RbT w (.slice a0 S.nc c0) (.slice a1 S.nl c1) (.slice a2 S.nw c2) rb (.int .i64 0) (.slice none 0 0) (.slice none 0 0) (.slice none 0 0) y3) := RB.out.step hT1 HB.out
     have hS' : BoxS (w.heap.size + 1) (.slice a0 S.nc c0) (.slice a1 S.nl c1) (.slice a2 S.nw c2) y3 := HD.out.box
     clear hS1 hT1 HI
     go_wp2_with fail
     refine hK.out _ _ hS' (fun hS => ?_)
     clear hK K hS'
     refine rdH 10 (fun K hK => ?_)
     go_simp
     go_wp2_with fail
     refine (l1Next_any _ b o len cap (d' + 1) 99 HD.out.src (by omega) hl).mono ?_
     rintro e y4 ⟨un, rfl, _, _, hS1, hT1⟩
     have HD : Hid (DrS w b o len cap S (.slice a0 S.nc c0) (.slice a1 S.nl c1) (.slice a2 S.nw c2) (d' + 1 + 1) y4) := HD.out.step hT1 hS1
     have RB : Hid (RbT w (.slice a0 S.nc c0) (.slice a1 S.nl c1) (.slice a2 S.nw c2) rb (.int .i64 0) (.slice none 0 0) (.slice none 0 0) (.slice none 0 0) y4) := RB.out.step hT1 HB.out
     have hS' : BoxS (w.heap.size + 1) (.slice a0 S.nc c0) (.slice a1 S.nl c1) (.slice a2 S.nw c2) y4 := HD.out.box
     clear hS1 hT1
     go_wp2_with fail
     refine hK.out _ _ hS' (fun hS => ?_)
     clear hK K hS'
     refine rdH 11 (fun K hK => ?_)
     go_simp
     obtain ⟨rc, R, _, hA⟩ := PreAns.get S ky st kd va pr un
     have HA : Hid (PreAns S ky st kd va pr un rc R) := hA
     clear hA
     go_wp2_with fail
     refine (specPrewrite_own S _ _ _ ky st kd va pr un rc R 0 _ (HD.out.own.st.mono (Nat.zero_le _)) HA.out).mono ?_
     rintro e y5 ⟨g0, q0, g1, q1, g2, q2, rfl, o5, q5⟩
     have HP : Hid (Sz R ∧ w.heap.size + 2 ≤ y4.heap.size ∧ OwnS y5 y4.heap.size R (.slice g0 R.nc q0) (.slice g1 R.nl q1) (.slice g2 R.nw q2)) := ⟨HA.out.sz, HD.out.sz, o5⟩
     have HN : Hid (∀ v ∈ [(.slice g0 R.nc q0 : Value), .slice g1 R.nl q1, .slice g2 R.nw q2], v.ownBlock ≠ some rb) := o5.off RB.out.2.1.lt
     have HD : Hid (DrS w b o len cap S (.slice a0 S.nc c0) (.slice a1 S.nl c1) (.slice a2 S.nw c2) (d' + 1 + 1) y5) := HD.out.later q5
     have RB : Hid (RbT w (.slice a0 S.nc c0) (.slice a1 S.nl c1) (.slice a2 S.nw c2) rb (.int .i64 0) (.slice none 0 0) (.slice none 0 0) (.slice none 0 0) y5) := RB.out.later q5
     have hS' : BoxS (w.heap.size + 1) (.slice a0 S.nc c0) (.slice a1 S.nl c1) (.slice a2 S.nw c2) y5 := HD.out.box
     clear o5 q5 HA
     go_wp2_with fail
     refine hK.out _ _ hS' (fun hS => ?_)
     clear hK K hS'
    rotate_left
   rotate_left 4
   focus
    go_simp
    have RB : Hid (RbT w (.slice a0 S.nc c0) (.slice a1 S.nl c1) (.slice a2 S.nw c2) y0.heap.size (.int .i64 0) (.slice none 0 0) (.slice none 0 0) (.slice none 0 0) (y0.alloc (.cells #[.int .i64 0, .slice none 0 0, .slice none 0 0, .slice none 0 0] 32))) := RbT.new HD.out _
    have HD : Hid (DrS w b o len cap S (.slice a0 S.nc c0) (.slice a1 S.nl c1) (.slice a2 S.nw c2) (d') (y0.alloc (.cells #[.int .i64 0, .slice none 0 0, .slice none 0 0, .slice none 0 0] 32))) := HD.out.later (below_alloc _ _)
    refine hK.out _ _ (show BoxS _ _ _ _ _ from hS.alloc _) (fun hS => ?_)
    clear hK K
    generalize y0.alloc (.cells #[.int .i64 0, .slice none 0 0, .slice none 0 0, .slice none 0 0] 32) = y1 at HD RB hS ⊢
    obtain ⟨rb, hrb⟩ : ∃ rb, y0.heap.size = rb := ⟨_, rfl⟩
    rw [hrb] at RB ⊢
    clear hrb
    refine rdH 7 (fun K hK => ?_)
    go_simp
    have HI : Hid (Ints (y1.alloc (.cells #[.int .i64 ky, .int .i64 0, .int .i64 10] 2)) y1.heap.size (.slice (some ⟨y1.heap.size, 0, none⟩) 3 3) [ky, 0, 10]) := World.ownsRow_lit y1 #[.int .i64 ky, .int .i64 0, .int .i64 10] 3 (Nat.le_refl _) (by decide) rfl
    have HG : Hid (b < y1.heap.size) := HD.out.src.lt
    have HD : Hid (DrS w b o len cap S (.slice a0 S.nc c0) (.slice a1 S.nl c1) (.slice a2 S.nw c2) (d') (y1.alloc (.cells #[.int .i64 ky, .int .i64 0, .int .i64 10] 2))) := HD.out.later (below_alloc _ _)
    have RB : Hid (RbT w (.slice a0 S.nc c0) (.slice a1 S.nl c1) (.slice a2 S.nw c2) rb (.int .i64 0) (.slice none 0 0) (.slice none 0 0) (.slice none 0 0) (y1.alloc (.cells #[.int .i64 ky, .int .i64 0, .int .i64 10] 2))) := RB.out.later (below_alloc _ _)
    refine hK.out _ _ (show BoxS _ _ _ _ _ from hS.alloc _) (fun hS => ?_)
    clear hK K
    generalize y1.alloc (.cells #[.int .i64 ky, .int .i64 0, .int .i64 10] 2) = y2 at HD HI RB hS ⊢
    refine rdH 8 (fun K hK => ?_)
    go_simp
    go_wp2_with fail
    refine (l1Pick_any _ b o len cap (d') _ y1.heap.size [ky, 0, 10] HD.out.src (by omega) hl HI.out HG.out (by simp) (by simp)).mono ?_
    rintro e y3 ⟨pr, rfl, _, hS1, hT1⟩
    have HD : Hid (DrS w b o len cap S (.slice a0 S.nc c0) (.slice a1 S.nl c1) (.slice a2 S.nw c2) (d' + 1) y3) := HD.out.step hT1 hS1
    have RB : Hid (RbT w (.slice a0 S.nc c0) (.slice a1 S.nl c1) (.slice a2 S.nw c2) rb (.int .i64 0) (.slice none 0 0) (.slice none 0 0) (.slice none 0 0) y3) := RB.out.step hT1 HB.out
    have hS' : BoxS (w.heap.size + 1) (.slice a0 S.nc c0) (.slice a1 S.nl c1) (.slice a2 S.nw c2) y3 := HD.out.box
    clear hS1 hT1 HI
    go_wp2_with fail
    refine hK.out _ _ hS' (fun hS => ?_)
    clear hK K hS'
    refine rdH 10 (fun K hK => ?_)
    go_simp
    go_wp2_with fail
    refine (l1Next_any _ b o len cap (d' + 1) 99 HD.out.src (by omega) hl).mono ?_
    rintro e y4 ⟨un, rfl, _, _, hS1, hT1⟩
    have HD : Hid (DrS w b o len cap S (.slice a0 S.nc c0) (.slice a1 S.nl c1) (.slice a2 S.nw c2) (d' + 1 + 1) y4) := HD.out.step hT1 hS1
    have RB : Hid (RbT w (.slice a0 S.nc c0) (.slice a1 S.nl c1) (.slice a2 S.nw c2) rb (.int .i64 0) (.slice none 0 0) (.slice none 0 0) (.slice none 0 0) y4) := RB.out.step hT1 HB.out
    have hS' : BoxS (w.heap.size + 1) (.slice a0 S.nc c0) (.slice a1 S.nl c1) (.slice a2 S.nw c2) y4 := HD.out.box
    clear hS1 hT1
    go_wp2_with fail
    refine hK.out _ _ hS' (fun hS => ?_)
    clear hK K hS'
    refine rdH 11 (fun K hK => ?_)
    go_simp
    obtain ⟨rc, R, _, hA⟩ := PreAns.get S ky st kd va pr un
    have HA : Hid (PreAns S ky st kd va pr un rc R) := hA
    clear hA
    go_wp2_with fail
    refine (specPrewrite_own S _ _ _ ky st kd va pr un rc R 0 _ (HD.out.own.st.mono (Nat.zero_le _)) HA.out).mono ?_
    rintro e y5 ⟨g0, q0, g1, q1, g2, q2, rfl, o5, q5⟩
    have HP : Hid (Sz R ∧ w.heap.size + 2 ≤ y4.heap.size ∧ OwnS y5 y4.heap.size R (.slice g0 R.nc q0) (.slice g1 R.nl q1) (.slice g2 R.nw q2)) := ⟨HA.out.sz, HD.out.sz, o5⟩
    have HN : Hid (∀ v ∈ [(.slice g0 R.nc q0 : Value), .slice g1 R.nl q1, .slice g2 R.nw q2], v.ownBlock ≠ some rb) := o5.off RB.out.2.1.lt
    have HD : Hid (DrS w b o len cap S (.slice a0 S.nc c0) (.slice a1 S.nl c1) (.slice a2 S.nw c2) (d' + 1 + 1) y5) := HD.out.later q5
    have RB : Hid (RbT w (.slice a0 S.nc c0) (.slice a1 S.nl c1) (.slice a2 S.nw c2) rb (.int .i64 0) (.slice none 0 0) (.slice none 0 0) (.slice none 0 0) y5) := RB.out.later q5
    have hS' : BoxS (w.heap.size + 1) (.slice a0 S.nc c0) (.slice a1 S.nl c1) (.slice a2 S.nw c2) y5 := HD.out.box
    clear o5 q5 HA
    go_wp2_with fail
    refine hK.out _ _ hS' (fun hS => ?_)
    clear hK K hS'
   rotate_left
   all_goals
    refine rdH 13 (fun K hK => ?_)
    obtain ⟨⟨e0, e1, e2, e3⟩, f0, f1, f2, f3⟩ := RB.out.2.1
    go_simp
    have HF : Hid (DrS w b o len cap S (.slice a0 S.nc c0) (.slice a1 S.nl c1) (.slice a2 S.nw c2) (d' + 1 + 1) ((((y5.setCell ⟨rb, 0, none⟩ (.int .i64 rc)).setCell ⟨rb, 1, none⟩ (.slice g0 R.nc q0)).setCell ⟨rb, 2, none⟩ (.slice g1 R.nl q1)).setCell ⟨rb, 3, none⟩ (.slice g2 R.nw q2)) ∧ RQ w (.slice a0 S.nc c0) (.slice a1 S.nl c1) (.slice a2 S.nw c2) rb rc R (.slice g0 R.nc q0) (.slice g1 R.nl q1) (.slice g2 R.nw q2) ((((y5.setCell ⟨rb, 0, none⟩ (.int .i64 rc)).setCell ⟨rb, 1, none⟩ (.slice g0 R.nc q0)).setCell ⟨rb, 2, none⟩ (.slice g1 R.nl q1)).setCell ⟨rb, 3, none⟩ (.slice g2 R.nw q2))) := HD.out.put RB.out HP.out.2.2 HP.out.2.1 HN.out rc
    refine hK.out _ _ (show BoxS _ _ _ _ _ from HF.out.1.box) (fun hS => ?_)
    clear hK K
    refine wpAnyH_done (by kernel_rfl) ?_ _
    clear hS e0 e1 e2 e3 f0 f1 f2 f3
    go_simp
    generalize (((y5.setCell ⟨rb, 0, none⟩ (.int .i64 rc)).setCell ⟨rb, 1, none⟩ (.slice g0 R.nc q0)).setCell ⟨rb, 2, none⟩ (.slice g1 R.nl q1)).setCell ⟨rb, 3, none⟩ (.slice g2 R.nw q2) = y6 at HF ⊢
    go_wp2_with fail
    go_meet
    case rel => exact ⟨rb, rc, R, g0, q0, g1, q1, g2, q2, _, rfl, ⟨by omega, by omega⟩, HP.out.1, HF.out.1, HF.out.2⟩
  case rest =>
  clear HD
  obtain ⟨rb, rc, R, g0, q0, g1, q1, g2, q2, d2, rfl, hd2, HR, HD, HQ⟩ := hcut
  go_wp2_with fail
  refine (l1Next_any _ b o len cap d2 5 HD.out.src (by omega) hl).mono ?_
  rintro e w6 ⟨sw, rfl, x0, x1, hS6, hT6⟩
  have x2 : sw < 5 := x1 (by omega)
  have HD : Hid (DrS w b o len cap S (.slice a0 S.nc c0) (.slice a1 S.nl c1) (.slice a2 S.nw c2) (d2 + 1) w6) := HD.out.step hT6 hS6
  have HQ : Hid (RQ w (.slice a0 S.nc c0) (.slice a1 S.nl c1) (.slice a2 S.nw c2) rb rc R (.slice g0 R.nc q0) (.slice g1 R.nl q1) (.slice g2 R.nw q2) w6) := HQ.out.step hT6 HB.out
  clear hS6 hT6 x1
  have hsw : sw = 0 ∨ sw = 1 ∨ sw = 2 ∨ sw = 3 ∨ sw = 4 := by omega
  clear x0 x2
  rcases hsw with rfl | rfl | rfl | rfl | rfl
  ·go_wp2_with fail
   refine wp_region_held_drew (S := BoxS (w.heap.size + 1) (.slice a0 S.nc c0) (.slice a1 S.nl c1) (.slice a2 S.nw c2)) (by kernel_rfl) (HD.out.box.kept rfl) (fun hS => ?_)
   have HD : Hid (DrS w b o len cap S (.slice a0 S.nc c0) (.slice a1 S.nl c1) (.slice a2 S.nw c2) (d2 + 1) w6.drew) := HD.out.later (below_dr (Below.refl _ _) 1)
   have HQ : Hid (RQ w (.slice a0 S.nc c0) (.slice a1 S.nl c1) (.slice a2 S.nw c2) rb rc R (.slice g0 R.nc q0) (.slice g1 R.nl q1) (.slice g2 R.nw q2) w6.drew) := HQ.out.later (below_dr (Below.refl _ _) 1)
   generalize w6.drew = w7 at HD HQ hS ⊢
   refine tkH 0 ?_ hS (fun wx hx => ?_) ?_; rotate_left
   ·obtain ⟨⟨hx0, hx1, hx2⟩, _⟩ := hx; go_simp; try with_reducible rfl
   refine tkH 1 ?_ hS (fun wx hx => ?_) ?_; rotate_left
   ·obtain ⟨⟨hx0, hx1, hx2⟩, _⟩ := hx; go_simp; try with_reducible rfl
   refine tkH 2 ?_ hS (fun wx hx => ?_) ?_; rotate_left
   ·obtain ⟨⟨hx0, hx1, hx2⟩, _⟩ := hx; go_simp; try with_reducible rfl
   refine tkH 3 ?_ hS (fun wx hx => ?_) ?_; rotate_left
   ·obtain ⟨⟨hx0, hx1, hx2⟩, _⟩ := hx; go_simp; try with_reducible rfl
   refine tkH 4 ?_ hS (fun wx hx => ?_) ?_; rotate_left
   ·obtain ⟨⟨hx0, hx1, hx2⟩, _⟩ := hx; go_simp; try with_reducible rfl
   refine tkH 5 ?_ hS (fun wx hx => ?_) ?_; rotate_left
   ·obtain ⟨⟨hx0, hx1, hx2⟩, _⟩ := hx; go_simp; try with_reducible rfl
   refine rdH 6 (fun K hK => ?_)
   go_simp
   go_wp2_with fail
   refine (l1Next_any _ b o len cap (d2 + 1) 9 HD.out.src (by omega) hl).mono ?_
   rintro e w8 ⟨cx, rfl, _, _, hS8, hT8⟩
   have HD : Hid (DrS w b o len cap S (.slice a0 S.nc c0) (.slice a1 S.nl c1) (.slice a2 S.nw c2) (d2 + 1 + 1) w8) := HD.out.step hT8 hS8
   have HQ : Hid (RQ w (.slice a0 S.nc c0) (.slice a1 S.nl c1) (.slice a2 S.nw c2) rb rc R (.slice g0 R.nc q0) (.slice g1 R.nl q1) (.slice g2 R.nw q2) w8) := HQ.out.step hT8 HB.out
   have hS' : BoxS (w.heap.size + 1) (.slice a0 S.nc c0) (.slice a1 S.nl c1) (.slice a2 S.nw c2) w8 := HD.out.box
   clear hS8 hT8
   go_wp2_with fail
   refine hK.out _ _ hS' (fun hS => ?_)
   clear hK K hS'
   refine tkH 7 ?_ hS (fun wx hx => ?_) ?_; rotate_left
   ·obtain ⟨⟨hx0, hx1, hx2⟩, _⟩ := hx; go_simp; try with_reducible rfl
   refine rdH 8 (fun K hK => ?_)
   go_simp
   go_wp2_with fail
   refine (commitDraw_any S _ _ _ _ _ _ 0 _ (HD.out.own.st.mono (Nat.zero_le _))).mono ?_
   rintro e w9 ⟨rc2, R2, hR2, h0, p0, h1, p1, h2, p2, rfl, o9, q9⟩
   have HP : Hid ((Sz R2 ∧ w.heap.size + 2 ≤ w8.heap.size ∧ OwnS w9 w8.heap.size R2 (.slice h0 R2.nc p0) (.slice h1 R2.nl p1) (.slice h2 R2.nw p2)) ∧ ∀ v ∈ [(.slice h0 R2.nc p0 : Value), .slice h1 R2.nl p1, .slice h2 R2.nw p2], v.ownBlock ≠ some rb) := ⟨⟨hR2, HD.out.sz, o9⟩, o9.off HQ.out.blk.2.1.lt⟩
   have HD : Hid (DrS w b o len cap S (.slice a0 S.nc c0) (.slice a1 S.nl c1) (.slice a2 S.nw c2) (d2 + 1 + 1) w9) := HD.out.later q9
   have HQ : Hid (RQ w (.slice a0 S.nc c0) (.slice a1 S.nl c1) (.slice a2 S.nw c2) rb rc R (.slice g0 R.nc q0) (.slice g1 R.nl q1) (.slice g2 R.nw q2) w9) := HQ.out.later q9
   have hS' : BoxS (w.heap.size + 1) (.slice a0 S.nc c0) (.slice a1 S.nl c1) (.slice a2 S.nw c2) w9 := HD.out.box
   clear o9 q9 hR2
   go_wp2_with fail
   refine hK.out _ _ hS' (fun hS => ?_)
   clear hK K hS'
   obtain ⟨⟨e0, e1, e2, e3⟩, f0, f1, f2, f3⟩ := HQ.out.blk.2.1
   refine rdH 9 (fun K hK => ?_)
   go_simp
   have HF : Hid (DrS w b o len cap S (.slice a0 S.nc c0) (.slice a1 S.nl c1) (.slice a2 S.nw c2) (d2 + 1 + 1) ((((w9.setCell ⟨rb, 0, none⟩ (.int .i64 rc2)).setCell ⟨rb, 1, none⟩ (.slice h0 R2.nc p0)).setCell ⟨rb, 2, none⟩ (.slice h1 R2.nl p1)).setCell ⟨rb, 3, none⟩ (.slice h2 R2.nw p2)) ∧ RQ w (.slice a0 S.nc c0) (.slice a1 S.nl c1) (.slice a2 S.nw c2) rb rc2 R2 (.slice h0 R2.nc p0) (.slice h1 R2.nl p1) (.slice h2 R2.nw p2) ((((w9.setCell ⟨rb, 0, none⟩ (.int .i64 rc2)).setCell ⟨rb, 1, none⟩ (.slice h0 R2.nc p0)).setCell ⟨rb, 2, none⟩ (.slice h1 R2.nl p1)).setCell ⟨rb, 3, none⟩ (.slice h2 R2.nw p2))) := HD.out.put HQ.out.blk HP.out.1.2.2 HP.out.1.2.1 HP.out.2 rc2
   refine hK.out _ _ (show BoxS _ _ _ _ _ from HF.out.1.box) (fun hS => ?_)
   clear hK K
   refine wpAnyH_done (by kernel_rfl) ?_ _
   clear hS e0 e1 e2 e3 f0 f1 f2 f3 HD HQ HR
   go_simp
   generalize ((((w9.setCell ⟨rb, 0, none⟩ (.int .i64 rc2)).setCell ⟨rb, 1, none⟩ (.slice h0 R2.nc p0)).setCell ⟨rb, 2, none⟩ (.slice h1 R2.nl p1)).setCell ⟨rb, 3, none⟩ (.slice h2 R2.nw p2)) = y6 at HF ⊢
   have HD := hid_mk HF.out.1
   have HQ := hid_mk HF.out.2
   have HR : Hid (Sz R2) := HP.out.1.1
   clear HF HP
   go_upto_region 21 with fail
   obtain ⟨⟨e0, e1, e2, e3⟩, _⟩ := HQ.out.blk.2.1
   obtain ⟨⟨t0, t1, t2⟩, ft0, ft1, ft2⟩ := HD.out.box
   by_cases hrc : rc2 = 0
   ·have dr : (rc2 == 0) = true := by rw [hrc]; rfl
    have HX := HD.out.take HQ.out
    clear hrc
    go_wp2
    go_roundw
    case rel => exact ⟨z - 1, R2, h0, p0, h1, p1, h2, p2, _, by go_num, by omega, ⟨by omega, by omega⟩, HR, HX⟩
    case measure => simp [intOf]; omega
   ·have dr : (rc2 == 0) = false := beq_eq_false_iff_ne.2 hrc
    clear hrc
    go_wp2
    go_roundw
    case rel => exact ⟨z - 1, S, a0, c0, a1, c1, a2, c2, _, by go_num, by omega, ⟨by omega, by omega⟩, HZ, HD⟩
    case measure => simp [intOf]; omega
  ·go_wp2_with fail
   refine wp_region_held_drew (S := BoxS (w.heap.size + 1) (.slice a0 S.nc c0) (.slice a1 S.nl c1) (.slice a2 S.nw c2)) (by kernel_rfl) (HD.out.box.kept rfl) (fun hS => ?_)
   have HD : Hid (DrS w b o len cap S (.slice a0 S.nc c0) (.slice a1 S.nl c1) (.slice a2 S.nw c2) (d2 + 1) w6.drew) := HD.out.later (below_dr (Below.refl _ _) 1)
   have HQ : Hid (RQ w (.slice a0 S.nc c0) (.slice a1 S.nl c1) (.slice a2 S.nw c2) rb rc R (.slice g0 R.nc q0) (.slice g1 R.nl q1) (.slice g2 R.nw q2) w6.drew) := HQ.out.later (below_dr (Below.refl _ _) 1)
   generalize w6.drew = w7 at HD HQ hS ⊢
   refine tkH 0 ?_ hS (fun wx hx => ?_) ?_; rotate_left
   ·obtain ⟨⟨hx0, hx1, hx2⟩, _⟩ := hx; go_simp; try with_reducible rfl
   refine tkH 1 ?_ hS (fun wx hx => ?_) ?_; rotate_left
   ·obtain ⟨⟨hx0, hx1, hx2⟩, _⟩ := hx; go_simp; try with_reducible rfl
   refine tkH 2 ?_ hS (fun wx hx => ?_) ?_; rotate_left
   ·obtain ⟨⟨hx0, hx1, hx2⟩, _⟩ := hx; go_simp; try with_reducible rfl
   refine tkH 3 ?_ hS (fun wx hx => ?_) ?_; rotate_left
   ·obtain ⟨⟨hx0, hx1, hx2⟩, _⟩ := hx; go_simp; try with_reducible rfl
   refine tkH 4 ?_ hS (fun wx hx => ?_) ?_; rotate_left
   ·obtain ⟨⟨hx0, hx1, hx2⟩, _⟩ := hx; go_simp; try with_reducible rfl
   refine tkH 5 ?_ hS (fun wx hx => ?_) ?_; rotate_left
   ·obtain ⟨⟨hx0, hx1, hx2⟩, _⟩ := hx; go_simp; try with_reducible rfl
   refine rdH 6 (fun K hK => ?_)
   go_simp
   go_wp2_with fail
   refine (l1Next_any _ b o len cap (d2 + 1) 9 HD.out.src (by omega) hl).mono ?_
   rintro e w8 ⟨cx, rfl, _, _, hS8, hT8⟩
   have HD : Hid (DrS w b o len cap S (.slice a0 S.nc c0) (.slice a1 S.nl c1) (.slice a2 S.nw c2) (d2 + 1 + 1) w8) := HD.out.step hT8 hS8
   have HQ : Hid (RQ w (.slice a0 S.nc c0) (.slice a1 S.nl c1) (.slice a2 S.nw c2) rb rc R (.slice g0 R.nc q0) (.slice g1 R.nl q1) (.slice g2 R.nw q2) w8) := HQ.out.step hT8 HB.out
   have hS' : BoxS (w.heap.size + 1) (.slice a0 S.nc c0) (.slice a1 S.nl c1) (.slice a2 S.nw c2) w8 := HD.out.box
   clear hS8 hT8
   go_wp2_with fail
   refine hK.out _ _ hS' (fun hS => ?_)
   clear hK K hS'
   refine tkH 7 ?_ hS (fun wx hx => ?_) ?_; rotate_left
   ·obtain ⟨⟨hx0, hx1, hx2⟩, _⟩ := hx; go_simp; try with_reducible rfl
   refine rdH 8 (fun K hK => ?_)
   go_simp
   go_wp2_with fail
   refine (commitDraw_any S _ _ _ _ _ _ 0 _ (HD.out.own.st.mono (Nat.zero_le _))).mono ?_
   rintro e w9 ⟨rc2, R2, hR2, h0, p0, h1, p1, h2, p2, rfl, o9, q9⟩
   have HP : Hid ((Sz R2 ∧ w.heap.size + 2 ≤ w8.heap.size ∧ OwnS w9 w8.heap.size R2 (.slice h0 R2.nc p0) (.slice h1 R2.nl p1) (.slice h2 R2.nw p2)) ∧ ∀ v ∈ [(.slice h0 R2.nc p0 : Value), .slice h1 R2.nl p1, .slice h2 R2.nw p2], v.ownBlock ≠ some rb) := ⟨⟨hR2, HD.out.sz, o9⟩, o9.off HQ.out.blk.2.1.lt⟩
   have HD : Hid (DrS w b o len cap S (.slice a0 S.nc c0) (.slice a1 S.nl c1) (.slice a2 S.nw c2) (d2 + 1 + 1) w9) := HD.out.later q9
   have HQ : Hid (RQ w (.slice a0 S.nc c0) (.slice a1 S.nl c1) (.slice a2 S.nw c2) rb rc R (.slice g0 R.nc q0) (.slice g1 R.nl q1) (.slice g2 R.nw q2) w9) := HQ.out.later q9
   have hS' : BoxS (w.heap.size + 1) (.slice a0 S.nc c0) (.slice a1 S.nl c1) (.slice a2 S.nw c2) w9 := HD.out.box
   clear o9 q9 hR2
   go_wp2_with fail
   refine hK.out _ _ hS' (fun hS => ?_)
   clear hK K hS'
   obtain ⟨⟨e0, e1, e2, e3⟩, f0, f1, f2, f3⟩ := HQ.out.blk.2.1
   refine rdH 9 (fun K hK => ?_)
   go_simp
   have HF : Hid (DrS w b o len cap S (.slice a0 S.nc c0) (.slice a1 S.nl c1) (.slice a2 S.nw c2) (d2 + 1 + 1) ((((w9.setCell ⟨rb, 0, none⟩ (.int .i64 rc2)).setCell ⟨rb, 1, none⟩ (.slice h0 R2.nc p0)).setCell ⟨rb, 2, none⟩ (.slice h1 R2.nl p1)).setCell ⟨rb, 3, none⟩ (.slice h2 R2.nw p2)) ∧ RQ w (.slice a0 S.nc c0) (.slice a1 S.nl c1) (.slice a2 S.nw c2) rb rc2 R2 (.slice h0 R2.nc p0) (.slice h1 R2.nl p1) (.slice h2 R2.nw p2) ((((w9.setCell ⟨rb, 0, none⟩ (.int .i64 rc2)).setCell ⟨rb, 1, none⟩ (.slice h0 R2.nc p0)).setCell ⟨rb, 2, none⟩ (.slice h1 R2.nl p1)).setCell ⟨rb, 3, none⟩ (.slice h2 R2.nw p2))) := HD.out.put HQ.out.blk HP.out.1.2.2 HP.out.1.2.1 HP.out.2 rc2
   refine hK.out _ _ (show BoxS _ _ _ _ _ from HF.out.1.box) (fun hS => ?_)
   clear hK K
   refine wpAnyH_done (by kernel_rfl) ?_ _
   clear hS e0 e1 e2 e3 f0 f1 f2 f3 HD HQ HR
   go_simp
   generalize ((((w9.setCell ⟨rb, 0, none⟩ (.int .i64 rc2)).setCell ⟨rb, 1, none⟩ (.slice h0 R2.nc p0)).setCell ⟨rb, 2, none⟩ (.slice h1 R2.nl p1)).setCell ⟨rb, 3, none⟩ (.slice h2 R2.nw p2)) = y6 at HF ⊢
   have HD := hid_mk HF.out.1
   have HQ := hid_mk HF.out.2
   have HR : Hid (Sz R2) := HP.out.1.1
   clear HF HP
   go_upto_region 21 with fail
   obtain ⟨⟨e0, e1, e2, e3⟩, _⟩ := HQ.out.blk.2.1
   obtain ⟨⟨t0, t1, t2⟩, ft0, ft1, ft2⟩ := HD.out.box
   by_cases hrc : rc2 = 0
   ·have dr : (rc2 == 0) = true := by rw [hrc]; rfl
    have HX := HD.out.take HQ.out
    clear hrc
    go_wp2
    go_roundw
    case rel => exact ⟨z - 1, R2, h0, p0, h1, p1, h2, p2, _, by go_num, by omega, ⟨by omega, by omega⟩, HR, HX⟩
    case measure => simp [intOf]; omega
   ·have dr : (rc2 == 0) = false := beq_eq_false_iff_ne.2 hrc
    clear hrc
    go_wp2
    go_roundw
    case rel => exact ⟨z - 1, S, a0, c0, a1, c1, a2, c2, _, by go_num, by omega, ⟨by omega, by omega⟩, HZ, HD⟩
    case measure => simp [intOf]; omega
  ·obtain ⟨⟨t0, t1, t2⟩, _⟩ := HD.out.box
   go_wp2_with fail
   refine (rollDraw_any S _ _ _ _ _ 0 _ (HD.out.own.st.mono (Nat.zero_le _))).mono ?_
   rintro e w9 ⟨rc2, R2, hR2, h0, p0, h1, p1, h2, p2, rfl, o9, q9⟩
   have HP : Hid ((Sz R2 ∧ w.heap.size + 2 ≤ w6.heap.size ∧ OwnS w9 w6.heap.size R2 (.slice h0 R2.nc p0) (.slice h1 R2.nl p1) (.slice h2 R2.nw p2)) ∧ ∀ v ∈ [(.slice h0 R2.nc p0 : Value), .slice h1 R2.nl p1, .slice h2 R2.nw p2], v.ownBlock ≠ some rb) := ⟨⟨hR2, HD.out.sz, o9⟩, o9.off HQ.out.blk.2.1.lt⟩
   have HD : Hid (DrS w b o len cap S (.slice a0 S.nc c0) (.slice a1 S.nl c1) (.slice a2 S.nw c2) (d2 + 1) w9) := HD.out.later q9
   have HQ : Hid (RQ w (.slice a0 S.nc c0) (.slice a1 S.nl c1) (.slice a2 S.nw c2) rb rc R (.slice g0 R.nc q0) (.slice g1 R.nl q1) (.slice g2 R.nw q2) w9) := HQ.out.later q9
   clear o9 q9 hR2 t0 t1 t2
   obtain ⟨⟨e0, e1, e2, e3⟩, f0, f1, f2, f3⟩ := HQ.out.blk.2.1
   go_upto_region 21 with fail
   have HF : Hid (DrS w b o len cap S (.slice a0 S.nc c0) (.slice a1 S.nl c1) (.slice a2 S.nw c2) (d2 + 1) ((((w9.setCell ⟨rb, 0, none⟩ (.int .i64 rc2)).setCell ⟨rb, 1, none⟩ (.slice h0 R2.nc p0)).setCell ⟨rb, 2, none⟩ (.slice h1 R2.nl p1)).setCell ⟨rb, 3, none⟩ (.slice h2 R2.nw p2)) ∧ RQ w (.slice a0 S.nc c0) (.slice a1 S.nl c1) (.slice a2 S.nw c2) rb rc2 R2 (.slice h0 R2.nc p0) (.slice h1 R2.nl p1) (.slice h2 R2.nw p2) ((((w9.setCell ⟨rb, 0, none⟩ (.int .i64 rc2)).setCell ⟨rb, 1, none⟩ (.slice h0 R2.nc p0)).setCell ⟨rb, 2, none⟩ (.slice h1 R2.nl p1)).setCell ⟨rb, 3, none⟩ (.slice h2 R2.nw p2))) := HD.out.put HQ.out.blk HP.out.1.2.2 HP.out.1.2.1 HP.out.2 rc2
   clear e0 e1 e2 e3 f0 f1 f2 f3 HD HQ HR
   generalize ((((w9.setCell ⟨rb, 0, none⟩ (.int .i64 rc2)).setCell ⟨rb, 1, none⟩ (.slice h0 R2.nc p0)).setCell ⟨rb, 2, none⟩ (.slice h1 R2.nl p1)).setCell ⟨rb, 3, none⟩ (.slice h2 R2.nw p2)) = y6 at HF ⊢
   have HD := hid_mk HF.out.1
   have HQ := hid_mk HF.out.2
   have HR : Hid (Sz R2) := HP.out.1.1
   clear HF HP
   obtain ⟨⟨e0, e1, e2, e3⟩, _⟩ := HQ.out.blk.2.1
   obtain ⟨⟨t0, t1, t2⟩, ft0, ft1, ft2⟩ := HD.out.box
   by_cases hrc : rc2 = 0
   ·have dr : (rc2 == 0) = true := by rw [hrc]; rfl
    have HX := HD.out.take HQ.out
    clear hrc
    go_wp2
    go_roundw
    case rel => exact ⟨z - 1, R2, h0, p0, h1, p1, h2, p2, _, by go_num, by omega, ⟨by omega, by omega⟩, HR, HX⟩
    case measure => simp [intOf]; omega
   ·have dr : (rc2 == 0) = false := beq_eq_false_iff_ne.2 hrc
    clear hrc
    go_wp2
    go_roundw
    case rel => exact ⟨z - 1, S, a0, c0, a1, c1, a2, c2, _, by go_num, by omega, ⟨by omega, by omega⟩, HZ, HD⟩
    case measure => simp [intOf]; omega
  ·go_upto_region 21 with fail
   obtain ⟨⟨e0, e1, e2, e3⟩, _⟩ := HQ.out.blk.2.1
   obtain ⟨⟨t0, t1, t2⟩, ft0, ft1, ft2⟩ := HD.out.box
   by_cases hrc : rc = 0
   ·have dr : (rc == 0) = true := by rw [hrc]; rfl
    have HX := HD.out.take HQ.out
    clear hrc
    go_wp2
    go_roundw
    case rel => exact ⟨z - 1, R, g0, q0, g1, q1, g2, q2, _, by go_num, by omega, ⟨by omega, by omega⟩, HR, HX⟩
    case measure => simp [intOf]; omega
   ·have dr : (rc == 0) = false := beq_eq_false_iff_ne.2 hrc
    clear hrc
    go_wp2
    go_roundw
    case rel => exact ⟨z - 1, S, a0, c0, a1, c1, a2, c2, _, by go_num, by omega, ⟨by omega, by omega⟩, HZ, HD⟩
    case measure => simp [intOf]; omega
  ·go_upto_region 21 with fail
   obtain ⟨⟨e0, e1, e2, e3⟩, _⟩ := HQ.out.blk.2.1
   obtain ⟨⟨t0, t1, t2⟩, ft0, ft1, ft2⟩ := HD.out.box
   by_cases hrc : rc = 0
   ·have dr : (rc == 0) = true := by rw [hrc]; rfl
    have HX := HD.out.take HQ.out
    clear hrc
    go_wp2
    go_roundw
    case rel => exact ⟨z - 1, R, g0, q0, g1, q1, g2, q2, _, by go_num, by omega, ⟨by omega, by omega⟩, HR, HX⟩
    case measure => simp [intOf]; omega
   ·have dr : (rc == 0) = false := beq_eq_false_iff_ne.2 hrc
    clear hrc
    go_wp2
    go_roundw
    case rel => exact ⟨z - 1, S, a0, c0, a1, c1, a2, c2, _, by go_num, by omega, ⟨by omega, by omega⟩, HZ, HD⟩
    case measure => simp [intOf]; omega
end Go.Proofs.YtiadbiiiikhfaaaGreatDoor

