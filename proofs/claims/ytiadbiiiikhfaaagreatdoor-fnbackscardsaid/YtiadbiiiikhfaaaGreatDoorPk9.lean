/-
 Own text, merged of PreI, PreK, BckK, DrawA, IntsA, DrawB, BckH, DrawC, RegP.
-/
import Derived.Test.YtiadbiiiikhfaaaGreatDoorPk8
namespace Go.Proofs.YtiadbiiiikhfaaaGreatDoor
open Go.RowKit Go.Lib

/-- A store that has one lock more, at place k, and, for the cell of a key and start, another, at place q. -/
def reputS (S : Sto) (k q : Nat) (a s pr un va : Int) : Sto := ⟨(unlC S.c a s S.nc).length + 1, insF (fun p => (unlC S.c a s S.nc).flatten.getD p 0) 3 (unlC S.c a s S.nc).length q [a, s, va], S.nl + 1, insF S.l 5 S.nl k [a, s, 1, pr, un], S.nw, S.k⟩
theorem OwnM.capM {w : World} {B : Nat} {e : TypeId} {m n : Nat} {ao : Option Addr} {cp : Nat} {L : List Int} (h : OwnM w B e m (.slice ao n cp) n L) : n ≤ cp := by
 rcases h.2 with ⟨q, e⟩ | ⟨g, cap, cur, q, _, _, hn, _⟩
 ·cases q; exact Nat.le_refl _
 ·cases q; exact hn
theorem insF_flat {F G : Nat → Int} {n q : Nat} {xs : List Int} (h : ∀ p, p < n * 3 → F p = G p) (hq : q ≤ n) : ∀ p, p < (n + 1) * 3 → (nums F (q * 3) ++ xs ++ nums (fun p => F (q * 3 + p)) ((n - q) * 3)).getD p 0 = insF G 3 n q xs p := by
 intro p _
 unfold insF
 congr 1
 congr 1
 ·congr 1
  exact List.map_congr_left (fun i hi => h i (by have := List.mem_range.1 hi; omega))
 ·exact List.map_congr_left (fun i hi => h _ (by have := List.mem_range.1 hi; omega))
theorem placeC_same {F G : Nat → Int} {n q : Nat} {a s : Int} (h : ∀ p, p < n * 3 → F p = G p) (hq : placeAt (aheadC F a s) n q) : placeAt (aheadC G a s) n q := by
 obtain ⟨h1, h2, h3⟩ := hq
 refine ⟨h1, fun i hi => ?_, fun hi => ?_⟩
 ·have := h2 i hi
  unfold aheadC at this ⊢
  rwa [h _ (by omega), h _ (by omega)] at this
 ·have := h3 hi
  unfold aheadC at this ⊢
  rwa [h _ (by omega), h _ (by omega)] at this
set_option maxRecDepth 100000 in
set_option maxHeartbeats 16000000 in
theorem l3Pre_reput (S : Sto) (b : Nat) (v0 v1 v2 : Value) (a s pr un va : Int) (k q j : Nat) (w : World) (h : Lies w b S v0 v1 v2) (hz : storeF S = 0) (hi : FirstAt (writeIs S.k a s) S.nw (-1)) (hm : ¬ newerP S.k S.nw a s) (hl : FirstAt (lockIs S.l a) S.nl (-1)) (hc : FirstAt (cellIs S.c a s) S.nc (j : Int)) (hf : S.nl < 200) (hk : placeAt (aheadL S.l a) S.nl k) (hq : placeAt (aheadC (fun p => (unlC S.c a s S.nc).flatten.getD p 0) a s) (unlC S.c a s S.nc).length q) :
  Calls Tryz.prog 45 #[.pointer (some ⟨b, 0, none⟩), .agg #[.int .i64 a, .int .i64 s, .int .i64 1, .int .i64 pr, .int .i64 un], .int .i64 va] w (ResStoK w 0 (reputS S k q a s pr un va)) := by
 have hjn : j < S.nc := hc.at.1
 have hone : Hid ((unlC S.c a s S.nc).length = S.nc - 1 ∧ ∀ p, p < (S.nc - 1) * 3 → (unlC S.c a s S.nc).flatten.getD p 0 = if p < j * 3 then S.c p else S.c (p + 3)) := selD_one (F := S.c) (m := 3) (D := goneK a s) (j := j) (goneK_iff.2 hc.at.2.1) S.nc hjn (fun i hi' hne => goneK_not (fun q => hne (cell_once (storeF_zero hz).2.1 hi' hjn q hc.at.2.1)))
 have HJ : Hid (FirstAt (lockIs S.l a) S.nl (-1) ∧ FirstAt (cellIs S.c a s) S.nc (j : Int)) := ⟨hl, hc⟩
 have HK : Hid (placeAt (aheadL S.l a) S.nl k ∧ placeAt (aheadC (fun p => (unlC S.c a s S.nc).flatten.getD p 0) a s) (unlC S.c a s S.nc).length q) := ⟨hk, hq⟩
 have dn : decide ((200 : Int) ≤ (S.nl : Int)) = false := decide_eq_false (by omega)
 clear hl hc hk hq hf
 obtain ⟨a0, c0, a1, c1, a2, c2, rfl, rfl, rfl⟩ := h.2.form
 have HE : Hid (PrS w b S (.slice a0 S.nc c0) (.slice a1 S.nl c1) (.slice a2 S.nw c2) a s 1 pr un ((w.alloc (.cells #[.int .i64 a, .int .i64 s, .int .i64 1, .int .i64 pr, .int .i64 un] 40)).alloc (.cells #[.int .i64 0, .slice none 0 0, .slice none 0 0, .slice none 0 0] 32))) := by
  refine ⟨(LkE.new w a s 1 pr un _).later (below_alloc _ _), ?_, (h.later (below_alloc _ _)).later (below_alloc _ _)⟩
  have := Blk4.new (w.alloc (.cells #[.int .i64 a, .int .i64 s, .int .i64 1, .int .i64 pr, .int .i64 un] 40)) (.int .i64 0) (.slice none 0 0) (.slice none 0 0) (.slice none 0 0) 32
  rwa [World.size_alloc] at this
 obtain ⟨⟨hn0, hn1, hn2⟩, _⟩ := storeF_zero hz
 clear h hz
 go_enter Tryz.func45, Tryz.ntmps45
 go_wp2_with fail
 generalize (w.alloc (.cells #[.int .i64 a, .int .i64 s, .int .i64 1, .int .i64 pr, .int .i64 un] 40)).alloc (.cells #[.int .i64 0, .slice none 0 0, .slice none 0 0, .slice none 0 0] 32) = w1 at HE ⊢
 refine (l2Write_is S b _ _ _ a s (-1) _ HE.out.2.2 hn2 hi).mono ?_
 rintro e w' ⟨rfl, rfl⟩
 obtain ⟨⟨⟨y0, y1, y2, y3, y4⟩, _⟩, ⟨⟨r0, r1, r2, r3⟩, f0, f1, f2, f3⟩, ⟨p0, p1, p2⟩, pst⟩ := HE.out
 unfold ResStoK
 clear pst hi
 have HM : Hid (¬ newerP S.k S.nw a s) := hm
 clear hm
 go_wp2_with fail
 refine (l3Newer_is S b _ _ _ a s _ HE.out.2.2 hn2 false ⟨fun q => (Bool.false_ne_true q).elim, fun q => (HM.out q).elim⟩).mono ?_
 rintro e w3 ⟨rfl, q3⟩
 have HE : Hid (PrS w b S (.slice a0 S.nc c0) (.slice a1 S.nl c1) (.slice a2 S.nw c2) a s 1 pr un w3) := HE.out.later q3
 clear q3 y0 y1 y2 y3 y4 r0 r1 r2 r3 f0 f1 f2 f3 p0 p1 p2 HM
 obtain ⟨⟨⟨y0, y1, y2, y3, y4⟩, _⟩, ⟨⟨r0, r1, r2, r3⟩, f0, f1, f2, f3⟩, ⟨p0, p1, p2⟩, pst⟩ := HE.out
 clear pst
 go_wp2_with fail
 refine (l2Copy_own S _ _ _ 0 _ HE.out.2.2.2 ⟨by omega, by omega, by omega⟩).mono ?_
 rintro e w4 ⟨d0, e0, d1, e1, d2, e2, rfl, o2, q2⟩
 have g0 := own_cap o2.1.1
 have g1 := own_cap o2.1.2.1
 have g2 := own_cap o2.1.2.2
 obtain ⟨s2, fr2, ap2⟩ := o2.all
 have hz3 : Hid (w.heap.size + 2 ≤ w3.heap.size) := HE.out.2.1.lt
 have HS : Hid ((St w4 w3.heap.size S (.slice d0 S.nc e0) (.slice d1 S.nl e1) (.slice d2 S.nw e2) ∧ FreeS w4 S (.slice d0 S.nc e0) (.slice d1 S.nl e1) (.slice d2 S.nw e2)) ∧ ApartD S (.slice d0 S.nc e0) (.slice d1 S.nl e1) (.slice d2 S.nw e2)) := ⟨⟨s2, fr2⟩, ap2⟩
 have HOS : Hid (OwnS w4 w3.heap.size S (.slice d0 S.nc e0) (.slice d1 S.nl e1) (.slice d2 S.nw e2)) := o2
 have HE : Hid (PrS w b S (.slice a0 S.nc c0) (.slice a1 S.nl c1) (.slice a2 S.nw c2) a s 1 pr un (w4.alloc (.cells #[.slice d0 S.nc e0, .slice d1 S.nl e1, .slice d2 S.nw e2] 28)) ∧ Blk3 (w4.alloc (.cells #[.slice d0 S.nc e0, .slice d1 S.nl e1, .slice d2 S.nw e2] 28)) w4.heap.size (.slice d0 S.nc e0) (.slice d1 S.nl e1) (.slice d2 S.nw e2)) := ⟨(HE.out.later q2).later (below_alloc _ _), Blk3.new _ _ _ _ _⟩
 have hz4 : Hid (w3.heap.size ≤ w4.heap.size) := q2.size
 have B45 : Hid (Below w4.heap.size w4 (w4.alloc (.cells #[.slice d0 S.nc e0, .slice d1 S.nl e1, .slice d2 S.nw e2] 28))) := below_alloc _ _
 clear o2 s2 fr2 ap2 q2 y0 y1 y2 y3 y4 r0 r1 r2 r3 f0 f1 f2 f3 p0 p1 p2
 have HO : Hid (Blk3 (w4.alloc (.cells #[.slice d0 S.nc e0, .slice d1 S.nl e1, .slice d2 S.nw e2] 28)) w4.heap.size (.slice d0 S.nc e0) (.slice d1 S.nl e1) (.slice d2 S.nw e2)) := HE.out.2
 have HE : Hid (PrS w b S (.slice a0 S.nc c0) (.slice a1 S.nl c1) (.slice a2 S.nw c2) a s 1 pr un (w4.alloc (.cells #[.slice d0 S.nc e0, .slice d1 S.nl e1, .slice d2 S.nw e2] 28))) := HE.out.1
 obtain ⟨⟨⟨y0, y1, y2, y3, y4⟩, _⟩, ⟨⟨r0, r1, r2, r3⟩, f0, f1, f2, f3⟩, ⟨p0, p1, p2⟩, pst⟩ := HE.out
 go_wp2_with fail
 clear y0 y1 y2 y3 y4 r0 r1 r2 r3 f0 f1 f2 f3 p0 p1 p2 pst
 generalize w4.alloc (.cells #[.slice d0 S.nc e0, .slice d1 S.nl e1, .slice d2 S.nw e2] 28) = w5 at HE HO B45 ⊢
 obtain ⟨⟨⟨y0, y1, y2, y3, y4⟩, _⟩, ⟨⟨r0, r1, r2, r3⟩, f0, f1, f2, f3⟩, ⟨p0, p1, p2⟩, pst⟩ := HE.out
 obtain ⟨⟨t0, t1, t2⟩, _⟩ := HO.out
 refine (l2Lock_is S b _ _ _ a (-1) _ HE.out.2.2 hn1 HJ.out.1).mono ?_
 rintro e w' ⟨rfl, rfl⟩
 clear pst
 go_wp2_with fail
 refine (cellAt_is S b _ _ _ a s _ _ HE.out.2.2 hn0 HJ.out.2).mono ?_
 rintro e w'' ⟨rfl, rfl⟩
 clear HJ
 go_wp2_with fail
 refine (l2AddLock_any S.nl S.l d1 e1 w3.heap.size a s 1 pr un _ (HS.out.1.1.2.1.later B45.out) (by omega) g1).mono ?_
 rintro e w7 ⟨k', y1', z1', hk', rfl, O7, q7⟩
 have HO7 : Hid (Blk3 w7 w4.heap.size (.slice d0 S.nc e0) (.slice d1 S.nl e1) (.slice d2 S.nw e2)) := HO.out.later q7
 have HE7 : Hid (PrS w b S (.slice a0 S.nc c0) (.slice a1 S.nl c1) (.slice a2 S.nw c2) a s 1 pr un w7) := HE.out.later q7
 have B47 : Hid (Below w4.heap.size w4 w7) := B45.out.trans (q7.mono B45.out.size)
 have O7' : Hid (OwnM w7 w''.heap.size 40 5 (.slice y1' (S.nl + 1) z1') (S.nl + 1) (nums S.l (k' * 5) ++ [a, s, 1, pr, un] ++ nums (fun p => S.l (k' * 5 + p)) ((S.nl - k') * 5))) := O7
 have hk1 : Hid (placeAt (aheadL S.l a) S.nl k') := hk'
 have hz5 : Hid (w4.heap.size < w''.heap.size) := HO.out.lt
 have hz7 : Hid (w''.heap.size ≤ w7.heap.size) := q7.size
 clear O7 q7 hk' y0 y1 y2 y3 y4 r0 r1 r2 r3 f0 f1 f2 f3 p0 p1 p2 t0 t1 t2 HE HO
 obtain ⟨⟨t0, t1, t2⟩, ft0, ft1, ft2⟩ := HO7.out
 go_upto_region 13 with fail
 have hwl : w.heap.size + 1 < w4.heap.size := by have := hz3.out; have := hz4.out; omega
 have hks : ∀ i, i ≠ w4.heap.size → (w7.setCell ⟨w4.heap.size, 1, none⟩ (.slice y1' (S.nl + 1) z1')).heap[i]? = w7.heap[i]? := fun i hi => Below.heap_setCell w7 ⟨w4.heap.size, 1, none⟩ _ i hi
 have YZ : Hid (LkE w a s 1 pr un (w7.setCell ⟨w4.heap.size, 1, none⟩ (.slice y1' (S.nl + 1) z1'))) := ⟨⟨(cell_kept (hks _ (by omega)) 0).trans HE7.out.1.1.1, (cell_kept (hks _ (by omega)) 1).trans HE7.out.1.1.2.1, (cell_kept (hks _ (by omega)) 2).trans HE7.out.1.1.2.2.1, (cell_kept (hks _ (by omega)) 3).trans HE7.out.1.1.2.2.2.1, (cell_kept (hks _ (by omega)) 4).trans HE7.out.1.1.2.2.2.2⟩, HE7.out.1.2.setCell (by show w.heap.size ≤ w4.heap.size; omega) _⟩
 have RZ : Hid (Blk4 (w7.setCell ⟨w4.heap.size, 1, none⟩ (.slice y1' (S.nl + 1) z1')) (w.heap.size + 1) (.int .i64 0) (.slice none 0 0) (.slice none 0 0) (.slice none 0 0)) := HE7.out.2.1.kept (hks _ (by omega))
 have TZ : Hid (Blk3 (w7.setCell ⟨w4.heap.size, 1, none⟩ (.slice y1' (S.nl + 1) z1')) w4.heap.size (.slice d0 S.nc e0) (.slice y1' (S.nl + 1) z1') (.slice d2 S.nw e2)) := HO7.out.set1 _
 have B4Z : Hid (Below w4.heap.size w4 (w7.setCell ⟨w4.heap.size, 1, none⟩ (.slice y1' (S.nl + 1) z1'))) := B47.out.setCell (Nat.le_refl _) _
 have OZ : Hid (OwnM (w7.setCell ⟨w4.heap.size, 1, none⟩ (.slice y1' (S.nl + 1) z1')) w''.heap.size 40 5 (.slice y1' (S.nl + 1) z1') (S.nl + 1) (nums S.l (k' * 5) ++ [a, s, 1, pr, un] ++ nums (fun p => S.l (k' * 5 + p)) ((S.nl - k') * 5))) := O7'.out.far hz5.out _
 have zZ : Hid (w''.heap.size ≤ (w7.setCell ⟨w4.heap.size, 1, none⟩ (.slice y1' (S.nl + 1) z1')).heap.size) := by
  have := hz7.out
  unfold Hid
  simpa [World.setCell] using this
 generalize (w7.setCell ⟨w4.heap.size, 1, none⟩ (.slice y1' (S.nl + 1) z1')) = X0 at YZ RZ TZ B4Z OZ zZ ⊢
 clear hks t0 t1 t2 ft0 ft1 ft2 HO7 HE7 B47 O7' B45
 have hobL : Hid (∀ q, (Value.slice y1' (S.nl + 1) z1').ownBlock = some q → w''.heap.size ≤ q ∧ q < X0.heap.size) := OZ.out.block
 obtain ⟨⟨y0, y1, y2, y3, y4⟩, _⟩ := YZ.out
 obtain ⟨⟨r0, r1, r2, r3⟩, f0, f1, f2, f3⟩ := RZ.out
 obtain ⟨⟨t0, t1, t2⟩, ft0, ft1, ft2⟩ := TZ.out
 have zX0 : w4.heap.size < X0.heap.size := TZ.out.lt
 obtain ⟨i0, hi0, hz0, hz1, hz2⟩ := info_parts info_Cell
 obtain ⟨cg, co, hd0, _⟩ := HS.out.1.1.1.at (k := 0) (by omega)
 subst hd0
 have hw1 : IntKind.i64.wrap ((j : Int) + 1) = ((j + 1 : Nat) : Int) := by simp [IntKind.wrap, IntKind.bits, IntKind.signed]; omega
 have hj1 : j + 1 ≤ S.nc := hjn
 have hj2 : j + 1 ≤ e0 := by omega
 have hj3 : j ≤ e0 := by omega
 have hj4 : j ≤ S.nc := by omega
 have hq1 : (0 : Int) ≤ (j : Int) + 1 := by omega
 have hq2 : (j : Int) + 1 ≤ (S.nc : Int) := by omega
 have hq3 : (0 : Int) ≤ (j : Int) + 1 ∧ (j : Int) + 1 ≤ (S.nc : Int) := ⟨hq1, hq2⟩
 obtain ⟨A, hA⟩ : ∃ A, (if e0 = j + 1 then (some ⟨cg, co, none⟩ : Option Addr) else some ⟨cg, co + (j + 1) * 3, none⟩) = A := ⟨_, rfl⟩
 have F0 : X0.drew.cell? ⟨w4.heap.size, 0, none⟩ = some (.slice (some ⟨cg, co, none⟩) S.nc e0) := TZ.out.1.1
 have F1 : (X0.alloc (.cells #[] 93)).drew.cell? ⟨w4.heap.size, 0, none⟩ = some (.slice (some ⟨cg, co, none⟩) S.nc e0) := (TZ.out.alloc _).1.1
 have F1d : (X0.alloc (.cells #[] 93)).cell? ⟨w4.heap.size, 0, none⟩ = some (.slice (some ⟨cg, co, none⟩) S.nc e0) := (TZ.out.alloc _).1.1
 have F0d : X0.cell? ⟨w4.heap.size, 0, none⟩ = some (.slice (some ⟨cg, co, none⟩) S.nc e0) := TZ.out.1.1
 have O0 : Hid (OwnM (X0.alloc (.cells #[] 93)).drew X0.heap.size 93 3 (.slice (some ⟨X0.heap.size, 0, none⟩) 0 0) 0 []) := OwnM.lit0 X0.drew X0.heap.size _ _ rfl
 have C0 : Hid (Row (X0.alloc (.cells #[] 93)).drew w3.heap.size 3 S.nc S.c (.slice (some ⟨cg, co, none⟩) S.nc e0)) := ((HS.out.1.1.1.later B4Z.out).drewN 1).alloc _
 go_upto_region 15 with fail
 clear t0 t1 t2 ft0 ft1 ft2 r0 r1 r2 r3 f0 f1 f2 f3 y0 y1 y2 y3 y4
 refine wp_regionZ 13 (S := fun X => X.cell? ⟨w4.heap.size, 0, none⟩ = some (.slice (some ⟨cg, co, none⟩) S.nc e0)) (by kernel_rfl) F0 (fun hS => ?_)
 refine wpAnyZ_take (i := 1) (v := ?_) rfl (by kernel_rfl) (by kernel_rfl) (by kernel_rfl) (by kernel_rfl) (fun _ _ _ h => h) (Or.inl ⟨by kernel_rfl, ?_⟩) hS ?_
 rotate_left
 ·intro wx hx
  try dsimp only at hx
  go_simp
  try with_reducible rfl
 refine wpAnyZ_take (i := 2) (v := ?_) rfl (by kernel_rfl) (by kernel_rfl) (by kernel_rfl) (by kernel_rfl) (fun _ _ _ h => h) (Or.inl ⟨by kernel_rfl, ?_⟩) hS ?_
 rotate_left
 ·intro wx hx
  try dsimp only at hx
  go_simp
  try with_reducible rfl
 refine wpAnyZ_take (i := 3) (v := ?_) rfl (by kernel_rfl) (by kernel_rfl) (by kernel_rfl) (by kernel_rfl) (fun _ _ _ h => h) (Or.inl ⟨by kernel_rfl, ?_⟩) hS ?_
 rotate_left
 ·intro wx hx
  try dsimp only at hx
  go_simp
  try with_reducible rfl
 refine wpAnyZ_take (i := 4) (v := ?_) rfl (by kernel_rfl) (by kernel_rfl) (by kernel_rfl) (by kernel_rfl) (fun _ _ _ h => h) (Or.inl ⟨by kernel_rfl, ?_⟩) hS ?_
 rotate_left
 ·intro wx hx
  try dsimp only at hx
  go_simp
  try with_reducible rfl
 refine wpAnyZ_take (i := 6) (v := ?_) rfl (by kernel_rfl) (by kernel_rfl) (by kernel_rfl) (by kernel_rfl) (fun _ _ _ h => h) (Or.inl ⟨by kernel_rfl, ?_⟩) hS ?_
 rotate_left
 ·intro wx hx
  try dsimp only at hx
  go_simp
  try with_reducible rfl
 refine wpAnyZ_take (i := 7) (v := ?_) rfl (by kernel_rfl) (by kernel_rfl) (by kernel_rfl) (by kernel_rfl) (fun _ _ _ h => h) (Or.inl ⟨by kernel_rfl, ?_⟩) hS ?_
 rotate_left
 ·intro wx hx
  try dsimp only at hx
  go_simp
  try with_reducible rfl
 refine wpAnyZ_take (i := 8) (v := ?_) rfl (by kernel_rfl) (by kernel_rfl) (by kernel_rfl) (by kernel_rfl) (fun _ _ _ h => h) (Or.inl ⟨by kernel_rfl, ?_⟩) hS ?_
 rotate_left
 ·intro wx hx
  try dsimp only at hx
  go_simp
  try with_reducible rfl
 refine wpAnyZ_take (i := 9) (v := ?_) rfl (by kernel_rfl) (by kernel_rfl) (by kernel_rfl) (by kernel_rfl) (fun _ _ _ h => h) (Or.inl ⟨by kernel_rfl, ?_⟩) hS ?_
 rotate_left
 ·intro wx hx
  try dsimp only at hx
  go_simp
  try with_reducible rfl
 refine wpAnyZ_take (i := 10) (v := ?_) rfl (by kernel_rfl) (by kernel_rfl) (by kernel_rfl) (by kernel_rfl) (fun _ _ _ h => h) (Or.inl ⟨by kernel_rfl, ?_⟩) hS ?_
 rotate_left
 ·intro wx hx
  try dsimp only at hx
  go_simp
  try with_reducible rfl
 clear hS
 refine wpAnyZ_one 0 (by kernel_rfl) rfl (fun K hK => ?_)
 go_simp
 refine hK.out _ _ F1 (fun _ => ?_)
 clear hK K
 refine wpAnyZ_one 5 (by kernel_rfl) rfl (fun K hK => ?_)
 refine step_app 93 i0 (.agg #[.int .i64 0, .int .i64 0, .int .i64 0]) 3 24 (by rfl) _ _ 24 (by rfl) Tryz.underlying24 hi0 hz0 hz1 hz2 rfl (by omega) (by omega) _ X0.heap.size 0 [] (.slice (some ⟨X0.heap.size, 0, none⟩) 0 0) (by rfl) O0.out w3.heap.size j S.c (.slice (some ⟨cg, co, none⟩) j e0) (by rfl) (C0.out.head hj4 e0) (by omega) (by show X0.heap.size ≤ (World.alloc X0 _).heap.size; simp) ?_
 intro ao5 cp5 w7 O7 G7
 rw [Nat.zero_add, List.nil_append] at O7
 rw [show (0 : Nat) + j = j from Nat.zero_add j]
 have F2 : w7.cell? ⟨w4.heap.size, 0, none⟩ = some (.slice (some ⟨cg, co, none⟩) S.nc e0) := G7.cell F1 (fun q => by simp [Value.ownBlock] at q; omega)
 refine hK.out _ _ F2 (fun _ => ?_)
 clear hK K
 have C7 : Hid (Row w7 w3.heap.size 3 S.nc S.c (.slice (some ⟨cg, co, none⟩) S.nc e0)) := C0.out.turned G7 (fun h0 k hk q => by
  have h1 := (HS.out.1.1.1.lt h0 k hk).2
  rw [q] at hk
  simp [Value.ownBlock] at hk q
  omega)
 refine wpAnyZ_one 11 (by kernel_rfl) rfl (fun K hK => ?_)
 refine step_app 93 i0 (.agg #[.int .i64 0, .int .i64 0, .int .i64 0]) 3 24 (by rfl) _ _ 24 (by rfl) Tryz.underlying24 hi0 hz0 hz1 hz2 rfl (by omega) (by omega) _ X0.heap.size j (nums S.c (j * 3)) (.slice ao5 j cp5) (by rfl) O7 w3.heap.size (S.nc - (j + 1)) (fun p => S.c ((j + 1) * 3 + p)) (.slice A (S.nc - (j + 1)) (e0 - (j + 1))) (by rfl) (hA ▸ C7.out.tailR (j + 1) g0) (by omega) (Nat.le_trans (by show X0.heap.size ≤ (World.alloc X0 _).heap.size; simp) G7.size) ?_
 intro ao6 cp6 wC O8 G8
 have keep : ∀ q, q < X0.heap.size → wC.heap[q]? = X0.heap[q]? := fun q hq => by
  have h1 : (X0.alloc (.cells #[] 93)).drew.heap[q]? = X0.heap[q]? := (below_alloc X0 (.cells #[] 93)).block q hq
  have h2 : w7.heap[q]? = (X0.alloc (.cells #[] 93)).drew.heap[q]? := G7.block q (by show q < (World.alloc X0 _).heap.size; simp; omega) (fun e => by simp [Value.ownBlock] at e; omega)
  have h3 : wC.heap[q]? = w7.heap[q]? := G8.block q (Nat.lt_of_lt_of_le (by show q < (World.alloc X0 _).heap.size; simp; omega) G7.size) (fun e => by have := (O7.block q e.symm).1; omega)
  exact h3.trans (h2.trans h1)
 have szC : X0.heap.size ≤ wC.heap.size := Nat.le_trans (Nat.le_trans (by show X0.heap.size ≤ (World.alloc X0 _).heap.size; simp) G7.size) G8.size
 have osC : wC.os = X0.os ∧ wC.tape = X0.tape ∧ wC.output = X0.output := ⟨G8.os.trans G7.os, G8.tape.trans G7.tape, G8.output.trans G7.output⟩
 have TC : Blk3 wC w4.heap.size (.slice (some ⟨cg, co, none⟩) S.nc e0) (.slice y1' (S.nl + 1) z1') (.slice d2 S.nw e2) := TZ.out.kept (keep _ zX0)
 refine hK.out _ _ TC.1.1 (fun hS => ?_)
 clear hK K
 refine wpAnyZ_take (i := 12) (v := ?_) rfl (by kernel_rfl) (by kernel_rfl) (by kernel_rfl) (by kernel_rfl) (fun _ _ _ h => h) (Or.inl ⟨by kernel_rfl, ?_⟩) hS ?_
 rotate_left
 ·intro wx hx
  try dsimp only at hx
  go_simp
  try with_reducible rfl
 obtain ⟨⟨t0, t1, t2⟩, ft0, ft1, ft2⟩ := TC
 clear hS
 refine wpAnyZ_last (by kernel_rfl) rfl (fun K hK => ?_)
 go_simp
 refine hK.out _ _ ?_
 clear hK K
 have TC : Blk3 wC w4.heap.size (.slice (some ⟨cg, co, none⟩) S.nc e0) (.slice y1' (S.nl + 1) z1') (.slice d2 S.nw e2) := TZ.out.kept (keep _ zX0)
 have BC : Below X0.heap.size X0 wC := ⟨osC.1, osC.2.1, osC.2.2, szC, keep⟩
 have keepY : ∀ i, i < X0.heap.size → i ≠ w4.heap.size → (wC.setCell ⟨w4.heap.size, 0, none⟩ (.slice ao6 (j + (S.nc - (j + 1))) cp6)).heap[i]? = X0.heap[i]? := fun i hi hne => (Below.heap_setCell wC ⟨w4.heap.size, 0, none⟩ _ i hne).trans (keep i hi)
 have hx0 : w4.heap.size < X0.heap.size := zX0
 have YX1 : Hid (LkE w a s 1 pr un (wC.setCell ⟨w4.heap.size, 0, none⟩ (.slice ao6 (j + (S.nc - (j + 1))) cp6))) := ⟨⟨(cell_kept (keepY _ (by omega) (by omega)) 0).trans YZ.out.1.1, (cell_kept (keepY _ (by omega) (by omega)) 1).trans YZ.out.1.2.1, (cell_kept (keepY _ (by omega) (by omega)) 2).trans YZ.out.1.2.2.1, (cell_kept (keepY _ (by omega) (by omega)) 3).trans YZ.out.1.2.2.2.1, (cell_kept (keepY _ (by omega) (by omega)) 4).trans YZ.out.1.2.2.2.2⟩, (YZ.out.2.trans (BC.mono YZ.out.2.size)).setCell (by show w.heap.size ≤ w4.heap.size; omega) _⟩
 have RX1 : Hid (Blk4 (wC.setCell ⟨w4.heap.size, 0, none⟩ (.slice ao6 (j + (S.nc - (j + 1))) cp6)) (w.heap.size + 1) (.int .i64 0) (.slice none 0 0) (.slice none 0 0) (.slice none 0 0)) := RZ.out.kept (keepY _ (by omega) (by omega))
 have TX1 : Hid (Blk3 (wC.setCell ⟨w4.heap.size, 0, none⟩ (.slice ao6 (j + (S.nc - (j + 1))) cp6)) w4.heap.size (.slice ao6 (j + (S.nc - (j + 1))) cp6) (.slice y1' (S.nl + 1) z1') (.slice d2 S.nw e2)) := TC.set0 _
 have B4X1 : Hid (Below w4.heap.size w4 (wC.setCell ⟨w4.heap.size, 0, none⟩ (.slice ao6 (j + (S.nc - (j + 1))) cp6))) := (B4Z.out.trans (BC.mono (Nat.le_of_lt zX0))).setCell (Nat.le_refl _) _
 have OX1 : Hid (OwnM (wC.setCell ⟨w4.heap.size, 0, none⟩ (.slice ao6 (j + (S.nc - (j + 1))) cp6)) w''.heap.size 40 5 (.slice y1' (S.nl + 1) z1') (S.nl + 1) (nums S.l (k' * 5) ++ [a, s, 1, pr, un] ++ nums (fun p => S.l (k' * 5 + p)) ((S.nl - k') * 5))) := (OZ.out.later BC).far hz5.out _
 have OC : Hid (OwnM (wC.setCell ⟨w4.heap.size, 0, none⟩ (.slice ao6 (j + (S.nc - (j + 1))) cp6)) X0.heap.size 93 3 (.slice ao6 (j + (S.nc - (j + 1))) cp6) (j + (S.nc - (j + 1))) (nums S.c (j * 3) ++ nums (fun p => S.c ((j + 1) * 3 + p)) ((S.nc - (j + 1)) * 3))) := O8.far zX0 _
 have zX1 : Hid (w''.heap.size ≤ (wC.setCell ⟨w4.heap.size, 0, none⟩ (.slice ao6 (j + (S.nc - (j + 1))) cp6)).heap.size ∧ X0.heap.size ≤ (wC.setCell ⟨w4.heap.size, 0, none⟩ (.slice ao6 (j + (S.nc - (j + 1))) cp6)).heap.size) := by
  have h1 := zZ.out
  have h2 : X0.heap.size ≤ (wC.setCell ⟨w4.heap.size, 0, none⟩ (.slice ao6 (j + (S.nc - (j + 1))) cp6)).heap.size := by simpa [World.setCell] using szC
  exact ⟨by omega, h2⟩
 have hcap6 : j + (S.nc - (j + 1)) ≤ cp6 := O8.capM
 generalize wC.setCell ⟨w4.heap.size, 0, none⟩ (.slice ao6 (j + (S.nc - (j + 1))) cp6) = X1 at YX1 B4X1 RX1 TX1 OX1 OC zX1 ⊢
 clear YZ B4Z RZ TZ OZ F0 F1 F1d F0d F2 O0 C0 C7 O7 G7 O8 G8 keep keepY szC osC TC BC t0 t1 t2 ft0 ft1 ft2 zX0
 have YZ := YX1
 have B4Z := B4X1
 have RZ := RX1
 have TZ := TX1
 have OZ := OX1
 have zZ : Hid (w''.heap.size ≤ X1.heap.size) := zX1.out.1
 clear YX1 B4X1 RX1 TX1 OX1
 refine wpAnyZ_done (by kernel_rfl) ?_ _
 obtain ⟨⟨y0, y1, y2, y3, y4⟩, _⟩ := YZ.out
 obtain ⟨⟨r0, r1, r2, r3⟩, f0, f1, f2, f3⟩ := RZ.out
 obtain ⟨⟨t0, t1, t2⟩, ft0, ft1, ft2⟩ := TZ.out
 go_simp
 go_wp2_with fail
 have lenC0 : (nums S.c (j * 3) ++ nums (fun p => S.c ((j + 1) * 3 + p)) ((S.nc - (j + 1)) * 3)).length = (j + (S.nc - (j + 1))) * 3 := by
  rw [List.length_append, nums_length, nums_length]
  omega
 have RC : Hid (Row X1 w3.heap.size 3 (j + (S.nc - (j + 1))) (fun p => (nums S.c (j * 3) ++ nums (fun p => S.c ((j + 1) * 3 + p)) ((S.nc - (j + 1)) * 3)).getD p 0) (.slice ao6 (j + (S.nc - (j + 1))) cp6)) := (OC.out.own lenC0).row.1.mono (by have := hz4.out; have := hz5.out; have := zX1.out.2; omega)
 clear lenC0
 obtain ⟨FC, hFC⟩ : ∃ FC : Nat → Int, (fun p => (nums S.c (j * 3) ++ nums (fun p => S.c ((j + 1) * 3 + p)) ((S.nc - (j + 1)) * 3)).getD p 0) = FC := ⟨_, rfl⟩
 rw [hFC] at RC
 have HF : Hid (∀ p, p < (j + (S.nc - (j + 1))) * 3 → FC p = (unlC S.c a s S.nc).flatten.getD p 0) := fun p hp => by
  rw [← hFC]
  exact (roll_cells hjn p (by omega)).trans (hone.out.2 p (by omega)).symm
 clear hFC OC
 refine (l2AddCell_any (j + (S.nc - (j + 1))) (FC) ao6 cp6 w3.heap.size a s va _ (RC.out) (by omega) hcap6).mono ?_
 rintro e w9 ⟨q', y0', z0', hq', rfl, O9, q9⟩
 have hq1 : Hid (placeAt (aheadC (FC) a s) (j + (S.nc - (j + 1))) q') := hq'
 have R9 : Hid (Blk4 w9 (w.heap.size + 1) (.int .i64 0) (.slice none 0 0) (.slice none 0 0) (.slice none 0 0)) := RZ.out.later q9
 have T9 : Hid (Blk3 w9 w4.heap.size (.slice ao6 (j + (S.nc - (j + 1))) cp6) (.slice y1' (S.nl + 1) z1') (.slice d2 S.nw e2)) := TZ.out.later q9
 have B49 : Hid (Below w4.heap.size w4 w9) := B4Z.out.trans (q9.mono B4Z.out.size)
 have BW9 : Hid (Below w.heap.size w w9) := YZ.out.2.trans (q9.mono YZ.out.2.size)
 have OL9 : Hid (OwnM w9 w''.heap.size 40 5 (.slice y1' (S.nl + 1) z1') (S.nl + 1) (nums S.l (k' * 5) ++ [a, s, 1, pr, un] ++ nums (fun p => S.l (k' * 5 + p)) ((S.nl - k') * 5))) := OZ.out.later q9
 have OC9 : Hid (OwnM w9 X1.heap.size 93 3 (.slice y0' ((j + (S.nc - (j + 1))) + 1) z0') ((j + (S.nc - (j + 1))) + 1) (nums (FC) (q' * 3) ++ [a, s, va] ++ nums (fun p => (FC) (q' * 3 + p)) (((j + (S.nc - (j + 1))) - q') * 3))) := O9
 clear O9 q9 hq' y0 y1 y2 y3 y4 r0 r1 r2 r3 f0 f1 f2 f3 t0 t1 t2 ft0 ft1 ft2
 obtain ⟨⟨t0, t1, t2⟩, ft0, ft1, ft2⟩ := T9.out
 go_upto_region 17 with fail
 have hks : ∀ i, i ≠ w4.heap.size → (w9.setCell ⟨w4.heap.size, 0, none⟩ (.slice y0' ((j + (S.nc - (j + 1))) + 1) z0')).heap[i]? = w9.heap[i]? := fun i hi => Below.heap_setCell w9 ⟨w4.heap.size, 0, none⟩ _ i hi
 have RY : Blk4 (w9.setCell ⟨w4.heap.size, 0, none⟩ (.slice y0' ((j + (S.nc - (j + 1))) + 1) z0')) (w.heap.size + 1) (.int .i64 0) (.slice none 0 0) (.slice none 0 0) (.slice none 0 0) := R9.out.kept (hks _ (by omega))
 have TY : Blk3 (w9.setCell ⟨w4.heap.size, 0, none⟩ (.slice y0' ((j + (S.nc - (j + 1))) + 1) z0')) w4.heap.size (.slice y0' ((j + (S.nc - (j + 1))) + 1) z0') (.slice y1' (S.nl + 1) z1') (.slice d2 S.nw e2) := T9.out.set0 _
 have BY : Hid (Below w.heap.size w (w9.setCell ⟨w4.heap.size, 0, none⟩ (.slice y0' ((j + (S.nc - (j + 1))) + 1) z0'))) := BW9.out.setCell (by show w.heap.size ≤ w4.heap.size; omega) _
 have B4Y : Hid (Below w4.heap.size w4 (w9.setCell ⟨w4.heap.size, 0, none⟩ (.slice y0' ((j + (S.nc - (j + 1))) + 1) z0'))) := B49.out.setCell (Nat.le_refl _) _
 have OLY : Hid (OwnM (w9.setCell ⟨w4.heap.size, 0, none⟩ (.slice y0' ((j + (S.nc - (j + 1))) + 1) z0')) w''.heap.size 40 5 (.slice y1' (S.nl + 1) z1') (S.nl + 1) (nums S.l (k' * 5) ++ [a, s, 1, pr, un] ++ nums (fun p => S.l (k' * 5 + p)) ((S.nl - k') * 5))) := OL9.out.far hz5.out _
 have OCY : Hid (OwnM (w9.setCell ⟨w4.heap.size, 0, none⟩ (.slice y0' ((j + (S.nc - (j + 1))) + 1) z0')) X1.heap.size 93 3 (.slice y0' ((j + (S.nc - (j + 1))) + 1) z0') ((j + (S.nc - (j + 1))) + 1) (nums (FC) (q' * 3) ++ [a, s, va] ++ nums (fun p => (FC) (q' * 3 + p)) (((j + (S.nc - (j + 1))) - q') * 3))) := OC9.out.far (by show w4.heap.size < _; have := hz5.out; have := zZ.out; omega) _
 generalize (w9.setCell ⟨w4.heap.size, 0, none⟩ (.slice y0' ((j + (S.nc - (j + 1))) + 1) z0')) = w8 at RY TY BY B4Y OLY OCY ⊢
 clear hks t0 t1 t2 ft0 ft1 ft2 R9 T9 B49 BW9 OL9 OC9
 obtain ⟨⟨r0, r1, r2, r3⟩, f0, f1, f2, f3⟩ := RY
 obtain ⟨⟨t0, t1, t2⟩, _⟩ := TY
 obtain rfl : k' = k := hk1.out.one HK.out.1
 obtain rfl : q' = q := by
  have hh : placeAt (aheadC (fun p => (unlC S.c a s S.nc).flatten.getD p 0) a s) (j + (S.nc - (j + 1))) q' := placeC_same HF.out hq1.out
  have h3 := HK.out.2
  rw [show (unlC S.c a s S.nc).length = j + (S.nc - (j + 1)) by have : (unlC S.c a s S.nc).length = S.nc - 1 := hone.out.1; omega] at h3
  exact hh.one h3
 have lenL : (nums S.l (k' * 5) ++ [a, s, 1, pr, un] ++ nums (fun p => S.l (k' * 5 + p)) ((S.nl - k') * 5)).length = (S.nl + 1) * 5 := by
  have := hk1.out.1
  rw [List.length_append, List.length_append, nums_length, nums_length]
  simp only [List.length_cons, List.length_nil]
  omega
 have lenC : (nums (FC) (q' * 3) ++ [a, s, va] ++ nums (fun p => (FC) (q' * 3 + p)) (((j + (S.nc - (j + 1))) - q') * 3)).length = ((j + (S.nc - (j + 1))) + 1) * 3 := by
  have := hq1.out.1
  rw [List.length_append, List.length_append, nums_length, nums_length]
  simp only [List.length_cons, List.length_nil]
  omega
 have HL8 : Hid (Own _ _ _ _ _ _ _) := OLY.out.own lenL
 have HC8 : Hid (Own _ _ _ _ _ _ _) := OCY.out.own lenC
 clear lenL lenC
 go_wp2
 have hN : (unlC S.c a s S.nc).length = j + (S.nc - (j + 1)) := by
  have : (unlC S.c a s S.nc).length = S.nc - 1 := hone.out.1
  omega
 have rC : Own w8 w3.heap.size 93 3 (j + (S.nc - (j + 1)) + 1) (insF (fun p => (unlC S.c a s S.nc).flatten.getD p 0) 3 (j + (S.nc - (j + 1))) q' [a, s, va]) (.slice y0' (j + (S.nc - (j + 1)) + 1) z0') := (own_congr HC8.out (fun p hp => insF_flat (HF.out) hq1.out.1 p hp)).mono (by have := hz4.out; have := hz5.out; have := zX1.out; omega)
 have O8 : OwnS w8 w3.heap.size (reputS S k' q' a s pr un va) (.slice y0' (j + (S.nc - (j + 1)) + 1) z0') (.slice y1' (S.nl + 1) z1') (.slice d2 S.nw e2) := by
  unfold reputS
  rw [hN]
  exact ⟨⟨rC, HL8.out.mono (by have := hz4.out; have := hz5.out; omega), HOS.out.1.2.2.later B4Y.out⟩, fun q a b => by have h1 := (OCY.out.block q a).1; have h2 := (hobL.out q b).2; have := zX1.out; omega, fun q a b => by have h1 := (OCY.out.block q a).1; have h2 := (own_blk HOS.out.1.2.2 q b).2; have := zX1.out; have := hz5.out; omega, fun q a b => by have h1 := (hobL.out q a).1; have h2 := (own_blk HOS.out.1.2.2 q b).2; have := hz5.out; omega⟩
 have hlo : (w.heap.size + 1 : Nat) < w3.heap.size := by have := hz3.out; omega
 have hcl' : (reputS S k' q' a s pr un va).nc = j + (S.nc - (j + 1)) + 1 := by show (unlC S.c a s S.nc).length + 1 = _; rw [hN]
 refine bodyPost_ret (v := .agg #[.int .i64 0, .slice y0' (j + (S.nc - (j + 1)) + 1) z0', .slice y1' (S.nl + 1) z1', .slice d2 S.nw e2]) (by simp [results, Tryz.results45, go_sem, r0, r1, r2, r3]) rfl ?_
 refine ⟨y0', z0', y1', z1', d2, e2, ?_, ?_, (((BY.out.setCell (Nat.le_succ _) _).setCell (Nat.le_succ _) _).setCell (Nat.le_succ _) _).setCell (Nat.le_succ _) _⟩
 ·rw [hcl']; rfl
 ·rw [hcl']
  exact ((((O8.far hlo _).far hlo _).far hlo _).far hlo _).mono (by omega)
end Go.Proofs.YtiadbiiiikhfaaaGreatDoor

namespace Go.Proofs.YtiadbiiiikhfaaaGreatDoor
section
open Go.RowKit Go.Maps Go.Lib
theorem l_next {l : Nat → Int} {i : Nat} (h : lockF l (i + 1) = 0) : l (i * 5) < l ((i + 1) * 5) := by
 unfold lockF at h
 split at h
 ·rename_i q; exact absurd h q
 split at h
 ·rename_i q; exact absurd h q
 split at h
 ·exact absurd h (by decide)
 split at h
 ·exact absurd h (by decide)
 ·rename_i q
  rw [Nat.add_sub_cancel] at q
  have : ¬ ¬ l (i * 5) < l ((i + 1) * 5) := fun e => q ⟨Nat.succ_pos _, e⟩
  exact Classical.not_not.1 this
theorem l_rise {S : Sto} (h : scan (lockF S.l) S.nl = 0) : ∀ j, j < S.nl → ∀ i, i < j → S.l (i * 5) < S.l (j * 5)
 | 0, _, i, hi => absurd hi (Nat.not_lt_zero i)
 | j + 1, hj, i, hi => by
  have h1 := l_next (scan_zero h (j + 1) hj)
  rcases Nat.lt_or_ge i j with q | q
  ·have := l_rise h j (by omega) i q
   omega
  ·obtain rfl : i = j := by omega
   exact h1
theorem l_mono {S : Sto} (h : scan (lockF S.l) S.nl = 0) (x : Int) : ∀ i j, i ≤ j → j < S.nl → aheadL S.l x j → aheadL S.l x i := fun i j hij hj ha => by
 rcases Nat.eq_or_lt_of_le hij with rfl | hlt
 ·exact ha
 ·have := l_rise h j hj i hlt
  unfold aheadL at *
  omega
/-- What saying comes to on a store without a fault: a code and a store. -/
def PreRes (S : Sto) (a s kd pr un va r : Int) (R : Sto) : Prop :=
 (lateP S.k S.nw a s ∧ r = 8 ∧ R = emptyS) ∨
 (¬ lateP S.k S.nw a s ∧ ∃ j : Nat, FirstAt (lockIs S.l a) S.nl j ∧ S.l (j * 5 + 1) = s ∧ r = 0 ∧ R = S) ∨
 (¬ lateP S.k S.nw a s ∧ ∃ j : Nat, FirstAt (lockIs S.l a) S.nl j ∧ S.l (j * 5 + 1) ≠ s ∧ r = 7 ∧ R = emptyS) ∨
 (¬ lateP S.k S.nw a s ∧ FirstAt (lockIs S.l a) S.nl (-1) ∧ ∃ hv, FirstAt (cellIs S.c a s) S.nc hv ∧ (200 ≤ S.nl ∨ kd = 1 ∧ hv = -1 ∧ 200 ≤ S.nc) ∧ r = 2 ∧ R = emptyS) ∨
 (¬ lateP S.k S.nw a s ∧ FirstAt (lockIs S.l a) S.nl (-1) ∧ S.nl < 200 ∧ kd ≠ 1 ∧ ∃ hv k, FirstAt (cellIs S.c a s) S.nc hv ∧ placeAt (aheadL S.l a) S.nl k ∧ r = 0 ∧ R = lockS S k a s kd pr un) ∨
 (¬ lateP S.k S.nw a s ∧ FirstAt (lockIs S.l a) S.nl (-1) ∧ S.nl < 200 ∧ kd = 1 ∧ FirstAt (cellIs S.c a s) S.nc (-1) ∧ S.nc < 200 ∧ ∃ k q, placeAt (aheadL S.l a) S.nl k ∧ placeAt (aheadC S.c a s) S.nc q ∧ r = 0 ∧ R = putS S k q a s pr un va) ∨
 (¬ lateP S.k S.nw a s ∧ FirstAt (lockIs S.l a) S.nl (-1) ∧ S.nl < 200 ∧ kd = 1 ∧ ∃ j k q : Nat, FirstAt (cellIs S.c a s) S.nc j ∧ placeAt (aheadL S.l a) S.nl k ∧ placeAt (aheadC (fun p => (unlC S.c a s S.nc).flatten.getD p 0) a s) (unlC S.c a s S.nc).length q ∧ r = 0 ∧ R = reputS S k q a s pr un va)
theorem notLate {S : Sto} {a s : Int} (h : ¬ lateP S.k S.nw a s) : FirstAt (writeIs S.k a s) S.nw (-1) ∧ ¬ newerP S.k S.nw a s := by
 refine ⟨?_, fun q => h (lateP_iff.2 (Or.inr q))⟩
 obtain ⟨i, hi⟩ := FirstAt.get (writeIs S.k a s) S.nw
 rcases hi with ⟨rfl, hn⟩ | ⟨i, hi, rfl, hp, hq⟩
 ·exact Or.inl ⟨rfl, hn⟩
 ·exact absurd (lateP_iff.2 (Or.inl ⟨i, first_w (Or.inr ⟨i, hi, rfl, hp, hq⟩)⟩)) h
theorem l3Pre_own (S : Sto) (b : Nat) (v0 v1 v2 : Value) (a s kd pr un va r : Int) (R : Sto) (w : World) (h : Lies w b S v0 v1 v2) (hz : storeF S = 0) (hA : PreRes S a s kd pr un va r R) :
  Calls Tryz.prog 45 #[.pointer (some ⟨b, 0, none⟩), .agg #[.int .i64 a, .int .i64 s, .int .i64 kd, .int .i64 pr, .int .i64 un], .int .i64 va] w (ResStoK w r R) := by
 rcases hA with ⟨h1, rfl, rfl⟩ | ⟨h1, j, h2, h3, rfl, rfl⟩ | ⟨h1, j, h2, h3, rfl, rfl⟩ | ⟨h1, h2, hv, h3, h4, rfl, rfl⟩ | ⟨h1, h2, h3, h4, hv, k, h5, h6, rfl, rfl⟩ | ⟨h1, h2, h3, rfl, h5, h6, k, q, h7, h8, rfl, rfl⟩ | ⟨h1, h2, h3, rfl, j, k, q, h5, h7, h8, rfl, rfl⟩
 ·obtain ⟨i, hi⟩ := FirstAt.get (writeIs S.k a s) S.nw
  rcases hi with ⟨rfl, hn⟩ | ⟨i, hi, rfl, hp, hq⟩
  ·rcases lateP_iff.1 h1 with ⟨i, hi⟩ | hm
   ·exact absurd hi.2.1 (hn i hi.1)
   ·exact l3Pre_newer S b v0 v1 v2 a s kd pr un va w h hz (Or.inl ⟨rfl, hn⟩) hm
  ·exact l3Pre_said S b v0 v1 v2 a s kd pr un va i w h hz (Or.inr ⟨i, hi, rfl, hp, hq⟩)
 ·exact l3Pre_same _ b v0 v1 v2 a s kd pr un va j w h hz (notLate h1).1 (notLate h1).2 h2 h3
 ·exact l3Pre_locked S b v0 v1 v2 a s kd pr un va j w h hz (notLate h1).1 (notLate h1).2 h2 h3
 ·exact l3Pre_many S b v0 v1 v2 a s kd pr un va hv w h hz (notLate h1).1 (notLate h1).2 h2 h3 h4
 ·exact l3Pre_lock S b v0 v1 v2 a s kd pr un va hv k w h hz (notLate h1).1 (notLate h1).2 h2 h5 h3 h4 h6
 ·exact l3Pre_put S b v0 v1 v2 a s pr un va k q w h hz (notLate h1).1 (notLate h1).2 h2 h5 h3 h6 h7 h8
 ·exact l3Pre_reput S b v0 v1 v2 a s pr un va k q j w h hz (notLate h1).1 (notLate h1).2 h2 h5 h3 h7 h8
/-- What the columns' saying comes to. -/
def ColPre (x : World) (B b g : Nat) (r : Int) (R : Sto) (e : Ending) (w' : World) : Prop :=
 Below B x w' ∧ ((∃ kk, e = .returned (.iface 123 (.agg #[.int .i64 kk])) ∧ codeOf kk r ∧ R = emptyS) ∨
  (e = .returned .nilIface ∧ r = 0 ∧ (R.nl ≤ 200 ∧ R.nw ≤ 200) ∧ ∃ N m u1' u2', N ≤ 400 ∧ MapRow m R.nc R.c ∧ Cols w' B b N m R.nl R.l R.nw R.k g u1' u2'))
theorem cellM_no {S : Sto} {a s : Int} (h : FirstAt (cellIs S.c a s) S.nc (-1)) : cellM S S.nc a s = none := by
 cases e : cellM S S.nc a s with
 | none => rfl
 | some v =>
  obtain ⟨i, hi, h1, h2, _⟩ := cellM_some e
  rcases h with ⟨_, q⟩ | ⟨j, _, q, _⟩
  ·exact absurd (⟨h1, h2⟩ : cellIs S.c a s i) (q i hi)
  ·omega
theorem cellM_yes {S : Sto} (hz : scan (cellF S.c) S.nc = 0) {a s : Int} {j : Nat} (h : FirstAt (cellIs S.c a s) S.nc j) : (cellM S S.nc a s).isSome = true := by
 rw [cellM_at hz h.at.1 h.at.2.1]; rfl
theorem colPre_res (S : Sto) (hz : storeF S = 0) (B b g : Nat) (u1 u2 : Value) (a s kd pr un va r : Int) (wa : Wf a) (ws : Wf s) (wv : Wf va) (R : Sto) (x : World) (h : Cols x B b S.nc (cellM S S.nc) S.nl S.l S.nw S.k g u1 u2) (hA : ApartC b g u1 u2) (hR : PreRes S a s kd pr un va r R) :
  Calls Tryz.prog 39 #[.pointer (some ⟨b, 0, none⟩), .agg #[.int .i64 a, .int .i64 s, .int .i64 kd, .int .i64 pr, .int .i64 un], .int .i64 va] x (ColPre x B b g r R) := by
 have Z := storeF_zero hz
 obtain ⟨⟨hc, hl, hw⟩, zc, zl, zw, _⟩ := Z
 have hBx : B ≤ x.heap.size := Nat.le_trans h.1 (Nat.le_of_lt h.2.2.1.lt)
 have hk : ∀ i, i < S.nw → 1 ≤ S.k (i * 4 + 3) := fun i hi => (writeF_zero (scan_zero zw i hi)).2.2.2.2.2.1
 have nolock : FirstAt (lockIs S.l a) S.nl (-1) → ∀ i, i < S.nl → ¬ lockIs S.l a i := fun h i hi => by
  rcases h with ⟨_, q⟩ | ⟨j, _, q, _⟩
  ·exact q i hi
  ·omega
 rcases hR with ⟨h1, rfl, rfl⟩ | ⟨h1, j, h2, h3, rfl, rfl⟩ | ⟨h1, j, h2, h3, rfl, rfl⟩ | ⟨h1, h2, hv, h3, h4, rfl, rfl⟩ | ⟨h1, h2, h3, h4, hv, k, h5, h6, rfl, rfl⟩ | ⟨h1, h2, h3, rfl, h5, h6, k, q, h7, h8, rfl, rfl⟩ | ⟨h1, h2, h3, rfl, j, k, q, h5, h7, h8, rfl, rfl⟩
 ·refine (colPre_late B b _ _ _ _ _ _ g u1 u2 a s kd pr un va x h hw hk h1).mono ?_
  rintro e w' ⟨rfl, hb⟩
  exact ⟨hb.mono hBx, Or.inl ⟨0, rfl, by unfold codeOf; decide, rfl⟩⟩
 ·refine (colPre_held B b _ _ _ _ _ _ g u1 u2 a s kd pr un va x h hw hk hl h1 j h2.at _ rfl).mono ?_
  rintro e w' ⟨rfl, hb⟩
  rw [if_pos h3]
  exact ⟨hb.mono hBx, Or.inr ⟨rfl, rfl, ⟨hl, hw⟩, _, _, u1, u2, by omega, self_map zc, h.later hb⟩⟩
 ·refine (colPre_held B b _ _ _ _ _ _ g u1 u2 a s kd pr un va x h hw hk hl h1 j h2.at _ rfl).mono ?_
  rintro e w' ⟨rfl, hb⟩
  rw [if_neg h3]
  exact ⟨hb.mono hBx, Or.inl ⟨1, rfl, by unfold codeOf; decide, rfl⟩⟩
 ·refine (colPre_full B b _ _ _ _ _ _ g u1 u2 a s kd pr un va x h hw hk hl h1 (nolock h2) (fun y _ hy => ?_)).mono ?_
  ·rcases h4 with q | ⟨q1, q2, q3⟩
   ·exact hasRoom_full B b _ _ _ _ _ _ g u1 u2 a s kd pr un y hy wa ws S.nc S.c (self_map zc) _ rfl q
   ·by_cases q : 200 ≤ S.nl
    ·exact hasRoom_full B b _ _ _ _ _ _ g u1 u2 a s kd pr un y hy wa ws S.nc S.c (self_map zc) _ rfl q
    ·subst q2
     refine (hasRoom_put B b _ _ _ _ _ _ g u1 u2 a s kd pr un y hy wa ws S.nc S.c (self_map zc) false (by rw [cellM_no h3]; rfl) (by omega) q1 rfl).mono ?_
     rintro e w' ⟨rfl, hb⟩
     exact ⟨by rw [decide_eq_false (by omega)], hb⟩
  rintro e w' ⟨rfl, hb⟩
  exact ⟨hb.mono hBx, Or.inl ⟨5, rfl, by unfold codeOf; decide, rfl⟩⟩
 ·refine (colPre_done B b _ _ _ _ _ _ g u1 u2 a s kd pr un va wa ws wv x h hA (by omega) hw hk hl h1 (nolock h2) (l_mono zl a) (fun y _ hy => hasRoom_free B b _ _ _ _ _ _ g u1 u2 a s kd pr un y hy wa ws S.nc S.c (self_map zc) _ rfl h3 (Or.inl h4))).mono ?_
  rintro e w' ⟨rfl, ⟨q, v1, v2, hq, hC⟩, hb⟩
  obtain rfl : q = k := hq.one h6
  rw [if_neg h4] at hC
  exact ⟨hb, Or.inr ⟨rfl, rfl, ⟨h3, hw⟩, _, _, v1, v2, by omega, self_map zc, hC⟩⟩
 ·refine (colPre_done B b _ _ _ _ _ _ g u1 u2 a s 1 pr un va wa ws wv x h hA (by omega) hw hk hl h1 (nolock h2) (l_mono zl a) (fun y _ hy => (hasRoom_put B b _ _ _ _ _ _ g u1 u2 a s 1 pr un y hy wa ws S.nc S.c (self_map zc) false (by rw [cellM_no h5]; rfl) h3 rfl rfl).mono (fun e w' ⟨h1, h2⟩ => ⟨by rw [h1, decide_eq_true h6], h2⟩))).mono ?_
  rintro e w' ⟨rfl, ⟨q', v1, v2, hq, hC⟩, hb⟩
  obtain rfl : q' = k := hq.one h7
  rw [if_pos rfl] at hC
  exact ⟨hb, Or.inr ⟨rfl, rfl, ⟨h3, hw⟩, _, _, v1, v2, by omega, (self_map zc).ins wa ws (cellM_no h5) h8, hC⟩⟩
 ·refine (colPre_done B b _ _ _ _ _ _ g u1 u2 a s 1 pr un va wa ws wv x h hA (by omega) hw hk hl h1 (nolock h2) (l_mono zl a) (fun y _ hy => hasRoom_free B b _ _ _ _ _ _ g u1 u2 a s 1 pr un y hy wa ws S.nc S.c (self_map zc) true (cellM_yes zc h5) h3 (Or.inr rfl))).mono ?_
  rintro e w' ⟨rfl, ⟨q', v1, v2, hq, hC⟩, hb⟩
  obtain rfl : q' = k := hq.one h7
  rw [if_pos rfl] at hC
  have hm := ((roll_map zc a s).ins (v := va) wa ws (by unfold delM; rw [if_pos ⟨rfl, rfl⟩]) h8).congr (put_del (cellM S S.nc) a s va)
  exact ⟨hb, Or.inr ⟨rfl, rfl, ⟨h3, hw⟩, _, _, v1, v2, by omega, hm, hC⟩⟩
def kindOk (kd : Int) : Prop := 1 ≤ kd ∧ kd ≤ 3
def valOk (va : Int) : Prop := 0 ≤ va ∧ va ≤ 9999
def untOk (un : Int) : Prop := 0 ≤ un ∧ un ≤ 100000
def PreAns (S : Sto) (a s kd va pr un r : Int) (R : Sto) : Prop :=
 (askF S a ≠ 0 ∧ r = askF S a ∧ R = emptyS) ∨ (askF S a = 0 ∧ faultOf pr ≠ 0 ∧ r = faultOf pr ∧ R = emptyS) ∨
 (askF S a = 0 ∧ faultOf pr = 0 ∧ (¬ isT s ∨ isT s ∧ ¬ kindOk kd ∨ isT s ∧ kindOk kd ∧ ¬ valOk va ∨ isT s ∧ kindOk kd ∧ valOk va ∧ ¬ untOk un) ∧ r = 3 ∧ R = emptyS) ∨
 (askF S a = 0 ∧ faultOf pr = 0 ∧ (isT s ∧ kindOk kd ∧ valOk va ∧ untOk un) ∧ va ≠ 0 ∧ kd ≠ 1 ∧ r = 1 ∧ R = emptyS) ∨
 (askF S a = 0 ∧ faultOf pr = 0 ∧ (isT s ∧ kindOk kd ∧ valOk va ∧ untOk un) ∧ (va = 0 ∨ kd = 1) ∧ PreRes S a s kd pr un va r R)
set_option maxRecDepth 100000 in
set_option maxHeartbeats 8000000 in
theorem specPrewrite_own (S : Sto) (v0 v1 v2 : Value) (a s kd va pr un r : Int) (R : Sto) (B : Nat) (w : World) (h : St w B S v0 v1 v2) (hA : PreAns S a s kd va pr un r R) :
  Calls Tryz.prog 9 #[.agg #[v0, v1, v2], .int .i64 a, .int .i64 s, .int .i64 kd, .int .i64 va, .int .i64 pr, .int .i64 un] w (ResStoK w r R) := by
 obtain ⟨a0, c0, a1, c1, a2, c2, rfl, rfl, rfl⟩ := h.form
 have HE : Hid (CallSto w B S (.slice a0 S.nc c0) (.slice a1 S.nl c1) (.slice a2 S.nw c2) ((w.alloc (.cells #[.slice a0 S.nc c0, .slice a1 S.nl c1, .slice a2 S.nw c2] 28)).alloc (.cells #[.int .i64 0, .slice none 0 0, .slice none 0 0, .slice none 0 0] 32))) := CallSto.new h _ _
 clear h
 unfold ResStoK
 rcases hA with ⟨hz, rfl, rfl⟩ | ⟨hz, hp, rfl, rfl⟩ | ⟨hz, hp, ht, rfl, rfl⟩ | ⟨hz, hp, ht, hv, hk, rfl, rfl⟩ | ⟨hz, hp, ht, hv, hR⟩
 ·obtain ⟨f, hf⟩ : ∃ f, askF S a = f := ⟨_, rfl⟩
  have HF : Hid (askF S a = f) := hf
  have hfn : (f == 0) = false := beq_eq_false_iff_ne.2 (by rw [← hf]; exact hz)
  have hfn' : (f != 0) = true := by rw [bne_iff_ne, ← hf]; exact hz
  rw [hf]
  clear hz hf
  go_enter Tryz.func9, Tryz.ntmps9
  go_wp2_with fail
  refine (asked_any S w.heap.size _ _ _ _ _ ⟨HE.out.1.1, HE.out.2.2.1.mono (Nat.zero_le _)⟩).mono ?_
  rw [HF.out]
  rintro e w1 ⟨rfl, q1⟩
  have HE : Hid (CallSto w B S (.slice a0 S.nc c0) (.slice a1 S.nl c1) (.slice a2 S.nw c2) w1) := HE.out.later q1
  obtain ⟨⟨⟨p0, p1, p2⟩, _⟩, ⟨⟨r0, r1, r2, r3⟩, f0, f1, f2, f3⟩, _⟩ := HE.out
  clear q1
  go_wp2_with fail
  refine (l3Bad_own f _).mono ?_
  rintro e w4 ⟨d0, e0, d1, e1, d2, e2, rfl, o3, q4⟩
  have z3 : Hid (w.heap.size + 2 ≤ w1.heap.size) := HE.out.2.1.lt
  have S3 : Hid (OwnS w4 (w.heap.size + 2) emptyS (.slice d0 (emptyS).nc e0) (.slice d1 (emptyS).nl e1) (.slice d2 (emptyS).nw e2)) := o3.mono z3.out
  have HBW : Hid (Below w.heap.size w w4) := HE.out.2.2.2.trans (q4.mono HE.out.2.2.2.size)
  obtain ⟨⟨r0, r1, r2, r3⟩, f0, f1, f2, f3⟩ := HE.out.2.1.later q4
  clear o3 q4
  have hlo : (w.heap.size + 1 : Nat) < w.heap.size + 2 := Nat.lt_succ_self _
  go_wp2
  exact bodyPost_ret (v := .agg #[.int .i64 f, .slice d0 (emptyS).nc e0, .slice d1 (emptyS).nl e1, .slice d2 (emptyS).nw e2]) (by simp [results, Tryz.results9, go_sem, r0, r1, r2, r3]) rfl ⟨d0, e0, d1, e1, d2, e2, rfl, ((((S3.out.far hlo _).far hlo _).far hlo _).far hlo _).mono (by omega), (((HBW.out.setCell (Nat.le_succ _) _).setCell (Nat.le_succ _) _).setCell (Nat.le_succ _) _).setCell (Nat.le_succ _) _⟩
 ·have HA : Hid (askF S a = 0) := hz
  obtain ⟨f, hf⟩ : ∃ f, faultOf pr = f := ⟨_, rfl⟩
  have HF : Hid (faultOf pr = f) := hf
  have hfn : (f == 0) = false := beq_eq_false_iff_ne.2 (by rw [← hf]; exact hp)
  have hfn' : (f != 0) = true := by rw [bne_iff_ne, ← hf]; exact hp
  rw [hf]
  clear hz hf hp
  go_enter Tryz.func9, Tryz.ntmps9
  go_wp2_with fail
  refine (asked_any S w.heap.size _ _ _ _ _ ⟨HE.out.1.1, HE.out.2.2.1.mono (Nat.zero_le _)⟩).mono ?_
  rw [HA.out]
  rintro e w1 ⟨rfl, q1⟩
  have HE : Hid (CallSto w B S (.slice a0 S.nc c0) (.slice a1 S.nl c1) (.slice a2 S.nw c2) w1) := HE.out.later q1
  obtain ⟨⟨⟨p0, p1, p2⟩, _⟩, ⟨⟨r0, r1, r2, r3⟩, f0, f1, f2, f3⟩, _⟩ := HE.out
  clear q1
  go_wp2_with fail
  refine (l1Fault_any pr _).mono ?_
  rw [HF.out]
  rintro e w2' ⟨rfl, rfl⟩
  go_wp2_with fail
  refine (l3Bad_own f _).mono ?_
  rintro e w4 ⟨d0, e0, d1, e1, d2, e2, rfl, o3, q4⟩
  have z3 : Hid (w.heap.size + 2 ≤ w2'.heap.size) := HE.out.2.1.lt
  have S3 : Hid (OwnS w4 (w.heap.size + 2) emptyS (.slice d0 (emptyS).nc e0) (.slice d1 (emptyS).nl e1) (.slice d2 (emptyS).nw e2)) := o3.mono z3.out
  have HBW : Hid (Below w.heap.size w w4) := HE.out.2.2.2.trans (q4.mono HE.out.2.2.2.size)
  obtain ⟨⟨r0, r1, r2, r3⟩, f0, f1, f2, f3⟩ := HE.out.2.1.later q4
  clear o3 q4
  have hlo : (w.heap.size + 1 : Nat) < w.heap.size + 2 := Nat.lt_succ_self _
  go_wp2
  exact bodyPost_ret (v := .agg #[.int .i64 f, .slice d0 (emptyS).nc e0, .slice d1 (emptyS).nl e1, .slice d2 (emptyS).nw e2]) (by simp [results, Tryz.results9, go_sem, r0, r1, r2, r3]) rfl ⟨d0, e0, d1, e1, d2, e2, rfl, ((((S3.out.far hlo _).far hlo _).far hlo _).far hlo _).mono (by omega), (((HBW.out.setCell (Nat.le_succ _) _).setCell (Nat.le_succ _) _).setCell (Nat.le_succ _) _).setCell (Nat.le_succ _) _⟩
 ·have HA : Hid (askF S a = 0) := hz
  have HF : Hid (faultOf pr = 0) := hp
  clear hz hp
  rcases ht with q1 | ⟨q1, q2⟩ | ⟨q1, q2, q3⟩ | ⟨q1, q2, q3, q4⟩
  focus
   have H1 : Hid (decide (1 ≤ s ∧ s ≤ 100000) = false) := decide_eq_false q1
   clear q1
   go_enter Tryz.func9, Tryz.ntmps9
   go_wp2_with fail
   refine (asked_any S w.heap.size _ _ _ _ _ ⟨HE.out.1.1, HE.out.2.2.1.mono (Nat.zero_le _)⟩).mono ?_
   rw [HA.out]
   rintro e w1 ⟨rfl, q1⟩
   have HE : Hid (CallSto w B S (.slice a0 S.nc c0) (.slice a1 S.nl c1) (.slice a2 S.nw c2) w1) := HE.out.later q1
   obtain ⟨⟨⟨p0, p1, p2⟩, _⟩, ⟨⟨r0, r1, r2, r3⟩, f0, f1, f2, f3⟩, _⟩ := HE.out
   clear q1
   go_wp2_with fail
   refine (l1Fault_any pr _).mono ?_
   rw [HF.out]
   rintro e w2' ⟨rfl, rfl⟩
   go_wp2_with fail
   refine (l2Ts_is s false H1.out _).mono ?_
   rintro e w3' ⟨rfl, rfl⟩
   go_wp2_with fail
   refine (l3Bad_own 3 _).mono ?_
   rintro e w4 ⟨d0, e0, d1, e1, d2, e2, rfl, o3, q4⟩
   have z3 : Hid (w.heap.size + 2 ≤ w3'.heap.size) := HE.out.2.1.lt
  rotate_left
  focus
   have H1 : Hid (decide (1 ≤ s ∧ s ≤ 100000) = true) := decide_eq_true q1
   have H2 : Hid (decide (1 ≤ kd ∧ kd ≤ 3) = false) := decide_eq_false q2
   clear q1 q2
   go_enter Tryz.func9, Tryz.ntmps9
   go_wp2_with fail
   refine (asked_any S w.heap.size _ _ _ _ _ ⟨HE.out.1.1, HE.out.2.2.1.mono (Nat.zero_le _)⟩).mono ?_
   rw [HA.out]
   rintro e w1 ⟨rfl, q1⟩
   have HE : Hid (CallSto w B S (.slice a0 S.nc c0) (.slice a1 S.nl c1) (.slice a2 S.nw c2) w1) := HE.out.later q1
   obtain ⟨⟨⟨p0, p1, p2⟩, _⟩, ⟨⟨r0, r1, r2, r3⟩, f0, f1, f2, f3⟩, _⟩ := HE.out
   clear q1
   go_wp2_with fail
   refine (l1Fault_any pr _).mono ?_
   rw [HF.out]
   rintro e w2' ⟨rfl, rfl⟩
   go_wp2_with fail
   refine (l2Ts_is s true H1.out _).mono ?_
   rintro e w3' ⟨rfl, rfl⟩
   go_wp2_with fail
   refine (l1In_is kd _ _ false H2.out _).mono ?_
   rintro e w4' ⟨rfl, rfl⟩
   go_wp2_with fail
   refine (l3Bad_own 3 _).mono ?_
   rintro e w4 ⟨d0, e0, d1, e1, d2, e2, rfl, o3, q4⟩
   have z3 : Hid (w.heap.size + 2 ≤ w4'.heap.size) := HE.out.2.1.lt
  rotate_left
  focus
   have H1 : Hid (decide (1 ≤ s ∧ s ≤ 100000) = true) := decide_eq_true q1
   have H2 : Hid (decide (1 ≤ kd ∧ kd ≤ 3) = true) := decide_eq_true q2
   have H3 : Hid (decide (0 ≤ va ∧ va ≤ 9999) = false) := decide_eq_false q3
   clear q1 q2 q3
   go_enter Tryz.func9, Tryz.ntmps9
   go_wp2_with fail
   refine (asked_any S w.heap.size _ _ _ _ _ ⟨HE.out.1.1, HE.out.2.2.1.mono (Nat.zero_le _)⟩).mono ?_
   rw [HA.out]
   rintro e w1 ⟨rfl, q1⟩
   have HE : Hid (CallSto w B S (.slice a0 S.nc c0) (.slice a1 S.nl c1) (.slice a2 S.nw c2) w1) := HE.out.later q1
   obtain ⟨⟨⟨p0, p1, p2⟩, _⟩, ⟨⟨r0, r1, r2, r3⟩, f0, f1, f2, f3⟩, _⟩ := HE.out
   clear q1
   go_wp2_with fail
   refine (l1Fault_any pr _).mono ?_
   rw [HF.out]
   rintro e w2' ⟨rfl, rfl⟩
   go_wp2_with fail
   refine (l2Ts_is s true H1.out _).mono ?_
   rintro e w3' ⟨rfl, rfl⟩
   go_wp2_with fail
   refine (l1In_is kd _ _ true H2.out _).mono ?_
   rintro e w4' ⟨rfl, rfl⟩
   go_wp2_with fail
   refine (l1In_is va _ _ false H3.out _).mono ?_
   rintro e w5' ⟨rfl, rfl⟩
   go_wp2_with fail
   refine (l3Bad_own 3 _).mono ?_
   rintro e w4 ⟨d0, e0, d1, e1, d2, e2, rfl, o3, q4⟩
   have z3 : Hid (w.heap.size + 2 ≤ w5'.heap.size) := HE.out.2.1.lt
  rotate_left
  focus
   have H1 : Hid (decide (1 ≤ s ∧ s ≤ 100000) = true) := decide_eq_true q1
   have H2 : Hid (decide (1 ≤ kd ∧ kd ≤ 3) = true) := decide_eq_true q2
   have H3 : Hid (decide (0 ≤ va ∧ va ≤ 9999) = true) := decide_eq_true q3
   have H4 : Hid (decide (0 ≤ un ∧ un ≤ 100000) = false) := decide_eq_false q4
   clear q1 q2 q3 q4
   go_enter Tryz.func9, Tryz.ntmps9
   go_wp2_with fail
   refine (asked_any S w.heap.size _ _ _ _ _ ⟨HE.out.1.1, HE.out.2.2.1.mono (Nat.zero_le _)⟩).mono ?_
   rw [HA.out]
   rintro e w1 ⟨rfl, q1⟩
   have HE : Hid (CallSto w B S (.slice a0 S.nc c0) (.slice a1 S.nl c1) (.slice a2 S.nw c2) w1) := HE.out.later q1
   obtain ⟨⟨⟨p0, p1, p2⟩, _⟩, ⟨⟨r0, r1, r2, r3⟩, f0, f1, f2, f3⟩, _⟩ := HE.out
   clear q1
   go_wp2_with fail
   refine (l1Fault_any pr _).mono ?_
   rw [HF.out]
   rintro e w2' ⟨rfl, rfl⟩
   go_wp2_with fail
   refine (l2Ts_is s true H1.out _).mono ?_
   rintro e w3' ⟨rfl, rfl⟩
   go_wp2_with fail
   refine (l1In_is kd _ _ true H2.out _).mono ?_
   rintro e w4' ⟨rfl, rfl⟩
   go_wp2_with fail
   refine (l1In_is va _ _ true H3.out _).mono ?_
   rintro e w5' ⟨rfl, rfl⟩
   go_wp2_with fail
   refine (l1In_is un _ _ false H4.out _).mono ?_
   rintro e w6' ⟨rfl, rfl⟩
   go_wp2_with fail
   refine (l3Bad_own 3 _).mono ?_
   rintro e w4 ⟨d0, e0, d1, e1, d2, e2, rfl, o3, q4⟩
   have z3 : Hid (w.heap.size + 2 ≤ w6'.heap.size) := HE.out.2.1.lt
  rotate_left
  all_goals
   have S3 : Hid (OwnS w4 (w.heap.size + 2) emptyS (.slice d0 (emptyS).nc e0) (.slice d1 (emptyS).nl e1) (.slice d2 (emptyS).nw e2)) := o3.mono z3.out
   have HBW : Hid (Below w.heap.size w w4) := HE.out.2.2.2.trans (q4.mono HE.out.2.2.2.size)
   obtain ⟨⟨r0, r1, r2, r3⟩, f0, f1, f2, f3⟩ := HE.out.2.1.later q4
   clear o3 q4
   have hlo : (w.heap.size + 1 : Nat) < w.heap.size + 2 := Nat.lt_succ_self _
   go_wp2
   exact bodyPost_ret (v := .agg #[.int .i64 3, .slice d0 (emptyS).nc e0, .slice d1 (emptyS).nl e1, .slice d2 (emptyS).nw e2]) (by simp [results, Tryz.results9, go_sem, r0, r1, r2, r3]) rfl ⟨d0, e0, d1, e1, d2, e2, rfl, ((((S3.out.far hlo _).far hlo _).far hlo _).far hlo _).mono (by omega), (((HBW.out.setCell (Nat.le_succ _) _).setCell (Nat.le_succ _) _).setCell (Nat.le_succ _) _).setCell (Nat.le_succ _) _⟩
 ·have HA : Hid (askF S a = 0) := hz
  have HF : Hid (faultOf pr = 0) := hp
  obtain ⟨q1, q2, q3, q4⟩ := ht
  have H1 : Hid (decide (1 ≤ s ∧ s ≤ 100000) = true) := decide_eq_true q1
  have H2 : Hid (decide (1 ≤ kd ∧ kd ≤ 3) = true) := decide_eq_true q2
  have H3 : Hid (decide (0 ≤ va ∧ va ≤ 9999) = true) := decide_eq_true q3
  have H4 : Hid (decide (0 ≤ un ∧ un ≤ 100000) = true) := decide_eq_true q4
  have dv : (va != 0) = true := bne_iff_ne.2 hv
  have dv' : (va == 0) = false := beq_eq_false_iff_ne.2 hv
  have dk : (kd != 1) = true := bne_iff_ne.2 hk
  have dk' : (kd == 1) = false := beq_eq_false_iff_ne.2 hk
  clear hz hp q1 q2 q3 q4 hv hk
  go_enter Tryz.func9, Tryz.ntmps9
  go_wp2_with fail
  refine (asked_any S w.heap.size _ _ _ _ _ ⟨HE.out.1.1, HE.out.2.2.1.mono (Nat.zero_le _)⟩).mono ?_
  rw [HA.out]
  rintro e w1 ⟨rfl, q1⟩
  have HE : Hid (CallSto w B S (.slice a0 S.nc c0) (.slice a1 S.nl c1) (.slice a2 S.nw c2) w1) := HE.out.later q1
  obtain ⟨⟨⟨p0, p1, p2⟩, _⟩, ⟨⟨r0, r1, r2, r3⟩, f0, f1, f2, f3⟩, _⟩ := HE.out
  clear q1
  go_wp2_with fail
  refine (l1Fault_any pr _).mono ?_
  rw [HF.out]
  rintro e w2' ⟨rfl, rfl⟩
  go_wp2_with fail
  refine (l2Ts_is s true H1.out _).mono ?_
  rintro e w3' ⟨rfl, rfl⟩
  go_wp2_with fail
  refine (l1In_is kd _ _ true H2.out _).mono ?_
  rintro e w4' ⟨rfl, rfl⟩
  go_wp2_with fail
  refine (l1In_is va _ _ true H3.out _).mono ?_
  rintro e w5' ⟨rfl, rfl⟩
  go_wp2_with fail
  refine (l1In_is un _ _ true H4.out _).mono ?_
  rintro e w6' ⟨rfl, rfl⟩
  go_wp2_with fail
  refine (l3Bad_own 1 _).mono ?_
  rintro e w4 ⟨d0, e0, d1, e1, d2, e2, rfl, o3, q4⟩
  have z3 : Hid (w.heap.size + 2 ≤ w6'.heap.size) := HE.out.2.1.lt
  have S3 : Hid (OwnS w4 (w.heap.size + 2) emptyS (.slice d0 (emptyS).nc e0) (.slice d1 (emptyS).nl e1) (.slice d2 (emptyS).nw e2)) := o3.mono z3.out
  have HBW : Hid (Below w.heap.size w w4) := HE.out.2.2.2.trans (q4.mono HE.out.2.2.2.size)
  obtain ⟨⟨r0, r1, r2, r3⟩, f0, f1, f2, f3⟩ := HE.out.2.1.later q4
  clear o3 q4
  have hlo : (w.heap.size + 1 : Nat) < w.heap.size + 2 := Nat.lt_succ_self _
  go_wp2
  exact bodyPost_ret (v := .agg #[.int .i64 1, .slice d0 (emptyS).nc e0, .slice d1 (emptyS).nl e1, .slice d2 (emptyS).nw e2]) (by simp [results, Tryz.results9, go_sem, r0, r1, r2, r3]) rfl ⟨d0, e0, d1, e1, d2, e2, rfl, ((((S3.out.far hlo _).far hlo _).far hlo _).far hlo _).mono (by omega), (((HBW.out.setCell (Nat.le_succ _) _).setCell (Nat.le_succ _) _).setCell (Nat.le_succ _) _).setCell (Nat.le_succ _) _⟩
 ·have HA : Hid (askF S a = 0) := hz
  have HF : Hid (faultOf pr = 0) := hp
  have HP : Hid (∀ (b : Nat) (u0 u1 u2 : Value) (x : World), Lies x b S u0 u1 u2 → Calls Tryz.prog 45 #[.pointer (some ⟨b, 0, none⟩), .agg #[.int .i64 a, .int .i64 s, .int .i64 kd, .int .i64 pr, .int .i64 un], .int .i64 va] x (ResStoK x r R)) := fun b u0 u1 u2 x hx => l3Pre_own S b u0 u1 u2 a s kd pr un va r R x hx (askF_zero hz).1 hR
  obtain ⟨q1, q2, q3, q4⟩ := ht
  have H1 : Hid (decide (1 ≤ s ∧ s ≤ 100000) = true) := decide_eq_true q1
  have H2 : Hid (decide (1 ≤ kd ∧ kd ≤ 3) = true) := decide_eq_true q2
  have H3 : Hid (decide (0 ≤ va ∧ va ≤ 9999) = true) := decide_eq_true q3
  have H4 : Hid (decide (0 ≤ un ∧ un ≤ 100000) = true) := decide_eq_true q4
  clear hz hp q1 q2 q3 q4 hR
  by_cases hv0 : va = 0
  focus
   have dv : (va != 0) = false := by rw [hv0]; rfl
   have dv' : (va == 0) = true := beq_iff_eq.2 hv0
   clear hv hv0
  rotate_left
  focus
   have dv : (va != 0) = true := bne_iff_ne.2 hv0
   have dv' : (va == 0) = false := beq_eq_false_iff_ne.2 hv0
   have hk1 : kd = 1 := by omega
   have dk : (kd != 1) = false := by rw [hk1]; rfl
   have dk' : (kd == 1) = true := beq_iff_eq.2 hk1
   clear hv hv0 hk1
  rotate_left
  all_goals
   go_enter Tryz.func9, Tryz.ntmps9
   go_wp2_with fail
   refine (asked_any S w.heap.size _ _ _ _ _ ⟨HE.out.1.1, HE.out.2.2.1.mono (Nat.zero_le _)⟩).mono ?_
   rw [HA.out]
   rintro e w1 ⟨rfl, q1⟩
   have HE : Hid (CallSto w B S (.slice a0 S.nc c0) (.slice a1 S.nl c1) (.slice a2 S.nw c2) w1) := HE.out.later q1
   obtain ⟨⟨⟨p0, p1, p2⟩, _⟩, ⟨⟨r0, r1, r2, r3⟩, f0, f1, f2, f3⟩, _⟩ := HE.out
   clear q1
   go_wp2_with fail
   refine (l1Fault_any pr _).mono ?_
   rw [HF.out]
   rintro e w2' ⟨rfl, rfl⟩
   go_wp2_with fail
   refine (l2Ts_is s true H1.out _).mono ?_
   rintro e w3' ⟨rfl, rfl⟩
   go_wp2_with fail
   refine (l1In_is kd _ _ true H2.out _).mono ?_
   rintro e w4' ⟨rfl, rfl⟩
   go_wp2_with fail
   refine (l1In_is va _ _ true H3.out _).mono ?_
   rintro e w5' ⟨rfl, rfl⟩
   go_wp2_with fail
   refine (l1In_is un _ _ true H4.out _).mono ?_
   rintro e w6' ⟨rfl, rfl⟩
   go_wp2_with fail
   refine (HP.out w.heap.size _ _ _ _ ⟨HE.out.1.1, HE.out.2.2.1.mono (Nat.zero_le _)⟩).mono ?_
   rintro e w4 ⟨d0, e0, d1, e1, d2, e2, rfl, o3, q4⟩
   have z3 : Hid (w.heap.size + 2 ≤ w6'.heap.size) := HE.out.2.1.lt
   have S3 : Hid (OwnS w4 (w.heap.size + 2) R (.slice d0 (R).nc e0) (.slice d1 (R).nl e1) (.slice d2 (R).nw e2)) := o3.mono z3.out
   have HBW : Hid (Below w.heap.size w w4) := HE.out.2.2.2.trans (q4.mono HE.out.2.2.2.size)
   obtain ⟨⟨r0, r1, r2, r3⟩, f0, f1, f2, f3⟩ := HE.out.2.1.later q4
   clear o3 q4
   have hlo : (w.heap.size + 1 : Nat) < w.heap.size + 2 := Nat.lt_succ_self _
   go_wp2
   exact bodyPost_ret (v := .agg #[.int .i64 r, .slice d0 (R).nc e0, .slice d1 (R).nl e1, .slice d2 (R).nw e2]) (by simp [results, Tryz.results9, go_sem, r0, r1, r2, r3]) rfl ⟨d0, e0, d1, e1, d2, e2, rfl, ((((S3.out.far hlo _).far hlo _).far hlo _).far hlo _).mono (by omega), (((HBW.out.setCell (Nat.le_succ _) _).setCell (Nat.le_succ _) _).setCell (Nat.le_succ _) _).setCell (Nat.le_succ _) _⟩
end

section
open Go.RowKit
end

section
open Go.RowKit Go.Maps Go.Lib
set_option maxRecDepth 100000 in
set_option maxHeartbeats 8000000 in
theorem implPrewrite_is (S : Sto) (v0 v1 v2 : Value) (a s kd va pr un r : Int) (R : Sto) (B : Nat) (w : World) (h : St w B S v0 v1 v2) (hL : Laid w) (hA : PreAns S a s kd va pr un r R) :
  Calls Tryz.prog 8 #[.agg #[v0, v1, v2], .int .i64 a, .int .i64 s, .int .i64 kd, .int .i64 va, .int .i64 pr, .int .i64 un] w (ResSto w r R) := by
 obtain ⟨a0, c0, a1, c1, a2, c2, rfl, rfl, rfl⟩ := h.form
 have HE : Hid (CallSto w B S (.slice a0 S.nc c0) (.slice a1 S.nl c1) (.slice a2 S.nw c2) ((w.alloc (.cells #[.slice a0 S.nc c0, .slice a1 S.nl c1, .slice a2 S.nw c2] 28)).alloc (.cells #[.int .i64 0, .slice none 0 0, .slice none 0 0, .slice none 0 0] 32))) := CallSto.new h _ _
 have HL : Hid (Laid w) := hL
 clear h hL
 unfold ResSto
 rcases hA with ⟨hz, rfl, rfl⟩ | ⟨hz, hp, rfl, rfl⟩ | ⟨hz, hp, ht, rfl, rfl⟩ | ⟨hz, hp, ht, hv, hk, rfl, rfl⟩ | ⟨hz, hp, ht, hv, hR⟩
 ·obtain ⟨f, hf⟩ : ∃ f, askF S a = f := ⟨_, rfl⟩
  have HF : Hid (askF S a = f) := hf
  have hfn : (f == 0) = false := beq_eq_false_iff_ne.2 (by rw [← hf]; exact hz)
  rw [hf]
  clear hz hf
  go_enter Tryz.func8, Tryz.ntmps8
  go_wp2_with fail
  refine (askFault_any S _ _ _ a B _ HE.out.2.2.1).mono ?_
  rw [HF.out]
  rintro e w1 ⟨rfl, q1⟩
  have HE : Hid (CallSto w B S (.slice a0 S.nc c0) (.slice a1 S.nl c1) (.slice a2 S.nw c2) w1) := HE.out.later q1
  obtain ⟨⟨⟨p0, p1, p2⟩, _⟩, ⟨⟨r0, r1, r2, r3⟩, f0, f1, f2, f3⟩, _⟩ := HE.out
  clear q1
  go_wp2
  exact bodyPost_ret (v := .agg #[.int .i64 f, .slice none 0 0, .slice none 0 0, .slice none 0 0]) (by simp [results, Tryz.results8, go_sem, r0, r1, r2, r3]) rfl ⟨none, 0, none, 0, none, 0, rfl, empty_sto _ _, (((HE.out.2.2.2.setCell (Nat.le_succ _) _).setCell (Nat.le_succ _) _).setCell (Nat.le_succ _) _).setCell (Nat.le_succ _) _⟩
 ·have HA : Hid (askF S a = 0) := hz
  obtain ⟨f, hf⟩ : ∃ f, faultOf pr = f := ⟨_, rfl⟩
  have HF : Hid (faultOf pr = f) := hf
  have hfn : (f == 0) = false := beq_eq_false_iff_ne.2 (by rw [← hf]; exact hp)
  rw [hf]
  clear hz hf hp
  go_enter Tryz.func8, Tryz.ntmps8
  go_wp2_with fail
  refine (askFault_any S _ _ _ a B _ HE.out.2.2.1).mono ?_
  rw [HA.out]
  rintro e w1 ⟨rfl, q1⟩
  have HE : Hid (CallSto w B S (.slice a0 S.nc c0) (.slice a1 S.nl c1) (.slice a2 S.nw c2) w1) := HE.out.later q1
  obtain ⟨⟨⟨p0, p1, p2⟩, _⟩, ⟨⟨r0, r1, r2, r3⟩, f0, f1, f2, f3⟩, _⟩ := HE.out
  clear q1
  go_wp2_with fail
  refine (keyFault_any pr _).mono ?_
  rw [HF.out]
  rintro e w2k ⟨rfl, rfl⟩
  go_wp2
  exact bodyPost_ret (v := .agg #[.int .i64 f, .slice none 0 0, .slice none 0 0, .slice none 0 0]) (by simp [results, Tryz.results8, go_sem, r0, r1, r2, r3]) rfl ⟨none, 0, none, 0, none, 0, rfl, empty_sto _ _, (((HE.out.2.2.2.setCell (Nat.le_succ _) _).setCell (Nat.le_succ _) _).setCell (Nat.le_succ _) _).setCell (Nat.le_succ _) _⟩
 ·have HA : Hid (askF S a = 0) := hz
  have HF : Hid (faultOf pr = 0) := hp
  clear hz hp
  rcases ht with q1 | ⟨q1, q2⟩ | ⟨q1, q2, q3⟩ | ⟨q1, q2, q3, q4⟩
  focus
   have H1 : Hid (decide (1 ≤ s ∧ s ≤ 100000) = false) := decide_eq_false q1
   clear q1
   go_enter Tryz.func8, Tryz.ntmps8
   go_wp2_with fail
   refine (askFault_any S _ _ _ a B _ HE.out.2.2.1).mono ?_
   rw [HA.out]
   rintro e w1 ⟨rfl, q1⟩
   have HE : Hid (CallSto w B S (.slice a0 S.nc c0) (.slice a1 S.nl c1) (.slice a2 S.nw c2) w1) := HE.out.later q1
   obtain ⟨⟨⟨p0, p1, p2⟩, _⟩, ⟨⟨r0, r1, r2, r3⟩, f0, f1, f2, f3⟩, _⟩ := HE.out
   clear q1
   go_wp2_with fail
   refine (keyFault_any pr _).mono ?_
   rw [HF.out]
   rintro e w2k ⟨rfl, rfl⟩
   go_wp2_with fail
   refine (isTime_is s false H1.out _).mono ?_
   rintro e w3k ⟨rfl, rfl⟩
  rotate_left
  focus
   have H1 : Hid (decide (1 ≤ s ∧ s ≤ 100000) = true) := decide_eq_true q1
   have H2 : Hid (decide (1 ≤ kd ∧ kd ≤ 3) = false) := decide_eq_false q2
   clear q1 q2
   go_enter Tryz.func8, Tryz.ntmps8
   go_wp2_with fail
   refine (askFault_any S _ _ _ a B _ HE.out.2.2.1).mono ?_
   rw [HA.out]
   rintro e w1 ⟨rfl, q1⟩
   have HE : Hid (CallSto w B S (.slice a0 S.nc c0) (.slice a1 S.nl c1) (.slice a2 S.nw c2) w1) := HE.out.later q1
   obtain ⟨⟨⟨p0, p1, p2⟩, _⟩, ⟨⟨r0, r1, r2, r3⟩, f0, f1, f2, f3⟩, _⟩ := HE.out
   clear q1
   go_wp2_with fail
   refine (keyFault_any pr _).mono ?_
   rw [HF.out]
   rintro e w2k ⟨rfl, rfl⟩
   go_wp2_with fail
   refine (isTime_is s true H1.out _).mono ?_
   rintro e w3k ⟨rfl, rfl⟩
   go_wp2_with fail
   refine (isLockKind_is kd false H2.out _).mono ?_
   rintro e w4k ⟨rfl, rfl⟩
  rotate_left
  focus
   have H1 : Hid (decide (1 ≤ s ∧ s ≤ 100000) = true) := decide_eq_true q1
   have H2 : Hid (decide (1 ≤ kd ∧ kd ≤ 3) = true) := decide_eq_true q2
   have H3 : Hid (decide (0 ≤ va ∧ va ≤ 9999) = false) := decide_eq_false q3
   clear q1 q2 q3
   go_enter Tryz.func8, Tryz.ntmps8
   go_wp2_with fail
   refine (askFault_any S _ _ _ a B _ HE.out.2.2.1).mono ?_
   rw [HA.out]
   rintro e w1 ⟨rfl, q1⟩
   have HE : Hid (CallSto w B S (.slice a0 S.nc c0) (.slice a1 S.nl c1) (.slice a2 S.nw c2) w1) := HE.out.later q1
   obtain ⟨⟨⟨p0, p1, p2⟩, _⟩, ⟨⟨r0, r1, r2, r3⟩, f0, f1, f2, f3⟩, _⟩ := HE.out
   clear q1
   go_wp2_with fail
   refine (keyFault_any pr _).mono ?_
   rw [HF.out]
   rintro e w2k ⟨rfl, rfl⟩
   go_wp2_with fail
   refine (isTime_is s true H1.out _).mono ?_
   rintro e w3k ⟨rfl, rfl⟩
   go_wp2_with fail
   refine (isLockKind_is kd true H2.out _).mono ?_
   rintro e w4k ⟨rfl, rfl⟩
   go_wp2_with fail
   refine (isValue_is va false H3.out _).mono ?_
   rintro e w5k ⟨rfl, rfl⟩
  rotate_left
  focus
   have H1 : Hid (decide (1 ≤ s ∧ s ≤ 100000) = true) := decide_eq_true q1
   have H2 : Hid (decide (1 ≤ kd ∧ kd ≤ 3) = true) := decide_eq_true q2
   have H3 : Hid (decide (0 ≤ va ∧ va ≤ 9999) = true) := decide_eq_true q3
   have H4 : Hid (decide (0 ≤ un ∧ un ≤ 100000) = false) := decide_eq_false q4
   clear q1 q2 q3 q4
   go_enter Tryz.func8, Tryz.ntmps8
   go_wp2_with fail
   refine (askFault_any S _ _ _ a B _ HE.out.2.2.1).mono ?_
   rw [HA.out]
   rintro e w1 ⟨rfl, q1⟩
   have HE : Hid (CallSto w B S (.slice a0 S.nc c0) (.slice a1 S.nl c1) (.slice a2 S.nw c2) w1) := HE.out.later q1
   obtain ⟨⟨⟨p0, p1, p2⟩, _⟩, ⟨⟨r0, r1, r2, r3⟩, f0, f1, f2, f3⟩, _⟩ := HE.out
   clear q1
   go_wp2_with fail
   refine (keyFault_any pr _).mono ?_
   rw [HF.out]
   rintro e w2k ⟨rfl, rfl⟩
   go_wp2_with fail
   refine (isTime_is s true H1.out _).mono ?_
   rintro e w3k ⟨rfl, rfl⟩
   go_wp2_with fail
   refine (isLockKind_is kd true H2.out _).mono ?_
   rintro e w4k ⟨rfl, rfl⟩
   go_wp2_with fail
   refine (isValue_is va true H3.out _).mono ?_
   rintro e w5k ⟨rfl, rfl⟩
   go_wp2_with fail
   refine (isUntil_is un false H4.out _).mono ?_
   rintro e w2' ⟨rfl, rfl⟩
  rotate_left
  all_goals
   go_wp2
   exact bodyPost_ret (v := .agg #[.int .i64 3, .slice none 0 0, .slice none 0 0, .slice none 0 0]) (by simp [results, Tryz.results8, go_sem, r0, r1, r2, r3]) rfl ⟨none, 0, none, 0, none, 0, rfl, empty_sto _ _, (((HE.out.2.2.2.setCell (Nat.le_succ _) _).setCell (Nat.le_succ _) _).setCell (Nat.le_succ _) _).setCell (Nat.le_succ _) _⟩
 ·have HA : Hid (askF S a = 0) := hz
  have HF : Hid (faultOf pr = 0) := hp
  obtain ⟨q1, q2, q3, q4⟩ := ht
  have H1 : Hid (decide (1 ≤ s ∧ s ≤ 100000) = true) := decide_eq_true q1
  have H2 : Hid (decide (1 ≤ kd ∧ kd ≤ 3) = true) := decide_eq_true q2
  have H3 : Hid (decide (0 ≤ va ∧ va ≤ 9999) = true) := decide_eq_true q3
  have H4 : Hid (decide (0 ≤ un ∧ un ≤ 100000) = true) := decide_eq_true q4
  have dv : (va != 0) = true := bne_iff_ne.2 hv
  have dv' : (va == 0) = false := beq_eq_false_iff_ne.2 hv
  have dk : (kd != 1) = true := bne_iff_ne.2 hk
  have dk' : (kd == 1) = false := beq_eq_false_iff_ne.2 hk
  clear hz hp q1 q2 q3 q4 hv hk
  go_enter Tryz.func8, Tryz.ntmps8
  go_wp2_with fail
  refine (askFault_any S _ _ _ a B _ HE.out.2.2.1).mono ?_
  rw [HA.out]
  rintro e w1 ⟨rfl, q1⟩
  have HE : Hid (CallSto w B S (.slice a0 S.nc c0) (.slice a1 S.nl c1) (.slice a2 S.nw c2) w1) := HE.out.later q1
  obtain ⟨⟨⟨p0, p1, p2⟩, _⟩, ⟨⟨r0, r1, r2, r3⟩, f0, f1, f2, f3⟩, _⟩ := HE.out
  clear q1
  go_wp2_with fail
  refine (keyFault_any pr _).mono ?_
  rw [HF.out]
  rintro e w2k ⟨rfl, rfl⟩
  go_wp2_with fail
  refine (isTime_is s true H1.out _).mono ?_
  rintro e w3k ⟨rfl, rfl⟩
  go_wp2_with fail
  refine (isLockKind_is kd true H2.out _).mono ?_
  rintro e w4k ⟨rfl, rfl⟩
  go_wp2_with fail
  refine (isValue_is va true H3.out _).mono ?_
  rintro e w5k ⟨rfl, rfl⟩
  go_wp2_with fail
  refine (isUntil_is un true H4.out _).mono ?_
  rintro e w2' ⟨rfl, rfl⟩
  go_wp2
  exact bodyPost_ret (v := .agg #[.int .i64 1, .slice none 0 0, .slice none 0 0, .slice none 0 0]) (by simp [results, Tryz.results8, go_sem, r0, r1, r2, r3]) rfl ⟨none, 0, none, 0, none, 0, rfl, empty_sto _ _, (((HE.out.2.2.2.setCell (Nat.le_succ _) _).setCell (Nat.le_succ _) _).setCell (Nat.le_succ _) _).setCell (Nat.le_succ _) _⟩
 ·have HA : Hid (askF S a = 0) := hz
  have HF : Hid (faultOf pr = 0) := hp
  have hs := (askF_zero hz).1
  have hka := faultOf_zero (askF_zero hz).2
  obtain ⟨q1, q2, q3, q4⟩ := ht
  have WA : Hid (Wf a ∧ Wf s ∧ Wf va) := ⟨wf_small hka.1 (by omega), by unfold isT at q1; exact wf_small (by omega) q1.2, by unfold valOk at q3; exact wf_small q3.1 (by omega)⟩
  have Z := storeF_zero hs
  have HZ : Hid (scan (cellF S.c) S.nc = 0 ∧ (S.nc ≤ 200 ∧ S.nl ≤ 200 ∧ S.nw ≤ 200)) := ⟨Z.2.1, Z.1⟩
  have HS : Hid (storeF S = 0) := hs
  have HR : Hid (PreRes S a s kd pr un va r R) := hR
  have H1 : Hid (decide (1 ≤ s ∧ s ≤ 100000) = true) := decide_eq_true q1
  have H2 : Hid (decide (1 ≤ kd ∧ kd ≤ 3) = true) := decide_eq_true q2
  have H3 : Hid (decide (0 ≤ va ∧ va ≤ 9999) = true) := decide_eq_true q3
  have H4 : Hid (decide (0 ≤ un ∧ un ≤ 100000) = true) := decide_eq_true q4
  clear hz hs hp q1 q2 q3 q4 hR Z hka
  by_cases hv0 : va = 0
  focus
   have dv : (va != 0) = false := by rw [hv0]; rfl
   have dv' : (va == 0) = true := beq_iff_eq.2 hv0
   clear hv hv0
  rotate_left
  focus
   have dv : (va != 0) = true := bne_iff_ne.2 hv0
   have dv' : (va == 0) = false := beq_eq_false_iff_ne.2 hv0
   have hk1 : kd = 1 := by omega
   have dk : (kd != 1) = false := by rw [hk1]; rfl
   have dk' : (kd == 1) = true := beq_iff_eq.2 hk1
   clear hv hv0 hk1
  rotate_left
  all_goals
   go_enter Tryz.func8, Tryz.ntmps8
   go_wp2_with fail
   refine (askFault_any S _ _ _ a B _ HE.out.2.2.1).mono ?_
   rw [HA.out]
   rintro e w1 ⟨rfl, q1⟩
   have HE : Hid (CallSto w B S (.slice a0 S.nc c0) (.slice a1 S.nl c1) (.slice a2 S.nw c2) w1) := HE.out.later q1
   obtain ⟨⟨⟨p0, p1, p2⟩, _⟩, ⟨⟨r0, r1, r2, r3⟩, f0, f1, f2, f3⟩, _⟩ := HE.out
   clear q1
   go_wp2_with fail
   refine (keyFault_any pr _).mono ?_
   rw [HF.out]
   rintro e w2k ⟨rfl, rfl⟩
   go_wp2_with fail
   refine (isTime_is s true H1.out _).mono ?_
   rintro e w3k ⟨rfl, rfl⟩
   go_wp2_with fail
   refine (isLockKind_is kd true H2.out _).mono ?_
   rintro e w4k ⟨rfl, rfl⟩
   go_wp2_with fail
   refine (isValue_is va true H3.out _).mono ?_
   rintro e w5k ⟨rfl, rfl⟩
   go_wp2_with fail
   refine (isUntil_is un true H4.out _).mono ?_
   rintro e w2' ⟨rfl, rfl⟩
   go_wp2_with fail
   refine (columnsOf_apart S B _ _ _ _ HE.out.2.2.1 HZ.out.2.1 HZ.out.2.2.1 HZ.out.2.2.2 HZ.out.1).mono ?_
   rintro e w2 ⟨b, g, u1, u2, rfl, hC, hap, q1⟩
   clear p0 p1 p2 r0 r1 r2 r3 f0 f1 f2 f3
   have HC : Hid (Cols w2 w2'.heap.size b S.nc (cellM S S.nc) S.nl S.l S.nw S.k g u1 u2 ∧ ApartC b g u1 u2) := ⟨hC, hap⟩
   have zw : Hid (w.heap.size + 2 ≤ w2'.heap.size) := HE.out.2.1.lt
   have z2w : Hid (w2'.heap.size ≤ w2.heap.size) := q1.size
   have HE : Hid (CallSto w B S (.slice a0 S.nc c0) (.slice a1 S.nl c1) (.slice a2 S.nw c2) w2) := HE.out.later q1
   clear q1 hC hap
   go_wp2_with fail
   refine (colPre_res S HS.out _ b g u1 u2 a s kd pr un va r WA.out.1 WA.out.2.1 WA.out.2.2 R _ (HC.out.1.later (below_alloc _ _)) HC.out.2 HR.out).mono ?_
   rintro e w3 ⟨hb3a, hans⟩
   have hb3 : Below w2'.heap.size w2 w3 := ((below_alloc w2 _).mono z2w.out).trans hb3a
   clear hb3a
   have HR3 : Hid (Blk4 w3 (w.heap.size + 1) (.int .i64 0) (.slice none 0 0) (.slice none 0 0) (.slice none 0 0) ∧ Below w.heap.size w w3) := ⟨HE.out.2.1.kept (hb3.block (w.heap.size + 1) (by have := zw.out; omega)), HE.out.2.2.2.trans (hb3.mono (by have := zw.out; omega))⟩
   have z3 : Hid (w.heap.size + 2 ≤ w3.heap.size) := HR3.out.1.lt
   clear hb3 HE HC
   rcases hans with ⟨kk, rfl, hk, rfl⟩ | ⟨rfl, rfl, hn, NN, mm, y1, y2, hNN, hMM, hC3⟩
   ·have hrn : (r == 0) = false := beq_eq_false_iff_ne.2 (by unfold codeOf at hk; omega)
    have HK : Hid (codeOf kk r) := hk
    clear hk HR
    go_wp2_with fail
    refine (unless_hit kk r HK.out hrn (some ⟨b, 0, none⟩) w3 (HL.out.later HR3.out.2)).mono ?_
    rintro e w4 ⟨d0, e0, d1, e1, d2, e2, rfl, ⟨s3, f3', a3⟩, q4⟩
    have S3 : Hid ((St w4 (w.heap.size + 2) emptyS (.slice d0 (emptyS).nc e0) (.slice d1 (emptyS).nl e1) (.slice d2 (emptyS).nw e2) ∧ FreeS w4 emptyS (.slice d0 (emptyS).nc e0) (.slice d1 (emptyS).nl e1) (.slice d2 (emptyS).nw e2)) ∧ ApartD emptyS (.slice d0 (emptyS).nc e0) (.slice d1 (emptyS).nl e1) (.slice d2 (emptyS).nw e2)) := ⟨⟨s3.mono z3.out, f3'⟩, a3⟩
    have HBW : Hid (Below w.heap.size w w4) := HR3.out.2.trans (q4.mono HR3.out.2.size)
    obtain ⟨⟨r0, r1, r2, r3⟩, f0, f1, f2, f3⟩ := HR3.out.1.later q4
    clear s3 f3' a3 q4
    have hlo : (w.heap.size + 1 : Nat) < w.heap.size + 2 := Nat.lt_succ_self _
    go_wp2
    exact bodyPost_ret (v := .agg #[.int .i64 r, .slice d0 emptyS.nc e0, .slice d1 emptyS.nl e1, .slice d2 emptyS.nw e2]) (by simp [results, Tryz.results8, go_sem, r0, r1, r2, r3]) rfl ⟨d0, e0, d1, e1, d2, e2, rfl, ⟨((((S3.out.1.1.far hlo _).far hlo _).far hlo _).far hlo _).mono (by omega), (((S3.out.1.2.far _ _).far _ _).far _ _).far _ _, S3.out.2⟩, (((HBW.out.setCell (Nat.le_succ _) _).setCell (Nat.le_succ _) _).setCell (Nat.le_succ _) _).setCell (Nat.le_succ _) _⟩
   ·obtain ⟨nc, cc, nl, l, nw, k⟩ := R
    have HC3 : Hid (Cols w3 w2'.heap.size b NN mm nl l nw k g y1 y2 ∧ MapRow mm nc cc) := ⟨hC3, hMM⟩
    have HM : Hid ((nl ≤ 200 ∧ nw ≤ 200) ∧ NN ≤ 400) := ⟨hn, hNN⟩
    clear hC3 hn hNN hMM HR
    go_wp2_with fail
    refine (unless_ok _ b NN mm nl l nw k g y1 y2 w3 HC3.out.1 HM.out.1.1 HM.out.1.2 HM.out.2 nc cc HC3.out.2).mono ?_
    rintro e w4 ⟨d0, e0, d1, e1, d2, e2, rfl, ⟨s3, f3', a3⟩, q4⟩
    obtain ⟨RR, hRR⟩ : ∃ RR : Sto, RR = ⟨nc, cc, nl, l, nw, k⟩ := ⟨_, rfl⟩
    rw [← hRR] at s3 f3' a3 ⊢
    have HRR : Hid (RR = ⟨nc, cc, nl, l, nw, k⟩) := hRR
    clear hRR
    have S3 : Hid ((St w4 (w.heap.size + 2) RR (.slice d0 (RR).nc e0) (.slice d1 (RR).nl e1) (.slice d2 (RR).nw e2) ∧ FreeS w4 RR (.slice d0 (RR).nc e0) (.slice d1 (RR).nl e1) (.slice d2 (RR).nw e2)) ∧ ApartD RR (.slice d0 (RR).nc e0) (.slice d1 (RR).nl e1) (.slice d2 (RR).nw e2)) := ⟨⟨s3.mono z3.out, f3'⟩, a3⟩
    have HBW : Hid (Below w.heap.size w w4) := HR3.out.2.trans (q4.mono HR3.out.2.size)
    obtain ⟨⟨r0, r1, r2, r3⟩, f0, f1, f2, f3⟩ := HR3.out.1.later q4
    clear s3 f3' a3 q4
    have hlo : (w.heap.size + 1 : Nat) < w.heap.size + 2 := Nat.lt_succ_self _
    go_wp2
    have hRR := HRR.out
    clear HRR
    subst hRR
    exact bodyPost_ret (v := .agg #[.int .i64 0, .slice d0 nc e0, .slice d1 nl e1, .slice d2 nw e2]) (by simp [results, Tryz.results8, go_sem, r0, r1, r2, r3]) rfl ⟨d0, e0, d1, e1, d2, e2, rfl, ⟨((((S3.out.1.1.far hlo _).far hlo _).far hlo _).far hlo _).mono (by omega), (((S3.out.1.2.far _ _).far _ _).far _ _).far _ _, S3.out.2⟩, (((HBW.out.setCell (Nat.le_succ _) _).setCell (Nat.le_succ _) _).setCell (Nat.le_succ _) _).setCell (Nat.le_succ _) _⟩
theorem PreRes.get (S : Sto) (hz : storeF S = 0) (a s kd pr un va : Int) : ∃ r R, Small R ∧ PreRes S a s kd pr un va r R := by
 obtain ⟨⟨hc, hl, hw⟩, _⟩ := storeF_zero hz
 have hS : Small S := ⟨by omega, by omega, by omega⟩
 by_cases h1 : lateP S.k S.nw a s
 ·exact ⟨8, emptyS, small_empty, Or.inl ⟨h1, rfl, rfl⟩⟩
 obtain ⟨i, hi⟩ := FirstAt.get (lockIs S.l a) S.nl
 rcases hi with ⟨rfl, hn⟩ | ⟨j, hj, rfl, hp, hq⟩
 ·have h2 : FirstAt (lockIs S.l a) S.nl (-1) := Or.inl ⟨rfl, hn⟩
  obtain ⟨hv, h3⟩ := FirstAt.get (cellIs S.c a s) S.nc
  by_cases h4 : 200 ≤ S.nl
  ·exact ⟨2, emptyS, small_empty, Or.inr (Or.inr (Or.inr (Or.inl ⟨h1, h2, hv, h3, Or.inl h4, rfl, rfl⟩)))⟩
  obtain ⟨k, hk⟩ := placeAt.get (aheadL S.l a) S.nl
  by_cases h5 : kd = 1
  ·rcases h3 with ⟨rfl, h3⟩ | ⟨j, hj, rfl, hp, hq⟩
   ·have h3' : FirstAt (cellIs S.c a s) S.nc (-1) := Or.inl ⟨rfl, h3⟩
    by_cases h6 : 200 ≤ S.nc
    ·exact ⟨2, emptyS, small_empty, Or.inr (Or.inr (Or.inr (Or.inl ⟨h1, h2, -1, h3', Or.inr ⟨h5, rfl, h6⟩, rfl, rfl⟩)))⟩
    ·obtain ⟨q, hq⟩ := placeAt.get (aheadC S.c a s) S.nc
     refine ⟨0, putS S k q a s pr un va, ⟨?_, ?_, hS.2.2⟩, Or.inr (Or.inr (Or.inr (Or.inr (Or.inr (Or.inl ⟨h1, h2, by omega, h5, h3', by omega, k, q, hk, hq, rfl, rfl⟩)))))⟩
     ·show S.nc + 1 ≤ _; omega
     ·show S.nl + 1 ≤ _; omega
   ·obtain ⟨q, hqq⟩ := placeAt.get (aheadC (fun p => (unlC S.c a s S.nc).flatten.getD p 0) a s) (unlC S.c a s S.nc).length
    refine ⟨0, reputS S k q a s pr un va, ⟨?_, ?_, hS.2.2⟩, Or.inr (Or.inr (Or.inr (Or.inr (Or.inr (Or.inr ⟨h1, h2, by omega, h5, j, k, q, Or.inr ⟨j, hj, rfl, hp, hq⟩, hk, hqq, rfl, rfl⟩)))))⟩
    ·show (unlC S.c a s S.nc).length + 1 ≤ _
     have : (unlC S.c a s S.nc).length ≤ S.nc := selD_le _ _ _ _
     omega
    ·show S.nl + 1 ≤ _; omega
  ·refine ⟨0, lockS S k a s kd pr un, ⟨hS.1, ?_, hS.2.2⟩, Or.inr (Or.inr (Or.inr (Or.inr (Or.inl ⟨h1, h2, by omega, h5, hv, k, h3, hk, rfl, rfl⟩))))⟩
   show S.nl + 1 ≤ _; omega
 ·by_cases h4 : S.l (j * 5 + 1) = s
  ·exact ⟨0, S, hS, Or.inr (Or.inl ⟨h1, j, Or.inr ⟨j, hj, rfl, hp, hq⟩, h4, rfl, rfl⟩)⟩
  ·exact ⟨7, emptyS, small_empty, Or.inr (Or.inr (Or.inl ⟨h1, j, Or.inr ⟨j, hj, rfl, hp, hq⟩, h4, rfl, rfl⟩))⟩
theorem PreAns.get (S : Sto) (a s kd va pr un : Int) : ∃ r R, Small R ∧ PreAns S a s kd va pr un r R := by
 by_cases hz : askF S a = 0
 case neg => exact ⟨_, emptyS, small_empty, Or.inl ⟨hz, rfl, rfl⟩⟩
 by_cases hp : faultOf pr = 0
 case neg => exact ⟨_, emptyS, small_empty, Or.inr (Or.inl ⟨hz, hp, rfl, rfl⟩)⟩
 by_cases q1 : isT s
 case neg => exact ⟨3, emptyS, small_empty, Or.inr (Or.inr (Or.inl ⟨hz, hp, Or.inl q1, rfl, rfl⟩))⟩
 by_cases q2 : kindOk kd
 case neg => exact ⟨3, emptyS, small_empty, Or.inr (Or.inr (Or.inl ⟨hz, hp, Or.inr (Or.inl ⟨q1, q2⟩), rfl, rfl⟩))⟩
 by_cases q3 : valOk va
 case neg => exact ⟨3, emptyS, small_empty, Or.inr (Or.inr (Or.inl ⟨hz, hp, Or.inr (Or.inr (Or.inl ⟨q1, q2, q3⟩)), rfl, rfl⟩))⟩
 by_cases q4 : untOk un
 case neg => exact ⟨3, emptyS, small_empty, Or.inr (Or.inr (Or.inl ⟨hz, hp, Or.inr (Or.inr (Or.inr ⟨q1, q2, q3, q4⟩)), rfl, rfl⟩))⟩
 by_cases hv : va = 0 ∨ kd = 1
 ·obtain ⟨r, R, h1, h2⟩ := PreRes.get S (askF_zero hz).1 a s kd pr un va
  exact ⟨r, R, h1, Or.inr (Or.inr (Or.inr (Or.inr ⟨hz, hp, ⟨q1, q2, q3, q4⟩, hv, h2⟩)))⟩
 ·exact ⟨1, emptyS, small_empty, Or.inr (Or.inr (Or.inr (Or.inl ⟨hz, hp, ⟨q1, q2, q3, q4⟩, fun q => hv (Or.inl q), fun q => hv (Or.inr q), rfl, rfl⟩)))⟩
end
end Go.Proofs.YtiadbiiiikhfaaaGreatDoor

namespace Go.Proofs.YtiadbiiiikhfaaaGreatDoor
open Go.RowKit

section
variable {S R : Sto} {a s : Int}
theorem no2 {p : Prop} {r : Int} (h : r ≠ 0) (q : (0 : Int) = r) : p := absurd q.symm h
/-- The two ways of a rollback that comes to no fault. -/
theorem RollRes.two (h : RollRes S a s 0 R) : (∃ i : Nat, FirstAt (writeIs S.k a s) S.nw i ∧ S.k (i * 4 + 3) = 4 ∧ R = S) ∨ ∃ k : Nat, FirstAt (writeIs S.k a s) S.nw (-1) ∧ k ≤ S.nw ∧ R = rollS S a s k := by
 rcases h with ⟨i, h1, h2, _, rfl⟩ | ⟨i, _, _, q, _⟩ | ⟨_, _, q, _⟩ | ⟨_, _, _, q, _⟩ | ⟨k, h1, h2, h3, h4, _, rfl⟩
 ·exact Or.inl ⟨i, h1, h2, rfl⟩
 ·exact no2 (by decide) q
 ·exact no2 (by decide) q
 ·exact no2 (by decide) q
 ·exact Or.inr ⟨k, h1, h4.1, rfl⟩
/-- The rollback stands there. -/
theorem RollRes.said (hz : storeF S = 0) (h : RollRes S a s 0 R) : ∃ i, firstW R.k R.nw a s i ∧ R.k (i * 4 + 3) = 4 ∧ R.k (i * 4 + 1) = s := by
 rcases h.two with ⟨i, h1, h2, rfl⟩ | ⟨k, h1, h4, rfl⟩
 ·obtain ⟨x1, x2, x3⟩ := h1.at
  have hf := (writeF_full (scan_zero (storeF_zero hz).2.2.2.1 i x1)).2.2.2
  exact ⟨i, ⟨x1, x2, x3⟩, h2, (hf.1 h2).trans x2.2⟩
 ·refine ⟨k, ⟨Nat.lt_succ_of_le h4, ⟨ins_new0, ins_new2⟩, fun j hj q => ?_⟩, ins_new3, ins_new1⟩
  obtain ⟨q1, q2⟩ := q
  have hjk : j ≠ k := Nat.ne_of_lt hj
  have e0 : (rollS S a s k).k (j * 4) = S.k (spot k j * 4) := ins_old0 h4 (by omega) hjk
  have e2 : (rollS S a s k).k (j * 4 + 2) = S.k (spot k j * 4 + 2) := ins_oldd h4 (by omega) hjk (by decide)
  exact no_write h1 (spot k j) (spot_bound (by omega) hjk h4) ⟨e0.symm.trans q1, e2.symm.trans q2⟩
/-- What was last written stays, and nothing else is. -/
theorem roll_last {k : Nat} (h4 : k ≤ S.nw) (key ts : Int) : (∀ i, lastW S.k S.nw key ts i → ∃ j, lastW (rollS S a s k).k (rollS S a s k).nw key ts j ∧ ∀ q, q < 4 → (rollS S a s k).k (j * 4 + q) = S.k (i * 4 + q)) ∧ ∀ j, lastW (rollS S a s k).k (rollS S a s k).nw key ts j → ∃ i, lastW S.k S.nw key ts i := by
 have old : ∀ j, j < S.nw + 1 → j ≠ k → ∀ q, q < 4 → (rollS S a s k).k (j * 4 + q) = S.k (spot k j * 4 + q) := fun j hj hne q hq => ins_oldd h4 hj hne hq
 have lp : ∀ j, j < S.nw + 1 → j ≠ k → (lastP (rollS S a s k).k key ts j ↔ lastP S.k key ts (spot k j)) := fun j hj hne => by
  have e := old j hj hne
  unfold lastP
  rw [show (rollS S a s k).k (j * 4) = S.k (spot k j * 4) from e 0 (by omega), e 1 (by omega), e 3 (by omega)]
 have new : ¬ lastP (rollS S a s k).k key ts k := fun q => by
  have h3 : (rollS S a s k).k (k * 4 + 3) = 4 := ins_new3
  have := q.2.2
  omega
 have hn : (rollS S a s k).nw = S.nw + 1 := rfl
 constructor
 ·rintro i ⟨h1, h2, h3⟩
  obtain ⟨j, hj⟩ : ∃ j, j = if i < k then i else i + 1 := ⟨_, rfl⟩
  have hjk : j ≠ k := by rw [hj]; split <;> omega
  have hjn : j < S.nw + 1 := by rw [hj]; split <;> omega
  have hsp : spot k j = i := by unfold spot; split at hj <;> split <;> omega
  refine ⟨j, ⟨hjn, (lp j hjn hjk).2 (by rw [hsp]; exact h2), fun j' hlt hj' q => ?_⟩, fun q hq => by rw [old j hjn hjk q hq, hsp]⟩
  by_cases e : j' = k
  ·subst e; exact new q
  ·refine h3 (spot k j') ?_ (spot_bound (by omega) e h4) ((lp j' hj' e).1 q)
   rw [← hsp]
   exact spot_lt hlt hjk e
 ·rintro j ⟨h1, h2, h3⟩
  have hjk : j ≠ k := fun e => new (e ▸ h2)
  refine ⟨spot k j, spot_bound (by omega) hjk h4, (lp j h1 hjk).1 h2, fun i hlt hi q => ?_⟩
  obtain ⟨j', hj⟩ : ∃ j, j = if i < k then i else i + 1 := ⟨_, rfl⟩
  have hjk' : j' ≠ k := by rw [hj]; split <;> omega
  have hjn : j' < S.nw + 1 := by rw [hj]; split <;> omega
  have hsp : spot k j' = i := by unfold spot; split at hj <;> split <;> omega
  refine h3 j' ?_ hjn ((lp j' hjn hjk').2 (by rw [hsp]; exact q))
  rcases Nat.lt_trichotomy j j' with e | e | e
  ·exact e
  ·subst e; omega
  ·have := spot_lt e hjk' hjk
   omega
theorem ask_left (hz : storeF S = 0) (hr : storeF R = 0) (key : Int) : askF R key = askF S key := by unfold askF; rw [if_neg (fun q => q hr), if_neg (fun q => q hz)]
/-- What was last written is read as before. -/
theorem back_last (hz : storeF S = 0) (hr : storeF R = 0) (h : RollRes S a s 0 R) {key ts c c' : Int} {n n' : Nat} {F F' : Nat → Int} (h1 : LastWriteAns S key ts c n F) (h2 : LastWriteAns R key ts c' n' F') : c' = c ∧ n' = n ∧ (c = 0 → n = 1 ∧ ∀ q, q < 4 → F' q = F q) := by
 have hk : (∀ i, lastW S.k S.nw key ts i → ∃ j, lastW R.k R.nw key ts j ∧ ∀ q, q < 4 → R.k (j * 4 + q) = S.k (i * 4 + q)) ∧ ∀ j, lastW R.k R.nw key ts j → ∃ i, lastW S.k S.nw key ts i := by
  rcases h.two with ⟨i, _, _, rfl⟩ | ⟨k, _, h4, rfl⟩
  ·exact ⟨fun i hi => ⟨i, hi, fun _ _ => rfl⟩, fun i hi => ⟨i, hi⟩⟩
  ·exact roll_last h4 key ts
 have ha := ask_left hz hr key
 rcases h1 with ⟨x1, rfl, rfl⟩ | ⟨x1, x2, rfl, rfl⟩ | ⟨x1, i, x2, x3, rfl, rfl, rfl⟩
 ·rcases h2 with ⟨y1, rfl, rfl⟩ | ⟨y1, _⟩ | ⟨y1, _⟩
  ·exact ⟨ha, rfl, fun q => absurd q x1⟩
  ·exact absurd (ha ▸ y1) x1
  ·exact absurd (ha ▸ y1) x1
 ·rcases h2 with ⟨y1, _⟩ | ⟨y1, _, rfl, rfl⟩ | ⟨y1, j, _, y3, _⟩
  ·exact absurd (ha.trans x1) y1
  ·exact ⟨rfl, rfl, fun q => absurd q (by decide)⟩
  ·obtain ⟨i, hi⟩ := hk.2 j y3
   exact absurd hi (x2 i)
 ·obtain ⟨j, hj, e⟩ := hk.1 i x3
  rcases h2 with ⟨y1, _⟩ | ⟨y1, y2, _⟩ | ⟨y1, j', _, y3, rfl, rfl, rfl⟩
  ·exact absurd (ha.trans x1) y1
  ·exact absurd hj (y2 j)
  ·obtain rfl := hj.one y3
   exact ⟨rfl, rfl, fun _ => ⟨rfl, e⟩⟩
/-- It is told as taken back. -/
theorem back_stat (hz : storeF S = 0) (hr : storeF R = 0) (hf : faultOf a = 0) (h : RollRes S a s 0 R) {c v : Int} (h1 : StatAns R a s c v) : c = 0 ∧ v = 3 := by
 have ha : askF R a = 0 := by unfold askF; rw [if_neg (fun q => q hr)]; exact hf
 obtain ⟨i, h2, h3, _⟩ := h.said hz
 rcases h1 with ⟨q, _⟩ | ⟨_, rfl, q⟩
 ·exact absurd ha q
 ·refine ⟨rfl, ?_⟩
  rcases q with ⟨j, hj, q⟩ | ⟨q, _⟩
  ·obtain rfl := hj.one h2
   rcases q with ⟨_, e⟩ | ⟨q, _⟩
   ·exact e
   ·exact absurd h3 q
  ·exact absurd h2 (q i)
/-- It can't be committed. -/
theorem back_commit (hz : storeF S = 0) (hr : storeF R = 0) (hf : faultOf a = 0) (h : RollRes S a s 0 R) {r : Int} {T : Sto} (h1 : CommitAns R a s (s + 1) r T) : r ≠ 0 := by
 have ha : askF R a = 0 := by unfold askF; rw [if_neg (fun q => q hr)]; exact hf
 obtain ⟨i, h2, _, h3⟩ := h.said hz
 have hno : ¬ FirstAt (writeIs R.k a s) R.nw (-1) := fun q => no_write q i h2.1 h2.2.1
 rcases h1 with ⟨q, e, _⟩ | ⟨_, _, e, _⟩ | ⟨_, _, _, e, _⟩ | ⟨_, _, _, _, e, _⟩ | ⟨_, _, _, _, q⟩
 ·exact absurd ha q
 ·rw [e]; decide
 ·rw [e]; decide
 ·rw [e]; decide
 ·rcases q with ⟨j, hj, q, _⟩ | ⟨j, _, _, e, _⟩ | ⟨q, _⟩ | ⟨_, q, _⟩ | ⟨_, q, _⟩ | ⟨_, _, q, _⟩
  ·obtain ⟨x1, x2, x3⟩ := hj.at
   obtain rfl : j = i := firstW.one ⟨x1, x2, x3⟩ h2
   omega
  ·rw [e]; decide
  ·exact absurd q hno
  ·exact absurd q hno
  ·exact absurd q hno
  ·exact absurd q hno
/-- It can't be said any more. -/
theorem back_pre (hz : storeF S = 0) (hr : storeF R = 0) (hf : faultOf a = 0) (hs : isT s) (h : RollRes S a s 0 R) {r kd : Int} {T : Sto} (hk : kindOk kd) (h1 : PreAns R a s kd 0 a 0 r T) : r = 8 := by
 have ha : askF R a = 0 := by unfold askF; rw [if_neg (fun q => q hr)]; exact hf
 obtain ⟨i, h2, _⟩ := h.said hz
 have hl : lateP R.k R.nw a s := Or.inl ⟨i, h2⟩
 have hv : valOk 0 := ⟨by decide, by decide⟩
 have hu : untOk 0 := ⟨by decide, by decide⟩
 rcases h1 with ⟨q, _⟩ | ⟨_, q, _⟩ | ⟨_, _, q, _⟩ | ⟨_, _, _, q, _⟩ | ⟨_, _, _, _, q⟩
 ·exact absurd ha q
 ·exact absurd hf q
 ·rcases q with q | ⟨_, q⟩ | ⟨_, _, q⟩ | ⟨_, _, _, q⟩
  ·exact absurd hs q
  ·exact absurd hk q
  ·exact absurd hv q
  ·exact absurd hu q
 ·exact absurd rfl q
 ·rcases q with ⟨_, e, _⟩ | ⟨q, _⟩ | ⟨q, _⟩ | ⟨q, _⟩ | ⟨q, _⟩ | ⟨q, _⟩ | ⟨q, _⟩
  ·exact e
  all_goals exact absurd hl q
/-- It was taken back already, or its cell is gone. -/
theorem back_cell (hz : storeF S = 0) (hr : storeF R = 0) (hf : faultOf a = 0) (h : RollRes S a s 0 R) {c v : Int} (h1 : StatAns S a s c v) : v = 3 ∨ cellAtC R a s = 4 := by
 rcases h.two with ⟨i, _, _, rfl⟩ | ⟨k, _, h4, rfl⟩
 ·exact Or.inl (back_stat hz hr hf h h1).2
 ·refine Or.inr ?_
  have ha : askF (rollS S a s k) a = 0 := by unfold askF; rw [if_neg (fun q => q hr)]; exact hf
  unfold cellAtC
  rw [if_neg (fun q => q ha), if_neg]
  rintro ⟨i, hi, q1, q2⟩
  obtain ⟨f, hp⟩ := picks_get S.c 3 (goneK a s) S.nc
  obtain ⟨x1, x2, x3⟩ := hp.1 i hi
  have e0 : (rollS S a s k).c (i * 3) = S.c (f i * 3) := x2 0 (by decide)
  have e1 : (rollS S a s k).c (i * 3 + 1) = S.c (f i * 3 + 1) := x2 1 (by decide)
  have : goneK a s (struD S.c 3 (f i)) = true := goneK_iff.2 ⟨e0.symm.trans q1, e1.symm.trans q2⟩
  rw [this] at x3
  cases x3
end
end Go.Proofs.YtiadbiiiikhfaaaGreatDoor

namespace Go.Proofs.YtiadbiiiikhfaaaGreatDoor
open Go.RowKit

/-- A source at block b: the bytes that it draws from, and how often it drew. -/
structure Src (w : World) (b : Nat) (o : Option Addr) (len cap : Nat) (at' : Int) : Prop where
 code : w.cell? ⟨b, 0, none⟩ = some (.slice o len cap)
 count : w.cell? ⟨b, 1, none⟩ = some (.int .i64 at')
 live : w.frozen? ⟨b, 1, none⟩ = false
 pos : 0 ≤ at'
 bytes : ∀ j, j < len → ∃ (g off : Nat) (n : Int), o = some ⟨g, off, none⟩ ∧ g ≠ b ∧ w.cell? ⟨g, off + j, none⟩ = some (.int .u8 n) ∧ 0 ≤ n ∧ n < 256

theorem Src.next {w : World} {b : Nat} {o : Option Addr} {len cap : Nat} {a : Int} (h : Src w b o len cap a) : Src (w.setCell ⟨b, 1, none⟩ (.int .i64 (a + 1))) b o len cap (a + 1) where
 code := (World.cell?_setCell_other _ _ _ _ (by simp)).trans h.code
 count := World.cell?_setCell_same _ _ _ h.count
 live := (World.frozen?_setCell _ _ _ _).trans h.live
 pos := by have := h.pos; omega
 bytes := fun j hj => by
  obtain ⟨g, off, n, e1, e2, e3, e4⟩ := h.bytes j hj
  exact ⟨g, off, n, e1, e2, (World.cell?_setCell_other _ _ _ _ (fun e => e2 (congrArg Addr.block e).symm)).trans e3, e4⟩
theorem Src.drewN {w : World} {b : Nat} {o : Option Addr} {len cap : Nat} {a : Int} (h : Src w b o len cap a) (n : Nat) : Src (w.drewN n) b o len cap a := ⟨h.code, h.count, h.live, h.pos, h.bytes⟩
/-- The world but for block b is as it was. -/
def But (b : Nat) (w w' : World) : Prop := w.grownBy w' (some b)
theorem But.next (w : World) (b : Nat) (v : Value) : But b w (w.setCell ⟨b, 1, none⟩ v) :=
 ⟨rfl, rfl, rfl, by simp [World.setCell], fun k _ hk => Below.heap_setCell w ⟨b, 1, none⟩ v k (fun e => hk (by simp [e]))⟩

set_option maxHeartbeats 400000 in
theorem l1Next_less (w : World) (b : Nat) (o : Option Addr) (len cap : Nat) (a n : Int) (h : Src w b o len cap a) (ha : a ≤ 1000000) (hn : n < 1) :
  Calls Tryz.prog 30 #[.pointer (some ⟨b, 0, none⟩), .int .i64 n] w fun e w' => e = .returned (.int .i64 0) ∧ w' = w.setCell ⟨b, 1, none⟩ (.int .i64 (a + 1)) := by
 have h1 := h.count
 have h2 := h.live
 have h3 := h.pos
 clear h
 go_enter Tryz.func30, Tryz.ntmps30
 go_wp2
 go_ret
 exact ⟨rfl, rfl⟩
set_option maxHeartbeats 400000 in
theorem l1Next_none (w : World) (b : Nat) (o : Option Addr) (cap : Nat) (a n : Int) (h : Src w b o 0 cap a) (ha : a ≤ 1000000) (hn : 1 ≤ n) :
  Calls Tryz.prog 30 #[.pointer (some ⟨b, 0, none⟩), .int .i64 n] w fun e w' => e = .returned (.int .i64 ((a * 7) % n)) ∧ w' = w.setCell ⟨b, 1, none⟩ (.int .i64 (a + 1)) := by
 have g0 := h.next.code
 have g1 := h.next.count
 have h1 := h.count
 have h2 := h.live
 have h3 := h.pos
 clear h
 go_enter Tryz.func30, Tryz.ntmps30
 go_wp2
 go_ret
 exact ⟨rfl, rfl⟩
set_option maxHeartbeats 400000 in
theorem l1Next_some (w : World) (b g off : Nat) (len cap : Nat) (a n x : Int) (h : Src w b (some ⟨g, off, none⟩) len cap a) (ha : a ≤ 1000000) (hl : 0 < len) (hl2 : len ≤ 1048576) (hn : 1 ≤ n) (hn2 : n ≤ 200)
  (hc : w.cell? ⟨g, off + (a % len).toNat, none⟩ = some (.int .u8 x)) (hg : g ≠ b) (x0 : 0 ≤ x) (x1 : x < 256) :
  Calls Tryz.prog 30 #[.pointer (some ⟨b, 0, none⟩), .int .i64 n] w fun e w' => e = .returned (.int .i64 ((x + a / len * 37) % n)) ∧ ∃ m, w' = (w.setCell ⟨b, 1, none⟩ (.int .i64 (a + 1))).drewN m := by
 have g0 := h.next.code
 have g1 := h.next.count
 have gc : (w.setCell ⟨b, 1, none⟩ (.int .i64 (a + 1))).cell? ⟨g, off + (a % len).toNat, none⟩ = some (.int .u8 x) := (World.cell?_setCell_other _ _ _ _ (fun e => hg (congrArg Addr.block e).symm)).trans hc
 have h1 := h.count
 have h2 := h.live
 have h3 := h.pos
 clear h hc
 have q0 : 0 ≤ a / len := Int.ediv_nonneg h3 (by omega)
 have q1 : a / len ≤ a := Int.ediv_le_self _ h3
 have r0 : 0 ≤ a % len := Int.emod_nonneg _ (by omega)
 have r1 : a % len < len := Int.emod_lt_of_pos _ (by omega)
 have hl0 : ((len : Int) == 0) = false := beq_eq_false_iff_ne.2 (by omega)
 go_enter Tryz.func30, Tryz.ntmps30
 go_wp2
 go_quiet (fail)
 go_wp2
 go_ret
 exact ⟨rfl, _, rfl⟩
set_option maxHeartbeats 400000 in
theorem l1Next_big (w : World) (b g off : Nat) (len cap : Nat) (a n x y : Int) (h : Src w b (some ⟨g, off, none⟩) len cap a) (ha : a ≤ 1000000) (hl : 0 < len) (hl2 : len ≤ 1048576) (hn : 200 < n)
  (hc : w.cell? ⟨g, off + (a % len).toNat, none⟩ = some (.int .u8 x)) (hd : w.cell? ⟨g, off + ((a + 1) % len).toNat, none⟩ = some (.int .u8 y)) (hg : g ≠ b) (x0 : 0 ≤ x) (x1 : x < 256) (y0 : 0 ≤ y) (y1 : y < 256) :
  Calls Tryz.prog 30 #[.pointer (some ⟨b, 0, none⟩), .int .i64 n] w fun e w' => e = .returned (.int .i64 (((x + a / len * 37) * 251 + y * 13 + a) % n)) ∧ ∃ m, w' = (w.setCell ⟨b, 1, none⟩ (.int .i64 (a + 1))).drewN m := by
 have g0 := h.next.code
 have g1 := h.next.count
 have gc : (w.setCell ⟨b, 1, none⟩ (.int .i64 (a + 1))).cell? ⟨g, off + (a % len).toNat, none⟩ = some (.int .u8 x) := (World.cell?_setCell_other _ _ _ _ (fun e => hg (congrArg Addr.block e).symm)).trans hc
 have gd : (w.setCell ⟨b, 1, none⟩ (.int .i64 (a + 1))).cell? ⟨g, off + ((a + 1) % len).toNat, none⟩ = some (.int .u8 y) := (World.cell?_setCell_other _ _ _ _ (fun e => hg (congrArg Addr.block e).symm)).trans hd
 have h1 := h.count
 have h2 := h.live
 have h3 := h.pos
 clear h hc hd
 have q0 : 0 ≤ a / len := Int.ediv_nonneg h3 (by omega)
 have q1 : a / len ≤ a := Int.ediv_le_self _ h3
 have r0 : 0 ≤ a % len := Int.emod_nonneg _ (by omega)
 have r1 : a % len < len := Int.emod_lt_of_pos _ (by omega)
 have s0 : 0 ≤ (a + 1) % len := Int.emod_nonneg _ (by omega)
 have s1 : (a + 1) % len < len := Int.emod_lt_of_pos _ (by omega)
 have hl0 : ((len : Int) == 0) = false := beq_eq_false_iff_ne.2 (by omega)
 go_enter Tryz.func30, Tryz.ntmps30
 go_wp2
 go_quiet (fail)
 go_wp2
 go_quiet (fail)
 go_wp2
 go_ret
 exact ⟨rfl, _, rfl⟩

theorem But.drewN {b : Nat} {w w' : World} (h : But b w w') (n : Nat) : But b w (w'.drewN n) := ⟨h.os, h.tape, h.output, h.size, h.block⟩
/-- Whatever it draws from: a number in its bounds; its count goes on by one; all else stays. -/
theorem l1Next_any (w : World) (b : Nat) (o : Option Addr) (len cap : Nat) (a n : Int) (h : Src w b o len cap a) (ha : a ≤ 1000000) (hl : len ≤ 1048576) :
  Calls Tryz.prog 30 #[.pointer (some ⟨b, 0, none⟩), .int .i64 n] w fun e w' => ∃ r : Int, e = .returned (.int .i64 r) ∧ 0 ≤ r ∧ (1 ≤ n → r < n) ∧ Src w' b o len cap (a + 1) ∧ But b w w' := by
 by_cases hn : n < 1
 ·exact (l1Next_less w b o len cap a n h ha hn).mono fun e w' ⟨he, hw⟩ => ⟨0, he, Int.le_refl _, fun h1 => by omega, hw ▸ h.next, hw ▸ But.next _ _ _⟩
 by_cases h0 : len = 0
 ·subst h0
  exact (l1Next_none w b o cap a n h ha (by omega)).mono fun e w' ⟨he, hw⟩ => ⟨_, he, Int.emod_nonneg _ (by omega), fun _ => Int.emod_lt_of_pos _ (by omega), hw ▸ h.next, hw ▸ But.next _ _ _⟩
 ·have h3 := h.pos
  have r0 : 0 ≤ a % len := Int.emod_nonneg _ (by omega)
  have r1 : a % len < len := Int.emod_lt_of_pos _ (by omega)
  have s0 : 0 ≤ (a + 1) % len := Int.emod_nonneg _ (by omega)
  have s1 : (a + 1) % len < len := Int.emod_lt_of_pos _ (by omega)
  obtain ⟨g, off, x, rfl, hg, hx, x0, x1⟩ := h.bytes (a % len).toNat (by omega)
  obtain ⟨g', off', y, he', hg', hy, y0, y1⟩ := h.bytes ((a + 1) % len).toNat (by omega)
  simp only [Option.some.injEq, Addr.mk.injEq, and_true] at he'
  obtain ⟨rfl, rfl⟩ := he'
  by_cases h2 : 200 < n
  ·exact (l1Next_big w b g off len cap a n x y h ha (by omega) hl h2 hx hy hg x0 x1 y0 y1).mono fun e w' ⟨he, m, hw⟩ => ⟨_, he, Int.emod_nonneg _ (by omega), fun _ => Int.emod_lt_of_pos _ (by omega), hw ▸ h.next.drewN m, hw ▸ (But.next _ _ _).drewN m⟩
  ·exact (l1Next_some w b g off len cap a n x h ha (by omega) hl (by omega) (by omega) hx hg x0 x1).mono fun e w' ⟨he, m, hw⟩ => ⟨_, he, Int.emod_nonneg _ (by omega), fun _ => Int.emod_lt_of_pos _ (by omega), hw ▸ h.next.drewN m, hw ▸ (But.next _ _ _).drewN m⟩
end Go.Proofs.YtiadbiiiikhfaaaGreatDoor

namespace Go.Proofs.YtiadbiiiikhfaaaGreatDoor
open Go.RowKit

theorem ownsRow_form {w : World} {base : Nat} {e : TypeId} {size : Nat} {v : Value} {n : Nat} {xs : List Value} (h : w.ownsRow base e size v n xs) : ∃ ao cp, v = .slice ao n cp := by
 obtain ⟨_, ⟨rfl, rfl⟩ | ⟨g, cap, cur, rfl, _⟩⟩ := h
 ·exact ⟨_, _, rfl⟩
 ·exact ⟨_, _, rfl⟩
/-- A list of whole numbers that the call made, in new memory. -/
def Ints (w : World) (base : Nat) (v : Value) (xs : List Int) : Prop := w.ownsRow base 2 1 v xs.length (xs.map (Value.int .i64))
/-- The cell at a place of a list that the call made. -/
theorem Ints.at {w : World} {B : Nat} {ao : Option Addr} {cp : Nat} {xs : List Int} (h : Ints w B (.slice ao xs.length cp) xs) {k : Nat} (hk : k < xs.length) :
  ∃ g, ao = some ⟨g, 0, none⟩ ∧ B ≤ g ∧ w.cell? ⟨g, k, none⟩ = some (.int .i64 xs[k]) ∧ w.frozen? ⟨g, k, none⟩ = false := by
 have h0 := h
 obtain ⟨_, ⟨hv, hn⟩ | ⟨g, cap, cur, hv, hg, _⟩⟩ := h
 ·omega
 ·simp only [Value.slice.injEq] at hv
  obtain ⟨rfl, _, rfl⟩ := hv
  refine ⟨g, rfl, hg, ?_, World.ownsRow.frozenAt h0 k⟩
  rw [World.ownsRow.cellAt h0 k (by omega)]
  simp [hk]
theorem Ints.form {w : World} {B : Nat} {v : Value} {xs : List Int} (h : Ints w B v xs) : ∃ ao cp, v = .slice ao xs.length cp := ownsRow_form h

theorem Ints.later {w w' : World} {B : Nat} {v : Value} {xs : List Int} (h : Ints w B v xs) (hb : Below w.heap.size w w') : Ints w' B v xs := by
 obtain ⟨h1, h2⟩ := h
 refine ⟨h1, ?_⟩
 rcases h2 with h2 | ⟨g, cap, cur, hv, hg, hh, r⟩
 ·exact Or.inl h2
 ·have hlt : g < w.heap.size := by
   rcases Nat.lt_or_ge g w.heap.size with h | h
   ·exact h
   ·rw [Array.getElem?_eq_none h] at hh; cases hh
  exact Or.inr ⟨g, cap, cur, hv, hg, (hb.block g hlt).trans hh, r⟩
theorem Ints.alloc {w : World} {B : Nat} {v : Value} {xs : List Int} (h : Ints w B v xs) (o : Obj) : Ints (w.alloc o) B v xs := World.ownsRow.alloc h o
theorem Ints.mono {w : World} {B B' : Nat} {v : Value} {xs : List Int} (h : Ints w B v xs) (hb : B' ≤ B) : Ints w B' v xs := World.ownsRow.mono h hb
theorem Ints.drewN {w : World} {B : Nat} {v : Value} {xs : List Int} (h : Ints w B v xs) (n : Nat) : Ints (w.drewN n) B v xs := h
theorem Ints.lt {w : World} {B : Nat} {v : Value} {xs : List Int} (h : Ints w B v xs) : ∀ k, v.ownBlock = some k → B ≤ k ∧ k < w.heap.size := World.ownsRow.lt h
theorem Ints.grown {w w' : World} {B : Nat} {v : Value} {xs : List Int} (h : Ints w B v xs) {row : Option Nat} (hg : w.grownBy w' row) (hne : ∀ k, v.ownBlock = some k → row ≠ some k) : Ints w' B v xs :=
 World.ownsRow.kept h hg (by
  cases hv : v.ownBlock with
  | none => exact Or.inl rfl
  | some k => exact Or.inr (fun e => hne k hv e.symm))
theorem Ints.nil (w : World) (B : Nat) : Ints w B (.slice none 0 0) [] := World.ownsRow_nil w B _ 1
theorem grown_refl_alloc {w : World} (o : Obj) (row : Option Nat) : w.grownBy (w.alloc o) row := ⟨rfl, rfl, rfl, by simp, fun k hk _ => Below.heap_alloc w o k hk⟩
/-- n numbers from k on. -/
def up (k : Int) (n : Nat) : List Int := (List.range n).map (fun j => k + (j : Nat))
end Go.Proofs.YtiadbiiiikhfaaaGreatDoor

namespace Go.Proofs.YtiadbiiiikhfaaaGreatDoor
open Go.RowKit

theorem lt_of_cell {w : World} {b off : Nat} {v : Value} (h : w.cell? ⟨b, off, none⟩ = some v) : b < w.heap.size := World.block_lt_of_cell? w ⟨b, off, none⟩ h
theorem Src.lt {w : World} {b : Nat} {o : Option Addr} {len cap : Nat} {a : Int} (h : Src w b o len cap a) : b < w.heap.size := lt_of_cell h.code
theorem Src.later {w w' : World} {b : Nat} {o : Option Addr} {len cap : Nat} {a : Int} (h : Src w b o len cap a) (hb : Below w.heap.size w w') : Src w' b o len cap a where
 code := (hb.cell (p := ⟨b, 0, none⟩) h.lt).trans h.code
 count := (hb.cell (p := ⟨b, 1, none⟩) h.lt).trans h.count
 live := (hb.frozen (p := ⟨b, 1, none⟩) h.lt).trans h.live
 pos := h.pos
 bytes := fun j hj => by
  obtain ⟨g, off, n, e1, e2, e3, e4⟩ := h.bytes j hj
  exact ⟨g, off, n, e1, e2, (hb.cell (p := ⟨g, off + j, none⟩) (lt_of_cell e3)).trans e3, e4⟩
theorem Src.alloc {w : World} {b : Nat} {o : Option Addr} {len cap : Nat} {a : Int} (h : Src w b o len cap a) (x : Obj) : Src (w.alloc x) b o len cap a := h.later ((Below.refl _ _).alloc (Nat.le_refl _) _)
theorem But.refl (b : Nat) (w : World) : But b w w := ⟨rfl, rfl, rfl, Nat.le_refl _, fun _ _ _ => rfl⟩
theorem But.trans {b : Nat} {a c d : World} (h : But b a c) (k : But b c d) : But b a d := grown_trans h k
theorem But.alloc {b : Nat} {a c : World} (h : But b a c) (x : Obj) : But b a (c.alloc x) := grown_trans h (grown_refl_alloc x _)
theorem But.below {b : Nat} {a c d : World} (h : But b a c) (k : Below c.heap.size c d) : But b a d := grown_trans h ⟨k.os, k.tape, k.output, k.size, fun i hi _ => k.block i hi⟩
theorem But.cell {b : Nat} {w w' : World} (h : But b w w') {g off : Nat} {v : Value} (hc : w.cell? ⟨g, off, none⟩ = some v) (hg : g ≠ b) : w'.cell? ⟨g, off, none⟩ = some v := World.grownBy.cell h (a := ⟨g, off, none⟩) hc (by simp; exact hg)
theorem But.frozen {b : Nat} {w w' : World} (h : But b w w') {g off : Nat} (hl : g < w.heap.size) (hg : g ≠ b) : w'.frozen? ⟨g, off, none⟩ = w.frozen? ⟨g, off, none⟩ := World.frozen?_of_block (w := w) (h.block g hl (by simp; exact hg))
theorem But.ints {b B : Nat} {w w' : World} {v : Value} {xs : List Int} (h : But b w w') (hI : Ints w B v xs) (hb : b < B) : Ints w' B v xs := hI.grown h (fun k hk e => by have := (hI.lt k hk).1; simp at e; omega)
/-- What the source drew leaves all that was there ahead of it as it was. -/
theorem Below.but {B b : Nat} {a w w' : World} (h : Below B a w) (k : But b w w') (hB : B ≤ w.heap.size) (hb : B ≤ b) : Below B a w' := h.grown k hB (fun j e => by simp at e; omega)

/-- The bytes that come in. -/
def Code (w : World) (o : Option Addr) (len : Nat) : Prop := ∀ j, j < len → ∃ (g off : Nat) (n : Int), o = some ⟨g, off, none⟩ ∧ w.cell? ⟨g, off + j, none⟩ = some (.int .u8 n) ∧ 0 ≤ n ∧ n < 256
theorem Code.later {w w' : World} {o : Option Addr} {len : Nat} (h : Code w o len) (hb : Below w.heap.size w w') : Code w' o len := fun j hj => by
 obtain ⟨g, off, n, e1, e3, e4⟩ := h j hj
 exact ⟨g, off, n, e1, (hb.cell (p := ⟨g, off + j, none⟩) (lt_of_cell e3)).trans e3, e4⟩
set_option maxHeartbeats 400000 in
theorem l1Source_any (w : World) (o : Option Addr) (len cap : Nat) (h : Code w o len) :
  Calls Tryz.prog 27 #[.slice o len cap] w fun e w' => e = .returned (.pointer (some ⟨w.heap.size, 0, none⟩)) ∧ Src w' w.heap.size o len cap 0 ∧ Below w.heap.size w w' ∧ w'.heap.size = w.heap.size + 1 := by
 have HS : Hid (Src (w.alloc (.cells #[.slice o len cap, .int .i64 0] 110)) w.heap.size o len cap 0) := {
  code := World.cell?_alloc_mark w _ _ _ 0
  count := World.cell?_alloc_mark w _ _ _ 1
  live := by simp
  pos := Int.le_refl _
  bytes := fun j hj => by
   obtain ⟨g, off, n, e1, e3, e4⟩ := h j hj
   have hl := lt_of_cell e3
   exact ⟨g, off, n, e1, by omega, (World.cell?_alloc_lt _ _ _ hl).trans e3, e4⟩ }
 clear h
 go_enter Tryz.func27, Tryz.ntmps27
 go_wp2
 go_ret
 exact ⟨rfl, HS.out, (Below.refl _ _).alloc (Nat.le_refl _) _, by simp⟩

set_option maxHeartbeats 400000 in
theorem l1Pick_any (w : World) (b : Nat) (o : Option Addr) (len cap : Nat) (a : Int) (v : Value) (B : Nat) (xs : List Int) (h : Src w b o len cap a) (ha : a ≤ 1000000) (hl : len ≤ 1048576)
  (hI : Ints w B v xs) (hB : b < B) (hx : 0 < xs.length) (hx2 : xs.length ≤ 1000) :
  Calls Tryz.prog 28 #[.pointer (some ⟨b, 0, none⟩), v] w fun e w' => ∃ r : Int, e = .returned (.int .i64 r) ∧ r ∈ xs ∧ Src w' b o len cap (a + 1) ∧ But b w w' := by
 obtain ⟨ao, cp, rfl⟩ := hI.form
 have HN : Hid (Calls Tryz.prog 30 #[.pointer (some ⟨b, 0, none⟩), .int .i64 xs.length] w fun e w' => ∃ r : Int, e = .returned (.int .i64 r) ∧ 0 ≤ r ∧ (1 ≤ (xs.length : Int) → r < xs.length) ∧ Src w' b o len cap (a + 1) ∧ But b w w') := l1Next_any w b o len cap a xs.length h ha hl
 have HI : Hid (Ints w B (.slice ao xs.length cp) xs) := hI
 clear h hI
 go_enter Tryz.func28, Tryz.ntmps28
 go_wp2_with fail
 refine HN.out.mono ?_
 rintro e w1 ⟨r, rfl, r0, r1, hS, hT⟩
 have r1' : r < xs.length := r1 (by omega)
 clear r1
 have I1 : Ints w1 B (.slice ao xs.length cp) xs := hT.ints HI.out hB
 obtain ⟨k, rfl⟩ := Int.eq_ofNat_of_zero_le r0
 have hk : k < xs.length := by omega
 obtain ⟨g, rfl, _, hc, _⟩ := I1.at hk
 have HR : Hid (xs[k] ∈ xs ∧ Src w1 b o len cap (a + 1) ∧ But b w w1) := ⟨List.getElem_mem hk, hS, hT⟩
 clear hS hT I1
 go_wp2
 go_ret
 exact ⟨_, rfl, HR.out⟩
end Go.Proofs.YtiadbiiiikhfaaaGreatDoor

namespace Go.Proofs.YtiadbiiiikhfaaaGreatDoor
open Go.RowKit

theorem field_wr0S (c : Int) (o p q : Option Addr) (n m l i j k : Nat) (w : World) : (Instr.field 32 (.agg #[.int .i64 c, .slice o n i, .slice p m j, .slice q l k]) 0).run Tryz.prog w = .ok (.int .i64 c) w := by kernel_rfl
theorem field_in0 (c v : Int) (w : World) : (Instr.field 42 (.agg #[.int .i64 c, .int .i64 v]) 0).run Tryz.prog w = .ok (.int .i64 c) w := by kernel_rfl
theorem field_in1 (c v : Int) (w : World) : (Instr.field 42 (.agg #[.int .i64 c, .int .i64 v]) 1).run Tryz.prog w = .ok (.int .i64 v) w := by kernel_rfl
theorem neqWriteB (x0 x1 x2 x3 : Int) (w : World) : (binOp .neq 55 (.agg #[.int .i64 x0, .int .i64 x1, .int .i64 x2, .int .i64 x3]) (.agg #[.int .i64 x0, .int .i64 x1, .int .i64 x2, .int .i64 x3])).run Tryz.prog w = .ok (.bool false) w := by
 have hS : Tryz.prog.underlying 55 = some (.struct (Tryz.prog.fieldsOf 55)) := by kernel_rfl
 have hp : Tryz.prog.stoodInHeld 55 = false := by kernel_rfl
 have u2 := Tryz.underlying2
 have a2 := Tryz.isAgg2
 have z2 := Tryz.sizeOf2
 rw [run_neq_struct, show (10000 : Nat) = 9999 + 1 from rfl, run_equalIn_agg w 9999 _ _ _ hS hp]
 simp only [Program.fieldsOf, Tryz.underlying55]
 go_simp
 try simp
theorem lwBigW_is (o : Option Addr) (len cap : Nat) (r : Bool) (w : World) (h : decide ((1048576 : Int) < (len : Int)) = r) :
  Calls Tryz.prog 6 #[.slice o len cap] w fun e w' => e = .returned (.bool r) ∧ w' = w := by
 go_enter Tryz.func6, Tryz.ntmps6
 go_wp2
 go_ret
 exact ⟨by first | rfl | (rw [← h]; rfl), rfl⟩
theorem Row.cellK {w : World} {B m n g o : Nat} {F : Nat → Int} {cp : Nat} (h : Row w B m n F (.slice (some ⟨g, o, none⟩) n cp)) {k : Nat} (hk : k < n) {q : Nat} (hq : q < m) : g < w.heap.size ∧ w.cell? ⟨g, o + k * m + q, none⟩ = some (.int .i64 (F (k * m + q))) := by
 obtain ⟨ao, cp', e, hr⟩ := h
 cases e
 obtain ⟨g', o', e, _, hg, hc⟩ := hr (by omega)
 cases e
 refine ⟨hg, ?_⟩
 have hlt : k * m + q < n * m := by
  calc k * m + q < k * m + m := by omega
   _ = (k + 1) * m := by rw [Nat.succ_mul]
   _ ≤ n * m := Nat.mul_le_mul_right m hk
 rw [Nat.add_assoc]
 exact hc _ hlt
/-- The four numbers of a write. -/
def C4 (x : World) (g o : Nat) (n0 n1 n2 n3 : Int) : Prop := x.cell? ⟨g, o, none⟩ = some (.int .i64 n0) ∧ x.cell? ⟨g, o + 1, none⟩ = some (.int .i64 n1) ∧ x.cell? ⟨g, o + 2, none⟩ = some (.int .i64 n2) ∧ x.cell? ⟨g, o + 3, none⟩ = some (.int .i64 n3)
theorem C4.later {x x' : World} {g o : Nat} {n0 n1 n2 n3 : Int} (h : C4 x g o n0 n1 n2 n3) (hb : Below x.heap.size x x') : C4 x' g o n0 n1 n2 n3 :=
 have hl : g < x.heap.size := World.block_lt_of_cell? x _ h.1
 ⟨(hb.cell (p := ⟨g, o, none⟩) hl).trans h.1, (hb.cell (p := ⟨g, o + 1, none⟩) hl).trans h.2.1, (hb.cell (p := ⟨g, o + 2, none⟩) hl).trans h.2.2.1, (hb.cell (p := ⟨g, o + 3, none⟩) hl).trans h.2.2.2⟩
theorem Row.four {w : World} {B g o cp : Nat} {F : Nat → Int} (h : Row w B 4 1 F (.slice (some ⟨g, o, none⟩) 1 cp)) : C4 w g o (F 0) (F 1) (F 2) (F 3) := by
 have c0 := (h.cellK (k := 0) (q := 0) (by omega) (by omega)).2
 have c1 := (h.cellK (k := 0) (q := 1) (by omega) (by omega)).2
 have c2 := (h.cellK (k := 0) (q := 2) (by omega) (by omega)).2
 have c3 := (h.cellK (k := 0) (q := 3) (by omega) (by omega)).2
 simp only [Nat.zero_mul, Nat.add_zero, Nat.zero_add] at c0 c1 c2 c3
 exact ⟨c0, c1, c2, c3⟩
/-- An answer in its box. -/
def ResU (x : World) (b : Nat) (c : Int) (R : Sto) (v0 v1 v2 : Value) : Prop := Blk4 x b (.int .i64 c) v0 v1 v2 ∧ St x 0 R v0 v1 v2
theorem ResU.later {x x' : World} {b : Nat} {c : Int} {R : Sto} {v0 v1 v2 : Value} (h : ResU x b c R v0 v1 v2) (hb : Below x.heap.size x x') : ResU x' b c R v0 v1 v2 := ⟨h.1.later hb, h.2.later hb⟩
/-- What stands: the drawn store, what the rollback answered. -/
def EnU (w : World) (b3 b6 : Nat) (c : Int) (S R : Sto) (v0 v1 v2 r0 r1 r2 : Value) (x : World) : Prop := Below w.heap.size w x ∧ (Blk3 x b3 v0 v1 v2 ∧ St x 0 S v0 v1 v2) ∧ ResU x b6 c R r0 r1 r2
theorem EnU.later {w x x' : World} {b3 b6 : Nat} {c : Int} {S R : Sto} {v0 v1 v2 r0 r1 r2 : Value} (h : EnU w b3 b6 c S R v0 v1 v2 r0 r1 r2 x) (hb : Below x.heap.size x x') : EnU w b3 b6 c S R v0 v1 v2 r0 r1 r2 x' := ⟨h.1.trans (hb.mono h.1.size), ⟨h.2.1.1.later hb, h.2.1.2.later hb⟩, h.2.2.later hb⟩
/-- .. and what was last written, of both. -/
def EnX (w : World) (b3 b6 b8 b9 : Nat) (S R : Sto) (v0 v1 v2 r0 r1 r2 : Value) (lc : Int) (s8 s9 : Value) (x : World) : Prop := EnU w b3 b6 0 S R v0 v1 v2 r0 r1 r2 x ∧ Blk2 x b8 (.int .i64 lc) s8 ∧ Blk2 x b9 (.int .i64 lc) s9
theorem EnX.later {w x x' : World} {b3 b6 b8 b9 : Nat} {S R : Sto} {v0 v1 v2 r0 r1 r2 : Value} {lc : Int} {s8 s9 : Value} (h : EnX w b3 b6 b8 b9 S R v0 v1 v2 r0 r1 r2 lc s8 s9 x) (hb : Below x.heap.size x x') : EnX w b3 b6 b8 b9 S R v0 v1 v2 r0 r1 r2 lc s8 s9 x' := ⟨h.1.later hb, h.2.1.later hb, h.2.2.later hb⟩
/-- .. and their numbers. -/
def EnY (w : World) (b3 b6 b8 b9 : Nat) (S R : Sto) (v0 v1 v2 r0 r1 r2 : Value) (s8 s9 : Value) (g8 o8 g9 o9 : Nat) (n0 n1 n2 n3 : Int) (x : World) : Prop := EnX w b3 b6 b8 b9 S R v0 v1 v2 r0 r1 r2 0 s8 s9 x ∧ C4 x g8 o8 n0 n1 n2 n3 ∧ C4 x g9 o9 n0 n1 n2 n3
theorem EnY.later {w x x' : World} {b3 b6 b8 b9 : Nat} {S R : Sto} {v0 v1 v2 r0 r1 r2 : Value} {s8 s9 : Value} {g8 o8 g9 o9 : Nat} {n0 n1 n2 n3 : Int} (h : EnY w b3 b6 b8 b9 S R v0 v1 v2 r0 r1 r2 s8 s9 g8 o8 g9 o9 n0 n1 n2 n3 x) (hb : Below x.heap.size x x') : EnY w b3 b6 b8 b9 S R v0 v1 v2 r0 r1 r2 s8 s9 g8 o8 g9 o9 n0 n1 n2 n3 x' := ⟨h.1.later hb, h.2.1.later hb, h.2.2.later hb⟩
end Go.Proofs.YtiadbiiiikhfaaaGreatDoor

namespace Go.Proofs.YtiadbiiiikhfaaaGreatDoor
open Go.RowKit

set_option maxHeartbeats 1000000 in
theorem l1Key_any (w : World) (b : Nat) (o : Option Addr) (len cap : Nat) (a : Int) (h : Src w b o len cap a) (ha : a ≤ 900000) (hl : len ≤ 1048576) :
  Calls Tryz.prog 69 #[.pointer (some ⟨b, 0, none⟩)] w fun e w' => ∃ r : Int, e = .returned (.int .i64 r) ∧ faultOf r = 0 ∧ Src w' b o len cap (a + 5) ∧ But b w w' := by
 have H0 : Hid (Src w b o len cap a) := h
 have hp := h.pos
 clear h
 go_enter Tryz.func69, Tryz.ntmps69
 go_wp2_with fail
 refine (l1Next_any _ b o len cap a 4 H0.out (by omega) hl).mono ?_
 rintro e w1 ⟨r, rfl, r0, r1, hS, hT⟩
 have r4 : r < 4 := r1 (by omega)
 have H1 : Hid (Src w1 b o len cap (a + 1) ∧ But b w w1) := ⟨hS, hT⟩
 clear r1 hS hT
 go_wp2_with fail
 refine (l1Next_any _ b o len cap (a + 1) 3 H1.out.1 (by omega) hl).mono ?_
 rintro e w2 ⟨s, rfl, s0, s1, hS, hT⟩
 have s3 : s < 3 := s1 (by omega)
 have H2 : Hid (Src w2 b o len cap (a + 1 + 1) ∧ But b w w2) := ⟨hS, H1.out.2.trans hT⟩
 clear s1 hS hT H1
 go_wp2_with fail
 refine (l1Next_any _ b o len cap (a + 1 + 1) 3 H2.out.1 (by omega) hl).mono ?_
 rintro e w3 ⟨t, rfl, t0, t1, hS, hT⟩
 have t3 : t < 3 := t1 (by omega)
 have H3 : Hid (Src w3 b o len cap (a + 1 + 1 + 1) ∧ But b w w3) := ⟨hS, H2.out.2.trans hT⟩
 clear t1 hS hT H2
 go_wp2_with fail
 refine (l1Next_any _ b o len cap (a + 1 + 1 + 1) 3 H3.out.1 (by omega) hl).mono ?_
 rintro e w4 ⟨u, rfl, u0, u1, hS, hT⟩
 have u3 : u < 3 := u1 (by omega)
 have H4 : Hid (Src w4 b o len cap (a + 1 + 1 + 1 + 1) ∧ But b w w4) := ⟨hS, H3.out.2.trans hT⟩
 clear u1 hS hT H3
 go_wp2_with fail
 have hI : Ints (w4.alloc (.cells #[.int .i64 0, .int .i64 (10 + r), .int .i64 (20 + 10 * s + t), .int .i64 (180 + u)] 2)) w4.heap.size (.slice (some ⟨w4.heap.size, 0, none⟩) 4 4) [0, 10 + r, 20 + 10 * s + t, 180 + u] := World.ownsRow_lit w4 #[.int .i64 0, .int .i64 (10 + r), .int .i64 (20 + 10 * s + t), .int .i64 (180 + u)] 4 (Nat.le_refl _) (by decide) rfl
 refine (l1Pick_any _ b o len cap (a + 1 + 1 + 1 + 1) _ w4.heap.size [0, 10 + r, 20 + 10 * s + t, 180 + u] (H4.out.1.alloc _) (by omega) hl hI H4.out.1.lt (by simp) (by simp)).mono ?_
 rintro e w5 ⟨k, rfl, hk, hS, hT⟩
 have HR : Hid (faultOf k = 0 ∧ Src w5 b o len cap (a + 5) ∧ But b w w5) := by
  refine ⟨?_, ?_, (H4.out.2.alloc _).trans hT⟩
  ·simp only [List.mem_cons, List.not_mem_nil, or_false] at hk
   apply faultOf_ok
   omega
  ·have e5 : a + 1 + 1 + 1 + 1 + 1 = a + 5 := by omega
   rw [e5] at hS; exact hS
 clear hk hS hT hI H4
 go_wp2
 go_ret
 exact ⟨_, rfl, HR.out⟩
theorem fault_zero' {key : Int} (h : faultOf key = 0) : 0 ≤ key ∧ key ≤ 199 := by
 constructor
 ·apply Classical.byContradiction; intro hn
  rw [faultOf_range (Or.inl (by omega))] at h; omega
 ·apply Classical.byContradiction; intro hn
  rw [faultOf_range (Or.inr (by omega))] at h; omega

set_option maxHeartbeats 1000000 in
theorem l1Bent_any (w : World) (b : Nat) (o : Option Addr) (len cap : Nat) (a : Int) (h : Src w b o len cap a) (ha : a ≤ 800000) (hl : len ≤ 1048576) :
  Calls Tryz.prog 70 #[.pointer (some ⟨b, 0, none⟩)] w fun e w' => ∃ r : Int, e = .returned (.int .i64 r) ∧ -1 ≤ r ∧ r ≤ 200 ∧ Src w' b o len cap (a + 17) ∧ But b w w' := by
 have H0 : Hid (Src w b o len cap a ∧ But b w w) := ⟨h, But.refl _ _⟩
 have hp := h.pos
 clear h
 go_enter Tryz.func70, Tryz.ntmps70
 go_wp2_with fail
 refine (l1Key_any _ b o len cap (a) H0.out.1 (by omega) hl).mono ?_
 rintro e w1 ⟨k1, rfl, f1, hS, hT⟩
 have H1 : Hid (Src w1 b o len cap (a + 5) ∧ But b w w1) := ⟨hS, H0.out.2.trans hT⟩
 have g1 := fault_zero' f1
 clear hS hT H0 f1
 go_wp2_with fail
 refine (l1Key_any _ b o len cap (a + 5) H1.out.1 (by omega) hl).mono ?_
 rintro e w2 ⟨k2, rfl, f2, hS, hT⟩
 have H2 : Hid (Src w2 b o len cap (a + 5 + 5) ∧ But b w w2) := ⟨hS, H1.out.2.trans hT⟩
 have g2 := fault_zero' f2
 clear hS hT H1 f2
 go_wp2_with fail
 refine (l1Key_any _ b o len cap (a + 5 + 5) H2.out.1 (by omega) hl).mono ?_
 rintro e w3 ⟨k3, rfl, f3, hS, hT⟩
 have H3 : Hid (Src w3 b o len cap (a + 5 + 5 + 5) ∧ But b w w3) := ⟨hS, H2.out.2.trans hT⟩
 have g3 := fault_zero' f3
 clear hS hT H2 f3
 go_wp2_with fail
 refine (l1Next_any _ b o len cap (a + 5 + 5 + 5) 200 H3.out.1 (by omega) hl).mono ?_
 rintro e w4 ⟨u, rfl, u0, u1, hS, hT⟩
 have u2 : u < 200 := u1 (by omega)
 have H4 : Hid (Src w4 b o len cap (a + 5 + 5 + 5 + 1) ∧ But b w w4) := ⟨hS, H3.out.2.trans hT⟩
 clear u1 hS hT H3
 go_wp2_with fail
 have hI : Ints (w4.alloc (.cells #[.int .i64 k1, .int .i64 k2, .int .i64 k3, .int .i64 u, .int .i64 (-1), .int .i64 200] 2)) w4.heap.size (.slice (some ⟨w4.heap.size, 0, none⟩) 6 6) [k1, k2, k3, u, -1, 200] := World.ownsRow_lit w4 #[.int .i64 k1, .int .i64 k2, .int .i64 k3, .int .i64 u, .int .i64 (-1), .int .i64 200] 6 (Nat.le_refl _) (by decide) rfl
 refine (l1Pick_any _ b o len cap (a + 5 + 5 + 5 + 1) _ w4.heap.size [k1, k2, k3, u, -1, 200] (H4.out.1.alloc _) (by omega) hl hI H4.out.1.lt (by simp) (by simp)).mono ?_
 rintro e w5 ⟨k, rfl, hk, hS, hT⟩
 have HR : Hid (-1 ≤ k ∧ k ≤ 200 ∧ Src w5 b o len cap (a + 17) ∧ But b w w5) := by
  simp only [List.mem_cons, List.not_mem_nil, or_false] at hk
  have e5 : a + 5 + 5 + 5 + 1 + 1 = a + 17 := by omega
  rw [e5] at hS
  exact ⟨by omega, by omega, hS, (H4.out.2.alloc _).trans hT⟩
 clear hk hS hT hI H4
 go_wp2
 go_ret
 exact ⟨_, rfl, HR.out⟩

end Go.Proofs.YtiadbiiiikhfaaaGreatDoor

namespace Go.Proofs.YtiadbiiiikhfaaaGreatDoor
open Go.RowKit

/-- A literal row and the call that picks from it: the numbers of the operations, the slots, what the row holds; s: the slot of the source. -/
structure Pk where
 L : Nat
 dL : Nat
 C : Nat
 dC : Nat
 s : Nat
 X : List Int
/-- A load that may come up at any time: its number, its slot, what it yields. -/
structure Ld where
 I : Nat
 d : Nat
 v : Value
def Pk.row (p : Pk) (g : Nat) : Value := .slice (some ⟨g, 0, none⟩) p.X.length p.X.length
def allB : Nat → List (List Bool)
 | 0 => [[]]
 | n + 1 => (allB n).flatMap fun A => [false :: A, true :: A]
theorem mem_allB : ∀ (n : Nat) (A : List Bool), A.length = n → A ∈ allB n
 | 0, [], _ => by simp [allB]
 | 0, _ :: _, h => by simp at h
 | _ + 1, [], h => by simp at h
 | n + 1, x :: A, h => by
  have h1 := mem_allB n A (by simpa using h)
  simp only [allB, List.mem_flatMap]
  exact ⟨A, h1, by cases x <;> simp⟩
/-- Which operations are done: the load, the literals of A, the first k calls. -/
def mkL (ps : List Pk) (l : Ld) (l0 : Array Bool) (A : List Bool) (e : Bool) (k : Nat) : Array Bool :=
 (fun x : Array Bool => if e then x.setIfInBounds l.I true else x) <|
 (List.range ps.length).foldl (fun l i => match ps[i]? with
  | none => l
  | some p => if i < k then (if A.getD i false then l.setIfInBounds p.L true else l).setIfInBounds p.C true else if A.getD i false then l.setIfInBounds p.L true else l) l0
def left (e : Bool) : Nat := if e then 0 else 1
def rem (m : Nat) (A : List Bool) (e : Bool) (k : Nat) : Nat := A.countP (fun x => !x) + (m - k) + left e
def isL (ps : List Pk) (A : List Bool) (j : Nat) : Bool := (List.range ps.length).any fun i => (ps[i]?.map (·.L)) == some j && A.getD i true == false
def chk1 (md : Region.Mode) (ops : Array Oper) (ps : List Pk) (l : Ld) (l0 : Array Bool) (A : List Bool) (e : Bool) (k : Nat) : Bool :=
 !((List.range k).all fun i => A.getD i false) ||
 (if k == ps.length then A == List.replicate ps.length true
  else (!(Region.ready md ops (mkL ps l l0 A e k)).isEmpty) &&
  ((Region.ready md ops (mkL ps l l0 A e k)).all fun j => isL ps A j || (l.I == j && !e) || ((ps[k]?.map (·.C)) == some j && A.getD k false)) &&
  ((List.range ps.length).all fun i => A.getD i true || (match ps[i]? with
   | some p => (mkL ps l l0 A e k).setIfInBounds p.L true == mkL ps l l0 (A.set i true) e k && rem ps.length (A.set i true) e k + 1 == rem ps.length A e k
   | none => true)) &&
  (e || ((mkL ps l l0 A e k).setIfInBounds l.I true == mkL ps l l0 A true k)) &&
  (!A.getD k false || (match ps[k]? with
   | some p => (mkL ps l l0 A e k).setIfInBounds p.C true == mkL ps l l0 A e (k + 1) && rem ps.length A e (k + 1) + 1 == rem ps.length A e k
   | none => true)))
def chk (md : Region.Mode) (ops : Array Oper) (ps : List Pk) (l : Ld) (l0 : Array Bool) : Bool :=
 (allB ps.length).all fun A => (List.range (ps.length + 1)).all fun k => chk1 md ops ps l l0 A false k && chk1 md ops ps l l0 A true k
def putE (l : Ld) (e : Bool) (a : Act) : Act := if e then a.put (some l.d) l.v else a
def putAll (x : Pk → Value) (r : Pk → Int) : List Pk → Act → Act
 | [], a => a
 | p :: ps, a => putAll x r ps ((a.put (some p.dL) (x p)).put (some p.dC) (.int .i64 (r p)))
theorem act_ext {a b : Act} (hs : a.tmps.size = b.tmps.size) (hd : a.defers = b.defers) (he : ∀ t, a.eval (.tmp t) = b.eval (.tmp t)) : a = b := by
 obtain ⟨ta, da⟩ := a
 obtain ⟨tb, db⟩ := b
 simp only at hs hd
 subst hd
 have : ta = tb := by
  apply Array.ext hs
  intro i h1 h2
  have := he i
  simpa [Act.eval, Array.getD, h1, h2] using this
 rw [this]
theorem size_put (a : Act) (d : Option Tmp) (v : Value) : (a.put d v).tmps.size = a.tmps.size := by cases d <;> simp [Act.put]
theorem defers_put (a : Act) (d : Option Tmp) (v : Value) : (a.put d v).defers = a.defers := by cases d <;> rfl
theorem putAll_is (x : Pk → Value) (r : Pk → Int) : ∀ (ps : List Pk) (a a' : Act), (∀ p ∈ ps, p.dL ≠ p.dC ∧ p.dL < a.tmps.size ∧ p.dC < a.tmps.size) → a'.tmps.size = a.tmps.size → a'.defers = a.defers →
  (∀ t, (∀ p ∈ ps, t ≠ p.dL ∧ t ≠ p.dC) → a'.eval (.tmp t) = a.eval (.tmp t)) → (∀ p ∈ ps, a'.eval (.tmp p.dL) = x p ∧ a'.eval (.tmp p.dC) = .int .i64 (r p)) → a' = putAll x r ps a
 | [], a, a', _, hs, hd, he, _ => act_ext hs hd (fun t => he t (fun _ h => by cases h))
 | p :: ps, a, a', hp, hs, hd, he, hx => by
  have h0 := hp p (List.mem_cons_self ..)
  refine putAll_is x r ps _ a' (fun q hq => ?_) ?_ ?_ (fun t ht => ?_) (fun q hq => hx q (List.mem_cons_of_mem _ hq))
  ·rw [size_put, size_put]
   exact hp q (List.mem_cons_of_mem _ hq)
  ·rw [size_put, size_put]; exact hs
  ·rw [defers_put, defers_put]; exact hd
  ·by_cases h1 : t = p.dC
   ·subst h1
    rw [Act.eval_put_same _ _ _ (by rw [size_put]; exact h0.2.2)]
    exact (hx p (List.mem_cons_self ..)).2
   ·rw [Act.eval_put_ne _ _ _ _ (Ne.symm h1)]
    by_cases h2 : t = p.dL
    ·subst h2
     rw [Act.eval_put_same _ _ _ h0.2.1]
     exact (hx p (List.mem_cons_self ..)).1
    ·rw [Act.eval_put_ne _ _ _ _ (Ne.symm h2)]
     exact he t (fun q hq => by
      rcases List.mem_cons.1 hq with rfl | hq
      ·exact ⟨h2, h1⟩
      ·exact ht q hq)
theorem putE_size (l : Ld) (e : Bool) (a : Act) : (putE l e a).tmps.size = a.tmps.size ∧ (putE l e a).defers = a.defers := by
 cases e
 ·exact ⟨rfl, rfl⟩
 ·exact ⟨size_put a (some l.d) l.v, defers_put a (some l.d) l.v⟩
theorem Ints.but' {b : Nat} {w w' : World} {v : Value} {xs : List Int} (h : But b w w') (hI : Ints w (b + 1) v xs) : Ints w' (b + 1) v xs := h.ints hI (Nat.lt_succ_self b)
/-- What the operations do: the literal is laid, the call picks from it. -/
structure PkOk (ops : Array Oper) (Q : Exit → Act → World → Prop) (p : Pk) : Prop where
 lit : ∃ o, ops[p.L]? = some o ∧ o.guard = none ∧ o.dst = some p.dL ∧ ∀ (a : Act) (w : World) (K : Act → World → Prop), K (a.put (some p.dL) (p.row w.heap.size)) (w.alloc (.cells (p.X.map (Value.int .i64)).toArray 2)) → Oper.wp Tryz.prog o a w K Q
 pick : ∃ o, ops[p.C]? = some o ∧ o.guard = none ∧ o.dst = some p.dC ∧ ∀ (a : Act) (w : World) (K : Act → World → Prop), Calls Tryz.prog 28 #[a.eval (.tmp p.s), a.eval (.tmp p.dL)] w (fun e w' => ∃ v, e = .returned v ∧ K (a.put (some p.dC) v) w') → Oper.wp Tryz.prog o a w K Q
 len : 0 < p.X.length ∧ p.X.length ≤ 1000
/-- Where the region stands. -/
structure Stand (ps : List Pk) (l : Ld) (a0 : Act) (w : World) (b : Nat) (o : Option Addr) (len cap : Nat) (c : Int) (S : World → Prop) (A : List Bool) (e : Bool) (k : Nat) (a : Act) (x : World) : Prop where
 size : a.tmps.size = a0.tmps.size
 defers : a.defers = a0.defers
 rest : ∀ t, (∀ p ∈ ps, t ≠ p.dL ∧ t ≠ p.dC) → t ≠ l.d → a.eval (.tmp t) = a0.eval (.tmp t)
 load : a.eval (.tmp l.d) = (putE l e a0).eval (.tmp l.d)
 done : ∀ i p, i < k → ps[i]? = some p → ∃ r ∈ p.X, a.eval (.tmp p.dC) = .int .i64 r
 laid : ∀ i p, k ≤ i → ps[i]? = some p → A.getD i false = true → ∃ g, a.eval (.tmp p.dL) = p.row g ∧ Ints x (b + 1) (p.row g) p.X
 src : Src x b o len cap (c + k)
 but : But b w x
 held : S x
 alen : A.length = ps.length
 kle : k ≤ ps.length
 got : ∀ i, i < k → A.getD i false = true
/-- The slots are apart from one another, and from the source's. -/
def apartP (ps : List Pk) (n : Nat) : Bool :=
 (List.range ps.length).all fun i => match ps[i]? with
  | none => true
  | some p => p.dL != p.dC && decide (p.dL < n) && decide (p.dC < n) && (List.range ps.length).all fun j => match ps[j]? with
   | none => true
   | some q => p.s != q.dL && p.s != q.dC && q.s != p.dL && q.s != p.dC && p.dL != q.dC && (i == j || (p.dL != q.dL && p.dC != q.dC))
/-- The load's slot is apart from the picks'. -/
def apartE (ps : List Pk) (l : Ld) (n : Nat) : Bool := decide (l.d < n) && ps.all fun p => l.d != p.dL && l.d != p.dC && p.s != l.d
theorem apartE_at {ps : List Pk} {l : Ld} {n : Nat} (h : apartE ps l n = true) : l.d < n ∧ ∀ p ∈ ps, l.d ≠ p.dL ∧ l.d ≠ p.dC ∧ p.s ≠ l.d := by
 unfold apartE at h
 simp only [Bool.and_eq_true, decide_eq_true_eq] at h
 refine ⟨h.1, fun p hp => ?_⟩
 have := List.all_eq_true.1 h.2 p hp
 simp only [Bool.and_eq_true, bne_iff_ne] at this
 exact ⟨this.1.1, this.1.2, this.2⟩
theorem apartP_at {ps : List Pk} {n : Nat} (h : apartP ps n = true) {i j : Nat} {p q : Pk} (hp : ps[i]? = some p) (hq : ps[j]? = some q) :
  (p.dL ≠ p.dC ∧ p.dL < n ∧ p.dC < n) ∧ p.s ≠ q.dL ∧ p.s ≠ q.dC ∧ p.dL ≠ q.dC ∧ (i ≠ j → p.dL ≠ q.dL ∧ p.dC ≠ q.dC) := by
 have hi : i < ps.length := (List.getElem?_eq_some_iff.1 hp).1
 have hj : j < ps.length := (List.getElem?_eq_some_iff.1 hq).1
 have h1 := List.all_eq_true.1 h i (List.mem_range.2 hi)
 rw [hp] at h1
 simp only [Bool.and_eq_true, bne_iff_ne, decide_eq_true_eq] at h1
 have h2 := List.all_eq_true.1 h1.2 j (List.mem_range.2 hj)
 rw [hq] at h2
 simp only [Bool.and_eq_true, bne_iff_ne, Bool.or_eq_true, beq_iff_eq] at h2
 refine ⟨⟨h1.1.1.1, h1.1.1.2, h1.1.2⟩, h2.1.1.1.1.1, h2.1.1.1.1.2, h2.1.2, fun ne => ?_⟩
 rcases h2.2 with e | e
 ·exact absurd e ne
 ·exact e
theorem chk_at {md : Region.Mode} {ops : Array Oper} {ps : List Pk} {l : Ld} {l0 : Array Bool} (h : chk md ops ps l l0 = true) {A : List Bool} {e : Bool} {k : Nat} (hA : A.length = ps.length) (hk : k ≤ ps.length) : chk1 md ops ps l l0 A e k = true := by
 have := List.all_eq_true.1 (List.all_eq_true.1 h A (mem_allB _ _ hA)) k (List.mem_range.2 (by omega))
 rw [Bool.and_eq_true] at this
 cases e
 ·exact this.1
 ·exact this.2
theorem getD_set_off {A : List Bool} {i j : Nat} (h : i ≠ j) (d : Bool) : (A.set i true).getD j d = A.getD j d := by
 simp [List.getD_eq_getElem?_getD, List.getElem?_set_ne h]
theorem Stand.lay {ps : List Pk} {l : Ld} {a0 : Act} {w : World} {b : Nat} {o : Option Addr} {len cap : Nat} {c : Int} {S : World → Prop} {A : List Bool} {e : Bool} {k : Nat} {a : Act} {x : World} (h : Stand ps l a0 w b o len cap c S A e k a x) (hap : apartP ps a0.tmps.size = true) (hae : apartE ps l a0.tmps.size = true) (hS : ∀ x x', S x → But b x x' → S x') {i : Nat} {p : Pk} (hp : ps[i]? = some p) (hX : 0 < p.X.length ∧ p.X.length ≤ 1000) (hA : A.getD i true = false) :
  Stand ps l a0 w b o len cap c S (A.set i true) e k (a.put (some p.dL) (p.row x.heap.size)) (x.alloc (.cells (p.X.map (Value.int .i64)).toArray 2)) := by
 have hil : i < A.length := by rw [h.alen]; exact (List.getElem?_eq_some_iff.1 hp).1
 have hpm : p ∈ ps := List.mem_of_getElem? hp
 have hpd := (apartP_at hap hp hp).1
 have hik : ¬ i < k := fun q => by
  have := h.got i q
  rw [List.getD_eq_getElem?_getD, List.getElem?_eq_getElem hil] at this hA
  simp at this hA
  rw [this] at hA; exact absurd hA (by decide)
 exact {
  size := by rw [size_put]; exact h.size
  defers := by rw [defers_put]; exact h.defers
  rest := fun t ht hl => by rw [Act.eval_put_ne _ _ _ _ (Ne.symm (ht p hpm).1)]; exact h.rest t ht hl
  load := by rw [Act.eval_put_ne _ _ _ _ (Ne.symm ((apartE_at hae).2 p hpm).1)]; exact h.load
  done := fun j q hj hq => by
   obtain ⟨r, hr, e⟩ := h.done j q hj hq
   exact ⟨r, hr, by rw [Act.eval_put_ne _ _ _ _ (apartP_at hap hp hq).2.2.2.1]; exact e⟩
  laid := fun j q hj hq hAj => by
   by_cases e : i = j
   ·subst e
    obtain rfl : p = q := Option.some.inj (hp.symm.trans hq)
    refine ⟨x.heap.size, Act.eval_put_same _ _ _ (by rw [h.size]; exact hpd.2.1), ?_⟩
    have hI : Ints (x.alloc (.cells (p.X.map (Value.int .i64)).toArray 2)) x.heap.size (p.row x.heap.size) p.X := World.ownsRow_lit x (p.X.map (Value.int .i64)).toArray p.X.length (Nat.le_refl _) (by unfold maxLen; omega) (by simp)
    exact World.ownsRow.mono hI (by have := h.src.lt; omega)
   ·rw [getD_set_off e] at hAj
    obtain ⟨g, e1, e2⟩ := h.laid j q hj hq hAj
    refine ⟨g, by rw [Act.eval_put_ne _ _ _ _ ((apartP_at hap hp hq).2.2.2.2 e).1]; exact e1, ?_⟩
    exact ((But.refl b x).alloc _).ints e2 (Nat.lt_succ_self b)
  src := h.src.alloc _
  but := h.but.alloc _
  held := hS _ _ h.held ((But.refl _ _).alloc _)
  alen := by rw [List.length_set]; exact h.alen
  kle := h.kle
  got := fun j hj => by rw [getD_set_off (by omega)]; exact h.got j hj }
theorem Stand.pick {ps : List Pk} {l : Ld} {a0 : Act} {w : World} {b : Nat} {o : Option Addr} {len cap : Nat} {c : Int} {S : World → Prop} {A : List Bool} {e : Bool} {k : Nat} {a : Act} {x x' : World} (h : Stand ps l a0 w b o len cap c S A e k a x) (hap : apartP ps a0.tmps.size = true) (hae : apartE ps l a0.tmps.size = true) (hS : ∀ x x', S x → But b x x' → S x') {p : Pk} (hp : ps[k]? = some p) (hA : A.getD k false = true) {r : Int} (hr : r ∈ p.X) (hs : Src x' b o len cap (c + k + 1)) (hT : But b x x') :
  Stand ps l a0 w b o len cap c S A e (k + 1) (a.put (some p.dC) (.int .i64 r)) x' := by
 have hkl : k < ps.length := (List.getElem?_eq_some_iff.1 hp).1
 have hpm : p ∈ ps := List.mem_of_getElem? hp
 have hpd := (apartP_at hap hp hp).1
 exact {
  size := by rw [size_put]; exact h.size
  defers := by rw [defers_put]; exact h.defers
  rest := fun t ht hl => by rw [Act.eval_put_ne _ _ _ _ (Ne.symm (ht p hpm).2)]; exact h.rest t ht hl
  load := by rw [Act.eval_put_ne _ _ _ _ (Ne.symm ((apartE_at hae).2 p hpm).2.1)]; exact h.load
  done := fun j q hj hq => by
   by_cases e : j = k
   ·subst e
    obtain rfl : p = q := Option.some.inj (hp.symm.trans hq)
    exact ⟨r, hr, Act.eval_put_same _ _ _ (by rw [h.size]; exact hpd.2.2)⟩
   ·obtain ⟨r', hr', e'⟩ := h.done j q (by omega) hq
    exact ⟨r', hr', by rw [Act.eval_put_ne _ _ _ _ ((apartP_at hap hp hq).2.2.2.2 (fun q => e q.symm)).2]; exact e'⟩
  laid := fun j q hj hq hAj => by
   obtain ⟨g, e1, e2⟩ := h.laid j q (by omega) hq hAj
   exact ⟨g, by rw [Act.eval_put_ne _ _ _ _ (Ne.symm (apartP_at hap hq hp).2.2.2.1)]; exact e1, Ints.but' hT e2⟩
  src := by rw [show c + ((k + 1 : Nat) : Int) = c + k + 1 by omega]; exact hs
  but := h.but.trans hT
  held := hS _ _ h.held hT
  alen := h.alen
  kle := hkl
  got := fun j hj => by
   by_cases e : j = k
   ·rw [e]; exact hA
   ·exact h.got j (by omega) }
theorem Stand.get {ps : List Pk} {l : Ld} {a0 : Act} {w : World} {b : Nat} {o : Option Addr} {len cap : Nat} {c : Int} {S : World → Prop} {A : List Bool} {e : Bool} {k : Nat} {a : Act} {x : World} (h : Stand ps l a0 w b o len cap c S A e k a x) (hae : apartE ps l a0.tmps.size = true) :
  Stand ps l a0 w b o len cap c S A true k (a.put (some l.d) l.v) x := by
 have hld := apartE_at hae
 exact {
  size := by rw [size_put]; exact h.size
  defers := by rw [defers_put]; exact h.defers
  rest := fun t ht hq => by rw [Act.eval_put_ne _ _ _ _ (Ne.symm hq)]; exact h.rest t ht hq
  load := by
   rw [Act.eval_put_same _ _ _ (by rw [h.size]; exact hld.1)]
   exact (Act.eval_put_same _ _ _ hld.1).symm
  done := fun j q hj hq => by
   obtain ⟨r, hr, e⟩ := h.done j q hj hq
   exact ⟨r, hr, by rw [Act.eval_put_ne _ _ _ _ (hld.2 q (List.mem_of_getElem? hq)).2.1]; exact e⟩
  laid := fun j q hj hq hAj => by
   obtain ⟨g, e1, e2⟩ := h.laid j q hj hq hAj
   exact ⟨g, by rw [Act.eval_put_ne _ _ _ _ (hld.2 q (List.mem_of_getElem? hq)).1]; exact e1, e2⟩
  src := h.src
  but := h.but
  held := h.held
  alen := h.alen
  kle := h.kle
  got := h.got }
/-- The load yields its value wherever what is held is so. -/
def LdOk (ops : Array Oper) (Q : Exit → Act → World → Prop) (H : World → Prop) (ps : List Pk) (a0 : Act) (l : Ld) : Prop :=
 ∃ o, ops[l.I]? = some o ∧ o.guard = none ∧ o.dst = some l.d ∧ ∀ (a : Act) (w : World) (K : Act → World → Prop), (∀ t, (∀ p ∈ ps, t ≠ p.dL ∧ t ≠ p.dC) → t ≠ l.d → a.eval (.tmp t) = a0.eval (.tmp t)) → H w → K (a.put (some l.d) l.v) w → Oper.wp Tryz.prog o a w K Q
theorem picks_end {ops : Array Oper} {Q : Exit → Act → World → Prop} {md : Region.Mode} {S H : World → Prop} {ps : List Pk} {l : Ld} {l0 : Array Bool} {a0 : Act} {w : World} {b : Nat} {o : Option Addr} {len cap : Nat} {c : Int} {f : Nat}
  (hchk : chk md ops ps l l0 = true) (hap : apartP ps a0.tmps.size = true) 
  (hcont : ∀ (e : Bool) (x : Pk → Value) (r : Pk → Int) (w' : World), (∀ p ∈ ps, r p ∈ p.X) → Src w' b o len cap (c + ps.length) → But b w w' → H w' → wpAnyH Tryz.prog md ops Q S (left e + f) (mkL ps l l0 (List.replicate ps.length true) e ps.length) (putAll x r ps (putE l e a0)) w')
  (n : Nat) {A : List Bool} {e : Bool} {a : Act} {x : World} (hr : rem ps.length A e ps.length = n) (h : Stand ps l a0 w b o len cap c H A e ps.length a x) : wpAnyH Tryz.prog md ops Q S (n + f) (mkL ps l l0 A e ps.length) a x := by
 have h1 := chk_at (e := e) hchk h.alen h.kle
 have hgo : ((List.range ps.length).all fun i => A.getD i false) = true := List.all_eq_true.2 fun i hi => h.got i (List.mem_range.1 hi)
 unfold chk1 at h1
 rw [hgo, if_pos (beq_self_eq_true _)] at h1
 simp only [Bool.not_true, Bool.false_or, beq_iff_eq] at h1
 have hn : n = left e := by
  rw [← hr, h1]
  unfold rem
  rw [List.countP_replicate]
  simp
 have hx : ∀ p ∈ ps, ∃ r ∈ p.X, a.eval (.tmp p.dC) = .int .i64 r := fun p hp => by
  obtain ⟨i, hi⟩ := List.getElem?_of_mem hp
  exact h.done i p ((List.getElem?_eq_some_iff.1 hi).1) hi
 have happ : ∀ p ∈ ps, p.dL ≠ p.dC ∧ p.dL < a0.tmps.size ∧ p.dC < a0.tmps.size := fun p hp => by
  obtain ⟨i, hi⟩ := List.getElem?_of_mem hp
  exact (apartP_at hap hi hi).1
 have hsz := putE_size l e a0
 have ha : a = putAll (fun p => a.eval (.tmp p.dL)) (fun p => intOf (a.eval (.tmp p.dC))) ps (putE l e a0) := by
  refine putAll_is _ _ ps (putE l e a0) a (fun p hp => by rw [hsz.1]; exact happ p hp) (by rw [hsz.1]; exact h.size) (by rw [hsz.2]; exact h.defers) (fun t ht => ?_) (fun p hp => ⟨rfl, ?_⟩)
  ·by_cases q : t = l.d
   ·rw [q]; exact h.load
   ·rw [h.rest t ht q]
    cases e
    ·rfl
    ·exact (Act.eval_put_ne _ _ _ _ (Ne.symm q)).symm
  ·obtain ⟨r, _, e⟩ := hx p hp
   rw [e]; rfl
 rw [hn, ha, h1]
 exact hcont _ _ _ x (fun p hp => by
  obtain ⟨r, hr, e⟩ := hx p hp
  show intOf (a.eval (.tmp p.dC)) ∈ p.X
  rw [e]; exact hr) h.src h.but h.held
theorem wpAnyH_picks {ops : Array Oper} {Q : Exit → Act → World → Prop} {md : Region.Mode} {S H : World → Prop} (ps : List Pk) (l : Ld) (l0 : Array Bool) (a0 : Act) (w : World) (b : Nat) (o : Option Addr) (len cap : Nat) (c : Int) (f : Nat)
  (hchk : chk md ops ps l l0 = true) (hap : apartP ps a0.tmps.size = true) (hae : apartE ps l a0.tmps.size = true) (hok : ∀ p ∈ ps, PkOk ops Q p) (hld : LdOk ops Q H ps a0 l) (hs : ∀ p ∈ ps, a0.eval (.tmp p.s) = .pointer (some ⟨b, 0, none⟩))
  (hS : ∀ x x', H x → But b x x' → H x') (hSH : ∀ x, H x → S x) (hc : c + ps.length ≤ 1000000) (hl : len ≤ 1048576)
  (hcont : ∀ (e : Bool) (x : Pk → Value) (r : Pk → Int) (w' : World), (∀ p ∈ ps, r p ∈ p.X) → Src w' b o len cap (c + ps.length) → But b w w' → H w' → wpAnyH Tryz.prog md ops Q S (left e + f) (mkL ps l l0 (List.replicate ps.length true) e ps.length) (putAll x r ps (putE l e a0)) w') :
  ∀ (n : Nat) (A : List Bool) (e : Bool) (k : Nat) (a : Act) (x : World), rem ps.length A e k = n → Stand ps l a0 w b o len cap c H A e k a x → wpAnyH Tryz.prog md ops Q S (n + f) (mkL ps l l0 A e k) a x := by
 intro n
 induction n with
 | zero =>
  intro A e k a x hr h
  have := h.kle
  obtain rfl : k = ps.length := by unfold rem at hr; omega
  exact picks_end hchk hap hcont 0 hr h
 | succ n ih =>
  intro A e k a x hr h
  by_cases hk : k = ps.length
  ·subst hk
   exact picks_end hchk hap hcont (n + 1) hr h
  have h1 := chk_at (e := e) hchk h.alen h.kle
  have hgo : ((List.range k).all fun i => A.getD i false) = true := List.all_eq_true.2 fun i hi => h.got i (List.mem_range.1 hi)
  unfold chk1 at h1
  rw [hgo, if_neg (by simp [hk])] at h1
  simp only [Bool.not_true, Bool.false_or, Bool.and_eq_true] at h1
  obtain ⟨⟨⟨⟨hne, hall⟩, hlit⟩, hlds⟩, hpick⟩ := h1
  rw [show n + 1 + f = (n + f) + 1 by omega]
  refine ⟨fun h0 => by rw [h0] at hne; simp at hne, fun j hj => ?_⟩
  have hj' := List.all_eq_true.1 hall j hj
  rw [Bool.or_eq_true, Bool.or_eq_true] at hj'
  rcases hj' with (hj' | hj') | hj'
  ·obtain ⟨i, hi, hij⟩ := List.any_eq_true.1 hj'
   rw [Bool.and_eq_true, beq_iff_eq, beq_iff_eq] at hij
   obtain ⟨hij, hAi⟩ := hij
   have hil : i < ps.length := List.mem_range.1 hi
   obtain ⟨p, hp⟩ : ∃ p, ps[i]? = some p := ⟨ps[i], List.getElem?_eq_getElem hil⟩
   rw [hp] at hij
   obtain rfl : p.L = j := Option.some.inj hij
   have hcl := List.all_eq_true.1 hlit i hi
   rw [hAi, hp] at hcl
   simp only [Bool.false_or, Bool.and_eq_true, beq_iff_eq] at hcl
   have hk' := hok p (List.mem_of_getElem? hp)
   obtain ⟨o', ho, hg, hd, hwp⟩ := hk'.lit
   refine wpOp_step ho (fun K' hK => ?_)
   rw [if_pos (by simp [Region.wanted, hg])]
   have hn := h.lay hap hae hS hp hk'.len hAi
   refine hwp a x K' (hK _ _ ⟨hSH _ hn.held, ?_⟩)
   rw [hcl.1]
   exact ih _ _ _ _ _ (by have := hcl.2; omega) hn
  ·rw [Bool.and_eq_true, beq_iff_eq] at hj'
   obtain ⟨rfl, he⟩ := hj'
   obtain rfl : e = false := by simpa using he
   simp only [Bool.false_or, beq_iff_eq] at hlds
   obtain ⟨o', ho, hg, hd, hwp⟩ := hld
   refine wpOp_step ho (fun K' hK => ?_)
   rw [if_pos (by simp [Region.wanted, hg])]
   have hn := h.get hae
   refine hwp a x K' h.rest h.held (hK _ _ ⟨hSH _ hn.held, ?_⟩)
   rw [hlds]
   refine ih _ _ _ _ _ ?_ hn
   unfold rem left at hr ⊢
   simp only [Bool.false_eq_true, if_false, if_true] at hr ⊢
   omega
  ·rw [Bool.and_eq_true, beq_iff_eq] at hj'
   obtain ⟨hij, hAk⟩ := hj'
   obtain ⟨p, hp⟩ : ∃ p, ps[k]? = some p := by
    cases e : ps[k]? with
    | none => rw [e] at hij; cases hij
    | some p => exact ⟨p, rfl⟩
   rw [hp] at hij
   obtain rfl : p.C = j := Option.some.inj hij
   rw [hAk, hp] at hpick
   simp only [Bool.not_true, Bool.false_or, Bool.and_eq_true, beq_iff_eq] at hpick
   have hk' := hok p (List.mem_of_getElem? hp)
   obtain ⟨o', ho, hg, hd, hwp⟩ := hk'.pick
   refine wpOp_step ho (fun K' hK => ?_)
   rw [if_pos (by simp [Region.wanted, hg])]
   obtain ⟨g, e1, e2⟩ := h.laid k p (Nat.le_refl k) hp hAk
   have es : a.eval (.tmp p.s) = .pointer (some ⟨b, 0, none⟩) := by
    rw [h.rest p.s (fun q hq => by
     obtain ⟨i, hi⟩ := List.getElem?_of_mem hq
     have := apartP_at hap hp hi
     exact ⟨this.2.1, this.2.2.1⟩) ((apartE_at hae).2 p (List.mem_of_getElem? hp)).2.2]
    exact hs p (List.mem_of_getElem? hp)
   refine hwp a x K' ?_
   rw [es, e1]
   refine (l1Pick_any x b o len cap (c + k) _ (b + 1) p.X h.src (by have := h.kle; omega) hl e2 (Nat.lt_succ_self b) hk'.len.1 hk'.len.2).mono ?_
   rintro e w' ⟨r, rfl, hrX, hSr, hT⟩
   have hn := h.pick hap hae hS hp hAk hrX hSr hT
   refine ⟨_, rfl, hK _ _ ⟨hSH _ hn.held, ?_⟩⟩
   rw [hpick.1]
   exact ih _ _ _ _ _ (by have := hpick.2; omega) hn
theorem wpAnyH_at {P : Program} {md : Region.Mode} {ops : Array Oper} {Q : Exit → Act → World → Prop} {S : World → Prop} {n n' : Nat} {L L' : Array Bool} {a : Act} {w : World} (hn : n = n') (hL : L = L') (h : wpAnyH P md ops Q S n' L' a w) : wpAnyH P md ops Q S n L a w := by
 subst hn hL; exact h
/-- Where the region begins. -/
theorem Stand.start {ps : List Pk} {l : Ld} {a0 : Act} {w : World} {b : Nat} {o : Option Addr} {len cap : Nat} {c : Int} {S : World → Prop} (hs : Src w b o len cap c) (hS : S w) : Stand ps l a0 w b o len cap c S (List.replicate ps.length false) false 0 a0 w where
 size := rfl
 defers := rfl
 rest := fun _ _ _ => rfl
 load := rfl
 done := fun _ _ h => absurd h (Nat.not_lt_zero _)
 laid := fun i p _ hp hA => by
  have hil : i < ps.length := (List.getElem?_eq_some_iff.1 hp).1
  simp [List.getD_eq_getElem?_getD, hil] at hA
 src := by simpa using hs
 but := But.refl _ _
 held := hS
 alen := by simp
 kle := Nat.zero_le _
 got := fun _ h => absurd h (Nat.not_lt_zero _)
theorem run_lit3 (x0 x1 x2 : Int) (w : World) : (Instr.buildSlice 111 3 #[(0, .int .i64 x0), (1, .int .i64 x1), (2, .int .i64 x2)]).run Tryz.prog w = .ok (.slice (some ⟨w.heap.size, 0, none⟩) 3 3) (w.alloc (.cells #[.int .i64 x0, .int .i64 x1, .int .i64 x2] 2)) := by
 first | kernel_rfl | rfl | go_simp
theorem run_lit2 (x0 x1 : Int) (w : World) : (Instr.buildSlice 111 2 #[(0, .int .i64 x0), (1, .int .i64 x1)]).run Tryz.prog w = .ok (.slice (some ⟨w.heap.size, 0, none⟩) 2 2) (w.alloc (.cells #[.int .i64 x0, .int .i64 x1] 2)) := by
 first | kernel_rfl | rfl | go_simp
theorem wp_lit {o : Oper} {d : Nat} {v : Value} {c : Obj} {a : Act} {w : World} {K : Act → World → Prop} {Q : Exit → Act → World → Prop} (t : TypeId) (n : Nat) (ps : Array (Nat × Operand)) (hop : o.op = .buildSlice t n ps) (hd : o.dst = some d) (qs : Array (Nat × Value)) (hq : (ps.map fun (i, x) => (i, a.eval x)) = qs) (hr : (Instr.buildSlice t n qs).run Tryz.prog w = .ok v (w.alloc c)) (h : K (a.put (some d) v) (w.alloc c)) : Oper.wp Tryz.prog o a w K Q := by
 unfold Oper.wp execOp
 simp only [hop, hq, Sem.run_bind, hr, Result.andThen_ok, Sem.run_pure]
 show K (a.put o.dst v) (w.alloc c)
 rw [hd]
 exact h
theorem exec_pick (o : Oper) (a : Act) (w : World) (i j : Nat) (ts : Array TypeId) (hop : o.op = .call { callee := .value (.func 28), args := #[.tmp i, .tmp j], argTypes := ts }) : (execOp a.eval o).run Tryz.prog w = .ok (.enter 28 #[a.eval (.tmp i), a.eval (.tmp j)]) w := by
 unfold execOp
 simp only [hop, resolve, invoke, Sem.run_bind, List.map_toArray, List.map_cons, List.map_nil]
 generalize a.eval (.tmp i) = x
 generalize a.eval (.tmp j) = y
 kernel_rfl
theorem wp_pick {o : Oper} {d : Nat} {a : Act} {w : World} {K : Act → World → Prop} {Q : Exit → Act → World → Prop} (i j : Nat) (ts : Array TypeId) (hop : o.op = .call { callee := .value (.func 28), args := #[.tmp i, .tmp j], argTypes := ts }) (hd : o.dst = some d) (h : Calls Tryz.prog 28 #[a.eval (.tmp i), a.eval (.tmp j)] w (fun e w' => ∃ v, e = .returned v ∧ K (a.put (some d) v) w')) : Oper.wp Tryz.prog o a w K Q := by
 unfold Oper.wp
 rw [exec_pick o a w i j ts hop, Oper.upon_enter]
 refine h.mono ?_
 rintro e w' ⟨v, rfl, hk⟩
 show K (a.put o.dst v) w'
 rw [hd]
 exact hk
theorem run_lit4 (x0 x1 x2 x3 : Int) (w : World) : (Instr.buildSlice 111 4 #[(0, .int .i64 x0), (1, .int .i64 x1), (2, .int .i64 x2), (3, .int .i64 x3)]).run Tryz.prog w = .ok (.slice (some ⟨w.heap.size, 0, none⟩) 4 4) (w.alloc (.cells #[.int .i64 x0, .int .i64 x1, .int .i64 x2, .int .i64 x3] 2)) := by
 first | kernel_rfl | rfl | go_simp
theorem pkOk2 {ops : Array Oper} {Q : Exit → Act → World → Prop} (L dL C dC s : Nat) (x0 x1 : Int) (oL oC : Oper) (hL : ops[L]? = some oL) (gL : oL.guard = none) (eL : oL.dst = some dL) (pL : oL.op = .buildSlice 111 2 #[(0, .const (.int .i64 x0)), (1, .const (.int .i64 x1))])
  (hC : ops[C]? = some oC) (gC : oC.guard = none) (eC : oC.dst = some dC) (ts : Array TypeId) (pC : oC.op = .call { callee := .value (.func 28), args := #[.tmp s, .tmp dL], argTypes := ts }) : PkOk ops Q ⟨L, dL, C, dC, s, [x0, x1]⟩ where
 lit := ⟨oL, hL, gL, eL, fun a w K h => wp_lit 111 2 _ pL eL #[(0, .int .i64 x0), (1, .int .i64 x1)] (by simp [Act.eval]) (run_lit2 x0 x1 w) h⟩
 pick := ⟨oC, hC, gC, eC, fun a w K h => wp_pick s dL ts pC eC h⟩
 len := ⟨by simp, by simp⟩
theorem pkOk3 {ops : Array Oper} {Q : Exit → Act → World → Prop} (L dL C dC s : Nat) (x0 x1 x2 : Int) (oL oC : Oper) (hL : ops[L]? = some oL) (gL : oL.guard = none) (eL : oL.dst = some dL) (pL : oL.op = .buildSlice 111 3 #[(0, .const (.int .i64 x0)), (1, .const (.int .i64 x1)), (2, .const (.int .i64 x2))])
  (hC : ops[C]? = some oC) (gC : oC.guard = none) (eC : oC.dst = some dC) (ts : Array TypeId) (pC : oC.op = .call { callee := .value (.func 28), args := #[.tmp s, .tmp dL], argTypes := ts }) : PkOk ops Q ⟨L, dL, C, dC, s, [x0, x1, x2]⟩ where
 lit := ⟨oL, hL, gL, eL, fun a w K h => wp_lit 111 3 _ pL eL #[(0, .int .i64 x0), (1, .int .i64 x1), (2, .int .i64 x2)] (by simp [Act.eval]) (run_lit3 x0 x1 x2 w) h⟩
 pick := ⟨oC, hC, gC, eC, fun a w K h => wp_pick s dL ts pC eC h⟩
 len := ⟨by simp, by simp⟩
theorem pkOk4 {ops : Array Oper} {Q : Exit → Act → World → Prop} (L dL C dC s : Nat) (x0 x1 x2 x3 : Int) (oL oC : Oper) (hL : ops[L]? = some oL) (gL : oL.guard = none) (eL : oL.dst = some dL) (pL : oL.op = .buildSlice 111 4 #[(0, .const (.int .i64 x0)), (1, .const (.int .i64 x1)), (2, .const (.int .i64 x2)), (3, .const (.int .i64 x3))])
  (hC : ops[C]? = some oC) (gC : oC.guard = none) (eC : oC.dst = some dC) (ts : Array TypeId) (pC : oC.op = .call { callee := .value (.func 28), args := #[.tmp s, .tmp dL], argTypes := ts }) : PkOk ops Q ⟨L, dL, C, dC, s, [x0, x1, x2, x3]⟩ where
 lit := ⟨oL, hL, gL, eL, fun a w K h => wp_lit 111 4 _ pL eL #[(0, .int .i64 x0), (1, .int .i64 x1), (2, .int .i64 x2), (3, .int .i64 x3)] (by simp [Act.eval]) (run_lit4 x0 x1 x2 x3 w) h⟩
 pick := ⟨oC, hC, gC, eC, fun a w K h => wp_pick s dL ts pC eC h⟩
 len := ⟨by simp, by simp⟩
theorem wp_loadS {o : Oper} {d : Nat} {a : Act} {w : World} {K : Act → World → Prop} {Q : Exit → Act → World → Prop} (t : TypeId) (hag : ∀ w : World, Sem.run Tryz.prog (isAgg t) w = .ok false w) (q : Nat) (hop : o.op = .load t (.tmp q)) (hd : o.dst = some d) (bx j : Nat) (hq : a.eval (.tmp q) = .pointer (some ⟨bx, j, none⟩)) (v : Value) (hv : w.cell? ⟨bx, j, none⟩ = some v) (h : K (a.put (some d) v) w) : Oper.wp Tryz.prog o a w K Q := by
 have he : (execOp a.eval o).run Tryz.prog w = .ok (.value v) w := by
  unfold execOp
  simp only [hop, hq]
  go_simp
 unfold Oper.wp
 rw [he, Oper.upon_value, hd]
 exact h
end Go.Proofs.YtiadbiiiikhfaaaGreatDoor

