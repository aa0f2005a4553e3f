/-
  Own text. The model's l3Prewrite of a put where a cell is there.
-/
import Derived.Test.YtkbjlnnincknaaaGreatDoorPreH
namespace Go.Proofs.YtkbjlnnincknaaaGreatDoor
open Go.RowKit Go.Lib

/-- A store that has one lock more, at place k, and, for the cell of a key and start, another, at place q. -/
def reputS (S : Sto) (k q : Nat) (a s pr un va : Int) : Sto := ⟨(unlC S.c a s S.nc).length + 1, insF (fun p => (unlC S.c a s S.nc).flatten.getD p 0) 3 (unlC S.c a s S.nc).length q [a, s, va], S.nl + 1, insF S.l 5 S.nl k [a, s, 1, pr, un], S.nw, S.k⟩
theorem OwnM.capM {w : World} {B : Nat} {e : TypeId} {m n : Nat} {ao : Option Addr} {cp : Nat} {L : List Int} (h : OwnM w B e m (.slice ao n cp) n L) : n ≤ cp := by
  rcases h.2 with ⟨q, e⟩ | ⟨g, cap, cur, q, _, _, hn, _⟩
  · cases q; exact Nat.le_refl _
  · cases q; exact hn
theorem insF_flat {F G : Nat → Int} {n q : Nat} {xs : List Int} (h : ∀ p, p < n * 3 → F p = G p) (hq : q ≤ n) : ∀ p, p < (n + 1) * 3 → (nums F (q * 3) ++ xs ++ nums (fun p => F (q * 3 + p)) ((n - q) * 3)).getD p 0 = insF G 3 n q xs p := by
  intro p _
  unfold insF
  congr 1
  congr 1
  · congr 1
    exact List.map_congr_left (fun i hi => h i (by have := List.mem_range.1 hi; omega))
  · exact List.map_congr_left (fun i hi => h _ (by have := List.mem_range.1 hi; omega))
theorem placeC_same {F G : Nat → Int} {n q : Nat} {a s : Int} (h : ∀ p, p < n * 3 → F p = G p) (hq : placeAt (aheadC F a s) n q) : placeAt (aheadC G a s) n q := by
  obtain ⟨h1, h2, h3⟩ := hq
  refine ⟨h1, fun i hi => ?_, fun hi => ?_⟩
  · have := h2 i hi
    unfold aheadC at this ⊢
    rwa [h _ (by omega), h _ (by omega)] at this
  · have := h3 hi
    unfold aheadC at this ⊢
    rwa [h _ (by omega), h _ (by omega)] at this
set_option maxRecDepth 100000 in
set_option maxHeartbeats 16000000 in
theorem l3Pre_reput (S : Sto) (b : Nat) (v0 v1 v2 : Value) (a s pr un va : Int) (k q j : Nat) (w : World) (h : Lies w b S v0 v1 v2) (hz : storeF S = 0) (hi : FirstAt (writeIs S.k a s) S.nw (-1)) (hm : ¬ newerP S.k S.nw a s) (hl : FirstAt (lockIs S.l a) S.nl (-1)) (hc : FirstAt (cellIs S.c a s) S.nc (j : Int)) (hf : S.nl < 200) (hk : placeAt (aheadL S.l a) S.nl k) (hq : placeAt (aheadC (fun p => (unlC S.c a s S.nc).flatten.getD p 0) a s) (unlC S.c a s S.nc).length q) :
    Calls Tryz.prog 21 #[.pointer (some ⟨b, 0, none⟩), .agg #[.int .i64 a, .int .i64 s, .int .i64 1, .int .i64 pr, .int .i64 un], .int .i64 va] w (ResSto w 0 (reputS S k q a s pr un va)) := by
  have hjn : j < S.nc := hc.at.1
  have hone : Hid ((unlC S.c a s S.nc).length = S.nc - 1 ∧ ∀ p, p < (S.nc - 1) * 3 → (unlC S.c a s S.nc).flatten.getD p 0 = if p < j * 3 then S.c p else S.c (p + 3)) := selD_one (F := S.c) (m := 3) (D := goneK a s) (j := j) (goneK_iff.2 hc.at.2.1) S.nc hjn (fun i hi' hne => goneK_not (fun q => hne (cell_once (storeF_zero hz).2.1 hi' hjn q hc.at.2.1)))
  have HJ : Hid (FirstAt (lockIs S.l a) S.nl (-1) ∧ FirstAt (cellIs S.c a s) S.nc (j : Int)) := ⟨hl, hc⟩
  have HK : Hid (placeAt (aheadL S.l a) S.nl k ∧ placeAt (aheadC (fun p => (unlC S.c a s S.nc).flatten.getD p 0) a s) (unlC S.c a s S.nc).length q) := ⟨hk, hq⟩
  have dn : decide ((200 : Int) ≤ (S.nl : Int)) = false := decide_eq_false (by omega)
  clear hl hc hk hq hf
  obtain ⟨a0, c0, a1, c1, a2, c2, rfl, rfl, rfl⟩ := h.2.form
  have HE : Hid (PrS w b S (.slice a0 S.nc c0) (.slice a1 S.nl c1) (.slice a2 S.nw c2) a s 1 pr un ((w.alloc (.cells #[.int .i64 a, .int .i64 s, .int .i64 1, .int .i64 pr, .int .i64 un] 53)).alloc (.cells #[.int .i64 0, .slice none 0 0, .slice none 0 0, .slice none 0 0] 34))) := by
    refine ⟨(LkE.new w a s 1 pr un _).later (below_alloc _ _), ?_, (h.later (below_alloc _ _)).later (below_alloc _ _)⟩
    have := Blk4.new (w.alloc (.cells #[.int .i64 a, .int .i64 s, .int .i64 1, .int .i64 pr, .int .i64 un] 53)) (.int .i64 0) (.slice none 0 0) (.slice none 0 0) (.slice none 0 0) 34
    rwa [World.size_alloc] at this
  obtain ⟨⟨hn0, hn1, hn2⟩, _⟩ := storeF_zero hz
  clear h hz
  go_enter Tryz.func21, Tryz.ntmps21
  go_wp2_with fail
  generalize (w.alloc (.cells #[.int .i64 a, .int .i64 s, .int .i64 1, .int .i64 pr, .int .i64 un] 53)).alloc (.cells #[.int .i64 0, .slice none 0 0, .slice none 0 0, .slice none 0 0] 34) = w1 at HE ⊢
  refine (l2Write_is S b _ _ _ a s (-1) _ HE.out.2.2 hn2 hi).mono ?_
  rintro e w' ⟨rfl, rfl⟩
  obtain ⟨⟨⟨y0, y1, y2, y3, y4⟩, _⟩, ⟨⟨r0, r1, r2, r3⟩, f0, f1, f2, f3⟩, ⟨p0, p1, p2⟩, pst⟩ := HE.out
  unfold ResSto
  clear pst hi
  have HM : Hid (¬ newerP S.k S.nw a s) := hm
  clear hm
  go_wp2_with fail
  refine (l3Newer_is S b _ _ _ a s _ HE.out.2.2 hn2 false ⟨fun q => (Bool.false_ne_true q).elim, fun q => (HM.out q).elim⟩).mono ?_
  rintro e w3 ⟨rfl, q3⟩
  have HE : Hid (PrS w b S (.slice a0 S.nc c0) (.slice a1 S.nl c1) (.slice a2 S.nw c2) a s 1 pr un w3) := HE.out.later q3
  clear q3 y0 y1 y2 y3 y4 r0 r1 r2 r3 f0 f1 f2 f3 p0 p1 p2 HM
  obtain ⟨⟨⟨y0, y1, y2, y3, y4⟩, _⟩, ⟨⟨r0, r1, r2, r3⟩, f0, f1, f2, f3⟩, ⟨p0, p1, p2⟩, pst⟩ := HE.out
  clear pst
  go_wp2_with fail
  refine (l2Copy_cap S _ _ _ 0 _ HE.out.2.2.2 ⟨by omega, by omega, by omega⟩).mono ?_
  rintro e w4 ⟨d0, e0, d1, e1, d2, e2, ⟨g0, g1, g2⟩, rfl, ⟨s2, fr2, ap2⟩, q2⟩
  have hz3 : Hid (w.heap.size + 2 ≤ w3.heap.size) := HE.out.2.1.lt
  have HS : Hid ((St w4 w3.heap.size S (.slice d0 S.nc e0) (.slice d1 S.nl e1) (.slice d2 S.nw e2) ∧ FreeS w4 S (.slice d0 S.nc e0) (.slice d1 S.nl e1) (.slice d2 S.nw e2)) ∧ ApartD S (.slice d0 S.nc e0) (.slice d1 S.nl e1) (.slice d2 S.nw e2)) := ⟨⟨s2, fr2⟩, ap2⟩
  have HE : Hid (PrS w b S (.slice a0 S.nc c0) (.slice a1 S.nl c1) (.slice a2 S.nw c2) a s 1 pr un (w4.alloc (.cells #[.slice d0 S.nc e0, .slice d1 S.nl e1, .slice d2 S.nw e2] 32)) ∧ Blk3 (w4.alloc (.cells #[.slice d0 S.nc e0, .slice d1 S.nl e1, .slice d2 S.nw e2] 32)) w4.heap.size (.slice d0 S.nc e0) (.slice d1 S.nl e1) (.slice d2 S.nw e2)) := ⟨(HE.out.later q2).later (below_alloc _ _), Blk3.new _ _ _ _ _⟩
  have hz4 : Hid (w3.heap.size ≤ w4.heap.size) := q2.size
  have B45 : Hid (Below w4.heap.size w4 (w4.alloc (.cells #[.slice d0 S.nc e0, .slice d1 S.nl e1, .slice d2 S.nw e2] 32))) := below_alloc _ _
  clear s2 fr2 ap2 q2 y0 y1 y2 y3 y4 r0 r1 r2 r3 f0 f1 f2 f3 p0 p1 p2
  have HO : Hid (Blk3 (w4.alloc (.cells #[.slice d0 S.nc e0, .slice d1 S.nl e1, .slice d2 S.nw e2] 32)) w4.heap.size (.slice d0 S.nc e0) (.slice d1 S.nl e1) (.slice d2 S.nw e2)) := HE.out.2
  have HE : Hid (PrS w b S (.slice a0 S.nc c0) (.slice a1 S.nl c1) (.slice a2 S.nw c2) a s 1 pr un (w4.alloc (.cells #[.slice d0 S.nc e0, .slice d1 S.nl e1, .slice d2 S.nw e2] 32))) := HE.out.1
  obtain ⟨⟨⟨y0, y1, y2, y3, y4⟩, _⟩, ⟨⟨r0, r1, r2, r3⟩, f0, f1, f2, f3⟩, ⟨p0, p1, p2⟩, pst⟩ := HE.out
  go_wp2_with fail
  clear y0 y1 y2 y3 y4 r0 r1 r2 r3 f0 f1 f2 f3 p0 p1 p2 pst
  generalize w4.alloc (.cells #[.slice d0 S.nc e0, .slice d1 S.nl e1, .slice d2 S.nw e2] 32) = w5 at HE HO B45 ⊢
  obtain ⟨⟨⟨y0, y1, y2, y3, y4⟩, _⟩, ⟨⟨r0, r1, r2, r3⟩, f0, f1, f2, f3⟩, ⟨p0, p1, p2⟩, pst⟩ := HE.out
  obtain ⟨⟨t0, t1, t2⟩, _⟩ := HO.out
  refine (l2Lock_is S b _ _ _ a (-1) _ HE.out.2.2 hn1 HJ.out.1).mono ?_
  rintro e w' ⟨rfl, rfl⟩
  clear pst
  go_wp2_with fail
  refine (cellAt_is S b _ _ _ a s _ _ HE.out.2.2 hn0 HJ.out.2).mono ?_
  rintro e w'' ⟨rfl, rfl⟩
  clear HJ
  go_wp2_with fail
  refine (l2AddLock_any S.nl S.l d1 e1 w3.heap.size a s 1 pr un _ (HS.out.1.1.2.1.later B45.out) (by omega) g1).mono ?_
  rintro e w7 ⟨k', y1', z1', hk', rfl, O7, q7⟩
  have HO7 : Hid (Blk3 w7 w4.heap.size (.slice d0 S.nc e0) (.slice d1 S.nl e1) (.slice d2 S.nw e2)) := HO.out.later q7
  have HE7 : Hid (PrS w b S (.slice a0 S.nc c0) (.slice a1 S.nl c1) (.slice a2 S.nw c2) a s 1 pr un w7) := HE.out.later q7
  have B47 : Hid (Below w4.heap.size w4 w7) := B45.out.trans (q7.mono B45.out.size)
  have O7' : Hid (OwnM w7 w''.heap.size 53 5 (.slice y1' (S.nl + 1) z1') (S.nl + 1) (nums S.l (k' * 5) ++ [a, s, 1, pr, un] ++ nums (fun p => S.l (k' * 5 + p)) ((S.nl - k') * 5))) := O7
  have hk1 : Hid (placeAt (aheadL S.l a) S.nl k') := hk'
  have hz5 : Hid (w4.heap.size < w''.heap.size) := HO.out.lt
  have hz7 : Hid (w''.heap.size ≤ w7.heap.size) := q7.size
  clear O7 q7 hk' y0 y1 y2 y3 y4 r0 r1 r2 r3 f0 f1 f2 f3 p0 p1 p2 t0 t1 t2 HE HO
  obtain ⟨⟨t0, t1, t2⟩, ft0, ft1, ft2⟩ := HO7.out
  go_upto_region 13 with fail
  have hwl : w.heap.size + 1 < w4.heap.size := by have := hz3.out; have := hz4.out; omega
  have hks : ∀ i, i ≠ w4.heap.size → (w7.setCell ⟨w4.heap.size, 1, none⟩ (.slice y1' (S.nl + 1) z1')).heap[i]? = w7.heap[i]? := fun i hi => Below.heap_setCell w7 ⟨w4.heap.size, 1, none⟩ _ i hi
  have YZ : Hid (LkE w a s 1 pr un (w7.setCell ⟨w4.heap.size, 1, none⟩ (.slice y1' (S.nl + 1) z1'))) := ⟨⟨(cell_kept (hks _ (by omega)) 0).trans HE7.out.1.1.1, (cell_kept (hks _ (by omega)) 1).trans HE7.out.1.1.2.1, (cell_kept (hks _ (by omega)) 2).trans HE7.out.1.1.2.2.1, (cell_kept (hks _ (by omega)) 3).trans HE7.out.1.1.2.2.2.1, (cell_kept (hks _ (by omega)) 4).trans HE7.out.1.1.2.2.2.2⟩, HE7.out.1.2.setCell (by show w.heap.size ≤ w4.heap.size; omega) _⟩
  have RZ : Hid (Blk4 (w7.setCell ⟨w4.heap.size, 1, none⟩ (.slice y1' (S.nl + 1) z1')) (w.heap.size + 1) (.int .i64 0) (.slice none 0 0) (.slice none 0 0) (.slice none 0 0)) := HE7.out.2.1.kept (hks _ (by omega))
  have TZ : Hid (Blk3 (w7.setCell ⟨w4.heap.size, 1, none⟩ (.slice y1' (S.nl + 1) z1')) w4.heap.size (.slice d0 S.nc e0) (.slice y1' (S.nl + 1) z1') (.slice d2 S.nw e2)) := HO7.out.set1 _
  have B4Z : Hid (Below w4.heap.size w4 (w7.setCell ⟨w4.heap.size, 1, none⟩ (.slice y1' (S.nl + 1) z1'))) := B47.out.setCell (Nat.le_refl _) _
  have OZ : Hid (OwnM (w7.setCell ⟨w4.heap.size, 1, none⟩ (.slice y1' (S.nl + 1) z1')) w''.heap.size 53 5 (.slice y1' (S.nl + 1) z1') (S.nl + 1) (nums S.l (k' * 5) ++ [a, s, 1, pr, un] ++ nums (fun p => S.l (k' * 5 + p)) ((S.nl - k') * 5))) := O7'.out.far hz5.out _
  have zZ : Hid (w''.heap.size ≤ (w7.setCell ⟨w4.heap.size, 1, none⟩ (.slice y1' (S.nl + 1) z1')).heap.size) := by
    have := hz7.out
    unfold Hid
    simpa [World.setCell] using this
  generalize (w7.setCell ⟨w4.heap.size, 1, none⟩ (.slice y1' (S.nl + 1) z1')) = X0 at YZ RZ TZ B4Z OZ zZ ⊢
  clear hks t0 t1 t2 ft0 ft1 ft2 HO7 HE7 B47 O7' B45
  have hobL : Hid (∀ q, (Value.slice y1' (S.nl + 1) z1').ownBlock = some q → w''.heap.size ≤ q ∧ q < X0.heap.size) := OZ.out.block
  obtain ⟨⟨y0, y1, y2, y3, y4⟩, _⟩ := YZ.out
  obtain ⟨⟨r0, r1, r2, r3⟩, f0, f1, f2, f3⟩ := RZ.out
  obtain ⟨⟨t0, t1, t2⟩, ft0, ft1, ft2⟩ := TZ.out
  have zX0 : w4.heap.size < X0.heap.size := TZ.out.lt
  obtain ⟨i0, hi0, hz0, hz1, hz2⟩ := info_parts info_Cell
  obtain ⟨cg, co, hd0, _⟩ := HS.out.1.1.1.at (k := 0) (by omega)
  subst hd0
  have hw1 : IntKind.i64.wrap ((j : Int) + 1) = ((j + 1 : Nat) : Int) := by simp [IntKind.wrap, IntKind.bits, IntKind.signed]; omega
  have hj1 : j + 1 ≤ S.nc := hjn
  have hj2 : j + 1 ≤ e0 := by omega
  have hj3 : j ≤ e0 := by omega
  have hj4 : j ≤ S.nc := by omega
  have hq1 : (0 : Int) ≤ (j : Int) + 1 := by omega
  have hq2 : (j : Int) + 1 ≤ (S.nc : Int) := by omega
  have hq3 : (0 : Int) ≤ (j : Int) + 1 ∧ (j : Int) + 1 ≤ (S.nc : Int) := ⟨hq1, hq2⟩
  obtain ⟨A, hA⟩ : ∃ A, (if e0 = j + 1 then (some ⟨cg, co, none⟩ : Option Addr) else some ⟨cg, co + (j + 1) * 3, none⟩) = A := ⟨_, rfl⟩
  have F0 : X0.drew.cell? ⟨w4.heap.size, 0, none⟩ = some (.slice (some ⟨cg, co, none⟩) S.nc e0) := TZ.out.1.1
  have F1 : (X0.alloc (.cells #[] 78)).drew.cell? ⟨w4.heap.size, 0, none⟩ = some (.slice (some ⟨cg, co, none⟩) S.nc e0) := (TZ.out.alloc _).1.1
  have F1d : (X0.alloc (.cells #[] 78)).cell? ⟨w4.heap.size, 0, none⟩ = some (.slice (some ⟨cg, co, none⟩) S.nc e0) := (TZ.out.alloc _).1.1
  have F0d : X0.cell? ⟨w4.heap.size, 0, none⟩ = some (.slice (some ⟨cg, co, none⟩) S.nc e0) := TZ.out.1.1
  have O0 : Hid (OwnM (X0.alloc (.cells #[] 78)).drew X0.heap.size 78 3 (.slice (some ⟨X0.heap.size, 0, none⟩) 0 0) 0 []) := OwnM.lit0 X0.drew X0.heap.size _ _ rfl
  have C0 : Hid (Row (X0.alloc (.cells #[] 78)).drew w3.heap.size 3 S.nc S.c (.slice (some ⟨cg, co, none⟩) S.nc e0)) := ((HS.out.1.1.1.later B4Z.out).drewN 1).alloc _
  go_upto_region 15 with fail
  clear t0 t1 t2 ft0 ft1 ft2 r0 r1 r2 r3 f0 f1 f2 f3 y0 y1 y2 y3 y4
  refine wp_region_held_drew (S := fun _ => True) (by kernel_rfl) trivial (fun hS => ?_)
  refine wpAnyH_take (i := 1) (v := ?_) rfl (by kernel_rfl) (by kernel_rfl) (by kernel_rfl) (fun _ _ _ h => h) (Or.inl ⟨by kernel_rfl, ?_⟩) hS ?_
  rotate_left
  · intro wx hx
    go_simp
    try with_reducible rfl
  refine wpAnyH_take (i := 3) (v := ?_) rfl (by kernel_rfl) (by kernel_rfl) (by kernel_rfl) (fun _ _ _ h => h) (Or.inl ⟨by kernel_rfl, ?_⟩) hS ?_
  rotate_left
  · intro wx hx
    go_simp
    try with_reducible rfl
  refine wpAnyH_take (i := 6) (v := ?_) rfl (by kernel_rfl) (by kernel_rfl) (by kernel_rfl) (fun _ _ _ h => h) (Or.inl ⟨by kernel_rfl, ?_⟩) hS ?_
  rotate_left
  · intro wx hx
    go_simp
    try with_reducible rfl
  refine wpAnyH_take (i := 8) (v := ?_) rfl (by kernel_rfl) (by kernel_rfl) (by kernel_rfl) (fun _ _ _ h => h) (Or.inl ⟨by kernel_rfl, ?_⟩) hS ?_
  rotate_left
  · intro wx hx
    go_simp
    try with_reducible rfl
  refine wpAnyH_take (i := 9) (v := ?_) rfl (by kernel_rfl) (by kernel_rfl) (by kernel_rfl) (fun _ _ _ h => h) (Or.inl ⟨by kernel_rfl, ?_⟩) hS ?_
  rotate_left
  · intro wx hx
    go_simp
    try with_reducible rfl
  refine wpAnyH_ready (rs := [0, 2, 7]) (by kernel_rfl) (by simp) ?_
  refine AllReadyH.cons rfl (fun K hK => ?_) (AllReadyH.cons rfl (fun K hK => ?_) (AllReadyH.cons rfl (fun K hK => ?_) AllReadyH.nil))
  · go_simp
    refine hK.out _ _ trivial (fun hS => ?_)
    clear hK K
    refine wpAnyH_ready (rs := [2, 7]) (by kernel_rfl) (by simp) ?_
    refine AllReadyH.cons rfl (fun K hK => ?_) (AllReadyH.cons rfl (fun K hK => ?_) AllReadyH.nil)
    · go_simp
      refine hK.out _ _ trivial (fun hS => ?_)
      clear hK K
      refine wpAnyH_take (i := 4) (v := ?_) rfl (by kernel_rfl) (by kernel_rfl) (by kernel_rfl) (fun _ _ _ h => h) (Or.inl ⟨by kernel_rfl, ?_⟩) hS ?_
      rotate_left
      · intro wx hx
        go_simp
        try with_reducible rfl
      refine wpAnyH_ready (rs := [5, 7]) (by kernel_rfl) (by simp) ?_
      refine AllReadyH.cons rfl (fun K hK => ?_) (AllReadyH.cons rfl (fun K hK => ?_) AllReadyH.nil)
      · refine step_app 78 i0 (.agg #[.int .i64 0, .int .i64 0, .int .i64 0]) 3 24 (by rfl) _ _ 28 (by rfl) Tryz.underlying28 hi0 hz0 hz1 hz2 rfl (by omega) (by omega) _ X0.heap.size 0 [] (.slice (some ⟨X0.heap.size, 0, none⟩) 0 0) (by rfl) O0.out w3.heap.size j S.c (.slice (some ⟨cg, co, none⟩) j e0) (by rfl) (C0.out.head hj4 e0) (by omega) (by show X0.heap.size ≤ (World.alloc X0 _).heap.size; simp) ?_
        intro ao5 cp5 w7 O7 G7
        rw [Nat.zero_add, List.nil_append] at O7
        rw [show (0 : Nat) + j = j from Nat.zero_add j]
        have F2 : w7.cell? ⟨w4.heap.size, 0, none⟩ = some (.slice (some ⟨cg, co, none⟩) S.nc e0) := G7.cell F1 (fun q => by simp [Value.ownBlock] at q; omega)
        refine hK.out _ _ trivial (fun hS => ?_)
        clear hK K
        refine wpAnyH_ready (rs := [7]) (by kernel_rfl) (by simp) ?_
        refine AllReadyH.cons rfl (fun K hK => ?_) AllReadyH.nil
        go_simp
        refine hK.out _ _ trivial (fun hS => ?_)
        clear hK K
        refine wpAnyH_take (i := 10) (v := ?_) rfl (by kernel_rfl) (by kernel_rfl) (by kernel_rfl) (fun _ _ _ h => h) (Or.inl ⟨by kernel_rfl, ?_⟩) hS ?_
        rotate_left
        · intro wx hx
          go_simp
          try with_reducible rfl
        have C7 : Hid (Row w7 w3.heap.size 3 S.nc S.c (.slice (some ⟨cg, co, none⟩) S.nc e0)) := C0.out.turned G7 (fun h0 k hk q => by
          have h1 := (HS.out.1.1.1.lt h0 k hk).2
          rw [q] at hk
          simp [Value.ownBlock] at hk q
          omega)
        refine wpAnyH_ready (rs := [11]) (by kernel_rfl) (by simp) ?_
        refine AllReadyH.cons rfl (fun K hK => ?_) AllReadyH.nil
        refine step_app 78 i0 (.agg #[.int .i64 0, .int .i64 0, .int .i64 0]) 3 24 (by rfl) _ _ 28 (by rfl) Tryz.underlying28 hi0 hz0 hz1 hz2 rfl (by omega) (by omega) _ X0.heap.size j (nums S.c (j * 3)) (.slice ao5 j cp5) (by rfl) O7 w3.heap.size (S.nc - (j + 1)) (fun p => S.c ((j + 1) * 3 + p)) (.slice A (S.nc - (j + 1)) (e0 - (j + 1))) (by rfl) (hA ▸ C7.out.tailR (j + 1) g0) (by omega) (Nat.le_trans (by show X0.heap.size ≤ (World.alloc X0 _).heap.size; simp) G7.size) ?_
        intro ao6 cp6 wC O8 G8
        have keep : ∀ q, q < X0.heap.size → wC.heap[q]? = X0.heap[q]? := fun q hq => by
          have h1 : (X0.alloc (.cells #[] 78)).drew.heap[q]? = X0.heap[q]? := (below_alloc X0 (.cells #[] 78)).block q hq
          have h2 : w7.heap[q]? = (X0.alloc (.cells #[] 78)).drew.heap[q]? := G7.block q (by show q < (World.alloc X0 _).heap.size; simp; omega) (fun e => by simp [Value.ownBlock] at e; omega)
          have h3 : wC.heap[q]? = w7.heap[q]? := G8.block q (Nat.lt_of_lt_of_le (by show q < (World.alloc X0 _).heap.size; simp; omega) G7.size) (fun e => by have := (O7.block q e.symm).1; omega)
          exact h3.trans (h2.trans h1)
        have szC : X0.heap.size ≤ wC.heap.size := Nat.le_trans (Nat.le_trans (by show X0.heap.size ≤ (World.alloc X0 _).heap.size; simp) G7.size) G8.size
        have osC : wC.os = X0.os ∧ wC.tape = X0.tape ∧ wC.output = X0.output := ⟨G8.os.trans G7.os, G8.tape.trans G7.tape, G8.output.trans G7.output⟩
        have TC : Blk3 wC w4.heap.size (.slice (some ⟨cg, co, none⟩) S.nc e0) (.slice y1' (S.nl + 1) z1') (.slice d2 S.nw e2) := TZ.out.kept (keep _ zX0)
        refine hK.out _ _ trivial (fun hS => ?_)
        clear hK K
        refine wpAnyH_take (i := 12) (v := ?_) rfl (by kernel_rfl) (by kernel_rfl) (by kernel_rfl) (fun _ _ _ h => h) (Or.inl ⟨by kernel_rfl, ?_⟩) hS ?_
        rotate_left
        · intro wx hx
          go_simp
          try with_reducible rfl
        obtain ⟨⟨t0, t1, t2⟩, ft0, ft1, ft2⟩ := TC
        refine wpAnyH_ready (rs := [13]) (by kernel_rfl) (by simp) ?_
        refine AllReadyH.cons rfl (fun K hK => ?_) AllReadyH.nil
        go_simp
        refine hK.out _ _ trivial (fun hS => ?_)
        clear hK K
        have TC : Blk3 wC w4.heap.size (.slice (some ⟨cg, co, none⟩) S.nc e0) (.slice y1' (S.nl + 1) z1') (.slice d2 S.nw e2) := TZ.out.kept (keep _ zX0)
        have BC : Below X0.heap.size X0 wC := ⟨osC.1, osC.2.1, osC.2.2, szC, keep⟩
        have keepY : ∀ i, i < X0.heap.size → i ≠ w4.heap.size → (wC.setCell ⟨w4.heap.size, 0, none⟩ (.slice ao6 (j + (S.nc - (j + 1))) cp6)).heap[i]? = X0.heap[i]? := fun i hi hne => (Below.heap_setCell wC ⟨w4.heap.size, 0, none⟩ _ i hne).trans (keep i hi)
        have hx0 : w4.heap.size < X0.heap.size := zX0
        have YX1 : Hid (LkE w a s 1 pr un (wC.setCell ⟨w4.heap.size, 0, none⟩ (.slice ao6 (j + (S.nc - (j + 1))) cp6))) := ⟨⟨(cell_kept (keepY _ (by omega) (by omega)) 0).trans YZ.out.1.1, (cell_kept (keepY _ (by omega) (by omega)) 1).trans YZ.out.1.2.1, (cell_kept (keepY _ (by omega) (by omega)) 2).trans YZ.out.1.2.2.1, (cell_kept (keepY _ (by omega) (by omega)) 3).trans YZ.out.1.2.2.2.1, (cell_kept (keepY _ (by omega) (by omega)) 4).trans YZ.out.1.2.2.2.2⟩, (YZ.out.2.trans (BC.mono YZ.out.2.size)).setCell (by show w.heap.size ≤ w4.heap.size; omega) _⟩
        have RX1 : Hid (Blk4 (wC.setCell ⟨w4.heap.size, 0, none⟩ (.slice ao6 (j + (S.nc - (j + 1))) cp6)) (w.heap.size + 1) (.int .i64 0) (.slice none 0 0) (.slice none 0 0) (.slice none 0 0)) := RZ.out.kept (keepY _ (by omega) (by omega))
        have TX1 : Hid (Blk3 (wC.setCell ⟨w4.heap.size, 0, none⟩ (.slice ao6 (j + (S.nc - (j + 1))) cp6)) w4.heap.size (.slice ao6 (j + (S.nc - (j + 1))) cp6) (.slice y1' (S.nl + 1) z1') (.slice d2 S.nw e2)) := TC.set0 _
        have B4X1 : Hid (Below w4.heap.size w4 (wC.setCell ⟨w4.heap.size, 0, none⟩ (.slice ao6 (j + (S.nc - (j + 1))) cp6))) := (B4Z.out.trans (BC.mono (Nat.le_of_lt zX0))).setCell (Nat.le_refl _) _
        have OX1 : Hid (OwnM (wC.setCell ⟨w4.heap.size, 0, none⟩ (.slice ao6 (j + (S.nc - (j + 1))) cp6)) w''.heap.size 53 5 (.slice y1' (S.nl + 1) z1') (S.nl + 1) (nums S.l (k' * 5) ++ [a, s, 1, pr, un] ++ nums (fun p => S.l (k' * 5 + p)) ((S.nl - k') * 5))) := (OZ.out.later BC).far hz5.out _
        have OC : Hid (OwnM (wC.setCell ⟨w4.heap.size, 0, none⟩ (.slice ao6 (j + (S.nc - (j + 1))) cp6)) X0.heap.size 78 3 (.slice ao6 (j + (S.nc - (j + 1))) cp6) (j + (S.nc - (j + 1))) (nums S.c (j * 3) ++ nums (fun p => S.c ((j + 1) * 3 + p)) ((S.nc - (j + 1)) * 3))) := O8.far zX0 _
        have zX1 : Hid (w''.heap.size ≤ (wC.setCell ⟨w4.heap.size, 0, none⟩ (.slice ao6 (j + (S.nc - (j + 1))) cp6)).heap.size ∧ X0.heap.size ≤ (wC.setCell ⟨w4.heap.size, 0, none⟩ (.slice ao6 (j + (S.nc - (j + 1))) cp6)).heap.size) := by
          have h1 := zZ.out
          have h2 : X0.heap.size ≤ (wC.setCell ⟨w4.heap.size, 0, none⟩ (.slice ao6 (j + (S.nc - (j + 1))) cp6)).heap.size := by simpa [World.setCell] using szC
          exact ⟨by omega, h2⟩
        have hcap6 : j + (S.nc - (j + 1)) ≤ cp6 := O8.capM
        generalize wC.setCell ⟨w4.heap.size, 0, none⟩ (.slice ao6 (j + (S.nc - (j + 1))) cp6) = X1 at YX1 B4X1 RX1 TX1 OX1 OC zX1 ⊢
        clear YZ B4Z RZ TZ OZ F0 F1 F1d F0d F2 O0 C0 C7 O7 G7 O8 G8 keep keepY szC osC TC BC t0 t1 t2 ft0 ft1 ft2 zX0
        have YZ := YX1
        have B4Z := B4X1
        have RZ := RX1
        have TZ := TX1
        have OZ := OX1
        have zZ : Hid (w''.heap.size ≤ X1.heap.size) := zX1.out.1
        clear YX1 B4X1 RX1 TX1 OX1
        refine wpAnyH_done (by kernel_rfl) ?_ _
        obtain ⟨⟨y0, y1, y2, y3, y4⟩, _⟩ := YZ.out
        obtain ⟨⟨r0, r1, r2, r3⟩, f0, f1, f2, f3⟩ := RZ.out
        obtain ⟨⟨t0, t1, t2⟩, ft0, ft1, ft2⟩ := TZ.out
        go_simp
        go_wp2_with fail
        have lenC0 : (nums S.c (j * 3) ++ nums (fun p => S.c ((j + 1) * 3 + p)) ((S.nc - (j + 1)) * 3)).length = (j + (S.nc - (j + 1))) * 3 := by
          rw [List.length_append, nums_length, nums_length]
          omega
        have RC : Hid (Row X1 w3.heap.size 3 (j + (S.nc - (j + 1))) (fun p => (nums S.c (j * 3) ++ nums (fun p => S.c ((j + 1) * 3 + p)) ((S.nc - (j + 1)) * 3)).getD p 0) (.slice ao6 (j + (S.nc - (j + 1))) cp6)) := (OC.out.own lenC0).row.1.mono (by have := hz4.out; have := hz5.out; have := zX1.out.2; omega)
        clear lenC0
        obtain ⟨FC, hFC⟩ : ∃ FC : Nat → Int, (fun p => (nums S.c (j * 3) ++ nums (fun p => S.c ((j + 1) * 3 + p)) ((S.nc - (j + 1)) * 3)).getD p 0) = FC := ⟨_, rfl⟩
        rw [hFC] at RC
        have HF : Hid (∀ p, p < (j + (S.nc - (j + 1))) * 3 → FC p = (unlC S.c a s S.nc).flatten.getD p 0) := fun p hp => by
          rw [← hFC]
          exact (roll_cells hjn p (by omega)).trans (hone.out.2 p (by omega)).symm
        clear hFC OC
        refine (l2AddCell_any (j + (S.nc - (j + 1))) (FC) ao6 cp6 w3.heap.size a s va _ (RC.out) (by omega) hcap6).mono ?_
        rintro e w9 ⟨q', y0', z0', hq', rfl, O9, q9⟩
        have hq1 : Hid (placeAt (aheadC (FC) a s) (j + (S.nc - (j + 1))) q') := hq'
        have R9 : Hid (Blk4 w9 (w.heap.size + 1) (.int .i64 0) (.slice none 0 0) (.slice none 0 0) (.slice none 0 0)) := RZ.out.later q9
        have T9 : Hid (Blk3 w9 w4.heap.size (.slice ao6 (j + (S.nc - (j + 1))) cp6) (.slice y1' (S.nl + 1) z1') (.slice d2 S.nw e2)) := TZ.out.later q9
        have B49 : Hid (Below w4.heap.size w4 w9) := B4Z.out.trans (q9.mono B4Z.out.size)
        have BW9 : Hid (Below w.heap.size w w9) := YZ.out.2.trans (q9.mono YZ.out.2.size)
        have OL9 : Hid (OwnM w9 w''.heap.size 53 5 (.slice y1' (S.nl + 1) z1') (S.nl + 1) (nums S.l (k' * 5) ++ [a, s, 1, pr, un] ++ nums (fun p => S.l (k' * 5 + p)) ((S.nl - k') * 5))) := OZ.out.later q9
        have OC9 : Hid (OwnM w9 X1.heap.size 78 3 (.slice y0' ((j + (S.nc - (j + 1))) + 1) z0') ((j + (S.nc - (j + 1))) + 1) (nums (FC) (q' * 3) ++ [a, s, va] ++ nums (fun p => (FC) (q' * 3 + p)) (((j + (S.nc - (j + 1))) - q') * 3))) := O9
        clear O9 q9 hq' y0 y1 y2 y3 y4 r0 r1 r2 r3 f0 f1 f2 f3 t0 t1 t2 ft0 ft1 ft2
        obtain ⟨⟨t0, t1, t2⟩, ft0, ft1, ft2⟩ := T9.out
        go_upto_region 17 with fail
        have hks : ∀ i, i ≠ w4.heap.size → (w9.setCell ⟨w4.heap.size, 0, none⟩ (.slice y0' ((j + (S.nc - (j + 1))) + 1) z0')).heap[i]? = w9.heap[i]? := fun i hi => Below.heap_setCell w9 ⟨w4.heap.size, 0, none⟩ _ i hi
        have RY : Blk4 (w9.setCell ⟨w4.heap.size, 0, none⟩ (.slice y0' ((j + (S.nc - (j + 1))) + 1) z0')) (w.heap.size + 1) (.int .i64 0) (.slice none 0 0) (.slice none 0 0) (.slice none 0 0) := R9.out.kept (hks _ (by omega))
        have TY : Blk3 (w9.setCell ⟨w4.heap.size, 0, none⟩ (.slice y0' ((j + (S.nc - (j + 1))) + 1) z0')) w4.heap.size (.slice y0' ((j + (S.nc - (j + 1))) + 1) z0') (.slice y1' (S.nl + 1) z1') (.slice d2 S.nw e2) := T9.out.set0 _
        have BY : Hid (Below w.heap.size w (w9.setCell ⟨w4.heap.size, 0, none⟩ (.slice y0' ((j + (S.nc - (j + 1))) + 1) z0'))) := BW9.out.setCell (by show w.heap.size ≤ w4.heap.size; omega) _
        have B4Y : Hid (Below w4.heap.size w4 (w9.setCell ⟨w4.heap.size, 0, none⟩ (.slice y0' ((j + (S.nc - (j + 1))) + 1) z0'))) := B49.out.setCell (Nat.le_refl _) _
        have OLY : Hid (OwnM (w9.setCell ⟨w4.heap.size, 0, none⟩ (.slice y0' ((j + (S.nc - (j + 1))) + 1) z0')) w''.heap.size 53 5 (.slice y1' (S.nl + 1) z1') (S.nl + 1) (nums S.l (k' * 5) ++ [a, s, 1, pr, un] ++ nums (fun p => S.l (k' * 5 + p)) ((S.nl - k') * 5))) := OL9.out.far hz5.out _
        have OCY : Hid (OwnM (w9.setCell ⟨w4.heap.size, 0, none⟩ (.slice y0' ((j + (S.nc - (j + 1))) + 1) z0')) X1.heap.size 78 3 (.slice y0' ((j + (S.nc - (j + 1))) + 1) z0') ((j + (S.nc - (j + 1))) + 1) (nums (FC) (q' * 3) ++ [a, s, va] ++ nums (fun p => (FC) (q' * 3 + p)) (((j + (S.nc - (j + 1))) - q') * 3))) := OC9.out.far (by show w4.heap.size < _; have := hz5.out; have := zZ.out; omega) _
        generalize (w9.setCell ⟨w4.heap.size, 0, none⟩ (.slice y0' ((j + (S.nc - (j + 1))) + 1) z0')) = w8 at RY TY BY B4Y OLY OCY ⊢
        clear hks t0 t1 t2 ft0 ft1 ft2 R9 T9 B49 BW9 OL9 OC9
        obtain ⟨⟨r0, r1, r2, r3⟩, f0, f1, f2, f3⟩ := RY
        obtain ⟨⟨t0, t1, t2⟩, _⟩ := TY
        obtain rfl : k' = k := hk1.out.one HK.out.1
        obtain rfl : q' = q := by
          have hh : placeAt (aheadC (fun p => (unlC S.c a s S.nc).flatten.getD p 0) a s) (j + (S.nc - (j + 1))) q' := placeC_same HF.out hq1.out
          have h3 := HK.out.2
          rw [show (unlC S.c a s S.nc).length = j + (S.nc - (j + 1)) by have : (unlC S.c a s S.nc).length = S.nc - 1 := hone.out.1; omega] at h3
          exact hh.one h3
        have lenL : (nums S.l (k' * 5) ++ [a, s, 1, pr, un] ++ nums (fun p => S.l (k' * 5 + p)) ((S.nl - k') * 5)).length = (S.nl + 1) * 5 := by
          have := hk1.out.1
          rw [List.length_append, List.length_append, nums_length, nums_length]
          simp only [List.length_cons, List.length_nil]
          omega
        have lenC : (nums (FC) (q' * 3) ++ [a, s, va] ++ nums (fun p => (FC) (q' * 3 + p)) (((j + (S.nc - (j + 1))) - q') * 3)).length = ((j + (S.nc - (j + 1))) + 1) * 3 := by
          have := hq1.out.1
          rw [List.length_append, List.length_append, nums_length, nums_length]
          simp only [List.length_cons, List.length_nil]
          omega
        have HL8 : Hid (_ ∧ _) := (OLY.out.own lenL).row
        have HC8 : Hid (_ ∧ _) := (OCY.out.own lenC).row
        clear lenL lenC
        go_wp2
        have hN : (unlC S.c a s S.nc).length = j + (S.nc - (j + 1)) := by
          have : (unlC S.c a s S.nc).length = S.nc - 1 := hone.out.1
          omega
        have rC : Row w8 w3.heap.size 3 (j + (S.nc - (j + 1)) + 1) (insF (fun p => (unlC S.c a s S.nc).flatten.getD p 0) 3 (j + (S.nc - (j + 1))) q' [a, s, va]) (.slice y0' (j + (S.nc - (j + 1)) + 1) z0') := (HC8.out.1.congr (fun p hp => insF_flat (HF.out) hq1.out.1 p hp)).mono (by have := hz4.out; have := hz5.out; have := zX1.out; omega)
        have S8 : St w8 w3.heap.size (reputS S k' q' a s pr un va) (.slice y0' (j + (S.nc - (j + 1)) + 1) z0') (.slice y1' (S.nl + 1) z1') (.slice d2 S.nw e2) := by
          unfold reputS
          rw [hN]
          exact ⟨rC, HL8.out.1.mono (by have := hz4.out; have := hz5.out; omega), HS.out.1.1.2.2.later B4Y.out⟩
        have F8 : FreeS w8 (reputS S k' q' a s pr un va) (.slice y0' (j + (S.nc - (j + 1)) + 1) z0') (.slice y1' (S.nl + 1) z1') (.slice d2 S.nw e2) := by
          unfold reputS
          rw [hN]
          exact ⟨HC8.out.2, HL8.out.2, HS.out.1.2.2.2.ofRow HS.out.1.1.2.2 B4Y.out⟩
        have A8 : ApartD (reputS S k' q' a s pr un va) (.slice y0' (j + (S.nc - (j + 1)) + 1) z0') (.slice y1' (S.nl + 1) z1') (.slice d2 S.nw e2) := by
          have hi0 : ∀ q, (Value.slice y0' (j + (S.nc - (j + 1)) + 1) z0').ownBlock = some q → X1.heap.size ≤ q := fun q hq => (OCY.out.block q hq).1
          have hi1 := hobL.out
          refine ⟨fun _ _ e => ?_, fun _ hb e => ?_, fun _ hb e => ?_⟩
          · obtain ⟨g, o, hg, _⟩ := HC8.out.1.at (k := 0) (by omega)
            have h0 : (Value.slice y0' (j + (S.nc - (j + 1)) + 1) z0').ownBlock = some g := by rw [hg]; rfl
            have := hi0 g h0; have := (hi1 g (e ▸ h0)).2; have := zX1.out; omega
          · obtain ⟨g, o, hg, _⟩ := HC8.out.1.at (k := 0) (by omega)
            have h0 : (Value.slice y0' (j + (S.nc - (j + 1)) + 1) z0').ownBlock = some g := by rw [hg]; rfl
            have := hi0 g h0; have := (HS.out.1.1.2.2.lt hb g (e ▸ h0)).2; have := zX1.out; have := hz5.out; omega
          · obtain ⟨g, o, hg, _⟩ := HL8.out.1.at (k := 0) (by omega)
            have h0 : (Value.slice y1' (S.nl + 1) z1').ownBlock = some g := by rw [hg]; rfl
            have := (hi1 g h0).1; have := (HS.out.1.1.2.2.lt hb g (e ▸ h0)).2; have := hz5.out; omega
        have hlo : (w.heap.size + 1 : Nat) < w3.heap.size := by have := hz3.out; omega
        have hcl' : (reputS S k' q' a s pr un va).nc = j + (S.nc - (j + 1)) + 1 := by show (unlC S.c a s S.nc).length + 1 = _; rw [hN]
        refine bodyPost_ret (v := .agg #[.int .i64 0, .slice y0' (j + (S.nc - (j + 1)) + 1) z0', .slice y1' (S.nl + 1) z1', .slice d2 S.nw e2]) (by simp [results, Tryz.results21, go_sem, r0, r1, r2, r3]) rfl ?_
        refine ⟨y0', z0', y1', z1', d2, e2, ?_, ?_, (((BY.out.setCell (Nat.le_succ _) _).setCell (Nat.le_succ _) _).setCell (Nat.le_succ _) _).setCell (Nat.le_succ _) _⟩
        · rw [hcl']; rfl
        · rw [hcl']
          exact ⟨((((S8.far hlo _).far hlo _).far hlo _).far hlo _).mono (by omega), (((F8.far _ _).far _ _).far _ _).far _ _, A8⟩
      · go_simp
        refine hK.out _ _ trivial (fun hS => ?_)
        clear hK K
        refine wpAnyH_take (i := 10) (v := ?_) rfl (by kernel_rfl) (by kernel_rfl) (by kernel_rfl) (fun _ _ _ h => h) (Or.inl ⟨by kernel_rfl, ?_⟩) hS ?_
        rotate_left
        · intro wx hx
          go_simp
          try with_reducible rfl
        refine wpAnyH_ready (rs := [5]) (by kernel_rfl) (by simp) ?_
        refine AllReadyH.cons rfl (fun K hK => ?_) AllReadyH.nil
        refine step_app 78 i0 (.agg #[.int .i64 0, .int .i64 0, .int .i64 0]) 3 24 (by rfl) _ _ 28 (by rfl) Tryz.underlying28 hi0 hz0 hz1 hz2 rfl (by omega) (by omega) _ X0.heap.size 0 [] (.slice (some ⟨X0.heap.size, 0, none⟩) 0 0) (by rfl) O0.out w3.heap.size j S.c (.slice (some ⟨cg, co, none⟩) j e0) (by rfl) (C0.out.head hj4 e0) (by omega) (by show X0.heap.size ≤ (World.alloc X0 _).heap.size; simp) ?_
        intro ao5 cp5 w7 O7 G7
        rw [Nat.zero_add, List.nil_append] at O7
        rw [show (0 : Nat) + j = j from Nat.zero_add j]
        have F2 : w7.cell? ⟨w4.heap.size, 0, none⟩ = some (.slice (some ⟨cg, co, none⟩) S.nc e0) := G7.cell F1 (fun q => by simp [Value.ownBlock] at q; omega)
        refine hK.out _ _ trivial (fun hS => ?_)
        clear hK K
        have C7 : Hid (Row w7 w3.heap.size 3 S.nc S.c (.slice (some ⟨cg, co, none⟩) S.nc e0)) := C0.out.turned G7 (fun h0 k hk q => by
          have h1 := (HS.out.1.1.1.lt h0 k hk).2
          rw [q] at hk
          simp [Value.ownBlock] at hk q
          omega)
        refine wpAnyH_ready (rs := [11]) (by kernel_rfl) (by simp) ?_
        refine AllReadyH.cons rfl (fun K hK => ?_) AllReadyH.nil
        refine step_app 78 i0 (.agg #[.int .i64 0, .int .i64 0, .int .i64 0]) 3 24 (by rfl) _ _ 28 (by rfl) Tryz.underlying28 hi0 hz0 hz1 hz2 rfl (by omega) (by omega) _ X0.heap.size j (nums S.c (j * 3)) (.slice ao5 j cp5) (by rfl) O7 w3.heap.size (S.nc - (j + 1)) (fun p => S.c ((j + 1) * 3 + p)) (.slice A (S.nc - (j + 1)) (e0 - (j + 1))) (by rfl) (hA ▸ C7.out.tailR (j + 1) g0) (by omega) (Nat.le_trans (by show X0.heap.size ≤ (World.alloc X0 _).heap.size; simp) G7.size) ?_
        intro ao6 cp6 wC O8 G8
        have keep : ∀ q, q < X0.heap.size → wC.heap[q]? = X0.heap[q]? := fun q hq => by
          have h1 : (X0.alloc (.cells #[] 78)).drew.heap[q]? = X0.heap[q]? := (below_alloc X0 (.cells #[] 78)).block q hq
          have h2 : w7.heap[q]? = (X0.alloc (.cells #[] 78)).drew.heap[q]? := G7.block q (by show q < (World.alloc X0 _).heap.size; simp; omega) (fun e => by simp [Value.ownBlock] at e; omega)
          have h3 : wC.heap[q]? = w7.heap[q]? := G8.block q (Nat.lt_of_lt_of_le (by show q < (World.alloc X0 _).heap.size; simp; omega) G7.size) (fun e => by have := (O7.block q e.symm).1; omega)
          exact h3.trans (h2.trans h1)
        have szC : X0.heap.size ≤ wC.heap.size := Nat.le_trans (Nat.le_trans (by show X0.heap.size ≤ (World.alloc X0 _).heap.size; simp) G7.size) G8.size
        have osC : wC.os = X0.os ∧ wC.tape = X0.tape ∧ wC.output = X0.output := ⟨G8.os.trans G7.os, G8.tape.trans G7.tape, G8.output.trans G7.output⟩
        have TC : Blk3 wC w4.heap.size (.slice (some ⟨cg, co, none⟩) S.nc e0) (.slice y1' (S.nl + 1) z1') (.slice d2 S.nw e2) := TZ.out.kept (keep _ zX0)
        refine hK.out _ _ trivial (fun hS => ?_)
        clear hK K
        refine wpAnyH_take (i := 12) (v := ?_) rfl (by kernel_rfl) (by kernel_rfl) (by kernel_rfl) (fun _ _ _ h => h) (Or.inl ⟨by kernel_rfl, ?_⟩) hS ?_
        rotate_left
        · intro wx hx
          go_simp
          try with_reducible rfl
        obtain ⟨⟨t0, t1, t2⟩, ft0, ft1, ft2⟩ := TC
        refine wpAnyH_ready (rs := [13]) (by kernel_rfl) (by simp) ?_
        refine AllReadyH.cons rfl (fun K hK => ?_) AllReadyH.nil
        go_simp
        refine hK.out _ _ trivial (fun hS => ?_)
        clear hK K
        have TC : Blk3 wC w4.heap.size (.slice (some ⟨cg, co, none⟩) S.nc e0) (.slice y1' (S.nl + 1) z1') (.slice d2 S.nw e2) := TZ.out.kept (keep _ zX0)
        have BC : Below X0.heap.size X0 wC := ⟨osC.1, osC.2.1, osC.2.2, szC, keep⟩
        have keepY : ∀ i, i < X0.heap.size → i ≠ w4.heap.size → (wC.setCell ⟨w4.heap.size, 0, none⟩ (.slice ao6 (j + (S.nc - (j + 1))) cp6)).heap[i]? = X0.heap[i]? := fun i hi hne => (Below.heap_setCell wC ⟨w4.heap.size, 0, none⟩ _ i hne).trans (keep i hi)
        have hx0 : w4.heap.size < X0.heap.size := zX0
        have YX1 : Hid (LkE w a s 1 pr un (wC.setCell ⟨w4.heap.size, 0, none⟩ (.slice ao6 (j + (S.nc - (j + 1))) cp6))) := ⟨⟨(cell_kept (keepY _ (by omega) (by omega)) 0).trans YZ.out.1.1, (cell_kept (keepY _ (by omega) (by omega)) 1).trans YZ.out.1.2.1, (cell_kept (keepY _ (by omega) (by omega)) 2).trans YZ.out.1.2.2.1, (cell_kept (keepY _ (by omega) (by omega)) 3).trans YZ.out.1.2.2.2.1, (cell_kept (keepY _ (by omega) (by omega)) 4).trans YZ.out.1.2.2.2.2⟩, (YZ.out.2.trans (BC.mono YZ.out.2.size)).setCell (by show w.heap.size ≤ w4.heap.size; omega) _⟩
        have RX1 : Hid (Blk4 (wC.setCell ⟨w4.heap.size, 0, none⟩ (.slice ao6 (j + (S.nc - (j + 1))) cp6)) (w.heap.size + 1) (.int .i64 0) (.slice none 0 0) (.slice none 0 0) (.slice none 0 0)) := RZ.out.kept (keepY _ (by omega) (by omega))
        have TX1 : Hid (Blk3 (wC.setCell ⟨w4.heap.size, 0, none⟩ (.slice ao6 (j + (S.nc - (j + 1))) cp6)) w4.heap.size (.slice ao6 (j + (S.nc - (j + 1))) cp6) (.slice y1' (S.nl + 1) z1') (.slice d2 S.nw e2)) := TC.set0 _
        have B4X1 : Hid (Below w4.heap.size w4 (wC.setCell ⟨w4.heap.size, 0, none⟩ (.slice ao6 (j + (S.nc - (j + 1))) cp6))) := (B4Z.out.trans (BC.mono (Nat.le_of_lt zX0))).setCell (Nat.le_refl _) _
        have OX1 : Hid (OwnM (wC.setCell ⟨w4.heap.size, 0, none⟩ (.slice ao6 (j + (S.nc - (j + 1))) cp6)) w''.heap.size 53 5 (.slice y1' (S.nl + 1) z1') (S.nl + 1) (nums S.l (k' * 5) ++ [a, s, 1, pr, un] ++ nums (fun p => S.l (k' * 5 + p)) ((S.nl - k') * 5))) := (OZ.out.later BC).far hz5.out _
        have OC : Hid (OwnM (wC.setCell ⟨w4.heap.size, 0, none⟩ (.slice ao6 (j + (S.nc - (j + 1))) cp6)) X0.heap.size 78 3 (.slice ao6 (j + (S.nc - (j + 1))) cp6) (j + (S.nc - (j + 1))) (nums S.c (j * 3) ++ nums (fun p => S.c ((j + 1) * 3 + p)) ((S.nc - (j + 1)) * 3))) := O8.far zX0 _
        have zX1 : Hid (w''.heap.size ≤ (wC.setCell ⟨w4.heap.size, 0, none⟩ (.slice ao6 (j + (S.nc - (j + 1))) cp6)).heap.size ∧ X0.heap.size ≤ (wC.setCell ⟨w4.heap.size, 0, none⟩ (.slice ao6 (j + (S.nc - (j + 1))) cp6)).heap.size) := by
          have h1 := zZ.out
          have h2 : X0.heap.size ≤ (wC.setCell ⟨w4.heap.size, 0, none⟩ (.slice ao6 (j + (S.nc - (j + 1))) cp6)).heap.size := by simpa [World.setCell] using szC
          exact ⟨by omega, h2⟩
        have hcap6 : j + (S.nc - (j + 1)) ≤ cp6 := O8.capM
        generalize wC.setCell ⟨w4.heap.size, 0, none⟩ (.slice ao6 (j + (S.nc - (j + 1))) cp6) = X1 at YX1 B4X1 RX1 TX1 OX1 OC zX1 ⊢
        clear YZ B4Z RZ TZ OZ F0 F1 F1d F0d F2 O0 C0 C7 O7 G7 O8 G8 keep keepY szC osC TC BC t0 t1 t2 ft0 ft1 ft2 zX0
        have YZ := YX1
        have B4Z := B4X1
        have RZ := RX1
        have TZ := TX1
        have OZ := OX1
        have zZ : Hid (w''.heap.size ≤ X1.heap.size) := zX1.out.1
        clear YX1 B4X1 RX1 TX1 OX1
        refine wpAnyH_done (by kernel_rfl) ?_ _
        obtain ⟨⟨y0, y1, y2, y3, y4⟩, _⟩ := YZ.out
        obtain ⟨⟨r0, r1, r2, r3⟩, f0, f1, f2, f3⟩ := RZ.out
        obtain ⟨⟨t0, t1, t2⟩, ft0, ft1, ft2⟩ := TZ.out
        go_simp
        go_wp2_with fail
        have lenC0 : (nums S.c (j * 3) ++ nums (fun p => S.c ((j + 1) * 3 + p)) ((S.nc - (j + 1)) * 3)).length = (j + (S.nc - (j + 1))) * 3 := by
          rw [List.length_append, nums_length, nums_length]
          omega
        have RC : Hid (Row X1 w3.heap.size 3 (j + (S.nc - (j + 1))) (fun p => (nums S.c (j * 3) ++ nums (fun p => S.c ((j + 1) * 3 + p)) ((S.nc - (j + 1)) * 3)).getD p 0) (.slice ao6 (j + (S.nc - (j + 1))) cp6)) := (OC.out.own lenC0).row.1.mono (by have := hz4.out; have := hz5.out; have := zX1.out.2; omega)
        clear lenC0
        obtain ⟨FC, hFC⟩ : ∃ FC : Nat → Int, (fun p => (nums S.c (j * 3) ++ nums (fun p => S.c ((j + 1) * 3 + p)) ((S.nc - (j + 1)) * 3)).getD p 0) = FC := ⟨_, rfl⟩
        rw [hFC] at RC
        have HF : Hid (∀ p, p < (j + (S.nc - (j + 1))) * 3 → FC p = (unlC S.c a s S.nc).flatten.getD p 0) := fun p hp => by
          rw [← hFC]
          exact (roll_cells hjn p (by omega)).trans (hone.out.2 p (by omega)).symm
        clear hFC OC
        refine (l2AddCell_any (j + (S.nc - (j + 1))) (FC) ao6 cp6 w3.heap.size a s va _ (RC.out) (by omega) hcap6).mono ?_
        rintro e w9 ⟨q', y0', z0', hq', rfl, O9, q9⟩
        have hq1 : Hid (placeAt (aheadC (FC) a s) (j + (S.nc - (j + 1))) q') := hq'
        have R9 : Hid (Blk4 w9 (w.heap.size + 1) (.int .i64 0) (.slice none 0 0) (.slice none 0 0) (.slice none 0 0)) := RZ.out.later q9
        have T9 : Hid (Blk3 w9 w4.heap.size (.slice ao6 (j + (S.nc - (j + 1))) cp6) (.slice y1' (S.nl + 1) z1') (.slice d2 S.nw e2)) := TZ.out.later q9
        have B49 : Hid (Below w4.heap.size w4 w9) := B4Z.out.trans (q9.mono B4Z.out.size)
        have BW9 : Hid (Below w.heap.size w w9) := YZ.out.2.trans (q9.mono YZ.out.2.size)
        have OL9 : Hid (OwnM w9 w''.heap.size 53 5 (.slice y1' (S.nl + 1) z1') (S.nl + 1) (nums S.l (k' * 5) ++ [a, s, 1, pr, un] ++ nums (fun p => S.l (k' * 5 + p)) ((S.nl - k') * 5))) := OZ.out.later q9
        have OC9 : Hid (OwnM w9 X1.heap.size 78 3 (.slice y0' ((j + (S.nc - (j + 1))) + 1) z0') ((j + (S.nc - (j + 1))) + 1) (nums (FC) (q' * 3) ++ [a, s, va] ++ nums (fun p => (FC) (q' * 3 + p)) (((j + (S.nc - (j + 1))) - q') * 3))) := O9
        clear O9 q9 hq' y0 y1 y2 y3 y4 r0 r1 r2 r3 f0 f1 f2 f3 t0 t1 t2 ft0 ft1 ft2
        obtain ⟨⟨t0, t1, t2⟩, ft0, ft1, ft2⟩ := T9.out
        go_upto_region 17 with fail
        have hks : ∀ i, i ≠ w4.heap.size → (w9.setCell ⟨w4.heap.size, 0, none⟩ (.slice y0' ((j + (S.nc - (j + 1))) + 1) z0')).heap[i]? = w9.heap[i]? := fun i hi => Below.heap_setCell w9 ⟨w4.heap.size, 0, none⟩ _ i hi
        have RY : Blk4 (w9.setCell ⟨w4.heap.size, 0, none⟩ (.slice y0' ((j + (S.nc - (j + 1))) + 1) z0')) (w.heap.size + 1) (.int .i64 0) (.slice none 0 0) (.slice none 0 0) (.slice none 0 0) := R9.out.kept (hks _ (by omega))
        have TY : Blk3 (w9.setCell ⟨w4.heap.size, 0, none⟩ (.slice y0' ((j + (S.nc - (j + 1))) + 1) z0')) w4.heap.size (.slice y0' ((j + (S.nc - (j + 1))) + 1) z0') (.slice y1' (S.nl + 1) z1') (.slice d2 S.nw e2) := T9.out.set0 _
        have BY : Hid (Below w.heap.size w (w9.setCell ⟨w4.heap.size, 0, none⟩ (.slice y0' ((j + (S.nc - (j + 1))) + 1) z0'))) := BW9.out.setCell (by show w.heap.size ≤ w4.heap.size; omega) _
        have B4Y : Hid (Below w4.heap.size w4 (w9.setCell ⟨w4.heap.size, 0, none⟩ (.slice y0' ((j + (S.nc - (j + 1))) + 1) z0'))) := B49.out.setCell (Nat.le_refl _) _
        have OLY : Hid (OwnM (w9.setCell ⟨w4.heap.size, 0, none⟩ (.slice y0' ((j + (S.nc - (j + 1))) + 1) z0')) w''.heap.size 53 5 (.slice y1' (S.nl + 1) z1') (S.nl + 1) (nums S.l (k' * 5) ++ [a, s, 1, pr, un] ++ nums (fun p => S.l (k' * 5 + p)) ((S.nl - k') * 5))) := OL9.out.far hz5.out _
        have OCY : Hid (OwnM (w9.setCell ⟨w4.heap.size, 0, none⟩ (.slice y0' ((j + (S.nc - (j + 1))) + 1) z0')) X1.heap.size 78 3 (.slice y0' ((j + (S.nc - (j + 1))) + 1) z0') ((j + (S.nc - (j + 1))) + 1) (nums (FC) (q' * 3) ++ [a, s, va] ++ nums (fun p => (FC) (q' * 3 + p)) (((j + (S.nc - (j + 1))) - q') * 3))) := OC9.out.far (by show w4.heap.size < _; have := hz5.out; have := zZ.out; omega) _
        generalize (w9.setCell ⟨w4.heap.size, 0, none⟩ (.slice y0' ((j + (S.nc - (j + 1))) + 1) z0')) = w8 at RY TY BY B4Y OLY OCY ⊢
        clear hks t0 t1 t2 ft0 ft1 ft2 R9 T9 B49 BW9 OL9 OC9
        obtain ⟨⟨r0, r1, r2, r3⟩, f0, f1, f2, f3⟩ := RY
        obtain ⟨⟨t0, t1, t2⟩, _⟩ := TY
        obtain rfl : k' = k := hk1.out.one HK.out.1
        obtain rfl : q' = q := by
          have hh : placeAt (aheadC (fun p => (unlC S.c a s S.nc).flatten.getD p 0) a s) (j + (S.nc - (j + 1))) q' := placeC_same HF.out hq1.out
          have h3 := HK.out.2
          rw [show (unlC S.c a s S.nc).length = j + (S.nc - (j + 1)) by have : (unlC S.c a s S.nc).length = S.nc - 1 := hone.out.1; omega] at h3
          exact hh.one h3
        have lenL : (nums S.l (k' * 5) ++ [a, s, 1, pr, un] ++ nums (fun p => S.l (k' * 5 + p)) ((S.nl - k') * 5)).length = (S.nl + 1) * 5 := by
          have := hk1.out.1
          rw [List.length_append, List.length_append, nums_length, nums_length]
          simp only [List.length_cons, List.length_nil]
          omega
        have lenC : (nums (FC) (q' * 3) ++ [a, s, va] ++ nums (fun p => (FC) (q' * 3 + p)) (((j + (S.nc - (j + 1))) - q') * 3)).length = ((j + (S.nc - (j + 1))) + 1) * 3 := by
          have := hq1.out.1
          rw [List.length_append, List.length_append, nums_length, nums_length]
          simp only [List.length_cons, List.length_nil]
          omega
        have HL8 : Hid (_ ∧ _) := (OLY.out.own lenL).row
        have HC8 : Hid (_ ∧ _) := (OCY.out.own lenC).row
        clear lenL lenC
        go_wp2
        have hN : (unlC S.c a s S.nc).length = j + (S.nc - (j + 1)) := by
          have : (unlC S.c a s S.nc).length = S.nc - 1 := hone.out.1
          omega
        have rC : Row w8 w3.heap.size 3 (j + (S.nc - (j + 1)) + 1) (insF (fun p => (unlC S.c a s S.nc).flatten.getD p 0) 3 (j + (S.nc - (j + 1))) q' [a, s, va]) (.slice y0' (j + (S.nc - (j + 1)) + 1) z0') := (HC8.out.1.congr (fun p hp => insF_flat (HF.out) hq1.out.1 p hp)).mono (by have := hz4.out; have := hz5.out; have := zX1.out; omega)
        have S8 : St w8 w3.heap.size (reputS S k' q' a s pr un va) (.slice y0' (j + (S.nc - (j + 1)) + 1) z0') (.slice y1' (S.nl + 1) z1') (.slice d2 S.nw e2) := by
          unfold reputS
          rw [hN]
          exact ⟨rC, HL8.out.1.mono (by have := hz4.out; have := hz5.out; omega), HS.out.1.1.2.2.later B4Y.out⟩
        have F8 : FreeS w8 (reputS S k' q' a s pr un va) (.slice y0' (j + (S.nc - (j + 1)) + 1) z0') (.slice y1' (S.nl + 1) z1') (.slice d2 S.nw e2) := by
          unfold reputS
          rw [hN]
          exact ⟨HC8.out.2, HL8.out.2, HS.out.1.2.2.2.ofRow HS.out.1.1.2.2 B4Y.out⟩
        have A8 : ApartD (reputS S k' q' a s pr un va) (.slice y0' (j + (S.nc - (j + 1)) + 1) z0') (.slice y1' (S.nl + 1) z1') (.slice d2 S.nw e2) := by
          have hi0 : ∀ q, (Value.slice y0' (j + (S.nc - (j + 1)) + 1) z0').ownBlock = some q → X1.heap.size ≤ q := fun q hq => (OCY.out.block q hq).1
          have hi1 := hobL.out
          refine ⟨fun _ _ e => ?_, fun _ hb e => ?_, fun _ hb e => ?_⟩
          · obtain ⟨g, o, hg, _⟩ := HC8.out.1.at (k := 0) (by omega)
            have h0 : (Value.slice y0' (j + (S.nc - (j + 1)) + 1) z0').ownBlock = some g := by rw [hg]; rfl
            have := hi0 g h0; have := (hi1 g (e ▸ h0)).2; have := zX1.out; omega
          · obtain ⟨g, o, hg, _⟩ := HC8.out.1.at (k := 0) (by omega)
            have h0 : (Value.slice y0' (j + (S.nc - (j + 1)) + 1) z0').ownBlock = some g := by rw [hg]; rfl
            have := hi0 g h0; have := (HS.out.1.1.2.2.lt hb g (e ▸ h0)).2; have := zX1.out; have := hz5.out; omega
          · obtain ⟨g, o, hg, _⟩ := HL8.out.1.at (k := 0) (by omega)
            have h0 : (Value.slice y1' (S.nl + 1) z1').ownBlock = some g := by rw [hg]; rfl
            have := (hi1 g h0).1; have := (HS.out.1.1.2.2.lt hb g (e ▸ h0)).2; have := hz5.out; omega
        have hlo : (w.heap.size + 1 : Nat) < w3.heap.size := by have := hz3.out; omega
        have hcl' : (reputS S k' q' a s pr un va).nc = j + (S.nc - (j + 1)) + 1 := by show (unlC S.c a s S.nc).length + 1 = _; rw [hN]
        refine bodyPost_ret (v := .agg #[.int .i64 0, .slice y0' (j + (S.nc - (j + 1)) + 1) z0', .slice y1' (S.nl + 1) z1', .slice d2 S.nw e2]) (by simp [results, Tryz.results21, go_sem, r0, r1, r2, r3]) rfl ?_
        refine ⟨y0', z0', y1', z1', d2, e2, ?_, ?_, (((BY.out.setCell (Nat.le_succ _) _).setCell (Nat.le_succ _) _).setCell (Nat.le_succ _) _).setCell (Nat.le_succ _) _⟩
        · rw [hcl']; rfl
        · rw [hcl']
          exact ⟨((((S8.far hlo _).far hlo _).far hlo _).far hlo _).mono (by omega), (((F8.far _ _).far _ _).far _ _).far _ _, A8⟩
    · go_simp
      refine hK.out _ _ trivial (fun hS => ?_)
      clear hK K
      refine wpAnyH_take (i := 10) (v := ?_) rfl (by kernel_rfl) (by kernel_rfl) (by kernel_rfl) (fun _ _ _ h => h) (Or.inl ⟨by kernel_rfl, ?_⟩) hS ?_
      rotate_left
      · intro wx hx
        go_simp
        try with_reducible rfl
      refine wpAnyH_ready (rs := [2]) (by kernel_rfl) (by simp) ?_
      refine AllReadyH.cons rfl (fun K hK => ?_) AllReadyH.nil
      go_simp
      refine hK.out _ _ trivial (fun hS => ?_)
      clear hK K
      refine wpAnyH_take (i := 4) (v := ?_) rfl (by kernel_rfl) (by kernel_rfl) (by kernel_rfl) (fun _ _ _ h => h) (Or.inl ⟨by kernel_rfl, ?_⟩) hS ?_
      rotate_left
      · intro wx hx
        go_simp
        try with_reducible rfl
      refine wpAnyH_ready (rs := [5]) (by kernel_rfl) (by simp) ?_
      refine AllReadyH.cons rfl (fun K hK => ?_) AllReadyH.nil
      refine step_app 78 i0 (.agg #[.int .i64 0, .int .i64 0, .int .i64 0]) 3 24 (by rfl) _ _ 28 (by rfl) Tryz.underlying28 hi0 hz0 hz1 hz2 rfl (by omega) (by omega) _ X0.heap.size 0 [] (.slice (some ⟨X0.heap.size, 0, none⟩) 0 0) (by rfl) O0.out w3.heap.size j S.c (.slice (some ⟨cg, co, none⟩) j e0) (by rfl) (C0.out.head hj4 e0) (by omega) (by show X0.heap.size ≤ (World.alloc X0 _).heap.size; simp) ?_
      intro ao5 cp5 w7 O7 G7
      rw [Nat.zero_add, List.nil_append] at O7
      rw [show (0 : Nat) + j = j from Nat.zero_add j]
      have F2 : w7.cell? ⟨w4.heap.size, 0, none⟩ = some (.slice (some ⟨cg, co, none⟩) S.nc e0) := G7.cell F1 (fun q => by simp [Value.ownBlock] at q; omega)
      refine hK.out _ _ trivial (fun hS => ?_)
      clear hK K
      have C7 : Hid (Row w7 w3.heap.size 3 S.nc S.c (.slice (some ⟨cg, co, none⟩) S.nc e0)) := C0.out.turned G7 (fun h0 k hk q => by
        have h1 := (HS.out.1.1.1.lt h0 k hk).2
        rw [q] at hk
        simp [Value.ownBlock] at hk q
        omega)
      refine wpAnyH_ready (rs := [11]) (by kernel_rfl) (by simp) ?_
      refine AllReadyH.cons rfl (fun K hK => ?_) AllReadyH.nil
      refine step_app 78 i0 (.agg #[.int .i64 0, .int .i64 0, .int .i64 0]) 3 24 (by rfl) _ _ 28 (by rfl) Tryz.underlying28 hi0 hz0 hz1 hz2 rfl (by omega) (by omega) _ X0.heap.size j (nums S.c (j * 3)) (.slice ao5 j cp5) (by rfl) O7 w3.heap.size (S.nc - (j + 1)) (fun p => S.c ((j + 1) * 3 + p)) (.slice A (S.nc - (j + 1)) (e0 - (j + 1))) (by rfl) (hA ▸ C7.out.tailR (j + 1) g0) (by omega) (Nat.le_trans (by show X0.heap.size ≤ (World.alloc X0 _).heap.size; simp) G7.size) ?_
      intro ao6 cp6 wC O8 G8
      have keep : ∀ q, q < X0.heap.size → wC.heap[q]? = X0.heap[q]? := fun q hq => by
        have h1 : (X0.alloc (.cells #[] 78)).drew.heap[q]? = X0.heap[q]? := (below_alloc X0 (.cells #[] 78)).block q hq
        have h2 : w7.heap[q]? = (X0.alloc (.cells #[] 78)).drew.heap[q]? := G7.block q (by show q < (World.alloc X0 _).heap.size; simp; omega) (fun e => by simp [Value.ownBlock] at e; omega)
        have h3 : wC.heap[q]? = w7.heap[q]? := G8.block q (Nat.lt_of_lt_of_le (by show q < (World.alloc X0 _).heap.size; simp; omega) G7.size) (fun e => by have := (O7.block q e.symm).1; omega)
        exact h3.trans (h2.trans h1)
      have szC : X0.heap.size ≤ wC.heap.size := Nat.le_trans (Nat.le_trans (by show X0.heap.size ≤ (World.alloc X0 _).heap.size; simp) G7.size) G8.size
      have osC : wC.os = X0.os ∧ wC.tape = X0.tape ∧ wC.output = X0.output := ⟨G8.os.trans G7.os, G8.tape.trans G7.tape, G8.output.trans G7.output⟩
      have TC : Blk3 wC w4.heap.size (.slice (some ⟨cg, co, none⟩) S.nc e0) (.slice y1' (S.nl + 1) z1') (.slice d2 S.nw e2) := TZ.out.kept (keep _ zX0)
      refine hK.out _ _ trivial (fun hS => ?_)
      clear hK K
      refine wpAnyH_take (i := 12) (v := ?_) rfl (by kernel_rfl) (by kernel_rfl) (by kernel_rfl) (fun _ _ _ h => h) (Or.inl ⟨by kernel_rfl, ?_⟩) hS ?_
      rotate_left
      · intro wx hx
        go_simp
        try with_reducible rfl
      obtain ⟨⟨t0, t1, t2⟩, ft0, ft1, ft2⟩ := TC
      refine wpAnyH_ready (rs := [13]) (by kernel_rfl) (by simp) ?_
      refine AllReadyH.cons rfl (fun K hK => ?_) AllReadyH.nil
      go_simp
      refine hK.out _ _ trivial (fun hS => ?_)
      clear hK K
      have TC : Blk3 wC w4.heap.size (.slice (some ⟨cg, co, none⟩) S.nc e0) (.slice y1' (S.nl + 1) z1') (.slice d2 S.nw e2) := TZ.out.kept (keep _ zX0)
      have BC : Below X0.heap.size X0 wC := ⟨osC.1, osC.2.1, osC.2.2, szC, keep⟩
      have keepY : ∀ i, i < X0.heap.size → i ≠ w4.heap.size → (wC.setCell ⟨w4.heap.size, 0, none⟩ (.slice ao6 (j + (S.nc - (j + 1))) cp6)).heap[i]? = X0.heap[i]? := fun i hi hne => (Below.heap_setCell wC ⟨w4.heap.size, 0, none⟩ _ i hne).trans (keep i hi)
      have hx0 : w4.heap.size < X0.heap.size := zX0
      have YX1 : Hid (LkE w a s 1 pr un (wC.setCell ⟨w4.heap.size, 0, none⟩ (.slice ao6 (j + (S.nc - (j + 1))) cp6))) := ⟨⟨(cell_kept (keepY _ (by omega) (by omega)) 0).trans YZ.out.1.1, (cell_kept (keepY _ (by omega) (by omega)) 1).trans YZ.out.1.2.1, (cell_kept (keepY _ (by omega) (by omega)) 2).trans YZ.out.1.2.2.1, (cell_kept (keepY _ (by omega) (by omega)) 3).trans YZ.out.1.2.2.2.1, (cell_kept (keepY _ (by omega) (by omega)) 4).trans YZ.out.1.2.2.2.2⟩, (YZ.out.2.trans (BC.mono YZ.out.2.size)).setCell (by show w.heap.size ≤ w4.heap.size; omega) _⟩
      have RX1 : Hid (Blk4 (wC.setCell ⟨w4.heap.size, 0, none⟩ (.slice ao6 (j + (S.nc - (j + 1))) cp6)) (w.heap.size + 1) (.int .i64 0) (.slice none 0 0) (.slice none 0 0) (.slice none 0 0)) := RZ.out.kept (keepY _ (by omega) (by omega))
      have TX1 : Hid (Blk3 (wC.setCell ⟨w4.heap.size, 0, none⟩ (.slice ao6 (j + (S.nc - (j + 1))) cp6)) w4.heap.size (.slice ao6 (j + (S.nc - (j + 1))) cp6) (.slice y1' (S.nl + 1) z1') (.slice d2 S.nw e2)) := TC.set0 _
      have B4X1 : Hid (Below w4.heap.size w4 (wC.setCell ⟨w4.heap.size, 0, none⟩ (.slice ao6 (j + (S.nc - (j + 1))) cp6))) := (B4Z.out.trans (BC.mono (Nat.le_of_lt zX0))).setCell (Nat.le_refl _) _
      have OX1 : Hid (OwnM (wC.setCell ⟨w4.heap.size, 0, none⟩ (.slice ao6 (j + (S.nc - (j + 1))) cp6)) w''.heap.size 53 5 (.slice y1' (S.nl + 1) z1') (S.nl + 1) (nums S.l (k' * 5) ++ [a, s, 1, pr, un] ++ nums (fun p => S.l (k' * 5 + p)) ((S.nl - k') * 5))) := (OZ.out.later BC).far hz5.out _
      have OC : Hid (OwnM (wC.setCell ⟨w4.heap.size, 0, none⟩ (.slice ao6 (j + (S.nc - (j + 1))) cp6)) X0.heap.size 78 3 (.slice ao6 (j + (S.nc - (j + 1))) cp6) (j + (S.nc - (j + 1))) (nums S.c (j * 3) ++ nums (fun p => S.c ((j + 1) * 3 + p)) ((S.nc - (j + 1)) * 3))) := O8.far zX0 _
      have zX1 : Hid (w''.heap.size ≤ (wC.setCell ⟨w4.heap.size, 0, none⟩ (.slice ao6 (j + (S.nc - (j + 1))) cp6)).heap.size ∧ X0.heap.size ≤ (wC.setCell ⟨w4.heap.size, 0, none⟩ (.slice ao6 (j + (S.nc - (j + 1))) cp6)).heap.size) := by
        have h1 := zZ.out
        have h2 : X0.heap.size ≤ (wC.setCell ⟨w4.heap.size, 0, none⟩ (.slice ao6 (j + (S.nc - (j + 1))) cp6)).heap.size := by simpa [World.setCell] using szC
        exact ⟨by omega, h2⟩
      have hcap6 : j + (S.nc - (j + 1)) ≤ cp6 := O8.capM
      generalize wC.setCell ⟨w4.heap.size, 0, none⟩ (.slice ao6 (j + (S.nc - (j + 1))) cp6) = X1 at YX1 B4X1 RX1 TX1 OX1 OC zX1 ⊢
      clear YZ B4Z RZ TZ OZ F0 F1 F1d F0d F2 O0 C0 C7 O7 G7 O8 G8 keep keepY szC osC TC BC t0 t1 t2 ft0 ft1 ft2 zX0
      have YZ := YX1
      have B4Z := B4X1
      have RZ := RX1
      have TZ := TX1
      have OZ := OX1
      have zZ : Hid (w''.heap.size ≤ X1.heap.size) := zX1.out.1
      clear YX1 B4X1 RX1 TX1 OX1
      refine wpAnyH_done (by kernel_rfl) ?_ _
      obtain ⟨⟨y0, y1, y2, y3, y4⟩, _⟩ := YZ.out
      obtain ⟨⟨r0, r1, r2, r3⟩, f0, f1, f2, f3⟩ := RZ.out
      obtain ⟨⟨t0, t1, t2⟩, ft0, ft1, ft2⟩ := TZ.out
      go_simp
      go_wp2_with fail
      have lenC0 : (nums S.c (j * 3) ++ nums (fun p => S.c ((j + 1) * 3 + p)) ((S.nc - (j + 1)) * 3)).length = (j + (S.nc - (j + 1))) * 3 := by
        rw [List.length_append, nums_length, nums_length]
        omega
      have RC : Hid (Row X1 w3.heap.size 3 (j + (S.nc - (j + 1))) (fun p => (nums S.c (j * 3) ++ nums (fun p => S.c ((j + 1) * 3 + p)) ((S.nc - (j + 1)) * 3)).getD p 0) (.slice ao6 (j + (S.nc - (j + 1))) cp6)) := (OC.out.own lenC0).row.1.mono (by have := hz4.out; have := hz5.out; have := zX1.out.2; omega)
      clear lenC0
      obtain ⟨FC, hFC⟩ : ∃ FC : Nat → Int, (fun p => (nums S.c (j * 3) ++ nums (fun p => S.c ((j + 1) * 3 + p)) ((S.nc - (j + 1)) * 3)).getD p 0) = FC := ⟨_, rfl⟩
      rw [hFC] at RC
      have HF : Hid (∀ p, p < (j + (S.nc - (j + 1))) * 3 → FC p = (unlC S.c a s S.nc).flatten.getD p 0) := fun p hp => by
        rw [← hFC]
        exact (roll_cells hjn p (by omega)).trans (hone.out.2 p (by omega)).symm
      clear hFC OC
      refine (l2AddCell_any (j + (S.nc - (j + 1))) (FC) ao6 cp6 w3.heap.size a s va _ (RC.out) (by omega) hcap6).mono ?_
      rintro e w9 ⟨q', y0', z0', hq', rfl, O9, q9⟩
      have hq1 : Hid (placeAt (aheadC (FC) a s) (j + (S.nc - (j + 1))) q') := hq'
      have R9 : Hid (Blk4 w9 (w.heap.size + 1) (.int .i64 0) (.slice none 0 0) (.slice none 0 0) (.slice none 0 0)) := RZ.out.later q9
      have T9 : Hid (Blk3 w9 w4.heap.size (.slice ao6 (j + (S.nc - (j + 1))) cp6) (.slice y1' (S.nl + 1) z1') (.slice d2 S.nw e2)) := TZ.out.later q9
      have B49 : Hid (Below w4.heap.size w4 w9) := B4Z.out.trans (q9.mono B4Z.out.size)
      have BW9 : Hid (Below w.heap.size w w9) := YZ.out.2.trans (q9.mono YZ.out.2.size)
      have OL9 : Hid (OwnM w9 w''.heap.size 53 5 (.slice y1' (S.nl + 1) z1') (S.nl + 1) (nums S.l (k' * 5) ++ [a, s, 1, pr, un] ++ nums (fun p => S.l (k' * 5 + p)) ((S.nl - k') * 5))) := OZ.out.later q9
      have OC9 : Hid (OwnM w9 X1.heap.size 78 3 (.slice y0' ((j + (S.nc - (j + 1))) + 1) z0') ((j + (S.nc - (j + 1))) + 1) (nums (FC) (q' * 3) ++ [a, s, va] ++ nums (fun p => (FC) (q' * 3 + p)) (((j + (S.nc - (j + 1))) - q') * 3))) := O9
      clear O9 q9 hq' y0 y1 y2 y3 y4 r0 r1 r2 r3 f0 f1 f2 f3 t0 t1 t2 ft0 ft1 ft2
      obtain ⟨⟨t0, t1, t2⟩, ft0, ft1, ft2⟩ := T9.out
      go_upto_region 17 with fail
      have hks : ∀ i, i ≠ w4.heap.size → (w9.setCell ⟨w4.heap.size, 0, none⟩ (.slice y0' ((j + (S.nc - (j + 1))) + 1) z0')).heap[i]? = w9.heap[i]? := fun i hi => Below.heap_setCell w9 ⟨w4.heap.size, 0, none⟩ _ i hi
      have RY : Blk4 (w9.setCell ⟨w4.heap.size, 0, none⟩ (.slice y0' ((j + (S.nc - (j + 1))) + 1) z0')) (w.heap.size + 1) (.int .i64 0) (.slice none 0 0) (.slice none 0 0) (.slice none 0 0) := R9.out.kept (hks _ (by omega))
      have TY : Blk3 (w9.setCell ⟨w4.heap.size, 0, none⟩ (.slice y0' ((j + (S.nc - (j + 1))) + 1) z0')) w4.heap.size (.slice y0' ((j + (S.nc - (j + 1))) + 1) z0') (.slice y1' (S.nl + 1) z1') (.slice d2 S.nw e2) := T9.out.set0 _
      have BY : Hid (Below w.heap.size w (w9.setCell ⟨w4.heap.size, 0, none⟩ (.slice y0' ((j + (S.nc - (j + 1))) + 1) z0'))) := BW9.out.setCell (by show w.heap.size ≤ w4.heap.size; omega) _
      have B4Y : Hid (Below w4.heap.size w4 (w9.setCell ⟨w4.heap.size, 0, none⟩ (.slice y0' ((j + (S.nc - (j + 1))) + 1) z0'))) := B49.out.setCell (Nat.le_refl _) _
      have OLY : Hid (OwnM (w9.setCell ⟨w4.heap.size, 0, none⟩ (.slice y0' ((j + (S.nc - (j + 1))) + 1) z0')) w''.heap.size 53 5 (.slice y1' (S.nl + 1) z1') (S.nl + 1) (nums S.l (k' * 5) ++ [a, s, 1, pr, un] ++ nums (fun p => S.l (k' * 5 + p)) ((S.nl - k') * 5))) := OL9.out.far hz5.out _
      have OCY : Hid (OwnM (w9.setCell ⟨w4.heap.size, 0, none⟩ (.slice y0' ((j + (S.nc - (j + 1))) + 1) z0')) X1.heap.size 78 3 (.slice y0' ((j + (S.nc - (j + 1))) + 1) z0') ((j + (S.nc - (j + 1))) + 1) (nums (FC) (q' * 3) ++ [a, s, va] ++ nums (fun p => (FC) (q' * 3 + p)) (((j + (S.nc - (j + 1))) - q') * 3))) := OC9.out.far (by show w4.heap.size < _; have := hz5.out; have := zZ.out; omega) _
      generalize (w9.setCell ⟨w4.heap.size, 0, none⟩ (.slice y0' ((j + (S.nc - (j + 1))) + 1) z0')) = w8 at RY TY BY B4Y OLY OCY ⊢
      clear hks t0 t1 t2 ft0 ft1 ft2 R9 T9 B49 BW9 OL9 OC9
      obtain ⟨⟨r0, r1, r2, r3⟩, f0, f1, f2, f3⟩ := RY
      obtain ⟨⟨t0, t1, t2⟩, _⟩ := TY
      obtain rfl : k' = k := hk1.out.one HK.out.1
      obtain rfl : q' = q := by
        have hh : placeAt (aheadC (fun p => (unlC S.c a s S.nc).flatten.getD p 0) a s) (j + (S.nc - (j + 1))) q' := placeC_same HF.out hq1.out
        have h3 := HK.out.2
        rw [show (unlC S.c a s S.nc).length = j + (S.nc - (j + 1)) by have : (unlC S.c a s S.nc).length = S.nc - 1 := hone.out.1; omega] at h3
        exact hh.one h3
      have lenL : (nums S.l (k' * 5) ++ [a, s, 1, pr, un] ++ nums (fun p => S.l (k' * 5 + p)) ((S.nl - k') * 5)).length = (S.nl + 1) * 5 := by
        have := hk1.out.1
        rw [List.length_append, List.length_append, nums_length, nums_length]
        simp only [List.length_cons, List.length_nil]
        omega
      have lenC : (nums (FC) (q' * 3) ++ [a, s, va] ++ nums (fun p => (FC) (q' * 3 + p)) (((j + (S.nc - (j + 1))) - q') * 3)).length = ((j + (S.nc - (j + 1))) + 1) * 3 := by
        have := hq1.out.1
        rw [List.length_append, List.length_append, nums_length, nums_length]
        simp only [List.length_cons, List.length_nil]
        omega
      have HL8 : Hid (_ ∧ _) := (OLY.out.own lenL).row
      have HC8 : Hid (_ ∧ _) := (OCY.out.own lenC).row
      clear lenL lenC
      go_wp2
      have hN : (unlC S.c a s S.nc).length = j + (S.nc - (j + 1)) := by
        have : (unlC S.c a s S.nc).length = S.nc - 1 := hone.out.1
        omega
      have rC : Row w8 w3.heap.size 3 (j + (S.nc - (j + 1)) + 1) (insF (fun p => (unlC S.c a s S.nc).flatten.getD p 0) 3 (j + (S.nc - (j + 1))) q' [a, s, va]) (.slice y0' (j + (S.nc - (j + 1)) + 1) z0') := (HC8.out.1.congr (fun p hp => insF_flat (HF.out) hq1.out.1 p hp)).mono (by have := hz4.out; have := hz5.out; have := zX1.out; omega)
      have S8 : St w8 w3.heap.size (reputS S k' q' a s pr un va) (.slice y0' (j + (S.nc - (j + 1)) + 1) z0') (.slice y1' (S.nl + 1) z1') (.slice d2 S.nw e2) := by
        unfold reputS
        rw [hN]
        exact ⟨rC, HL8.out.1.mono (by have := hz4.out; have := hz5.out; omega), HS.out.1.1.2.2.later B4Y.out⟩
      have F8 : FreeS w8 (reputS S k' q' a s pr un va) (.slice y0' (j + (S.nc - (j + 1)) + 1) z0') (.slice y1' (S.nl + 1) z1') (.slice d2 S.nw e2) := by
        unfold reputS
        rw [hN]
        exact ⟨HC8.out.2, HL8.out.2, HS.out.1.2.2.2.ofRow HS.out.1.1.2.2 B4Y.out⟩
      have A8 : ApartD (reputS S k' q' a s pr un va) (.slice y0' (j + (S.nc - (j + 1)) + 1) z0') (.slice y1' (S.nl + 1) z1') (.slice d2 S.nw e2) := by
        have hi0 : ∀ q, (Value.slice y0' (j + (S.nc - (j + 1)) + 1) z0').ownBlock = some q → X1.heap.size ≤ q := fun q hq => (OCY.out.block q hq).1
        have hi1 := hobL.out
        refine ⟨fun _ _ e => ?_, fun _ hb e => ?_, fun _ hb e => ?_⟩
        · obtain ⟨g, o, hg, _⟩ := HC8.out.1.at (k := 0) (by omega)
          have h0 : (Value.slice y0' (j + (S.nc - (j + 1)) + 1) z0').ownBlock = some g := by rw [hg]; rfl
          have := hi0 g h0; have := (hi1 g (e ▸ h0)).2; have := zX1.out; omega
        · obtain ⟨g, o, hg, _⟩ := HC8.out.1.at (k := 0) (by omega)
          have h0 : (Value.slice y0' (j + (S.nc - (j + 1)) + 1) z0').ownBlock = some g := by rw [hg]; rfl
          have := hi0 g h0; have := (HS.out.1.1.2.2.lt hb g (e ▸ h0)).2; have := zX1.out; have := hz5.out; omega
        · obtain ⟨g, o, hg, _⟩ := HL8.out.1.at (k := 0) (by omega)
          have h0 : (Value.slice y1' (S.nl + 1) z1').ownBlock = some g := by rw [hg]; rfl
          have := (hi1 g h0).1; have := (HS.out.1.1.2.2.lt hb g (e ▸ h0)).2; have := hz5.out; omega
      have hlo : (w.heap.size + 1 : Nat) < w3.heap.size := by have := hz3.out; omega
      have hcl' : (reputS S k' q' a s pr un va).nc = j + (S.nc - (j + 1)) + 1 := by show (unlC S.c a s S.nc).length + 1 = _; rw [hN]
      refine bodyPost_ret (v := .agg #[.int .i64 0, .slice y0' (j + (S.nc - (j + 1)) + 1) z0', .slice y1' (S.nl + 1) z1', .slice d2 S.nw e2]) (by simp [results, Tryz.results21, go_sem, r0, r1, r2, r3]) rfl ?_
      refine ⟨y0', z0', y1', z1', d2, e2, ?_, ?_, (((BY.out.setCell (Nat.le_succ _) _).setCell (Nat.le_succ _) _).setCell (Nat.le_succ _) _).setCell (Nat.le_succ _) _⟩
      · rw [hcl']; rfl
      · rw [hcl']
        exact ⟨((((S8.far hlo _).far hlo _).far hlo _).far hlo _).mono (by omega), (((F8.far _ _).far _ _).far _ _).far _ _, A8⟩
  · go_simp
    refine hK.out _ _ trivial (fun hS => ?_)
    clear hK K
    refine wpAnyH_take (i := 4) (v := ?_) rfl (by kernel_rfl) (by kernel_rfl) (by kernel_rfl) (fun _ _ _ h => h) (Or.inl ⟨by kernel_rfl, ?_⟩) hS ?_
    rotate_left
    · intro wx hx
      go_simp
      try with_reducible rfl
    refine wpAnyH_ready (rs := [0, 7]) (by kernel_rfl) (by simp) ?_
    refine AllReadyH.cons rfl (fun K hK => ?_) (AllReadyH.cons rfl (fun K hK => ?_) AllReadyH.nil)
    · go_simp
      refine hK.out _ _ trivial (fun hS => ?_)
      clear hK K
      refine wpAnyH_ready (rs := [5, 7]) (by kernel_rfl) (by simp) ?_
      refine AllReadyH.cons rfl (fun K hK => ?_) (AllReadyH.cons rfl (fun K hK => ?_) AllReadyH.nil)
      · refine step_app 78 i0 (.agg #[.int .i64 0, .int .i64 0, .int .i64 0]) 3 24 (by rfl) _ _ 28 (by rfl) Tryz.underlying28 hi0 hz0 hz1 hz2 rfl (by omega) (by omega) _ X0.heap.size 0 [] (.slice (some ⟨X0.heap.size, 0, none⟩) 0 0) (by rfl) O0.out w3.heap.size j S.c (.slice (some ⟨cg, co, none⟩) j e0) (by rfl) (C0.out.head hj4 e0) (by omega) (by show X0.heap.size ≤ (World.alloc X0 _).heap.size; simp) ?_
        intro ao5 cp5 w7 O7 G7
        rw [Nat.zero_add, List.nil_append] at O7
        rw [show (0 : Nat) + j = j from Nat.zero_add j]
        have F2 : w7.cell? ⟨w4.heap.size, 0, none⟩ = some (.slice (some ⟨cg, co, none⟩) S.nc e0) := G7.cell F1 (fun q => by simp [Value.ownBlock] at q; omega)
        refine hK.out _ _ trivial (fun hS => ?_)
        clear hK K
        refine wpAnyH_ready (rs := [7]) (by kernel_rfl) (by simp) ?_
        refine AllReadyH.cons rfl (fun K hK => ?_) AllReadyH.nil
        go_simp
        refine hK.out _ _ trivial (fun hS => ?_)
        clear hK K
        refine wpAnyH_take (i := 10) (v := ?_) rfl (by kernel_rfl) (by kernel_rfl) (by kernel_rfl) (fun _ _ _ h => h) (Or.inl ⟨by kernel_rfl, ?_⟩) hS ?_
        rotate_left
        · intro wx hx
          go_simp
          try with_reducible rfl
        have C7 : Hid (Row w7 w3.heap.size 3 S.nc S.c (.slice (some ⟨cg, co, none⟩) S.nc e0)) := C0.out.turned G7 (fun h0 k hk q => by
          have h1 := (HS.out.1.1.1.lt h0 k hk).2
          rw [q] at hk
          simp [Value.ownBlock] at hk q
          omega)
        refine wpAnyH_ready (rs := [11]) (by kernel_rfl) (by simp) ?_
        refine AllReadyH.cons rfl (fun K hK => ?_) AllReadyH.nil
        refine step_app 78 i0 (.agg #[.int .i64 0, .int .i64 0, .int .i64 0]) 3 24 (by rfl) _ _ 28 (by rfl) Tryz.underlying28 hi0 hz0 hz1 hz2 rfl (by omega) (by omega) _ X0.heap.size j (nums S.c (j * 3)) (.slice ao5 j cp5) (by rfl) O7 w3.heap.size (S.nc - (j + 1)) (fun p => S.c ((j + 1) * 3 + p)) (.slice A (S.nc - (j + 1)) (e0 - (j + 1))) (by rfl) (hA ▸ C7.out.tailR (j + 1) g0) (by omega) (Nat.le_trans (by show X0.heap.size ≤ (World.alloc X0 _).heap.size; simp) G7.size) ?_
        intro ao6 cp6 wC O8 G8
        have keep : ∀ q, q < X0.heap.size → wC.heap[q]? = X0.heap[q]? := fun q hq => by
          have h1 : (X0.alloc (.cells #[] 78)).drew.heap[q]? = X0.heap[q]? := (below_alloc X0 (.cells #[] 78)).block q hq
          have h2 : w7.heap[q]? = (X0.alloc (.cells #[] 78)).drew.heap[q]? := G7.block q (by show q < (World.alloc X0 _).heap.size; simp; omega) (fun e => by simp [Value.ownBlock] at e; omega)
          have h3 : wC.heap[q]? = w7.heap[q]? := G8.block q (Nat.lt_of_lt_of_le (by show q < (World.alloc X0 _).heap.size; simp; omega) G7.size) (fun e => by have := (O7.block q e.symm).1; omega)
          exact h3.trans (h2.trans h1)
        have szC : X0.heap.size ≤ wC.heap.size := Nat.le_trans (Nat.le_trans (by show X0.heap.size ≤ (World.alloc X0 _).heap.size; simp) G7.size) G8.size
        have osC : wC.os = X0.os ∧ wC.tape = X0.tape ∧ wC.output = X0.output := ⟨G8.os.trans G7.os, G8.tape.trans G7.tape, G8.output.trans G7.output⟩
        have TC : Blk3 wC w4.heap.size (.slice (some ⟨cg, co, none⟩) S.nc e0) (.slice y1' (S.nl + 1) z1') (.slice d2 S.nw e2) := TZ.out.kept (keep _ zX0)
        refine hK.out _ _ trivial (fun hS => ?_)
        clear hK K
        refine wpAnyH_take (i := 12) (v := ?_) rfl (by kernel_rfl) (by kernel_rfl) (by kernel_rfl) (fun _ _ _ h => h) (Or.inl ⟨by kernel_rfl, ?_⟩) hS ?_
        rotate_left
        · intro wx hx
          go_simp
          try with_reducible rfl
        obtain ⟨⟨t0, t1, t2⟩, ft0, ft1, ft2⟩ := TC
        refine wpAnyH_ready (rs := [13]) (by kernel_rfl) (by simp) ?_
        refine AllReadyH.cons rfl (fun K hK => ?_) AllReadyH.nil
        go_simp
        refine hK.out _ _ trivial (fun hS => ?_)
        clear hK K
        have TC : Blk3 wC w4.heap.size (.slice (some ⟨cg, co, none⟩) S.nc e0) (.slice y1' (S.nl + 1) z1') (.slice d2 S.nw e2) := TZ.out.kept (keep _ zX0)
        have BC : Below X0.heap.size X0 wC := ⟨osC.1, osC.2.1, osC.2.2, szC, keep⟩
        have keepY : ∀ i, i < X0.heap.size → i ≠ w4.heap.size → (wC.setCell ⟨w4.heap.size, 0, none⟩ (.slice ao6 (j + (S.nc - (j + 1))) cp6)).heap[i]? = X0.heap[i]? := fun i hi hne => (Below.heap_setCell wC ⟨w4.heap.size, 0, none⟩ _ i hne).trans (keep i hi)
        have hx0 : w4.heap.size < X0.heap.size := zX0
        have YX1 : Hid (LkE w a s 1 pr un (wC.setCell ⟨w4.heap.size, 0, none⟩ (.slice ao6 (j + (S.nc - (j + 1))) cp6))) := ⟨⟨(cell_kept (keepY _ (by omega) (by omega)) 0).trans YZ.out.1.1, (cell_kept (keepY _ (by omega) (by omega)) 1).trans YZ.out.1.2.1, (cell_kept (keepY _ (by omega) (by omega)) 2).trans YZ.out.1.2.2.1, (cell_kept (keepY _ (by omega) (by omega)) 3).trans YZ.out.1.2.2.2.1, (cell_kept (keepY _ (by omega) (by omega)) 4).trans YZ.out.1.2.2.2.2⟩, (YZ.out.2.trans (BC.mono YZ.out.2.size)).setCell (by show w.heap.size ≤ w4.heap.size; omega) _⟩
        have RX1 : Hid (Blk4 (wC.setCell ⟨w4.heap.size, 0, none⟩ (.slice ao6 (j + (S.nc - (j + 1))) cp6)) (w.heap.size + 1) (.int .i64 0) (.slice none 0 0) (.slice none 0 0) (.slice none 0 0)) := RZ.out.kept (keepY _ (by omega) (by omega))
        have TX1 : Hid (Blk3 (wC.setCell ⟨w4.heap.size, 0, none⟩ (.slice ao6 (j + (S.nc - (j + 1))) cp6)) w4.heap.size (.slice ao6 (j + (S.nc - (j + 1))) cp6) (.slice y1' (S.nl + 1) z1') (.slice d2 S.nw e2)) := TC.set0 _
        have B4X1 : Hid (Below w4.heap.size w4 (wC.setCell ⟨w4.heap.size, 0, none⟩ (.slice ao6 (j + (S.nc - (j + 1))) cp6))) := (B4Z.out.trans (BC.mono (Nat.le_of_lt zX0))).setCell (Nat.le_refl _) _
        have OX1 : Hid (OwnM (wC.setCell ⟨w4.heap.size, 0, none⟩ (.slice ao6 (j + (S.nc - (j + 1))) cp6)) w''.heap.size 53 5 (.slice y1' (S.nl + 1) z1') (S.nl + 1) (nums S.l (k' * 5) ++ [a, s, 1, pr, un] ++ nums (fun p => S.l (k' * 5 + p)) ((S.nl - k') * 5))) := (OZ.out.later BC).far hz5.out _
        have OC : Hid (OwnM (wC.setCell ⟨w4.heap.size, 0, none⟩ (.slice ao6 (j + (S.nc - (j + 1))) cp6)) X0.heap.size 78 3 (.slice ao6 (j + (S.nc - (j + 1))) cp6) (j + (S.nc - (j + 1))) (nums S.c (j * 3) ++ nums (fun p => S.c ((j + 1) * 3 + p)) ((S.nc - (j + 1)) * 3))) := O8.far zX0 _
        have zX1 : Hid (w''.heap.size ≤ (wC.setCell ⟨w4.heap.size, 0, none⟩ (.slice ao6 (j + (S.nc - (j + 1))) cp6)).heap.size ∧ X0.heap.size ≤ (wC.setCell ⟨w4.heap.size, 0, none⟩ (.slice ao6 (j + (S.nc - (j + 1))) cp6)).heap.size) := by
          have h1 := zZ.out
          have h2 : X0.heap.size ≤ (wC.setCell ⟨w4.heap.size, 0, none⟩ (.slice ao6 (j + (S.nc - (j + 1))) cp6)).heap.size := by simpa [World.setCell] using szC
          exact ⟨by omega, h2⟩
        have hcap6 : j + (S.nc - (j + 1)) ≤ cp6 := O8.capM
        generalize wC.setCell ⟨w4.heap.size, 0, none⟩ (.slice ao6 (j + (S.nc - (j + 1))) cp6) = X1 at YX1 B4X1 RX1 TX1 OX1 OC zX1 ⊢
        clear YZ B4Z RZ TZ OZ F0 F1 F1d F0d F2 O0 C0 C7 O7 G7 O8 G8 keep keepY szC osC TC BC t0 t1 t2 ft0 ft1 ft2 zX0
        have YZ := YX1
        have B4Z := B4X1
        have RZ := RX1
        have TZ := TX1
        have OZ := OX1
        have zZ : Hid (w''.heap.size ≤ X1.heap.size) := zX1.out.1
        clear YX1 B4X1 RX1 TX1 OX1
        refine wpAnyH_done (by kernel_rfl) ?_ _
        obtain ⟨⟨y0, y1, y2, y3, y4⟩, _⟩ := YZ.out
        obtain ⟨⟨r0, r1, r2, r3⟩, f0, f1, f2, f3⟩ := RZ.out
        obtain ⟨⟨t0, t1, t2⟩, ft0, ft1, ft2⟩ := TZ.out
        go_simp
        go_wp2_with fail
        have lenC0 : (nums S.c (j * 3) ++ nums (fun p => S.c ((j + 1) * 3 + p)) ((S.nc - (j + 1)) * 3)).length = (j + (S.nc - (j + 1))) * 3 := by
          rw [List.length_append, nums_length, nums_length]
          omega
        have RC : Hid (Row X1 w3.heap.size 3 (j + (S.nc - (j + 1))) (fun p => (nums S.c (j * 3) ++ nums (fun p => S.c ((j + 1) * 3 + p)) ((S.nc - (j + 1)) * 3)).getD p 0) (.slice ao6 (j + (S.nc - (j + 1))) cp6)) := (OC.out.own lenC0).row.1.mono (by have := hz4.out; have := hz5.out; have := zX1.out.2; omega)
        clear lenC0
        obtain ⟨FC, hFC⟩ : ∃ FC : Nat → Int, (fun p => (nums S.c (j * 3) ++ nums (fun p => S.c ((j + 1) * 3 + p)) ((S.nc - (j + 1)) * 3)).getD p 0) = FC := ⟨_, rfl⟩
        rw [hFC] at RC
        have HF : Hid (∀ p, p < (j + (S.nc - (j + 1))) * 3 → FC p = (unlC S.c a s S.nc).flatten.getD p 0) := fun p hp => by
          rw [← hFC]
          exact (roll_cells hjn p (by omega)).trans (hone.out.2 p (by omega)).symm
        clear hFC OC
        refine (l2AddCell_any (j + (S.nc - (j + 1))) (FC) ao6 cp6 w3.heap.size a s va _ (RC.out) (by omega) hcap6).mono ?_
        rintro e w9 ⟨q', y0', z0', hq', rfl, O9, q9⟩
        have hq1 : Hid (placeAt (aheadC (FC) a s) (j + (S.nc - (j + 1))) q') := hq'
        have R9 : Hid (Blk4 w9 (w.heap.size + 1) (.int .i64 0) (.slice none 0 0) (.slice none 0 0) (.slice none 0 0)) := RZ.out.later q9
        have T9 : Hid (Blk3 w9 w4.heap.size (.slice ao6 (j + (S.nc - (j + 1))) cp6) (.slice y1' (S.nl + 1) z1') (.slice d2 S.nw e2)) := TZ.out.later q9
        have B49 : Hid (Below w4.heap.size w4 w9) := B4Z.out.trans (q9.mono B4Z.out.size)
        have BW9 : Hid (Below w.heap.size w w9) := YZ.out.2.trans (q9.mono YZ.out.2.size)
        have OL9 : Hid (OwnM w9 w''.heap.size 53 5 (.slice y1' (S.nl + 1) z1') (S.nl + 1) (nums S.l (k' * 5) ++ [a, s, 1, pr, un] ++ nums (fun p => S.l (k' * 5 + p)) ((S.nl - k') * 5))) := OZ.out.later q9
        have OC9 : Hid (OwnM w9 X1.heap.size 78 3 (.slice y0' ((j + (S.nc - (j + 1))) + 1) z0') ((j + (S.nc - (j + 1))) + 1) (nums (FC) (q' * 3) ++ [a, s, va] ++ nums (fun p => (FC) (q' * 3 + p)) (((j + (S.nc - (j + 1))) - q') * 3))) := O9
        clear O9 q9 hq' y0 y1 y2 y3 y4 r0 r1 r2 r3 f0 f1 f2 f3 t0 t1 t2 ft0 ft1 ft2
        obtain ⟨⟨t0, t1, t2⟩, ft0, ft1, ft2⟩ := T9.out
        go_upto_region 17 with fail
        have hks : ∀ i, i ≠ w4.heap.size → (w9.setCell ⟨w4.heap.size, 0, none⟩ (.slice y0' ((j + (S.nc - (j + 1))) + 1) z0')).heap[i]? = w9.heap[i]? := fun i hi => Below.heap_setCell w9 ⟨w4.heap.size, 0, none⟩ _ i hi
        have RY : Blk4 (w9.setCell ⟨w4.heap.size, 0, none⟩ (.slice y0' ((j + (S.nc - (j + 1))) + 1) z0')) (w.heap.size + 1) (.int .i64 0) (.slice none 0 0) (.slice none 0 0) (.slice none 0 0) := R9.out.kept (hks _ (by omega))
        have TY : Blk3 (w9.setCell ⟨w4.heap.size, 0, none⟩ (.slice y0' ((j + (S.nc - (j + 1))) + 1) z0')) w4.heap.size (.slice y0' ((j + (S.nc - (j + 1))) + 1) z0') (.slice y1' (S.nl + 1) z1') (.slice d2 S.nw e2) := T9.out.set0 _
        have BY : Hid (Below w.heap.size w (w9.setCell ⟨w4.heap.size, 0, none⟩ (.slice y0' ((j + (S.nc - (j + 1))) + 1) z0'))) := BW9.out.setCell (by show w.heap.size ≤ w4.heap.size; omega) _
        have B4Y : Hid (Below w4.heap.size w4 (w9.setCell ⟨w4.heap.size, 0, none⟩ (.slice y0' ((j + (S.nc - (j + 1))) + 1) z0'))) := B49.out.setCell (Nat.le_refl _) _
        have OLY : Hid (OwnM (w9.setCell ⟨w4.heap.size, 0, none⟩ (.slice y0' ((j + (S.nc - (j + 1))) + 1) z0')) w''.heap.size 53 5 (.slice y1' (S.nl + 1) z1') (S.nl + 1) (nums S.l (k' * 5) ++ [a, s, 1, pr, un] ++ nums (fun p => S.l (k' * 5 + p)) ((S.nl - k') * 5))) := OL9.out.far hz5.out _
        have OCY : Hid (OwnM (w9.setCell ⟨w4.heap.size, 0, none⟩ (.slice y0' ((j + (S.nc - (j + 1))) + 1) z0')) X1.heap.size 78 3 (.slice y0' ((j + (S.nc - (j + 1))) + 1) z0') ((j + (S.nc - (j + 1))) + 1) (nums (FC) (q' * 3) ++ [a, s, va] ++ nums (fun p => (FC) (q' * 3 + p)) (((j + (S.nc - (j + 1))) - q') * 3))) := OC9.out.far (by show w4.heap.size < _; have := hz5.out; have := zZ.out; omega) _
        generalize (w9.setCell ⟨w4.heap.size, 0, none⟩ (.slice y0' ((j + (S.nc - (j + 1))) + 1) z0')) = w8 at RY TY BY B4Y OLY OCY ⊢
        clear hks t0 t1 t2 ft0 ft1 ft2 R9 T9 B49 BW9 OL9 OC9
        obtain ⟨⟨r0, r1, r2, r3⟩, f0, f1, f2, f3⟩ := RY
        obtain ⟨⟨t0, t1, t2⟩, _⟩ := TY
        obtain rfl : k' = k := hk1.out.one HK.out.1
        obtain rfl : q' = q := by
          have hh : placeAt (aheadC (fun p => (unlC S.c a s S.nc).flatten.getD p 0) a s) (j + (S.nc - (j + 1))) q' := placeC_same HF.out hq1.out
          have h3 := HK.out.2
          rw [show (unlC S.c a s S.nc).length = j + (S.nc - (j + 1)) by have : (unlC S.c a s S.nc).length = S.nc - 1 := hone.out.1; omega] at h3
          exact hh.one h3
        have lenL : (nums S.l (k' * 5) ++ [a, s, 1, pr, un] ++ nums (fun p => S.l (k' * 5 + p)) ((S.nl - k') * 5)).length = (S.nl + 1) * 5 := by
          have := hk1.out.1
          rw [List.length_append, List.length_append, nums_length, nums_length]
          simp only [List.length_cons, List.length_nil]
          omega
        have lenC : (nums (FC) (q' * 3) ++ [a, s, va] ++ nums (fun p => (FC) (q' * 3 + p)) (((j + (S.nc - (j + 1))) - q') * 3)).length = ((j + (S.nc - (j + 1))) + 1) * 3 := by
          have := hq1.out.1
          rw [List.length_append, List.length_append, nums_length, nums_length]
          simp only [List.length_cons, List.length_nil]
          omega
        have HL8 : Hid (_ ∧ _) := (OLY.out.own lenL).row
        have HC8 : Hid (_ ∧ _) := (OCY.out.own lenC).row
        clear lenL lenC
        go_wp2
        have hN : (unlC S.c a s S.nc).length = j + (S.nc - (j + 1)) := by
          have : (unlC S.c a s S.nc).length = S.nc - 1 := hone.out.1
          omega
        have rC : Row w8 w3.heap.size 3 (j + (S.nc - (j + 1)) + 1) (insF (fun p => (unlC S.c a s S.nc).flatten.getD p 0) 3 (j + (S.nc - (j + 1))) q' [a, s, va]) (.slice y0' (j + (S.nc - (j + 1)) + 1) z0') := (HC8.out.1.congr (fun p hp => insF_flat (HF.out) hq1.out.1 p hp)).mono (by have := hz4.out; have := hz5.out; have := zX1.out; omega)
        have S8 : St w8 w3.heap.size (reputS S k' q' a s pr un va) (.slice y0' (j + (S.nc - (j + 1)) + 1) z0') (.slice y1' (S.nl + 1) z1') (.slice d2 S.nw e2) := by
          unfold reputS
          rw [hN]
          exact ⟨rC, HL8.out.1.mono (by have := hz4.out; have := hz5.out; omega), HS.out.1.1.2.2.later B4Y.out⟩
        have F8 : FreeS w8 (reputS S k' q' a s pr un va) (.slice y0' (j + (S.nc - (j + 1)) + 1) z0') (.slice y1' (S.nl + 1) z1') (.slice d2 S.nw e2) := by
          unfold reputS
          rw [hN]
          exact ⟨HC8.out.2, HL8.out.2, HS.out.1.2.2.2.ofRow HS.out.1.1.2.2 B4Y.out⟩
        have A8 : ApartD (reputS S k' q' a s pr un va) (.slice y0' (j + (S.nc - (j + 1)) + 1) z0') (.slice y1' (S.nl + 1) z1') (.slice d2 S.nw e2) := by
          have hi0 : ∀ q, (Value.slice y0' (j + (S.nc - (j + 1)) + 1) z0').ownBlock = some q → X1.heap.size ≤ q := fun q hq => (OCY.out.block q hq).1
          have hi1 := hobL.out
          refine ⟨fun _ _ e => ?_, fun _ hb e => ?_, fun _ hb e => ?_⟩
          · obtain ⟨g, o, hg, _⟩ := HC8.out.1.at (k := 0) (by omega)
            have h0 : (Value.slice y0' (j + (S.nc - (j + 1)) + 1) z0').ownBlock = some g := by rw [hg]; rfl
            have := hi0 g h0; have := (hi1 g (e ▸ h0)).2; have := zX1.out; omega
          · obtain ⟨g, o, hg, _⟩ := HC8.out.1.at (k := 0) (by omega)
            have h0 : (Value.slice y0' (j + (S.nc - (j + 1)) + 1) z0').ownBlock = some g := by rw [hg]; rfl
            have := hi0 g h0; have := (HS.out.1.1.2.2.lt hb g (e ▸ h0)).2; have := zX1.out; have := hz5.out; omega
          · obtain ⟨g, o, hg, _⟩ := HL8.out.1.at (k := 0) (by omega)
            have h0 : (Value.slice y1' (S.nl + 1) z1').ownBlock = some g := by rw [hg]; rfl
            have := (hi1 g h0).1; have := (HS.out.1.1.2.2.lt hb g (e ▸ h0)).2; have := hz5.out; omega
        have hlo : (w.heap.size + 1 : Nat) < w3.heap.size := by have := hz3.out; omega
        have hcl' : (reputS S k' q' a s pr un va).nc = j + (S.nc - (j + 1)) + 1 := by show (unlC S.c a s S.nc).length + 1 = _; rw [hN]
        refine bodyPost_ret (v := .agg #[.int .i64 0, .slice y0' (j + (S.nc - (j + 1)) + 1) z0', .slice y1' (S.nl + 1) z1', .slice d2 S.nw e2]) (by simp [results, Tryz.results21, go_sem, r0, r1, r2, r3]) rfl ?_
        refine ⟨y0', z0', y1', z1', d2, e2, ?_, ?_, (((BY.out.setCell (Nat.le_succ _) _).setCell (Nat.le_succ _) _).setCell (Nat.le_succ _) _).setCell (Nat.le_succ _) _⟩
        · rw [hcl']; rfl
        · rw [hcl']
          exact ⟨((((S8.far hlo _).far hlo _).far hlo _).far hlo _).mono (by omega), (((F8.far _ _).far _ _).far _ _).far _ _, A8⟩
      · go_simp
        refine hK.out _ _ trivial (fun hS => ?_)
        clear hK K
        refine wpAnyH_take (i := 10) (v := ?_) rfl (by kernel_rfl) (by kernel_rfl) (by kernel_rfl) (fun _ _ _ h => h) (Or.inl ⟨by kernel_rfl, ?_⟩) hS ?_
        rotate_left
        · intro wx hx
          go_simp
          try with_reducible rfl
        refine wpAnyH_ready (rs := [5]) (by kernel_rfl) (by simp) ?_
        refine AllReadyH.cons rfl (fun K hK => ?_) AllReadyH.nil
        refine step_app 78 i0 (.agg #[.int .i64 0, .int .i64 0, .int .i64 0]) 3 24 (by rfl) _ _ 28 (by rfl) Tryz.underlying28 hi0 hz0 hz1 hz2 rfl (by omega) (by omega) _ X0.heap.size 0 [] (.slice (some ⟨X0.heap.size, 0, none⟩) 0 0) (by rfl) O0.out w3.heap.size j S.c (.slice (some ⟨cg, co, none⟩) j e0) (by rfl) (C0.out.head hj4 e0) (by omega) (by show X0.heap.size ≤ (World.alloc X0 _).heap.size; simp) ?_
        intro ao5 cp5 w7 O7 G7
        rw [Nat.zero_add, List.nil_append] at O7
        rw [show (0 : Nat) + j = j from Nat.zero_add j]
        have F2 : w7.cell? ⟨w4.heap.size, 0, none⟩ = some (.slice (some ⟨cg, co, none⟩) S.nc e0) := G7.cell F1 (fun q => by simp [Value.ownBlock] at q; omega)
        refine hK.out _ _ trivial (fun hS => ?_)
        clear hK K
        have C7 : Hid (Row w7 w3.heap.size 3 S.nc S.c (.slice (some ⟨cg, co, none⟩) S.nc e0)) := C0.out.turned G7 (fun h0 k hk q => by
          have h1 := (HS.out.1.1.1.lt h0 k hk).2
          rw [q] at hk
          simp [Value.ownBlock] at hk q
          omega)
        refine wpAnyH_ready (rs := [11]) (by kernel_rfl) (by simp) ?_
        refine AllReadyH.cons rfl (fun K hK => ?_) AllReadyH.nil
        refine step_app 78 i0 (.agg #[.int .i64 0, .int .i64 0, .int .i64 0]) 3 24 (by rfl) _ _ 28 (by rfl) Tryz.underlying28 hi0 hz0 hz1 hz2 rfl (by omega) (by omega) _ X0.heap.size j (nums S.c (j * 3)) (.slice ao5 j cp5) (by rfl) O7 w3.heap.size (S.nc - (j + 1)) (fun p => S.c ((j + 1) * 3 + p)) (.slice A (S.nc - (j + 1)) (e0 - (j + 1))) (by rfl) (hA ▸ C7.out.tailR (j + 1) g0) (by omega) (Nat.le_trans (by show X0.heap.size ≤ (World.alloc X0 _).heap.size; simp) G7.size) ?_
        intro ao6 cp6 wC O8 G8
        have keep : ∀ q, q < X0.heap.size → wC.heap[q]? = X0.heap[q]? := fun q hq => by
          have h1 : (X0.alloc (.cells #[] 78)).drew.heap[q]? = X0.heap[q]? := (below_alloc X0 (.cells #[] 78)).block q hq
          have h2 : w7.heap[q]? = (X0.alloc (.cells #[] 78)).drew.heap[q]? := G7.block q (by show q < (World.alloc X0 _).heap.size; simp; omega) (fun e => by simp [Value.ownBlock] at e; omega)
          have h3 : wC.heap[q]? = w7.heap[q]? := G8.block q (Nat.lt_of_lt_of_le (by show q < (World.alloc X0 _).heap.size; simp; omega) G7.size) (fun e => by have := (O7.block q e.symm).1; omega)
          exact h3.trans (h2.trans h1)
        have szC : X0.heap.size ≤ wC.heap.size := Nat.le_trans (Nat.le_trans (by show X0.heap.size ≤ (World.alloc X0 _).heap.size; simp) G7.size) G8.size
        have osC : wC.os = X0.os ∧ wC.tape = X0.tape ∧ wC.output = X0.output := ⟨G8.os.trans G7.os, G8.tape.trans G7.tape, G8.output.trans G7.output⟩
        have TC : Blk3 wC w4.heap.size (.slice (some ⟨cg, co, none⟩) S.nc e0) (.slice y1' (S.nl + 1) z1') (.slice d2 S.nw e2) := TZ.out.kept (keep _ zX0)
        refine hK.out _ _ trivial (fun hS => ?_)
        clear hK K
        refine wpAnyH_take (i := 12) (v := ?_) rfl (by kernel_rfl) (by kernel_rfl) (by kernel_rfl) (fun _ _ _ h => h) (Or.inl ⟨by kernel_rfl, ?_⟩) hS ?_
        rotate_left
        · intro wx hx
          go_simp
          try with_reducible rfl
        obtain ⟨⟨t0, t1, t2⟩, ft0, ft1, ft2⟩ := TC
        refine wpAnyH_ready (rs := [13]) (by kernel_rfl) (by simp) ?_
        refine AllReadyH.cons rfl (fun K hK => ?_) AllReadyH.nil
        go_simp
        refine hK.out _ _ trivial (fun hS => ?_)
        clear hK K
        have TC : Blk3 wC w4.heap.size (.slice (some ⟨cg, co, none⟩) S.nc e0) (.slice y1' (S.nl + 1) z1') (.slice d2 S.nw e2) := TZ.out.kept (keep _ zX0)
        have BC : Below X0.heap.size X0 wC := ⟨osC.1, osC.2.1, osC.2.2, szC, keep⟩
        have keepY : ∀ i, i < X0.heap.size → i ≠ w4.heap.size → (wC.setCell ⟨w4.heap.size, 0, none⟩ (.slice ao6 (j + (S.nc - (j + 1))) cp6)).heap[i]? = X0.heap[i]? := fun i hi hne => (Below.heap_setCell wC ⟨w4.heap.size, 0, none⟩ _ i hne).trans (keep i hi)
        have hx0 : w4.heap.size < X0.heap.size := zX0
        have YX1 : Hid (LkE w a s 1 pr un (wC.setCell ⟨w4.heap.size, 0, none⟩ (.slice ao6 (j + (S.nc - (j + 1))) cp6))) := ⟨⟨(cell_kept (keepY _ (by omega) (by omega)) 0).trans YZ.out.1.1, (cell_kept (keepY _ (by omega) (by omega)) 1).trans YZ.out.1.2.1, (cell_kept (keepY _ (by omega) (by omega)) 2).trans YZ.out.1.2.2.1, (cell_kept (keepY _ (by omega) (by omega)) 3).trans YZ.out.1.2.2.2.1, (cell_kept (keepY _ (by omega) (by omega)) 4).trans YZ.out.1.2.2.2.2⟩, (YZ.out.2.trans (BC.mono YZ.out.2.size)).setCell (by show w.heap.size ≤ w4.heap.size; omega) _⟩
        have RX1 : Hid (Blk4 (wC.setCell ⟨w4.heap.size, 0, none⟩ (.slice ao6 (j + (S.nc - (j + 1))) cp6)) (w.heap.size + 1) (.int .i64 0) (.slice none 0 0) (.slice none 0 0) (.slice none 0 0)) := RZ.out.kept (keepY _ (by omega) (by omega))
        have TX1 : Hid (Blk3 (wC.setCell ⟨w4.heap.size, 0, none⟩ (.slice ao6 (j + (S.nc - (j + 1))) cp6)) w4.heap.size (.slice ao6 (j + (S.nc - (j + 1))) cp6) (.slice y1' (S.nl + 1) z1') (.slice d2 S.nw e2)) := TC.set0 _
        have B4X1 : Hid (Below w4.heap.size w4 (wC.setCell ⟨w4.heap.size, 0, none⟩ (.slice ao6 (j + (S.nc - (j + 1))) cp6))) := (B4Z.out.trans (BC.mono (Nat.le_of_lt zX0))).setCell (Nat.le_refl _) _
        have OX1 : Hid (OwnM (wC.setCell ⟨w4.heap.size, 0, none⟩ (.slice ao6 (j + (S.nc - (j + 1))) cp6)) w''.heap.size 53 5 (.slice y1' (S.nl + 1) z1') (S.nl + 1) (nums S.l (k' * 5) ++ [a, s, 1, pr, un] ++ nums (fun p => S.l (k' * 5 + p)) ((S.nl - k') * 5))) := (OZ.out.later BC).far hz5.out _
        have OC : Hid (OwnM (wC.setCell ⟨w4.heap.size, 0, none⟩ (.slice ao6 (j + (S.nc - (j + 1))) cp6)) X0.heap.size 78 3 (.slice ao6 (j + (S.nc - (j + 1))) cp6) (j + (S.nc - (j + 1))) (nums S.c (j * 3) ++ nums (fun p => S.c ((j + 1) * 3 + p)) ((S.nc - (j + 1)) * 3))) := O8.far zX0 _
        have zX1 : Hid (w''.heap.size ≤ (wC.setCell ⟨w4.heap.size, 0, none⟩ (.slice ao6 (j + (S.nc - (j + 1))) cp6)).heap.size ∧ X0.heap.size ≤ (wC.setCell ⟨w4.heap.size, 0, none⟩ (.slice ao6 (j + (S.nc - (j + 1))) cp6)).heap.size) := by
          have h1 := zZ.out
          have h2 : X0.heap.size ≤ (wC.setCell ⟨w4.heap.size, 0, none⟩ (.slice ao6 (j + (S.nc - (j + 1))) cp6)).heap.size := by simpa [World.setCell] using szC
          exact ⟨by omega, h2⟩
        have hcap6 : j + (S.nc - (j + 1)) ≤ cp6 := O8.capM
        generalize wC.setCell ⟨w4.heap.size, 0, none⟩ (.slice ao6 (j + (S.nc - (j + 1))) cp6) = X1 at YX1 B4X1 RX1 TX1 OX1 OC zX1 ⊢
        clear YZ B4Z RZ TZ OZ F0 F1 F1d F0d F2 O0 C0 C7 O7 G7 O8 G8 keep keepY szC osC TC BC t0 t1 t2 ft0 ft1 ft2 zX0
        have YZ := YX1
        have B4Z := B4X1
        have RZ := RX1
        have TZ := TX1
        have OZ := OX1
        have zZ : Hid (w''.heap.size ≤ X1.heap.size) := zX1.out.1
        clear YX1 B4X1 RX1 TX1 OX1
        refine wpAnyH_done (by kernel_rfl) ?_ _
        obtain ⟨⟨y0, y1, y2, y3, y4⟩, _⟩ := YZ.out
        obtain ⟨⟨r0, r1, r2, r3⟩, f0, f1, f2, f3⟩ := RZ.out
        obtain ⟨⟨t0, t1, t2⟩, ft0, ft1, ft2⟩ := TZ.out
        go_simp
        go_wp2_with fail
        have lenC0 : (nums S.c (j * 3) ++ nums (fun p => S.c ((j + 1) * 3 + p)) ((S.nc - (j + 1)) * 3)).length = (j + (S.nc - (j + 1))) * 3 := by
          rw [List.length_append, nums_length, nums_length]
          omega
        have RC : Hid (Row X1 w3.heap.size 3 (j + (S.nc - (j + 1))) (fun p => (nums S.c (j * 3) ++ nums (fun p => S.c ((j + 1) * 3 + p)) ((S.nc - (j + 1)) * 3)).getD p 0) (.slice ao6 (j + (S.nc - (j + 1))) cp6)) := (OC.out.own lenC0).row.1.mono (by have := hz4.out; have := hz5.out; have := zX1.out.2; omega)
        clear lenC0
        obtain ⟨FC, hFC⟩ : ∃ FC : Nat → Int, (fun p => (nums S.c (j * 3) ++ nums (fun p => S.c ((j + 1) * 3 + p)) ((S.nc - (j + 1)) * 3)).getD p 0) = FC := ⟨_, rfl⟩
        rw [hFC] at RC
        have HF : Hid (∀ p, p < (j + (S.nc - (j + 1))) * 3 → FC p = (unlC S.c a s S.nc).flatten.getD p 0) := fun p hp => by
          rw [← hFC]
          exact (roll_cells hjn p (by omega)).trans (hone.out.2 p (by omega)).symm
        clear hFC OC
        refine (l2AddCell_any (j + (S.nc - (j + 1))) (FC) ao6 cp6 w3.heap.size a s va _ (RC.out) (by omega) hcap6).mono ?_
        rintro e w9 ⟨q', y0', z0', hq', rfl, O9, q9⟩
        have hq1 : Hid (placeAt (aheadC (FC) a s) (j + (S.nc - (j + 1))) q') := hq'
        have R9 : Hid (Blk4 w9 (w.heap.size + 1) (.int .i64 0) (.slice none 0 0) (.slice none 0 0) (.slice none 0 0)) := RZ.out.later q9
        have T9 : Hid (Blk3 w9 w4.heap.size (.slice ao6 (j + (S.nc - (j + 1))) cp6) (.slice y1' (S.nl + 1) z1') (.slice d2 S.nw e2)) := TZ.out.later q9
        have B49 : Hid (Below w4.heap.size w4 w9) := B4Z.out.trans (q9.mono B4Z.out.size)
        have BW9 : Hid (Below w.heap.size w w9) := YZ.out.2.trans (q9.mono YZ.out.2.size)
        have OL9 : Hid (OwnM w9 w''.heap.size 53 5 (.slice y1' (S.nl + 1) z1') (S.nl + 1) (nums S.l (k' * 5) ++ [a, s, 1, pr, un] ++ nums (fun p => S.l (k' * 5 + p)) ((S.nl - k') * 5))) := OZ.out.later q9
        have OC9 : Hid (OwnM w9 X1.heap.size 78 3 (.slice y0' ((j + (S.nc - (j + 1))) + 1) z0') ((j + (S.nc - (j + 1))) + 1) (nums (FC) (q' * 3) ++ [a, s, va] ++ nums (fun p => (FC) (q' * 3 + p)) (((j + (S.nc - (j + 1))) - q') * 3))) := O9
        clear O9 q9 hq' y0 y1 y2 y3 y4 r0 r1 r2 r3 f0 f1 f2 f3 t0 t1 t2 ft0 ft1 ft2
        obtain ⟨⟨t0, t1, t2⟩, ft0, ft1, ft2⟩ := T9.out
        go_upto_region 17 with fail
        have hks : ∀ i, i ≠ w4.heap.size → (w9.setCell ⟨w4.heap.size, 0, none⟩ (.slice y0' ((j + (S.nc - (j + 1))) + 1) z0')).heap[i]? = w9.heap[i]? := fun i hi => Below.heap_setCell w9 ⟨w4.heap.size, 0, none⟩ _ i hi
        have RY : Blk4 (w9.setCell ⟨w4.heap.size, 0, none⟩ (.slice y0' ((j + (S.nc - (j + 1))) + 1) z0')) (w.heap.size + 1) (.int .i64 0) (.slice none 0 0) (.slice none 0 0) (.slice none 0 0) := R9.out.kept (hks _ (by omega))
        have TY : Blk3 (w9.setCell ⟨w4.heap.size, 0, none⟩ (.slice y0' ((j + (S.nc - (j + 1))) + 1) z0')) w4.heap.size (.slice y0' ((j + (S.nc - (j + 1))) + 1) z0') (.slice y1' (S.nl + 1) z1') (.slice d2 S.nw e2) := T9.out.set0 _
        have BY : Hid (Below w.heap.size w (w9.setCell ⟨w4.heap.size, 0, none⟩ (.slice y0' ((j + (S.nc - (j + 1))) + 1) z0'))) := BW9.out.setCell (by show w.heap.size ≤ w4.heap.size; omega) _
        have B4Y : Hid (Below w4.heap.size w4 (w9.setCell ⟨w4.heap.size, 0, none⟩ (.slice y0' ((j + (S.nc - (j + 1))) + 1) z0'))) := B49.out.setCell (Nat.le_refl _) _
        have OLY : Hid (OwnM (w9.setCell ⟨w4.heap.size, 0, none⟩ (.slice y0' ((j + (S.nc - (j + 1))) + 1) z0')) w''.heap.size 53 5 (.slice y1' (S.nl + 1) z1') (S.nl + 1) (nums S.l (k' * 5) ++ [a, s, 1, pr, un] ++ nums (fun p => S.l (k' * 5 + p)) ((S.nl - k') * 5))) := OL9.out.far hz5.out _
        have OCY : Hid (OwnM (w9.setCell ⟨w4.heap.size, 0, none⟩ (.slice y0' ((j + (S.nc - (j + 1))) + 1) z0')) X1.heap.size 78 3 (.slice y0' ((j + (S.nc - (j + 1))) + 1) z0') ((j + (S.nc - (j + 1))) + 1) (nums (FC) (q' * 3) ++ [a, s, va] ++ nums (fun p => (FC) (q' * 3 + p)) (((j + (S.nc - (j + 1))) - q') * 3))) := OC9.out.far (by show w4.heap.size < _; have := hz5.out; have := zZ.out; omega) _
        generalize (w9.setCell ⟨w4.heap.size, 0, none⟩ (.slice y0' ((j + (S.nc - (j + 1))) + 1) z0')) = w8 at RY TY BY B4Y OLY OCY ⊢
        clear hks t0 t1 t2 ft0 ft1 ft2 R9 T9 B49 BW9 OL9 OC9
        obtain ⟨⟨r0, r1, r2, r3⟩, f0, f1, f2, f3⟩ := RY
        obtain ⟨⟨t0, t1, t2⟩, _⟩ := TY
        obtain rfl : k' = k := hk1.out.one HK.out.1
        obtain rfl : q' = q := by
          have hh : placeAt (aheadC (fun p => (unlC S.c a s S.nc).flatten.getD p 0) a s) (j + (S.nc - (j + 1))) q' := placeC_same HF.out hq1.out
          have h3 := HK.out.2
          rw [show (unlC S.c a s S.nc).length = j + (S.nc - (j + 1)) by have : (unlC S.c a s S.nc).length = S.nc - 1 := hone.out.1; omega] at h3
          exact hh.one h3
        have lenL : (nums S.l (k' * 5) ++ [a, s, 1, pr, un] ++ nums (fun p => S.l (k' * 5 + p)) ((S.nl - k') * 5)).length = (S.nl + 1) * 5 := by
          have := hk1.out.1
          rw [List.length_append, List.length_append, nums_length, nums_length]
          simp only [List.length_cons, List.length_nil]
          omega
        have lenC : (nums (FC) (q' * 3) ++ [a, s, va] ++ nums (fun p => (FC) (q' * 3 + p)) (((j + (S.nc - (j + 1))) - q') * 3)).length = ((j + (S.nc - (j + 1))) + 1) * 3 := by
          have := hq1.out.1
          rw [List.length_append, List.length_append, nums_length, nums_length]
          simp only [List.length_cons, List.length_nil]
          omega
        have HL8 : Hid (_ ∧ _) := (OLY.out.own lenL).row
        have HC8 : Hid (_ ∧ _) := (OCY.out.own lenC).row
        clear lenL lenC
        go_wp2
        have hN : (unlC S.c a s S.nc).length = j + (S.nc - (j + 1)) := by
          have : (unlC S.c a s S.nc).length = S.nc - 1 := hone.out.1
          omega
        have rC : Row w8 w3.heap.size 3 (j + (S.nc - (j + 1)) + 1) (insF (fun p => (unlC S.c a s S.nc).flatten.getD p 0) 3 (j + (S.nc - (j + 1))) q' [a, s, va]) (.slice y0' (j + (S.nc - (j + 1)) + 1) z0') := (HC8.out.1.congr (fun p hp => insF_flat (HF.out) hq1.out.1 p hp)).mono (by have := hz4.out; have := hz5.out; have := zX1.out; omega)
        have S8 : St w8 w3.heap.size (reputS S k' q' a s pr un va) (.slice y0' (j + (S.nc - (j + 1)) + 1) z0') (.slice y1' (S.nl + 1) z1') (.slice d2 S.nw e2) := by
          unfold reputS
          rw [hN]
          exact ⟨rC, HL8.out.1.mono (by have := hz4.out; have := hz5.out; omega), HS.out.1.1.2.2.later B4Y.out⟩
        have F8 : FreeS w8 (reputS S k' q' a s pr un va) (.slice y0' (j + (S.nc - (j + 1)) + 1) z0') (.slice y1' (S.nl + 1) z1') (.slice d2 S.nw e2) := by
          unfold reputS
          rw [hN]
          exact ⟨HC8.out.2, HL8.out.2, HS.out.1.2.2.2.ofRow HS.out.1.1.2.2 B4Y.out⟩
        have A8 : ApartD (reputS S k' q' a s pr un va) (.slice y0' (j + (S.nc - (j + 1)) + 1) z0') (.slice y1' (S.nl + 1) z1') (.slice d2 S.nw e2) := by
          have hi0 : ∀ q, (Value.slice y0' (j + (S.nc - (j + 1)) + 1) z0').ownBlock = some q → X1.heap.size ≤ q := fun q hq => (OCY.out.block q hq).1
          have hi1 := hobL.out
          refine ⟨fun _ _ e => ?_, fun _ hb e => ?_, fun _ hb e => ?_⟩
          · obtain ⟨g, o, hg, _⟩ := HC8.out.1.at (k := 0) (by omega)
            have h0 : (Value.slice y0' (j + (S.nc - (j + 1)) + 1) z0').ownBlock = some g := by rw [hg]; rfl
            have := hi0 g h0; have := (hi1 g (e ▸ h0)).2; have := zX1.out; omega
          · obtain ⟨g, o, hg, _⟩ := HC8.out.1.at (k := 0) (by omega)
            have h0 : (Value.slice y0' (j + (S.nc - (j + 1)) + 1) z0').ownBlock = some g := by rw [hg]; rfl
            have := hi0 g h0; have := (HS.out.1.1.2.2.lt hb g (e ▸ h0)).2; have := zX1.out; have := hz5.out; omega
          · obtain ⟨g, o, hg, _⟩ := HL8.out.1.at (k := 0) (by omega)
            have h0 : (Value.slice y1' (S.nl + 1) z1').ownBlock = some g := by rw [hg]; rfl
            have := (hi1 g h0).1; have := (HS.out.1.1.2.2.lt hb g (e ▸ h0)).2; have := hz5.out; omega
        have hlo : (w.heap.size + 1 : Nat) < w3.heap.size := by have := hz3.out; omega
        have hcl' : (reputS S k' q' a s pr un va).nc = j + (S.nc - (j + 1)) + 1 := by show (unlC S.c a s S.nc).length + 1 = _; rw [hN]
        refine bodyPost_ret (v := .agg #[.int .i64 0, .slice y0' (j + (S.nc - (j + 1)) + 1) z0', .slice y1' (S.nl + 1) z1', .slice d2 S.nw e2]) (by simp [results, Tryz.results21, go_sem, r0, r1, r2, r3]) rfl ?_
        refine ⟨y0', z0', y1', z1', d2, e2, ?_, ?_, (((BY.out.setCell (Nat.le_succ _) _).setCell (Nat.le_succ _) _).setCell (Nat.le_succ _) _).setCell (Nat.le_succ _) _⟩
        · rw [hcl']; rfl
        · rw [hcl']
          exact ⟨((((S8.far hlo _).far hlo _).far hlo _).far hlo _).mono (by omega), (((F8.far _ _).far _ _).far _ _).far _ _, A8⟩
    · go_simp
      refine hK.out _ _ trivial (fun hS => ?_)
      clear hK K
      refine wpAnyH_take (i := 10) (v := ?_) rfl (by kernel_rfl) (by kernel_rfl) (by kernel_rfl) (fun _ _ _ h => h) (Or.inl ⟨by kernel_rfl, ?_⟩) hS ?_
      rotate_left
      · intro wx hx
        go_simp
        try with_reducible rfl
      refine wpAnyH_ready (rs := [0]) (by kernel_rfl) (by simp) ?_
      refine AllReadyH.cons rfl (fun K hK => ?_) AllReadyH.nil
      go_simp
      refine hK.out _ _ trivial (fun hS => ?_)
      clear hK K
      refine wpAnyH_ready (rs := [5]) (by kernel_rfl) (by simp) ?_
      refine AllReadyH.cons rfl (fun K hK => ?_) AllReadyH.nil
      refine step_app 78 i0 (.agg #[.int .i64 0, .int .i64 0, .int .i64 0]) 3 24 (by rfl) _ _ 28 (by rfl) Tryz.underlying28 hi0 hz0 hz1 hz2 rfl (by omega) (by omega) _ X0.heap.size 0 [] (.slice (some ⟨X0.heap.size, 0, none⟩) 0 0) (by rfl) O0.out w3.heap.size j S.c (.slice (some ⟨cg, co, none⟩) j e0) (by rfl) (C0.out.head hj4 e0) (by omega) (by show X0.heap.size ≤ (World.alloc X0 _).heap.size; simp) ?_
      intro ao5 cp5 w7 O7 G7
      rw [Nat.zero_add, List.nil_append] at O7
      rw [show (0 : Nat) + j = j from Nat.zero_add j]
      have F2 : w7.cell? ⟨w4.heap.size, 0, none⟩ = some (.slice (some ⟨cg, co, none⟩) S.nc e0) := G7.cell F1 (fun q => by simp [Value.ownBlock] at q; omega)
      refine hK.out _ _ trivial (fun hS => ?_)
      clear hK K
      have C7 : Hid (Row w7 w3.heap.size 3 S.nc S.c (.slice (some ⟨cg, co, none⟩) S.nc e0)) := C0.out.turned G7 (fun h0 k hk q => by
        have h1 := (HS.out.1.1.1.lt h0 k hk).2
        rw [q] at hk
        simp [Value.ownBlock] at hk q
        omega)
      refine wpAnyH_ready (rs := [11]) (by kernel_rfl) (by simp) ?_
      refine AllReadyH.cons rfl (fun K hK => ?_) AllReadyH.nil
      refine step_app 78 i0 (.agg #[.int .i64 0, .int .i64 0, .int .i64 0]) 3 24 (by rfl) _ _ 28 (by rfl) Tryz.underlying28 hi0 hz0 hz1 hz2 rfl (by omega) (by omega) _ X0.heap.size j (nums S.c (j * 3)) (.slice ao5 j cp5) (by rfl) O7 w3.heap.size (S.nc - (j + 1)) (fun p => S.c ((j + 1) * 3 + p)) (.slice A (S.nc - (j + 1)) (e0 - (j + 1))) (by rfl) (hA ▸ C7.out.tailR (j + 1) g0) (by omega) (Nat.le_trans (by show X0.heap.size ≤ (World.alloc X0 _).heap.size; simp) G7.size) ?_
      intro ao6 cp6 wC O8 G8
      have keep : ∀ q, q < X0.heap.size → wC.heap[q]? = X0.heap[q]? := fun q hq => by
        have h1 : (X0.alloc (.cells #[] 78)).drew.heap[q]? = X0.heap[q]? := (below_alloc X0 (.cells #[] 78)).block q hq
        have h2 : w7.heap[q]? = (X0.alloc (.cells #[] 78)).drew.heap[q]? := G7.block q (by show q < (World.alloc X0 _).heap.size; simp; omega) (fun e => by simp [Value.ownBlock] at e; omega)
        have h3 : wC.heap[q]? = w7.heap[q]? := G8.block q (Nat.lt_of_lt_of_le (by show q < (World.alloc X0 _).heap.size; simp; omega) G7.size) (fun e => by have := (O7.block q e.symm).1; omega)
        exact h3.trans (h2.trans h1)
      have szC : X0.heap.size ≤ wC.heap.size := Nat.le_trans (Nat.le_trans (by show X0.heap.size ≤ (World.alloc X0 _).heap.size; simp) G7.size) G8.size
      have osC : wC.os = X0.os ∧ wC.tape = X0.tape ∧ wC.output = X0.output := ⟨G8.os.trans G7.os, G8.tape.trans G7.tape, G8.output.trans G7.output⟩
      have TC : Blk3 wC w4.heap.size (.slice (some ⟨cg, co, none⟩) S.nc e0) (.slice y1' (S.nl + 1) z1') (.slice d2 S.nw e2) := TZ.out.kept (keep _ zX0)
      refine hK.out _ _ trivial (fun hS => ?_)
      clear hK K
      refine wpAnyH_take (i := 12) (v := ?_) rfl (by kernel_rfl) (by kernel_rfl) (by kernel_rfl) (fun _ _ _ h => h) (Or.inl ⟨by kernel_rfl, ?_⟩) hS ?_
      rotate_left
      · intro wx hx
        go_simp
        try with_reducible rfl
      obtain ⟨⟨t0, t1, t2⟩, ft0, ft1, ft2⟩ := TC
      refine wpAnyH_ready (rs := [13]) (by kernel_rfl) (by simp) ?_
      refine AllReadyH.cons rfl (fun K hK => ?_) AllReadyH.nil
      go_simp
      refine hK.out _ _ trivial (fun hS => ?_)
      clear hK K
      have TC : Blk3 wC w4.heap.size (.slice (some ⟨cg, co, none⟩) S.nc e0) (.slice y1' (S.nl + 1) z1') (.slice d2 S.nw e2) := TZ.out.kept (keep _ zX0)
      have BC : Below X0.heap.size X0 wC := ⟨osC.1, osC.2.1, osC.2.2, szC, keep⟩
      have keepY : ∀ i, i < X0.heap.size → i ≠ w4.heap.size → (wC.setCell ⟨w4.heap.size, 0, none⟩ (.slice ao6 (j + (S.nc - (j + 1))) cp6)).heap[i]? = X0.heap[i]? := fun i hi hne => (Below.heap_setCell wC ⟨w4.heap.size, 0, none⟩ _ i hne).trans (keep i hi)
      have hx0 : w4.heap.size < X0.heap.size := zX0
      have YX1 : Hid (LkE w a s 1 pr un (wC.setCell ⟨w4.heap.size, 0, none⟩ (.slice ao6 (j + (S.nc - (j + 1))) cp6))) := ⟨⟨(cell_kept (keepY _ (by omega) (by omega)) 0).trans YZ.out.1.1, (cell_kept (keepY _ (by omega) (by omega)) 1).trans YZ.out.1.2.1, (cell_kept (keepY _ (by omega) (by omega)) 2).trans YZ.out.1.2.2.1, (cell_kept (keepY _ (by omega) (by omega)) 3).trans YZ.out.1.2.2.2.1, (cell_kept (keepY _ (by omega) (by omega)) 4).trans YZ.out.1.2.2.2.2⟩, (YZ.out.2.trans (BC.mono YZ.out.2.size)).setCell (by show w.heap.size ≤ w4.heap.size; omega) _⟩
      have RX1 : Hid (Blk4 (wC.setCell ⟨w4.heap.size, 0, none⟩ (.slice ao6 (j + (S.nc - (j + 1))) cp6)) (w.heap.size + 1) (.int .i64 0) (.slice none 0 0) (.slice none 0 0) (.slice none 0 0)) := RZ.out.kept (keepY _ (by omega) (by omega))
      have TX1 : Hid (Blk3 (wC.setCell ⟨w4.heap.size, 0, none⟩ (.slice ao6 (j + (S.nc - (j + 1))) cp6)) w4.heap.size (.slice ao6 (j + (S.nc - (j + 1))) cp6) (.slice y1' (S.nl + 1) z1') (.slice d2 S.nw e2)) := TC.set0 _
      have B4X1 : Hid (Below w4.heap.size w4 (wC.setCell ⟨w4.heap.size, 0, none⟩ (.slice ao6 (j + (S.nc - (j + 1))) cp6))) := (B4Z.out.trans (BC.mono (Nat.le_of_lt zX0))).setCell (Nat.le_refl _) _
      have OX1 : Hid (OwnM (wC.setCell ⟨w4.heap.size, 0, none⟩ (.slice ao6 (j + (S.nc - (j + 1))) cp6)) w''.heap.size 53 5 (.slice y1' (S.nl + 1) z1') (S.nl + 1) (nums S.l (k' * 5) ++ [a, s, 1, pr, un] ++ nums (fun p => S.l (k' * 5 + p)) ((S.nl - k') * 5))) := (OZ.out.later BC).far hz5.out _
      have OC : Hid (OwnM (wC.setCell ⟨w4.heap.size, 0, none⟩ (.slice ao6 (j + (S.nc - (j + 1))) cp6)) X0.heap.size 78 3 (.slice ao6 (j + (S.nc - (j + 1))) cp6) (j + (S.nc - (j + 1))) (nums S.c (j * 3) ++ nums (fun p => S.c ((j + 1) * 3 + p)) ((S.nc - (j + 1)) * 3))) := O8.far zX0 _
      have zX1 : Hid (w''.heap.size ≤ (wC.setCell ⟨w4.heap.size, 0, none⟩ (.slice ao6 (j + (S.nc - (j + 1))) cp6)).heap.size ∧ X0.heap.size ≤ (wC.setCell ⟨w4.heap.size, 0, none⟩ (.slice ao6 (j + (S.nc - (j + 1))) cp6)).heap.size) := by
        have h1 := zZ.out
        have h2 : X0.heap.size ≤ (wC.setCell ⟨w4.heap.size, 0, none⟩ (.slice ao6 (j + (S.nc - (j + 1))) cp6)).heap.size := by simpa [World.setCell] using szC
        exact ⟨by omega, h2⟩
      have hcap6 : j + (S.nc - (j + 1)) ≤ cp6 := O8.capM
      generalize wC.setCell ⟨w4.heap.size, 0, none⟩ (.slice ao6 (j + (S.nc - (j + 1))) cp6) = X1 at YX1 B4X1 RX1 TX1 OX1 OC zX1 ⊢
      clear YZ B4Z RZ TZ OZ F0 F1 F1d F0d F2 O0 C0 C7 O7 G7 O8 G8 keep keepY szC osC TC BC t0 t1 t2 ft0 ft1 ft2 zX0
      have YZ := YX1
      have B4Z := B4X1
      have RZ := RX1
      have TZ := TX1
      have OZ := OX1
      have zZ : Hid (w''.heap.size ≤ X1.heap.size) := zX1.out.1
      clear YX1 B4X1 RX1 TX1 OX1
      refine wpAnyH_done (by kernel_rfl) ?_ _
      obtain ⟨⟨y0, y1, y2, y3, y4⟩, _⟩ := YZ.out
      obtain ⟨⟨r0, r1, r2, r3⟩, f0, f1, f2, f3⟩ := RZ.out
      obtain ⟨⟨t0, t1, t2⟩, ft0, ft1, ft2⟩ := TZ.out
      go_simp
      go_wp2_with fail
      have lenC0 : (nums S.c (j * 3) ++ nums (fun p => S.c ((j + 1) * 3 + p)) ((S.nc - (j + 1)) * 3)).length = (j + (S.nc - (j + 1))) * 3 := by
        rw [List.length_append, nums_length, nums_length]
        omega
      have RC : Hid (Row X1 w3.heap.size 3 (j + (S.nc - (j + 1))) (fun p => (nums S.c (j * 3) ++ nums (fun p => S.c ((j + 1) * 3 + p)) ((S.nc - (j + 1)) * 3)).getD p 0) (.slice ao6 (j + (S.nc - (j + 1))) cp6)) := (OC.out.own lenC0).row.1.mono (by have := hz4.out; have := hz5.out; have := zX1.out.2; omega)
      clear lenC0
      obtain ⟨FC, hFC⟩ : ∃ FC : Nat → Int, (fun p => (nums S.c (j * 3) ++ nums (fun p => S.c ((j + 1) * 3 + p)) ((S.nc - (j + 1)) * 3)).getD p 0) = FC := ⟨_, rfl⟩
      rw [hFC] at RC
      have HF : Hid (∀ p, p < (j + (S.nc - (j + 1))) * 3 → FC p = (unlC S.c a s S.nc).flatten.getD p 0) := fun p hp => by
        rw [← hFC]
        exact (roll_cells hjn p (by omega)).trans (hone.out.2 p (by omega)).symm
      clear hFC OC
      refine (l2AddCell_any (j + (S.nc - (j + 1))) (FC) ao6 cp6 w3.heap.size a s va _ (RC.out) (by omega) hcap6).mono ?_
      rintro e w9 ⟨q', y0', z0', hq', rfl, O9, q9⟩
      have hq1 : Hid (placeAt (aheadC (FC) a s) (j + (S.nc - (j + 1))) q') := hq'
      have R9 : Hid (Blk4 w9 (w.heap.size + 1) (.int .i64 0) (.slice none 0 0) (.slice none 0 0) (.slice none 0 0)) := RZ.out.later q9
      have T9 : Hid (Blk3 w9 w4.heap.size (.slice ao6 (j + (S.nc - (j + 1))) cp6) (.slice y1' (S.nl + 1) z1') (.slice d2 S.nw e2)) := TZ.out.later q9
      have B49 : Hid (Below w4.heap.size w4 w9) := B4Z.out.trans (q9.mono B4Z.out.size)
      have BW9 : Hid (Below w.heap.size w w9) := YZ.out.2.trans (q9.mono YZ.out.2.size)
      have OL9 : Hid (OwnM w9 w''.heap.size 53 5 (.slice y1' (S.nl + 1) z1') (S.nl + 1) (nums S.l (k' * 5) ++ [a, s, 1, pr, un] ++ nums (fun p => S.l (k' * 5 + p)) ((S.nl - k') * 5))) := OZ.out.later q9
      have OC9 : Hid (OwnM w9 X1.heap.size 78 3 (.slice y0' ((j + (S.nc - (j + 1))) + 1) z0') ((j + (S.nc - (j + 1))) + 1) (nums (FC) (q' * 3) ++ [a, s, va] ++ nums (fun p => (FC) (q' * 3 + p)) (((j + (S.nc - (j + 1))) - q') * 3))) := O9
      clear O9 q9 hq' y0 y1 y2 y3 y4 r0 r1 r2 r3 f0 f1 f2 f3 t0 t1 t2 ft0 ft1 ft2
      obtain ⟨⟨t0, t1, t2⟩, ft0, ft1, ft2⟩ := T9.out
      go_upto_region 17 with fail
      have hks : ∀ i, i ≠ w4.heap.size → (w9.setCell ⟨w4.heap.size, 0, none⟩ (.slice y0' ((j + (S.nc - (j + 1))) + 1) z0')).heap[i]? = w9.heap[i]? := fun i hi => Below.heap_setCell w9 ⟨w4.heap.size, 0, none⟩ _ i hi
      have RY : Blk4 (w9.setCell ⟨w4.heap.size, 0, none⟩ (.slice y0' ((j + (S.nc - (j + 1))) + 1) z0')) (w.heap.size + 1) (.int .i64 0) (.slice none 0 0) (.slice none 0 0) (.slice none 0 0) := R9.out.kept (hks _ (by omega))
      have TY : Blk3 (w9.setCell ⟨w4.heap.size, 0, none⟩ (.slice y0' ((j + (S.nc - (j + 1))) + 1) z0')) w4.heap.size (.slice y0' ((j + (S.nc - (j + 1))) + 1) z0') (.slice y1' (S.nl + 1) z1') (.slice d2 S.nw e2) := T9.out.set0 _
      have BY : Hid (Below w.heap.size w (w9.setCell ⟨w4.heap.size, 0, none⟩ (.slice y0' ((j + (S.nc - (j + 1))) + 1) z0'))) := BW9.out.setCell (by show w.heap.size ≤ w4.heap.size; omega) _
      have B4Y : Hid (Below w4.heap.size w4 (w9.setCell ⟨w4.heap.size, 0, none⟩ (.slice y0' ((j + (S.nc - (j + 1))) + 1) z0'))) := B49.out.setCell (Nat.le_refl _) _
      have OLY : Hid (OwnM (w9.setCell ⟨w4.heap.size, 0, none⟩ (.slice y0' ((j + (S.nc - (j + 1))) + 1) z0')) w''.heap.size 53 5 (.slice y1' (S.nl + 1) z1') (S.nl + 1) (nums S.l (k' * 5) ++ [a, s, 1, pr, un] ++ nums (fun p => S.l (k' * 5 + p)) ((S.nl - k') * 5))) := OL9.out.far hz5.out _
      have OCY : Hid (OwnM (w9.setCell ⟨w4.heap.size, 0, none⟩ (.slice y0' ((j + (S.nc - (j + 1))) + 1) z0')) X1.heap.size 78 3 (.slice y0' ((j + (S.nc - (j + 1))) + 1) z0') ((j + (S.nc - (j + 1))) + 1) (nums (FC) (q' * 3) ++ [a, s, va] ++ nums (fun p => (FC) (q' * 3 + p)) (((j + (S.nc - (j + 1))) - q') * 3))) := OC9.out.far (by show w4.heap.size < _; have := hz5.out; have := zZ.out; omega) _
      generalize (w9.setCell ⟨w4.heap.size, 0, none⟩ (.slice y0' ((j + (S.nc - (j + 1))) + 1) z0')) = w8 at RY TY BY B4Y OLY OCY ⊢
      clear hks t0 t1 t2 ft0 ft1 ft2 R9 T9 B49 BW9 OL9 OC9
      obtain ⟨⟨r0, r1, r2, r3⟩, f0, f1, f2, f3⟩ := RY
      obtain ⟨⟨t0, t1, t2⟩, _⟩ := TY
      obtain rfl : k' = k := hk1.out.one HK.out.1
      obtain rfl : q' = q := by
        have hh : placeAt (aheadC (fun p => (unlC S.c a s S.nc).flatten.getD p 0) a s) (j + (S.nc - (j + 1))) q' := placeC_same HF.out hq1.out
        have h3 := HK.out.2
        rw [show (unlC S.c a s S.nc).length = j + (S.nc - (j + 1)) by have : (unlC S.c a s S.nc).length = S.nc - 1 := hone.out.1; omega] at h3
        exact hh.one h3
      have lenL : (nums S.l (k' * 5) ++ [a, s, 1, pr, un] ++ nums (fun p => S.l (k' * 5 + p)) ((S.nl - k') * 5)).length = (S.nl + 1) * 5 := by
        have := hk1.out.1
        rw [List.length_append, List.length_append, nums_length, nums_length]
        simp only [List.length_cons, List.length_nil]
        omega
      have lenC : (nums (FC) (q' * 3) ++ [a, s, va] ++ nums (fun p => (FC) (q' * 3 + p)) (((j + (S.nc - (j + 1))) - q') * 3)).length = ((j + (S.nc - (j + 1))) + 1) * 3 := by
        have := hq1.out.1
        rw [List.length_append, List.length_append, nums_length, nums_length]
        simp only [List.length_cons, List.length_nil]
        omega
      have HL8 : Hid (_ ∧ _) := (OLY.out.own lenL).row
      have HC8 : Hid (_ ∧ _) := (OCY.out.own lenC).row
      clear lenL lenC
      go_wp2
      have hN : (unlC S.c a s S.nc).length = j + (S.nc - (j + 1)) := by
        have : (unlC S.c a s S.nc).length = S.nc - 1 := hone.out.1
        omega
      have rC : Row w8 w3.heap.size 3 (j + (S.nc - (j + 1)) + 1) (insF (fun p => (unlC S.c a s S.nc).flatten.getD p 0) 3 (j + (S.nc - (j + 1))) q' [a, s, va]) (.slice y0' (j + (S.nc - (j + 1)) + 1) z0') := (HC8.out.1.congr (fun p hp => insF_flat (HF.out) hq1.out.1 p hp)).mono (by have := hz4.out; have := hz5.out; have := zX1.out; omega)
      have S8 : St w8 w3.heap.size (reputS S k' q' a s pr un va) (.slice y0' (j + (S.nc - (j + 1)) + 1) z0') (.slice y1' (S.nl + 1) z1') (.slice d2 S.nw e2) := by
        unfold reputS
        rw [hN]
        exact ⟨rC, HL8.out.1.mono (by have := hz4.out; have := hz5.out; omega), HS.out.1.1.2.2.later B4Y.out⟩
      have F8 : FreeS w8 (reputS S k' q' a s pr un va) (.slice y0' (j + (S.nc - (j + 1)) + 1) z0') (.slice y1' (S.nl + 1) z1') (.slice d2 S.nw e2) := by
        unfold reputS
        rw [hN]
        exact ⟨HC8.out.2, HL8.out.2, HS.out.1.2.2.2.ofRow HS.out.1.1.2.2 B4Y.out⟩
      have A8 : ApartD (reputS S k' q' a s pr un va) (.slice y0' (j + (S.nc - (j + 1)) + 1) z0') (.slice y1' (S.nl + 1) z1') (.slice d2 S.nw e2) := by
        have hi0 : ∀ q, (Value.slice y0' (j + (S.nc - (j + 1)) + 1) z0').ownBlock = some q → X1.heap.size ≤ q := fun q hq => (OCY.out.block q hq).1
        have hi1 := hobL.out
        refine ⟨fun _ _ e => ?_, fun _ hb e => ?_, fun _ hb e => ?_⟩
        · obtain ⟨g, o, hg, _⟩ := HC8.out.1.at (k := 0) (by omega)
          have h0 : (Value.slice y0' (j + (S.nc - (j + 1)) + 1) z0').ownBlock = some g := by rw [hg]; rfl
          have := hi0 g h0; have := (hi1 g (e ▸ h0)).2; have := zX1.out; omega
        · obtain ⟨g, o, hg, _⟩ := HC8.out.1.at (k := 0) (by omega)
          have h0 : (Value.slice y0' (j + (S.nc - (j + 1)) + 1) z0').ownBlock = some g := by rw [hg]; rfl
          have := hi0 g h0; have := (HS.out.1.1.2.2.lt hb g (e ▸ h0)).2; have := zX1.out; have := hz5.out; omega
        · obtain ⟨g, o, hg, _⟩ := HL8.out.1.at (k := 0) (by omega)
          have h0 : (Value.slice y1' (S.nl + 1) z1').ownBlock = some g := by rw [hg]; rfl
          have := (hi1 g h0).1; have := (HS.out.1.1.2.2.lt hb g (e ▸ h0)).2; have := hz5.out; omega
      have hlo : (w.heap.size + 1 : Nat) < w3.heap.size := by have := hz3.out; omega
      have hcl' : (reputS S k' q' a s pr un va).nc = j + (S.nc - (j + 1)) + 1 := by show (unlC S.c a s S.nc).length + 1 = _; rw [hN]
      refine bodyPost_ret (v := .agg #[.int .i64 0, .slice y0' (j + (S.nc - (j + 1)) + 1) z0', .slice y1' (S.nl + 1) z1', .slice d2 S.nw e2]) (by simp [results, Tryz.results21, go_sem, r0, r1, r2, r3]) rfl ?_
      refine ⟨y0', z0', y1', z1', d2, e2, ?_, ?_, (((BY.out.setCell (Nat.le_succ _) _).setCell (Nat.le_succ _) _).setCell (Nat.le_succ _) _).setCell (Nat.le_succ _) _⟩
      · rw [hcl']; rfl
      · rw [hcl']
        exact ⟨((((S8.far hlo _).far hlo _).far hlo _).far hlo _).mono (by omega), (((F8.far _ _).far _ _).far _ _).far _ _, A8⟩
  · go_simp
    refine hK.out _ _ trivial (fun hS => ?_)
    clear hK K
    refine wpAnyH_take (i := 10) (v := ?_) rfl (by kernel_rfl) (by kernel_rfl) (by kernel_rfl) (fun _ _ _ h => h) (Or.inl ⟨by kernel_rfl, ?_⟩) hS ?_
    rotate_left
    · intro wx hx
      go_simp
      try with_reducible rfl
    refine wpAnyH_ready (rs := [0, 2]) (by kernel_rfl) (by simp) ?_
    refine AllReadyH.cons rfl (fun K hK => ?_) (AllReadyH.cons rfl (fun K hK => ?_) AllReadyH.nil)
    · go_simp
      refine hK.out _ _ trivial (fun hS => ?_)
      clear hK K
      refine wpAnyH_ready (rs := [2]) (by kernel_rfl) (by simp) ?_
      refine AllReadyH.cons rfl (fun K hK => ?_) AllReadyH.nil
      go_simp
      refine hK.out _ _ trivial (fun hS => ?_)
      clear hK K
      refine wpAnyH_take (i := 4) (v := ?_) rfl (by kernel_rfl) (by kernel_rfl) (by kernel_rfl) (fun _ _ _ h => h) (Or.inl ⟨by kernel_rfl, ?_⟩) hS ?_
      rotate_left
      · intro wx hx
        go_simp
        try with_reducible rfl
      refine wpAnyH_ready (rs := [5]) (by kernel_rfl) (by simp) ?_
      refine AllReadyH.cons rfl (fun K hK => ?_) AllReadyH.nil
      refine step_app 78 i0 (.agg #[.int .i64 0, .int .i64 0, .int .i64 0]) 3 24 (by rfl) _ _ 28 (by rfl) Tryz.underlying28 hi0 hz0 hz1 hz2 rfl (by omega) (by omega) _ X0.heap.size 0 [] (.slice (some ⟨X0.heap.size, 0, none⟩) 0 0) (by rfl) O0.out w3.heap.size j S.c (.slice (some ⟨cg, co, none⟩) j e0) (by rfl) (C0.out.head hj4 e0) (by omega) (by show X0.heap.size ≤ (World.alloc X0 _).heap.size; simp) ?_
      intro ao5 cp5 w7 O7 G7
      rw [Nat.zero_add, List.nil_append] at O7
      rw [show (0 : Nat) + j = j from Nat.zero_add j]
      have F2 : w7.cell? ⟨w4.heap.size, 0, none⟩ = some (.slice (some ⟨cg, co, none⟩) S.nc e0) := G7.cell F1 (fun q => by simp [Value.ownBlock] at q; omega)
      refine hK.out _ _ trivial (fun hS => ?_)
      clear hK K
      have C7 : Hid (Row w7 w3.heap.size 3 S.nc S.c (.slice (some ⟨cg, co, none⟩) S.nc e0)) := C0.out.turned G7 (fun h0 k hk q => by
        have h1 := (HS.out.1.1.1.lt h0 k hk).2
        rw [q] at hk
        simp [Value.ownBlock] at hk q
        omega)
      refine wpAnyH_ready (rs := [11]) (by kernel_rfl) (by simp) ?_
      refine AllReadyH.cons rfl (fun K hK => ?_) AllReadyH.nil
      refine step_app 78 i0 (.agg #[.int .i64 0, .int .i64 0, .int .i64 0]) 3 24 (by rfl) _ _ 28 (by rfl) Tryz.underlying28 hi0 hz0 hz1 hz2 rfl (by omega) (by omega) _ X0.heap.size j (nums S.c (j * 3)) (.slice ao5 j cp5) (by rfl) O7 w3.heap.size (S.nc - (j + 1)) (fun p => S.c ((j + 1) * 3 + p)) (.slice A (S.nc - (j + 1)) (e0 - (j + 1))) (by rfl) (hA ▸ C7.out.tailR (j + 1) g0) (by omega) (Nat.le_trans (by show X0.heap.size ≤ (World.alloc X0 _).heap.size; simp) G7.size) ?_
      intro ao6 cp6 wC O8 G8
      have keep : ∀ q, q < X0.heap.size → wC.heap[q]? = X0.heap[q]? := fun q hq => by
        have h1 : (X0.alloc (.cells #[] 78)).drew.heap[q]? = X0.heap[q]? := (below_alloc X0 (.cells #[] 78)).block q hq
        have h2 : w7.heap[q]? = (X0.alloc (.cells #[] 78)).drew.heap[q]? := G7.block q (by show q < (World.alloc X0 _).heap.size; simp; omega) (fun e => by simp [Value.ownBlock] at e; omega)
        have h3 : wC.heap[q]? = w7.heap[q]? := G8.block q (Nat.lt_of_lt_of_le (by show q < (World.alloc X0 _).heap.size; simp; omega) G7.size) (fun e => by have := (O7.block q e.symm).1; omega)
        exact h3.trans (h2.trans h1)
      have szC : X0.heap.size ≤ wC.heap.size := Nat.le_trans (Nat.le_trans (by show X0.heap.size ≤ (World.alloc X0 _).heap.size; simp) G7.size) G8.size
      have osC : wC.os = X0.os ∧ wC.tape = X0.tape ∧ wC.output = X0.output := ⟨G8.os.trans G7.os, G8.tape.trans G7.tape, G8.output.trans G7.output⟩
      have TC : Blk3 wC w4.heap.size (.slice (some ⟨cg, co, none⟩) S.nc e0) (.slice y1' (S.nl + 1) z1') (.slice d2 S.nw e2) := TZ.out.kept (keep _ zX0)
      refine hK.out _ _ trivial (fun hS => ?_)
      clear hK K
      refine wpAnyH_take (i := 12) (v := ?_) rfl (by kernel_rfl) (by kernel_rfl) (by kernel_rfl) (fun _ _ _ h => h) (Or.inl ⟨by kernel_rfl, ?_⟩) hS ?_
      rotate_left
      · intro wx hx
        go_simp
        try with_reducible rfl
      obtain ⟨⟨t0, t1, t2⟩, ft0, ft1, ft2⟩ := TC
      refine wpAnyH_ready (rs := [13]) (by kernel_rfl) (by simp) ?_
      refine AllReadyH.cons rfl (fun K hK => ?_) AllReadyH.nil
      go_simp
      refine hK.out _ _ trivial (fun hS => ?_)
      clear hK K
      have TC : Blk3 wC w4.heap.size (.slice (some ⟨cg, co, none⟩) S.nc e0) (.slice y1' (S.nl + 1) z1') (.slice d2 S.nw e2) := TZ.out.kept (keep _ zX0)
      have BC : Below X0.heap.size X0 wC := ⟨osC.1, osC.2.1, osC.2.2, szC, keep⟩
      have keepY : ∀ i, i < X0.heap.size → i ≠ w4.heap.size → (wC.setCell ⟨w4.heap.size, 0, none⟩ (.slice ao6 (j + (S.nc - (j + 1))) cp6)).heap[i]? = X0.heap[i]? := fun i hi hne => (Below.heap_setCell wC ⟨w4.heap.size, 0, none⟩ _ i hne).trans (keep i hi)
      have hx0 : w4.heap.size < X0.heap.size := zX0
      have YX1 : Hid (LkE w a s 1 pr un (wC.setCell ⟨w4.heap.size, 0, none⟩ (.slice ao6 (j + (S.nc - (j + 1))) cp6))) := ⟨⟨(cell_kept (keepY _ (by omega) (by omega)) 0).trans YZ.out.1.1, (cell_kept (keepY _ (by omega) (by omega)) 1).trans YZ.out.1.2.1, (cell_kept (keepY _ (by omega) (by omega)) 2).trans YZ.out.1.2.2.1, (cell_kept (keepY _ (by omega) (by omega)) 3).trans YZ.out.1.2.2.2.1, (cell_kept (keepY _ (by omega) (by omega)) 4).trans YZ.out.1.2.2.2.2⟩, (YZ.out.2.trans (BC.mono YZ.out.2.size)).setCell (by show w.heap.size ≤ w4.heap.size; omega) _⟩
      have RX1 : Hid (Blk4 (wC.setCell ⟨w4.heap.size, 0, none⟩ (.slice ao6 (j + (S.nc - (j + 1))) cp6)) (w.heap.size + 1) (.int .i64 0) (.slice none 0 0) (.slice none 0 0) (.slice none 0 0)) := RZ.out.kept (keepY _ (by omega) (by omega))
      have TX1 : Hid (Blk3 (wC.setCell ⟨w4.heap.size, 0, none⟩ (.slice ao6 (j + (S.nc - (j + 1))) cp6)) w4.heap.size (.slice ao6 (j + (S.nc - (j + 1))) cp6) (.slice y1' (S.nl + 1) z1') (.slice d2 S.nw e2)) := TC.set0 _
      have B4X1 : Hid (Below w4.heap.size w4 (wC.setCell ⟨w4.heap.size, 0, none⟩ (.slice ao6 (j + (S.nc - (j + 1))) cp6))) := (B4Z.out.trans (BC.mono (Nat.le_of_lt zX0))).setCell (Nat.le_refl _) _
      have OX1 : Hid (OwnM (wC.setCell ⟨w4.heap.size, 0, none⟩ (.slice ao6 (j + (S.nc - (j + 1))) cp6)) w''.heap.size 53 5 (.slice y1' (S.nl + 1) z1') (S.nl + 1) (nums S.l (k' * 5) ++ [a, s, 1, pr, un] ++ nums (fun p => S.l (k' * 5 + p)) ((S.nl - k') * 5))) := (OZ.out.later BC).far hz5.out _
      have OC : Hid (OwnM (wC.setCell ⟨w4.heap.size, 0, none⟩ (.slice ao6 (j + (S.nc - (j + 1))) cp6)) X0.heap.size 78 3 (.slice ao6 (j + (S.nc - (j + 1))) cp6) (j + (S.nc - (j + 1))) (nums S.c (j * 3) ++ nums (fun p => S.c ((j + 1) * 3 + p)) ((S.nc - (j + 1)) * 3))) := O8.far zX0 _
      have zX1 : Hid (w''.heap.size ≤ (wC.setCell ⟨w4.heap.size, 0, none⟩ (.slice ao6 (j + (S.nc - (j + 1))) cp6)).heap.size ∧ X0.heap.size ≤ (wC.setCell ⟨w4.heap.size, 0, none⟩ (.slice ao6 (j + (S.nc - (j + 1))) cp6)).heap.size) := by
        have h1 := zZ.out
        have h2 : X0.heap.size ≤ (wC.setCell ⟨w4.heap.size, 0, none⟩ (.slice ao6 (j + (S.nc - (j + 1))) cp6)).heap.size := by simpa [World.setCell] using szC
        exact ⟨by omega, h2⟩
      have hcap6 : j + (S.nc - (j + 1)) ≤ cp6 := O8.capM
      generalize wC.setCell ⟨w4.heap.size, 0, none⟩ (.slice ao6 (j + (S.nc - (j + 1))) cp6) = X1 at YX1 B4X1 RX1 TX1 OX1 OC zX1 ⊢
      clear YZ B4Z RZ TZ OZ F0 F1 F1d F0d F2 O0 C0 C7 O7 G7 O8 G8 keep keepY szC osC TC BC t0 t1 t2 ft0 ft1 ft2 zX0
      have YZ := YX1
      have B4Z := B4X1
      have RZ := RX1
      have TZ := TX1
      have OZ := OX1
      have zZ : Hid (w''.heap.size ≤ X1.heap.size) := zX1.out.1
      clear YX1 B4X1 RX1 TX1 OX1
      refine wpAnyH_done (by kernel_rfl) ?_ _
      obtain ⟨⟨y0, y1, y2, y3, y4⟩, _⟩ := YZ.out
      obtain ⟨⟨r0, r1, r2, r3⟩, f0, f1, f2, f3⟩ := RZ.out
      obtain ⟨⟨t0, t1, t2⟩, ft0, ft1, ft2⟩ := TZ.out
      go_simp
      go_wp2_with fail
      have lenC0 : (nums S.c (j * 3) ++ nums (fun p => S.c ((j + 1) * 3 + p)) ((S.nc - (j + 1)) * 3)).length = (j + (S.nc - (j + 1))) * 3 := by
        rw [List.length_append, nums_length, nums_length]
        omega
      have RC : Hid (Row X1 w3.heap.size 3 (j + (S.nc - (j + 1))) (fun p => (nums S.c (j * 3) ++ nums (fun p => S.c ((j + 1) * 3 + p)) ((S.nc - (j + 1)) * 3)).getD p 0) (.slice ao6 (j + (S.nc - (j + 1))) cp6)) := (OC.out.own lenC0).row.1.mono (by have := hz4.out; have := hz5.out; have := zX1.out.2; omega)
      clear lenC0
      obtain ⟨FC, hFC⟩ : ∃ FC : Nat → Int, (fun p => (nums S.c (j * 3) ++ nums (fun p => S.c ((j + 1) * 3 + p)) ((S.nc - (j + 1)) * 3)).getD p 0) = FC := ⟨_, rfl⟩
      rw [hFC] at RC
      have HF : Hid (∀ p, p < (j + (S.nc - (j + 1))) * 3 → FC p = (unlC S.c a s S.nc).flatten.getD p 0) := fun p hp => by
        rw [← hFC]
        exact (roll_cells hjn p (by omega)).trans (hone.out.2 p (by omega)).symm
      clear hFC OC
      refine (l2AddCell_any (j + (S.nc - (j + 1))) (FC) ao6 cp6 w3.heap.size a s va _ (RC.out) (by omega) hcap6).mono ?_
      rintro e w9 ⟨q', y0', z0', hq', rfl, O9, q9⟩
      have hq1 : Hid (placeAt (aheadC (FC) a s) (j + (S.nc - (j + 1))) q') := hq'
      have R9 : Hid (Blk4 w9 (w.heap.size + 1) (.int .i64 0) (.slice none 0 0) (.slice none 0 0) (.slice none 0 0)) := RZ.out.later q9
      have T9 : Hid (Blk3 w9 w4.heap.size (.slice ao6 (j + (S.nc - (j + 1))) cp6) (.slice y1' (S.nl + 1) z1') (.slice d2 S.nw e2)) := TZ.out.later q9
      have B49 : Hid (Below w4.heap.size w4 w9) := B4Z.out.trans (q9.mono B4Z.out.size)
      have BW9 : Hid (Below w.heap.size w w9) := YZ.out.2.trans (q9.mono YZ.out.2.size)
      have OL9 : Hid (OwnM w9 w''.heap.size 53 5 (.slice y1' (S.nl + 1) z1') (S.nl + 1) (nums S.l (k' * 5) ++ [a, s, 1, pr, un] ++ nums (fun p => S.l (k' * 5 + p)) ((S.nl - k') * 5))) := OZ.out.later q9
      have OC9 : Hid (OwnM w9 X1.heap.size 78 3 (.slice y0' ((j + (S.nc - (j + 1))) + 1) z0') ((j + (S.nc - (j + 1))) + 1) (nums (FC) (q' * 3) ++ [a, s, va] ++ nums (fun p => (FC) (q' * 3 + p)) (((j + (S.nc - (j + 1))) - q') * 3))) := O9
      clear O9 q9 hq' y0 y1 y2 y3 y4 r0 r1 r2 r3 f0 f1 f2 f3 t0 t1 t2 ft0 ft1 ft2
      obtain ⟨⟨t0, t1, t2⟩, ft0, ft1, ft2⟩ := T9.out
      go_upto_region 17 with fail
      have hks : ∀ i, i ≠ w4.heap.size → (w9.setCell ⟨w4.heap.size, 0, none⟩ (.slice y0' ((j + (S.nc - (j + 1))) + 1) z0')).heap[i]? = w9.heap[i]? := fun i hi => Below.heap_setCell w9 ⟨w4.heap.size, 0, none⟩ _ i hi
      have RY : Blk4 (w9.setCell ⟨w4.heap.size, 0, none⟩ (.slice y0' ((j + (S.nc - (j + 1))) + 1) z0')) (w.heap.size + 1) (.int .i64 0) (.slice none 0 0) (.slice none 0 0) (.slice none 0 0) := R9.out.kept (hks _ (by omega))
      have TY : Blk3 (w9.setCell ⟨w4.heap.size, 0, none⟩ (.slice y0' ((j + (S.nc - (j + 1))) + 1) z0')) w4.heap.size (.slice y0' ((j + (S.nc - (j + 1))) + 1) z0') (.slice y1' (S.nl + 1) z1') (.slice d2 S.nw e2) := T9.out.set0 _
      have BY : Hid (Below w.heap.size w (w9.setCell ⟨w4.heap.size, 0, none⟩ (.slice y0' ((j + (S.nc - (j + 1))) + 1) z0'))) := BW9.out.setCell (by show w.heap.size ≤ w4.heap.size; omega) _
      have B4Y : Hid (Below w4.heap.size w4 (w9.setCell ⟨w4.heap.size, 0, none⟩ (.slice y0' ((j + (S.nc - (j + 1))) + 1) z0'))) := B49.out.setCell (Nat.le_refl _) _
      have OLY : Hid (OwnM (w9.setCell ⟨w4.heap.size, 0, none⟩ (.slice y0' ((j + (S.nc - (j + 1))) + 1) z0')) w''.heap.size 53 5 (.slice y1' (S.nl + 1) z1') (S.nl + 1) (nums S.l (k' * 5) ++ [a, s, 1, pr, un] ++ nums (fun p => S.l (k' * 5 + p)) ((S.nl - k') * 5))) := OL9.out.far hz5.out _
      have OCY : Hid (OwnM (w9.setCell ⟨w4.heap.size, 0, none⟩ (.slice y0' ((j + (S.nc - (j + 1))) + 1) z0')) X1.heap.size 78 3 (.slice y0' ((j + (S.nc - (j + 1))) + 1) z0') ((j + (S.nc - (j + 1))) + 1) (nums (FC) (q' * 3) ++ [a, s, va] ++ nums (fun p => (FC) (q' * 3 + p)) (((j + (S.nc - (j + 1))) - q') * 3))) := OC9.out.far (by show w4.heap.size < _; have := hz5.out; have := zZ.out; omega) _
      generalize (w9.setCell ⟨w4.heap.size, 0, none⟩ (.slice y0' ((j + (S.nc - (j + 1))) + 1) z0')) = w8 at RY TY BY B4Y OLY OCY ⊢
      clear hks t0 t1 t2 ft0 ft1 ft2 R9 T9 B49 BW9 OL9 OC9
      obtain ⟨⟨r0, r1, r2, r3⟩, f0, f1, f2, f3⟩ := RY
      obtain ⟨⟨t0, t1, t2⟩, _⟩ := TY
      obtain rfl : k' = k := hk1.out.one HK.out.1
      obtain rfl : q' = q := by
        have hh : placeAt (aheadC (fun p => (unlC S.c a s S.nc).flatten.getD p 0) a s) (j + (S.nc - (j + 1))) q' := placeC_same HF.out hq1.out
        have h3 := HK.out.2
        rw [show (unlC S.c a s S.nc).length = j + (S.nc - (j + 1)) by have : (unlC S.c a s S.nc).length = S.nc - 1 := hone.out.1; omega] at h3
        exact hh.one h3
      have lenL : (nums S.l (k' * 5) ++ [a, s, 1, pr, un] ++ nums (fun p => S.l (k' * 5 + p)) ((S.nl - k') * 5)).length = (S.nl + 1) * 5 := by
        have := hk1.out.1
        rw [List.length_append, List.length_append, nums_length, nums_length]
        simp only [List.length_cons, List.length_nil]
        omega
      have lenC : (nums (FC) (q' * 3) ++ [a, s, va] ++ nums (fun p => (FC) (q' * 3 + p)) (((j + (S.nc - (j + 1))) - q') * 3)).length = ((j + (S.nc - (j + 1))) + 1) * 3 := by
        have := hq1.out.1
        rw [List.length_append, List.length_append, nums_length, nums_length]
        simp only [List.length_cons, List.length_nil]
        omega
      have HL8 : Hid (_ ∧ _) := (OLY.out.own lenL).row
      have HC8 : Hid (_ ∧ _) := (OCY.out.own lenC).row
      clear lenL lenC
      go_wp2
      have hN : (unlC S.c a s S.nc).length = j + (S.nc - (j + 1)) := by
        have : (unlC S.c a s S.nc).length = S.nc - 1 := hone.out.1
        omega
      have rC : Row w8 w3.heap.size 3 (j + (S.nc - (j + 1)) + 1) (insF (fun p => (unlC S.c a s S.nc).flatten.getD p 0) 3 (j + (S.nc - (j + 1))) q' [a, s, va]) (.slice y0' (j + (S.nc - (j + 1)) + 1) z0') := (HC8.out.1.congr (fun p hp => insF_flat (HF.out) hq1.out.1 p hp)).mono (by have := hz4.out; have := hz5.out; have := zX1.out; omega)
      have S8 : St w8 w3.heap.size (reputS S k' q' a s pr un va) (.slice y0' (j + (S.nc - (j + 1)) + 1) z0') (.slice y1' (S.nl + 1) z1') (.slice d2 S.nw e2) := by
        unfold reputS
        rw [hN]
        exact ⟨rC, HL8.out.1.mono (by have := hz4.out; have := hz5.out; omega), HS.out.1.1.2.2.later B4Y.out⟩
      have F8 : FreeS w8 (reputS S k' q' a s pr un va) (.slice y0' (j + (S.nc - (j + 1)) + 1) z0') (.slice y1' (S.nl + 1) z1') (.slice d2 S.nw e2) := by
        unfold reputS
        rw [hN]
        exact ⟨HC8.out.2, HL8.out.2, HS.out.1.2.2.2.ofRow HS.out.1.1.2.2 B4Y.out⟩
      have A8 : ApartD (reputS S k' q' a s pr un va) (.slice y0' (j + (S.nc - (j + 1)) + 1) z0') (.slice y1' (S.nl + 1) z1') (.slice d2 S.nw e2) := by
        have hi0 : ∀ q, (Value.slice y0' (j + (S.nc - (j + 1)) + 1) z0').ownBlock = some q → X1.heap.size ≤ q := fun q hq => (OCY.out.block q hq).1
        have hi1 := hobL.out
        refine ⟨fun _ _ e => ?_, fun _ hb e => ?_, fun _ hb e => ?_⟩
        · obtain ⟨g, o, hg, _⟩ := HC8.out.1.at (k := 0) (by omega)
          have h0 : (Value.slice y0' (j + (S.nc - (j + 1)) + 1) z0').ownBlock = some g := by rw [hg]; rfl
          have := hi0 g h0; have := (hi1 g (e ▸ h0)).2; have := zX1.out; omega
        · obtain ⟨g, o, hg, _⟩ := HC8.out.1.at (k := 0) (by omega)
          have h0 : (Value.slice y0' (j + (S.nc - (j + 1)) + 1) z0').ownBlock = some g := by rw [hg]; rfl
          have := hi0 g h0; have := (HS.out.1.1.2.2.lt hb g (e ▸ h0)).2; have := zX1.out; have := hz5.out; omega
        · obtain ⟨g, o, hg, _⟩ := HL8.out.1.at (k := 0) (by omega)
          have h0 : (Value.slice y1' (S.nl + 1) z1').ownBlock = some g := by rw [hg]; rfl
          have := (hi1 g h0).1; have := (HS.out.1.1.2.2.lt hb g (e ▸ h0)).2; have := hz5.out; omega
      have hlo : (w.heap.size + 1 : Nat) < w3.heap.size := by have := hz3.out; omega
      have hcl' : (reputS S k' q' a s pr un va).nc = j + (S.nc - (j + 1)) + 1 := by show (unlC S.c a s S.nc).length + 1 = _; rw [hN]
      refine bodyPost_ret (v := .agg #[.int .i64 0, .slice y0' (j + (S.nc - (j + 1)) + 1) z0', .slice y1' (S.nl + 1) z1', .slice d2 S.nw e2]) (by simp [results, Tryz.results21, go_sem, r0, r1, r2, r3]) rfl ?_
      refine ⟨y0', z0', y1', z1', d2, e2, ?_, ?_, (((BY.out.setCell (Nat.le_succ _) _).setCell (Nat.le_succ _) _).setCell (Nat.le_succ _) _).setCell (Nat.le_succ _) _⟩
      · rw [hcl']; rfl
      · rw [hcl']
        exact ⟨((((S8.far hlo _).far hlo _).far hlo _).far hlo _).mono (by omega), (((F8.far _ _).far _ _).far _ _).far _ _, A8⟩
    · go_simp
      refine hK.out _ _ trivial (fun hS => ?_)
      clear hK K
      refine wpAnyH_take (i := 4) (v := ?_) rfl (by kernel_rfl) (by kernel_rfl) (by kernel_rfl) (fun _ _ _ h => h) (Or.inl ⟨by kernel_rfl, ?_⟩) hS ?_
      rotate_left
      · intro wx hx
        go_simp
        try with_reducible rfl
      refine wpAnyH_ready (rs := [0]) (by kernel_rfl) (by simp) ?_
      refine AllReadyH.cons rfl (fun K hK => ?_) AllReadyH.nil
      go_simp
      refine hK.out _ _ trivial (fun hS => ?_)
      clear hK K
      refine wpAnyH_ready (rs := [5]) (by kernel_rfl) (by simp) ?_
      refine AllReadyH.cons rfl (fun K hK => ?_) AllReadyH.nil
      refine step_app 78 i0 (.agg #[.int .i64 0, .int .i64 0, .int .i64 0]) 3 24 (by rfl) _ _ 28 (by rfl) Tryz.underlying28 hi0 hz0 hz1 hz2 rfl (by omega) (by omega) _ X0.heap.size 0 [] (.slice (some ⟨X0.heap.size, 0, none⟩) 0 0) (by rfl) O0.out w3.heap.size j S.c (.slice (some ⟨cg, co, none⟩) j e0) (by rfl) (C0.out.head hj4 e0) (by omega) (by show X0.heap.size ≤ (World.alloc X0 _).heap.size; simp) ?_
      intro ao5 cp5 w7 O7 G7
      rw [Nat.zero_add, List.nil_append] at O7
      rw [show (0 : Nat) + j = j from Nat.zero_add j]
      have F2 : w7.cell? ⟨w4.heap.size, 0, none⟩ = some (.slice (some ⟨cg, co, none⟩) S.nc e0) := G7.cell F1 (fun q => by simp [Value.ownBlock] at q; omega)
      refine hK.out _ _ trivial (fun hS => ?_)
      clear hK K
      have C7 : Hid (Row w7 w3.heap.size 3 S.nc S.c (.slice (some ⟨cg, co, none⟩) S.nc e0)) := C0.out.turned G7 (fun h0 k hk q => by
        have h1 := (HS.out.1.1.1.lt h0 k hk).2
        rw [q] at hk
        simp [Value.ownBlock] at hk q
        omega)
      refine wpAnyH_ready (rs := [11]) (by kernel_rfl) (by simp) ?_
      refine AllReadyH.cons rfl (fun K hK => ?_) AllReadyH.nil
      refine step_app 78 i0 (.agg #[.int .i64 0, .int .i64 0, .int .i64 0]) 3 24 (by rfl) _ _ 28 (by rfl) Tryz.underlying28 hi0 hz0 hz1 hz2 rfl (by omega) (by omega) _ X0.heap.size j (nums S.c (j * 3)) (.slice ao5 j cp5) (by rfl) O7 w3.heap.size (S.nc - (j + 1)) (fun p => S.c ((j + 1) * 3 + p)) (.slice A (S.nc - (j + 1)) (e0 - (j + 1))) (by rfl) (hA ▸ C7.out.tailR (j + 1) g0) (by omega) (Nat.le_trans (by show X0.heap.size ≤ (World.alloc X0 _).heap.size; simp) G7.size) ?_
      intro ao6 cp6 wC O8 G8
      have keep : ∀ q, q < X0.heap.size → wC.heap[q]? = X0.heap[q]? := fun q hq => by
        have h1 : (X0.alloc (.cells #[] 78)).drew.heap[q]? = X0.heap[q]? := (below_alloc X0 (.cells #[] 78)).block q hq
        have h2 : w7.heap[q]? = (X0.alloc (.cells #[] 78)).drew.heap[q]? := G7.block q (by show q < (World.alloc X0 _).heap.size; simp; omega) (fun e => by simp [Value.ownBlock] at e; omega)
        have h3 : wC.heap[q]? = w7.heap[q]? := G8.block q (Nat.lt_of_lt_of_le (by show q < (World.alloc X0 _).heap.size; simp; omega) G7.size) (fun e => by have := (O7.block q e.symm).1; omega)
        exact h3.trans (h2.trans h1)
      have szC : X0.heap.size ≤ wC.heap.size := Nat.le_trans (Nat.le_trans (by show X0.heap.size ≤ (World.alloc X0 _).heap.size; simp) G7.size) G8.size
      have osC : wC.os = X0.os ∧ wC.tape = X0.tape ∧ wC.output = X0.output := ⟨G8.os.trans G7.os, G8.tape.trans G7.tape, G8.output.trans G7.output⟩
      have TC : Blk3 wC w4.heap.size (.slice (some ⟨cg, co, none⟩) S.nc e0) (.slice y1' (S.nl + 1) z1') (.slice d2 S.nw e2) := TZ.out.kept (keep _ zX0)
      refine hK.out _ _ trivial (fun hS => ?_)
      clear hK K
      refine wpAnyH_take (i := 12) (v := ?_) rfl (by kernel_rfl) (by kernel_rfl) (by kernel_rfl) (fun _ _ _ h => h) (Or.inl ⟨by kernel_rfl, ?_⟩) hS ?_
      rotate_left
      · intro wx hx
        go_simp
        try with_reducible rfl
      obtain ⟨⟨t0, t1, t2⟩, ft0, ft1, ft2⟩ := TC
      refine wpAnyH_ready (rs := [13]) (by kernel_rfl) (by simp) ?_
      refine AllReadyH.cons rfl (fun K hK => ?_) AllReadyH.nil
      go_simp
      refine hK.out _ _ trivial (fun hS => ?_)
      clear hK K
      have TC : Blk3 wC w4.heap.size (.slice (some ⟨cg, co, none⟩) S.nc e0) (.slice y1' (S.nl + 1) z1') (.slice d2 S.nw e2) := TZ.out.kept (keep _ zX0)
      have BC : Below X0.heap.size X0 wC := ⟨osC.1, osC.2.1, osC.2.2, szC, keep⟩
      have keepY : ∀ i, i < X0.heap.size → i ≠ w4.heap.size → (wC.setCell ⟨w4.heap.size, 0, none⟩ (.slice ao6 (j + (S.nc - (j + 1))) cp6)).heap[i]? = X0.heap[i]? := fun i hi hne => (Below.heap_setCell wC ⟨w4.heap.size, 0, none⟩ _ i hne).trans (keep i hi)
      have hx0 : w4.heap.size < X0.heap.size := zX0
      have YX1 : Hid (LkE w a s 1 pr un (wC.setCell ⟨w4.heap.size, 0, none⟩ (.slice ao6 (j + (S.nc - (j + 1))) cp6))) := ⟨⟨(cell_kept (keepY _ (by omega) (by omega)) 0).trans YZ.out.1.1, (cell_kept (keepY _ (by omega) (by omega)) 1).trans YZ.out.1.2.1, (cell_kept (keepY _ (by omega) (by omega)) 2).trans YZ.out.1.2.2.1, (cell_kept (keepY _ (by omega) (by omega)) 3).trans YZ.out.1.2.2.2.1, (cell_kept (keepY _ (by omega) (by omega)) 4).trans YZ.out.1.2.2.2.2⟩, (YZ.out.2.trans (BC.mono YZ.out.2.size)).setCell (by show w.heap.size ≤ w4.heap.size; omega) _⟩
      have RX1 : Hid (Blk4 (wC.setCell ⟨w4.heap.size, 0, none⟩ (.slice ao6 (j + (S.nc - (j + 1))) cp6)) (w.heap.size + 1) (.int .i64 0) (.slice none 0 0) (.slice none 0 0) (.slice none 0 0)) := RZ.out.kept (keepY _ (by omega) (by omega))
      have TX1 : Hid (Blk3 (wC.setCell ⟨w4.heap.size, 0, none⟩ (.slice ao6 (j + (S.nc - (j + 1))) cp6)) w4.heap.size (.slice ao6 (j + (S.nc - (j + 1))) cp6) (.slice y1' (S.nl + 1) z1') (.slice d2 S.nw e2)) := TC.set0 _
      have B4X1 : Hid (Below w4.heap.size w4 (wC.setCell ⟨w4.heap.size, 0, none⟩ (.slice ao6 (j + (S.nc - (j + 1))) cp6))) := (B4Z.out.trans (BC.mono (Nat.le_of_lt zX0))).setCell (Nat.le_refl _) _
      have OX1 : Hid (OwnM (wC.setCell ⟨w4.heap.size, 0, none⟩ (.slice ao6 (j + (S.nc - (j + 1))) cp6)) w''.heap.size 53 5 (.slice y1' (S.nl + 1) z1') (S.nl + 1) (nums S.l (k' * 5) ++ [a, s, 1, pr, un] ++ nums (fun p => S.l (k' * 5 + p)) ((S.nl - k') * 5))) := (OZ.out.later BC).far hz5.out _
      have OC : Hid (OwnM (wC.setCell ⟨w4.heap.size, 0, none⟩ (.slice ao6 (j + (S.nc - (j + 1))) cp6)) X0.heap.size 78 3 (.slice ao6 (j + (S.nc - (j + 1))) cp6) (j + (S.nc - (j + 1))) (nums S.c (j * 3) ++ nums (fun p => S.c ((j + 1) * 3 + p)) ((S.nc - (j + 1)) * 3))) := O8.far zX0 _
      have zX1 : Hid (w''.heap.size ≤ (wC.setCell ⟨w4.heap.size, 0, none⟩ (.slice ao6 (j + (S.nc - (j + 1))) cp6)).heap.size ∧ X0.heap.size ≤ (wC.setCell ⟨w4.heap.size, 0, none⟩ (.slice ao6 (j + (S.nc - (j + 1))) cp6)).heap.size) := by
        have h1 := zZ.out
        have h2 : X0.heap.size ≤ (wC.setCell ⟨w4.heap.size, 0, none⟩ (.slice ao6 (j + (S.nc - (j + 1))) cp6)).heap.size := by simpa [World.setCell] using szC
        exact ⟨by omega, h2⟩
      have hcap6 : j + (S.nc - (j + 1)) ≤ cp6 := O8.capM
      generalize wC.setCell ⟨w4.heap.size, 0, none⟩ (.slice ao6 (j + (S.nc - (j + 1))) cp6) = X1 at YX1 B4X1 RX1 TX1 OX1 OC zX1 ⊢
      clear YZ B4Z RZ TZ OZ F0 F1 F1d F0d F2 O0 C0 C7 O7 G7 O8 G8 keep keepY szC osC TC BC t0 t1 t2 ft0 ft1 ft2 zX0
      have YZ := YX1
      have B4Z := B4X1
      have RZ := RX1
      have TZ := TX1
      have OZ := OX1
      have zZ : Hid (w''.heap.size ≤ X1.heap.size) := zX1.out.1
      clear YX1 B4X1 RX1 TX1 OX1
      refine wpAnyH_done (by kernel_rfl) ?_ _
      obtain ⟨⟨y0, y1, y2, y3, y4⟩, _⟩ := YZ.out
      obtain ⟨⟨r0, r1, r2, r3⟩, f0, f1, f2, f3⟩ := RZ.out
      obtain ⟨⟨t0, t1, t2⟩, ft0, ft1, ft2⟩ := TZ.out
      go_simp
      go_wp2_with fail
      have lenC0 : (nums S.c (j * 3) ++ nums (fun p => S.c ((j + 1) * 3 + p)) ((S.nc - (j + 1)) * 3)).length = (j + (S.nc - (j + 1))) * 3 := by
        rw [List.length_append, nums_length, nums_length]
        omega
      have RC : Hid (Row X1 w3.heap.size 3 (j + (S.nc - (j + 1))) (fun p => (nums S.c (j * 3) ++ nums (fun p => S.c ((j + 1) * 3 + p)) ((S.nc - (j + 1)) * 3)).getD p 0) (.slice ao6 (j + (S.nc - (j + 1))) cp6)) := (OC.out.own lenC0).row.1.mono (by have := hz4.out; have := hz5.out; have := zX1.out.2; omega)
      clear lenC0
      obtain ⟨FC, hFC⟩ : ∃ FC : Nat → Int, (fun p => (nums S.c (j * 3) ++ nums (fun p => S.c ((j + 1) * 3 + p)) ((S.nc - (j + 1)) * 3)).getD p 0) = FC := ⟨_, rfl⟩
      rw [hFC] at RC
      have HF : Hid (∀ p, p < (j + (S.nc - (j + 1))) * 3 → FC p = (unlC S.c a s S.nc).flatten.getD p 0) := fun p hp => by
        rw [← hFC]
        exact (roll_cells hjn p (by omega)).trans (hone.out.2 p (by omega)).symm
      clear hFC OC
      refine (l2AddCell_any (j + (S.nc - (j + 1))) (FC) ao6 cp6 w3.heap.size a s va _ (RC.out) (by omega) hcap6).mono ?_
      rintro e w9 ⟨q', y0', z0', hq', rfl, O9, q9⟩
      have hq1 : Hid (placeAt (aheadC (FC) a s) (j + (S.nc - (j + 1))) q') := hq'
      have R9 : Hid (Blk4 w9 (w.heap.size + 1) (.int .i64 0) (.slice none 0 0) (.slice none 0 0) (.slice none 0 0)) := RZ.out.later q9
      have T9 : Hid (Blk3 w9 w4.heap.size (.slice ao6 (j + (S.nc - (j + 1))) cp6) (.slice y1' (S.nl + 1) z1') (.slice d2 S.nw e2)) := TZ.out.later q9
      have B49 : Hid (Below w4.heap.size w4 w9) := B4Z.out.trans (q9.mono B4Z.out.size)
      have BW9 : Hid (Below w.heap.size w w9) := YZ.out.2.trans (q9.mono YZ.out.2.size)
      have OL9 : Hid (OwnM w9 w''.heap.size 53 5 (.slice y1' (S.nl + 1) z1') (S.nl + 1) (nums S.l (k' * 5) ++ [a, s, 1, pr, un] ++ nums (fun p => S.l (k' * 5 + p)) ((S.nl - k') * 5))) := OZ.out.later q9
      have OC9 : Hid (OwnM w9 X1.heap.size 78 3 (.slice y0' ((j + (S.nc - (j + 1))) + 1) z0') ((j + (S.nc - (j + 1))) + 1) (nums (FC) (q' * 3) ++ [a, s, va] ++ nums (fun p => (FC) (q' * 3 + p)) (((j + (S.nc - (j + 1))) - q') * 3))) := O9
      clear O9 q9 hq' y0 y1 y2 y3 y4 r0 r1 r2 r3 f0 f1 f2 f3 t0 t1 t2 ft0 ft1 ft2
      obtain ⟨⟨t0, t1, t2⟩, ft0, ft1, ft2⟩ := T9.out
      go_upto_region 17 with fail
      have hks : ∀ i, i ≠ w4.heap.size → (w9.setCell ⟨w4.heap.size, 0, none⟩ (.slice y0' ((j + (S.nc - (j + 1))) + 1) z0')).heap[i]? = w9.heap[i]? := fun i hi => Below.heap_setCell w9 ⟨w4.heap.size, 0, none⟩ _ i hi
      have RY : Blk4 (w9.setCell ⟨w4.heap.size, 0, none⟩ (.slice y0' ((j + (S.nc - (j + 1))) + 1) z0')) (w.heap.size + 1) (.int .i64 0) (.slice none 0 0) (.slice none 0 0) (.slice none 0 0) := R9.out.kept (hks _ (by omega))
      have TY : Blk3 (w9.setCell ⟨w4.heap.size, 0, none⟩ (.slice y0' ((j + (S.nc - (j + 1))) + 1) z0')) w4.heap.size (.slice y0' ((j + (S.nc - (j + 1))) + 1) z0') (.slice y1' (S.nl + 1) z1') (.slice d2 S.nw e2) := T9.out.set0 _
      have BY : Hid (Below w.heap.size w (w9.setCell ⟨w4.heap.size, 0, none⟩ (.slice y0' ((j + (S.nc - (j + 1))) + 1) z0'))) := BW9.out.setCell (by show w.heap.size ≤ w4.heap.size; omega) _
      have B4Y : Hid (Below w4.heap.size w4 (w9.setCell ⟨w4.heap.size, 0, none⟩ (.slice y0' ((j + (S.nc - (j + 1))) + 1) z0'))) := B49.out.setCell (Nat.le_refl _) _
      have OLY : Hid (OwnM (w9.setCell ⟨w4.heap.size, 0, none⟩ (.slice y0' ((j + (S.nc - (j + 1))) + 1) z0')) w''.heap.size 53 5 (.slice y1' (S.nl + 1) z1') (S.nl + 1) (nums S.l (k' * 5) ++ [a, s, 1, pr, un] ++ nums (fun p => S.l (k' * 5 + p)) ((S.nl - k') * 5))) := OL9.out.far hz5.out _
      have OCY : Hid (OwnM (w9.setCell ⟨w4.heap.size, 0, none⟩ (.slice y0' ((j + (S.nc - (j + 1))) + 1) z0')) X1.heap.size 78 3 (.slice y0' ((j + (S.nc - (j + 1))) + 1) z0') ((j + (S.nc - (j + 1))) + 1) (nums (FC) (q' * 3) ++ [a, s, va] ++ nums (fun p => (FC) (q' * 3 + p)) (((j + (S.nc - (j + 1))) - q') * 3))) := OC9.out.far (by show w4.heap.size < _; have := hz5.out; have := zZ.out; omega) _
      generalize (w9.setCell ⟨w4.heap.size, 0, none⟩ (.slice y0' ((j + (S.nc - (j + 1))) + 1) z0')) = w8 at RY TY BY B4Y OLY OCY ⊢
      clear hks t0 t1 t2 ft0 ft1 ft2 R9 T9 B49 BW9 OL9 OC9
      obtain ⟨⟨r0, r1, r2, r3⟩, f0, f1, f2, f3⟩ := RY
      obtain ⟨⟨t0, t1, t2⟩, _⟩ := TY
      obtain rfl : k' = k := hk1.out.one HK.out.1
      obtain rfl : q' = q := by
        have hh : placeAt (aheadC (fun p => (unlC S.c a s S.nc).flatten.getD p 0) a s) (j + (S.nc - (j + 1))) q' := placeC_same HF.out hq1.out
        have h3 := HK.out.2
        rw [show (unlC S.c a s S.nc).length = j + (S.nc - (j + 1)) by have : (unlC S.c a s S.nc).length = S.nc - 1 := hone.out.1; omega] at h3
        exact hh.one h3
      have lenL : (nums S.l (k' * 5) ++ [a, s, 1, pr, un] ++ nums (fun p => S.l (k' * 5 + p)) ((S.nl - k') * 5)).length = (S.nl + 1) * 5 := by
        have := hk1.out.1
        rw [List.length_append, List.length_append, nums_length, nums_length]
        simp only [List.length_cons, List.length_nil]
        omega
      have lenC : (nums (FC) (q' * 3) ++ [a, s, va] ++ nums (fun p => (FC) (q' * 3 + p)) (((j + (S.nc - (j + 1))) - q') * 3)).length = ((j + (S.nc - (j + 1))) + 1) * 3 := by
        have := hq1.out.1
        rw [List.length_append, List.length_append, nums_length, nums_length]
        simp only [List.length_cons, List.length_nil]
        omega
      have HL8 : Hid (_ ∧ _) := (OLY.out.own lenL).row
      have HC8 : Hid (_ ∧ _) := (OCY.out.own lenC).row
      clear lenL lenC
      go_wp2
      have hN : (unlC S.c a s S.nc).length = j + (S.nc - (j + 1)) := by
        have : (unlC S.c a s S.nc).length = S.nc - 1 := hone.out.1
        omega
      have rC : Row w8 w3.heap.size 3 (j + (S.nc - (j + 1)) + 1) (insF (fun p => (unlC S.c a s S.nc).flatten.getD p 0) 3 (j + (S.nc - (j + 1))) q' [a, s, va]) (.slice y0' (j + (S.nc - (j + 1)) + 1) z0') := (HC8.out.1.congr (fun p hp => insF_flat (HF.out) hq1.out.1 p hp)).mono (by have := hz4.out; have := hz5.out; have := zX1.out; omega)
      have S8 : St w8 w3.heap.size (reputS S k' q' a s pr un va) (.slice y0' (j + (S.nc - (j + 1)) + 1) z0') (.slice y1' (S.nl + 1) z1') (.slice d2 S.nw e2) := by
        unfold reputS
        rw [hN]
        exact ⟨rC, HL8.out.1.mono (by have := hz4.out; have := hz5.out; omega), HS.out.1.1.2.2.later B4Y.out⟩
      have F8 : FreeS w8 (reputS S k' q' a s pr un va) (.slice y0' (j + (S.nc - (j + 1)) + 1) z0') (.slice y1' (S.nl + 1) z1') (.slice d2 S.nw e2) := by
        unfold reputS
        rw [hN]
        exact ⟨HC8.out.2, HL8.out.2, HS.out.1.2.2.2.ofRow HS.out.1.1.2.2 B4Y.out⟩
      have A8 : ApartD (reputS S k' q' a s pr un va) (.slice y0' (j + (S.nc - (j + 1)) + 1) z0') (.slice y1' (S.nl + 1) z1') (.slice d2 S.nw e2) := by
        have hi0 : ∀ q, (Value.slice y0' (j + (S.nc - (j + 1)) + 1) z0').ownBlock = some q → X1.heap.size ≤ q := fun q hq => (OCY.out.block q hq).1
        have hi1 := hobL.out
        refine ⟨fun _ _ e => ?_, fun _ hb e => ?_, fun _ hb e => ?_⟩
        · obtain ⟨g, o, hg, _⟩ := HC8.out.1.at (k := 0) (by omega)
          have h0 : (Value.slice y0' (j + (S.nc - (j + 1)) + 1) z0').ownBlock = some g := by rw [hg]; rfl
          have := hi0 g h0; have := (hi1 g (e ▸ h0)).2; have := zX1.out; omega
        · obtain ⟨g, o, hg, _⟩ := HC8.out.1.at (k := 0) (by omega)
          have h0 : (Value.slice y0' (j + (S.nc - (j + 1)) + 1) z0').ownBlock = some g := by rw [hg]; rfl
          have := hi0 g h0; have := (HS.out.1.1.2.2.lt hb g (e ▸ h0)).2; have := zX1.out; have := hz5.out; omega
        · obtain ⟨g, o, hg, _⟩ := HL8.out.1.at (k := 0) (by omega)
          have h0 : (Value.slice y1' (S.nl + 1) z1').ownBlock = some g := by rw [hg]; rfl
          have := (hi1 g h0).1; have := (HS.out.1.1.2.2.lt hb g (e ▸ h0)).2; have := hz5.out; omega
      have hlo : (w.heap.size + 1 : Nat) < w3.heap.size := by have := hz3.out; omega
      have hcl' : (reputS S k' q' a s pr un va).nc = j + (S.nc - (j + 1)) + 1 := by show (unlC S.c a s S.nc).length + 1 = _; rw [hN]
      refine bodyPost_ret (v := .agg #[.int .i64 0, .slice y0' (j + (S.nc - (j + 1)) + 1) z0', .slice y1' (S.nl + 1) z1', .slice d2 S.nw e2]) (by simp [results, Tryz.results21, go_sem, r0, r1, r2, r3]) rfl ?_
      refine ⟨y0', z0', y1', z1', d2, e2, ?_, ?_, (((BY.out.setCell (Nat.le_succ _) _).setCell (Nat.le_succ _) _).setCell (Nat.le_succ _) _).setCell (Nat.le_succ _) _⟩
      · rw [hcl']; rfl
      · rw [hcl']
        exact ⟨((((S8.far hlo _).far hlo _).far hlo _).far hlo _).mono (by omega), (((F8.far _ _).far _ _).far _ _).far _ _, A8⟩
end Go.Proofs.YtkbjlnnincknaaaGreatDoor
