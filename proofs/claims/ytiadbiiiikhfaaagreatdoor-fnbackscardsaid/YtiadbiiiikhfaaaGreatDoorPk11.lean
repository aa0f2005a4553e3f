/-
 Own text, merged of DrawF, ColD, BckL, BckW.
-/
import Derived.Test.YtiadbiiiikhfaaaGreatDoorPk10
namespace Go.Proofs.YtiadbiiiikhfaaaGreatDoor
open Go.RowKit

set_option maxRecDepth 100000 in
set_option maxHeartbeats 16000000 in
theorem l3With_any (w : World) (o : Option Addr) (len cap : Nat) (h : Code w o len) (hl : len ≤ 1048576) :
  Calls Tryz.prog 26 #[.slice o len cap] w fun e w' => ∃ (S : Sto) (a0 : Option Addr) (c0 : Nat) (a1 : Option Addr) (c1 : Nat) (a2 : Option Addr) (c2 : Nat) (key ts : Int), e = .returned (.tuple #[.agg #[.slice a0 S.nc c0, .slice a1 S.nl c1, .slice a2 S.nw c2], .int .i64 key, .int .i64 ts]) ∧ Sz2 S ∧ St w' w.heap.size S (.slice a0 S.nc c0) (.slice a1 S.nl c1) (.slice a2 S.nw c2) ∧ Below w.heap.size w w' ∧ (storeF S = 0 → Wf ts) := by
 have H0 : Hid (Code w o len) := h
 clear h
 go_enter Tryz.func26, Tryz.ntmps26
 go_wp2_with fail
 try dsimp only
 refine (l1Source_any (w.alloc (.cells #[.slice none 0 0, .slice none 0 0, .slice none 0 0] 28)) o len cap (H0.out.later (below_alloc _ _))).mono ?_
 rintro e w1 ⟨rfl, hs1, hb1, hz1⟩
 have hb0 : (w.alloc (.cells #[.slice none 0 0, .slice none 0 0, .slice none 0 0] 28)).heap.size = w.heap.size + 1 := by simp
 have hB1 : Below w.heap.size w w1 := (below_alloc w _).trans (hb1.mono (by omega))
 have hR1 : Blk3 w1 w.heap.size (.slice none 0 0) (.slice none 0 0) (.slice none 0 0) := (Blk3.new w (.slice none 0 0) (.slice none 0 0) (.slice none 0 0) 28).later hb1
 rw [hb0] at hs1 hz1
 clear hb0 hb1
 go_wp2_with fail
 try dsimp only
 obtain ⟨b, hb0⟩ : ∃ b, b = w.heap.size + 1 := ⟨_, rfl⟩
 rw [← hb0] at hs1 hz1 ⊢
 have HB0 : Hid (b = w.heap.size + 1 ∧ w1.heap.size = b + 1) := ⟨hb0, hz1⟩
 clear hb0 hz1
 have HH := l3Bent_any w1 b o len cap 0 hs1 (by omega) hl
 refine HH.mono ?_
 clear HH
 rintro e w2 ⟨S, a0, c0, a1, c1, a2, c2, z, rfl, ⟨hZ, hz⟩, hst, hS2, hT2⟩
 have hz0 := hS2.pos
 have hb0 := HB0.out.1
 have hz1 := HB0.out.2
 have hwb : w.heap.size < b := by omega
 have HD : Hid (DrX w b o len cap w2.heap.size S (.slice a0 S.nc c0) (.slice a1 S.nl c1) (.slice a2 S.nw c2) z (w2.alloc (.cells #[.slice a0 S.nc c0, .slice a1 S.nl c1, .slice a2 S.nw c2] 28))) := {
  src := hS2.alloc _
  bel := (Below.but hB1 hT2 hB1.size (by omega)).alloc (by have := hB1.size; have := hT2.size; omega) _
  res := (hR1.butS hT2 (by omega)).alloc _
  box := Blk3.new w2 _ _ _ _
  st := (hst.mono (by omega)).alloc _
  sz := hZ
  lo := by omega
  bl := by have := hS2.lt; omega
  base := ⟨w1, 0, hs1, hT2.alloc _, by have := hT2.size; omega⟩ }
 clear hst hS2 hT2 hZ hB1 hR1 hs1 hb0 hz1 HB0
 go_wp2_with fail
 generalize w2.alloc (.cells #[.slice a0 S.nc c0, .slice a1 S.nl c1, .slice a2 S.nw c2] 28) = w3 at HD ⊢
 obtain ⟨bx, hbx⟩ : ∃ bx, w2.heap.size = bx := ⟨_, rfl⟩
 rw [hbx] at HD ⊢
 clear hbx
 refine (l1Key_any _ b o len cap z HD.out.src (by omega) hl).mono ?_
 rintro e w4 ⟨key, rfl, _, hS4, hT4⟩
 have HD : Hid (DrX w b o len cap bx S (.slice a0 S.nc c0) (.slice a1 S.nl c1) (.slice a2 S.nw c2) (z + 5) w4) := HD.out.step hT4 hS4
 clear hS4 hT4
 go_wp2_with fail
 refine (l1Next_any _ b o len cap (z + 5) 40 HD.out.src (by omega) hl).mono ?_
 rintro e w5 ⟨t, rfl, t0, t1, hS5, hT5⟩
 have t1 := t1 (by decide)
 have HD : Hid (DrX w b o len cap bx S (.slice a0 S.nc c0) (.slice a1 S.nl c1) (.slice a2 S.nw c2) (z + 5 + 1) w5) := HD.out.step hT5 hS5
 clear hS5 hT5
 go_wp2_with fail
 obtain ⟨ts, hts⟩ : ∃ ts, ts = 1 + t := ⟨_, rfl⟩
 rw [← hts]
 have HT : Hid (1 ≤ ts ∧ ts ≤ 40) := (by omega : 1 ≤ ts ∧ ts ≤ 40)
 clear hts
 refine (l1Next_any _ b o len cap (z + 5 + 1) 5 HD.out.src (by omega) hl).mono ?_
 rintro e w6 ⟨sw, rfl, s0, s1, hS6, hT6⟩
 have HD : Hid (DrX w b o len cap bx S (.slice a0 S.nc c0) (.slice a1 S.nl c1) (.slice a2 S.nw c2) (z + 5 + 1 + 1) w6) := HD.out.step hT6 hS6
 clear hS6 hT6 t0 t1
 have s1 := s1 (by decide)
 go_upto_block 0 with fail
 go_cut [6] (fun s wx => s = .pointer (some ⟨bx, 0, none⟩) ∧ ∃ e : Int, (0 ≤ e ∧ e ≤ 900) ∧ Hid (DrX w b o len cap bx S (.slice a0 S.nc c0) (.slice a1 S.nl c1) (.slice a2 S.nw c2) e wx))
 case first =>
  have hsw : sw = 0 ∨ sw = 1 ∨ sw = 2 ∨ sw = 3 ∨ sw = 4 := by omega
  rcases hsw with rfl | rfl | rfl | rfl | rfl
  iterate 2
   ·by_cases hnl : 0 < S.nl
    ·have dn : decide (0 < S.nl) = true := decide_eq_true hnl
     obtain ⟨⟨t0, t1, t2⟩, _⟩ := HD.out.box
     obtain ⟨g, oo, rfl, _⟩ := HD.out.st.2.1.at hnl
     go_wp2_with fail
     clear t0 t1 t2 dn
     refine wp_region_held_drew (S := BoxS bx (.slice a0 S.nc c0) (.slice (some ⟨g, oo, none⟩) S.nl c1) (.slice a2 S.nw c2)) (by kernel_rfl) (HD.out.box.kept rfl) (fun hS => ?_)
     have HD : Hid (DrX w b o len cap bx S (.slice a0 S.nc c0) (.slice (some ⟨g, oo, none⟩) S.nl c1) (.slice a2 S.nw c2) (z + 5 + 1 + 1) w6.drew) := HD.out.later (below_dr (Below.refl _ _) 1)
     generalize w6.drew = y0 at HD hS ⊢
     refine tkH 0 ?_ hS (fun wx hx => ?_) ?_; rotate_left
     ·obtain ⟨⟨hx0, hx1, hx2⟩, _⟩ := hx; go_simp; try with_reducible rfl
     refine tkH 1 ?_ hS (fun wx hx => ?_) ?_; rotate_left
     ·obtain ⟨⟨hx0, hx1, hx2⟩, _⟩ := hx; go_simp; try with_reducible rfl
     refine tkH 2 ?_ hS (fun wx hx => ?_) ?_; rotate_left
     ·obtain ⟨⟨hx0, hx1, hx2⟩, _⟩ := hx; go_simp; try with_reducible rfl
     refine tkH 3 ?_ hS (fun wx hx => ?_) ?_; rotate_left
     ·obtain ⟨⟨hx0, hx1, hx2⟩, _⟩ := hx; go_simp; try with_reducible rfl
     refine tkH 4 ?_ hS (fun wx hx => ?_) ?_; rotate_left
     ·obtain ⟨⟨hx0, hx1, hx2⟩, _⟩ := hx; go_simp; try with_reducible rfl
     refine tkH 5 ?_ hS (fun wx hx => ?_) ?_; rotate_left
     ·obtain ⟨⟨hx0, hx1, hx2⟩, _⟩ := hx; go_simp; try with_reducible rfl
     simp only [Act.put, List.getElem_toArray, List.getElem_cons_zero, List.getElem_cons_succ, List.setIfInBounds_toArray, List.set_cons_succ, List.set_cons_zero]
     refine wpAnyH_ready (rs := [6, 9]) (by kernel_rfl) (by simp) ?_
     refine AllReadyH.cons rfl ?_ (AllReadyH.cons rfl ?_ AllReadyH.nil)
     ·intro K hK
      go_simp
      go_wp2_with fail
      refine (l1Next_any _ b o len cap (z + 5 + 1 + 1) S.nl HD.out.src (by omega) hl).mono ?_
      rintro e y1 ⟨ri, rfl, ri0, ri1, hS1, hT1⟩
      have ri1 := ri1 (by omega)
      obtain ⟨k, rfl⟩ : ∃ k : Nat, ri = k := ⟨ri.toNat, by omega⟩
      have hk : k < S.nl := by omega
      have HD : Hid (DrX w b o len cap bx S (.slice a0 S.nc c0) (.slice (some ⟨g, oo, none⟩) S.nl c1) (.slice a2 S.nw c2) (z + 5 + 1 + 1 + 1) y1) := HD.out.step hT1 hS1
      have hS' : BoxS bx (.slice a0 S.nc c0) (.slice (some ⟨g, oo, none⟩) S.nl c1) (.slice a2 S.nw c2) y1 := HD.out.box
      clear hS1 hT1 ri0 ri1
      go_wp2_with fail
      refine hK.out _ _ hS' (fun hS => ?_)
      clear hK K hS'
      refine tkH 7 ?_ hS (fun wx hx => ?_) ?_; rotate_left
      ·obtain ⟨⟨hx0, hx1, hx2⟩, _⟩ := hx; go_simp; try with_reducible rfl
      simp only [Act.put, List.getElem_toArray, List.getElem_cons_zero, List.getElem_cons_succ, List.setIfInBounds_toArray, List.set_cons_succ, List.set_cons_zero]
      refine wpAnyH_ready (rs := [8, 9]) (by kernel_rfl) (by simp) ?_
      refine AllReadyH.cons rfl ?_ (AllReadyH.cons rfl ?_ AllReadyH.nil)
      ·intro K hK
       obtain ⟨g', oo', eg, _, _, k0, k1, k2, k3, k4⟩ := HD.out.st.2.1.at5 hk
       obtain ⟨rfl, rfl⟩ : g = g' ∧ oo = oo' := by simpa using eg
       go_simp
       refine hK.out _ _ hS (fun hS => ?_)
       clear hK K k0 k1 k2 k3 k4 eg
       refine rdH 9 (fun K hK => ?_)
       go_simp
       have KB : Hid (Blk5 (y1.alloc (.cells #[.int .i64 0, .int .i64 0, .int .i64 0, .int .i64 0, .int .i64 0] 40)) y1.heap.size (.int .i64 0) (.int .i64 0) (.int .i64 0) (.int .i64 0) (.int .i64 0) ∧ OwnIn S (.slice a0 S.nc c0) (.slice (some ⟨g, oo, none⟩) S.nl c1) (.slice a2 S.nw c2) (fun k => k < y1.heap.size) ∧ bx < y1.heap.size) := ⟨Blk5.new _ _ _ _ _ _ _, HD.out.st.ownIn.mono (fun k hk => hk.2), HD.out.box.lt⟩
       have HD : Hid (DrX w b o len cap bx S (.slice a0 S.nc c0) (.slice (some ⟨g, oo, none⟩) S.nl c1) (.slice a2 S.nw c2) (z + 5 + 1 + 1 + 1) (y1.alloc (.cells #[.int .i64 0, .int .i64 0, .int .i64 0, .int .i64 0, .int .i64 0] 40))) := HD.out.later (below_alloc _ _)
       refine hK.out _ _ (show BoxS _ _ _ _ _ from hS.alloc _) (fun hS => ?_)
       clear hK K
       generalize y1.alloc (.cells #[.int .i64 0, .int .i64 0, .int .i64 0, .int .i64 0, .int .i64 0] 40) = y2 at HD KB hS ⊢
       obtain ⟨kb, hkb⟩ : ∃ kb, y1.heap.size = kb := ⟨_, rfl⟩
       rw [hkb] at KB ⊢
       clear hkb
       refine rdH 10 (fun K hK => ?_)
       have HP : Hid (storeF S = 0 → Wf (S.l (k * 5 + 1))) := fun hz => wf_lockS hz hk
       obtain ⟨⟨e0, e1, e2, e3, e4⟩, f0, f1, f2, f3, f4⟩ := KB.out.1
       go_simp
       have HF : Hid (DrX w b o len cap bx S (.slice a0 S.nc c0) (.slice (some ⟨g, oo, none⟩) S.nl c1) (.slice a2 S.nw c2) (z + 5 + 1 + 1 + 1) (((((y2.setCell ⟨kb, 0, none⟩ (.int .i64 (S.l (k * 5)))).setCell ⟨kb, 1, none⟩ (.int .i64 (S.l (k * 5 + 1)))).setCell ⟨kb, 2, none⟩ (.int .i64 (S.l (k * 5 + 2)))).setCell ⟨kb, 3, none⟩ (.int .i64 (S.l (k * 5 + 3)))).setCell ⟨kb, 4, none⟩ (.int .i64 (S.l (k * 5 + 4)))) ∧ Blk5 (((((y2.setCell ⟨kb, 0, none⟩ (.int .i64 (S.l (k * 5)))).setCell ⟨kb, 1, none⟩ (.int .i64 (S.l (k * 5 + 1)))).setCell ⟨kb, 2, none⟩ (.int .i64 (S.l (k * 5 + 2)))).setCell ⟨kb, 3, none⟩ (.int .i64 (S.l (k * 5 + 3)))).setCell ⟨kb, 4, none⟩ (.int .i64 (S.l (k * 5 + 4)))) kb (.int .i64 (S.l (k * 5))) (.int .i64 (S.l (k * 5 + 1))) (.int .i64 (S.l (k * 5 + 2))) (.int .i64 (S.l (k * 5 + 3))) (.int .i64 (S.l (k * 5 + 4)))) := ⟨((((HD.out.setK KB.out.2.1 KB.out.2.2 _ _).setK KB.out.2.1 KB.out.2.2 _ _).setK KB.out.2.1 KB.out.2.2 _ _).setK KB.out.2.1 KB.out.2.2 _ _).setK KB.out.2.1 KB.out.2.2 _ _, KB.out.1.put _ _ _ _ _⟩
       refine hK.out _ _ (show BoxS _ _ _ _ _ from HF.out.1.box) (fun hS => ?_)
       clear hK K
       have HKB : Hid (w.heap.size < kb) := by have := KB.out.2.2; have := HD.out.bl; have := HD.out.lo; exact (by omega : w.heap.size < kb)
       refine wpAnyH_done (by kernel_rfl) ?_ _
       clear hS e0 e1 e2 e3 e4 f0 f1 f2 f3 f4 KB HD
       go_simp
       generalize (((((y2.setCell ⟨kb, 0, none⟩ (.int .i64 (S.l (k * 5)))).setCell ⟨kb, 1, none⟩ (.int .i64 (S.l (k * 5 + 1)))).setCell ⟨kb, 2, none⟩ (.int .i64 (S.l (k * 5 + 2)))).setCell ⟨kb, 3, none⟩ (.int .i64 (S.l (k * 5 + 3)))).setCell ⟨kb, 4, none⟩ (.int .i64 (S.l (k * 5 + 4)))) = yk at HF ⊢
       go_wp2_with fail
       refine wp_region_held_drew (S := fun x => BoxS bx (.slice a0 S.nc c0) (.slice (some ⟨g, oo, none⟩) S.nl c1) (.slice a2 S.nw c2) x ∧ Blk5 x kb (.int .i64 (S.l (k * 5))) (.int .i64 (S.l (k * 5 + 1))) (.int .i64 (S.l (k * 5 + 2))) (.int .i64 (S.l (k * 5 + 3))) (.int .i64 (S.l (k * 5 + 4)))) (by kernel_rfl) ⟨HF.out.1.box.kept rfl, HF.out.2.kept rfl⟩ (fun hS => ?_)
       have HD : Hid (DrX w b o len cap bx S (.slice a0 S.nc c0) (.slice (some ⟨g, oo, none⟩) S.nl c1) (.slice a2 S.nw c2) (z + 5 + 1 + 1 + 1) yk.drew) := HF.out.1.later (below_dr (Below.refl _ _) 1)
       clear HF
       generalize yk.drew = yd at HD hS ⊢
       refine tkH 0 ?_ hS (fun wx hx => ?_) ?_; rotate_left
       ·obtain ⟨⟨⟨hx0, hx1, hx2⟩, _⟩, ⟨hy0, hy1, hy2, hy3, hy4⟩, _⟩ := hx; go_simp; try with_reducible rfl
       refine tkH 1 ?_ hS (fun wx hx => ?_) ?_; rotate_left
       ·obtain ⟨⟨⟨hx0, hx1, hx2⟩, _⟩, ⟨hy0, hy1, hy2, hy3, hy4⟩, _⟩ := hx; go_simp; try with_reducible rfl
       refine tkH 2 ?_ hS (fun wx hx => ?_) ?_; rotate_left
       ·obtain ⟨⟨⟨hx0, hx1, hx2⟩, _⟩, ⟨hy0, hy1, hy2, hy3, hy4⟩, _⟩ := hx; go_simp; try with_reducible rfl
       refine tkH 3 ?_ hS (fun wx hx => ?_) ?_; rotate_left
       ·obtain ⟨⟨⟨hx0, hx1, hx2⟩, _⟩, ⟨hy0, hy1, hy2, hy3, hy4⟩, _⟩ := hx; go_simp; try with_reducible rfl
       refine tkH 4 ?_ hS (fun wx hx => ?_) ?_; rotate_left
       ·obtain ⟨⟨⟨hx0, hx1, hx2⟩, _⟩, ⟨hy0, hy1, hy2, hy3, hy4⟩, _⟩ := hx; go_simp; try with_reducible rfl
       simp only [Act.put, List.getElem_toArray, List.getElem_cons_zero, List.getElem_cons_succ, List.setIfInBounds_toArray, List.set_cons_succ, List.set_cons_zero]
       obtain ⟨⟨r0, r1, r2⟩, f0, f1, f2⟩ := HD.out.res
       refine rdH 5 (fun K hK => ?_)
       go_simp
       have HO := hid_mk (DrX.out HD.out (.slice a0 S.nc c0) (.slice (some ⟨g, oo, none⟩) S.nl c1) (.slice a2 S.nw c2))
       have HZ := hid_mk HD.out.sz
       have hB5 : Blk5 (((yd.setCell ⟨w.heap.size, 0, none⟩ (.slice a0 S.nc c0)).setCell ⟨w.heap.size, 1, none⟩ (.slice (some ⟨g, oo, none⟩) S.nl c1)).setCell ⟨w.heap.size, 2, none⟩ (.slice a2 S.nw c2)) kb (.int .i64 (S.l (k * 5))) (.int .i64 (S.l (k * 5 + 1))) (.int .i64 (S.l (k * 5 + 2))) (.int .i64 (S.l (k * 5 + 3))) (.int .i64 (S.l (k * 5 + 4))) := (((hS.2.kept (Below.heap_setCell _ _ _ _ (by show kb ≠ w.heap.size; have := HKB.out; omega))).kept (Below.heap_setCell _ _ _ _ (by show kb ≠ w.heap.size; have := HKB.out; omega))).kept (Below.heap_setCell _ _ _ _ (by show kb ≠ w.heap.size; have := HKB.out; omega)))
       refine hK.out _ _ ⟨HO.out.1, hB5⟩ (fun hS => ?_)
       clear hK K r0 r1 r2 f0 f1 f2 HD hB5
       generalize (((yd.setCell ⟨w.heap.size, 0, none⟩ (.slice a0 S.nc c0)).setCell ⟨w.heap.size, 1, none⟩ (.slice (some ⟨g, oo, none⟩) S.nl c1)).setCell ⟨w.heap.size, 2, none⟩ (.slice a2 S.nw c2)) = yz at HO hS ⊢
       refine tkH 6 ?_ hS (fun wx hx => ?_) ?_; rotate_left
       ·obtain ⟨⟨⟨hx0, hx1, hx2⟩, _⟩, ⟨hy0, hy1, hy2, hy3, hy4⟩, _⟩ := hx; go_simp; try with_reducible rfl
       refine tkH 7 ?_ hS (fun wx hx => ?_) ?_; rotate_left
       ·obtain ⟨⟨⟨hx0, hx1, hx2⟩, _⟩, ⟨hy0, hy1, hy2, hy3, hy4⟩, _⟩ := hx; go_simp; try with_reducible rfl
       refine wpAnyH_done (by kernel_rfl) ?_ _
       go_simp
       obtain ⟨⟨q0, q1, q2⟩, _⟩ := HO.out.2.1
       go_wp2
       refine bodyPost_ret (v := .tuple #[.agg #[.slice a0 S.nc c0, .slice (some ⟨g, oo, none⟩) S.nl c1, .slice a2 S.nw c2], .int .i64 (S.l (k * 5)), .int .i64 (S.l (k * 5 + 1))]) (by simp [results, Tryz.results26, go_sem, q0, q1, q2]) rfl ⟨S, a0, c0, some ⟨g, oo, none⟩, c1, a2, c2, S.l (k * 5), S.l (k * 5 + 1), rfl, HZ.out, HO.out.2.2.1, HO.out.2.2.2, HP.out⟩
      ·intro K hK
       go_simp
       have KB : Hid (Blk5 (y1.alloc (.cells #[.int .i64 0, .int .i64 0, .int .i64 0, .int .i64 0, .int .i64 0] 40)) y1.heap.size (.int .i64 0) (.int .i64 0) (.int .i64 0) (.int .i64 0) (.int .i64 0) ∧ OwnIn S (.slice a0 S.nc c0) (.slice (some ⟨g, oo, none⟩) S.nl c1) (.slice a2 S.nw c2) (fun k => k < y1.heap.size) ∧ bx < y1.heap.size) := ⟨Blk5.new _ _ _ _ _ _ _, HD.out.st.ownIn.mono (fun k hk => hk.2), HD.out.box.lt⟩
       have HD : Hid (DrX w b o len cap bx S (.slice a0 S.nc c0) (.slice (some ⟨g, oo, none⟩) S.nl c1) (.slice a2 S.nw c2) (z + 5 + 1 + 1 + 1) (y1.alloc (.cells #[.int .i64 0, .int .i64 0, .int .i64 0, .int .i64 0, .int .i64 0] 40))) := HD.out.later (below_alloc _ _)
       refine hK.out _ _ (show BoxS _ _ _ _ _ from hS.alloc _) (fun hS => ?_)
       clear hK K
       generalize y1.alloc (.cells #[.int .i64 0, .int .i64 0, .int .i64 0, .int .i64 0, .int .i64 0] 40) = y2 at HD KB hS ⊢
       obtain ⟨kb, hkb⟩ : ∃ kb, y1.heap.size = kb := ⟨_, rfl⟩
       rw [hkb] at KB ⊢
       clear hkb
       refine rdH 8 (fun K hK => ?_)
       obtain ⟨g', oo', eg, _, _, k0, k1, k2, k3, k4⟩ := HD.out.st.2.1.at5 hk
       obtain ⟨rfl, rfl⟩ : g = g' ∧ oo = oo' := by simpa using eg
       go_simp
       refine hK.out _ _ hS (fun hS => ?_)
       clear hK K k0 k1 k2 k3 k4 eg
       refine rdH 10 (fun K hK => ?_)
       have HP : Hid (storeF S = 0 → Wf (S.l (k * 5 + 1))) := fun hz => wf_lockS hz hk
       obtain ⟨⟨e0, e1, e2, e3, e4⟩, f0, f1, f2, f3, f4⟩ := KB.out.1
       go_simp
       have HF : Hid (DrX w b o len cap bx S (.slice a0 S.nc c0) (.slice (some ⟨g, oo, none⟩) S.nl c1) (.slice a2 S.nw c2) (z + 5 + 1 + 1 + 1) (((((y2.setCell ⟨kb, 0, none⟩ (.int .i64 (S.l (k * 5)))).setCell ⟨kb, 1, none⟩ (.int .i64 (S.l (k * 5 + 1)))).setCell ⟨kb, 2, none⟩ (.int .i64 (S.l (k * 5 + 2)))).setCell ⟨kb, 3, none⟩ (.int .i64 (S.l (k * 5 + 3)))).setCell ⟨kb, 4, none⟩ (.int .i64 (S.l (k * 5 + 4)))) ∧ Blk5 (((((y2.setCell ⟨kb, 0, none⟩ (.int .i64 (S.l (k * 5)))).setCell ⟨kb, 1, none⟩ (.int .i64 (S.l (k * 5 + 1)))).setCell ⟨kb, 2, none⟩ (.int .i64 (S.l (k * 5 + 2)))).setCell ⟨kb, 3, none⟩ (.int .i64 (S.l (k * 5 + 3)))).setCell ⟨kb, 4, none⟩ (.int .i64 (S.l (k * 5 + 4)))) kb (.int .i64 (S.l (k * 5))) (.int .i64 (S.l (k * 5 + 1))) (.int .i64 (S.l (k * 5 + 2))) (.int .i64 (S.l (k * 5 + 3))) (.int .i64 (S.l (k * 5 + 4)))) := ⟨((((HD.out.setK KB.out.2.1 KB.out.2.2 _ _).setK KB.out.2.1 KB.out.2.2 _ _).setK KB.out.2.1 KB.out.2.2 _ _).setK KB.out.2.1 KB.out.2.2 _ _).setK KB.out.2.1 KB.out.2.2 _ _, KB.out.1.put _ _ _ _ _⟩
       refine hK.out _ _ (show BoxS _ _ _ _ _ from HF.out.1.box) (fun hS => ?_)
       clear hK K
       have HKB : Hid (w.heap.size < kb) := by have := KB.out.2.2; have := HD.out.bl; have := HD.out.lo; exact (by omega : w.heap.size < kb)
       refine wpAnyH_done (by kernel_rfl) ?_ _
       clear hS e0 e1 e2 e3 e4 f0 f1 f2 f3 f4 KB HD
       go_simp
       generalize (((((y2.setCell ⟨kb, 0, none⟩ (.int .i64 (S.l (k * 5)))).setCell ⟨kb, 1, none⟩ (.int .i64 (S.l (k * 5 + 1)))).setCell ⟨kb, 2, none⟩ (.int .i64 (S.l (k * 5 + 2)))).setCell ⟨kb, 3, none⟩ (.int .i64 (S.l (k * 5 + 3)))).setCell ⟨kb, 4, none⟩ (.int .i64 (S.l (k * 5 + 4)))) = yk at HF ⊢
       go_wp2_with fail
       refine wp_region_held_drew (S := fun x => BoxS bx (.slice a0 S.nc c0) (.slice (some ⟨g, oo, none⟩) S.nl c1) (.slice a2 S.nw c2) x ∧ Blk5 x kb (.int .i64 (S.l (k * 5))) (.int .i64 (S.l (k * 5 + 1))) (.int .i64 (S.l (k * 5 + 2))) (.int .i64 (S.l (k * 5 + 3))) (.int .i64 (S.l (k * 5 + 4)))) (by kernel_rfl) ⟨HF.out.1.box.kept rfl, HF.out.2.kept rfl⟩ (fun hS => ?_)
       have HD : Hid (DrX w b o len cap bx S (.slice a0 S.nc c0) (.slice (some ⟨g, oo, none⟩) S.nl c1) (.slice a2 S.nw c2) (z + 5 + 1 + 1 + 1) yk.drew) := HF.out.1.later (below_dr (Below.refl _ _) 1)
       clear HF
       generalize yk.drew = yd at HD hS ⊢
       refine tkH 0 ?_ hS (fun wx hx => ?_) ?_; rotate_left
       ·obtain ⟨⟨⟨hx0, hx1, hx2⟩, _⟩, ⟨hy0, hy1, hy2, hy3, hy4⟩, _⟩ := hx; go_simp; try with_reducible rfl
       refine tkH 1 ?_ hS (fun wx hx => ?_) ?_; rotate_left
       ·obtain ⟨⟨⟨hx0, hx1, hx2⟩, _⟩, ⟨hy0, hy1, hy2, hy3, hy4⟩, _⟩ := hx; go_simp; try with_reducible rfl
       refine tkH 2 ?_ hS (fun wx hx => ?_) ?_; rotate_left
       ·obtain ⟨⟨⟨hx0, hx1, hx2⟩, _⟩, ⟨hy0, hy1, hy2, hy3, hy4⟩, _⟩ := hx; go_simp; try with_reducible rfl
       refine tkH 3 ?_ hS (fun wx hx => ?_) ?_; rotate_left
       ·obtain ⟨⟨⟨hx0, hx1, hx2⟩, _⟩, ⟨hy0, hy1, hy2, hy3, hy4⟩, _⟩ := hx; go_simp; try with_reducible rfl
       refine tkH 4 ?_ hS (fun wx hx => ?_) ?_; rotate_left
       ·obtain ⟨⟨⟨hx0, hx1, hx2⟩, _⟩, ⟨hy0, hy1, hy2, hy3, hy4⟩, _⟩ := hx; go_simp; try with_reducible rfl
       simp only [Act.put, List.getElem_toArray, List.getElem_cons_zero, List.getElem_cons_succ, List.setIfInBounds_toArray, List.set_cons_succ, List.set_cons_zero]
       obtain ⟨⟨r0, r1, r2⟩, f0, f1, f2⟩ := HD.out.res
       refine rdH 5 (fun K hK => ?_)
       go_simp
       have HO := hid_mk (DrX.out HD.out (.slice a0 S.nc c0) (.slice (some ⟨g, oo, none⟩) S.nl c1) (.slice a2 S.nw c2))
       have HZ := hid_mk HD.out.sz
       have hB5 : Blk5 (((yd.setCell ⟨w.heap.size, 0, none⟩ (.slice a0 S.nc c0)).setCell ⟨w.heap.size, 1, none⟩ (.slice (some ⟨g, oo, none⟩) S.nl c1)).setCell ⟨w.heap.size, 2, none⟩ (.slice a2 S.nw c2)) kb (.int .i64 (S.l (k * 5))) (.int .i64 (S.l (k * 5 + 1))) (.int .i64 (S.l (k * 5 + 2))) (.int .i64 (S.l (k * 5 + 3))) (.int .i64 (S.l (k * 5 + 4))) := (((hS.2.kept (Below.heap_setCell _ _ _ _ (by show kb ≠ w.heap.size; have := HKB.out; omega))).kept (Below.heap_setCell _ _ _ _ (by show kb ≠ w.heap.size; have := HKB.out; omega))).kept (Below.heap_setCell _ _ _ _ (by show kb ≠ w.heap.size; have := HKB.out; omega)))
       refine hK.out _ _ ⟨HO.out.1, hB5⟩ (fun hS => ?_)
       clear hK K r0 r1 r2 f0 f1 f2 HD hB5
       generalize (((yd.setCell ⟨w.heap.size, 0, none⟩ (.slice a0 S.nc c0)).setCell ⟨w.heap.size, 1, none⟩ (.slice (some ⟨g, oo, none⟩) S.nl c1)).setCell ⟨w.heap.size, 2, none⟩ (.slice a2 S.nw c2)) = yz at HO hS ⊢
       refine tkH 6 ?_ hS (fun wx hx => ?_) ?_; rotate_left
       ·obtain ⟨⟨⟨hx0, hx1, hx2⟩, _⟩, ⟨hy0, hy1, hy2, hy3, hy4⟩, _⟩ := hx; go_simp; try with_reducible rfl
       refine tkH 7 ?_ hS (fun wx hx => ?_) ?_; rotate_left
       ·obtain ⟨⟨⟨hx0, hx1, hx2⟩, _⟩, ⟨hy0, hy1, hy2, hy3, hy4⟩, _⟩ := hx; go_simp; try with_reducible rfl
       refine wpAnyH_done (by kernel_rfl) ?_ _
       go_simp
       obtain ⟨⟨q0, q1, q2⟩, _⟩ := HO.out.2.1
       go_wp2
       refine bodyPost_ret (v := .tuple #[.agg #[.slice a0 S.nc c0, .slice (some ⟨g, oo, none⟩) S.nl c1, .slice a2 S.nw c2], .int .i64 (S.l (k * 5)), .int .i64 (S.l (k * 5 + 1))]) (by simp [results, Tryz.results26, go_sem, q0, q1, q2]) rfl ⟨S, a0, c0, some ⟨g, oo, none⟩, c1, a2, c2, S.l (k * 5), S.l (k * 5 + 1), rfl, HZ.out, HO.out.2.2.1, HO.out.2.2.2, HP.out⟩
     ·intro K hK
      go_simp
      have KB : Hid (Blk5 (y0.alloc (.cells #[.int .i64 0, .int .i64 0, .int .i64 0, .int .i64 0, .int .i64 0] 40)) y0.heap.size (.int .i64 0) (.int .i64 0) (.int .i64 0) (.int .i64 0) (.int .i64 0) ∧ OwnIn S (.slice a0 S.nc c0) (.slice (some ⟨g, oo, none⟩) S.nl c1) (.slice a2 S.nw c2) (fun k => k < y0.heap.size) ∧ bx < y0.heap.size) := ⟨Blk5.new _ _ _ _ _ _ _, HD.out.st.ownIn.mono (fun k hk => hk.2), HD.out.box.lt⟩
      have HD : Hid (DrX w b o len cap bx S (.slice a0 S.nc c0) (.slice (some ⟨g, oo, none⟩) S.nl c1) (.slice a2 S.nw c2) (z + 5 + 1 + 1) (y0.alloc (.cells #[.int .i64 0, .int .i64 0, .int .i64 0, .int .i64 0, .int .i64 0] 40))) := HD.out.later (below_alloc _ _)
      refine hK.out _ _ (show BoxS _ _ _ _ _ from hS.alloc _) (fun hS => ?_)
      clear hK K
      generalize y0.alloc (.cells #[.int .i64 0, .int .i64 0, .int .i64 0, .int .i64 0, .int .i64 0] 40) = y1 at HD KB hS ⊢
      obtain ⟨kb, hkb⟩ : ∃ kb, y0.heap.size = kb := ⟨_, rfl⟩
      rw [hkb] at KB ⊢
      clear hkb
      refine rdH 6 (fun K hK => ?_)
      go_simp
      go_wp2_with fail
      refine (l1Next_any _ b o len cap (z + 5 + 1 + 1) S.nl HD.out.src (by omega) hl).mono ?_
      rintro e y2 ⟨ri, rfl, ri0, ri1, hS1, hT1⟩
      have ri1 := ri1 (by omega)
      obtain ⟨k, rfl⟩ : ∃ k : Nat, ri = k := ⟨ri.toNat, by omega⟩
      have hk : k < S.nl := by omega
      have HD : Hid (DrX w b o len cap bx S (.slice a0 S.nc c0) (.slice (some ⟨g, oo, none⟩) S.nl c1) (.slice a2 S.nw c2) (z + 5 + 1 + 1 + 1) y2) := HD.out.step hT1 hS1
      have KB : Hid (Blk5 y2 kb (.int .i64 0) (.int .i64 0) (.int .i64 0) (.int .i64 0) (.int .i64 0) ∧ OwnIn S (.slice a0 S.nc c0) (.slice (some ⟨g, oo, none⟩) S.nl c1) (.slice a2 S.nw c2) (fun k => k < kb) ∧ bx < kb) := ⟨KB.out.1.kept (hT1.block kb KB.out.1.lt (fun e => by have := Option.some.inj e; have := KB.out.2.2; have := HD.out.bl; omega)), KB.out.2⟩
      have hS' : BoxS bx (.slice a0 S.nc c0) (.slice (some ⟨g, oo, none⟩) S.nl c1) (.slice a2 S.nw c2) y2 := HD.out.box
      clear hS1 hT1 ri0 ri1
      go_wp2_with fail
      refine hK.out _ _ hS' (fun hS => ?_)
      clear hK K hS'
      refine tkH 7 ?_ hS (fun wx hx => ?_) ?_; rotate_left
      ·obtain ⟨⟨hx0, hx1, hx2⟩, _⟩ := hx; go_simp; try with_reducible rfl
      simp only [Act.put, List.getElem_toArray, List.getElem_cons_zero, List.getElem_cons_succ, List.setIfInBounds_toArray, List.set_cons_succ, List.set_cons_zero]
      refine rdH 8 (fun K hK => ?_)
      obtain ⟨g', oo', eg, _, _, k0, k1, k2, k3, k4⟩ := HD.out.st.2.1.at5 hk
      obtain ⟨rfl, rfl⟩ : g = g' ∧ oo = oo' := by simpa using eg
      go_simp
      refine hK.out _ _ hS (fun hS => ?_)
      clear hK K k0 k1 k2 k3 k4 eg
      refine rdH 10 (fun K hK => ?_)
      have HP : Hid (storeF S = 0 → Wf (S.l (k * 5 + 1))) := fun hz => wf_lockS hz hk
      obtain ⟨⟨e0, e1, e2, e3, e4⟩, f0, f1, f2, f3, f4⟩ := KB.out.1
      go_simp
      have HF : Hid (DrX w b o len cap bx S (.slice a0 S.nc c0) (.slice (some ⟨g, oo, none⟩) S.nl c1) (.slice a2 S.nw c2) (z + 5 + 1 + 1 + 1) (((((y2.setCell ⟨kb, 0, none⟩ (.int .i64 (S.l (k * 5)))).setCell ⟨kb, 1, none⟩ (.int .i64 (S.l (k * 5 + 1)))).setCell ⟨kb, 2, none⟩ (.int .i64 (S.l (k * 5 + 2)))).setCell ⟨kb, 3, none⟩ (.int .i64 (S.l (k * 5 + 3)))).setCell ⟨kb, 4, none⟩ (.int .i64 (S.l (k * 5 + 4)))) ∧ Blk5 (((((y2.setCell ⟨kb, 0, none⟩ (.int .i64 (S.l (k * 5)))).setCell ⟨kb, 1, none⟩ (.int .i64 (S.l (k * 5 + 1)))).setCell ⟨kb, 2, none⟩ (.int .i64 (S.l (k * 5 + 2)))).setCell ⟨kb, 3, none⟩ (.int .i64 (S.l (k * 5 + 3)))).setCell ⟨kb, 4, none⟩ (.int .i64 (S.l (k * 5 + 4)))) kb (.int .i64 (S.l (k * 5))) (.int .i64 (S.l (k * 5 + 1))) (.int .i64 (S.l (k * 5 + 2))) (.int .i64 (S.l (k * 5 + 3))) (.int .i64 (S.l (k * 5 + 4)))) := ⟨((((HD.out.setK KB.out.2.1 KB.out.2.2 _ _).setK KB.out.2.1 KB.out.2.2 _ _).setK KB.out.2.1 KB.out.2.2 _ _).setK KB.out.2.1 KB.out.2.2 _ _).setK KB.out.2.1 KB.out.2.2 _ _, KB.out.1.put _ _ _ _ _⟩
      refine hK.out _ _ (show BoxS _ _ _ _ _ from HF.out.1.box) (fun hS => ?_)
      clear hK K
      have HKB : Hid (w.heap.size < kb) := by have := KB.out.2.2; have := HD.out.bl; have := HD.out.lo; exact (by omega : w.heap.size < kb)
      refine wpAnyH_done (by kernel_rfl) ?_ _
      clear hS e0 e1 e2 e3 e4 f0 f1 f2 f3 f4 KB HD
      go_simp
      generalize (((((y2.setCell ⟨kb, 0, none⟩ (.int .i64 (S.l (k * 5)))).setCell ⟨kb, 1, none⟩ (.int .i64 (S.l (k * 5 + 1)))).setCell ⟨kb, 2, none⟩ (.int .i64 (S.l (k * 5 + 2)))).setCell ⟨kb, 3, none⟩ (.int .i64 (S.l (k * 5 + 3)))).setCell ⟨kb, 4, none⟩ (.int .i64 (S.l (k * 5 + 4)))) = yk at HF ⊢
      go_wp2_with fail
      refine wp_region_held_drew (S := fun x => BoxS bx (.slice a0 S.nc c0) (.slice (some ⟨g, oo, none⟩) S.nl c1) (.slice a2 S.nw c2) x ∧ Blk5 x kb (.int .i64 (S.l (k * 5))) (.int .i64 (S.l (k * 5 + 1))) (.int .i64 (S.l (k * 5 + 2))) (.int .i64 (S.l (k * 5 + 3))) (.int .i64 (S.l (k * 5 + 4)))) (by kernel_rfl) ⟨HF.out.1.box.kept rfl, HF.out.2.kept rfl⟩ (fun hS => ?_)
      have HD : Hid (DrX w b o len cap bx S (.slice a0 S.nc c0) (.slice (some ⟨g, oo, none⟩) S.nl c1) (.slice a2 S.nw c2) (z + 5 + 1 + 1 + 1) yk.drew) := HF.out.1.later (below_dr (Below.refl _ _) 1)
      clear HF
      generalize yk.drew = yd at HD hS ⊢
      refine tkH 0 ?_ hS (fun wx hx => ?_) ?_; rotate_left
      ·obtain ⟨⟨⟨hx0, hx1, hx2⟩, _⟩, ⟨hy0, hy1, hy2, hy3, hy4⟩, _⟩ := hx; go_simp; try with_reducible rfl
      refine tkH 1 ?_ hS (fun wx hx => ?_) ?_; rotate_left
      ·obtain ⟨⟨⟨hx0, hx1, hx2⟩, _⟩, ⟨hy0, hy1, hy2, hy3, hy4⟩, _⟩ := hx; go_simp; try with_reducible rfl
      refine tkH 2 ?_ hS (fun wx hx => ?_) ?_; rotate_left
      ·obtain ⟨⟨⟨hx0, hx1, hx2⟩, _⟩, ⟨hy0, hy1, hy2, hy3, hy4⟩, _⟩ := hx; go_simp; try with_reducible rfl
      refine tkH 3 ?_ hS (fun wx hx => ?_) ?_; rotate_left
      ·obtain ⟨⟨⟨hx0, hx1, hx2⟩, _⟩, ⟨hy0, hy1, hy2, hy3, hy4⟩, _⟩ := hx; go_simp; try with_reducible rfl
      refine tkH 4 ?_ hS (fun wx hx => ?_) ?_; rotate_left
      ·obtain ⟨⟨⟨hx0, hx1, hx2⟩, _⟩, ⟨hy0, hy1, hy2, hy3, hy4⟩, _⟩ := hx; go_simp; try with_reducible rfl
      simp only [Act.put, List.getElem_toArray, List.getElem_cons_zero, List.getElem_cons_succ, List.setIfInBounds_toArray, List.set_cons_succ, List.set_cons_zero]
      obtain ⟨⟨r0, r1, r2⟩, f0, f1, f2⟩ := HD.out.res
      refine rdH 5 (fun K hK => ?_)
      go_simp
      have HO := hid_mk (DrX.out HD.out (.slice a0 S.nc c0) (.slice (some ⟨g, oo, none⟩) S.nl c1) (.slice a2 S.nw c2))
      have HZ := hid_mk HD.out.sz
      have hB5 : Blk5 (((yd.setCell ⟨w.heap.size, 0, none⟩ (.slice a0 S.nc c0)).setCell ⟨w.heap.size, 1, none⟩ (.slice (some ⟨g, oo, none⟩) S.nl c1)).setCell ⟨w.heap.size, 2, none⟩ (.slice a2 S.nw c2)) kb (.int .i64 (S.l (k * 5))) (.int .i64 (S.l (k * 5 + 1))) (.int .i64 (S.l (k * 5 + 2))) (.int .i64 (S.l (k * 5 + 3))) (.int .i64 (S.l (k * 5 + 4))) := (((hS.2.kept (Below.heap_setCell _ _ _ _ (by show kb ≠ w.heap.size; have := HKB.out; omega))).kept (Below.heap_setCell _ _ _ _ (by show kb ≠ w.heap.size; have := HKB.out; omega))).kept (Below.heap_setCell _ _ _ _ (by show kb ≠ w.heap.size; have := HKB.out; omega)))
      refine hK.out _ _ ⟨HO.out.1, hB5⟩ (fun hS => ?_)
      clear hK K r0 r1 r2 f0 f1 f2 HD hB5
      generalize (((yd.setCell ⟨w.heap.size, 0, none⟩ (.slice a0 S.nc c0)).setCell ⟨w.heap.size, 1, none⟩ (.slice (some ⟨g, oo, none⟩) S.nl c1)).setCell ⟨w.heap.size, 2, none⟩ (.slice a2 S.nw c2)) = yz at HO hS ⊢
      refine tkH 6 ?_ hS (fun wx hx => ?_) ?_; rotate_left
      ·obtain ⟨⟨⟨hx0, hx1, hx2⟩, _⟩, ⟨hy0, hy1, hy2, hy3, hy4⟩, _⟩ := hx; go_simp; try with_reducible rfl
      refine tkH 7 ?_ hS (fun wx hx => ?_) ?_; rotate_left
      ·obtain ⟨⟨⟨hx0, hx1, hx2⟩, _⟩, ⟨hy0, hy1, hy2, hy3, hy4⟩, _⟩ := hx; go_simp; try with_reducible rfl
      refine wpAnyH_done (by kernel_rfl) ?_ _
      go_simp
      obtain ⟨⟨q0, q1, q2⟩, _⟩ := HO.out.2.1
      go_wp2
      refine bodyPost_ret (v := .tuple #[.agg #[.slice a0 S.nc c0, .slice (some ⟨g, oo, none⟩) S.nl c1, .slice a2 S.nw c2], .int .i64 (S.l (k * 5)), .int .i64 (S.l (k * 5 + 1))]) (by simp [results, Tryz.results26, go_sem, q0, q1, q2]) rfl ⟨S, a0, c0, some ⟨g, oo, none⟩, c1, a2, c2, S.l (k * 5), S.l (k * 5 + 1), rfl, HZ.out, HO.out.2.2.1, HO.out.2.2.2, HP.out⟩
    ·have dn : decide (0 < S.nl) = false := decide_eq_false hnl
     obtain ⟨⟨t0, t1, t2⟩, _⟩ := HD.out.box
     go_wp2_with fail
     go_meet
     case rel => exact ⟨rfl, _, ⟨by omega, by omega⟩, HD⟩
  iterate 2
   ·by_cases hnl : 0 < S.nw
    ·have dn : decide (0 < S.nw) = true := decide_eq_true hnl
     obtain ⟨⟨t0, t1, t2⟩, _⟩ := HD.out.box
     obtain ⟨g, oo, rfl, _⟩ := HD.out.st.2.2.at hnl
     go_wp2_with fail
     clear t0 t1 t2 dn
     refine wp_region_held_drew (S := BoxS bx (.slice a0 S.nc c0) (.slice a1 S.nl c1) (.slice (some ⟨g, oo, none⟩) S.nw c2)) (by kernel_rfl) (HD.out.box.kept rfl) (fun hS => ?_)
     have HD : Hid (DrX w b o len cap bx S (.slice a0 S.nc c0) (.slice a1 S.nl c1) (.slice (some ⟨g, oo, none⟩) S.nw c2) (z + 5 + 1 + 1) w6.drew) := HD.out.later (below_dr (Below.refl _ _) 1)
     generalize w6.drew = y0 at HD hS ⊢
     refine tkH 0 ?_ hS (fun wx hx => ?_) ?_; rotate_left
     ·obtain ⟨⟨hx0, hx1, hx2⟩, _⟩ := hx; go_simp; try with_reducible rfl
     refine tkH 1 ?_ hS (fun wx hx => ?_) ?_; rotate_left
     ·obtain ⟨⟨hx0, hx1, hx2⟩, _⟩ := hx; go_simp; try with_reducible rfl
     refine tkH 2 ?_ hS (fun wx hx => ?_) ?_; rotate_left
     ·obtain ⟨⟨hx0, hx1, hx2⟩, _⟩ := hx; go_simp; try with_reducible rfl
     refine tkH 3 ?_ hS (fun wx hx => ?_) ?_; rotate_left
     ·obtain ⟨⟨hx0, hx1, hx2⟩, _⟩ := hx; go_simp; try with_reducible rfl
     refine tkH 4 ?_ hS (fun wx hx => ?_) ?_; rotate_left
     ·obtain ⟨⟨hx0, hx1, hx2⟩, _⟩ := hx; go_simp; try with_reducible rfl
     refine tkH 5 ?_ hS (fun wx hx => ?_) ?_; rotate_left
     ·obtain ⟨⟨hx0, hx1, hx2⟩, _⟩ := hx; go_simp; try with_reducible rfl
     simp only [Act.put, List.getElem_toArray, List.getElem_cons_zero, List.getElem_cons_succ, List.setIfInBounds_toArray, List.set_cons_succ, List.set_cons_zero]
     refine wpAnyH_ready (rs := [6, 9]) (by kernel_rfl) (by simp) ?_
     refine AllReadyH.cons rfl ?_ (AllReadyH.cons rfl ?_ AllReadyH.nil)
     ·intro K hK
      go_simp
      go_wp2_with fail
      refine (l1Next_any _ b o len cap (z + 5 + 1 + 1) S.nw HD.out.src (by omega) hl).mono ?_
      rintro e y1 ⟨ri, rfl, ri0, ri1, hS1, hT1⟩
      have ri1 := ri1 (by omega)
      obtain ⟨k, rfl⟩ : ∃ k : Nat, ri = k := ⟨ri.toNat, by omega⟩
      have hk : k < S.nw := by omega
      have HD : Hid (DrX w b o len cap bx S (.slice a0 S.nc c0) (.slice a1 S.nl c1) (.slice (some ⟨g, oo, none⟩) S.nw c2) (z + 5 + 1 + 1 + 1) y1) := HD.out.step hT1 hS1
      have hS' : BoxS bx (.slice a0 S.nc c0) (.slice a1 S.nl c1) (.slice (some ⟨g, oo, none⟩) S.nw c2) y1 := HD.out.box
      clear hS1 hT1 ri0 ri1
      go_wp2_with fail
      refine hK.out _ _ hS' (fun hS => ?_)
      clear hK K hS'
      refine tkH 7 ?_ hS (fun wx hx => ?_) ?_; rotate_left
      ·obtain ⟨⟨hx0, hx1, hx2⟩, _⟩ := hx; go_simp; try with_reducible rfl
      simp only [Act.put, List.getElem_toArray, List.getElem_cons_zero, List.getElem_cons_succ, List.setIfInBounds_toArray, List.set_cons_succ, List.set_cons_zero]
      refine wpAnyH_ready (rs := [8, 9]) (by kernel_rfl) (by simp) ?_
      refine AllReadyH.cons rfl ?_ (AllReadyH.cons rfl ?_ AllReadyH.nil)
      ·intro K hK
       obtain ⟨g', oo', eg, _, _, k0, k1, k2, k3⟩ := HD.out.st.2.2.at4 hk
       obtain ⟨rfl, rfl⟩ : g = g' ∧ oo = oo' := by simpa using eg
       go_simp
       refine hK.out _ _ hS (fun hS => ?_)
       clear hK K k0 k1 k2 k3 eg
       refine rdH 9 (fun K hK => ?_)
       go_simp
       have KB : Hid (Blk4 (y1.alloc (.cells #[.int .i64 0, .int .i64 0, .int .i64 0, .int .i64 0] 55)) y1.heap.size (.int .i64 0) (.int .i64 0) (.int .i64 0) (.int .i64 0) ∧ OwnIn S (.slice a0 S.nc c0) (.slice a1 S.nl c1) (.slice (some ⟨g, oo, none⟩) S.nw c2) (fun k => k < y1.heap.size) ∧ bx < y1.heap.size) := ⟨Blk4.new _ _ _ _ _ _, HD.out.st.ownIn.mono (fun k hk => hk.2), HD.out.box.lt⟩
       have HD : Hid (DrX w b o len cap bx S (.slice a0 S.nc c0) (.slice a1 S.nl c1) (.slice (some ⟨g, oo, none⟩) S.nw c2) (z + 5 + 1 + 1 + 1) (y1.alloc (.cells #[.int .i64 0, .int .i64 0, .int .i64 0, .int .i64 0] 55))) := HD.out.later (below_alloc _ _)
       refine hK.out _ _ (show BoxS _ _ _ _ _ from hS.alloc _) (fun hS => ?_)
       clear hK K
       generalize y1.alloc (.cells #[.int .i64 0, .int .i64 0, .int .i64 0, .int .i64 0] 55) = y2 at HD KB hS ⊢
       obtain ⟨kb, hkb⟩ : ∃ kb, y1.heap.size = kb := ⟨_, rfl⟩
       rw [hkb] at KB ⊢
       clear hkb
       refine rdH 10 (fun K hK => ?_)
       obtain ⟨⟨e0, e1, e2, e3⟩, f0, f1, f2, f3⟩ := KB.out.1
       go_simp
       have HF : Hid (DrX w b o len cap bx S (.slice a0 S.nc c0) (.slice a1 S.nl c1) (.slice (some ⟨g, oo, none⟩) S.nw c2) (z + 5 + 1 + 1 + 1) ((((y2.setCell ⟨kb, 0, none⟩ (.int .i64 (S.k (k * 4)))).setCell ⟨kb, 1, none⟩ (.int .i64 (S.k (k * 4 + 1)))).setCell ⟨kb, 2, none⟩ (.int .i64 (S.k (k * 4 + 2)))).setCell ⟨kb, 3, none⟩ (.int .i64 (S.k (k * 4 + 3)))) ∧ Blk4 ((((y2.setCell ⟨kb, 0, none⟩ (.int .i64 (S.k (k * 4)))).setCell ⟨kb, 1, none⟩ (.int .i64 (S.k (k * 4 + 1)))).setCell ⟨kb, 2, none⟩ (.int .i64 (S.k (k * 4 + 2)))).setCell ⟨kb, 3, none⟩ (.int .i64 (S.k (k * 4 + 3)))) kb (.int .i64 (S.k (k * 4))) (.int .i64 (S.k (k * 4 + 1))) (.int .i64 (S.k (k * 4 + 2))) (.int .i64 (S.k (k * 4 + 3)))) := ⟨(((HD.out.setK KB.out.2.1 KB.out.2.2 _ _).setK KB.out.2.1 KB.out.2.2 _ _).setK KB.out.2.1 KB.out.2.2 _ _).setK KB.out.2.1 KB.out.2.2 _ _, KB.out.1.put _ _ _ _⟩
       refine hK.out _ _ (show BoxS _ _ _ _ _ from HF.out.1.box) (fun hS => ?_)
       clear hK K
       have HKB : Hid (w.heap.size < kb) := by have := KB.out.2.2; have := HD.out.bl; have := HD.out.lo; exact (by omega : w.heap.size < kb)
       have HKX : Hid (bx < kb) := KB.out.2.2
       refine wpAnyH_done (by kernel_rfl) ?_ _
       clear hS e0 e1 e2 e3 f0 f1 f2 f3 KB HD
       go_simp
       generalize ((((y2.setCell ⟨kb, 0, none⟩ (.int .i64 (S.k (k * 4)))).setCell ⟨kb, 1, none⟩ (.int .i64 (S.k (k * 4 + 1)))).setCell ⟨kb, 2, none⟩ (.int .i64 (S.k (k * 4 + 2)))).setCell ⟨kb, 3, none⟩ (.int .i64 (S.k (k * 4 + 3)))) = yk at HF ⊢
       go_wp2_with fail
       refine wp_region_held_drew (S := fun x => BoxS bx (.slice a0 S.nc c0) (.slice a1 S.nl c1) (.slice (some ⟨g, oo, none⟩) S.nw c2) x ∧ Blk4 x kb (.int .i64 (S.k (k * 4))) (.int .i64 (S.k (k * 4 + 1))) (.int .i64 (S.k (k * 4 + 2))) (.int .i64 (S.k (k * 4 + 3)))) (by kernel_rfl) ⟨HF.out.1.box.kept rfl, HF.out.2.kept rfl⟩ (fun hS => ?_)
       have HD : Hid (DrX w b o len cap bx S (.slice a0 S.nc c0) (.slice a1 S.nl c1) (.slice (some ⟨g, oo, none⟩) S.nw c2) (z + 5 + 1 + 1 + 1) yk.drew) := HF.out.1.later (below_dr (Below.refl _ _) 1)
       clear HF
       generalize yk.drew = yd at HD hS ⊢
       refine tkH 0 ?_ hS (fun wx hx => ?_) ?_; rotate_left
       ·obtain ⟨⟨⟨hx0, hx1, hx2⟩, _⟩, ⟨hy0, hy1, hy2, hy3⟩, _⟩ := hx; go_simp; try with_reducible rfl
       refine tkH 1 ?_ hS (fun wx hx => ?_) ?_; rotate_left
       ·obtain ⟨⟨⟨hx0, hx1, hx2⟩, _⟩, ⟨hy0, hy1, hy2, hy3⟩, _⟩ := hx; go_simp; try with_reducible rfl
       refine tkH 2 ?_ hS (fun wx hx => ?_) ?_; rotate_left
       ·obtain ⟨⟨⟨hx0, hx1, hx2⟩, _⟩, ⟨hy0, hy1, hy2, hy3⟩, _⟩ := hx; go_simp; try with_reducible rfl
       refine tkH 3 ?_ hS (fun wx hx => ?_) ?_; rotate_left
       ·obtain ⟨⟨⟨hx0, hx1, hx2⟩, _⟩, ⟨hy0, hy1, hy2, hy3⟩, _⟩ := hx; go_simp; try with_reducible rfl
       refine tkH 4 ?_ hS (fun wx hx => ?_) ?_; rotate_left
       ·obtain ⟨⟨⟨hx0, hx1, hx2⟩, _⟩, ⟨hy0, hy1, hy2, hy3⟩, _⟩ := hx; go_simp; try with_reducible rfl
       refine tkH 5 ?_ hS (fun wx hx => ?_) ?_; rotate_left
       ·obtain ⟨⟨⟨hx0, hx1, hx2⟩, _⟩, ⟨hy0, hy1, hy2, hy3⟩, _⟩ := hx; go_simp; try with_reducible rfl
       refine tkH 6 ?_ hS (fun wx hx => ?_) ?_; rotate_left
       ·obtain ⟨⟨⟨hx0, hx1, hx2⟩, _⟩, ⟨hy0, hy1, hy2, hy3⟩, _⟩ := hx; go_simp; try with_reducible rfl
       refine tkH 7 ?_ hS (fun wx hx => ?_) ?_; rotate_left
       ·obtain ⟨⟨⟨hx0, hx1, hx2⟩, _⟩, ⟨hy0, hy1, hy2, hy3⟩, _⟩ := hx; go_simp; try with_reducible rfl
       refine tkH 8 ?_ hS (fun wx hx => ?_) ?_; rotate_left
       ·obtain ⟨⟨⟨hx0, hx1, hx2⟩, _⟩, ⟨hy0, hy1, hy2, hy3⟩, _⟩ := hx; go_simp; try with_reducible rfl
       refine tkH 9 ?_ hS (fun wx hx => ?_) ?_; rotate_left
       ·obtain ⟨⟨⟨hx0, hx1, hx2⟩, _⟩, ⟨hy0, hy1, hy2, hy3⟩, _⟩ := hx; go_simp; try with_reducible rfl
       refine tkH 10 ?_ hS (fun wx hx => ?_) ?_; rotate_left
       ·obtain ⟨⟨⟨hx0, hx1, hx2⟩, _⟩, ⟨hy0, hy1, hy2, hy3⟩, _⟩ := hx; go_simp; try with_reducible rfl
       simp only [Act.put, List.getElem_toArray, List.getElem_cons_zero, List.getElem_cons_succ, List.setIfInBounds_toArray, List.set_cons_succ, List.set_cons_zero]
       obtain ⟨cm, hcm⟩ : ∃ cm, cm = IntKind.i64.wrap (S.k (k * 4 + 1) - 1) := ⟨_, rfl⟩
       rw [← hcm]
       have HC : Hid (Wf cm) := by rw [hcm]; exact wf_wrap _ _
       clear hcm
       refine rdH 11 (fun K hK => ?_)
       go_simp
       have HI : Hid (Ints (yd.alloc (.cells #[.int .i64 (S.k (k * 4 + 2)), .int .i64 (S.k (k * 4 + 1)), .int .i64 cm] 2)) yd.heap.size (.slice (some ⟨yd.heap.size, 0, none⟩) 3 3) [S.k (k * 4 + 2), S.k (k * 4 + 1), cm]) := World.ownsRow_lit yd #[.int .i64 (S.k (k * 4 + 2)), .int .i64 (S.k (k * 4 + 1)), .int .i64 cm] 3 (Nat.le_refl _) (by decide) rfl
       have HG : Hid (b < yd.heap.size) := HD.out.src.lt
       have HD : Hid (DrX w b o len cap bx S (.slice a0 S.nc c0) (.slice a1 S.nl c1) (.slice (some ⟨g, oo, none⟩) S.nw c2) (z + 5 + 1 + 1 + 1) (yd.alloc (.cells #[.int .i64 (S.k (k * 4 + 2)), .int .i64 (S.k (k * 4 + 1)), .int .i64 cm] 2))) := HD.out.later (below_alloc _ _)
       refine hK.out _ _ ⟨show BoxS _ _ _ _ _ from hS.1.alloc _, hS.2.alloc _⟩ (fun hS => ?_)
       clear hK K
       generalize yd.alloc (.cells #[.int .i64 (S.k (k * 4 + 2)), .int .i64 (S.k (k * 4 + 1)), .int .i64 cm] 2) = ye at HD HI hS ⊢
       refine rdH 12 (fun K hK => ?_)
       go_simp
       go_wp2_with fail
       refine (l1Pick_any _ b o len cap (z + 5 + 1 + 1 + 1) _ yd.heap.size [S.k (k * 4 + 2), S.k (k * 4 + 1), cm] HD.out.src (by omega) hl HI.out HG.out (by simp) (by simp)).mono ?_
       rintro e yf ⟨pt, rfl, hpt, hS1, hT1⟩
       have HP : Hid (storeF S = 0 → Wf pt) := fun hz => wf_writeS hz hk HC.out hpt
       clear hpt
       have HN : Hid (kb ≠ b) := by have := HKX.out; have := HD.out.bl; exact (by omega : kb ≠ b)
       have HD : Hid (DrX w b o len cap bx S (.slice a0 S.nc c0) (.slice a1 S.nl c1) (.slice (some ⟨g, oo, none⟩) S.nw c2) (z + 5 + 1 + 1 + 1 + 1) yf) := HD.out.step hT1 hS1
       have hS' : BoxS bx (.slice a0 S.nc c0) (.slice a1 S.nl c1) (.slice (some ⟨g, oo, none⟩) S.nw c2) yf ∧ Blk4 yf kb (.int .i64 (S.k (k * 4))) (.int .i64 (S.k (k * 4 + 1))) (.int .i64 (S.k (k * 4 + 2))) (.int .i64 (S.k (k * 4 + 3))) := ⟨HD.out.box, hS.2.kept (hT1.block kb hS.2.lt (fun e => HN.out (Option.some.inj e)))⟩
       clear hS1 hT1 HI HG
       go_wp2_with fail
       refine hK.out _ _ hS' (fun hS => ?_)
       clear hK K hS'
       obtain ⟨⟨r0, r1, r2⟩, f0, f1, f2⟩ := HD.out.res
       refine rdH 13 (fun K hK => ?_)
       go_simp
       have HO := hid_mk (DrX.out HD.out (.slice a0 S.nc c0) (.slice a1 S.nl c1) (.slice (some ⟨g, oo, none⟩) S.nw c2))
       have HZ := hid_mk HD.out.sz
       have hB5 : Blk4 (((yf.setCell ⟨w.heap.size, 0, none⟩ (.slice a0 S.nc c0)).setCell ⟨w.heap.size, 1, none⟩ (.slice a1 S.nl c1)).setCell ⟨w.heap.size, 2, none⟩ (.slice (some ⟨g, oo, none⟩) S.nw c2)) kb (.int .i64 (S.k (k * 4))) (.int .i64 (S.k (k * 4 + 1))) (.int .i64 (S.k (k * 4 + 2))) (.int .i64 (S.k (k * 4 + 3))) := (((hS.2.kept (Below.heap_setCell _ _ _ _ (by show kb ≠ w.heap.size; have := HKB.out; omega))).kept (Below.heap_setCell _ _ _ _ (by show kb ≠ w.heap.size; have := HKB.out; omega))).kept (Below.heap_setCell _ _ _ _ (by show kb ≠ w.heap.size; have := HKB.out; omega)))
       refine hK.out _ _ ⟨HO.out.1, hB5⟩ (fun hS => ?_)
       clear hK K r0 r1 r2 f0 f1 f2 HD hB5
       generalize (((yf.setCell ⟨w.heap.size, 0, none⟩ (.slice a0 S.nc c0)).setCell ⟨w.heap.size, 1, none⟩ (.slice a1 S.nl c1)).setCell ⟨w.heap.size, 2, none⟩ (.slice (some ⟨g, oo, none⟩) S.nw c2)) = yz at HO hS ⊢
       refine tkH 14 ?_ hS (fun wx hx => ?_) ?_; rotate_left
       ·obtain ⟨⟨⟨hx0, hx1, hx2⟩, _⟩, ⟨hy0, hy1, hy2, hy3⟩, _⟩ := hx; go_simp; try with_reducible rfl
       refine tkH 15 ?_ hS (fun wx hx => ?_) ?_; rotate_left
       ·obtain ⟨⟨⟨hx0, hx1, hx2⟩, _⟩, ⟨hy0, hy1, hy2, hy3⟩, _⟩ := hx; go_simp; try with_reducible rfl
       refine wpAnyH_done (by kernel_rfl) ?_ _
       go_simp
       obtain ⟨⟨q0, q1, q2⟩, _⟩ := HO.out.2.1
       go_wp2
       refine bodyPost_ret (v := .tuple #[.agg #[.slice a0 S.nc c0, .slice a1 S.nl c1, .slice (some ⟨g, oo, none⟩) S.nw c2], .int .i64 (S.k (k * 4)), .int .i64 (pt)]) (by simp [results, Tryz.results26, go_sem, q0, q1, q2]) rfl ⟨S, a0, c0, a1, c1, some ⟨g, oo, none⟩, c2, S.k (k * 4), pt, rfl, HZ.out, HO.out.2.2.1, HO.out.2.2.2, HP.out⟩
      ·intro K hK
       go_simp
       have KB : Hid (Blk4 (y1.alloc (.cells #[.int .i64 0, .int .i64 0, .int .i64 0, .int .i64 0] 55)) y1.heap.size (.int .i64 0) (.int .i64 0) (.int .i64 0) (.int .i64 0) ∧ OwnIn S (.slice a0 S.nc c0) (.slice a1 S.nl c1) (.slice (some ⟨g, oo, none⟩) S.nw c2) (fun k => k < y1.heap.size) ∧ bx < y1.heap.size) := ⟨Blk4.new _ _ _ _ _ _, HD.out.st.ownIn.mono (fun k hk => hk.2), HD.out.box.lt⟩
       have HD : Hid (DrX w b o len cap bx S (.slice a0 S.nc c0) (.slice a1 S.nl c1) (.slice (some ⟨g, oo, none⟩) S.nw c2) (z + 5 + 1 + 1 + 1) (y1.alloc (.cells #[.int .i64 0, .int .i64 0, .int .i64 0, .int .i64 0] 55))) := HD.out.later (below_alloc _ _)
       refine hK.out _ _ (show BoxS _ _ _ _ _ from hS.alloc _) (fun hS => ?_)
       clear hK K
       generalize y1.alloc (.cells #[.int .i64 0, .int .i64 0, .int .i64 0, .int .i64 0] 55) = y2 at HD KB hS ⊢
       obtain ⟨kb, hkb⟩ : ∃ kb, y1.heap.size = kb := ⟨_, rfl⟩
       rw [hkb] at KB ⊢
       clear hkb
       refine rdH 8 (fun K hK => ?_)
       obtain ⟨g', oo', eg, _, _, k0, k1, k2, k3⟩ := HD.out.st.2.2.at4 hk
       obtain ⟨rfl, rfl⟩ : g = g' ∧ oo = oo' := by simpa using eg
       go_simp
       refine hK.out _ _ hS (fun hS => ?_)
       clear hK K k0 k1 k2 k3 eg
       refine rdH 10 (fun K hK => ?_)
       obtain ⟨⟨e0, e1, e2, e3⟩, f0, f1, f2, f3⟩ := KB.out.1
       go_simp
       have HF : Hid (DrX w b o len cap bx S (.slice a0 S.nc c0) (.slice a1 S.nl c1) (.slice (some ⟨g, oo, none⟩) S.nw c2) (z + 5 + 1 + 1 + 1) ((((y2.setCell ⟨kb, 0, none⟩ (.int .i64 (S.k (k * 4)))).setCell ⟨kb, 1, none⟩ (.int .i64 (S.k (k * 4 + 1)))).setCell ⟨kb, 2, none⟩ (.int .i64 (S.k (k * 4 + 2)))).setCell ⟨kb, 3, none⟩ (.int .i64 (S.k (k * 4 + 3)))) ∧ Blk4 ((((y2.setCell ⟨kb, 0, none⟩ (.int .i64 (S.k (k * 4)))).setCell ⟨kb, 1, none⟩ (.int .i64 (S.k (k * 4 + 1)))).setCell ⟨kb, 2, none⟩ (.int .i64 (S.k (k * 4 + 2)))).setCell ⟨kb, 3, none⟩ (.int .i64 (S.k (k * 4 + 3)))) kb (.int .i64 (S.k (k * 4))) (.int .i64 (S.k (k * 4 + 1))) (.int .i64 (S.k (k * 4 + 2))) (.int .i64 (S.k (k * 4 + 3)))) := ⟨(((HD.out.setK KB.out.2.1 KB.out.2.2 _ _).setK KB.out.2.1 KB.out.2.2 _ _).setK KB.out.2.1 KB.out.2.2 _ _).setK KB.out.2.1 KB.out.2.2 _ _, KB.out.1.put _ _ _ _⟩
       refine hK.out _ _ (show BoxS _ _ _ _ _ from HF.out.1.box) (fun hS => ?_)
       clear hK K
       have HKB : Hid (w.heap.size < kb) := by have := KB.out.2.2; have := HD.out.bl; have := HD.out.lo; exact (by omega : w.heap.size < kb)
       have HKX : Hid (bx < kb) := KB.out.2.2
       refine wpAnyH_done (by kernel_rfl) ?_ _
       clear hS e0 e1 e2 e3 f0 f1 f2 f3 KB HD
       go_simp
       generalize ((((y2.setCell ⟨kb, 0, none⟩ (.int .i64 (S.k (k * 4)))).setCell ⟨kb, 1, none⟩ (.int .i64 (S.k (k * 4 + 1)))).setCell ⟨kb, 2, none⟩ (.int .i64 (S.k (k * 4 + 2)))).setCell ⟨kb, 3, none⟩ (.int .i64 (S.k (k * 4 + 3)))) = yk at HF ⊢
       go_wp2_with fail
       refine wp_region_held_drew (S := fun x => BoxS bx (.slice a0 S.nc c0) (.slice a1 S.nl c1) (.slice (some ⟨g, oo, none⟩) S.nw c2) x ∧ Blk4 x kb (.int .i64 (S.k (k * 4))) (.int .i64 (S.k (k * 4 + 1))) (.int .i64 (S.k (k * 4 + 2))) (.int .i64 (S.k (k * 4 + 3)))) (by kernel_rfl) ⟨HF.out.1.box.kept rfl, HF.out.2.kept rfl⟩ (fun hS => ?_)
       have HD : Hid (DrX w b o len cap bx S (.slice a0 S.nc c0) (.slice a1 S.nl c1) (.slice (some ⟨g, oo, none⟩) S.nw c2) (z + 5 + 1 + 1 + 1) yk.drew) := HF.out.1.later (below_dr (Below.refl _ _) 1)
       clear HF
       generalize yk.drew = yd at HD hS ⊢
       refine tkH 0 ?_ hS (fun wx hx => ?_) ?_; rotate_left
       ·obtain ⟨⟨⟨hx0, hx1, hx2⟩, _⟩, ⟨hy0, hy1, hy2, hy3⟩, _⟩ := hx; go_simp; try with_reducible rfl
       refine tkH 1 ?_ hS (fun wx hx => ?_) ?_; rotate_left
       ·obtain ⟨⟨⟨hx0, hx1, hx2⟩, _⟩, ⟨hy0, hy1, hy2, hy3⟩, _⟩ := hx; go_simp; try with_reducible rfl
       refine tkH 2 ?_ hS (fun wx hx => ?_) ?_; rotate_left
       ·obtain ⟨⟨⟨hx0, hx1, hx2⟩, _⟩, ⟨hy0, hy1, hy2, hy3⟩, _⟩ := hx; go_simp; try with_reducible rfl
       refine tkH 3 ?_ hS (fun wx hx => ?_) ?_; rotate_left
       ·obtain ⟨⟨⟨hx0, hx1, hx2⟩, _⟩, ⟨hy0, hy1, hy2, hy3⟩, _⟩ := hx; go_simp; try with_reducible rfl
       refine tkH 4 ?_ hS (fun wx hx => ?_) ?_; rotate_left
       ·obtain ⟨⟨⟨hx0, hx1, hx2⟩, _⟩, ⟨hy0, hy1, hy2, hy3⟩, _⟩ := hx; go_simp; try with_reducible rfl
       refine tkH 5 ?_ hS (fun wx hx => ?_) ?_; rotate_left
       ·obtain ⟨⟨⟨hx0, hx1, hx2⟩, _⟩, ⟨hy0, hy1, hy2, hy3⟩, _⟩ := hx; go_simp; try with_reducible rfl
       refine tkH 6 ?_ hS (fun wx hx => ?_) ?_; rotate_left
       ·obtain ⟨⟨⟨hx0, hx1, hx2⟩, _⟩, ⟨hy0, hy1, hy2, hy3⟩, _⟩ := hx; go_simp; try with_reducible rfl
       refine tkH 7 ?_ hS (fun wx hx => ?_) ?_; rotate_left
       ·obtain ⟨⟨⟨hx0, hx1, hx2⟩, _⟩, ⟨hy0, hy1, hy2, hy3⟩, _⟩ := hx; go_simp; try with_reducible rfl
       refine tkH 8 ?_ hS (fun wx hx => ?_) ?_; rotate_left
       ·obtain ⟨⟨⟨hx0, hx1, hx2⟩, _⟩, ⟨hy0, hy1, hy2, hy3⟩, _⟩ := hx; go_simp; try with_reducible rfl
       refine tkH 9 ?_ hS (fun wx hx => ?_) ?_; rotate_left
       ·obtain ⟨⟨⟨hx0, hx1, hx2⟩, _⟩, ⟨hy0, hy1, hy2, hy3⟩, _⟩ := hx; go_simp; try with_reducible rfl
       refine tkH 10 ?_ hS (fun wx hx => ?_) ?_; rotate_left
       ·obtain ⟨⟨⟨hx0, hx1, hx2⟩, _⟩, ⟨hy0, hy1, hy2, hy3⟩, _⟩ := hx; go_simp; try with_reducible rfl
       simp only [Act.put, List.getElem_toArray, List.getElem_cons_zero, List.getElem_cons_succ, List.setIfInBounds_toArray, List.set_cons_succ, List.set_cons_zero]
       obtain ⟨cm, hcm⟩ : ∃ cm, cm = IntKind.i64.wrap (S.k (k * 4 + 1) - 1) := ⟨_, rfl⟩
       rw [← hcm]
       have HC : Hid (Wf cm) := by rw [hcm]; exact wf_wrap _ _
       clear hcm
       refine rdH 11 (fun K hK => ?_)
       go_simp
       have HI : Hid (Ints (yd.alloc (.cells #[.int .i64 (S.k (k * 4 + 2)), .int .i64 (S.k (k * 4 + 1)), .int .i64 cm] 2)) yd.heap.size (.slice (some ⟨yd.heap.size, 0, none⟩) 3 3) [S.k (k * 4 + 2), S.k (k * 4 + 1), cm]) := World.ownsRow_lit yd #[.int .i64 (S.k (k * 4 + 2)), .int .i64 (S.k (k * 4 + 1)), .int .i64 cm] 3 (Nat.le_refl _) (by decide) rfl
       have HG : Hid (b < yd.heap.size) := HD.out.src.lt
       have HD : Hid (DrX w b o len cap bx S (.slice a0 S.nc c0) (.slice a1 S.nl c1) (.slice (some ⟨g, oo, none⟩) S.nw c2) (z + 5 + 1 + 1 + 1) (yd.alloc (.cells #[.int .i64 (S.k (k * 4 + 2)), .int .i64 (S.k (k * 4 + 1)), .int .i64 cm] 2))) := HD.out.later (below_alloc _ _)
       refine hK.out _ _ ⟨show BoxS _ _ _ _ _ from hS.1.alloc _, hS.2.alloc _⟩ (fun hS => ?_)
       clear hK K
       generalize yd.alloc (.cells #[.int .i64 (S.k (k * 4 + 2)), .int .i64 (S.k (k * 4 + 1)), .int .i64 cm] 2) = ye at HD HI hS ⊢
       refine rdH 12 (fun K hK => ?_)
       go_simp
       go_wp2_with fail
       refine (l1Pick_any _ b o len cap (z + 5 + 1 + 1 + 1) _ yd.heap.size [S.k (k * 4 + 2), S.k (k * 4 + 1), cm] HD.out.src (by omega) hl HI.out HG.out (by simp) (by simp)).mono ?_
       rintro e yf ⟨pt, rfl, hpt, hS1, hT1⟩
       have HP : Hid (storeF S = 0 → Wf pt) := fun hz => wf_writeS hz hk HC.out hpt
       clear hpt
       have HN : Hid (kb ≠ b) := by have := HKX.out; have := HD.out.bl; exact (by omega : kb ≠ b)
       have HD : Hid (DrX w b o len cap bx S (.slice a0 S.nc c0) (.slice a1 S.nl c1) (.slice (some ⟨g, oo, none⟩) S.nw c2) (z + 5 + 1 + 1 + 1 + 1) yf) := HD.out.step hT1 hS1
       have hS' : BoxS bx (.slice a0 S.nc c0) (.slice a1 S.nl c1) (.slice (some ⟨g, oo, none⟩) S.nw c2) yf ∧ Blk4 yf kb (.int .i64 (S.k (k * 4))) (.int .i64 (S.k (k * 4 + 1))) (.int .i64 (S.k (k * 4 + 2))) (.int .i64 (S.k (k * 4 + 3))) := ⟨HD.out.box, hS.2.kept (hT1.block kb hS.2.lt (fun e => HN.out (Option.some.inj e)))⟩
       clear hS1 hT1 HI HG
       go_wp2_with fail
       refine hK.out _ _ hS' (fun hS => ?_)
       clear hK K hS'
       obtain ⟨⟨r0, r1, r2⟩, f0, f1, f2⟩ := HD.out.res
       refine rdH 13 (fun K hK => ?_)
       go_simp
       have HO := hid_mk (DrX.out HD.out (.slice a0 S.nc c0) (.slice a1 S.nl c1) (.slice (some ⟨g, oo, none⟩) S.nw c2))
       have HZ := hid_mk HD.out.sz
       have hB5 : Blk4 (((yf.setCell ⟨w.heap.size, 0, none⟩ (.slice a0 S.nc c0)).setCell ⟨w.heap.size, 1, none⟩ (.slice a1 S.nl c1)).setCell ⟨w.heap.size, 2, none⟩ (.slice (some ⟨g, oo, none⟩) S.nw c2)) kb (.int .i64 (S.k (k * 4))) (.int .i64 (S.k (k * 4 + 1))) (.int .i64 (S.k (k * 4 + 2))) (.int .i64 (S.k (k * 4 + 3))) := (((hS.2.kept (Below.heap_setCell _ _ _ _ (by show kb ≠ w.heap.size; have := HKB.out; omega))).kept (Below.heap_setCell _ _ _ _ (by show kb ≠ w.heap.size; have := HKB.out; omega))).kept (Below.heap_setCell _ _ _ _ (by show kb ≠ w.heap.size; have := HKB.out; omega)))
       refine hK.out _ _ ⟨HO.out.1, hB5⟩ (fun hS => ?_)
       clear hK K r0 r1 r2 f0 f1 f2 HD hB5
       generalize (((yf.setCell ⟨w.heap.size, 0, none⟩ (.slice a0 S.nc c0)).setCell ⟨w.heap.size, 1, none⟩ (.slice a1 S.nl c1)).setCell ⟨w.heap.size, 2, none⟩ (.slice (some ⟨g, oo, none⟩) S.nw c2)) = yz at HO hS ⊢
       refine tkH 14 ?_ hS (fun wx hx => ?_) ?_; rotate_left
       ·obtain ⟨⟨⟨hx0, hx1, hx2⟩, _⟩, ⟨hy0, hy1, hy2, hy3⟩, _⟩ := hx; go_simp; try with_reducible rfl
       refine tkH 15 ?_ hS (fun wx hx => ?_) ?_; rotate_left
       ·obtain ⟨⟨⟨hx0, hx1, hx2⟩, _⟩, ⟨hy0, hy1, hy2, hy3⟩, _⟩ := hx; go_simp; try with_reducible rfl
       refine wpAnyH_done (by kernel_rfl) ?_ _
       go_simp
       obtain ⟨⟨q0, q1, q2⟩, _⟩ := HO.out.2.1
       go_wp2
       refine bodyPost_ret (v := .tuple #[.agg #[.slice a0 S.nc c0, .slice a1 S.nl c1, .slice (some ⟨g, oo, none⟩) S.nw c2], .int .i64 (S.k (k * 4)), .int .i64 (pt)]) (by simp [results, Tryz.results26, go_sem, q0, q1, q2]) rfl ⟨S, a0, c0, a1, c1, some ⟨g, oo, none⟩, c2, S.k (k * 4), pt, rfl, HZ.out, HO.out.2.2.1, HO.out.2.2.2, HP.out⟩
     ·intro K hK
      go_simp
      have KB : Hid (Blk4 (y0.alloc (.cells #[.int .i64 0, .int .i64 0, .int .i64 0, .int .i64 0] 55)) y0.heap.size (.int .i64 0) (.int .i64 0) (.int .i64 0) (.int .i64 0) ∧ OwnIn S (.slice a0 S.nc c0) (.slice a1 S.nl c1) (.slice (some ⟨g, oo, none⟩) S.nw c2) (fun k => k < y0.heap.size) ∧ bx < y0.heap.size) := ⟨Blk4.new _ _ _ _ _ _, HD.out.st.ownIn.mono (fun k hk => hk.2), HD.out.box.lt⟩
      have HD : Hid (DrX w b o len cap bx S (.slice a0 S.nc c0) (.slice a1 S.nl c1) (.slice (some ⟨g, oo, none⟩) S.nw c2) (z + 5 + 1 + 1) (y0.alloc (.cells #[.int .i64 0, .int .i64 0, .int .i64 0, .int .i64 0] 55))) := HD.out.later (below_alloc _ _)
      refine hK.out _ _ (show BoxS _ _ _ _ _ from hS.alloc _) (fun hS => ?_)
      clear hK K
      generalize y0.alloc (.cells #[.int .i64 0, .int .i64 0, .int .i64 0, .int .i64 0] 55) = y1 at HD KB hS ⊢
      obtain ⟨kb, hkb⟩ : ∃ kb, y0.heap.size = kb := ⟨_, rfl⟩
      rw [hkb] at KB ⊢
      clear hkb
      refine rdH 6 (fun K hK => ?_)
      go_simp
      go_wp2_with fail
      refine (l1Next_any _ b o len cap (z + 5 + 1 + 1) S.nw HD.out.src (by omega) hl).mono ?_
      rintro e y2 ⟨ri, rfl, ri0, ri1, hS1, hT1⟩
      have ri1 := ri1 (by omega)
      obtain ⟨k, rfl⟩ : ∃ k : Nat, ri = k := ⟨ri.toNat, by omega⟩
      have hk : k < S.nw := by omega
      have HD : Hid (DrX w b o len cap bx S (.slice a0 S.nc c0) (.slice a1 S.nl c1) (.slice (some ⟨g, oo, none⟩) S.nw c2) (z + 5 + 1 + 1 + 1) y2) := HD.out.step hT1 hS1
      have KB : Hid (Blk4 y2 kb (.int .i64 0) (.int .i64 0) (.int .i64 0) (.int .i64 0) ∧ OwnIn S (.slice a0 S.nc c0) (.slice a1 S.nl c1) (.slice (some ⟨g, oo, none⟩) S.nw c2) (fun k => k < kb) ∧ bx < kb) := ⟨KB.out.1.kept (hT1.block kb KB.out.1.lt (fun e => by have := Option.some.inj e; have := KB.out.2.2; have := HD.out.bl; omega)), KB.out.2⟩
      have hS' : BoxS bx (.slice a0 S.nc c0) (.slice a1 S.nl c1) (.slice (some ⟨g, oo, none⟩) S.nw c2) y2 := HD.out.box
      clear hS1 hT1 ri0 ri1
      go_wp2_with fail
      refine hK.out _ _ hS' (fun hS => ?_)
      clear hK K hS'
      refine tkH 7 ?_ hS (fun wx hx => ?_) ?_; rotate_left
      ·obtain ⟨⟨hx0, hx1, hx2⟩, _⟩ := hx; go_simp; try with_reducible rfl
      simp only [Act.put, List.getElem_toArray, List.getElem_cons_zero, List.getElem_cons_succ, List.setIfInBounds_toArray, List.set_cons_succ, List.set_cons_zero]
      refine rdH 8 (fun K hK => ?_)
      obtain ⟨g', oo', eg, _, _, k0, k1, k2, k3⟩ := HD.out.st.2.2.at4 hk
      obtain ⟨rfl, rfl⟩ : g = g' ∧ oo = oo' := by simpa using eg
      go_simp
      refine hK.out _ _ hS (fun hS => ?_)
      clear hK K k0 k1 k2 k3 eg
      refine rdH 10 (fun K hK => ?_)
      obtain ⟨⟨e0, e1, e2, e3⟩, f0, f1, f2, f3⟩ := KB.out.1
      go_simp
      have HF : Hid (DrX w b o len cap bx S (.slice a0 S.nc c0) (.slice a1 S.nl c1) (.slice (some ⟨g, oo, none⟩) S.nw c2) (z + 5 + 1 + 1 + 1) ((((y2.setCell ⟨kb, 0, none⟩ (.int .i64 (S.k (k * 4)))).setCell ⟨kb, 1, none⟩ (.int .i64 (S.k (k * 4 + 1)))).setCell ⟨kb, 2, none⟩ (.int .i64 (S.k (k * 4 + 2)))).setCell ⟨kb, 3, none⟩ (.int .i64 (S.k (k * 4 + 3)))) ∧ Blk4 ((((y2.setCell ⟨kb, 0, none⟩ (.int .i64 (S.k (k * 4)))).setCell ⟨kb, 1, none⟩ (.int .i64 (S.k (k * 4 + 1)))).setCell ⟨kb, 2, none⟩ (.int .i64 (S.k (k * 4 + 2)))).setCell ⟨kb, 3, none⟩ (.int .i64 (S.k (k * 4 + 3)))) kb (.int .i64 (S.k (k * 4))) (.int .i64 (S.k (k * 4 + 1))) (.int .i64 (S.k (k * 4 + 2))) (.int .i64 (S.k (k * 4 + 3)))) := ⟨(((HD.out.setK KB.out.2.1 KB.out.2.2 _ _).setK KB.out.2.1 KB.out.2.2 _ _).setK KB.out.2.1 KB.out.2.2 _ _).setK KB.out.2.1 KB.out.2.2 _ _, KB.out.1.put _ _ _ _⟩
      refine hK.out _ _ (show BoxS _ _ _ _ _ from HF.out.1.box) (fun hS => ?_)
      clear hK K
      have HKB : Hid (w.heap.size < kb) := by have := KB.out.2.2; have := HD.out.bl; have := HD.out.lo; exact (by omega : w.heap.size < kb)
      have HKX : Hid (bx < kb) := KB.out.2.2
      refine wpAnyH_done (by kernel_rfl) ?_ _
      clear hS e0 e1 e2 e3 f0 f1 f2 f3 KB HD
      go_simp
      generalize ((((y2.setCell ⟨kb, 0, none⟩ (.int .i64 (S.k (k * 4)))).setCell ⟨kb, 1, none⟩ (.int .i64 (S.k (k * 4 + 1)))).setCell ⟨kb, 2, none⟩ (.int .i64 (S.k (k * 4 + 2)))).setCell ⟨kb, 3, none⟩ (.int .i64 (S.k (k * 4 + 3)))) = yk at HF ⊢
      go_wp2_with fail
      refine wp_region_held_drew (S := fun x => BoxS bx (.slice a0 S.nc c0) (.slice a1 S.nl c1) (.slice (some ⟨g, oo, none⟩) S.nw c2) x ∧ Blk4 x kb (.int .i64 (S.k (k * 4))) (.int .i64 (S.k (k * 4 + 1))) (.int .i64 (S.k (k * 4 + 2))) (.int .i64 (S.k (k * 4 + 3)))) (by kernel_rfl) ⟨HF.out.1.box.kept rfl, HF.out.2.kept rfl⟩ (fun hS => ?_)
      have HD : Hid (DrX w b o len cap bx S (.slice a0 S.nc c0) (.slice a1 S.nl c1) (.slice (some ⟨g, oo, none⟩) S.nw c2) (z + 5 + 1 + 1 + 1) yk.drew) := HF.out.1.later (below_dr (Below.refl _ _) 1)
      clear HF
      generalize yk.drew = yd at HD hS ⊢
      refine tkH 0 ?_ hS (fun wx hx => ?_) ?_; rotate_left
      ·obtain ⟨⟨⟨hx0, hx1, hx2⟩, _⟩, ⟨hy0, hy1, hy2, hy3⟩, _⟩ := hx; go_simp; try with_reducible rfl
      refine tkH 1 ?_ hS (fun wx hx => ?_) ?_; rotate_left
      ·obtain ⟨⟨⟨hx0, hx1, hx2⟩, _⟩, ⟨hy0, hy1, hy2, hy3⟩, _⟩ := hx; go_simp; try with_reducible rfl
      refine tkH 2 ?_ hS (fun wx hx => ?_) ?_; rotate_left
      ·obtain ⟨⟨⟨hx0, hx1, hx2⟩, _⟩, ⟨hy0, hy1, hy2, hy3⟩, _⟩ := hx; go_simp; try with_reducible rfl
      refine tkH 3 ?_ hS (fun wx hx => ?_) ?_; rotate_left
      ·obtain ⟨⟨⟨hx0, hx1, hx2⟩, _⟩, ⟨hy0, hy1, hy2, hy3⟩, _⟩ := hx; go_simp; try with_reducible rfl
      refine tkH 4 ?_ hS (fun wx hx => ?_) ?_; rotate_left
      ·obtain ⟨⟨⟨hx0, hx1, hx2⟩, _⟩, ⟨hy0, hy1, hy2, hy3⟩, _⟩ := hx; go_simp; try with_reducible rfl
      refine tkH 5 ?_ hS (fun wx hx => ?_) ?_; rotate_left
      ·obtain ⟨⟨⟨hx0, hx1, hx2⟩, _⟩, ⟨hy0, hy1, hy2, hy3⟩, _⟩ := hx; go_simp; try with_reducible rfl
      refine tkH 6 ?_ hS (fun wx hx => ?_) ?_; rotate_left
      ·obtain ⟨⟨⟨hx0, hx1, hx2⟩, _⟩, ⟨hy0, hy1, hy2, hy3⟩, _⟩ := hx; go_simp; try with_reducible rfl
      refine tkH 7 ?_ hS (fun wx hx => ?_) ?_; rotate_left
      ·obtain ⟨⟨⟨hx0, hx1, hx2⟩, _⟩, ⟨hy0, hy1, hy2, hy3⟩, _⟩ := hx; go_simp; try with_reducible rfl
      refine tkH 8 ?_ hS (fun wx hx => ?_) ?_; rotate_left
      ·obtain ⟨⟨⟨hx0, hx1, hx2⟩, _⟩, ⟨hy0, hy1, hy2, hy3⟩, _⟩ := hx; go_simp; try with_reducible rfl
      refine tkH 9 ?_ hS (fun wx hx => ?_) ?_; rotate_left
      ·obtain ⟨⟨⟨hx0, hx1, hx2⟩, _⟩, ⟨hy0, hy1, hy2, hy3⟩, _⟩ := hx; go_simp; try with_reducible rfl
      refine tkH 10 ?_ hS (fun wx hx => ?_) ?_; rotate_left
      ·obtain ⟨⟨⟨hx0, hx1, hx2⟩, _⟩, ⟨hy0, hy1, hy2, hy3⟩, _⟩ := hx; go_simp; try with_reducible rfl
      simp only [Act.put, List.getElem_toArray, List.getElem_cons_zero, List.getElem_cons_succ, List.setIfInBounds_toArray, List.set_cons_succ, List.set_cons_zero]
      obtain ⟨cm, hcm⟩ : ∃ cm, cm = IntKind.i64.wrap (S.k (k * 4 + 1) - 1) := ⟨_, rfl⟩
      rw [← hcm]
      have HC : Hid (Wf cm) := by rw [hcm]; exact wf_wrap _ _
      clear hcm
      refine rdH 11 (fun K hK => ?_)
      go_simp
      have HI : Hid (Ints (yd.alloc (.cells #[.int .i64 (S.k (k * 4 + 2)), .int .i64 (S.k (k * 4 + 1)), .int .i64 cm] 2)) yd.heap.size (.slice (some ⟨yd.heap.size, 0, none⟩) 3 3) [S.k (k * 4 + 2), S.k (k * 4 + 1), cm]) := World.ownsRow_lit yd #[.int .i64 (S.k (k * 4 + 2)), .int .i64 (S.k (k * 4 + 1)), .int .i64 cm] 3 (Nat.le_refl _) (by decide) rfl
      have HG : Hid (b < yd.heap.size) := HD.out.src.lt
      have HD : Hid (DrX w b o len cap bx S (.slice a0 S.nc c0) (.slice a1 S.nl c1) (.slice (some ⟨g, oo, none⟩) S.nw c2) (z + 5 + 1 + 1 + 1) (yd.alloc (.cells #[.int .i64 (S.k (k * 4 + 2)), .int .i64 (S.k (k * 4 + 1)), .int .i64 cm] 2))) := HD.out.later (below_alloc _ _)
      refine hK.out _ _ ⟨show BoxS _ _ _ _ _ from hS.1.alloc _, hS.2.alloc _⟩ (fun hS => ?_)
      clear hK K
      generalize yd.alloc (.cells #[.int .i64 (S.k (k * 4 + 2)), .int .i64 (S.k (k * 4 + 1)), .int .i64 cm] 2) = ye at HD HI hS ⊢
      refine rdH 12 (fun K hK => ?_)
      go_simp
      go_wp2_with fail
      refine (l1Pick_any _ b o len cap (z + 5 + 1 + 1 + 1) _ yd.heap.size [S.k (k * 4 + 2), S.k (k * 4 + 1), cm] HD.out.src (by omega) hl HI.out HG.out (by simp) (by simp)).mono ?_
      rintro e yf ⟨pt, rfl, hpt, hS1, hT1⟩
      have HP : Hid (storeF S = 0 → Wf pt) := fun hz => wf_writeS hz hk HC.out hpt
      clear hpt
      have HN : Hid (kb ≠ b) := by have := HKX.out; have := HD.out.bl; exact (by omega : kb ≠ b)
      have HD : Hid (DrX w b o len cap bx S (.slice a0 S.nc c0) (.slice a1 S.nl c1) (.slice (some ⟨g, oo, none⟩) S.nw c2) (z + 5 + 1 + 1 + 1 + 1) yf) := HD.out.step hT1 hS1
      have hS' : BoxS bx (.slice a0 S.nc c0) (.slice a1 S.nl c1) (.slice (some ⟨g, oo, none⟩) S.nw c2) yf ∧ Blk4 yf kb (.int .i64 (S.k (k * 4))) (.int .i64 (S.k (k * 4 + 1))) (.int .i64 (S.k (k * 4 + 2))) (.int .i64 (S.k (k * 4 + 3))) := ⟨HD.out.box, hS.2.kept (hT1.block kb hS.2.lt (fun e => HN.out (Option.some.inj e)))⟩
      clear hS1 hT1 HI HG
      go_wp2_with fail
      refine hK.out _ _ hS' (fun hS => ?_)
      clear hK K hS'
      obtain ⟨⟨r0, r1, r2⟩, f0, f1, f2⟩ := HD.out.res
      refine rdH 13 (fun K hK => ?_)
      go_simp
      have HO := hid_mk (DrX.out HD.out (.slice a0 S.nc c0) (.slice a1 S.nl c1) (.slice (some ⟨g, oo, none⟩) S.nw c2))
      have HZ := hid_mk HD.out.sz
      have hB5 : Blk4 (((yf.setCell ⟨w.heap.size, 0, none⟩ (.slice a0 S.nc c0)).setCell ⟨w.heap.size, 1, none⟩ (.slice a1 S.nl c1)).setCell ⟨w.heap.size, 2, none⟩ (.slice (some ⟨g, oo, none⟩) S.nw c2)) kb (.int .i64 (S.k (k * 4))) (.int .i64 (S.k (k * 4 + 1))) (.int .i64 (S.k (k * 4 + 2))) (.int .i64 (S.k (k * 4 + 3))) := (((hS.2.kept (Below.heap_setCell _ _ _ _ (by show kb ≠ w.heap.size; have := HKB.out; omega))).kept (Below.heap_setCell _ _ _ _ (by show kb ≠ w.heap.size; have := HKB.out; omega))).kept (Below.heap_setCell _ _ _ _ (by show kb ≠ w.heap.size; have := HKB.out; omega)))
      refine hK.out _ _ ⟨HO.out.1, hB5⟩ (fun hS => ?_)
      clear hK K r0 r1 r2 f0 f1 f2 HD hB5
      generalize (((yf.setCell ⟨w.heap.size, 0, none⟩ (.slice a0 S.nc c0)).setCell ⟨w.heap.size, 1, none⟩ (.slice a1 S.nl c1)).setCell ⟨w.heap.size, 2, none⟩ (.slice (some ⟨g, oo, none⟩) S.nw c2)) = yz at HO hS ⊢
      refine tkH 14 ?_ hS (fun wx hx => ?_) ?_; rotate_left
      ·obtain ⟨⟨⟨hx0, hx1, hx2⟩, _⟩, ⟨hy0, hy1, hy2, hy3⟩, _⟩ := hx; go_simp; try with_reducible rfl
      refine tkH 15 ?_ hS (fun wx hx => ?_) ?_; rotate_left
      ·obtain ⟨⟨⟨hx0, hx1, hx2⟩, _⟩, ⟨hy0, hy1, hy2, hy3⟩, _⟩ := hx; go_simp; try with_reducible rfl
      refine wpAnyH_done (by kernel_rfl) ?_ _
      go_simp
      obtain ⟨⟨q0, q1, q2⟩, _⟩ := HO.out.2.1
      go_wp2
      refine bodyPost_ret (v := .tuple #[.agg #[.slice a0 S.nc c0, .slice a1 S.nl c1, .slice (some ⟨g, oo, none⟩) S.nw c2], .int .i64 (S.k (k * 4)), .int .i64 (pt)]) (by simp [results, Tryz.results26, go_sem, q0, q1, q2]) rfl ⟨S, a0, c0, a1, c1, some ⟨g, oo, none⟩, c2, S.k (k * 4), pt, rfl, HZ.out, HO.out.2.2.1, HO.out.2.2.2, HP.out⟩
    ·have dn : decide (0 < S.nw) = false := decide_eq_false hnl
     obtain ⟨⟨t0, t1, t2⟩, _⟩ := HD.out.box
     go_wp2_with fail
     go_meet
     case rel => exact ⟨rfl, _, ⟨by omega, by omega⟩, HD⟩
  go_wp2_with fail
  go_meet
  case rel => exact ⟨rfl, _, ⟨by omega, by omega⟩, HD⟩
 case rest =>
  clear HD
  obtain ⟨rfl, d, hd, HD⟩ := hcut
  go_wp2_with fail
  refine wp_region_held_drew (S := BoxS bx (.slice a0 S.nc c0) (.slice a1 S.nl c1) (.slice a2 S.nw c2)) (by kernel_rfl) (HD.out.box.kept rfl) (fun hS => ?_)
  have HD : Hid (DrX w b o len cap bx S (.slice a0 S.nc c0) (.slice a1 S.nl c1) (.slice a2 S.nw c2) (d) wc.drew) := HD.out.later (below_dr (Below.refl _ _) 1)
  generalize wc.drew = y0 at HD hS ⊢
  refine tkH 0 ?_ hS (fun wx hx => ?_) ?_; rotate_left
  ·obtain ⟨⟨hx0, hx1, hx2⟩, _⟩ := hx; go_simp; try with_reducible rfl
  refine tkH 1 ?_ hS (fun wx hx => ?_) ?_; rotate_left
  ·obtain ⟨⟨hx0, hx1, hx2⟩, _⟩ := hx; go_simp; try with_reducible rfl
  refine tkH 2 ?_ hS (fun wx hx => ?_) ?_; rotate_left
  ·obtain ⟨⟨hx0, hx1, hx2⟩, _⟩ := hx; go_simp; try with_reducible rfl
  refine tkH 3 ?_ hS (fun wx hx => ?_) ?_; rotate_left
  ·obtain ⟨⟨hx0, hx1, hx2⟩, _⟩ := hx; go_simp; try with_reducible rfl
  refine tkH 4 ?_ hS (fun wx hx => ?_) ?_; rotate_left
  ·obtain ⟨⟨hx0, hx1, hx2⟩, _⟩ := hx; go_simp; try with_reducible rfl
  refine tkH 5 ?_ hS (fun wx hx => ?_) ?_; rotate_left
  ·obtain ⟨⟨hx0, hx1, hx2⟩, _⟩ := hx; go_simp; try with_reducible rfl
  refine tkH 9 ?_ hS (fun wx hx => ?_) ?_; rotate_left
  ·obtain ⟨⟨hx0, hx1, hx2⟩, _⟩ := hx; go_simp; try with_reducible rfl
  refine tkH 10 ?_ hS (fun wx hx => ?_) ?_; rotate_left
  ·obtain ⟨⟨hx0, hx1, hx2⟩, _⟩ := hx; go_simp; try with_reducible rfl
  refine tkH 11 ?_ hS (fun wx hx => ?_) ?_; rotate_left
  ·obtain ⟨⟨hx0, hx1, hx2⟩, _⟩ := hx; go_simp; try with_reducible rfl
  refine tkH 12 ?_ hS (fun wx hx => ?_) ?_; rotate_left
  ·obtain ⟨⟨hx0, hx1, hx2⟩, _⟩ := hx; go_simp; try with_reducible rfl
  simp only [Act.put, List.getElem_toArray, List.getElem_cons_zero, List.getElem_cons_succ, List.setIfInBounds_toArray, List.set_cons_succ, List.set_cons_zero]
  refine wpAnyH_ready (rs := [6, 13]) (by kernel_rfl) (by simp) ?_
  refine AllReadyH.cons rfl ?_ (AllReadyH.cons rfl ?_ AllReadyH.nil)
  focus
   intro K hK
   go_simp
   go_wp2_with fail
   refine (l1Bent_any _ b o len cap (d) HD.out.src (by omega) hl).mono ?_
   rintro e y1 ⟨bn, rfl, _, _, hS1, hT1⟩
   have HD : Hid (DrX w b o len cap bx S (.slice a0 S.nc c0) (.slice a1 S.nl c1) (.slice a2 S.nw c2) (d + 17) y1) := HD.out.step hT1 hS1
   have hS' : BoxS bx (.slice a0 S.nc c0) (.slice a1 S.nl c1) (.slice a2 S.nw c2) y1 := HD.out.box
   clear hS1 hT1
   go_wp2_with fail
   refine hK.out _ _ hS' (fun hS => ?_)
   clear hK K hS'
   refine wpAnyH_ready (rs := [7, 13]) (by kernel_rfl) (by simp) ?_
   refine AllReadyH.cons rfl ?_ (AllReadyH.cons rfl ?_ AllReadyH.nil)
   focus
    intro K hK
    go_simp
    have HI : Hid (Ints (y1.alloc (.cells #[.int .i64 key, .int .i64 key, .int .i64 key, .int .i64 bn] 2)) y1.heap.size (.slice (some ⟨y1.heap.size, 0, none⟩) 4 4) [key, key, key, bn]) := World.ownsRow_lit y1 #[.int .i64 key, .int .i64 key, .int .i64 key, .int .i64 bn] 4 (Nat.le_refl _) (by decide) rfl
    have HG : Hid (b < y1.heap.size) := HD.out.src.lt
    have HD : Hid (DrX w b o len cap bx S (.slice a0 S.nc c0) (.slice a1 S.nl c1) (.slice a2 S.nw c2) (d + 17) (y1.alloc (.cells #[.int .i64 key, .int .i64 key, .int .i64 key, .int .i64 bn] 2))) := HD.out.later (below_alloc _ _)
    refine hK.out _ _ (show BoxS _ _ _ _ _ from hS.alloc _) (fun hS => ?_)
    clear hK K
    generalize y1.alloc (.cells #[.int .i64 key, .int .i64 key, .int .i64 key, .int .i64 bn] 2) = y2 at HD HI hS ⊢
    refine wpAnyH_ready (rs := [8, 13]) (by kernel_rfl) (by simp) ?_
    refine AllReadyH.cons rfl ?_ (AllReadyH.cons rfl ?_ AllReadyH.nil)
    focus
     intro K hK
     go_simp
     go_wp2_with fail
     refine (l1Pick_any _ b o len cap (d + 17) _ y1.heap.size [key, key, key, bn] HD.out.src (by omega) hl HI.out HG.out (by simp) (by simp)).mono ?_
     rintro e y3 ⟨pk, rfl, _, hS1, hT1⟩
     have HD : Hid (DrX w b o len cap bx S (.slice a0 S.nc c0) (.slice a1 S.nl c1) (.slice a2 S.nw c2) (d + 17 + 1) y3) := HD.out.step hT1 hS1
     have hS' : BoxS bx (.slice a0 S.nc c0) (.slice a1 S.nl c1) (.slice a2 S.nw c2) y3 := HD.out.box
     clear hS1 hT1 HI HG
     go_wp2_with fail
     refine hK.out _ _ hS' (fun hS => ?_)
     clear hK K hS'
     refine rdH 13 (fun K hK => ?_)
     go_simp
     have HJ : Hid (Ints (y3.alloc (.cells #[.int .i64 ts, .int .i64 ts, .int .i64 ts, .int .i64 0] 2)) y3.heap.size (.slice (some ⟨y3.heap.size, 0, none⟩) 4 4) [ts, ts, ts, 0]) := World.ownsRow_lit y3 #[.int .i64 ts, .int .i64 ts, .int .i64 ts, .int .i64 0] 4 (Nat.le_refl _) (by decide) rfl
     have HH : Hid (b < y3.heap.size) := HD.out.src.lt
     have HD : Hid (DrX w b o len cap bx S (.slice a0 S.nc c0) (.slice a1 S.nl c1) (.slice a2 S.nw c2) (d + 17 + 1) (y3.alloc (.cells #[.int .i64 ts, .int .i64 ts, .int .i64 ts, .int .i64 0] 2))) := HD.out.later (below_alloc _ _)
     refine hK.out _ _ (show BoxS _ _ _ _ _ from hS.alloc _) (fun hS => ?_)
     clear hK K
     generalize y3.alloc (.cells #[.int .i64 ts, .int .i64 ts, .int .i64 ts, .int .i64 0] 2) = y4 at HD HJ hS ⊢
     refine rdH 14 (fun K hK => ?_)
     go_simp
     go_wp2_with fail
     refine (l1Pick_any _ b o len cap (d + 17 + 1) _ y3.heap.size [ts, ts, ts, 0] HD.out.src (by omega) hl HJ.out HH.out (by simp) (by simp)).mono ?_
    rotate_left
    focus
     intro K hK
     go_simp
     have HJ : Hid (Ints (y2.alloc (.cells #[.int .i64 ts, .int .i64 ts, .int .i64 ts, .int .i64 0] 2)) y2.heap.size (.slice (some ⟨y2.heap.size, 0, none⟩) 4 4) [ts, ts, ts, 0]) := World.ownsRow_lit y2 #[.int .i64 ts, .int .i64 ts, .int .i64 ts, .int .i64 0] 4 (Nat.le_refl _) (by decide) rfl
     have HH : Hid (b < y2.heap.size) := HD.out.src.lt
     have HI : Hid (Ints (y2.alloc (.cells #[.int .i64 ts, .int .i64 ts, .int .i64 ts, .int .i64 0] 2)) y1.heap.size (.slice (some ⟨y1.heap.size, 0, none⟩) 4 4) [key, key, key, bn]) := ((But.refl b _).alloc _).ints HI.out HG.out
     have HD : Hid (DrX w b o len cap bx S (.slice a0 S.nc c0) (.slice a1 S.nl c1) (.slice a2 S.nw c2) (d + 17) (y2.alloc (.cells #[.int .i64 ts, .int .i64 ts, .int .i64 ts, .int .i64 0] 2))) := HD.out.later (below_alloc _ _)
     refine hK.out _ _ (show BoxS _ _ _ _ _ from hS.alloc _) (fun hS => ?_)
     clear hK K
     generalize y2.alloc (.cells #[.int .i64 ts, .int .i64 ts, .int .i64 ts, .int .i64 0] 2) = y3 at HD HI HJ hS ⊢
     refine rdH 8 (fun K hK => ?_)
     go_simp
     go_wp2_with fail
     refine (l1Pick_any _ b o len cap (d + 17) _ y1.heap.size [key, key, key, bn] HD.out.src (by omega) hl HI.out HG.out (by simp) (by simp)).mono ?_
     rintro e y4 ⟨pk, rfl, _, hS1, hT1⟩
     have HD : Hid (DrX w b o len cap bx S (.slice a0 S.nc c0) (.slice a1 S.nl c1) (.slice a2 S.nw c2) (d + 17 + 1) y4) := HD.out.step hT1 hS1
     have HJ : Hid (Ints y4 y2.heap.size (.slice (some ⟨y2.heap.size, 0, none⟩) 4 4) [ts, ts, ts, 0]) := hT1.ints HJ.out HH.out
     have hS' : BoxS bx (.slice a0 S.nc c0) (.slice a1 S.nl c1) (.slice a2 S.nw c2) y4 := HD.out.box
     clear hS1 hT1 HI HG
     go_wp2_with fail
     refine hK.out _ _ hS' (fun hS => ?_)
     clear hK K hS'
     refine rdH 14 (fun K hK => ?_)
     go_simp
     go_wp2_with fail
     refine (l1Pick_any _ b o len cap (d + 17 + 1) _ y2.heap.size [ts, ts, ts, 0] HD.out.src (by omega) hl HJ.out HH.out (by simp) (by simp)).mono ?_
    rotate_left
   rotate_left 2
   focus
    intro K hK
    go_simp
    have HJ : Hid (Ints (y1.alloc (.cells #[.int .i64 ts, .int .i64 ts, .int .i64 ts, .int .i64 0] 2)) y1.heap.size (.slice (some ⟨y1.heap.size, 0, none⟩) 4 4) [ts, ts, ts, 0]) := World.ownsRow_lit y1 #[.int .i64 ts, .int .i64 ts, .int .i64 ts, .int .i64 0] 4 (Nat.le_refl _) (by decide) rfl
    have HH : Hid (b < y1.heap.size) := HD.out.src.lt
    have HD : Hid (DrX w b o len cap bx S (.slice a0 S.nc c0) (.slice a1 S.nl c1) (.slice a2 S.nw c2) (d + 17) (y1.alloc (.cells #[.int .i64 ts, .int .i64 ts, .int .i64 ts, .int .i64 0] 2))) := HD.out.later (below_alloc _ _)
    refine hK.out _ _ (show BoxS _ _ _ _ _ from hS.alloc _) (fun hS => ?_)
    clear hK K
    generalize y1.alloc (.cells #[.int .i64 ts, .int .i64 ts, .int .i64 ts, .int .i64 0] 2) = y2 at HD HJ hS ⊢
    refine rdH 7 (fun K hK => ?_)
    go_simp
    have HI : Hid (Ints (y2.alloc (.cells #[.int .i64 key, .int .i64 key, .int .i64 key, .int .i64 bn] 2)) y2.heap.size (.slice (some ⟨y2.heap.size, 0, none⟩) 4 4) [key, key, key, bn]) := World.ownsRow_lit y2 #[.int .i64 key, .int .i64 key, .int .i64 key, .int .i64 bn] 4 (Nat.le_refl _) (by decide) rfl
    have HG : Hid (b < y2.heap.size) := HD.out.src.lt
    have HJ : Hid (Ints (y2.alloc (.cells #[.int .i64 key, .int .i64 key, .int .i64 key, .int .i64 bn] 2)) y1.heap.size (.slice (some ⟨y1.heap.size, 0, none⟩) 4 4) [ts, ts, ts, 0]) := ((But.refl b _).alloc _).ints HJ.out HH.out
    have HD : Hid (DrX w b o len cap bx S (.slice a0 S.nc c0) (.slice a1 S.nl c1) (.slice a2 S.nw c2) (d + 17) (y2.alloc (.cells #[.int .i64 key, .int .i64 key, .int .i64 key, .int .i64 bn] 2))) := HD.out.later (below_alloc _ _)
    refine hK.out _ _ (show BoxS _ _ _ _ _ from hS.alloc _) (fun hS => ?_)
    clear hK K
    generalize y2.alloc (.cells #[.int .i64 key, .int .i64 key, .int .i64 key, .int .i64 bn] 2) = y3 at HD HI HJ hS ⊢
    refine rdH 8 (fun K hK => ?_)
    go_simp
    go_wp2_with fail
    refine (l1Pick_any _ b o len cap (d + 17) _ y2.heap.size [key, key, key, bn] HD.out.src (by omega) hl HI.out HG.out (by simp) (by simp)).mono ?_
    rintro e y4 ⟨pk, rfl, _, hS1, hT1⟩
    have HD : Hid (DrX w b o len cap bx S (.slice a0 S.nc c0) (.slice a1 S.nl c1) (.slice a2 S.nw c2) (d + 17 + 1) y4) := HD.out.step hT1 hS1
    have HJ : Hid (Ints y4 y1.heap.size (.slice (some ⟨y1.heap.size, 0, none⟩) 4 4) [ts, ts, ts, 0]) := hT1.ints HJ.out HH.out
    have hS' : BoxS bx (.slice a0 S.nc c0) (.slice a1 S.nl c1) (.slice a2 S.nw c2) y4 := HD.out.box
    clear hS1 hT1 HI HG
    go_wp2_with fail
    refine hK.out _ _ hS' (fun hS => ?_)
    clear hK K hS'
    refine rdH 14 (fun K hK => ?_)
    go_simp
    go_wp2_with fail
    refine (l1Pick_any _ b o len cap (d + 17 + 1) _ y1.heap.size [ts, ts, ts, 0] HD.out.src (by omega) hl HJ.out HH.out (by simp) (by simp)).mono ?_
   rotate_left
  rotate_left 3
  focus
   intro K hK
   go_simp
   have HJ : Hid (Ints (y0.alloc (.cells #[.int .i64 ts, .int .i64 ts, .int .i64 ts, .int .i64 0] 2)) y0.heap.size (.slice (some ⟨y0.heap.size, 0, none⟩) 4 4) [ts, ts, ts, 0]) := World.ownsRow_lit y0 #[.int .i64 ts, .int .i64 ts, .int .i64 ts, .int .i64 0] 4 (Nat.le_refl _) (by decide) rfl
   have HH : Hid (b < y0.heap.size) := HD.out.src.lt
   have HD : Hid (DrX w b o len cap bx S (.slice a0 S.nc c0) (.slice a1 S.nl c1) (.slice a2 S.nw c2) (d) (y0.alloc (.cells #[.int .i64 ts, .int .i64 ts, .int .i64 ts, .int .i64 0] 2))) := HD.out.later (below_alloc _ _)
   refine hK.out _ _ (show BoxS _ _ _ _ _ from hS.alloc _) (fun hS => ?_)
   clear hK K
   generalize y0.alloc (.cells #[.int .i64 ts, .int .i64 ts, .int .i64 ts, .int .i64 0] 2) = y1 at HD HJ hS ⊢
   refine rdH 6 (fun K hK => ?_)
   go_simp
   go_wp2_with fail
   refine (l1Bent_any _ b o len cap (d) HD.out.src (by omega) hl).mono ?_
   rintro e y2 ⟨bn, rfl, _, _, hS1, hT1⟩
   have HD : Hid (DrX w b o len cap bx S (.slice a0 S.nc c0) (.slice a1 S.nl c1) (.slice a2 S.nw c2) (d + 17) y2) := HD.out.step hT1 hS1
   have HJ : Hid (Ints y2 y0.heap.size (.slice (some ⟨y0.heap.size, 0, none⟩) 4 4) [ts, ts, ts, 0]) := hT1.ints HJ.out HH.out
   have hS' : BoxS bx (.slice a0 S.nc c0) (.slice a1 S.nl c1) (.slice a2 S.nw c2) y2 := HD.out.box
   clear hS1 hT1
   go_wp2_with fail
   refine hK.out _ _ hS' (fun hS => ?_)
   clear hK K hS'
   refine rdH 7 (fun K hK => ?_)
   go_simp
   have HI : Hid (Ints (y2.alloc (.cells #[.int .i64 key, .int .i64 key, .int .i64 key, .int .i64 bn] 2)) y2.heap.size (.slice (some ⟨y2.heap.size, 0, none⟩) 4 4) [key, key, key, bn]) := World.ownsRow_lit y2 #[.int .i64 key, .int .i64 key, .int .i64 key, .int .i64 bn] 4 (Nat.le_refl _) (by decide) rfl
   have HG : Hid (b < y2.heap.size) := HD.out.src.lt
   have HJ : Hid (Ints (y2.alloc (.cells #[.int .i64 key, .int .i64 key, .int .i64 key, .int .i64 bn] 2)) y0.heap.size (.slice (some ⟨y0.heap.size, 0, none⟩) 4 4) [ts, ts, ts, 0]) := ((But.refl b _).alloc _).ints HJ.out HH.out
   have HD : Hid (DrX w b o len cap bx S (.slice a0 S.nc c0) (.slice a1 S.nl c1) (.slice a2 S.nw c2) (d + 17) (y2.alloc (.cells #[.int .i64 key, .int .i64 key, .int .i64 key, .int .i64 bn] 2))) := HD.out.later (below_alloc _ _)
   refine hK.out _ _ (show BoxS _ _ _ _ _ from hS.alloc _) (fun hS => ?_)
   clear hK K
   generalize y2.alloc (.cells #[.int .i64 key, .int .i64 key, .int .i64 key, .int .i64 bn] 2) = y3 at HD HI HJ hS ⊢
   refine rdH 8 (fun K hK => ?_)
   go_simp
   go_wp2_with fail
   refine (l1Pick_any _ b o len cap (d + 17) _ y2.heap.size [key, key, key, bn] HD.out.src (by omega) hl HI.out HG.out (by simp) (by simp)).mono ?_
   rintro e y4 ⟨pk, rfl, _, hS1, hT1⟩
   have HD : Hid (DrX w b o len cap bx S (.slice a0 S.nc c0) (.slice a1 S.nl c1) (.slice a2 S.nw c2) (d + 17 + 1) y4) := HD.out.step hT1 hS1
   have HJ : Hid (Ints y4 y0.heap.size (.slice (some ⟨y0.heap.size, 0, none⟩) 4 4) [ts, ts, ts, 0]) := hT1.ints HJ.out HH.out
   have hS' : BoxS bx (.slice a0 S.nc c0) (.slice a1 S.nl c1) (.slice a2 S.nw c2) y4 := HD.out.box
   clear hS1 hT1 HI HG
   go_wp2_with fail
   refine hK.out _ _ hS' (fun hS => ?_)
   clear hK K hS'
   refine rdH 14 (fun K hK => ?_)
   go_simp
   go_wp2_with fail
   refine (l1Pick_any _ b o len cap (d + 17 + 1) _ y0.heap.size [ts, ts, ts, 0] HD.out.src (by omega) hl HJ.out HH.out (by simp) (by simp)).mono ?_
  rotate_left
  all_goals
   rintro e y5 ⟨pt, rfl, hpt, hS1, hT1⟩
   have HP : Hid (storeF S = 0 → Wf pt) := fun _ => wf_drawn HT.out hpt
   clear hpt
   have HD : Hid (DrX w b o len cap bx S (.slice a0 S.nc c0) (.slice a1 S.nl c1) (.slice a2 S.nw c2) (d + 17 + 1 + 1) y5) := HD.out.step hT1 hS1
   have hS' : BoxS bx (.slice a0 S.nc c0) (.slice a1 S.nl c1) (.slice a2 S.nw c2) y5 := HD.out.box
   clear hS1 hT1 HJ HH
   go_wp2_with fail
   refine hK.out _ _ hS' (fun hS => ?_)
   clear hK K hS'
   obtain ⟨⟨r0, r1, r2⟩, f0, f1, f2⟩ := HD.out.res
   refine rdH 15 (fun K hK => ?_)
   go_simp
   have HO := hid_mk (DrX.out HD.out (.slice a0 S.nc c0) (.slice a1 S.nl c1) (.slice a2 S.nw c2))
   have HZ := hid_mk HD.out.sz
   refine hK.out _ _ HO.out.1 (fun hS => ?_)
   clear hK K r0 r1 r2 f0 f1 f2 HD
   generalize ((y5.setCell ⟨w.heap.size, 0, none⟩ (.slice a0 S.nc c0)).setCell ⟨w.heap.size, 1, none⟩ (.slice a1 S.nl c1)).setCell ⟨w.heap.size, 2, none⟩ (.slice a2 S.nw c2) = yz at HO hS ⊢
   refine tkH 16 ?_ hS (fun wx hx => ?_) ?_; rotate_left
   ·obtain ⟨⟨hx0, hx1, hx2⟩, _⟩ := hx; go_simp; try with_reducible rfl
   refine tkH 17 ?_ hS (fun wx hx => ?_) ?_; rotate_left
   ·obtain ⟨⟨hx0, hx1, hx2⟩, _⟩ := hx; go_simp; try with_reducible rfl
   refine wpAnyH_done (by kernel_rfl) ?_ _
   go_simp
   obtain ⟨⟨q0, q1, q2⟩, _⟩ := HO.out.2.1
   go_wp2
   refine bodyPost_ret (v := .tuple #[.agg #[.slice a0 S.nc c0, .slice a1 S.nl c1, .slice a2 S.nw c2], .int .i64 pk, .int .i64 pt]) (by simp [results, Tryz.results26, go_sem, q0, q1, q2]) rfl ⟨S, a0, c0, a1, c1, a2, c2, pk, pt, rfl, HZ.out, HO.out.2.2.1, HO.out.2.2.2, HP.out⟩
end Go.Proofs.YtiadbiiiikhfaaaGreatDoor

namespace Go.Proofs.YtiadbiiiikhfaaaGreatDoor
open Go.RowKit

/-- What the draw of a store, a key and a time answers. -/
def DrawnW (w : World) (e : Ending) (w' : World) : Prop := ∃ (S : Sto) (a0 : Option Addr) (c0 : Nat) (a1 : Option Addr) (c1 : Nat) (a2 : Option Addr) (c2 : Nat) (key ts : Int), e = .returned (.tuple #[.agg #[.slice a0 S.nc c0, .slice a1 S.nl c1, .slice a2 S.nw c2], .int .i64 key, .int .i64 ts]) ∧ St w' 0 S (.slice a0 S.nc c0) (.slice a1 S.nl c1) (.slice a2 S.nw c2) ∧ Below w.heap.size w w' ∧ (storeF S = 0 → Wf ts)
set_option maxRecDepth 100000 in
set_option maxHeartbeats 1000000 in
theorem drawRollbackKey_any (w : World) (o : Option Addr) (len cap : Nat) (h : Code w o len) (hl : len ≤ 1048576) :
  Calls Tryz.prog 24 #[.slice o len cap] w (DrawnW w) := by
 have H : Hid (Code w o len) := h
 have hR := Blk3.new w (.slice none 0 0) (.slice none 0 0) (.slice none 0 0) 28
 have HR : Hid (Blk3 (w.alloc (.cells #[.slice none 0 0, .slice none 0 0, .slice none 0 0] 28)) w.heap.size (.slice none 0 0) (.slice none 0 0) (.slice none 0 0)) := hR
 clear h hR
 go_enter Tryz.func24, Tryz.ntmps24
 go_wp2_with fail
 try dsimp only
 refine (l3With_any _ o len cap (H.out.later (below_alloc _ _)) hl).mono ?_
 rintro e w1 ⟨S, a0, c0, a1, c1, a2, c2, key, ts, rfl, _, hst, q, hw⟩
 have hsz : (w.alloc (.cells #[.slice none 0 0, .slice none 0 0, .slice none 0 0] 28)).heap.size = w.heap.size + 1 := by simp
 have hK := HR.out.later q
 have HX : Hid (St w1 (w.heap.size + 1) S (.slice a0 S.nc c0) (.slice a1 S.nl c1) (.slice a2 S.nw c2) ∧ Below w.heap.size w w1 ∧ (storeF S = 0 → Wf ts)) := ⟨hsz ▸ hst, (below_alloc w _).trans (q.mono (by omega)), hw⟩
 have HB := hid_mk (((hK.set0 (.slice a0 S.nc c0)).set1 (.slice a1 S.nl c1)).set2 (.slice a2 S.nw c2))
 obtain ⟨⟨r0, r1, r2⟩, f0, f1, f2⟩ := hK
 clear q hst hw hsz HR H
 go_wp2
 obtain ⟨⟨q0, q1, q2⟩, _⟩ := HB.out
 have hf : ∀ j, (⟨w.heap.size, j, none⟩ : Addr).block < w.heap.size + 1 := fun j => by show w.heap.size < w.heap.size + 1; omega
 refine bodyPost_ret (v := .tuple #[.agg #[.slice a0 S.nc c0, .slice a1 S.nl c1, .slice a2 S.nw c2], .int .i64 key, .int .i64 ts]) (by simp [results, Tryz.results24, go_sem, q0, q1, q2]) rfl ⟨S, a0, c0, a1, c1, a2, c2, key, ts, rfl, (((HX.out.1.far (hf 0) _).far (hf 1) _).far (hf 2) _).mono (Nat.zero_le _), ((HX.out.2.1.setCell (Nat.le_refl _) _).setCell (Nat.le_refl _) _).setCell (Nat.le_refl _) _, HX.out.2.2⟩
end Go.Proofs.YtiadbiiiikhfaaaGreatDoor

namespace Go.Proofs.YtiadbiiiikhfaaaGreatDoor
open Go.RowKit

set_option maxRecDepth 100000 in
set_option maxHeartbeats 16000000 in
theorem fnBacks_over (o : Option Addr) (len cap : Nat) (w : World) (hL : Laid w) (hl0 : len ≤ maxLen) (hd : len ≤ 1048576 → Calls Tryz.prog 24 #[.slice o len cap] w (DrawnW w)) :
  Calls Tryz.prog 5 #[.slice o len cap] w fun e w' => e = .returned (.bool true) ∧ Below w.heap.size w w' := by
 have HL : Hid (Laid w) := hL
 have hml : maxLen = 9223372036854775807 := rfl
 clear hL
 by_cases hbig : (1048576 : Int) < len
 ·have d : decide ((1048576 : Int) < (len : Int)) = true := decide_eq_true hbig
  go_enter Tryz.func5, Tryz.ntmps5
  go_wp2_with fail
  refine (lwBigW_is _ _ _ _ _ d).mono ?_
  rintro e w9 ⟨rfl, hw9⟩
  obtain rfl := hw9.symm
  go_wp2
  go_ret
  exact ⟨rfl, Below.refl _ _⟩
 have d : decide ((1048576 : Int) < (len : Int)) = false := decide_eq_false hbig
 have HD : Hid (Calls Tryz.prog 24 #[.slice o len cap] w (DrawnW w)) := hd (by omega)
 clear hd hbig hml hl0
 go_enter Tryz.func5, Tryz.ntmps5
 go_wp2_with fail
 refine (lwBigW_is _ _ _ _ _ d).mono ?_
 rintro e w9 ⟨rfl, hw9⟩
 obtain rfl := hw9.symm
 clear hw9
 go_wp2_with fail
 refine HD.out.mono ?_
 rintro e y0 ⟨S, a0, c0, a1, c1, a2, c2, key, start, rfl, hst, q1, _⟩
 have K0 : Hid (Blk3 (y0.alloc (.cells #[.slice a0 S.nc c0, .slice a1 S.nl c1, .slice a2 S.nw c2] 28)) y0.heap.size (.slice a0 S.nc c0) (.slice a1 S.nl c1) (.slice a2 S.nw c2)) := Blk3.new y0 _ _ _ _
 have HB : Hid (Below w.heap.size w (y0.alloc (.cells #[.slice a0 S.nc c0, .slice a1 S.nl c1, .slice a2 S.nw c2] 28)) ∧ St (y0.alloc (.cells #[.slice a0 S.nc c0, .slice a1 S.nl c1, .slice a2 S.nw c2] 28)) 0 S (.slice a0 S.nc c0) (.slice a1 S.nl c1) (.slice a2 S.nw c2)) := ⟨q1.alloc q1.size _, hst.alloc _⟩
 clear hst q1 HD d
 obtain ⟨⟨t0, t1, t2⟩, _⟩ := K0.out
 go_wp2_with fail
 generalize y0.alloc (.cells #[.slice a0 S.nc c0, .slice a1 S.nl c1, .slice a2 S.nw c2] 28) = x0 at HB K0 t0 t1 t2 ⊢
 generalize y0.heap.size = b3 at K0 t0 t1 t2 ⊢
 obtain ⟨c, R, hR, hA⟩ := RollAns.get S key start
 have PA : Hid (RollAns S key start c R) := hA
 refine (implRollbackKey_is S _ _ _ key start c R 0 _ HB.out.2 (HL.out.later HB.out.1) PA.out).mono ?_
 rintro e y1 ⟨g0, g3, g1, g4, g2, g5, rfl, ⟨st1, _, _⟩, q⟩
 have qa : Below x0.heap.size x0 (y1.alloc (.cells #[.int .i64 c, .slice g0 R.nc g3, .slice g1 R.nl g4, .slice g2 R.nw g5] 32)) := q.alloc q.size _
 have HE : Hid (EnU w b3 y1.heap.size c S R (.slice a0 S.nc c0) (.slice a1 S.nl c1) (.slice a2 S.nw c2) (.slice g0 R.nc g3) (.slice g1 R.nl g4) (.slice g2 R.nw g5) (y1.alloc (.cells #[.int .i64 c, .slice g0 R.nc g3, .slice g1 R.nl g4, .slice g2 R.nw g5] 32))) := ⟨HB.out.1.trans (qa.mono HB.out.1.size), ⟨K0.out.later qa, HB.out.2.later qa⟩, Blk4.new _ _ _ _ _ _, (st1.mono (Nat.zero_le _)).alloc _⟩
 clear HB K0 q qa st1 t0 t1 t2 hR
 go_upto_region 5 with fail
 generalize y1.alloc (.cells #[.int .i64 c, .slice g0 R.nc g3, .slice g1 R.nl g4, .slice g2 R.nw g5] 32) = x1 at HE ⊢
 generalize y1.heap.size = b6 at HE ⊢
 obtain ⟨⟨f0, f1, f2, f3⟩, _⟩ := HE.out.2.2.1
 by_cases hc : c = 0
 case neg =>
  have dn : (c == 0) = false := beq_eq_false_iff_ne.2 hc
  clear hA hc
  go_upto_region 6 with fail
  clear f0 f1 f2 f3
  refine wp_region_held_drew (S := EnU w b3 b6 c S R (.slice a0 S.nc c0) (.slice a1 S.nl c1) (.slice a2 S.nw c2) (.slice g0 R.nc g3) (.slice g1 R.nl g4) (.slice g2 R.nw g5)) (by kernel_rfl) (HE.out.later ((Below.refl _ _).drew)) (fun hS => ?_)
  clear HE
  generalize x1.drew = x2 at hS ⊢
  refine tkH 0 ?_ hS (fun wx hx => ?_) ?_; rotate_left
  ·obtain ⟨_, ⟨⟨⟨e0, e1, e2⟩, _⟩, _⟩, ⟨⟨f0, f1, f2, f3⟩, _⟩, _⟩ := hx; go_simp; try with_reducible rfl
  refine tkH 1 ?_ hS (fun wx hx => ?_) ?_; rotate_left
  ·obtain ⟨_, ⟨⟨⟨e0, e1, e2⟩, _⟩, _⟩, ⟨⟨f0, f1, f2, f3⟩, _⟩, _⟩ := hx; go_simp; try with_reducible rfl
  refine tkH 2 ?_ hS (fun wx hx => ?_) ?_; rotate_left
  ·obtain ⟨_, ⟨⟨⟨e0, e1, e2⟩, _⟩, _⟩, ⟨⟨f0, f1, f2, f3⟩, _⟩, _⟩ := hx; go_simp; try with_reducible rfl
  refine tkH 5 ?_ hS (fun wx hx => ?_) ?_; rotate_left
  ·obtain ⟨_, ⟨⟨⟨e0, e1, e2⟩, _⟩, _⟩, ⟨⟨f0, f1, f2, f3⟩, _⟩, _⟩ := hx; go_simp; try with_reducible rfl
  refine tkH 6 ?_ hS (fun wx hx => ?_) ?_; rotate_left
  ·obtain ⟨_, ⟨⟨⟨e0, e1, e2⟩, _⟩, _⟩, ⟨⟨f0, f1, f2, f3⟩, _⟩, _⟩ := hx; go_simp; try with_reducible rfl
  refine rdH 3 (fun K hK => ?_)
  go_simp
  go_wp2_with fail
  refine (specRollbackKey_is S _ _ _ key start c R 0 _ hS.2.1.2 PA.out).mono ?_
  rintro e x3 ⟨h0, h3, h1, h4, h2, h5, rfl, _, q⟩
  have hS' := hS.later q
  clear q
  go_wp2_with fail
  refine hK.out _ _ hS' (fun hS => ?_)
  clear hK K hS'
  have hfd := fun (w : World) => field_wr0S c h0 h1 h2 R.nc R.nl R.nw h3 h4 h5 w
  refine tkH 4 ?_ hS (fun wx hx => ?_) ?_; rotate_left
  ·obtain ⟨_, ⟨⟨⟨e0, e1, e2⟩, _⟩, _⟩, ⟨⟨f0, f1, f2, f3⟩, _⟩, _⟩ := hx; go_simp; try with_reducible rfl
  clear hfd
  refine tkH 7 ?_ hS (fun wx hx => ?_) ?_; rotate_left
  ·obtain ⟨_, ⟨⟨⟨e0, e1, e2⟩, _⟩, _⟩, ⟨⟨f0, f1, f2, f3⟩, _⟩, _⟩ := hx; go_simp; try with_reducible rfl
  refine tkH 8 ?_ hS (fun wx hx => ?_) ?_; rotate_left
  ·obtain ⟨_, ⟨⟨⟨e0, e1, e2⟩, _⟩, _⟩, ⟨⟨f0, f1, f2, f3⟩, _⟩, _⟩ := hx; go_simp; try with_reducible rfl
  refine wpAnyH_done (by kernel_rfl) ?_ _
  go_simp
  go_wp2
  go_ret
  exact ⟨rfl, hS.1⟩
 case pos =>
 subst hc
 have hz : askF S key = 0 ∧ isT start ∧ RollRes S key start 0 R := by
  rcases hA with ⟨h1, h2, _⟩ | ⟨_, _, h2, _⟩ | ⟨h1, h2, h3⟩
  ·exact absurd h2.symm h1
  ·exact absurd h2 (by decide)
  ·exact ⟨h1, h2, h3⟩
 obtain ⟨hask, hsf, hRR⟩ := hz
 obtain ⟨hz0, hfk⟩ := askF_zero hask
 have hs1 : 1 ≤ start := hsf.1
 have hs2 : start ≤ 100000 := hsf.2
 have hr0 : storeF R = 0 := hRR.ok hz0 hfk hsf
 have HR0 : Hid (storeF R = 0) := hr0
 have HG : Hid (∀ ts c c' n n' F F', LastWriteAns S key ts c n F → LastWriteAns R key ts c' n' F' → c' = c ∧ n' = n ∧ (c = 0 → n = 1 ∧ ∀ q, q < 4 → F' q = F q)) := fun ts c c' n n' F F' h1 h2 => back_last hz0 hr0 hRR h1 h2
 obtain ⟨s1, v1, hst1⟩ := StatAns.get R key start
 have PS : Hid (StatAns R key start s1 v1) := hst1
 obtain ⟨hs0, hv3⟩ := back_stat hz0 hr0 hfk hRR hst1
 subst hs0 hv3
 obtain ⟨cr, CT, _, hct⟩ := CommitAns.get R key start (start + 1)
 have PC : Hid (CommitAns R key start (start + 1) cr CT) := hct
 have hcn : cr ≠ 0 := back_commit hz0 hr0 hfk hRR hct
 have dcr : (cr == 0) = false := beq_eq_false_iff_ne.2 hcn
 have dcq : (cr != 0) = true := bne_iff_ne.2 hcn
 obtain ⟨pr, PT, _, hpt⟩ := PreAns.get R key start 3 0 key 0
 have PP : Hid (PreAns R key start 3 0 key 0 pr PT) := hpt
 obtain rfl := back_pre hz0 hr0 hfk hsf hRR ⟨by decide, by decide⟩ hpt
 obtain ⟨s2, v2, hst2⟩ := StatAns.get S key start
 have PQ : Hid (StatAns S key start s2 v2) := hst2
 have HV : Hid (v2 = 3 ∨ cellAtC R key start = 4) := back_cell hz0 hr0 hfk hRR hst2
 have HW : Hid (Wf start) := wf_small (by omega) (by omega)
 clear hcn hA hask hz0 hfk hsf hRR hr0 hst1 hct hpt hst2 f0 f1 f2 f3
 obtain ⟨⟨f0, f1, f2, f3⟩, _⟩ := HE.out.2.2.1
 go_wp2
 go_loopw [7] (fun i wr => ∃ j : Nat, j ≤ 6 ∧ i = .int .i64 (start + (j : Int)) ∧ Hid (EnU w b3 b6 0 S R (.slice a0 S.nc c0) (.slice a1 S.nl c1) (.slice a2 S.nw c2) (.slice g0 R.nc g3) (.slice g1 R.nl g4) (.slice g2 R.nw g5) wr)) (fun i _ => (start + 6 - intOf i).toNat)
 case atStart => exact ⟨0, Nat.zero_le _, by simp, HE⟩
 case round =>
  obtain ⟨j, hj, rfl, HE⟩ := hrel
  obtain ⟨wv, rfl⟩ : ∃ x, x = wr := ⟨_, rfl⟩
  obtain ⟨⟨e0, e1, e2⟩, _⟩ := HE.out.2.1.1
  by_cases hlt : j < 6
  ·have dl : decide (start + (j : Int) < start + 6) = true := decide_eq_true (by omega)
   obtain ⟨lc, ln, LF, _, hL1⟩ := LastWriteAns.get S key (start + (j : Int))
   obtain ⟨lc', ln', LF', _, hL2⟩ := LastWriteAns.get R key (start + (j : Int))
   obtain ⟨z1, z2, hsame⟩ := HG.out _ _ _ _ _ _ _ hL1 hL2
   obtain rfl := z1.symm
   obtain rfl := z2.symm
   have P1 : Hid (LastWriteAns S key (start + (j : Int)) lc ln LF) := hL1
   have P2 : Hid (LastWriteAns R key (start + (j : Int)) lc ln LF') := hL2
   have P3 : Hid (lc = 0 → ln = 1 ∧ ∀ q, q < 4 → LF' q = LF q) := hsame
   clear hL1 hL2 hsame
   go_wp2_with fail
   refine (implLastWrite_is S _ _ _ key (start + (j : Int)) lc ln LF 0 _ HE.out.2.1.2 P1.out).mono ?_
   rintro e y1 ⟨l0, l1, rfl, hrow, _, q⟩
   have qa : Below wv.heap.size wv (y1.alloc (.cells #[.int .i64 lc, .slice l0 ln l1] 52)) := q.alloc q.size _
   have K8 : Hid (EnU w b3 b6 0 S R (.slice a0 S.nc c0) (.slice a1 S.nl c1) (.slice a2 S.nw c2) (.slice g0 R.nc g3) (.slice g1 R.nl g4) (.slice g2 R.nw g5) (y1.alloc (.cells #[.int .i64 lc, .slice l0 ln l1] 52)) ∧ Blk2 (y1.alloc (.cells #[.int .i64 lc, .slice l0 ln l1] 52)) y1.heap.size (.int .i64 lc) (.slice l0 ln l1) ∧ Row (y1.alloc (.cells #[.int .i64 lc, .slice l0 ln l1] 52)) 0 4 ln LF (.slice l0 ln l1)) := ⟨HE.out.later qa, Blk2.new _ _ _ _, (hrow.mono (Nat.zero_le _)).later (below_alloc _ _)⟩
   clear q qa hrow HE e0 e1 e2
   go_upto_region 11 with fail
   generalize y1.alloc (.cells #[.int .i64 lc, .slice l0 ln l1] 52) = x2 at K8 ⊢
   generalize y1.heap.size = b8 at K8 ⊢
   obtain ⟨⟨f0, f1, f2, f3⟩, _⟩ := K8.out.1.2.2.1
   go_wp2_with fail
   refine (implLastWrite_is R _ _ _ key (start + (j : Int)) lc ln LF' 0 _ K8.out.1.2.2.2 P2.out).mono ?_
   rintro e y2 ⟨r0, r1, rfl, hrow, _, q⟩
   have qa : Below x2.heap.size x2 (y2.alloc (.cells #[.int .i64 lc, .slice r0 ln r1] 52)) := q.alloc q.size _
   have K9 : Hid (EnX w b3 b6 b8 y2.heap.size S R (.slice a0 S.nc c0) (.slice a1 S.nl c1) (.slice a2 S.nw c2) (.slice g0 R.nc g3) (.slice g1 R.nl g4) (.slice g2 R.nw g5) lc (.slice l0 ln l1) (.slice r0 ln r1) (y2.alloc (.cells #[.int .i64 lc, .slice r0 ln r1] 52)) ∧ Row (y2.alloc (.cells #[.int .i64 lc, .slice r0 ln r1] 52)) 0 4 ln LF (.slice l0 ln l1) ∧ Row (y2.alloc (.cells #[.int .i64 lc, .slice r0 ln r1] 52)) 0 4 ln LF' (.slice r0 ln r1)) := ⟨⟨K8.out.1.later qa, K8.out.2.1.later qa, Blk2.new _ _ _ _⟩, K8.out.2.2.later qa, (hrow.mono (Nat.zero_le _)).later (below_alloc _ _)⟩
   clear q qa hrow K8 f0 f1 f2 f3
   go_upto_region 12 with fail
   generalize y2.alloc (.cells #[.int .i64 lc, .slice r0 ln r1] 52) = x3 at K9 ⊢
   generalize y2.heap.size = b9 at K9 ⊢
   by_cases h0 : lc = 0
   ·obtain ⟨hn1, hF⟩ := P3.out h0
    subst h0 hn1
    obtain ⟨g8, o8, rfl, _⟩ := K9.out.2.1.at (k := 0) (by omega)
    obtain ⟨g9, o9, rfl, _⟩ := K9.out.2.2.at (k := 0) (by omega)
    have k8 := K9.out.2.1.four
    have k9 := K9.out.2.2.four
    rw [hF 0 (by omega), hF 1 (by omega), hF 2 (by omega), hF 3 (by omega)] at k9
    obtain ⟨n0, h0⟩ : ∃ x, LF 0 = x := ⟨_, rfl⟩
    obtain ⟨n1, h1⟩ : ∃ x, LF 1 = x := ⟨_, rfl⟩
    obtain ⟨n2, h2⟩ : ∃ x, LF 2 = x := ⟨_, rfl⟩
    obtain ⟨n3, h3⟩ : ∃ x, LF 3 = x := ⟨_, rfl⟩
    rw [h0, h1, h2, h3] at k8 k9
    have KY : Hid (EnY w b3 b6 b8 b9 S R (.slice a0 S.nc c0) (.slice a1 S.nl c1) (.slice a2 S.nw c2) (.slice g0 R.nc g3) (.slice g1 R.nl g4) (.slice g2 R.nw g5) (.slice (some ⟨g8, o8, none⟩) 1 l1) (.slice (some ⟨g9, o9, none⟩) 1 r1) g8 o8 g9 o9 n0 n1 n2 n3 x3) := ⟨K9.out.1, k8, k9⟩
    clear K9 k8 k9 h0 h1 h2 h3 hF
    refine wp_region_held_drew (S := EnY w b3 b6 b8 b9 S R (.slice a0 S.nc c0) (.slice a1 S.nl c1) (.slice a2 S.nw c2) (.slice g0 R.nc g3) (.slice g1 R.nl g4) (.slice g2 R.nw g5) (.slice (some ⟨g8, o8, none⟩) 1 l1) (.slice (some ⟨g9, o9, none⟩) 1 r1) g8 o8 g9 o9 n0 n1 n2 n3) (by kernel_rfl) (KY.out.later ((Below.refl _ _).drew)) (fun hS => ?_)
    clear KY
    generalize x3.drew = u0 at hS ⊢
    refine tkH 0 ?_ hS (fun wx hx => ?_) ?_; rotate_left
    ·obtain ⟨⟨_, ⟨⟨p0, p1⟩, _⟩, ⟨⟨q0, q1⟩, _⟩⟩, ⟨x0, x1, x2, x3⟩, ⟨y0, y1, y2, y3⟩⟩ := hx; go_simp; try with_reducible rfl
    refine tkH 1 ?_ hS (fun wx hx => ?_) ?_; rotate_left
    ·obtain ⟨⟨_, ⟨⟨p0, p1⟩, _⟩, ⟨⟨q0, q1⟩, _⟩⟩, ⟨x0, x1, x2, x3⟩, ⟨y0, y1, y2, y3⟩⟩ := hx; go_simp; try with_reducible rfl
    refine tkH 2 ?_ hS (fun wx hx => ?_) ?_; rotate_left
    ·obtain ⟨⟨_, ⟨⟨p0, p1⟩, _⟩, ⟨⟨q0, q1⟩, _⟩⟩, ⟨x0, x1, x2, x3⟩, ⟨y0, y1, y2, y3⟩⟩ := hx; go_simp; try with_reducible rfl
    try simp only [Act.put, List.getElem_toArray, List.getElem_cons_zero, List.getElem_cons_succ, List.setIfInBounds_toArray, List.set_cons_succ, List.set_cons_zero]
    refine tkH 3 ?_ hS (fun wx hx => ?_) ?_; rotate_left
    ·obtain ⟨⟨_, ⟨⟨p0, p1⟩, _⟩, ⟨⟨q0, q1⟩, _⟩⟩, ⟨x0, x1, x2, x3⟩, ⟨y0, y1, y2, y3⟩⟩ := hx; go_simp; try with_reducible rfl
    refine tkH 4 ?_ hS (fun wx hx => ?_) ?_; rotate_left
    ·obtain ⟨⟨_, ⟨⟨p0, p1⟩, _⟩, ⟨⟨q0, q1⟩, _⟩⟩, ⟨x0, x1, x2, x3⟩, ⟨y0, y1, y2, y3⟩⟩ := hx; go_simp; try with_reducible rfl
    refine tkH 5 ?_ hS (fun wx hx => ?_) ?_; rotate_left
    ·obtain ⟨⟨_, ⟨⟨p0, p1⟩, _⟩, ⟨⟨q0, q1⟩, _⟩⟩, ⟨x0, x1, x2, x3⟩, ⟨y0, y1, y2, y3⟩⟩ := hx; go_simp; try with_reducible rfl
    try simp only [Act.put, List.getElem_toArray, List.getElem_cons_zero, List.getElem_cons_succ, List.setIfInBounds_toArray, List.set_cons_succ, List.set_cons_zero]
    refine tkH 6 ?_ hS (fun wx hx => ?_) ?_; rotate_left
    ·obtain ⟨⟨_, ⟨⟨p0, p1⟩, _⟩, ⟨⟨q0, q1⟩, _⟩⟩, ⟨x0, x1, x2, x3⟩, ⟨y0, y1, y2, y3⟩⟩ := hx; go_simp; try with_reducible rfl
    refine tkH 7 ?_ hS (fun wx hx => ?_) ?_; rotate_left
    ·obtain ⟨⟨_, ⟨⟨p0, p1⟩, _⟩, ⟨⟨q0, q1⟩, _⟩⟩, ⟨x0, x1, x2, x3⟩, ⟨y0, y1, y2, y3⟩⟩ := hx; go_simp; try with_reducible rfl
    refine tkH 8 ?_ hS (fun wx hx => ?_) ?_; rotate_left
    ·obtain ⟨⟨_, ⟨⟨p0, p1⟩, _⟩, ⟨⟨q0, q1⟩, _⟩⟩, ⟨x0, x1, x2, x3⟩, ⟨y0, y1, y2, y3⟩⟩ := hx; go_simp; try with_reducible rfl
    try simp only [Act.put, List.getElem_toArray, List.getElem_cons_zero, List.getElem_cons_succ, List.setIfInBounds_toArray, List.set_cons_succ, List.set_cons_zero]
    refine tkH 9 ?_ hS (fun wx hx => ?_) ?_; rotate_left
    ·obtain ⟨⟨_, ⟨⟨p0, p1⟩, _⟩, ⟨⟨q0, q1⟩, _⟩⟩, ⟨x0, x1, x2, x3⟩, ⟨y0, y1, y2, y3⟩⟩ := hx; go_simp; try with_reducible rfl
    refine tkH 10 ?_ hS (fun wx hx => ?_) ?_; rotate_left
    ·obtain ⟨⟨_, ⟨⟨p0, p1⟩, _⟩, ⟨⟨q0, q1⟩, _⟩⟩, ⟨x0, x1, x2, x3⟩, ⟨y0, y1, y2, y3⟩⟩ := hx; go_simp; try with_reducible rfl
    refine tkH 11 ?_ hS (fun wx hx => ?_) ?_; rotate_left
    ·obtain ⟨⟨_, ⟨⟨p0, p1⟩, _⟩, ⟨⟨q0, q1⟩, _⟩⟩, ⟨x0, x1, x2, x3⟩, ⟨y0, y1, y2, y3⟩⟩ := hx; go_simp; try with_reducible rfl
    try simp only [Act.put, List.getElem_toArray, List.getElem_cons_zero, List.getElem_cons_succ, List.setIfInBounds_toArray, List.set_cons_succ, List.set_cons_zero]
    refine tkH 12 ?_ hS (fun wx hx => ?_) ?_; rotate_left
    ·obtain ⟨⟨_, ⟨⟨p0, p1⟩, _⟩, ⟨⟨q0, q1⟩, _⟩⟩, ⟨x0, x1, x2, x3⟩, ⟨y0, y1, y2, y3⟩⟩ := hx; go_simp; try with_reducible rfl
    refine tkH 13 ?_ hS (fun wx hx => ?_) ?_; rotate_left
    ·obtain ⟨⟨_, ⟨⟨p0, p1⟩, _⟩, ⟨⟨q0, q1⟩, _⟩⟩, ⟨x0, x1, x2, x3⟩, ⟨y0, y1, y2, y3⟩⟩ := hx; go_simp; try with_reducible rfl
    refine tkH 14 ?_ hS (fun wx hx => ?_) ?_; rotate_left
    ·obtain ⟨⟨_, ⟨⟨p0, p1⟩, _⟩, ⟨⟨q0, q1⟩, _⟩⟩, ⟨x0, x1, x2, x3⟩, ⟨y0, y1, y2, y3⟩⟩ := hx; go_simp; try with_reducible rfl
    try simp only [Act.put, List.getElem_toArray, List.getElem_cons_zero, List.getElem_cons_succ, List.setIfInBounds_toArray, List.set_cons_succ, List.set_cons_zero]
    refine tkH 15 ?_ hS (fun wx hx => ?_) ?_; rotate_left
    ·obtain ⟨⟨_, ⟨⟨p0, p1⟩, _⟩, ⟨⟨q0, q1⟩, _⟩⟩, ⟨x0, x1, x2, x3⟩, ⟨y0, y1, y2, y3⟩⟩ := hx; go_simp; try with_reducible rfl
    refine tkH 16 ?_ hS (fun wx hx => ?_) ?_; rotate_left
    ·obtain ⟨⟨_, ⟨⟨p0, p1⟩, _⟩, ⟨⟨q0, q1⟩, _⟩⟩, ⟨x0, x1, x2, x3⟩, ⟨y0, y1, y2, y3⟩⟩ := hx; go_simp; try with_reducible rfl
    refine tkH 17 ?_ hS (fun wx hx => ?_) ?_; rotate_left
    ·obtain ⟨⟨_, ⟨⟨p0, p1⟩, _⟩, ⟨⟨q0, q1⟩, _⟩⟩, ⟨x0, x1, x2, x3⟩, ⟨y0, y1, y2, y3⟩⟩ := hx; go_simp; try with_reducible rfl
    try simp only [Act.put, List.getElem_toArray, List.getElem_cons_zero, List.getElem_cons_succ, List.setIfInBounds_toArray, List.set_cons_succ, List.set_cons_zero]
    have hnq := neqWriteB n0 n1 n2 n3
    refine tkH 18 ?_ hS (fun wx hx => ?_) ?_; rotate_left
    ·obtain ⟨⟨_, ⟨⟨p0, p1⟩, _⟩, ⟨⟨q0, q1⟩, _⟩⟩, ⟨x0, x1, x2, x3⟩, ⟨y0, y1, y2, y3⟩⟩ := hx; go_simp; try with_reducible rfl
    clear hnq
    refine tkH 19 ?_ hS (fun wx hx => ?_) ?_; rotate_left
    ·obtain ⟨⟨_, ⟨⟨p0, p1⟩, _⟩, ⟨⟨q0, q1⟩, _⟩⟩, ⟨x0, x1, x2, x3⟩, ⟨y0, y1, y2, y3⟩⟩ := hx; go_simp; try with_reducible rfl
    refine tkH 20 ?_ hS (fun wx hx => ?_) ?_; rotate_left
    ·obtain ⟨⟨_, ⟨⟨p0, p1⟩, _⟩, ⟨⟨q0, q1⟩, _⟩⟩, ⟨x0, x1, x2, x3⟩, ⟨y0, y1, y2, y3⟩⟩ := hx; go_simp; try with_reducible rfl
    refine wpAnyH_done (by kernel_rfl) ?_ _
    have HE : Hid (EnU w b3 b6 0 S R (.slice a0 S.nc c0) (.slice a1 S.nl c1) (.slice a2 S.nw c2) (.slice g0 R.nc g3) (.slice g1 R.nl g4) (.slice g2 R.nw g5) u0) := hS.1.1
    clear hS
    go_simp
    go_wp2
    go_roundw
    case rel => exact ⟨j + 1, hlt, by congr 1; push_cast; omega, HE⟩
    case measure => simp [intOf]; omega
   ·have dn : (lc == 0) = false := beq_eq_false_iff_ne.2 h0
    clear h0
    refine wp_region_held_drew (S := EnX w b3 b6 b8 b9 S R (.slice a0 S.nc c0) (.slice a1 S.nl c1) (.slice a2 S.nw c2) (.slice g0 R.nc g3) (.slice g1 R.nl g4) (.slice g2 R.nw g5) lc (.slice l0 ln l1) (.slice r0 ln r1)) (by kernel_rfl) (K9.out.1.later ((Below.refl _ _).drew)) (fun hS => ?_)
    clear K9
    generalize x3.drew = u0 at hS ⊢
    refine tkH 0 ?_ hS (fun wx hx => ?_) ?_; rotate_left
    ·obtain ⟨_, ⟨⟨p0, p1⟩, _⟩, ⟨⟨q0, q1⟩, _⟩⟩ := hx; go_simp; try with_reducible rfl
    refine tkH 1 ?_ hS (fun wx hx => ?_) ?_; rotate_left
    ·obtain ⟨_, ⟨⟨p0, p1⟩, _⟩, ⟨⟨q0, q1⟩, _⟩⟩ := hx; go_simp; try with_reducible rfl
    refine tkH 2 ?_ hS (fun wx hx => ?_) ?_; rotate_left
    ·obtain ⟨_, ⟨⟨p0, p1⟩, _⟩, ⟨⟨q0, q1⟩, _⟩⟩ := hx; go_simp; try with_reducible rfl
    try simp only [Act.put, List.getElem_toArray, List.getElem_cons_zero, List.getElem_cons_succ, List.setIfInBounds_toArray, List.set_cons_succ, List.set_cons_zero]
    refine tkH 3 ?_ hS (fun wx hx => ?_) ?_; rotate_left
    ·obtain ⟨_, ⟨⟨p0, p1⟩, _⟩, ⟨⟨q0, q1⟩, _⟩⟩ := hx; go_simp; try with_reducible rfl
    refine tkH 4 ?_ hS (fun wx hx => ?_) ?_; rotate_left
    ·obtain ⟨_, ⟨⟨p0, p1⟩, _⟩, ⟨⟨q0, q1⟩, _⟩⟩ := hx; go_simp; try with_reducible rfl
    refine tkH 5 ?_ hS (fun wx hx => ?_) ?_; rotate_left
    ·obtain ⟨_, ⟨⟨p0, p1⟩, _⟩, ⟨⟨q0, q1⟩, _⟩⟩ := hx; go_simp; try with_reducible rfl
    try simp only [Act.put, List.getElem_toArray, List.getElem_cons_zero, List.getElem_cons_succ, List.setIfInBounds_toArray, List.set_cons_succ, List.set_cons_zero]
    refine tkH 6 ?_ hS (fun wx hx => ?_) ?_; rotate_left
    ·obtain ⟨_, ⟨⟨p0, p1⟩, _⟩, ⟨⟨q0, q1⟩, _⟩⟩ := hx; go_simp; try with_reducible rfl
    refine tkH 7 ?_ hS (fun wx hx => ?_) ?_; rotate_left
    ·obtain ⟨_, ⟨⟨p0, p1⟩, _⟩, ⟨⟨q0, q1⟩, _⟩⟩ := hx; go_simp; try with_reducible rfl
    refine tkH 8 ?_ hS (fun wx hx => ?_) ?_; rotate_left
    ·obtain ⟨_, ⟨⟨p0, p1⟩, _⟩, ⟨⟨q0, q1⟩, _⟩⟩ := hx; go_simp; try with_reducible rfl
    try simp only [Act.put, List.getElem_toArray, List.getElem_cons_zero, List.getElem_cons_succ, List.setIfInBounds_toArray, List.set_cons_succ, List.set_cons_zero]
    refine tkH 9 ?_ hS (fun wx hx => ?_) ?_; rotate_left
    ·obtain ⟨_, ⟨⟨p0, p1⟩, _⟩, ⟨⟨q0, q1⟩, _⟩⟩ := hx; go_simp; try with_reducible rfl
    refine noH 10 hS ?_
    refine noH 11 hS ?_
    refine noH 12 hS ?_
    refine noH 13 hS ?_
    refine noH 14 hS ?_
    refine noH 15 hS ?_
    refine noH 16 hS ?_
    refine noH 17 hS ?_
    refine noH 18 hS ?_
    refine tkH 19 ?_ hS (fun wx hx => ?_) ?_; rotate_left
    ·obtain ⟨_, ⟨⟨p0, p1⟩, _⟩, ⟨⟨q0, q1⟩, _⟩⟩ := hx; go_simp; try with_reducible rfl
    refine tkH 20 ?_ hS (fun wx hx => ?_) ?_; rotate_left
    ·obtain ⟨_, ⟨⟨p0, p1⟩, _⟩, ⟨⟨q0, q1⟩, _⟩⟩ := hx; go_simp; try with_reducible rfl
    refine wpAnyH_done (by kernel_rfl) ?_ _
    have HE : Hid (EnU w b3 b6 0 S R (.slice a0 S.nc c0) (.slice a1 S.nl c1) (.slice a2 S.nw c2) (.slice g0 R.nc g3) (.slice g1 R.nl g4) (.slice g2 R.nw g5) u0) := hS.1
    clear hS
    go_simp
    go_wp2
    go_roundw
    case rel => exact ⟨j + 1, hlt, by congr 1; push_cast; omega, HE⟩
    case measure => simp [intOf]; omega
  ·have dl : decide (start + (j : Int) < start + 6) = false := decide_eq_false (by omega)
   obtain rfl : j = 6 := by omega
   obtain ⟨⟨f0, f1, f2, f3⟩, _⟩ := HE.out.2.2.1
   go_wp2_with fail
   refine (implFault_any R _ _ _ 0 _ HE.out.2.2.2).mono ?_
   rw [HR0.out]
   rintro e w1 ⟨rfl, q⟩
   have HE : Hid (EnU w b3 b6 0 S R (.slice a0 S.nc c0) (.slice a1 S.nl c1) (.slice a2 S.nw c2) (.slice g0 R.nc g3) (.slice g1 R.nl g4) (.slice g2 R.nw g5) w1) := HE.out.later q
   clear q e0 e1 e2 f0 f1 f2 f3
   obtain ⟨⟨e0, e1, e2⟩, _⟩ := HE.out.2.1.1
   obtain ⟨⟨f0, f1, f2, f3⟩, _⟩ := HE.out.2.2.1
   go_wp2_with fail
   refine (implStatusOf_is R _ _ _ key start 0 3 0 _ HE.out.2.2.2 PS.out).mono ?_
   rintro e w2 ⟨rfl, q⟩
   have HE : Hid (EnU w b3 b6 0 S R (.slice a0 S.nc c0) (.slice a1 S.nl c1) (.slice a2 S.nw c2) (.slice g0 R.nc g3) (.slice g1 R.nl g4) (.slice g2 R.nw g5) w2) := HE.out.later q
   clear q e0 e1 e2 f0 f1 f2 f3
   obtain ⟨⟨e0, e1, e2⟩, _⟩ := HE.out.2.1.1
   obtain ⟨⟨f0, f1, f2, f3⟩, _⟩ := HE.out.2.2.1
   have hfd := fun (w : World) => field_in1 0 3 w
   go_wp2_with fail
   clear hfd
   refine (implCommitKey_is R _ _ _ key start (start + 1) cr CT 0 _ HE.out.2.2.2 (HL.out.later HE.out.1) PC.out).mono ?_
   rintro e w3 ⟨h0, h3, h1, h4, h2, h5, rfl, _, q⟩
   have HE : Hid (EnU w b3 b6 0 S R (.slice a0 S.nc c0) (.slice a1 S.nl c1) (.slice a2 S.nw c2) (.slice g0 R.nc g3) (.slice g1 R.nl g4) (.slice g2 R.nw g5) w3) := HE.out.later q
   clear q e0 e1 e2 f0 f1 f2 f3
   obtain ⟨⟨e0, e1, e2⟩, _⟩ := HE.out.2.1.1
   obtain ⟨⟨f0, f1, f2, f3⟩, _⟩ := HE.out.2.2.1
   have hfd := fun (w : World) => field_wr0S cr h0 h1 h2 CT.nc CT.nl CT.nw h3 h4 h5 w
   go_wp2_with fail
   clear hfd
   refine (implPrewrite_is R _ _ _ key start 3 0 key 0 8 PT 0 _ HE.out.2.2.2 (HL.out.later HE.out.1) PP.out).mono ?_
   rintro e w4 ⟨i0, i3, i1, i4, i2, i5, rfl, _, q⟩
   have HE : Hid (EnU w b3 b6 0 S R (.slice a0 S.nc c0) (.slice a1 S.nl c1) (.slice a2 S.nw c2) (.slice g0 R.nc g3) (.slice g1 R.nl g4) (.slice g2 R.nw g5) w4) := HE.out.later q
   clear q e0 e1 e2 f0 f1 f2 f3
   obtain ⟨⟨e0, e1, e2⟩, _⟩ := HE.out.2.1.1
   obtain ⟨⟨f0, f1, f2, f3⟩, _⟩ := HE.out.2.2.1
   have hfd := fun (w : World) => field_wr0S 8 i0 i1 i2 PT.nc PT.nl PT.nw i3 i4 i5 w
   go_wp2_with fail
   clear hfd
   refine (implStatusOf_is S _ _ _ key start s2 v2 0 _ HE.out.2.1.2 PQ.out).mono ?_
   rintro e w5 ⟨rfl, q⟩
   have HE : Hid (EnU w b3 b6 0 S R (.slice a0 S.nc c0) (.slice a1 S.nl c1) (.slice a2 S.nw c2) (.slice g0 R.nc g3) (.slice g1 R.nl g4) (.slice g2 R.nw g5) w5) := HE.out.later q
   clear q e0 e1 e2 f0 f1 f2 f3
   obtain ⟨⟨e0, e1, e2⟩, _⟩ := HE.out.2.1.1
   obtain ⟨⟨f0, f1, f2, f3⟩, _⟩ := HE.out.2.2.1
   have hfd := fun (w : World) => field_in1 s2 v2 w
   by_cases h5 : v2 = 3
   ·subst h5
    go_wp2
    go_ret
    exact ⟨rfl, HE.out.1⟩
   ·have d5 : (v2 == 3) = false := beq_eq_false_iff_ne.2 h5
    have hc4 := HV.out.resolve_left h5
    clear h5
    go_wp2_with fail
    clear hfd
    refine (implCellAt_any R _ _ _ key start 0 _ HE.out.2.2.2 (fun _ => HW.out)).mono ?_
    rw [hc4]
    rintro e w6 ⟨rfl, q⟩
    have HE : Hid (EnU w b3 b6 0 S R (.slice a0 S.nc c0) (.slice a1 S.nl c1) (.slice a2 S.nw c2) (.slice g0 R.nc g3) (.slice g1 R.nl g4) (.slice g2 R.nw g5) w6) := HE.out.later q
    clear q e0 e1 e2 f0 f1 f2 f3
    obtain ⟨⟨e0, e1, e2⟩, _⟩ := HE.out.2.1.1
    obtain ⟨⟨f0, f1, f2, f3⟩, _⟩ := HE.out.2.2.1
    have hfd := fun (w : World) => field_in0 4 (cellAtV R key start) w
    go_wp2
    go_ret
    exact ⟨rfl, HE.out.1⟩
end Go.Proofs.YtiadbiiiikhfaaaGreatDoor

namespace Go.Proofs.YtiadbiiiikhfaaaGreatDoor
open Go.RowKit

theorem fnBacks_walk (o : Option Addr) (len cap : Nat) (w : World) (hL : Laid w) (h : Code w o len) (hl0 : len ≤ maxLen) :
  Calls Tryz.prog 5 #[.slice o len cap] w fun e w' => e = .returned (.bool true) ∧ Below w.heap.size w w' :=
 fnBacks_over o len cap w hL hl0 (fun hl => drawRollbackKey_any w o len cap h hl)
end Go.Proofs.YtiadbiiiikhfaaaGreatDoor

