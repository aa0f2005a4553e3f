/-
 Own text, merged of DrawF, CodA, KeepF, StorG, StatA, LawI, StatB.
-/
import Derived.Test.YtiadbiiiikhfaaaGreatDoorPk9
namespace Go.Proofs.YtiadbiiiikhfaaaGreatDoor
open Go.RowKit

set_option maxRecDepth 100000 in
set_option maxHeartbeats 16000000 in
theorem l3With_any (w : World) (o : Option Addr) (len cap : Nat) (h : Code w o len) (hl : len ≤ 1048576) :
  Calls Tryz.prog 26 #[.slice o len cap] w fun e w' => ∃ (S : Sto) (a0 : Option Addr) (c0 : Nat) (a1 : Option Addr) (c1 : Nat) (a2 : Option Addr) (c2 : Nat) (key ts : Int), e = .returned (.tuple #[.agg #[.slice a0 S.nc c0, .slice a1 S.nl c1, .slice a2 S.nw c2], .int .i64 key, .int .i64 ts]) ∧ Sz2 S ∧ St w' w.heap.size S (.slice a0 S.nc c0) (.slice a1 S.nl c1) (.slice a2 S.nw c2) ∧ Below w.heap.size w w' ∧ (storeF S = 0 → Wf ts) := by
 have H0 : Hid (Code w o len) := h
 clear h
 go_enter Tryz.func26, Tryz.ntmps26
 go_wp2_with fail
 try dsimp only
 refine (l1Source_any (w.alloc (.cells #[.slice none 0 0, .slice none 0 0, .slice none 0 0] 28)) o len cap (H0.out.later (below_alloc _ _))).mono ?_
 rintro e w1 ⟨rfl, hs1, hb1, hz1⟩
 have hb0 : (w.alloc (.cells #[.slice none 0 0, .slice none 0 0, .slice none 0 0] 28)).heap.size = w.heap.size + 1 := by simp
 have hB1 : Below w.heap.size w w1 := (below_alloc w _).trans (hb1.mono (by omega))
 have hR1 : Blk3 w1 w.heap.size (.slice none 0 0) (.slice none 0 0) (.slice none 0 0) := (Blk3.new w (.slice none 0 0) (.slice none 0 0) (.slice none 0 0) 28).later hb1
 rw [hb0] at hs1 hz1
 clear hb0 hb1
 go_wp2_with fail
 try dsimp only
 obtain ⟨b, hb0⟩ : ∃ b, b = w.heap.size + 1 := ⟨_, rfl⟩
 rw [← hb0] at hs1 hz1 ⊢
 have HB0 : Hid (b = w.heap.size + 1 ∧ w1.heap.size = b + 1) := ⟨hb0, hz1⟩
 clear hb0 hz1
 have HH := l3Bent_any w1 b o len cap 0 hs1 (by omega) hl
 refine HH.mono ?_
 clear HH
 rintro e w2 ⟨S, a0, c0, a1, c1, a2, c2, z, rfl, ⟨hZ, hz⟩, hst, hS2, hT2⟩
 have hz0 := hS2.pos
 have hb0 := HB0.out.1
 have hz1 := HB0.out.2
 have hwb : w.heap.size < b := by omega
 have HD : Hid (DrX w b o len cap w2.heap.size S (.slice a0 S.nc c0) (.slice a1 S.nl c1) (.slice a2 S.nw c2) z (w2.alloc (.cells #[.slice a0 S.nc c0, .slice a1 S.nl c1, .slice a2 S.nw c2] 28))) := {
  src := hS2.alloc _
  bel := (Below.but hB1 hT2 hB1.size (by omega)).alloc (by have := hB1.size; have := hT2.size; omega) _
  res := (hR1.butS hT2 (by omega)).alloc _
  box := Blk3.new w2 _ _ _ _
  st := (hst.mono (by omega)).alloc _
  sz := hZ
  lo := by omega
  bl := by have := hS2.lt; omega
  base := ⟨w1, 0, hs1, hT2.alloc _, by have := hT2.size; omega⟩ }
 clear hst hS2 hT2 hZ hB1 hR1 hs1 hb0 hz1 HB0
 go_wp2_with fail
 generalize w2.alloc (.cells #[.slice a0 S.nc c0, .slice a1 S.nl c1, .slice a2 S.nw c2] 28) = w3 at HD ⊢
 obtain ⟨bx, hbx⟩ : ∃ bx, w2.heap.size = bx := ⟨_, rfl⟩
 rw [hbx] at HD ⊢
 clear hbx
 refine (l1Key_any _ b o len cap z HD.out.src (by omega) hl).mono ?_
 rintro e w4 ⟨key, rfl, _, hS4, hT4⟩
 have HD : Hid (DrX w b o len cap bx S (.slice a0 S.nc c0) (.slice a1 S.nl c1) (.slice a2 S.nw c2) (z + 5) w4) := HD.out.step hT4 hS4
 clear hS4 hT4
 go_wp2_with fail
 refine (l1Next_any _ b o len cap (z + 5) 40 HD.out.src (by omega) hl).mono ?_
 rintro e w5 ⟨t, rfl, t0, t1, hS5, hT5⟩
 have t1 := t1 (by decide)
 have HD : Hid (DrX w b o len cap bx S (.slice a0 S.nc c0) (.slice a1 S.nl c1) (.slice a2 S.nw c2) (z + 5 + 1) w5) := HD.out.step hT5 hS5
 clear hS5 hT5
 go_wp2_with fail
 obtain ⟨ts, hts⟩ : ∃ ts, ts = 1 + t := ⟨_, rfl⟩
 rw [← hts]
 have HT : Hid (1 ≤ ts ∧ ts ≤ 40) := (by omega : 1 ≤ ts ∧ ts ≤ 40)
 clear hts
 refine (l1Next_any _ b o len cap (z + 5 + 1) 5 HD.out.src (by omega) hl).mono ?_
 rintro e w6 ⟨sw, rfl, s0, s1, hS6, hT6⟩
 have HD : Hid (DrX w b o len cap bx S (.slice a0 S.nc c0) (.slice a1 S.nl c1) (.slice a2 S.nw c2) (z + 5 + 1 + 1) w6) := HD.out.step hT6 hS6
 clear hS6 hT6 t0 t1
 have s1 := s1 (by decide)
 go_upto_block 0 with fail
 go_cut [6] (fun s wx => s = .pointer (some ⟨bx, 0, none⟩) ∧ ∃ e : Int, (0 ≤ e ∧ e ≤ 900) ∧ Hid (DrX w b o len cap bx S (.slice a0 S.nc c0) (.slice a1 S.nl c1) (.slice a2 S.nw c2) e wx))
 case first =>
  have hsw : sw = 0 ∨ sw = 1 ∨ sw = 2 ∨ sw = 3 ∨ sw = 4 := by omega
  rcases hsw with rfl | rfl | rfl | rfl | rfl
  iterate 2
   ·by_cases hnl : 0 < S.nl
    ·have dn : decide (0 < S.nl) = true := decide_eq_true hnl
     obtain ⟨⟨t0, t1, t2⟩, _⟩ := HD.out.box
     obtain ⟨g, oo, rfl, _⟩ := HD.out.st.2.1.at hnl
     go_wp2_with fail
     clear t0 t1 t2 dn
     refine wp_region_held_drew (S := BoxS bx (.slice a0 S.nc c0) (.slice (some ⟨g, oo, none⟩) S.nl c1) (.slice a2 S.nw c2)) (by kernel_rfl) (HD.out.box.kept rfl) (fun hS => ?_)
     have HD : Hid (DrX w b o len cap bx S (.slice a0 S.nc c0) (.slice (some ⟨g, oo, none⟩) S.nl c1) (.slice a2 S.nw c2) (z + 5 + 1 + 1) w6.drew) := HD.out.later (below_dr (Below.refl _ _) 1)
     generalize w6.drew = y0 at HD hS ⊢
     refine tkH 0 ?_ hS (fun wx hx => ?_) ?_; rotate_left
     ·obtain ⟨⟨hx0, hx1, hx2⟩, _⟩ := hx; go_simp; try with_reducible rfl
     refine tkH 1 ?_ hS (fun wx hx => ?_) ?_; rotate_left
     ·obtain ⟨⟨hx0, hx1, hx2⟩, _⟩ := hx; go_simp; try with_reducible rfl
     refine tkH 2 ?_ hS (fun wx hx => ?_) ?_; rotate_left
     ·obtain ⟨⟨hx0, hx1, hx2⟩, _⟩ := hx; go_simp; try with_reducible rfl
     refine tkH 3 ?_ hS (fun wx hx => ?_) ?_; rotate_left
     ·obtain ⟨⟨hx0, hx1, hx2⟩, _⟩ := hx; go_simp; try with_reducible rfl
     refine tkH 4 ?_ hS (fun wx hx => ?_) ?_; rotate_left
     ·obtain ⟨⟨hx0, hx1, hx2⟩, _⟩ := hx; go_simp; try with_reducible rfl
     refine tkH 5 ?_ hS (fun wx hx => ?_) ?_; rotate_left
     ·obtain ⟨⟨hx0, hx1, hx2⟩, _⟩ := hx; go_simp; try with_reducible rfl
     simp only [Act.put, List.getElem_toArray, List.getElem_cons_zero, List.getElem_cons_succ, List.setIfInBounds_toArray, List.set_cons_succ, List.set_cons_zero]
     refine wpAnyH_ready (rs := [6, 9]) (by kernel_rfl) (by simp) ?_
     refine AllReadyH.cons rfl ?_ (AllReadyH.cons rfl ?_ AllReadyH.nil)
     ·intro K hK
      go_simp
      go_wp2_with fail
      refine (l1Next_any _ b o len cap (z + 5 + 1 + 1) S.nl HD.out.src (by omega) hl).mono ?_
      rintro e y1 ⟨ri, rfl, ri0, ri1, hS1, hT1⟩
      have ri1 := ri1 (by omega)
      obtain ⟨k, rfl⟩ : ∃ k : Nat, ri = k := ⟨ri.toNat, by omega⟩
      have hk : k < S.nl := by omega
      have HD : Hid (DrX w b o len cap bx S (.slice a0 S.nc c0) (.slice (some ⟨g, oo, none⟩) S.nl c1) (.slice a2 S.nw c2) (z + 5 + 1 + 1 + 1) y1) := HD.out.step hT1 hS1
      have hS' : BoxS bx (.slice a0 S.nc c0) (.slice (some ⟨g, oo, none⟩) S.nl c1) (.slice a2 S.nw c2) y1 := HD.out.box
      clear hS1 hT1 ri0 ri1
      go_wp2_with fail
      refine hK.out _ _ hS' (fun hS => ?_)
      clear hK K hS'
      refine tkH 7 ?_ hS (fun wx hx => ?_) ?_; rotate_left
      ·obtain ⟨⟨hx0, hx1, hx2⟩, _⟩ := hx; go_simp; try with_reducible rfl
      simp only [Act.put, List.getElem_toArray, List.getElem_cons_zero, List.getElem_cons_succ, List.setIfInBounds_toArray, List.set_cons_succ, List.set_cons_zero]
      refine wpAnyH_ready (rs := [8, 9]) (by kernel_rfl) (by simp) ?_
      refine AllReadyH.cons rfl ?_ (AllReadyH.cons rfl ?_ AllReadyH.nil)
      ·intro K hK
       obtain ⟨g', oo', eg, _, _, k0, k1, k2, k3, k4⟩ := HD.out.st.2.1.at5 hk
       obtain ⟨rfl, rfl⟩ : g = g' ∧ oo = oo' := by simpa using eg
       go_simp
       refine hK.out _ _ hS (fun hS => ?_)
       clear hK K k0 k1 k2 k3 k4 eg
       refine rdH 9 (fun K hK => ?_)
       go_simp
       have KB : Hid (Blk5 (y1.alloc (.cells #[.int .i64 0, .int .i64 0, .int .i64 0, .int .i64 0, .int .i64 0] 40)) y1.heap.size (.int .i64 0) (.int .i64 0) (.int .i64 0) (.int .i64 0) (.int .i64 0) ∧ OwnIn S (.slice a0 S.nc c0) (.slice (some ⟨g, oo, none⟩) S.nl c1) (.slice a2 S.nw c2) (fun k => k < y1.heap.size) ∧ bx < y1.heap.size) := ⟨Blk5.new _ _ _ _ _ _ _, HD.out.st.ownIn.mono (fun k hk => hk.2), HD.out.box.lt⟩
       have HD : Hid (DrX w b o len cap bx S (.slice a0 S.nc c0) (.slice (some ⟨g, oo, none⟩) S.nl c1) (.slice a2 S.nw c2) (z + 5 + 1 + 1 + 1) (y1.alloc (.cells #[.int .i64 0, .int .i64 0, .int .i64 0, .int .i64 0, .int .i64 0] 40))) := HD.out.later (below_alloc _ _)
       refine hK.out _ _ (show BoxS _ _ _ _ _ from hS.alloc _) (fun hS => ?_)
       clear hK K
       generalize y1.alloc (.cells #[.int .i64 0, .int .i64 0, .int .i64 0, .int .i64 0, .int .i64 0] 40) = y2 at HD KB hS ⊢
       obtain ⟨kb, hkb⟩ : ∃ kb, y1.heap.size = kb := ⟨_, rfl⟩
       rw [hkb] at KB ⊢
       clear hkb
       refine rdH 10 (fun K hK => ?_)
       have HP : Hid (storeF S = 0 → Wf (S.l (k * 5 + 1))) := fun hz => wf_lockS hz hk
       obtain ⟨⟨e0, e1, e2, e3, e4⟩, f0, f1, f2, f3, f4⟩ := KB.out.1
       go_simp
       have HF : Hid (DrX w b o len cap bx S (.slice a0 S.nc c0) (.slice (some ⟨g, oo, none⟩) S.nl c1) (.slice a2 S.nw c2) (z + 5 + 1 + 1 + 1) (((((y2.setCell ⟨kb, 0, none⟩ (.int .i64 (S.l (k * 5)))).setCell ⟨kb, 1, none⟩ (.int .i64 (S.l (k * 5 + 1)))).setCell ⟨kb, 2, none⟩ (.int .i64 (S.l (k * 5 + 2)))).setCell ⟨kb, 3, none⟩ (.int .i64 (S.l (k * 5 + 3)))).setCell ⟨kb, 4, none⟩ (.int .i64 (S.l (k * 5 + 4)))) ∧ Blk5 (((((y2.setCell ⟨kb, 0, none⟩ (.int .i64 (S.l (k * 5)))).setCell ⟨kb, 1, none⟩ (.int .i64 (S.l (k * 5 + 1)))).setCell ⟨kb, 2, none⟩ (.int .i64 (S.l (k * 5 + 2)))).setCell ⟨kb, 3, none⟩ (.int .i64 (S.l (k * 5 + 3)))).setCell ⟨kb, 4, none⟩ (.int .i64 (S.l (k * 5 + 4)))) kb (.int .i64 (S.l (k * 5))) (.int .i64 (S.l (k * 5 + 1))) (.int .i64 (S.l (k * 5 + 2))) (.int .i64 (S.l (k * 5 + 3))) (.int .i64 (S.l (k * 5 + 4)))) := ⟨((((HD.out.setK KB.out.2.1 KB.out.2.2 _ _).setK KB.out.2.1 KB.out.2.2 _ _).setK KB.out.2.1 KB.out.2.2 _ _).setK KB.out.2.1 KB.out.2.2 _ _).setK KB.out.2.1 KB.out.2.2 _ _, KB.out.1.put _ _ _ _ _⟩
       refine hK.out _ _ (show BoxS _ _ _ _ _ from HF.out.1.box) (fun hS => ?_)
       clear hK K
       have HKB : Hid (w.heap.size < kb) := by have := KB.out.2.2; have := HD.out.bl; have := HD.out.lo; exact (by omega : w.heap.size < kb)
       refine wpAnyH_done (by kernel_rfl) ?_ _
       clear hS e0 e1 e2 e3 e4 f0 f1 f2 f3 f4 KB HD
       go_simp
       generalize (((((y2.setCell ⟨kb, 0, none⟩ (.int .i64 (S.l (k * 5)))).setCell ⟨kb, 1, none⟩ (.int .i64 (S.l (k * 5 + 1)))).setCell ⟨kb, 2, none⟩ (.int .i64 (S.l (k * 5 + 2)))).setCell ⟨kb, 3, none⟩ (.int .i64 (S.l (k * 5 + 3)))).setCell ⟨kb, 4, none⟩ (.int .i64 (S.l (k * 5 + 4)))) = yk at HF ⊢
       go_wp2_with fail
       refine wp_region_held_drew (S := fun x => BoxS bx (.slice a0 S.nc c0) (.slice (some ⟨g, oo, none⟩) S.nl c1) (.slice a2 S.nw c2) x ∧ Blk5 x kb (.int .i64 (S.l (k * 5))) (.int .i64 (S.l (k * 5 + 1))) (.int .i64 (S.l (k * 5 + 2))) (.int .i64 (S.l (k * 5 + 3))) (.int .i64 (S.l (k * 5 + 4)))) (by kernel_rfl) ⟨HF.out.1.box.kept rfl, HF.out.2.kept rfl⟩ (fun hS => ?_)
       have HD : Hid (DrX w b o len cap bx S (.slice a0 S.nc c0) (.slice (some ⟨g, oo, none⟩) S.nl c1) (.slice a2 S.nw c2) (z + 5 + 1 + 1 + 1) yk.drew) := HF.out.1.later (below_dr (Below.refl _ _) 1)
       clear HF
       generalize yk.drew = yd at HD hS ⊢
       refine tkH 0 ?_ hS (fun wx hx => ?_) ?_; rotate_left
       ·obtain ⟨⟨⟨hx0, hx1, hx2⟩, _⟩, ⟨hy0, hy1, hy2, hy3, hy4⟩, _⟩ := hx; go_simp; try with_reducible rfl
       refine tkH 1 ?_ hS (fun wx hx => ?_) ?_; rotate_left
       ·obtain ⟨⟨⟨hx0, hx1, hx2⟩, _⟩, ⟨hy0, hy1, hy2, hy3, hy4⟩, _⟩ := hx; go_simp; try with_reducible rfl
       refine tkH 2 ?_ hS (fun wx hx => ?_) ?_; rotate_left
       ·obtain ⟨⟨⟨hx0, hx1, hx2⟩, _⟩, ⟨hy0, hy1, hy2, hy3, hy4⟩, _⟩ := hx; go_simp; try with_reducible rfl
       refine tkH 3 ?_ hS (fun wx hx => ?_) ?_; rotate_left
       ·obtain ⟨⟨⟨hx0, hx1, hx2⟩, _⟩, ⟨hy0, hy1, hy2, hy3, hy4⟩, _⟩ := hx; go_simp; try with_reducible rfl
       refine tkH 4 ?_ hS (fun wx hx => ?_) ?_; rotate_left
       ·obtain ⟨⟨⟨hx0, hx1, hx2⟩, _⟩, ⟨hy0, hy1, hy2, hy3, hy4⟩, _⟩ := hx; go_simp; try with_reducible rfl
       simp only [Act.put, List.getElem_toArray, List.getElem_cons_zero, List.getElem_cons_succ, List.setIfInBounds_toArray, List.set_cons_succ, List.set_cons_zero]
       obtain ⟨⟨r0, r1, r2⟩, f0, f1, f2⟩ := HD.out.res
       refine rdH 5 (fun K hK => ?_)
       go_simp
       have HO := hid_mk (DrX.out HD.out (.slice a0 S.nc c0) (.slice (some ⟨g, oo, none⟩) S.nl c1) (.slice a2 S.nw c2))
       have HZ := hid_mk HD.out.sz
       have hB5 : Blk5 (((yd.setCell ⟨w.heap.size, 0, none⟩ (.slice a0 S.nc c0)).setCell ⟨w.heap.size, 1, none⟩ (.slice (some ⟨g, oo, none⟩) S.nl c1)).setCell ⟨w.heap.size, 2, none⟩ (.slice a2 S.nw c2)) kb (.int .i64 (S.l (k * 5))) (.int .i64 (S.l (k * 5 + 1))) (.int .i64 (S.l (k * 5 + 2))) (.int .i64 (S.l (k * 5 + 3))) (.int .i64 (S.l (k * 5 + 4))) := (((hS.2.kept (Below.heap_setCell _ _ _ _ (by show kb ≠ w.heap.size; have := HKB.out; omega))).kept (Below.heap_setCell _ _ _ _ (by show kb ≠ w.heap.size; have := HKB.out; omega))).kept (Below.heap_setCell _ _ _ _ (by show kb ≠ w.heap.size; have := HKB.out; omega)))
       refine hK.out _ _ ⟨HO.out.1, hB5⟩ (fun hS => ?_)
       clear hK K r0 r1 r2 f0 f1 f2 HD hB5
       generalize (((yd.setCell ⟨w.heap.size, 0, none⟩ (.slice a0 S.nc c0)).setCell ⟨w.heap.size, 1, none⟩ (.slice (some ⟨g, oo, none⟩) S.nl c1)).setCell ⟨w.heap.size, 2, none⟩ (.slice a2 S.nw c2)) = yz at HO hS ⊢
       refine tkH 6 ?_ hS (fun wx hx => ?_) ?_; rotate_left
       ·obtain ⟨⟨⟨hx0, hx1, hx2⟩, _⟩, ⟨hy0, hy1, hy2, hy3, hy4⟩, _⟩ := hx; go_simp; try with_reducible rfl
       refine tkH 7 ?_ hS (fun wx hx => ?_) ?_; rotate_left
       ·obtain ⟨⟨⟨hx0, hx1, hx2⟩, _⟩, ⟨hy0, hy1, hy2, hy3, hy4⟩, _⟩ := hx; go_simp; try with_reducible rfl
       refine wpAnyH_done (by kernel_rfl) ?_ _
       go_simp
       obtain ⟨⟨q0, q1, q2⟩, _⟩ := HO.out.2.1
       go_wp2
       refine bodyPost_ret (v := .tuple #[.agg #[.slice a0 S.nc c0, .slice (some ⟨g, oo, none⟩) S.nl c1, .slice a2 S.nw c2], .int .i64 (S.l (k * 5)), .int .i64 (S.l (k * 5 + 1))]) (by simp [results, Tryz.results26, go_sem, q0, q1, q2]) rfl ⟨S, a0, c0, some ⟨g, oo, none⟩, c1, a2, c2, S.l (k * 5), S.l (k * 5 + 1), rfl, HZ.out, HO.out.2.2.1, HO.out.2.2.2, HP.out⟩
      ·intro K hK
       go_simp
       have KB : Hid (Blk5 (y1.alloc (.cells #[.int .i64 0, .int .i64 0, .int .i64 0, .int .i64 0, .int .i64 0] 40)) y1.heap.size (.int .i64 0) (.int .i64 0) (.int .i64 0) (.int .i64 0) (.int .i64 0) ∧ OwnIn S (.slice a0 S.nc c0) (.slice (some ⟨g, oo, none⟩) S.nl c1) (.slice a2 S.nw c2) (fun k => k < y1.heap.size) ∧ bx < y1.heap.size) := ⟨Blk5.new _ _ _ _ _ _ _, HD.out.st.ownIn.mono (fun k hk => hk.2), HD.out.box.lt⟩
       have HD : Hid (DrX w b o len cap bx S (.slice a0 S.nc c0) (.slice (some ⟨g, oo, none⟩) S.nl c1) (.slice a2 S.nw c2) (z + 5 + 1 + 1 + 1) (y1.alloc (.cells #[.int .i64 0, .int .i64 0, .int .i64 0, .int .i64 0, .int .i64 0] 40))) := HD.out.later (below_alloc _ _)
       refine hK.out _ _ (show BoxS _ _ _ _ _ from hS.alloc _) (fun hS => ?_)
       clear hK K
       generalize y1.alloc (.cells #[.int .i64 0, .int .i64 0, .int .i64 0, .int .i64 0, .int .i64 0] 40) = y2 at HD KB hS ⊢
       obtain ⟨kb, hkb⟩ : ∃ kb, y1.heap.size = kb := ⟨_, rfl⟩
       rw [hkb] at KB ⊢
       clear hkb
       refine rdH 8 (fun K hK => ?_)
       obtain ⟨g', oo', eg, _, _, k0, k1, k2, k3, k4⟩ := HD.out.st.2.1.at5 hk
       obtain ⟨rfl, rfl⟩ : g = g' ∧ oo = oo' := by simpa using eg
       go_simp
       refine hK.out _ _ hS (fun hS => ?_)
       clear hK K k0 k1 k2 k3 k4 eg
       refine rdH 10 (fun K hK => ?_)
       have HP : Hid (storeF S = 0 → Wf (S.l (k * 5 + 1))) := fun hz => wf_lockS hz hk
       obtain ⟨⟨e0, e1, e2, e3, e4⟩, f0, f1, f2, f3, f4⟩ := KB.out.1
       go_simp
       have HF : Hid (DrX w b o len cap bx S (.slice a0 S.nc c0) (.slice (some ⟨g, oo, none⟩) S.nl c1) (.slice a2 S.nw c2) (z + 5 + 1 + 1 + 1) (((((y2.setCell ⟨kb, 0, none⟩ (.int .i64 (S.l (k * 5)))).setCell ⟨kb, 1, none⟩ (.int .i64 (S.l (k * 5 + 1)))).setCell ⟨kb, 2, none⟩ (.int .i64 (S.l (k * 5 + 2)))).setCell ⟨kb, 3, none⟩ (.int .i64 (S.l (k * 5 + 3)))).setCell ⟨kb, 4, none⟩ (.int .i64 (S.l (k * 5 + 4)))) ∧ Blk5 (((((y2.setCell ⟨kb, 0, none⟩ (.int .i64 (S.l (k * 5)))).setCell ⟨kb, 1, none⟩ (.int .i64 (S.l (k * 5 + 1)))).setCell ⟨kb, 2, none⟩ (.int .i64 (S.l (k * 5 + 2)))).setCell ⟨kb, 3, none⟩ (.int .i64 (S.l (k * 5 + 3)))).setCell ⟨kb, 4, none⟩ (.int .i64 (S.l (k * 5 + 4)))) kb (.int .i64 (S.l (k * 5))) (.int .i64 (S.l (k * 5 + 1))) (.int .i64 (S.l (k * 5 + 2))) (.int .i64 (S.l (k * 5 + 3))) (.int .i64 (S.l (k * 5 + 4)))) := ⟨((((HD.out.setK KB.out.2.1 KB.out.2.2 _ _).setK KB.out.2.1 KB.out.2.2 _ _).setK KB.out.2.1 KB.out.2.2 _ _).setK KB.out.2.1 KB.out.2.2 _ _).setK KB.out.2.1 KB.out.2.2 _ _, KB.out.1.put _ _ _ _ _⟩
       refine hK.out _ _ (show BoxS _ _ _ _ _ from HF.out.1.box) (fun hS => ?_)
       clear hK K
       have HKB : Hid (w.heap.size < kb) := by have := KB.out.2.2; have := HD.out.bl; have := HD.out.lo; exact (by omega : w.heap.size < kb)
       refine wpAnyH_done (by kernel_rfl) ?_ _
       clear hS e0 e1 e2 e3 e4 f0 f1 f2 f3 f4 KB HD
       go_simp
       generalize (((((y2.setCell ⟨kb, 0, none⟩ (.int .i64 (S.l (k * 5)))).setCell ⟨kb, 1, none⟩ (.int .i64 (S.l (k * 5 + 1)))).setCell ⟨kb, 2, none⟩ (.int .i64 (S.l (k * 5 + 2)))).setCell ⟨kb, 3, none⟩ (.int .i64 (S.l (k * 5 + 3)))).setCell ⟨kb, 4, none⟩ (.int .i64 (S.l (k * 5 + 4)))) = yk at HF ⊢
       go_wp2_with fail
       refine wp_region_held_drew (S := fun x => BoxS bx (.slice a0 S.nc c0) (.slice (some ⟨g, oo, none⟩) S.nl c1) (.slice a2 S.nw c2) x ∧ Blk5 x kb (.int .i64 (S.l (k * 5))) (.int .i64 (S.l (k * 5 + 1))) (.int .i64 (S.l (k * 5 + 2))) (.int .i64 (S.l (k * 5 + 3))) (.int .i64 (S.l (k * 5 + 4)))) (by kernel_rfl) ⟨HF.out.1.box.kept rfl, HF.out.2.kept rfl⟩ (fun hS => ?_)
       have HD : Hid (DrX w b o len cap bx S (.slice a0 S.nc c0) (.slice (some ⟨g, oo, none⟩) S.nl c1) (.slice a2 S.nw c2) (z + 5 + 1 + 1 + 1) yk.drew) := HF.out.1.later (below_dr (Below.refl _ _) 1)
       clear HF
       generalize yk.drew = yd at HD hS ⊢
       refine tkH 0 ?_ hS (fun wx hx => ?_) ?_; rotate_left
       ·obtain ⟨⟨⟨hx0, hx1, hx2⟩, _⟩, ⟨hy0, hy1, hy2, hy3, hy4⟩, _⟩ := hx; go_simp; try with_reducible rfl
       refine tkH 1 ?_ hS (fun wx hx => ?_) ?_; rotate_left
       ·obtain ⟨⟨⟨hx0, hx1, hx2⟩, _⟩, ⟨hy0, hy1, hy2, hy3, hy4⟩, _⟩ := hx; go_simp; try with_reducible rfl
       refine tkH 2 ?_ hS (fun wx hx => ?_) ?_; rotate_left
       ·obtain ⟨⟨⟨hx0, hx1, hx2⟩, _⟩, ⟨hy0, hy1, hy2, hy3, hy4⟩, _⟩ := hx; go_simp; try with_reducible rfl
       refine tkH 3 ?_ hS (fun wx hx => ?_) ?_; rotate_left
       ·obtain ⟨⟨⟨hx0, hx1, hx2⟩, _⟩, ⟨hy0, hy1, hy2, hy3, hy4⟩, _⟩ := hx; go_simp; try with_reducible rfl
       refine tkH 4 ?_ hS (fun wx hx => ?_) ?_; rotate_left
       ·obtain ⟨⟨⟨hx0, hx1, hx2⟩, _⟩, ⟨hy0, hy1, hy2, hy3, hy4⟩, _⟩ := hx; go_simp; try with_reducible rfl
       simp only [Act.put, List.getElem_toArray, List.getElem_cons_zero, List.getElem_cons_succ, List.setIfInBounds_toArray, List.set_cons_succ, List.set_cons_zero]
       obtain ⟨⟨r0, r1, r2⟩, f0, f1, f2⟩ := HD.out.res
       refine rdH 5 (fun K hK => ?_)
       go_simp
       have HO := hid_mk (DrX.out HD.out (.slice a0 S.nc c0) (.slice (some ⟨g, oo, none⟩) S.nl c1) (.slice a2 S.nw c2))
       have HZ := hid_mk HD.out.sz
       have hB5 : Blk5 (((yd.setCell ⟨w.heap.size, 0, none⟩ (.slice a0 S.nc c0)).setCell ⟨w.heap.size, 1, none⟩ (.slice (some ⟨g, oo, none⟩) S.nl c1)).setCell ⟨w.heap.size, 2, none⟩ (.slice a2 S.nw c2)) kb (.int .i64 (S.l (k * 5))) (.int .i64 (S.l (k * 5 + 1))) (.int .i64 (S.l (k * 5 + 2))) (.int .i64 (S.l (k * 5 + 3))) (.int .i64 (S.l (k * 5 + 4))) := (((hS.2.kept (Below.heap_setCell _ _ _ _ (by show kb ≠ w.heap.size; have := HKB.out; omega))).kept (Below.heap_setCell _ _ _ _ (by show kb ≠ w.heap.size; have := HKB.out; omega))).kept (Below.heap_setCell _ _ _ _ (by show kb ≠ w.heap.size; have := HKB.out; omega)))
       refine hK.out _ _ ⟨HO.out.1, hB5⟩ (fun hS => ?_)
       clear hK K r0 r1 r2 f0 f1 f2 HD hB5
       generalize (((yd.setCell ⟨w.heap.size, 0, none⟩ (.slice a0 S.nc c0)).setCell ⟨w.heap.size, 1, none⟩ (.slice (some ⟨g, oo, none⟩) S.nl c1)).setCell ⟨w.heap.size, 2, none⟩ (.slice a2 S.nw c2)) = yz at HO hS ⊢
       refine tkH 6 ?_ hS (fun wx hx => ?_) ?_; rotate_left
       ·obtain ⟨⟨⟨hx0, hx1, hx2⟩, _⟩, ⟨hy0, hy1, hy2, hy3, hy4⟩, _⟩ := hx; go_simp; try with_reducible rfl
       refine tkH 7 ?_ hS (fun wx hx => ?_) ?_; rotate_left
       ·obtain ⟨⟨⟨hx0, hx1, hx2⟩, _⟩, ⟨hy0, hy1, hy2, hy3, hy4⟩, _⟩ := hx; go_simp; try with_reducible rfl
       refine wpAnyH_done (by kernel_rfl) ?_ _
       go_simp
       obtain ⟨⟨q0, q1, q2⟩, _⟩ := HO.out.2.1
       go_wp2
       refine bodyPost_ret (v := .tuple #[.agg #[.slice a0 S.nc c0, .slice (some ⟨g, oo, none⟩) S.nl c1, .slice a2 S.nw c2], .int .i64 (S.l (k * 5)), .int .i64 (S.l (k * 5 + 1))]) (by simp [results, Tryz.results26, go_sem, q0, q1, q2]) rfl ⟨S, a0, c0, some ⟨g, oo, none⟩, c1, a2, c2, S.l (k * 5), S.l (k * 5 + 1), rfl, HZ.out, HO.out.2.2.1, HO.out.2.2.2, HP.out⟩
     ·intro K hK
      go_simp
      have KB : Hid (Blk5 (y0.alloc (.cells #[.int .i64 0, .int .i64 0, .int .i64 0, .int .i64 0, .int .i64 0] 40)) y0.heap.size (.int .i64 0) (.int .i64 0) (.int .i64 0) (.int .i64 0) (.int .i64 0) ∧ OwnIn S (.slice a0 S.nc c0) (.slice (some ⟨g, oo, none⟩) S.nl c1) (.slice a2 S.nw c2) (fun k => k < y0.heap.size) ∧ bx < y0.heap.size) := ⟨Blk5.new _ _ _ _ _ _ _, HD.out.st.ownIn.mono (fun k hk => hk.2), HD.out.box.lt⟩
      have HD : Hid (DrX w b o len cap bx S (.slice a0 S.nc c0) (.slice (some ⟨g, oo, none⟩) S.nl c1) (.slice a2 S.nw c2) (z + 5 + 1 + 1) (y0.alloc (.cells #[.int .i64 0, .int .i64 0, .int .i64 0, .int .i64 0, .int .i64 0] 40))) := HD.out.later (below_alloc _ _)
      refine hK.out _ _ (show BoxS _ _ _ _ _ from hS.alloc _) (fun hS => ?_)
      clear hK K
      generalize y0.alloc (.cells #[.int .i64 0, .int .i64 0, .int .i64 0, .int .i64 0, .int .i64 0] 40) = y1 at HD KB hS ⊢
      obtain ⟨kb, hkb⟩ : ∃ kb, y0.heap.size = kb := ⟨_, rfl⟩
      rw [hkb] at KB ⊢
      clear hkb
      refine rdH 6 (fun K hK => ?_)
      go_simp
      go_wp2_with fail
      refine (l1Next_any _ b o len cap (z + 5 + 1 + 1) S.nl HD.out.src (by omega) hl).mono ?_
      rintro e y2 ⟨ri, rfl, ri0, ri1, hS1, hT1⟩
      have ri1 := ri1 (by omega)
      obtain ⟨k, rfl⟩ : ∃ k : Nat, ri = k := ⟨ri.toNat, by omega⟩
      have hk : k < S.nl := by omega
      have HD : Hid (DrX w b o len cap bx S (.slice a0 S.nc c0) (.slice (some ⟨g, oo, none⟩) S.nl c1) (.slice a2 S.nw c2) (z + 5 + 1 + 1 + 1) y2) := HD.out.step hT1 hS1
      have KB : Hid (Blk5 y2 kb (.int .i64 0) (.int .i64 0) (.int .i64 0) (.int .i64 0) (.int .i64 0) ∧ OwnIn S (.slice a0 S.nc c0) (.slice (some ⟨g, oo, none⟩) S.nl c1) (.slice a2 S.nw c2) (fun k => k < kb) ∧ bx < kb) := ⟨KB.out.1.kept (hT1.block kb KB.out.1.lt (fun e => by have := Option.some.inj e; have := KB.out.2.2; have := HD.out.bl; omega)), KB.out.2⟩
      have hS' : BoxS bx (.slice a0 S.nc c0) (.slice (some ⟨g, oo, none⟩) S.nl c1) (.slice a2 S.nw c2) y2 := HD.out.box
      clear hS1 hT1 ri0 ri1
      go_wp2_with fail
      refine hK.out _ _ hS' (fun hS => ?_)
      clear hK K hS'
      refine tkH 7 ?_ hS (fun wx hx => ?_) ?_; rotate_left
      ·obtain ⟨⟨hx0, hx1, hx2⟩, _⟩ := hx; go_simp; try with_reducible rfl
      simp only [Act.put, List.getElem_toArray, List.getElem_cons_zero, List.getElem_cons_succ, List.setIfInBounds_toArray, List.set_cons_succ, List.set_cons_zero]
      refine rdH 8 (fun K hK => ?_)
      obtain ⟨g', oo', eg, _, _, k0, k1, k2, k3, k4⟩ := HD.out.st.2.1.at5 hk
      obtain ⟨rfl, rfl⟩ : g = g' ∧ oo = oo' := by simpa using eg
      go_simp
      refine hK.out _ _ hS (fun hS => ?_)
      clear hK K k0 k1 k2 k3 k4 eg
      refine rdH 10 (fun K hK => ?_)
      have HP : Hid (storeF S = 0 → Wf (S.l (k * 5 + 1))) := fun hz => wf_lockS hz hk
      obtain ⟨⟨e0, e1, e2, e3, e4⟩, f0, f1, f2, f3, f4⟩ := KB.out.1
      go_simp
      have HF : Hid (DrX w b o len cap bx S (.slice a0 S.nc c0) (.slice (some ⟨g, oo, none⟩) S.nl c1) (.slice a2 S.nw c2) (z + 5 + 1 + 1 + 1) (((((y2.setCell ⟨kb, 0, none⟩ (.int .i64 (S.l (k * 5)))).setCell ⟨kb, 1, none⟩ (.int .i64 (S.l (k * 5 + 1)))).setCell ⟨kb, 2, none⟩ (.int .i64 (S.l (k * 5 + 2)))).setCell ⟨kb, 3, none⟩ (.int .i64 (S.l (k * 5 + 3)))).setCell ⟨kb, 4, none⟩ (.int .i64 (S.l (k * 5 + 4)))) ∧ Blk5 (((((y2.setCell ⟨kb, 0, none⟩ (.int .i64 (S.l (k * 5)))).setCell ⟨kb, 1, none⟩ (.int .i64 (S.l (k * 5 + 1)))).setCell ⟨kb, 2, none⟩ (.int .i64 (S.l (k * 5 + 2)))).setCell ⟨kb, 3, none⟩ (.int .i64 (S.l (k * 5 + 3)))).setCell ⟨kb, 4, none⟩ (.int .i64 (S.l (k * 5 + 4)))) kb (.int .i64 (S.l (k * 5))) (.int .i64 (S.l (k * 5 + 1))) (.int .i64 (S.l (k * 5 + 2))) (.int .i64 (S.l (k * 5 + 3))) (.int .i64 (S.l (k * 5 + 4)))) := ⟨((((HD.out.setK KB.out.2.1 KB.out.2.2 _ _).setK KB.out.2.1 KB.out.2.2 _ _).setK KB.out.2.1 KB.out.2.2 _ _).setK KB.out.2.1 KB.out.2.2 _ _).setK KB.out.2.1 KB.out.2.2 _ _, KB.out.1.put _ _ _ _ _⟩
      refine hK.out _ _ (show BoxS _ _ _ _ _ from HF.out.1.box) (fun hS => ?_)
      clear hK K
      have HKB : Hid (w.heap.size < kb) := by have := KB.out.2.2; have := HD.out.bl; have := HD.out.lo; exact (by omega : w.heap.size < kb)
      refine wpAnyH_done (by kernel_rfl) ?_ _
      clear hS e0 e1 e2 e3 e4 f0 f1 f2 f3 f4 KB HD
      go_simp
      generalize (((((y2.setCell ⟨kb, 0, none⟩ (.int .i64 (S.l (k * 5)))).setCell ⟨kb, 1, none⟩ (.int .i64 (S.l (k * 5 + 1)))).setCell ⟨kb, 2, none⟩ (.int .i64 (S.l (k * 5 + 2)))).setCell ⟨kb, 3, none⟩ (.int .i64 (S.l (k * 5 + 3)))).setCell ⟨kb, 4, none⟩ (.int .i64 (S.l (k * 5 + 4)))) = yk at HF ⊢
      go_wp2_with fail
      refine wp_region_held_drew (S := fun x => BoxS bx (.slice a0 S.nc c0) (.slice (some ⟨g, oo, none⟩) S.nl c1) (.slice a2 S.nw c2) x ∧ Blk5 x kb (.int .i64 (S.l (k * 5))) (.int .i64 (S.l (k * 5 + 1))) (.int .i64 (S.l (k * 5 + 2))) (.int .i64 (S.l (k * 5 + 3))) (.int .i64 (S.l (k * 5 + 4)))) (by kernel_rfl) ⟨HF.out.1.box.kept rfl, HF.out.2.kept rfl⟩ (fun hS => ?_)
      have HD : Hid (DrX w b o len cap bx S (.slice a0 S.nc c0) (.slice (some ⟨g, oo, none⟩) S.nl c1) (.slice a2 S.nw c2) (z + 5 + 1 + 1 + 1) yk.drew) := HF.out.1.later (below_dr (Below.refl _ _) 1)
      clear HF
      generalize yk.drew = yd at HD hS ⊢
      refine tkH 0 ?_ hS (fun wx hx => ?_) ?_; rotate_left
      ·obtain ⟨⟨⟨hx0, hx1, hx2⟩, _⟩, ⟨hy0, hy1, hy2, hy3, hy4⟩, _⟩ := hx; go_simp; try with_reducible rfl
      refine tkH 1 ?_ hS (fun wx hx => ?_) ?_; rotate_left
      ·obtain ⟨⟨⟨hx0, hx1, hx2⟩, _⟩, ⟨hy0, hy1, hy2, hy3, hy4⟩, _⟩ := hx; go_simp; try with_reducible rfl
      refine tkH 2 ?_ hS (fun wx hx => ?_) ?_; rotate_left
      ·obtain ⟨⟨⟨hx0, hx1, hx2⟩, _⟩, ⟨hy0, hy1, hy2, hy3, hy4⟩, _⟩ := hx; go_simp; try with_reducible rfl
      refine tkH 3 ?_ hS (fun wx hx => ?_) ?_; rotate_left
      ·obtain ⟨⟨⟨hx0, hx1, hx2⟩, _⟩, ⟨hy0, hy1, hy2, hy3, hy4⟩, _⟩ := hx; go_simp; try with_reducible rfl
      refine tkH 4 ?_ hS (fun wx hx => ?_) ?_; rotate_left
      ·obtain ⟨⟨⟨hx0, hx1, hx2⟩, _⟩, ⟨hy0, hy1, hy2, hy3, hy4⟩, _⟩ := hx; go_simp; try with_reducible rfl
      simp only [Act.put, List.getElem_toArray, List.getElem_cons_zero, List.getElem_cons_succ, List.setIfInBounds_toArray, List.set_cons_succ, List.set_cons_zero]
      obtain ⟨⟨r0, r1, r2⟩, f0, f1, f2⟩ := HD.out.res
      refine rdH 5 (fun K hK => ?_)
      go_simp
      have HO := hid_mk (DrX.out HD.out (.slice a0 S.nc c0) (.slice (some ⟨g, oo, none⟩) S.nl c1) (.slice a2 S.nw c2))
      have HZ := hid_mk HD.out.sz
      have hB5 : Blk5 (((yd.setCell ⟨w.heap.size, 0, none⟩ (.slice a0 S.nc c0)).setCell ⟨w.heap.size, 1, none⟩ (.slice (some ⟨g, oo, none⟩) S.nl c1)).setCell ⟨w.heap.size, 2, none⟩ (.slice a2 S.nw c2)) kb (.int .i64 (S.l (k * 5))) (.int .i64 (S.l (k * 5 + 1))) (.int .i64 (S.l (k * 5 + 2))) (.int .i64 (S.l (k * 5 + 3))) (.int .i64 (S.l (k * 5 + 4))) := (((hS.2.kept (Below.heap_setCell _ _ _ _ (by show kb ≠ w.heap.size; have := HKB.out; omega))).kept (Below.heap_setCell _ _ _ _ (by show kb ≠ w.heap.size; have := HKB.out; omega))).kept (Below.heap_setCell _ _ _ _ (by show kb ≠ w.heap.size; have := HKB.out; omega)))
      refine hK.out _ _ ⟨HO.out.1, hB5⟩ (fun hS => ?_)
      clear hK K r0 r1 r2 f0 f1 f2 HD hB5
      generalize (((yd.setCell ⟨w.heap.size, 0, none⟩ (.slice a0 S.nc c0)).setCell ⟨w.heap.size, 1, none⟩ (.slice (some ⟨g, oo, none⟩) S.nl c1)).setCell ⟨w.heap.size, 2, none⟩ (.slice a2 S.nw c2)) = yz at HO hS ⊢
      refine tkH 6 ?_ hS (fun wx hx => ?_) ?_; rotate_left
      ·obtain ⟨⟨⟨hx0, hx1, hx2⟩, _⟩, ⟨hy0, hy1, hy2, hy3, hy4⟩, _⟩ := hx; go_simp; try with_reducible rfl
      refine tkH 7 ?_ hS (fun wx hx => ?_) ?_; rotate_left
      ·obtain ⟨⟨⟨hx0, hx1, hx2⟩, _⟩, ⟨hy0, hy1, hy2, hy3, hy4⟩, _⟩ := hx; go_simp; try with_reducible rfl
      refine wpAnyH_done (by kernel_rfl) ?_ _
      go_simp
      obtain ⟨⟨q0, q1, q2⟩, _⟩ := HO.out.2.1
      go_wp2
      refine bodyPost_ret (v := .tuple #[.agg #[.slice a0 S.nc c0, .slice (some ⟨g, oo, none⟩) S.nl c1, .slice a2 S.nw c2], .int .i64 (S.l (k * 5)), .int .i64 (S.l (k * 5 + 1))]) (by simp [results, Tryz.results26, go_sem, q0, q1, q2]) rfl ⟨S, a0, c0, some ⟨g, oo, none⟩, c1, a2, c2, S.l (k * 5), S.l (k * 5 + 1), rfl, HZ.out, HO.out.2.2.1, HO.out.2.2.2, HP.out⟩
    ·have dn : decide (0 < S.nl) = false := decide_eq_false hnl
     obtain ⟨⟨t0, t1, t2⟩, _⟩ := HD.out.box
     go_wp2_with fail
     go_meet
     case rel => exact ⟨rfl, _, ⟨by omega, by omega⟩, HD⟩
  iterate 2
   ·by_cases hnl : 0 < S.nw
    ·have dn : decide (0 < S.nw) = true := decide_eq_true hnl
     obtain ⟨⟨t0, t1, t2⟩, _⟩ := HD.out.box
     obtain ⟨g, oo, rfl, _⟩ := HD.out.st.2.2.at hnl
     go_wp2_with fail
     clear t0 t1 t2 dn
     refine wp_region_held_drew (S := BoxS bx (.slice a0 S.nc c0) (.slice a1 S.nl c1) (.slice (some ⟨g, oo, none⟩) S.nw c2)) (by kernel_rfl) (HD.out.box.kept rfl) (fun hS => ?_)
     have HD : Hid (DrX w b o len cap bx S (.slice a0 S.nc c0) (.slice a1 S.nl c1) (.slice (some ⟨g, oo, none⟩) S.nw c2) (z + 5 + 1 + 1) w6.drew) := HD.out.later (below_dr (Below.refl _ _) 1)
     generalize w6.drew = y0 at HD hS ⊢
     refine tkH 0 ?_ hS (fun wx hx => ?_) ?_; rotate_left
     ·obtain ⟨⟨hx0, hx1, hx2⟩, _⟩ := hx; go_simp; try with_reducible rfl
     refine tkH 1 ?_ hS (fun wx hx => ?_) ?_; rotate_left
     ·obtain ⟨⟨hx0, hx1, hx2⟩, _⟩ := hx; go_simp; try with_reducible rfl
     refine tkH 2 ?_ hS (fun wx hx => ?_) ?_; rotate_left
     ·obtain ⟨⟨hx0, hx1, hx2⟩, _⟩ := hx; go_simp; try with_reducible rfl
     refine tkH 3 ?_ hS (fun wx hx => ?_) ?_; rotate_left
     ·obtain ⟨⟨hx0, hx1, hx2⟩, _⟩ := hx; go_simp; try with_reducible rfl
     refine tkH 4 ?_ hS (fun wx hx => ?_) ?_; rotate_left
     ·obtain ⟨⟨hx0, hx1, hx2⟩, _⟩ := hx; go_simp; try with_reducible rfl
     refine tkH 5 ?_ hS (fun wx hx => ?_) ?_; rotate_left
     ·obtain ⟨⟨hx0, hx1, hx2⟩, _⟩ := hx; go_simp; try with_reducible rfl
     simp only [Act.put, List.getElem_toArray, List.getElem_cons_zero, List.getElem_cons_succ, List.setIfInBounds_toArray, List.set_cons_succ, List.set_cons_zero]
     refine wpAnyH_ready (rs := [6, 9]) (by kernel_rfl) (by simp) ?_
     refine AllReadyH.cons rfl ?_ (AllReadyH.cons rfl ?_ AllReadyH.nil)
     ·intro K hK
      go_simp
      go_wp2_with fail
      refine (l1Next_any _ b o len cap (z + 5 + 1 + 1) S.nw HD.out.src (by omega) hl).mono ?_
      rintro e y1 ⟨ri, rfl, ri0, ri1, hS1, hT1⟩
      have ri1 := ri1 (by omega)
      obtain ⟨k, rfl⟩ : ∃ k : Nat, ri = k := ⟨ri.toNat, by omega⟩
      have hk : k < S.nw := by omega
      have HD : Hid (DrX w b o len cap bx S (.slice a0 S.nc c0) (.slice a1 S.nl c1) (.slice (some ⟨g, oo, none⟩) S.nw c2) (z + 5 + 1 + 1 + 1) y1) := HD.out.step hT1 hS1
      have hS' : BoxS bx (.slice a0 S.nc c0) (.slice a1 S.nl c1) (.slice (some ⟨g, oo, none⟩) S.nw c2) y1 := HD.out.box
      clear hS1 hT1 ri0 ri1
      go_wp2_with fail
      refine hK.out _ _ hS' (fun hS => ?_)
      clear hK K hS'
      refine tkH 7 ?_ hS (fun wx hx => ?_) ?_; rotate_left
      ·obtain ⟨⟨hx0, hx1, hx2⟩, _⟩ := hx; go_simp; try with_reducible rfl
      simp only [Act.put, List.getElem_toArray, List.getElem_cons_zero, List.getElem_cons_succ, List.setIfInBounds_toArray, List.set_cons_succ, List.set_cons_zero]
      refine wpAnyH_ready (rs := [8, 9]) (by kernel_rfl) (by simp) ?_
      refine AllReadyH.cons rfl ?_ (AllReadyH.cons rfl ?_ AllReadyH.nil)
      ·intro K hK
       obtain ⟨g', oo', eg, _, _, k0, k1, k2, k3⟩ := HD.out.st.2.2.at4 hk
       obtain ⟨rfl, rfl⟩ : g = g' ∧ oo = oo' := by simpa using eg
       go_simp
       refine hK.out _ _ hS (fun hS => ?_)
       clear hK K k0 k1 k2 k3 eg
       refine rdH 9 (fun K hK => ?_)
       go_simp
       have KB : Hid (Blk4 (y1.alloc (.cells #[.int .i64 0, .int .i64 0, .int .i64 0, .int .i64 0] 55)) y1.heap.size (.int .i64 0) (.int .i64 0) (.int .i64 0) (.int .i64 0) ∧ OwnIn S (.slice a0 S.nc c0) (.slice a1 S.nl c1) (.slice (some ⟨g, oo, none⟩) S.nw c2) (fun k => k < y1.heap.size) ∧ bx < y1.heap.size) := ⟨Blk4.new _ _ _ _ _ _, HD.out.st.ownIn.mono (fun k hk => hk.2), HD.out.box.lt⟩
       have HD : Hid (DrX w b o len cap bx S (.slice a0 S.nc c0) (.slice a1 S.nl c1) (.slice (some ⟨g, oo, none⟩) S.nw c2) (z + 5 + 1 + 1 + 1) (y1.alloc (.cells #[.int .i64 0, .int .i64 0, .int .i64 0, .int .i64 0] 55))) := HD.out.later (below_alloc _ _)
       refine hK.out _ _ (show BoxS _ _ _ _ _ from hS.alloc _) (fun hS => ?_)
       clear hK K
       generalize y1.alloc (.cells #[.int .i64 0, .int .i64 0, .int .i64 0, .int .i64 0] 55) = y2 at HD KB hS ⊢
       obtain ⟨kb, hkb⟩ : ∃ kb, y1.heap.size = kb := ⟨_, rfl⟩
       rw [hkb] at KB ⊢
       clear hkb
       refine rdH 10 (fun K hK => ?_)
       obtain ⟨⟨e0, e1, e2, e3⟩, f0, f1, f2, f3⟩ := KB.out.1
       go_simp
       have HF : Hid (DrX w b o len cap bx S (.slice a0 S.nc c0) (.slice a1 S.nl c1) (.slice (some ⟨g, oo, none⟩) S.nw c2) (z + 5 + 1 + 1 + 1) ((((y2.setCell ⟨kb, 0, none⟩ (.int .i64 (S.k (k * 4)))).setCell ⟨kb, 1, none⟩ (.int .i64 (S.k (k * 4 + 1)))).setCell ⟨kb, 2, none⟩ (.int .i64 (S.k (k * 4 + 2)))).setCell ⟨kb, 3, none⟩ (.int .i64 (S.k (k * 4 + 3)))) ∧ Blk4 ((((y2.setCell ⟨kb, 0, none⟩ (.int .i64 (S.k (k * 4)))).setCell ⟨kb, 1, none⟩ (.int .i64 (S.k (k * 4 + 1)))).setCell ⟨kb, 2, none⟩ (.int .i64 (S.k (k * 4 + 2)))).setCell ⟨kb, 3, none⟩ (.int .i64 (S.k (k * 4 + 3)))) kb (.int .i64 (S.k (k * 4))) (.int .i64 (S.k (k * 4 + 1))) (.int .i64 (S.k (k * 4 + 2))) (.int .i64 (S.k (k * 4 + 3)))) := ⟨(((HD.out.setK KB.out.2.1 KB.out.2.2 _ _).setK KB.out.2.1 KB.out.2.2 _ _).setK KB.out.2.1 KB.out.2.2 _ _).setK KB.out.2.1 KB.out.2.2 _ _, KB.out.1.put _ _ _ _⟩
       refine hK.out _ _ (show BoxS _ _ _ _ _ from HF.out.1.box) (fun hS => ?_)
       clear hK K
       have HKB : Hid (w.heap.size < kb) := by have := KB.out.2.2; have := HD.out.bl; have := HD.out.lo; exact (by omega : w.heap.size < kb)
       have HKX : Hid (bx < kb) := KB.out.2.2
       refine wpAnyH_done (by kernel_rfl) ?_ _
       clear hS e0 e1 e2 e3 f0 f1 f2 f3 KB HD
       go_simp
       generalize ((((y2.setCell ⟨kb, 0, none⟩ (.int .i64 (S.k (k * 4)))).setCell ⟨kb, 1, none⟩ (.int .i64 (S.k (k * 4 + 1)))).setCell ⟨kb, 2, none⟩ (.int .i64 (S.k (k * 4 + 2)))).setCell ⟨kb, 3, none⟩ (.int .i64 (S.k (k * 4 + 3)))) = yk at HF ⊢
       go_wp2_with fail
       refine wp_region_held_drew (S := fun x => BoxS bx (.slice a0 S.nc c0) (.slice a1 S.nl c1) (.slice (some ⟨g, oo, none⟩) S.nw c2) x ∧ Blk4 x kb (.int .i64 (S.k (k * 4))) (.int .i64 (S.k (k * 4 + 1))) (.int .i64 (S.k (k * 4 + 2))) (.int .i64 (S.k (k * 4 + 3)))) (by kernel_rfl) ⟨HF.out.1.box.kept rfl, HF.out.2.kept rfl⟩ (fun hS => ?_)
       have HD : Hid (DrX w b o len cap bx S (.slice a0 S.nc c0) (.slice a1 S.nl c1) (.slice (some ⟨g, oo, none⟩) S.nw c2) (z + 5 + 1 + 1 + 1) yk.drew) := HF.out.1.later (below_dr (Below.refl _ _) 1)
       clear HF
       generalize yk.drew = yd at HD hS ⊢
       refine tkH 0 ?_ hS (fun wx hx => ?_) ?_; rotate_left
       ·obtain ⟨⟨⟨hx0, hx1, hx2⟩, _⟩, ⟨hy0, hy1, hy2, hy3⟩, _⟩ := hx; go_simp; try with_reducible rfl
       refine tkH 1 ?_ hS (fun wx hx => ?_) ?_; rotate_left
       ·obtain ⟨⟨⟨hx0, hx1, hx2⟩, _⟩, ⟨hy0, hy1, hy2, hy3⟩, _⟩ := hx; go_simp; try with_reducible rfl
       refine tkH 2 ?_ hS (fun wx hx => ?_) ?_; rotate_left
       ·obtain ⟨⟨⟨hx0, hx1, hx2⟩, _⟩, ⟨hy0, hy1, hy2, hy3⟩, _⟩ := hx; go_simp; try with_reducible rfl
       refine tkH 3 ?_ hS (fun wx hx => ?_) ?_; rotate_left
       ·obtain ⟨⟨⟨hx0, hx1, hx2⟩, _⟩, ⟨hy0, hy1, hy2, hy3⟩, _⟩ := hx; go_simp; try with_reducible rfl
       refine tkH 4 ?_ hS (fun wx hx => ?_) ?_; rotate_left
       ·obtain ⟨⟨⟨hx0, hx1, hx2⟩, _⟩, ⟨hy0, hy1, hy2, hy3⟩, _⟩ := hx; go_simp; try with_reducible rfl
       refine tkH 5 ?_ hS (fun wx hx => ?_) ?_; rotate_left
       ·obtain ⟨⟨⟨hx0, hx1, hx2⟩, _⟩, ⟨hy0, hy1, hy2, hy3⟩, _⟩ := hx; go_simp; try with_reducible rfl
       refine tkH 6 ?_ hS (fun wx hx => ?_) ?_; rotate_left
       ·obtain ⟨⟨⟨hx0, hx1, hx2⟩, _⟩, ⟨hy0, hy1, hy2, hy3⟩, _⟩ := hx; go_simp; try with_reducible rfl
       refine tkH 7 ?_ hS (fun wx hx => ?_) ?_; rotate_left
       ·obtain ⟨⟨⟨hx0, hx1, hx2⟩, _⟩, ⟨hy0, hy1, hy2, hy3⟩, _⟩ := hx; go_simp; try with_reducible rfl
       refine tkH 8 ?_ hS (fun wx hx => ?_) ?_; rotate_left
       ·obtain ⟨⟨⟨hx0, hx1, hx2⟩, _⟩, ⟨hy0, hy1, hy2, hy3⟩, _⟩ := hx; go_simp; try with_reducible rfl
       refine tkH 9 ?_ hS (fun wx hx => ?_) ?_; rotate_left
       ·obtain ⟨⟨⟨hx0, hx1, hx2⟩, _⟩, ⟨hy0, hy1, hy2, hy3⟩, _⟩ := hx; go_simp; try with_reducible rfl
       refine tkH 10 ?_ hS (fun wx hx => ?_) ?_; rotate_left
       ·obtain ⟨⟨⟨hx0, hx1, hx2⟩, _⟩, ⟨hy0, hy1, hy2, hy3⟩, _⟩ := hx; go_simp; try with_reducible rfl
       simp only [Act.put, List.getElem_toArray, List.getElem_cons_zero, List.getElem_cons_succ, List.setIfInBounds_toArray, List.set_cons_succ, List.set_cons_zero]
       obtain ⟨cm, hcm⟩ : ∃ cm, cm = IntKind.i64.wrap (S.k (k * 4 + 1) - 1) := ⟨_, rfl⟩
       rw [← hcm]
       have HC : Hid (Wf cm) := by rw [hcm]; exact wf_wrap _ _
       clear hcm
       refine rdH 11 (fun K hK => ?_)
       go_simp
       have HI : Hid (Ints (yd.alloc (.cells #[.int .i64 (S.k (k * 4 + 2)), .int .i64 (S.k (k * 4 + 1)), .int .i64 cm] 2)) yd.heap.size (.slice (some ⟨yd.heap.size, 0, none⟩) 3 3) [S.k (k * 4 + 2), S.k (k * 4 + 1), cm]) := World.ownsRow_lit yd #[.int .i64 (S.k (k * 4 + 2)), .int .i64 (S.k (k * 4 + 1)), .int .i64 cm] 3 (Nat.le_refl _) (by decide) rfl
       have HG : Hid (b < yd.heap.size) := HD.out.src.lt
       have HD : Hid (DrX w b o len cap bx S (.slice a0 S.nc c0) (.slice a1 S.nl c1) (.slice (some ⟨g, oo, none⟩) S.nw c2) (z + 5 + 1 + 1 + 1) (yd.alloc (.cells #[.int .i64 (S.k (k * 4 + 2)), .int .i64 (S.k (k * 4 + 1)), .int .i64 cm] 2))) := HD.out.later (below_alloc _ _)
       refine hK.out _ _ ⟨show BoxS _ _ _ _ _ from hS.1.alloc _, hS.2.alloc _⟩ (fun hS => ?_)
       clear hK K
       generalize yd.alloc (.cells #[.int .i64 (S.k (k * 4 + 2)), .int .i64 (S.k (k * 4 + 1)), .int .i64 cm] 2) = ye at HD HI hS ⊢
       refine rdH 12 (fun K hK => ?_)
       go_simp
       go_wp2_with fail
       refine (l1Pick_any _ b o len cap (z + 5 + 1 + 1 + 1) _ yd.heap.size [S.k (k * 4 + 2), S.k (k * 4 + 1), cm] HD.out.src (by omega) hl HI.out HG.out (by simp) (by simp)).mono ?_
       rintro e yf ⟨pt, rfl, hpt, hS1, hT1⟩
       have HP : Hid (storeF S = 0 → Wf pt) := fun hz => wf_writeS hz hk HC.out hpt
       clear hpt
       have HN : Hid (kb ≠ b) := by have := HKX.out; have := HD.out.bl; exact (by omega : kb ≠ b)
       have HD : Hid (DrX w b o len cap bx S (.slice a0 S.nc c0) (.slice a1 S.nl c1) (.slice (some ⟨g, oo, none⟩) S.nw c2) (z + 5 + 1 + 1 + 1 + 1) yf) := HD.out.step hT1 hS1
       have hS' : BoxS bx (.slice a0 S.nc c0) (.slice a1 S.nl c1) (.slice (some ⟨g, oo, none⟩) S.nw c2) yf ∧ Blk4 yf kb (.int .i64 (S.k (k * 4))) (.int .i64 (S.k (k * 4 + 1))) (.int .i64 (S.k (k * 4 + 2))) (.int .i64 (S.k (k * 4 + 3))) := ⟨HD.out.box, hS.2.kept (hT1.block kb hS.2.lt (fun e => HN.out (Option.some.inj e)))⟩
       clear hS1 hT1 HI HG
       go_wp2_with fail
       refine hK.out _ _ hS' (fun hS => ?_)
       clear hK K hS'
       obtain ⟨⟨r0, r1, r2⟩, f0, f1, f2⟩ := HD.out.res
       refine rdH 13 (fun K hK => ?_)
       go_simp
       have HO := hid_mk (DrX.out HD.out (.slice a0 S.nc c0) (.slice a1 S.nl c1) (.slice (some ⟨g, oo, none⟩) S.nw c2))
       have HZ := hid_mk HD.out.sz
       have hB5 : Blk4 (((yf.setCell ⟨w.heap.size, 0, none⟩ (.slice a0 S.nc c0)).setCell ⟨w.heap.size, 1, none⟩ (.slice a1 S.nl c1)).setCell ⟨w.heap.size, 2, none⟩ (.slice (some ⟨g, oo, none⟩) S.nw c2)) kb (.int .i64 (S.k (k * 4))) (.int .i64 (S.k (k * 4 + 1))) (.int .i64 (S.k (k * 4 + 2))) (.int .i64 (S.k (k * 4 + 3))) := (((hS.2.kept (Below.heap_setCell _ _ _ _ (by show kb ≠ w.heap.size; have := HKB.out; omega))).kept (Below.heap_setCell _ _ _ _ (by show kb ≠ w.heap.size; have := HKB.out; omega))).kept (Below.heap_setCell _ _ _ _ (by show kb ≠ w.heap.size; have := HKB.out; omega)))
       refine hK.out _ _ ⟨HO.out.1, hB5⟩ (fun hS => ?_)
       clear hK K r0 r1 r2 f0 f1 f2 HD hB5
       generalize (((yf.setCell ⟨w.heap.size, 0, none⟩ (.slice a0 S.nc c0)).setCell ⟨w.heap.size, 1, none⟩ (.slice a1 S.nl c1)).setCell ⟨w.heap.size, 2, none⟩ (.slice (some ⟨g, oo, none⟩) S.nw c2)) = yz at HO hS ⊢
       refine tkH 14 ?_ hS (fun wx hx => ?_) ?_; rotate_left
       ·obtain ⟨⟨⟨hx0, hx1, hx2⟩, _⟩, ⟨hy0, hy1, hy2, hy3⟩, _⟩ := hx; go_simp; try with_reducible rfl
       refine tkH 15 ?_ hS (fun wx hx => ?_) ?_; rotate_left
       ·obtain ⟨⟨⟨hx0, hx1, hx2⟩, _⟩, ⟨hy0, hy1, hy2, hy3⟩, _⟩ := hx; go_simp; try with_reducible rfl
       refine wpAnyH_done (by kernel_rfl) ?_ _
       go_simp
       obtain ⟨⟨q0, q1, q2⟩, _⟩ := HO.out.2.1
       go_wp2
       refine bodyPost_ret (v := .tuple #[.agg #[.slice a0 S.nc c0, .slice a1 S.nl c1, .slice (some ⟨g, oo, none⟩) S.nw c2], .int .i64 (S.k (k * 4)), .int .i64 (pt)]) (by simp [results, Tryz.results26, go_sem, q0, q1, q2]) rfl ⟨S, a0, c0, a1, c1, some ⟨g, oo, none⟩, c2, S.k (k * 4), pt, rfl, HZ.out, HO.out.2.2.1, HO.out.2.2.2, HP.out⟩
      ·intro K hK
       go_simp
       have KB : Hid (Blk4 (y1.alloc (.cells #[.int .i64 0, .int .i64 0, .int .i64 0, .int .i64 0] 55)) y1.heap.size (.int .i64 0) (.int .i64 0) (.int .i64 0) (.int .i64 0) ∧ OwnIn S (.slice a0 S.nc c0) (.slice a1 S.nl c1) (.slice (some ⟨g, oo, none⟩) S.nw c2) (fun k => k < y1.heap.size) ∧ bx < y1.heap.size) := ⟨Blk4.new _ _ _ _ _ _, HD.out.st.ownIn.mono (fun k hk => hk.2), HD.out.box.lt⟩
       have HD : Hid (DrX w b o len cap bx S (.slice a0 S.nc c0) (.slice a1 S.nl c1) (.slice (some ⟨g, oo, none⟩) S.nw c2) (z + 5 + 1 + 1 + 1) (y1.alloc (.cells #[.int .i64 0, .int .i64 0, .int .i64 0, .int .i64 0] 55))) := HD.out.later (below_alloc _ _)
       refine hK.out _ _ (show BoxS _ _ _ _ _ from hS.alloc _) (fun hS => ?_)
       clear hK K
       generalize y1.alloc (.cells #[.int .i64 0, .int .i64 0, .int .i64 0, .int .i64 0] 55) = y2 at HD KB hS ⊢
       obtain ⟨kb, hkb⟩ : ∃ kb, y1.heap.size = kb := ⟨_, rfl⟩
       rw [hkb] at KB ⊢
       clear hkb
       refine rdH 8 (fun K hK => ?_)
       obtain ⟨g', oo', eg, _, _, k0, k1, k2, k3⟩ := HD.out.st.2.2.at4 hk
       obtain ⟨rfl, rfl⟩ : g = g' ∧ oo = oo' := by simpa using eg
       go_simp
       refine hK.out _ _ hS (fun hS => ?_)
       clear hK K k0 k1 k2 k3 eg
       refine rdH 10 (fun K hK => ?_)
       obtain ⟨⟨e0, e1, e2, e3⟩, f0, f1, f2, f3⟩ := KB.out.1
       go_simp
       have HF : Hid (DrX w b o len cap bx S (.slice a0 S.nc c0) (.slice a1 S.nl c1) (.slice (some ⟨g, oo, none⟩) S.nw c2) (z + 5 + 1 + 1 + 1) ((((y2.setCell ⟨kb, 0, none⟩ (.int .i64 (S.k (k * 4)))).setCell ⟨kb, 1, none⟩ (.int .i64 (S.k (k * 4 + 1)))).setCell ⟨kb, 2, none⟩ (.int .i64 (S.k (k * 4 + 2)))).setCell ⟨kb, 3, none⟩ (.int .i64 (S.k (k * 4 + 3)))) ∧ Blk4 ((((y2.setCell ⟨kb, 0, none⟩ (.int .i64 (S.k (k * 4)))).setCell ⟨kb, 1, none⟩ (.int .i64 (S.k (k * 4 + 1)))).setCell ⟨kb, 2, none⟩ (.int .i64 (S.k (k * 4 + 2)))).setCell ⟨kb, 3, none⟩ (.int .i64 (S.k (k * 4 + 3)))) kb (.int .i64 (S.k (k * 4))) (.int .i64 (S.k (k * 4 + 1))) (.int .i64 (S.k (k * 4 + 2))) (.int .i64 (S.k (k * 4 + 3)))) := ⟨(((HD.out.setK KB.out.2.1 KB.out.2.2 _ _).setK KB.out.2.1 KB.out.2.2 _ _).setK KB.out.2.1 KB.out.2.2 _ _).setK KB.out.2.1 KB.out.2.2 _ _, KB.out.1.put _ _ _ _⟩
       refine hK.out _ _ (show BoxS _ _ _ _ _ from HF.out.1.box) (fun hS => ?_)
       clear hK K
       have HKB : Hid (w.heap.size < kb) := by have := KB.out.2.2; have := HD.out.bl; have := HD.out.lo; exact (by omega : w.heap.size < kb)
       have HKX : Hid (bx < kb) := KB.out.2.2
       refine wpAnyH_done (by kernel_rfl) ?_ _
       clear hS e0 e1 e2 e3 f0 f1 f2 f3 KB HD
       go_simp
       generalize ((((y2.setCell ⟨kb, 0, none⟩ (.int .i64 (S.k (k * 4)))).setCell ⟨kb, 1, none⟩ (.int .i64 (S.k (k * 4 + 1)))).setCell ⟨kb, 2, none⟩ (.int .i64 (S.k (k * 4 + 2)))).setCell ⟨kb, 3, none⟩ (.int .i64 (S.k (k * 4 + 3)))) = yk at HF ⊢
       go_wp2_with fail
       refine wp_region_held_drew (S := fun x => BoxS bx (.slice a0 S.nc c0) (.slice a1 S.nl c1) (.slice (some ⟨g, oo, none⟩) S.nw c2) x ∧ Blk4 x kb (.int .i64 (S.k (k * 4))) (.int .i64 (S.k (k * 4 + 1))) (.int .i64 (S.k (k * 4 + 2))) (.int .i64 (S.k (k * 4 + 3)))) (by kernel_rfl) ⟨HF.out.1.box.kept rfl, HF.out.2.kept rfl⟩ (fun hS => ?_)
       have HD : Hid (DrX w b o len cap bx S (.slice a0 S.nc c0) (.slice a1 S.nl c1) (.slice (some ⟨g, oo, none⟩) S.nw c2) (z + 5 + 1 + 1 + 1) yk.drew) := HF.out.1.later (below_dr (Below.refl _ _) 1)
       clear HF
       generalize yk.drew = yd at HD hS ⊢
       refine tkH 0 ?_ hS (fun wx hx => ?_) ?_; rotate_left
       ·obtain ⟨⟨⟨hx0, hx1, hx2⟩, _⟩, ⟨hy0, hy1, hy2, hy3⟩, _⟩ := hx; go_simp; try with_reducible rfl
       refine tkH 1 ?_ hS (fun wx hx => ?_) ?_; rotate_left
       ·obtain ⟨⟨⟨hx0, hx1, hx2⟩, _⟩, ⟨hy0, hy1, hy2, hy3⟩, _⟩ := hx; go_simp; try with_reducible rfl
       refine tkH 2 ?_ hS (fun wx hx => ?_) ?_; rotate_left
       ·obtain ⟨⟨⟨hx0, hx1, hx2⟩, _⟩, ⟨hy0, hy1, hy2, hy3⟩, _⟩ := hx; go_simp; try with_reducible rfl
       refine tkH 3 ?_ hS (fun wx hx => ?_) ?_; rotate_left
       ·obtain ⟨⟨⟨hx0, hx1, hx2⟩, _⟩, ⟨hy0, hy1, hy2, hy3⟩, _⟩ := hx; go_simp; try with_reducible rfl
       refine tkH 4 ?_ hS (fun wx hx => ?_) ?_; rotate_left
       ·obtain ⟨⟨⟨hx0, hx1, hx2⟩, _⟩, ⟨hy0, hy1, hy2, hy3⟩, _⟩ := hx; go_simp; try with_reducible rfl
       refine tkH 5 ?_ hS (fun wx hx => ?_) ?_; rotate_left
       ·obtain ⟨⟨⟨hx0, hx1, hx2⟩, _⟩, ⟨hy0, hy1, hy2, hy3⟩, _⟩ := hx; go_simp; try with_reducible rfl
       refine tkH 6 ?_ hS (fun wx hx => ?_) ?_; rotate_left
       ·obtain ⟨⟨⟨hx0, hx1, hx2⟩, _⟩, ⟨hy0, hy1, hy2, hy3⟩, _⟩ := hx; go_simp; try with_reducible rfl
       refine tkH 7 ?_ hS (fun wx hx => ?_) ?_; rotate_left
       ·obtain ⟨⟨⟨hx0, hx1, hx2⟩, _⟩, ⟨hy0, hy1, hy2, hy3⟩, _⟩ := hx; go_simp; try with_reducible rfl
       refine tkH 8 ?_ hS (fun wx hx => ?_) ?_; rotate_left
       ·obtain ⟨⟨⟨hx0, hx1, hx2⟩, _⟩, ⟨hy0, hy1, hy2, hy3⟩, _⟩ := hx; go_simp; try with_reducible rfl
       refine tkH 9 ?_ hS (fun wx hx => ?_) ?_; rotate_left
       ·obtain ⟨⟨⟨hx0, hx1, hx2⟩, _⟩, ⟨hy0, hy1, hy2, hy3⟩, _⟩ := hx; go_simp; try with_reducible rfl
       refine tkH 10 ?_ hS (fun wx hx => ?_) ?_; rotate_left
       ·obtain ⟨⟨⟨hx0, hx1, hx2⟩, _⟩, ⟨hy0, hy1, hy2, hy3⟩, _⟩ := hx; go_simp; try with_reducible rfl
       simp only [Act.put, List.getElem_toArray, List.getElem_cons_zero, List.getElem_cons_succ, List.setIfInBounds_toArray, List.set_cons_succ, List.set_cons_zero]
       obtain ⟨cm, hcm⟩ : ∃ cm, cm = IntKind.i64.wrap (S.k (k * 4 + 1) - 1) := ⟨_, rfl⟩
       rw [← hcm]
       have HC : Hid (Wf cm) := by rw [hcm]; exact wf_wrap _ _
       clear hcm
       refine rdH 11 (fun K hK => ?_)
       go_simp
       have HI : Hid (Ints (yd.alloc (.cells #[.int .i64 (S.k (k * 4 + 2)), .int .i64 (S.k (k * 4 + 1)), .int .i64 cm] 2)) yd.heap.size (.slice (some ⟨yd.heap.size, 0, none⟩) 3 3) [S.k (k * 4 + 2), S.k (k * 4 + 1), cm]) := World.ownsRow_lit yd #[.int .i64 (S.k (k * 4 + 2)), .int .i64 (S.k (k * 4 + 1)), .int .i64 cm] 3 (Nat.le_refl _) (by decide) rfl
       have HG : Hid (b < yd.heap.size) := HD.out.src.lt
       have HD : Hid (DrX w b o len cap bx S (.slice a0 S.nc c0) (.slice a1 S.nl c1) (.slice (some ⟨g, oo, none⟩) S.nw c2) (z + 5 + 1 + 1 + 1) (yd.alloc (.cells #[.int .i64 (S.k (k * 4 + 2)), .int .i64 (S.k (k * 4 + 1)), .int .i64 cm] 2))) := HD.out.later (below_alloc _ _)
       refine hK.out _ _ ⟨show BoxS _ _ _ _ _ from hS.1.alloc _, hS.2.alloc _⟩ (fun hS => ?_)
       clear hK K
       generalize yd.alloc (.cells #[.int .i64 (S.k (k * 4 + 2)), .int .i64 (S.k (k * 4 + 1)), .int .i64 cm] 2) = ye at HD HI hS ⊢
       refine rdH 12 (fun K hK => ?_)
       go_simp
       go_wp2_with fail
       refine (l1Pick_any _ b o len cap (z + 5 + 1 + 1 + 1) _ yd.heap.size [S.k (k * 4 + 2), S.k (k * 4 + 1), cm] HD.out.src (by omega) hl HI.out HG.out (by simp) (by simp)).mono ?_
       rintro e yf ⟨pt, rfl, hpt, hS1, hT1⟩
       have HP : Hid (storeF S = 0 → Wf pt) := fun hz => wf_writeS hz hk HC.out hpt
       clear hpt
       have HN : Hid (kb ≠ b) := by have := HKX.out; have := HD.out.bl; exact (by omega : kb ≠ b)
       have HD : Hid (DrX w b o len cap bx S (.slice a0 S.nc c0) (.slice a1 S.nl c1) (.slice (some ⟨g, oo, none⟩) S.nw c2) (z + 5 + 1 + 1 + 1 + 1) yf) := HD.out.step hT1 hS1
       have hS' : BoxS bx (.slice a0 S.nc c0) (.slice a1 S.nl c1) (.slice (some ⟨g, oo, none⟩) S.nw c2) yf ∧ Blk4 yf kb (.int .i64 (S.k (k * 4))) (.int .i64 (S.k (k * 4 + 1))) (.int .i64 (S.k (k * 4 + 2))) (.int .i64 (S.k (k * 4 + 3))) := ⟨HD.out.box, hS.2.kept (hT1.block kb hS.2.lt (fun e => HN.out (Option.some.inj e)))⟩
       clear hS1 hT1 HI HG
       go_wp2_with fail
       refine hK.out _ _ hS' (fun hS => ?_)
       clear hK K hS'
       obtain ⟨⟨r0, r1, r2⟩, f0, f1, f2⟩ := HD.out.res
       refine rdH 13 (fun K hK => ?_)
       go_simp
       have HO := hid_mk (DrX.out HD.out (.slice a0 S.nc c0) (.slice a1 S.nl c1) (.slice (some ⟨g, oo, none⟩) S.nw c2))
       have HZ := hid_mk HD.out.sz
       have hB5 : Blk4 (((yf.setCell ⟨w.heap.size, 0, none⟩ (.slice a0 S.nc c0)).setCell ⟨w.heap.size, 1, none⟩ (.slice a1 S.nl c1)).setCell ⟨w.heap.size, 2, none⟩ (.slice (some ⟨g, oo, none⟩) S.nw c2)) kb (.int .i64 (S.k (k * 4))) (.int .i64 (S.k (k * 4 + 1))) (.int .i64 (S.k (k * 4 + 2))) (.int .i64 (S.k (k * 4 + 3))) := (((hS.2.kept (Below.heap_setCell _ _ _ _ (by show kb ≠ w.heap.size; have := HKB.out; omega))).kept (Below.heap_setCell _ _ _ _ (by show kb ≠ w.heap.size; have := HKB.out; omega))).kept (Below.heap_setCell _ _ _ _ (by show kb ≠ w.heap.size; have := HKB.out; omega)))
       refine hK.out _ _ ⟨HO.out.1, hB5⟩ (fun hS => ?_)
       clear hK K r0 r1 r2 f0 f1 f2 HD hB5
       generalize (((yf.setCell ⟨w.heap.size, 0, none⟩ (.slice a0 S.nc c0)).setCell ⟨w.heap.size, 1, none⟩ (.slice a1 S.nl c1)).setCell ⟨w.heap.size, 2, none⟩ (.slice (some ⟨g, oo, none⟩) S.nw c2)) = yz at HO hS ⊢
       refine tkH 14 ?_ hS (fun wx hx => ?_) ?_; rotate_left
       ·obtain ⟨⟨⟨hx0, hx1, hx2⟩, _⟩, ⟨hy0, hy1, hy2, hy3⟩, _⟩ := hx; go_simp; try with_reducible rfl
       refine tkH 15 ?_ hS (fun wx hx => ?_) ?_; rotate_left
       ·obtain ⟨⟨⟨hx0, hx1, hx2⟩, _⟩, ⟨hy0, hy1, hy2, hy3⟩, _⟩ := hx; go_simp; try with_reducible rfl
       refine wpAnyH_done (by kernel_rfl) ?_ _
       go_simp
       obtain ⟨⟨q0, q1, q2⟩, _⟩ := HO.out.2.1
       go_wp2
       refine bodyPost_ret (v := .tuple #[.agg #[.slice a0 S.nc c0, .slice a1 S.nl c1, .slice (some ⟨g, oo, none⟩) S.nw c2], .int .i64 (S.k (k * 4)), .int .i64 (pt)]) (by simp [results, Tryz.results26, go_sem, q0, q1, q2]) rfl ⟨S, a0, c0, a1, c1, some ⟨g, oo, none⟩, c2, S.k (k * 4), pt, rfl, HZ.out, HO.out.2.2.1, HO.out.2.2.2, HP.out⟩
     ·intro K hK
      go_simp
      have KB : Hid (Blk4 (y0.alloc (.cells #[.int .i64 0, .int .i64 0, .int .i64 0, .int .i64 0] 55)) y0.heap.size (.int .i64 0) (.int .i64 0) (.int .i64 0) (.int .i64 0) ∧ OwnIn S (.slice a0 S.nc c0) (.slice a1 S.nl c1) (.slice (some ⟨g, oo, none⟩) S.nw c2) (fun k => k < y0.heap.size) ∧ bx < y0.heap.size) := ⟨Blk4.new _ _ _ _ _ _, HD.out.st.ownIn.mono (fun k hk => hk.2), HD.out.box.lt⟩
      have HD : Hid (DrX w b o len cap bx S (.slice a0 S.nc c0) (.slice a1 S.nl c1) (.slice (some ⟨g, oo, none⟩) S.nw c2) (z + 5 + 1 + 1) (y0.alloc (.cells #[.int .i64 0, .int .i64 0, .int .i64 0, .int .i64 0] 55))) := HD.out.later (below_alloc _ _)
      refine hK.out _ _ (show BoxS _ _ _ _ _ from hS.alloc _) (fun hS => ?_)
      clear hK K
      generalize y0.alloc (.cells #[.int .i64 0, .int .i64 0, .int .i64 0, .int .i64 0] 55) = y1 at HD KB hS ⊢
      obtain ⟨kb, hkb⟩ : ∃ kb, y0.heap.size = kb := ⟨_, rfl⟩
      rw [hkb] at KB ⊢
      clear hkb
      refine rdH 6 (fun K hK => ?_)
      go_simp
      go_wp2_with fail
      refine (l1Next_any _ b o len cap (z + 5 + 1 + 1) S.nw HD.out.src (by omega) hl).mono ?_
      rintro e y2 ⟨ri, rfl, ri0, ri1, hS1, hT1⟩
      have ri1 := ri1 (by omega)
      obtain ⟨k, rfl⟩ : ∃ k : Nat, ri = k := ⟨ri.toNat, by omega⟩
      have hk : k < S.nw := by omega
      have HD : Hid (DrX w b o len cap bx S (.slice a0 S.nc c0) (.slice a1 S.nl c1) (.slice (some ⟨g, oo, none⟩) S.nw c2) (z + 5 + 1 + 1 + 1) y2) := HD.out.step hT1 hS1
      have KB : Hid (Blk4 y2 kb (.int .i64 0) (.int .i64 0) (.int .i64 0) (.int .i64 0) ∧ OwnIn S (.slice a0 S.nc c0) (.slice a1 S.nl c1) (.slice (some ⟨g, oo, none⟩) S.nw c2) (fun k => k < kb) ∧ bx < kb) := ⟨KB.out.1.kept (hT1.block kb KB.out.1.lt (fun e => by have := Option.some.inj e; have := KB.out.2.2; have := HD.out.bl; omega)), KB.out.2⟩
      have hS' : BoxS bx (.slice a0 S.nc c0) (.slice a1 S.nl c1) (.slice (some ⟨g, oo, none⟩) S.nw c2) y2 := HD.out.box
      clear hS1 hT1 ri0 ri1
      go_wp2_with fail
      refine hK.out _ _ hS' (fun hS => ?_)
      clear hK K hS'
      refine tkH 7 ?_ hS (fun wx hx => ?_) ?_; rotate_left
      ·obtain ⟨⟨hx0, hx1, hx2⟩, _⟩ := hx; go_simp; try with_reducible rfl
      simp only [Act.put, List.getElem_toArray, List.getElem_cons_zero, List.getElem_cons_succ, List.setIfInBounds_toArray, List.set_cons_succ, List.set_cons_zero]
      refine rdH 8 (fun K hK => ?_)
      obtain ⟨g', oo', eg, _, _, k0, k1, k2, k3⟩ := HD.out.st.2.2.at4 hk
      obtain ⟨rfl, rfl⟩ : g = g' ∧ oo = oo' := by simpa using eg
      go_simp
      refine hK.out _ _ hS (fun hS => ?_)
      clear hK K k0 k1 k2 k3 eg
      refine rdH 10 (fun K hK => ?_)
      obtain ⟨⟨e0, e1, e2, e3⟩, f0, f1, f2, f3⟩ := KB.out.1
      go_simp
      have HF : Hid (DrX w b o len cap bx S (.slice a0 S.nc c0) (.slice a1 S.nl c1) (.slice (some ⟨g, oo, none⟩) S.nw c2) (z + 5 + 1 + 1 + 1) ((((y2.setCell ⟨kb, 0, none⟩ (.int .i64 (S.k (k * 4)))).setCell ⟨kb, 1, none⟩ (.int .i64 (S.k (k * 4 + 1)))).setCell ⟨kb, 2, none⟩ (.int .i64 (S.k (k * 4 + 2)))).setCell ⟨kb, 3, none⟩ (.int .i64 (S.k (k * 4 + 3)))) ∧ Blk4 ((((y2.setCell ⟨kb, 0, none⟩ (.int .i64 (S.k (k * 4)))).setCell ⟨kb, 1, none⟩ (.int .i64 (S.k (k * 4 + 1)))).setCell ⟨kb, 2, none⟩ (.int .i64 (S.k (k * 4 + 2)))).setCell ⟨kb, 3, none⟩ (.int .i64 (S.k (k * 4 + 3)))) kb (.int .i64 (S.k (k * 4))) (.int .i64 (S.k (k * 4 + 1))) (.int .i64 (S.k (k * 4 + 2))) (.int .i64 (S.k (k * 4 + 3)))) := ⟨(((HD.out.setK KB.out.2.1 KB.out.2.2 _ _).setK KB.out.2.1 KB.out.2.2 _ _).setK KB.out.2.1 KB.out.2.2 _ _).setK KB.out.2.1 KB.out.2.2 _ _, KB.out.1.put _ _ _ _⟩
      refine hK.out _ _ (show BoxS _ _ _ _ _ from HF.out.1.box) (fun hS => ?_)
      clear hK K
      have HKB : Hid (w.heap.size < kb) := by have := KB.out.2.2; have := HD.out.bl; have := HD.out.lo; exact (by omega : w.heap.size < kb)
      have HKX : Hid (bx < kb) := KB.out.2.2
      refine wpAnyH_done (by kernel_rfl) ?_ _
      clear hS e0 e1 e2 e3 f0 f1 f2 f3 KB HD
      go_simp
      generalize ((((y2.setCell ⟨kb, 0, none⟩ (.int .i64 (S.k (k * 4)))).setCell ⟨kb, 1, none⟩ (.int .i64 (S.k (k * 4 + 1)))).setCell ⟨kb, 2, none⟩ (.int .i64 (S.k (k * 4 + 2)))).setCell ⟨kb, 3, none⟩ (.int .i64 (S.k (k * 4 + 3)))) = yk at HF ⊢
      go_wp2_with fail
      refine wp_region_held_drew (S := fun x => BoxS bx (.slice a0 S.nc c0) (.slice a1 S.nl c1) (.slice (some ⟨g, oo, none⟩) S.nw c2) x ∧ Blk4 x kb (.int .i64 (S.k (k * 4))) (.int .i64 (S.k (k * 4 + 1))) (.int .i64 (S.k (k * 4 + 2))) (.int .i64 (S.k (k * 4 + 3)))) (by kernel_rfl) ⟨HF.out.1.box.kept rfl, HF.out.2.kept rfl⟩ (fun hS => ?_)
      have HD : Hid (DrX w b o len cap bx S (.slice a0 S.nc c0) (.slice a1 S.nl c1) (.slice (some ⟨g, oo, none⟩) S.nw c2) (z + 5 + 1 + 1 + 1) yk.drew) := HF.out.1.later (below_dr (Below.refl _ _) 1)
      clear HF
      generalize yk.drew = yd at HD hS ⊢
      refine tkH 0 ?_ hS (fun wx hx => ?_) ?_; rotate_left
      ·obtain ⟨⟨⟨hx0, hx1, hx2⟩, _⟩, ⟨hy0, hy1, hy2, hy3⟩, _⟩ := hx; go_simp; try with_reducible rfl
      refine tkH 1 ?_ hS (fun wx hx => ?_) ?_; rotate_left
      ·obtain ⟨⟨⟨hx0, hx1, hx2⟩, _⟩, ⟨hy0, hy1, hy2, hy3⟩, _⟩ := hx; go_simp; try with_reducible rfl
      refine tkH 2 ?_ hS (fun wx hx => ?_) ?_; rotate_left
      ·obtain ⟨⟨⟨hx0, hx1, hx2⟩, _⟩, ⟨hy0, hy1, hy2, hy3⟩, _⟩ := hx; go_simp; try with_reducible rfl
      refine tkH 3 ?_ hS (fun wx hx => ?_) ?_; rotate_left
      ·obtain ⟨⟨⟨hx0, hx1, hx2⟩, _⟩, ⟨hy0, hy1, hy2, hy3⟩, _⟩ := hx; go_simp; try with_reducible rfl
      refine tkH 4 ?_ hS (fun wx hx => ?_) ?_; rotate_left
      ·obtain ⟨⟨⟨hx0, hx1, hx2⟩, _⟩, ⟨hy0, hy1, hy2, hy3⟩, _⟩ := hx; go_simp; try with_reducible rfl
      refine tkH 5 ?_ hS (fun wx hx => ?_) ?_; rotate_left
      ·obtain ⟨⟨⟨hx0, hx1, hx2⟩, _⟩, ⟨hy0, hy1, hy2, hy3⟩, _⟩ := hx; go_simp; try with_reducible rfl
      refine tkH 6 ?_ hS (fun wx hx => ?_) ?_; rotate_left
      ·obtain ⟨⟨⟨hx0, hx1, hx2⟩, _⟩, ⟨hy0, hy1, hy2, hy3⟩, _⟩ := hx; go_simp; try with_reducible rfl
      refine tkH 7 ?_ hS (fun wx hx => ?_) ?_; rotate_left
      ·obtain ⟨⟨⟨hx0, hx1, hx2⟩, _⟩, ⟨hy0, hy1, hy2, hy3⟩, _⟩ := hx; go_simp; try with_reducible rfl
      refine tkH 8 ?_ hS (fun wx hx => ?_) ?_; rotate_left
      ·obtain ⟨⟨⟨hx0, hx1, hx2⟩, _⟩, ⟨hy0, hy1, hy2, hy3⟩, _⟩ := hx; go_simp; try with_reducible rfl
      refine tkH 9 ?_ hS (fun wx hx => ?_) ?_; rotate_left
      ·obtain ⟨⟨⟨hx0, hx1, hx2⟩, _⟩, ⟨hy0, hy1, hy2, hy3⟩, _⟩ := hx; go_simp; try with_reducible rfl
      refine tkH 10 ?_ hS (fun wx hx => ?_) ?_; rotate_left
      ·obtain ⟨⟨⟨hx0, hx1, hx2⟩, _⟩, ⟨hy0, hy1, hy2, hy3⟩, _⟩ := hx; go_simp; try with_reducible rfl
      simp only [Act.put, List.getElem_toArray, List.getElem_cons_zero, List.getElem_cons_succ, List.setIfInBounds_toArray, List.set_cons_succ, List.set_cons_zero]
      obtain ⟨cm, hcm⟩ : ∃ cm, cm = IntKind.i64.wrap (S.k (k * 4 + 1) - 1) := ⟨_, rfl⟩
      rw [← hcm]
      have HC : Hid (Wf cm) := by rw [hcm]; exact wf_wrap _ _
      clear hcm
      refine rdH 11 (fun K hK => ?_)
      go_simp
      have HI : Hid (Ints (yd.alloc (.cells #[.int .i64 (S.k (k * 4 + 2)), .int .i64 (S.k (k * 4 + 1)), .int .i64 cm] 2)) yd.heap.size (.slice (some ⟨yd.heap.size, 0, none⟩) 3 3) [S.k (k * 4 + 2), S.k (k * 4 + 1), cm]) := World.ownsRow_lit yd #[.int .i64 (S.k (k * 4 + 2)), .int .i64 (S.k (k * 4 + 1)), .int .i64 cm] 3 (Nat.le_refl _) (by decide) rfl
      have HG : Hid (b < yd.heap.size) := HD.out.src.lt
      have HD : Hid (DrX w b o len cap bx S (.slice a0 S.nc c0) (.slice a1 S.nl c1) (.slice (some ⟨g, oo, none⟩) S.nw c2) (z + 5 + 1 + 1 + 1) (yd.alloc (.cells #[.int .i64 (S.k (k * 4 + 2)), .int .i64 (S.k (k * 4 + 1)), .int .i64 cm] 2))) := HD.out.later (below_alloc _ _)
      refine hK.out _ _ ⟨show BoxS _ _ _ _ _ from hS.1.alloc _, hS.2.alloc _⟩ (fun hS => ?_)
      clear hK K
      generalize yd.alloc (.cells #[.int .i64 (S.k (k * 4 + 2)), .int .i64 (S.k (k * 4 + 1)), .int .i64 cm] 2) = ye at HD HI hS ⊢
      refine rdH 12 (fun K hK => ?_)
      go_simp
      go_wp2_with fail
      refine (l1Pick_any _ b o len cap (z + 5 + 1 + 1 + 1) _ yd.heap.size [S.k (k * 4 + 2), S.k (k * 4 + 1), cm] HD.out.src (by omega) hl HI.out HG.out (by simp) (by simp)).mono ?_
      rintro e yf ⟨pt, rfl, hpt, hS1, hT1⟩
      have HP : Hid (storeF S = 0 → Wf pt) := fun hz => wf_writeS hz hk HC.out hpt
      clear hpt
      have HN : Hid (kb ≠ b) := by have := HKX.out; have := HD.out.bl; exact (by omega : kb ≠ b)
      have HD : Hid (DrX w b o len cap bx S (.slice a0 S.nc c0) (.slice a1 S.nl c1) (.slice (some ⟨g, oo, none⟩) S.nw c2) (z + 5 + 1 + 1 + 1 + 1) yf) := HD.out.step hT1 hS1
      have hS' : BoxS bx (.slice a0 S.nc c0) (.slice a1 S.nl c1) (.slice (some ⟨g, oo, none⟩) S.nw c2) yf ∧ Blk4 yf kb (.int .i64 (S.k (k * 4))) (.int .i64 (S.k (k * 4 + 1))) (.int .i64 (S.k (k * 4 + 2))) (.int .i64 (S.k (k * 4 + 3))) := ⟨HD.out.box, hS.2.kept (hT1.block kb hS.2.lt (fun e => HN.out (Option.some.inj e)))⟩
      clear hS1 hT1 HI HG
      go_wp2_with fail
      refine hK.out _ _ hS' (fun hS => ?_)
      clear hK K hS'
      obtain ⟨⟨r0, r1, r2⟩, f0, f1, f2⟩ := HD.out.res
      refine rdH 13 (fun K hK => ?_)
      go_simp
      have HO := hid_mk (DrX.out HD.out (.slice a0 S.nc c0) (.slice a1 S.nl c1) (.slice (some ⟨g, oo, none⟩) S.nw c2))
      have HZ := hid_mk HD.out.sz
      have hB5 : Blk4 (((yf.setCell ⟨w.heap.size, 0, none⟩ (.slice a0 S.nc c0)).setCell ⟨w.heap.size, 1, none⟩ (.slice a1 S.nl c1)).setCell ⟨w.heap.size, 2, none⟩ (.slice (some ⟨g, oo, none⟩) S.nw c2)) kb (.int .i64 (S.k (k * 4))) (.int .i64 (S.k (k * 4 + 1))) (.int .i64 (S.k (k * 4 + 2))) (.int .i64 (S.k (k * 4 + 3))) := (((hS.2.kept (Below.heap_setCell _ _ _ _ (by show kb ≠ w.heap.size; have := HKB.out; omega))).kept (Below.heap_setCell _ _ _ _ (by show kb ≠ w.heap.size; have := HKB.out; omega))).kept (Below.heap_setCell _ _ _ _ (by show kb ≠ w.heap.size; have := HKB.out; omega)))
      refine hK.out _ _ ⟨HO.out.1, hB5⟩ (fun hS => ?_)
      clear hK K r0 r1 r2 f0 f1 f2 HD hB5
      generalize (((yf.setCell ⟨w.heap.size, 0, none⟩ (.slice a0 S.nc c0)).setCell ⟨w.heap.size, 1, none⟩ (.slice a1 S.nl c1)).setCell ⟨w.heap.size, 2, none⟩ (.slice (some ⟨g, oo, none⟩) S.nw c2)) = yz at HO hS ⊢
      refine tkH 14 ?_ hS (fun wx hx => ?_) ?_; rotate_left
      ·obtain ⟨⟨⟨hx0, hx1, hx2⟩, _⟩, ⟨hy0, hy1, hy2, hy3⟩, _⟩ := hx; go_simp; try with_reducible rfl
      refine tkH 15 ?_ hS (fun wx hx => ?_) ?_; rotate_left
      ·obtain ⟨⟨⟨hx0, hx1, hx2⟩, _⟩, ⟨hy0, hy1, hy2, hy3⟩, _⟩ := hx; go_simp; try with_reducible rfl
      refine wpAnyH_done (by kernel_rfl) ?_ _
      go_simp
      obtain ⟨⟨q0, q1, q2⟩, _⟩ := HO.out.2.1
      go_wp2
      refine bodyPost_ret (v := .tuple #[.agg #[.slice a0 S.nc c0, .slice a1 S.nl c1, .slice (some ⟨g, oo, none⟩) S.nw c2], .int .i64 (S.k (k * 4)), .int .i64 (pt)]) (by simp [results, Tryz.results26, go_sem, q0, q1, q2]) rfl ⟨S, a0, c0, a1, c1, some ⟨g, oo, none⟩, c2, S.k (k * 4), pt, rfl, HZ.out, HO.out.2.2.1, HO.out.2.2.2, HP.out⟩
    ·have dn : decide (0 < S.nw) = false := decide_eq_false hnl
     obtain ⟨⟨t0, t1, t2⟩, _⟩ := HD.out.box
     go_wp2_with fail
     go_meet
     case rel => exact ⟨rfl, _, ⟨by omega, by omega⟩, HD⟩
  go_wp2_with fail
  go_meet
  case rel => exact ⟨rfl, _, ⟨by omega, by omega⟩, HD⟩
 case rest =>
  clear HD
  obtain ⟨rfl, d, hd, HD⟩ := hcut
  go_wp2_with fail
  refine wp_region_held_drew (S := BoxS bx (.slice a0 S.nc c0) (.slice a1 S.nl c1) (.slice a2 S.nw c2)) (by kernel_rfl) (HD.out.box.kept rfl) (fun hS => ?_)
  have HD : Hid (DrX w b o len cap bx S (.slice a0 S.nc c0) (.slice a1 S.nl c1) (.slice a2 S.nw c2) (d) wc.drew) := HD.out.later (below_dr (Below.refl _ _) 1)
  generalize wc.drew = y0 at HD hS ⊢
  refine tkH 0 ?_ hS (fun wx hx => ?_) ?_; rotate_left
  ·obtain ⟨⟨hx0, hx1, hx2⟩, _⟩ := hx; go_simp; try with_reducible rfl
  refine tkH 1 ?_ hS (fun wx hx => ?_) ?_; rotate_left
  ·obtain ⟨⟨hx0, hx1, hx2⟩, _⟩ := hx; go_simp; try with_reducible rfl
  refine tkH 2 ?_ hS (fun wx hx => ?_) ?_; rotate_left
  ·obtain ⟨⟨hx0, hx1, hx2⟩, _⟩ := hx; go_simp; try with_reducible rfl
  refine tkH 3 ?_ hS (fun wx hx => ?_) ?_; rotate_left
  ·obtain ⟨⟨hx0, hx1, hx2⟩, _⟩ := hx; go_simp; try with_reducible rfl
  refine tkH 4 ?_ hS (fun wx hx => ?_) ?_; rotate_left
  ·obtain ⟨⟨hx0, hx1, hx2⟩, _⟩ := hx; go_simp; try with_reducible rfl
  refine tkH 5 ?_ hS (fun wx hx => ?_) ?_; rotate_left
  ·obtain ⟨⟨hx0, hx1, hx2⟩, _⟩ := hx; go_simp; try with_reducible rfl
  refine tkH 9 ?_ hS (fun wx hx => ?_) ?_; rotate_left
  ·obtain ⟨⟨hx0, hx1, hx2⟩, _⟩ := hx; go_simp; try with_reducible rfl
  refine tkH 10 ?_ hS (fun wx hx => ?_) ?_; rotate_left
  ·obtain ⟨⟨hx0, hx1, hx2⟩, _⟩ := hx; go_simp; try with_reducible rfl
  refine tkH 11 ?_ hS (fun wx hx => ?_) ?_; rotate_left
  ·obtain ⟨⟨hx0, hx1, hx2⟩, _⟩ := hx; go_simp; try with_reducible rfl
  refine tkH 12 ?_ hS (fun wx hx => ?_) ?_; rotate_left
  ·obtain ⟨⟨hx0, hx1, hx2⟩, _⟩ := hx; go_simp; try with_reducible rfl
  simp only [Act.put, List.getElem_toArray, List.getElem_cons_zero, List.getElem_cons_succ, List.setIfInBounds_toArray, List.set_cons_succ, List.set_cons_zero]
  refine wpAnyH_ready (rs := [6, 13]) (by kernel_rfl) (by simp) ?_
  refine AllReadyH.cons rfl ?_ (AllReadyH.cons rfl ?_ AllReadyH.nil)
  focus
   intro K hK
   go_simp
   go_wp2_with fail
   refine (l1Bent_any _ b o len cap (d) HD.out.src (by omega) hl).mono ?_
   rintro e y1 ⟨bn, rfl, _, _, hS1, hT1⟩
   have HD : Hid (DrX w b o len cap bx S (.slice a0 S.nc c0) (.slice a1 S.nl c1) (.slice a2 S.nw c2) (d + 17) y1) := HD.out.step hT1 hS1
   have hS' : BoxS bx (.slice a0 S.nc c0) (.slice a1 S.nl c1) (.slice a2 S.nw c2) y1 := HD.out.box
   clear hS1 hT1
   go_wp2_with fail
   refine hK.out _ _ hS' (fun hS => ?_)
   clear hK K hS'
   refine wpAnyH_ready (rs := [7, 13]) (by kernel_rfl) (by simp) ?_
   refine AllReadyH.cons rfl ?_ (AllReadyH.cons rfl ?_ AllReadyH.nil)
   focus
    intro K hK
    go_simp
    have HI : Hid (Ints (y1.alloc (.cells #[.int .i64 key, .int .i64 key, .int .i64 key, .int .i64 bn] 2)) y1.heap.size (.slice (some ⟨y1.heap.size, 0, none⟩) 4 4) [key, key, key, bn]) := World.ownsRow_lit y1 #[.int .i64 key, .int .i64 key, .int .i64 key, .int .i64 bn] 4 (Nat.le_refl _) (by decide) rfl
    have HG : Hid (b < y1.heap.size) := HD.out.src.lt
    have HD : Hid (DrX w b o len cap bx S (.slice a0 S.nc c0) (.slice a1 S.nl c1) (.slice a2 S.nw c2) (d + 17) (y1.alloc (.cells #[.int .i64 key, .int .i64 key, .int .i64 key, .int .i64 bn] 2))) := HD.out.later (below_alloc _ _)
    refine hK.out _ _ (show BoxS _ _ _ _ _ from hS.alloc _) (fun hS => ?_)
    clear hK K
    generalize y1.alloc (.cells #[.int .i64 key, .int .i64 key, .int .i64 key, .int .i64 bn] 2) = y2 at HD HI hS ⊢
    refine wpAnyH_ready (rs := [8, 13]) (by kernel_rfl) (by simp) ?_
    refine AllReadyH.cons rfl ?_ (AllReadyH.cons rfl ?_ AllReadyH.nil)
    focus
     intro K hK
     go_simp
     go_wp2_with fail
     refine (l1Pick_any _ b o len cap (d + 17) _ y1.heap.size [key, key, key, bn] HD.out.src (by omega) hl HI.out HG.out (by simp) (by simp)).mono ?_
     rintro e y3 ⟨pk, rfl, _, hS1, hT1⟩
     have HD : Hid (DrX w b o len cap bx S (.slice a0 S.nc c0) (.slice a1 S.nl c1) (.slice a2 S.nw c2) (d + 17 + 1) y3) := HD.out.step hT1 hS1
     have hS' : BoxS bx (.slice a0 S.nc c0) (.slice a1 S.nl c1) (.slice a2 S.nw c2) y3 := HD.out.box
     clear hS1 hT1 HI HG
     go_wp2_with fail
     refine hK.out _ _ hS' (fun hS => ?_)
     clear hK K hS'
     refine rdH 13 (fun K hK => ?_)
     go_simp
     have HJ : Hid (Ints (y3.alloc (.cells #[.int .i64 ts, .int .i64 ts, .int .i64 ts, .int .i64 0] 2)) y3.heap.size (.slice (some ⟨y3.heap.size, 0, none⟩) 4 4) [ts, ts, ts, 0]) := World.ownsRow_lit y3 #[.int .i64 ts, .int .i64 ts, .int .i64 ts, .int .i64 0] 4 (Nat.le_refl _) (by decide) rfl
     have HH : Hid (b < y3.heap.size) := HD.out.src.lt
     have HD : Hid (DrX w b o len cap bx S (.slice a0 S.nc c0) (.slice a1 S.nl c1) (.slice a2 S.nw c2) (d + 17 + 1) (y3.alloc (.cells #[.int .i64 ts, .int .i64 ts, .int .i64 ts, .int .i64 0] 2))) := HD.out.later (below_alloc _ _)
     refine hK.out _ _ (show BoxS _ _ _ _ _ from hS.alloc _) (fun hS => ?_)
     clear hK K
     generalize y3.alloc (.cells #[.int .i64 ts, .int .i64 ts, .int .i64 ts, .int .i64 0] 2) = y4 at HD HJ hS ⊢
     refine rdH 14 (fun K hK => ?_)
     go_simp
     go_wp2_with fail
     refine (l1Pick_any _ b o len cap (d + 17 + 1) _ y3.heap.size [ts, ts, ts, 0] HD.out.src (by omega) hl HJ.out HH.out (by simp) (by simp)).mono ?_
    rotate_left
    focus
     intro K hK
     go_simp
     have HJ : Hid (Ints (y2.alloc (.cells #[.int .i64 ts, .int .i64 ts, .int .i64 ts, .int .i64 0] 2)) y2.heap.size (.slice (some ⟨y2.heap.size, 0, none⟩) 4 4) [ts, ts, ts, 0]) := World.ownsRow_lit y2 #[.int .i64 ts, .int .i64 ts, .int .i64 ts, .int .i64 0] 4 (Nat.le_refl _) (by decide) rfl
     have HH : Hid (b < y2.heap.size) := HD.out.src.lt
     have HI : Hid (Ints (y2.alloc (.cells #[.int .i64 ts, .int .i64 ts, .int .i64 ts, .int .i64 0] 2)) y1.heap.size (.slice (some ⟨y1.heap.size, 0, none⟩) 4 4) [key, key, key, bn]) := ((But.refl b _).alloc _).ints HI.out HG.out
     have HD : Hid (DrX w b o len cap bx S (.slice a0 S.nc c0) (.slice a1 S.nl c1) (.slice a2 S.nw c2) (d + 17) (y2.alloc (.cells #[.int .i64 ts, .int .i64 ts, .int .i64 ts, .int .i64 0] 2))) := HD.out.later (below_alloc _ _)
     refine hK.out _ _ (show BoxS _ _ _ _ _ from hS.alloc _) (fun hS => ?_)
     clear hK K
     generalize y2.alloc (.cells #[.int .i64 ts, .int .i64 ts, .int .i64 ts, .int .i64 0] 2) = y3 at HD HI HJ hS ⊢
     refine rdH 8 (fun K hK => ?_)
     go_simp
     go_wp2_with fail
     refine (l1Pick_any _ b o len cap (d + 17) _ y1.heap.size [key, key, key, bn] HD.out.src (by omega) hl HI.out HG.out (by simp) (by simp)).mono ?_
     rintro e y4 ⟨pk, rfl, _, hS1, hT1⟩
     have HD : Hid (DrX w b o len cap bx S (.slice a0 S.nc c0) (.slice a1 S.nl c1) (.slice a2 S.nw c2) (d + 17 + 1) y4) := HD.out.step hT1 hS1
     have HJ : Hid (Ints y4 y2.heap.size (.slice (some ⟨y2.heap.size, 0, none⟩) 4 4) [ts, ts, ts, 0]) := hT1.ints HJ.out HH.out
     have hS' : BoxS bx (.slice a0 S.nc c0) (.slice a1 S.nl c1) (.slice a2 S.nw c2) y4 := HD.out.box
     clear hS1 hT1 HI HG
     go_wp2_with fail
     refine hK.out _ _ hS' (fun hS => ?_)
     clear hK K hS'
     refine rdH 14 (fun K hK => ?_)
     go_simp
     go_wp2_with fail
     refine (l1Pick_any _ b o len cap (d + 17 + 1) _ y2.heap.size [ts, ts, ts, 0] HD.out.src (by omega) hl HJ.out HH.out (by simp) (by simp)).mono ?_
    rotate_left
   rotate_left 2
   focus
    intro K hK
    go_simp
    have HJ : Hid (Ints (y1.alloc (.cells #[.int .i64 ts, .int .i64 ts, .int .i64 ts, .int .i64 0] 2)) y1.heap.size (.slice (some ⟨y1.heap.size, 0, none⟩) 4 4) [ts, ts, ts, 0]) := World.ownsRow_lit y1 #[.int .i64 ts, .int .i64 ts, .int .i64 ts, .int .i64 0] 4 (Nat.le_refl _) (by decide) rfl
    have HH : Hid (b < y1.heap.size) := HD.out.src.lt
    have HD : Hid (DrX w b o len cap bx S (.slice a0 S.nc c0) (.slice a1 S.nl c1) (.slice a2 S.nw c2) (d + 17) (y1.alloc (.cells #[.int .i64 ts, .int .i64 ts, .int .i64 ts, .int .i64 0] 2))) := HD.out.later (below_alloc _ _)
    refine hK.out _ _ (show BoxS _ _ _ _ _ from hS.alloc _) (fun hS => ?_)
    clear hK K
    generalize y1.alloc (.cells #[.int .i64 ts, .int .i64 ts, .int .i64 ts, .int .i64 0] 2) = y2 at HD HJ hS ⊢
    refine rdH 7 (fun K hK => ?_)
    go_simp
    have HI : Hid (Ints (y2.alloc (.cells #[.int .i64 key, .int .i64 key, .int .i64 key, .int .i64 bn] 2)) y2.heap.size (.slice (some ⟨y2.heap.size, 0, none⟩) 4 4) [key, key, key, bn]) := World.ownsRow_lit y2 #[.int .i64 key, .int .i64 key, .int .i64 key, .int .i64 bn] 4 (Nat.le_refl _) (by decide) rfl
    have HG : Hid (b < y2.heap.size) := HD.out.src.lt
    have HJ : Hid (Ints (y2.alloc (.cells #[.int .i64 key, .int .i64 key, .int .i64 key, .int .i64 bn] 2)) y1.heap.size (.slice (some ⟨y1.heap.size, 0, none⟩) 4 4) [ts, ts, ts, 0]) := ((But.refl b _).alloc _).ints HJ.out HH.out
    have HD : Hid (DrX w b o len cap bx S (.slice a0 S.nc c0) (.slice a1 S.nl c1) (.slice a2 S.nw c2) (d + 17) (y2.alloc (.cells #[.int .i64 key, .int .i64 key, .int .i64 key, .int .i64 bn] 2))) := HD.out.later (below_alloc _ _)
    refine hK.out _ _ (show BoxS _ _ _ _ _ from hS.alloc _) (fun hS => ?_)
    clear hK K
    generalize y2.alloc (.cells #[.int .i64 key, .int .i64 key, .int .i64 key, .int .i64 bn] 2) = y3 at HD HI HJ hS ⊢
    refine rdH 8 (fun K hK => ?_)
    go_simp
    go_wp2_with fail
    refine (l1Pick_any _ b o len cap (d + 17) _ y2.heap.size [key, key, key, bn] HD.out.src (by omega) hl HI.out HG.out (by simp) (by simp)).mono ?_
    rintro e y4 ⟨pk, rfl, _, hS1, hT1⟩
    have HD : Hid (DrX w b o len cap bx S (.slice a0 S.nc c0) (.slice a1 S.nl c1) (.slice a2 S.nw c2) (d + 17 + 1) y4) := HD.out.step hT1 hS1
    have HJ : Hid (Ints y4 y1.heap.size (.slice (some ⟨y1.heap.size, 0, none⟩) 4 4) [ts, ts, ts, 0]) := hT1.ints HJ.out HH.out
    have hS' : BoxS bx (.slice a0 S.nc c0) (.slice a1 S.nl c1) (.slice a2 S.nw c2) y4 := HD.out.box
    clear hS1 hT1 HI HG
    go_wp2_with fail
    refine hK.out _ _ hS' (fun hS => ?_)
    clear hK K hS'
    refine rdH 14 (fun K hK => ?_)
    go_simp
    go_wp2_with fail
    refine (l1Pick_any _ b o len cap (d + 17 + 1) _ y1.heap.size [ts, ts, ts, 0] HD.out.src (by omega) hl HJ.out HH.out (by simp) (by simp)).mono ?_
   rotate_left
  rotate_left 3
  focus
   intro K hK
   go_simp
   have HJ : Hid (Ints (y0.alloc (.cells #[.int .i64 ts, .int .i64 ts, .int .i64 ts, .int .i64 0] 2)) y0.heap.size (.slice (some ⟨y0.heap.size, 0, none⟩) 4 4) [ts, ts, ts, 0]) := World.ownsRow_lit y0 #[.int .i64 ts, .int .i64 ts, .int .i64 ts, .int .i64 0] 4 (Nat.le_refl _) (by decide) rfl
   have HH : Hid (b < y0.heap.size) := HD.out.src.lt
   have HD : Hid (DrX w b o len cap bx S (.slice a0 S.nc c0) (.slice a1 S.nl c1) (.slice a2 S.nw c2) (d) (y0.alloc (.cells #[.int .i64 ts, .int .i64 ts, .int .i64 ts, .int .i64 0] 2))) := HD.out.later (below_alloc _ _)
   refine hK.out _ _ (show BoxS _ _ _ _ _ from hS.alloc _) (fun hS => ?_)
   clear hK K
   generalize y0.alloc (.cells #[.int .i64 ts, .int .i64 ts, .int .i64 ts, .int .i64 0] 2) = y1 at HD HJ hS ⊢
   refine rdH 6 (fun K hK => ?_)
   go_simp
   go_wp2_with fail
   refine (l1Bent_any _ b o len cap (d) HD.out.src (by omega) hl).mono ?_
   rintro e y2 ⟨bn, rfl, _, _, hS1, hT1⟩
   have HD : Hid (DrX w b o len cap bx S (.slice a0 S.nc c0) (.slice a1 S.nl c1) (.slice a2 S.nw c2) (d + 17) y2) := HD.out.step hT1 hS1
   have HJ : Hid (Ints y2 y0.heap.size (.slice (some ⟨y0.heap.size, 0, none⟩) 4 4) [ts, ts, ts, 0]) := hT1.ints HJ.out HH.out
   have hS' : BoxS bx (.slice a0 S.nc c0) (.slice a1 S.nl c1) (.slice a2 S.nw c2) y2 := HD.out.box
   clear hS1 hT1
   go_wp2_with fail
   refine hK.out _ _ hS' (fun hS => ?_)
   clear hK K hS'
   refine rdH 7 (fun K hK => ?_)
   go_simp
   have HI : Hid (Ints (y2.alloc (.cells #[.int .i64 key, .int .i64 key, .int .i64 key, .int .i64 bn] 2)) y2.heap.size (.slice (some ⟨y2.heap.size, 0, none⟩) 4 4) [key, key, key, bn]) := World.ownsRow_lit y2 #[.int .i64 key, .int .i64 key, .int .i64 key, .int .i64 bn] 4 (Nat.le_refl _) (by decide) rfl
   have HG : Hid (b < y2.heap.size) := HD.out.src.lt
   have HJ : Hid (Ints (y2.alloc (.cells #[.int .i64 key, .int .i64 key, .int .i64 key, .int .i64 bn] 2)) y0.heap.size (.slice (some ⟨y0.heap.size, 0, none⟩) 4 4) [ts, ts, ts, 0]) := ((But.refl b _).alloc _).ints HJ.out HH.out
   have HD : Hid (DrX w b o len cap bx S (.slice a0 S.nc c0) (.slice a1 S.nl c1) (.slice a2 S.nw c2) (d + 17) (y2.alloc (.cells #[.int .i64 key, .int .i64 key, .int .i64 key, .int .i64 bn] 2))) := HD.out.later (below_alloc _ _)
   refine hK.out _ _ (show BoxS _ _ _ _ _ from hS.alloc _) (fun hS => ?_)
   clear hK K
   generalize y2.alloc (.cells #[.int .i64 key, .int .i64 key, .int .i64 key, .int .i64 bn] 2) = y3 at HD HI HJ hS ⊢
   refine rdH 8 (fun K hK => ?_)
   go_simp
   go_wp2_with fail
   refine (l1Pick_any _ b o len cap (d + 17) _ y2.heap.size [key, key, key, bn] HD.out.src (by omega) hl HI.out HG.out (by simp) (by simp)).mono ?_
   rintro e y4 ⟨pk, rfl, _, hS1, hT1⟩
   have HD : Hid (DrX w b o len cap bx S (.slice a0 S.nc c0) (.slice a1 S.nl c1) (.slice a2 S.nw c2) (d + 17 + 1) y4) := HD.out.step hT1 hS1
   have HJ : Hid (Ints y4 y0.heap.size (.slice (some ⟨y0.heap.size, 0, none⟩) 4 4) [ts, ts, ts, 0]) := hT1.ints HJ.out HH.out
   have hS' : BoxS bx (.slice a0 S.nc c0) (.slice a1 S.nl c1) (.slice a2 S.nw c2) y4 := HD.out.box
   clear hS1 hT1 HI HG
   go_wp2_with fail
   refine hK.out _ _ hS' (fun hS => ?_)
   clear hK K hS'
   refine rdH 14 (fun K hK => ?_)
   go_simp
   go_wp2_with fail
   refine (l1Pick_any _ b o len cap (d + 17 + 1) _ y0.heap.size [ts, ts, ts, 0] HD.out.src (by omega) hl HJ.out HH.out (by simp) (by simp)).mono ?_
  rotate_left
  all_goals
   rintro e y5 ⟨pt, rfl, hpt, hS1, hT1⟩
   have HP : Hid (storeF S = 0 → Wf pt) := fun _ => wf_drawn HT.out hpt
   clear hpt
   have HD : Hid (DrX w b o len cap bx S (.slice a0 S.nc c0) (.slice a1 S.nl c1) (.slice a2 S.nw c2) (d + 17 + 1 + 1) y5) := HD.out.step hT1 hS1
   have hS' : BoxS bx (.slice a0 S.nc c0) (.slice a1 S.nl c1) (.slice a2 S.nw c2) y5 := HD.out.box
   clear hS1 hT1 HJ HH
   go_wp2_with fail
   refine hK.out _ _ hS' (fun hS => ?_)
   clear hK K hS'
   obtain ⟨⟨r0, r1, r2⟩, f0, f1, f2⟩ := HD.out.res
   refine rdH 15 (fun K hK => ?_)
   go_simp
   have HO := hid_mk (DrX.out HD.out (.slice a0 S.nc c0) (.slice a1 S.nl c1) (.slice a2 S.nw c2))
   have HZ := hid_mk HD.out.sz
   refine hK.out _ _ HO.out.1 (fun hS => ?_)
   clear hK K r0 r1 r2 f0 f1 f2 HD
   generalize ((y5.setCell ⟨w.heap.size, 0, none⟩ (.slice a0 S.nc c0)).setCell ⟨w.heap.size, 1, none⟩ (.slice a1 S.nl c1)).setCell ⟨w.heap.size, 2, none⟩ (.slice a2 S.nw c2) = yz at HO hS ⊢
   refine tkH 16 ?_ hS (fun wx hx => ?_) ?_; rotate_left
   ·obtain ⟨⟨hx0, hx1, hx2⟩, _⟩ := hx; go_simp; try with_reducible rfl
   refine tkH 17 ?_ hS (fun wx hx => ?_) ?_; rotate_left
   ·obtain ⟨⟨hx0, hx1, hx2⟩, _⟩ := hx; go_simp; try with_reducible rfl
   refine wpAnyH_done (by kernel_rfl) ?_ _
   go_simp
   obtain ⟨⟨q0, q1, q2⟩, _⟩ := HO.out.2.1
   go_wp2
   refine bodyPost_ret (v := .tuple #[.agg #[.slice a0 S.nc c0, .slice a1 S.nl c1, .slice a2 S.nw c2], .int .i64 pk, .int .i64 pt]) (by simp [results, Tryz.results26, go_sem, q0, q1, q2]) rfl ⟨S, a0, c0, a1, c1, a2, c2, pk, pt, rfl, HZ.out, HO.out.2.2.1, HO.out.2.2.2, HP.out⟩
end Go.Proofs.YtiadbiiiikhfaaaGreatDoor

namespace Go.Proofs.YtiadbiiiikhfaaaGreatDoor
open Go.RowKit

theorem info_u8C : (Tryz.prog.info? 5).map (fun i => (i.zero, i.size, i.bytes)) = some (some (.int .u8 0), 1, 1) := by kernel_rfl
/-- The bytes of a code. -/
theorem Code.nums {w : World} {o : Option Addr} {len : Nat} (h : Code w o len) : ∃ ns : List Int, ns.length = len ∧ (∀ j, j < len → ∃ g off, o = some ⟨g, off, none⟩ ∧ w.cell? ⟨g, off + j, none⟩ = some (.int .u8 (ns.getD j 0))) ∧ ∀ n ∈ ns, 0 ≤ n ∧ n < 256 := by
 induction len with
 | zero => exact ⟨[], rfl, fun j hj => absurd hj (Nat.not_lt_zero j), fun n hn => by cases hn⟩
 | succ k ih =>
  obtain ⟨ns, hl, h1, h2⟩ := ih (fun j hj => h j (by omega))
  obtain ⟨g, off, n, e1, e2, e3⟩ := h k (by omega)
  refine ⟨ns ++ [n], by simp [hl], fun j hj => ?_, fun m hm => ?_⟩
  ·by_cases q : j = k
   ·subst q
    refine ⟨g, off, e1, ?_⟩
    rw [e2, List.getD_eq_getElem?_getD, List.getElem?_append_right (by omega), hl]
    simp
   ·obtain ⟨g', off', f1, f2⟩ := h1 j (by omega)
    refine ⟨g', off', f1, ?_⟩
    rw [f2, List.getD_eq_getElem?_getD, List.getD_eq_getElem?_getD, List.getElem?_append_left (by omega)]
  ·rcases List.mem_append.1 hm with q | q
   ·exact h2 m q
   ·obtain rfl := List.mem_singleton.1 q
    exact e3
theorem run_codeA (ty : TypeId) (w : World) (g : Nat) (x : Int) (hg : w.heap[g]? = some (.cells #[.int .u8 x] 5 (0, 0))) (hx : 0 ≤ x ∧ x < 256) (o : Option Addr) (len cap : Nat) (h : Code w o len) (hl : len ≤ 1048576) :
  ∃ ao cp w', (Builtin.append_ #[22, 22] ty #[.slice (some ⟨g, 0, none⟩) 1 1, .slice o len cap]).run Tryz.prog w = .ok (.slice ao (1 + len) cp) w' ∧ Code w' ao (1 + len) ∧ w.grownBy w' (some g) := by
 obtain ⟨i0, hi, hz0, hz1, hz2⟩ := info_parts info_u8C
 have hgl : g < w.heap.size := (Array.getElem?_eq_some_iff.1 hg).1
 by_cases h0 : len = 0
 ·subst h0
  refine ⟨some ⟨g, 0, none⟩, 1, w, ?_, fun j hj => ?_, ⟨rfl, rfl, rfl, Nat.le_refl _, fun _ _ _ => rfl⟩⟩
  ·have hf := Tryz.underlying22
   cases o <;> simp [Builtin.append_, run_underlying hf, sizeOf, typeInfo, hi, Builtin.lenOf, Builtin.firstCells, storeCells, loadCells, loadCellsFrom, Result.andThen]
  ·obtain rfl : j = 0 := by omega
   refine ⟨g, 0, x, rfl, ?_, hx⟩
   simp [World.cell?, hg]
 ·obtain ⟨ns, hnl, h1, h2⟩ := h.nums
  obtain ⟨b, off, rfl, _⟩ := h1 0 (by omega)
  have hown : w.ownsRow g 5 1 (.slice (some ⟨g, 0, none⟩) 1 1) 1 [.int .u8 x] := ⟨rfl, Or.inr ⟨g, 1, #[.int .u8 x], rfl, Nat.le_refl _, hg, Nat.le_refl _, by decide, rfl, rfl⟩⟩
  obtain ⟨v', w', e1, e2, e3, _⟩ := run_append_own (P := Tryz.prog) w g 22 ty 5 i0 (.int .u8 0) 1 1 Tryz.underlying22 hi hz0 hz1 hz2 rfl (by omega) _ 1 _ hown ⟨b, off, none⟩ len cap (ns.map (Value.int .u8)) (by simp [hnl]) (fun j u hu => by
   have hj : j < len := by
    have := (List.getElem?_eq_some_iff.1 hu).1
    simpa [hnl] using this
   obtain ⟨g', off', f1, f2⟩ := h1 j hj
   cases f1
   rw [Addr.add_lit, f2]
   rw [List.getElem?_map] at hu
   rw [List.getD_eq_getElem?_getD]
   cases q : ns[j]? with
   | none => rw [q] at hu; cases hu
   | some n => rw [q] at hu; simpa using hu) (fun u hu => by
   obtain ⟨n, _, rfl⟩ := List.mem_map.1 hu
   rfl) (by unfold maxLen; omega) (by omega) (by omega)
  have e2' := e2
  rcases e2.2 with ⟨_, q⟩ | ⟨g2, cp, cur, rfl, _, _⟩
  ·omega
  ·refine ⟨_, cp, w', e1, fun j hj => ?_, e3⟩
   have hc := e2'.cells (g := g2) rfl
   by_cases q : j = 0
   ·subst q
    refine ⟨g2, 0, x, rfl, ?_, hx⟩
    have := hc 0 (.int .u8 x) (by simp)
    rwa [Addr.add_lit] at this
   ·obtain ⟨k, rfl⟩ : ∃ k, j = k + 1 := ⟨j - 1, by omega⟩
    have hk : k < ns.length := by omega
    refine ⟨g2, 0, ns[k], rfl, ?_, h2 _ (List.getElem_mem hk)⟩
    have := hc (k + 1) (.int .u8 ns[k]) (by simp [hk])
    rwa [Addr.add_lit] at this
/-- .. where the walk meets it. -/
theorem wpList_codeA {ops : Array Oper} {rest : List Oper} {o : Oper} {a : Act} {Q : Exit → Act → World → Prop} (hgd : o.guard = none) (s y : Operand) (ho : o.op = .call { callee := .builtin .append, args := #[s, y], argTypes := #[22, 22] })
  (w : World) (g : Nat) (x : Int) (hs : a.eval s = .slice (some ⟨g, 0, none⟩) 1 1) (hg : w.heap[g]? = some (.cells #[.int .u8 x] 5 (0, 0))) (hx : 0 ≤ x ∧ x < 256) (oc : Option Addr) (len cap : Nat) (hy : a.eval y = .slice oc len cap) (h : Code w oc len) (hl : len ≤ 1048576)
  (hK : ∀ ao cp w', Code w' ao (1 + len) → w.grownBy w' (some g) → wpList Tryz.prog ops Q rest (a.put o.dst (.slice ao (1 + len) cp)) w') : wpList Tryz.prog ops Q (o :: rest) a w := by
 refine wpList_plain hgd fun K hK' => ?_
 obtain ⟨ao, cp, w', hr, h2, h3⟩ := run_codeA o.type w g x hg hx oc len cap h hl
 unfold Oper.wp execOp
 simp only [ho, resolve, invoke, builtin, Sem.run_bind, Sem.run_pure, Result.andThen_ok, List.map_toArray, List.map_cons, List.map_nil, hs, hy, hr]
 exact hK' _ _ (hK ao cp w' h2 h3)
end Go.Proofs.YtiadbiiiikhfaaaGreatDoor

namespace Go.Proofs.YtiadbiiiikhfaaaGreatDoor
open Go.RowKit

theorem scan_all {g : Nat → Int} : ∀ {n : Nat}, (∀ i, i < n → g i = 0) → scan g n = 0
 | 0, _ => rfl
 | n + 1, h => scan_go (scan_all fun i hi => h i (by omega)) (h n (Nat.lt_succ_self n))
/-- Where the structs of a list that leaves some out come from. -/
def Picks (F : Nat → Int) (m : Nat) (D : List Int → Bool) (k n : Nat) (G : Nat → Int) (f : Nat → Nat) : Prop :=
 (∀ i, i < n → f i < k ∧ (∀ d, d < m → G (i * m + d) = F (f i * m + d)) ∧ D (struD F m (f i)) = false) ∧ (∀ i j, i < j → j < n → f i < f j) ∧ ∀ q, q < k → D (struD F m q) = false → ∃ i, i < n ∧ f i = q
theorem flatG {m : Nat} {L : List (List Int)} (hl : ∀ t ∈ L, t.length = m) {i d : Nat} (hi : i < L.length) (hd : d < m) : L.flatten.getD (i * m + d) 0 = (L.getD i []).getD d 0 := by
 induction L generalizing i with
 | nil => simp at hi
 | cons x L ih =>
  have hx : x.length = m := hl x (by simp)
  cases i with
  | zero =>
   simp only [List.flatten_cons, Nat.zero_mul, Nat.zero_add, List.getD_cons_zero]
   rw [List.getD_eq_getElem?_getD, List.getD_eq_getElem?_getD, List.getElem?_append_left (by omega)]
  | succ i =>
   simp only [List.flatten_cons, List.getD_cons_succ]
   rw [List.getD_eq_getElem?_getD, List.getElem?_append_right (by rw [hx, Nat.succ_mul]; omega), hx, ← List.getD_eq_getElem?_getD]
   rw [show (i + 1) * m + d - m = i * m + d by rw [Nat.succ_mul]; omega]
   exact ih (fun t ht => hl t (by simp [ht])) (by simpa using hi)
theorem picks_get (F : Nat → Int) (m : Nat) (D : List Int → Bool) : ∀ k, ∃ f, Picks F m D k (selD F m D k).length (fun p => (selD F m D k).flatten.getD p 0) f
 | 0 => ⟨fun i => i, fun i hi => by simp [selD] at hi, fun i j _ hj => by simp [selD] at hj, fun q hq => absurd hq (Nat.not_lt_zero q)⟩
 | k + 1 => by
  obtain ⟨f, h1, h2, h3⟩ := picks_get F m D k
  cases e : D (struD F m k) with
  | true =>
   rw [selD_gone e]
   refine ⟨f, fun i hi => ⟨Nat.lt_succ_of_lt (h1 i hi).1, (h1 i hi).2⟩, h2, fun q hq hd => ?_⟩
   by_cases c : q = k
   ·subst c; rw [e] at hd; cases hd
   ·exact h3 q (by omega) hd
  | false =>
   have hn : (selD F m D (k + 1)).length = (selD F m D k).length + 1 := by rw [selD_kept e]; simp
   have old : ∀ i, i < (selD F m D k).length → ∀ d, d < m → (selD F m D (k + 1)).flatten.getD (i * m + d) 0 = (selD F m D k).flatten.getD (i * m + d) 0 := fun i hi d hd => by
    rw [flatG (selD_len F m D (k + 1)) (by omega) hd, flatG (selD_len F m D k) hi hd, selD_kept e]
    have e1 : (selD F m D k ++ [struD F m k]).getD i [] = (selD F m D k).getD i [] := by rw [List.getD_eq_getElem?_getD, List.getD_eq_getElem?_getD, List.getElem?_append_left hi]
    rw [e1]
   have new : ∀ d, d < m → (selD F m D (k + 1)).flatten.getD ((selD F m D k).length * m + d) 0 = F (k * m + d) := fun d hd => by
    rw [flatG (selD_len F m D (k + 1)) (by omega) hd, selD_kept e]
    have e1 : (selD F m D k ++ [struD F m k]).getD (selD F m D k).length [] = struD F m k := by rw [List.getD_eq_getElem?_getD, List.getElem?_append_right (Nat.le_refl _)]; simp
    rw [e1]
    exact struD_get F m k d hd
   refine ⟨fun i => if i < (selD F m D k).length then f i else k, ?_, ?_, ?_⟩
   ·intro i hi
    by_cases c : i < (selD F m D k).length
    ·simp only [if_pos c]
     exact ⟨Nat.lt_succ_of_lt (h1 i c).1, fun d hd => (old i c d hd).trans ((h1 i c).2.1 d hd), (h1 i c).2.2⟩
    ·obtain rfl : i = (selD F m D k).length := by omega
     simp only [if_neg c]
     exact ⟨Nat.lt_succ_self k, new, e⟩
   ·intro i j hij hj
    by_cases c : j < (selD F m D k).length
    ·simp only [if_pos c, if_pos (Nat.lt_trans hij c)]
     exact h2 i j hij c
    ·simp only [if_neg c, if_pos (show i < (selD F m D k).length by omega)]
     exact (h1 i (by omega)).1
   ·intro q hq hd
    by_cases c : q = k
    ·subst c
     exact ⟨(selD F m D q).length, by omega, by simp⟩
    ·obtain ⟨i, hi, e'⟩ := h3 q (by omega) hd
     exact ⟨i, by omega, by simp only [if_pos hi]; exact e'⟩
theorem lockF_full {l : Nat → Int} {i : Nat} (h : lockF l i = 0) : faultOf (l (i * 5)) = 0 ∧ faultOf (l (i * 5 + 3)) = 0 ∧ (1 ≤ l (i * 5 + 1) ∧ l (i * 5 + 1) ≤ 100000 ∧ 1 ≤ l (i * 5 + 2) ∧ l (i * 5 + 2) ≤ 3 ∧ 0 ≤ l (i * 5 + 4) ∧ l (i * 5 + 4) ≤ 100000) ∧ (0 < i → l ((i - 1) * 5) < l (i * 5)) := by
 unfold lockF at h
 by_cases h0 : faultOf (l (i * 5)) = 0
 ·rw [if_neg (fun q => q h0)] at h
  by_cases h2 : faultOf (l (i * 5 + 3)) = 0
  ·rw [if_neg (fun q => q h2)] at h
   by_cases h1 : 1 ≤ l (i * 5 + 1) ∧ l (i * 5 + 1) ≤ 100000 ∧ 1 ≤ l (i * 5 + 2) ∧ l (i * 5 + 2) ≤ 3 ∧ 0 ≤ l (i * 5 + 4) ∧ l (i * 5 + 4) ≤ 100000
   ·rw [if_neg (fun q => q h1)] at h
    refine ⟨h0, h2, h1, fun hi => ?_⟩
    by_cases h3 : l ((i - 1) * 5) < l (i * 5)
    ·exact h3
    ·rw [if_pos ⟨hi, h3⟩] at h; exact absurd h (by decide)
   ·rw [if_pos h1] at h; exact absurd h (by decide)
  ·rw [if_pos h2] at h; exact absurd h h2
 ·rw [if_pos h0] at h; exact absurd h h0
theorem lockF_mk {l : Nat → Int} {i : Nat} (h0 : faultOf (l (i * 5)) = 0) (h2 : faultOf (l (i * 5 + 3)) = 0) (h1 : 1 ≤ l (i * 5 + 1) ∧ l (i * 5 + 1) ≤ 100000 ∧ 1 ≤ l (i * 5 + 2) ∧ l (i * 5 + 2) ≤ 3 ∧ 0 ≤ l (i * 5 + 4) ∧ l (i * 5 + 4) ≤ 100000) (h3 : 0 < i → l ((i - 1) * 5) < l (i * 5)) : lockF l i = 0 := by
 unfold lockF
 rw [if_neg (fun q => q h0), if_neg (fun q => q h2), if_neg (fun q => q h1), if_neg (fun q => q.2 (h3 q.1))]
theorem locks_rise {l : Nat → Int} {n : Nat} (h : scan (lockF l) n = 0) : ∀ j, j < n → ∀ i, i < j → l (i * 5) < l (j * 5)
 | 0, _, i, hi => absurd hi (Nat.not_lt_zero i)
 | j + 1, hj, i, hi => by
  have h1 := (lockF_full (scan_zero h (j + 1) hj)).2.2.2 (Nat.succ_pos j)
  rw [Nat.add_sub_cancel] at h1
  by_cases c : i = j
  ·rw [c]; exact h1
  ·have := locks_rise h j (by omega) i (by omega)
   omega
theorem lockF_picks {l G : Nat → Int} {n n' : Nat} {D : List Int → Bool} {f : Nat → Nat} (h : scan (lockF l) n = 0) (p : Picks l 5 D n n' G f) : scan (lockF G) n' = 0 := by
 refine scan_all fun i hi => ?_
 obtain ⟨h1, h2, _⟩ := p.1 i hi
 have z := lockF_full (scan_zero h (f i) h1)
 have g0 := h2 0 (by decide)
 have g1 := h2 1 (by decide)
 have g2 := h2 2 (by decide)
 have g3 := h2 3 (by decide)
 have g4 := h2 4 (by decide)
 rw [Nat.add_zero, Nat.add_zero] at g0
 refine lockF_mk (by rw [g0]; exact z.1) (by rw [g3]; exact z.2.1) (by rw [g1, g2, g4]; exact z.2.2.1) (fun hp => ?_)
 have k0 := (p.1 (i - 1) (by omega)).2.1 0 (by decide)
 rw [Nat.add_zero, Nat.add_zero] at k0
 rw [g0, k0]
 exact locks_rise h (f i) h1 (f (i - 1)) (p.2.1 (i - 1) i (by omega) hi)
theorem cellF_full {c : Nat → Int} {i : Nat} (h : cellF c i = 0) : faultOf (c (i * 3)) = 0 ∧ (1 ≤ c (i * 3 + 1) ∧ c (i * 3 + 1) ≤ 100000 ∧ 0 ≤ c (i * 3 + 2) ∧ c (i * 3 + 2) ≤ 9999) := by
 unfold cellF at h
 by_cases h0 : faultOf (c (i * 3)) = 0
 ·rw [if_neg (fun q => q h0)] at h
  by_cases h1 : 1 ≤ c (i * 3 + 1) ∧ c (i * 3 + 1) ≤ 100000 ∧ 0 ≤ c (i * 3 + 2) ∧ c (i * 3 + 2) ≤ 9999
  ·exact ⟨h0, h1⟩
  ·rw [if_pos h1] at h; exact absurd h (by decide)
 ·rw [if_pos h0] at h; exact absurd h h0
theorem cellF_mk {c : Nat → Int} {i : Nat} (h0 : faultOf (c (i * 3)) = 0) (h1 : 1 ≤ c (i * 3 + 1) ∧ c (i * 3 + 1) ≤ 100000 ∧ 0 ≤ c (i * 3 + 2) ∧ c (i * 3 + 2) ≤ 9999) (h2 : 0 < i → c ((i - 1) * 3) < c (i * 3) ∨ c ((i - 1) * 3) = c (i * 3) ∧ c ((i - 1) * 3 + 1) < c (i * 3 + 1)) : cellF c i = 0 := by
 unfold cellF
 rw [if_neg (fun q => q h0), if_neg (fun q => q h1), if_neg (fun q => q.2 (h2 q.1))]
theorem cellF_picks {S : Sto} {G : Nat → Int} {n' : Nat} {D : List Int → Bool} {f : Nat → Nat} (h : scan (cellF S.c) S.nc = 0) (p : Picks S.c 3 D S.nc n' G f) : scan (cellF G) n' = 0 := by
 refine scan_all fun i hi => ?_
 obtain ⟨h1, h2, _⟩ := p.1 i hi
 have z := cellF_full (scan_zero h (f i) h1)
 have g0 := h2 0 (by decide)
 have g1 := h2 1 (by decide)
 have g2 := h2 2 (by decide)
 rw [Nat.add_zero, Nat.add_zero] at g0
 refine cellF_mk (by rw [g0]; exact z.1) (by rw [g1, g2]; exact z.2) (fun hp => ?_)
 have k0 := (p.1 (i - 1) (by omega)).2.1 0 (by decide)
 have k1 := (p.1 (i - 1) (by omega)).2.1 1 (by decide)
 rw [Nat.add_zero, Nat.add_zero] at k0
 rw [g0, k0, g1, k1]
 exact cells_rise h (f i) h1 (f (i - 1)) (p.2.1 (i - 1) i (by omega) hi)
/-- Where a row's structs come from into which one more was put at k. -/
def spot (k i : Nat) : Nat := if i < k then i else i - 1
theorem ins_old {F : Nat → Int} {m n k i d : Nat} {xs : List Int} (hx : xs.length = m) (hk : k ≤ n) (hi : i < n + 1) (hne : i ≠ k) (hd : d < m) : insF F m n k xs (i * m + d) = F (spot k i * m + d) := by
 unfold spot
 by_cases c : i < k
 ·rw [if_pos c]
  refine insF_lt ?_
  calc i * m + d < i * m + m := by omega
   _ = (i + 1) * m := by rw [Nat.succ_mul]
   _ ≤ k * m := Nat.mul_le_mul_right m c
 ·rw [if_neg c]
  obtain ⟨e, rfl⟩ : ∃ e, i = k + 1 + e := ⟨i - k - 1, by omega⟩
  have h1 : (k + 1 + e) * m + d = (k + 1) * m + (e * m + d) := by rw [Nat.add_mul (k + 1) e m]; omega
  have h2 : (k + 1 + e - 1) * m + d = k * m + (e * m + d) := by rw [show k + 1 + e - 1 = k + e by omega, Nat.add_mul]; omega
  rw [h1, h2]
  refine insF_gt hx ?_
  calc e * m + d < e * m + m := by omega
   _ = (e + 1) * m := by rw [Nat.succ_mul]
   _ ≤ (n - k) * m := Nat.mul_le_mul_right m (by omega)
theorem writeF_full {k : Nat → Int} {i : Nat} (h : writeF k i = 0) : faultOf (k (i * 4)) = 0 ∧ (1 ≤ k (i * 4 + 1) ∧ k (i * 4 + 1) ≤ 100000 ∧ 1 ≤ k (i * 4 + 2) ∧ k (i * 4 + 2) ≤ 100000 ∧ 1 ≤ k (i * 4 + 3) ∧ k (i * 4 + 3) ≤ 4) ∧ (0 < i → k ((i - 1) * 4) < k (i * 4) ∨ k ((i - 1) * 4) = k (i * 4) ∧ k ((i - 1) * 4 + 1) < k (i * 4 + 1)) ∧ fits k i := by
 unfold writeF at h
 by_cases h0 : faultOf (k (i * 4)) = 0
 ·rw [if_neg (fun q => q h0)] at h
  by_cases h1 : 1 ≤ k (i * 4 + 1) ∧ k (i * 4 + 1) ≤ 100000 ∧ 1 ≤ k (i * 4 + 2) ∧ k (i * 4 + 2) ≤ 100000 ∧ 1 ≤ k (i * 4 + 3) ∧ k (i * 4 + 3) ≤ 4
  ·rw [if_neg (fun q => q h1)] at h
   by_cases h3 : (0 < i ∧ ¬ (k ((i - 1) * 4) < k (i * 4) ∨ k ((i - 1) * 4) = k (i * 4) ∧ k ((i - 1) * 4 + 1) < k (i * 4 + 1))) ∨ ¬ fits k i
   ·rw [if_pos h3] at h; exact absurd h (by decide)
   ·refine ⟨h0, h1, fun hi => ?_, ?_⟩
    ·exact Classical.byContradiction fun q => h3 (Or.inl ⟨hi, q⟩)
    ·exact Classical.byContradiction fun q => h3 (Or.inr q)
  ·rw [if_pos h1] at h; exact absurd h (by decide)
 ·rw [if_pos h0] at h; exact absurd h h0
theorem writeF_mk {k : Nat → Int} {i : Nat} (h0 : faultOf (k (i * 4)) = 0) (h1 : 1 ≤ k (i * 4 + 1) ∧ k (i * 4 + 1) ≤ 100000 ∧ 1 ≤ k (i * 4 + 2) ∧ k (i * 4 + 2) ≤ 100000 ∧ 1 ≤ k (i * 4 + 3) ∧ k (i * 4 + 3) ≤ 4) (h2 : 0 < i → k ((i - 1) * 4) < k (i * 4) ∨ k ((i - 1) * 4) = k (i * 4) ∧ k ((i - 1) * 4 + 1) < k (i * 4 + 1)) (h3 : fits k i) : writeF k i = 0 := by
 unfold writeF
 rw [if_neg (fun q => q h0), if_neg (fun q => q h1), if_neg (fun q => q.elim (fun q => q.2 (h2 q.1)) (fun q => q h3))]
theorem spot_lt {k i j : Nat} (h : i < j) (hi : i ≠ k) (hj : j ≠ k) : spot k i < spot k j := by
 unfold spot
 split <;> split <;> omega
theorem spot_bound {k i n : Nat} (hi : i < n + 1) (hne : i ≠ k) (hk : k ≤ n) : spot k i < n := by
 unfold spot
 split <;> omega
section
variable {F : Nat → Int} {n k : Nat} {a c s d : Int}
theorem ins_new0 : insF F 4 n k [a, c, s, d] (k * 4) = a := insF_at (p := 0) rfl (by decide)
theorem ins_new1 : insF F 4 n k [a, c, s, d] (k * 4 + 1) = c := insF_at (p := 1) rfl (by decide)
theorem ins_new2 : insF F 4 n k [a, c, s, d] (k * 4 + 2) = s := insF_at (p := 2) rfl (by decide)
theorem ins_new3 : insF F 4 n k [a, c, s, d] (k * 4 + 3) = d := insF_at (p := 3) rfl (by decide)
theorem ins_old0 {i : Nat} (hk : k ≤ n) (hi : i < n + 1) (hne : i ≠ k) : insF F 4 n k [a, c, s, d] (i * 4) = F (spot k i * 4) := ins_old (d := 0) rfl hk hi hne (by decide)
theorem ins_oldd {i e : Nat} (hk : k ≤ n) (hi : i < n + 1) (hne : i ≠ k) (he : e < 4) : insF F 4 n k [a, c, s, d] (i * 4 + e) = F (spot k i * 4 + e) := ins_old rfl hk hi hne he
theorem writeF_ins (h : scan (writeF F) n = 0) (pl : placeAt (aheadW F a c) n k) (hat : ¬ ∃ i, i < n ∧ writeAt F a c i) (ha : faultOf a = 0) (hc : 1 ≤ c ∧ c ≤ 100000) (hs : 1 ≤ s ∧ s ≤ 100000) (hd : 1 ≤ d ∧ d ≤ 4) (hf : (d = 4 → c = s) ∧ (d ≠ 4 → s < c)) :
  scan (writeF (insF F 4 n k [a, c, s, d])) (n + 1) = 0 := by
 refine scan_all fun i hi => ?_
 have hk := pl.1
 by_cases e : i = k
 ·subst e
  refine writeF_mk (by rw [ins_new0]; exact ha) (by rw [ins_new1, ins_new2, ins_new3]; omega) (fun hp => ?_) ?_
  ·rw [ins_new0, ins_new1, ins_old0 hk (by omega) (by omega), ins_oldd hk (by omega) (by omega) (by decide)]
   have q : spot i (i - 1) = i - 1 := by unfold spot; rw [if_pos (by omega)]
   rw [q]
   exact pl.2.1 (i - 1) (by omega)
  ·unfold fits
   rw [ins_new1, ins_new2, ins_new3]
   exact hf
 ·have hb := spot_bound hi e hk
  have z := writeF_full (scan_zero h (spot k i) hb)
  refine writeF_mk (by rw [ins_old0 hk hi e]; exact z.1) (by rw [ins_oldd hk hi e (by decide), ins_oldd hk hi e (by decide), ins_oldd hk hi e (by decide)]; exact z.2.1) (fun hp => ?_) ?_
  ·rw [ins_old0 hk hi e, ins_oldd hk hi e (by decide)]
   by_cases e2 : i - 1 = k
   ·have q : spot k i = k := by unfold spot; rw [if_neg (by omega)]; omega
    rw [e2, ins_new0, ins_new1, q]
    have hkn : k < n := by omega
    have h1 := pl.2.2 hkn
    have h2 : ¬ writeAt F a c k := fun q => hat ⟨k, hkn, q⟩
    unfold aheadW at h1
    unfold writeAt at h2
    omega
   ·rw [ins_old0 hk (by omega) e2, ins_oldd hk (by omega) e2 (by decide)]
    have q : spot k (i - 1) = spot k i - 1 := by unfold spot; split <;> split <;> omega
    rw [q]
    exact z.2.2.1 (by unfold spot; split <;> omega)
  ·unfold fits
   rw [ins_oldd hk hi e (by decide), ins_oldd hk hi e (by decide), ins_oldd hk hi e (by decide)]
   exact z.2.2.2
end
theorem pick3 {F G : Nat → Int} {D : List Int → Bool} {k n : Nat} {f : Nat → Nat} (p : Picks F 3 D k n G f) {i : Nat} (hi : i < n) : G (i * 3) = F (f i * 3) := (p.1 i hi).2.1 0 (by decide)
theorem goneL_iff' {F : Nat → Int} {a s : Int} {i : Nat} : goneL a s (struD F 5 i) = true ↔ F (i * 5) = a ∧ F (i * 5 + 1) = s := by
 unfold goneL
 rw [struD_get F 5 i 0 (by omega), struD_get F 5 i 1 (by omega), Bool.and_eq_true, beq_iff_eq, beq_iff_eq]
 exact Iff.rfl
theorem storeF_mk {S : Sto} (h0 : S.nc ≤ 200 ∧ S.nl ≤ 200 ∧ S.nw ≤ 200) (h1 : scan (cellF S.c) S.nc = 0) (h2 : scan (lockF S.l) S.nl = 0) (h3 : scan (writeF S.k) S.nw = 0) (h4 : needs S) (h5 : once S) : storeF S = 0 := by
 unfold storeF
 rw [if_neg (by omega), if_neg (fun q => q h1), if_neg (fun q => q h2), if_neg (fun q => q h3), if_neg (fun q => q h4), if_neg (fun q => q h5)]
theorem no_write {k : Nat → Int} {a s : Int} {n : Nat} (h : FirstAt (writeIs k a s) n (-1)) : ∀ i, i < n → ¬ writeIs k a s i := by
 rcases h with ⟨_, h⟩ | ⟨i, _, e, _⟩
 ·exact h
 ·exact absurd e (by omega)
theorem rollS_ok {S : Sto} {a s : Int} {k : Nat} (hz : storeF S = 0) (ha : faultOf a = 0) (hs : 1 ≤ s ∧ s ≤ 100000) (hw : FirstAt (writeIs S.k a s) S.nw (-1)) (hat : ¬ ∃ i, i < S.nw ∧ writeAt S.k a s i) (hn : S.nw < 200) (pl : placeAt (aheadW S.k a s) S.nw k) : storeF (rollS S a s k) = 0 := by
 obtain ⟨⟨b0, b1, b2⟩, z0, z1, z2, z3, z4⟩ := storeF_zero hz
 have nw := no_write hw
 have hk := pl.1
 obtain ⟨f, pf⟩ := picks_get S.c 3 (goneK a s) S.nc
 obtain ⟨g, pg⟩ := picks_get S.l 5 (goneL a s) S.nl
 have l0 : (unlC S.c a s S.nc).length ≤ S.nc := selD_le _ _ _ _
 have l1 : (unlL S.l a s S.nl).length ≤ S.nl := selD_le _ _ _ _
 have cell : ∀ x y, ¬ (x = a ∧ y = s) → hasCell S S.nc x y → hasCell (rollS S a s k) (rollS S a s k).nc x y := fun x y hne ⟨q, hq, h1, h2⟩ => by
  obtain ⟨i, hi, e⟩ := pf.2.2 q hq (goneK_not (fun e => hne ⟨h1.symm.trans e.1, h2.symm.trans e.2⟩))
  refine ⟨i, hi, ?_, ?_⟩
  ·exact (pick3 pf hi).trans (by rw [e]; exact h1)
  ·exact ((pf.1 i hi).2.1 1 (by decide)).trans (by rw [e]; exact h2)
 refine storeF_mk ⟨Nat.le_trans l0 b0, Nat.le_trans l1 b1, hn⟩ (cellF_picks z0 pf) (lockF_picks z1 pg) (writeF_ins z2 pl hat ha hs hs (by decide) ⟨fun _ => rfl, fun q => absurd rfl q⟩) ⟨fun i hi => ?_, fun i hi => ?_⟩ ⟨fun i hi => ?_, fun i hi => ?_⟩
 ·show insF S.k 4 S.nw k [a, s, s, 4] (i * 4 + 3) = 1 → hasCell (rollS S a s k) (rollS S a s k).nc (insF S.k 4 S.nw k [a, s, s, 4] (i * 4)) (insF S.k 4 S.nw k [a, s, s, 4] (i * 4 + 2))
  by_cases e : i = k
  ·subst e
   rw [ins_new3]
   intro q
   exact absurd q (by decide)
  ·rw [ins_oldd hk hi e (by decide), ins_old0 hk hi e, ins_oldd hk hi e (by decide)]
   intro q
   have hb := spot_bound hi e hk
   exact cell _ _ (fun q => nw _ hb q) (z3.1 _ hb q)
 ·obtain ⟨h1, h2, h3⟩ := pg.1 i hi
  have e0 : (rollS S a s k).l (i * 5) = S.l (g i * 5) := h2 0 (by decide)
  have e1 : (rollS S a s k).l (i * 5 + 1) = S.l (g i * 5 + 1) := h2 1 (by decide)
  have e2 : (rollS S a s k).l (i * 5 + 2) = S.l (g i * 5 + 2) := h2 2 (by decide)
  unfold putL
  rw [e0, e1, e2]
  intro q
  exact cell _ _ (fun q => by rw [goneL_iff'.2 q] at h3; cases h3) (z3.2 _ h1 q)
 ·rintro ⟨q, hq, h1, h2⟩
  replace h1 : insF S.k 4 S.nw k [a, s, s, 4] (q * 4) = insF S.k 4 S.nw k [a, s, s, 4] (i * 4) := h1
  replace h2 : insF S.k 4 S.nw k [a, s, s, 4] (q * 4 + 2) = insF S.k 4 S.nw k [a, s, s, 4] (i * 4 + 2) := h2
  have hi' : i < S.nw + 1 := hi
  by_cases e : i = k
  ·subst e
   rw [ins_new0, ins_old0 hk (by omega) (by omega)] at h1
   rw [ins_new2, ins_oldd hk (by omega) (by omega) (by decide)] at h2
   exact nw _ (spot_bound (by omega) (by omega) hk) ⟨h1, h2⟩
  ·rw [ins_old0 hk hi' e] at h1
   rw [ins_oldd hk hi' e (by decide)] at h2
   by_cases e2 : q = k
   ·subst e2
    rw [ins_new0] at h1
    rw [ins_new2] at h2
    exact nw _ (spot_bound hi' e hk) ⟨h1.symm, h2.symm⟩
   ·rw [ins_old0 hk (by omega) e2] at h1
    rw [ins_oldd hk (by omega) e2 (by decide)] at h2
    exact z4.1 _ (spot_bound hi' e hk) ⟨spot k q, spot_lt hq e2 e, h1, h2⟩
 ·obtain ⟨h1, h2, h3⟩ := pg.1 i hi
  have e0 : (rollS S a s k).l (i * 5) = S.l (g i * 5) := h2 0 (by decide)
  have e1 : (rollS S a s k).l (i * 5 + 1) = S.l (g i * 5 + 1) := h2 1 (by decide)
  unfold onceL
  rw [e0, e1]
  rintro ⟨q, hq, k1, k2⟩
  replace k1 : insF S.k 4 S.nw k [a, s, s, 4] (q * 4) = S.l (g i * 5) := k1
  replace k2 : insF S.k 4 S.nw k [a, s, s, 4] (q * 4 + 2) = S.l (g i * 5 + 1) := k2
  have hq' : q < S.nw + 1 := hq
  by_cases e : q = k
  ·subst e
   rw [ins_new0] at k1
   rw [ins_new2] at k2
   rw [goneL_iff'.2 ⟨k1.symm, k2.symm⟩] at h3
   cases h3
  ·rw [ins_old0 hk hq' e] at k1
   rw [ins_oldd hk hq' e (by decide)] at k2
   exact z4.2 _ h1 ⟨spot k q, spot_bound hq' e hk, k1, k2⟩
theorem RollRes.ok {S : Sto} {a s : Int} {R : Sto} (hz : storeF S = 0) (ha : faultOf a = 0) (hs : 1 ≤ s ∧ s ≤ 100000) (h : RollRes S a s 0 R) : storeF R = 0 := by
 rcases h with ⟨i, _, _, _, rfl⟩ | ⟨i, _, _, h, _⟩ | ⟨_, _, h, _⟩ | ⟨_, _, _, h, _⟩ | ⟨k, h1, h2, hn, h3, _, rfl⟩
 ·exact hz
 ·exact absurd h (by decide)
 ·exact absurd h (by decide)
 ·exact absurd h (by decide)
 ·exact rollS_ok hz ha hs h1 h2 hn h3
theorem commitS_ok {S : Sto} {a s c : Int} {j k : Nat} (hz : storeF S = 0) (hc : s < c ∧ c ≤ 100000) (hw : FirstAt (writeIs S.k a s) S.nw (-1)) (hl : FirstAt (lockIs S.l a) S.nl j) (hj : S.l (j * 5 + 1) = s) (hat : ¬ ∃ i, i < S.nw ∧ writeAt S.k a c i) (hn : S.nw < 200) (pl : placeAt (aheadW S.k a c) S.nw k) : storeF (commitS S a s c (S.l (j * 5 + 2)) k) = 0 := by
 obtain ⟨⟨b0, b1, b2⟩, z0, z1, z2, z3, z4⟩ := storeF_zero hz
 have nw := no_write hw
 have hk := pl.1
 obtain ⟨hjn, hja, _⟩ := hl.at
 have L := lockF_full (scan_zero z1 j hjn)
 have ja : S.l (j * 5) = a := hja
 rw [ja, hj] at L
 obtain ⟨g, pg⟩ := picks_get S.l 5 (goneL a s) S.nl
 have l1 : (unlL S.l a s S.nl).length ≤ S.nl := selD_le _ _ _ _
 obtain ⟨d, hd⟩ : ∃ d, S.l (j * 5 + 2) = d := ⟨_, rfl⟩
 have pj := z3.2 j hjn
 unfold putL at pj
 rw [hd, ja, hj] at pj
 rw [hd] at L ⊢
 refine storeF_mk ⟨b0, Nat.le_trans l1 b1, hn⟩ z0 (lockF_picks z1 pg) (writeF_ins z2 pl hat L.1 (by omega) (by omega) (by omega) ⟨fun q => by omega, fun _ => hc.1⟩) ⟨fun i hi => ?_, fun i hi => ?_⟩ ⟨fun i hi => ?_, fun i hi => ?_⟩
 ·show insF S.k 4 S.nw k [a, c, s, d] (i * 4 + 3) = 1 → hasCell S S.nc (insF S.k 4 S.nw k [a, c, s, d] (i * 4)) (insF S.k 4 S.nw k [a, c, s, d] (i * 4 + 2))
  by_cases e : i = k
  ·subst e
   rw [ins_new3, ins_new0, ins_new2]
   exact pj
  ·rw [ins_oldd hk hi e (by decide), ins_old0 hk hi e, ins_oldd hk hi e (by decide)]
   exact z3.1 _ (spot_bound hi e hk)
 ·obtain ⟨h1, h2, h3⟩ := pg.1 i hi
  have e0 : (commitS S a s c d k).l (i * 5) = S.l (g i * 5) := h2 0 (by decide)
  have e1 : (commitS S a s c d k).l (i * 5 + 1) = S.l (g i * 5 + 1) := h2 1 (by decide)
  have e2 : (commitS S a s c d k).l (i * 5 + 2) = S.l (g i * 5 + 2) := h2 2 (by decide)
  unfold putL
  rw [e0, e1, e2]
  exact z3.2 _ h1
 ·rintro ⟨q, hq, h1, h2⟩
  replace h1 : insF S.k 4 S.nw k [a, c, s, d] (q * 4) = insF S.k 4 S.nw k [a, c, s, d] (i * 4) := h1
  replace h2 : insF S.k 4 S.nw k [a, c, s, d] (q * 4 + 2) = insF S.k 4 S.nw k [a, c, s, d] (i * 4 + 2) := h2
  have hi' : i < S.nw + 1 := hi
  by_cases e : i = k
  ·subst e
   rw [ins_new0, ins_old0 hk (by omega) (by omega)] at h1
   rw [ins_new2, ins_oldd hk (by omega) (by omega) (by decide)] at h2
   exact nw _ (spot_bound (by omega) (by omega) hk) ⟨h1, h2⟩
  ·rw [ins_old0 hk hi' e] at h1
   rw [ins_oldd hk hi' e (by decide)] at h2
   by_cases e2 : q = k
   ·subst e2
    rw [ins_new0] at h1
    rw [ins_new2] at h2
    exact nw _ (spot_bound hi' e hk) ⟨h1.symm, h2.symm⟩
   ·rw [ins_old0 hk (by omega) e2] at h1
    rw [ins_oldd hk (by omega) e2 (by decide)] at h2
    exact z4.1 _ (spot_bound hi' e hk) ⟨spot k q, spot_lt hq e2 e, h1, h2⟩
 ·obtain ⟨h1, h2, h3⟩ := pg.1 i hi
  have e0 : (commitS S a s c d k).l (i * 5) = S.l (g i * 5) := h2 0 (by decide)
  have e1 : (commitS S a s c d k).l (i * 5 + 1) = S.l (g i * 5 + 1) := h2 1 (by decide)
  unfold onceL
  rw [e0, e1]
  rintro ⟨q, hq, k1, k2⟩
  replace k1 : insF S.k 4 S.nw k [a, c, s, d] (q * 4) = S.l (g i * 5) := k1
  replace k2 : insF S.k 4 S.nw k [a, c, s, d] (q * 4 + 2) = S.l (g i * 5 + 1) := k2
  have hq' : q < S.nw + 1 := hq
  by_cases e : q = k
  ·subst e
   rw [ins_new0] at k1
   rw [ins_new2] at k2
   rw [goneL_iff'.2 ⟨k1.symm, k2.symm⟩] at h3
   cases h3
  ·rw [ins_old0 hk hq' e] at k1
   rw [ins_oldd hk hq' e (by decide)] at k2
   exact z4.2 _ h1 ⟨spot k q, spot_bound hq' e hk, k1, k2⟩
theorem CommitRes.ok {S : Sto} {a s c : Int} {R : Sto} (hz : storeF S = 0) (hc : s < c ∧ c ≤ 100000) (h : CommitRes S a s c 0 R) : storeF R = 0 := by
 rcases h with ⟨i, _, _, _, rfl⟩ | ⟨i, _, _, h, _⟩ | ⟨_, _, h, _⟩ | ⟨j, _, _, _, _, h, _⟩ | ⟨j, _, _, _, _, _, h, _⟩ | ⟨j, k, h1, h2, h3, h4, hn, h5, _, rfl⟩
 ·exact hz
 ·exact absurd h (by decide)
 ·exact absurd h (by decide)
 ·exact absurd h (by decide)
 ·exact absurd h (by decide)
 ·exact commitS_ok hz hc h1 h2 h3 h4 hn h5
end Go.Proofs.YtiadbiiiikhfaaaGreatDoor

namespace Go.Proofs.YtiadbiiiikhfaaaGreatDoor
open Go.RowKit

def firstL (l : Nat → Int) (nl : Nat) (key : Int) (i : Nat) : Prop := i < nl ∧ lockIs l key i ∧ ∀ j, j < i → ¬ lockIs l key j
theorem firstL.one {l : Nat → Int} {n : Nat} {a : Int} {i j : Nat} (h : firstL l n a i) (h' : firstL l n a j) : i = j := by
 rcases Nat.lt_trichotomy i j with e | e | e
 ·exact absurd h.2.1 (h'.2.2 i e)
 ·exact e
 ·exact absurd h'.2.1 (h.2.2 j e)
/-- Key has a lock with a start that is not above ts. -/
def blocks (l : Nat → Int) (nl : Nat) (key ts : Int) : Prop := ∃ i, firstL l nl key i ∧ l (i * 5 + 1) ≤ ts
theorem first_or (l : Nat → Int) (nl : Nat) (key : Int) : (∀ i, i < nl → ¬ lockIs l key i) ∨ ∃ i, firstL l nl key i := by
 obtain ⟨r, h⟩ := FirstAt.get (lockIs l key) nl
 rcases h with ⟨_, h⟩ | ⟨i, h1, _, h2, h3⟩
 ·exact Or.inl h
 ·exact Or.inr ⟨i, h1, h2, h3⟩
set_option maxRecDepth 100000 in
set_option maxHeartbeats 2000000 in
theorem blocked_isO (B b oo N : Nat) (m : Int → Int → Option Int) (nl : Nat) (l : Nat → Int) (nw : Nat) (k : Nat → Int) (g : Nat) (u1 u2 : Value) (key ts : Int) (w : World) (h : ColsO w B b oo N m nl l nw k g u1 u2) (hn : nl ≤ 200) (r : Bool) (hr : r = true ↔ blocks l nl key ts) :
  Calls Tryz.prog 96 #[.pointer (some ⟨b, oo, none⟩), .int .i64 key, .int .i64 ts] w fun e w' => e = .returned (.bool r) ∧ Below w.heap.size w w' := by
 have H : Hid (ColsO w B b oo N m nl l nw k g u1 u2) := h
 clear h
 rcases first_or l nl key with hno | ⟨i, hi⟩
 ·have e : r = false := by
   cases r with
   | false => rfl
   | true => obtain ⟨i, h1, _⟩ := hr.1 rfl; exact absurd h1.2.1 (hno i h1.1)
  subst e
  have HN : Hid (∀ i, i < nl → ¬ lockIs l key i) := hno
  clear hno hr
  go_enter Tryz.func96, Tryz.ntmps96
  go_wp2_with fail
  refine (lockOf_anyO B b oo N m nl l nw k g u1 u2 key _ H.out hn).mono ?_
  rintro e w1 ⟨v, rfl, hT, q1⟩
  obtain rfl : v = .tuple #[.agg #[.int .i64 0, .int .i64 0, .int .i64 0, .int .i64 0, .int .i64 0], .bool false] := by
   rcases hT with ⟨i, hi, hp, _⟩ | ⟨_, e⟩
   ·exact absurd hp (HN.out i hi)
   ·exact e
  have Q : Hid (Below w.heap.size w (w1.alloc (.cells #[.int .i64 0, .int .i64 0, .int .i64 0, .int .i64 0, .int .i64 0] 40))) := q1.alloc q1.size _
  clear hT q1
  go_wp2
  go_ret
  exact ⟨rfl, Q.out⟩
 ·obtain ⟨n0, N0⟩ : ∃ x, l (i * 5) = x := ⟨_, rfl⟩
  obtain ⟨n1, N1⟩ : ∃ x, l (i * 5 + 1) = x := ⟨_, rfl⟩
  obtain ⟨n2, N2⟩ : ∃ x, l (i * 5 + 2) = x := ⟨_, rfl⟩
  obtain ⟨n3, N3⟩ : ∃ x, l (i * 5 + 3) = x := ⟨_, rfl⟩
  obtain ⟨n4, N4⟩ : ∃ x, l (i * 5 + 4) = x := ⟨_, rfl⟩
  have e : r = decide (n1 ≤ ts) := by
   by_cases h1 : n1 ≤ ts
   ·rw [decide_eq_true h1]; exact hr.2 ⟨i, hi, by rw [N1]; exact h1⟩
   ·rw [decide_eq_false h1]
    cases r with
    | false => rfl
    | true => obtain ⟨j, hj, h2⟩ := hr.1 rfl; obtain rfl := hj.one hi; rw [N1] at h2; exact absurd h2 h1
  have HI : Hid (firstL l nl key i) := hi
  have NN : Hid (l (i * 5) = n0 ∧ l (i * 5 + 1) = n1 ∧ l (i * 5 + 2) = n2 ∧ l (i * 5 + 3) = n3 ∧ l (i * 5 + 4) = n4) := ⟨N0, N1, N2, N3, N4⟩
  clear N0 N1 N2 N3 N4 hi hr
  subst e
  go_enter Tryz.func96, Tryz.ntmps96
  go_wp2_with fail
  refine (lockOf_anyO B b oo N m nl l nw k g u1 u2 key _ H.out hn).mono ?_
  rintro e w1 ⟨v, rfl, hT, q1⟩
  obtain rfl : v = .tuple #[.agg #[.int .i64 n0, .int .i64 n1, .int .i64 n2, .int .i64 n3, .int .i64 n4], .bool true] := by
   rcases hT with ⟨j, hj, hp, hq, e⟩ | ⟨h, _⟩
   ·obtain rfl := firstL.one ⟨hj, hp, hq⟩ HI.out
    rw [e, NN.out.1, NN.out.2.1, NN.out.2.2.1, NN.out.2.2.2.1, NN.out.2.2.2.2]
   ·exact absurd HI.out.2.1 (h i HI.out.1)
  have Q : Hid (Below w.heap.size w (w1.alloc (.cells #[.int .i64 n0, .int .i64 n1, .int .i64 n2, .int .i64 n3, .int .i64 n4] 40))) := q1.alloc q1.size _
  clear hT q1
  go_wp2
  go_ret
  exact ⟨rfl, Q.out⟩
end Go.Proofs.YtiadbiiiikhfaaaGreatDoor

namespace Go.Proofs.YtiadbiiiikhfaaaGreatDoor
open Go.RowKit

theorem firstW_or (k : Nat → Int) (nw : Nat) (key start : Int) : (∀ i, ¬ firstW k nw key start i) ∨ ∃ i, firstW k nw key start i := by
 obtain ⟨r, hr⟩ := FirstAt.get (writeIs k key start) nw
 rcases hr with ⟨_, h⟩ | ⟨i, h1, _, h2, h3⟩
 ·exact Or.inl fun i hi => h i hi.1 hi.2.1
 ·exact Or.inr ⟨i, h1, h2, h3⟩
/-- A write that is no rollback. -/
def doneW (k : Nat → Int) (n : Nat) (key start : Int) (i : Nat) : Prop := firstW k n key start i ∧ k (i * 4 + 3) ≠ 4
set_option maxRecDepth 100000 in
set_option maxHeartbeats 4000000 in
theorem doneOf_anyO (B b oo N : Nat) (m : Int → Int → Option Int) (nl : Nat) (l : Nat → Int) (nw : Nat) (k : Nat → Int) (g : Nat) (u1 u2 : Value) (key start : Int) (w : World) (h : ColsO w B b oo N m nl l nw k g u1 u2) (hn : nw ≤ 200) :
  Calls Tryz.prog 65 #[.pointer (some ⟨b, oo, none⟩), .int .i64 key, .int .i64 start] w fun e w' => ∃ v, e = .returned v ∧ Told (doneW k nw key start) k v ∧ Below w.heap.size w w' := by
 have HZ : Hid (ColsO (w.alloc (.cells #[.int .i64 0, .int .i64 0, .int .i64 0, .int .i64 0] 55)) B b oo N m nl l nw k g u1 u2) := h.later (below_alloc _ _)
 clear h
 rcases firstW_or k nw key start with hno | ⟨i, hi⟩
 ·have HN : Hid (∀ i, ¬ firstW k nw key start i) := hno
  clear hno
  go_enter Tryz.func65, Tryz.ntmps65
  go_wp2_with fail
  refine (writeOf_anyO B b oo N m nl l nw k g u1 u2 key start _ HZ.out hn).mono ?_
  rintro e w1 ⟨v, rfl, hT, q1⟩
  obtain rfl : v = .tuple #[.agg #[.int .i64 0, .int .i64 0, .int .i64 0, .int .i64 0], .bool false] := by
   rcases hT with ⟨i, hi, _⟩ | ⟨_, e⟩
   ·exact absurd hi (HN.out i)
   ·exact e
  have Q : Hid (Blk4 w1 w.heap.size (.int .i64 0) (.int .i64 0) (.int .i64 0) (.int .i64 0) ∧ Below w.heap.size w w1) := ⟨(Blk4.new w _ _ _ _ _).later q1, (below_alloc _ _).trans (q1.mono (by simp))⟩
  obtain ⟨⟨t0, t1, t2, t3⟩, f0, f1, f2, f3⟩ := Q.out.1
  obtain ⟨⟨r0, r1, r2, r3⟩, _⟩ := (Q.out.1.put (.int .i64 0) (.int .i64 0) (.int .i64 0) (.int .i64 0)).alloc (.cells #[.int .i64 0, .int .i64 0, .int .i64 0, .int .i64 0] 55)
  have hne : ¬ w1.heap.size = w.heap.size := fun e => by have := Q.out.1.lt; omega
  have z1 := Q.out.1.lt
  clear hT q1
  go_wp2
  refine bodyPost_ret (v := .tuple #[.agg #[.int .i64 0, .int .i64 0, .int .i64 0, .int .i64 0], .bool false]) (by simp [results, Tryz.results65, go_sem, r0, r1, r2, r3]) rfl ⟨_, rfl, Or.inr ⟨fun i hi => HN.out i hi.1, rfl⟩, ?_⟩
  exact ((((Q.out.2.setCell (Nat.le_refl _) _).setCell (Nat.le_refl _) _).setCell (Nat.le_refl _) _).setCell (Nat.le_refl _) _).alloc (by simpa using Nat.le_of_lt z1) _
 ·obtain ⟨n0, N0⟩ : ∃ x, k (i * 4) = x := ⟨_, rfl⟩
  obtain ⟨n1, N1⟩ : ∃ x, k (i * 4 + 1) = x := ⟨_, rfl⟩
  obtain ⟨n2, N2⟩ : ∃ x, k (i * 4 + 2) = x := ⟨_, rfl⟩
  obtain ⟨n3, N3⟩ : ∃ x, k (i * 4 + 3) = x := ⟨_, rfl⟩
  have NN : Hid (k (i * 4) = n0 ∧ k (i * 4 + 1) = n1 ∧ k (i * 4 + 2) = n2 ∧ k (i * 4 + 3) = n3) := ⟨N0, N1, N2, N3⟩
  have HI : Hid (firstW k nw key start i) := hi
  by_cases h3 : n3 = 4
  ·have HN : Hid (∀ j, ¬ doneW k nw key start j) := fun j hj => by
    obtain rfl := firstW.one hj.1 hi
    exact hj.2 (N3.trans h3)
   clear N0 N1 N2 N3 hi
   subst h3
   go_enter Tryz.func65, Tryz.ntmps65
   go_wp2_with fail
   refine (writeOf_anyO B b oo N m nl l nw k g u1 u2 key start _ HZ.out hn).mono ?_
   rintro e w1 ⟨v, rfl, hT, q1⟩
   obtain rfl : v = .tuple #[.agg #[.int .i64 n0, .int .i64 n1, .int .i64 n2, .int .i64 4], .bool true] := by
    rcases hT with ⟨j, hj, e⟩ | ⟨h, _⟩
    ·obtain rfl := firstW.one hj HI.out
     rw [e, NN.out.1, NN.out.2.1, NN.out.2.2.1, NN.out.2.2.2]
    ·exact absurd HI.out (h _)
   have Q : Hid (Blk4 w1 w.heap.size (.int .i64 0) (.int .i64 0) (.int .i64 0) (.int .i64 0) ∧ Below w.heap.size w w1) := ⟨(Blk4.new w _ _ _ _ _).later q1, (below_alloc _ _).trans (q1.mono (by simp))⟩
   obtain ⟨⟨t0, t1, t2, t3⟩, f0, f1, f2, f3⟩ := Q.out.1
   obtain ⟨⟨r0, r1, r2, r3⟩, _⟩ := (Q.out.1.put (.int .i64 0) (.int .i64 0) (.int .i64 0) (.int .i64 0)).alloc (.cells #[.int .i64 n0, .int .i64 n1, .int .i64 n2, .int .i64 4] 55)
   have hne : ¬ w1.heap.size = w.heap.size := fun e => by have := Q.out.1.lt; omega
   have z1 := Q.out.1.lt
   clear hT q1
   go_wp2
   refine bodyPost_ret (v := .tuple #[.agg #[.int .i64 0, .int .i64 0, .int .i64 0, .int .i64 0], .bool false]) (by simp [results, Tryz.results65, go_sem, r0, r1, r2, r3]) rfl ⟨_, rfl, Or.inr ⟨HN.out, rfl⟩, ?_⟩
   exact ((((Q.out.2.setCell (Nat.le_refl _) _).setCell (Nat.le_refl _) _).setCell (Nat.le_refl _) _).setCell (Nat.le_refl _) _).alloc (by simpa using Nat.le_of_lt z1) _
  ·have HD : Hid (doneW k nw key start i) := ⟨hi, by rw [N3]; exact h3⟩
   have d3 : (n3 == 4) = false := beq_eq_false_iff_ne.2 h3
   clear N0 N1 N2 N3 hi h3
   go_enter Tryz.func65, Tryz.ntmps65
   go_wp2_with fail
   refine (writeOf_anyO B b oo N m nl l nw k g u1 u2 key start _ HZ.out hn).mono ?_
   rintro e w1 ⟨v, rfl, hT, q1⟩
   obtain rfl : v = .tuple #[.agg #[.int .i64 n0, .int .i64 n1, .int .i64 n2, .int .i64 n3], .bool true] := by
    rcases hT with ⟨j, hj, e⟩ | ⟨h, _⟩
    ·obtain rfl := firstW.one hj HI.out
     rw [e, NN.out.1, NN.out.2.1, NN.out.2.2.1, NN.out.2.2.2]
    ·exact absurd HI.out (h _)
   have Q : Hid (Blk4 w1 w.heap.size (.int .i64 0) (.int .i64 0) (.int .i64 0) (.int .i64 0) ∧ Below w.heap.size w w1) := ⟨(Blk4.new w _ _ _ _ _).later q1, (below_alloc _ _).trans (q1.mono (by simp))⟩
   obtain ⟨⟨t0, t1, t2, t3⟩, f0, f1, f2, f3⟩ := Q.out.1
   obtain ⟨⟨r0, r1, r2, r3⟩, _⟩ := (Q.out.1.put (.int .i64 n0) (.int .i64 n1) (.int .i64 n2) (.int .i64 n3)).alloc (.cells #[.int .i64 n0, .int .i64 n1, .int .i64 n2, .int .i64 n3] 55)
   have hne : ¬ w1.heap.size = w.heap.size := fun e => by have := Q.out.1.lt; omega
   have z1 := Q.out.1.lt
   clear hT q1
   go_wp2
   refine bodyPost_ret (v := .tuple #[.agg #[.int .i64 n0, .int .i64 n1, .int .i64 n2, .int .i64 n3], .bool true]) (by simp [results, Tryz.results65, go_sem, r0, r1, r2, r3]) rfl ⟨_, rfl, Or.inl ⟨i, HD.out, by rw [NN.out.1, NN.out.2.1, NN.out.2.2.1, NN.out.2.2.2]⟩, ?_⟩
   exact ((((Q.out.2.setCell (Nat.le_refl _) _).setCell (Nat.le_refl _) _).setCell (Nat.le_refl _) _).setCell (Nat.le_refl _) _).alloc (by simpa using Nat.le_of_lt z1) _
theorem doneOf_any (B b N : Nat) (m : Int → Int → Option Int) (nl : Nat) (l : Nat → Int) (nw : Nat) (k : Nat → Int) (g : Nat) (u1 u2 : Value) (key start : Int) (w : World) (h : Cols w B b N m nl l nw k g u1 u2) (hn : nw ≤ 200) :
  Calls Tryz.prog 65 #[.pointer (some ⟨b, 0, none⟩), .int .i64 key, .int .i64 start] w fun e w' => ∃ v, e = .returned v ∧ Told (doneW k nw key start) k v ∧ Below w.heap.size w w' := doneOf_anyO B b 0 N m nl l nw k g u1 u2 key start w h hn
end Go.Proofs.YtiadbiiiikhfaaaGreatDoor

namespace Go.Proofs.YtiadbiiiikhfaaaGreatDoor
open Go.RowKit

/-- A code and a value. -/
def ResInt (w : World) (c v : Int) (e : Ending) (w' : World) : Prop := e = .returned (.agg #[.int .i64 c, .int .i64 v]) ∧ Below w.heap.size w w'
end Go.Proofs.YtiadbiiiikhfaaaGreatDoor

namespace Go.Proofs.YtiadbiiiikhfaaaGreatDoor
open Go.RowKit

def CommAns (S : Sto) (key start c v : Int) : Prop := (askF S key ≠ 0 ∧ c = askF S key ∧ v = 0) ∨ (askF S key = 0 ∧ ((∃ i, doneW S.k S.nw key start i ∧ c = 0 ∧ v = S.k (i * 4 + 1)) ∨ ((∀ i, ¬ doneW S.k S.nw key start i) ∧ c = 4 ∧ v = 0)))
theorem CommAns.get (S : Sto) (key start : Int) : ∃ c v, CommAns S key start c v := by
 by_cases h : askF S key = 0
 ·rcases firstW_or S.k S.nw key start with hno | ⟨i, hi⟩
  ·exact ⟨4, 0, Or.inr ⟨h, Or.inr ⟨fun i hi => hno i hi.1, rfl, rfl⟩⟩⟩
  ·by_cases e : S.k (i * 4 + 3) = 4
   ·exact ⟨4, 0, Or.inr ⟨h, Or.inr ⟨fun j hj => by obtain rfl := firstW.one hj.1 hi; exact hj.2 e, rfl, rfl⟩⟩⟩
   ·exact ⟨0, _, Or.inr ⟨h, Or.inl ⟨i, ⟨hi, e⟩, rfl, rfl⟩⟩⟩
 ·exact ⟨_, _, Or.inl ⟨h, rfl, rfl⟩⟩
set_option maxRecDepth 100000 in
set_option maxHeartbeats 4000000 in
theorem implCommitOf_is (S : Sto) (v0 v1 v2 : Value) (key start c v : Int) (B : Nat) (w : World) (h : St w B S v0 v1 v2) (hA : CommAns S key start c v) :
  Calls Tryz.prog 21 #[.agg #[v0, v1, v2], .int .i64 key, .int .i64 start] w (ResInt w c v) := by
 obtain ⟨a0, c0, a1, c1, a2, c2, rfl, rfl, rfl⟩ := h.form
 have HE : Hid (CallEnv w B S (.slice a0 S.nc c0) (.slice a1 S.nl c1) (.slice a2 S.nw c2) (.int .i64 0) (.int .i64 0) ((w.alloc (.cells #[.slice a0 S.nc c0, .slice a1 S.nl c1, .slice a2 S.nw c2] 28)).alloc (.cells #[.int .i64 0, .int .i64 0] 42))) := CallEnv.new h _ _ _ _
 clear h
 unfold ResInt
 rcases hA with ⟨hz, rfl, rfl⟩ | ⟨hz, hr⟩
 ·obtain ⟨f, hf⟩ : ∃ f, askF S key = f := ⟨_, rfl⟩
  rw [hf]
  have HF : Hid (askF S key = f) := hf
  have hfn : (f == 0) = false := beq_eq_false_iff_ne.2 (by rw [← hf]; exact hz)
  clear hz hf
  go_enter Tryz.func21, Tryz.ntmps21
  go_wp2_with fail
  refine (askFault_any S _ _ _ key B _ HE.out.2.2.1).mono ?_
  rw [HF.out]
  rintro e w1 ⟨rfl, q1⟩
  have HE : Hid (CallEnv w B S (.slice a0 S.nc c0) (.slice a1 S.nl c1) (.slice a2 S.nw c2) (.int .i64 0) (.int .i64 0) w1) := HE.out.later q1
  obtain ⟨⟨⟨p0, p1, p2⟩, _⟩, ⟨⟨r0, r1⟩, f0, f1⟩, _⟩ := HE.out
  clear q1
  go_wp2
  exact bodyPost_ret (v := .agg #[.int .i64 f, .int .i64 0]) (by simp [results, Tryz.results21, go_sem, r0, r1]) rfl ⟨rfl, (HE.out.2.2.2.setCell (Nat.le_succ _) _).setCell (Nat.le_succ _) _⟩
 ·have Z := storeF_zero (askF_zero hz).1
  have HZ : Hid (scan (cellF S.c) S.nc = 0 ∧ (S.nc ≤ 200 ∧ S.nl ≤ 200 ∧ S.nw ≤ 200)) := ⟨Z.2.1, Z.1⟩
  have HA : Hid (askF S key = 0) := hz
  clear Z hz
  rcases hr with ⟨i, hi, rfl, rfl⟩ | ⟨hno, rfl, rfl⟩
  ·obtain ⟨n0, N0⟩ : ∃ x, S.k (i * 4) = x := ⟨_, rfl⟩
   obtain ⟨n1, N1⟩ : ∃ x, S.k (i * 4 + 1) = x := ⟨_, rfl⟩
   obtain ⟨n2, N2⟩ : ∃ x, S.k (i * 4 + 2) = x := ⟨_, rfl⟩
   obtain ⟨n3, N3⟩ : ∃ x, S.k (i * 4 + 3) = x := ⟨_, rfl⟩
   have NN : Hid (S.k (i * 4) = n0 ∧ S.k (i * 4 + 1) = n1 ∧ S.k (i * 4 + 2) = n2 ∧ S.k (i * 4 + 3) = n3) := ⟨N0, N1, N2, N3⟩
   have HI : Hid (doneW S.k S.nw key start i) := hi
   rw [N1]
   clear N0 N1 N2 N3 hi
   go_enter Tryz.func21, Tryz.ntmps21
   go_wp2_with fail
   refine (askFault_any S _ _ _ key B _ HE.out.2.2.1).mono ?_
   rw [HA.out]
   rintro e w1 ⟨rfl, q1⟩
   have HE : Hid (CallEnv w B S (.slice a0 S.nc c0) (.slice a1 S.nl c1) (.slice a2 S.nw c2) (.int .i64 0) (.int .i64 0) w1) := HE.out.later q1
   obtain ⟨⟨⟨p0, p1, p2⟩, _⟩, ⟨⟨r0, r1⟩, f0, f1⟩, _⟩ := HE.out
   clear q1
   go_wp2_with fail
   refine (columnsOf_any S B _ _ _ _ HE.out.2.2.1 HZ.out.2.1 HZ.out.2.2.1 HZ.out.2.2.2 HZ.out.1).mono ?_
   rintro e w2 ⟨b, g, u1, u2, rfl, hC, q1⟩
   clear p0 p1 p2 r0 r1 f0 f1
   have HC : Hid (Cols w2 w1.heap.size b S.nc (cellM S S.nc) S.nl S.l S.nw S.k g u1 u2) := hC
   have HE : Hid (CallEnv w B S (.slice a0 S.nc c0) (.slice a1 S.nl c1) (.slice a2 S.nw c2) (.int .i64 0) (.int .i64 0) w2) := HE.out.later q1
   clear q1 hC
   go_wp2_with fail
   refine (doneOf_any _ b _ _ _ _ _ _ g u1 u2 key start _ HC.out HZ.out.2.2.2).mono ?_
   rintro e w3 ⟨v, rfl, hT, q1⟩
   obtain rfl : v = .tuple #[.agg #[.int .i64 n0, .int .i64 n1, .int .i64 n2, .int .i64 n3], .bool true] := by
    rcases hT with ⟨j, hj, e⟩ | ⟨h, _⟩
    ·obtain rfl := firstW.one hj.1 HI.out.1
     rw [e, NN.out.1, NN.out.2.1, NN.out.2.2.1, NN.out.2.2.2]
    ·exact absurd HI.out (h _)
   clear hT
   have HE : Hid (CallEnv w B S (.slice a0 S.nc c0) (.slice a1 S.nl c1) (.slice a2 S.nw c2) (.int .i64 0) (.int .i64 0) w3) := HE.out.later q1
   obtain ⟨⟨⟨p0, p1, p2⟩, _⟩, ⟨⟨r0, r1⟩, f0, f1⟩, _⟩ := HE.out
   clear q1
   have z3 := HE.out.2.1.lt
   obtain ⟨⟨s0, s1⟩, _⟩ := (HE.out.2.1.put (.int .i64 0) (.int .i64 n1)).alloc (.cells #[.int .i64 n0, .int .i64 n1, .int .i64 n2, .int .i64 n3] 55)
   go_wp2
   exact bodyPost_ret (v := .agg #[.int .i64 0, .int .i64 n1]) (by simp [results, Tryz.results21, go_sem, s0, s1]) rfl ⟨rfl, ((HE.out.2.2.2.setCell (Nat.le_succ _) _).setCell (Nat.le_succ _) _).alloc (by have := HE.out.2.2.2.size; simp; omega) _⟩
  ·have HN : Hid (∀ i, ¬ doneW S.k S.nw key start i) := hno
   clear hno
   go_enter Tryz.func21, Tryz.ntmps21
   go_wp2_with fail
   refine (askFault_any S _ _ _ key B _ HE.out.2.2.1).mono ?_
   rw [HA.out]
   rintro e w1 ⟨rfl, q1⟩
   have HE : Hid (CallEnv w B S (.slice a0 S.nc c0) (.slice a1 S.nl c1) (.slice a2 S.nw c2) (.int .i64 0) (.int .i64 0) w1) := HE.out.later q1
   obtain ⟨⟨⟨p0, p1, p2⟩, _⟩, ⟨⟨r0, r1⟩, f0, f1⟩, _⟩ := HE.out
   clear q1
   go_wp2_with fail
   refine (columnsOf_any S B _ _ _ _ HE.out.2.2.1 HZ.out.2.1 HZ.out.2.2.1 HZ.out.2.2.2 HZ.out.1).mono ?_
   rintro e w2 ⟨b, g, u1, u2, rfl, hC, q1⟩
   clear p0 p1 p2 r0 r1 f0 f1
   have HC : Hid (Cols w2 w1.heap.size b S.nc (cellM S S.nc) S.nl S.l S.nw S.k g u1 u2) := hC
   have HE : Hid (CallEnv w B S (.slice a0 S.nc c0) (.slice a1 S.nl c1) (.slice a2 S.nw c2) (.int .i64 0) (.int .i64 0) w2) := HE.out.later q1
   clear q1 hC
   go_wp2_with fail
   refine (doneOf_any _ b _ _ _ _ _ _ g u1 u2 key start _ HC.out HZ.out.2.2.2).mono ?_
   rintro e w3 ⟨v, rfl, hT, q1⟩
   obtain rfl : v = .tuple #[.agg #[.int .i64 0, .int .i64 0, .int .i64 0, .int .i64 0], .bool false] := by
    rcases hT with ⟨i, hi, _⟩ | ⟨_, e⟩
    ·exact absurd hi (HN.out i)
    ·exact e
   clear hT
   have HE : Hid (CallEnv w B S (.slice a0 S.nc c0) (.slice a1 S.nl c1) (.slice a2 S.nw c2) (.int .i64 0) (.int .i64 0) w3) := HE.out.later q1
   obtain ⟨⟨⟨p0, p1, p2⟩, _⟩, ⟨⟨r0, r1⟩, f0, f1⟩, _⟩ := HE.out
   clear q1
   have z3 := HE.out.2.1.lt
   obtain ⟨⟨s0, s1⟩, _⟩ := (HE.out.2.1.put (.int .i64 4) (.int .i64 0)).alloc (.cells #[.int .i64 0, .int .i64 0, .int .i64 0, .int .i64 0] 55)
   go_wp2
   exact bodyPost_ret (v := .agg #[.int .i64 4, .int .i64 0]) (by simp [results, Tryz.results21, go_sem, s0, s1]) rfl ⟨rfl, ((HE.out.2.2.2.setCell (Nat.le_succ _) _).setCell (Nat.le_succ _) _).alloc (by have := HE.out.2.2.2.size; simp; omega) _⟩
end Go.Proofs.YtiadbiiiikhfaaaGreatDoor

