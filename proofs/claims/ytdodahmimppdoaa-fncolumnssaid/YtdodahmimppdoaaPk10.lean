/-
  Own text, merged of DrawF, ColD, StorC, StorF, StatD, LawI, StatC.
-/
import Derived.Test.YtdodahmimppdoaaPk9
namespace Go.Proofs.Ytdodahmimppdoaa
open Go.RowKit

set_option maxRecDepth 100000 in
set_option maxHeartbeats 16000000 in
theorem l3With_any (w : World) (o : Option Addr) (len cap : Nat) (h : Code w o len) (hl : len ≤ 1048576) :
    Calls Try.prog 16 #[.slice o len cap] w fun e w' => ∃ (S : Sto) (a0 : Option Addr) (c0 : Nat) (a1 : Option Addr) (c1 : Nat) (a2 : Option Addr) (c2 : Nat) (key ts : Int), e = .returned (.tuple #[.agg #[.slice a0 S.nc c0, .slice a1 S.nl c1, .slice a2 S.nw c2], .int .i64 key, .int .i64 ts]) ∧ Sz2 S ∧ St w' w.heap.size S (.slice a0 S.nc c0) (.slice a1 S.nl c1) (.slice a2 S.nw c2) ∧ Below w.heap.size w w' ∧ (storeF S = 0 → Wf ts) := by
  have H0 : Hid (Code w o len) := h
  clear h
  go_enter Try.func16, Try.ntmps16
  go_wp2_with fail
  try dsimp only
  refine (l1Source_any (w.alloc (.cells #[.slice none 0 0, .slice none 0 0, .slice none 0 0] 28)) o len cap (H0.out.later (below_alloc _ _))).mono ?_
  rintro e w1 ⟨rfl, hs1, hb1, hz1⟩
  have hb0 : (w.alloc (.cells #[.slice none 0 0, .slice none 0 0, .slice none 0 0] 28)).heap.size = w.heap.size + 1 := by simp
  have hB1 : Below w.heap.size w w1 := (below_alloc w _).trans (hb1.mono (by omega))
  have hR1 : Blk3 w1 w.heap.size (.slice none 0 0) (.slice none 0 0) (.slice none 0 0) := (Blk3.new w (.slice none 0 0) (.slice none 0 0) (.slice none 0 0) 28).later hb1
  rw [hb0] at hs1 hz1
  clear hb0 hb1
  go_wp2_with fail
  try dsimp only
  obtain ⟨b, hb0⟩ : ∃ b, b = w.heap.size + 1 := ⟨_, rfl⟩
  rw [← hb0] at hs1 hz1 ⊢
  have HB0 : Hid (b = w.heap.size + 1 ∧ w1.heap.size = b + 1) := ⟨hb0, hz1⟩
  clear hb0 hz1
  have HH := l3Bent_any w1 b o len cap 0 hs1 (by omega) hl
  refine HH.mono ?_
  clear HH
  rintro e w2 ⟨S, a0, c0, a1, c1, a2, c2, z, rfl, ⟨hZ, hz⟩, hst, hS2, hT2⟩
  have hz0 := hS2.pos
  have hb0 := HB0.out.1
  have hz1 := HB0.out.2
  have hwb : w.heap.size < b := by omega
  have HD : Hid (DrX w b o len cap w2.heap.size S (.slice a0 S.nc c0) (.slice a1 S.nl c1) (.slice a2 S.nw c2) z (w2.alloc (.cells #[.slice a0 S.nc c0, .slice a1 S.nl c1, .slice a2 S.nw c2] 28))) := {
    src := hS2.alloc _
    bel := (Below.but hB1 hT2 hB1.size (by omega)).alloc (by have := hB1.size; have := hT2.size; omega) _
    res := (hR1.butS hT2 (by omega)).alloc _
    box := Blk3.new w2 _ _ _ _
    st := (hst.mono (by omega)).alloc _
    sz := hZ
    lo := by omega
    bl := by have := hS2.lt; omega
    base := ⟨w1, 0, hs1, hT2.alloc _, by have := hT2.size; omega⟩ }
  clear hst hS2 hT2 hZ hB1 hR1 hs1 hb0 hz1 HB0
  go_wp2_with fail
  generalize w2.alloc (.cells #[.slice a0 S.nc c0, .slice a1 S.nl c1, .slice a2 S.nw c2] 28) = w3 at HD ⊢
  obtain ⟨bx, hbx⟩ : ∃ bx, w2.heap.size = bx := ⟨_, rfl⟩
  rw [hbx] at HD ⊢
  clear hbx
  refine (l1Key_any _ b o len cap z HD.out.src (by omega) hl).mono ?_
  rintro e w4 ⟨key, rfl, _, hS4, hT4⟩
  have HD : Hid (DrX w b o len cap bx S (.slice a0 S.nc c0) (.slice a1 S.nl c1) (.slice a2 S.nw c2) (z + 5) w4) := HD.out.step hT4 hS4
  clear hS4 hT4
  go_wp2_with fail
  refine (l1Next_any _ b o len cap (z + 5) 40 HD.out.src (by omega) hl).mono ?_
  rintro e w5 ⟨t, rfl, t0, t1, hS5, hT5⟩
  have t1 := t1 (by decide)
  have HD : Hid (DrX w b o len cap bx S (.slice a0 S.nc c0) (.slice a1 S.nl c1) (.slice a2 S.nw c2) (z + 5 + 1) w5) := HD.out.step hT5 hS5
  clear hS5 hT5
  go_wp2_with fail
  obtain ⟨ts, hts⟩ : ∃ ts, ts = 1 + t := ⟨_, rfl⟩
  rw [← hts]
  have HT : Hid (1 ≤ ts ∧ ts ≤ 40) := (by omega : 1 ≤ ts ∧ ts ≤ 40)
  clear hts
  refine (l1Next_any _ b o len cap (z + 5 + 1) 5 HD.out.src (by omega) hl).mono ?_
  rintro e w6 ⟨sw, rfl, s0, s1, hS6, hT6⟩
  have HD : Hid (DrX w b o len cap bx S (.slice a0 S.nc c0) (.slice a1 S.nl c1) (.slice a2 S.nw c2) (z + 5 + 1 + 1) w6) := HD.out.step hT6 hS6
  clear hS6 hT6 t0 t1
  have s1 := s1 (by decide)
  go_upto_block 0 with fail
  go_cut [6] (fun s wx => s = .pointer (some ⟨bx, 0, none⟩) ∧ ∃ e : Int, (0 ≤ e ∧ e ≤ 900) ∧ Hid (DrX w b o len cap bx S (.slice a0 S.nc c0) (.slice a1 S.nl c1) (.slice a2 S.nw c2) e wx))
  case first =>
    have hsw : sw = 0 ∨ sw = 1 ∨ sw = 2 ∨ sw = 3 ∨ sw = 4 := by omega
    rcases hsw with rfl | rfl | rfl | rfl | rfl
    iterate 2
      · by_cases hnl : 0 < S.nl
        · have dn : decide (0 < S.nl) = true := decide_eq_true hnl
          obtain ⟨⟨t0, t1, t2⟩, _⟩ := HD.out.box
          obtain ⟨g, oo, rfl, _⟩ := HD.out.st.2.1.at hnl
          go_wp2_with fail
          clear t0 t1 t2 dn
          refine wp_region_held_drew (S := BoxS bx (.slice a0 S.nc c0) (.slice (some ⟨g, oo, none⟩) S.nl c1) (.slice a2 S.nw c2)) (by kernel_rfl) (HD.out.box.kept rfl) (fun hS => ?_)
          have HD : Hid (DrX w b o len cap bx S (.slice a0 S.nc c0) (.slice (some ⟨g, oo, none⟩) S.nl c1) (.slice a2 S.nw c2) (z + 5 + 1 + 1) w6.drew) := HD.out.later (below_dr (Below.refl _ _) 1)
          generalize w6.drew = y0 at HD hS ⊢
          refine tkH 0 ?_ hS (fun wx hx => ?_) ?_; rotate_left
          · obtain ⟨⟨hx0, hx1, hx2⟩, _⟩ := hx; go_simp; try with_reducible rfl
          refine tkH 1 ?_ hS (fun wx hx => ?_) ?_; rotate_left
          · obtain ⟨⟨hx0, hx1, hx2⟩, _⟩ := hx; go_simp; try with_reducible rfl
          refine tkH 2 ?_ hS (fun wx hx => ?_) ?_; rotate_left
          · obtain ⟨⟨hx0, hx1, hx2⟩, _⟩ := hx; go_simp; try with_reducible rfl
          refine tkH 3 ?_ hS (fun wx hx => ?_) ?_; rotate_left
          · obtain ⟨⟨hx0, hx1, hx2⟩, _⟩ := hx; go_simp; try with_reducible rfl
          refine tkH 4 ?_ hS (fun wx hx => ?_) ?_; rotate_left
          · obtain ⟨⟨hx0, hx1, hx2⟩, _⟩ := hx; go_simp; try with_reducible rfl
          refine tkH 5 ?_ hS (fun wx hx => ?_) ?_; rotate_left
          · obtain ⟨⟨hx0, hx1, hx2⟩, _⟩ := hx; go_simp; try with_reducible rfl
          simp only [Act.put, List.getElem_toArray, List.getElem_cons_zero, List.getElem_cons_succ, List.setIfInBounds_toArray, List.set_cons_succ, List.set_cons_zero]
          refine wpAnyH_ready (rs := [6, 9]) (by kernel_rfl) (by simp) ?_
          refine AllReadyH.cons rfl ?_ (AllReadyH.cons rfl ?_ AllReadyH.nil)
          · intro K hK
            go_simp
            go_wp2_with fail
            refine (l1Next_any _ b o len cap (z + 5 + 1 + 1) S.nl HD.out.src (by omega) hl).mono ?_
            rintro e y1 ⟨ri, rfl, ri0, ri1, hS1, hT1⟩
            have ri1 := ri1 (by omega)
            obtain ⟨k, rfl⟩ : ∃ k : Nat, ri = k := ⟨ri.toNat, by omega⟩
            have hk : k < S.nl := by omega
            have HD : Hid (DrX w b o len cap bx S (.slice a0 S.nc c0) (.slice (some ⟨g, oo, none⟩) S.nl c1) (.slice a2 S.nw c2) (z + 5 + 1 + 1 + 1) y1) := HD.out.step hT1 hS1
            have hS' : BoxS bx (.slice a0 S.nc c0) (.slice (some ⟨g, oo, none⟩) S.nl c1) (.slice a2 S.nw c2) y1 := HD.out.box
            clear hS1 hT1 ri0 ri1
            go_wp2_with fail
            refine hK.out _ _ hS' (fun hS => ?_)
            clear hK K hS'
            refine tkH 7 ?_ hS (fun wx hx => ?_) ?_; rotate_left
            · obtain ⟨⟨hx0, hx1, hx2⟩, _⟩ := hx; go_simp; try with_reducible rfl
            simp only [Act.put, List.getElem_toArray, List.getElem_cons_zero, List.getElem_cons_succ, List.setIfInBounds_toArray, List.set_cons_succ, List.set_cons_zero]
            refine wpAnyH_ready (rs := [8, 9]) (by kernel_rfl) (by simp) ?_
            refine AllReadyH.cons rfl ?_ (AllReadyH.cons rfl ?_ AllReadyH.nil)
            · intro K hK
              obtain ⟨g', oo', eg, _, _, k0, k1, k2, k3, k4⟩ := HD.out.st.2.1.at5 hk
              obtain ⟨rfl, rfl⟩ : g = g' ∧ oo = oo' := by simpa using eg
              go_simp
              refine hK.out _ _ hS (fun hS => ?_)
              clear hK K k0 k1 k2 k3 k4 eg
              refine rdH 9 (fun K hK => ?_)
              go_simp
              have KB : Hid (Blk5 (y1.alloc (.cells #[.int .i64 0, .int .i64 0, .int .i64 0, .int .i64 0, .int .i64 0] 44)) y1.heap.size (.int .i64 0) (.int .i64 0) (.int .i64 0) (.int .i64 0) (.int .i64 0) ∧ OwnIn S (.slice a0 S.nc c0) (.slice (some ⟨g, oo, none⟩) S.nl c1) (.slice a2 S.nw c2) (fun k => k < y1.heap.size) ∧ bx < y1.heap.size) := ⟨Blk5.new _ _ _ _ _ _ _, HD.out.st.ownIn.mono (fun k hk => hk.2), HD.out.box.lt⟩
              have HD : Hid (DrX w b o len cap bx S (.slice a0 S.nc c0) (.slice (some ⟨g, oo, none⟩) S.nl c1) (.slice a2 S.nw c2) (z + 5 + 1 + 1 + 1) (y1.alloc (.cells #[.int .i64 0, .int .i64 0, .int .i64 0, .int .i64 0, .int .i64 0] 44))) := HD.out.later (below_alloc _ _)
              refine hK.out _ _ (show BoxS _ _ _ _ _ from hS.alloc _) (fun hS => ?_)
              clear hK K
              generalize y1.alloc (.cells #[.int .i64 0, .int .i64 0, .int .i64 0, .int .i64 0, .int .i64 0] 44) = y2 at HD KB hS ⊢
              obtain ⟨kb, hkb⟩ : ∃ kb, y1.heap.size = kb := ⟨_, rfl⟩
              rw [hkb] at KB ⊢
              clear hkb
              refine rdH 10 (fun K hK => ?_)
              have HP : Hid (storeF S = 0 → Wf (S.l (k * 5 + 1))) := fun hz => wf_lockS hz hk
              obtain ⟨⟨e0, e1, e2, e3, e4⟩, f0, f1, f2, f3, f4⟩ := KB.out.1
              go_simp
              have HF : Hid (DrX w b o len cap bx S (.slice a0 S.nc c0) (.slice (some ⟨g, oo, none⟩) S.nl c1) (.slice a2 S.nw c2) (z + 5 + 1 + 1 + 1) (((((y2.setCell ⟨kb, 0, none⟩ (.int .i64 (S.l (k * 5)))).setCell ⟨kb, 1, none⟩ (.int .i64 (S.l (k * 5 + 1)))).setCell ⟨kb, 2, none⟩ (.int .i64 (S.l (k * 5 + 2)))).setCell ⟨kb, 3, none⟩ (.int .i64 (S.l (k * 5 + 3)))).setCell ⟨kb, 4, none⟩ (.int .i64 (S.l (k * 5 + 4)))) ∧ Blk5 (((((y2.setCell ⟨kb, 0, none⟩ (.int .i64 (S.l (k * 5)))).setCell ⟨kb, 1, none⟩ (.int .i64 (S.l (k * 5 + 1)))).setCell ⟨kb, 2, none⟩ (.int .i64 (S.l (k * 5 + 2)))).setCell ⟨kb, 3, none⟩ (.int .i64 (S.l (k * 5 + 3)))).setCell ⟨kb, 4, none⟩ (.int .i64 (S.l (k * 5 + 4)))) kb (.int .i64 (S.l (k * 5))) (.int .i64 (S.l (k * 5 + 1))) (.int .i64 (S.l (k * 5 + 2))) (.int .i64 (S.l (k * 5 + 3))) (.int .i64 (S.l (k * 5 + 4)))) := ⟨((((HD.out.setK KB.out.2.1 KB.out.2.2 _ _).setK KB.out.2.1 KB.out.2.2 _ _).setK KB.out.2.1 KB.out.2.2 _ _).setK KB.out.2.1 KB.out.2.2 _ _).setK KB.out.2.1 KB.out.2.2 _ _, KB.out.1.put _ _ _ _ _⟩
              refine hK.out _ _ (show BoxS _ _ _ _ _ from HF.out.1.box) (fun hS => ?_)
              clear hK K
              have HKB : Hid (w.heap.size < kb) := by have := KB.out.2.2; have := HD.out.bl; have := HD.out.lo; exact (by omega : w.heap.size < kb)
              refine wpAnyH_done (by kernel_rfl) ?_ _
              clear hS e0 e1 e2 e3 e4 f0 f1 f2 f3 f4 KB HD
              go_simp
              generalize (((((y2.setCell ⟨kb, 0, none⟩ (.int .i64 (S.l (k * 5)))).setCell ⟨kb, 1, none⟩ (.int .i64 (S.l (k * 5 + 1)))).setCell ⟨kb, 2, none⟩ (.int .i64 (S.l (k * 5 + 2)))).setCell ⟨kb, 3, none⟩ (.int .i64 (S.l (k * 5 + 3)))).setCell ⟨kb, 4, none⟩ (.int .i64 (S.l (k * 5 + 4)))) = yk at HF ⊢
              go_wp2_with fail
              refine wp_region_held_drew (S := fun x => BoxS bx (.slice a0 S.nc c0) (.slice (some ⟨g, oo, none⟩) S.nl c1) (.slice a2 S.nw c2) x ∧ Blk5 x kb (.int .i64 (S.l (k * 5))) (.int .i64 (S.l (k * 5 + 1))) (.int .i64 (S.l (k * 5 + 2))) (.int .i64 (S.l (k * 5 + 3))) (.int .i64 (S.l (k * 5 + 4)))) (by kernel_rfl) ⟨HF.out.1.box.kept rfl, HF.out.2.kept rfl⟩ (fun hS => ?_)
              have HD : Hid (DrX w b o len cap bx S (.slice a0 S.nc c0) (.slice (some ⟨g, oo, none⟩) S.nl c1) (.slice a2 S.nw c2) (z + 5 + 1 + 1 + 1) yk.drew) := HF.out.1.later (below_dr (Below.refl _ _) 1)
              clear HF
              generalize yk.drew = yd at HD hS ⊢
              refine tkH 0 ?_ hS (fun wx hx => ?_) ?_; rotate_left
              · obtain ⟨⟨⟨hx0, hx1, hx2⟩, _⟩, ⟨hy0, hy1, hy2, hy3, hy4⟩, _⟩ := hx; go_simp; try with_reducible rfl
              refine tkH 1 ?_ hS (fun wx hx => ?_) ?_; rotate_left
              · obtain ⟨⟨⟨hx0, hx1, hx2⟩, _⟩, ⟨hy0, hy1, hy2, hy3, hy4⟩, _⟩ := hx; go_simp; try with_reducible rfl
              refine tkH 2 ?_ hS (fun wx hx => ?_) ?_; rotate_left
              · obtain ⟨⟨⟨hx0, hx1, hx2⟩, _⟩, ⟨hy0, hy1, hy2, hy3, hy4⟩, _⟩ := hx; go_simp; try with_reducible rfl
              refine tkH 3 ?_ hS (fun wx hx => ?_) ?_; rotate_left
              · obtain ⟨⟨⟨hx0, hx1, hx2⟩, _⟩, ⟨hy0, hy1, hy2, hy3, hy4⟩, _⟩ := hx; go_simp; try with_reducible rfl
              refine tkH 4 ?_ hS (fun wx hx => ?_) ?_; rotate_left
              · obtain ⟨⟨⟨hx0, hx1, hx2⟩, _⟩, ⟨hy0, hy1, hy2, hy3, hy4⟩, _⟩ := hx; go_simp; try with_reducible rfl
              simp only [Act.put, List.getElem_toArray, List.getElem_cons_zero, List.getElem_cons_succ, List.setIfInBounds_toArray, List.set_cons_succ, List.set_cons_zero]
              obtain ⟨⟨r0, r1, r2⟩, f0, f1, f2⟩ := HD.out.res
              refine rdH 5 (fun K hK => ?_)
              go_simp
              have HO := hid_mk (DrX.out HD.out (.slice a0 S.nc c0) (.slice (some ⟨g, oo, none⟩) S.nl c1) (.slice a2 S.nw c2))
              have HZ := hid_mk HD.out.sz
              have hB5 : Blk5 (((yd.setCell ⟨w.heap.size, 0, none⟩ (.slice a0 S.nc c0)).setCell ⟨w.heap.size, 1, none⟩ (.slice (some ⟨g, oo, none⟩) S.nl c1)).setCell ⟨w.heap.size, 2, none⟩ (.slice a2 S.nw c2)) kb (.int .i64 (S.l (k * 5))) (.int .i64 (S.l (k * 5 + 1))) (.int .i64 (S.l (k * 5 + 2))) (.int .i64 (S.l (k * 5 + 3))) (.int .i64 (S.l (k * 5 + 4))) := (((hS.2.kept (Below.heap_setCell _ _ _ _ (by show kb ≠ w.heap.size; have := HKB.out; omega))).kept (Below.heap_setCell _ _ _ _ (by show kb ≠ w.heap.size; have := HKB.out; omega))).kept (Below.heap_setCell _ _ _ _ (by show kb ≠ w.heap.size; have := HKB.out; omega)))
              refine hK.out _ _ ⟨HO.out.1, hB5⟩ (fun hS => ?_)
              clear hK K r0 r1 r2 f0 f1 f2 HD hB5
              generalize (((yd.setCell ⟨w.heap.size, 0, none⟩ (.slice a0 S.nc c0)).setCell ⟨w.heap.size, 1, none⟩ (.slice (some ⟨g, oo, none⟩) S.nl c1)).setCell ⟨w.heap.size, 2, none⟩ (.slice a2 S.nw c2)) = yz at HO hS ⊢
              refine tkH 6 ?_ hS (fun wx hx => ?_) ?_; rotate_left
              · obtain ⟨⟨⟨hx0, hx1, hx2⟩, _⟩, ⟨hy0, hy1, hy2, hy3, hy4⟩, _⟩ := hx; go_simp; try with_reducible rfl
              refine tkH 7 ?_ hS (fun wx hx => ?_) ?_; rotate_left
              · obtain ⟨⟨⟨hx0, hx1, hx2⟩, _⟩, ⟨hy0, hy1, hy2, hy3, hy4⟩, _⟩ := hx; go_simp; try with_reducible rfl
              refine wpAnyH_done (by kernel_rfl) ?_ _
              go_simp
              obtain ⟨⟨q0, q1, q2⟩, _⟩ := HO.out.2.1
              go_wp2
              refine bodyPost_ret (v := .tuple #[.agg #[.slice a0 S.nc c0, .slice (some ⟨g, oo, none⟩) S.nl c1, .slice a2 S.nw c2], .int .i64 (S.l (k * 5)), .int .i64 (S.l (k * 5 + 1))]) (by simp [results, Try.results16, go_sem, q0, q1, q2]) rfl ⟨S, a0, c0, some ⟨g, oo, none⟩, c1, a2, c2, S.l (k * 5), S.l (k * 5 + 1), rfl, HZ.out, HO.out.2.2.1, HO.out.2.2.2, HP.out⟩
            · intro K hK
              go_simp
              have KB : Hid (Blk5 (y1.alloc (.cells #[.int .i64 0, .int .i64 0, .int .i64 0, .int .i64 0, .int .i64 0] 44)) y1.heap.size (.int .i64 0) (.int .i64 0) (.int .i64 0) (.int .i64 0) (.int .i64 0) ∧ OwnIn S (.slice a0 S.nc c0) (.slice (some ⟨g, oo, none⟩) S.nl c1) (.slice a2 S.nw c2) (fun k => k < y1.heap.size) ∧ bx < y1.heap.size) := ⟨Blk5.new _ _ _ _ _ _ _, HD.out.st.ownIn.mono (fun k hk => hk.2), HD.out.box.lt⟩
              have HD : Hid (DrX w b o len cap bx S (.slice a0 S.nc c0) (.slice (some ⟨g, oo, none⟩) S.nl c1) (.slice a2 S.nw c2) (z + 5 + 1 + 1 + 1) (y1.alloc (.cells #[.int .i64 0, .int .i64 0, .int .i64 0, .int .i64 0, .int .i64 0] 44))) := HD.out.later (below_alloc _ _)
              refine hK.out _ _ (show BoxS _ _ _ _ _ from hS.alloc _) (fun hS => ?_)
              clear hK K
              generalize y1.alloc (.cells #[.int .i64 0, .int .i64 0, .int .i64 0, .int .i64 0, .int .i64 0] 44) = y2 at HD KB hS ⊢
              obtain ⟨kb, hkb⟩ : ∃ kb, y1.heap.size = kb := ⟨_, rfl⟩
              rw [hkb] at KB ⊢
              clear hkb
              refine rdH 8 (fun K hK => ?_)
              obtain ⟨g', oo', eg, _, _, k0, k1, k2, k3, k4⟩ := HD.out.st.2.1.at5 hk
              obtain ⟨rfl, rfl⟩ : g = g' ∧ oo = oo' := by simpa using eg
              go_simp
              refine hK.out _ _ hS (fun hS => ?_)
              clear hK K k0 k1 k2 k3 k4 eg
              refine rdH 10 (fun K hK => ?_)
              have HP : Hid (storeF S = 0 → Wf (S.l (k * 5 + 1))) := fun hz => wf_lockS hz hk
              obtain ⟨⟨e0, e1, e2, e3, e4⟩, f0, f1, f2, f3, f4⟩ := KB.out.1
              go_simp
              have HF : Hid (DrX w b o len cap bx S (.slice a0 S.nc c0) (.slice (some ⟨g, oo, none⟩) S.nl c1) (.slice a2 S.nw c2) (z + 5 + 1 + 1 + 1) (((((y2.setCell ⟨kb, 0, none⟩ (.int .i64 (S.l (k * 5)))).setCell ⟨kb, 1, none⟩ (.int .i64 (S.l (k * 5 + 1)))).setCell ⟨kb, 2, none⟩ (.int .i64 (S.l (k * 5 + 2)))).setCell ⟨kb, 3, none⟩ (.int .i64 (S.l (k * 5 + 3)))).setCell ⟨kb, 4, none⟩ (.int .i64 (S.l (k * 5 + 4)))) ∧ Blk5 (((((y2.setCell ⟨kb, 0, none⟩ (.int .i64 (S.l (k * 5)))).setCell ⟨kb, 1, none⟩ (.int .i64 (S.l (k * 5 + 1)))).setCell ⟨kb, 2, none⟩ (.int .i64 (S.l (k * 5 + 2)))).setCell ⟨kb, 3, none⟩ (.int .i64 (S.l (k * 5 + 3)))).setCell ⟨kb, 4, none⟩ (.int .i64 (S.l (k * 5 + 4)))) kb (.int .i64 (S.l (k * 5))) (.int .i64 (S.l (k * 5 + 1))) (.int .i64 (S.l (k * 5 + 2))) (.int .i64 (S.l (k * 5 + 3))) (.int .i64 (S.l (k * 5 + 4)))) := ⟨((((HD.out.setK KB.out.2.1 KB.out.2.2 _ _).setK KB.out.2.1 KB.out.2.2 _ _).setK KB.out.2.1 KB.out.2.2 _ _).setK KB.out.2.1 KB.out.2.2 _ _).setK KB.out.2.1 KB.out.2.2 _ _, KB.out.1.put _ _ _ _ _⟩
              refine hK.out _ _ (show BoxS _ _ _ _ _ from HF.out.1.box) (fun hS => ?_)
              clear hK K
              have HKB : Hid (w.heap.size < kb) := by have := KB.out.2.2; have := HD.out.bl; have := HD.out.lo; exact (by omega : w.heap.size < kb)
              refine wpAnyH_done (by kernel_rfl) ?_ _
              clear hS e0 e1 e2 e3 e4 f0 f1 f2 f3 f4 KB HD
              go_simp
              generalize (((((y2.setCell ⟨kb, 0, none⟩ (.int .i64 (S.l (k * 5)))).setCell ⟨kb, 1, none⟩ (.int .i64 (S.l (k * 5 + 1)))).setCell ⟨kb, 2, none⟩ (.int .i64 (S.l (k * 5 + 2)))).setCell ⟨kb, 3, none⟩ (.int .i64 (S.l (k * 5 + 3)))).setCell ⟨kb, 4, none⟩ (.int .i64 (S.l (k * 5 + 4)))) = yk at HF ⊢
              go_wp2_with fail
              refine wp_region_held_drew (S := fun x => BoxS bx (.slice a0 S.nc c0) (.slice (some ⟨g, oo, none⟩) S.nl c1) (.slice a2 S.nw c2) x ∧ Blk5 x kb (.int .i64 (S.l (k * 5))) (.int .i64 (S.l (k * 5 + 1))) (.int .i64 (S.l (k * 5 + 2))) (.int .i64 (S.l (k * 5 + 3))) (.int .i64 (S.l (k * 5 + 4)))) (by kernel_rfl) ⟨HF.out.1.box.kept rfl, HF.out.2.kept rfl⟩ (fun hS => ?_)
              have HD : Hid (DrX w b o len cap bx S (.slice a0 S.nc c0) (.slice (some ⟨g, oo, none⟩) S.nl c1) (.slice a2 S.nw c2) (z + 5 + 1 + 1 + 1) yk.drew) := HF.out.1.later (below_dr (Below.refl _ _) 1)
              clear HF
              generalize yk.drew = yd at HD hS ⊢
              refine tkH 0 ?_ hS (fun wx hx => ?_) ?_; rotate_left
              · obtain ⟨⟨⟨hx0, hx1, hx2⟩, _⟩, ⟨hy0, hy1, hy2, hy3, hy4⟩, _⟩ := hx; go_simp; try with_reducible rfl
              refine tkH 1 ?_ hS (fun wx hx => ?_) ?_; rotate_left
              · obtain ⟨⟨⟨hx0, hx1, hx2⟩, _⟩, ⟨hy0, hy1, hy2, hy3, hy4⟩, _⟩ := hx; go_simp; try with_reducible rfl
              refine tkH 2 ?_ hS (fun wx hx => ?_) ?_; rotate_left
              · obtain ⟨⟨⟨hx0, hx1, hx2⟩, _⟩, ⟨hy0, hy1, hy2, hy3, hy4⟩, _⟩ := hx; go_simp; try with_reducible rfl
              refine tkH 3 ?_ hS (fun wx hx => ?_) ?_; rotate_left
              · obtain ⟨⟨⟨hx0, hx1, hx2⟩, _⟩, ⟨hy0, hy1, hy2, hy3, hy4⟩, _⟩ := hx; go_simp; try with_reducible rfl
              refine tkH 4 ?_ hS (fun wx hx => ?_) ?_; rotate_left
              · obtain ⟨⟨⟨hx0, hx1, hx2⟩, _⟩, ⟨hy0, hy1, hy2, hy3, hy4⟩, _⟩ := hx; go_simp; try with_reducible rfl
              simp only [Act.put, List.getElem_toArray, List.getElem_cons_zero, List.getElem_cons_succ, List.setIfInBounds_toArray, List.set_cons_succ, List.set_cons_zero]
              obtain ⟨⟨r0, r1, r2⟩, f0, f1, f2⟩ := HD.out.res
              refine rdH 5 (fun K hK => ?_)
              go_simp
              have HO := hid_mk (DrX.out HD.out (.slice a0 S.nc c0) (.slice (some ⟨g, oo, none⟩) S.nl c1) (.slice a2 S.nw c2))
              have HZ := hid_mk HD.out.sz
              have hB5 : Blk5 (((yd.setCell ⟨w.heap.size, 0, none⟩ (.slice a0 S.nc c0)).setCell ⟨w.heap.size, 1, none⟩ (.slice (some ⟨g, oo, none⟩) S.nl c1)).setCell ⟨w.heap.size, 2, none⟩ (.slice a2 S.nw c2)) kb (.int .i64 (S.l (k * 5))) (.int .i64 (S.l (k * 5 + 1))) (.int .i64 (S.l (k * 5 + 2))) (.int .i64 (S.l (k * 5 + 3))) (.int .i64 (S.l (k * 5 + 4))) := (((hS.2.kept (Below.heap_setCell _ _ _ _ (by show kb ≠ w.heap.size; have := HKB.out; omega))).kept (Below.heap_setCell _ _ _ _ (by show kb ≠ w.heap.size; have := HKB.out; omega))).kept (Below.heap_setCell _ _ _ _ (by show kb ≠ w.heap.size; have := HKB.out; omega)))
              refine hK.out _ _ ⟨HO.out.1, hB5⟩ (fun hS => ?_)
              clear hK K r0 r1 r2 f0 f1 f2 HD hB5
              generalize (((yd.setCell ⟨w.heap.size, 0, none⟩ (.slice a0 S.nc c0)).setCell ⟨w.heap.size, 1, none⟩ (.slice (some ⟨g, oo, none⟩) S.nl c1)).setCell ⟨w.heap.size, 2, none⟩ (.slice a2 S.nw c2)) = yz at HO hS ⊢
              refine tkH 6 ?_ hS (fun wx hx => ?_) ?_; rotate_left
              · obtain ⟨⟨⟨hx0, hx1, hx2⟩, _⟩, ⟨hy0, hy1, hy2, hy3, hy4⟩, _⟩ := hx; go_simp; try with_reducible rfl
              refine tkH 7 ?_ hS (fun wx hx => ?_) ?_; rotate_left
              · obtain ⟨⟨⟨hx0, hx1, hx2⟩, _⟩, ⟨hy0, hy1, hy2, hy3, hy4⟩, _⟩ := hx; go_simp; try with_reducible rfl
              refine wpAnyH_done (by kernel_rfl) ?_ _
              go_simp
              obtain ⟨⟨q0, q1, q2⟩, _⟩ := HO.out.2.1
              go_wp2
              refine bodyPost_ret (v := .tuple #[.agg #[.slice a0 S.nc c0, .slice (some ⟨g, oo, none⟩) S.nl c1, .slice a2 S.nw c2], .int .i64 (S.l (k * 5)), .int .i64 (S.l (k * 5 + 1))]) (by simp [results, Try.results16, go_sem, q0, q1, q2]) rfl ⟨S, a0, c0, some ⟨g, oo, none⟩, c1, a2, c2, S.l (k * 5), S.l (k * 5 + 1), rfl, HZ.out, HO.out.2.2.1, HO.out.2.2.2, HP.out⟩
          · intro K hK
            go_simp
            have KB : Hid (Blk5 (y0.alloc (.cells #[.int .i64 0, .int .i64 0, .int .i64 0, .int .i64 0, .int .i64 0] 44)) y0.heap.size (.int .i64 0) (.int .i64 0) (.int .i64 0) (.int .i64 0) (.int .i64 0) ∧ OwnIn S (.slice a0 S.nc c0) (.slice (some ⟨g, oo, none⟩) S.nl c1) (.slice a2 S.nw c2) (fun k => k < y0.heap.size) ∧ bx < y0.heap.size) := ⟨Blk5.new _ _ _ _ _ _ _, HD.out.st.ownIn.mono (fun k hk => hk.2), HD.out.box.lt⟩
            have HD : Hid (DrX w b o len cap bx S (.slice a0 S.nc c0) (.slice (some ⟨g, oo, none⟩) S.nl c1) (.slice a2 S.nw c2) (z + 5 + 1 + 1) (y0.alloc (.cells #[.int .i64 0, .int .i64 0, .int .i64 0, .int .i64 0, .int .i64 0] 44))) := HD.out.later (below_alloc _ _)
            refine hK.out _ _ (show BoxS _ _ _ _ _ from hS.alloc _) (fun hS => ?_)
            clear hK K
            generalize y0.alloc (.cells #[.int .i64 0, .int .i64 0, .int .i64 0, .int .i64 0, .int .i64 0] 44) = y1 at HD KB hS ⊢
            obtain ⟨kb, hkb⟩ : ∃ kb, y0.heap.size = kb := ⟨_, rfl⟩
            rw [hkb] at KB ⊢
            clear hkb
            refine rdH 6 (fun K hK => ?_)
            go_simp
            go_wp2_with fail
            refine (l1Next_any _ b o len cap (z + 5 + 1 + 1) S.nl HD.out.src (by omega) hl).mono ?_
            rintro e y2 ⟨ri, rfl, ri0, ri1, hS1, hT1⟩
            have ri1 := ri1 (by omega)
            obtain ⟨k, rfl⟩ : ∃ k : Nat, ri = k := ⟨ri.toNat, by omega⟩
            have hk : k < S.nl := by omega
            have HD : Hid (DrX w b o len cap bx S (.slice a0 S.nc c0) (.slice (some ⟨g, oo, none⟩) S.nl c1) (.slice a2 S.nw c2) (z + 5 + 1 + 1 + 1) y2) := HD.out.step hT1 hS1
            have KB : Hid (Blk5 y2 kb (.int .i64 0) (.int .i64 0) (.int .i64 0) (.int .i64 0) (.int .i64 0) ∧ OwnIn S (.slice a0 S.nc c0) (.slice (some ⟨g, oo, none⟩) S.nl c1) (.slice a2 S.nw c2) (fun k => k < kb) ∧ bx < kb) := ⟨KB.out.1.kept (hT1.block kb KB.out.1.lt (fun e => by have := Option.some.inj e; have := KB.out.2.2; have := HD.out.bl; omega)), KB.out.2⟩
            have hS' : BoxS bx (.slice a0 S.nc c0) (.slice (some ⟨g, oo, none⟩) S.nl c1) (.slice a2 S.nw c2) y2 := HD.out.box
            clear hS1 hT1 ri0 ri1
            go_wp2_with fail
            refine hK.out _ _ hS' (fun hS => ?_)
            clear hK K hS'
            refine tkH 7 ?_ hS (fun wx hx => ?_) ?_; rotate_left
            · obtain ⟨⟨hx0, hx1, hx2⟩, _⟩ := hx; go_simp; try with_reducible rfl
            simp only [Act.put, List.getElem_toArray, List.getElem_cons_zero, List.getElem_cons_succ, List.setIfInBounds_toArray, List.set_cons_succ, List.set_cons_zero]
            refine rdH 8 (fun K hK => ?_)
            obtain ⟨g', oo', eg, _, _, k0, k1, k2, k3, k4⟩ := HD.out.st.2.1.at5 hk
            obtain ⟨rfl, rfl⟩ : g = g' ∧ oo = oo' := by simpa using eg
            go_simp
            refine hK.out _ _ hS (fun hS => ?_)
            clear hK K k0 k1 k2 k3 k4 eg
            refine rdH 10 (fun K hK => ?_)
            have HP : Hid (storeF S = 0 → Wf (S.l (k * 5 + 1))) := fun hz => wf_lockS hz hk
            obtain ⟨⟨e0, e1, e2, e3, e4⟩, f0, f1, f2, f3, f4⟩ := KB.out.1
            go_simp
            have HF : Hid (DrX w b o len cap bx S (.slice a0 S.nc c0) (.slice (some ⟨g, oo, none⟩) S.nl c1) (.slice a2 S.nw c2) (z + 5 + 1 + 1 + 1) (((((y2.setCell ⟨kb, 0, none⟩ (.int .i64 (S.l (k * 5)))).setCell ⟨kb, 1, none⟩ (.int .i64 (S.l (k * 5 + 1)))).setCell ⟨kb, 2, none⟩ (.int .i64 (S.l (k * 5 + 2)))).setCell ⟨kb, 3, none⟩ (.int .i64 (S.l (k * 5 + 3)))).setCell ⟨kb, 4, none⟩ (.int .i64 (S.l (k * 5 + 4)))) ∧ Blk5 (((((y2.setCell ⟨kb, 0, none⟩ (.int .i64 (S.l (k * 5)))).setCell ⟨kb, 1, none⟩ (.int .i64 (S.l (k * 5 + 1)))).setCell ⟨kb, 2, none⟩ (.int .i64 (S.l (k * 5 + 2)))).setCell ⟨kb, 3, none⟩ (.int .i64 (S.l (k * 5 + 3)))).setCell ⟨kb, 4, none⟩ (.int .i64 (S.l (k * 5 + 4)))) kb (.int .i64 (S.l (k * 5))) (.int .i64 (S.l (k * 5 + 1))) (.int .i64 (S.l (k * 5 + 2))) (.int .i64 (S.l (k * 5 + 3))) (.int .i64 (S.l (k * 5 + 4)))) := ⟨((((HD.out.setK KB.out.2.1 KB.out.2.2 _ _).setK KB.out.2.1 KB.out.2.2 _ _).setK KB.out.2.1 KB.out.2.2 _ _).setK KB.out.2.1 KB.out.2.2 _ _).setK KB.out.2.1 KB.out.2.2 _ _, KB.out.1.put _ _ _ _ _⟩
            refine hK.out _ _ (show BoxS _ _ _ _ _ from HF.out.1.box) (fun hS => ?_)
            clear hK K
            have HKB : Hid (w.heap.size < kb) := by have := KB.out.2.2; have := HD.out.bl; have := HD.out.lo; exact (by omega : w.heap.size < kb)
            refine wpAnyH_done (by kernel_rfl) ?_ _
            clear hS e0 e1 e2 e3 e4 f0 f1 f2 f3 f4 KB HD
            go_simp
            generalize (((((y2.setCell ⟨kb, 0, none⟩ (.int .i64 (S.l (k * 5)))).setCell ⟨kb, 1, none⟩ (.int .i64 (S.l (k * 5 + 1)))).setCell ⟨kb, 2, none⟩ (.int .i64 (S.l (k * 5 + 2)))).setCell ⟨kb, 3, none⟩ (.int .i64 (S.l (k * 5 + 3)))).setCell ⟨kb, 4, none⟩ (.int .i64 (S.l (k * 5 + 4)))) = yk at HF ⊢
            go_wp2_with fail
            refine wp_region_held_drew (S := fun x => BoxS bx (.slice a0 S.nc c0) (.slice (some ⟨g, oo, none⟩) S.nl c1) (.slice a2 S.nw c2) x ∧ Blk5 x kb (.int .i64 (S.l (k * 5))) (.int .i64 (S.l (k * 5 + 1))) (.int .i64 (S.l (k * 5 + 2))) (.int .i64 (S.l (k * 5 + 3))) (.int .i64 (S.l (k * 5 + 4)))) (by kernel_rfl) ⟨HF.out.1.box.kept rfl, HF.out.2.kept rfl⟩ (fun hS => ?_)
            have HD : Hid (DrX w b o len cap bx S (.slice a0 S.nc c0) (.slice (some ⟨g, oo, none⟩) S.nl c1) (.slice a2 S.nw c2) (z + 5 + 1 + 1 + 1) yk.drew) := HF.out.1.later (below_dr (Below.refl _ _) 1)
            clear HF
            generalize yk.drew = yd at HD hS ⊢
            refine tkH 0 ?_ hS (fun wx hx => ?_) ?_; rotate_left
            · obtain ⟨⟨⟨hx0, hx1, hx2⟩, _⟩, ⟨hy0, hy1, hy2, hy3, hy4⟩, _⟩ := hx; go_simp; try with_reducible rfl
            refine tkH 1 ?_ hS (fun wx hx => ?_) ?_; rotate_left
            · obtain ⟨⟨⟨hx0, hx1, hx2⟩, _⟩, ⟨hy0, hy1, hy2, hy3, hy4⟩, _⟩ := hx; go_simp; try with_reducible rfl
            refine tkH 2 ?_ hS (fun wx hx => ?_) ?_; rotate_left
            · obtain ⟨⟨⟨hx0, hx1, hx2⟩, _⟩, ⟨hy0, hy1, hy2, hy3, hy4⟩, _⟩ := hx; go_simp; try with_reducible rfl
            refine tkH 3 ?_ hS (fun wx hx => ?_) ?_; rotate_left
            · obtain ⟨⟨⟨hx0, hx1, hx2⟩, _⟩, ⟨hy0, hy1, hy2, hy3, hy4⟩, _⟩ := hx; go_simp; try with_reducible rfl
            refine tkH 4 ?_ hS (fun wx hx => ?_) ?_; rotate_left
            · obtain ⟨⟨⟨hx0, hx1, hx2⟩, _⟩, ⟨hy0, hy1, hy2, hy3, hy4⟩, _⟩ := hx; go_simp; try with_reducible rfl
            simp only [Act.put, List.getElem_toArray, List.getElem_cons_zero, List.getElem_cons_succ, List.setIfInBounds_toArray, List.set_cons_succ, List.set_cons_zero]
            obtain ⟨⟨r0, r1, r2⟩, f0, f1, f2⟩ := HD.out.res
            refine rdH 5 (fun K hK => ?_)
            go_simp
            have HO := hid_mk (DrX.out HD.out (.slice a0 S.nc c0) (.slice (some ⟨g, oo, none⟩) S.nl c1) (.slice a2 S.nw c2))
            have HZ := hid_mk HD.out.sz
            have hB5 : Blk5 (((yd.setCell ⟨w.heap.size, 0, none⟩ (.slice a0 S.nc c0)).setCell ⟨w.heap.size, 1, none⟩ (.slice (some ⟨g, oo, none⟩) S.nl c1)).setCell ⟨w.heap.size, 2, none⟩ (.slice a2 S.nw c2)) kb (.int .i64 (S.l (k * 5))) (.int .i64 (S.l (k * 5 + 1))) (.int .i64 (S.l (k * 5 + 2))) (.int .i64 (S.l (k * 5 + 3))) (.int .i64 (S.l (k * 5 + 4))) := (((hS.2.kept (Below.heap_setCell _ _ _ _ (by show kb ≠ w.heap.size; have := HKB.out; omega))).kept (Below.heap_setCell _ _ _ _ (by show kb ≠ w.heap.size; have := HKB.out; omega))).kept (Below.heap_setCell _ _ _ _ (by show kb ≠ w.heap.size; have := HKB.out; omega)))
            refine hK.out _ _ ⟨HO.out.1, hB5⟩ (fun hS => ?_)
            clear hK K r0 r1 r2 f0 f1 f2 HD hB5
            generalize (((yd.setCell ⟨w.heap.size, 0, none⟩ (.slice a0 S.nc c0)).setCell ⟨w.heap.size, 1, none⟩ (.slice (some ⟨g, oo, none⟩) S.nl c1)).setCell ⟨w.heap.size, 2, none⟩ (.slice a2 S.nw c2)) = yz at HO hS ⊢
            refine tkH 6 ?_ hS (fun wx hx => ?_) ?_; rotate_left
            · obtain ⟨⟨⟨hx0, hx1, hx2⟩, _⟩, ⟨hy0, hy1, hy2, hy3, hy4⟩, _⟩ := hx; go_simp; try with_reducible rfl
            refine tkH 7 ?_ hS (fun wx hx => ?_) ?_; rotate_left
            · obtain ⟨⟨⟨hx0, hx1, hx2⟩, _⟩, ⟨hy0, hy1, hy2, hy3, hy4⟩, _⟩ := hx; go_simp; try with_reducible rfl
            refine wpAnyH_done (by kernel_rfl) ?_ _
            go_simp
            obtain ⟨⟨q0, q1, q2⟩, _⟩ := HO.out.2.1
            go_wp2
            refine bodyPost_ret (v := .tuple #[.agg #[.slice a0 S.nc c0, .slice (some ⟨g, oo, none⟩) S.nl c1, .slice a2 S.nw c2], .int .i64 (S.l (k * 5)), .int .i64 (S.l (k * 5 + 1))]) (by simp [results, Try.results16, go_sem, q0, q1, q2]) rfl ⟨S, a0, c0, some ⟨g, oo, none⟩, c1, a2, c2, S.l (k * 5), S.l (k * 5 + 1), rfl, HZ.out, HO.out.2.2.1, HO.out.2.2.2, HP.out⟩
        · have dn : decide (0 < S.nl) = false := decide_eq_false hnl
          obtain ⟨⟨t0, t1, t2⟩, _⟩ := HD.out.box
          go_wp2_with fail
          go_meet
          case rel => exact ⟨rfl, _, ⟨by omega, by omega⟩, HD⟩
    iterate 2
      · by_cases hnl : 0 < S.nw
        · have dn : decide (0 < S.nw) = true := decide_eq_true hnl
          obtain ⟨⟨t0, t1, t2⟩, _⟩ := HD.out.box
          obtain ⟨g, oo, rfl, _⟩ := HD.out.st.2.2.at hnl
          go_wp2_with fail
          clear t0 t1 t2 dn
          refine wp_region_held_drew (S := BoxS bx (.slice a0 S.nc c0) (.slice a1 S.nl c1) (.slice (some ⟨g, oo, none⟩) S.nw c2)) (by kernel_rfl) (HD.out.box.kept rfl) (fun hS => ?_)
          have HD : Hid (DrX w b o len cap bx S (.slice a0 S.nc c0) (.slice a1 S.nl c1) (.slice (some ⟨g, oo, none⟩) S.nw c2) (z + 5 + 1 + 1) w6.drew) := HD.out.later (below_dr (Below.refl _ _) 1)
          generalize w6.drew = y0 at HD hS ⊢
          refine tkH 0 ?_ hS (fun wx hx => ?_) ?_; rotate_left
          · obtain ⟨⟨hx0, hx1, hx2⟩, _⟩ := hx; go_simp; try with_reducible rfl
          refine tkH 1 ?_ hS (fun wx hx => ?_) ?_; rotate_left
          · obtain ⟨⟨hx0, hx1, hx2⟩, _⟩ := hx; go_simp; try with_reducible rfl
          refine tkH 2 ?_ hS (fun wx hx => ?_) ?_; rotate_left
          · obtain ⟨⟨hx0, hx1, hx2⟩, _⟩ := hx; go_simp; try with_reducible rfl
          refine tkH 3 ?_ hS (fun wx hx => ?_) ?_; rotate_left
          · obtain ⟨⟨hx0, hx1, hx2⟩, _⟩ := hx; go_simp; try with_reducible rfl
          refine tkH 4 ?_ hS (fun wx hx => ?_) ?_; rotate_left
          · obtain ⟨⟨hx0, hx1, hx2⟩, _⟩ := hx; go_simp; try with_reducible rfl
          refine tkH 5 ?_ hS (fun wx hx => ?_) ?_; rotate_left
          · obtain ⟨⟨hx0, hx1, hx2⟩, _⟩ := hx; go_simp; try with_reducible rfl
          simp only [Act.put, List.getElem_toArray, List.getElem_cons_zero, List.getElem_cons_succ, List.setIfInBounds_toArray, List.set_cons_succ, List.set_cons_zero]
          refine wpAnyH_ready (rs := [6, 9]) (by kernel_rfl) (by simp) ?_
          refine AllReadyH.cons rfl ?_ (AllReadyH.cons rfl ?_ AllReadyH.nil)
          · intro K hK
            go_simp
            go_wp2_with fail
            refine (l1Next_any _ b o len cap (z + 5 + 1 + 1) S.nw HD.out.src (by omega) hl).mono ?_
            rintro e y1 ⟨ri, rfl, ri0, ri1, hS1, hT1⟩
            have ri1 := ri1 (by omega)
            obtain ⟨k, rfl⟩ : ∃ k : Nat, ri = k := ⟨ri.toNat, by omega⟩
            have hk : k < S.nw := by omega
            have HD : Hid (DrX w b o len cap bx S (.slice a0 S.nc c0) (.slice a1 S.nl c1) (.slice (some ⟨g, oo, none⟩) S.nw c2) (z + 5 + 1 + 1 + 1) y1) := HD.out.step hT1 hS1
            have hS' : BoxS bx (.slice a0 S.nc c0) (.slice a1 S.nl c1) (.slice (some ⟨g, oo, none⟩) S.nw c2) y1 := HD.out.box
            clear hS1 hT1 ri0 ri1
            go_wp2_with fail
            refine hK.out _ _ hS' (fun hS => ?_)
            clear hK K hS'
            refine tkH 7 ?_ hS (fun wx hx => ?_) ?_; rotate_left
            · obtain ⟨⟨hx0, hx1, hx2⟩, _⟩ := hx; go_simp; try with_reducible rfl
            simp only [Act.put, List.getElem_toArray, List.getElem_cons_zero, List.getElem_cons_succ, List.setIfInBounds_toArray, List.set_cons_succ, List.set_cons_zero]
            refine wpAnyH_ready (rs := [8, 9]) (by kernel_rfl) (by simp) ?_
            refine AllReadyH.cons rfl ?_ (AllReadyH.cons rfl ?_ AllReadyH.nil)
            · intro K hK
              obtain ⟨g', oo', eg, _, _, k0, k1, k2, k3⟩ := HD.out.st.2.2.at4 hk
              obtain ⟨rfl, rfl⟩ : g = g' ∧ oo = oo' := by simpa using eg
              go_simp
              refine hK.out _ _ hS (fun hS => ?_)
              clear hK K k0 k1 k2 k3 eg
              refine rdH 9 (fun K hK => ?_)
              go_simp
              have KB : Hid (Blk4 (y1.alloc (.cells #[.int .i64 0, .int .i64 0, .int .i64 0, .int .i64 0] 42)) y1.heap.size (.int .i64 0) (.int .i64 0) (.int .i64 0) (.int .i64 0) ∧ OwnIn S (.slice a0 S.nc c0) (.slice a1 S.nl c1) (.slice (some ⟨g, oo, none⟩) S.nw c2) (fun k => k < y1.heap.size) ∧ bx < y1.heap.size) := ⟨Blk4.new _ _ _ _ _ _, HD.out.st.ownIn.mono (fun k hk => hk.2), HD.out.box.lt⟩
              have HD : Hid (DrX w b o len cap bx S (.slice a0 S.nc c0) (.slice a1 S.nl c1) (.slice (some ⟨g, oo, none⟩) S.nw c2) (z + 5 + 1 + 1 + 1) (y1.alloc (.cells #[.int .i64 0, .int .i64 0, .int .i64 0, .int .i64 0] 42))) := HD.out.later (below_alloc _ _)
              refine hK.out _ _ (show BoxS _ _ _ _ _ from hS.alloc _) (fun hS => ?_)
              clear hK K
              generalize y1.alloc (.cells #[.int .i64 0, .int .i64 0, .int .i64 0, .int .i64 0] 42) = y2 at HD KB hS ⊢
              obtain ⟨kb, hkb⟩ : ∃ kb, y1.heap.size = kb := ⟨_, rfl⟩
              rw [hkb] at KB ⊢
              clear hkb
              refine rdH 10 (fun K hK => ?_)
              obtain ⟨⟨e0, e1, e2, e3⟩, f0, f1, f2, f3⟩ := KB.out.1
              go_simp
              have HF : Hid (DrX w b o len cap bx S (.slice a0 S.nc c0) (.slice a1 S.nl c1) (.slice (some ⟨g, oo, none⟩) S.nw c2) (z + 5 + 1 + 1 + 1) ((((y2.setCell ⟨kb, 0, none⟩ (.int .i64 (S.k (k * 4)))).setCell ⟨kb, 1, none⟩ (.int .i64 (S.k (k * 4 + 1)))).setCell ⟨kb, 2, none⟩ (.int .i64 (S.k (k * 4 + 2)))).setCell ⟨kb, 3, none⟩ (.int .i64 (S.k (k * 4 + 3)))) ∧ Blk4 ((((y2.setCell ⟨kb, 0, none⟩ (.int .i64 (S.k (k * 4)))).setCell ⟨kb, 1, none⟩ (.int .i64 (S.k (k * 4 + 1)))).setCell ⟨kb, 2, none⟩ (.int .i64 (S.k (k * 4 + 2)))).setCell ⟨kb, 3, none⟩ (.int .i64 (S.k (k * 4 + 3)))) kb (.int .i64 (S.k (k * 4))) (.int .i64 (S.k (k * 4 + 1))) (.int .i64 (S.k (k * 4 + 2))) (.int .i64 (S.k (k * 4 + 3)))) := ⟨(((HD.out.setK KB.out.2.1 KB.out.2.2 _ _).setK KB.out.2.1 KB.out.2.2 _ _).setK KB.out.2.1 KB.out.2.2 _ _).setK KB.out.2.1 KB.out.2.2 _ _, KB.out.1.put _ _ _ _⟩
              refine hK.out _ _ (show BoxS _ _ _ _ _ from HF.out.1.box) (fun hS => ?_)
              clear hK K
              have HKB : Hid (w.heap.size < kb) := by have := KB.out.2.2; have := HD.out.bl; have := HD.out.lo; exact (by omega : w.heap.size < kb)
              have HKX : Hid (bx < kb) := KB.out.2.2
              refine wpAnyH_done (by kernel_rfl) ?_ _
              clear hS e0 e1 e2 e3 f0 f1 f2 f3 KB HD
              go_simp
              generalize ((((y2.setCell ⟨kb, 0, none⟩ (.int .i64 (S.k (k * 4)))).setCell ⟨kb, 1, none⟩ (.int .i64 (S.k (k * 4 + 1)))).setCell ⟨kb, 2, none⟩ (.int .i64 (S.k (k * 4 + 2)))).setCell ⟨kb, 3, none⟩ (.int .i64 (S.k (k * 4 + 3)))) = yk at HF ⊢
              go_wp2_with fail
              refine wp_region_held_drew (S := fun x => BoxS bx (.slice a0 S.nc c0) (.slice a1 S.nl c1) (.slice (some ⟨g, oo, none⟩) S.nw c2) x ∧ Blk4 x kb (.int .i64 (S.k (k * 4))) (.int .i64 (S.k (k * 4 + 1))) (.int .i64 (S.k (k * 4 + 2))) (.int .i64 (S.k (k * 4 + 3)))) (by kernel_rfl) ⟨HF.out.1.box.kept rfl, HF.out.2.kept rfl⟩ (fun hS => ?_)
              have HD : Hid (DrX w b o len cap bx S (.slice a0 S.nc c0) (.slice a1 S.nl c1) (.slice (some ⟨g, oo, none⟩) S.nw c2) (z + 5 + 1 + 1 + 1) yk.drew) := HF.out.1.later (below_dr (Below.refl _ _) 1)
              clear HF
              generalize yk.drew = yd at HD hS ⊢
              refine tkH 0 ?_ hS (fun wx hx => ?_) ?_; rotate_left
              · obtain ⟨⟨⟨hx0, hx1, hx2⟩, _⟩, ⟨hy0, hy1, hy2, hy3⟩, _⟩ := hx; go_simp; try with_reducible rfl
              refine tkH 1 ?_ hS (fun wx hx => ?_) ?_; rotate_left
              · obtain ⟨⟨⟨hx0, hx1, hx2⟩, _⟩, ⟨hy0, hy1, hy2, hy3⟩, _⟩ := hx; go_simp; try with_reducible rfl
              refine tkH 2 ?_ hS (fun wx hx => ?_) ?_; rotate_left
              · obtain ⟨⟨⟨hx0, hx1, hx2⟩, _⟩, ⟨hy0, hy1, hy2, hy3⟩, _⟩ := hx; go_simp; try with_reducible rfl
              refine tkH 3 ?_ hS (fun wx hx => ?_) ?_; rotate_left
              · obtain ⟨⟨⟨hx0, hx1, hx2⟩, _⟩, ⟨hy0, hy1, hy2, hy3⟩, _⟩ := hx; go_simp; try with_reducible rfl
              refine tkH 4 ?_ hS (fun wx hx => ?_) ?_; rotate_left
              · obtain ⟨⟨⟨hx0, hx1, hx2⟩, _⟩, ⟨hy0, hy1, hy2, hy3⟩, _⟩ := hx; go_simp; try with_reducible rfl
              refine tkH 5 ?_ hS (fun wx hx => ?_) ?_; rotate_left
              · obtain ⟨⟨⟨hx0, hx1, hx2⟩, _⟩, ⟨hy0, hy1, hy2, hy3⟩, _⟩ := hx; go_simp; try with_reducible rfl
              refine tkH 6 ?_ hS (fun wx hx => ?_) ?_; rotate_left
              · obtain ⟨⟨⟨hx0, hx1, hx2⟩, _⟩, ⟨hy0, hy1, hy2, hy3⟩, _⟩ := hx; go_simp; try with_reducible rfl
              refine tkH 7 ?_ hS (fun wx hx => ?_) ?_; rotate_left
              · obtain ⟨⟨⟨hx0, hx1, hx2⟩, _⟩, ⟨hy0, hy1, hy2, hy3⟩, _⟩ := hx; go_simp; try with_reducible rfl
              refine tkH 8 ?_ hS (fun wx hx => ?_) ?_; rotate_left
              · obtain ⟨⟨⟨hx0, hx1, hx2⟩, _⟩, ⟨hy0, hy1, hy2, hy3⟩, _⟩ := hx; go_simp; try with_reducible rfl
              refine tkH 9 ?_ hS (fun wx hx => ?_) ?_; rotate_left
              · obtain ⟨⟨⟨hx0, hx1, hx2⟩, _⟩, ⟨hy0, hy1, hy2, hy3⟩, _⟩ := hx; go_simp; try with_reducible rfl
              refine tkH 10 ?_ hS (fun wx hx => ?_) ?_; rotate_left
              · obtain ⟨⟨⟨hx0, hx1, hx2⟩, _⟩, ⟨hy0, hy1, hy2, hy3⟩, _⟩ := hx; go_simp; try with_reducible rfl
              simp only [Act.put, List.getElem_toArray, List.getElem_cons_zero, List.getElem_cons_succ, List.setIfInBounds_toArray, List.set_cons_succ, List.set_cons_zero]
              obtain ⟨cm, hcm⟩ : ∃ cm, cm = IntKind.i64.wrap (S.k (k * 4 + 1) - 1) := ⟨_, rfl⟩
              rw [← hcm]
              have HC : Hid (Wf cm) := by rw [hcm]; exact wf_wrap _ _
              clear hcm
              refine rdH 11 (fun K hK => ?_)
              go_simp
              have HI : Hid (Ints (yd.alloc (.cells #[.int .i64 (S.k (k * 4 + 2)), .int .i64 (S.k (k * 4 + 1)), .int .i64 cm] 2)) yd.heap.size (.slice (some ⟨yd.heap.size, 0, none⟩) 3 3) [S.k (k * 4 + 2), S.k (k * 4 + 1), cm]) := World.ownsRow_lit yd #[.int .i64 (S.k (k * 4 + 2)), .int .i64 (S.k (k * 4 + 1)), .int .i64 cm] 3 (Nat.le_refl _) (by decide) rfl
              have HG : Hid (b < yd.heap.size) := HD.out.src.lt
              have HD : Hid (DrX w b o len cap bx S (.slice a0 S.nc c0) (.slice a1 S.nl c1) (.slice (some ⟨g, oo, none⟩) S.nw c2) (z + 5 + 1 + 1 + 1) (yd.alloc (.cells #[.int .i64 (S.k (k * 4 + 2)), .int .i64 (S.k (k * 4 + 1)), .int .i64 cm] 2))) := HD.out.later (below_alloc _ _)
              refine hK.out _ _ ⟨show BoxS _ _ _ _ _ from hS.1.alloc _, hS.2.alloc _⟩ (fun hS => ?_)
              clear hK K
              generalize yd.alloc (.cells #[.int .i64 (S.k (k * 4 + 2)), .int .i64 (S.k (k * 4 + 1)), .int .i64 cm] 2) = ye at HD HI hS ⊢
              refine rdH 12 (fun K hK => ?_)
              go_simp
              go_wp2_with fail
              refine (l1Pick_any _ b o len cap (z + 5 + 1 + 1 + 1) _ yd.heap.size [S.k (k * 4 + 2), S.k (k * 4 + 1), cm] HD.out.src (by omega) hl HI.out HG.out (by simp) (by simp)).mono ?_
              rintro e yf ⟨pt, rfl, hpt, hS1, hT1⟩
              have HP : Hid (storeF S = 0 → Wf pt) := fun hz => wf_writeS hz hk HC.out hpt
              clear hpt
              have HN : Hid (kb ≠ b) := by have := HKX.out; have := HD.out.bl; exact (by omega : kb ≠ b)
              have HD : Hid (DrX w b o len cap bx S (.slice a0 S.nc c0) (.slice a1 S.nl c1) (.slice (some ⟨g, oo, none⟩) S.nw c2) (z + 5 + 1 + 1 + 1 + 1) yf) := HD.out.step hT1 hS1
              have hS' : BoxS bx (.slice a0 S.nc c0) (.slice a1 S.nl c1) (.slice (some ⟨g, oo, none⟩) S.nw c2) yf ∧ Blk4 yf kb (.int .i64 (S.k (k * 4))) (.int .i64 (S.k (k * 4 + 1))) (.int .i64 (S.k (k * 4 + 2))) (.int .i64 (S.k (k * 4 + 3))) := ⟨HD.out.box, hS.2.kept (hT1.block kb hS.2.lt (fun e => HN.out (Option.some.inj e)))⟩
              clear hS1 hT1 HI HG
              go_wp2_with fail
              refine hK.out _ _ hS' (fun hS => ?_)
              clear hK K hS'
              obtain ⟨⟨r0, r1, r2⟩, f0, f1, f2⟩ := HD.out.res
              refine rdH 13 (fun K hK => ?_)
              go_simp
              have HO := hid_mk (DrX.out HD.out (.slice a0 S.nc c0) (.slice a1 S.nl c1) (.slice (some ⟨g, oo, none⟩) S.nw c2))
              have HZ := hid_mk HD.out.sz
              have hB5 : Blk4 (((yf.setCell ⟨w.heap.size, 0, none⟩ (.slice a0 S.nc c0)).setCell ⟨w.heap.size, 1, none⟩ (.slice a1 S.nl c1)).setCell ⟨w.heap.size, 2, none⟩ (.slice (some ⟨g, oo, none⟩) S.nw c2)) kb (.int .i64 (S.k (k * 4))) (.int .i64 (S.k (k * 4 + 1))) (.int .i64 (S.k (k * 4 + 2))) (.int .i64 (S.k (k * 4 + 3))) := (((hS.2.kept (Below.heap_setCell _ _ _ _ (by show kb ≠ w.heap.size; have := HKB.out; omega))).kept (Below.heap_setCell _ _ _ _ (by show kb ≠ w.heap.size; have := HKB.out; omega))).kept (Below.heap_setCell _ _ _ _ (by show kb ≠ w.heap.size; have := HKB.out; omega)))
              refine hK.out _ _ ⟨HO.out.1, hB5⟩ (fun hS => ?_)
              clear hK K r0 r1 r2 f0 f1 f2 HD hB5
              generalize (((yf.setCell ⟨w.heap.size, 0, none⟩ (.slice a0 S.nc c0)).setCell ⟨w.heap.size, 1, none⟩ (.slice a1 S.nl c1)).setCell ⟨w.heap.size, 2, none⟩ (.slice (some ⟨g, oo, none⟩) S.nw c2)) = yz at HO hS ⊢
              refine tkH 14 ?_ hS (fun wx hx => ?_) ?_; rotate_left
              · obtain ⟨⟨⟨hx0, hx1, hx2⟩, _⟩, ⟨hy0, hy1, hy2, hy3⟩, _⟩ := hx; go_simp; try with_reducible rfl
              refine tkH 15 ?_ hS (fun wx hx => ?_) ?_; rotate_left
              · obtain ⟨⟨⟨hx0, hx1, hx2⟩, _⟩, ⟨hy0, hy1, hy2, hy3⟩, _⟩ := hx; go_simp; try with_reducible rfl
              refine wpAnyH_done (by kernel_rfl) ?_ _
              go_simp
              obtain ⟨⟨q0, q1, q2⟩, _⟩ := HO.out.2.1
              go_wp2
              refine bodyPost_ret (v := .tuple #[.agg #[.slice a0 S.nc c0, .slice a1 S.nl c1, .slice (some ⟨g, oo, none⟩) S.nw c2], .int .i64 (S.k (k * 4)), .int .i64 (pt)]) (by simp [results, Try.results16, go_sem, q0, q1, q2]) rfl ⟨S, a0, c0, a1, c1, some ⟨g, oo, none⟩, c2, S.k (k * 4), pt, rfl, HZ.out, HO.out.2.2.1, HO.out.2.2.2, HP.out⟩
            · intro K hK
              go_simp
              have KB : Hid (Blk4 (y1.alloc (.cells #[.int .i64 0, .int .i64 0, .int .i64 0, .int .i64 0] 42)) y1.heap.size (.int .i64 0) (.int .i64 0) (.int .i64 0) (.int .i64 0) ∧ OwnIn S (.slice a0 S.nc c0) (.slice a1 S.nl c1) (.slice (some ⟨g, oo, none⟩) S.nw c2) (fun k => k < y1.heap.size) ∧ bx < y1.heap.size) := ⟨Blk4.new _ _ _ _ _ _, HD.out.st.ownIn.mono (fun k hk => hk.2), HD.out.box.lt⟩
              have HD : Hid (DrX w b o len cap bx S (.slice a0 S.nc c0) (.slice a1 S.nl c1) (.slice (some ⟨g, oo, none⟩) S.nw c2) (z + 5 + 1 + 1 + 1) (y1.alloc (.cells #[.int .i64 0, .int .i64 0, .int .i64 0, .int .i64 0] 42))) := HD.out.later (below_alloc _ _)
              refine hK.out _ _ (show BoxS _ _ _ _ _ from hS.alloc _) (fun hS => ?_)
              clear hK K
              generalize y1.alloc (.cells #[.int .i64 0, .int .i64 0, .int .i64 0, .int .i64 0] 42) = y2 at HD KB hS ⊢
              obtain ⟨kb, hkb⟩ : ∃ kb, y1.heap.size = kb := ⟨_, rfl⟩
              rw [hkb] at KB ⊢
              clear hkb
              refine rdH 8 (fun K hK => ?_)
              obtain ⟨g', oo', eg, _, _, k0, k1, k2, k3⟩ := HD.out.st.2.2.at4 hk
              obtain ⟨rfl, rfl⟩ : g = g' ∧ oo = oo' := by simpa using eg
              go_simp
              refine hK.out _ _ hS (fun hS => ?_)
              clear hK K k0 k1 k2 k3 eg
              refine rdH 10 (fun K hK => ?_)
              obtain ⟨⟨e0, e1, e2, e3⟩, f0, f1, f2, f3⟩ := KB.out.1
              go_simp
              have HF : Hid (DrX w b o len cap bx S (.slice a0 S.nc c0) (.slice a1 S.nl c1) (.slice (some ⟨g, oo, none⟩) S.nw c2) (z + 5 + 1 + 1 + 1) ((((y2.setCell ⟨kb, 0, none⟩ (.int .i64 (S.k (k * 4)))).setCell ⟨kb, 1, none⟩ (.int .i64 (S.k (k * 4 + 1)))).setCell ⟨kb, 2, none⟩ (.int .i64 (S.k (k * 4 + 2)))).setCell ⟨kb, 3, none⟩ (.int .i64 (S.k (k * 4 + 3)))) ∧ Blk4 ((((y2.setCell ⟨kb, 0, none⟩ (.int .i64 (S.k (k * 4)))).setCell ⟨kb, 1, none⟩ (.int .i64 (S.k (k * 4 + 1)))).setCell ⟨kb, 2, none⟩ (.int .i64 (S.k (k * 4 + 2)))).setCell ⟨kb, 3, none⟩ (.int .i64 (S.k (k * 4 + 3)))) kb (.int .i64 (S.k (k * 4))) (.int .i64 (S.k (k * 4 + 1))) (.int .i64 (S.k (k * 4 + 2))) (.int .i64 (S.k (k * 4 + 3)))) := ⟨(((HD.out.setK KB.out.2.1 KB.out.2.2 _ _).setK KB.out.2.1 KB.out.2.2 _ _).setK KB.out.2.1 KB.out.2.2 _ _).setK KB.out.2.1 KB.out.2.2 _ _, KB.out.1.put _ _ _ _⟩
              refine hK.out _ _ (show BoxS _ _ _ _ _ from HF.out.1.box) (fun hS => ?_)
              clear hK K
              have HKB : Hid (w.heap.size < kb) := by have := KB.out.2.2; have := HD.out.bl; have := HD.out.lo; exact (by omega : w.heap.size < kb)
              have HKX : Hid (bx < kb) := KB.out.2.2
              refine wpAnyH_done (by kernel_rfl) ?_ _
              clear hS e0 e1 e2 e3 f0 f1 f2 f3 KB HD
              go_simp
              generalize ((((y2.setCell ⟨kb, 0, none⟩ (.int .i64 (S.k (k * 4)))).setCell ⟨kb, 1, none⟩ (.int .i64 (S.k (k * 4 + 1)))).setCell ⟨kb, 2, none⟩ (.int .i64 (S.k (k * 4 + 2)))).setCell ⟨kb, 3, none⟩ (.int .i64 (S.k (k * 4 + 3)))) = yk at HF ⊢
              go_wp2_with fail
              refine wp_region_held_drew (S := fun x => BoxS bx (.slice a0 S.nc c0) (.slice a1 S.nl c1) (.slice (some ⟨g, oo, none⟩) S.nw c2) x ∧ Blk4 x kb (.int .i64 (S.k (k * 4))) (.int .i64 (S.k (k * 4 + 1))) (.int .i64 (S.k (k * 4 + 2))) (.int .i64 (S.k (k * 4 + 3)))) (by kernel_rfl) ⟨HF.out.1.box.kept rfl, HF.out.2.kept rfl⟩ (fun hS => ?_)
              have HD : Hid (DrX w b o len cap bx S (.slice a0 S.nc c0) (.slice a1 S.nl c1) (.slice (some ⟨g, oo, none⟩) S.nw c2) (z + 5 + 1 + 1 + 1) yk.drew) := HF.out.1.later (below_dr (Below.refl _ _) 1)
              clear HF
              generalize yk.drew = yd at HD hS ⊢
              refine tkH 0 ?_ hS (fun wx hx => ?_) ?_; rotate_left
              · obtain ⟨⟨⟨hx0, hx1, hx2⟩, _⟩, ⟨hy0, hy1, hy2, hy3⟩, _⟩ := hx; go_simp; try with_reducible rfl
              refine tkH 1 ?_ hS (fun wx hx => ?_) ?_; rotate_left
              · obtain ⟨⟨⟨hx0, hx1, hx2⟩, _⟩, ⟨hy0, hy1, hy2, hy3⟩, _⟩ := hx; go_simp; try with_reducible rfl
              refine tkH 2 ?_ hS (fun wx hx => ?_) ?_; rotate_left
              · obtain ⟨⟨⟨hx0, hx1, hx2⟩, _⟩, ⟨hy0, hy1, hy2, hy3⟩, _⟩ := hx; go_simp; try with_reducible rfl
              refine tkH 3 ?_ hS (fun wx hx => ?_) ?_; rotate_left
              · obtain ⟨⟨⟨hx0, hx1, hx2⟩, _⟩, ⟨hy0, hy1, hy2, hy3⟩, _⟩ := hx; go_simp; try with_reducible rfl
              refine tkH 4 ?_ hS (fun wx hx => ?_) ?_; rotate_left
              · obtain ⟨⟨⟨hx0, hx1, hx2⟩, _⟩, ⟨hy0, hy1, hy2, hy3⟩, _⟩ := hx; go_simp; try with_reducible rfl
              refine tkH 5 ?_ hS (fun wx hx => ?_) ?_; rotate_left
              · obtain ⟨⟨⟨hx0, hx1, hx2⟩, _⟩, ⟨hy0, hy1, hy2, hy3⟩, _⟩ := hx; go_simp; try with_reducible rfl
              refine tkH 6 ?_ hS (fun wx hx => ?_) ?_; rotate_left
              · obtain ⟨⟨⟨hx0, hx1, hx2⟩, _⟩, ⟨hy0, hy1, hy2, hy3⟩, _⟩ := hx; go_simp; try with_reducible rfl
              refine tkH 7 ?_ hS (fun wx hx => ?_) ?_; rotate_left
              · obtain ⟨⟨⟨hx0, hx1, hx2⟩, _⟩, ⟨hy0, hy1, hy2, hy3⟩, _⟩ := hx; go_simp; try with_reducible rfl
              refine tkH 8 ?_ hS (fun wx hx => ?_) ?_; rotate_left
              · obtain ⟨⟨⟨hx0, hx1, hx2⟩, _⟩, ⟨hy0, hy1, hy2, hy3⟩, _⟩ := hx; go_simp; try with_reducible rfl
              refine tkH 9 ?_ hS (fun wx hx => ?_) ?_; rotate_left
              · obtain ⟨⟨⟨hx0, hx1, hx2⟩, _⟩, ⟨hy0, hy1, hy2, hy3⟩, _⟩ := hx; go_simp; try with_reducible rfl
              refine tkH 10 ?_ hS (fun wx hx => ?_) ?_; rotate_left
              · obtain ⟨⟨⟨hx0, hx1, hx2⟩, _⟩, ⟨hy0, hy1, hy2, hy3⟩, _⟩ := hx; go_simp; try with_reducible rfl
              simp only [Act.put, List.getElem_toArray, List.getElem_cons_zero, List.getElem_cons_succ, List.setIfInBounds_toArray, List.set_cons_succ, List.set_cons_zero]
              obtain ⟨cm, hcm⟩ : ∃ cm, cm = IntKind.i64.wrap (S.k (k * 4 + 1) - 1) := ⟨_, rfl⟩
              rw [← hcm]
              have HC : Hid (Wf cm) := by rw [hcm]; exact wf_wrap _ _
              clear hcm
              refine rdH 11 (fun K hK => ?_)
              go_simp
              have HI : Hid (Ints (yd.alloc (.cells #[.int .i64 (S.k (k * 4 + 2)), .int .i64 (S.k (k * 4 + 1)), .int .i64 cm] 2)) yd.heap.size (.slice (some ⟨yd.heap.size, 0, none⟩) 3 3) [S.k (k * 4 + 2), S.k (k * 4 + 1), cm]) := World.ownsRow_lit yd #[.int .i64 (S.k (k * 4 + 2)), .int .i64 (S.k (k * 4 + 1)), .int .i64 cm] 3 (Nat.le_refl _) (by decide) rfl
              have HG : Hid (b < yd.heap.size) := HD.out.src.lt
              have HD : Hid (DrX w b o len cap bx S (.slice a0 S.nc c0) (.slice a1 S.nl c1) (.slice (some ⟨g, oo, none⟩) S.nw c2) (z + 5 + 1 + 1 + 1) (yd.alloc (.cells #[.int .i64 (S.k (k * 4 + 2)), .int .i64 (S.k (k * 4 + 1)), .int .i64 cm] 2))) := HD.out.later (below_alloc _ _)
              refine hK.out _ _ ⟨show BoxS _ _ _ _ _ from hS.1.alloc _, hS.2.alloc _⟩ (fun hS => ?_)
              clear hK K
              generalize yd.alloc (.cells #[.int .i64 (S.k (k * 4 + 2)), .int .i64 (S.k (k * 4 + 1)), .int .i64 cm] 2) = ye at HD HI hS ⊢
              refine rdH 12 (fun K hK => ?_)
              go_simp
              go_wp2_with fail
              refine (l1Pick_any _ b o len cap (z + 5 + 1 + 1 + 1) _ yd.heap.size [S.k (k * 4 + 2), S.k (k * 4 + 1), cm] HD.out.src (by omega) hl HI.out HG.out (by simp) (by simp)).mono ?_
              rintro e yf ⟨pt, rfl, hpt, hS1, hT1⟩
              have HP : Hid (storeF S = 0 → Wf pt) := fun hz => wf_writeS hz hk HC.out hpt
              clear hpt
              have HN : Hid (kb ≠ b) := by have := HKX.out; have := HD.out.bl; exact (by omega : kb ≠ b)
              have HD : Hid (DrX w b o len cap bx S (.slice a0 S.nc c0) (.slice a1 S.nl c1) (.slice (some ⟨g, oo, none⟩) S.nw c2) (z + 5 + 1 + 1 + 1 + 1) yf) := HD.out.step hT1 hS1
              have hS' : BoxS bx (.slice a0 S.nc c0) (.slice a1 S.nl c1) (.slice (some ⟨g, oo, none⟩) S.nw c2) yf ∧ Blk4 yf kb (.int .i64 (S.k (k * 4))) (.int .i64 (S.k (k * 4 + 1))) (.int .i64 (S.k (k * 4 + 2))) (.int .i64 (S.k (k * 4 + 3))) := ⟨HD.out.box, hS.2.kept (hT1.block kb hS.2.lt (fun e => HN.out (Option.some.inj e)))⟩
              clear hS1 hT1 HI HG
              go_wp2_with fail
              refine hK.out _ _ hS' (fun hS => ?_)
              clear hK K hS'
              obtain ⟨⟨r0, r1, r2⟩, f0, f1, f2⟩ := HD.out.res
              refine rdH 13 (fun K hK => ?_)
              go_simp
              have HO := hid_mk (DrX.out HD.out (.slice a0 S.nc c0) (.slice a1 S.nl c1) (.slice (some ⟨g, oo, none⟩) S.nw c2))
              have HZ := hid_mk HD.out.sz
              have hB5 : Blk4 (((yf.setCell ⟨w.heap.size, 0, none⟩ (.slice a0 S.nc c0)).setCell ⟨w.heap.size, 1, none⟩ (.slice a1 S.nl c1)).setCell ⟨w.heap.size, 2, none⟩ (.slice (some ⟨g, oo, none⟩) S.nw c2)) kb (.int .i64 (S.k (k * 4))) (.int .i64 (S.k (k * 4 + 1))) (.int .i64 (S.k (k * 4 + 2))) (.int .i64 (S.k (k * 4 + 3))) := (((hS.2.kept (Below.heap_setCell _ _ _ _ (by show kb ≠ w.heap.size; have := HKB.out; omega))).kept (Below.heap_setCell _ _ _ _ (by show kb ≠ w.heap.size; have := HKB.out; omega))).kept (Below.heap_setCell _ _ _ _ (by show kb ≠ w.heap.size; have := HKB.out; omega)))
              refine hK.out _ _ ⟨HO.out.1, hB5⟩ (fun hS => ?_)
              clear hK K r0 r1 r2 f0 f1 f2 HD hB5
              generalize (((yf.setCell ⟨w.heap.size, 0, none⟩ (.slice a0 S.nc c0)).setCell ⟨w.heap.size, 1, none⟩ (.slice a1 S.nl c1)).setCell ⟨w.heap.size, 2, none⟩ (.slice (some ⟨g, oo, none⟩) S.nw c2)) = yz at HO hS ⊢
              refine tkH 14 ?_ hS (fun wx hx => ?_) ?_; rotate_left
              · obtain ⟨⟨⟨hx0, hx1, hx2⟩, _⟩, ⟨hy0, hy1, hy2, hy3⟩, _⟩ := hx; go_simp; try with_reducible rfl
              refine tkH 15 ?_ hS (fun wx hx => ?_) ?_; rotate_left
              · obtain ⟨⟨⟨hx0, hx1, hx2⟩, _⟩, ⟨hy0, hy1, hy2, hy3⟩, _⟩ := hx; go_simp; try with_reducible rfl
              refine wpAnyH_done (by kernel_rfl) ?_ _
              go_simp
              obtain ⟨⟨q0, q1, q2⟩, _⟩ := HO.out.2.1
              go_wp2
              refine bodyPost_ret (v := .tuple #[.agg #[.slice a0 S.nc c0, .slice a1 S.nl c1, .slice (some ⟨g, oo, none⟩) S.nw c2], .int .i64 (S.k (k * 4)), .int .i64 (pt)]) (by simp [results, Try.results16, go_sem, q0, q1, q2]) rfl ⟨S, a0, c0, a1, c1, some ⟨g, oo, none⟩, c2, S.k (k * 4), pt, rfl, HZ.out, HO.out.2.2.1, HO.out.2.2.2, HP.out⟩
          · intro K hK
            go_simp
            have KB : Hid (Blk4 (y0.alloc (.cells #[.int .i64 0, .int .i64 0, .int .i64 0, .int .i64 0] 42)) y0.heap.size (.int .i64 0) (.int .i64 0) (.int .i64 0) (.int .i64 0) ∧ OwnIn S (.slice a0 S.nc c0) (.slice a1 S.nl c1) (.slice (some ⟨g, oo, none⟩) S.nw c2) (fun k => k < y0.heap.size) ∧ bx < y0.heap.size) := ⟨Blk4.new _ _ _ _ _ _, HD.out.st.ownIn.mono (fun k hk => hk.2), HD.out.box.lt⟩
            have HD : Hid (DrX w b o len cap bx S (.slice a0 S.nc c0) (.slice a1 S.nl c1) (.slice (some ⟨g, oo, none⟩) S.nw c2) (z + 5 + 1 + 1) (y0.alloc (.cells #[.int .i64 0, .int .i64 0, .int .i64 0, .int .i64 0] 42))) := HD.out.later (below_alloc _ _)
            refine hK.out _ _ (show BoxS _ _ _ _ _ from hS.alloc _) (fun hS => ?_)
            clear hK K
            generalize y0.alloc (.cells #[.int .i64 0, .int .i64 0, .int .i64 0, .int .i64 0] 42) = y1 at HD KB hS ⊢
            obtain ⟨kb, hkb⟩ : ∃ kb, y0.heap.size = kb := ⟨_, rfl⟩
            rw [hkb] at KB ⊢
            clear hkb
            refine rdH 6 (fun K hK => ?_)
            go_simp
            go_wp2_with fail
            refine (l1Next_any _ b o len cap (z + 5 + 1 + 1) S.nw HD.out.src (by omega) hl).mono ?_
            rintro e y2 ⟨ri, rfl, ri0, ri1, hS1, hT1⟩
            have ri1 := ri1 (by omega)
            obtain ⟨k, rfl⟩ : ∃ k : Nat, ri = k := ⟨ri.toNat, by omega⟩
            have hk : k < S.nw := by omega
            have HD : Hid (DrX w b o len cap bx S (.slice a0 S.nc c0) (.slice a1 S.nl c1) (.slice (some ⟨g, oo, none⟩) S.nw c2) (z + 5 + 1 + 1 + 1) y2) := HD.out.step hT1 hS1
            have KB : Hid (Blk4 y2 kb (.int .i64 0) (.int .i64 0) (.int .i64 0) (.int .i64 0) ∧ OwnIn S (.slice a0 S.nc c0) (.slice a1 S.nl c1) (.slice (some ⟨g, oo, none⟩) S.nw c2) (fun k => k < kb) ∧ bx < kb) := ⟨KB.out.1.kept (hT1.block kb KB.out.1.lt (fun e => by have := Option.some.inj e; have := KB.out.2.2; have := HD.out.bl; omega)), KB.out.2⟩
            have hS' : BoxS bx (.slice a0 S.nc c0) (.slice a1 S.nl c1) (.slice (some ⟨g, oo, none⟩) S.nw c2) y2 := HD.out.box
            clear hS1 hT1 ri0 ri1
            go_wp2_with fail
            refine hK.out _ _ hS' (fun hS => ?_)
            clear hK K hS'
            refine tkH 7 ?_ hS (fun wx hx => ?_) ?_; rotate_left
            · obtain ⟨⟨hx0, hx1, hx2⟩, _⟩ := hx; go_simp; try with_reducible rfl
            simp only [Act.put, List.getElem_toArray, List.getElem_cons_zero, List.getElem_cons_succ, List.setIfInBounds_toArray, List.set_cons_succ, List.set_cons_zero]
            refine rdH 8 (fun K hK => ?_)
            obtain ⟨g', oo', eg, _, _, k0, k1, k2, k3⟩ := HD.out.st.2.2.at4 hk
            obtain ⟨rfl, rfl⟩ : g = g' ∧ oo = oo' := by simpa using eg
            go_simp
            refine hK.out _ _ hS (fun hS => ?_)
            clear hK K k0 k1 k2 k3 eg
            refine rdH 10 (fun K hK => ?_)
            obtain ⟨⟨e0, e1, e2, e3⟩, f0, f1, f2, f3⟩ := KB.out.1
            go_simp
            have HF : Hid (DrX w b o len cap bx S (.slice a0 S.nc c0) (.slice a1 S.nl c1) (.slice (some ⟨g, oo, none⟩) S.nw c2) (z + 5 + 1 + 1 + 1) ((((y2.setCell ⟨kb, 0, none⟩ (.int .i64 (S.k (k * 4)))).setCell ⟨kb, 1, none⟩ (.int .i64 (S.k (k * 4 + 1)))).setCell ⟨kb, 2, none⟩ (.int .i64 (S.k (k * 4 + 2)))).setCell ⟨kb, 3, none⟩ (.int .i64 (S.k (k * 4 + 3)))) ∧ Blk4 ((((y2.setCell ⟨kb, 0, none⟩ (.int .i64 (S.k (k * 4)))).setCell ⟨kb, 1, none⟩ (.int .i64 (S.k (k * 4 + 1)))).setCell ⟨kb, 2, none⟩ (.int .i64 (S.k (k * 4 + 2)))).setCell ⟨kb, 3, none⟩ (.int .i64 (S.k (k * 4 + 3)))) kb (.int .i64 (S.k (k * 4))) (.int .i64 (S.k (k * 4 + 1))) (.int .i64 (S.k (k * 4 + 2))) (.int .i64 (S.k (k * 4 + 3)))) := ⟨(((HD.out.setK KB.out.2.1 KB.out.2.2 _ _).setK KB.out.2.1 KB.out.2.2 _ _).setK KB.out.2.1 KB.out.2.2 _ _).setK KB.out.2.1 KB.out.2.2 _ _, KB.out.1.put _ _ _ _⟩
            refine hK.out _ _ (show BoxS _ _ _ _ _ from HF.out.1.box) (fun hS => ?_)
            clear hK K
            have HKB : Hid (w.heap.size < kb) := by have := KB.out.2.2; have := HD.out.bl; have := HD.out.lo; exact (by omega : w.heap.size < kb)
            have HKX : Hid (bx < kb) := KB.out.2.2
            refine wpAnyH_done (by kernel_rfl) ?_ _
            clear hS e0 e1 e2 e3 f0 f1 f2 f3 KB HD
            go_simp
            generalize ((((y2.setCell ⟨kb, 0, none⟩ (.int .i64 (S.k (k * 4)))).setCell ⟨kb, 1, none⟩ (.int .i64 (S.k (k * 4 + 1)))).setCell ⟨kb, 2, none⟩ (.int .i64 (S.k (k * 4 + 2)))).setCell ⟨kb, 3, none⟩ (.int .i64 (S.k (k * 4 + 3)))) = yk at HF ⊢
            go_wp2_with fail
            refine wp_region_held_drew (S := fun x => BoxS bx (.slice a0 S.nc c0) (.slice a1 S.nl c1) (.slice (some ⟨g, oo, none⟩) S.nw c2) x ∧ Blk4 x kb (.int .i64 (S.k (k * 4))) (.int .i64 (S.k (k * 4 + 1))) (.int .i64 (S.k (k * 4 + 2))) (.int .i64 (S.k (k * 4 + 3)))) (by kernel_rfl) ⟨HF.out.1.box.kept rfl, HF.out.2.kept rfl⟩ (fun hS => ?_)
            have HD : Hid (DrX w b o len cap bx S (.slice a0 S.nc c0) (.slice a1 S.nl c1) (.slice (some ⟨g, oo, none⟩) S.nw c2) (z + 5 + 1 + 1 + 1) yk.drew) := HF.out.1.later (below_dr (Below.refl _ _) 1)
            clear HF
            generalize yk.drew = yd at HD hS ⊢
            refine tkH 0 ?_ hS (fun wx hx => ?_) ?_; rotate_left
            · obtain ⟨⟨⟨hx0, hx1, hx2⟩, _⟩, ⟨hy0, hy1, hy2, hy3⟩, _⟩ := hx; go_simp; try with_reducible rfl
            refine tkH 1 ?_ hS (fun wx hx => ?_) ?_; rotate_left
            · obtain ⟨⟨⟨hx0, hx1, hx2⟩, _⟩, ⟨hy0, hy1, hy2, hy3⟩, _⟩ := hx; go_simp; try with_reducible rfl
            refine tkH 2 ?_ hS (fun wx hx => ?_) ?_; rotate_left
            · obtain ⟨⟨⟨hx0, hx1, hx2⟩, _⟩, ⟨hy0, hy1, hy2, hy3⟩, _⟩ := hx; go_simp; try with_reducible rfl
            refine tkH 3 ?_ hS (fun wx hx => ?_) ?_; rotate_left
            · obtain ⟨⟨⟨hx0, hx1, hx2⟩, _⟩, ⟨hy0, hy1, hy2, hy3⟩, _⟩ := hx; go_simp; try with_reducible rfl
            refine tkH 4 ?_ hS (fun wx hx => ?_) ?_; rotate_left
            · obtain ⟨⟨⟨hx0, hx1, hx2⟩, _⟩, ⟨hy0, hy1, hy2, hy3⟩, _⟩ := hx; go_simp; try with_reducible rfl
            refine tkH 5 ?_ hS (fun wx hx => ?_) ?_; rotate_left
            · obtain ⟨⟨⟨hx0, hx1, hx2⟩, _⟩, ⟨hy0, hy1, hy2, hy3⟩, _⟩ := hx; go_simp; try with_reducible rfl
            refine tkH 6 ?_ hS (fun wx hx => ?_) ?_; rotate_left
            · obtain ⟨⟨⟨hx0, hx1, hx2⟩, _⟩, ⟨hy0, hy1, hy2, hy3⟩, _⟩ := hx; go_simp; try with_reducible rfl
            refine tkH 7 ?_ hS (fun wx hx => ?_) ?_; rotate_left
            · obtain ⟨⟨⟨hx0, hx1, hx2⟩, _⟩, ⟨hy0, hy1, hy2, hy3⟩, _⟩ := hx; go_simp; try with_reducible rfl
            refine tkH 8 ?_ hS (fun wx hx => ?_) ?_; rotate_left
            · obtain ⟨⟨⟨hx0, hx1, hx2⟩, _⟩, ⟨hy0, hy1, hy2, hy3⟩, _⟩ := hx; go_simp; try with_reducible rfl
            refine tkH 9 ?_ hS (fun wx hx => ?_) ?_; rotate_left
            · obtain ⟨⟨⟨hx0, hx1, hx2⟩, _⟩, ⟨hy0, hy1, hy2, hy3⟩, _⟩ := hx; go_simp; try with_reducible rfl
            refine tkH 10 ?_ hS (fun wx hx => ?_) ?_; rotate_left
            · obtain ⟨⟨⟨hx0, hx1, hx2⟩, _⟩, ⟨hy0, hy1, hy2, hy3⟩, _⟩ := hx; go_simp; try with_reducible rfl
            simp only [Act.put, List.getElem_toArray, List.getElem_cons_zero, List.getElem_cons_succ, List.setIfInBounds_toArray, List.set_cons_succ, List.set_cons_zero]
            obtain ⟨cm, hcm⟩ : ∃ cm, cm = IntKind.i64.wrap (S.k (k * 4 + 1) - 1) := ⟨_, rfl⟩
            rw [← hcm]
            have HC : Hid (Wf cm) := by rw [hcm]; exact wf_wrap _ _
            clear hcm
            refine rdH 11 (fun K hK => ?_)
            go_simp
            have HI : Hid (Ints (yd.alloc (.cells #[.int .i64 (S.k (k * 4 + 2)), .int .i64 (S.k (k * 4 + 1)), .int .i64 cm] 2)) yd.heap.size (.slice (some ⟨yd.heap.size, 0, none⟩) 3 3) [S.k (k * 4 + 2), S.k (k * 4 + 1), cm]) := World.ownsRow_lit yd #[.int .i64 (S.k (k * 4 + 2)), .int .i64 (S.k (k * 4 + 1)), .int .i64 cm] 3 (Nat.le_refl _) (by decide) rfl
            have HG : Hid (b < yd.heap.size) := HD.out.src.lt
            have HD : Hid (DrX w b o len cap bx S (.slice a0 S.nc c0) (.slice a1 S.nl c1) (.slice (some ⟨g, oo, none⟩) S.nw c2) (z + 5 + 1 + 1 + 1) (yd.alloc (.cells #[.int .i64 (S.k (k * 4 + 2)), .int .i64 (S.k (k * 4 + 1)), .int .i64 cm] 2))) := HD.out.later (below_alloc _ _)
            refine hK.out _ _ ⟨show BoxS _ _ _ _ _ from hS.1.alloc _, hS.2.alloc _⟩ (fun hS => ?_)
            clear hK K
            generalize yd.alloc (.cells #[.int .i64 (S.k (k * 4 + 2)), .int .i64 (S.k (k * 4 + 1)), .int .i64 cm] 2) = ye at HD HI hS ⊢
            refine rdH 12 (fun K hK => ?_)
            go_simp
            go_wp2_with fail
            refine (l1Pick_any _ b o len cap (z + 5 + 1 + 1 + 1) _ yd.heap.size [S.k (k * 4 + 2), S.k (k * 4 + 1), cm] HD.out.src (by omega) hl HI.out HG.out (by simp) (by simp)).mono ?_
            rintro e yf ⟨pt, rfl, hpt, hS1, hT1⟩
            have HP : Hid (storeF S = 0 → Wf pt) := fun hz => wf_writeS hz hk HC.out hpt
            clear hpt
            have HN : Hid (kb ≠ b) := by have := HKX.out; have := HD.out.bl; exact (by omega : kb ≠ b)
            have HD : Hid (DrX w b o len cap bx S (.slice a0 S.nc c0) (.slice a1 S.nl c1) (.slice (some ⟨g, oo, none⟩) S.nw c2) (z + 5 + 1 + 1 + 1 + 1) yf) := HD.out.step hT1 hS1
            have hS' : BoxS bx (.slice a0 S.nc c0) (.slice a1 S.nl c1) (.slice (some ⟨g, oo, none⟩) S.nw c2) yf ∧ Blk4 yf kb (.int .i64 (S.k (k * 4))) (.int .i64 (S.k (k * 4 + 1))) (.int .i64 (S.k (k * 4 + 2))) (.int .i64 (S.k (k * 4 + 3))) := ⟨HD.out.box, hS.2.kept (hT1.block kb hS.2.lt (fun e => HN.out (Option.some.inj e)))⟩
            clear hS1 hT1 HI HG
            go_wp2_with fail
            refine hK.out _ _ hS' (fun hS => ?_)
            clear hK K hS'
            obtain ⟨⟨r0, r1, r2⟩, f0, f1, f2⟩ := HD.out.res
            refine rdH 13 (fun K hK => ?_)
            go_simp
            have HO := hid_mk (DrX.out HD.out (.slice a0 S.nc c0) (.slice a1 S.nl c1) (.slice (some ⟨g, oo, none⟩) S.nw c2))
            have HZ := hid_mk HD.out.sz
            have hB5 : Blk4 (((yf.setCell ⟨w.heap.size, 0, none⟩ (.slice a0 S.nc c0)).setCell ⟨w.heap.size, 1, none⟩ (.slice a1 S.nl c1)).setCell ⟨w.heap.size, 2, none⟩ (.slice (some ⟨g, oo, none⟩) S.nw c2)) kb (.int .i64 (S.k (k * 4))) (.int .i64 (S.k (k * 4 + 1))) (.int .i64 (S.k (k * 4 + 2))) (.int .i64 (S.k (k * 4 + 3))) := (((hS.2.kept (Below.heap_setCell _ _ _ _ (by show kb ≠ w.heap.size; have := HKB.out; omega))).kept (Below.heap_setCell _ _ _ _ (by show kb ≠ w.heap.size; have := HKB.out; omega))).kept (Below.heap_setCell _ _ _ _ (by show kb ≠ w.heap.size; have := HKB.out; omega)))
            refine hK.out _ _ ⟨HO.out.1, hB5⟩ (fun hS => ?_)
            clear hK K r0 r1 r2 f0 f1 f2 HD hB5
            generalize (((yf.setCell ⟨w.heap.size, 0, none⟩ (.slice a0 S.nc c0)).setCell ⟨w.heap.size, 1, none⟩ (.slice a1 S.nl c1)).setCell ⟨w.heap.size, 2, none⟩ (.slice (some ⟨g, oo, none⟩) S.nw c2)) = yz at HO hS ⊢
            refine tkH 14 ?_ hS (fun wx hx => ?_) ?_; rotate_left
            · obtain ⟨⟨⟨hx0, hx1, hx2⟩, _⟩, ⟨hy0, hy1, hy2, hy3⟩, _⟩ := hx; go_simp; try with_reducible rfl
            refine tkH 15 ?_ hS (fun wx hx => ?_) ?_; rotate_left
            · obtain ⟨⟨⟨hx0, hx1, hx2⟩, _⟩, ⟨hy0, hy1, hy2, hy3⟩, _⟩ := hx; go_simp; try with_reducible rfl
            refine wpAnyH_done (by kernel_rfl) ?_ _
            go_simp
            obtain ⟨⟨q0, q1, q2⟩, _⟩ := HO.out.2.1
            go_wp2
            refine bodyPost_ret (v := .tuple #[.agg #[.slice a0 S.nc c0, .slice a1 S.nl c1, .slice (some ⟨g, oo, none⟩) S.nw c2], .int .i64 (S.k (k * 4)), .int .i64 (pt)]) (by simp [results, Try.results16, go_sem, q0, q1, q2]) rfl ⟨S, a0, c0, a1, c1, some ⟨g, oo, none⟩, c2, S.k (k * 4), pt, rfl, HZ.out, HO.out.2.2.1, HO.out.2.2.2, HP.out⟩
        · have dn : decide (0 < S.nw) = false := decide_eq_false hnl
          obtain ⟨⟨t0, t1, t2⟩, _⟩ := HD.out.box
          go_wp2_with fail
          go_meet
          case rel => exact ⟨rfl, _, ⟨by omega, by omega⟩, HD⟩
    go_wp2_with fail
    go_meet
    case rel => exact ⟨rfl, _, ⟨by omega, by omega⟩, HD⟩
  case rest =>
    clear HD
    obtain ⟨rfl, d, hd, HD⟩ := hcut
    go_wp2_with fail
    refine wp_region_held_drew (S := BoxS bx (.slice a0 S.nc c0) (.slice a1 S.nl c1) (.slice a2 S.nw c2)) (by kernel_rfl) (HD.out.box.kept rfl) (fun hS => ?_)
    have HD : Hid (DrX w b o len cap bx S (.slice a0 S.nc c0) (.slice a1 S.nl c1) (.slice a2 S.nw c2) (d) wc.drew) := HD.out.later (below_dr (Below.refl _ _) 1)
    generalize wc.drew = y0 at HD hS ⊢
    refine tkH 0 ?_ hS (fun wx hx => ?_) ?_; rotate_left
    · obtain ⟨⟨hx0, hx1, hx2⟩, _⟩ := hx; go_simp; try with_reducible rfl
    refine tkH 1 ?_ hS (fun wx hx => ?_) ?_; rotate_left
    · obtain ⟨⟨hx0, hx1, hx2⟩, _⟩ := hx; go_simp; try with_reducible rfl
    refine tkH 2 ?_ hS (fun wx hx => ?_) ?_; rotate_left
    · obtain ⟨⟨hx0, hx1, hx2⟩, _⟩ := hx; go_simp; try with_reducible rfl
    refine tkH 3 ?_ hS (fun wx hx => ?_) ?_; rotate_left
    · obtain ⟨⟨hx0, hx1, hx2⟩, _⟩ := hx; go_simp; try with_reducible rfl
    refine tkH 4 ?_ hS (fun wx hx => ?_) ?_; rotate_left
    · obtain ⟨⟨hx0, hx1, hx2⟩, _⟩ := hx; go_simp; try with_reducible rfl
    refine tkH 5 ?_ hS (fun wx hx => ?_) ?_; rotate_left
    · obtain ⟨⟨hx0, hx1, hx2⟩, _⟩ := hx; go_simp; try with_reducible rfl
    refine tkH 9 ?_ hS (fun wx hx => ?_) ?_; rotate_left
    · obtain ⟨⟨hx0, hx1, hx2⟩, _⟩ := hx; go_simp; try with_reducible rfl
    refine tkH 10 ?_ hS (fun wx hx => ?_) ?_; rotate_left
    · obtain ⟨⟨hx0, hx1, hx2⟩, _⟩ := hx; go_simp; try with_reducible rfl
    refine tkH 11 ?_ hS (fun wx hx => ?_) ?_; rotate_left
    · obtain ⟨⟨hx0, hx1, hx2⟩, _⟩ := hx; go_simp; try with_reducible rfl
    refine tkH 12 ?_ hS (fun wx hx => ?_) ?_; rotate_left
    · obtain ⟨⟨hx0, hx1, hx2⟩, _⟩ := hx; go_simp; try with_reducible rfl
    simp only [Act.put, List.getElem_toArray, List.getElem_cons_zero, List.getElem_cons_succ, List.setIfInBounds_toArray, List.set_cons_succ, List.set_cons_zero]
    refine wpAnyH_ready (rs := [6, 13]) (by kernel_rfl) (by simp) ?_
    refine AllReadyH.cons rfl ?_ (AllReadyH.cons rfl ?_ AllReadyH.nil)
    focus
      intro K hK
      go_simp
      go_wp2_with fail
      refine (l1Bent_any _ b o len cap (d) HD.out.src (by omega) hl).mono ?_
      rintro e y1 ⟨bn, rfl, _, _, hS1, hT1⟩
      have HD : Hid (DrX w b o len cap bx S (.slice a0 S.nc c0) (.slice a1 S.nl c1) (.slice a2 S.nw c2) (d + 17) y1) := HD.out.step hT1 hS1
      have hS' : BoxS bx (.slice a0 S.nc c0) (.slice a1 S.nl c1) (.slice a2 S.nw c2) y1 := HD.out.box
      clear hS1 hT1
      go_wp2_with fail
      refine hK.out _ _ hS' (fun hS => ?_)
      clear hK K hS'
      refine wpAnyH_ready (rs := [7, 13]) (by kernel_rfl) (by simp) ?_
      refine AllReadyH.cons rfl ?_ (AllReadyH.cons rfl ?_ AllReadyH.nil)
      focus
        intro K hK
        go_simp
        have HI : Hid (Ints (y1.alloc (.cells #[.int .i64 key, .int .i64 key, .int .i64 key, .int .i64 bn] 2)) y1.heap.size (.slice (some ⟨y1.heap.size, 0, none⟩) 4 4) [key, key, key, bn]) := World.ownsRow_lit y1 #[.int .i64 key, .int .i64 key, .int .i64 key, .int .i64 bn] 4 (Nat.le_refl _) (by decide) rfl
        have HG : Hid (b < y1.heap.size) := HD.out.src.lt
        have HD : Hid (DrX w b o len cap bx S (.slice a0 S.nc c0) (.slice a1 S.nl c1) (.slice a2 S.nw c2) (d + 17) (y1.alloc (.cells #[.int .i64 key, .int .i64 key, .int .i64 key, .int .i64 bn] 2))) := HD.out.later (below_alloc _ _)
        refine hK.out _ _ (show BoxS _ _ _ _ _ from hS.alloc _) (fun hS => ?_)
        clear hK K
        generalize y1.alloc (.cells #[.int .i64 key, .int .i64 key, .int .i64 key, .int .i64 bn] 2) = y2 at HD HI hS ⊢
        refine wpAnyH_ready (rs := [8, 13]) (by kernel_rfl) (by simp) ?_
        refine AllReadyH.cons rfl ?_ (AllReadyH.cons rfl ?_ AllReadyH.nil)
        focus
          intro K hK
          go_simp
          go_wp2_with fail
          refine (l1Pick_any _ b o len cap (d + 17) _ y1.heap.size [key, key, key, bn] HD.out.src (by omega) hl HI.out HG.out (by simp) (by simp)).mono ?_
          rintro e y3 ⟨pk, rfl, _, hS1, hT1⟩
          have HD : Hid (DrX w b o len cap bx S (.slice a0 S.nc c0) (.slice a1 S.nl c1) (.slice a2 S.nw c2) (d + 17 + 1) y3) := HD.out.step hT1 hS1
          have hS' : BoxS bx (.slice a0 S.nc c0) (.slice a1 S.nl c1) (.slice a2 S.nw c2) y3 := HD.out.box
          clear hS1 hT1 HI HG
          go_wp2_with fail
          refine hK.out _ _ hS' (fun hS => ?_)
          clear hK K hS'
          refine rdH 13 (fun K hK => ?_)
          go_simp
          have HJ : Hid (Ints (y3.alloc (.cells #[.int .i64 ts, .int .i64 ts, .int .i64 ts, .int .i64 0] 2)) y3.heap.size (.slice (some ⟨y3.heap.size, 0, none⟩) 4 4) [ts, ts, ts, 0]) := World.ownsRow_lit y3 #[.int .i64 ts, .int .i64 ts, .int .i64 ts, .int .i64 0] 4 (Nat.le_refl _) (by decide) rfl
          have HH : Hid (b < y3.heap.size) := HD.out.src.lt
          have HD : Hid (DrX w b o len cap bx S (.slice a0 S.nc c0) (.slice a1 S.nl c1) (.slice a2 S.nw c2) (d + 17 + 1) (y3.alloc (.cells #[.int .i64 ts, .int .i64 ts, .int .i64 ts, .int .i64 0] 2))) := HD.out.later (below_alloc _ _)
          refine hK.out _ _ (show BoxS _ _ _ _ _ from hS.alloc _) (fun hS => ?_)
          clear hK K
          generalize y3.alloc (.cells #[.int .i64 ts, .int .i64 ts, .int .i64 ts, .int .i64 0] 2) = y4 at HD HJ hS ⊢
          refine rdH 14 (fun K hK => ?_)
          go_simp
          go_wp2_with fail
          refine (l1Pick_any _ b o len cap (d + 17 + 1) _ y3.heap.size [ts, ts, ts, 0] HD.out.src (by omega) hl HJ.out HH.out (by simp) (by simp)).mono ?_
        rotate_left
        focus
          intro K hK
          go_simp
          have HJ : Hid (Ints (y2.alloc (.cells #[.int .i64 ts, .int .i64 ts, .int .i64 ts, .int .i64 0] 2)) y2.heap.size (.slice (some ⟨y2.heap.size, 0, none⟩) 4 4) [ts, ts, ts, 0]) := World.ownsRow_lit y2 #[.int .i64 ts, .int .i64 ts, .int .i64 ts, .int .i64 0] 4 (Nat.le_refl _) (by decide) rfl
          have HH : Hid (b < y2.heap.size) := HD.out.src.lt
          have HI : Hid (Ints (y2.alloc (.cells #[.int .i64 ts, .int .i64 ts, .int .i64 ts, .int .i64 0] 2)) y1.heap.size (.slice (some ⟨y1.heap.size, 0, none⟩) 4 4) [key, key, key, bn]) := ((But.refl b _).alloc _).ints HI.out HG.out
          have HD : Hid (DrX w b o len cap bx S (.slice a0 S.nc c0) (.slice a1 S.nl c1) (.slice a2 S.nw c2) (d + 17) (y2.alloc (.cells #[.int .i64 ts, .int .i64 ts, .int .i64 ts, .int .i64 0] 2))) := HD.out.later (below_alloc _ _)
          refine hK.out _ _ (show BoxS _ _ _ _ _ from hS.alloc _) (fun hS => ?_)
          clear hK K
          generalize y2.alloc (.cells #[.int .i64 ts, .int .i64 ts, .int .i64 ts, .int .i64 0] 2) = y3 at HD HI HJ hS ⊢
          refine rdH 8 (fun K hK => ?_)
          go_simp
          go_wp2_with fail
          refine (l1Pick_any _ b o len cap (d + 17) _ y1.heap.size [key, key, key, bn] HD.out.src (by omega) hl HI.out HG.out (by simp) (by simp)).mono ?_
          rintro e y4 ⟨pk, rfl, _, hS1, hT1⟩
          have HD : Hid (DrX w b o len cap bx S (.slice a0 S.nc c0) (.slice a1 S.nl c1) (.slice a2 S.nw c2) (d + 17 + 1) y4) := HD.out.step hT1 hS1
          have HJ : Hid (Ints y4 y2.heap.size (.slice (some ⟨y2.heap.size, 0, none⟩) 4 4) [ts, ts, ts, 0]) := hT1.ints HJ.out HH.out
          have hS' : BoxS bx (.slice a0 S.nc c0) (.slice a1 S.nl c1) (.slice a2 S.nw c2) y4 := HD.out.box
          clear hS1 hT1 HI HG
          go_wp2_with fail
          refine hK.out _ _ hS' (fun hS => ?_)
          clear hK K hS'
          refine rdH 14 (fun K hK => ?_)
          go_simp
          go_wp2_with fail
          refine (l1Pick_any _ b o len cap (d + 17 + 1) _ y2.heap.size [ts, ts, ts, 0] HD.out.src (by omega) hl HJ.out HH.out (by simp) (by simp)).mono ?_
        rotate_left
      rotate_left 2
      focus
        intro K hK
        go_simp
        have HJ : Hid (Ints (y1.alloc (.cells #[.int .i64 ts, .int .i64 ts, .int .i64 ts, .int .i64 0] 2)) y1.heap.size (.slice (some ⟨y1.heap.size, 0, none⟩) 4 4) [ts, ts, ts, 0]) := World.ownsRow_lit y1 #[.int .i64 ts, .int .i64 ts, .int .i64 ts, .int .i64 0] 4 (Nat.le_refl _) (by decide) rfl
        have HH : Hid (b < y1.heap.size) := HD.out.src.lt
        have HD : Hid (DrX w b o len cap bx S (.slice a0 S.nc c0) (.slice a1 S.nl c1) (.slice a2 S.nw c2) (d + 17) (y1.alloc (.cells #[.int .i64 ts, .int .i64 ts, .int .i64 ts, .int .i64 0] 2))) := HD.out.later (below_alloc _ _)
        refine hK.out _ _ (show BoxS _ _ _ _ _ from hS.alloc _) (fun hS => ?_)
        clear hK K
        generalize y1.alloc (.cells #[.int .i64 ts, .int .i64 ts, .int .i64 ts, .int .i64 0] 2) = y2 at HD HJ hS ⊢
        refine rdH 7 (fun K hK => ?_)
        go_simp
        have HI : Hid (Ints (y2.alloc (.cells #[.int .i64 key, .int .i64 key, .int .i64 key, .int .i64 bn] 2)) y2.heap.size (.slice (some ⟨y2.heap.size, 0, none⟩) 4 4) [key, key, key, bn]) := World.ownsRow_lit y2 #[.int .i64 key, .int .i64 key, .int .i64 key, .int .i64 bn] 4 (Nat.le_refl _) (by decide) rfl
        have HG : Hid (b < y2.heap.size) := HD.out.src.lt
        have HJ : Hid (Ints (y2.alloc (.cells #[.int .i64 key, .int .i64 key, .int .i64 key, .int .i64 bn] 2)) y1.heap.size (.slice (some ⟨y1.heap.size, 0, none⟩) 4 4) [ts, ts, ts, 0]) := ((But.refl b _).alloc _).ints HJ.out HH.out
        have HD : Hid (DrX w b o len cap bx S (.slice a0 S.nc c0) (.slice a1 S.nl c1) (.slice a2 S.nw c2) (d + 17) (y2.alloc (.cells #[.int .i64 key, .int .i64 key, .int .i64 key, .int .i64 bn] 2))) := HD.out.later (below_alloc _ _)
        refine hK.out _ _ (show BoxS _ _ _ _ _ from hS.alloc _) (fun hS => ?_)
        clear hK K
        generalize y2.alloc (.cells #[.int .i64 key, .int .i64 key, .int .i64 key, .int .i64 bn] 2) = y3 at HD HI HJ hS ⊢
        refine rdH 8 (fun K hK => ?_)
        go_simp
        go_wp2_with fail
        refine (l1Pick_any _ b o len cap (d + 17) _ y2.heap.size [key, key, key, bn] HD.out.src (by omega) hl HI.out HG.out (by simp) (by simp)).mono ?_
        rintro e y4 ⟨pk, rfl, _, hS1, hT1⟩
        have HD : Hid (DrX w b o len cap bx S (.slice a0 S.nc c0) (.slice a1 S.nl c1) (.slice a2 S.nw c2) (d + 17 + 1) y4) := HD.out.step hT1 hS1
        have HJ : Hid (Ints y4 y1.heap.size (.slice (some ⟨y1.heap.size, 0, none⟩) 4 4) [ts, ts, ts, 0]) := hT1.ints HJ.out HH.out
        have hS' : BoxS bx (.slice a0 S.nc c0) (.slice a1 S.nl c1) (.slice a2 S.nw c2) y4 := HD.out.box
        clear hS1 hT1 HI HG
        go_wp2_with fail
        refine hK.out _ _ hS' (fun hS => ?_)
        clear hK K hS'
        refine rdH 14 (fun K hK => ?_)
        go_simp
        go_wp2_with fail
        refine (l1Pick_any _ b o len cap (d + 17 + 1) _ y1.heap.size [ts, ts, ts, 0] HD.out.src (by omega) hl HJ.out HH.out (by simp) (by simp)).mono ?_
      rotate_left
    rotate_left 3
    focus
      intro K hK
      go_simp
      have HJ : Hid (Ints (y0.alloc (.cells #[.int .i64 ts, .int .i64 ts, .int .i64 ts, .int .i64 0] 2)) y0.heap.size (.slice (some ⟨y0.heap.size, 0, none⟩) 4 4) [ts, ts, ts, 0]) := World.ownsRow_lit y0 #[.int .i64 ts, .int .i64 ts, .int .i64 ts, .int .i64 0] 4 (Nat.le_refl _) (by decide) rfl
      have HH : Hid (b < y0.heap.size) := HD.out.src.lt
      have HD : Hid (DrX w b o len cap bx S (.slice a0 S.nc c0) (.slice a1 S.nl c1) (.slice a2 S.nw c2) (d) (y0.alloc (.cells #[.int .i64 ts, .int .i64 ts, .int .i64 ts, .int .i64 0] 2))) := HD.out.later (below_alloc _ _)
      refine hK.out _ _ (show BoxS _ _ _ _ _ from hS.alloc _) (fun hS => ?_)
      clear hK K
      generalize y0.alloc (.cells #[.int .i64 ts, .int .i64 ts, .int .i64 ts, .int .i64 0] 2) = y1 at HD HJ hS ⊢
      refine rdH 6 (fun K hK => ?_)
      go_simp
      go_wp2_with fail
      refine (l1Bent_any _ b o len cap (d) HD.out.src (by omega) hl).mono ?_
      rintro e y2 ⟨bn, rfl, _, _, hS1, hT1⟩
      have HD : Hid (DrX w b o len cap bx S (.slice a0 S.nc c0) (.slice a1 S.nl c1) (.slice a2 S.nw c2) (d + 17) y2) := HD.out.step hT1 hS1
      have HJ : Hid (Ints y2 y0.heap.size (.slice (some ⟨y0.heap.size, 0, none⟩) 4 4) [ts, ts, ts, 0]) := hT1.ints HJ.out HH.out
      have hS' : BoxS bx (.slice a0 S.nc c0) (.slice a1 S.nl c1) (.slice a2 S.nw c2) y2 := HD.out.box
      clear hS1 hT1
      go_wp2_with fail
      refine hK.out _ _ hS' (fun hS => ?_)
      clear hK K hS'
      refine rdH 7 (fun K hK => ?_)
      go_simp
      have HI : Hid (Ints (y2.alloc (.cells #[.int .i64 key, .int .i64 key, .int .i64 key, .int .i64 bn] 2)) y2.heap.size (.slice (some ⟨y2.heap.size, 0, none⟩) 4 4) [key, key, key, bn]) := World.ownsRow_lit y2 #[.int .i64 key, .int .i64 key, .int .i64 key, .int .i64 bn] 4 (Nat.le_refl _) (by decide) rfl
      have HG : Hid (b < y2.heap.size) := HD.out.src.lt
      have HJ : Hid (Ints (y2.alloc (.cells #[.int .i64 key, .int .i64 key, .int .i64 key, .int .i64 bn] 2)) y0.heap.size (.slice (some ⟨y0.heap.size, 0, none⟩) 4 4) [ts, ts, ts, 0]) := ((But.refl b _).alloc _).ints HJ.out HH.out
      have HD : Hid (DrX w b o len cap bx S (.slice a0 S.nc c0) (.slice a1 S.nl c1) (.slice a2 S.nw c2) (d + 17) (y2.alloc (.cells #[.int .i64 key, .int .i64 key, .int .i64 key, .int .i64 bn] 2))) := HD.out.later (below_alloc _ _)
      refine hK.out _ _ (show BoxS _ _ _ _ _ from hS.alloc _) (fun hS => ?_)
      clear hK K
      generalize y2.alloc (.cells #[.int .i64 key, .int .i64 key, .int .i64 key, .int .i64 bn] 2) = y3 at HD HI HJ hS ⊢
      refine rdH 8 (fun K hK => ?_)
      go_simp
      go_wp2_with fail
      refine (l1Pick_any _ b o len cap (d + 17) _ y2.heap.size [key, key, key, bn] HD.out.src (by omega) hl HI.out HG.out (by simp) (by simp)).mono ?_
      rintro e y4 ⟨pk, rfl, _, hS1, hT1⟩
      have HD : Hid (DrX w b o len cap bx S (.slice a0 S.nc c0) (.slice a1 S.nl c1) (.slice a2 S.nw c2) (d + 17 + 1) y4) := HD.out.step hT1 hS1
      have HJ : Hid (Ints y4 y0.heap.size (.slice (some ⟨y0.heap.size, 0, none⟩) 4 4) [ts, ts, ts, 0]) := hT1.ints HJ.out HH.out
      have hS' : BoxS bx (.slice a0 S.nc c0) (.slice a1 S.nl c1) (.slice a2 S.nw c2) y4 := HD.out.box
      clear hS1 hT1 HI HG
      go_wp2_with fail
      refine hK.out _ _ hS' (fun hS => ?_)
      clear hK K hS'
      refine rdH 14 (fun K hK => ?_)
      go_simp
      go_wp2_with fail
      refine (l1Pick_any _ b o len cap (d + 17 + 1) _ y0.heap.size [ts, ts, ts, 0] HD.out.src (by omega) hl HJ.out HH.out (by simp) (by simp)).mono ?_
    rotate_left
    all_goals
      rintro e y5 ⟨pt, rfl, hpt, hS1, hT1⟩
      have HP : Hid (storeF S = 0 → Wf pt) := fun _ => wf_drawn HT.out hpt
      clear hpt
      have HD : Hid (DrX w b o len cap bx S (.slice a0 S.nc c0) (.slice a1 S.nl c1) (.slice a2 S.nw c2) (d + 17 + 1 + 1) y5) := HD.out.step hT1 hS1
      have hS' : BoxS bx (.slice a0 S.nc c0) (.slice a1 S.nl c1) (.slice a2 S.nw c2) y5 := HD.out.box
      clear hS1 hT1 HJ HH
      go_wp2_with fail
      refine hK.out _ _ hS' (fun hS => ?_)
      clear hK K hS'
      obtain ⟨⟨r0, r1, r2⟩, f0, f1, f2⟩ := HD.out.res
      refine rdH 15 (fun K hK => ?_)
      go_simp
      have HO := hid_mk (DrX.out HD.out (.slice a0 S.nc c0) (.slice a1 S.nl c1) (.slice a2 S.nw c2))
      have HZ := hid_mk HD.out.sz
      refine hK.out _ _ HO.out.1 (fun hS => ?_)
      clear hK K r0 r1 r2 f0 f1 f2 HD
      generalize ((y5.setCell ⟨w.heap.size, 0, none⟩ (.slice a0 S.nc c0)).setCell ⟨w.heap.size, 1, none⟩ (.slice a1 S.nl c1)).setCell ⟨w.heap.size, 2, none⟩ (.slice a2 S.nw c2) = yz at HO hS ⊢
      refine tkH 16 ?_ hS (fun wx hx => ?_) ?_; rotate_left
      · obtain ⟨⟨hx0, hx1, hx2⟩, _⟩ := hx; go_simp; try with_reducible rfl
      refine tkH 17 ?_ hS (fun wx hx => ?_) ?_; rotate_left
      · obtain ⟨⟨hx0, hx1, hx2⟩, _⟩ := hx; go_simp; try with_reducible rfl
      refine wpAnyH_done (by kernel_rfl) ?_ _
      go_simp
      obtain ⟨⟨q0, q1, q2⟩, _⟩ := HO.out.2.1
      go_wp2
      refine bodyPost_ret (v := .tuple #[.agg #[.slice a0 S.nc c0, .slice a1 S.nl c1, .slice a2 S.nw c2], .int .i64 pk, .int .i64 pt]) (by simp [results, Try.results16, go_sem, q0, q1, q2]) rfl ⟨S, a0, c0, a1, c1, a2, c2, pk, pt, rfl, HZ.out, HO.out.2.2.1, HO.out.2.2.2, HP.out⟩
end Go.Proofs.Ytdodahmimppdoaa

namespace Go.Proofs.Ytdodahmimppdoaa
open Go.RowKit

/-- What the draw of a store, a key and a time answers. -/
def DrawnW (w : World) (e : Ending) (w' : World) : Prop := ∃ (S : Sto) (a0 : Option Addr) (c0 : Nat) (a1 : Option Addr) (c1 : Nat) (a2 : Option Addr) (c2 : Nat) (key ts : Int), e = .returned (.tuple #[.agg #[.slice a0 S.nc c0, .slice a1 S.nl c1, .slice a2 S.nw c2], .int .i64 key, .int .i64 ts]) ∧ St w' 0 S (.slice a0 S.nc c0) (.slice a1 S.nl c1) (.slice a2 S.nw c2) ∧ Below w.heap.size w w' ∧ (storeF S = 0 → Wf ts)
set_option maxRecDepth 100000 in
set_option maxHeartbeats 1000000 in
theorem drawLastWrite_any (w : World) (o : Option Addr) (len cap : Nat) (h : Code w o len) (hl : len ≤ 1048576) :
    Calls Try.prog 5 #[.slice o len cap] w (DrawnW w) := by
  have H : Hid (Code w o len) := h
  have hR := Blk3.new w (.slice none 0 0) (.slice none 0 0) (.slice none 0 0) 28
  have HR : Hid (Blk3 (w.alloc (.cells #[.slice none 0 0, .slice none 0 0, .slice none 0 0] 28)) w.heap.size (.slice none 0 0) (.slice none 0 0) (.slice none 0 0)) := hR
  clear h hR
  go_enter Try.func5, Try.ntmps5
  go_wp2_with fail
  try dsimp only
  refine (l3With_any _ o len cap (H.out.later (below_alloc _ _)) hl).mono ?_
  rintro e w1 ⟨S, a0, c0, a1, c1, a2, c2, key, ts, rfl, _, hst, q, hw⟩
  have hsz : (w.alloc (.cells #[.slice none 0 0, .slice none 0 0, .slice none 0 0] 28)).heap.size = w.heap.size + 1 := by simp
  have hK := HR.out.later q
  have HX : Hid (St w1 (w.heap.size + 1) S (.slice a0 S.nc c0) (.slice a1 S.nl c1) (.slice a2 S.nw c2) ∧ Below w.heap.size w w1 ∧ (storeF S = 0 → Wf ts)) := ⟨hsz ▸ hst, (below_alloc w _).trans (q.mono (by omega)), hw⟩
  have HB := hid_mk (((hK.set0 (.slice a0 S.nc c0)).set1 (.slice a1 S.nl c1)).set2 (.slice a2 S.nw c2))
  obtain ⟨⟨r0, r1, r2⟩, f0, f1, f2⟩ := hK
  clear q hst hw hsz HR H
  go_wp2
  obtain ⟨⟨q0, q1, q2⟩, _⟩ := HB.out
  have hf : ∀ j, (⟨w.heap.size, j, none⟩ : Addr).block < w.heap.size + 1 := fun j => by show w.heap.size < w.heap.size + 1; omega
  refine bodyPost_ret (v := .tuple #[.agg #[.slice a0 S.nc c0, .slice a1 S.nl c1, .slice a2 S.nw c2], .int .i64 key, .int .i64 ts]) (by simp [results, Try.results5, go_sem, q0, q1, q2]) rfl ⟨S, a0, c0, a1, c1, a2, c2, key, ts, rfl, (((HX.out.1.far (hf 0) _).far (hf 1) _).far (hf 2) _).mono (Nat.zero_le _), ((HX.out.2.1.setCell (Nat.le_refl _) _).setCell (Nat.le_refl _) _).setCell (Nat.le_refl _) _, HX.out.2.2⟩
end Go.Proofs.Ytdodahmimppdoaa

namespace Go.Proofs.Ytdodahmimppdoaa
open Go.RowKit

set_option maxRecDepth 100000 in
set_option maxHeartbeats 2000000 in
theorem implCellAt_any (S : Sto) (v0 v1 v2 : Value) (key start : Int) (B : Nat) (w : World) (h : St w B S v0 v1 v2) (hst : askF S key = 0 → Wf start) :
    Calls Try.prog 8 #[.agg #[v0, v1, v2], .int .i64 key, .int .i64 start] w fun e w' => e = .returned (.agg #[.int .i64 (cellAtC S key start), .int .i64 (cellAtV S key start)]) ∧ Below w.heap.size w w' := by
  obtain ⟨a0, c0, a1, c1, a2, c2, rfl, rfl, rfl⟩ := h.form
  have HE : Hid (CallEnv w B S (.slice a0 S.nc c0) (.slice a1 S.nl c1) (.slice a2 S.nw c2) (.int .i64 0) (.int .i64 0) ((w.alloc (.cells #[.slice a0 S.nc c0, .slice a1 S.nl c1, .slice a2 S.nw c2] 28)).alloc (.cells #[.int .i64 0, .int .i64 0] 35))) := CallEnv.new h _ _ _ _
  clear h
  by_cases hz : askF S key = 0
  case neg =>
    clear hst
    obtain ⟨f, hf⟩ : ∃ f, askF S key = f := ⟨_, rfl⟩
    have E : Hid (cellAtC S key start = f ∧ cellAtV S key start = 0) := ⟨by unfold cellAtC; rw [if_pos hz, hf], by unfold cellAtV; rw [if_pos hz]⟩
    have HF : Hid (askF S key = f) := hf
    have hfn : (f == 0) = false := beq_eq_false_iff_ne.2 (by rw [← hf]; exact hz)
    clear hz hf
    go_enter Try.func8, Try.ntmps8
    go_wp2_with fail
    refine (askFault_any S _ _ _ key B _ HE.out.2.2.1).mono ?_
    rw [HF.out]
    rintro e w1 ⟨rfl, q1⟩
    have HE : Hid (CallEnv w B S (.slice a0 S.nc c0) (.slice a1 S.nl c1) (.slice a2 S.nw c2) (.int .i64 0) (.int .i64 0) w1) := HE.out.later q1
    obtain ⟨⟨⟨p0, p1, p2⟩, _⟩, ⟨⟨r0, r1⟩, f0, f1⟩, _⟩ := HE.out
    clear q1
    go_wp2
    exact bodyPost_ret (v := .agg #[.int .i64 f, .int .i64 0]) (by simp [results, Try.results8, go_sem, r0, r1]) rfl ⟨by rw [E.out.1, E.out.2], (HE.out.2.2.2.setCell (Nat.le_succ _) _).setCell (Nat.le_succ _) _⟩
  have hst := hst hz
  have Z := storeF_zero (askF_zero hz).1
  have hw : Wf key := wf_small (faultOf_zero (askF_zero hz).2).1 (by have := (faultOf_zero (askF_zero hz).2).2; omega)
  have HZ : Hid (scan (cellF S.c) S.nc = 0 ∧ (S.nc ≤ 200 ∧ S.nl ≤ 200 ∧ S.nw ≤ 200)) := ⟨Z.2.1, Z.1⟩
  have HA : Hid (askF S key = 0) := hz
  clear Z
  by_cases hh : hasCell S S.nc key start
  · obtain ⟨u, hu⟩ : ∃ u, cellM S S.nc key start = some u := Option.isSome_iff_exists.1 ((cellM_has S _ _ _).2 hh)
    have E : Hid (cellAtC S key start = 0 ∧ cellAtV S key start = u) := ⟨by unfold cellAtC; rw [if_neg (fun q => q hz), if_pos hh], by unfold cellAtV; rw [if_neg (fun q => q hz), hu]; rfl⟩
    have HU : Hid (cellM S S.nc key start = some u) := hu
    clear hu hh hz
    go_enter Try.func8, Try.ntmps8
    go_wp2_with fail
    refine (askFault_any S _ _ _ key B _ HE.out.2.2.1).mono ?_
    rw [HA.out]
    rintro e w1 ⟨rfl, q1⟩
    have HE : Hid (CallEnv w B S (.slice a0 S.nc c0) (.slice a1 S.nl c1) (.slice a2 S.nw c2) (.int .i64 0) (.int .i64 0) w1) := HE.out.later q1
    obtain ⟨⟨⟨p0, p1, p2⟩, _⟩, ⟨⟨r0, r1⟩, f0, f1⟩, _⟩ := HE.out
    clear q1
    go_wp2_with fail
    refine (columnsOf_any S B _ _ _ _ HE.out.2.2.1 HZ.out.2.1 HZ.out.2.2.1 HZ.out.2.2.2 HZ.out.1).mono ?_
    rintro e w2 ⟨b, g, u1, u2, rfl, hC, q1⟩
    clear p0 p1 p2 r0 r1 f0 f1
    have HE : Hid (CallEnv w B S (.slice a0 S.nc c0) (.slice a1 S.nl c1) (.slice a2 S.nw c2) (.int .i64 0) (.int .i64 0) w2) := HE.out.later q1
    obtain ⟨_, ⟨⟨r0, r1⟩, f0, f1⟩, _⟩ := HE.out
    have m0 := hC.2.2.1.1.1
    have hlk := hC.2.2.2.1.look hw hst
    rw [HU.out] at hlk
    clear q1 hC
    go_wp2
    exact bodyPost_ret (v := .agg #[.int .i64 0, .int .i64 u]) (by simp [results, Try.results8, go_sem, r0, r1]) rfl ⟨by rw [E.out.1, E.out.2], (HE.out.2.2.2.setCell (Nat.le_succ _) _).setCell (Nat.le_succ _) _⟩
  · have hu : cellM S S.nc key start = none := by
      cases hq : cellM S S.nc key start with
      | none => rfl
      | some u => exact absurd ((cellM_has S _ _ _).1 (by rw [hq]; rfl)) hh
    have E : Hid (cellAtC S key start = 4 ∧ cellAtV S key start = 0) := ⟨by unfold cellAtC; rw [if_neg (fun q => q hz), if_neg hh], by unfold cellAtV; rw [if_neg (fun q => q hz), hu]; rfl⟩
    have HU : Hid (cellM S S.nc key start = none) := hu
    clear hu hh hz
    go_enter Try.func8, Try.ntmps8
    go_wp2_with fail
    refine (askFault_any S _ _ _ key B _ HE.out.2.2.1).mono ?_
    rw [HA.out]
    rintro e w1 ⟨rfl, q1⟩
    have HE : Hid (CallEnv w B S (.slice a0 S.nc c0) (.slice a1 S.nl c1) (.slice a2 S.nw c2) (.int .i64 0) (.int .i64 0) w1) := HE.out.later q1
    obtain ⟨⟨⟨p0, p1, p2⟩, _⟩, ⟨⟨r0, r1⟩, f0, f1⟩, _⟩ := HE.out
    clear q1
    go_wp2_with fail
    refine (columnsOf_any S B _ _ _ _ HE.out.2.2.1 HZ.out.2.1 HZ.out.2.2.1 HZ.out.2.2.2 HZ.out.1).mono ?_
    rintro e w2 ⟨b, g, u1, u2, rfl, hC, q1⟩
    clear p0 p1 p2 r0 r1 f0 f1
    have HE : Hid (CallEnv w B S (.slice a0 S.nc c0) (.slice a1 S.nl c1) (.slice a2 S.nw c2) (.int .i64 0) (.int .i64 0) w2) := HE.out.later q1
    obtain ⟨_, ⟨⟨r0, r1⟩, f0, f1⟩, _⟩ := HE.out
    have m0 := hC.2.2.1.1.1
    have hlk := hC.2.2.2.1.look hw hst
    rw [HU.out] at hlk
    clear q1 hC
    go_wp2
    exact bodyPost_ret (v := .agg #[.int .i64 4, .int .i64 0]) (by simp [results, Try.results8, go_sem, r0, r1]) rfl ⟨by rw [E.out.1, E.out.2], (HE.out.2.2.2.setCell (Nat.le_succ _) _).setCell (Nat.le_succ _) _⟩
set_option maxRecDepth 100000 in
set_option maxHeartbeats 2000000 in
theorem specCellAt_any (S : Sto) (v0 v1 v2 : Value) (key start : Int) (B : Nat) (w : World) (h : St w B S v0 v1 v2) :
    Calls Try.prog 13 #[.agg #[v0, v1, v2], .int .i64 key, .int .i64 start] w fun e w' => e = .returned (.agg #[.int .i64 (cellAtC S key start), .int .i64 (cellAtV S key start)]) ∧ Below w.heap.size w w' := by
  obtain ⟨a0, c0, a1, c1, a2, c2, rfl, rfl, rfl⟩ := h.form
  have HE : Hid (CallEnv w B S (.slice a0 S.nc c0) (.slice a1 S.nl c1) (.slice a2 S.nw c2) (.int .i64 0) (.int .i64 0) ((w.alloc (.cells #[.slice a0 S.nc c0, .slice a1 S.nl c1, .slice a2 S.nw c2] 28)).alloc (.cells #[.int .i64 0, .int .i64 0] 35))) := CallEnv.new h _ _ _ _
  clear h
  by_cases hz : askF S key = 0
  case neg =>
    obtain ⟨f, hf⟩ : ∃ f, askF S key = f := ⟨_, rfl⟩
    have E : Hid (cellAtC S key start = f ∧ cellAtV S key start = 0) := ⟨by unfold cellAtC; rw [if_pos hz, hf], by unfold cellAtV; rw [if_pos hz]⟩
    have HF : Hid (askF S key = f) := hf
    have hfn : (f == 0) = false := beq_eq_false_iff_ne.2 (by rw [← hf]; exact hz)
    clear hz hf
    go_enter Try.func13, Try.ntmps13
    go_wp2_with fail
    refine (asked_any S w.heap.size _ _ _ key _ ⟨HE.out.1.1, HE.out.2.2.1.mono (Nat.zero_le _)⟩).mono ?_
    rw [HF.out]
    rintro e w1 ⟨rfl, q1⟩
    have HE : Hid (CallEnv w B S (.slice a0 S.nc c0) (.slice a1 S.nl c1) (.slice a2 S.nw c2) (.int .i64 0) (.int .i64 0) w1) := HE.out.later q1
    obtain ⟨⟨⟨p0, p1, p2⟩, _⟩, ⟨⟨r0, r1⟩, f0, f1⟩, _⟩ := HE.out
    clear q1
    go_wp2
    exact bodyPost_ret (v := .agg #[.int .i64 f, .int .i64 0]) (by simp [results, Try.results13, go_sem, r0, r1]) rfl ⟨by rw [E.out.1, E.out.2], (HE.out.2.2.2.setCell (Nat.le_succ _) _).setCell (Nat.le_succ _) _⟩
  have Z := storeF_zero (askF_zero hz).1
  have HZ : Hid (scan (cellF S.c) S.nc = 0 ∧ (S.nc ≤ 200 ∧ S.nl ≤ 200 ∧ S.nw ≤ 200)) := ⟨Z.2.1, Z.1⟩
  have HA : Hid (askF S key = 0) := hz
  obtain ⟨c, HC⟩ : ∃ c, Hid (FirstAt (cellIs S.c key start) S.nc c) := FirstAt.get _ _
  rcases HC.out with ⟨rfl, hno⟩ | ⟨i, hi, rfl, hp, _⟩
  · have hh : ¬ hasCell S S.nc key start := fun ⟨i, hi, q⟩ => hno i hi q
    have hu : cellM S S.nc key start = none := by
      cases hq : cellM S S.nc key start with
      | none => rfl
      | some u => exact absurd ((cellM_has S _ _ _).1 (by rw [hq]; rfl)) hh
    have E : Hid (cellAtC S key start = 4 ∧ cellAtV S key start = 0) := ⟨by unfold cellAtC; rw [if_neg (fun q => q hz), if_neg hh], by unfold cellAtV; rw [if_neg (fun q => q hz), hu]; rfl⟩
    clear hu hh hz Z hno
    go_enter Try.func13, Try.ntmps13
    go_wp2_with fail
    refine (asked_any S w.heap.size _ _ _ key _ ⟨HE.out.1.1, HE.out.2.2.1.mono (Nat.zero_le _)⟩).mono ?_
    rw [HA.out]
    rintro e w1 ⟨rfl, q1⟩
    have HE : Hid (CallEnv w B S (.slice a0 S.nc c0) (.slice a1 S.nl c1) (.slice a2 S.nw c2) (.int .i64 0) (.int .i64 0) w1) := HE.out.later q1
    obtain ⟨⟨⟨p0, p1, p2⟩, _⟩, ⟨⟨r0, r1⟩, f0, f1⟩, _⟩ := HE.out
    clear q1
    go_wp2_with fail
    refine (l2Cell_is S w.heap.size _ _ _ key start (-1) _ ⟨HE.out.1.1, HE.out.2.2.1.mono (Nat.zero_le _)⟩ HZ.out.2.1 HC.out).mono ?_
    rintro e w2 ⟨rfl, rfl⟩
    go_wp2
    exact bodyPost_ret (v := .agg #[.int .i64 4, .int .i64 0]) (by simp [results, Try.results13, go_sem, r0, r1]) rfl ⟨by rw [E.out.1, E.out.2], (HE.out.2.2.2.setCell (Nat.le_succ _) _).setCell (Nat.le_succ _) _⟩
  · have hu := cellM_at Z.2.1 hi hp
    obtain ⟨u, hu2⟩ : ∃ u, S.c (i * 3 + 2) = u := ⟨_, rfl⟩
    rw [hu2] at hu
    have E : Hid (cellAtC S key start = 0 ∧ cellAtV S key start = u) := ⟨by unfold cellAtC; rw [if_neg (fun q => q hz), if_pos ⟨i, hi, hp⟩], by unfold cellAtV; rw [if_neg (fun q => q hz), hu]; rfl⟩
    have HU : Hid (S.c (i * 3 + 2) = u) := hu2
    clear hu hu2 hz Z hp
    go_enter Try.func13, Try.ntmps13
    go_wp2_with fail
    refine (asked_any S w.heap.size _ _ _ key _ ⟨HE.out.1.1, HE.out.2.2.1.mono (Nat.zero_le _)⟩).mono ?_
    rw [HA.out]
    rintro e w1 ⟨rfl, q1⟩
    have HE : Hid (CallEnv w B S (.slice a0 S.nc c0) (.slice a1 S.nl c1) (.slice a2 S.nw c2) (.int .i64 0) (.int .i64 0) w1) := HE.out.later q1
    obtain ⟨⟨⟨p0, p1, p2⟩, _⟩, ⟨⟨r0, r1⟩, f0, f1⟩, _⟩ := HE.out
    clear q1
    go_wp2_with fail
    refine (l2Cell_is S w.heap.size _ _ _ key start i _ ⟨HE.out.1.1, HE.out.2.2.1.mono (Nat.zero_le _)⟩ HZ.out.2.1 HC.out).mono ?_
    rintro e w2 ⟨rfl, rfl⟩
    obtain ⟨g, o, rfl, _, hg, x0, x1, x2⟩ := HE.out.2.2.1.1.at3 hi
    rw [HU.out] at x2
    have hin : (i : Int) < (S.nc : Int) := by omega
    go_wp2
    exact bodyPost_ret (v := .agg #[.int .i64 0, .int .i64 u]) (by simp [results, Try.results13, go_sem, r0, r1]) rfl ⟨by rw [E.out.1, E.out.2], (HE.out.2.2.2.setCell (Nat.le_succ _) _).setCell (Nat.le_succ _) _⟩
end Go.Proofs.Ytdodahmimppdoaa

namespace Go.Proofs.Ytdodahmimppdoaa
open Go.RowKit

theorem row_one4 (w : World) (x0 x1 x2 x3 : Int) (t : TypeId) (F : Nat → Int) (h0 : F 0 = x0) (h1 : F 1 = x1) (h2 : F 2 = x2) (h3 : F 3 = x3) :
    Row (w.alloc (.cells #[.int .i64 x0, .int .i64 x1, .int .i64 x2, .int .i64 x3] t)) w.heap.size 4 1 F (.slice (some ⟨w.heap.size, 0, none⟩) 1 1) ∧ Free (w.alloc (.cells #[.int .i64 x0, .int .i64 x1, .int .i64 x2, .int .i64 x3] t)) (1 * 4) (.slice (some ⟨w.heap.size, 0, none⟩) 1 1) := by
  refine ⟨⟨_, _, rfl, fun _ => ⟨_, _, rfl, Nat.le_refl _, by simp, fun p hp => ?_⟩⟩, ?_⟩
  · rw [Nat.zero_add]
    match p, hp with
    | 0, _ => rw [h0]; exact World.cell?_alloc_mark w _ _ _ 0
    | 1, _ => rw [h1]; exact World.cell?_alloc_mark w _ _ _ 1
    | 2, _ => rw [h2]; exact World.cell?_alloc_mark w _ _ _ 2
    | 3, _ => rw [h3]; exact World.cell?_alloc_mark w _ _ _ 3
  · intro g o n c hv p hp
    simp only [Value.slice.injEq, Option.some.injEq, Addr.mk.injEq] at hv
    obtain ⟨⟨rfl, rfl, _⟩, _, _⟩ := hv
    simp
theorem row_none4 (w : World) (B : Nat) (F : Nat → Int) : Row w B 4 0 F (.slice none 0 0) ∧ Free w (0 * 4) (.slice none 0 0) := ⟨⟨_, _, rfl, fun q => absurd q (Nat.lt_irrefl 0)⟩, by rw [Nat.zero_mul]; exact Free.of0 _ _⟩
set_option maxHeartbeats 1000000 in
theorem writeAlone_no (F : Nat → Int) (x0 x1 x2 x3 : Int) (w : World) :
    Calls Try.prog 18 #[.agg #[.int .i64 x0, .int .i64 x1, .int .i64 x2, .int .i64 x3], .bool false] w (ResRow 4 w 4 0 F) := by
  unfold ResRow
  go_enter Try.func18, Try.ntmps18
  go_wp2
  exact bodyPost_ret (v := .agg #[.int .i64 4, .slice none 0 0]) (by simp [results, Try.results18, go_sem]) rfl ⟨none, 0, rfl, (row_none4 _ _ _).1, (row_none4 _ w.heap.size F).2, (below_alloc _ _).alloc (by simp) _⟩
set_option maxHeartbeats 1000000 in
theorem writeAlone_yes (F : Nat → Int) (x0 x1 x2 x3 : Int) (h0 : F 0 = x0) (h1 : F 1 = x1) (h2 : F 2 = x2) (h3 : F 3 = x3) (w : World) :
    Calls Try.prog 18 #[.agg #[.int .i64 x0, .int .i64 x1, .int .i64 x2, .int .i64 x3], .bool true] w (ResRow 4 w 0 1 F) := by
  have HH : Hid (F 0 = x0 ∧ F 1 = x1 ∧ F 2 = x2 ∧ F 3 = x3) := ⟨h0, h1, h2, h3⟩
  clear h0 h1 h2 h3
  unfold ResRow
  go_enter Try.func18, Try.ntmps18
  go_wp2
  have hO := row_one4 ((w.alloc (.cells #[.int .i64 x0, .int .i64 x1, .int .i64 x2, .int .i64 x3] 42)).alloc (.cells #[.int .i64 0, .slice (some ⟨w.heap.size + 1 + 1, 0, none⟩) 1 1] 32)) x0 x1 x2 x3 42 F HH.out.1 HH.out.2.1 HH.out.2.2.1 HH.out.2.2.2
  simp only [World.size_alloc] at hO
  exact bodyPost_ret (v := .agg #[.int .i64 0, .slice (some ⟨w.heap.size + 1 + 1, 0, none⟩) 1 1]) (by simp [results, Try.results18, go_sem]) rfl ⟨_, _, rfl, hO.1.mono (by omega), hO.2, ((below_alloc _ _).alloc (by simp) _).alloc (by simp; omega) _⟩
/-- What is answered of one write: a code, and a row of it or of none. -/
def WAns (S : Sto) (key : Int) (q : Nat → Prop) (c : Int) (n : Nat) (F : Nat → Int) : Prop :=
  (askF S key ≠ 0 ∧ c = askF S key ∧ n = 0) ∨ (askF S key = 0 ∧ (∀ i, ¬ q i) ∧ c = 4 ∧ n = 0) ∨ (askF S key = 0 ∧ ∃ i, i < S.nw ∧ q i ∧ c = 0 ∧ n = 1 ∧ F = fun p => S.k (i * 4 + p))
theorem WAns.get (S : Sto) (key : Int) (q : Nat → Prop) (hq : ∀ i, q i → i < S.nw) : ∃ c n F, n ≤ 1000 ∧ WAns S key q c n F := by
  by_cases hz : askF S key = 0
  · by_cases he : ∃ i, q i
    · obtain ⟨i, hi⟩ := he
      exact ⟨0, 1, _, by omega, Or.inr (Or.inr ⟨hz, i, hq i hi, hi, rfl, rfl, rfl⟩)⟩
    · exact ⟨4, 0, fun _ => 0, by omega, Or.inr (Or.inl ⟨hz, fun i hi => he ⟨i, hi⟩, rfl, rfl⟩)⟩
  · exact ⟨_, 0, fun _ => 0, by omega, Or.inl ⟨hz, rfl, rfl⟩⟩
def WriteOfAns (S : Sto) (key start c : Int) (n : Nat) (F : Nat → Int) : Prop := WAns S key (firstW S.k S.nw key start) c n F
def LastWriteAns (S : Sto) (key ts c : Int) (n : Nat) (F : Nat → Int) : Prop := WAns S key (lastW S.k S.nw key ts) c n F
theorem WriteOfAns.get (S : Sto) (key start : Int) : ∃ c n F, n ≤ 1000 ∧ WriteOfAns S key start c n F := WAns.get S key _ (fun _ h => h.1)
theorem LastWriteAns.get (S : Sto) (key ts : Int) : ∃ c n F, n ≤ 1000 ∧ LastWriteAns S key ts c n F := WAns.get S key _ (fun _ h => h.1)
set_option maxRecDepth 100000 in
set_option maxHeartbeats 2000000 in
theorem l2One_no (F : Nat → Int) (b : Nat) (w : World) :
    Calls Try.prog 25 #[.pointer (some ⟨b, 0, none⟩), .int .i64 (-1)] w (ResRow 4 w 4 0 F) := by
  unfold ResRow
  go_enter Try.func25, Try.ntmps25
  go_wp2
  exact bodyPost_ret (v := .agg #[.int .i64 4, .slice none 0 0]) (by simp [results, Try.results25, go_sem]) rfl ⟨none, 0, rfl, (row_none4 _ _ _).1, (row_none4 _ w.heap.size F).2, below_alloc _ _⟩
set_option maxRecDepth 100000 in
set_option maxHeartbeats 2000000 in
theorem l2One_yes (S : Sto) (b : Nat) (v0 v1 v2 : Value) (i : Nat) (w : World) (h : Lies w b S v0 v1 v2) (hi : i < S.nw) :
    Calls Try.prog 25 #[.pointer (some ⟨b, 0, none⟩), .int .i64 i] w (ResRow 4 w 0 1 (fun p => S.k (i * 4 + p))) := by
  obtain ⟨a0, c0, a1, c1, a2, c2, rfl, rfl, rfl⟩ := h.2.form
  have p2 := h.1.2.2
  have hb := h.lt
  obtain ⟨g, o, rfl, _, hg, x0, x1, x2, x3⟩ := h.2.2.2.at4 hi
  obtain ⟨n0, N0⟩ : ∃ x, S.k (i * 4) = x := ⟨_, rfl⟩
  rw [N0] at x0
  obtain ⟨n1, N1⟩ : ∃ x, S.k (i * 4 + 1) = x := ⟨_, rfl⟩
  rw [N1] at x1
  obtain ⟨n2, N2⟩ : ∃ x, S.k (i * 4 + 2) = x := ⟨_, rfl⟩
  rw [N2] at x2
  obtain ⟨n3, N3⟩ : ∃ x, S.k (i * 4 + 3) = x := ⟨_, rfl⟩
  rw [N3] at x3
  have NN : Hid (S.k (i * 4) = n0 ∧ S.k (i * 4 + 1) = n1 ∧ S.k (i * 4 + 2) = n2 ∧ S.k (i * 4 + 3) = n3) := ⟨N0, N1, N2, N3⟩
  have hin : (i : Int) < (S.nw : Int) := by omega
  clear N0 N1 N2 N3 h
  unfold ResRow
  go_enter Try.func25, Try.ntmps25
  go_wp2
  have hO := row_one4 (w.alloc (.cells #[.int .i64 0, .slice (some ⟨w.heap.size + 1, 0, none⟩) 1 1] 32)) n0 n1 n2 n3 42 (fun p => S.k (i * 4 + p)) NN.out.1 NN.out.2.1 NN.out.2.2.1 NN.out.2.2.2
  simp only [World.size_alloc] at hO
  exact bodyPost_ret (v := .agg #[.int .i64 0, .slice (some ⟨w.heap.size + 1, 0, none⟩) 1 1]) (by simp [results, Try.results25, go_sem]) rfl ⟨_, _, rfl, hO.1.mono (by omega), hO.2, (below_alloc _ _).alloc (by simp) _⟩
theorem l2Write_no (S : Sto) (b : Nat) (v0 v1 v2 : Value) (key start : Int) (w : World) (h : Lies w b S v0 v1 v2) (hn : S.nw ≤ 200) (hq : ∀ i, ¬ firstW S.k S.nw key start i) :
    Calls Try.prog 27 #[.pointer (some ⟨b, 0, none⟩), .int .i64 key, .int .i64 start] w fun e w' => e = .returned (.int .i64 (-1)) ∧ Below w.heap.size w w' := by
  obtain ⟨r, hr⟩ := FirstAt.get (writeIs S.k key start) S.nw
  refine (l2Write_is S b v0 v1 v2 key start r w h hn hr).mono fun e w' ⟨he, hw⟩ => ⟨?_, by rw [hw]; exact Below.refl _ _⟩
  rcases hr with ⟨rfl, _⟩ | ⟨i, h1, _, h2, h3⟩
  · exact he
  · exact absurd ⟨h1, h2, h3⟩ (hq i)
theorem l2Write_yes (S : Sto) (b : Nat) (v0 v1 v2 : Value) (key start : Int) (i : Nat) (w : World) (h : Lies w b S v0 v1 v2) (hn : S.nw ≤ 200) (hq : firstW S.k S.nw key start i) :
    Calls Try.prog 27 #[.pointer (some ⟨b, 0, none⟩), .int .i64 key, .int .i64 start] w fun e w' => e = .returned (.int .i64 i) ∧ Below w.heap.size w w' :=
  (l2Write_is S b v0 v1 v2 key start i w h hn (Or.inr ⟨i, hq.1, rfl, hq.2.1, hq.2.2⟩)).mono fun e w' ⟨he, hw⟩ => ⟨he, by rw [hw]; exact Below.refl _ _⟩
set_option maxRecDepth 100000 in
set_option maxHeartbeats 4000000 in
theorem implWriteOf_is (S : Sto) (v0 v1 v2 : Value) (key start c : Int) (n : Nat) (F : Nat → Int) (B : Nat) (w : World) (h : St w B S v0 v1 v2) (hA : WriteOfAns S key start c n F) :
    Calls Try.prog 7 #[.agg #[v0, v1, v2], .int .i64 key, .int .i64 start] w (ResRow 4 w c n F) := by
  obtain ⟨a0, c0, a1, c1, a2, c2, rfl, rfl, rfl⟩ := h.form
  have HE : Hid (CallEnv w B S (.slice a0 S.nc c0) (.slice a1 S.nl c1) (.slice a2 S.nw c2) (.int .i64 0) (.slice none 0 0) ((w.alloc (.cells #[.slice a0 S.nc c0, .slice a1 S.nl c1, .slice a2 S.nw c2] 28)).alloc (.cells #[.int .i64 0, .slice none 0 0] 32))) := CallEnv.new h _ _ _ _
  clear h
  unfold ResRow
  rcases hA with ⟨hz, rfl, rfl⟩ | ⟨hz, hno, rfl, rfl⟩ | ⟨hz, i, hi, hp, rfl, rfl, rfl⟩
  · obtain ⟨f, hf⟩ : ∃ f, askF S key = f := ⟨_, rfl⟩
    have HF : Hid (askF S key = f) := hf
    have hfn : (f == 0) = false := beq_eq_false_iff_ne.2 (by rw [← hf]; exact hz)
    rw [hf]
    clear hz hf
    go_enter Try.func7, Try.ntmps7
    go_wp2_with fail
    refine (askFault_any S _ _ _ key B _ HE.out.2.2.1).mono ?_
    rw [HF.out]
    rintro e w1 ⟨rfl, q1⟩
    have HE : Hid (CallEnv w B S (.slice a0 S.nc c0) (.slice a1 S.nl c1) (.slice a2 S.nw c2) (.int .i64 0) (.slice none 0 0) w1) := HE.out.later q1
    obtain ⟨⟨⟨p0, p1, p2⟩, _⟩, ⟨⟨r0, r1⟩, f0, f1⟩, _⟩ := HE.out
    clear q1
    go_wp2
    refine bodyPost_ret (v := .agg #[.int .i64 f, .slice none 0 0]) (by simp [results, Try.results7, go_sem, r0, r1]) rfl ⟨none, 0, rfl, (row_none4 _ _ _).1, (row_none4 _ w.heap.size F).2, (HE.out.2.2.2.setCell (Nat.le_succ _) _).setCell (Nat.le_succ _) _⟩
  · have Z := storeF_zero (askF_zero hz).1
    have HZ : Hid (scan (cellF S.c) S.nc = 0 ∧ (S.nc ≤ 200 ∧ S.nl ≤ 200 ∧ S.nw ≤ 200)) := ⟨Z.2.1, Z.1⟩
    have HK : Hid (∀ i, i < S.nw → 1 ≤ S.k (i * 4 + 3)) := fun i hi => (writeF_zero (scan_zero Z.2.2.2.1 i hi)).2.2.2.2.2.1
    have HA : Hid (askF S key = 0) := hz
    have HN : Hid (∀ i, ¬ firstW S.k S.nw key start i) := hno
    clear Z hz hno
    go_enter Try.func7, Try.ntmps7
    go_wp2_with fail
    refine (askFault_any S _ _ _ key B _ HE.out.2.2.1).mono ?_
    rw [HA.out]
    rintro e w1 ⟨rfl, q1⟩
    have HE : Hid (CallEnv w B S (.slice a0 S.nc c0) (.slice a1 S.nl c1) (.slice a2 S.nw c2) (.int .i64 0) (.slice none 0 0) w1) := HE.out.later q1
    obtain ⟨⟨⟨p0, p1, p2⟩, _⟩, ⟨⟨r0, r1⟩, f0, f1⟩, _⟩ := HE.out
    clear q1
    go_wp2_with fail
    refine (columnsOf_any S B _ _ _ _ HE.out.2.2.1 HZ.out.2.1 HZ.out.2.2.1 HZ.out.2.2.2 HZ.out.1).mono ?_
    rintro e w2 ⟨b, g, u1, u2, rfl, HC, q1⟩
    clear p0 p1 p2 r0 r1 f0 f1
    have HE : Hid (CallEnv w B S (.slice a0 S.nc c0) (.slice a1 S.nl c1) (.slice a2 S.nw c2) (.int .i64 0) (.slice none 0 0) w2) := HE.out.later q1
    clear q1
    go_wp2_with fail
    refine (writeOf_any _ b _ _ _ _ S.nw S.k g u1 u2 key start _ HC HZ.out.2.2.2 ).mono ?_
    rintro e w3 ⟨v, rfl, hT, q1⟩
    obtain rfl : v = .tuple #[.agg #[.int .i64 0, .int .i64 0, .int .i64 0, .int .i64 0], .bool false] := by
      rcases hT with ⟨i, hi, _⟩ | ⟨_, e⟩
      · exact absurd hi (HN.out i)
      · exact e
    have HE : Hid (CallEnv w B S (.slice a0 S.nc c0) (.slice a1 S.nl c1) (.slice a2 S.nw c2) (.int .i64 0) (.slice none 0 0) w3) := HE.out.later q1
    clear q1 hT HC
    go_wp2_with fail
    refine (writeAlone_no F 0 0 0 0 _).mono ?_
    rintro e w4 ⟨ao, cp, rfl, ro, fo, q1⟩
    have HO : Hid (Row w4 (w.heap.size + 2) 4 0 F (.slice ao 0 cp) ∧ Free w4 (0 * 4) (.slice ao 0 cp)) := ⟨ro.mono (by have := HE.out.2.1.lt; omega), fo⟩
    have HE : Hid (CallEnv w B S (.slice a0 S.nc c0) (.slice a1 S.nl c1) (.slice a2 S.nw c2) (.int .i64 0) (.slice none 0 0) w4) := HE.out.later q1
    have z9 := HE.out.2.1.lt
    obtain ⟨_, ⟨⟨r0, r1⟩, f0, f1⟩, _⟩ := HE.out
    clear q1 ro fo
    go_wp2
    refine bodyPost_ret (v := .agg #[.int .i64 4, .slice ao 0 cp]) (by simp [results, Try.results7, go_sem, r0, r1]) rfl ⟨ao, cp, rfl, ((HO.out.1.far (Or.inl (by simp)) _).far (Or.inl (by simp)) _).mono (by omega), (HO.out.2.far _ _).far _ _, (HE.out.2.2.2.setCell (Nat.le_succ _) _).setCell (Nat.le_succ _) _⟩
  · have Z := storeF_zero (askF_zero hz).1
    have HZ : Hid (scan (cellF S.c) S.nc = 0 ∧ (S.nc ≤ 200 ∧ S.nl ≤ 200 ∧ S.nw ≤ 200)) := ⟨Z.2.1, Z.1⟩
    have HK : Hid (∀ i, i < S.nw → 1 ≤ S.k (i * 4 + 3)) := fun i hi => (writeF_zero (scan_zero Z.2.2.2.1 i hi)).2.2.2.2.2.1
    have HA : Hid (askF S key = 0) := hz
    have HN : Hid (firstW S.k S.nw key start i) := hp
    clear Z hz hp
    obtain ⟨n0, N0⟩ : ∃ x, S.k (i * 4) = x := ⟨_, rfl⟩
    obtain ⟨n1, N1⟩ : ∃ x, S.k (i * 4 + 1) = x := ⟨_, rfl⟩
    obtain ⟨n2, N2⟩ : ∃ x, S.k (i * 4 + 2) = x := ⟨_, rfl⟩
    obtain ⟨n3, N3⟩ : ∃ x, S.k (i * 4 + 3) = x := ⟨_, rfl⟩
    have NN : Hid (S.k (i * 4) = n0 ∧ S.k (i * 4 + 1) = n1 ∧ S.k (i * 4 + 2) = n2 ∧ S.k (i * 4 + 3) = n3) := ⟨N0, N1, N2, N3⟩
    clear N0 N1 N2 N3
    go_enter Try.func7, Try.ntmps7
    go_wp2_with fail
    refine (askFault_any S _ _ _ key B _ HE.out.2.2.1).mono ?_
    rw [HA.out]
    rintro e w1 ⟨rfl, q1⟩
    have HE : Hid (CallEnv w B S (.slice a0 S.nc c0) (.slice a1 S.nl c1) (.slice a2 S.nw c2) (.int .i64 0) (.slice none 0 0) w1) := HE.out.later q1
    obtain ⟨⟨⟨p0, p1, p2⟩, _⟩, ⟨⟨r0, r1⟩, f0, f1⟩, _⟩ := HE.out
    clear q1
    go_wp2_with fail
    refine (columnsOf_any S B _ _ _ _ HE.out.2.2.1 HZ.out.2.1 HZ.out.2.2.1 HZ.out.2.2.2 HZ.out.1).mono ?_
    rintro e w2 ⟨b, g, u1, u2, rfl, HC, q1⟩
    clear p0 p1 p2 r0 r1 f0 f1
    have HE : Hid (CallEnv w B S (.slice a0 S.nc c0) (.slice a1 S.nl c1) (.slice a2 S.nw c2) (.int .i64 0) (.slice none 0 0) w2) := HE.out.later q1
    clear q1
    go_wp2_with fail
    refine (writeOf_any _ b _ _ _ _ S.nw S.k g u1 u2 key start _ HC HZ.out.2.2.2 ).mono ?_
    rintro e w3 ⟨v, rfl, hT, q1⟩
    obtain rfl : v = .tuple #[.agg #[.int .i64 n0, .int .i64 n1, .int .i64 n2, .int .i64 n3], .bool true] := by
      rcases hT with ⟨j, hj, e⟩ | ⟨h, _⟩
      · obtain rfl := hj.one HN.out
        rw [e, NN.out.1, NN.out.2.1, NN.out.2.2.1, NN.out.2.2.2]
      · exact absurd HN.out (h i)
    have HE : Hid (CallEnv w B S (.slice a0 S.nc c0) (.slice a1 S.nl c1) (.slice a2 S.nw c2) (.int .i64 0) (.slice none 0 0) w3) := HE.out.later q1
    clear q1 hT HC
    go_wp2_with fail
    refine (writeAlone_yes (fun p => S.k (i * 4 + p)) n0 n1 n2 n3 NN.out.1 NN.out.2.1 NN.out.2.2.1 NN.out.2.2.2 _).mono ?_
    rintro e w4 ⟨ao, cp, rfl, ro, fo, q1⟩
    have HO : Hid (Row w4 (w.heap.size + 2) 4 1 (fun p => S.k (i * 4 + p)) (.slice ao 1 cp) ∧ Free w4 (1 * 4) (.slice ao 1 cp)) := ⟨ro.mono (by have := HE.out.2.1.lt; omega), fo⟩
    have HE : Hid (CallEnv w B S (.slice a0 S.nc c0) (.slice a1 S.nl c1) (.slice a2 S.nw c2) (.int .i64 0) (.slice none 0 0) w4) := HE.out.later q1
    have z9 := HE.out.2.1.lt
    obtain ⟨_, ⟨⟨r0, r1⟩, f0, f1⟩, _⟩ := HE.out
    clear q1 ro fo
    go_wp2
    refine bodyPost_ret (v := .agg #[.int .i64 0, .slice ao 1 cp]) (by simp [results, Try.results7, go_sem, r0, r1]) rfl ⟨ao, cp, rfl, ((HO.out.1.far (Or.inl (by simp)) _).far (Or.inl (by simp)) _).mono (by omega), (HO.out.2.far _ _).far _ _, (HE.out.2.2.2.setCell (Nat.le_succ _) _).setCell (Nat.le_succ _) _⟩
set_option maxRecDepth 100000 in
set_option maxHeartbeats 4000000 in
theorem implLastWrite_is (S : Sto) (v0 v1 v2 : Value) (key ts c : Int) (n : Nat) (F : Nat → Int) (B : Nat) (w : World) (h : St w B S v0 v1 v2) (hA : LastWriteAns S key ts c n F) :
    Calls Try.prog 6 #[.agg #[v0, v1, v2], .int .i64 key, .int .i64 ts] w (ResRow 4 w c n F) := by
  obtain ⟨a0, c0, a1, c1, a2, c2, rfl, rfl, rfl⟩ := h.form
  have HE : Hid (CallEnv w B S (.slice a0 S.nc c0) (.slice a1 S.nl c1) (.slice a2 S.nw c2) (.int .i64 0) (.slice none 0 0) ((w.alloc (.cells #[.slice a0 S.nc c0, .slice a1 S.nl c1, .slice a2 S.nw c2] 28)).alloc (.cells #[.int .i64 0, .slice none 0 0] 32))) := CallEnv.new h _ _ _ _
  clear h
  unfold ResRow
  rcases hA with ⟨hz, rfl, rfl⟩ | ⟨hz, hno, rfl, rfl⟩ | ⟨hz, i, hi, hp, rfl, rfl, rfl⟩
  · obtain ⟨f, hf⟩ : ∃ f, askF S key = f := ⟨_, rfl⟩
    have HF : Hid (askF S key = f) := hf
    have hfn : (f == 0) = false := beq_eq_false_iff_ne.2 (by rw [← hf]; exact hz)
    rw [hf]
    clear hz hf
    go_enter Try.func6, Try.ntmps6
    go_wp2_with fail
    refine (askFault_any S _ _ _ key B _ HE.out.2.2.1).mono ?_
    rw [HF.out]
    rintro e w1 ⟨rfl, q1⟩
    have HE : Hid (CallEnv w B S (.slice a0 S.nc c0) (.slice a1 S.nl c1) (.slice a2 S.nw c2) (.int .i64 0) (.slice none 0 0) w1) := HE.out.later q1
    obtain ⟨⟨⟨p0, p1, p2⟩, _⟩, ⟨⟨r0, r1⟩, f0, f1⟩, _⟩ := HE.out
    clear q1
    go_wp2
    refine bodyPost_ret (v := .agg #[.int .i64 f, .slice none 0 0]) (by simp [results, Try.results6, go_sem, r0, r1]) rfl ⟨none, 0, rfl, (row_none4 _ _ _).1, (row_none4 _ w.heap.size F).2, (HE.out.2.2.2.setCell (Nat.le_succ _) _).setCell (Nat.le_succ _) _⟩
  · have Z := storeF_zero (askF_zero hz).1
    have HZ : Hid (scan (cellF S.c) S.nc = 0 ∧ (S.nc ≤ 200 ∧ S.nl ≤ 200 ∧ S.nw ≤ 200)) := ⟨Z.2.1, Z.1⟩
    have HK : Hid (∀ i, i < S.nw → 1 ≤ S.k (i * 4 + 3)) := fun i hi => (writeF_zero (scan_zero Z.2.2.2.1 i hi)).2.2.2.2.2.1
    have HA : Hid (askF S key = 0) := hz
    have HN : Hid (∀ i, ¬ lastW S.k S.nw key ts i) := hno
    clear Z hz hno
    go_enter Try.func6, Try.ntmps6
    go_wp2_with fail
    refine (askFault_any S _ _ _ key B _ HE.out.2.2.1).mono ?_
    rw [HA.out]
    rintro e w1 ⟨rfl, q1⟩
    have HE : Hid (CallEnv w B S (.slice a0 S.nc c0) (.slice a1 S.nl c1) (.slice a2 S.nw c2) (.int .i64 0) (.slice none 0 0) w1) := HE.out.later q1
    obtain ⟨⟨⟨p0, p1, p2⟩, _⟩, ⟨⟨r0, r1⟩, f0, f1⟩, _⟩ := HE.out
    clear q1
    go_wp2_with fail
    refine (columnsOf_any S B _ _ _ _ HE.out.2.2.1 HZ.out.2.1 HZ.out.2.2.1 HZ.out.2.2.2 HZ.out.1).mono ?_
    rintro e w2 ⟨b, g, u1, u2, rfl, HC, q1⟩
    clear p0 p1 p2 r0 r1 f0 f1
    have HE : Hid (CallEnv w B S (.slice a0 S.nc c0) (.slice a1 S.nl c1) (.slice a2 S.nw c2) (.int .i64 0) (.slice none 0 0) w2) := HE.out.later q1
    clear q1
    go_wp2_with fail
    refine (lastWrite_any _ b _ _ _ _ S.nw S.k g u1 u2 key ts _ HC HZ.out.2.2.2 HK.out).mono ?_
    rintro e w3 ⟨v, rfl, hT, q1⟩
    obtain rfl : v = .tuple #[.agg #[.int .i64 0, .int .i64 0, .int .i64 0, .int .i64 0], .bool false] := by
      rcases hT with ⟨i, hi, _⟩ | ⟨_, e⟩
      · exact absurd hi (HN.out i)
      · exact e
    have HE : Hid (CallEnv w B S (.slice a0 S.nc c0) (.slice a1 S.nl c1) (.slice a2 S.nw c2) (.int .i64 0) (.slice none 0 0) w3) := HE.out.later q1
    clear q1 hT HC
    go_wp2_with fail
    refine (writeAlone_no F 0 0 0 0 _).mono ?_
    rintro e w4 ⟨ao, cp, rfl, ro, fo, q1⟩
    have HO : Hid (Row w4 (w.heap.size + 2) 4 0 F (.slice ao 0 cp) ∧ Free w4 (0 * 4) (.slice ao 0 cp)) := ⟨ro.mono (by have := HE.out.2.1.lt; omega), fo⟩
    have HE : Hid (CallEnv w B S (.slice a0 S.nc c0) (.slice a1 S.nl c1) (.slice a2 S.nw c2) (.int .i64 0) (.slice none 0 0) w4) := HE.out.later q1
    have z9 := HE.out.2.1.lt
    obtain ⟨_, ⟨⟨r0, r1⟩, f0, f1⟩, _⟩ := HE.out
    clear q1 ro fo
    go_wp2
    refine bodyPost_ret (v := .agg #[.int .i64 4, .slice ao 0 cp]) (by simp [results, Try.results6, go_sem, r0, r1]) rfl ⟨ao, cp, rfl, ((HO.out.1.far (Or.inl (by simp)) _).far (Or.inl (by simp)) _).mono (by omega), (HO.out.2.far _ _).far _ _, (HE.out.2.2.2.setCell (Nat.le_succ _) _).setCell (Nat.le_succ _) _⟩
  · have Z := storeF_zero (askF_zero hz).1
    have HZ : Hid (scan (cellF S.c) S.nc = 0 ∧ (S.nc ≤ 200 ∧ S.nl ≤ 200 ∧ S.nw ≤ 200)) := ⟨Z.2.1, Z.1⟩
    have HK : Hid (∀ i, i < S.nw → 1 ≤ S.k (i * 4 + 3)) := fun i hi => (writeF_zero (scan_zero Z.2.2.2.1 i hi)).2.2.2.2.2.1
    have HA : Hid (askF S key = 0) := hz
    have HN : Hid (lastW S.k S.nw key ts i) := hp
    clear Z hz hp
    obtain ⟨n0, N0⟩ : ∃ x, S.k (i * 4) = x := ⟨_, rfl⟩
    obtain ⟨n1, N1⟩ : ∃ x, S.k (i * 4 + 1) = x := ⟨_, rfl⟩
    obtain ⟨n2, N2⟩ : ∃ x, S.k (i * 4 + 2) = x := ⟨_, rfl⟩
    obtain ⟨n3, N3⟩ : ∃ x, S.k (i * 4 + 3) = x := ⟨_, rfl⟩
    have NN : Hid (S.k (i * 4) = n0 ∧ S.k (i * 4 + 1) = n1 ∧ S.k (i * 4 + 2) = n2 ∧ S.k (i * 4 + 3) = n3) := ⟨N0, N1, N2, N3⟩
    clear N0 N1 N2 N3
    go_enter Try.func6, Try.ntmps6
    go_wp2_with fail
    refine (askFault_any S _ _ _ key B _ HE.out.2.2.1).mono ?_
    rw [HA.out]
    rintro e w1 ⟨rfl, q1⟩
    have HE : Hid (CallEnv w B S (.slice a0 S.nc c0) (.slice a1 S.nl c1) (.slice a2 S.nw c2) (.int .i64 0) (.slice none 0 0) w1) := HE.out.later q1
    obtain ⟨⟨⟨p0, p1, p2⟩, _⟩, ⟨⟨r0, r1⟩, f0, f1⟩, _⟩ := HE.out
    clear q1
    go_wp2_with fail
    refine (columnsOf_any S B _ _ _ _ HE.out.2.2.1 HZ.out.2.1 HZ.out.2.2.1 HZ.out.2.2.2 HZ.out.1).mono ?_
    rintro e w2 ⟨b, g, u1, u2, rfl, HC, q1⟩
    clear p0 p1 p2 r0 r1 f0 f1
    have HE : Hid (CallEnv w B S (.slice a0 S.nc c0) (.slice a1 S.nl c1) (.slice a2 S.nw c2) (.int .i64 0) (.slice none 0 0) w2) := HE.out.later q1
    clear q1
    go_wp2_with fail
    refine (lastWrite_any _ b _ _ _ _ S.nw S.k g u1 u2 key ts _ HC HZ.out.2.2.2 HK.out).mono ?_
    rintro e w3 ⟨v, rfl, hT, q1⟩
    obtain rfl : v = .tuple #[.agg #[.int .i64 n0, .int .i64 n1, .int .i64 n2, .int .i64 n3], .bool true] := by
      rcases hT with ⟨j, hj, e⟩ | ⟨h, _⟩
      · obtain rfl := hj.one HN.out
        rw [e, NN.out.1, NN.out.2.1, NN.out.2.2.1, NN.out.2.2.2]
      · exact absurd HN.out (h i)
    have HE : Hid (CallEnv w B S (.slice a0 S.nc c0) (.slice a1 S.nl c1) (.slice a2 S.nw c2) (.int .i64 0) (.slice none 0 0) w3) := HE.out.later q1
    clear q1 hT HC
    go_wp2_with fail
    refine (writeAlone_yes (fun p => S.k (i * 4 + p)) n0 n1 n2 n3 NN.out.1 NN.out.2.1 NN.out.2.2.1 NN.out.2.2.2 _).mono ?_
    rintro e w4 ⟨ao, cp, rfl, ro, fo, q1⟩
    have HO : Hid (Row w4 (w.heap.size + 2) 4 1 (fun p => S.k (i * 4 + p)) (.slice ao 1 cp) ∧ Free w4 (1 * 4) (.slice ao 1 cp)) := ⟨ro.mono (by have := HE.out.2.1.lt; omega), fo⟩
    have HE : Hid (CallEnv w B S (.slice a0 S.nc c0) (.slice a1 S.nl c1) (.slice a2 S.nw c2) (.int .i64 0) (.slice none 0 0) w4) := HE.out.later q1
    have z9 := HE.out.2.1.lt
    obtain ⟨_, ⟨⟨r0, r1⟩, f0, f1⟩, _⟩ := HE.out
    clear q1 ro fo
    go_wp2
    refine bodyPost_ret (v := .agg #[.int .i64 0, .slice ao 1 cp]) (by simp [results, Try.results6, go_sem, r0, r1]) rfl ⟨ao, cp, rfl, ((HO.out.1.far (Or.inl (by simp)) _).far (Or.inl (by simp)) _).mono (by omega), (HO.out.2.far _ _).far _ _, (HE.out.2.2.2.setCell (Nat.le_succ _) _).setCell (Nat.le_succ _) _⟩
set_option maxRecDepth 100000 in
set_option maxHeartbeats 4000000 in
theorem specWriteOf_is (S : Sto) (v0 v1 v2 : Value) (key start c : Int) (n : Nat) (F : Nat → Int) (B : Nat) (w : World) (h : St w B S v0 v1 v2) (hA : WriteOfAns S key start c n F) :
    Calls Try.prog 12 #[.agg #[v0, v1, v2], .int .i64 key, .int .i64 start] w (ResRow 4 w c n F) := by
  obtain ⟨a0, c0, a1, c1, a2, c2, rfl, rfl, rfl⟩ := h.form
  have HE : Hid (CallEnv w B S (.slice a0 S.nc c0) (.slice a1 S.nl c1) (.slice a2 S.nw c2) (.int .i64 0) (.slice none 0 0) ((w.alloc (.cells #[.slice a0 S.nc c0, .slice a1 S.nl c1, .slice a2 S.nw c2] 28)).alloc (.cells #[.int .i64 0, .slice none 0 0] 32))) := CallEnv.new h _ _ _ _
  clear h
  unfold ResRow
  rcases hA with ⟨hz, rfl, rfl⟩ | ⟨hz, hno, rfl, rfl⟩ | ⟨hz, i, hi, hp, rfl, rfl, rfl⟩
  · obtain ⟨f, hf⟩ : ∃ f, askF S key = f := ⟨_, rfl⟩
    have HF : Hid (askF S key = f) := hf
    have hfn : (f == 0) = false := beq_eq_false_iff_ne.2 (by rw [← hf]; exact hz)
    rw [hf]
    clear hz hf
    go_enter Try.func12, Try.ntmps12
    go_wp2_with fail
    refine (asked_any S w.heap.size _ _ _ key _ ⟨HE.out.1.1, HE.out.2.2.1.mono (Nat.zero_le _)⟩).mono ?_
    rw [HF.out]
    rintro e w1 ⟨rfl, q1⟩
    have HE : Hid (CallEnv w B S (.slice a0 S.nc c0) (.slice a1 S.nl c1) (.slice a2 S.nw c2) (.int .i64 0) (.slice none 0 0) w1) := HE.out.later q1
    obtain ⟨⟨⟨p0, p1, p2⟩, _⟩, ⟨⟨r0, r1⟩, f0, f1⟩, _⟩ := HE.out
    clear q1
    go_wp2
    refine bodyPost_ret (v := .agg #[.int .i64 f, .slice none 0 0]) (by simp [results, Try.results12, go_sem, r0, r1]) rfl ⟨none, 0, rfl, (row_none4 _ _ _).1, (row_none4 _ w.heap.size F).2, (HE.out.2.2.2.setCell (Nat.le_succ _) _).setCell (Nat.le_succ _) _⟩
  · have HZ : Hid (S.nw ≤ 200) := (storeF_zero (askF_zero hz).1).1.2.2
    have HA : Hid (askF S key = 0) := hz
    have HN : Hid (∀ i, ¬ firstW S.k S.nw key start i) := hno
    clear hz hno
    go_enter Try.func12, Try.ntmps12
    go_wp2_with fail
    refine (asked_any S w.heap.size _ _ _ key _ ⟨HE.out.1.1, HE.out.2.2.1.mono (Nat.zero_le _)⟩).mono ?_
    rw [HA.out]
    rintro e w1 ⟨rfl, q1⟩
    have HE : Hid (CallEnv w B S (.slice a0 S.nc c0) (.slice a1 S.nl c1) (.slice a2 S.nw c2) (.int .i64 0) (.slice none 0 0) w1) := HE.out.later q1
    obtain ⟨⟨⟨p0, p1, p2⟩, _⟩, ⟨⟨r0, r1⟩, f0, f1⟩, _⟩ := HE.out
    clear q1
    go_wp2_with fail
    refine (l2Write_no S w.heap.size _ _ _ key start _ ⟨HE.out.1.1, HE.out.2.2.1.mono (Nat.zero_le _)⟩ HZ.out HN.out).mono ?_
    rintro e w2 ⟨rfl, q1⟩
    clear p0 p1 p2 r0 r1 f0 f1
    have HE : Hid (CallEnv w B S (.slice a0 S.nc c0) (.slice a1 S.nl c1) (.slice a2 S.nw c2) (.int .i64 0) (.slice none 0 0) w2) := HE.out.later q1
    clear q1
    go_wp2_with fail
    refine (l2One_no F w.heap.size _).mono ?_
    rintro e w4 ⟨ao, cp, rfl, ro, fo, q1⟩
    have HO : Hid (Row w4 (w.heap.size + 2) 4 0 F (.slice ao 0 cp) ∧ Free w4 (0 * 4) (.slice ao 0 cp)) := ⟨ro.mono (by have := HE.out.2.1.lt; omega), fo⟩
    have HE : Hid (CallEnv w B S (.slice a0 S.nc c0) (.slice a1 S.nl c1) (.slice a2 S.nw c2) (.int .i64 0) (.slice none 0 0) w4) := HE.out.later q1
    have z9 := HE.out.2.1.lt
    obtain ⟨_, ⟨⟨r0, r1⟩, f0, f1⟩, _⟩ := HE.out
    clear q1 ro fo
    go_wp2
    refine bodyPost_ret (v := .agg #[.int .i64 4, .slice ao 0 cp]) (by simp [results, Try.results12, go_sem, r0, r1]) rfl ⟨ao, cp, rfl, ((HO.out.1.far (Or.inl (by simp)) _).far (Or.inl (by simp)) _).mono (by omega), (HO.out.2.far _ _).far _ _, (HE.out.2.2.2.setCell (Nat.le_succ _) _).setCell (Nat.le_succ _) _⟩
  · have HZ : Hid (S.nw ≤ 200) := (storeF_zero (askF_zero hz).1).1.2.2
    have HA : Hid (askF S key = 0) := hz
    have HN : Hid (firstW S.k S.nw key start i) := hp
    clear hz hp
    go_enter Try.func12, Try.ntmps12
    go_wp2_with fail
    refine (asked_any S w.heap.size _ _ _ key _ ⟨HE.out.1.1, HE.out.2.2.1.mono (Nat.zero_le _)⟩).mono ?_
    rw [HA.out]
    rintro e w1 ⟨rfl, q1⟩
    have HE : Hid (CallEnv w B S (.slice a0 S.nc c0) (.slice a1 S.nl c1) (.slice a2 S.nw c2) (.int .i64 0) (.slice none 0 0) w1) := HE.out.later q1
    obtain ⟨⟨⟨p0, p1, p2⟩, _⟩, ⟨⟨r0, r1⟩, f0, f1⟩, _⟩ := HE.out
    clear q1
    go_wp2_with fail
    refine (l2Write_yes S w.heap.size _ _ _ key start i _ ⟨HE.out.1.1, HE.out.2.2.1.mono (Nat.zero_le _)⟩ HZ.out HN.out).mono ?_
    rintro e w2 ⟨rfl, q1⟩
    clear p0 p1 p2 r0 r1 f0 f1
    have HE : Hid (CallEnv w B S (.slice a0 S.nc c0) (.slice a1 S.nl c1) (.slice a2 S.nw c2) (.int .i64 0) (.slice none 0 0) w2) := HE.out.later q1
    clear q1
    go_wp2_with fail
    refine (l2One_yes S w.heap.size _ _ _ i _ ⟨HE.out.1.1, HE.out.2.2.1.mono (Nat.zero_le _)⟩ hi).mono ?_
    rintro e w4 ⟨ao, cp, rfl, ro, fo, q1⟩
    have HO : Hid (Row w4 (w.heap.size + 2) 4 1 (fun p => S.k (i * 4 + p)) (.slice ao 1 cp) ∧ Free w4 (1 * 4) (.slice ao 1 cp)) := ⟨ro.mono (by have := HE.out.2.1.lt; omega), fo⟩
    have HE : Hid (CallEnv w B S (.slice a0 S.nc c0) (.slice a1 S.nl c1) (.slice a2 S.nw c2) (.int .i64 0) (.slice none 0 0) w4) := HE.out.later q1
    have z9 := HE.out.2.1.lt
    obtain ⟨_, ⟨⟨r0, r1⟩, f0, f1⟩, _⟩ := HE.out
    clear q1 ro fo
    go_wp2
    refine bodyPost_ret (v := .agg #[.int .i64 0, .slice ao 1 cp]) (by simp [results, Try.results12, go_sem, r0, r1]) rfl ⟨ao, cp, rfl, ((HO.out.1.far (Or.inl (by simp)) _).far (Or.inl (by simp)) _).mono (by omega), (HO.out.2.far _ _).far _ _, (HE.out.2.2.2.setCell (Nat.le_succ _) _).setCell (Nat.le_succ _) _⟩
set_option maxRecDepth 100000 in
set_option maxHeartbeats 4000000 in
theorem specLastWrite_is (S : Sto) (v0 v1 v2 : Value) (key ts c : Int) (n : Nat) (F : Nat → Int) (B : Nat) (w : World) (h : St w B S v0 v1 v2) (hA : LastWriteAns S key ts c n F) :
    Calls Try.prog 11 #[.agg #[v0, v1, v2], .int .i64 key, .int .i64 ts] w (ResRow 4 w c n F) := by
  obtain ⟨a0, c0, a1, c1, a2, c2, rfl, rfl, rfl⟩ := h.form
  have HE : Hid (CallEnv w B S (.slice a0 S.nc c0) (.slice a1 S.nl c1) (.slice a2 S.nw c2) (.int .i64 0) (.slice none 0 0) ((w.alloc (.cells #[.slice a0 S.nc c0, .slice a1 S.nl c1, .slice a2 S.nw c2] 28)).alloc (.cells #[.int .i64 0, .slice none 0 0] 32))) := CallEnv.new h _ _ _ _
  clear h
  unfold ResRow
  rcases hA with ⟨hz, rfl, rfl⟩ | ⟨hz, hno, rfl, rfl⟩ | ⟨hz, i, hi, hp, rfl, rfl, rfl⟩
  · obtain ⟨f, hf⟩ : ∃ f, askF S key = f := ⟨_, rfl⟩
    have HF : Hid (askF S key = f) := hf
    have hfn : (f == 0) = false := beq_eq_false_iff_ne.2 (by rw [← hf]; exact hz)
    rw [hf]
    clear hz hf
    go_enter Try.func11, Try.ntmps11
    go_wp2_with fail
    refine (asked_any S w.heap.size _ _ _ key _ ⟨HE.out.1.1, HE.out.2.2.1.mono (Nat.zero_le _)⟩).mono ?_
    rw [HF.out]
    rintro e w1 ⟨rfl, q1⟩
    have HE : Hid (CallEnv w B S (.slice a0 S.nc c0) (.slice a1 S.nl c1) (.slice a2 S.nw c2) (.int .i64 0) (.slice none 0 0) w1) := HE.out.later q1
    obtain ⟨⟨⟨p0, p1, p2⟩, _⟩, ⟨⟨r0, r1⟩, f0, f1⟩, _⟩ := HE.out
    clear q1
    go_wp2
    refine bodyPost_ret (v := .agg #[.int .i64 f, .slice none 0 0]) (by simp [results, Try.results11, go_sem, r0, r1]) rfl ⟨none, 0, rfl, (row_none4 _ _ _).1, (row_none4 _ w.heap.size F).2, (HE.out.2.2.2.setCell (Nat.le_succ _) _).setCell (Nat.le_succ _) _⟩
  · have HZ : Hid (S.nw ≤ 200) := (storeF_zero (askF_zero hz).1).1.2.2
    have HA : Hid (askF S key = 0) := hz
    have HN : Hid (∀ i, ¬ lastW S.k S.nw key ts i) := hno
    clear hz hno
    go_enter Try.func11, Try.ntmps11
    go_wp2_with fail
    refine (asked_any S w.heap.size _ _ _ key _ ⟨HE.out.1.1, HE.out.2.2.1.mono (Nat.zero_le _)⟩).mono ?_
    rw [HA.out]
    rintro e w1 ⟨rfl, q1⟩
    have HE : Hid (CallEnv w B S (.slice a0 S.nc c0) (.slice a1 S.nl c1) (.slice a2 S.nw c2) (.int .i64 0) (.slice none 0 0) w1) := HE.out.later q1
    obtain ⟨⟨⟨p0, p1, p2⟩, _⟩, ⟨⟨r0, r1⟩, f0, f1⟩, _⟩ := HE.out
    clear q1
    go_wp2_with fail
    refine (l2Last_no S w.heap.size _ _ _ key ts _ ⟨HE.out.1.1, HE.out.2.2.1.mono (Nat.zero_le _)⟩ HZ.out HN.out).mono ?_
    rintro e w2 ⟨rfl, q1⟩
    clear p0 p1 p2 r0 r1 f0 f1
    have HE : Hid (CallEnv w B S (.slice a0 S.nc c0) (.slice a1 S.nl c1) (.slice a2 S.nw c2) (.int .i64 0) (.slice none 0 0) w2) := HE.out.later q1
    clear q1
    go_wp2_with fail
    refine (l2One_no F w.heap.size _).mono ?_
    rintro e w4 ⟨ao, cp, rfl, ro, fo, q1⟩
    have HO : Hid (Row w4 (w.heap.size + 2) 4 0 F (.slice ao 0 cp) ∧ Free w4 (0 * 4) (.slice ao 0 cp)) := ⟨ro.mono (by have := HE.out.2.1.lt; omega), fo⟩
    have HE : Hid (CallEnv w B S (.slice a0 S.nc c0) (.slice a1 S.nl c1) (.slice a2 S.nw c2) (.int .i64 0) (.slice none 0 0) w4) := HE.out.later q1
    have z9 := HE.out.2.1.lt
    obtain ⟨_, ⟨⟨r0, r1⟩, f0, f1⟩, _⟩ := HE.out
    clear q1 ro fo
    go_wp2
    refine bodyPost_ret (v := .agg #[.int .i64 4, .slice ao 0 cp]) (by simp [results, Try.results11, go_sem, r0, r1]) rfl ⟨ao, cp, rfl, ((HO.out.1.far (Or.inl (by simp)) _).far (Or.inl (by simp)) _).mono (by omega), (HO.out.2.far _ _).far _ _, (HE.out.2.2.2.setCell (Nat.le_succ _) _).setCell (Nat.le_succ _) _⟩
  · have HZ : Hid (S.nw ≤ 200) := (storeF_zero (askF_zero hz).1).1.2.2
    have HA : Hid (askF S key = 0) := hz
    have HN : Hid (lastW S.k S.nw key ts i) := hp
    clear hz hp
    go_enter Try.func11, Try.ntmps11
    go_wp2_with fail
    refine (asked_any S w.heap.size _ _ _ key _ ⟨HE.out.1.1, HE.out.2.2.1.mono (Nat.zero_le _)⟩).mono ?_
    rw [HA.out]
    rintro e w1 ⟨rfl, q1⟩
    have HE : Hid (CallEnv w B S (.slice a0 S.nc c0) (.slice a1 S.nl c1) (.slice a2 S.nw c2) (.int .i64 0) (.slice none 0 0) w1) := HE.out.later q1
    obtain ⟨⟨⟨p0, p1, p2⟩, _⟩, ⟨⟨r0, r1⟩, f0, f1⟩, _⟩ := HE.out
    clear q1
    go_wp2_with fail
    refine (l2Last_yes S w.heap.size _ _ _ key ts i _ ⟨HE.out.1.1, HE.out.2.2.1.mono (Nat.zero_le _)⟩ HZ.out HN.out).mono ?_
    rintro e w2 ⟨rfl, q1⟩
    clear p0 p1 p2 r0 r1 f0 f1
    have HE : Hid (CallEnv w B S (.slice a0 S.nc c0) (.slice a1 S.nl c1) (.slice a2 S.nw c2) (.int .i64 0) (.slice none 0 0) w2) := HE.out.later q1
    clear q1
    go_wp2_with fail
    refine (l2One_yes S w.heap.size _ _ _ i _ ⟨HE.out.1.1, HE.out.2.2.1.mono (Nat.zero_le _)⟩ hi).mono ?_
    rintro e w4 ⟨ao, cp, rfl, ro, fo, q1⟩
    have HO : Hid (Row w4 (w.heap.size + 2) 4 1 (fun p => S.k (i * 4 + p)) (.slice ao 1 cp) ∧ Free w4 (1 * 4) (.slice ao 1 cp)) := ⟨ro.mono (by have := HE.out.2.1.lt; omega), fo⟩
    have HE : Hid (CallEnv w B S (.slice a0 S.nc c0) (.slice a1 S.nl c1) (.slice a2 S.nw c2) (.int .i64 0) (.slice none 0 0) w4) := HE.out.later q1
    have z9 := HE.out.2.1.lt
    obtain ⟨_, ⟨⟨r0, r1⟩, f0, f1⟩, _⟩ := HE.out
    clear q1 ro fo
    go_wp2
    refine bodyPost_ret (v := .agg #[.int .i64 0, .slice ao 1 cp]) (by simp [results, Try.results11, go_sem, r0, r1]) rfl ⟨ao, cp, rfl, ((HO.out.1.far (Or.inl (by simp)) _).far (Or.inl (by simp)) _).mono (by omega), (HO.out.2.far _ _).far _ _, (HE.out.2.2.2.setCell (Nat.le_succ _) _).setCell (Nat.le_succ _) _⟩
end Go.Proofs.Ytdodahmimppdoaa

namespace Go.Proofs.Ytdodahmimppdoaa
open Go.RowKit

/-- How many of the first n writes a key has. -/
def cntW (k : Nat → Int) (key : Int) : Nat → Nat
  | 0 => 0
  | n + 1 => cntW k key n + (if k (n * 4) = key then 1 else 0)
theorem cntW_le (k : Nat → Int) (key : Int) : ∀ n, cntW k key n ≤ n
  | 0 => Nat.le_refl _
  | n + 1 => by
    have ih := cntW_le k key n
    unfold cntW
    split <;> omega
theorem cntW_yes {k : Nat → Int} {key : Int} {n : Nat} (h : k (n * 4) = key) : cntW k key (n + 1) = cntW k key n + 1 := by rw [cntW, if_pos h]
theorem cntW_no {k : Nat → Int} {key : Int} {n : Nat} (h : k (n * 4) ≠ key) : cntW k key (n + 1) = cntW k key n := by rw [cntW, if_neg h]; rfl
set_option maxRecDepth 100000 in
set_option maxHeartbeats 4000000 in
theorem countWrites_is (B b N : Nat) (m : Int → Int → Option Int) (nl : Nat) (l : Nat → Int) (nw : Nat) (k : Nat → Int) (g : Nat) (u1 u2 : Value) (key : Int) (w : World) (h : Cols w B b N m nl l nw k g u1 u2) (hn : nw ≤ 200) :
    Calls Try.prog 23 #[.pointer (some ⟨b, 0, none⟩), .int .i64 key] w fun e w' => e = .returned (.int .i64 (cntW k key nw)) ∧ Below w.heap.size w w' := by
  obtain ⟨a1, c1, rfl⟩ := h.2.2.2.2.2.form
  have H : Hid (Row w B 4 nw k (.slice a1 nw c1)) := h.2.2.2.2.2.row.1
  have p1 := h.2.2.1.1.2.2
  have hb := h.2.2.1.lt
  clear h
  go_enter Try.func23, Try.ntmps23
  go_wp2
  clear p1
  go_loopw [4, 12] (fun n i wr => ∃ q : Nat, q ≤ nw ∧ i = .int .i64 q ∧ n = .int .i64 (cntW k key q) ∧ Hid (Below w.heap.size w wr)) (fun _ i _ => nw - (intOf i).toNat)
  case atStart => exact ⟨0, Nat.zero_le _, rfl, rfl, Below.refl _ _⟩
  case round =>
    obtain ⟨q, hq, rfl, rfl, HB⟩ := hrel
    by_cases hlt : q < nw
    case neg =>
      obtain rfl : nw = q := by omega
      go_wp2
      go_ret
      exact ⟨rfl, HB.out⟩
    obtain ⟨g', o, rfl, _, hg, x0, x1, x2, x3⟩ := (H.out.later HB.out).at4 hlt
    obtain ⟨n0, N0⟩ : ∃ x, k (q * 4) = x := ⟨_, rfl⟩
    obtain ⟨n1, N1⟩ : ∃ x, k (q * 4 + 1) = x := ⟨_, rfl⟩
    obtain ⟨n2, N2⟩ : ∃ x, k (q * 4 + 2) = x := ⟨_, rfl⟩
    obtain ⟨n3, N3⟩ : ∃ x, k (q * 4 + 3) = x := ⟨_, rfl⟩
    rw [N0] at x0
    rw [N1] at x1
    rw [N2] at x2
    rw [N3] at x3
    have hle := cntW_le k key q
    have HB2 : Hid (Below w.heap.size w (wr.alloc (.cells #[.int .i64 n0, .int .i64 n1, .int .i64 n2, .int .i64 n3] 42))) := HB.out.alloc HB.out.size _
    by_cases h0 : n0 = key
    · have E := cntW_yes (k := k) (key := key) (n := q) (N0.trans h0)
      have EH : Hid (cntW k key (q + 1) = cntW k key q + 1) := E
      obtain ⟨cc, hcc⟩ : ∃ cc, cntW k key q = cc := ⟨_, rfl⟩
      rw [hcc] at EH hle
      rw [hcc]
      have ew : IntKind.i64.wrap ((cc : Int) + 1) = (cc : Int) + 1 := by
        simp [IntKind.wrap, IntKind.bits, IntKind.signed]
        omega
      clear N0 N1 N2 N3 HB E hcc
      subst h0
      go_wp2
      go_roundw
      case rel => exact ⟨q + 1, by omega, by go_num, by rw [EH.out]; rfl, HB2⟩
      case measure => simp [intOf]; omega
    · have E : Hid (cntW k key (q + 1) = cntW k key q) := cntW_no (k := k) (key := key) (n := q) (fun e => h0 (N0.symm.trans e))
      have d0 : (n0 == key) = false := beq_eq_false_iff_ne.2 h0
      clear N0 N1 N2 N3 HB h0
      go_wp2
      go_roundw
      case rel => exact ⟨q + 1, by omega, by go_num, by rw [E.out], HB2⟩
      case measure => simp [intOf]; omega
end Go.Proofs.Ytdodahmimppdoaa

namespace Go.Proofs.Ytdodahmimppdoaa
open Go.RowKit

/-- A code and a value. -/
def ResInt (w : World) (c v : Int) (e : Ending) (w' : World) : Prop := e = .returned (.agg #[.int .i64 c, .int .i64 v]) ∧ Below w.heap.size w w'
end Go.Proofs.Ytdodahmimppdoaa

namespace Go.Proofs.Ytdodahmimppdoaa
open Go.RowKit

def CntAns (S : Sto) (key c v : Int) : Prop := (askF S key ≠ 0 ∧ c = askF S key ∧ v = 0) ∨ (askF S key = 0 ∧ c = 0 ∧ v = cntW S.k key S.nw)
theorem CntAns.get (S : Sto) (key : Int) : ∃ c v, CntAns S key c v := by
  by_cases h : askF S key = 0
  · exact ⟨_, _, Or.inr ⟨h, rfl, rfl⟩⟩
  · exact ⟨_, _, Or.inl ⟨h, rfl, rfl⟩⟩
set_option maxRecDepth 100000 in
set_option maxHeartbeats 4000000 in
theorem implCountWrites_is (S : Sto) (v0 v1 v2 : Value) (key c v : Int) (B : Nat) (w : World) (h : St w B S v0 v1 v2) (hA : CntAns S key c v) :
    Calls Try.prog 10 #[.agg #[v0, v1, v2], .int .i64 key] w (ResInt w c v) := by
  obtain ⟨a0, c0, a1, c1, a2, c2, rfl, rfl, rfl⟩ := h.form
  have HE : Hid (CallEnv w B S (.slice a0 S.nc c0) (.slice a1 S.nl c1) (.slice a2 S.nw c2) (.int .i64 0) (.int .i64 0) ((w.alloc (.cells #[.slice a0 S.nc c0, .slice a1 S.nl c1, .slice a2 S.nw c2] 28)).alloc (.cells #[.int .i64 0, .int .i64 0] 35))) := CallEnv.new h _ _ _ _
  clear h
  unfold ResInt
  rcases hA with ⟨hz, rfl, rfl⟩ | ⟨hz, rfl, rfl⟩
  · obtain ⟨f, hf⟩ : ∃ f, askF S key = f := ⟨_, rfl⟩
    rw [hf]
    have HF : Hid (askF S key = f) := hf
    have hfn : (f == 0) = false := beq_eq_false_iff_ne.2 (by rw [← hf]; exact hz)
    clear hz hf
    go_enter Try.func10, Try.ntmps10
    go_wp2_with fail
    refine (askFault_any S _ _ _ key B _ HE.out.2.2.1).mono ?_
    rw [HF.out]
    rintro e w1 ⟨rfl, q1⟩
    have HE : Hid (CallEnv w B S (.slice a0 S.nc c0) (.slice a1 S.nl c1) (.slice a2 S.nw c2) (.int .i64 0) (.int .i64 0) w1) := HE.out.later q1
    obtain ⟨⟨⟨p0, p1, p2⟩, _⟩, ⟨⟨r0, r1⟩, f0, f1⟩, _⟩ := HE.out
    clear q1
    go_wp2
    exact bodyPost_ret (v := .agg #[.int .i64 f, .int .i64 0]) (by simp [results, Try.results10, go_sem, r0, r1]) rfl ⟨rfl, (HE.out.2.2.2.setCell (Nat.le_succ _) _).setCell (Nat.le_succ _) _⟩
  · have Z := storeF_zero (askF_zero hz).1
    have HZ : Hid (scan (cellF S.c) S.nc = 0 ∧ (S.nc ≤ 200 ∧ S.nl ≤ 200 ∧ S.nw ≤ 200)) := ⟨Z.2.1, Z.1⟩
    have HA : Hid (askF S key = 0) := hz
    clear Z hz
    go_enter Try.func10, Try.ntmps10
    go_wp2_with fail
    refine (askFault_any S _ _ _ key B _ HE.out.2.2.1).mono ?_
    rw [HA.out]
    rintro e w1 ⟨rfl, q1⟩
    have HE : Hid (CallEnv w B S (.slice a0 S.nc c0) (.slice a1 S.nl c1) (.slice a2 S.nw c2) (.int .i64 0) (.int .i64 0) w1) := HE.out.later q1
    obtain ⟨⟨⟨p0, p1, p2⟩, _⟩, ⟨⟨r0, r1⟩, f0, f1⟩, _⟩ := HE.out
    clear q1
    go_wp2_with fail
    refine (columnsOf_any S B _ _ _ _ HE.out.2.2.1 HZ.out.2.1 HZ.out.2.2.1 HZ.out.2.2.2 HZ.out.1).mono ?_
    rintro e w2 ⟨b, g, u1, u2, rfl, hC, q1⟩
    clear p0 p1 p2 r0 r1 f0 f1
    have HC : Hid (Cols w2 w1.heap.size b S.nc (cellM S S.nc) S.nl S.l S.nw S.k g u1 u2) := hC
    have HE : Hid (CallEnv w B S (.slice a0 S.nc c0) (.slice a1 S.nl c1) (.slice a2 S.nw c2) (.int .i64 0) (.int .i64 0) w2) := HE.out.later q1
    clear q1 hC
    go_wp2_with fail
    refine (countWrites_is _ b _ _ _ _ _ _ g u1 u2 key _ HC.out HZ.out.2.2.2).mono ?_
    rintro e w3 ⟨rfl, q1⟩
    have HE : Hid (CallEnv w B S (.slice a0 S.nc c0) (.slice a1 S.nl c1) (.slice a2 S.nw c2) (.int .i64 0) (.int .i64 0) w3) := HE.out.later q1
    obtain ⟨⟨⟨p0, p1, p2⟩, _⟩, ⟨⟨r0, r1⟩, f0, f1⟩, _⟩ := HE.out
    clear q1
    go_wp2
    exact bodyPost_ret (v := .agg #[.int .i64 0, .int .i64 (cntW S.k key S.nw)]) (by simp [results, Try.results10, go_sem, r0, r1]) rfl ⟨rfl, (HE.out.2.2.2.setCell (Nat.le_succ _) _).setCell (Nat.le_succ _) _⟩
set_option maxRecDepth 100000 in
set_option maxHeartbeats 4000000 in
theorem specCountWrites_is (S : Sto) (v0 v1 v2 : Value) (key c v : Int) (B : Nat) (w : World) (h : St w B S v0 v1 v2) (hA : CntAns S key c v) :
    Calls Try.prog 15 #[.agg #[v0, v1, v2], .int .i64 key] w (ResInt w c v) := by
  obtain ⟨a0, c0, a1, c1, a2, c2, rfl, rfl, rfl⟩ := h.form
  have HE : Hid (CallEnv w B S (.slice a0 S.nc c0) (.slice a1 S.nl c1) (.slice a2 S.nw c2) (.int .i64 0) (.int .i64 0) ((w.alloc (.cells #[.slice a0 S.nc c0, .slice a1 S.nl c1, .slice a2 S.nw c2] 28)).alloc (.cells #[.int .i64 0, .int .i64 0] 35))) := CallEnv.new h _ _ _ _
  clear h
  unfold ResInt
  rcases hA with ⟨hz, rfl, rfl⟩ | ⟨hz, rfl, rfl⟩
  · obtain ⟨f, hf⟩ : ∃ f, askF S key = f := ⟨_, rfl⟩
    rw [hf]
    have HF : Hid (askF S key = f) := hf
    have hfn : (f == 0) = false := beq_eq_false_iff_ne.2 (by rw [← hf]; exact hz)
    clear hz hf
    go_enter Try.func15, Try.ntmps15
    go_wp2_with fail
    refine (asked_any S w.heap.size _ _ _ key _ ⟨HE.out.1.1, HE.out.2.2.1.mono (Nat.zero_le _)⟩).mono ?_
    rw [HF.out]
    rintro e w1 ⟨rfl, q1⟩
    have HE : Hid (CallEnv w B S (.slice a0 S.nc c0) (.slice a1 S.nl c1) (.slice a2 S.nw c2) (.int .i64 0) (.int .i64 0) w1) := HE.out.later q1
    obtain ⟨⟨⟨p0, p1, p2⟩, _⟩, ⟨⟨r0, r1⟩, f0, f1⟩, _⟩ := HE.out
    clear q1
    go_wp2
    exact bodyPost_ret (v := .agg #[.int .i64 f, .int .i64 0]) (by simp [results, Try.results15, go_sem, r0, r1]) rfl ⟨rfl, (HE.out.2.2.2.setCell (Nat.le_succ _) _).setCell (Nat.le_succ _) _⟩
  · have Z := storeF_zero (askF_zero hz).1
    have HZ : Hid (scan (cellF S.c) S.nc = 0 ∧ (S.nc ≤ 200 ∧ S.nl ≤ 200 ∧ S.nw ≤ 200)) := ⟨Z.2.1, Z.1⟩
    have HA : Hid (askF S key = 0) := hz
    clear Z hz
    go_enter Try.func15, Try.ntmps15
    go_wp2_with fail
    refine (asked_any S w.heap.size _ _ _ key _ ⟨HE.out.1.1, HE.out.2.2.1.mono (Nat.zero_le _)⟩).mono ?_
    rw [HA.out]
    rintro e w1 ⟨rfl, q1⟩
    have HE : Hid (CallEnv w B S (.slice a0 S.nc c0) (.slice a1 S.nl c1) (.slice a2 S.nw c2) (.int .i64 0) (.int .i64 0) w1) := HE.out.later q1
    obtain ⟨⟨⟨p0, p1, p2⟩, _⟩, ⟨⟨r0, r1⟩, f0, f1⟩, _⟩ := HE.out
    clear q1
    have hn := HZ.out.2.2.2
    go_wp2
    go_loopw [6, 7] (fun n i wr => ∃ q : Nat, q ≤ S.nw ∧ i = .int .i64 q ∧ n = .int .i64 (cntW S.k key q) ∧ Hid (wr = w1)) (fun _ i _ => S.nw - (intOf i).toNat)
    case atStart => exact ⟨0, Nat.zero_le _, rfl, rfl, rfl⟩
    case round =>
      obtain ⟨q, hq, rfl, rfl, HW⟩ := hrel
      obtain rfl := HW.out
      by_cases hlt : q < S.nw
      case neg =>
        obtain rfl : q = S.nw := by omega
        go_wp2
        exact bodyPost_ret (v := .agg #[.int .i64 0, .int .i64 (cntW S.k key S.nw)]) (by simp [results, Try.results15, go_sem, r0, r1]) rfl ⟨rfl, (HE.out.2.2.2.setCell (Nat.le_succ _) _).setCell (Nat.le_succ _) _⟩
      obtain ⟨g', o, rfl, _, hg, x0, x1, x2, x3⟩ := HE.out.2.2.1.2.2.at4 hlt
      obtain ⟨n0, N0⟩ : ∃ x, S.k (q * 4) = x := ⟨_, rfl⟩
      rw [N0] at x0
      have hle := cntW_le S.k key q
      by_cases h0 : n0 = key
      · have EH : Hid (cntW S.k key (q + 1) = cntW S.k key q + 1) := cntW_yes (N0.trans h0)
        obtain ⟨cc, hcc⟩ : ∃ cc, cntW S.k key q = cc := ⟨_, rfl⟩
        rw [hcc] at EH hle
        rw [hcc]
        have ew : IntKind.i64.wrap ((cc : Int) + 1) = (cc : Int) + 1 := by
          simp [IntKind.wrap, IntKind.bits, IntKind.signed]
          omega
        clear N0 hcc
        subst h0
        go_wp2
        go_roundw
        case rel => exact ⟨q + 1, by omega, by go_num, by rw [EH.out]; rfl, trivial⟩
        case measure => simp [intOf]; omega
      · have E : Hid (cntW S.k key (q + 1) = cntW S.k key q) := cntW_no (fun e => h0 (N0.symm.trans e))
        have d0 : (n0 == key) = false := beq_eq_false_iff_ne.2 h0
        clear N0 h0
        go_wp2
        go_roundw
        case rel => exact ⟨q + 1, by omega, by go_num, by rw [E.out], trivial⟩
        case measure => simp [intOf]; omega
end Go.Proofs.Ytdodahmimppdoaa

