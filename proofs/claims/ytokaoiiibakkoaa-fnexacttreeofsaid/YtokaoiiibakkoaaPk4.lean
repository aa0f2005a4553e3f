/-
  Own text, merged of TreI, TreJ, TreK.
-/
import Derived.Test.YtokaoiiibakkoaaPk3
namespace Go.Proofs.Ytokaoiiibakkoaa
open Go.RowKit

abbrev zeroS : Obj := .cells #[.bool false, .int .i64 0] 78
/-- The box of what was seen. -/
def Sgt (X : World) (b mb : Nat) (vz : Value) (A : Nat) (r : Bool) (z : Int) : Prop := Blk2 X A (.bool r) (.int .i64 z) ∧ Off X b mb vz A ∧ b < A
theorem Sgt.later {X X' : World} {b mb A : Nat} {vz : Value} {r : Bool} {z : Int} (h : Sgt X b mb vz A r z) (hq : Below X.heap.size X X') : Sgt X' b mb vz A r z := ⟨h.1.later hq, h.2.1.later hq.size, h.2.2⟩
theorem Sgt.keeps {X X' : World} {b mb A : Nat} {vz vy : Value} {r : Bool} {z : Int} (h : Sgt X b mb vz A r z) (hk : Keeps X X' b mb vz vy) : Sgt X' b mb vy A r z := ⟨h.1.kept (hk.off h.2.1).2, (hk.off h.2.1).1, h.2.2⟩
theorem Sgt.lt {X : World} {b mb A : Nat} {vz : Value} {r : Bool} {z : Int} (h : Sgt X b mb vz A r z) : A < X.heap.size := h.2.1.1
theorem Sgt.put {X : World} {b mb A : Nat} {vz : Value} {r : Bool} {z : Int} (h : Sgt X b mb vz A r z) (r' : Bool) (z' : Int) : Sgt ((X.setCell ⟨A, 0, none⟩ (.bool r')).setCell ⟨A, 1, none⟩ (.int .i64 z')) b mb vz A r' z' := by
  obtain ⟨⟨⟨h0, h1⟩, f0, f1⟩, ho, hb⟩ := h
  refine ⟨⟨?_, by simpa using f0, by simpa using f1⟩, ho.later (by simp), hb⟩
  exact (Blk2.put (x := X) (b := A) ⟨⟨h0, h1⟩, f0, f1⟩ (.bool r') (.int .i64 z')).1
/-- A block that neither the view's box nor its entries lie in. -/
def NB (X0 : World) (hb : Nat) (lv : Value) (A : Nat) : Prop := hb ≠ A ∧ (∀ k, lv.ownBlock = some k → k ≠ A) ∧ X0.heap.size ≤ A
theorem HgS.nb {X0 X : World} {b rb mb hb : Nat} {L : Prs} {vz0 vz lv : Value} {zs : List Int} (h : HgS X0 X b rb mb hb L vz0 zs vz lv) : NB X0 hb lv X.heap.size := ⟨Nat.ne_of_lt h.2.1.2.1, fun k hk => Nat.ne_of_lt (h.1.2.2 k hk).1, h.2.2.2.1⟩
theorem Sgt.keepsPut {X0 X : World} {b rb mb hb A : Nat} {L : Prs} {vz0 vz lv : Value} {zs : List Int} {r : Bool} {z : Int} (h : Sgt X b mb vz A r z) (hg : HgS X0 X b rb mb hb L vz0 zs vz lv) (hN : NB X0 hb lv A) (r' : Bool) (z' : Int) :
    HgS X0 ((X.setCell ⟨A, 0, none⟩ (.bool r')).setCell ⟨A, 1, none⟩ (.int .i64 z')) b rb mb hb L vz0 zs vz lv := by
  have ks : ∀ k, k ≠ A → ((X.setCell ⟨A, 0, none⟩ (.bool r')).setCell ⟨A, 1, none⟩ (.int .i64 z')).heap[k]? = X.heap[k]? := fun k hk => (Below.heap_setCell _ ⟨A, 1, none⟩ _ k hk).trans (Below.heap_setCell _ ⟨A, 0, none⟩ _ k hk)
  have sz : ((X.setCell ⟨A, 0, none⟩ (.bool r')).setCell ⟨A, 1, none⟩ (.int .i64 z')).heap.size = X.heap.size := by simp
  obtain ⟨⟨⟨h1, h2⟩, h3⟩, h4, h5⟩ := hg
  refine ⟨⟨⟨h1.grew (u := .slice (some ⟨A, 0, none⟩) 0 0) (B := A) (fun k hk => Nat.le_of_eq (Option.some.inj hk)) h.2.2 (fun k hk e => h.2.1.2.2.2 (by rw [hk, ← Option.some.inj e])) (fun k _ hk => ks k (fun e => hk (by rw [e]; rfl))), h2⟩, ?_⟩, ?_, ?_⟩
  · exact ⟨Own.keptT h3.1 (fun k hk => ks k (hN.2.1 k hk)), fun k hk => (h3.2 k hk).later (Nat.le_of_eq sz.symm)⟩
  · exact ⟨h4.1.kept (ks hb hN.1), h4.2.later (Nat.le_of_eq sz.symm)⟩
  · exact ⟨h5.1, by rw [sz]; exact h5.2.1, fun k hk g1 g2 g3 => (ks k (by have := hN.2.2; omega)).trans (h5.2.2.1 k hk g1 g2 g3), h5.2.2.2⟩
/-- Does an inode hang together? As the program asks it. -/
def hangsR (L M : Prs) (r : Bool) (z : Int) (s : Bool) (nx a : Int) : Bool :=
  if r = false then ((((M.length : Nat) : Int) == 0) && !s) else if a ≥ nx then false else if z = 1000 then (!s && dirR L M a) else fileR L M z
theorem toL_in {L : Prs} {a : Int} : ∀ j, j < (toL (lnkL L) a).length → 0 ≤ ((toL (lnkL L) a).getD j (0, 0)).1 ∧ ((toL (lnkL L) a).getD j (0, 0)).1 ≤ 9 := by
  have key : ∀ (M : Prs) (e : Int × Int), e ∈ lnkL M → 0 ≤ e.1 ∧ e.1 ≤ 9 := by
    intro M
    induction M with
    | nil => intro e he; cases he
    | cons x t ih =>
      intro e he
      rw [lnkL] at he
      rcases List.mem_append.1 he with q | q
      · split at q
        · rename_i hk
          rw [List.mem_singleton] at q
          rw [q]
          exact partA_in hk
        · cases q
      · exact ih e q
  intro j hj
  rw [List.getD_eq_getElem?_getD, List.getElem?_eq_getElem hj]
  exact key L _ (List.mem_filter.1 (List.getElem_mem hj)).1
set_option maxRecDepth 100000 in
set_option maxHeartbeats 4000000 in
theorem hangs_is (L : Prs) (b rb mb : Nat) (zs : List Int) (vz lv : Value) (a nx : Int) (w : World) (r : Bool) (z : Int) (s : Bool) (sz : Int) (h : Hung w b rb mb L zs vz lv) (hrs : Rises L) (hn : L.length ≤ 800) (ha : 0 ≤ a ∧ a ≤ 9) (ht : lookF L (kI a) = (r, z)) (hu : lookF L (kB a) = (s, sz)) (hz : 0 ≤ z ∧ z ≤ 9999) :
    Calls Try.prog 51 #[.agg #[.pointer (some ⟨b, 0, none⟩), lv], .int .i64 a, .int .i64 nx] w (LookRes w b rb mb L vz lv (.bool (hangsR L (toL (lnkL L) a) r z s nx a))) := by
  obtain ⟨lo, lc, rfl⟩ := h.2.row.form
  have HG : Hid (HgS (w.alloc (.cells #[.pointer (some ⟨b, 0, none⟩), .slice lo (lnkL L).length lc] 56)) (w.alloc (.cells #[.pointer (some ⟨b, 0, none⟩), .slice lo (lnkL L).length lc] 56)) b rb mb w.heap.size L vz zs vz (.slice lo (lnkL L).length lc)) := ⟨h.later (below_alloc _ _), h.box, Keeps.below _ _ _ (Below.refl _ _)⟩
  have HKw : Hid (Keeps w (w.alloc (.cells #[.pointer (some ⟨b, 0, none⟩), .slice lo (lnkL L).length lc] 56)) b mb vz vz) := Keeps.below b mb vz (below_alloc w _)
  have H : Hid (Rises L ∧ (0 ≤ a ∧ a ≤ 9) ∧ (0 ≤ z ∧ z ≤ 9999)) := ⟨hrs, ha, hz⟩
  have HV : Hid (lookF L (kI a) = (r, z) ∧ lookF L (kB a) = (s, sz)) := ⟨ht, hu⟩
  have fs0 := fun h v w => field_sight0 h v w
  obtain ⟨res, hres⟩ : ∃ res, hangsR L (toL (lnkL L) a) r z s nx a = res := ⟨_, rfl⟩
  have HR : Hid (hangsR L (toL (lnkL L) a) r z s nx a = res) := hres
  have hlk := lnkL_len L
  rw [hres]
  clear h hrs ha ht hu hres hz
  go_enter Try.func51, Try.ntmps51
  go_upto_region 1 with fail
  generalize w.alloc (.cells #[.pointer (some ⟨b, 0, none⟩), .slice lo (lnkL L).length lc] 56) = X0 at HG HKw ⊢
  go_cut [7, 8] (fun p q wx => ∃ A ys vy, p = .pointer (some ⟨A, 0, none⟩) ∧ q = .bool s ∧ Hid (HgS X0 wx b rb mb w.heap.size L vz ys vy (.slice lo (lnkL L).length lc)) ∧ Hid (Sgt wx b mb vy A r z))
  case first =>
    refine wp_region_held_drew (S := fun X => X.cell? ⟨w.heap.size, 0, none⟩ = some (.pointer (some ⟨b, 0, none⟩))) (by kernel_rfl) HG.out.2.1.1.1.1 (fun hS => ?_)
    have HG1 : Hid (HgS X0 X0.drew b rb mb w.heap.size L vz zs vz (.slice lo (lnkL L).length lc)) := HG.out.later (below_drewT _)
    clear HG
    have HG := HG1
    clear HG1
    generalize X0.drew = z0 at hS HG ⊢
    refine tkH 0 ?_ hS (fun wx hx => ?_) ?_; rotate_left
    · go_simp; try with_reducible rfl
    refine tkH 1 ?_ hS (fun wx hx => ?_) ?_; rotate_left
    · go_simp; try with_reducible rfl
    refine tkH 2 ?_ hS (fun wx hx => ?_) ?_; rotate_left
    · go_simp; try with_reducible rfl
    refine tkH 5 ?_ hS (fun wx hx => ?_) ?_; rotate_left
    · go_simp; try with_reducible rfl
    refine tkH 6 ?_ hS (fun wx hx => ?_) ?_; rotate_left
    · go_simp; try with_reducible rfl
    refine tkH 7 ?_ hS (fun wx hx => ?_) ?_; rotate_left
    · go_simp; try with_reducible rfl
    refine wpAnyH_ready (rs := [3, 11]) (by kernel_rfl) (by simp) ?_
    refine AllReadyH.cons rfl (fun K hK => ?_) (AllReadyH.cons rfl (fun K hK => ?_) AllReadyH.nil)
    · go_simp
      go_wp2_with fail
      refine (inodeKey_is a H.out.2.1 _).mono ?_
      rintro e z1 ⟨rfl, q⟩
      have HG1 : Hid (HgS X0 z1 b rb mb w.heap.size L vz zs vz (.slice lo (lnkL L).length lc)) := HG.out.later q
      have hS1 : z1.cell? ⟨w.heap.size, 0, none⟩ = some (.pointer (some ⟨b, 0, none⟩)) := HG1.out.2.1.1.1.1
      clear q HG hS
      have HG := HG1
      clear HG1
      go_wp2_with fail
      refine hK.out _ _ hS1 (fun hS => ?_)
      clear hK K
      clear hS1
      refine wpAnyH_ready (rs := [4, 11]) (by kernel_rfl) (by simp) ?_
      refine AllReadyH.cons rfl (fun K hK => ?_) (AllReadyH.cons rfl (fun K hK => ?_) AllReadyH.nil)
      · go_simp
        go_wp2_with fail
        refine (look_h L b rb mb zs vz _ (kI a) _ HG.out.1 H.out.1 hn (by have := H.out.2.1; first | (unfold kI; omega) | (unfold kB; omega))).mono ?_
        rintro e z2 ⟨rfl, ys3, vy4, hg, hk⟩
        rw [HV.out.1]
        have HG1 : Hid (HgS X0 z2 b rb mb w.heap.size L vz ys3 vy4 (.slice lo (lnkL L).length lc)) := HG.out.keeps hg hk
        have hS1 : z2.cell? ⟨w.heap.size, 0, none⟩ = some (.pointer (some ⟨b, 0, none⟩)) := HG1.out.2.1.1.1.1
        clear hg hk HG hS
        have HG := HG1
        clear HG1
        go_wp2_with fail
        refine hK.out _ _ hS1 (fun hS => ?_)
        clear hK K
        clear hS1
        refine wpAnyH_ready (rs := [8, 11]) (by kernel_rfl) (by simp) ?_
        refine AllReadyH.cons rfl (fun K hK => ?_) (AllReadyH.cons rfl (fun K hK => ?_) AllReadyH.nil)
        · go_simp
          go_wp2_with fail
          refine (bytesKey_is a H.out.2.1 _).mono ?_
          rintro e z5 ⟨rfl, q⟩
          have HG1 : Hid (HgS X0 z5 b rb mb w.heap.size L vz ys3 vy4 (.slice lo (lnkL L).length lc)) := HG.out.later q
          have hS1 : z5.cell? ⟨w.heap.size, 0, none⟩ = some (.pointer (some ⟨b, 0, none⟩)) := HG1.out.2.1.1.1.1
          clear q HG hS
          have HG := HG1
          clear HG1
          go_wp2_with fail
          refine hK.out _ _ hS1 (fun hS => ?_)
          clear hK K
          clear hS1
          refine wpAnyH_ready (rs := [9, 11]) (by kernel_rfl) (by simp) ?_
          refine AllReadyH.cons rfl (fun K hK => ?_) (AllReadyH.cons rfl (fun K hK => ?_) AllReadyH.nil)
          · go_simp
            go_wp2_with fail
            refine (look_h L b rb mb ys3 vy4 _ (kB a) _ HG.out.1 H.out.1 hn (by have := H.out.2.1; first | (unfold kI; omega) | (unfold kB; omega))).mono ?_
            rintro e z6 ⟨rfl, ys7, vy8, hg, hk⟩
            rw [HV.out.2]
            have HG1 : Hid (HgS X0 z6 b rb mb w.heap.size L vz ys7 vy8 (.slice lo (lnkL L).length lc)) := HG.out.keeps hg hk
            have hS1 : z6.cell? ⟨w.heap.size, 0, none⟩ = some (.pointer (some ⟨b, 0, none⟩)) := HG1.out.2.1.1.1.1
            clear hg hk HG hS
            have HG := HG1
            clear HG1
            go_wp2_with fail
            refine hK.out _ _ hS1 (fun hS => ?_)
            clear hK K
            clear hS1
            refine tkH 10 ?_ hS (fun wx hx => ?_) ?_; rotate_left
            · go_simp; try with_reducible rfl
            refine rdH 11 (fun K hK => ?_)
            go_simp
            have HG1 : Hid (HgS X0 (z6.alloc zeroS) b rb mb w.heap.size L vz ys7 vy8 (.slice lo (lnkL L).length lc)) := HG.out.later (below_alloc _ _)
            have HX : Hid (Sgt (z6.alloc zeroS) b mb vy8 z6.heap.size false 0) := ⟨Blk2.new _ _ _ _, HG.out.1.1.1.off _, HG.out.1.1.1.1.lt⟩
            have HNB : Hid (NB X0 w.heap.size (.slice lo (lnkL L).length lc) z6.heap.size) := HG.out.nb
            have hS1 : (z6.alloc zeroS).cell? ⟨w.heap.size, 0, none⟩ = some (.pointer (some ⟨b, 0, none⟩)) := HG1.out.2.1.1.1.1
            clear HG hS
            have HG := HG1
            clear HG1
            refine hK.out _ _ hS1 (fun hS => ?_)
            clear hK K
            clear hS1
            generalize z6.alloc zeroS = zz9 at HG HX hS ⊢
            obtain ⟨⟨u0, u1⟩, v0, v1⟩ := HX.out.1
            have hbl : (z6.heap.size) < zz9.heap.size := HX.out.1.lt
            have HY : Hid (Sgt ((zz9.setCell ⟨(z6.heap.size), 0, none⟩ (.bool r)).setCell ⟨(z6.heap.size), 1, none⟩ (.int .i64 z)) b mb vy8 (z6.heap.size) r z) := HX.out.put r z
            have HG2 : Hid (HgS X0 ((zz9.setCell ⟨(z6.heap.size), 0, none⟩ (.bool r)).setCell ⟨(z6.heap.size), 1, none⟩ (.int .i64 z)) b rb mb w.heap.size L vz ys7 vy8 (.slice lo (lnkL L).length lc)) := HX.out.keepsPut HG.out HNB.out r z
            refine rdH 12 (fun K hK => ?_)
            go_simp
            have hS2 : ((zz9.setCell ⟨(z6.heap.size), 0, none⟩ (.bool r)).setCell ⟨(z6.heap.size), 1, none⟩ (.int .i64 z)).cell? ⟨w.heap.size, 0, none⟩ = some (.pointer (some ⟨b, 0, none⟩)) := HG2.out.2.1.1.1.1
            clear hS
            refine hK.out _ _ hS2 (fun hS => ?_)
            clear hK K
            clear hS2 u0 u1 v0 v1 hbl
            refine tkH 13 ?_ hS (fun wx hx => ?_) ?_; rotate_left
            · go_simp; try with_reducible rfl
            refine wpAnyH_done (by kernel_rfl) ?_ _
            go_simp
            go_wp2_with fail
            go_meet
            case rel => exact ⟨_, ys7, vy8, rfl, rfl, HG2, HY⟩
          · go_simp
            have HG1 : Hid (HgS X0 (z5.alloc zeroS) b rb mb w.heap.size L vz ys3 vy4 (.slice lo (lnkL L).length lc)) := HG.out.later (below_alloc _ _)
            have HX : Hid (Sgt (z5.alloc zeroS) b mb vy4 z5.heap.size false 0) := ⟨Blk2.new _ _ _ _, HG.out.1.1.1.off _, HG.out.1.1.1.1.lt⟩
            have HNB : Hid (NB X0 w.heap.size (.slice lo (lnkL L).length lc) z5.heap.size) := HG.out.nb
            have hS1 : (z5.alloc zeroS).cell? ⟨w.heap.size, 0, none⟩ = some (.pointer (some ⟨b, 0, none⟩)) := HG1.out.2.1.1.1.1
            clear HG hS
            have HG := HG1
            clear HG1
            refine hK.out _ _ hS1 (fun hS => ?_)
            clear hK K
            clear hS1
            generalize z5.alloc zeroS = zz10 at HG HX hS ⊢
            refine rdH 9 (fun K hK => ?_)
            go_simp
            go_wp2_with fail
            refine (look_h L b rb mb ys3 vy4 _ (kB a) _ HG.out.1 H.out.1 hn (by have := H.out.2.1; first | (unfold kI; omega) | (unfold kB; omega))).mono ?_
            rintro e z11 ⟨rfl, ys12, vy13, hg, hk⟩
            rw [HV.out.2]
            have HG1 : Hid (HgS X0 z11 b rb mb w.heap.size L vz ys12 vy13 (.slice lo (lnkL L).length lc)) := HG.out.keeps hg hk
            have HX1 : Hid (Sgt z11 b mb vy13 (z5.heap.size) false 0) := HX.out.keeps hk
            clear HX
            have HX := HX1
            clear HX1
            have hS1 : z11.cell? ⟨w.heap.size, 0, none⟩ = some (.pointer (some ⟨b, 0, none⟩)) := HG1.out.2.1.1.1.1
            clear hg hk HG hS
            have HG := HG1
            clear HG1
            go_wp2_with fail
            refine hK.out _ _ hS1 (fun hS => ?_)
            clear hK K
            clear hS1
            refine tkH 10 ?_ hS (fun wx hx => ?_) ?_; rotate_left
            · go_simp; try with_reducible rfl
            obtain ⟨⟨u0, u1⟩, v0, v1⟩ := HX.out.1
            have hbl : (z5.heap.size) < z11.heap.size := HX.out.1.lt
            have HY : Hid (Sgt ((z11.setCell ⟨(z5.heap.size), 0, none⟩ (.bool r)).setCell ⟨(z5.heap.size), 1, none⟩ (.int .i64 z)) b mb vy13 (z5.heap.size) r z) := HX.out.put r z
            have HG2 : Hid (HgS X0 ((z11.setCell ⟨(z5.heap.size), 0, none⟩ (.bool r)).setCell ⟨(z5.heap.size), 1, none⟩ (.int .i64 z)) b rb mb w.heap.size L vz ys12 vy13 (.slice lo (lnkL L).length lc)) := HX.out.keepsPut HG.out HNB.out r z
            refine rdH 12 (fun K hK => ?_)
            go_simp
            have hS2 : ((z11.setCell ⟨(z5.heap.size), 0, none⟩ (.bool r)).setCell ⟨(z5.heap.size), 1, none⟩ (.int .i64 z)).cell? ⟨w.heap.size, 0, none⟩ = some (.pointer (some ⟨b, 0, none⟩)) := HG2.out.2.1.1.1.1
            clear hS
            refine hK.out _ _ hS2 (fun hS => ?_)
            clear hK K
            clear hS2 u0 u1 v0 v1 hbl
            refine tkH 13 ?_ hS (fun wx hx => ?_) ?_; rotate_left
            · go_simp; try with_reducible rfl
            refine wpAnyH_done (by kernel_rfl) ?_ _
            go_simp
            go_wp2_with fail
            go_meet
            case rel => exact ⟨_, ys12, vy13, rfl, rfl, HG2, HY⟩
        · go_simp
          have HG1 : Hid (HgS X0 (z2.alloc zeroS) b rb mb w.heap.size L vz ys3 vy4 (.slice lo (lnkL L).length lc)) := HG.out.later (below_alloc _ _)
          have HX : Hid (Sgt (z2.alloc zeroS) b mb vy4 z2.heap.size false 0) := ⟨Blk2.new _ _ _ _, HG.out.1.1.1.off _, HG.out.1.1.1.1.lt⟩
          have HNB : Hid (NB X0 w.heap.size (.slice lo (lnkL L).length lc) z2.heap.size) := HG.out.nb
          have hS1 : (z2.alloc zeroS).cell? ⟨w.heap.size, 0, none⟩ = some (.pointer (some ⟨b, 0, none⟩)) := HG1.out.2.1.1.1.1
          clear HG hS
          have HG := HG1
          clear HG1
          refine hK.out _ _ hS1 (fun hS => ?_)
          clear hK K
          clear hS1
          generalize z2.alloc zeroS = zz14 at HG HX hS ⊢
          refine rdH 8 (fun K hK => ?_)
          go_simp
          go_wp2_with fail
          refine (bytesKey_is a H.out.2.1 _).mono ?_
          rintro e z15 ⟨rfl, q⟩
          have HG1 : Hid (HgS X0 z15 b rb mb w.heap.size L vz ys3 vy4 (.slice lo (lnkL L).length lc)) := HG.out.later q
          have HX1 : Hid (Sgt z15 b mb vy4 (z2.heap.size) false 0) := HX.out.later q
          clear HX
          have HX := HX1
          clear HX1
          have hS1 : z15.cell? ⟨w.heap.size, 0, none⟩ = some (.pointer (some ⟨b, 0, none⟩)) := HG1.out.2.1.1.1.1
          clear q HG hS
          have HG := HG1
          clear HG1
          go_wp2_with fail
          refine hK.out _ _ hS1 (fun hS => ?_)
          clear hK K
          clear hS1
          refine rdH 9 (fun K hK => ?_)
          go_simp
          go_wp2_with fail
          refine (look_h L b rb mb ys3 vy4 _ (kB a) _ HG.out.1 H.out.1 hn (by have := H.out.2.1; first | (unfold kI; omega) | (unfold kB; omega))).mono ?_
          rintro e z16 ⟨rfl, ys17, vy18, hg, hk⟩
          rw [HV.out.2]
          have HG1 : Hid (HgS X0 z16 b rb mb w.heap.size L vz ys17 vy18 (.slice lo (lnkL L).length lc)) := HG.out.keeps hg hk
          have HX1 : Hid (Sgt z16 b mb vy18 (z2.heap.size) false 0) := HX.out.keeps hk
          clear HX
          have HX := HX1
          clear HX1
          have hS1 : z16.cell? ⟨w.heap.size, 0, none⟩ = some (.pointer (some ⟨b, 0, none⟩)) := HG1.out.2.1.1.1.1
          clear hg hk HG hS
          have HG := HG1
          clear HG1
          go_wp2_with fail
          refine hK.out _ _ hS1 (fun hS => ?_)
          clear hK K
          clear hS1
          refine tkH 10 ?_ hS (fun wx hx => ?_) ?_; rotate_left
          · go_simp; try with_reducible rfl
          obtain ⟨⟨u0, u1⟩, v0, v1⟩ := HX.out.1
          have hbl : (z2.heap.size) < z16.heap.size := HX.out.1.lt
          have HY : Hid (Sgt ((z16.setCell ⟨(z2.heap.size), 0, none⟩ (.bool r)).setCell ⟨(z2.heap.size), 1, none⟩ (.int .i64 z)) b mb vy18 (z2.heap.size) r z) := HX.out.put r z
          have HG2 : Hid (HgS X0 ((z16.setCell ⟨(z2.heap.size), 0, none⟩ (.bool r)).setCell ⟨(z2.heap.size), 1, none⟩ (.int .i64 z)) b rb mb w.heap.size L vz ys17 vy18 (.slice lo (lnkL L).length lc)) := HX.out.keepsPut HG.out HNB.out r z
          refine rdH 12 (fun K hK => ?_)
          go_simp
          have hS2 : ((z16.setCell ⟨(z2.heap.size), 0, none⟩ (.bool r)).setCell ⟨(z2.heap.size), 1, none⟩ (.int .i64 z)).cell? ⟨w.heap.size, 0, none⟩ = some (.pointer (some ⟨b, 0, none⟩)) := HG2.out.2.1.1.1.1
          clear hS
          refine hK.out _ _ hS2 (fun hS => ?_)
          clear hK K
          clear hS2 u0 u1 v0 v1 hbl
          refine tkH 13 ?_ hS (fun wx hx => ?_) ?_; rotate_left
          · go_simp; try with_reducible rfl
          refine wpAnyH_done (by kernel_rfl) ?_ _
          go_simp
          go_wp2_with fail
          go_meet
          case rel => exact ⟨_, ys17, vy18, rfl, rfl, HG2, HY⟩
      · go_simp
        have HG1 : Hid (HgS X0 (z1.alloc zeroS) b rb mb w.heap.size L vz zs vz (.slice lo (lnkL L).length lc)) := HG.out.later (below_alloc _ _)
        have HX : Hid (Sgt (z1.alloc zeroS) b mb vz z1.heap.size false 0) := ⟨Blk2.new _ _ _ _, HG.out.1.1.1.off _, HG.out.1.1.1.1.lt⟩
        have HNB : Hid (NB X0 w.heap.size (.slice lo (lnkL L).length lc) z1.heap.size) := HG.out.nb
        have hS1 : (z1.alloc zeroS).cell? ⟨w.heap.size, 0, none⟩ = some (.pointer (some ⟨b, 0, none⟩)) := HG1.out.2.1.1.1.1
        clear HG hS
        have HG := HG1
        clear HG1
        refine hK.out _ _ hS1 (fun hS => ?_)
        clear hK K
        clear hS1
        generalize z1.alloc zeroS = zz19 at HG HX hS ⊢
        refine rdH 4 (fun K hK => ?_)
        go_simp
        go_wp2_with fail
        refine (look_h L b rb mb zs vz _ (kI a) _ HG.out.1 H.out.1 hn (by have := H.out.2.1; first | (unfold kI; omega) | (unfold kB; omega))).mono ?_
        rintro e z20 ⟨rfl, ys21, vy22, hg, hk⟩
        rw [HV.out.1]
        have HG1 : Hid (HgS X0 z20 b rb mb w.heap.size L vz ys21 vy22 (.slice lo (lnkL L).length lc)) := HG.out.keeps hg hk
        have HX1 : Hid (Sgt z20 b mb vy22 (z1.heap.size) false 0) := HX.out.keeps hk
        clear HX
        have HX := HX1
        clear HX1
        have hS1 : z20.cell? ⟨w.heap.size, 0, none⟩ = some (.pointer (some ⟨b, 0, none⟩)) := HG1.out.2.1.1.1.1
        clear hg hk HG hS
        have HG := HG1
        clear HG1
        go_wp2_with fail
        refine hK.out _ _ hS1 (fun hS => ?_)
        clear hK K
        clear hS1
        refine rdH 8 (fun K hK => ?_)
        go_simp
        go_wp2_with fail
        refine (bytesKey_is a H.out.2.1 _).mono ?_
        rintro e z23 ⟨rfl, q⟩
        have HG1 : Hid (HgS X0 z23 b rb mb w.heap.size L vz ys21 vy22 (.slice lo (lnkL L).length lc)) := HG.out.later q
        have HX1 : Hid (Sgt z23 b mb vy22 (z1.heap.size) false 0) := HX.out.later q
        clear HX
        have HX := HX1
        clear HX1
        have hS1 : z23.cell? ⟨w.heap.size, 0, none⟩ = some (.pointer (some ⟨b, 0, none⟩)) := HG1.out.2.1.1.1.1
        clear q HG hS
        have HG := HG1
        clear HG1
        go_wp2_with fail
        refine hK.out _ _ hS1 (fun hS => ?_)
        clear hK K
        clear hS1
        refine rdH 9 (fun K hK => ?_)
        go_simp
        go_wp2_with fail
        refine (look_h L b rb mb ys21 vy22 _ (kB a) _ HG.out.1 H.out.1 hn (by have := H.out.2.1; first | (unfold kI; omega) | (unfold kB; omega))).mono ?_
        rintro e z24 ⟨rfl, ys25, vy26, hg, hk⟩
        rw [HV.out.2]
        have HG1 : Hid (HgS X0 z24 b rb mb w.heap.size L vz ys25 vy26 (.slice lo (lnkL L).length lc)) := HG.out.keeps hg hk
        have HX1 : Hid (Sgt z24 b mb vy26 (z1.heap.size) false 0) := HX.out.keeps hk
        clear HX
        have HX := HX1
        clear HX1
        have hS1 : z24.cell? ⟨w.heap.size, 0, none⟩ = some (.pointer (some ⟨b, 0, none⟩)) := HG1.out.2.1.1.1.1
        clear hg hk HG hS
        have HG := HG1
        clear HG1
        go_wp2_with fail
        refine hK.out _ _ hS1 (fun hS => ?_)
        clear hK K
        clear hS1
        refine tkH 10 ?_ hS (fun wx hx => ?_) ?_; rotate_left
        · go_simp; try with_reducible rfl
        obtain ⟨⟨u0, u1⟩, v0, v1⟩ := HX.out.1
        have hbl : (z1.heap.size) < z24.heap.size := HX.out.1.lt
        have HY : Hid (Sgt ((z24.setCell ⟨(z1.heap.size), 0, none⟩ (.bool r)).setCell ⟨(z1.heap.size), 1, none⟩ (.int .i64 z)) b mb vy26 (z1.heap.size) r z) := HX.out.put r z
        have HG2 : Hid (HgS X0 ((z24.setCell ⟨(z1.heap.size), 0, none⟩ (.bool r)).setCell ⟨(z1.heap.size), 1, none⟩ (.int .i64 z)) b rb mb w.heap.size L vz ys25 vy26 (.slice lo (lnkL L).length lc)) := HX.out.keepsPut HG.out HNB.out r z
        refine rdH 12 (fun K hK => ?_)
        go_simp
        have hS2 : ((z24.setCell ⟨(z1.heap.size), 0, none⟩ (.bool r)).setCell ⟨(z1.heap.size), 1, none⟩ (.int .i64 z)).cell? ⟨w.heap.size, 0, none⟩ = some (.pointer (some ⟨b, 0, none⟩)) := HG2.out.2.1.1.1.1
        clear hS
        refine hK.out _ _ hS2 (fun hS => ?_)
        clear hK K
        clear hS2 u0 u1 v0 v1 hbl
        refine tkH 13 ?_ hS (fun wx hx => ?_) ?_; rotate_left
        · go_simp; try with_reducible rfl
        refine wpAnyH_done (by kernel_rfl) ?_ _
        go_simp
        go_wp2_with fail
        go_meet
        case rel => exact ⟨_, ys25, vy26, rfl, rfl, HG2, HY⟩
    · go_simp
      have HG1 : Hid (HgS X0 (z0.alloc zeroS) b rb mb w.heap.size L vz zs vz (.slice lo (lnkL L).length lc)) := HG.out.later (below_alloc _ _)
      have HX : Hid (Sgt (z0.alloc zeroS) b mb vz z0.heap.size false 0) := ⟨Blk2.new _ _ _ _, HG.out.1.1.1.off _, HG.out.1.1.1.1.lt⟩
      have HNB : Hid (NB X0 w.heap.size (.slice lo (lnkL L).length lc) z0.heap.size) := HG.out.nb
      have hS1 : (z0.alloc zeroS).cell? ⟨w.heap.size, 0, none⟩ = some (.pointer (some ⟨b, 0, none⟩)) := HG1.out.2.1.1.1.1
      clear HG hS
      have HG := HG1
      clear HG1
      refine hK.out _ _ hS1 (fun hS => ?_)
      clear hK K
      clear hS1
      generalize z0.alloc zeroS = zz27 at HG HX hS ⊢
      refine rdH 3 (fun K hK => ?_)
      go_simp
      go_wp2_with fail
      refine (inodeKey_is a H.out.2.1 _).mono ?_
      rintro e z28 ⟨rfl, q⟩
      have HG1 : Hid (HgS X0 z28 b rb mb w.heap.size L vz zs vz (.slice lo (lnkL L).length lc)) := HG.out.later q
      have HX1 : Hid (Sgt z28 b mb vz (z0.heap.size) false 0) := HX.out.later q
      clear HX
      have HX := HX1
      clear HX1
      have hS1 : z28.cell? ⟨w.heap.size, 0, none⟩ = some (.pointer (some ⟨b, 0, none⟩)) := HG1.out.2.1.1.1.1
      clear q HG hS
      have HG := HG1
      clear HG1
      go_wp2_with fail
      refine hK.out _ _ hS1 (fun hS => ?_)
      clear hK K
      clear hS1
      refine rdH 4 (fun K hK => ?_)
      go_simp
      go_wp2_with fail
      refine (look_h L b rb mb zs vz _ (kI a) _ HG.out.1 H.out.1 hn (by have := H.out.2.1; first | (unfold kI; omega) | (unfold kB; omega))).mono ?_
      rintro e z29 ⟨rfl, ys30, vy31, hg, hk⟩
      rw [HV.out.1]
      have HG1 : Hid (HgS X0 z29 b rb mb w.heap.size L vz ys30 vy31 (.slice lo (lnkL L).length lc)) := HG.out.keeps hg hk
      have HX1 : Hid (Sgt z29 b mb vy31 (z0.heap.size) false 0) := HX.out.keeps hk
      clear HX
      have HX := HX1
      clear HX1
      have hS1 : z29.cell? ⟨w.heap.size, 0, none⟩ = some (.pointer (some ⟨b, 0, none⟩)) := HG1.out.2.1.1.1.1
      clear hg hk HG hS
      have HG := HG1
      clear HG1
      go_wp2_with fail
      refine hK.out _ _ hS1 (fun hS => ?_)
      clear hK K
      clear hS1
      refine rdH 8 (fun K hK => ?_)
      go_simp
      go_wp2_with fail
      refine (bytesKey_is a H.out.2.1 _).mono ?_
      rintro e z32 ⟨rfl, q⟩
      have HG1 : Hid (HgS X0 z32 b rb mb w.heap.size L vz ys30 vy31 (.slice lo (lnkL L).length lc)) := HG.out.later q
      have HX1 : Hid (Sgt z32 b mb vy31 (z0.heap.size) false 0) := HX.out.later q
      clear HX
      have HX := HX1
      clear HX1
      have hS1 : z32.cell? ⟨w.heap.size, 0, none⟩ = some (.pointer (some ⟨b, 0, none⟩)) := HG1.out.2.1.1.1.1
      clear q HG hS
      have HG := HG1
      clear HG1
      go_wp2_with fail
      refine hK.out _ _ hS1 (fun hS => ?_)
      clear hK K
      clear hS1
      refine rdH 9 (fun K hK => ?_)
      go_simp
      go_wp2_with fail
      refine (look_h L b rb mb ys30 vy31 _ (kB a) _ HG.out.1 H.out.1 hn (by have := H.out.2.1; first | (unfold kI; omega) | (unfold kB; omega))).mono ?_
      rintro e z33 ⟨rfl, ys34, vy35, hg, hk⟩
      rw [HV.out.2]
      have HG1 : Hid (HgS X0 z33 b rb mb w.heap.size L vz ys34 vy35 (.slice lo (lnkL L).length lc)) := HG.out.keeps hg hk
      have HX1 : Hid (Sgt z33 b mb vy35 (z0.heap.size) false 0) := HX.out.keeps hk
      clear HX
      have HX := HX1
      clear HX1
      have hS1 : z33.cell? ⟨w.heap.size, 0, none⟩ = some (.pointer (some ⟨b, 0, none⟩)) := HG1.out.2.1.1.1.1
      clear hg hk HG hS
      have HG := HG1
      clear HG1
      go_wp2_with fail
      refine hK.out _ _ hS1 (fun hS => ?_)
      clear hK K
      clear hS1
      refine tkH 10 ?_ hS (fun wx hx => ?_) ?_; rotate_left
      · go_simp; try with_reducible rfl
      obtain ⟨⟨u0, u1⟩, v0, v1⟩ := HX.out.1
      have hbl : (z0.heap.size) < z33.heap.size := HX.out.1.lt
      have HY : Hid (Sgt ((z33.setCell ⟨(z0.heap.size), 0, none⟩ (.bool r)).setCell ⟨(z0.heap.size), 1, none⟩ (.int .i64 z)) b mb vy35 (z0.heap.size) r z) := HX.out.put r z
      have HG2 : Hid (HgS X0 ((z33.setCell ⟨(z0.heap.size), 0, none⟩ (.bool r)).setCell ⟨(z0.heap.size), 1, none⟩ (.int .i64 z)) b rb mb w.heap.size L vz ys34 vy35 (.slice lo (lnkL L).length lc)) := HX.out.keepsPut HG.out HNB.out r z
      refine rdH 12 (fun K hK => ?_)
      go_simp
      have hS2 : ((z33.setCell ⟨(z0.heap.size), 0, none⟩ (.bool r)).setCell ⟨(z0.heap.size), 1, none⟩ (.int .i64 z)).cell? ⟨w.heap.size, 0, none⟩ = some (.pointer (some ⟨b, 0, none⟩)) := HG2.out.2.1.1.1.1
      clear hS
      refine hK.out _ _ hS2 (fun hS => ?_)
      clear hK K
      clear hS2 u0 u1 v0 v1 hbl
      refine tkH 13 ?_ hS (fun wx hx => ?_) ?_; rotate_left
      · go_simp; try with_reducible rfl
      refine wpAnyH_done (by kernel_rfl) ?_ _
      go_simp
      go_wp2_with fail
      go_meet
      case rel => exact ⟨_, ys34, vy35, rfl, rfl, HG2, HY⟩
  case rest =>
    obtain ⟨A, ys, vy, rfl, rfl, HG2, HX2⟩ := hcut
    obtain ⟨⟨x0, x1⟩, y0, y1⟩ := HG2.out.2.1.1
    have hzb : w.heap.size < wc.heap.size := HG2.out.2.1.2.1
    go_wp2_with fail
    refine (linksTo_is (lnkL L) ⟨b, 0, none⟩ _ 0 a _ HG2.out.1.2.row (by omega)).mono ?_
    rintro e w3 ⟨mv, rfl, ho, q3⟩
    obtain ⟨mo, mc, rfl⟩ := ho.form
    have hlm := toL_len (lnkL L) a
    have HM : Hid ((Lst w3 b mb vy (toL (lnkL L) a) (.slice mo (toL (lnkL L) a).length mc)) ∧ ∀ j, j < (toL (lnkL L) a).length → 0 ≤ ((toL (lnkL L) a).getD j (0, 0)).1 ∧ ((toL (lnkL L) a).getD j (0, 0)).1 ≤ 9) := ⟨HG2.out.1.lst ho, toL_in⟩
    have HG3 : Hid (HgS X0 w3 b rb mb w.heap.size L vz ys vy (.slice lo (lnkL L).length lc) ∧ Sgt w3 b mb vy A r z) := ⟨HG2.out.later q3, HX2.out.later q3⟩
    clear ho q3 HG2 HX2 x0 x1 y0 y1 hzb
    have hR := HR.out
    clear HR
    generalize toL (lnkL L) a = M at HM hlm hR ⊢
    obtain ⟨⟨x0, x1⟩, y0, y1⟩ := HG3.out.1.2.1.1
    obtain ⟨⟨u0, u1⟩, v0, v1⟩ := HG3.out.2.1
    unfold hangsR at hR
    cases r with
    | false =>
      rw [if_pos rfl] at hR
      by_cases hm0 : M.length = 0
      · have dm : (((M.length : Nat) : Int) == 0) = true := beq_iff_eq.2 (by omega)
        rw [dm] at hR
        cases s with
        | true =>
          have HQ : Hid (res = false) := by unfold Hid; rw [← hR]; rfl
          clear hR hm0
          go_wp2_with fail
          refine (countLinks_is mo _ mc (by omega) _).mono ?_
          rintro e w9 ⟨rfl, hw9⟩
          obtain rfl := hw9.symm
          go_wp2
          go_ret
          exact ⟨by rw [HQ.out]; rfl, _, _, HG3.out.1.1, HKw.out.trans HG3.out.1.2.2⟩
        | false =>
          have HQ : Hid (res = true) := by unfold Hid; rw [← hR]; rfl
          clear hR hm0
          go_wp2_with fail
          refine (countLinks_is mo _ mc (by omega) _).mono ?_
          rintro e w9 ⟨rfl, hw9⟩
          obtain rfl := hw9.symm
          go_wp2
          go_ret
          exact ⟨by rw [HQ.out]; rfl, _, _, HG3.out.1.1, HKw.out.trans HG3.out.1.2.2⟩
      · have dm : (((M.length : Nat) : Int) == 0) = false := beq_eq_false_iff_ne.2 (by omega)
        have HQ : Hid (res = false) := by unfold Hid; rw [← hR, dm]; rfl
        clear hR hm0
        go_wp2_with fail
        refine (countLinks_is mo _ mc (by omega) _).mono ?_
        rintro e w9 ⟨rfl, hw9⟩
        obtain rfl := hw9.symm
        go_wp2
        go_ret
        exact ⟨by rw [HQ.out]; rfl, _, _, HG3.out.1.1, HKw.out.trans HG3.out.1.2.2⟩
    | true =>
      rw [if_neg (by simp)] at hR
      by_cases hnx : a ≥ nx
      · have HQ : Hid (res = false) := by unfold Hid; rw [← hR, if_pos hnx]
        have dn : decide (a ≥ nx) = true := decide_eq_true hnx
        clear hR hnx
        go_wp2
        go_ret
        exact ⟨by rw [HQ.out]; rfl, _, _, HG3.out.1.1, HKw.out.trans HG3.out.1.2.2⟩
      · have dn : decide (a ≥ nx) = false := decide_eq_false hnx
        rw [if_neg hnx] at hR
        clear hnx
        by_cases hz : z = 1000
        · have dz : (z == 1000) = true := beq_iff_eq.2 hz
          rw [if_pos hz] at hR
          clear hz
          cases s with
          | true =>
            have HQ : Hid (res = false) := by unfold Hid; rw [← hR]; rfl
            clear hR
            go_wp2
            go_ret
            exact ⟨by rw [HQ.out]; rfl, _, _, HG3.out.1.1, HKw.out.trans HG3.out.1.2.2⟩
          | false =>
            have HQ : Hid (res = dirR L M a) := by unfold Hid; rw [← hR]; rfl
            clear hR
            go_wp2_with fail
            refine (dirHangs_is L M b rb mb ys vy _ _ a _ HG3.out.1.1 HM.out.1 H.out.1 hn ⟨by omega, HM.out.2⟩).mono ?_
            rintro e w4 ⟨rfl, ys4, vy4, hg4, hk4⟩
            have HG4 : Hid (HgS X0 w4 b rb mb w.heap.size L vz ys4 vy4 (.slice lo (lnkL L).length lc)) := HG3.out.1.keeps hg4 hk4
            rw [← HQ.out]
            clear hg4 hk4 HG3 x0 x1 y0 y1 u0 u1 v0 v1
            cases res with
            | true =>
              go_wp2
              go_ret
              exact ⟨rfl, _, _, HG4.out.1, HKw.out.trans HG4.out.2.2⟩
            | false =>
              go_wp2
              go_ret
              exact ⟨rfl, _, _, HG4.out.1, HKw.out.trans HG4.out.2.2⟩
        · have dz : (z == 1000) = false := beq_eq_false_iff_ne.2 hz
          rw [if_neg hz] at hR
          have HQ : Hid (res = fileR L M z) := hR.symm
          clear hR hz
          go_wp2_with fail
          refine (fileHangs_is L M b rb mb ys vy _ _ z _ HG3.out.1.1 HM.out.1 H.out.1 hn H.out.2.2 ⟨by omega, HM.out.2⟩).mono ?_
          rintro e w4 ⟨rfl, ys4, vy4, hg4, hk4⟩
          have HG4 : Hid (HgS X0 w4 b rb mb w.heap.size L vz ys4 vy4 (.slice lo (lnkL L).length lc)) := HG3.out.1.keeps hg4 hk4
          rw [← HQ.out]
          clear hg4 hk4 HG3 x0 x1 y0 y1 u0 u1 v0 v1
          go_wp2
          go_ret
          exact ⟨rfl, _, _, HG4.out.1, HKw.out.trans HG4.out.2.2⟩
end Go.Proofs.Ytokaoiiibakkoaa

namespace Go.Proofs.Ytokaoiiibakkoaa
open Go.RowKit

theorem all_toL (L : Prs) (r dir : Bool) (a : Int) : ∀ T : Prs, (T.all fun e => !(badE L r dir a e)) = ((toL (lnkL T) a).all fun l => !(!r || (!(dirB L l.1) || (dir && decide (l.1 ≥ a)))))
  | [] => rfl
  | e :: t => by
    rw [List.all_cons, all_toL L r dir a t, lnkL]
    unfold toL
    rw [List.filter_append, List.all_append]
    congr 1
    unfold badE
    by_cases h : partK e.1 = 2
    · rw [if_pos h, h]
      by_cases h2 : e.2 = a
      · simp [h2]
      · simp [h2]
    · rw [if_neg h, beq_eq_false_iff_ne.2 h]
      simp
theorem all_noI : ∀ T : Prs, (T.all fun e => !(noInode e)) = !((lnkL T).any fun l => !(decide (0 ≤ l.2 ∧ l.2 ≤ 9)))
  | [] => rfl
  | e :: t => by
    rw [List.all_cons, all_noI t, lnkL, List.any_append, Bool.not_or]
    congr 1
    unfold noInode
    by_cases h : partK e.1 = 2
    · rw [if_pos h, h]; simp
    · rw [if_neg h, beq_eq_false_iff_ne.2 h]; simp
theorem hangs_eq (L : Prs) (r : Bool) (z : Int) (s : Bool) (nx a : Int) : hangsR L (toL (lnkL L) a) r z s nx a = inodeV L r z (linkN L a) s nx a := by
  unfold inodeV
  rw [all_toL L r _ a L]
  unfold linkN
  generalize toL (lnkL L) a = M
  unfold hangsR
  cases r with
  | false =>
    rw [if_pos rfl]
    cases M with
    | nil => cases s <;> simp [dirV, fileV]
    | cons x t =>
      rw [beq_eq_false_iff_ne.2 (by simp only [List.length_cons]; omega)]
      cases s <;> simp [dirV, fileV]
  | true =>
    rw [if_neg (by simp)]
    by_cases hnx : a ≥ nx
    · rw [if_pos hnx]; simp [hnx]
    · rw [if_neg hnx, decide_eq_false hnx]
      by_cases hz : z = 1000
      · rw [if_pos hz]
        subst hz
        have hfv : fileV true 1000 ((M.length : Nat) : Int) = false := by
          unfold fileV
          rw [beq_eq_false_iff_ne.2 (show (1000 : Int) ≠ 2000 + ((M.length : Nat) : Int) by omega)]; simp
        have hdv : dirV true 1000 = true := by unfold dirV; simp
        rw [hfv, hdv]
        unfold dirR
        by_cases ha : a = 0
        · rw [if_pos ha]
          cases M with
          | nil => cases s <;> simp [ha]
          | cons x t =>
            have h1 : ((((x :: t).length : Nat) : Int) != 0) = true := bne_iff_ne.2 (by simp only [List.length_cons]; omega)
            have h2 : ((x :: t).length == 0) = false := by simp
            rw [h1, h2]
            simp [ha]
        · rw [if_neg ha]
          have h0 : (a == 0) = false := beq_eq_false_iff_ne.2 ha
          have h0' : (a != 0) = true := bne_iff_ne.2 ha
          rw [h0, h0']
          match M with
          | [] => simp
          | [x] =>
            have hd : decide (x.1 < a) = !(decide (x.1 ≥ a)) := by
              by_cases h : x.1 < a
              · rw [decide_eq_true h, decide_eq_false (by omega)]; rfl
              · rw [decide_eq_false h, decide_eq_true (by omega)]; rfl
            simp only [List.length_cons, List.length_nil, List.getD_cons_zero, List.all_cons, List.all_nil, hd]
            cases s <;> cases dirB L x.1 <;> cases decide (x.1 ≥ a) <;> decide
          | x :: y :: t =>
            have h1 : ((((x :: y :: t).length : Nat) : Int) != 1) = true := bne_iff_ne.2 (by simp only [List.length_cons]; omega)
            have h2 : ((x :: y :: t).length == 1) = false := by simp
            rw [h1, h2]
            simp
      · rw [if_neg hz]
        have hdv : dirV true z = false := by unfold dirV; simp [hz]
        rw [hdv]
        unfold fileR fileV anyH
        have hany : (M.all fun l => !(!true || (!(dirB L l.1) || (false && decide (l.1 ≥ a))))) = !(M.any fun l => !(dirB L l.1)) := by
          rw [List.not_any_eq_all_not]
          simp
        rw [hany]
        by_cases hm : M.length = 0
        · rw [beq_iff_eq.2 (show ((M.length : Nat) : Int) = 0 by omega), decide_eq_false (show ¬ ((M.length : Nat) : Int) > 0 by omega)]
          simp
        · rw [beq_eq_false_iff_ne.2 (show ((M.length : Nat) : Int) ≠ 0 by omega), decide_eq_true (show ((M.length : Nat) : Int) > 0 by omega)]
          cases s <;> cases (z == 2000 + ((M.length : Nat) : Int)) <;> simp
theorem lookF_val {L : Prs} (hv : ∀ e ∈ L, 0 ≤ e.2 ∧ e.2 ≤ 9999) (k : Int) : 0 ≤ (lookF L k).2 ∧ (lookF L k).2 ≤ 9999 := by
  unfold lookF
  split
  · rename_i e he
    exact hv e (List.mem_of_find?_eq_some he)
  · exact ⟨Int.le_refl _, by decide⟩
theorem lookF_zero {L : Prs} {k : Int} (h : (lookF L k).1 = false) : (lookF L k).2 = 0 := by
  unfold lookF at h ⊢
  split at h
  · simp at h
  · rfl
theorem pairs_vals {F : Nat → Int} {n : Nat} (h : pairsF F n 0 = 0) : ∀ e ∈ listOf F n, 0 ≤ e.2 ∧ e.2 ≤ 9999 := by
  intro e he
  unfold listOf at he
  obtain ⟨k, hk, rfl⟩ := List.mem_map.1 he
  have := pairsF_all h k (List.mem_range.1 hk)
  rw [Nat.zero_add] at this
  exact (pairF_zero this).2.1
/-- The program's way to ask whether all hangs together. -/
theorem whole_eq (L : Prs) : wholeB L = (dirB L 0 && (decide (1 ≤ (lookF L 0).2 ∧ (lookF L 0).2 ≤ 10) && ((List.range 10).all (fun a => inodeB L (lookF L 0).2 (a : Nat)) && !((lnkL L).any fun l => !(decide (0 ≤ l.2 ∧ l.2 ≤ 9)))))) := by
  unfold wholeB
  rw [all_noI]
  cases h : (lookF L 0).1 with
  | false =>
    rw [decide_eq_false (show ¬ (1 ≤ (lookF L 0).2 ∧ (lookF L 0).2 ≤ 10) by rw [lookF_zero h]; omega)]
    simp
  | true =>
    cases dirB L 0 <;> cases decide (1 ≤ (lookF L 0).2 ∧ (lookF L 0).2 ≤ 10) <;> simp
set_option maxRecDepth 100000 in
set_option maxHeartbeats 4000000 in
theorem isWhole_is (L : Prs) (b rb mb : Nat) (zs : List Int) (vz lv : Value) (w : World) (h : Hung w b rb mb L zs vz lv) (hrs : Rises L) (hn : L.length ≤ 800) (hv : ∀ k, 0 ≤ (lookF L k).2 ∧ (lookF L k).2 ≤ 9999) :
    Calls Try.prog 30 #[.agg #[.pointer (some ⟨b, 0, none⟩), lv]] w (LookRes w b rb mb L vz lv (.bool (wholeB L))) := by
  obtain ⟨lo, lc, rfl⟩ := h.2.row.form
  have HG : Hid (HgS (w.alloc (.cells #[.pointer (some ⟨b, 0, none⟩), .slice lo (lnkL L).length lc] 56)) (w.alloc (.cells #[.pointer (some ⟨b, 0, none⟩), .slice lo (lnkL L).length lc] 56)) b rb mb w.heap.size L vz zs vz (.slice lo (lnkL L).length lc)) := ⟨h.later (below_alloc _ _), h.box, Keeps.below _ _ _ (Below.refl _ _)⟩
  have HKw : Hid (Keeps w (w.alloc (.cells #[.pointer (some ⟨b, 0, none⟩), .slice lo (lnkL L).length lc] 56)) b mb vz vz) := Keeps.below b mb vz (below_alloc w _)
  have H : Hid (Rises L ∧ ∀ k, 0 ≤ (lookF L k).2 ∧ (lookF L k).2 ≤ 9999) := ⟨hrs, hv⟩
  have fs1 := fun h v w => field_sight1 h v w
  have hlk := lnkL_len L
  obtain ⟨res, hres⟩ : ∃ res, wholeB L = res := ⟨_, rfl⟩
  have hR := (whole_eq L).symm.trans hres
  obtain ⟨t, ht⟩ : ∃ t, lookF L 0 = t := ⟨_, rfl⟩
  obtain ⟨h0, nx⟩ := t
  have HV : Hid (lookF L 0 = (h0, nx)) := ht
  have hnx := hv 0
  rw [ht] at hR hnx
  simp only at hR hnx
  rw [hres]
  clear h hrs hv hres ht
  go_enter Try.func30, Try.ntmps30
  go_upto_region 1 with fail
  generalize w.alloc (.cells #[.pointer (some ⟨b, 0, none⟩), .slice lo (lnkL L).length lc] 56) = X0 at HG HKw ⊢
  refine wp_region_held_drew (S := fun X => X.cell? ⟨w.heap.size, 0, none⟩ = some (.pointer (some ⟨b, 0, none⟩))) (by kernel_rfl) HG.out.2.1.1.1.1 (fun hS => ?_)
  have HG1 : Hid (HgS X0 X0.drew b rb mb w.heap.size L vz zs vz (.slice lo (lnkL L).length lc)) := HG.out.later (below_drewT _)
  clear HG
  generalize X0.drew = z0 at hS HG1 ⊢
  refine tkH 0 ?_ hS (fun wx hx => ?_) ?_; rotate_left
  · go_simp; try with_reducible rfl
  refine tkH 1 ?_ hS (fun wx hx => ?_) ?_; rotate_left
  · go_simp; try with_reducible rfl
  refine rdH 2 (fun K hK => ?_)
  go_simp
  go_wp2_with fail
  refine (nextKey_is _).mono ?_
  rintro e z1 ⟨rfl, q1⟩
  have HG2 : Hid (HgS X0 z1 b rb mb w.heap.size L vz zs vz (.slice lo (lnkL L).length lc)) := HG1.out.later q1
  clear q1 HG1 hS
  go_wp2_with fail
  refine hK.out _ _ HG2.out.2.1.1.1.1 (fun hS => ?_)
  clear hK K
  refine rdH 3 (fun K hK => ?_)
  go_simp
  go_wp2_with fail
  refine (look_h L b rb mb zs vz _ 0 _ HG2.out.1 H.out.1 hn (by omega)).mono ?_
  rintro e z2 ⟨rfl, ys, vy, hg, hk⟩
  rw [HV.out]
  have HG3 : Hid (HgS X0 z2 b rb mb w.heap.size L vz ys vy (.slice lo (lnkL L).length lc)) := HG2.out.keeps hg hk
  clear hg hk HG2 hS
  go_wp2_with fail
  refine hK.out _ _ HG3.out.2.1.1.1.1 (fun hS => ?_)
  clear hK K
  refine tkH 4 ?_ hS (fun wx hx => ?_) ?_; rotate_left
  · go_simp; try with_reducible rfl
  refine tkH 5 ?_ hS (fun wx hx => ?_) ?_; rotate_left
  · go_simp; try with_reducible rfl
  refine wpAnyH_done (by kernel_rfl) ?_ _
  go_simp
  clear hS
  obtain ⟨⟨x0, x1⟩, y0, y1⟩ := HG3.out.2.1.1
  go_wp2_with fail
  refine (isDir_h L b rb mb ys vy _ 0 _ HG3.out.1 H.out.1 hn (by omega)).mono ?_
  rintro e z3 ⟨rfl, ys3, vy3, hg3, hk3⟩
  have HG4 : Hid (HgS X0 z3 b rb mb w.heap.size L vz ys3 vy3 (.slice lo (lnkL L).length lc)) := HG3.out.keeps hg3 hk3
  clear hg3 hk3 HG3 x0 x1 y0 y1
  obtain ⟨⟨x0, x1⟩, y0, y1⟩ := HG4.out.2.1.1
  cases hd : dirB L 0 with
  | false =>
    have HQ : Hid (res = false) := by unfold Hid; rw [← hR, hd]; rfl
    clear hR hd
    go_wp2
    go_ret
    exact ⟨by rw [HQ.out]; rfl, _, _, HG4.out.1, HKw.out.trans HG4.out.2.2⟩
  | true =>
  rw [hd] at hR
  clear hd
  by_cases h1 : nx < 1
  · have d1 : decide (nx < 1) = true := decide_eq_true h1
    have HQ : Hid (res = false) := by unfold Hid; rw [← hR, decide_eq_false (show ¬ (1 ≤ nx ∧ nx ≤ 10) by omega)]; rfl
    clear hR h1
    go_wp2
    go_ret
    exact ⟨by rw [HQ.out]; rfl, _, _, HG4.out.1, HKw.out.trans HG4.out.2.2⟩
  have d1 : decide (nx < 1) = false := decide_eq_false h1
  by_cases h2 : nx > 10
  · have d2 : decide (nx > 10) = true := decide_eq_true h2
    have HQ : Hid (res = false) := by unfold Hid; rw [← hR, decide_eq_false (show ¬ (1 ≤ nx ∧ nx ≤ 10) by omega)]; rfl
    clear hR h1 h2
    go_wp2
    go_ret
    exact ⟨by rw [HQ.out]; rfl, _, _, HG4.out.1, HKw.out.trans HG4.out.2.2⟩
  have d2 : decide (nx > 10) = false := decide_eq_false h2
  rw [decide_eq_true (show 1 ≤ nx ∧ nx ≤ 10 by omega)] at hR
  obtain ⟨ba, hba⟩ : ∃ ba, ((lnkL L).any fun l => !(decide (0 ≤ l.2 ∧ l.2 ≤ 9))) = ba := ⟨_, rfl⟩
  have HBA : Hid (((lnkL L).any fun l => !(decide (0 ≤ l.2 ∧ l.2 ≤ 9))) = ba) := hba
  rw [hba] at hR
  have HN1 : Hid (∀ k : Nat, k < 10 → inodeB L nx k = false → res = false) := fun k hk e => by rw [← hR, range_no hk e]; rfl
  have HOK : Hid ((∀ k : Nat, k < 10 → inodeB L nx k = true) → res = !ba) := fun e => by rw [← hR, range_ok e]; rfl
  clear hR hba h1 h2
  go_wp2
  go_loopw [22] (fun i wr => ∃ k : Nat, k ≤ 10 ∧ i = .int .i64 k ∧ Hid (∀ j : Nat, j < k → inodeB L nx j = true) ∧ ∃ ys vy, Hid (HgS X0 wr b rb mb w.heap.size L vz ys vy (.slice lo (lnkL L).length lc))) (fun i _ => 10 - (intOf i).toNat)
  case atStart => exact ⟨0, Nat.zero_le _, rfl, fun j hj => absurd hj (Nat.not_lt_zero j), ys3, vy3, HG4⟩
  case round =>
    obtain ⟨k, hk, rfl, HS, ys5, vy5, HG5⟩ := hrel
    clear HG4 x0 x1 y0 y1
    obtain ⟨⟨x0, x1⟩, y0, y1⟩ := HG5.out.2.1.1
    by_cases hlt : k < 10
    · have dk : decide ((k : Int) < 10) = true := decide_eq_true (by omega)
      obtain ⟨t, ht⟩ : ∃ t, lookF L (kI k) = t := ⟨_, rfl⟩
      obtain ⟨r, z⟩ := t
      obtain ⟨t, hu⟩ : ∃ t, lookF L (kB k) = t := ⟨_, rfl⟩
      obtain ⟨s, sz⟩ := t
      obtain ⟨q, hq⟩ : ∃ q, inodeB L nx k = q := ⟨_, rfl⟩
      have HI : Hid (inodeB L nx k = q) := hq
      have HE : Hid (hangsR L (toL (lnkL L) k) r z s nx k = q) := by
        unfold Hid
        rw [hangs_eq, ← hq]
        unfold inodeB
        rw [ht, hu]
      have HT : Hid (lookF L (kI k) = (r, z) ∧ lookF L (kB k) = (s, sz) ∧ (0 ≤ z ∧ z ≤ 9999)) := ⟨ht, hu, by have := H.out.2 (kI k); rw [ht] at this; exact this⟩
      clear hq ht hu
      go_wp2_with fail
      refine (hangs_is L b rb mb ys5 vy5 _ k nx _ r z s sz HG5.out.1 H.out.1 hn (by omega) HT.out.1 HT.out.2.1 HT.out.2.2).mono ?_
      rintro e z5 ⟨rfl, ys6, vy6, hg6, hk6⟩
      rw [HE.out]
      have HG6 : Hid (HgS X0 z5 b rb mb w.heap.size L vz ys6 vy6 (.slice lo (lnkL L).length lc)) := HG5.out.keeps hg6 hk6
      clear hg6 hk6 HG5 x0 x1 y0 y1
      cases q with
      | false =>
        have HQ : Hid (res = false) := HN1.out k hlt HI.out
        go_wp2
        go_ret
        exact ⟨by rw [HQ.out]; rfl, _, _, HG6.out.1, HKw.out.trans HG6.out.2.2⟩
      | true =>
        have HS2 : Hid (∀ j : Nat, j < k + 1 → inodeB L nx j = true) := fun j hj => by
          rcases Nat.eq_or_lt_of_le (Nat.lt_succ_iff.1 hj) with rfl | qq
          · exact HI.out
          · exact HS.out j qq
        go_wp2
        go_roundw
        case rel => exact ⟨k + 1, by omega, by go_num, HS2, ys6, vy6, HG6⟩
        case measure => simp [intOf]; omega
    · have dk : decide ((k : Int) < 10) = false := decide_eq_false (by omega)
      have HQ : Hid (res = !ba) := HOK.out fun j hj => HS.out j (by omega)
      clear HS HN1 HOK HV
      go_wp2_with fail
      refine (containsW_is (lnkL L) _ 0 ba HBA.out _ HG5.out.1.2.row (by omega)).mono ?_
      rintro e z6 ⟨rfl, q6⟩
      have HG6 : Hid (HgS X0 z6 b rb mb w.heap.size L vz ys5 vy5 (.slice lo (lnkL L).length lc)) := HG5.out.later q6
      clear q6 HG5 x0 x1 y0 y1
      go_wp2
      go_ret
      exact ⟨by rw [HQ.out]; rfl, _, _, HG6.out.1, HKw.out.trans HG6.out.2.2⟩
end Go.Proofs.Ytokaoiiibakkoaa

namespace Go.Proofs.Ytokaoiiibakkoaa
open Go.RowKit

set_option maxRecDepth 100000 in
set_option maxHeartbeats 2000000 in
theorem implFs_is (y : Value) (B n : Nat) (F : Nat → Int) (w : World) (h : Row w B 2 n F y) (hn : n ≤ 1048576) :
    Calls Try.prog 9 #[y] w fun e w' => e = .returned (.int .i64 (fsF n F)) ∧ Below w.heap.size w w' := by
  have H : Hid (Row w B 2 n F y) := h
  clear h
  by_cases h1 : pairsF F n 0 = 0
  case neg =>
    obtain ⟨f, hf⟩ : ∃ f, pairsF F n 0 = f := ⟨_, rfl⟩
    have HF : Hid (pairsF F n 0 = f) := hf
    have HQ : Hid (fsF n F = f) := (fsF_bad h1).trans hf
    have dd : (f != 0) = true := bne_iff_ne.2 (by rw [← hf]; exact h1)
    rw [HQ.out]
    clear h1 hf
    go_enter Try.func9, Try.ntmps9
    go_wp2_with fail
    refine (implPairs_any _ B n F _ H.out hn).mono ?_
    rintro e w1 ⟨rfl, q1⟩
    rw [HF.out]
    have HB : Hid (Below w.heap.size w w1) := q1
    clear q1
    go_wp2
    go_ret
    exact ⟨rfl, HB.out⟩
  have HF : Hid (pairsF F n 0 = 0) := h1
  obtain ⟨q, hq⟩ : ∃ q, wholeB (listOf F n) = q := ⟨_, rfl⟩
  have HW : Hid (wholeB (listOf F n) = q) := hq
  have HQ : Hid (fsF n F = if q = true then 0 else 1) := by
    cases q with
    | true => exact fsF_ok h1 hq
    | false => exact fsF_no h1 hq
  have hn2 := (pairs_rise h1).2
  rw [HQ.out]
  clear h1 hq
  go_enter Try.func9, Try.ntmps9
  go_wp2_with fail
  refine (implPairs_any _ B n F _ H.out hn).mono ?_
  rintro e w1 ⟨rfl, q1⟩
  rw [HF.out]
  have HB : Hid (Below w.heap.size w w1) := q1
  clear q1
  go_wp2_with fail
  refine (hangingIn_is (listOf F n) _ B _ (row_list (H.out.later HB.out)) (pairs_rise HF.out).1 (by rw [listOf_length]; omega) (pairs_keys HF.out)).mono ?_
  rintro e w2 ⟨b, rb, mb, lv, rfl, hl, ho, hrb, q2⟩
  have HH : Hid (Hung w2 b rb mb (listOf F n) [] (.slice none 0 0) lv ∧ w1.heap.size ≤ mb ∧ w1.heap.size ≤ b) := ⟨Hung.new hl ho, by have := hl.2.2.2.2; omega, by have := hl.2.2.2.2; omega⟩
  have HB2 : Hid (Below w.heap.size w w2 ∧ w1.heap.size ≤ w2.heap.size) := ⟨HB.out.trans (q2.mono HB.out.size), q2.size⟩
  clear hl ho hrb q2
  go_wp2_with fail
  refine (isWhole_is (listOf F n) b rb mb [] (.slice none 0 0) lv _ HH.out.1 (pairs_rise HF.out).1 (by rw [listOf_length]; omega) (lookF_val (pairs_vals HF.out))).mono ?_
  rintro e w3 ⟨rfl, ys, vy, hg, hk⟩
  have HB3 : Hid (Below w.heap.size w w3) := HB2.out.1.trans (hk.toBelow HB2.out.1.size (Nat.le_trans HB.out.size HH.out.2.2) (Nat.le_trans HB.out.size HH.out.2.1) (fun k hk => by cases hk))
  rw [HW.out]
  clear hg hk HH HB HB2
  cases q with
  | true =>
    go_wp2
    go_ret
    exact ⟨rfl, HB3.out⟩
  | false =>
    go_wp2
    go_ret
    exact ⟨rfl, HB3.out⟩
set_option maxRecDepth 100000 in
set_option maxHeartbeats 2000000 in
theorem fsFault_walk (v : Value) (n : Nat) (F : Nat → Int) (w : World) (h : Row w 0 2 n F v) (hn : n ≤ 9223372036854775807) (_ : ∀ p, (Lit.int .i64 (F p)).wf = true) :
    Calls Try.prog 3 #[v] w fun e w' => e = .returned (.bool true) ∧ Below w.heap.size w w' := by
  obtain ⟨ao, cp, rfl⟩ := h.form
  have H : Hid (Row w 0 2 n F (.slice ao n cp)) := h
  clear h
  by_cases hs : (1048576 : Int) < n
  · go_enter Try.func3, Try.ntmps3
    go_wp2_with fail
    refine (szPairS_no _ _ _ _ _ hs (by omega) (by omega) hn).mono ?_
    rintro e w1 ⟨rfl, rfl⟩
    go_wp2
    go_ret
    exact ⟨rfl, Below.refl _ _⟩
  have hb : n ≤ 1048576 := by omega
  have dz : decide ((1048576 : Int) - n < 0) = false := decide_eq_false (by omega)
  clear hs
  obtain ⟨r, hr⟩ : ∃ r, fsF n F = r := ⟨_, rfl⟩
  have HA : Hid (fsF n F = r) := hr
  have dne : (r != r) = false := by simp
  clear hr
  go_enter Try.func3, Try.ntmps3
  go_wp2_with fail
  refine (szPairS_ok _ _ _ _ _ (by omega) (by omega)).mono ?_
  rintro e w1 ⟨rfl, hw1⟩
  obtain rfl := hw1.symm
  go_wp2_with fail
  refine (toPairS_any _ 0 n F _ H.out hb).mono ?_
  rintro e w2 ⟨u2, rfl, r2, _, q2⟩
  have Q2 : Hid (Below w.heap.size w w2) := q2
  have R2 : Hid (Row w2 0 2 n F u2) := r2.mono (Nat.zero_le _)
  clear r2 q2
  go_wp2_with fail
  refine (specFs_is _ 0 n F _ R2.out hb).mono ?_
  rintro e w3 ⟨rfl, q3⟩
  rw [HA.out]
  have Q3 : Hid (Below w.heap.size w w3) := Q2.out.trans (q3.mono Q2.out.size)
  clear q3 Q2 R2
  go_wp2_with fail
  refine (toPairS_any _ 0 n F _ (H.out.later Q3.out) hb).mono ?_
  rintro e w4 ⟨u4, rfl, r4, _, q4⟩
  have Q4 : Hid (Below w.heap.size w w4) := Q3.out.trans (q4.mono Q3.out.size)
  have R4 : Hid (Row w4 0 2 n F u4) := r4.mono (Nat.zero_le _)
  clear r4 q4 Q3
  go_wp2_with fail
  refine (implFs_is _ 0 n F _ R4.out hb).mono ?_
  rintro e w55 ⟨rfl, q5⟩
  rw [HA.out]
  have Q5 : Hid (Below w.heap.size w w55) := Q4.out.trans (q5.mono Q4.out.size)
  have R5 : Hid (Row w55 0 2 n F u4) := R4.out.later q5
  clear q5 Q4 R4
  go_wp2_with fail
  refine (toPairS_any _ 0 n F _ (H.out.later Q5.out) hb).mono ?_
  rintro e w6 ⟨u6, rfl, r6, _, q6⟩
  have Q6 : Hid (Below w.heap.size w w6) := Q5.out.trans (q6.mono Q5.out.size)
  have R6 : Hid (Row w6 0 2 n F u4 ∧ Row w6 0 2 n F u6) := ⟨R5.out.later q6, r6.mono (Nat.zero_le _)⟩
  clear r6 q6 Q5 R5
  go_wp2_with fail
  refine (eqPairS_same _ _ 0 0 n F _ R6.out.1 R6.out.2 hb).mono ?_
  rintro e w7 ⟨rfl, q7⟩
  have Q7 : Hid (Below w.heap.size w w7) := Q6.out.trans (q7.mono Q6.out.size)
  clear q7 Q6 R6
  go_wp2
  go_ret
  exact ⟨rfl, Q7.out⟩
end Go.Proofs.Ytokaoiiibakkoaa

