/-
  Own text, merged of PaiR, PaiJ, PaiK, ModA, ModB, ModC, PaiM, ModD.
-/
import Derived.Test.YtglcedhkbbckiaaGreatPk9
namespace Go.Proofs.YtglcedhkbbckiaaGreat
open Go.RowKit

/-- The list stands in box b; its own memory lies from block lo on. -/
def RisL (w : World) (b lo : Nat) (L : Prs) : Prop := ∃ v, Blk2 w b v (.func (.func 96) #[] #[]) ∧ Own w lo 148 2 L.length (rowL L) v
theorem RisL.later {w w' : World} {b lo : Nat} {L : Prs} (h : RisL w b lo L) (hb : Below w.heap.size w w') : RisL w' b lo L := by
  obtain ⟨v, h1, h2⟩ := h
  exact ⟨v, h1.later hb, h2.later hb⟩
theorem RisL.lt {w : World} {b lo : Nat} {L : Prs} (h : RisL w b lo L) : b < w.heap.size := by
  obtain ⟨v, h1, _⟩ := h
  exact h1.lt
/-- All below block lo stands, but box b. -/
def OffB (b lo : Nat) (w w' : World) : Prop := Below b w w' ∧ ∀ i, i < lo → i ≠ b → w'.heap[i]? = w.heap[i]?
theorem OffB.refl (b lo : Nat) (w : World) : OffB b lo w w := ⟨Below.refl _ _, fun _ _ _ => rfl⟩
theorem OffB.trans {b lo : Nat} {w w' w'' : World} (h : OffB b lo w w') (h' : OffB b lo w' w'') : OffB b lo w w'' := ⟨h.1.trans h'.1, fun i hi q => (h'.2 i hi q).trans (h.2 i hi q)⟩
theorem OffB.later {b lo : Nat} {w w' w'' : World} (h : OffB b lo w w') (hlo : b < lo) (hlw : lo ≤ w.heap.size) (hb : Below w'.heap.size w' w'') : OffB b lo w w'' := ⟨h.1.trans (hb.mono (by have := h.1.size; omega)), fun i hi q => (hb.block i (Nat.lt_of_lt_of_le hi (Nat.le_trans hlw h.1.size))).trans (h.2 i hi q)⟩
theorem OffB.of {b lo : Nat} {v : Value} {w w' : World} (h : Below b w w') (hk : KeptBut b v w w') (hv : ∀ q, v.ownBlock = some q → lo ≤ q) (hlw : lo ≤ w.heap.size := by omega) : OffB b lo w w' := ⟨h, fun i hi q => hk.2 i (by omega) q (fun e => by have := hv i e; omega)⟩
theorem OffB.set {b lo k : Nat} {w w' : World} {u : Value} (h : OffB b lo w w') : OffB b lo w (w'.setCell ⟨b, k, none⟩ u) := ⟨h.1.setCell (Nat.le_refl _) _, fun i hi q => (Below.heap_setCell w' ⟨b, k, none⟩ u i q).trans (h.2 i hi q)⟩
theorem stored_lo {w : World} {b lo : Nat} (hlo : b < lo) {v v' : Value} {L : Prs} (hb : Blk2 w b v (.func (.func 96) #[] #[])) (ho : Own w lo 148 2 L.length (rowL L) v') : Blk2 (w.setCell ⟨b, 0, none⟩ v') b v' (.func (.func 96) #[] #[]) ∧ Own (w.setCell ⟨b, 0, none⟩ v') lo 148 2 L.length (rowL L) v' :=
  ⟨Blk2.set0P hb _, own_kept ho (fun j hj => Below.heap_setCell w ⟨b, 0, none⟩ _ j (fun e => by have := (own_in ho j hj).1; simp at e; omega))⟩
set_option maxRecDepth 100000 in
set_option maxHeartbeats 2000000 in
theorem drop_lo (L : Prs) (b lo : Nat) (hlo : b < lo) (v : Value) (k x : Int) (w : World) (hb : Blk2 w b v (.func (.func 96) #[] #[])) (ho : Own w lo 148 2 L.length (rowL L) v) (hr : Rises L) (hn : L.length ≤ 1000) :
    Calls Tryz.prog 140 #[.pointer (some ⟨b, 0, none⟩), .agg #[.int .i64 k, .int .i64 x]] w fun e w' => e = .returned (.tuple #[]) ∧ (∃ v', (Blk2 w' b v' (.func (.func 96) #[] #[]) ∧ Own w' lo 148 2 (gonePr L k).length (rowL (gonePr L k)) v') ∧ v'.ownBlock = v.ownBlock) ∧ Below b w w' ∧ KeptBut b v w w' := by
  obtain ⟨ao, cp, rfl⟩ := ho.form
  have HO : Hid (Own w lo 148 2 L.length (rowL L) (.slice ao L.length cp) ∧ Rises L ∧ Blk2 w b (.slice ao L.length cp) (.func (.func 96) #[] #[])) := ⟨ho, hr, hb⟩
  clear ho hr hb
  go_enter Tryz.func140, Tryz.ntmps140
  go_wp2_with fail
  refine (place_any L b lo _ k x _ (HO.out.2.2.alloc _) (HO.out.1.alloc _) HO.out.2.1 hn).mono ?_
  rintro e w1 ⟨r, rfl, hr, q1⟩
  have HR : Hid (r = true ↔ atKey L k) := hr
  have HB : Hid (Below w.heap.size w w1) := (below_alloc w _).trans (q1.mono (by simp))
  have hbw : Hid (b < w.heap.size) := HO.out.2.2.lt
  clear q1 hr
  by_cases hat : atKey L k
  · obtain rfl : r = true := HR.out.2 hat
    have HT : Hid (atKey L k) := hat
    have HE : Hid (gonePr L k = L.eraseIdx (aheadN L k)) := by
      unfold Hid
      rw [gone_is HO.out.2.1]; exact if_pos hat
    have O1 : Hid (Own w1 lo 148 2 L.length (rowL L) (.slice ao L.length cp) ∧ Blk2 w1 b (.slice ao L.length cp) (.func (.func 96) #[] #[])) := ⟨HO.out.1.later HB.out, HO.out.2.2.later HB.out⟩
    obtain ⟨⟨hb0, hb1⟩, _, _⟩ := O1.out.2
    have hlt := hat.1
    have ha : aheadN L k ≤ 1000 := Nat.le_trans (aheadN_le L k) hn
    obtain ⟨A, hA⟩ : ∃ A, aheadN L k = A := ⟨_, rfl⟩
    have HAA : Hid (aheadN L k = A) := hA
    rw [hA] at hlt ha
    rw [hA]
    clear hA HR hat
    go_wp2_with fail
    refine (delP_any _ lo L.length A (rowL L) _ O1.out.1 (by omega) hlt).mono ?_
    rintro e w2 ⟨v2, rfl, ho2, hg2, hob2⟩
    obtain ⟨e2, f2, rfl⟩ := ho2.form
    have HB2 : Hid (Blk2 w2 b (.slice ao L.length cp) (.func (.func 96) #[] #[])) := own_grown O1.out.2 O1.out.1 (by omega) hg2
    have HO2 : Hid (Own w2 lo 148 2 (gonePr L k).length (rowL (gonePr L k)) (.slice e2 (L.length - 1) f2)) := by
      unfold Hid
      rw [HE.out, HAA.out, List.length_eraseIdx_of_lt hlt]
      exact own_eqP ho2 (fun p _ => rowL_erase)
    have HD : Hid (Below b w w2) := (HB.out.mono (Nat.le_of_lt hbw.out)).trans (grown_belowP O1.out.1 (by omega) (by have := HB.out.size; have := hbw.out; omega) hg2)
    obtain ⟨⟨c0, c1⟩, c2, c3⟩ := HB2.out
    have HK : Hid (KeptBut b (.slice ao L.length cp) w w2) := (KeptBut.below HB.out).trans HB.out.size (KeptBut.grown hg2)
    have HOB : Hid ((Value.slice e2 (L.length - 1) f2).ownBlock = (Value.slice ao L.length cp).ownBlock) := hob2
    clear ho2 hg2 hob2
    go_wp2
    go_end0
    exact ⟨rfl, ⟨_, stored_lo hlo HB2.out HO2.out, HOB.out⟩, HD.out.setCell (Nat.le_refl _) _, HK.out.trans' (KeptBut.set _)⟩
  · obtain rfl : r = false := Bool.eq_false_iff.2 (fun q => hat (HR.out.1 q))
    have HE : Hid (gonePr L k = L) := by
      unfold Hid
      rw [gone_is HO.out.2.1]; exact if_neg hat
    clear hat HR
    go_wp2
    go_end0
    rw [HE.out]
    exact ⟨rfl, ⟨_, ⟨HO.out.2.2.later HB.out, HO.out.1.later HB.out⟩, rfl⟩, HB.out.mono (Nat.le_of_lt hbw.out), KeptBut.below HB.out⟩
set_option maxRecDepth 100000 in
set_option maxHeartbeats 2000000 in
theorem put_lo (L : Prs) (b lo : Nat) (hlo : b < lo) (k x : Int) (w : World) (h : RisL w b lo L) (hlw : lo ≤ w.heap.size) (hr : Rises L) (hn : L.length ≤ 900) :
    Calls Tryz.prog 139 #[.pointer (some ⟨b, 0, none⟩), .agg #[.int .i64 k, .int .i64 x]] w fun e w' => e = .returned (.tuple #[]) ∧ RisL w' b lo (putPr L k x) ∧ OffB b lo w w' := by
  obtain ⟨v, hb, ho⟩ := h
  have HO : Hid (Blk2 w b v (.func (.func 96) #[] #[]) ∧ Own w lo 148 2 L.length (rowL L) v ∧ Rises L) := ⟨hb, ho, hr⟩
  have hbw : b < w.heap.size := hb.lt
  obtain ⟨G, hG⟩ : ∃ G, gonePr L k = G := ⟨_, rfl⟩
  have hGn : G.length ≤ 900 := by rw [← hG]; exact Nat.le_trans (List.length_filter_le _ _) hn
  have HGR : Hid (Rises G ∧ putPr L k x = G.insertIdx (aheadN G k) (k, x)) := by
    unfold Hid
    rw [← hG]
    exact ⟨gonePr_rises hr k, put_is hr k x⟩
  have HG : Hid (gonePr L k = G) := hG
  clear hb ho hr hG
  go_enter Tryz.func139, Tryz.ntmps139
  go_wp2_with fail
  refine (drop_lo L b lo hlo v k x _ (HO.out.1.alloc _) (HO.out.2.1.alloc _) HO.out.2.2 (by omega)).mono ?_
  rintro e w1 ⟨rfl, h1, q1, hk1⟩
  rw [HG.out] at h1
  obtain ⟨v1, ⟨hb1, ho1⟩, hv1⟩ := h1
  obtain ⟨ao, cp, rfl⟩ := ho1.form
  have HX1 : Blk2 w1 w.heap.size (.int .i64 k) (.int .i64 x) := (Blk2.new w _ _ 148).kept (hk1.2 _ (by simp) (by omega) (fun e => by have := (own_in HO.out.2.1 _ e).2; omega))
  have R1 : Hid (Blk2 w1 b (.slice ao G.length cp) (.func (.func 96) #[] #[]) ∧ Own w1 lo 148 2 G.length (rowL G) (.slice ao G.length cp) ∧ Blk2 w1 w.heap.size (.int .i64 k) (.int .i64 x) ∧ Below b w w1) := ⟨hb1, ho1, HX1, ((below_alloc w _).mono (Nat.le_of_lt hbw)).trans q1⟩
  obtain ⟨⟨c0, c1⟩, _, _⟩ := HX1
  have HVB : Hid (∀ q, (Value.slice ao G.length cp).ownBlock = some q → lo ≤ q ∧ q < w.heap.size) := fun q hq => own_in HO.out.2.1 q (hv1 ▸ hq)
  have HK1 : Hid (KeptBut b (.slice ao G.length cp) w w1) := (KeptBut.below (below_alloc w _)).trans' ⟨hk1.1, fun i hi h1 h2 => hk1.2 i hi h1 (fun e => h2 (hv1.trans e))⟩
  clear hv1 hb1 ho1 q1 hk1 HO
  go_wp2_with fail
  refine (place_any G b lo _ k x _ R1.out.1 R1.out.2.1 HGR.out.1 (by omega)).mono ?_
  rintro e w2 ⟨r, rfl, _, q2⟩
  have R2 : Hid (Blk2 w2 b (.slice ao G.length cp) (.func (.func 96) #[] #[]) ∧ Own w2 lo 148 2 G.length (rowL G) (.slice ao G.length cp) ∧ Blk2 w2 w.heap.size (.int .i64 k) (.int .i64 x) ∧ Below b w w2) := ⟨R1.out.1.later q2, R1.out.2.1.later q2, R1.out.2.2.1.later q2, R1.out.2.2.2.trans (q2.mono (by have := R1.out.2.2.2.size; omega))⟩
  have HK2 : Hid (KeptBut b (.slice ao G.length cp) w w2) := HK1.out.trans' (KeptBut.below q2)
  have hlw2 : lo ≤ w2.heap.size := Nat.le_trans hlw HK2.out.1
  clear HK1
  have hle : aheadN G k ≤ G.length := aheadN_le G k
  obtain ⟨A, hA⟩ : ∃ A, aheadN G k = A := ⟨_, rfl⟩
  have HAA : Hid (putPr L k x = G.insertIdx A (k, x)) := by unfold Hid; rw [← hA]; exact HGR.out.2
  rw [hA] at hle
  rw [hA]
  clear hA q2 R1 c0 c1
  have hw2 : b < w2.heap.size := R2.out.1.lt
  have hc2 : w.heap.size < w2.heap.size := R2.out.2.2.1.lt
  have HI : Hid (Calls Tryz.prog 183 #[.slice ao G.length cp, .int .i64 A, .slice (some ⟨w2.heap.size, 0, none⟩) 1 1] (w2.drew.alloc (.cells #[.int .i64 k, .int .i64 x] 148)) (InsP (w2.drew.alloc (.cells #[.int .i64 k, .int .i64 x] 148)) lo G.length A (rowL G) [k, x] (.slice ao G.length cp))) :=
    insP_any _ lo G.length A w2.heap.size 1 (rowL G) [k, x] _ rfl (R2.out.2.1.later ((Below.drew (Below.refl _ _)).trans ((below_alloc _ _).mono (Nat.le_refl _)))) (by simp; omega) (by omega) hle (fun e => by have := (own_in R2.out.2.1 _ e).2; omega) (Blkk.made w2.drew _ _ _ rfl) (fun p hp => by
      rw [World.cell?_alloc_at (w := w2.drew) _ _ w2.heap.size p rfl]
      obtain rfl | rfl : p = 0 ∨ p = 1 := by omega
      all_goals rfl)
  have HYB : Hid (Below w2.heap.size w2 (w2.drew.alloc (.cells #[.int .i64 k, .int .i64 x] 148))) := (Below.drew (Below.refl _ _)).trans ((below_alloc _ _).mono (Nat.le_refl _))
  have HKK : Hid (KeptBut b (.slice ao G.length cp) w (w2.drew.alloc (.cells #[.int .i64 k, .int .i64 x] 148))) := HK2.out.trans' (KeptBut.below HYB.out)
  have SY : Hid (Blk2 (w2.drew.alloc (.cells #[.int .i64 k, .int .i64 x] 148)) b (.slice ao G.length cp) (.func (.func 96) #[] #[]) ∧ Blk2 (w2.drew.alloc (.cells #[.int .i64 k, .int .i64 x] 148)) w.heap.size (.int .i64 k) (.int .i64 x)) := ⟨R2.out.1.later HYB.out, R2.out.2.2.1.later HYB.out⟩
  have HOY : Hid (Own (w2.drew.alloc (.cells #[.int .i64 k, .int .i64 x] 148)) lo 148 2 G.length (rowL G) (.slice ao G.length cp) ∧ Below b w (w2.drew.alloc (.cells #[.int .i64 k, .int .i64 x] 148))) := ⟨R2.out.2.1.later HYB.out, R2.out.2.2.2.trans (HYB.out.mono (by omega))⟩
  obtain ⟨⟨p0, p1⟩, _, _⟩ := R2.out.1
  have hS0 : (fun X : World => Blk2 X w.heap.size (.int .i64 k) (.int .i64 x)) w2.drew := R2.out.2.2.1
  clear R2
  go_upto_region 3 with fail
  refine wp_region_held_drew (S := (fun X : World => Blk2 X w.heap.size (.int .i64 k) (.int .i64 x))) (by kernel_rfl) hS0 (fun hS => ?_)
  clear hS0
  refine tkH 0 ?_ hS (fun wx hx => ?_) ?_; rotate_left
  · obtain ⟨⟨hx2, hx3⟩, hx6, hx7⟩ := hx; go_simp; try with_reducible rfl
  refine tkH 1 ?_ hS (fun wx hx => ?_) ?_; rotate_left
  · obtain ⟨⟨hx2, hx3⟩, hx6, hx7⟩ := hx; go_simp; try with_reducible rfl
  refine tkH 2 ?_ hS (fun wx hx => ?_) ?_; rotate_left
  · obtain ⟨⟨hx2, hx3⟩, hx6, hx7⟩ := hx; go_simp; try with_reducible rfl
  refine tkH 3 ?_ hS (fun wx hx => ?_) ?_; rotate_left
  · obtain ⟨⟨hx2, hx3⟩, hx6, hx7⟩ := hx; go_simp; try with_reducible rfl
  refine tkH 5 ?_ hS (fun wx hx => ?_) ?_; rotate_left
  · obtain ⟨⟨hx2, hx3⟩, hx6, hx7⟩ := hx; go_simp; try with_reducible rfl
  refine tkH 6 ?_ hS (fun wx hx => ?_) ?_; rotate_left
  · obtain ⟨⟨hx2, hx3⟩, hx6, hx7⟩ := hx; go_simp; try with_reducible rfl
  refine wpAnyH_ready (rs := [4, 7]) (by kernel_rfl) (by simp) ?_
  refine AllReadyH.cons rfl (fun K hK => ?_) (AllReadyH.cons rfl (fun K hK => ?_) AllReadyH.nil)
  focus
    go_simp
    refine hK.out _ _ hS (fun hS => ?_)
    clear hK K p0 p1
    refine rdH 7 (fun K hK => ?_)
    go_simp
    refine hK.out _ _ SY.out.2 (fun hS => ?_)
    clear hK K
  rotate_left
  focus
    go_simp
    refine hK.out _ _ SY.out.2 (fun hS => ?_)
    clear hK K
    refine rdH 4 (fun K hK => ?_)
    go_simp
    refine hK.out _ _ hS (fun hS => ?_)
    clear hK K p0 p1
  rotate_left
  all_goals
    refine rdH 8 (fun K hK => ?_)
    go_simp
    go_wp2_with fail
    refine HI.out.mono ?_
    rintro e w3 ⟨a3, c3, rfl, ho3, hg3, _⟩
    have HB3 : Hid (Blk2 w3 b (.slice ao G.length cp) (.func (.func 96) #[] #[])) := own_grown SY.out.1 HOY.out.1 (by omega) hg3
    have hS3 : Blk2 w3 w.heap.size (.int .i64 k) (.int .i64 x) := SY.out.2.kept (hg3.block _ (by simp; omega) (fun e => by have := HVB.out _ e.symm; omega))
    have HO3 : Hid (Own w3 lo 148 2 (putPr L k x).length (rowL (putPr L k x)) (.slice a3 (G.length + 1) c3)) := by
      unfold Hid
      rw [HAA.out, List.length_insertIdx_of_le_length hle]
      exact own_eqP ho3 (fun p hp => rowL_insert hle hp)
    have HD3 : Hid (Below b w w3) := HOY.out.2.trans (grown_belowP HOY.out.1 (by omega) (by simp; omega) hg3)
    have HQ3 : Hid (OffB b lo w w3) := OffB.of HD3.out (HKK.out.trans' (KeptBut.grown hg3)) (fun q hq => (HVB.out q hq).1)
    clear ho3 hg3
    go_wp2_with fail
    refine hK.out _ _ hS3 (fun hS => ?_)
    clear hK K hS3
    refine tkH 9 ?_ hS (fun wx hx => ?_) ?_; rotate_left
    · obtain ⟨⟨hx2, hx3⟩, hx6, hx7⟩ := hx; go_simp; try with_reducible rfl
    refine tkH 10 ?_ hS (fun wx hx => ?_) ?_; rotate_left
    · obtain ⟨⟨hx2, hx3⟩, hx6, hx7⟩ := hx; go_simp; try with_reducible rfl
    refine rdH 11 (fun K hK => ?_)
    obtain ⟨⟨x0, x1⟩, x2, x3⟩ := HB3.out
    go_simp
    refine hK.out _ _ (hS.kept (Below.heap_setCell _ ⟨b, 0, none⟩ _ _ (by simp; omega))) (fun hS => ?_)
    clear hK K x0 x1 x2 x3
    refine wpAnyH_done (by kernel_rfl) ?_ _
    go_simp
    go_end0
    exact ⟨rfl, ⟨_, stored_lo hlo HB3.out HO3.out⟩, HQ3.out.set⟩
set_option maxRecDepth 100000 in
set_option maxHeartbeats 2000000 in
theorem applyTo_lo (L : Prs) (F : Nat → Int) (n b lo : Nat) (hlo : b < lo) (y : Value) (B : Nat) (w0 w : World) (hi : Row w0 B 3 n F y) (h0 : Below w0.heap.size w0 w) (hb : w0.heap.size ≤ b) (h : RisL w b lo L) (hlw : lo ≤ w.heap.size) (hr : Rises L) (hL : L.length ≤ 800) (hn : n ≤ 12) :
    Calls Tryz.prog 97 #[.pointer (some ⟨b, 0, none⟩), y] w fun e w' => e = .returned (.tuple #[]) ∧ RisL w' b lo (applyN L F n) ∧ OffB b lo w w' := by
  obtain ⟨ao, cp, rfl⟩ := hi.form
  have H : Hid (Row w0 B 3 n F (.slice ao n cp) ∧ Rises L) := ⟨hi, hr⟩
  have HB : Hid (RisL w b lo L ∧ OffB b lo w w) := ⟨h, OffB.refl b lo w⟩
  have HW0 : Hid (Below w0.heap.size w0 w) := h0
  clear hi hr h h0
  go_enter Tryz.func97, Tryz.ntmps97
  go_wp2
  go_loopw [8] (fun i wr => ∃ k : Nat, k ≤ n ∧ i = .int .i64 k ∧ Hid (RisL wr b lo (applyN L F k) ∧ OffB b lo w wr)) (fun i _ => n - (intOf i).toNat)
  case atStart => exact ⟨0, Nat.zero_le _, rfl, HB.out⟩
  case round =>
    obtain ⟨k, hk, rfl, HS⟩ := hrel
    by_cases hlt : k < n
    case neg =>
      obtain rfl : k = n := by omega
      go_wp2
      go_end0
      exact ⟨rfl, HS.out.1, HS.out.2⟩
    obtain ⟨g, o, hao, _, hg, y0, y1, y2⟩ := (H.out.1.later (HW0.out.trans (HS.out.2.1.mono hb))).at3 hlt
    subst hao
    obtain ⟨n0, N0⟩ : ∃ x, F (k * 3) = x := ⟨_, rfl⟩
    rw [N0] at y0
    obtain ⟨n1, N1⟩ : ∃ x, F (k * 3 + 1) = x := ⟨_, rfl⟩
    rw [N1] at y1
    obtain ⟨n2, N2⟩ : ∃ x, F (k * 3 + 2) = x := ⟨_, rfl⟩
    rw [N2] at y2
    have HP : Hid (applyN L F (k + 1) = stepA (applyN L F k) n0 n1 n2) := by
      unfold Hid
      rw [← N0, ← N1, ← N2]
      rfl
    clear N0 N1 N2
    have hln : (applyN L F k).length ≤ 812 := Nat.le_trans (applyN_len L F k) (by omega)
    have HR : Hid (Rises (applyN L F k)) := applyN_rises H.out.2 F k
    have hz : Hid (b < wr.heap.size) := HS.out.1.lt
    by_cases k1 : n1 = 1
    · subst k1
      have HE : Hid (applyN L F (k + 1) = putPr (applyN L F k) n0 n2) := by unfold Hid; rw [HP.out, stepA, if_pos rfl]
      clear HP
      go_wp2_with fail
      refine (put_lo (applyN L F k) b lo hlo n0 n2 _ (HS.out.1.later ?_) (Nat.le_trans hlw (HS.out.2.later hlo hlw (below_alloc _ _)).1.size) HR.out (by omega)).mono ?_
      · exact below_alloc _ _
      rintro e w1 ⟨rfl, h1, q1⟩
      rw [← HE.out] at h1
      have H1 : Hid (RisL w1 b lo (applyN L F (k + 1)) ∧ OffB b lo w w1) := ⟨h1, (HS.out.2.later hlo hlw (below_alloc _ _)).trans q1⟩
      clear h1 q1 HS y0 y1 y2
      go_wp2
      go_roundw
      case rel => exact ⟨k + 1, by omega, by go_num, H1⟩
      case measure => simp [intOf]; omega
    have d1 : (n1 == 1) = false := beq_eq_false_iff_ne.2 k1
    by_cases k2 : n1 = 2
    · have HE : Hid (applyN L F (k + 1) = gonePr (applyN L F k) n0) := by unfold Hid; rw [HP.out, stepA, if_neg k1, if_pos k2]
      subst k2
      clear HP k1 d1
      go_wp2_with fail
      obtain ⟨v, hb1, ho1⟩ := HS.out.1
      have HVB : Hid (∀ q, v.ownBlock = some q → lo ≤ q) := fun q hq => (own_in ho1 q hq).1
      refine (drop_lo (applyN L F k) b lo hlo v n0 0 _ (hb1.alloc _) (ho1.alloc _) HR.out (by omega)).mono ?_
      rintro e w1 ⟨rfl, ⟨v1, h1, _⟩, q1, q1'⟩
      rw [← HE.out] at h1
      have H1 : Hid (RisL w1 b lo (applyN L F (k + 1)) ∧ OffB b lo w w1) := ⟨⟨v1, h1⟩, (HS.out.2.later hlo hlw (below_alloc _ _)).trans (OffB.of q1 q1' HVB.out (Nat.le_trans hlw (HS.out.2.later hlo hlw (below_alloc _ _)).1.size))⟩
      clear h1 q1 q1' HVB HS y0 y1 y2 hb1 ho1
      go_wp2
      go_roundw
      case rel => exact ⟨k + 1, by omega, by go_num, H1⟩
      case measure => simp [intOf]; omega
    have d2 : (n1 == 2) = false := beq_eq_false_iff_ne.2 k2
    have HE : Hid (applyN L F (k + 1) = applyN L F k) := by unfold Hid; rw [HP.out, stepA, if_neg k1, if_neg k2]
    clear k1 k2 HP
    have H1 : Hid (∀ o : Obj, RisL (wr.alloc o) b lo (applyN L F (k + 1)) ∧ OffB b lo w (wr.alloc o)) := fun o => by
      rw [HE.out]
      exact ⟨HS.out.1.later (below_alloc _ _), HS.out.2.later hlo hlw (below_alloc _ _)⟩
    go_wp2
    go_roundw
    case rel => exact ⟨k + 1, by omega, by go_num, H1.out _⟩
    case measure => simp [intOf]; omega
set_option maxRecDepth 100000 in
set_option maxHeartbeats 1000000 in
theorem filledP_nil (w : World) : Calls Tryz.prog 95 #[(.func (.func 96) #[] #[]), .slice none 0 0] w fun e w' => e = .returned (.pointer (some ⟨w.heap.size, 0, none⟩)) ∧ Blk2 w' w.heap.size (.slice none 0 0) (.func (.func 96) #[] #[]) ∧ Below w.heap.size w w' := by
  have HR : Hid (Blk2 (w.alloc (.cells #[.slice none 0 0, (.func (.func 96) #[] #[])] 99)) w.heap.size (.slice none 0 0) (.func (.func 96) #[] #[])) := Blk2.new w _ _ _
  go_enter Tryz.func95, Tryz.ntmps95
  go_wp2
  go_loopw [13] (fun i wr => i = .int .i64 0 ∧ wr = w.alloc (.cells #[.slice none 0 0, (.func (.func 96) #[] #[])] 99)) (fun _ _ => 0)
  case atStart => exact ⟨rfl, rfl⟩
  case round =>
    obtain ⟨rfl, rfl⟩ := hrel
    go_wp2
    go_ret
    exact ⟨rfl, HR.out, below_alloc _ _⟩
end Go.Proofs.YtglcedhkbbckiaaGreat

namespace Go.Proofs.YtglcedhkbbckiaaGreat
open Go.RowKit

/-- The numbers of a list of pairs, as a list. -/
def flatL : Prs → List Int
  | [] => []
  | e :: t => e.1 :: e.2 :: flatL t
theorem flatL_length : ∀ L, (flatL L).length = L.length * 2
  | [] => rfl
  | e :: t => by simp only [flatL, List.length_cons, flatL_length t]; omega
theorem flatL_append : ∀ (L M : Prs), flatL (L ++ M) = flatL L ++ flatL M
  | [], _ => rfl
  | e :: t, M => by simp only [List.cons_append, flatL, flatL_append t M]
theorem flatL_get : ∀ (L : Prs) (p : Nat), (flatL L).getD p 0 = rowL L p
  | [], p => by simp [flatL, rowL]
  | e :: t, 0 => rfl
  | e :: t, 1 => rfl
  | e :: t, p + 2 => by
    simp only [flatL, List.getD_cons_succ]
    rw [flatL_get t p, rowL, rowL, show (p + 2) % 2 = p % 2 by omega, show (p + 2) / 2 = p / 2 + 1 by omega, List.getD_cons_succ]
theorem ownM_own {w : World} {B : Nat} {v : Value} {L : Prs} (h : OwnM w B 148 2 v L.length (flatL L)) : Own w B 148 2 L.length (rowL L) v := own_eqP (h.own (flatL_length L)) fun p _ => flatL_get L p
theorem row_lit2 (w : World) (x0 x1 : Int) (t : TypeId) : Row (w.alloc (.cells #[.int .i64 x0, .int .i64 x1] t)) 0 2 1 (fun p => [x0, x1].getD p 0) (.slice (some ⟨w.heap.size, 0, none⟩) 1 1) := by
  refine ⟨_, _, rfl, fun _ => ⟨w.heap.size, 0, rfl, Nat.zero_le _, by simp, fun p hp => ?_⟩⟩
  rw [Nat.zero_add, World.cell?_alloc_mark]
  match p, hp with
  | 0, _ => rfl
  | 1, _ => rfl
/-- One round of the model's set. -/
def stepS (k x : Int) (q : Prs × Bool) (e : Int × Int) : Prs × Bool :=
  ((if q.2 = false ∧ k ≤ e.1 then q.1 ++ [(k, x)] else q.1) ++ (if e.1 = k then [] else [e]), if k ≤ e.1 then true else q.2)
def accS (L : Prs) (k x : Int) (has : Bool) : Nat → Prs × Bool
  | 0 => ([], !has)
  | i + 1 => stepS k x (accS L k x has i) (L.getD i (0, 0))
/-- What the model's set comes to. -/
def setS (L : Prs) (k x : Int) (has : Bool) : Prs := if (accS L k x has L.length).2 then (accS L k x has L.length).1 else (accS L k x has L.length).1 ++ [(k, x)]
theorem accS_foldl (L : Prs) (k x : Int) (has : Bool) : ∀ i, i ≤ L.length → accS L k x has i = (L.take i).foldl (stepS k x) ([], !has)
  | 0, _ => by simp [accS]
  | i + 1, h => by
    have hg : L.getD i (0, 0) = L[i] := by simp [List.getD, show i < L.length by omega]
    rw [accS, accS_foldl L k x has i (by omega), List.take_succ_eq_append_getElem (by omega), List.foldl_append, hg]
    rfl
theorem fold_done (k x : Int) : ∀ (L o : Prs), L.foldl (stepS k x) (o, true) = (o ++ gonePr L k, true)
  | [], o => by simp [gonePr]
  | e :: t, o => by
    rw [List.foldl_cons]
    have h1 : stepS k x (o, true) e = (o ++ (if e.1 = k then [] else [e]), true) := by simp [stepS]
    rw [h1, fold_done k x t, List.append_assoc]
    congr 2
    unfold gonePr
    by_cases he : e.1 = k
    · rw [if_pos he, List.filter_cons_of_neg (by simp [he])]; rfl
    · rw [if_neg he, List.filter_cons_of_pos (by simp [he])]; rfl
theorem fold_put (k x : Int) : ∀ (L o : Prs), (if (L.foldl (stepS k x) (o, false)).2 then (L.foldl (stepS k x) (o, false)).1 else (L.foldl (stepS k x) (o, false)).1 ++ [(k, x)]) = o ++ putPr L k x
  | [], o => by simp [putPr]
  | e :: t, o => by
    rw [List.foldl_cons]
    by_cases he : k ≤ e.1
    · have h1 : stepS k x (o, false) e = ((o ++ [(k, x)]) ++ (if e.1 = k then [] else [e]), true) := by simp [stepS, he]
      rw [h1, fold_done]
      simp only [if_true]
      rw [putPr, if_pos he]
      have h2 : gonePr (e :: t) k = (if e.1 = k then [] else [e]) ++ gonePr t k := by
        unfold gonePr
        by_cases hk : e.1 = k
        · rw [if_pos hk, List.filter_cons_of_neg (by simp [hk])]; rfl
        · rw [if_neg hk, List.filter_cons_of_pos (by simp [hk])]; rfl
      rw [h2]
      simp
    · have h1 : stepS k x (o, false) e = (o ++ [e], false) := by simp [stepS, he, show ¬ e.1 = k by omega]
      rw [h1, fold_put k x t (o ++ [e]), putPr, if_neg he]
      simp
theorem setS_put (L : Prs) (k x : Int) : setS L k x true = putPr L k x := by
  unfold setS
  rw [accS_foldl L k x true _ (Nat.le_refl _), List.take_length]
  exact fold_put k x L []
theorem setS_gone (L : Prs) (k x : Int) : setS L k x false = gonePr L k := by
  unfold setS
  rw [accS_foldl L k x false _ (Nat.le_refl _), List.take_length]
  show (if (L.foldl (stepS k x) ([], true)).2 = true then (L.foldl (stepS k x) ([], true)).1 else _) = _
  rw [fold_done]
  rfl
theorem accS_len (L : Prs) (k x : Int) (has : Bool) : ∀ i, (accS L k x has i).1.length ≤ i * 2
  | 0 => by simp [accS]
  | i + 1 => by
    have h := accS_len L k x has i
    rw [accS, stepS]
    simp only [List.length_append]
    have h1 : (if (accS L k x has i).2 = false ∧ k ≤ (L.getD i (0, 0)).1 then (accS L k x has i).1 ++ [(k, x)] else (accS L k x has i).1).length ≤ (accS L k x has i).1.length + 1 := by split <;> simp
    have h2 : (if (L.getD i (0, 0)).1 = k then [] else [L.getD i (0, 0)]).length ≤ 1 := by split <;> simp
    omega
/-- What stands while the model sets. -/
def SetE (w : World) (k x : Int) (v : Value) (o : Prs) (X : World) : Prop := OwnM X (w.heap.size + 1) 148 2 v o.length (flatL o) ∧ Blk2 X w.heap.size (.int .i64 k) (.int .i64 x) ∧ Below w.heap.size w X
theorem SetE.push {w X w2 : World} {k x a b : Int} {ao ao1 : Option Addr} {cp cp1 : Nat} {o : Prs} (h : SetE w k x (.slice ao o.length cp) o X) (O2 : OwnM w2 (w.heap.size + 1) 148 2 (.slice ao1 (o.length + 1) cp1) (o.length + 1) (flatL o ++ nums (fun p => [a, b].getD p 0) (1 * 2))) (G2 : (X.alloc (.cells #[.int .i64 a, .int .i64 b] 148)).grownBy w2 (Value.slice ao o.length cp).ownBlock) : SetE w k x (.slice ao1 (o ++ [(a, b)]).length cp1) (o ++ [(a, b)]) w2 := by
  refine ⟨?_, (h.2.1.alloc _).kept (G2.block _ (by have := h.2.1.lt; simp; omega) (fun e => by have := (h.1.block _ e.symm).1; omega)), (h.2.2.alloc h.2.2.size _).grown G2 (by have := h.2.2.size; simp; omega) (fun r e => by have := (h.1.block r e).1; omega)⟩
  rw [List.length_append, flatL_append]
  exact O2
set_option maxRecDepth 100000 in
set_option maxHeartbeats 4000000 in
theorem l11Set_any (L : Prs) (v : Value) (B : Nat) (k x : Int) (has : Bool) (w : World) (h : Row w B 2 L.length (rowL L) v) (hn : L.length ≤ 1000) :
    Calls Tryz.prog 126 #[v, .agg #[.int .i64 k, .int .i64 x], .bool has] w fun e w' => ∃ ao cp, e = .returned (.slice ao (setS L k x has).length cp) ∧ Own w' w.heap.size 148 2 (setS L k x has).length (rowL (setS L k x has)) (.slice ao (setS L k x has).length cp) ∧ Below w.heap.size w w' := by
  obtain ⟨ao0, cp0, rfl⟩ := h.form
  have H : Hid (Row w B 2 L.length (rowL L) (.slice ao0 L.length cp0)) := h
  clear h
  obtain ⟨i0, hi, iz0, iz1, iz2⟩ := info_parts infoz_Pair
  obtain ⟨R, hR⟩ : ∃ R, setS L k x has = R := ⟨_, rfl⟩
  have HR : Hid (setS L k x has = R) := hR
  rw [hR]
  clear hR
  go_enter Tryz.func126, Tryz.ntmps126
  go_wp2
  go_loopw [7, 8, 9] (fun out d i wr => ∃ (j : Nat) (ao : Option Addr) (cp : Nat) (o : Prs) (dn : Bool), j ≤ L.length ∧ i = .int .i64 j ∧ d = .bool dn ∧ out = .slice ao o.length cp ∧ Hid (accS L k x has j = (o, dn)) ∧ Hid (SetE w k x (.slice ao o.length cp) o wr)) (fun _ _ i _ => L.length - (intOf i).toNat)
  case atStart =>
    refine ⟨0, _, _, [], !has, Nat.zero_le _, rfl, rfl, rfl, rfl, OwnM.lit0 _ _ _ _ (by simp), (Blk2.new w _ _ _).alloc _, (below_alloc _ _).alloc (by simp) _⟩
  case round =>
    obtain ⟨j, ao, cp, o, dn, hj, rfl, rfl, rfl, HA, HS⟩ := hrel
    have hol : o.length ≤ 2000 := by
      have := accS_len L k x has j
      rw [HA.out] at this
      simp only at this
      omega
    have hz : w.heap.size < wr.heap.size := HS.out.2.1.lt
    obtain ⟨⟨c0, c1⟩, _, _⟩ := HS.out.2.1
    by_cases hlt : j < L.length
    case neg =>
      obtain rfl : j = L.length := by omega
      cases dn with
      | true =>
        have HE : Hid (R = o) := by
          have := HR.out
          unfold setS at this
          rw [HA.out] at this
          exact (by simpa using this.symm : R = o)
        clear HA HR
        go_wp2
        refine bodyPost_ret (v := .slice ao o.length cp) (by simp [results, Tryz.results126, go_sem]) rfl ?_
        rw [HE.out]
        exact ⟨ao, cp, rfl, (ownM_own HS.out.1).mono (by omega), HS.out.2.2⟩
      | false =>
        have HE : Hid (R = o ++ [(k, x)]) := by
          have := HR.out
          unfold setS at this
          rw [HA.out] at this
          exact (by simpa using this.symm : R = o ++ [(k, x)])
        clear HA HR
        go_wp2_with (at_builtin; refine wpList_app 148 i0 (.agg #[.int .i64 0, .int .i64 0]) 2 16 rfl _ _ 55 rfl Tryz.underlying55 hi iz0 iz1 iz2 rfl (by omega) (by omega) _ (w.heap.size + 1) o.length (flatL o) (.slice ao o.length cp) rfl (HS.out.1.later (below_alloc _ _)) 0 1 (fun p => [k, x].getD p 0) (.slice (some ⟨wr.heap.size, 0, none⟩) 1 1) rfl (row_lit2 wr k x 148) (by omega) (by simp; omega) ?_; intro ao1 cp1 w1 O2 G2)
        have HS1 : Hid (SetE w k x (.slice ao1 (o ++ [(k, x)]).length cp1) (o ++ [(k, x)]) w1) := HS.out.push O2 G2
        have hz1 : w.heap.size < w1.heap.size := HS1.out.2.1.lt
        clear O2 G2
        go_wp2
        refine bodyPost_ret (v := .slice ao1 (o ++ [(k, x)]).length cp1) (by simp [results, Tryz.results126, go_sem]) rfl ?_
        rw [HE.out]
        exact ⟨ao1, cp1, rfl, (ownM_own HS1.out.1).mono (by omega), HS1.out.2.2⟩
    obtain ⟨g, oo, hao, _, hg, yw0, yw1⟩ := H.out.at2 hlt
    subst hao
    obtain ⟨n0, N0⟩ : ∃ x, rowL L (j * 2) = x := ⟨_, rfl⟩
    rw [N0] at yw0
    obtain ⟨n1, N1⟩ : ∃ x, rowL L (j * 2 + 1) = x := ⟨_, rfl⟩
    rw [N1] at yw1
    have HN : Hid (accS L k x has (j + 1) = stepS k x (o, dn) (n0, n1)) := by
      unfold Hid
      rw [accS, HA.out, ← N0, ← N1, rowL_key, rowL_val]
    clear N0 N1 HA HR c0 c1
    have yr0 := (HS.out.2.2.cell (p := ⟨g, oo + j * 2, none⟩) hg).trans yw0
    have yr1 := (HS.out.2.2.cell (p := ⟨g, oo + j * 2 + 1, none⟩) hg).trans yw1
    obtain ⟨⟨cr0, cr1⟩, _, _⟩ := HS.out.2.1
    cases dn with
    | true =>
      by_cases he : n0 = k
      · have HE : Hid (accS L k x has (j + 1) = (o, true)) := by unfold Hid; rw [HN.out]; simp [stepS, he]
        subst he
        clear HN
        go_wp2_with fail
        go_quiet (fail)
        have HSa : Hid (SetE w n0 x (.slice ao (o).length cp) (o) (wr.drewN nq)) := ⟨HS.out.1, HS.out.2.1, below_dn HS.out.2.2 _⟩
        generalize wr.drewN nq = Xa at HSa ⊢
        have hza : w.heap.size < Xa.heap.size := HSa.out.2.1.lt
        have ya0 := (HSa.out.2.2.cell (p := ⟨g, oo + j * 2, none⟩) hg).trans yw0
        have ya1 := (HSa.out.2.2.cell (p := ⟨g, oo + j * 2 + 1, none⟩) hg).trans yw1
        obtain ⟨⟨ca0, ca1⟩, _, _⟩ := HSa.out.2.1
        clear yr0 yr1 cr0 cr1
        go_wp2_with fail
        go_quiet (fail)
        have HSb : Hid (SetE w n0 x (.slice ao (o).length cp) (o) (Xa.drewN nq)) := ⟨HSa.out.1, HSa.out.2.1, below_dn HSa.out.2.2 _⟩
        generalize Xa.drewN nq = Xb at HSb ⊢
        have hzb : w.heap.size < Xb.heap.size := HSb.out.2.1.lt
        have yb0 := (HSb.out.2.2.cell (p := ⟨g, oo + j * 2, none⟩) hg).trans yw0
        have yb1 := (HSb.out.2.2.cell (p := ⟨g, oo + j * 2 + 1, none⟩) hg).trans yw1
        obtain ⟨⟨cb0, cb1⟩, _, _⟩ := HSb.out.2.1
        go_wp2
        go_roundw
        case rel => exact ⟨j + 1, ao, cp, o, true, by omega, by go_num, rfl, by first | rfl | simp, HE, HSb⟩
        case measure => simp [intOf]; omega
      · have HE : Hid (accS L k x has (j + 1) = (o ++ [(n0, n1)], true)) := by unfold Hid; rw [HN.out]; simp [stepS, he]
        have d : (n0 != k) = true := bne_iff_ne.2 he
        clear HN he
        go_wp2_with fail
        go_quiet (fail)
        have HSa : Hid (SetE w k x (.slice ao (o).length cp) (o) (wr.drewN nq)) := ⟨HS.out.1, HS.out.2.1, below_dn HS.out.2.2 _⟩
        generalize wr.drewN nq = Xa at HSa ⊢
        have hza : w.heap.size < Xa.heap.size := HSa.out.2.1.lt
        have ya0 := (HSa.out.2.2.cell (p := ⟨g, oo + j * 2, none⟩) hg).trans yw0
        have ya1 := (HSa.out.2.2.cell (p := ⟨g, oo + j * 2 + 1, none⟩) hg).trans yw1
        obtain ⟨⟨ca0, ca1⟩, _, _⟩ := HSa.out.2.1
        clear yr0 yr1 cr0 cr1
        go_wp2_with fail
        go_quiet (fail)
        have HSb : Hid (SetE w k x (.slice ao (o).length cp) (o) (Xa.drewN nq)) := ⟨HSa.out.1, HSa.out.2.1, below_dn HSa.out.2.2 _⟩
        generalize Xa.drewN nq = Xb at HSb ⊢
        have hzb : w.heap.size < Xb.heap.size := HSb.out.2.1.lt
        have yb0 := (HSb.out.2.2.cell (p := ⟨g, oo + j * 2, none⟩) hg).trans yw0
        have yb1 := (HSb.out.2.2.cell (p := ⟨g, oo + j * 2 + 1, none⟩) hg).trans yw1
        obtain ⟨⟨cb0, cb1⟩, _, _⟩ := HSb.out.2.1
        clear ya0 ya1 ca0 ca1
        go_wp2_with (at_builtin; refine wpList_app 148 i0 (.agg #[.int .i64 0, .int .i64 0]) 2 16 rfl _ _ 55 rfl Tryz.underlying55 hi iz0 iz1 iz2 rfl (by omega) (by omega) _ (w.heap.size + 1) (o).length (flatL (o)) (.slice ao (o).length cp) rfl (HSb.out.1.later (below_alloc _ _)) 0 1 (fun p => [n0, n1].getD p 0) (.slice (some ⟨Xb.heap.size, 0, none⟩) 1 1) rfl (row_lit2 Xb n0 n1 148) (by simp <;> omega) (by simp; omega) ?_; intro ao1 cp1 w1 O2 G2)
        have HS1 : Hid (SetE w k x (.slice ao1 ((o) ++ [(n0, n1)]).length cp1) ((o) ++ [(n0, n1)]) w1) := HSb.out.push O2 G2
        have hz1 : w.heap.size < w1.heap.size := HS1.out.2.1.lt
        clear O2 G2
        go_wp2
        go_roundw
        case rel => exact ⟨j + 1, ao1, cp1, o ++ [(n0, n1)], true, by omega, by go_num, rfl, by first | rfl | simp, HE, HS1⟩
        case measure => simp [intOf]; omega
    | false =>
      by_cases hle : k ≤ n0
      · have dg : decide (n0 ≥ k) = true := decide_eq_true hle
        by_cases he : n0 = k
        · have HE : Hid (accS L k x has (j + 1) = (o ++ [(k, x)], true)) := by unfold Hid; rw [HN.out]; simp [stepS, he]
          subst he
          clear HN hle
          go_wp2_with fail
          go_quiet (fail)
          have HSa : Hid (SetE w n0 x (.slice ao (o).length cp) (o) (wr.drewN nq)) := ⟨HS.out.1, HS.out.2.1, below_dn HS.out.2.2 _⟩
          generalize wr.drewN nq = Xa at HSa ⊢
          have hza : w.heap.size < Xa.heap.size := HSa.out.2.1.lt
          have ya0 := (HSa.out.2.2.cell (p := ⟨g, oo + j * 2, none⟩) hg).trans yw0
          have ya1 := (HSa.out.2.2.cell (p := ⟨g, oo + j * 2 + 1, none⟩) hg).trans yw1
          obtain ⟨⟨ca0, ca1⟩, _, _⟩ := HSa.out.2.1
          clear yr0 yr1 cr0 cr1
          go_wp2_with (at_builtin; refine wpList_app 148 i0 (.agg #[.int .i64 0, .int .i64 0]) 2 16 rfl _ _ 55 rfl Tryz.underlying55 hi iz0 iz1 iz2 rfl (by omega) (by omega) _ (w.heap.size + 1) (o).length (flatL (o)) (.slice ao (o).length cp) rfl (HSa.out.1.later (below_alloc _ _)) 0 1 (fun p => [n0, x].getD p 0) (.slice (some ⟨Xa.heap.size, 0, none⟩) 1 1) rfl (row_lit2 Xa n0 x 148) (by simp <;> omega) (by simp; omega) ?_; intro ao1 cp1 w1 O2 G2)
          have HS1 : Hid (SetE w n0 x (.slice ao1 ((o) ++ [(n0, x)]).length cp1) ((o) ++ [(n0, x)]) w1) := HSa.out.push O2 G2
          have hz1 : w.heap.size < w1.heap.size := HS1.out.2.1.lt
          clear O2 G2
          clear ya0 ya1 ca0 ca1
          have ys0 := (HS1.out.2.2.cell (p := ⟨g, oo + j * 2, none⟩) hg).trans yw0
          have ys1 := (HS1.out.2.2.cell (p := ⟨g, oo + j * 2 + 1, none⟩) hg).trans yw1
          obtain ⟨⟨cs0, cs1⟩, _, _⟩ := HS1.out.2.1
          go_wp2_with fail
          go_quiet (fail)
          have HSb : Hid (SetE w n0 x (.slice ao1 (o ++ [(n0, x)]).length cp1) (o ++ [(n0, x)]) (w1.drewN nq)) := ⟨HS1.out.1, HS1.out.2.1, below_dn HS1.out.2.2 _⟩
          generalize w1.drewN nq = Xb at HSb ⊢
          have hzb : w.heap.size < Xb.heap.size := HSb.out.2.1.lt
          have yb0 := (HSb.out.2.2.cell (p := ⟨g, oo + j * 2, none⟩) hg).trans yw0
          have yb1 := (HSb.out.2.2.cell (p := ⟨g, oo + j * 2 + 1, none⟩) hg).trans yw1
          obtain ⟨⟨cb0, cb1⟩, _, _⟩ := HSb.out.2.1
          go_wp2
          go_roundw
          case rel => exact ⟨j + 1, ao1, cp1, o ++ [(n0, x)], true, by omega, by go_num, rfl, by first | rfl | simp, HE, HSb⟩
          case measure => simp [intOf]; omega
        · have HE : Hid (accS L k x has (j + 1) = ((o ++ [(k, x)]) ++ [(n0, n1)], true)) := by unfold Hid; rw [HN.out]; simp [stepS, he, hle]
          have d : (n0 != k) = true := bne_iff_ne.2 he
          clear HN hle he
          go_wp2_with fail
          go_quiet (fail)
          have HSa : Hid (SetE w k x (.slice ao (o).length cp) (o) (wr.drewN nq)) := ⟨HS.out.1, HS.out.2.1, below_dn HS.out.2.2 _⟩
          generalize wr.drewN nq = Xa at HSa ⊢
          have hza : w.heap.size < Xa.heap.size := HSa.out.2.1.lt
          have ya0 := (HSa.out.2.2.cell (p := ⟨g, oo + j * 2, none⟩) hg).trans yw0
          have ya1 := (HSa.out.2.2.cell (p := ⟨g, oo + j * 2 + 1, none⟩) hg).trans yw1
          obtain ⟨⟨ca0, ca1⟩, _, _⟩ := HSa.out.2.1
          clear yr0 yr1 cr0 cr1
          go_wp2_with (at_builtin; refine wpList_app 148 i0 (.agg #[.int .i64 0, .int .i64 0]) 2 16 rfl _ _ 55 rfl Tryz.underlying55 hi iz0 iz1 iz2 rfl (by omega) (by omega) _ (w.heap.size + 1) (o).length (flatL (o)) (.slice ao (o).length cp) rfl (HSa.out.1.later (below_alloc _ _)) 0 1 (fun p => [k, x].getD p 0) (.slice (some ⟨Xa.heap.size, 0, none⟩) 1 1) rfl (row_lit2 Xa k x 148) (by simp <;> omega) (by simp; omega) ?_; intro ao1 cp1 w1 O2 G2)
          have HS1 : Hid (SetE w k x (.slice ao1 ((o) ++ [(k, x)]).length cp1) ((o) ++ [(k, x)]) w1) := HSa.out.push O2 G2
          have hz1 : w.heap.size < w1.heap.size := HS1.out.2.1.lt
          clear O2 G2
          clear ya0 ya1 ca0 ca1
          have ys0 := (HS1.out.2.2.cell (p := ⟨g, oo + j * 2, none⟩) hg).trans yw0
          have ys1 := (HS1.out.2.2.cell (p := ⟨g, oo + j * 2 + 1, none⟩) hg).trans yw1
          obtain ⟨⟨cs0, cs1⟩, _, _⟩ := HS1.out.2.1
          go_wp2_with fail
          go_quiet (fail)
          have HSb : Hid (SetE w k x (.slice ao1 (o ++ [(k, x)]).length cp1) (o ++ [(k, x)]) (w1.drewN nq)) := ⟨HS1.out.1, HS1.out.2.1, below_dn HS1.out.2.2 _⟩
          generalize w1.drewN nq = Xb at HSb ⊢
          have hzb : w.heap.size < Xb.heap.size := HSb.out.2.1.lt
          have yb0 := (HSb.out.2.2.cell (p := ⟨g, oo + j * 2, none⟩) hg).trans yw0
          have yb1 := (HSb.out.2.2.cell (p := ⟨g, oo + j * 2 + 1, none⟩) hg).trans yw1
          obtain ⟨⟨cb0, cb1⟩, _, _⟩ := HSb.out.2.1
          clear ys0 ys1 cs0 cs1
          have e1 : (o ++ [(k, x)]).length = o.length + 1 := by simp
          go_wp2_with (at_builtin; refine wpList_app 148 i0 (.agg #[.int .i64 0, .int .i64 0]) 2 16 rfl _ _ 55 rfl Tryz.underlying55 hi iz0 iz1 iz2 rfl (by omega) (by omega) _ (w.heap.size + 1) (o.length + 1) (flatL (o ++ [(k, x)])) (.slice ao1 (o.length + 1) cp1) rfl (by have q := HSb.out.1.later (below_alloc _ (.cells #[.int .i64 n0, .int .i64 n1] 148)); rw [e1] at q; exact q) 0 1 (fun p => [n0, n1].getD p 0) (.slice (some ⟨Xb.heap.size, 0, none⟩) 1 1) rfl (row_lit2 Xb n0 n1 148) (by simp <;> omega) (by simp; omega) ?_; intro ao2 cp2 w2 O2 G2)
          have HS2 : Hid (SetE w k x (.slice ao2 ((o ++ [(k, x)]) ++ [(n0, n1)]).length cp2) ((o ++ [(k, x)]) ++ [(n0, n1)]) w2) := HSb.out.push (by rw [e1]; exact O2) (by rw [e1]; exact G2)
          have hz3 : w.heap.size < w2.heap.size := HS2.out.2.1.lt
          clear O2 G2
          go_wp2
          go_roundw
          case rel => exact ⟨j + 1, ao2, cp2, (o ++ [(k, x)]) ++ [(n0, n1)], true, by omega, by go_num, rfl, by first | rfl | simp, HE, HS2⟩
          case measure => simp [intOf]; omega
      · have dg : decide (n0 ≥ k) = false := decide_eq_false hle
        have he : n0 ≠ k := by omega
        have HE : Hid (accS L k x has (j + 1) = (o ++ [(n0, n1)], false)) := by unfold Hid; rw [HN.out]; simp [stepS, he, hle]
        have d : (n0 != k) = true := bne_iff_ne.2 he
        clear HN hle he
        go_wp2_with fail
        go_quiet (fail)
        have HSa : Hid (SetE w k x (.slice ao (o).length cp) (o) (wr.drewN nq)) := ⟨HS.out.1, HS.out.2.1, below_dn HS.out.2.2 _⟩
        generalize wr.drewN nq = Xa at HSa ⊢
        have hza : w.heap.size < Xa.heap.size := HSa.out.2.1.lt
        have ya0 := (HSa.out.2.2.cell (p := ⟨g, oo + j * 2, none⟩) hg).trans yw0
        have ya1 := (HSa.out.2.2.cell (p := ⟨g, oo + j * 2 + 1, none⟩) hg).trans yw1
        obtain ⟨⟨ca0, ca1⟩, _, _⟩ := HSa.out.2.1
        clear yr0 yr1 cr0 cr1
        go_wp2_with fail
        go_quiet (fail)
        have HSb : Hid (SetE w k x (.slice ao (o).length cp) (o) (Xa.drewN nq)) := ⟨HSa.out.1, HSa.out.2.1, below_dn HSa.out.2.2 _⟩
        generalize Xa.drewN nq = Xb at HSb ⊢
        have hzb : w.heap.size < Xb.heap.size := HSb.out.2.1.lt
        have yb0 := (HSb.out.2.2.cell (p := ⟨g, oo + j * 2, none⟩) hg).trans yw0
        have yb1 := (HSb.out.2.2.cell (p := ⟨g, oo + j * 2 + 1, none⟩) hg).trans yw1
        obtain ⟨⟨cb0, cb1⟩, _, _⟩ := HSb.out.2.1
        clear ya0 ya1 ca0 ca1
        go_wp2_with (at_builtin; refine wpList_app 148 i0 (.agg #[.int .i64 0, .int .i64 0]) 2 16 rfl _ _ 55 rfl Tryz.underlying55 hi iz0 iz1 iz2 rfl (by omega) (by omega) _ (w.heap.size + 1) (o).length (flatL (o)) (.slice ao (o).length cp) rfl (HSb.out.1.later (below_alloc _ _)) 0 1 (fun p => [n0, n1].getD p 0) (.slice (some ⟨Xb.heap.size, 0, none⟩) 1 1) rfl (row_lit2 Xb n0 n1 148) (by simp <;> omega) (by simp; omega) ?_; intro ao1 cp1 w1 O2 G2)
        have HS1 : Hid (SetE w k x (.slice ao1 ((o) ++ [(n0, n1)]).length cp1) ((o) ++ [(n0, n1)]) w1) := HSb.out.push O2 G2
        have hz1 : w.heap.size < w1.heap.size := HS1.out.2.1.lt
        clear O2 G2
        go_wp2
        go_roundw
        case rel => exact ⟨j + 1, ao1, cp1, o ++ [(n0, n1)], false, by omega, by go_num, rfl, by first | rfl | simp, HE, HS1⟩
        case measure => simp [intOf]; omega
end Go.Proofs.YtglcedhkbbckiaaGreat

namespace Go.Proofs.YtglcedhkbbckiaaGreat
open Go.RowKit

def ItmE (w : World) (g o i : Nat) (n0 n1 n2 : Int) (X : World) : Prop := (X.cell? ⟨g, o + i * 3, none⟩ = some (.int .i64 n0) ∧ X.cell? ⟨g, o + i * 3 + 1, none⟩ = some (.int .i64 n1) ∧ X.cell? ⟨g, o + i * 3 + 2, none⟩ = some (.int .i64 n2)) ∧ Below w.heap.size w X
theorem ItmE.later {w X X' : World} {g o i : Nat} {n0 n1 n2 : Int} (h : ItmE w g o i n0 n1 n2 X) (hb : Below X.heap.size X X') : ItmE w g o i n0 n1 n2 X' := by
  obtain ⟨⟨h0, h1, h2⟩, hy⟩ := h
  exact ⟨⟨(hb.cell (lt_cellP h0)).trans h0, (hb.cell (lt_cellP h1)).trans h1, (hb.cell (lt_cellP h2)).trans h2⟩, hy.trans (hb.mono hy.size)⟩
set_option maxRecDepth 100000 in
set_option maxHeartbeats 4000000 in
theorem l11Apply_any (L : Prs) (G : Nat → Int) (m : Nat) (v y : Value) (B B' : Nat) (w : World) (h : Row w B 2 L.length (rowL L) v) (hi' : Row w B' 3 m G y) (hn : L.length ≤ 800) (hm : m ≤ 12) (hk : ∀ i, i < m → 1 ≤ G (i * 3 + 1) ∧ G (i * 3 + 1) ≤ 3) :
    Calls Tryz.prog 83 #[v, y] w fun e w' => ∃ ao cp, e = .returned (.slice ao (applyN L G m).length cp) ∧ Own w' w.heap.size 148 2 (applyN L G m).length (rowL (applyN L G m)) (.slice ao (applyN L G m).length cp) ∧ Below w.heap.size w w' := by
  obtain ⟨ao0, cp0, rfl⟩ := h.form
  obtain ⟨bo0, bp0, rfl⟩ := hi'.form
  have H : Hid (Row w B 2 L.length (rowL L) (.slice ao0 L.length cp0) ∧ Row w B' 3 m G (.slice bo0 m bp0)) := ⟨h, hi'⟩
  clear h hi'
  obtain ⟨i0, hi, iz0, iz1, iz2⟩ := info_parts infoz_Pair
  go_enter Tryz.func83, Tryz.ntmps83
  go_wp2_with (at_builtin; refine wpList_app 148 i0 (.agg #[.int .i64 0, .int .i64 0]) 2 16 rfl _ _ 55 rfl Tryz.underlying55 hi iz0 iz1 iz2 rfl (by omega) (by omega) _ w.heap.size 0 [] (.slice (some ⟨w.heap.size, 0, none⟩) 0 0) rfl (OwnM.lit0 _ _ _ _ rfl) B L.length (rowL L) (.slice ao0 L.length cp0) rfl (H.out.1.alloc _) (by omega) (by simp) ?_; intro ao1 cp1 w2 O2 G2)
  have HS2 : Hid (Own w2 w.heap.size 148 2 L.length (rowL L) (.slice ao1 L.length cp1) ∧ Below w.heap.size w w2) := by
    rw [Nat.zero_add, List.nil_append] at O2
    exact ⟨own_eqP (O2.own (nums_length _ _)) (fun p hp => by simp [nums, hp]), (below_alloc w _).grown G2 (by simp) (fun r e => by simp [Value.ownBlock] at e; omega)⟩
  clear O2 G2
  go_wp2
  go_loopw [5, 6] (fun out i wr => ∃ (j : Nat) (ao : Option Addr) (cp : Nat), j ≤ m ∧ i = .int .i64 j ∧ out = .slice ao (applyN L G j).length cp ∧ Hid (Own wr w.heap.size 148 2 (applyN L G j).length (rowL (applyN L G j)) (.slice ao (applyN L G j).length cp) ∧ Below w.heap.size w wr)) (fun _ i _ => m - (intOf i).toNat)
  case atStart => exact ⟨0, ao1, cp1, Nat.zero_le _, rfl, rfl, HS2⟩
  case round =>
    obtain ⟨j, ao, cp, hj, rfl, rfl, HS⟩ := hrel
    by_cases hlt : j < m
    case neg =>
      obtain rfl : j = m := by omega
      go_wp2
      exact bodyPost_ret (v := .slice ao (applyN L G j).length cp) (by simp [results, Tryz.results83, go_sem]) rfl ⟨ao, cp, rfl, HS.out⟩
    have hlen : (applyN L G j).length ≤ 812 := Nat.le_trans (applyN_len L G j) (by omega)
    have hkj := hk j hlt
    obtain ⟨g, o, hbo, _, hg, y0, y1, y2⟩ := (H.out.2.later HS.out.2).at3 hlt
    subst hbo
    obtain ⟨n0, N0⟩ : ∃ x, G (j * 3) = x := ⟨_, rfl⟩
    rw [N0] at y0
    obtain ⟨n1, N1⟩ : ∃ x, G (j * 3 + 1) = x := ⟨_, rfl⟩
    rw [N1] at y1 hkj
    obtain ⟨n2, N2⟩ : ∃ x, G (j * 3 + 2) = x := ⟨_, rfl⟩
    rw [N2] at y2
    have HP : Hid (applyN L G (j + 1) = stepA (applyN L G j) n0 n1 n2) := by
      unfold Hid
      rw [← N0, ← N1, ← N2]
      rfl
    clear N0 N1 N2 HS2
    obtain ⟨A, hA⟩ : ∃ A, applyN L G j = A := ⟨_, rfl⟩
    rw [hA] at hlen HS HP
    rw [hA]
    clear hA
    by_cases k3 : n1 = 3
    · have HE : Hid (applyN L G (j + 1) = A) := by unfold Hid; rw [HP.out, stepA, if_neg (by omega), if_neg (by omega)]
      subst k3
      clear HP hkj
      go_wp2
      go_roundw
      case rel =>
        refine ⟨j + 1, ao, cp, by omega, by go_num, by rw [HE.out], ?_⟩
        rw [HE.out]
        exact HS
      case measure => simp [intOf]; omega
    have d3 : (n1 != 3) = true := bne_iff_ne.2 k3
    by_cases k1 : n1 = 1
    · have HE : Hid (applyN L G (j + 1) = setS A n0 n2 true) := by unfold Hid; rw [HP.out, stepA, if_pos k1, setS_put]
      subst k1
      clear HP hkj k3 d3
      go_wp2_with fail
      refine wp_region_held_drew (S := ItmE w g o j n0 1 n2) (by kernel_rfl) ⟨⟨y0, y1, y2⟩, HS.out.2.drew⟩ (fun hS => ?_)
      refine tkH 0 ?_ hS (fun wx hx => ?_) ?_; rotate_left
      · obtain ⟨⟨hx0, hx1, hx2⟩, _⟩ := hx; go_simp; try with_reducible rfl
      refine tkH 1 ?_ hS (fun wx hx => ?_) ?_; rotate_left
      · obtain ⟨⟨hx0, hx1, hx2⟩, _⟩ := hx; go_simp; try with_reducible rfl
      refine tkH 2 ?_ hS (fun wx hx => ?_) ?_; rotate_left
      · obtain ⟨⟨hx0, hx1, hx2⟩, _⟩ := hx; go_simp; try with_reducible rfl
      try simp only [Act.put, List.getElem_toArray, List.getElem_cons_zero, List.getElem_cons_succ, List.setIfInBounds_toArray, List.set_cons_succ, List.set_cons_zero]
      refine tkH 3 ?_ hS (fun wx hx => ?_) ?_; rotate_left
      · obtain ⟨⟨hx0, hx1, hx2⟩, _⟩ := hx; go_simp; try with_reducible rfl
      refine tkH 4 ?_ hS (fun wx hx => ?_) ?_; rotate_left
      · obtain ⟨⟨hx0, hx1, hx2⟩, _⟩ := hx; go_simp; try with_reducible rfl
      refine tkH 5 ?_ hS (fun wx hx => ?_) ?_; rotate_left
      · obtain ⟨⟨hx0, hx1, hx2⟩, _⟩ := hx; go_simp; try with_reducible rfl
      try simp only [Act.put, List.getElem_toArray, List.getElem_cons_zero, List.getElem_cons_succ, List.setIfInBounds_toArray, List.set_cons_succ, List.set_cons_zero]
      refine tkH 6 ?_ hS (fun wx hx => ?_) ?_; rotate_left
      · obtain ⟨⟨hx0, hx1, hx2⟩, _⟩ := hx; go_simp; try with_reducible rfl
      refine tkH 7 ?_ hS (fun wx hx => ?_) ?_; rotate_left
      · obtain ⟨⟨hx0, hx1, hx2⟩, _⟩ := hx; go_simp; try with_reducible rfl
      refine tkH 8 ?_ hS (fun wx hx => ?_) ?_; rotate_left
      · obtain ⟨⟨hx0, hx1, hx2⟩, _⟩ := hx; go_simp; try with_reducible rfl
      try simp only [Act.put, List.getElem_toArray, List.getElem_cons_zero, List.getElem_cons_succ, List.setIfInBounds_toArray, List.set_cons_succ, List.set_cons_zero]
      refine tkH 9 ?_ hS (fun wx hx => ?_) ?_; rotate_left
      · obtain ⟨⟨hx0, hx1, hx2⟩, _⟩ := hx; go_simp; try with_reducible rfl
      refine tkH 10 ?_ hS (fun wx hx => ?_) ?_; rotate_left
      · obtain ⟨⟨hx0, hx1, hx2⟩, _⟩ := hx; go_simp; try with_reducible rfl
      refine tkH 11 ?_ hS (fun wx hx => ?_) ?_; rotate_left
      · obtain ⟨⟨hx0, hx1, hx2⟩, _⟩ := hx; go_simp; try with_reducible rfl
      try simp only [Act.put, List.getElem_toArray, List.getElem_cons_zero, List.getElem_cons_succ, List.setIfInBounds_toArray, List.set_cons_succ, List.set_cons_zero]
      refine tkH 12 ?_ hS (fun wx hx => ?_) ?_; rotate_left
      · obtain ⟨⟨hx0, hx1, hx2⟩, _⟩ := hx; go_simp; try with_reducible rfl
      refine tkH 13 ?_ hS (fun wx hx => ?_) ?_; rotate_left
      · obtain ⟨⟨hx0, hx1, hx2⟩, _⟩ := hx; go_simp; try with_reducible rfl
      refine tkH 14 ?_ hS (fun wx hx => ?_) ?_; rotate_left
      · obtain ⟨⟨hx0, hx1, hx2⟩, _⟩ := hx; go_simp; try with_reducible rfl
      try simp only [Act.put, List.getElem_toArray, List.getElem_cons_zero, List.getElem_cons_succ, List.setIfInBounds_toArray, List.set_cons_succ, List.set_cons_zero]
      refine tkH 15 ?_ hS (fun wx hx => ?_) ?_; rotate_left
      · obtain ⟨⟨hx0, hx1, hx2⟩, _⟩ := hx; go_simp; try with_reducible rfl
      refine tkH 16 ?_ hS (fun wx hx => ?_) ?_; rotate_left
      · obtain ⟨⟨hx0, hx1, hx2⟩, _⟩ := hx; go_simp; try with_reducible rfl
      refine tkH 17 ?_ hS (fun wx hx => ?_) ?_; rotate_left
      · obtain ⟨⟨hx0, hx1, hx2⟩, _⟩ := hx; go_simp; try with_reducible rfl
      try simp only [Act.put, List.getElem_toArray, List.getElem_cons_zero, List.getElem_cons_succ, List.setIfInBounds_toArray, List.set_cons_succ, List.set_cons_zero]
      refine rdH 18 (fun K hK => ?_)
      go_simp
      go_wp2_with fail
      refine (l11Set_any A _ w.heap.size n0 n2 true _ (HS.out.1.later (Below.drew (Below.refl _ _))).row.1 (by omega)).mono ?_
      rintro e w1 ⟨ao1, cp1, rfl, o1, q1⟩
      have hS1 := hS.later q1
      have HS1 : Hid (Own w1 w.heap.size 148 2 (setS A n0 n2 true).length (rowL (setS A n0 n2 true)) (.slice ao1 (setS A n0 n2 true).length cp1) ∧ Below w.heap.size w w1) := ⟨o1.mono hS.2.size, hS1.2⟩
      clear hS q1 o1
      go_wp2_with fail
      refine hK.out _ _ hS1 (fun hS => ?_)
      clear hK K hS1
      refine tkH 19 ?_ hS (fun wx hx => ?_) ?_; rotate_left
      · obtain ⟨⟨hx0, hx1, hx2⟩, _⟩ := hx; go_simp; try with_reducible rfl
      refine wpAnyH_done (by kernel_rfl) ?_ _
      obtain ⟨LEN, hLEN⟩ : ∃ LEN, LEN = (setS A n0 n2 true).length := ⟨_, rfl⟩
      rw [← hLEN]
      have HLEN : Hid (LEN = (setS A n0 n2 true).length) := hLEN
      clear hLEN
      go_simp
      go_wp2
      go_roundw
      case rel =>
        refine ⟨j + 1, ao1, cp1, by omega, by go_num, by rw [HE.out, HLEN.out], ?_⟩
        rw [HE.out]
        exact HS1
      case measure => simp [intOf]; omega
    · have HE : Hid (applyN L G (j + 1) = setS A n0 n2 false) := by unfold Hid; rw [HP.out, stepA, if_neg k1, if_pos (by omega), setS_gone]
      obtain rfl : n1 = 2 := by omega
      clear HP hkj k3 k1 d3
      go_wp2_with fail
      refine wp_region_held_drew (S := ItmE w g o j n0 2 n2) (by kernel_rfl) ⟨⟨y0, y1, y2⟩, HS.out.2.drew⟩ (fun hS => ?_)
      refine tkH 0 ?_ hS (fun wx hx => ?_) ?_; rotate_left
      · obtain ⟨⟨hx0, hx1, hx2⟩, _⟩ := hx; go_simp; try with_reducible rfl
      refine tkH 1 ?_ hS (fun wx hx => ?_) ?_; rotate_left
      · obtain ⟨⟨hx0, hx1, hx2⟩, _⟩ := hx; go_simp; try with_reducible rfl
      refine tkH 2 ?_ hS (fun wx hx => ?_) ?_; rotate_left
      · obtain ⟨⟨hx0, hx1, hx2⟩, _⟩ := hx; go_simp; try with_reducible rfl
      try simp only [Act.put, List.getElem_toArray, List.getElem_cons_zero, List.getElem_cons_succ, List.setIfInBounds_toArray, List.set_cons_succ, List.set_cons_zero]
      refine tkH 3 ?_ hS (fun wx hx => ?_) ?_; rotate_left
      · obtain ⟨⟨hx0, hx1, hx2⟩, _⟩ := hx; go_simp; try with_reducible rfl
      refine tkH 4 ?_ hS (fun wx hx => ?_) ?_; rotate_left
      · obtain ⟨⟨hx0, hx1, hx2⟩, _⟩ := hx; go_simp; try with_reducible rfl
      refine tkH 5 ?_ hS (fun wx hx => ?_) ?_; rotate_left
      · obtain ⟨⟨hx0, hx1, hx2⟩, _⟩ := hx; go_simp; try with_reducible rfl
      try simp only [Act.put, List.getElem_toArray, List.getElem_cons_zero, List.getElem_cons_succ, List.setIfInBounds_toArray, List.set_cons_succ, List.set_cons_zero]
      refine tkH 6 ?_ hS (fun wx hx => ?_) ?_; rotate_left
      · obtain ⟨⟨hx0, hx1, hx2⟩, _⟩ := hx; go_simp; try with_reducible rfl
      refine tkH 7 ?_ hS (fun wx hx => ?_) ?_; rotate_left
      · obtain ⟨⟨hx0, hx1, hx2⟩, _⟩ := hx; go_simp; try with_reducible rfl
      refine tkH 8 ?_ hS (fun wx hx => ?_) ?_; rotate_left
      · obtain ⟨⟨hx0, hx1, hx2⟩, _⟩ := hx; go_simp; try with_reducible rfl
      try simp only [Act.put, List.getElem_toArray, List.getElem_cons_zero, List.getElem_cons_succ, List.setIfInBounds_toArray, List.set_cons_succ, List.set_cons_zero]
      refine tkH 9 ?_ hS (fun wx hx => ?_) ?_; rotate_left
      · obtain ⟨⟨hx0, hx1, hx2⟩, _⟩ := hx; go_simp; try with_reducible rfl
      refine tkH 10 ?_ hS (fun wx hx => ?_) ?_; rotate_left
      · obtain ⟨⟨hx0, hx1, hx2⟩, _⟩ := hx; go_simp; try with_reducible rfl
      refine tkH 11 ?_ hS (fun wx hx => ?_) ?_; rotate_left
      · obtain ⟨⟨hx0, hx1, hx2⟩, _⟩ := hx; go_simp; try with_reducible rfl
      try simp only [Act.put, List.getElem_toArray, List.getElem_cons_zero, List.getElem_cons_succ, List.setIfInBounds_toArray, List.set_cons_succ, List.set_cons_zero]
      refine tkH 12 ?_ hS (fun wx hx => ?_) ?_; rotate_left
      · obtain ⟨⟨hx0, hx1, hx2⟩, _⟩ := hx; go_simp; try with_reducible rfl
      refine tkH 13 ?_ hS (fun wx hx => ?_) ?_; rotate_left
      · obtain ⟨⟨hx0, hx1, hx2⟩, _⟩ := hx; go_simp; try with_reducible rfl
      refine tkH 14 ?_ hS (fun wx hx => ?_) ?_; rotate_left
      · obtain ⟨⟨hx0, hx1, hx2⟩, _⟩ := hx; go_simp; try with_reducible rfl
      try simp only [Act.put, List.getElem_toArray, List.getElem_cons_zero, List.getElem_cons_succ, List.setIfInBounds_toArray, List.set_cons_succ, List.set_cons_zero]
      refine tkH 15 ?_ hS (fun wx hx => ?_) ?_; rotate_left
      · obtain ⟨⟨hx0, hx1, hx2⟩, _⟩ := hx; go_simp; try with_reducible rfl
      refine tkH 16 ?_ hS (fun wx hx => ?_) ?_; rotate_left
      · obtain ⟨⟨hx0, hx1, hx2⟩, _⟩ := hx; go_simp; try with_reducible rfl
      refine tkH 17 ?_ hS (fun wx hx => ?_) ?_; rotate_left
      · obtain ⟨⟨hx0, hx1, hx2⟩, _⟩ := hx; go_simp; try with_reducible rfl
      try simp only [Act.put, List.getElem_toArray, List.getElem_cons_zero, List.getElem_cons_succ, List.setIfInBounds_toArray, List.set_cons_succ, List.set_cons_zero]
      refine rdH 18 (fun K hK => ?_)
      go_simp
      go_wp2_with fail
      refine (l11Set_any A _ w.heap.size n0 n2 false _ (HS.out.1.later (Below.drew (Below.refl _ _))).row.1 (by omega)).mono ?_
      rintro e w1 ⟨ao1, cp1, rfl, o1, q1⟩
      have hS1 := hS.later q1
      have HS1 : Hid (Own w1 w.heap.size 148 2 (setS A n0 n2 false).length (rowL (setS A n0 n2 false)) (.slice ao1 (setS A n0 n2 false).length cp1) ∧ Below w.heap.size w w1) := ⟨o1.mono hS.2.size, hS1.2⟩
      clear hS q1 o1
      go_wp2_with fail
      refine hK.out _ _ hS1 (fun hS => ?_)
      clear hK K hS1
      refine tkH 19 ?_ hS (fun wx hx => ?_) ?_; rotate_left
      · obtain ⟨⟨hx0, hx1, hx2⟩, _⟩ := hx; go_simp; try with_reducible rfl
      refine wpAnyH_done (by kernel_rfl) ?_ _
      obtain ⟨LEN, hLEN⟩ : ∃ LEN, LEN = (setS A n0 n2 false).length := ⟨_, rfl⟩
      rw [← hLEN]
      have HLEN : Hid (LEN = (setS A n0 n2 false).length) := hLEN
      clear hLEN
      go_simp
      go_wp2
      go_roundw
      case rel =>
        refine ⟨j + 1, ao1, cp1, by omega, by go_num, by rw [HE.out, HLEN.out], ?_⟩
        rw [HE.out]
        exact HS1
      case measure => simp [intOf]; omega
end Go.Proofs.YtglcedhkbbckiaaGreat

namespace Go.Proofs.YtglcedhkbbckiaaGreat
open Go.RowKit

/-- What the first k of them did up to a time, one behind the other. -/
def modN (T : Nat → Tx) (D : Prs) (ts : Int) : Nat → Prs
  | 0 => []
  | k + 1 => if (D.getD k (0, 0)).2 ≤ ts then applyN (modN T D ts k) (T (D.getD k (0, 0)).1.toNat).L (T (D.getD k (0, 0)).1.toNat).m else modN T D ts k
/-- Each place is one of nt. -/
def Places (nt : Nat) (D : Prs) : Prop := ∀ k, k < D.length → ∃ p : Nat, p < nt ∧ (D.getD k (0, 0)).1 = p
theorem modN_len {T : Nat → Tx} {D : Prs} {ts : Int} {nt : Nat} (hD : Places nt D) (hm : ∀ i, i < nt → (T i).m ≤ 12) : ∀ k, k ≤ D.length → (modN T D ts k).length ≤ k * 12
  | 0, _ => by simp [modN]
  | k + 1, hk => by
    have := modN_len (ts := ts) hD hm k (by omega)
    obtain ⟨p, hp, e⟩ := hD k (by omega)
    have h2 := hm p hp
    rw [modN]
    split
    · refine Nat.le_trans (applyN_len _ _ _) ?_
      rw [e]
      simp only [Int.toNat_natCast]
      omega
    · omega
theorem modN_rises (T : Nat → Tx) (D : Prs) (ts : Int) : ∀ k, Rises (modN T D ts k)
  | 0 => List.Pairwise.nil
  | k + 1 => by
    rw [modN]
    split
    · exact applyN_rises (modN_rises T D ts k) _ _
    · exact modN_rises T D ts k
theorem donesL_nn (R : Nat → Option Int) : ∀ (k : Nat) (e : Int × Int), e ∈ donesL R k → 0 ≤ e.1
  | 0, e, h => absurd h (by simp [donesL])
  | k + 1, e, h => by
    rw [donesL] at h
    split at h
    · rcases putD_mem h with rfl | q
      · show 0 ≤ (k : Int); omega
      · exact donesL_nn R k e q
    · exact donesL_nn R k e h
theorem donesL_places (R : Nat → Option Int) (nt : Nat) : Places nt (donesL R nt) := fun k hk => by
  have hmem : (donesL R nt).getD k (0, 0) ∈ donesL R nt := by
    rw [List.getD_eq_getElem?_getD, List.getElem?_eq_getElem hk]
    exact List.getElem_mem hk
  have h1 := donesL_lt R nt _ hmem
  have h2 := donesL_nn R nt _ hmem
  exact ⟨((donesL R nt).getD k (0, 0)).1.toNat, by omega, by omega⟩
theorem itemF_kind {k kd v : Int} (h : itemF k kd v = 0) : 1 ≤ kd ∧ kd ≤ 3 := by
  unfold itemF at h
  split at h
  · rename_i q; exact absurd h q
  split at h
  · exact absurd h (by decide)
  · omega
theorem itemsF_all {F : Nat → Int} : ∀ {m k : Nat}, itemsF F m k = 0 → ∀ i, i < m → itemF (F ((k + i) * 3)) (F ((k + i) * 3 + 1)) (F ((k + i) * 3 + 2)) = 0
  | 0, _, _, _, hi => absurd hi (Nat.not_lt_zero _)
  | m + 1, k, h, i, hi => by
    rw [itemsF] at h
    split at h
    · rename_i q; exact absurd h q
    rename_i q
    split at h
    · exact absurd h (by decide)
    cases i with
    | zero => exact Decidable.not_not.1 q
    | succ i =>
      have := itemsF_all h i (by omega)
      rw [show k + (i + 1) = k + 1 + i from by omega]
      exact this
theorem txF_kinds {t : Tx} (h : txF t = 0) : ∀ k, k < t.m → 1 ≤ t.L (k * 3 + 1) ∧ t.L (k * 3 + 1) ≤ 3 := fun k hk => by
  unfold txF txnF at h
  split at h
  · omega
  split at h
  · omega
  split at h
  · rename_i h2; exact absurd h h2
  rename_i h2
  have := itemsF_all (Decidable.not_not.1 h2) k hk
  rw [Nat.zero_add] at this
  exact itemF_kind this
/-- What stands while the items are looked up. -/
def ModE (w : World) (b gd q gx p : Nat) (vt y : Value) (pl : Int) (X : World) : Prop :=
  (X.cell? ⟨b, 5, none⟩ = some vt ∧ X.cell? ⟨gd, q, none⟩ = some (.int .i64 pl) ∧ X.cell? ⟨gx, p, none⟩ = some y) ∧ Below w.heap.size w X
theorem ModE.later {w X X' : World} {b gd q gx p : Nat} {vt y : Value} {pl : Int} (h : ModE w b gd q gx p vt y pl X) (hb : Below X.heap.size X X') : ModE w b gd q gx p vt y pl X' :=
  ⟨⟨(hb.cell (lt_cell h.1.1)).trans h.1.1, (hb.cell (lt_cell h.1.2.1)).trans h.1.2.1, (hb.cell (lt_cell h.1.2.2)).trans h.1.2.2⟩, h.2.trans (hb.mono h.2.size)⟩
set_option maxRecDepth 100000 in
set_option maxHeartbeats 8000000 in
theorem l11Model_is (b : Nat) (nw nx bd : Int) (nr : Nat) (F : Nat → Int) (n : Nat) (S : Nat → Sto) (V : Nat → Nat → Value) (vr vs : Value) (nt : Nat) (T : Nat → Tx) (X : Nat → Value) (vt : Value) (R : Nat → Option Int) (ts : Int) (w : World) (h : LiesD w b nw nx bd nr F n S V vr vs nt T X vt) (hr : nr ≤ 6) (hn : n = nr) (hs : ∀ i, i < n → (S i).nl ≤ 200 ∧ (S i).nw ≤ 200) (hnt : nt ≤ 16) (hit : ∀ i, i < nt → 1 ≤ (T i).m ∧ (T i).m ≤ 12) (hkd : ∀ i, i < nt → ∀ k, k < (T i).m → 1 ≤ (T i).L (k * 3 + 1) ∧ (T i).L (k * 3 + 1) ≤ 3) (hR : ∀ i, i < nt → DoneAt nr F S (T i) (R i)) (M : Prs) (hM : modN T (donesL R nt) ts (donesL R nt).length = M) :
    Calls Tryz.prog 45 #[.pointer (some ⟨b, 0, none⟩), .int .i64 ts] w fun e w' => ∃ ao cp, e = .returned (.slice ao M.length cp) ∧ Own w' w.heap.size 148 2 M.length (rowL M) (.slice ao M.length cp) ∧ Below w.heap.size w w' := by
  obtain ⟨a2, c2, rfl⟩ := h.2.2.form
  have H : Hid (LiesD w b nw nx bd nr F n S V vr vs nt T X (.slice a2 nt c2)) := h
  have HR : Hid (∀ i, i < nt → DoneAt nr F S (T i) (R i)) := hR
  have HIT : Hid ((∀ i, i < nt → 1 ≤ (T i).m ∧ (T i).m ≤ 12) ∧ ∀ i, i < nt → ∀ k, k < (T i).m → 1 ≤ (T i).L (k * 3 + 1) ∧ (T i).L (k * 3 + 1) ≤ 3) := ⟨hit, hkd⟩
  have HS : Hid (∀ i, i < n → (S i).nl ≤ 200 ∧ (S i).nw ≤ 200) := hs
  have p5 : w.cell? ⟨b, 5, none⟩ = some (.slice a2 nt c2) := h.1.1.2.2.2.2.2
  have hb : b < w.heap.size := h.1.lt
  clear h hR hit hkd hs
  go_enter Tryz.func45, Tryz.ntmps45
  go_wp2_with fail
  refine (l11Committed_is _ nw nx bd nr F n S V _ _ nt T X _ R _ (H.out.later (below_alloc _ _)) hr hn HS.out hnt (fun i hi => (HIT.out.1 i hi).1) HR.out).mono ?_
  rintro e w2 ⟨do0, dc, rfl, hd2, q2⟩
  have HP : Hid (Places nt (donesL R nt)) := donesL_places R nt
  have HL : Hid ((donesL R nt).length ≤ 16) := Nat.le_trans (donesL_len R nt) hnt
  obtain ⟨D, hD⟩ : ∃ D, donesL R nt = D := ⟨_, rfl⟩
  rw [hD] at hd2 HP HL hM ⊢
  have hl16 : D.length ≤ 16 := HL.out
  have HM : Hid (modN T D ts D.length = M) := hM
  have O2 : Hid (Row w2 0 2 D.length (rowL D) (.slice do0 D.length dc)) := hd2.row.1.mono (Nat.zero_le _)
  have Q2 : Hid (Below w.heap.size w w2) := (below_alloc w _).trans (q2.mono (by simp))
  have OL : Hid (Own w2 w.heap.size 148 2 0 (rowL []) (.slice (some ⟨w.heap.size, 0, none⟩) 0 0)) := ((OwnM.lit0 w w.heap.size 148 2 rfl).own rfl).later q2
  clear hd2 q2 hD hM HL
  go_wp2
  go_loopw [5, 7] (fun out i wr => ∃ (k : Nat) (ao : Option Addr) (cp : Nat), k ≤ D.length ∧ i = .int .i64 k ∧ out = .slice ao (modN T D ts k).length cp ∧ Hid (Own wr w.heap.size 148 2 (modN T D ts k).length (rowL (modN T D ts k)) (.slice ao (modN T D ts k).length cp)) ∧ Hid (Below w2.heap.size w2 wr)) (fun _ i _ => D.length - (intOf i).toNat)
  case atStart => exact ⟨0, _, _, Nat.zero_le _, rfl, rfl, OL, Below.refl _ _⟩
  case round =>
    obtain ⟨k, ao, cp, hk, rfl, rfl, HO, HB⟩ := hrel
    by_cases hlt : k < D.length
    case neg =>
      obtain rfl : k = D.length := by omega
      rw [HM.out] at HO ⊢
      obtain ⟨LN, hLN⟩ : ∃ LN, M.length = LN := ⟨_, rfl⟩
      have HLN : Hid (M.length = LN) := hLN
      rw [hLN]
      clear hLN
      go_wp2
      refine bodyPost_ret (v := .slice ao LN cp) (by simp [results, Tryz.results45, go_sem]) rfl ?_
      rw [← HLN.out]
      exact ⟨ao, cp, rfl, HO.out, Q2.out.trans (HB.out.mono Q2.out.size)⟩
    obtain ⟨gd, od, hdo, _, hgd, d0, d1⟩ := (O2.out.later HB.out).at2 hlt
    subst hdo
    rw [rowL_key] at d0
    rw [rowL_val] at d1
    obtain ⟨p, hp, hpl⟩ := HP.out k hlt
    obtain ⟨cm, hcm⟩ : ∃ c, (D.getD k (0, 0)).2 = c := ⟨_, rfl⟩
    rw [hpl] at d0
    rw [hcm] at d1
    have HC : Hid ((D.getD k (0, 0)).1 = p ∧ (D.getD k (0, 0)).2 = cm) := ⟨hpl, hcm⟩
    obtain ⟨L, hL⟩ : ∃ L, modN T D ts k = L := ⟨_, rfl⟩
    have hLl : L.length ≤ 192 := by have := modN_len (ts := ts) HP.out (fun i hi => (HIT.out.1 i hi).2) k (by omega); rw [hL] at this; omega
    have HLL : Hid (modN T D ts k = L) := hL
    rw [hL] at HO ⊢
    clear hL hpl hcm
    by_cases hle : cm ≤ ts
    case neg =>
      have d2 : decide (cm ≤ ts) = false := decide_eq_false hle
      have HE : Hid (modN T D ts (k + 1) = L) := by unfold Hid; rw [modN, HC.out.2, if_neg hle]; exact HLL.out
      clear hle HC HLL
      go_wp2
      go_roundw
      case rel => exact ⟨k + 1, ao, cp, by omega, by go_num, by rw [HE.out], by rw [HE.out]; exact HO, HB⟩
      case measure => simp [intOf]; omega
    have d2 : decide (cm ≤ ts) = true := decide_eq_true hle
    obtain ⟨gx, ox, hax, _, hgx, ⟨_, _, _, _, _, x5⟩, hrow, _⟩ := (H.out.2.2.later (Q2.out.trans (HB.out.mono Q2.out.size))).at hp
    subst hax
    have hm12 := (HIT.out.1 p hp).2
    have hkk := HIT.out.2 p hp
    obtain ⟨t, ht⟩ : ∃ t, T p = t := ⟨_, rfl⟩
    rw [ht] at hrow hm12 hkk
    have HKK : Hid (∀ k, k < t.m → 1 ≤ t.L (k * 3 + 1) ∧ t.L (k * 3 + 1) ≤ 3) := hkk
    have HE : Hid (modN T D ts (k + 1) = applyN L t.L t.m) := by unfold Hid; rw [modN, HC.out.2, if_pos hle, HC.out.1, HLL.out]; simp only [Int.toNat_natCast, ht]
    obtain ⟨y, hy⟩ : ∃ y, X p = y := ⟨_, rfl⟩
    rw [hy] at x5 hrow
    obtain ⟨yo, yc, rfl⟩ := hrow.form
    have HRW : Hid (Row wr 0 3 t.m t.L (.slice yo t.m yc)) := hrow
    have b5 := ((Q2.out.trans (HB.out.mono Q2.out.size)).cell (p := ⟨b, 5, none⟩) hb).trans p5
    have hS0 : ModE w b gd (od + k * 2) gx (ox + p * 6 + 5) (.slice (some ⟨gx, ox, none⟩) nt c2) (.slice yo t.m yc) p wr.drew := ⟨⟨b5, d0, x5⟩, (Q2.out.trans (HB.out.mono Q2.out.size)).drew⟩
    have HOd : Hid (Own wr.drew w.heap.size 148 2 L.length (rowL L) (.slice ao L.length cp) ∧ Row wr.drew 0 3 t.m t.L (.slice yo t.m yc) ∧ Below w2.heap.size w2 wr.drew) := ⟨HO.out, HRW.out, HB.out.drew⟩
    have hpn : (p : Int) < (nt : Int) := by omega
    clear hle HC HLL hy ht hkk hrow HO HB HRW b5
    go_wp2_with fail
    refine wp_region_held_drew (S := ModE w b gd (od + k * 2) gx (ox + p * 6 + 5) (.slice (some ⟨gx, ox, none⟩) nt c2) (.slice yo t.m yc) p) (by kernel_rfl) hS0 (fun hS => ?_)
    generalize wr.drew = wa at hS HOd ⊢
    clear hS0 d0 d1 x5
    refine tkH 0 ?_ hS (fun wx hx => ?_) ?_; rotate_left
    · obtain ⟨⟨hx0, hx1, hx2⟩, _⟩ := hx; go_simp; try with_reducible rfl
    refine tkH 1 ?_ hS (fun wx hx => ?_) ?_; rotate_left
    · obtain ⟨⟨hx0, hx1, hx2⟩, _⟩ := hx; go_simp; try with_reducible rfl
    refine tkH 2 ?_ hS (fun wx hx => ?_) ?_; rotate_left
    · obtain ⟨⟨hx0, hx1, hx2⟩, _⟩ := hx; go_simp; try with_reducible rfl
    try simp only [Act.put, List.getElem_toArray, List.getElem_cons_zero, List.getElem_cons_succ, List.setIfInBounds_toArray, List.set_cons_succ, List.set_cons_zero]
    refine tkH 3 ?_ hS (fun wx hx => ?_) ?_; rotate_left
    · obtain ⟨⟨hx0, hx1, hx2⟩, _⟩ := hx; go_simp; try with_reducible rfl
    refine tkH 4 ?_ hS (fun wx hx => ?_) ?_; rotate_left
    · obtain ⟨⟨hx0, hx1, hx2⟩, _⟩ := hx; go_simp; try with_reducible rfl
    refine tkH 5 ?_ hS (fun wx hx => ?_) ?_; rotate_left
    · obtain ⟨⟨hx0, hx1, hx2⟩, _⟩ := hx; go_simp; try with_reducible rfl
    try simp only [Act.put, List.getElem_toArray, List.getElem_cons_zero, List.getElem_cons_succ, List.setIfInBounds_toArray, List.set_cons_succ, List.set_cons_zero]
    refine tkH 6 ?_ hS (fun wx hx => ?_) ?_; rotate_left
    · obtain ⟨⟨hx0, hx1, hx2⟩, _⟩ := hx; go_simp; try with_reducible rfl
    refine tkH 7 ?_ hS (fun wx hx => ?_) ?_; rotate_left
    · obtain ⟨⟨hx0, hx1, hx2⟩, _⟩ := hx; go_simp; try with_reducible rfl
    refine tkH 8 ?_ hS (fun wx hx => ?_) ?_; rotate_left
    · obtain ⟨⟨hx0, hx1, hx2⟩, _⟩ := hx; go_simp; try with_reducible rfl
    try simp only [Act.put, List.getElem_toArray, List.getElem_cons_zero, List.getElem_cons_succ, List.setIfInBounds_toArray, List.set_cons_succ, List.set_cons_zero]
    refine tkH 9 ?_ hS (fun wx hx => ?_) ?_; rotate_left
    · obtain ⟨⟨hx0, hx1, hx2⟩, _⟩ := hx; go_simp; try with_reducible rfl
    refine tkH 10 ?_ hS (fun wx hx => ?_) ?_; rotate_left
    · obtain ⟨⟨hx0, hx1, hx2⟩, _⟩ := hx; go_simp; try with_reducible rfl
    refine tkH 11 ?_ hS (fun wx hx => ?_) ?_; rotate_left
    · obtain ⟨⟨hx0, hx1, hx2⟩, _⟩ := hx; go_simp; try with_reducible rfl
    try simp only [Act.put, List.getElem_toArray, List.getElem_cons_zero, List.getElem_cons_succ, List.setIfInBounds_toArray, List.set_cons_succ, List.set_cons_zero]
    refine tkH 12 ?_ hS (fun wx hx => ?_) ?_; rotate_left
    · obtain ⟨⟨hx0, hx1, hx2⟩, _⟩ := hx; go_simp; try with_reducible rfl
    try simp only [Act.put, List.getElem_toArray, List.getElem_cons_zero, List.getElem_cons_succ, List.setIfInBounds_toArray, List.set_cons_succ, List.set_cons_zero]
    refine rdH 13 (fun K hK => ?_)
    go_simp
    go_wp2_with fail
    refine (l11Apply_any L t.L t.m _ _ _ 0 _ HOd.out.1.row.1 HOd.out.2.1 (by omega) hm12 HKK.out).mono ?_
    rintro e w3 ⟨ao3, cp3, rfl, o3, q3⟩
    rw [← HE.out] at o3 ⊢
    have H3 : Hid (Own w3 w.heap.size 148 2 (modN T D ts (k + 1)).length (rowL (modN T D ts (k + 1))) (.slice ao3 (modN T D ts (k + 1)).length cp3) ∧ Below w2.heap.size w2 w3) := ⟨o3.mono (by have := Q2.out.size; have := HOd.out.2.2.size; omega), HOd.out.2.2.trans (q3.mono HOd.out.2.2.size)⟩
    have hS3 := hS.later q3
    clear o3 q3 HOd
    obtain ⟨LN, hLN⟩ : ∃ LN, (modN T D ts (k + 1)).length = LN := ⟨_, rfl⟩
    have HLN : Hid ((modN T D ts (k + 1)).length = LN) := hLN
    rw [hLN]
    clear hLN
    go_wp2_with fail
    refine hK.out _ _ hS3 (fun hS => ?_)
    clear hK K hS3
    refine tkH 14 ?_ hS (fun wx hx => ?_) ?_; rotate_left
    · obtain ⟨⟨hx0, hx1, hx2⟩, _⟩ := hx; go_simp; try with_reducible rfl
    refine wpAnyH_done (by kernel_rfl) ?_ _
    go_simp
    clear hS
    go_wp2
    go_roundw
    case rel => exact ⟨k + 1, ao3, cp3, by omega, by go_num, by rw [HLN.out], H3.out.1, H3.out.2⟩
    case measure => simp [intOf]; omega
end Go.Proofs.YtglcedhkbbckiaaGreat

namespace Go.Proofs.YtglcedhkbbckiaaGreat
open Go.RowKit

set_option maxRecDepth 100000 in
set_option maxHeartbeats 8000000 in
theorem model_is (x0 : World) (b : Nat) (nw nx bd : Int) (n : Nat) (F : Nat → Int) (S : Nat → Sto) (g : Nat) (P : Nat → Nat) (Bw nt : Nat) (T : Nat → Tx) (Y : Nat → Value) (v : Value) (R : Nat → Option Int) (ts : Int) (h : DonE x0 b nw nx bd n F S g P Bw nt T Y v x0) (hR : ∀ i, i < nt → DoneAt n F S (T i) (R i)) (hn : n ≤ 12) (hnt : nt ≤ 16) (hit : ∀ i, i < nt → 1 ≤ (T i).m ∧ (T i).m ≤ 12) (M : Prs) (hM : modN T (donesL R nt) ts (donesL R nt).length = M) :
    Calls Tryz.prog 55 #[.pointer (some ⟨b, 0, none⟩), .int .i64 ts] x0 fun e x' => e = .returned (.pointer (some ⟨x0.heap.size, 0, none⟩)) ∧ (∃ lo, x0.heap.size < lo ∧ RisL x' x0.heap.size lo M) ∧ Below x0.heap.size x0 x' := by
  obtain ⟨va, vc, rfl⟩ := h.txs.form
  have H0 : Hid (DonE x0 b nw nx bd n F S g P Bw nt T Y (.slice va nt vc) x0) := h
  have HRR : Hid ((∀ i, i < nt → DoneAt n F S (T i) (R i)) ∧ ∀ i, i < nt → 1 ≤ (T i).m ∧ (T i).m ≤ 12) := ⟨hR, hit⟩
  clear h hR hit
  go_enter Tryz.func55, Tryz.ntmps55
  go_wp2_with fail
  refine (filledP_nil _).mono ?_
  rintro e w1 ⟨rfl, r1, q1⟩
  have H1 : Hid (DonE w1 b nw nx bd n F S g P Bw nt T Y (.slice va nt vc) w1) := ⟨Below.refl _ _, H0.out.kb.later q1, H0.out.work.later q1, H0.out.txs.later q1⟩
  have R1 : Hid (Blk2 w1 x0.heap.size (.slice none 0 0) (.func (.func 96) #[] #[]) ∧ Below x0.heap.size x0 w1) := ⟨r1, q1⟩
  clear r1 q1
  go_wp2_with fail
  refine (dones_is w1 b nw nx bd n F S g P Bw nt T Y _ R H1.out HRR.out.1 hn hnt (fun i hi => (HRR.out.2 i hi).1)).mono ?_
  rintro e w2 ⟨do0, dc, rfl, hd2, q2⟩
  have HP : Hid (Places nt (donesL R nt)) := donesL_places R nt
  have hl16 : (donesL R nt).length ≤ 16 := Nat.le_trans (donesL_len R nt) hnt
  obtain ⟨D, hD⟩ : ∃ D, donesL R nt = D := ⟨_, rfl⟩
  rw [hD] at hd2 HP hl16 hM ⊢
  have HM : Hid (modN T D ts D.length = M) := hM
  have O2 : Hid (Own w2 w1.heap.size 85 2 D.length (rowL D) (.slice do0 D.length dc)) := hd2
  have hz : Hid (x0.heap.size < w1.heap.size ∧ w1.heap.size ≤ w2.heap.size) := ⟨R1.out.1.lt, q2.size⟩
  have Q2 : Hid (Below x0.heap.size x0 w2) := R1.out.2.trans (q2.mono R1.out.2.size)
  have L2 : Hid (RisL w2 x0.heap.size w2.heap.size [] ∧ OffB x0.heap.size w2.heap.size w2 w2) := ⟨⟨_, R1.out.1.later q2, Own.nil _ _ _ _ _⟩, OffB.refl _ _ _⟩
  have hlo : x0.heap.size < w2.heap.size := by have := hz.out; omega
  clear hd2 q2 hD hM R1 H1
  obtain ⟨lo, hlq⟩ : ∃ lo, w2.heap.size = lo := ⟨_, rfl⟩
  have hlw : lo ≤ w2.heap.size := by omega
  rw [hlq] at L2 hlo
  have HZ : Hid (w2.heap.size = lo) := hlq
  clear hlq
  go_wp2
  go_loopw [12] (fun i wr => ∃ k : Nat, k ≤ D.length ∧ i = .int .i64 k ∧ Hid (RisL wr x0.heap.size lo (modN T D ts k) ∧ OffB x0.heap.size lo w2 wr)) (fun i _ => D.length - (intOf i).toNat)
  case atStart => exact ⟨0, Nat.zero_le _, rfl, L2⟩
  case round =>
    clear L2
    obtain ⟨k, hk, rfl, HB⟩ := hrel
    by_cases hlt : k < D.length
    case neg =>
      obtain rfl : k = D.length := by omega
      rw [HM.out] at HB
      go_wp2
      go_ret
      exact ⟨rfl, ⟨lo, hlo, HB.out.1⟩, Q2.out.trans HB.out.2.1⟩
    have OD : Own wr w1.heap.size 85 2 D.length (rowL D) (.slice do0 D.length dc) := own_kept O2.out (fun j hj => by
      have h1 := own_in O2.out j hj
      have h2 := hz.out
      have h3 := HZ.out
      exact HB.out.2.2 j (by omega) (by omega))
    obtain ⟨gd, od, hdo, _, hgd, d0, d1⟩ := OD.row.1.at2 hlt
    subst hdo
    rw [rowL_key] at d0
    rw [rowL_val] at d1
    obtain ⟨p, hp, hpl⟩ := HP.out k hlt
    obtain ⟨cm, hcm⟩ : ∃ c, (D.getD k (0, 0)).2 = c := ⟨_, rfl⟩
    rw [hpl] at d0
    rw [hcm] at d1
    have HC : Hid ((D.getD k (0, 0)).1 = p ∧ (D.getD k (0, 0)).2 = cm) := ⟨hpl, hcm⟩
    obtain ⟨L, hL⟩ : ∃ L, modN T D ts k = L := ⟨_, rfl⟩
    have hLl : L.length ≤ 192 := by have := modN_len (ts := ts) HP.out (fun i hi => (HRR.out.2 i hi).2) k (by omega); rw [hL] at this; omega
    have HLL : Hid (modN T D ts k = L ∧ Rises L) := ⟨hL, hL ▸ modN_rises T D ts k⟩
    rw [hL] at HB
    have HA : Hid (∀ o : Obj, RisL (wr.alloc o) x0.heap.size lo L ∧ OffB x0.heap.size lo w2 (wr.alloc o)) := fun o => ⟨HB.out.1.later (below_alloc _ _), HB.out.2.later hlo hlw (below_alloc _ _)⟩
    clear hL hpl hcm OD
    by_cases hle : cm ≤ ts
    case neg =>
      have d2 : decide (cm ≤ ts) = false := decide_eq_false hle
      have HE : Hid (modN T D ts (k + 1) = L) := by unfold Hid; rw [modN, HC.out.2, if_neg hle]; exact HLL.out.1
      clear hle HC HLL HB
      go_wp2
      go_roundw
      case rel => exact ⟨k + 1, by omega, by go_num, by rw [HE.out]; exact HA.out _⟩
      case measure => simp [intOf]; omega
    have d2 : decide (cm ≤ ts) = true := decide_eq_true hle
    have QB : Hid (Below x0.heap.size x0 wr) := Q2.out.trans HB.out.2.1
    obtain ⟨gx, ox, hax, _, hgx, ⟨_, _, _, _, _, x5⟩, hrow, _⟩ := H0.out.txs.at hp
    subst hax
    have hm12 := (HRR.out.2 p hp).2
    obtain ⟨t, ht⟩ : ∃ t, T p = t := ⟨_, rfl⟩
    rw [ht] at hrow hm12
    have HE : Hid (modN T D ts (k + 1) = applyN L t.L t.m) := by unfold Hid; rw [modN, HC.out.2, if_pos hle, HC.out.1, HLL.out.1]; simp only [Int.toNat_natCast, ht]
    obtain ⟨y, hy⟩ : ∃ y, Y p = y := ⟨_, rfl⟩
    rw [hy] at x5 hrow
    obtain ⟨yo, yc, rfl⟩ := hrow.form
    have HRW : Hid (Row x0 0 3 t.m t.L (.slice yo t.m yc)) := hrow
    have hpn : (p : Int) < (nt : Int) := by omega
    have X5 : Hid (gx < x0.heap.size ∧ x0.cell? ⟨gx, ox + p * 6 + 5, none⟩ = some (.slice yo t.m yc)) := ⟨hgx, x5⟩
    have hS0 : Below x0.heap.size x0 (wr.alloc (.cells #[.int .i64 p, .int .i64 cm] 85)).drew := (QB.out.alloc QB.out.size _).drew
    have HW : Hid (RisL (wr.alloc (.cells #[.int .i64 p, .int .i64 cm] 85)).drew x0.heap.size lo L ∧ OffB x0.heap.size lo w2 (wr.alloc (.cells #[.int .i64 p, .int .i64 cm] 85)).drew) := ⟨(HA.out _).1.later (Below.refl _ _).drew, (HA.out _).2.later hlo hlw (Below.refl _ _).drew⟩
    have HZ0 : Hid ((wr.alloc (.cells #[.int .i64 p, .int .i64 cm] 85)).drew.cell? ⟨wr.heap.size, 0, none⟩ = some (.int .i64 p)) := (Blk2.new wr _ _ _).1.1
    clear hle HC ht hy hrow HB HA QB x5
    go_upto_region 6 with fail
    refine wp_region_held_drew (S := fun X : World => Below x0.heap.size x0 X) (by kernel_rfl) hS0 (fun hS => ?_)
    generalize (wr.alloc (.cells #[.int .i64 p, .int .i64 cm] 85)).drew = wa at hS HW HZ0 ⊢
    clear hS0 d0 d1
    refine tkH 0 ?_ hS (fun wx hx => ?_) ?_; rotate_left
    · obtain ⟨⟨hx0, hx1, hx2, hx3, hx4⟩, _⟩ := H0.out.kb.later hx; have hx6 := (hx.cell X5.out.1).trans X5.out.2; go_simp; try with_reducible rfl
    refine tkH 1 ?_ hS (fun wx hx => ?_) ?_; rotate_left
    · obtain ⟨⟨hx0, hx1, hx2, hx3, hx4⟩, _⟩ := H0.out.kb.later hx; have hx6 := (hx.cell X5.out.1).trans X5.out.2; go_simp; try with_reducible rfl
    refine tkH 2 ?_ hS (fun wx hx => ?_) ?_; rotate_left
    · obtain ⟨⟨hx0, hx1, hx2, hx3, hx4⟩, _⟩ := H0.out.kb.later hx; have hx6 := (hx.cell X5.out.1).trans X5.out.2; go_simp; try with_reducible rfl
    try simp only [Act.put, List.getElem_toArray, List.getElem_cons_zero, List.getElem_cons_succ, List.setIfInBounds_toArray, List.set_cons_succ, List.set_cons_zero]
    refine tkH 3 ?_ hS (fun wx hx => ?_) ?_; rotate_left
    · obtain ⟨⟨hx0, hx1, hx2, hx3, hx4⟩, _⟩ := H0.out.kb.later hx; have hx6 := (hx.cell X5.out.1).trans X5.out.2; go_simp; try with_reducible rfl
    refine tkH 4 ?_ hS (fun wx hx => ?_) ?_; rotate_left
    · obtain ⟨⟨hx0, hx1, hx2, hx3, hx4⟩, _⟩ := H0.out.kb.later hx; have hx6 := (hx.cell X5.out.1).trans X5.out.2; go_simp; try with_reducible rfl
    refine tkH 5 ?_ hS (fun wx hx => ?_) ?_; rotate_left
    · obtain ⟨⟨hx0, hx1, hx2, hx3, hx4⟩, _⟩ := H0.out.kb.later hx; have hx6 := (hx.cell X5.out.1).trans X5.out.2; go_simp; try with_reducible rfl
    try simp only [Act.put, List.getElem_toArray, List.getElem_cons_zero, List.getElem_cons_succ, List.setIfInBounds_toArray, List.set_cons_succ, List.set_cons_zero]
    refine rdH 6 (fun K hK => ?_)
    have z0 := HZ0.out
    go_simp
    refine hK.out _ _ hS (fun hS => ?_)
    clear hK K z0
    try simp only [Act.put, List.getElem_toArray, List.getElem_cons_zero, List.getElem_cons_succ, List.setIfInBounds_toArray, List.set_cons_succ, List.set_cons_zero]
    refine tkH 7 ?_ hS (fun wx hx => ?_) ?_; rotate_left
    · obtain ⟨⟨hx0, hx1, hx2, hx3, hx4⟩, _⟩ := H0.out.kb.later hx; have hx6 := (hx.cell X5.out.1).trans X5.out.2; go_simp; try with_reducible rfl
    refine tkH 8 ?_ hS (fun wx hx => ?_) ?_; rotate_left
    · obtain ⟨⟨hx0, hx1, hx2, hx3, hx4⟩, _⟩ := H0.out.kb.later hx; have hx6 := (hx.cell X5.out.1).trans X5.out.2; go_simp; try with_reducible rfl
    try simp only [Act.put, List.getElem_toArray, List.getElem_cons_zero, List.getElem_cons_succ, List.setIfInBounds_toArray, List.set_cons_succ, List.set_cons_zero]
    refine tkH 9 ?_ hS (fun wx hx => ?_) ?_; rotate_left
    · obtain ⟨⟨hx0, hx1, hx2, hx3, hx4⟩, _⟩ := H0.out.kb.later hx; have hx6 := (hx.cell X5.out.1).trans X5.out.2; go_simp; try with_reducible rfl
    try simp only [Act.put, List.getElem_toArray, List.getElem_cons_zero, List.getElem_cons_succ, List.setIfInBounds_toArray, List.set_cons_succ, List.set_cons_zero]
    refine rdH 10 (fun K hK => ?_)
    go_simp
    go_wp2_with fail
    refine (applyTo_lo L t.L t.m x0.heap.size lo hlo _ 0 x0 _ HRW.out hS (Nat.le_refl _) HW.out.1 (Nat.le_trans hlw HW.out.2.1.size) HLL.out.2 (by omega) hm12).mono ?_
    rintro e w3 ⟨rfl, o3, q3⟩
    rw [← HE.out] at o3
    have H3 : Hid (RisL w3 x0.heap.size lo (modN T D ts (k + 1)) ∧ OffB x0.heap.size lo w2 w3) := ⟨o3, HW.out.2.trans q3⟩
    have hS3 : Below x0.heap.size x0 w3 := hS.trans q3.1
    clear o3 q3 HW
    go_wp2_with fail
    refine hK.out _ _ hS3 (fun hS => ?_)
    clear hK K hS3
    refine wpAnyH_done (by kernel_rfl) ?_ _
    go_simp
    clear hS
    go_wp2
    go_roundw
    case rel => exact ⟨k + 1, by omega, by go_num, H3⟩
    case measure => simp [intOf]; omega
end Go.Proofs.YtglcedhkbbckiaaGreat

namespace Go.Proofs.YtglcedhkbbckiaaGreat
open Go.RowKit

/-- What ModelAt answers: a code and a list. -/
def MoAns (nw nx bd : Int) (nr : Nat) (F : Nat → Int) (n : Nat) (S : Nat → Sto) (nt : Nat) (T : Nat → Tx) (ts : Int) (c : Int) (L : Prs) : Prop :=
  (worldF nw nx bd nr F n S nt T ≠ 0 ∧ c = worldF nw nx bd nr F n S nt T ∧ L = []) ∨
  (worldF nw nx bd nr F n S nt T = 0 ∧ ¬ (0 ≤ ts ∧ ts ≤ 100000) ∧ c = 3 ∧ L = []) ∨
  (worldF nw nx bd nr F n S nt T = 0 ∧ (0 ≤ ts ∧ ts ≤ 100000) ∧ c = 0 ∧ ∃ R, (∀ i, i < nt → DoneAt nr F S (T i) (R i)) ∧ modN T (donesL R nt) ts (donesL R nt).length = L)
theorem world_dones {nw nx bd : Int} {nr : Nat} {F : Nat → Int} {n : Nat} {S : Nat → Sto} {nt : Nat} {T : Nat → Tx} (h : worldF nw nx bd nr F n S nt T = 0) : ∃ R : Nat → Option Int, ∀ i, i < nt → DoneAt nr F S (T i) (R i) := by
  have Z := world_fine h
  have hall : ∀ i, ∃ r, i < nt → DoneAt nr F S (T i) r := fun i => by
    by_cases hi : i < nt
    · obtain ⟨r, hr⟩ := DoneAt.get (S := S) (groupsF_zero Z.1).1 (Z.2.2 i hi).2
      exact ⟨r, fun _ => hr⟩
    · exact ⟨none, fun q => absurd q hi⟩
  exact Classical.axiomOfChoice hall
theorem MoAns.get (nw nx bd : Int) (nr : Nat) (F : Nat → Int) (n : Nat) (S : Nat → Sto) (nt : Nat) (T : Nat → Tx) (ts : Int) : ∃ c L, L.length ≤ 192 ∧ MoAns nw nx bd nr F n S nt T ts c L := by
  by_cases h : worldF nw nx bd nr F n S nt T = 0
  · by_cases q : 0 ≤ ts ∧ ts ≤ 100000
    · have Z := world_fine h
      obtain ⟨R, hR⟩ := world_dones h
      have hl := Nat.le_trans (donesL_len R nt) Z.2.1
      exact ⟨0, _, Nat.le_trans (modN_len (donesL_places R nt) (fun i hi => (Z.2.2 i hi).1.2) _ (Nat.le_refl _)) (by omega), Or.inr (Or.inr ⟨h, q, rfl, R, hR, rfl⟩)⟩
    · exact ⟨3, [], by simp, Or.inr (Or.inl ⟨h, q, rfl, rfl⟩)⟩
  · exact ⟨_, [], by simp, Or.inl ⟨h, rfl, rfl⟩⟩
theorem world_kinds {nw nx bd : Int} {nr : Nat} {F : Nat → Int} {n : Nat} {S : Nat → Sto} {nt : Nat} {T : Nat → Tx} (h : worldF nw nx bd nr F n S nt T = 0) : ∀ i, i < nt → ∀ k, k < (T i).m → 1 ≤ (T i).L (k * 3 + 1) ∧ (T i).L (k * 3 + 1) ≤ 3 := fun i hi => by
  refine txF_kinds ?_
  unfold worldF at h
  split at h
  · omega
  split at h
  · rename_i q; exact absurd h q
  split at h
  · rename_i q; exact absurd h q
  split at h
  · omega
  have := scan_zero h i hi
  unfold placeF at this
  split at this
  · rename_i q; exact absurd this q
  · rename_i q; exact Decidable.not_not.1 q
set_option maxRecDepth 100000 in
set_option maxHeartbeats 8000000 in
theorem specModelAt_is (nw nx bd : Int) (nr : Nat) (F : Nat → Int) (n : Nat) (S : Nat → Sto) (V : Nat → Nat → Value) (vr vs : Value) (nt : Nat) (T : Nat → Tx) (X : Nat → Value) (vt : Value) (ts : Int) (B : Nat) (c : Int) (L : Prs) (w : World) (h : Grs w B nr F n S V vr vs) (hx : Txs w B nt T X vt) (hr : nr ≤ 9223372036854775807) (hn : n ≤ 9223372036854775807) (ht : nt ≤ 9223372036854775807) (hm : ∀ i, i < nt → (T i).m ≤ 9223372036854775807) (hA : MoAns nw nx bd nr F n S nt T ts c L) :
    Calls Tryz.prog 24 #[.agg #[.int .i64 nw, .int .i64 nx, .int .i64 bd, vr, vs, vt], .int .i64 ts] w (ResRow 2 w c L.length (rowL L)) := by
  obtain ⟨a0, c0, a1, c1, rfl, rfl⟩ := h.form
  obtain ⟨a2, c2, rfl⟩ := hx.form
  have HG : Hid (Grs w 0 nr F n S V (.slice a0 nr c0) (.slice a1 n c1) ∧ Txs w 0 nt T X (.slice a2 nt c2)) := ⟨h.mono (Nat.zero_le _), hx.mono (Nat.zero_le _)⟩
  have HM : Hid (∀ i, i < nt → (T i).m ≤ 9223372036854775807) := hm
  have H0 : Hid (LiesD ((w.alloc (.cells #[.int .i64 nw, .int .i64 nx, .int .i64 bd, .slice a0 nr c0, .slice a1 n c1, .slice a2 nt c2] 42)).alloc (.cells #[.int .i64 0, .slice none 0 0] 57)) w.heap.size nw nx bd nr F n S V (.slice a0 nr c0) (.slice a1 n c1) nt T X (.slice a2 nt c2) ∧ Blk2 ((w.alloc (.cells #[.int .i64 nw, .int .i64 nx, .int .i64 bd, .slice a0 nr c0, .slice a1 n c1, .slice a2 nt c2] 42)).alloc (.cells #[.int .i64 0, .slice none 0 0] 57)) (w.heap.size + 1) (.int .i64 0) (.slice none 0 0) ∧ Below w.heap.size w ((w.alloc (.cells #[.int .i64 nw, .int .i64 nx, .int .i64 bd, .slice a0 nr c0, .slice a1 n c1, .slice a2 nt c2] 42)).alloc (.cells #[.int .i64 0, .slice none 0 0] 57))) := ⟨⟨(Blk6.new w _ _ _ _ _ _ _).alloc _, ((h.mono (Nat.zero_le _)).alloc _).alloc _, ((hx.mono (Nat.zero_le _)).alloc _).alloc _⟩, by have := Blk2.new (w.alloc (.cells #[.int .i64 nw, .int .i64 nx, .int .i64 bd, .slice a0 nr c0, .slice a1 n c1, .slice a2 nt c2] 42)) (.int .i64 0) (.slice none 0 0) 57; simpa using this, (below_alloc _ _).alloc (by simp) _⟩
  clear h hx hm
  obtain ⟨f, E⟩ : ∃ f, Hid (worldF nw nx bd nr F n S nt T = f) := ⟨_, rfl⟩
  rcases hA with ⟨h1, rfl, rfl⟩ | ⟨h1, hts, rfl, rfl⟩ | ⟨h1, hts, rfl, R, hR, hL⟩
  · rw [E.out] at h1
    have d : (f != 0) = true := bne_iff_ne.2 h1
    rw [E.out]
    clear h1
    go_enter Tryz.func24, Tryz.ntmps24
    go_wp2_with fail
    refine (l10Fault_any _ nw nx bd nr F n S V _ _ nt T X _ _ H0.out.1 hr hn ht HM.out).mono ?_
    rw [E.out]
    rintro e w1 ⟨rfl, q1⟩
    have hb := H0.out.2.1.later q1
    have HB : Hid (Below w.heap.size w w1) := H0.out.2.2.trans (q1.mono (by simp; omega))
    obtain ⟨⟨b0, b1⟩, y0, y1⟩ := hb
    clear q1 H0
    go_wp2
    refine bodyPost_ret (v := .agg #[.int .i64 f, .slice none 0 0]) (by simp [results, Tryz.results24, go_sem, b0, b1]) rfl ?_
    exact res_noneD rfl ((HB.out.setCell (by simp) _).setCell (by simp) _)
  · obtain rfl : f = 0 := E.out.symm.trans h1
    clear h1
    have HT : Hid (decide (0 ≤ ts ∧ ts ≤ 100000) = false) := decide_eq_false hts
    clear hts
    go_enter Tryz.func24, Tryz.ntmps24
    go_wp2_with fail
    refine (l10Fault_any _ nw nx bd nr F n S V _ _ nt T X _ _ H0.out.1 hr hn ht HM.out).mono ?_
    rw [E.out]
    rintro e w1 ⟨rfl, q1⟩
    have H1 : Hid (Blk2 w1 (w.heap.size + 1) (.int .i64 0) (.slice none 0 0) ∧ Below w.heap.size w w1) := ⟨H0.out.2.1.later q1, H0.out.2.2.trans (q1.mono (by simp; omega))⟩
    clear q1 H0
    go_wp2_with fail
    refine (l9Time_is ts false HT.out _).mono ?_
    rintro e w2 ⟨rfl, hw2⟩
    obtain rfl := hw2.symm
    obtain ⟨⟨b0, b1⟩, y0, y1⟩ := H1.out.1
    go_wp2
    refine bodyPost_ret (v := .agg #[.int .i64 3, .slice none 0 0]) (by simp [results, Tryz.results24, go_sem, b0, b1]) rfl ?_
    exact res_noneD rfl ((H1.out.2.setCell (by simp) _).setCell (by simp) _)
  · have Z := world_fine h1
    have ZG := groupsF_zero Z.1
    have ZK := world_kinds h1
    obtain rfl : f = 0 := E.out.symm.trans h1
    have HT : Hid (decide (0 ≤ ts ∧ ts ≤ 100000) = true) := decide_eq_true hts
    have HR : Hid ((∀ i, i < nt → DoneAt nr F S (T i) (R i)) ∧ modN T (donesL R nt) ts (donesL R nt).length = L) := ⟨hR, hL⟩
    have HZ : Hid ((nr ≤ 6 ∧ n = nr) ∧ (∀ i, i < n → (S i).nl ≤ 200 ∧ (S i).nw ≤ 200) ∧ nt ≤ 16 ∧ (∀ i, i < nt → 1 ≤ (T i).m ∧ (T i).m ≤ 12) ∧ ∀ i, i < nt → ∀ k, k < (T i).m → 1 ≤ (T i).L (k * 3 + 1) ∧ (T i).L (k * 3 + 1) ≤ 3) := ⟨⟨ZG.1.n6, ZG.2.1⟩, fun i hi => (storeF_zero (ZG.2.2.1 i hi).1).1.2, Z.2.1, fun i hi => (Z.2.2 i hi).1, ZK⟩
    clear hR hL h1 Z ZG ZK hts
    go_enter Tryz.func24, Tryz.ntmps24
    go_wp2_with fail
    refine (l10Fault_any _ nw nx bd nr F n S V _ _ nt T X _ _ H0.out.1 hr hn ht HM.out).mono ?_
    rw [E.out]
    rintro e w1 ⟨rfl, q1⟩
    have H1 : Hid (LiesD w1 w.heap.size nw nx bd nr F n S V (.slice a0 nr c0) (.slice a1 n c1) nt T X (.slice a2 nt c2) ∧ Blk2 w1 (w.heap.size + 1) (.int .i64 0) (.slice none 0 0) ∧ Below w.heap.size w w1) := ⟨H0.out.1.later q1, H0.out.2.1.later q1, H0.out.2.2.trans (q1.mono (by simp; omega))⟩
    clear q1 H0
    go_wp2_with fail
    refine (l9Time_is ts true HT.out _).mono ?_
    rintro e w2 ⟨rfl, hw2⟩
    obtain rfl := hw2.symm
    go_wp2_with fail
    refine (l11Model_is _ nw nx bd nr F n S V _ _ nt T X _ R ts _ H1.out.1 HZ.out.1.1 HZ.out.1.2 HZ.out.2.1 HZ.out.2.2.1 HZ.out.2.2.2.1 HZ.out.2.2.2.2 HR.out.1 L HR.out.2).mono ?_
    rintro e w4 ⟨ro, rc, rfl, hr2, q4⟩
    have HO : Hid (Own w4 w1.heap.size 148 2 L.length (rowL L) (.slice ro L.length rc) ∧ Below w.heap.size w w4) := ⟨hr2, H1.out.2.2.trans (q4.mono H1.out.2.2.size)⟩
    have hbw : w.heap.size + 1 < w1.heap.size := H1.out.2.1.lt
    obtain ⟨⟨x0, x1⟩, z0, z1⟩ := H1.out.2.1.later q4
    clear hr2 q4
    obtain ⟨LN, hLN⟩ : ∃ LN, L.length = LN := ⟨_, rfl⟩
    have HLN : Hid (L.length = LN) := hLN
    rw [hLN] at HO ⊢
    clear hLN
    go_wp2
    refine bodyPost_ret (v := .agg #[.int .i64 0, .slice ro LN rc]) (by simp [results, Tryz.results24, go_sem, x0, x1]) rfl ?_
    rw [HLN.out]
    refine ⟨ro, rc, rfl, ?_, ?_, ?_⟩
    · exact ((HO.out.1.row.1.far (Or.inl (by simp; omega)) _).far (Or.inl (by simp; omega)) _).mono (by omega)
    · exact (HO.out.1.row.2.far _ _).far _ _
    · exact (HO.out.2.setCell (by simp) _).setCell (by simp) _
set_option maxRecDepth 100000 in
set_option maxHeartbeats 8000000 in
theorem implModelAt_is (nw nx bd : Int) (nr : Nat) (F : Nat → Int) (n : Nat) (S : Nat → Sto) (V : Nat → Nat → Value) (vr vs : Value) (nt : Nat) (T : Nat → Tx) (X : Nat → Value) (vt : Value) (ts : Int) (B : Nat) (c : Int) (L : Prs) (w : World) (h : Grs w B nr F n S V vr vs) (hx : Txs w B nt T X vt) (hr : nr ≤ 9223372036854775807) (hn : n ≤ 9223372036854775807) (ht : nt ≤ 9223372036854775807) (hm : ∀ i, i < nt → (T i).m ≤ 9223372036854775807) (hA : MoAns nw nx bd nr F n S nt T ts c L) :
    Calls Tryz.prog 25 #[.agg #[.int .i64 nw, .int .i64 nx, .int .i64 bd, vr, vs, vt], .int .i64 ts] w (ResRow 2 w c L.length (rowL L)) := by
  obtain ⟨a0, c0, a1, c1, rfl, rfl⟩ := h.form
  obtain ⟨a2, c2, rfl⟩ := hx.form
  have HG : Hid (Grs w 0 nr F n S V (.slice a0 nr c0) (.slice a1 n c1) ∧ Txs w 0 nt T X (.slice a2 nt c2)) := ⟨h.mono (Nat.zero_le _), hx.mono (Nat.zero_le _)⟩
  have HM : Hid (∀ i, i < nt → (T i).m ≤ 9223372036854775807) := hm
  have H0 : Hid (LiesD ((w.alloc (.cells #[.int .i64 nw, .int .i64 nx, .int .i64 bd, .slice a0 nr c0, .slice a1 n c1, .slice a2 nt c2] 42)).alloc (.cells #[.int .i64 0, .slice none 0 0] 57)) w.heap.size nw nx bd nr F n S V (.slice a0 nr c0) (.slice a1 n c1) nt T X (.slice a2 nt c2) ∧ Blk2 ((w.alloc (.cells #[.int .i64 nw, .int .i64 nx, .int .i64 bd, .slice a0 nr c0, .slice a1 n c1, .slice a2 nt c2] 42)).alloc (.cells #[.int .i64 0, .slice none 0 0] 57)) (w.heap.size + 1) (.int .i64 0) (.slice none 0 0) ∧ Below w.heap.size w ((w.alloc (.cells #[.int .i64 nw, .int .i64 nx, .int .i64 bd, .slice a0 nr c0, .slice a1 n c1, .slice a2 nt c2] 42)).alloc (.cells #[.int .i64 0, .slice none 0 0] 57))) := ⟨⟨(Blk6.new w _ _ _ _ _ _ _).alloc _, ((h.mono (Nat.zero_le _)).alloc _).alloc _, ((hx.mono (Nat.zero_le _)).alloc _).alloc _⟩, by have := Blk2.new (w.alloc (.cells #[.int .i64 nw, .int .i64 nx, .int .i64 bd, .slice a0 nr c0, .slice a1 n c1, .slice a2 nt c2] 42)) (.int .i64 0) (.slice none 0 0) 57; simpa using this, (below_alloc _ _).alloc (by simp) _⟩
  clear h hx hm
  obtain ⟨f, E⟩ : ∃ f, Hid (worldF nw nx bd nr F n S nt T = f) := ⟨_, rfl⟩
  obtain ⟨⟨k0, k1, k2, k3, k4, k5⟩, _⟩ := H0.out.1.1
  rcases hA with ⟨h1, rfl, rfl⟩ | ⟨h1, hts, rfl, rfl⟩ | ⟨h1, hts, rfl, R, hR, hL⟩
  · rw [E.out] at h1
    have d : (f != 0) = true := bne_iff_ne.2 h1
    rw [E.out]
    clear h1
    go_enter Tryz.func25, Tryz.ntmps25
    go_wp2_with fail
    refine (implWorldFault_any nw nx bd nr F n S V _ _ nt T X _ 0 _ H0.out.1.2.1 H0.out.1.2.2 hr hn ht).mono ?_
    rw [E.out]
    rintro e w1 ⟨rfl, q1⟩
    have hb := H0.out.2.1.later q1
    have HB : Hid (Below w.heap.size w w1) := H0.out.2.2.trans (q1.mono (by simp; omega))
    obtain ⟨⟨b0, b1⟩, y0, y1⟩ := hb
    clear q1 H0 k0 k1 k2 k3 k4 k5
    go_wp2
    refine bodyPost_ret (v := .agg #[.int .i64 f, .slice none 0 0]) (by simp [results, Tryz.results25, go_sem, b0, b1]) rfl ?_
    exact res_noneD rfl ((HB.out.setCell (by simp) _).setCell (by simp) _)
  · obtain rfl : f = 0 := E.out.symm.trans h1
    clear h1
    go_enter Tryz.func25, Tryz.ntmps25
    go_wp2_with fail
    refine (implWorldFault_any nw nx bd nr F n S V _ _ nt T X _ 0 _ H0.out.1.2.1 H0.out.1.2.2 hr hn ht).mono ?_
    rw [E.out]
    rintro e w1 ⟨rfl, q1⟩
    have H1 : Hid (Blk2 w1 (w.heap.size + 1) (.int .i64 0) (.slice none 0 0) ∧ Below w.heap.size w w1) := ⟨H0.out.2.1.later q1, H0.out.2.2.trans (q1.mono (by simp; omega))⟩
    clear q1 H0 k0 k1 k2 k3 k4 k5
    obtain ⟨⟨b0, b1⟩, y0, y1⟩ := H1.out.1
    by_cases hneg : ts < 0
    · have d0 : decide (ts < 0) = true := decide_eq_true hneg
      clear hts hneg
      go_wp2
      refine bodyPost_ret (v := .agg #[.int .i64 3, .slice none 0 0]) (by simp [results, Tryz.results25, go_sem, b0, b1]) rfl ?_
      exact res_noneD rfl ((H1.out.2.setCell (by simp) _).setCell (by simp) _)
    · have d0 : decide (ts < 0) = false := decide_eq_false hneg
      have d1 : decide (ts > 100000) = true := decide_eq_true (by omega)
      have d1' : decide (100000 < ts) = true := decide_eq_true (by omega)
      clear hts hneg
      go_wp2
      refine bodyPost_ret (v := .agg #[.int .i64 3, .slice none 0 0]) (by simp [results, Tryz.results25, go_sem, b0, b1]) rfl ?_
      exact res_noneD rfl ((H1.out.2.setCell (by simp) _).setCell (by simp) _)
  · have Z := world_fine h1
    have ZG := groupsF_zero Z.1
    have ZK := world_kinds h1
    obtain rfl : f = 0 := E.out.symm.trans h1
    have d0 : decide (ts < 0) = false := decide_eq_false (by omega)
    have d1 : decide (ts > 100000) = false := decide_eq_false (by omega)
    have d1' : decide (100000 < ts) = false := decide_eq_false (by omega)
    have HR : Hid ((∀ i, i < nt → DoneAt n F S (T i) (R i)) ∧ modN T (donesL R nt) ts (donesL R nt).length = L) := ⟨by rw [ZG.2.1]; exact hR, hL⟩
    have HZ : Hid ((n = nr ∧ n ≤ 12) ∧ (∀ i, i < n → storeF (S i) = 0) ∧ nt ≤ 16 ∧ ∀ i, i < nt → 1 ≤ (T i).m ∧ (T i).m ≤ 12) := ⟨⟨ZG.2.1, by have := ZG.1.n6; have := ZG.2.1; omega⟩, fun i hi => (ZG.2.2.1 i hi).1, Z.2.1, fun i hi => (Z.2.2 i hi).1⟩
    clear hR hL h1 Z ZG ZK hts
    go_enter Tryz.func25, Tryz.ntmps25
    go_wp2_with fail
    refine (implWorldFault_any nw nx bd nr F n S V _ _ nt T X _ 0 _ H0.out.1.2.1 H0.out.1.2.2 hr hn ht).mono ?_
    rw [E.out]
    rintro e w1 ⟨rfl, q1⟩
    have H1 : Hid (LiesD w1 w.heap.size nw nx bd nr F n S V (.slice a0 nr c0) (.slice a1 n c1) nt T X (.slice a2 nt c2) ∧ Blk2 w1 (w.heap.size + 1) (.int .i64 0) (.slice none 0 0) ∧ Below w.heap.size w w1) := ⟨H0.out.1.later q1, H0.out.2.1.later q1, H0.out.2.2.trans (q1.mono (by simp; omega))⟩
    clear q1 H0 k0 k1 k2 k3 k4 k5
    obtain ⟨⟨k0, k1, k2, k3, k4, k5⟩, _⟩ := H1.out.1.1
    go_wp2_with fail
    refine (workOn_is nw nx bd nr F n S V _ _ nt T X _ 0 _ H1.out.1.2.1 H1.out.1.2.2 HZ.out.2.1 HZ.out.1.1 HZ.out.1.2 HZ.out.2.2.1 HZ.out.2.2.2).mono ?_
    rintro e w2 ⟨b, B2, g, P, Y, v, rfl, hW⟩
    have HD : Hid (DonE w2 b nw nx bd n F S g P w1.heap.size nt T Y v w2) := ⟨Below.refl _ _, hW.kb, hW.work, hW.txs.txs.mono (Nat.zero_le _)⟩
    have H2 : Hid (Blk2 w2 (w.heap.size + 1) (.int .i64 0) (.slice none 0 0) ∧ Below w.heap.size w w2) := ⟨H1.out.2.1.later hW.below, H1.out.2.2.trans (hW.below.mono H1.out.2.2.size)⟩
    clear hW H1 k0 k1 k2 k3 k4 k5
    go_wp2_with fail
    refine (model_is w2 b nw nx bd n F S g P w1.heap.size nt T Y v R ts HD.out HR.out.1 HZ.out.1.2 HZ.out.2.2.1 HZ.out.2.2.2 L HR.out.2).mono ?_
    rintro e w4 ⟨rfl, ⟨lo, hlo, rv, hbx, hr2⟩, q4⟩
    obtain ⟨ro, rc, rfl⟩ := hr2.form
    have HO : Hid (Own w4 w2.heap.size 148 2 L.length (rowL L) (.slice ro L.length rc) ∧ Below w.heap.size w w4) := ⟨hr2.mono (by omega), H2.out.2.trans (q4.mono H2.out.2.size)⟩
    have hbw : w.heap.size + 1 < w2.heap.size := H2.out.1.lt
    obtain ⟨⟨x0, x1⟩, z0, z1⟩ := H2.out.1.later q4
    obtain ⟨⟨v0, v1⟩, _, _⟩ := hbx
    clear hr2 q4 hlo
    obtain ⟨LN, hLN⟩ : ∃ LN, L.length = LN := ⟨_, rfl⟩
    have HLN : Hid (L.length = LN) := hLN
    rw [hLN] at HO ⊢
    rw [hLN] at v0
    clear hLN
    go_wp2
    refine bodyPost_ret (v := .agg #[.int .i64 0, .slice ro LN rc]) (by simp [results, Tryz.results25, go_sem, x0, x1]) rfl ?_
    rw [HLN.out]
    refine ⟨ro, rc, rfl, ?_, ?_, ?_⟩
    · exact ((HO.out.1.row.1.far (Or.inl (by simp; omega)) _).far (Or.inl (by simp; omega)) _).mono (by omega)
    · exact (HO.out.1.row.2.far _ _).far _ _
    · exact (HO.out.2.setCell (by simp) _).setCell (by simp) _
end Go.Proofs.YtglcedhkbbckiaaGreat

namespace Go.Proofs.YtglcedhkbbckiaaGreat
open Go.RowKit

set_option maxHeartbeats 1000000 in
theorem eqPairsResult_same (c : Int) (n : Nat) (a b : Option Addr) (p q : Nat) (Ba Bb : Nat) (F : Nat → Int) (w : World) (ha : Row w Ba 2 n F (.slice a n p)) (hb : Row w Bb 2 n F (.slice b n q)) (hn : n ≤ 1048576) :
    Calls Tryz.prog 26 #[.agg #[.int .i64 c, .slice a n p], .agg #[.int .i64 c, .slice b n q]] w fun e w' => e = .returned (.bool true) ∧ Below w.heap.size w w' := by
  have HA : Hid (Row w Ba 2 n F (.slice a n p) ∧ Row w Bb 2 n F (.slice b n q)) := ⟨ha, hb⟩
  clear ha hb
  go_enter Tryz.func26, Tryz.ntmps26
  go_wp2_with fail
  refine (eqPairS_same _ _ Ba Bb n F _ ((HA.out.1.alloc _).alloc _) ((HA.out.2.alloc _).alloc _) hn).mono ?_
  rintro e w1 ⟨rfl, q1⟩
  have Q : Hid (Below w.heap.size w w1) := ((below_alloc _ _).alloc (by simp) _).trans (q1.mono (by simp; omega))
  clear q1
  go_wp2
  go_ret
  exact ⟨rfl, Q.out⟩
set_option maxHeartbeats 1000000 in
theorem markPairsResult_any (c : Int) (n : Nat) (a : Option Addr) (p : Nat) (B : Nat) (F : Nat → Int) (w : World) (h : Row w B 2 n F (.slice a n p)) (hf : Free w (n * 2) (.slice a n p)) (hn : n ≤ 1048576) :
    Calls Tryz.prog 27 #[.agg #[.int .i64 c, .slice a n p], .int .i64 1] w fun e w' => e = .returned (.int .i64 (1 + n * 2)) ∧ Row w' B 2 n (fun p => 1 + (p : Nat)) (.slice a n p) ∧ w.grownBy w' (turn n (.slice a n p)) := by
  have HA : Hid (Row w B 2 n F (.slice a n p) ∧ Free w (n * 2) (.slice a n p)) := ⟨h, hf⟩
  clear h hf
  go_enter Tryz.func27, Tryz.ntmps27
  go_wp2_with fail
  refine (markPairS_turn _ B n F 1 _ (HA.out.1.alloc _) (HA.out.2.ofRow HA.out.1 (below_alloc _ _)) hn (by omega) (by omega)).mono ?_
  rintro e w1 ⟨rfl, r1, _, g1⟩
  have Q : Hid (w.grownBy w1 (turn n (.slice a n p))) := ⟨g1.os, g1.tape, g1.output, Nat.le_trans (by simp) g1.size, fun k hk hne => (g1.block k (by simp; omega) hne).trans ((below_alloc w _).block k hk)⟩
  have R : Hid (Row w1 B 2 n (fun p => 1 + (p : Nat)) (.slice a n p)) := r1
  clear r1 g1
  go_wp2
  go_ret
  exact ⟨rfl, R.out, Q.out⟩
set_option maxHeartbeats 1000000 in
theorem heldPairsResult_any (c : Int) (n : Nat) (a : Option Addr) (p : Nat) (B : Nat) (w : World) (h : Row w B 2 n (fun p => 1 + (p : Nat)) (.slice a n p)) (hn : n ≤ 1048576) :
    Calls Tryz.prog 28 #[.agg #[.int .i64 c, .slice a n p], .int .i64 1] w fun e w' => e = .returned (.int .i64 (1 + n * 2)) ∧ Below w.heap.size w w' := by
  have HA : Hid (Row w B 2 n (fun p => 1 + (p : Nat)) (.slice a n p)) := h
  clear h
  go_enter Tryz.func28, Tryz.ntmps28
  go_wp2_with fail
  refine (heldPairS_any _ B n 1 _ (HA.out.alloc _) hn (by omega) (by omega)).mono ?_
  rintro e w1 ⟨rfl, rfl⟩
  have hnn : decide ((1 : Int) + n * 2 < 0) = false := decide_eq_false (by omega)
  go_wp2
  go_ret
  exact ⟨rfl, below_alloc _ _⟩
end Go.Proofs.YtglcedhkbbckiaaGreat

namespace Go.Proofs.YtglcedhkbbckiaaGreat
open Go.RowKit

set_option maxRecDepth 100000 in
set_option maxHeartbeats 8000000 in
theorem modelAt_walk (nw nx bd : Int) (nr : Nat) (F : Nat → Int) (n : Nat) (S : Nat → Sto) (V : Nat → Nat → Value) (vr vs : Value) (nt : Nat) (T : Nat → Tx) (X : Nat → Value) (vt : Value) (ts : Int) (w : World) (h : Grs w 0 nr F n S V vr vs) (hx : Txs w 0 nt T X vt) (hr : nr ≤ 9223372036854775807) (hn : n ≤ 9223372036854775807) (hs : ∀ i, i < n → BigS (S i)) (hnt : nt ≤ 9223372036854775807) (hm : ∀ i, i < nt → (T i).m ≤ 9223372036854775807) :
    Calls Tryz.prog 7 #[.agg #[.int .i64 nw, .int .i64 nx, .int .i64 bd, vr, vs, vt], .int .i64 ts] w fun e w' => e = .returned (.bool true) ∧ Below w.heap.size w w' := by
  obtain ⟨a0, c0, a1, c1, rfl, rfl⟩ := h.form
  obtain ⟨a2, c2, rfl⟩ := hx.form
  have HG : Hid (Grs w 0 nr F n S V (.slice a0 nr c0) (.slice a1 n c1) ∧ Txs w 0 nt T X (.slice a2 nt c2)) := ⟨h, hx⟩
  have HN : Hid ((∀ i, i < n → BigS (S i)) ∧ ∀ i, i < nt → (T i).m ≤ 9223372036854775807) := ⟨hs, hm⟩
  have H : Hid (Blk6 (w.alloc (.cells #[.int .i64 nw, .int .i64 nx, .int .i64 bd, .slice a0 nr c0, .slice a1 n c1, .slice a2 nt c2] 30)) w.heap.size (.int .i64 nw) (.int .i64 nx) (.int .i64 bd) (.slice a0 nr c0) (.slice a1 n c1) (.slice a2 nt c2) ∧ Below w.heap.size w (w.alloc (.cells #[.int .i64 nw, .int .i64 nx, .int .i64 bd, .slice a0 nr c0, .slice a1 n c1, .slice a2 nt c2] 30))) := ⟨Blk6.new w _ _ _ _ _ _ _, below_alloc _ _⟩
  clear h hx hs hm
  obtain ⟨c, L, hL16, hans⟩ := MoAns.get nw nx bd nr F n S nt T ts
  obtain ⟨G, hG⟩ : ∃ G, rowL L = G := ⟨_, rfl⟩
  obtain ⟨m, hmm⟩ : ∃ m, L.length = m := ⟨_, rfl⟩
  rw [hmm] at hL16
  have hm : m ≤ 1048576 := by omega
  have hnn : decide ((1 : Int) + m * 2 < 0) = false := decide_eq_false (by omega)
  have HF : Hid (∀ (U : Nat → Nat → Value) (ur us : Value) (Y : Nat → Value) (ut : Value) (x : World), Grs x 0 nr F n S U ur us → Txs x 0 nt T Y ut → nr ≤ 1048576 → n ≤ 1048576 → nt ≤ 1048576 → (∀ i, i < nt → (T i).m ≤ 1048576) → Calls Tryz.prog 24 #[.agg #[.int .i64 nw, .int .i64 nx, .int .i64 bd, ur, us, ut], .int .i64 ts] x (ResRow 2 x c m G) ∧ Calls Tryz.prog 25 #[.agg #[.int .i64 nw, .int .i64 nx, .int .i64 bd, ur, us, ut], .int .i64 ts] x (ResRow 2 x c m G)) := fun U ur us Y ut x q1 q2 b1 b2 b3 b4 => by
    rw [← hG, ← hmm]
    exact ⟨specModelAt_is nw nx bd nr F n S U ur us nt T Y ut ts 0 c L x q1 q2 (by omega) (by omega) (by omega) (fun i hi => by have := b4 i hi; omega) hans, implModelAt_is nw nx bd nr F n S U ur us nt T Y ut ts 0 c L x q1 q2 (by omega) (by omega) (by omega) (fun i hi => by have := b4 i hi; omega) hans⟩
  clear hans hG hmm hL16
  go_enter Tryz.func7, Tryz.ntmps7
  go_wp2_with fail
  refine (szWorld_any nw nx bd nr F n S V _ _ nt T X _ 0 _ (HG.out.1.alloc _) (HG.out.2.alloc _) hr hn HN.out.1 hnt HN.out.2).mono ?_
  rintro e w1 ⟨r, rfl, hA, q1⟩
  have H1 : Hid (Blk6 w1 w.heap.size (.int .i64 nw) (.int .i64 nx) (.int .i64 bd) (.slice a0 nr c0) (.slice a1 n c1) (.slice a2 nt c2) ∧ Below w.heap.size w w1) := ⟨H.out.1.later q1, H.out.2.trans (q1.mono H.out.2.size)⟩
  clear q1 H
  rcases hA with rfl | ⟨h1, ⟨h2, h3, hsum, h4⟩, h5, hsux, h6⟩
  · go_wp2
    go_ret
    exact ⟨rfl, H1.out.2⟩
  have HB : Hid ((nr ≤ 1048576 ∧ n ≤ 1048576 ∧ ∀ i, i < n → SmallS (S i)) ∧ nt ≤ 1048576 ∧ ∀ i, i < nt → (T i).m ≤ 1048576) := ⟨⟨h2, h3, h4⟩, h5, h6⟩
  have HSU : Hid (sumN (sizeT S) n ≤ 1048576 ∧ sumN (sizeX T) nt ≤ 1048576) := ⟨hsum, hsux⟩
  have dr : decide (r < 0) = false := decide_eq_false (by omega)
  clear h1 h2 h3 h4 h5 h6 hr hn HN hnt hsum hsux
  obtain ⟨⟨p0, p1, p2, p3, p4, p5⟩, _⟩ := H1.out.1
  go_wp2_with fail
  refine (toWorld_any nw nx bd nr F n S V _ _ nt T X _ 0 _ (HG.out.1.later H1.out.2) (HG.out.2.later H1.out.2) HB.out.1 HB.out.2).mono ?_
  intro e w2 hN2
  obtain ⟨ra, rc, g, U, z, gt, Y, zt, rfl, o2, q2⟩ := hN2.own
  have H2 : Hid (Blk6 w2 w.heap.size (.int .i64 nw) (.int .i64 nx) (.int .i64 bd) (.slice a0 nr c0) (.slice a1 n c1) (.slice a2 nt c2) ∧ Below w.heap.size w w2) := ⟨H1.out.1.later q2, H1.out.2.trans (q2.mono H1.out.2.size)⟩
  have G2 := HF.out _ _ _ _ _ _ o2.grs.1 o2.grs.2 HB.out.1.1 HB.out.1.2.1 HB.out.2.1 HB.out.2.2
  clear q2 hN2 o2 H1 p0 p1 p2 p3 p4 p5
  go_wp2_with fail
  refine G2.1.mono ?_
  clear G2
  rintro e w3 ⟨ow, pw, rfl, rw3, _, q3⟩
  have H3 : Hid (Blk6 w3 w.heap.size (.int .i64 nw) (.int .i64 nx) (.int .i64 bd) (.slice a0 nr c0) (.slice a1 n c1) (.slice a2 nt c2) ∧ Below w.heap.size w w3) := ⟨H2.out.1.later q3, H2.out.2.trans (q3.mono H2.out.2.size)⟩
  have P3 : Hid (((Blk6 (w3.alloc (.cells #[.int .i64 c, .slice ow m pw] 57)) w.heap.size (.int .i64 nw) (.int .i64 nx) (.int .i64 bd) (.slice a0 nr c0) (.slice a1 n c1) (.slice a2 nt c2) ∧ Below w.heap.size w (w3.alloc (.cells #[.int .i64 c, .slice ow m pw] 57))) ∧ Blk2 (w3.alloc (.cells #[.int .i64 c, .slice ow m pw] 57)) w3.heap.size (.int .i64 c) (.slice ow m pw)) ∧ Row (w3.alloc (.cells #[.int .i64 c, .slice ow m pw] 57)) w.heap.size 2 m G (.slice ow m pw)) := ⟨⟨⟨H3.out.1.alloc _, H3.out.2.alloc H3.out.2.size _⟩, Blk2.new w3 _ _ _⟩, (rw3.mono H2.out.2.size).alloc _⟩
  have LW : Hid (0 < m → ∀ k, (Value.slice ow m pw).ownBlock = some k → k < w3.heap.size) := fun h0 k hk => (rw3.lt h0 k hk).2
  have z3 : Hid (w.heap.size < w3.heap.size) := H3.out.1.lt
  clear q3 rw3 H2 H3
  obtain ⟨⟨p0, p1, p2, p3, p4, p5⟩, _⟩ := P3.out.1.1.1
  go_wp2_with fail
  refine (toWorld_any nw nx bd nr F n S V _ _ nt T X _ 0 _ (HG.out.1.later P3.out.1.1.2) (HG.out.2.later P3.out.1.1.2) HB.out.1 HB.out.2).mono ?_
  intro e w4 hN4
  obtain ⟨rb, rd, g4, U4, z4, gt4, Y4, zt4, rfl, o4, q4⟩ := hN4.own
  have zs4 : Hid (w3.heap.size + 1 ≤ w4.heap.size ∧ zt4 nt ≤ w4.heap.size) := ⟨by have := q4.size; simp at this; omega, o4.2.2.2.2.2.2.2⟩
  have O4 : Hid (OwnW (w4.alloc (.cells #[.int .i64 nw, .int .i64 nx, .int .i64 bd, .slice rb nr rd, .slice (some ⟨g4, 0, none⟩) n n, .slice (some ⟨gt4, 0, none⟩) nt nt] 42)) (w3.heap.size + 1) nr F n S rb rd g4 U4 z4 nt T gt4 Y4 zt4) := by
    rw [World.size_alloc] at o4
    exact o4.later (below_alloc _ _)
  have P4 : Hid ((((Blk6 (w4.alloc (.cells #[.int .i64 nw, .int .i64 nx, .int .i64 bd, .slice rb nr rd, .slice (some ⟨g4, 0, none⟩) n n, .slice (some ⟨gt4, 0, none⟩) nt nt] 42)) w.heap.size (.int .i64 nw) (.int .i64 nx) (.int .i64 bd) (.slice a0 nr c0) (.slice a1 n c1) (.slice a2 nt c2) ∧ Below w.heap.size w (w4.alloc (.cells #[.int .i64 nw, .int .i64 nx, .int .i64 bd, .slice rb nr rd, .slice (some ⟨g4, 0, none⟩) n n, .slice (some ⟨gt4, 0, none⟩) nt nt] 42))) ∧ Blk2 (w4.alloc (.cells #[.int .i64 nw, .int .i64 nx, .int .i64 bd, .slice rb nr rd, .slice (some ⟨g4, 0, none⟩) n n, .slice (some ⟨gt4, 0, none⟩) nt nt] 42)) w3.heap.size (.int .i64 c) (.slice ow m pw)) ∧ Row (w4.alloc (.cells #[.int .i64 nw, .int .i64 nx, .int .i64 bd, .slice rb nr rd, .slice (some ⟨g4, 0, none⟩) n n, .slice (some ⟨gt4, 0, none⟩) nt nt] 42)) w.heap.size 2 m G (.slice ow m pw)) ∧ Blk6 (w4.alloc (.cells #[.int .i64 nw, .int .i64 nx, .int .i64 bd, .slice rb nr rd, .slice (some ⟨g4, 0, none⟩) n n, .slice (some ⟨gt4, 0, none⟩) nt nt] 42)) w4.heap.size (.int .i64 nw) (.int .i64 nx) (.int .i64 bd) (.slice rb nr rd) (.slice (some ⟨g4, 0, none⟩) n n) (.slice (some ⟨gt4, 0, none⟩) nt nt)) :=
    ⟨⟨⟨⟨(P3.out.1.1.1.later q4).alloc _, (P3.out.1.1.2.trans (q4.mono P3.out.1.1.2.size)).alloc (Nat.le_trans P3.out.1.1.2.size q4.size) _⟩, (P3.out.1.2.later q4).alloc _⟩, (P3.out.2.later q4).alloc _⟩, Blk6.new _ _ _ _ _ _ _ _⟩
  have s5 : Hid (w4.heap.size < (w4.alloc (.cells #[.int .i64 nw, .int .i64 nx, .int .i64 bd, .slice rb nr rd, .slice (some ⟨g4, 0, none⟩) n n, .slice (some ⟨gt4, 0, none⟩) nt nt] 42)).heap.size) := by unfold Hid; simp
  clear q4 hN4 o4 P3 p0 p1 p2 p3 p4 p5
  go_wp2_with fail
  generalize w4.alloc (.cells #[.int .i64 nw, .int .i64 nx, .int .i64 bd, .slice rb nr rd, .slice (some ⟨g4, 0, none⟩) n n, .slice (some ⟨gt4, 0, none⟩) nt nt] 42) = w5 at O4 P4 s5 ⊢
  refine (HF.out _ _ _ _ _ _ O4.out.grs.1 O4.out.grs.2 HB.out.1.1 HB.out.1.2.1 HB.out.2.1 HB.out.2.2).2.mono ?_
  rintro e w6 ⟨og, pg, rfl, rg6, fg6, q6⟩
  have E6 : Hid (EnvC w nw nx bd (.slice a0 nr c0) (.slice a1 n c1) (.slice a2 nt c2) w3.heap.size c (.slice ow m pw) w4.heap.size (.slice rb nr rd) (.slice (some ⟨g4, 0, none⟩) n n) (.slice (some ⟨gt4, 0, none⟩) nt nt) w6.heap.size (.slice og m pg) m G w5.heap.size (w6.alloc (.cells #[.int .i64 c, .slice og m pg] 57))) :=
    ⟨(P4.out.1.1.1.2.trans (q6.mono P4.out.1.1.1.2.size)).alloc (Nat.le_trans P4.out.1.1.1.2.size q6.size) _, (P4.out.1.1.1.1.later q6).alloc _, (P4.out.1.1.2.later q6).alloc _, (P4.out.2.later q6).alloc _, Blk2.new _ _ _ _, (P4.out.1.2.later q6).alloc _, rg6.alloc _, fg6.ofRow rg6 (below_alloc _ _)⟩
  have O6 : Hid (OwnW (w6.alloc (.cells #[.int .i64 c, .slice og m pg] 57)) (w3.heap.size + 1) nr F n S rb rd g4 U4 z4 nt T gt4 Y4 zt4) := (O4.out.later q6).later (below_alloc _ _)
  have LG : Hid ((0 < m → ∀ k, (Value.slice og m pg).ownBlock = some k → w5.heap.size ≤ k ∧ k < w6.heap.size) ∧ w5.heap.size ≤ w6.heap.size) := ⟨fun h0 k hk => rg6.lt h0 k hk, q6.size⟩
  obtain ⟨⟨t0, t1⟩, _⟩ := P4.out.1.1.2.later q6
  have hl := (P4.out.1.1.2.later q6).lt
  clear q6 rg6 fg6 O4 P4
  go_wp2_with fail
  refine (eqPairsResult_same c m _ _ _ _ _ _ G _ E6.out.rg E6.out.rw hm).mono ?_
  rintro e w7 ⟨rfl, q7⟩
  have E7 : Hid (EnvC w nw nx bd (.slice a0 nr c0) (.slice a1 n c1) (.slice a2 nt c2) w3.heap.size c (.slice ow m pw) w4.heap.size (.slice rb nr rd) (.slice (some ⟨g4, 0, none⟩) n n) (.slice (some ⟨gt4, 0, none⟩) nt nt) w6.heap.size (.slice og m pg) m G w5.heap.size w7) := E6.out.later q7
  have O7 : Hid (OwnW w7 (w3.heap.size + 1) nr F n S rb rd g4 U4 z4 nt T gt4 Y4 zt4) := O6.out.later q7
  clear q7 E6 O6 t0 t1 hl
  go_wp2_with fail
  refine wp_region_held_drew (S := fun x : World => (EnvC w nw nx bd (.slice a0 nr c0) (.slice a1 n c1) (.slice a2 nt c2) w3.heap.size c (.slice ow m pw) w4.heap.size (.slice rb nr rd) (.slice (some ⟨g4, 0, none⟩) n n) (.slice (some ⟨gt4, 0, none⟩) nt nt) w6.heap.size (.slice og m pg) m G w5.heap.size x) ∧ OwnW x (w3.heap.size + 1) nr F n S rb rd g4 U4 z4 nt T gt4 Y4 zt4) (by kernel_rfl) ⟨E7.out.later (Below.drew (Below.refl _ _)), O7.out.later (Below.drew (Below.refl _ _))⟩ (fun hS => ?_)
  clear E7 O7
  refine tkH 0 ?_ hS (fun wx hx => ?_) ?_; rotate_left
  · obtain ⟨⟨hx0, hx1, hx2, hx3, hx4, hx5⟩, _⟩ := hx.1.arg; obtain ⟨⟨hy0, hy1, hy2, hy3, hy4, hy5⟩, _⟩ := hx.1.copy; go_simp; try with_reducible rfl
  refine tkH 1 ?_ hS (fun wx hx => ?_) ?_; rotate_left
  · obtain ⟨⟨hx0, hx1, hx2, hx3, hx4, hx5⟩, _⟩ := hx.1.arg; obtain ⟨⟨hy0, hy1, hy2, hy3, hy4, hy5⟩, _⟩ := hx.1.copy; go_simp; try with_reducible rfl
  refine rdH 2 (fun K hK => ?_)
  go_simp
  go_wp2_with fail
  refine (toWorld_any nw nx bd nr F n S V _ _ nt T X _ 0 _ (HG.out.1.later hS.1.below) (HG.out.2.later hS.1.below) HB.out.1 HB.out.2).mono ?_
  intro e w8 hN8
  obtain ⟨re, rf, g8, U8, z8, gt8, Y8, zt8, rfl, o8, q8⟩ := hN8.own
  have G8 : Hid (Grs w8 0 nr F n S U8 (.slice re nr rf) (.slice (some ⟨g8, 0, none⟩) n n) ∧ Txs w8 0 nt T Y8 (.slice (some ⟨gt8, 0, none⟩) nt nt)) := o8.grs
  have hS' := (show _ ∧ _ from ⟨hS.1.later q8, hS.2.later q8⟩)
  clear q8 hN8 o8
  go_wp2_with fail
  refine hK.out _ _ hS' (fun hS => ?_)
  clear hK K hS'
  refine rdH 3 (fun K hK => ?_)
  go_simp
  go_wp2_with fail
  refine (eqWorldT_same nw nx bd nr F n S U4 U8 _ _ _ _ _ _ _ _ nt T Y4 Y8 _ _ _ _ 0 0 _ hS.2.grs.1 G8.out.1 hS.2.grs.2 G8.out.2 HB.out.1 HB.out.2).mono ?_
  rintro e w9 ⟨rfl, q9⟩
  have hS' := (show _ ∧ _ from ⟨hS.1.later q9, hS.2.later q9⟩)
  clear q9 G8
  go_wp2_with fail
  refine hK.out _ _ hS' (fun hS => ?_)
  clear hK K hS'
  refine tkH 4 ?_ hS (fun wx hx => ?_) ?_; rotate_left
  · obtain ⟨⟨hx0, hx1, hx2, hx3, hx4, hx5⟩, _⟩ := hx.1.arg; obtain ⟨⟨hy0, hy1, hy2, hy3, hy4, hy5⟩, _⟩ := hx.1.copy; go_simp; try with_reducible rfl
  refine wpAnyH_done (by kernel_rfl) ?_ _
  have E9 : Hid (EnvC w nw nx bd (.slice a0 nr c0) (.slice a1 n c1) (.slice a2 nt c2) w3.heap.size c (.slice ow m pw) w4.heap.size (.slice rb nr rd) (.slice (some ⟨g4, 0, none⟩) n n) (.slice (some ⟨gt4, 0, none⟩) nt nt) w6.heap.size (.slice og m pg) m G w5.heap.size w9) := hS.1
  have O9 : Hid (OwnW w9 (w3.heap.size + 1) nr F n S rb rd g4 U4 z4 nt T gt4 Y4 zt4) := hS.2
  clear hS
  go_simp
  obtain ⟨⟨p0, p1, p2, p3, p4, p5⟩, _⟩ := E9.out.copy
  go_wp2_with fail
  refine (markWorld_any nw nx bd _ nr F n S rb rd g4 U4 z4 nt T gt4 Y4 zt4 _ O9.out HB.out HSU.out).mono ?_
  rintro e wA ⟨kA, hkA, rfl, WA⟩
  have dk : decide (kA < 0) = false := decide_eq_false (by omega)
  have EA : Hid (EnvC w nw nx bd (.slice a0 nr c0) (.slice a1 n c1) (.slice a2 nt c2) w3.heap.size c (.slice ow m pw) w4.heap.size (.slice rb nr rd) (.slice (some ⟨g4, 0, none⟩) n n) (.slice (some ⟨gt4, 0, none⟩) nt nt) w6.heap.size (.slice og m pg) m G w5.heap.size wA) := E9.out.within WA (by have := z3.out; omega) (by omega) (by have := zs4.out.2; omega) (by have := zs4.out.2; have := s5.out; have := LG.out.2; omega) (fun h0 k hk => by have := LW.out h0 k hk; omega) (fun h0 k hk => by have := (LG.out.1 h0 k hk).1; have := zs4.out.2; have := s5.out; omega)
  clear WA hkA E9 O9 p0 p1 p2 p3 p4 p5
  obtain ⟨⟨t0, t1⟩, _⟩ := EA.out.want
  obtain ⟨⟨g0, g1⟩, _⟩ := EA.out.got
  go_wp2_with fail
  refine (eqPairsResult_same c m _ _ _ _ _ _ G _ EA.out.rg EA.out.rw hm).mono ?_
  rintro e wB ⟨rfl, qB⟩
  have EB : Hid (EnvC w nw nx bd (.slice a0 nr c0) (.slice a1 n c1) (.slice a2 nt c2) w3.heap.size c (.slice ow m pw) w4.heap.size (.slice rb nr rd) (.slice (some ⟨g4, 0, none⟩) n n) (.slice (some ⟨gt4, 0, none⟩) nt nt) w6.heap.size (.slice og m pg) m G w5.heap.size wB) := EA.out.later qB
  clear qB EA t0 t1 g0 g1
  obtain ⟨⟨g0, g1⟩, _⟩ := EB.out.got
  go_wp2_with fail
  refine (markPairsResult_any c m _ _ _ G _ EB.out.rg EB.out.fg hm).mono ?_
  rintro e wC ⟨rfl, mC, gC⟩
  have WC : Within w5.heap.size w6.heap.size wB wC := Within.of gC (turn_off LG.out.1)
  have EC : Hid ((Below w.heap.size w wC ∧ Blk6 wC w.heap.size (.int .i64 nw) (.int .i64 nx) (.int .i64 bd) (.slice a0 nr c0) (.slice a1 n c1) (.slice a2 nt c2)) ∧ (Blk2 wC w3.heap.size (.int .i64 c) (.slice ow m pw) ∧ Row wC w.heap.size 2 m G (.slice ow m pw)) ∧ Blk2 wC w6.heap.size (.int .i64 c) (.slice og m pg) ∧ Row wC w5.heap.size 2 m (fun p => 1 + (p : Nat)) (.slice og m pg)) := by
    have a1 := z3.out
    have a2 := zs4.out.1
    have a3 := s5.out
    exact ⟨⟨WC.below EB.out.below (by omega), EB.out.arg.kept (WC.block _ EB.out.arg.lt (Or.inl (by omega)))⟩, ⟨EB.out.want.kept (WC.block _ EB.out.want.lt (Or.inl (by omega))), EB.out.rw.within WC (fun h0 k hk => Or.inl (by have := LW.out h0 k hk; omega))⟩, EB.out.got.kept (WC.block _ EB.out.got.lt (Or.inr (Nat.le_refl _))), mC⟩
  clear WC gC mC EB g0 g1
  obtain ⟨⟨g0, g1⟩, _⟩ := EC.out.2.2.1
  go_wp2_with fail
  refine (heldPairsResult_any c m _ _ _ _ EC.out.2.2.2 hm).mono ?_
  rintro e wD ⟨rfl, qD⟩
  have ED : Hid ((Below w.heap.size w wD ∧ Blk6 wD w.heap.size (.int .i64 nw) (.int .i64 nx) (.int .i64 bd) (.slice a0 nr c0) (.slice a1 n c1) (.slice a2 nt c2)) ∧ (Blk2 wD w3.heap.size (.int .i64 c) (.slice ow m pw) ∧ Row wD w.heap.size 2 m G (.slice ow m pw)) ∧ Blk2 wD w6.heap.size (.int .i64 c) (.slice og m pg) ∧ Row wD w5.heap.size 2 m (fun p => 1 + (p : Nat)) (.slice og m pg)) := ⟨⟨EC.out.1.1.trans (qD.mono EC.out.1.1.size), EC.out.1.2.later qD⟩, ⟨EC.out.2.1.1.later qD, EC.out.2.1.2.later qD⟩, EC.out.2.2.1.later qD, EC.out.2.2.2.later qD⟩
  clear qD EC g0 g1
  obtain ⟨⟨p0, p1, p2, p3, p4, p5⟩, _⟩ := ED.out.1.2
  go_wp2_with fail
  refine (toWorld_any nw nx bd nr F n S V _ _ nt T X _ 0 _ (HG.out.1.later ED.out.1.1) (HG.out.2.later ED.out.1.1) HB.out.1 HB.out.2).mono ?_
  intro e wE hNE
  obtain ⟨rg, rh, gE, UE, zE, gtE, YE, ztE, rfl, oE, qE⟩ := hNE.own
  have EE : Hid (Below w.heap.size w wE ∧ (Blk2 wE w3.heap.size (.int .i64 c) (.slice ow m pw) ∧ Row wE w.heap.size 2 m G (.slice ow m pw)) ∧ Blk2 wE w6.heap.size (.int .i64 c) (.slice og m pg) ∧ Row wE w5.heap.size 2 m (fun p => 1 + (p : Nat)) (.slice og m pg)) := ⟨ED.out.1.1.trans (qE.mono ED.out.1.1.size), ⟨ED.out.2.1.1.later qE, ED.out.2.1.2.later qE⟩, ED.out.2.2.1.later qE, ED.out.2.2.2.later qE⟩
  have GE := HF.out _ _ _ _ _ _ oE.grs.1 oE.grs.2 HB.out.1.1 HB.out.1.2.1 HB.out.2.1 HB.out.2.2
  clear qE hNE oE ED p0 p1 p2 p3 p4 p5
  go_wp2_with fail
  refine GE.2.mono ?_
  clear GE
  rintro e wF ⟨oh, ph, rfl, rhF, _, qF⟩
  have EF : Hid (Below w.heap.size w (wF.alloc (.cells #[.int .i64 c, .slice oh m ph] 57)) ∧ Row (wF.alloc (.cells #[.int .i64 c, .slice oh m ph] 57)) w.heap.size 2 m G (.slice ow m pw) ∧ Blk2 (wF.alloc (.cells #[.int .i64 c, .slice oh m ph] 57)) w6.heap.size (.int .i64 c) (.slice og m pg) ∧ Row (wF.alloc (.cells #[.int .i64 c, .slice oh m ph] 57)) w5.heap.size 2 m (fun p => 1 + (p : Nat)) (.slice og m pg) ∧ Row (wF.alloc (.cells #[.int .i64 c, .slice oh m ph] 57)) 0 2 m G (.slice oh m ph)) := ⟨(EE.out.1.trans (qF.mono EE.out.1.size)).alloc (Nat.le_trans EE.out.1.size qF.size) _, (EE.out.2.1.2.later qF).alloc _, (EE.out.2.2.1.later qF).alloc _, (EE.out.2.2.2.later qF).alloc _, (rhF.mono (Nat.zero_le _)).alloc _⟩
  obtain ⟨⟨t0, t1⟩, _⟩ := EE.out.2.1.1.later qF
  have hl := (EE.out.2.1.1.later qF).lt
  clear qF rhF EE
  go_wp2_with fail
  refine (eqPairsResult_same c m _ _ _ _ _ _ G _ EF.out.2.2.2.2 EF.out.2.1 hm).mono ?_
  rintro e wG ⟨rfl, qG⟩
  have EG : Hid (Below w.heap.size w wG ∧ Blk2 wG w6.heap.size (.int .i64 c) (.slice og m pg) ∧ Row wG w5.heap.size 2 m (fun p => 1 + (p : Nat)) (.slice og m pg)) := ⟨EF.out.1.trans (qG.mono EF.out.1.size), EF.out.2.2.1.later qG, EF.out.2.2.2.1.later qG⟩
  clear qG EF t0 t1 hl
  obtain ⟨⟨g0, g1⟩, _⟩ := EG.out.2.1
  go_wp2_with fail
  refine (heldPairsResult_any c m _ _ _ _ EG.out.2.2 hm).mono ?_
  rintro e wH ⟨rfl, qH⟩
  have EH : Hid (Below w.heap.size w wH) := EG.out.1.trans (qH.mono EG.out.1.size)
  clear qH EG g0 g1
  go_wp2
  go_ret
  exact ⟨rfl, EH.out⟩
end Go.Proofs.YtglcedhkbbckiaaGreat

