/-
  Own text, merged of PaiF, PaiG, PaiH, PaiJ, PaiI, PaiK, PaiL, DrawA, IntsA, DrawB, DrawC, TxnA, AppT, TxnL, DrawT.
-/
import Derived.Test.YtdbcmckoiacemaaPk1
namespace Go.Proofs.Ytdbcmckoiacemaa
open Go.RowKit

/-- The list's box, the box of a pair, and that nothing old has turned. -/
def RisE (w : World) (b c : Nat) (v : Value) (k x : Int) (X : World) : Prop := Blk2 X b v (.func (.func 37) #[] #[]) ∧ Blk2 X c (.int .i64 k) (.int .i64 x) ∧ Below w.heap.size w X
theorem RisE.later {w X X' : World} {b c : Nat} {v : Value} {k x : Int} (h : RisE w b c v k x X) (hb : Below X.heap.size X X') : RisE w b c v k x X' := ⟨h.1.later hb, h.2.1.later hb, h.2.2.trans (hb.mono h.2.2.size)⟩
theorem RisE.drew {w X : World} {b c : Nat} {v : Value} {k x : Int} (h : RisE w b c v k x X) : RisE w b c v k x X.drew := ⟨h.1, h.2.1, h.2.2.drew⟩
/-- Where a pair of that key stands. -/
def atKey (L : Prs) (k : Int) : Prop := aheadN L k < L.length ∧ (L.getD (aheadN L k) (0, 0)).1 = k
def PlaceIs (w : World) (L : Prs) (k : Int) (e : Ending) (w' : World) : Prop := ∃ r : Bool, e = .returned (.tuple #[.int .i64 (aheadN L k), .bool r]) ∧ (r = true ↔ atKey L k) ∧ Below w.heap.size w w'
set_option maxRecDepth 100000 in
set_option maxHeartbeats 2000000 in
theorem place_any (L : Prs) (b B : Nat) (v : Value) (k x : Int) (w : World) (hb : Blk2 w b v (.func (.func 37) #[] #[])) (ho : Own w B 65 2 L.length (rowL L) v) (hr : Rises L) (hn : L.length ≤ 1000) :
    Calls Try.prog 64 #[.pointer (some ⟨b, 0, none⟩), .agg #[.int .i64 k, .int .i64 x]] w (PlaceIs w L k) := by
  obtain ⟨ao, cp, rfl⟩ := ho.form
  have HO : Hid (Own w B 65 2 L.length (rowL L) (.slice ao L.length cp) ∧ Rises L) := ⟨ho, hr⟩
  have HE : RisE w b w.heap.size (.slice ao L.length cp) k x ((w.alloc (.cells #[.int .i64 k, .int .i64 x] 65)).drew) := RisE.drew ⟨hb.alloc _, Blk2.new w _ _ _, below_alloc _ _⟩
  clear ho hr hb
  go_enter Try.func64, Try.ntmps64
  go_upto_region 1 with fail
  refine wp_region_held_drew (S := RisE w b w.heap.size (.slice ao L.length cp) k x) (by kernel_rfl) HE (fun hS => ?_)
  clear HE
  refine tkH 0 ?_ hS (fun wx hx => ?_) ?_; rotate_left
  · obtain ⟨⟨⟨hx0, hx1⟩, hx4, hx5⟩, ⟨⟨hx2, hx3⟩, hx6, hx7⟩, _⟩ := hx; go_simp; try with_reducible rfl
  refine tkH 1 ?_ hS (fun wx hx => ?_) ?_; rotate_left
  · obtain ⟨⟨⟨hx0, hx1⟩, hx4, hx5⟩, ⟨⟨hx2, hx3⟩, hx6, hx7⟩, _⟩ := hx; go_simp; try with_reducible rfl
  refine tkH 2 ?_ hS (fun wx hx => ?_) ?_; rotate_left
  · obtain ⟨⟨⟨hx0, hx1⟩, hx4, hx5⟩, ⟨⟨hx2, hx3⟩, hx6, hx7⟩, _⟩ := hx; go_simp; try with_reducible rfl
  refine tkH 3 ?_ hS (fun wx hx => ?_) ?_; rotate_left
  · obtain ⟨⟨⟨hx0, hx1⟩, hx4, hx5⟩, ⟨⟨hx2, hx3⟩, hx6, hx7⟩, _⟩ := hx; go_simp; try with_reducible rfl
  refine tkH 4 ?_ hS (fun wx hx => ?_) ?_; rotate_left
  · obtain ⟨⟨⟨hx0, hx1⟩, hx4, hx5⟩, ⟨⟨hx2, hx3⟩, hx6, hx7⟩, _⟩ := hx; go_simp; try with_reducible rfl
  refine tkH 5 ?_ hS (fun wx hx => ?_) ?_; rotate_left
  · obtain ⟨⟨⟨hx0, hx1⟩, hx4, hx5⟩, ⟨⟨hx2, hx3⟩, hx6, hx7⟩, _⟩ := hx; go_simp; try with_reducible rfl
  refine tkH 6 ?_ hS (fun wx hx => ?_) ?_; rotate_left
  · obtain ⟨⟨⟨hx0, hx1⟩, hx4, hx5⟩, ⟨⟨hx2, hx3⟩, hx6, hx7⟩, _⟩ := hx; go_simp; try with_reducible rfl
  refine tkH 7 ?_ hS (fun wx hx => ?_) ?_; rotate_left
  · obtain ⟨⟨⟨hx0, hx1⟩, hx4, hx5⟩, ⟨⟨hx2, hx3⟩, hx6, hx7⟩, _⟩ := hx; go_simp; try with_reducible rfl
  refine tkH 8 ?_ hS (fun wx hx => ?_) ?_; rotate_left
  · obtain ⟨⟨⟨hx0, hx1⟩, hx4, hx5⟩, ⟨⟨hx2, hx3⟩, hx6, hx7⟩, _⟩ := hx; go_simp; try with_reducible rfl
  refine rdH 9 (fun K hK => ?_)
  go_simp
  go_wp2_with fail
  refine (searchP_any _ _ _ _ B k x _ (HO.out.1.later hS.2.2).row.1 hn (fun i j h1 h2 h3 => rises_mono HO.out.2 i j h1 h2 h3)).mono ?_
  rintro e w1 ⟨i, r, rfl, hp, hr, q1⟩
  obtain rfl := place_is hp
  simp only [rowL_key] at hr
  have HR : Hid (r = true ↔ atKey L k) := hr
  have HB : Hid (Below w.heap.size w w1) := hS.2.2.trans (q1.mono hS.2.2.size)
  have hS1 := hS.later q1
  clear hp hr q1 hS HO
  go_wp2_with fail
  refine hK.out _ _ hS1 (fun hS => ?_)
  clear hK K hS1
  refine tkH 10 ?_ hS (fun wx hx => ?_) ?_; rotate_left
  · obtain ⟨⟨⟨hx0, hx1⟩, hx4, hx5⟩, ⟨⟨hx2, hx3⟩, hx6, hx7⟩, _⟩ := hx; go_simp; try with_reducible rfl
  refine tkH 11 ?_ hS (fun wx hx => ?_) ?_; rotate_left
  · obtain ⟨⟨⟨hx0, hx1⟩, hx4, hx5⟩, ⟨⟨hx2, hx3⟩, hx6, hx7⟩, _⟩ := hx; go_simp; try with_reducible rfl
  refine tkH 12 ?_ hS (fun wx hx => ?_) ?_; rotate_left
  · obtain ⟨⟨⟨hx0, hx1⟩, hx4, hx5⟩, ⟨⟨hx2, hx3⟩, hx6, hx7⟩, _⟩ := hx; go_simp; try with_reducible rfl
  refine tkH 13 ?_ hS (fun wx hx => ?_) ?_; rotate_left
  · obtain ⟨⟨⟨hx0, hx1⟩, hx4, hx5⟩, ⟨⟨hx2, hx3⟩, hx6, hx7⟩, _⟩ := hx; go_simp; try with_reducible rfl
  refine wpAnyH_done (by kernel_rfl) ?_ _
  go_simp
  go_wp2
  go_ret2
  exact ⟨r, rfl, HR.out, HB.out⟩
set_option maxRecDepth 100000 in
set_option maxHeartbeats 2000000 in
theorem find_any (L : Prs) (b B : Nat) (v : Value) (k x : Int) (w : World) (hb : Blk2 w b v (.func (.func 37) #[] #[])) (ho : Own w B 65 2 L.length (rowL L) v) (hr : Rises L) (hn : L.length ≤ 1000) :
    Calls Try.prog 45 #[.pointer (some ⟨b, 0, none⟩), .agg #[.int .i64 k, .int .i64 x]] w fun e w' => ∃ (r : Bool) (y z : Int), e = .returned (.tuple #[.agg #[.int .i64 y, .int .i64 z], .bool r]) ∧ (r = true ↔ atKey L k) ∧ (r = true → (y, z) = L.getD (aheadN L k) (0, 0)) ∧ (r = false → y = 0 ∧ z = 0) ∧ Below w.heap.size w w' := by
  obtain ⟨ao, cp, rfl⟩ := ho.form
  have HO : Hid (Own w B 65 2 L.length (rowL L) (.slice ao L.length cp) ∧ Rises L ∧ Blk2 w b (.slice ao L.length cp) (.func (.func 37) #[] #[])) := ⟨ho, hr, hb⟩
  clear ho hr hb
  go_enter Try.func45, Try.ntmps45
  go_wp2_with fail
  refine (place_any L b B _ k x _ ((HO.out.2.2.alloc _).alloc _) ((HO.out.1.alloc _).alloc _) HO.out.2.1 hn).mono ?_
  rintro e w1 ⟨r, rfl, hr, q1⟩
  have HR : Hid (r = true ↔ atKey L k) := hr
  have hz := Blk2.later (Blk2.new (w.alloc (.cells #[.int .i64 k, .int .i64 x] 65)) (.int .i64 0) (.int .i64 0) 65) q1
  rw [World.size_alloc] at hz
  have HZ : Hid (Blk2 w1 (w.heap.size + 1) (.int .i64 0) (.int .i64 0)) := hz
  have HB : Hid (Below w.heap.size w w1) := ((below_alloc w _).alloc (by simp) _).trans (q1.mono (by simp; omega))
  clear q1 hr hz
  cases r with
  | false =>
    obtain ⟨⟨z0, z1⟩, z2, z3⟩ := HZ.out
    go_wp2
    refine bodyPost_ret (v := .tuple #[.agg #[.int .i64 0, .int .i64 0], .bool false]) (by simp [results, Try.results45, go_sem, z0, z1]) rfl ⟨false, 0, 0, rfl, HR.out, fun q => (Bool.false_ne_true q).elim, fun _ => ⟨rfl, rfl⟩, ?_⟩
    exact ((HB.out.setCell (by simp) _).setCell (by simp) _)
  | true =>
    have hat := HR.out.1 rfl
    obtain ⟨g, o, hao, _, hg, y0, y1⟩ := (HO.out.1.later HB.out).row.1.at2 hat.1
    subst hao
    obtain ⟨hb0, hb1⟩ := (HO.out.2.2.later HB.out).1
    obtain ⟨y, Y⟩ : ∃ y, rowL L (aheadN L k * 2) = y := ⟨_, rfl⟩
    obtain ⟨z, Z⟩ : ∃ y, rowL L (aheadN L k * 2 + 1) = y := ⟨_, rfl⟩
    rw [Y] at y0
    rw [Z] at y1
    have HY : Hid ((y, z) = L.getD (aheadN L k) (0, 0)) := by
      unfold Hid
      rw [← Y, ← Z, rowL_key, rowL_val]
    have hlt := hat.1
    have ha : aheadN L k ≤ 1000 := Nat.le_trans (aheadN_le L k) hn
    obtain ⟨⟨z0, z1⟩, z2, z3⟩ := HZ.out
    have HT : Hid (atKey L k) := hat
    clear Y Z hat HR
    obtain ⟨A, hA⟩ : ∃ A, aheadN L k = A := ⟨_, rfl⟩
    rw [hA] at y0 y1 hlt ha
    rw [hA]
    have HAA : Hid (aheadN L k = A) := hA
    have HP := (Blk2.put HZ.out (.int .i64 y) (.int .i64 z)).1
    have q0 : (w1.setCell ⟨w.heap.size + 1, 0, none⟩ (.int .i64 y)).cell? ⟨w.heap.size + 1, 0, none⟩ = some (.int .i64 y) := World.cell?_setCell_same _ _ _ (u := .int .i64 0) z0
    have q1 := HP.2
    have HH : Hid (_ ∧ _) := ⟨q0, q1⟩
    clear hA q0 q1 HP
    go_wp2
    refine bodyPost_ret (v := .tuple #[.agg #[.int .i64 y, .int .i64 z], .bool true]) (by simp [results, Try.results45, go_sem, HH.out.1, HH.out.2]) rfl ⟨true, y, z, rfl, ⟨fun _ => HT.out, fun _ => rfl⟩, fun _ => HY.out, fun q => (Bool.false_ne_true q.symm).elim, ?_⟩
    exact ((HB.out.setCell (by simp) _).setCell (by simp) _)
theorem Blk2.set0P {x : World} {b : Nat} {a0 a1 : Value} (h : Blk2 x b a0 a1) (u : Value) : Blk2 (x.setCell ⟨b, 0, none⟩ u) b u a1 := by
  obtain ⟨⟨h0, h1⟩, f0, f1⟩ := h
  exact ⟨⟨World.cell?_setCell_same _ _ _ h0, (World.cell?_setCell_other _ _ _ _ (by simp)).trans h1⟩, by simpa using f0, by simpa using f1⟩
theorem own_grown {w w' : World} {b B : Nat} {v a0 a1 : Value} {n : Nat} {F : Nat → Int} (hb : Blk2 w b a0 a1) (ho : Own w B 65 2 n F v) (hB : b < B) (hg : w.grownBy w' v.ownBlock) : Blk2 w' b a0 a1 :=
  hb.kept (hg.block b hb.lt (fun e => by have := (own_in ho b e.symm).1; omega))
/-- What turned lies in the list's own blocks. -/
theorem grown_belowP {w w' : World} {B D : Nat} {v : Value} {n : Nat} {F : Nat → Int} (ho : Own w B 65 2 n F v) (hD : D ≤ B) (hDw : D ≤ w.heap.size) (hg : w.grownBy w' v.ownBlock) : Below D w w' :=
  ⟨hg.os, hg.tape, hg.output, hg.size, fun i hi => hg.block i (by omega) (fun e => by have := (own_in ho i e.symm).1; omega)⟩
/-- The list stands in its box: its own memory is behind the box. -/
def Ris (w : World) (b : Nat) (L : Prs) : Prop := ∃ v, Blk2 w b v (.func (.func 37) #[] #[]) ∧ Own w (b + 1) 65 2 L.length (rowL L) v
theorem Ris.later {w w' : World} {b : Nat} {L : Prs} (h : Ris w b L) (hb : Below w.heap.size w w') : Ris w' b L := by
  obtain ⟨v, h1, h2⟩ := h
  exact ⟨v, h1.later hb, h2.later hb⟩
theorem Ris.lt {w : World} {b : Nat} {L : Prs} (h : Ris w b L) : b < w.heap.size := by
  obtain ⟨v, h1, _⟩ := h
  exact h1.lt
theorem stored_is {w : World} {b : Nat} {v v' : Value} {L : Prs} (hb : Blk2 w b v (.func (.func 37) #[] #[])) (ho : Own w (b + 1) 65 2 L.length (rowL L) v') : Blk2 (w.setCell ⟨b, 0, none⟩ v') b v' (.func (.func 37) #[] #[]) ∧ Own (w.setCell ⟨b, 0, none⟩ v') (b + 1) 65 2 L.length (rowL L) v' :=
  ⟨Blk2.set0P hb _, own_kept ho (fun j hj => Below.heap_setCell w ⟨b, 0, none⟩ _ j (fun e => by have := (own_in ho j hj).1; simp at e; omega))⟩
/-- All blocks but two are as they were. -/
def KeptBut (b : Nat) (v : Value) (w w' : World) : Prop := w.heap.size ≤ w'.heap.size ∧ ∀ i, i < w.heap.size → i ≠ b → v.ownBlock ≠ some i → w'.heap[i]? = w.heap[i]?
theorem KeptBut.below {b : Nat} {v : Value} {w w' : World} (h : Below w.heap.size w w') : KeptBut b v w w' := ⟨h.size, fun i hi _ _ => h.block i hi⟩
theorem KeptBut.grown {b : Nat} {v : Value} {w w' : World} (h : w.grownBy w' v.ownBlock) : KeptBut b v w w' := ⟨h.size, fun i hi _ hv => h.block i hi (fun e => hv e.symm)⟩
theorem KeptBut.trans {b : Nat} {v : Value} {w w' w'' : World} (h : KeptBut b v w w') (_ : w.heap.size ≤ w'.heap.size) (h' : KeptBut b v w' w'') : KeptBut b v w w'' := ⟨Nat.le_trans h.1 h'.1, fun i hi h1 h2 => (h'.2 i (Nat.lt_of_lt_of_le hi h.1) h1 h2).trans (h.2 i hi h1 h2)⟩
theorem KeptBut.trans' {b : Nat} {v : Value} {w w' w'' : World} (h : KeptBut b v w w') (h' : KeptBut b v w' w'') : KeptBut b v w w'' := h.trans h.1 h'
theorem KeptBut.set {b k : Nat} {v u : Value} (w : World) : KeptBut b v w (w.setCell ⟨b, k, none⟩ u) := ⟨by simp, fun i _ h _ => Below.heap_setCell w ⟨b, k, none⟩ u i h⟩
set_option maxRecDepth 100000 in
set_option maxHeartbeats 2000000 in
theorem drop_any (L : Prs) (b : Nat) (v : Value) (k x : Int) (w : World) (hb : Blk2 w b v (.func (.func 37) #[] #[])) (ho : Own w (b + 1) 65 2 L.length (rowL L) v) (hr : Rises L) (hn : L.length ≤ 1000) :
    Calls Try.prog 61 #[.pointer (some ⟨b, 0, none⟩), .agg #[.int .i64 k, .int .i64 x]] w fun e w' => e = .returned (.tuple #[]) ∧ (∃ v', (Blk2 w' b v' (.func (.func 37) #[] #[]) ∧ Own w' (b + 1) 65 2 (gonePr L k).length (rowL (gonePr L k)) v') ∧ v'.ownBlock = v.ownBlock) ∧ Below b w w' ∧ KeptBut b v w w' := by
  obtain ⟨ao, cp, rfl⟩ := ho.form
  have HO : Hid (Own w (b + 1) 65 2 L.length (rowL L) (.slice ao L.length cp) ∧ Rises L ∧ Blk2 w b (.slice ao L.length cp) (.func (.func 37) #[] #[])) := ⟨ho, hr, hb⟩
  clear ho hr hb
  go_enter Try.func61, Try.ntmps61
  go_wp2_with fail
  refine (place_any L b (b + 1) _ k x _ (HO.out.2.2.alloc _) (HO.out.1.alloc _) HO.out.2.1 hn).mono ?_
  rintro e w1 ⟨r, rfl, hr, q1⟩
  have HR : Hid (r = true ↔ atKey L k) := hr
  have HB : Hid (Below w.heap.size w w1) := (below_alloc w _).trans (q1.mono (by simp))
  have hbw : Hid (b < w.heap.size) := HO.out.2.2.lt
  clear q1 hr
  by_cases hat : atKey L k
  · obtain rfl : r = true := HR.out.2 hat
    have HT : Hid (atKey L k) := hat
    have HE : Hid (gonePr L k = L.eraseIdx (aheadN L k)) := by
      unfold Hid
      rw [gone_is HO.out.2.1]; exact if_pos hat
    have O1 : Hid (Own w1 (b + 1) 65 2 L.length (rowL L) (.slice ao L.length cp) ∧ Blk2 w1 b (.slice ao L.length cp) (.func (.func 37) #[] #[])) := ⟨HO.out.1.later HB.out, HO.out.2.2.later HB.out⟩
    obtain ⟨⟨hb0, hb1⟩, _, _⟩ := O1.out.2
    have hlt := hat.1
    have ha : aheadN L k ≤ 1000 := Nat.le_trans (aheadN_le L k) hn
    obtain ⟨A, hA⟩ : ∃ A, aheadN L k = A := ⟨_, rfl⟩
    have HAA : Hid (aheadN L k = A) := hA
    rw [hA] at hlt ha
    rw [hA]
    clear hA HR hat
    go_wp2_with fail
    refine (delP_any _ (b + 1) L.length A (rowL L) _ O1.out.1 (by omega) hlt).mono ?_
    rintro e w2 ⟨v2, rfl, ho2, hg2, hob2⟩
    obtain ⟨e2, f2, rfl⟩ := ho2.form
    have HB2 : Hid (Blk2 w2 b (.slice ao L.length cp) (.func (.func 37) #[] #[])) := own_grown O1.out.2 O1.out.1 (by omega) hg2
    have HO2 : Hid (Own w2 (b + 1) 65 2 (gonePr L k).length (rowL (gonePr L k)) (.slice e2 (L.length - 1) f2)) := by
      unfold Hid
      rw [HE.out, HAA.out, List.length_eraseIdx_of_lt hlt]
      exact own_eqP ho2 (fun p _ => rowL_erase)
    have HD : Hid (Below b w w2) := (HB.out.mono (Nat.le_of_lt hbw.out)).trans (grown_belowP O1.out.1 (by omega) (by have := HB.out.size; have := hbw.out; omega) hg2)
    obtain ⟨⟨c0, c1⟩, c2, c3⟩ := HB2.out
    have HK : Hid (KeptBut b (.slice ao L.length cp) w w2) := (KeptBut.below HB.out).trans HB.out.size (KeptBut.grown hg2)
    have HOB : Hid ((Value.slice e2 (L.length - 1) f2).ownBlock = (Value.slice ao L.length cp).ownBlock) := hob2
    clear ho2 hg2 hob2
    go_wp2
    go_end0
    exact ⟨rfl, ⟨_, stored_is HB2.out HO2.out, HOB.out⟩, HD.out.setCell (Nat.le_refl _) _, HK.out.trans' (KeptBut.set _)⟩
  · obtain rfl : r = false := Bool.eq_false_iff.2 (fun q => hat (HR.out.1 q))
    have HE : Hid (gonePr L k = L) := by
      unfold Hid
      rw [gone_is HO.out.2.1]; exact if_neg hat
    clear hat HR
    go_wp2
    go_end0
    rw [HE.out]
    exact ⟨rfl, ⟨_, ⟨HO.out.2.2.later HB.out, HO.out.1.later HB.out⟩, rfl⟩, HB.out.mono (Nat.le_of_lt hbw.out), KeptBut.below HB.out⟩
end Go.Proofs.Ytdbcmckoiacemaa

namespace Go.Proofs.Ytdbcmckoiacemaa
open Go.RowKit

set_option maxRecDepth 100000 in
set_option maxHeartbeats 2000000 in
theorem put_any (L : Prs) (b : Nat) (k x : Int) (w : World) (h : Ris w b L) (hr : Rises L) (hn : L.length ≤ 900) :
    Calls Try.prog 59 #[.pointer (some ⟨b, 0, none⟩), .agg #[.int .i64 k, .int .i64 x]] w fun e w' => e = .returned (.tuple #[]) ∧ Ris w' b (putPr L k x) ∧ Below b w w' := by
  obtain ⟨v, hb, ho⟩ := h
  have HO : Hid (Blk2 w b v (.func (.func 37) #[] #[]) ∧ Own w (b + 1) 65 2 L.length (rowL L) v ∧ Rises L) := ⟨hb, ho, hr⟩
  have hbw : b < w.heap.size := hb.lt
  obtain ⟨G, hG⟩ : ∃ G, gonePr L k = G := ⟨_, rfl⟩
  have hGn : G.length ≤ 900 := by rw [← hG]; exact Nat.le_trans (List.length_filter_le _ _) hn
  have HGR : Hid (Rises G ∧ putPr L k x = G.insertIdx (aheadN G k) (k, x)) := by
    unfold Hid
    rw [← hG]
    exact ⟨gonePr_rises hr k, put_is hr k x⟩
  have HG : Hid (gonePr L k = G) := hG
  clear hb ho hr hG
  go_enter Try.func59, Try.ntmps59
  go_wp2_with fail
  refine (drop_any L b v k x _ (HO.out.1.alloc _) (HO.out.2.1.alloc _) HO.out.2.2 (by omega)).mono ?_
  rintro e w1 ⟨rfl, h1, q1, hk1⟩
  rw [HG.out] at h1
  obtain ⟨v1, ⟨hb1, ho1⟩, hv1⟩ := h1
  obtain ⟨ao, cp, rfl⟩ := ho1.form
  have HX1 : Blk2 w1 w.heap.size (.int .i64 k) (.int .i64 x) := (Blk2.new w _ _ 65).kept (hk1.2 _ (by simp) (by omega) (fun e => by have := (own_in HO.out.2.1 _ e).2; omega))
  have R1 : Hid (Blk2 w1 b (.slice ao G.length cp) (.func (.func 37) #[] #[]) ∧ Own w1 (b + 1) 65 2 G.length (rowL G) (.slice ao G.length cp) ∧ Blk2 w1 w.heap.size (.int .i64 k) (.int .i64 x) ∧ Below b w w1) := ⟨hb1, ho1, HX1, ((below_alloc w _).mono (Nat.le_of_lt hbw)).trans q1⟩
  obtain ⟨⟨c0, c1⟩, _, _⟩ := HX1
  have HVB : Hid (∀ q, (Value.slice ao G.length cp).ownBlock = some q → q < w.heap.size) := fun q hq => (own_in HO.out.2.1 q (hv1 ▸ hq)).2
  clear hv1 hb1 ho1 q1 hk1 HO
  go_wp2_with fail
  refine (place_any G b (b + 1) _ k x _ R1.out.1 R1.out.2.1 HGR.out.1 (by omega)).mono ?_
  rintro e w2 ⟨r, rfl, _, q2⟩
  have R2 : Hid (Blk2 w2 b (.slice ao G.length cp) (.func (.func 37) #[] #[]) ∧ Own w2 (b + 1) 65 2 G.length (rowL G) (.slice ao G.length cp) ∧ Blk2 w2 w.heap.size (.int .i64 k) (.int .i64 x) ∧ Below b w w2) := ⟨R1.out.1.later q2, R1.out.2.1.later q2, R1.out.2.2.1.later q2, R1.out.2.2.2.trans (q2.mono (by have := R1.out.2.2.2.size; omega))⟩
  have hle : aheadN G k ≤ G.length := aheadN_le G k
  obtain ⟨A, hA⟩ : ∃ A, aheadN G k = A := ⟨_, rfl⟩
  have HAA : Hid (putPr L k x = G.insertIdx A (k, x)) := by unfold Hid; rw [← hA]; exact HGR.out.2
  rw [hA] at hle
  rw [hA]
  clear hA q2 R1 c0 c1
  have hw2 : b < w2.heap.size := R2.out.1.lt
  have hc2 : w.heap.size < w2.heap.size := R2.out.2.2.1.lt
  have HI : Hid (Calls Try.prog 65 #[.slice ao G.length cp, .int .i64 A, .slice (some ⟨w2.heap.size, 0, none⟩) 1 1] (w2.drew.alloc (.cells #[.int .i64 k, .int .i64 x] 65)) (InsP (w2.drew.alloc (.cells #[.int .i64 k, .int .i64 x] 65)) (b + 1) G.length A (rowL G) [k, x] (.slice ao G.length cp))) :=
    insP_any _ (b + 1) G.length A w2.heap.size 1 (rowL G) [k, x] _ rfl (R2.out.2.1.later ((Below.drew (Below.refl _ _)).trans ((below_alloc _ _).mono (Nat.le_refl _)))) (by simp; omega) (by omega) hle (fun e => by have := (own_in R2.out.2.1 _ e).2; omega) (Blkk.made w2.drew _ _ _ rfl) (fun p hp => by
      rw [World.cell?_alloc_at (w := w2.drew) _ _ w2.heap.size p rfl]
      obtain rfl | rfl : p = 0 ∨ p = 1 := by omega
      all_goals rfl)
  have HYB : Hid (Below w2.heap.size w2 (w2.drew.alloc (.cells #[.int .i64 k, .int .i64 x] 65))) := (Below.drew (Below.refl _ _)).trans ((below_alloc _ _).mono (Nat.le_refl _))
  have SY : Hid (Blk2 (w2.drew.alloc (.cells #[.int .i64 k, .int .i64 x] 65)) b (.slice ao G.length cp) (.func (.func 37) #[] #[]) ∧ Blk2 (w2.drew.alloc (.cells #[.int .i64 k, .int .i64 x] 65)) w.heap.size (.int .i64 k) (.int .i64 x)) := ⟨R2.out.1.later HYB.out, R2.out.2.2.1.later HYB.out⟩
  have HOY : Hid (Own (w2.drew.alloc (.cells #[.int .i64 k, .int .i64 x] 65)) (b + 1) 65 2 G.length (rowL G) (.slice ao G.length cp) ∧ Below b w (w2.drew.alloc (.cells #[.int .i64 k, .int .i64 x] 65))) := ⟨R2.out.2.1.later HYB.out, R2.out.2.2.2.trans (HYB.out.mono (by omega))⟩
  obtain ⟨⟨p0, p1⟩, _, _⟩ := R2.out.1
  have hS0 : (fun X : World => Blk2 X w.heap.size (.int .i64 k) (.int .i64 x)) w2.drew := R2.out.2.2.1
  clear R2
  go_upto_region 3 with fail
  refine wp_region_held_drew (S := (fun X : World => Blk2 X w.heap.size (.int .i64 k) (.int .i64 x))) (by kernel_rfl) hS0 (fun hS => ?_)
  clear hS0
  refine tkH 0 ?_ hS (fun wx hx => ?_) ?_; rotate_left
  · obtain ⟨⟨hx2, hx3⟩, hx6, hx7⟩ := hx; go_simp; try with_reducible rfl
  refine tkH 1 ?_ hS (fun wx hx => ?_) ?_; rotate_left
  · obtain ⟨⟨hx2, hx3⟩, hx6, hx7⟩ := hx; go_simp; try with_reducible rfl
  refine tkH 2 ?_ hS (fun wx hx => ?_) ?_; rotate_left
  · obtain ⟨⟨hx2, hx3⟩, hx6, hx7⟩ := hx; go_simp; try with_reducible rfl
  refine tkH 3 ?_ hS (fun wx hx => ?_) ?_; rotate_left
  · obtain ⟨⟨hx2, hx3⟩, hx6, hx7⟩ := hx; go_simp; try with_reducible rfl
  refine tkH 5 ?_ hS (fun wx hx => ?_) ?_; rotate_left
  · obtain ⟨⟨hx2, hx3⟩, hx6, hx7⟩ := hx; go_simp; try with_reducible rfl
  refine tkH 6 ?_ hS (fun wx hx => ?_) ?_; rotate_left
  · obtain ⟨⟨hx2, hx3⟩, hx6, hx7⟩ := hx; go_simp; try with_reducible rfl
  refine wpAnyH_ready (rs := [4, 7]) (by kernel_rfl) (by simp) ?_
  refine AllReadyH.cons rfl (fun K hK => ?_) (AllReadyH.cons rfl (fun K hK => ?_) AllReadyH.nil)
  focus
    go_simp
    refine hK.out _ _ hS (fun hS => ?_)
    clear hK K p0 p1
    refine rdH 7 (fun K hK => ?_)
    go_simp
    refine hK.out _ _ SY.out.2 (fun hS => ?_)
    clear hK K
  rotate_left
  focus
    go_simp
    refine hK.out _ _ SY.out.2 (fun hS => ?_)
    clear hK K
    refine rdH 4 (fun K hK => ?_)
    go_simp
    refine hK.out _ _ hS (fun hS => ?_)
    clear hK K p0 p1
  rotate_left
  all_goals
    refine rdH 8 (fun K hK => ?_)
    go_simp
    go_wp2_with fail
    refine HI.out.mono ?_
    rintro e w3 ⟨a3, c3, rfl, ho3, hg3, _⟩
    have HB3 : Hid (Blk2 w3 b (.slice ao G.length cp) (.func (.func 37) #[] #[])) := own_grown SY.out.1 HOY.out.1 (by omega) hg3
    have hS3 : Blk2 w3 w.heap.size (.int .i64 k) (.int .i64 x) := SY.out.2.kept (hg3.block _ (by simp; omega) (fun e => by have := HVB.out _ e.symm; omega))
    have HO3 : Hid (Own w3 (b + 1) 65 2 (putPr L k x).length (rowL (putPr L k x)) (.slice a3 (G.length + 1) c3)) := by
      unfold Hid
      rw [HAA.out, List.length_insertIdx_of_le_length hle]
      exact own_eqP ho3 (fun p hp => rowL_insert hle hp)
    have HD3 : Hid (Below b w w3) := HOY.out.2.trans (grown_belowP HOY.out.1 (by omega) (by simp; omega) hg3)
    clear ho3 hg3
    go_wp2_with fail
    refine hK.out _ _ hS3 (fun hS => ?_)
    clear hK K hS3
    refine tkH 9 ?_ hS (fun wx hx => ?_) ?_; rotate_left
    · obtain ⟨⟨hx2, hx3⟩, hx6, hx7⟩ := hx; go_simp; try with_reducible rfl
    refine tkH 10 ?_ hS (fun wx hx => ?_) ?_; rotate_left
    · obtain ⟨⟨hx2, hx3⟩, hx6, hx7⟩ := hx; go_simp; try with_reducible rfl
    refine rdH 11 (fun K hK => ?_)
    obtain ⟨⟨x0, x1⟩, x2, x3⟩ := HB3.out
    go_simp
    refine hK.out _ _ (hS.kept (Below.heap_setCell _ ⟨b, 0, none⟩ _ _ (by simp; omega))) (fun hS => ?_)
    clear hK K x0 x1 x2 x3
    refine wpAnyH_done (by kernel_rfl) ?_ _
    go_simp
    go_end0
    exact ⟨rfl, ⟨_, stored_is HB3.out HO3.out⟩, HD3.out.setCell (Nat.le_refl _) _⟩
theorem take_put {L : Prs} (h : Rises L) {k : Nat} (hk : k < L.length) : putPr (L.take k) (L.getD k (0, 0)).1 (L.getD k (0, 0)).2 = L.take (k + 1) := by
  have hg : L.getD k (0, 0) = L[k] := by simp [List.getD, hk]
  rw [hg, putPr_end, List.take_succ_eq_append_getElem hk]
  intro a ha
  obtain ⟨i, hi, rfl⟩ := List.getElem_of_mem ha
  rw [List.getElem_take]
  have hi' : i < k := by
    rw [List.length_take] at hi; omega
  exact List.pairwise_iff_getElem.1 h i k (by omega) hk hi'
theorem rises_take {L : Prs} (h : Rises L) (k : Nat) : Rises (L.take k) := List.Pairwise.sublist (List.take_sublist k L) h
theorem Ris.new (w : World) : Ris (w.alloc (.cells #[.slice none 0 0, (.func (.func 37) #[] #[])] 69)) w.heap.size [] := ⟨_, Blk2.new w _ _ _, Own.nil _ _ _ _ _⟩
set_option maxRecDepth 100000 in
set_option maxHeartbeats 2000000 in
theorem filled_any (L : Prs) (v : Value) (B : Nat) (w : World) (h : Row w B 2 L.length (rowL L) v) (hr : Rises L) (hn : L.length ≤ 800) :
    Calls Try.prog 36 #[(.func (.func 37) #[] #[]), v] w fun e w' => ∃ b, e = .returned (.pointer (some ⟨b, 0, none⟩)) ∧ w.heap.size ≤ b ∧ Ris w' b L ∧ Below w.heap.size w w' := by
  obtain ⟨ao, cp, rfl⟩ := h.form
  have H : Hid (Row w B 2 L.length (rowL L) (.slice ao L.length cp) ∧ Rises L) := ⟨h, hr⟩
  clear h hr
  go_enter Try.func36, Try.ntmps36
  go_wp2
  go_loopw [13] (fun i wr => ∃ k : Nat, k ≤ L.length ∧ i = .int .i64 k ∧ Hid (Ris wr w.heap.size (L.take k) ∧ Below w.heap.size w wr)) (fun i _ => L.length - (intOf i).toNat)
  case atStart => exact ⟨0, Nat.zero_le _, rfl, Ris.new w, below_alloc _ _⟩
  case round =>
    obtain ⟨k, hk, rfl, HS⟩ := hrel
    by_cases hlt : k < L.length
    case neg =>
      obtain rfl : k = L.length := by omega
      have HE : Hid (Ris wr w.heap.size L ∧ Below w.heap.size w wr) := by
        have := HS.out
        rwa [List.take_length] at this
      clear HS
      go_wp2
      go_ret
      exact ⟨_, rfl, Nat.le_refl _, HE.out.1, HE.out.2⟩
    obtain ⟨g, o, hao, _, hg, y0, y1⟩ := (H.out.1.later HS.out.2).at2 hlt
    subst hao
    obtain ⟨n0, N0⟩ : ∃ x, rowL L (k * 2) = x := ⟨_, rfl⟩
    rw [N0] at y0
    obtain ⟨n1, N1⟩ : ∃ x, rowL L (k * 2 + 1) = x := ⟨_, rfl⟩
    rw [N1] at y1
    have HP : Hid (putPr (L.take k) n0 n1 = L.take (k + 1)) := by
      unfold Hid
      rw [← N0, ← N1, rowL_key, rowL_val]
      exact take_put H.out.2 hlt
    clear N0 N1
    have hz : Hid (w.heap.size < wr.heap.size) := HS.out.1.lt
    go_wp2_with fail
    refine (put_any (L.take k) w.heap.size n0 n1 _ (HS.out.1.later ?_) (rises_take H.out.2 k) (by rw [List.length_take]; omega)).mono ?_
    · exact below_alloc _ _
    rintro e w1 ⟨rfl, h1, q1⟩
    rw [HP.out] at h1
    have H1 : Hid (Ris w1 w.heap.size (L.take (k + 1)) ∧ Below w.heap.size w w1) := ⟨h1, HS.out.2.trans (((below_alloc wr _).mono (Nat.le_of_lt hz.out)).trans q1)⟩
    clear h1 q1 HS y0 y1
    go_wp2
    go_roundw
    case rel => exact ⟨k + 1, by omega, by go_num, H1⟩
    case measure => simp [intOf]; omega
/-- What an item makes of a list. -/
def stepA (L : Prs) (k kd v : Int) : Prs := if kd = 1 then putPr L k v else if kd = 2 then gonePr L k else L
/-- What the first m items make of it. -/
def applyN (L : Prs) (F : Nat → Int) : Nat → Prs
  | 0 => L
  | m + 1 => stepA (applyN L F m) (F (m * 3)) (F (m * 3 + 1)) (F (m * 3 + 2))
theorem putPr_len (L : Prs) (k v : Int) : (putPr L k v).length ≤ L.length + 1 := by
  induction L with
  | nil => simp [putPr]
  | cons e t ih =>
    rw [putPr]
    split
    · simp only [List.length_cons]
      have : (gonePr (e :: t) k).length ≤ (e :: t).length := List.length_filter_le _ _
      simp only [List.length_cons] at this
      omega
    · simp only [List.length_cons]; omega
theorem gonePr_len (L : Prs) (k : Int) : (gonePr L k).length ≤ L.length := List.length_filter_le _ _
theorem stepA_len (L : Prs) (k kd v : Int) : (stepA L k kd v).length ≤ L.length + 1 := by
  unfold stepA
  split
  · exact putPr_len L k v
  · split
    · exact Nat.le_trans (gonePr_len L k) (by omega)
    · omega
theorem stepA_rises {L : Prs} (h : Rises L) (k kd v : Int) : Rises (stepA L k kd v) := by
  unfold stepA
  split
  · exact putPr_rises h k v
  · split
    · exact gonePr_rises h k
    · exact h
theorem applyN_len (L : Prs) (F : Nat → Int) : ∀ m, (applyN L F m).length ≤ L.length + m
  | 0 => Nat.le_refl _
  | m + 1 => by
    have h1 := applyN_len L F m
    have h2 := stepA_len (applyN L F m) (F (m * 3)) (F (m * 3 + 1)) (F (m * 3 + 2))
    show (stepA _ _ _ _).length ≤ _
    omega
theorem applyN_rises {L : Prs} (h : Rises L) (F : Nat → Int) : ∀ m, Rises (applyN L F m)
  | 0 => h
  | m + 1 => stepA_rises (applyN_rises h F m) _ _ _
set_option maxRecDepth 100000 in
set_option maxHeartbeats 2000000 in
theorem applyTo_any (L : Prs) (F : Nat → Int) (n b : Nat) (y : Value) (B : Nat) (w0 w : World) (hi : Row w0 B 3 n F y) (h0 : Below w0.heap.size w0 w) (hb : w0.heap.size ≤ b) (h : Ris w b L) (hr : Rises L) (hL : L.length ≤ 800) (hn : n ≤ 12) :
    Calls Try.prog 38 #[.pointer (some ⟨b, 0, none⟩), y] w fun e w' => e = .returned (.tuple #[]) ∧ Ris w' b (applyN L F n) ∧ Below w0.heap.size w0 w' := by
  obtain ⟨ao, cp, rfl⟩ := hi.form
  have H : Hid (Row w0 B 3 n F (.slice ao n cp) ∧ Rises L) := ⟨hi, hr⟩
  have HB : Hid (Ris w b L ∧ Below w0.heap.size w0 w) := ⟨h, h0⟩
  clear hi hr h h0
  go_enter Try.func38, Try.ntmps38
  go_wp2
  go_loopw [8] (fun i wr => ∃ k : Nat, k ≤ n ∧ i = .int .i64 k ∧ Hid (Ris wr b (applyN L F k) ∧ Below w0.heap.size w0 wr)) (fun i _ => n - (intOf i).toNat)
  case atStart => exact ⟨0, Nat.zero_le _, rfl, HB.out⟩
  case round =>
    obtain ⟨k, hk, rfl, HS⟩ := hrel
    by_cases hlt : k < n
    case neg =>
      obtain rfl : k = n := by omega
      go_wp2
      go_end0
      exact ⟨rfl, HS.out.1, HS.out.2⟩
    obtain ⟨g, o, hao, _, hg, y0, y1, y2⟩ := (H.out.1.later HS.out.2).at3 hlt
    subst hao
    obtain ⟨n0, N0⟩ : ∃ x, F (k * 3) = x := ⟨_, rfl⟩
    rw [N0] at y0
    obtain ⟨n1, N1⟩ : ∃ x, F (k * 3 + 1) = x := ⟨_, rfl⟩
    rw [N1] at y1
    obtain ⟨n2, N2⟩ : ∃ x, F (k * 3 + 2) = x := ⟨_, rfl⟩
    rw [N2] at y2
    have HP : Hid (applyN L F (k + 1) = stepA (applyN L F k) n0 n1 n2) := by
      unfold Hid
      rw [← N0, ← N1, ← N2]
      rfl
    clear N0 N1 N2
    have hln : (applyN L F k).length ≤ 812 := Nat.le_trans (applyN_len L F k) (by omega)
    have HR : Hid (Rises (applyN L F k)) := applyN_rises H.out.2 F k
    have hz : Hid (b < wr.heap.size) := HS.out.1.lt
    by_cases k1 : n1 = 1
    · subst k1
      have HE : Hid (applyN L F (k + 1) = putPr (applyN L F k) n0 n2) := by unfold Hid; rw [HP.out, stepA, if_pos rfl]
      clear HP
      go_wp2_with fail
      refine (put_any (applyN L F k) b n0 n2 _ (HS.out.1.later ?_) HR.out (by omega)).mono ?_
      · exact below_alloc _ _
      rintro e w1 ⟨rfl, h1, q1⟩
      rw [← HE.out] at h1
      have H1 : Hid (Ris w1 b (applyN L F (k + 1)) ∧ Below w0.heap.size w0 w1) := ⟨h1, HS.out.2.trans (((below_alloc wr _).mono (by have := hz.out; omega)).trans (q1.mono hb))⟩
      clear h1 q1 HS y0 y1 y2
      go_wp2
      go_roundw
      case rel => exact ⟨k + 1, by omega, by go_num, H1⟩
      case measure => simp [intOf]; omega
    have d1 : (n1 == 1) = false := beq_eq_false_iff_ne.2 k1
    by_cases k2 : n1 = 2
    · have HE : Hid (applyN L F (k + 1) = gonePr (applyN L F k) n0) := by unfold Hid; rw [HP.out, stepA, if_neg k1, if_pos k2]
      subst k2
      clear HP k1 d1
      go_wp2_with fail
      obtain ⟨v, hb1, ho1⟩ := HS.out.1
      refine (drop_any (applyN L F k) b v n0 0 _ (hb1.alloc _) (ho1.alloc _) HR.out (by omega)).mono ?_
      rintro e w1 ⟨rfl, ⟨v1, h1, _⟩, q1, _⟩
      rw [← HE.out] at h1
      have H1 : Hid (Ris w1 b (applyN L F (k + 1)) ∧ Below w0.heap.size w0 w1) := ⟨⟨v1, h1⟩, HS.out.2.trans (((below_alloc wr _).mono (by have := hz.out; omega)).trans (q1.mono hb))⟩
      clear h1 q1 HS y0 y1 y2 hb1 ho1
      go_wp2
      go_roundw
      case rel => exact ⟨k + 1, by omega, by go_num, H1⟩
      case measure => simp [intOf]; omega
    have d2 : (n1 == 2) = false := beq_eq_false_iff_ne.2 k2
    have HE : Hid (applyN L F (k + 1) = applyN L F k) := by unfold Hid; rw [HP.out, stepA, if_neg k1, if_neg k2]
    clear k1 k2 HP
    have H1 : Hid (∀ o : Obj, Ris (wr.alloc o) b (applyN L F (k + 1)) ∧ Below w0.heap.size w0 (wr.alloc o)) := fun o => by
      rw [HE.out]
      exact ⟨HS.out.1.later (below_alloc _ _), HS.out.2.alloc (by have := hz.out; omega) _⟩
    go_wp2
    go_roundw
    case rel => exact ⟨k + 1, by omega, by go_num, H1.out _⟩
    case measure => simp [intOf]; omega
end Go.Proofs.Ytdbcmckoiacemaa

namespace Go.Proofs.Ytdbcmckoiacemaa
open Go.RowKit

theorem pairsF_all {F : Nat → Int} : ∀ {m k : Nat}, pairsF F m k = 0 → ∀ j, j < m → pairF F (k + j) = 0
  | 0, _, _, j, hj => absurd hj (Nat.not_lt_zero j)
  | m + 1, k, h, j, hj => by
    rw [pairsF] at h
    by_cases h0 : pairF F k = 0
    · rw [if_neg (fun q => q h0)] at h
      cases j with
      | zero => exact h0
      | succ j =>
        have := pairsF_all h j (by omega)
        rwa [show k + 1 + j = k + (j + 1) by omega] at this
    · rw [if_pos h0] at h
      exact absurd h h0
theorem faultOf_in {k : Int} (h : faultOf k = 0) : 0 ≤ k ∧ k ≤ 199 := by
  rcases Classical.em (k < 0 ∨ 199 < k) with q | q
  · rw [faultOf_range q] at h; omega
  · omega
theorem pairF_zero {F : Nat → Int} {k : Nat} (h : pairF F k = 0) : faultOf (F (k * 2)) = 0 ∧ (0 ≤ F (k * 2 + 1) ∧ F (k * 2 + 1) ≤ 9999) ∧ (0 < k → F ((k - 1) * 2) < F (k * 2)) := by
  unfold pairF at h
  by_cases h1 : faultOf (F (k * 2)) = 0
  · rw [if_neg (fun q => q h1)] at h
    by_cases h2 : 0 ≤ F (k * 2 + 1) ∧ F (k * 2 + 1) ≤ 9999
    · rw [if_neg (fun q => q h2)] at h
      by_cases h3 : 0 < k ∧ F (k * 2) ≤ F ((k - 1) * 2)
      · rw [if_pos h3] at h; omega
      · exact ⟨h1, h2, fun q => by omega⟩
    · rw [if_pos h2] at h; omega
  · rw [if_pos h1] at h; exact absurd h h1
/-- A list without a fault: its keys rise, and it is short. -/
theorem pairs_rise {F : Nat → Int} {n : Nat} (h : pairsF F n 0 = 0) : Rises (listOf F n) ∧ n ≤ 200 := by
  have hall : ∀ j, j < n → pairF F j = 0 := fun j hj => by have := pairsF_all h j hj; rwa [Nat.zero_add] at this
  have hup : ∀ d i, i + d < n → F (i * 2) + d ≤ F ((i + d) * 2) := fun d => by
    induction d with
    | zero => intro i _; simp
    | succ d ih =>
      intro i hi
      have h1 := ih i (by omega)
      have h2 := (pairF_zero (hall (i + (d + 1)) hi)).2.2 (by omega)
      rw [show i + (d + 1) - 1 = i + d by omega] at h2
      omega
  constructor
  · refine List.pairwise_iff_getElem.2 fun i j hi hj hij => ?_
    rw [listOf_length] at hi hj
    simp only [listOf, List.getElem_map, List.getElem_range]
    have := hup (j - i) i (by omega)
    rw [show i + (j - i) = j by omega] at this
    omega
  · rcases Nat.lt_or_ge 200 n with q | q
    · have h1 := hup 200 0 (by omega)
      have h2 := faultOf_in (pairF_zero (hall (0 + 200) (by omega))).1
      have h3 := faultOf_in (pairF_zero (hall 0 (by omega))).1
      simp only [Nat.zero_add, Nat.zero_mul] at h1 h2 h3
      omega
    · exact q
/-- Whether a key has a pair, and its value. -/
def lookF (L : Prs) (k : Int) : Bool × Int := match L.find? (fun e => e.1 == k) with
  | some e => (true, e.2)
  | none => (false, 0)
theorem lookF_at {L : Prs} {k : Int} {i : Nat} (hi : i < L.length) (h : ∀ j, j < i → (L.getD j (0, 0)).1 ≠ k) (h1 : (L.getD i (0, 0)).1 = k) : lookF L k = (true, (L.getD i (0, 0)).2) := by
  unfold lookF
  have hf : L.find? (fun e => e.1 == k) = some (L.getD i (0, 0)) := by
    induction L generalizing i with
    | nil => simp at hi
    | cons e t ih =>
      cases i with
      | zero =>
        have : e.1 = k := by simpa using h1
        simp [this]
      | succ i =>
        have h0 := h 0 (by omega)
        have : ¬ e.1 = k := by simpa using h0
        rw [List.find?_cons_of_neg (by simpa using this), List.getD_cons_succ]
        exact ih (by simpa using hi) (fun j hj => by have := h (j + 1) (by omega); simpa using this) (by simpa using h1)
  rw [hf]
theorem lookF_no {L : Prs} {k : Int} (h : ∀ j, j < L.length → (L.getD j (0, 0)).1 ≠ k) : lookF L k = (false, 0) := by
  unfold lookF
  have hf : L.find? (fun e => e.1 == k) = none := by
    refine List.find?_eq_none.2 fun e he => ?_
    obtain ⟨i, hi, rfl⟩ := List.getElem_of_mem he
    have := h i hi
    simp only [List.getD_eq_getElem?_getD, List.getElem?_eq_getElem hi, Option.getD_some] at this
    simpa using this
  rw [hf]
theorem look_at {L : Prs} {k : Int} (h : atKey L k) : lookF L k = (true, (L.getD (aheadN L k) (0, 0)).2) := lookF_at h.1 (fun j hj => by have := aheadN_lt hj; omega) h.2
theorem look_no {L : Prs} (hr : Rises L) {k : Int} (h : ¬ atKey L k) : lookF L k = (false, 0) := by
  refine lookF_no fun j hj => ?_
  rcases Nat.lt_or_ge j (aheadN L k) with q | q
  · have := aheadN_lt q; omega
  · have h1 := aheadN_not (L := L) (k := k) (by omega)
    have h2 : (L.getD (aheadN L k) (0, 0)).1 ≠ k := fun e => h ⟨by omega, e⟩
    rcases Nat.eq_or_lt_of_le q with e | q
    · rw [← e]; exact h2
    · have := List.pairwise_iff_getElem.1 hr (aheadN L k) j (by omega) hj q
      simp only [List.getD_eq_getElem?_getD, List.getElem?_eq_getElem hj, List.getElem?_eq_getElem (show aheadN L k < L.length by omega), Option.getD_some] at h1 h2 ⊢
      omega
/-- What ValueIn answers. -/
def ValAns (n : Nat) (F : Nat → Int) (key c v : Int) (has : Bool) : Prop :=
  (pairsF F n 0 ≠ 0 ∧ c = pairsF F n 0 ∧ v = 0 ∧ has = false) ∨ (pairsF F n 0 = 0 ∧ faultOf key ≠ 0 ∧ c = faultOf key ∧ v = 0 ∧ has = false) ∨ (pairsF F n 0 = 0 ∧ faultOf key = 0 ∧ c = 0 ∧ lookF (listOf F n) key = (has, v))
theorem ValAns.get (n : Nat) (F : Nat → Int) (key : Int) : ∃ c v has, ValAns n F key c v has := by
  by_cases h : pairsF F n 0 = 0
  · by_cases h2 : faultOf key = 0
    · exact ⟨0, (lookF (listOf F n) key).2, (lookF (listOf F n) key).1, Or.inr (Or.inr ⟨h, h2, rfl, rfl⟩)⟩
    · exact ⟨faultOf key, 0, false, Or.inr (Or.inl ⟨h, h2, rfl, rfl, rfl⟩)⟩
  · exact ⟨_, 0, false, Or.inl ⟨h, rfl, rfl, rfl⟩⟩
theorem row_list {w : World} {B n : Nat} {F : Nat → Int} {v : Value} (h : Row w B 2 n F v) : Row w B 2 (listOf F n).length (rowL (listOf F n)) v := by
  rw [listOf_length]
  exact row_eqP h fun p hp => (rowL_listOf hp).symm
def ResGet (w : World) (c v : Int) (has : Bool) (e : Ending) (w' : World) : Prop := e = .returned (.agg #[.int .i64 c, .bool has, .int .i64 v]) ∧ Below w.heap.size w w'
end Go.Proofs.Ytdbcmckoiacemaa

namespace Go.Proofs.Ytdbcmckoiacemaa
open Go.RowKit

/-- The numbers of a list of pairs, as a list. -/
def flatL : Prs → List Int
  | [] => []
  | e :: t => e.1 :: e.2 :: flatL t
theorem flatL_length : ∀ L, (flatL L).length = L.length * 2
  | [] => rfl
  | e :: t => by simp only [flatL, List.length_cons, flatL_length t]; omega
theorem flatL_append : ∀ (L M : Prs), flatL (L ++ M) = flatL L ++ flatL M
  | [], _ => rfl
  | e :: t, M => by simp only [List.cons_append, flatL, flatL_append t M]
theorem flatL_get : ∀ (L : Prs) (p : Nat), (flatL L).getD p 0 = rowL L p
  | [], p => by simp [flatL, rowL]
  | e :: t, 0 => rfl
  | e :: t, 1 => rfl
  | e :: t, p + 2 => by
    simp only [flatL, List.getD_cons_succ]
    rw [flatL_get t p, rowL, rowL, show (p + 2) % 2 = p % 2 by omega, show (p + 2) / 2 = p / 2 + 1 by omega, List.getD_cons_succ]
theorem ownM_own {w : World} {B : Nat} {v : Value} {L : Prs} (h : OwnM w B 65 2 v L.length (flatL L)) : Own w B 65 2 L.length (rowL L) v := own_eqP (h.own (flatL_length L)) fun p _ => flatL_get L p
theorem own_ownP {w : World} {B : Nat} {v : Value} {L : Prs} (h : Own w B 65 2 L.length (rowL L) v) : OwnM w B 65 2 v L.length (flatL L) := by
  unfold OwnM
  unfold Own at h
  have e : (flatL L).map (Value.int .i64) = vals (rowL L) (L.length * 2) := by
    refine List.ext_getElem? fun p => ?_
    unfold vals
    rw [List.getElem?_map, List.getElem?_map]
    by_cases hp : p < L.length * 2
    · rw [List.getElem?_range hp]
      have h1 := flatL_get L p
      rw [List.getD_eq_getElem?_getD] at h1
      have hp' : p < (flatL L).length := by rw [flatL_length]; exact hp
      rw [List.getElem?_eq_getElem hp'] at h1 ⊢
      simp only [Option.getD_some] at h1
      simp [h1]
    · rw [List.getElem?_eq_none (by rw [flatL_length]; omega), List.getElem?_eq_none (by simp; omega)]
      rfl
  rwa [e]
theorem row_lit2 (w : World) (x0 x1 : Int) (t : TypeId) : Row (w.alloc (.cells #[.int .i64 x0, .int .i64 x1] t)) 0 2 1 (fun p => [x0, x1].getD p 0) (.slice (some ⟨w.heap.size, 0, none⟩) 1 1) := by
  refine ⟨_, _, rfl, fun _ => ⟨w.heap.size, 0, rfl, Nat.zero_le _, by simp, fun p hp => ?_⟩⟩
  rw [Nat.zero_add, World.cell?_alloc_mark]
  match p, hp with
  | 0, _ => rfl
  | 1, _ => rfl
/-- One round of the model's set. -/
def stepS (k x : Int) (q : Prs × Bool) (e : Int × Int) : Prs × Bool :=
  ((if q.2 = false ∧ k ≤ e.1 then q.1 ++ [(k, x)] else q.1) ++ (if e.1 = k then [] else [e]), if k ≤ e.1 then true else q.2)
def accS (L : Prs) (k x : Int) (has : Bool) : Nat → Prs × Bool
  | 0 => ([], !has)
  | i + 1 => stepS k x (accS L k x has i) (L.getD i (0, 0))
/-- What the model's set comes to. -/
def setS (L : Prs) (k x : Int) (has : Bool) : Prs := if (accS L k x has L.length).2 then (accS L k x has L.length).1 else (accS L k x has L.length).1 ++ [(k, x)]
theorem accS_foldl (L : Prs) (k x : Int) (has : Bool) : ∀ i, i ≤ L.length → accS L k x has i = (L.take i).foldl (stepS k x) ([], !has)
  | 0, _ => by simp [accS]
  | i + 1, h => by
    have hg : L.getD i (0, 0) = L[i] := by simp [List.getD, show i < L.length by omega]
    rw [accS, accS_foldl L k x has i (by omega), List.take_succ_eq_append_getElem (by omega), List.foldl_append, hg]
    rfl
theorem fold_done (k x : Int) : ∀ (L o : Prs), L.foldl (stepS k x) (o, true) = (o ++ gonePr L k, true)
  | [], o => by simp [gonePr]
  | e :: t, o => by
    rw [List.foldl_cons]
    have h1 : stepS k x (o, true) e = (o ++ (if e.1 = k then [] else [e]), true) := by simp [stepS]
    rw [h1, fold_done k x t, List.append_assoc]
    congr 2
    unfold gonePr
    by_cases he : e.1 = k
    · rw [if_pos he, List.filter_cons_of_neg (by simp [he])]; rfl
    · rw [if_neg he, List.filter_cons_of_pos (by simp [he])]; rfl
theorem fold_put (k x : Int) : ∀ (L o : Prs), (if (L.foldl (stepS k x) (o, false)).2 then (L.foldl (stepS k x) (o, false)).1 else (L.foldl (stepS k x) (o, false)).1 ++ [(k, x)]) = o ++ putPr L k x
  | [], o => by simp [putPr]
  | e :: t, o => by
    rw [List.foldl_cons]
    by_cases he : k ≤ e.1
    · have h1 : stepS k x (o, false) e = ((o ++ [(k, x)]) ++ (if e.1 = k then [] else [e]), true) := by simp [stepS, he]
      rw [h1, fold_done]
      simp only [if_true]
      rw [putPr, if_pos he]
      have h2 : gonePr (e :: t) k = (if e.1 = k then [] else [e]) ++ gonePr t k := by
        unfold gonePr
        by_cases hk : e.1 = k
        · rw [if_pos hk, List.filter_cons_of_neg (by simp [hk])]; rfl
        · rw [if_neg hk, List.filter_cons_of_pos (by simp [hk])]; rfl
      rw [h2]
      simp
    · have h1 : stepS k x (o, false) e = (o ++ [e], false) := by simp [stepS, he, show ¬ e.1 = k by omega]
      rw [h1, fold_put k x t (o ++ [e]), putPr, if_neg he]
      simp
theorem setS_put (L : Prs) (k x : Int) : setS L k x true = putPr L k x := by
  unfold setS
  rw [accS_foldl L k x true _ (Nat.le_refl _), List.take_length]
  exact fold_put k x L []
theorem setS_gone (L : Prs) (k x : Int) : setS L k x false = gonePr L k := by
  unfold setS
  rw [accS_foldl L k x false _ (Nat.le_refl _), List.take_length]
  show (if (L.foldl (stepS k x) ([], true)).2 = true then (L.foldl (stepS k x) ([], true)).1 else _) = _
  rw [fold_done]
  rfl
theorem accS_len (L : Prs) (k x : Int) (has : Bool) : ∀ i, (accS L k x has i).1.length ≤ i * 2
  | 0 => by simp [accS]
  | i + 1 => by
    have h := accS_len L k x has i
    rw [accS, stepS]
    simp only [List.length_append]
    have h1 : (if (accS L k x has i).2 = false ∧ k ≤ (L.getD i (0, 0)).1 then (accS L k x has i).1 ++ [(k, x)] else (accS L k x has i).1).length ≤ (accS L k x has i).1.length + 1 := by split <;> simp
    have h2 : (if (L.getD i (0, 0)).1 = k then [] else [L.getD i (0, 0)]).length ≤ 1 := by split <;> simp
    omega
/-- What stands while the model sets. -/
def SetE (w : World) (k x : Int) (v : Value) (o : Prs) (X : World) : Prop := OwnM X (w.heap.size + 1) 65 2 v o.length (flatL o) ∧ Blk2 X w.heap.size (.int .i64 k) (.int .i64 x) ∧ Below w.heap.size w X
theorem SetE.push {w X w2 : World} {k x a b : Int} {ao ao1 : Option Addr} {cp cp1 : Nat} {o : Prs} (h : SetE w k x (.slice ao o.length cp) o X) (O2 : OwnM w2 (w.heap.size + 1) 65 2 (.slice ao1 (o.length + 1) cp1) (o.length + 1) (flatL o ++ nums (fun p => [a, b].getD p 0) (1 * 2))) (G2 : (X.alloc (.cells #[.int .i64 a, .int .i64 b] 65)).grownBy w2 (Value.slice ao o.length cp).ownBlock) : SetE w k x (.slice ao1 (o ++ [(a, b)]).length cp1) (o ++ [(a, b)]) w2 := by
  refine ⟨?_, (h.2.1.alloc _).kept (G2.block _ (by have := h.2.1.lt; simp; omega) (fun e => by have := (h.1.block _ e.symm).1; omega)), (h.2.2.alloc h.2.2.size _).grown G2 (by have := h.2.2.size; simp; omega) (fun r e => by have := (h.1.block r e).1; omega)⟩
  rw [List.length_append, flatL_append]
  exact O2
set_option maxRecDepth 100000 in
set_option maxHeartbeats 4000000 in
theorem l11Set_any (L : Prs) (v : Value) (B : Nat) (k x : Int) (has : Bool) (w : World) (h : Row w B 2 L.length (rowL L) v) (hn : L.length ≤ 1000) :
    Calls Try.prog 62 #[v, .agg #[.int .i64 k, .int .i64 x], .bool has] w fun e w' => ∃ ao cp, e = .returned (.slice ao (setS L k x has).length cp) ∧ Own w' w.heap.size 65 2 (setS L k x has).length (rowL (setS L k x has)) (.slice ao (setS L k x has).length cp) ∧ Below w.heap.size w w' := by
  obtain ⟨ao0, cp0, rfl⟩ := h.form
  have H : Hid (Row w B 2 L.length (rowL L) (.slice ao0 L.length cp0)) := h
  clear h
  obtain ⟨i0, hi, iz0, iz1, iz2⟩ := info_parts infoz_Pair
  obtain ⟨R, hR⟩ : ∃ R, setS L k x has = R := ⟨_, rfl⟩
  have HR : Hid (setS L k x has = R) := hR
  rw [hR]
  clear hR
  go_enter Try.func62, Try.ntmps62
  go_wp2
  go_loopw [7, 8, 9] (fun out d i wr => ∃ (j : Nat) (ao : Option Addr) (cp : Nat) (o : Prs) (dn : Bool), j ≤ L.length ∧ i = .int .i64 j ∧ d = .bool dn ∧ out = .slice ao o.length cp ∧ Hid (accS L k x has j = (o, dn)) ∧ Hid (SetE w k x (.slice ao o.length cp) o wr)) (fun _ _ i _ => L.length - (intOf i).toNat)
  case atStart =>
    refine ⟨0, _, _, [], !has, Nat.zero_le _, rfl, rfl, rfl, rfl, OwnM.lit0 _ _ _ _ (by simp), (Blk2.new w _ _ _).alloc _, (below_alloc _ _).alloc (by simp) _⟩
  case round =>
    obtain ⟨j, ao, cp, o, dn, hj, rfl, rfl, rfl, HA, HS⟩ := hrel
    have hol : o.length ≤ 2000 := by
      have := accS_len L k x has j
      rw [HA.out] at this
      simp only at this
      omega
    have hz : w.heap.size < wr.heap.size := HS.out.2.1.lt
    obtain ⟨⟨c0, c1⟩, _, _⟩ := HS.out.2.1
    by_cases hlt : j < L.length
    case neg =>
      obtain rfl : j = L.length := by omega
      cases dn with
      | true =>
        have HE : Hid (R = o) := by
          have := HR.out
          unfold setS at this
          rw [HA.out] at this
          exact (by simpa using this.symm : R = o)
        clear HA HR
        go_wp2
        refine bodyPost_ret (v := .slice ao o.length cp) (by simp [results, Try.results62, go_sem]) rfl ?_
        rw [HE.out]
        exact ⟨ao, cp, rfl, (ownM_own HS.out.1).mono (by omega), HS.out.2.2⟩
      | false =>
        have HE : Hid (R = o ++ [(k, x)]) := by
          have := HR.out
          unfold setS at this
          rw [HA.out] at this
          exact (by simpa using this.symm : R = o ++ [(k, x)])
        clear HA HR
        go_wp2_with (at_builtin; refine wpList_app 65 i0 (.agg #[.int .i64 0, .int .i64 0]) 2 16 rfl _ _ 24 rfl Try.underlying24 hi iz0 iz1 iz2 rfl (by omega) (by omega) _ (w.heap.size + 1) o.length (flatL o) (.slice ao o.length cp) rfl (HS.out.1.later (below_alloc _ _)) 0 1 (fun p => [k, x].getD p 0) (.slice (some ⟨wr.heap.size, 0, none⟩) 1 1) rfl (row_lit2 wr k x 65) (by omega) (by simp; omega) ?_; intro ao1 cp1 w1 O2 G2)
        have HS1 : Hid (SetE w k x (.slice ao1 (o ++ [(k, x)]).length cp1) (o ++ [(k, x)]) w1) := HS.out.push O2 G2
        have hz1 : w.heap.size < w1.heap.size := HS1.out.2.1.lt
        clear O2 G2
        go_wp2
        refine bodyPost_ret (v := .slice ao1 (o ++ [(k, x)]).length cp1) (by simp [results, Try.results62, go_sem]) rfl ?_
        rw [HE.out]
        exact ⟨ao1, cp1, rfl, (ownM_own HS1.out.1).mono (by omega), HS1.out.2.2⟩
    obtain ⟨g, oo, hao, _, hg, yw0, yw1⟩ := H.out.at2 hlt
    subst hao
    obtain ⟨n0, N0⟩ : ∃ x, rowL L (j * 2) = x := ⟨_, rfl⟩
    rw [N0] at yw0
    obtain ⟨n1, N1⟩ : ∃ x, rowL L (j * 2 + 1) = x := ⟨_, rfl⟩
    rw [N1] at yw1
    have HN : Hid (accS L k x has (j + 1) = stepS k x (o, dn) (n0, n1)) := by
      unfold Hid
      rw [accS, HA.out, ← N0, ← N1, rowL_key, rowL_val]
    clear N0 N1 HA HR c0 c1
    have yr0 := (HS.out.2.2.cell (p := ⟨g, oo + j * 2, none⟩) hg).trans yw0
    have yr1 := (HS.out.2.2.cell (p := ⟨g, oo + j * 2 + 1, none⟩) hg).trans yw1
    obtain ⟨⟨cr0, cr1⟩, _, _⟩ := HS.out.2.1
    cases dn with
    | true =>
      by_cases he : n0 = k
      · have HE : Hid (accS L k x has (j + 1) = (o, true)) := by unfold Hid; rw [HN.out]; simp [stepS, he]
        subst he
        clear HN
        go_wp2_with fail
        go_quiet (fail)
        have HSa : Hid (SetE w n0 x (.slice ao (o).length cp) (o) (wr.drewN nq)) := ⟨HS.out.1, HS.out.2.1, below_dn HS.out.2.2 _⟩
        generalize wr.drewN nq = Xa at HSa ⊢
        have hza : w.heap.size < Xa.heap.size := HSa.out.2.1.lt
        have ya0 := (HSa.out.2.2.cell (p := ⟨g, oo + j * 2, none⟩) hg).trans yw0
        have ya1 := (HSa.out.2.2.cell (p := ⟨g, oo + j * 2 + 1, none⟩) hg).trans yw1
        obtain ⟨⟨ca0, ca1⟩, _, _⟩ := HSa.out.2.1
        clear yr0 yr1 cr0 cr1
        go_wp2_with fail
        go_quiet (fail)
        have HSb : Hid (SetE w n0 x (.slice ao (o).length cp) (o) (Xa.drewN nq)) := ⟨HSa.out.1, HSa.out.2.1, below_dn HSa.out.2.2 _⟩
        generalize Xa.drewN nq = Xb at HSb ⊢
        have hzb : w.heap.size < Xb.heap.size := HSb.out.2.1.lt
        have yb0 := (HSb.out.2.2.cell (p := ⟨g, oo + j * 2, none⟩) hg).trans yw0
        have yb1 := (HSb.out.2.2.cell (p := ⟨g, oo + j * 2 + 1, none⟩) hg).trans yw1
        obtain ⟨⟨cb0, cb1⟩, _, _⟩ := HSb.out.2.1
        go_wp2
        go_roundw
        case rel => exact ⟨j + 1, ao, cp, o, true, by omega, by go_num, rfl, by first | rfl | simp, HE, HSb⟩
        case measure => simp [intOf]; omega
      · have HE : Hid (accS L k x has (j + 1) = (o ++ [(n0, n1)], true)) := by unfold Hid; rw [HN.out]; simp [stepS, he]
        have d : (n0 != k) = true := bne_iff_ne.2 he
        clear HN he
        go_wp2_with fail
        go_quiet (fail)
        have HSa : Hid (SetE w k x (.slice ao (o).length cp) (o) (wr.drewN nq)) := ⟨HS.out.1, HS.out.2.1, below_dn HS.out.2.2 _⟩
        generalize wr.drewN nq = Xa at HSa ⊢
        have hza : w.heap.size < Xa.heap.size := HSa.out.2.1.lt
        have ya0 := (HSa.out.2.2.cell (p := ⟨g, oo + j * 2, none⟩) hg).trans yw0
        have ya1 := (HSa.out.2.2.cell (p := ⟨g, oo + j * 2 + 1, none⟩) hg).trans yw1
        obtain ⟨⟨ca0, ca1⟩, _, _⟩ := HSa.out.2.1
        clear yr0 yr1 cr0 cr1
        go_wp2_with fail
        go_quiet (fail)
        have HSb : Hid (SetE w k x (.slice ao (o).length cp) (o) (Xa.drewN nq)) := ⟨HSa.out.1, HSa.out.2.1, below_dn HSa.out.2.2 _⟩
        generalize Xa.drewN nq = Xb at HSb ⊢
        have hzb : w.heap.size < Xb.heap.size := HSb.out.2.1.lt
        have yb0 := (HSb.out.2.2.cell (p := ⟨g, oo + j * 2, none⟩) hg).trans yw0
        have yb1 := (HSb.out.2.2.cell (p := ⟨g, oo + j * 2 + 1, none⟩) hg).trans yw1
        obtain ⟨⟨cb0, cb1⟩, _, _⟩ := HSb.out.2.1
        clear ya0 ya1 ca0 ca1
        go_wp2_with (at_builtin; refine wpList_app 65 i0 (.agg #[.int .i64 0, .int .i64 0]) 2 16 rfl _ _ 24 rfl Try.underlying24 hi iz0 iz1 iz2 rfl (by omega) (by omega) _ (w.heap.size + 1) (o).length (flatL (o)) (.slice ao (o).length cp) rfl (HSb.out.1.later (below_alloc _ _)) 0 1 (fun p => [n0, n1].getD p 0) (.slice (some ⟨Xb.heap.size, 0, none⟩) 1 1) rfl (row_lit2 Xb n0 n1 65) (by simp <;> omega) (by simp; omega) ?_; intro ao1 cp1 w1 O2 G2)
        have HS1 : Hid (SetE w k x (.slice ao1 ((o) ++ [(n0, n1)]).length cp1) ((o) ++ [(n0, n1)]) w1) := HSb.out.push O2 G2
        have hz1 : w.heap.size < w1.heap.size := HS1.out.2.1.lt
        clear O2 G2
        go_wp2
        go_roundw
        case rel => exact ⟨j + 1, ao1, cp1, o ++ [(n0, n1)], true, by omega, by go_num, rfl, by first | rfl | simp, HE, HS1⟩
        case measure => simp [intOf]; omega
    | false =>
      by_cases hle : k ≤ n0
      · have dg : decide (n0 ≥ k) = true := decide_eq_true hle
        by_cases he : n0 = k
        · have HE : Hid (accS L k x has (j + 1) = (o ++ [(k, x)], true)) := by unfold Hid; rw [HN.out]; simp [stepS, he]
          subst he
          clear HN hle
          go_wp2_with fail
          go_quiet (fail)
          have HSa : Hid (SetE w n0 x (.slice ao (o).length cp) (o) (wr.drewN nq)) := ⟨HS.out.1, HS.out.2.1, below_dn HS.out.2.2 _⟩
          generalize wr.drewN nq = Xa at HSa ⊢
          have hza : w.heap.size < Xa.heap.size := HSa.out.2.1.lt
          have ya0 := (HSa.out.2.2.cell (p := ⟨g, oo + j * 2, none⟩) hg).trans yw0
          have ya1 := (HSa.out.2.2.cell (p := ⟨g, oo + j * 2 + 1, none⟩) hg).trans yw1
          obtain ⟨⟨ca0, ca1⟩, _, _⟩ := HSa.out.2.1
          clear yr0 yr1 cr0 cr1
          go_wp2_with (at_builtin; refine wpList_app 65 i0 (.agg #[.int .i64 0, .int .i64 0]) 2 16 rfl _ _ 24 rfl Try.underlying24 hi iz0 iz1 iz2 rfl (by omega) (by omega) _ (w.heap.size + 1) (o).length (flatL (o)) (.slice ao (o).length cp) rfl (HSa.out.1.later (below_alloc _ _)) 0 1 (fun p => [n0, x].getD p 0) (.slice (some ⟨Xa.heap.size, 0, none⟩) 1 1) rfl (row_lit2 Xa n0 x 65) (by simp <;> omega) (by simp; omega) ?_; intro ao1 cp1 w1 O2 G2)
          have HS1 : Hid (SetE w n0 x (.slice ao1 ((o) ++ [(n0, x)]).length cp1) ((o) ++ [(n0, x)]) w1) := HSa.out.push O2 G2
          have hz1 : w.heap.size < w1.heap.size := HS1.out.2.1.lt
          clear O2 G2
          clear ya0 ya1 ca0 ca1
          have ys0 := (HS1.out.2.2.cell (p := ⟨g, oo + j * 2, none⟩) hg).trans yw0
          have ys1 := (HS1.out.2.2.cell (p := ⟨g, oo + j * 2 + 1, none⟩) hg).trans yw1
          obtain ⟨⟨cs0, cs1⟩, _, _⟩ := HS1.out.2.1
          go_wp2_with fail
          go_quiet (fail)
          have HSb : Hid (SetE w n0 x (.slice ao1 (o ++ [(n0, x)]).length cp1) (o ++ [(n0, x)]) (w1.drewN nq)) := ⟨HS1.out.1, HS1.out.2.1, below_dn HS1.out.2.2 _⟩
          generalize w1.drewN nq = Xb at HSb ⊢
          have hzb : w.heap.size < Xb.heap.size := HSb.out.2.1.lt
          have yb0 := (HSb.out.2.2.cell (p := ⟨g, oo + j * 2, none⟩) hg).trans yw0
          have yb1 := (HSb.out.2.2.cell (p := ⟨g, oo + j * 2 + 1, none⟩) hg).trans yw1
          obtain ⟨⟨cb0, cb1⟩, _, _⟩ := HSb.out.2.1
          go_wp2
          go_roundw
          case rel => exact ⟨j + 1, ao1, cp1, o ++ [(n0, x)], true, by omega, by go_num, rfl, by first | rfl | simp, HE, HSb⟩
          case measure => simp [intOf]; omega
        · have HE : Hid (accS L k x has (j + 1) = ((o ++ [(k, x)]) ++ [(n0, n1)], true)) := by unfold Hid; rw [HN.out]; simp [stepS, he, hle]
          have d : (n0 != k) = true := bne_iff_ne.2 he
          clear HN hle he
          go_wp2_with fail
          go_quiet (fail)
          have HSa : Hid (SetE w k x (.slice ao (o).length cp) (o) (wr.drewN nq)) := ⟨HS.out.1, HS.out.2.1, below_dn HS.out.2.2 _⟩
          generalize wr.drewN nq = Xa at HSa ⊢
          have hza : w.heap.size < Xa.heap.size := HSa.out.2.1.lt
          have ya0 := (HSa.out.2.2.cell (p := ⟨g, oo + j * 2, none⟩) hg).trans yw0
          have ya1 := (HSa.out.2.2.cell (p := ⟨g, oo + j * 2 + 1, none⟩) hg).trans yw1
          obtain ⟨⟨ca0, ca1⟩, _, _⟩ := HSa.out.2.1
          clear yr0 yr1 cr0 cr1
          go_wp2_with (at_builtin; refine wpList_app 65 i0 (.agg #[.int .i64 0, .int .i64 0]) 2 16 rfl _ _ 24 rfl Try.underlying24 hi iz0 iz1 iz2 rfl (by omega) (by omega) _ (w.heap.size + 1) (o).length (flatL (o)) (.slice ao (o).length cp) rfl (HSa.out.1.later (below_alloc _ _)) 0 1 (fun p => [k, x].getD p 0) (.slice (some ⟨Xa.heap.size, 0, none⟩) 1 1) rfl (row_lit2 Xa k x 65) (by simp <;> omega) (by simp; omega) ?_; intro ao1 cp1 w1 O2 G2)
          have HS1 : Hid (SetE w k x (.slice ao1 ((o) ++ [(k, x)]).length cp1) ((o) ++ [(k, x)]) w1) := HSa.out.push O2 G2
          have hz1 : w.heap.size < w1.heap.size := HS1.out.2.1.lt
          clear O2 G2
          clear ya0 ya1 ca0 ca1
          have ys0 := (HS1.out.2.2.cell (p := ⟨g, oo + j * 2, none⟩) hg).trans yw0
          have ys1 := (HS1.out.2.2.cell (p := ⟨g, oo + j * 2 + 1, none⟩) hg).trans yw1
          obtain ⟨⟨cs0, cs1⟩, _, _⟩ := HS1.out.2.1
          go_wp2_with fail
          go_quiet (fail)
          have HSb : Hid (SetE w k x (.slice ao1 (o ++ [(k, x)]).length cp1) (o ++ [(k, x)]) (w1.drewN nq)) := ⟨HS1.out.1, HS1.out.2.1, below_dn HS1.out.2.2 _⟩
          generalize w1.drewN nq = Xb at HSb ⊢
          have hzb : w.heap.size < Xb.heap.size := HSb.out.2.1.lt
          have yb0 := (HSb.out.2.2.cell (p := ⟨g, oo + j * 2, none⟩) hg).trans yw0
          have yb1 := (HSb.out.2.2.cell (p := ⟨g, oo + j * 2 + 1, none⟩) hg).trans yw1
          obtain ⟨⟨cb0, cb1⟩, _, _⟩ := HSb.out.2.1
          clear ys0 ys1 cs0 cs1
          have e1 : (o ++ [(k, x)]).length = o.length + 1 := by simp
          go_wp2_with (at_builtin; refine wpList_app 65 i0 (.agg #[.int .i64 0, .int .i64 0]) 2 16 rfl _ _ 24 rfl Try.underlying24 hi iz0 iz1 iz2 rfl (by omega) (by omega) _ (w.heap.size + 1) (o.length + 1) (flatL (o ++ [(k, x)])) (.slice ao1 (o.length + 1) cp1) rfl (by have q := HSb.out.1.later (below_alloc _ (.cells #[.int .i64 n0, .int .i64 n1] 65)); rw [e1] at q; exact q) 0 1 (fun p => [n0, n1].getD p 0) (.slice (some ⟨Xb.heap.size, 0, none⟩) 1 1) rfl (row_lit2 Xb n0 n1 65) (by simp <;> omega) (by simp; omega) ?_; intro ao2 cp2 w2 O2 G2)
          have HS2 : Hid (SetE w k x (.slice ao2 ((o ++ [(k, x)]) ++ [(n0, n1)]).length cp2) ((o ++ [(k, x)]) ++ [(n0, n1)]) w2) := HSb.out.push (by rw [e1]; exact O2) (by rw [e1]; exact G2)
          have hz3 : w.heap.size < w2.heap.size := HS2.out.2.1.lt
          clear O2 G2
          go_wp2
          go_roundw
          case rel => exact ⟨j + 1, ao2, cp2, (o ++ [(k, x)]) ++ [(n0, n1)], true, by omega, by go_num, rfl, by first | rfl | simp, HE, HS2⟩
          case measure => simp [intOf]; omega
      · have dg : decide (n0 ≥ k) = false := decide_eq_false hle
        have he : n0 ≠ k := by omega
        have HE : Hid (accS L k x has (j + 1) = (o ++ [(n0, n1)], false)) := by unfold Hid; rw [HN.out]; simp [stepS, he, hle]
        have d : (n0 != k) = true := bne_iff_ne.2 he
        clear HN hle he
        go_wp2_with fail
        go_quiet (fail)
        have HSa : Hid (SetE w k x (.slice ao (o).length cp) (o) (wr.drewN nq)) := ⟨HS.out.1, HS.out.2.1, below_dn HS.out.2.2 _⟩
        generalize wr.drewN nq = Xa at HSa ⊢
        have hza : w.heap.size < Xa.heap.size := HSa.out.2.1.lt
        have ya0 := (HSa.out.2.2.cell (p := ⟨g, oo + j * 2, none⟩) hg).trans yw0
        have ya1 := (HSa.out.2.2.cell (p := ⟨g, oo + j * 2 + 1, none⟩) hg).trans yw1
        obtain ⟨⟨ca0, ca1⟩, _, _⟩ := HSa.out.2.1
        clear yr0 yr1 cr0 cr1
        go_wp2_with fail
        go_quiet (fail)
        have HSb : Hid (SetE w k x (.slice ao (o).length cp) (o) (Xa.drewN nq)) := ⟨HSa.out.1, HSa.out.2.1, below_dn HSa.out.2.2 _⟩
        generalize Xa.drewN nq = Xb at HSb ⊢
        have hzb : w.heap.size < Xb.heap.size := HSb.out.2.1.lt
        have yb0 := (HSb.out.2.2.cell (p := ⟨g, oo + j * 2, none⟩) hg).trans yw0
        have yb1 := (HSb.out.2.2.cell (p := ⟨g, oo + j * 2 + 1, none⟩) hg).trans yw1
        obtain ⟨⟨cb0, cb1⟩, _, _⟩ := HSb.out.2.1
        clear ya0 ya1 ca0 ca1
        go_wp2_with (at_builtin; refine wpList_app 65 i0 (.agg #[.int .i64 0, .int .i64 0]) 2 16 rfl _ _ 24 rfl Try.underlying24 hi iz0 iz1 iz2 rfl (by omega) (by omega) _ (w.heap.size + 1) (o).length (flatL (o)) (.slice ao (o).length cp) rfl (HSb.out.1.later (below_alloc _ _)) 0 1 (fun p => [n0, n1].getD p 0) (.slice (some ⟨Xb.heap.size, 0, none⟩) 1 1) rfl (row_lit2 Xb n0 n1 65) (by simp <;> omega) (by simp; omega) ?_; intro ao1 cp1 w1 O2 G2)
        have HS1 : Hid (SetE w k x (.slice ao1 ((o) ++ [(n0, n1)]).length cp1) ((o) ++ [(n0, n1)]) w1) := HSb.out.push O2 G2
        have hz1 : w.heap.size < w1.heap.size := HS1.out.2.1.lt
        clear O2 G2
        go_wp2
        go_roundw
        case rel => exact ⟨j + 1, ao1, cp1, o ++ [(n0, n1)], false, by omega, by go_num, rfl, by first | rfl | simp, HE, HS1⟩
        case measure => simp [intOf]; omega
end Go.Proofs.Ytdbcmckoiacemaa

namespace Go.Proofs.Ytdbcmckoiacemaa
open Go.RowKit

theorem Blk3.putP {x : World} {b : Nat} {a0 a1 a2 : Value} (h : Blk3 x b a0 a1 a2) (c0 c1 c2 : Value) : Blk3 (((x.setCell ⟨b, 0, none⟩ c0).setCell ⟨b, 1, none⟩ c1).setCell ⟨b, 2, none⟩ c2) b c0 c1 c2 := by
  obtain ⟨⟨h0, h1, h2⟩, f0, f1, f2⟩ := h
  refine ⟨⟨?_, ?_, ?_⟩, ?_, ?_, ?_⟩ <;> go_simp
set_option maxRecDepth 100000 in
set_option maxHeartbeats 2000000 in
theorem implValueIn_is (y : Value) (B n : Nat) (F : Nat → Int) (key c v : Int) (has : Bool) (w : World) (h : Row w B 2 n F y) (hn : n ≤ 1048576) (ha : ValAns n F key c v has) :
    Calls Try.prog 12 #[y, .int .i64 key] w (ResGet w c v has) := by
  have H : Hid (Row w B 2 n F y) := h
  clear h
  have HZ : Hid (Below w.heap.size w (w.alloc (.cells #[.int .i64 0, .bool false, .int .i64 0] 33))) := below_alloc _ _
  rcases ha with ⟨h1, rfl, rfl, rfl⟩ | ⟨h1, h2, rfl, rfl, rfl⟩ | ⟨h1, h2, rfl, h3⟩
  · obtain ⟨f, hf⟩ : ∃ f, pairsF F n 0 = f := ⟨_, rfl⟩
    have HF : Hid (pairsF F n 0 = f) := hf
    have d : (f != 0) = true := bne_iff_ne.2 (by rw [← hf]; exact h1)
    rw [hf]
    clear h1 hf
    go_enter Try.func12, Try.ntmps12
    go_wp2_with fail
    refine (implPairs_any _ B n F _ (H.out.alloc _) hn).mono ?_
    rintro e w1 ⟨rfl, q1⟩
    rw [HF.out]
    have hb := (Blk3.new w (.int .i64 0) (.bool false) (.int .i64 0) 33).later q1
    have HB : Hid (Below w.heap.size w w1) := HZ.out.trans (q1.mono (by simp))
    obtain ⟨⟨x0, x1, x2⟩, y0, y1, y2⟩ := hb
    clear q1
    go_wp2
    refine bodyPost_ret (v := .agg #[.int .i64 f, .bool false, .int .i64 0]) (by simp [results, Try.results12, go_sem, x0, x1, x2]) rfl ⟨rfl, ?_⟩
    exact ((HB.out.setCell (by simp) _).setCell (by simp) _).setCell (by simp) _
  · obtain ⟨f, hf⟩ : ∃ f, faultOf key = f := ⟨_, rfl⟩
    have HF : Hid (faultOf key = f ∧ pairsF F n 0 = 0) := ⟨hf, h1⟩
    have d : (f != 0) = true := bne_iff_ne.2 (by rw [← hf]; exact h2)
    rw [hf]
    clear h1 h2 hf
    go_enter Try.func12, Try.ntmps12
    go_wp2_with fail
    refine (implPairs_any _ B n F _ (H.out.alloc _) hn).mono ?_
    rintro e w1 ⟨rfl, q1⟩
    rw [HF.out.2]
    have hb := (Blk3.new w (.int .i64 0) (.bool false) (.int .i64 0) 33).later q1
    have HB : Hid (Below w.heap.size w w1) := HZ.out.trans (q1.mono (by simp))
    obtain ⟨⟨x0, x1, x2⟩, y0, y1, y2⟩ := hb
    clear q1
    go_wp2_with fail
    refine (keyFault_any _ _).mono ?_
    rintro e w9 ⟨rfl, hw9⟩
    obtain rfl := hw9.symm
    rw [HF.out.1]
    go_wp2
    refine bodyPost_ret (v := .agg #[.int .i64 f, .bool false, .int .i64 0]) (by simp [results, Try.results12, go_sem, x0, x1, x2]) rfl ⟨rfl, ?_⟩
    exact ((HB.out.setCell (by simp) _).setCell (by simp) _).setCell (by simp) _
  · have HF : Hid (faultOf key = 0 ∧ pairsF F n 0 = 0 ∧ lookF (listOf F n) key = (has, v)) := ⟨h2, h1, h3⟩
    clear h1 h2 h3
    go_enter Try.func12, Try.ntmps12
    go_wp2_with fail
    refine (implPairs_any _ B n F _ (H.out.alloc _) hn).mono ?_
    rintro e w1 ⟨rfl, q1⟩
    rw [HF.out.2.1]
    have hb := (Blk3.new w (.int .i64 0) (.bool false) (.int .i64 0) 33).later q1
    have HB : Hid (Below w.heap.size w w1) := HZ.out.trans (q1.mono (by simp))
    obtain ⟨⟨x0, x1, x2⟩, y0, y1, y2⟩ := hb
    clear q1
    go_wp2_with fail
    refine (keyFault_any _ _).mono ?_
    rintro e w9 ⟨rfl, hw9⟩
    obtain rfl := hw9.symm
    rw [HF.out.1]
    go_wp2_with fail
    refine (filled_any (listOf F n) _ B _ (row_list (H.out.later HB.out)) (pairs_rise HF.out.2.1).1 (by rw [listOf_length]; have := (pairs_rise HF.out.2.1).2; omega)).mono ?_
    rintro e w2 ⟨b, rfl, hbb, hris, q2⟩
    have HI : Hid (Ris w2 b (listOf F n) ∧ Below w1.heap.size w1 w2) := ⟨hris, q2⟩
    clear hris q2 hbb
    go_wp2_with fail
    obtain ⟨rv, hb1, ho1⟩ := HI.out.1
    refine (find_any (listOf F n) b (b + 1) rv key 0 _ hb1 ho1 (pairs_rise HF.out.2.1).1 (by rw [listOf_length]; have := (pairs_rise HF.out.2.1).2; omega)).mono ?_
    rintro e w3 ⟨r, y, z, rfl, hr, hr1, hr0, q3⟩
    have HL : Hid (has = r ∧ v = z) := by
      have h3 := HF.out.2.2
      cases r with
      | true =>
        rw [look_at (hr.1 rfl), ← hr1 rfl] at h3
        simp only [Prod.mk.injEq] at h3
        exact ⟨h3.1.symm, h3.2.symm⟩
      | false =>
        rw [look_no (pairs_rise HF.out.2.1).1 (fun q => (Bool.false_ne_true (hr.2 q)))] at h3
        simp only [Prod.mk.injEq] at h3
        exact ⟨h3.1.symm, h3.2.symm.trans (hr0 rfl).2.symm⟩
    have HB3 : Hid (Below w.heap.size w w3) := (HB.out.trans (HI.out.2.mono HB.out.size)).trans (q3.mono (Nat.le_trans HB.out.size HI.out.2.size))
    have hx := (Blk3.later ⟨⟨x0, x1, x2⟩, y0, y1, y2⟩ HI.out.2).later q3
    have hlt : w.heap.size < w3.heap.size := Nat.lt_of_lt_of_le (World.block_lt_of_cell? _ _ x0) (Nat.le_trans HI.out.2.size q3.size)
    obtain ⟨⟨z0, z1, z2⟩, t0, t1, t2⟩ := hx
    have HP : Hid (Blk3 ((((w3.setCell ⟨w.heap.size, 0, none⟩ (.int .i64 0)).setCell ⟨w.heap.size, 1, none⟩ (.bool r)).setCell ⟨w.heap.size, 2, none⟩ (.int .i64 z)).alloc (.cells #[.int .i64 y, .int .i64 z] 65)) w.heap.size (.int .i64 0) (.bool r) (.int .i64 z)) := Blk3.alloc (Blk3.putP ⟨⟨z0, z1, z2⟩, t0, t1, t2⟩ _ _ _) _
    clear hb1 ho1 hr hr1 hr0 q3 x0 x1 x2 y0 y1 y2
    go_wp2
    refine bodyPost_ret (v := .agg #[.int .i64 0, .bool r, .int .i64 z]) (by simp [results, Try.results12, go_sem, HP.out.1.1, HP.out.1.2.1, HP.out.1.2.2]) rfl ⟨by rw [HL.out.1, HL.out.2], ?_⟩
    repeat (first | exact HB3.out | refine Below.setCell ?_ (by first | omega | (simp <;> omega)) _ | refine Below.alloc ?_ (by first | omega | (simp <;> omega)) _)
end Go.Proofs.Ytdbcmckoiacemaa

namespace Go.Proofs.Ytdbcmckoiacemaa
open Go.RowKit

/-- What is told of an item that is applied. -/
def appF (k kd v : Int) : Int := if faultOf k ≠ 0 then faultOf k else if ¬ (1 ≤ kd ∧ kd ≤ 3) ∨ ¬ (0 ≤ v ∧ v ≤ 9999) then 3 else 0
def appsF (G : Nat → Int) : Nat → Nat → Int
  | 0, _ => 0
  | m + 1, k => if appF (G (k * 3)) (G (k * 3 + 1)) (G (k * 3 + 2)) ≠ 0 then appF (G (k * 3)) (G (k * 3 + 1)) (G (k * 3 + 2)) else appsF G m (k + 1)
theorem appsF_bad {G : Nat → Int} {m k : Nat} {f : Int} (hm : 0 < m) (h : appF (G (k * 3)) (G (k * 3 + 1)) (G (k * 3 + 2)) = f) (h0 : f ≠ 0) : appsF G m k = f := by
  obtain ⟨m, rfl⟩ : ∃ q, m = q + 1 := ⟨m - 1, by omega⟩
  rw [appsF, if_pos (by rw [h]; exact h0), h]
theorem appsF_on {G : Nat → Int} {m k : Nat} (hm : 0 < m) (h : appF (G (k * 3)) (G (k * 3 + 1)) (G (k * 3 + 2)) = 0) : appsF G m k = appsF G (m - 1) (k + 1) := by
  obtain ⟨m, rfl⟩ : ∃ q, m = q + 1 := ⟨m - 1, by omega⟩
  rw [appsF, if_neg (fun q => q h)]; rfl
theorem appsF_all {G : Nat → Int} : ∀ {m k : Nat}, appsF G m k = 0 → ∀ j, j < m → appF (G ((k + j) * 3)) (G ((k + j) * 3 + 1)) (G ((k + j) * 3 + 2)) = 0
  | 0, _, _, j, hj => absurd hj (Nat.not_lt_zero j)
  | m + 1, k, h, j, hj => by
    by_cases h0 : appF (G (k * 3)) (G (k * 3 + 1)) (G (k * 3 + 2)) = 0
    · rw [appsF, if_neg (fun q => q h0)] at h
      cases j with
      | zero => exact h0
      | succ j =>
        have := appsF_all h j (by omega)
        rwa [show k + 1 + j = k + (j + 1) by omega] at this
    · rw [appsF, if_pos h0] at h
      exact absurd h h0
theorem appF_zero {k kd v : Int} (h : appF k kd v = 0) : faultOf k = 0 ∧ (1 ≤ kd ∧ kd ≤ 3) ∧ (0 ≤ v ∧ v ≤ 9999) := by
  unfold appF at h
  by_cases h1 : faultOf k = 0
  · rw [if_neg (fun q => q h1)] at h
    by_cases h2 : ¬ (1 ≤ kd ∧ kd ≤ 3) ∨ ¬ (0 ≤ v ∧ v ≤ 9999)
    · rw [if_pos h2] at h; omega
    · exact ⟨h1, by omega, by omega⟩
  · rw [if_pos h1] at h; exact absurd h h1
/-- What is told of items that are applied. -/
def appliedF (m : Nat) (G : Nat → Int) : Int := if 12 < m then 2 else appsF G m 0
def ItmE (w : World) (g o i : Nat) (n0 n1 n2 : Int) (X : World) : Prop := (X.cell? ⟨g, o + i * 3, none⟩ = some (.int .i64 n0) ∧ X.cell? ⟨g, o + i * 3 + 1, none⟩ = some (.int .i64 n1) ∧ X.cell? ⟨g, o + i * 3 + 2, none⟩ = some (.int .i64 n2)) ∧ Below w.heap.size w X
theorem ItmE.later {w X X' : World} {g o i : Nat} {n0 n1 n2 : Int} (h : ItmE w g o i n0 n1 n2 X) (hb : Below X.heap.size X X') : ItmE w g o i n0 n1 n2 X' := by
  obtain ⟨⟨h0, h1, h2⟩, hy⟩ := h
  exact ⟨⟨(hb.cell (lt_cellP h0)).trans h0, (hb.cell (lt_cellP h1)).trans h1, (hb.cell (lt_cellP h2)).trans h2⟩, hy.trans (hb.mono hy.size)⟩
set_option maxRecDepth 100000 in
set_option maxHeartbeats 4000000 in
theorem l11Apply_any (L : Prs) (G : Nat → Int) (m : Nat) (v y : Value) (B B' : Nat) (w : World) (h : Row w B 2 L.length (rowL L) v) (hi' : Row w B' 3 m G y) (hn : L.length ≤ 800) (hm : m ≤ 12) (hk : ∀ i, i < m → 1 ≤ G (i * 3 + 1) ∧ G (i * 3 + 1) ≤ 3) :
    Calls Try.prog 41 #[v, y] w fun e w' => ∃ ao cp, e = .returned (.slice ao (applyN L G m).length cp) ∧ Own w' w.heap.size 65 2 (applyN L G m).length (rowL (applyN L G m)) (.slice ao (applyN L G m).length cp) ∧ Below w.heap.size w w' := by
  obtain ⟨ao0, cp0, rfl⟩ := h.form
  obtain ⟨bo0, bp0, rfl⟩ := hi'.form
  have H : Hid (Row w B 2 L.length (rowL L) (.slice ao0 L.length cp0) ∧ Row w B' 3 m G (.slice bo0 m bp0)) := ⟨h, hi'⟩
  clear h hi'
  obtain ⟨i0, hi, iz0, iz1, iz2⟩ := info_parts infoz_Pair
  go_enter Try.func41, Try.ntmps41
  go_wp2_with (at_builtin; refine wpList_app 65 i0 (.agg #[.int .i64 0, .int .i64 0]) 2 16 rfl _ _ 24 rfl Try.underlying24 hi iz0 iz1 iz2 rfl (by omega) (by omega) _ w.heap.size 0 [] (.slice (some ⟨w.heap.size, 0, none⟩) 0 0) rfl (OwnM.lit0 _ _ _ _ rfl) B L.length (rowL L) (.slice ao0 L.length cp0) rfl (H.out.1.alloc _) (by omega) (by simp) ?_; intro ao1 cp1 w2 O2 G2)
  have HS2 : Hid (Own w2 w.heap.size 65 2 L.length (rowL L) (.slice ao1 L.length cp1) ∧ Below w.heap.size w w2) := by
    rw [Nat.zero_add, List.nil_append] at O2
    exact ⟨own_eqP (O2.own (nums_length _ _)) (fun p hp => by simp [nums, hp]), (below_alloc w _).grown G2 (by simp) (fun r e => by simp [Value.ownBlock] at e; omega)⟩
  clear O2 G2
  go_wp2
  go_loopw [5, 6] (fun out i wr => ∃ (j : Nat) (ao : Option Addr) (cp : Nat), j ≤ m ∧ i = .int .i64 j ∧ out = .slice ao (applyN L G j).length cp ∧ Hid (Own wr w.heap.size 65 2 (applyN L G j).length (rowL (applyN L G j)) (.slice ao (applyN L G j).length cp) ∧ Below w.heap.size w wr)) (fun _ i _ => m - (intOf i).toNat)
  case atStart => exact ⟨0, ao1, cp1, Nat.zero_le _, rfl, rfl, HS2⟩
  case round =>
    obtain ⟨j, ao, cp, hj, rfl, rfl, HS⟩ := hrel
    by_cases hlt : j < m
    case neg =>
      obtain rfl : j = m := by omega
      go_wp2
      exact bodyPost_ret (v := .slice ao (applyN L G j).length cp) (by simp [results, Try.results41, go_sem]) rfl ⟨ao, cp, rfl, HS.out⟩
    have hlen : (applyN L G j).length ≤ 812 := Nat.le_trans (applyN_len L G j) (by omega)
    have hkj := hk j hlt
    obtain ⟨g, o, hbo, _, hg, y0, y1, y2⟩ := (H.out.2.later HS.out.2).at3 hlt
    subst hbo
    obtain ⟨n0, N0⟩ : ∃ x, G (j * 3) = x := ⟨_, rfl⟩
    rw [N0] at y0
    obtain ⟨n1, N1⟩ : ∃ x, G (j * 3 + 1) = x := ⟨_, rfl⟩
    rw [N1] at y1 hkj
    obtain ⟨n2, N2⟩ : ∃ x, G (j * 3 + 2) = x := ⟨_, rfl⟩
    rw [N2] at y2
    have HP : Hid (applyN L G (j + 1) = stepA (applyN L G j) n0 n1 n2) := by
      unfold Hid
      rw [← N0, ← N1, ← N2]
      rfl
    clear N0 N1 N2 HS2
    obtain ⟨A, hA⟩ : ∃ A, applyN L G j = A := ⟨_, rfl⟩
    rw [hA] at hlen HS HP
    rw [hA]
    clear hA
    by_cases k3 : n1 = 3
    · have HE : Hid (applyN L G (j + 1) = A) := by unfold Hid; rw [HP.out, stepA, if_neg (by omega), if_neg (by omega)]
      subst k3
      clear HP hkj
      go_wp2
      go_roundw
      case rel =>
        refine ⟨j + 1, ao, cp, by omega, by go_num, by rw [HE.out], ?_⟩
        rw [HE.out]
        exact HS
      case measure => simp [intOf]; omega
    have d3 : (n1 != 3) = true := bne_iff_ne.2 k3
    by_cases k1 : n1 = 1
    · have HE : Hid (applyN L G (j + 1) = setS A n0 n2 true) := by unfold Hid; rw [HP.out, stepA, if_pos k1, setS_put]
      subst k1
      clear HP hkj k3 d3
      go_wp2_with fail
      refine wp_region_held_drew (S := ItmE w g o j n0 1 n2) (by kernel_rfl) ⟨⟨y0, y1, y2⟩, HS.out.2.drew⟩ (fun hS => ?_)
      refine tkH 0 ?_ hS (fun wx hx => ?_) ?_; rotate_left
      · obtain ⟨⟨hx0, hx1, hx2⟩, _⟩ := hx; go_simp; try with_reducible rfl
      refine tkH 1 ?_ hS (fun wx hx => ?_) ?_; rotate_left
      · obtain ⟨⟨hx0, hx1, hx2⟩, _⟩ := hx; go_simp; try with_reducible rfl
      refine tkH 2 ?_ hS (fun wx hx => ?_) ?_; rotate_left
      · obtain ⟨⟨hx0, hx1, hx2⟩, _⟩ := hx; go_simp; try with_reducible rfl
      try simp only [Act.put, List.getElem_toArray, List.getElem_cons_zero, List.getElem_cons_succ, List.setIfInBounds_toArray, List.set_cons_succ, List.set_cons_zero]
      refine tkH 3 ?_ hS (fun wx hx => ?_) ?_; rotate_left
      · obtain ⟨⟨hx0, hx1, hx2⟩, _⟩ := hx; go_simp; try with_reducible rfl
      refine tkH 4 ?_ hS (fun wx hx => ?_) ?_; rotate_left
      · obtain ⟨⟨hx0, hx1, hx2⟩, _⟩ := hx; go_simp; try with_reducible rfl
      refine tkH 5 ?_ hS (fun wx hx => ?_) ?_; rotate_left
      · obtain ⟨⟨hx0, hx1, hx2⟩, _⟩ := hx; go_simp; try with_reducible rfl
      try simp only [Act.put, List.getElem_toArray, List.getElem_cons_zero, List.getElem_cons_succ, List.setIfInBounds_toArray, List.set_cons_succ, List.set_cons_zero]
      refine tkH 6 ?_ hS (fun wx hx => ?_) ?_; rotate_left
      · obtain ⟨⟨hx0, hx1, hx2⟩, _⟩ := hx; go_simp; try with_reducible rfl
      refine tkH 7 ?_ hS (fun wx hx => ?_) ?_; rotate_left
      · obtain ⟨⟨hx0, hx1, hx2⟩, _⟩ := hx; go_simp; try with_reducible rfl
      refine tkH 8 ?_ hS (fun wx hx => ?_) ?_; rotate_left
      · obtain ⟨⟨hx0, hx1, hx2⟩, _⟩ := hx; go_simp; try with_reducible rfl
      try simp only [Act.put, List.getElem_toArray, List.getElem_cons_zero, List.getElem_cons_succ, List.setIfInBounds_toArray, List.set_cons_succ, List.set_cons_zero]
      refine tkH 9 ?_ hS (fun wx hx => ?_) ?_; rotate_left
      · obtain ⟨⟨hx0, hx1, hx2⟩, _⟩ := hx; go_simp; try with_reducible rfl
      refine tkH 10 ?_ hS (fun wx hx => ?_) ?_; rotate_left
      · obtain ⟨⟨hx0, hx1, hx2⟩, _⟩ := hx; go_simp; try with_reducible rfl
      refine tkH 11 ?_ hS (fun wx hx => ?_) ?_; rotate_left
      · obtain ⟨⟨hx0, hx1, hx2⟩, _⟩ := hx; go_simp; try with_reducible rfl
      try simp only [Act.put, List.getElem_toArray, List.getElem_cons_zero, List.getElem_cons_succ, List.setIfInBounds_toArray, List.set_cons_succ, List.set_cons_zero]
      refine tkH 12 ?_ hS (fun wx hx => ?_) ?_; rotate_left
      · obtain ⟨⟨hx0, hx1, hx2⟩, _⟩ := hx; go_simp; try with_reducible rfl
      refine tkH 13 ?_ hS (fun wx hx => ?_) ?_; rotate_left
      · obtain ⟨⟨hx0, hx1, hx2⟩, _⟩ := hx; go_simp; try with_reducible rfl
      refine tkH 14 ?_ hS (fun wx hx => ?_) ?_; rotate_left
      · obtain ⟨⟨hx0, hx1, hx2⟩, _⟩ := hx; go_simp; try with_reducible rfl
      try simp only [Act.put, List.getElem_toArray, List.getElem_cons_zero, List.getElem_cons_succ, List.setIfInBounds_toArray, List.set_cons_succ, List.set_cons_zero]
      refine tkH 15 ?_ hS (fun wx hx => ?_) ?_; rotate_left
      · obtain ⟨⟨hx0, hx1, hx2⟩, _⟩ := hx; go_simp; try with_reducible rfl
      refine tkH 16 ?_ hS (fun wx hx => ?_) ?_; rotate_left
      · obtain ⟨⟨hx0, hx1, hx2⟩, _⟩ := hx; go_simp; try with_reducible rfl
      refine tkH 17 ?_ hS (fun wx hx => ?_) ?_; rotate_left
      · obtain ⟨⟨hx0, hx1, hx2⟩, _⟩ := hx; go_simp; try with_reducible rfl
      try simp only [Act.put, List.getElem_toArray, List.getElem_cons_zero, List.getElem_cons_succ, List.setIfInBounds_toArray, List.set_cons_succ, List.set_cons_zero]
      refine rdH 18 (fun K hK => ?_)
      go_simp
      go_wp2_with fail
      refine (l11Set_any A _ w.heap.size n0 n2 true _ (HS.out.1.later (Below.drew (Below.refl _ _))).row.1 (by omega)).mono ?_
      rintro e w1 ⟨ao1, cp1, rfl, o1, q1⟩
      have hS1 := hS.later q1
      have HS1 : Hid (Own w1 w.heap.size 65 2 (setS A n0 n2 true).length (rowL (setS A n0 n2 true)) (.slice ao1 (setS A n0 n2 true).length cp1) ∧ Below w.heap.size w w1) := ⟨o1.mono hS.2.size, hS1.2⟩
      clear hS q1 o1
      go_wp2_with fail
      refine hK.out _ _ hS1 (fun hS => ?_)
      clear hK K hS1
      refine tkH 19 ?_ hS (fun wx hx => ?_) ?_; rotate_left
      · obtain ⟨⟨hx0, hx1, hx2⟩, _⟩ := hx; go_simp; try with_reducible rfl
      refine wpAnyH_done (by kernel_rfl) ?_ _
      obtain ⟨LEN, hLEN⟩ : ∃ LEN, LEN = (setS A n0 n2 true).length := ⟨_, rfl⟩
      rw [← hLEN]
      have HLEN : Hid (LEN = (setS A n0 n2 true).length) := hLEN
      clear hLEN
      go_simp
      go_wp2
      go_roundw
      case rel =>
        refine ⟨j + 1, ao1, cp1, by omega, by go_num, by rw [HE.out, HLEN.out], ?_⟩
        rw [HE.out]
        exact HS1
      case measure => simp [intOf]; omega
    · have HE : Hid (applyN L G (j + 1) = setS A n0 n2 false) := by unfold Hid; rw [HP.out, stepA, if_neg k1, if_pos (by omega), setS_gone]
      obtain rfl : n1 = 2 := by omega
      clear HP hkj k3 k1 d3
      go_wp2_with fail
      refine wp_region_held_drew (S := ItmE w g o j n0 2 n2) (by kernel_rfl) ⟨⟨y0, y1, y2⟩, HS.out.2.drew⟩ (fun hS => ?_)
      refine tkH 0 ?_ hS (fun wx hx => ?_) ?_; rotate_left
      · obtain ⟨⟨hx0, hx1, hx2⟩, _⟩ := hx; go_simp; try with_reducible rfl
      refine tkH 1 ?_ hS (fun wx hx => ?_) ?_; rotate_left
      · obtain ⟨⟨hx0, hx1, hx2⟩, _⟩ := hx; go_simp; try with_reducible rfl
      refine tkH 2 ?_ hS (fun wx hx => ?_) ?_; rotate_left
      · obtain ⟨⟨hx0, hx1, hx2⟩, _⟩ := hx; go_simp; try with_reducible rfl
      try simp only [Act.put, List.getElem_toArray, List.getElem_cons_zero, List.getElem_cons_succ, List.setIfInBounds_toArray, List.set_cons_succ, List.set_cons_zero]
      refine tkH 3 ?_ hS (fun wx hx => ?_) ?_; rotate_left
      · obtain ⟨⟨hx0, hx1, hx2⟩, _⟩ := hx; go_simp; try with_reducible rfl
      refine tkH 4 ?_ hS (fun wx hx => ?_) ?_; rotate_left
      · obtain ⟨⟨hx0, hx1, hx2⟩, _⟩ := hx; go_simp; try with_reducible rfl
      refine tkH 5 ?_ hS (fun wx hx => ?_) ?_; rotate_left
      · obtain ⟨⟨hx0, hx1, hx2⟩, _⟩ := hx; go_simp; try with_reducible rfl
      try simp only [Act.put, List.getElem_toArray, List.getElem_cons_zero, List.getElem_cons_succ, List.setIfInBounds_toArray, List.set_cons_succ, List.set_cons_zero]
      refine tkH 6 ?_ hS (fun wx hx => ?_) ?_; rotate_left
      · obtain ⟨⟨hx0, hx1, hx2⟩, _⟩ := hx; go_simp; try with_reducible rfl
      refine tkH 7 ?_ hS (fun wx hx => ?_) ?_; rotate_left
      · obtain ⟨⟨hx0, hx1, hx2⟩, _⟩ := hx; go_simp; try with_reducible rfl
      refine tkH 8 ?_ hS (fun wx hx => ?_) ?_; rotate_left
      · obtain ⟨⟨hx0, hx1, hx2⟩, _⟩ := hx; go_simp; try with_reducible rfl
      try simp only [Act.put, List.getElem_toArray, List.getElem_cons_zero, List.getElem_cons_succ, List.setIfInBounds_toArray, List.set_cons_succ, List.set_cons_zero]
      refine tkH 9 ?_ hS (fun wx hx => ?_) ?_; rotate_left
      · obtain ⟨⟨hx0, hx1, hx2⟩, _⟩ := hx; go_simp; try with_reducible rfl
      refine tkH 10 ?_ hS (fun wx hx => ?_) ?_; rotate_left
      · obtain ⟨⟨hx0, hx1, hx2⟩, _⟩ := hx; go_simp; try with_reducible rfl
      refine tkH 11 ?_ hS (fun wx hx => ?_) ?_; rotate_left
      · obtain ⟨⟨hx0, hx1, hx2⟩, _⟩ := hx; go_simp; try with_reducible rfl
      try simp only [Act.put, List.getElem_toArray, List.getElem_cons_zero, List.getElem_cons_succ, List.setIfInBounds_toArray, List.set_cons_succ, List.set_cons_zero]
      refine tkH 12 ?_ hS (fun wx hx => ?_) ?_; rotate_left
      · obtain ⟨⟨hx0, hx1, hx2⟩, _⟩ := hx; go_simp; try with_reducible rfl
      refine tkH 13 ?_ hS (fun wx hx => ?_) ?_; rotate_left
      · obtain ⟨⟨hx0, hx1, hx2⟩, _⟩ := hx; go_simp; try with_reducible rfl
      refine tkH 14 ?_ hS (fun wx hx => ?_) ?_; rotate_left
      · obtain ⟨⟨hx0, hx1, hx2⟩, _⟩ := hx; go_simp; try with_reducible rfl
      try simp only [Act.put, List.getElem_toArray, List.getElem_cons_zero, List.getElem_cons_succ, List.setIfInBounds_toArray, List.set_cons_succ, List.set_cons_zero]
      refine tkH 15 ?_ hS (fun wx hx => ?_) ?_; rotate_left
      · obtain ⟨⟨hx0, hx1, hx2⟩, _⟩ := hx; go_simp; try with_reducible rfl
      refine tkH 16 ?_ hS (fun wx hx => ?_) ?_; rotate_left
      · obtain ⟨⟨hx0, hx1, hx2⟩, _⟩ := hx; go_simp; try with_reducible rfl
      refine tkH 17 ?_ hS (fun wx hx => ?_) ?_; rotate_left
      · obtain ⟨⟨hx0, hx1, hx2⟩, _⟩ := hx; go_simp; try with_reducible rfl
      try simp only [Act.put, List.getElem_toArray, List.getElem_cons_zero, List.getElem_cons_succ, List.setIfInBounds_toArray, List.set_cons_succ, List.set_cons_zero]
      refine rdH 18 (fun K hK => ?_)
      go_simp
      go_wp2_with fail
      refine (l11Set_any A _ w.heap.size n0 n2 false _ (HS.out.1.later (Below.drew (Below.refl _ _))).row.1 (by omega)).mono ?_
      rintro e w1 ⟨ao1, cp1, rfl, o1, q1⟩
      have hS1 := hS.later q1
      have HS1 : Hid (Own w1 w.heap.size 65 2 (setS A n0 n2 false).length (rowL (setS A n0 n2 false)) (.slice ao1 (setS A n0 n2 false).length cp1) ∧ Below w.heap.size w w1) := ⟨o1.mono hS.2.size, hS1.2⟩
      clear hS q1 o1
      go_wp2_with fail
      refine hK.out _ _ hS1 (fun hS => ?_)
      clear hK K hS1
      refine tkH 19 ?_ hS (fun wx hx => ?_) ?_; rotate_left
      · obtain ⟨⟨hx0, hx1, hx2⟩, _⟩ := hx; go_simp; try with_reducible rfl
      refine wpAnyH_done (by kernel_rfl) ?_ _
      obtain ⟨LEN, hLEN⟩ : ∃ LEN, LEN = (setS A n0 n2 false).length := ⟨_, rfl⟩
      rw [← hLEN]
      have HLEN : Hid (LEN = (setS A n0 n2 false).length) := hLEN
      clear hLEN
      go_simp
      go_wp2
      go_roundw
      case rel =>
        refine ⟨j + 1, ao1, cp1, by omega, by go_num, by rw [HE.out, HLEN.out], ?_⟩
        rw [HE.out]
        exact HS1
      case measure => simp [intOf]; omega
end Go.Proofs.Ytdbcmckoiacemaa

namespace Go.Proofs.Ytdbcmckoiacemaa
open Go.RowKit

theorem appF_key {k kd v : Int} (h : faultOf k ≠ 0) : appF k kd v = faultOf k := by unfold appF; rw [if_pos h]
theorem appF_kind {k kd v : Int} (h : faultOf k = 0) (h2 : ¬ (1 ≤ kd ∧ kd ≤ 3)) : appF k kd v = 3 := by unfold appF; rw [if_neg (fun q => q h), if_pos (Or.inl h2)]
theorem appF_val {k kd v : Int} (h : faultOf k = 0) (h2 : ¬ (0 ≤ v ∧ v ≤ 9999)) : appF k kd v = 3 := by unfold appF; rw [if_neg (fun q => q h), if_pos (Or.inr h2)]
theorem appF_ok {k kd v : Int} (h : faultOf k = 0) (h1 : 1 ≤ kd ∧ kd ≤ 3) (h2 : 0 ≤ v ∧ v ≤ 9999) : appF k kd v = 0 := by unfold appF; rw [if_neg (fun q => q h), if_neg (by omega)]
set_option maxRecDepth 100000 in
set_option maxHeartbeats 4000000 in
theorem appliedFault_is (y : Value) (B m : Nat) (G : Nat → Int) (w : World) (h : Row w B 3 m G y) (hm : m ≤ 1048576) :
    Calls Try.prog 35 #[y] w fun e w' => e = .returned (.int .i64 (appliedF m G)) ∧ Below w.heap.size w w' := by
  obtain ⟨ao, cp, rfl⟩ := h.form
  have H : Hid (Row w B 3 m G (.slice ao m cp)) := h
  clear h
  by_cases h12 : 12 < m
  · have E : Hid (appliedF m G = 2) := by unfold Hid; unfold appliedF; rw [if_pos h12]
    have d : decide ((m : Int) > 12) = true := decide_eq_true (by omega)
    go_enter Try.func35, Try.ntmps35
    go_wp2
    go_ret
    exact ⟨by rw [E.out]; rfl, Below.refl _ _⟩
  have d : decide ((m : Int) > 12) = false := decide_eq_false (by omega)
  obtain ⟨f, hf⟩ : ∃ f, appliedF m G = f := ⟨_, rfl⟩
  have HF : Hid (appsF G m 0 = f) := by unfold Hid; rw [← hf]; unfold appliedF; rw [if_neg h12]
  rw [hf]
  clear hf
  go_enter Try.func35, Try.ntmps35
  go_wp2
  go_loopw [11] (fun i wr => ∃ k : Nat, k ≤ m ∧ i = .int .i64 k ∧ Hid (appsF G (m - k) k = f) ∧ Hid (Below w.heap.size w wr)) (fun i _ => m - (intOf i).toNat)
  case atStart => exact ⟨0, Nat.zero_le _, rfl, HF, Below.refl _ _⟩
  case round =>
    obtain ⟨k, hk, rfl, HS, HB⟩ := hrel
    by_cases hlt : k < m
    case neg =>
      have E : Hid (f = 0) := by
        have := HS.out
        rw [show m - k = 0 by omega, appsF] at this
        exact this.symm
      clear HS HF
      go_wp2
      go_ret
      exact ⟨by rw [E.out]; rfl, HB.out⟩
    obtain ⟨g, o, hao, _, hg, x0, x1, x2⟩ := (H.out.later HB.out).at3 hlt
    subst hao
    have hm' : Hid (0 < m - k ∧ m - k - 1 = m - (k + 1)) := ⟨by omega, by omega⟩
    obtain ⟨n0, N0⟩ : ∃ x, G (k * 3) = x := ⟨_, rfl⟩
    rw [N0] at x0
    obtain ⟨n1, N1⟩ : ∃ x, G (k * 3 + 1) = x := ⟨_, rfl⟩
    rw [N1] at x1
    obtain ⟨n2, N2⟩ : ∃ x, G (k * 3 + 2) = x := ⟨_, rfl⟩
    rw [N2] at x2
    have HBAD : Hid (∀ q, appF n0 n1 n2 = q → q ≠ 0 → f = q) := fun q h1 h2 => by
      have E0 := HS.out
      rw [appsF_bad hm'.out.1 (by rw [N0, N1, N2]; exact h1) h2] at E0
      exact E0.symm
    have HGO : Hid (appF n0 n1 n2 = 0 → appsF G (m - (k + 1)) (k + 1) = f) := fun h1 => by
      have E0 := HS.out
      rw [appsF_on hm'.out.1 (by rw [N0, N1, N2]; exact h1), hm'.out.2] at E0
      exact E0
    clear N0 N1 N2 HS HF
    by_cases h5 : faultOf n0 = 0
    case neg =>
      obtain ⟨q, hq⟩ : ∃ q, faultOf n0 = q := ⟨_, rfl⟩
      have HQ : Hid (faultOf n0 = q) := hq
      have E : Hid (f = q) := HBAD.out q (by rw [appF_key h5]; exact hq) (by rw [← hq]; exact h5)
      have d' : (q != 0) = true := bne_iff_ne.2 (by rw [← hq]; exact h5)
      clear h5 hq HGO HBAD
      go_wp2_with fail
      refine (keyFault_any _ _).mono ?_
      rintro e w9 ⟨rfl, hw9⟩
      obtain rfl := hw9.symm
      rw [HQ.out]
      go_wp2
      go_ret
      refine ⟨by rw [E.out]; rfl, ?_⟩
      repeat (first | exact Below.refl _ _ | exact HB.out | refine Below.setCell ?_ (by first | omega | (simp <;> omega) | (have := HB.out.size; simp <;> omega)) _ | refine Below.alloc ?_ (by first | omega | (simp <;> omega) | (have := HB.out.size; simp <;> omega)) _)
    have HK : Hid (faultOf n0 = 0) := h5
    clear h5
    by_cases h6 : 1 ≤ n1 ∧ n1 ≤ 3
    case neg =>
      have E : Hid (f = 3) := HBAD.out 3 (appF_kind HK.out h6) (by omega)
      have HV : Hid (decide (1 ≤ n1 ∧ n1 ≤ 3) = false) := decide_eq_false h6
      clear h6 HGO HBAD
      go_wp2_with fail
      refine (keyFault_any _ _).mono ?_
      rintro e w9 ⟨rfl, hw9⟩
      obtain rfl := hw9.symm
      rw [HK.out]
      go_wp2_with fail
      refine (isLockKind_is _ false HV.out _).mono ?_
      rintro e w9 ⟨rfl, hw9⟩
      obtain rfl := hw9.symm
      go_wp2
      go_ret
      refine ⟨by rw [E.out]; rfl, ?_⟩
      repeat (first | exact Below.refl _ _ | exact HB.out | refine Below.setCell ?_ (by first | omega | (simp <;> omega) | (have := HB.out.size; simp <;> omega)) _ | refine Below.alloc ?_ (by first | omega | (simp <;> omega) | (have := HB.out.size; simp <;> omega)) _)
    have HV : Hid (decide (1 ≤ n1 ∧ n1 ≤ 3) = true) := decide_eq_true h6
    by_cases h7 : 0 ≤ n2 ∧ n2 ≤ 9999
    case neg =>
      have E : Hid (f = 3) := HBAD.out 3 (appF_val HK.out h7) (by omega)
      have HW : Hid (decide (0 ≤ n2 ∧ n2 ≤ 9999) = false) := decide_eq_false h7
      clear h6 h7 HGO HBAD
      go_wp2_with fail
      refine (keyFault_any _ _).mono ?_
      rintro e w9 ⟨rfl, hw9⟩
      obtain rfl := hw9.symm
      rw [HK.out]
      go_wp2_with fail
      refine (isLockKind_is _ true HV.out _).mono ?_
      rintro e w9 ⟨rfl, hw9⟩
      obtain rfl := hw9.symm
      go_wp2_with fail
      refine (isValueT_is _ false HW.out _).mono ?_
      rintro e w9 ⟨rfl, hw9⟩
      obtain rfl := hw9.symm
      go_wp2
      go_ret
      refine ⟨by rw [E.out]; rfl, ?_⟩
      repeat (first | exact Below.refl _ _ | exact HB.out | refine Below.setCell ?_ (by first | omega | (simp <;> omega) | (have := HB.out.size; simp <;> omega)) _ | refine Below.alloc ?_ (by first | omega | (simp <;> omega) | (have := HB.out.size; simp <;> omega)) _)
    have E : Hid (appsF G (m - (k + 1)) (k + 1) = f) := HGO.out (appF_ok HK.out h6 h7)
    have HW : Hid (decide (0 ≤ n2 ∧ n2 ≤ 9999) = true) := decide_eq_true h7
    clear h6 h7 HGO HBAD
    go_wp2_with fail
    refine (keyFault_any _ _).mono ?_
    rintro e w9 ⟨rfl, hw9⟩
    obtain rfl := hw9.symm
    rw [HK.out]
    go_wp2_with fail
    refine (isLockKind_is _ true HV.out _).mono ?_
    rintro e w9 ⟨rfl, hw9⟩
    obtain rfl := hw9.symm
    go_wp2_with fail
    refine (isValueT_is _ true HW.out _).mono ?_
    rintro e w9 ⟨rfl, hw9⟩
    obtain rfl := hw9.symm
    go_wp2
    go_roundw
    case rel =>
      refine ⟨k + 1, by omega, by go_num, E, ?_⟩
      show Below _ _ _
      repeat (first | exact Below.refl _ _ | exact HB.out | refine Below.setCell ?_ (by first | omega | (simp <;> omega) | (have := HB.out.size; simp <;> omega)) _ | refine Below.alloc ?_ (by first | omega | (simp <;> omega) | (have := HB.out.size; simp <;> omega)) _)
    case measure => simp [intOf]; omega
/-- What ApplyItems answers: a code, or the pairs. -/
def AppAns (n : Nat) (F : Nat → Int) (m : Nat) (G : Nat → Int) (c : Int) (R : Prs) : Prop :=
  (pairsF F n 0 ≠ 0 ∧ c = pairsF F n 0 ∧ R = []) ∨ (pairsF F n 0 = 0 ∧ appliedF m G ≠ 0 ∧ c = appliedF m G ∧ R = []) ∨ (pairsF F n 0 = 0 ∧ appliedF m G = 0 ∧ c = 0 ∧ R = applyN (listOf F n) G m)
theorem AppAns.get (n : Nat) (F : Nat → Int) (m : Nat) (G : Nat → Int) : ∃ c R, R.length ≤ 1048576 ∧ AppAns n F m G c R := by
  by_cases h : pairsF F n 0 = 0
  · by_cases h2 : appliedF m G = 0
    · refine ⟨0, applyN (listOf F n) G m, ?_, Or.inr (Or.inr ⟨h, h2, rfl, rfl⟩)⟩
      have h3 := (pairs_rise h).2
      have h4 := applyN_len (listOf F n) G m
      rw [listOf_length] at h4
      have h5 : m ≤ 12 := by
        unfold appliedF at h2
        by_cases q : 12 < m
        · rw [if_pos q] at h2; omega
        · omega
      omega
    · exact ⟨_, [], by simp, Or.inr (Or.inl ⟨h, h2, rfl, rfl⟩)⟩
  · exact ⟨_, [], by simp, Or.inl ⟨h, rfl, rfl⟩⟩
theorem appliedF_zero {m : Nat} {G : Nat → Int} (h : appliedF m G = 0) : m ≤ 12 ∧ appsF G m 0 = 0 ∧ ∀ i, i < m → 1 ≤ G (i * 3 + 1) ∧ G (i * 3 + 1) ≤ 3 := by
  unfold appliedF at h
  by_cases q : 12 < m
  · rw [if_pos q] at h; omega
  · rw [if_neg q] at h
    exact ⟨by omega, h, fun i hi => by have := appsF_all h i hi; rw [Nat.zero_add] at this; exact (appF_zero this).2.1⟩
theorem res_none {w w' : World} {c : Int} {e : Ending} (he : e = .returned (.agg #[.int .i64 c, .slice none 0 0])) (hb : Below w.heap.size w w') : ResRow 2 w c ([] : Prs).length (rowL []) e w' :=
  ⟨none, 0, he, ⟨_, _, rfl, fun q => absurd q (Nat.lt_irrefl 0)⟩, by rw [show ([] : Prs).length * 2 = 0 from rfl]; exact Free.of0 _ _, hb⟩
set_option maxRecDepth 100000 in
set_option maxHeartbeats 4000000 in
theorem implApply_is (v y : Value) (B B' n m : Nat) (F G : Nat → Int) (c : Int) (R : Prs) (w : World) (h : Row w B 2 n F v) (h' : Row w B' 3 m G y) (hn : n ≤ 1048576) (hm : m ≤ 1048576) (hA : AppAns n F m G c R) :
    Calls Try.prog 9 #[v, y] w (ResRow 2 w c R.length (rowL R)) := by
  have H : Hid (Row w B 2 n F v ∧ Row w B' 3 m G y) := ⟨h, h'⟩
  clear h h'
  rcases hA with ⟨h1, rfl, rfl⟩ | ⟨h1, h2, rfl, rfl⟩ | ⟨h1, h2, rfl, rfl⟩
  · obtain ⟨f, hf⟩ : ∃ f, pairsF F n 0 = f := ⟨_, rfl⟩
    have HF : Hid (pairsF F n 0 = f) := hf
    have d : (f != 0) = true := bne_iff_ne.2 (by rw [← hf]; exact h1)
    rw [hf]
    clear h1 hf
    go_enter Try.func9, Try.ntmps9
    go_wp2_with fail
    refine (implPairs_any _ B n F _ (H.out.1.alloc _) hn).mono ?_
    rintro e w1 ⟨rfl, q1⟩
    rw [HF.out]
    have hb := (Blk2.new w (.int .i64 0) (.slice none 0 0) 29).later q1
    have HB : Hid (Below w.heap.size w w1) := (below_alloc w _).trans (q1.mono (by simp))
    obtain ⟨⟨x0, x1⟩, y0, y1⟩ := hb
    clear q1
    go_wp2
    refine bodyPost_ret (v := .agg #[.int .i64 f, .slice none 0 0]) (by simp [results, Try.results9, go_sem, x0, x1]) rfl (res_none rfl ?_)
    exact (HB.out.setCell (by simp) _).setCell (by simp) _
  · obtain ⟨f, hf⟩ : ∃ f, appliedF m G = f := ⟨_, rfl⟩
    have HF : Hid (appliedF m G = f ∧ pairsF F n 0 = 0) := ⟨hf, h1⟩
    have d : (f != 0) = true := bne_iff_ne.2 (by rw [← hf]; exact h2)
    rw [hf]
    clear h1 h2 hf
    go_enter Try.func9, Try.ntmps9
    go_wp2_with fail
    refine (implPairs_any _ B n F _ (H.out.1.alloc _) hn).mono ?_
    rintro e w1 ⟨rfl, q1⟩
    rw [HF.out.2]
    have hb := (Blk2.new w (.int .i64 0) (.slice none 0 0) 29).later q1
    have HB1 : Hid (Below w.heap.size w w1) := (below_alloc w _).trans (q1.mono (by simp))
    clear q1
    go_wp2_with fail
    refine (appliedFault_is _ B' m G _ (H.out.2.later HB1.out) hm).mono ?_
    rintro e w2 ⟨rfl, q2⟩
    rw [HF.out.1]
    have HB : Hid (Below w.heap.size w w2) := HB1.out.trans (q2.mono HB1.out.size)
    obtain ⟨⟨x0, x1⟩, y0, y1⟩ := hb.later q2
    clear q2 hb HB1
    go_wp2
    refine bodyPost_ret (v := .agg #[.int .i64 f, .slice none 0 0]) (by simp [results, Try.results9, go_sem, x0, x1]) rfl (res_none rfl ?_)
    exact (HB.out.setCell (by simp) _).setCell (by simp) _
  · have HF : Hid (appliedF m G = 0 ∧ pairsF F n 0 = 0) := ⟨h2, h1⟩
    clear h1 h2
    go_enter Try.func9, Try.ntmps9
    go_wp2_with fail
    refine (implPairs_any _ B n F _ (H.out.1.alloc _) hn).mono ?_
    rintro e w1 ⟨rfl, q1⟩
    rw [HF.out.2]
    have hb := (Blk2.new w (.int .i64 0) (.slice none 0 0) 29).later q1
    have HB1 : Hid (Below w.heap.size w w1) := (below_alloc w _).trans (q1.mono (by simp))
    clear q1
    go_wp2_with fail
    refine (appliedFault_is _ B' m G _ (H.out.2.later HB1.out) hm).mono ?_
    rintro e w2 ⟨rfl, q2⟩
    rw [HF.out.1]
    have HB2 : Hid (Below w.heap.size w w2) := HB1.out.trans (q2.mono HB1.out.size)
    have hb2 := hb.later q2
    clear q2 hb HB1
    go_wp2_with fail
    refine (filled_any (listOf F n) _ B _ (row_list (H.out.1.later HB2.out)) (pairs_rise HF.out.2).1 (by rw [listOf_length]; have := (pairs_rise HF.out.2).2; omega)).mono ?_
    rintro e w3 ⟨b, rfl, hbb, hris, q3⟩
    have HI : Hid (Ris w3 b (listOf F n) ∧ Below w2.heap.size w2 w3) := ⟨hris, q3⟩
    clear hris q3
    go_wp2_with fail
    refine (applyTo_any (listOf F n) G m b _ B' w2 _ (H.out.2.later HB2.out) HI.out.2 hbb HI.out.1 (pairs_rise HF.out.2).1 (by rw [listOf_length]; have := (pairs_rise HF.out.2).2; omega) (appliedF_zero HF.out.1).1).mono ?_
    rintro e w4 ⟨rfl, hris, q4⟩
    obtain ⟨rv, hr1, hr2⟩ := hris
    obtain ⟨ro, rc, rfl⟩ := hr2.form
    have hbw : w.heap.size < b := Nat.lt_of_lt_of_le hb2.lt hbb
    obtain ⟨⟨x0, x1⟩, y0, y1⟩ := hb2.later q4
    obtain ⟨⟨r0, r1⟩, _, _⟩ := hr1
    have HR : Hid (Own w4 (b + 1) 65 2 (applyN (listOf F n) G m).length (rowL (applyN (listOf F n) G m)) (.slice ro (applyN (listOf F n) G m).length rc) ∧ Below w.heap.size w w4) := ⟨hr2, HB2.out.trans (q4.mono HB2.out.size)⟩
    clear hr2 q4 hb2
    obtain ⟨A, hA⟩ : ∃ A, applyN (listOf F n) G m = A := ⟨_, rfl⟩
    have HAA : Hid (applyN (listOf F n) G m = A) := hA
    rw [hA] at HR r0
    clear hA
    go_wp2
    refine bodyPost_ret (v := .agg #[.int .i64 0, .slice ro A.length rc]) (by simp [results, Try.results9, go_sem, x0, x1]) rfl ?_
    rw [HAA.out]
    refine ⟨ro, rc, rfl, ?_, ?_, ?_⟩
    · exact ((HR.out.1.row.1.far (Or.inl (by simp; omega)) _).far (Or.inl (by simp; omega)) _).mono (by omega)
    · exact (HR.out.1.row.2.far _ _).far _ _
    · exact (HR.out.2.setCell (by simp) _).setCell (by simp) _
set_option maxRecDepth 100000 in
set_option maxHeartbeats 4000000 in
theorem specApply_is (v y : Value) (B B' n m : Nat) (F G : Nat → Int) (c : Int) (R : Prs) (w : World) (h : Row w B 2 n F v) (h' : Row w B' 3 m G y) (hn : n ≤ 1048576) (hm : m ≤ 1048576) (hA : AppAns n F m G c R) :
    Calls Try.prog 10 #[v, y] w (ResRow 2 w c R.length (rowL R)) := by
  obtain ⟨bo, bp, rfl⟩ := h'.form
  have H : Hid (Row w B 2 n F v ∧ Row w B' 3 m G (.slice bo m bp)) := ⟨h, h'⟩
  clear h h'
  by_cases h1 : pairsF F n 0 = 0
  case neg =>
    obtain ⟨rfl, rfl⟩ : c = pairsF F n 0 ∧ R = [] := by
      rcases hA with ⟨_, q1, q2⟩ | ⟨q, _⟩ | ⟨q, _⟩
      · exact ⟨q1, q2⟩
      · exact absurd q h1
      · exact absurd q h1
    obtain ⟨f, hf⟩ : ∃ f, pairsF F n 0 = f := ⟨_, rfl⟩
    have HF : Hid (pairsF F n 0 = f) := hf
    have d : (f != 0) = true := bne_iff_ne.2 (by rw [← hf]; exact h1)
    rw [hf]
    clear h1 hf hA
    go_enter Try.func10, Try.ntmps10
    go_wp2_with fail
    refine (specPairs_any _ B n F _ (H.out.1.alloc _) hn).mono ?_
    rintro e w1 ⟨rfl, q1⟩
    rw [HF.out]
    have hb := (Blk2.new w (.int .i64 0) (.slice none 0 0) 29).later q1
    have HB : Hid (Below w.heap.size w w1) := (below_alloc w _).trans (q1.mono (by simp))
    obtain ⟨⟨b0, b1⟩, y0, y1⟩ := hb
    clear q1
    go_wp2
    refine bodyPost_ret (v := .agg #[.int .i64 f, .slice none 0 0]) (by simp [results, Try.results10, go_sem, b0, b1]) rfl ?_
    exact res_none rfl ((HB.out.setCell (by simp) _).setCell (by simp) _)
  have HP : Hid (pairsF F n 0 = 0) := h1
  have HA : Hid ((appliedF m G ≠ 0 → c = appliedF m G ∧ R = []) ∧ (appliedF m G = 0 → c = 0 ∧ R = applyN (listOf F n) G m)) := by
    rcases hA with ⟨q, _⟩ | ⟨_, q, q1, q2⟩ | ⟨_, q, q1, q2⟩
    · exact absurd h1 q
    · exact ⟨fun _ => ⟨q1, q2⟩, fun e => absurd e q⟩
    · exact ⟨fun e => absurd q e, fun _ => ⟨q1, q2⟩⟩
  clear hA h1
  by_cases h12 : 12 < m
  · have E : Hid (c = 2 ∧ R = []) := by
      have e2 : appliedF m G = 2 := by unfold appliedF; rw [if_pos h12]
      have := HA.out.1 (by rw [e2]; omega)
      rwa [e2] at this
    have d : decide ((m : Int) > 12) = true := decide_eq_true (by omega)
    clear HA
    go_enter Try.func10, Try.ntmps10
    go_wp2_with fail
    refine (specPairs_any _ B n F _ (H.out.1.alloc _) hn).mono ?_
    rintro e w1 ⟨rfl, q1⟩
    rw [HP.out]
    have hb := (Blk2.new w (.int .i64 0) (.slice none 0 0) 29).later q1
    have HB : Hid (Below w.heap.size w w1) := (below_alloc w _).trans (q1.mono (by simp))
    obtain ⟨⟨b0, b1⟩, y0, y1⟩ := hb
    clear q1
    go_wp2
    refine bodyPost_ret (v := .agg #[.int .i64 2, .slice none 0 0]) (by simp [results, Try.results10, go_sem, b0, b1]) rfl ?_
    rw [E.out.1, E.out.2]
    exact res_none rfl ((HB.out.setCell (by simp) _).setCell (by simp) _)
  have d : decide ((m : Int) > 12) = false := decide_eq_false (by omega)
  have hm12 : m ≤ 12 := by omega
  obtain ⟨f, hf⟩ : ∃ f, appsF G m 0 = f := ⟨_, rfl⟩
  have HF : Hid (appsF G m 0 = f) := hf
  have HA2 : Hid ((f ≠ 0 → c = f ∧ R = []) ∧ (f = 0 → c = 0 ∧ R = applyN (listOf F n) G m)) := by
    have e2 : appliedF m G = f := by unfold appliedF; rw [if_neg h12]; exact hf
    have := HA.out
    rwa [e2] at this
  clear hf HA h12
  go_enter Try.func10, Try.ntmps10
  go_wp2_with fail
  refine (specPairs_any _ B n F _ (H.out.1.alloc _) hn).mono ?_
  rintro e w1 ⟨rfl, q1⟩
  rw [HP.out]
  have HB1 : Hid (Blk2 w1 w.heap.size (.int .i64 0) (.slice none 0 0) ∧ Below w.heap.size w w1) := ⟨(Blk2.new w (.int .i64 0) (.slice none 0 0) 29).later q1, (below_alloc w _).trans (q1.mono (by simp))⟩
  clear q1
  go_wp2
  go_loopw [6] (fun i wr => ∃ k : Nat, k ≤ m ∧ i = .int .i64 k ∧ Hid (appsF G (m - k) k = f) ∧ Hid (Blk2 wr w.heap.size (.int .i64 0) (.slice none 0 0) ∧ Below w.heap.size w wr)) (fun i _ => m - (intOf i).toNat)
  case atStart => exact ⟨0, Nat.zero_le _, rfl, HF, HB1⟩
  case round =>
    obtain ⟨k, hk, rfl, HS, HB⟩ := hrel
    obtain ⟨⟨b0, b1⟩, y0, y1⟩ := HB.out.1
    by_cases hlt : k < m
    case neg =>
      have E : Hid (f = 0) := by
        have := HS.out
        rw [show m - k = 0 by omega, appsF] at this
        exact this.symm
      have HC : Hid (c = 0 ∧ R = applyN (listOf F n) G m) := HA2.out.2 E.out
      have HKI : Hid (∀ i, i < m → 1 ≤ G (i * 3 + 1) ∧ G (i * 3 + 1) ≤ 3) := fun i hi => by
        have := appsF_all (HF.out.trans E.out) i hi
        rw [Nat.zero_add] at this
        exact (appF_zero this).2.1
      clear HS
      go_wp2_with fail
      refine (l11Apply_any (listOf F n) G m _ _ B B' _ (row_list (H.out.1.later HB.out.2)) (H.out.2.later HB.out.2) (by rw [listOf_length]; have := (pairs_rise HP.out).2; omega) hm12 HKI.out).mono ?_
      rintro e w4 ⟨ro, rc, rfl, hr2, q4⟩
      have HR : Hid (Own w4 wr.heap.size 65 2 (applyN (listOf F n) G m).length (rowL (applyN (listOf F n) G m)) (.slice ro (applyN (listOf F n) G m).length rc) ∧ Below w.heap.size w w4) := ⟨hr2, HB.out.2.trans (q4.mono HB.out.2.size)⟩
      have hbw : w.heap.size < wr.heap.size := HB.out.1.lt
      obtain ⟨⟨x0, x1⟩, z0, z1⟩ := HB.out.1.later q4
      clear hr2 q4 b0 b1 y0 y1
      obtain ⟨A, hA⟩ : ∃ A, applyN (listOf F n) G m = A := ⟨_, rfl⟩
      have HAA : Hid (applyN (listOf F n) G m = A) := hA
      rw [hA] at HR
      rw [hA]
      clear hA
      go_wp2
      refine bodyPost_ret (v := .agg #[.int .i64 0, .slice ro A.length rc]) (by simp [results, Try.results10, go_sem, x0, x1]) rfl ?_
      rw [HC.out.1, HC.out.2, HAA.out]
      refine ⟨ro, rc, rfl, ?_, ?_, ?_⟩
      · exact ((HR.out.1.row.1.far (Or.inl (by simp; omega)) _).far (Or.inl (by simp; omega)) _).mono (by omega)
      · exact (HR.out.1.row.2.far _ _).far _ _
      · exact (HR.out.2.setCell (by simp) _).setCell (by simp) _
    obtain ⟨g, o, hao, _, hg, x0, x1, x2⟩ := (H.out.2.later HB.out.2).at3 hlt
    subst hao
    have hm' : Hid (0 < m - k ∧ m - k - 1 = m - (k + 1)) := ⟨by omega, by omega⟩
    obtain ⟨n0, N0⟩ : ∃ x, G (k * 3) = x := ⟨_, rfl⟩
    rw [N0] at x0
    obtain ⟨n1, N1⟩ : ∃ x, G (k * 3 + 1) = x := ⟨_, rfl⟩
    rw [N1] at x1
    obtain ⟨n2, N2⟩ : ∃ x, G (k * 3 + 2) = x := ⟨_, rfl⟩
    rw [N2] at x2
    have HBAD : Hid (∀ q, appF n0 n1 n2 = q → q ≠ 0 → c = q ∧ R = []) := fun q h1 h2 => by
      have E0 := HS.out
      rw [appsF_bad hm'.out.1 (by rw [N0, N1, N2]; exact h1) h2] at E0
      have := HA2.out.1 (by rw [← E0]; exact h2)
      rwa [← E0] at this
    have HGO : Hid (appF n0 n1 n2 = 0 → appsF G (m - (k + 1)) (k + 1) = f) := fun h1 => by
      have E0 := HS.out
      rw [appsF_on hm'.out.1 (by rw [N0, N1, N2]; exact h1), hm'.out.2] at E0
      exact E0
    clear N0 N1 N2 HS HF HB1 HA2
    by_cases h5 : faultOf n0 = 0
    case neg =>
      obtain ⟨q, hq⟩ : ∃ q, faultOf n0 = q := ⟨_, rfl⟩
      have HQ : Hid (faultOf n0 = q) := hq
      have E : Hid (c = q ∧ R = []) := HBAD.out q (by rw [appF_key h5]; exact hq) (by rw [← hq]; exact h5)
      have d' : (q != 0) = true := bne_iff_ne.2 (by rw [← hq]; exact h5)
      clear h5 hq HGO HBAD
      go_wp2_with fail
      refine (l1Fault_any _ _).mono ?_
      rintro e w9 ⟨rfl, hw9⟩
      obtain rfl := hw9.symm
      rw [HQ.out]
      go_wp2
      refine bodyPost_ret (v := .agg #[.int .i64 q, .slice none 0 0]) (by simp [results, Try.results10, go_sem, b0, b1]) rfl ?_
      rw [E.out.1, E.out.2]
      exact res_none rfl ((HB.out.2.setCell (by simp) _).setCell (by simp) _)
    have HK : Hid (faultOf n0 = 0) := h5
    clear h5
    by_cases h6 : 1 ≤ n1 ∧ n1 ≤ 3
    case neg =>
      have E : Hid (c = 3 ∧ R = []) := HBAD.out 3 (appF_kind HK.out h6) (by omega)
      have HV : Hid (decide (1 ≤ n1 ∧ n1 ≤ 3) = false) := decide_eq_false h6
      clear h6 HGO HBAD
      go_wp2_with fail
      refine (l1Fault_any _ _).mono ?_
      rintro e w9 ⟨rfl, hw9⟩
      obtain rfl := hw9.symm
      rw [HK.out]
      go_wp2_with fail
      refine (inT_is _ _ _ false HV.out _).mono ?_
      rintro e w9 ⟨rfl, hw9⟩
      obtain rfl := hw9.symm
      go_wp2
      refine bodyPost_ret (v := .agg #[.int .i64 3, .slice none 0 0]) (by simp [results, Try.results10, go_sem, b0, b1]) rfl ?_
      rw [E.out.1, E.out.2]
      exact res_none rfl ((HB.out.2.setCell (by simp) _).setCell (by simp) _)
    have HV : Hid (decide (1 ≤ n1 ∧ n1 ≤ 3) = true) := decide_eq_true h6
    by_cases h7 : 0 ≤ n2 ∧ n2 ≤ 9999
    case neg =>
      have E : Hid (c = 3 ∧ R = []) := HBAD.out 3 (appF_val HK.out h7) (by omega)
      have HW : Hid (decide (0 ≤ n2 ∧ n2 ≤ 9999) = false) := decide_eq_false h7
      clear h6 h7 HGO HBAD
      go_wp2_with fail
      refine (l1Fault_any _ _).mono ?_
      rintro e w9 ⟨rfl, hw9⟩
      obtain rfl := hw9.symm
      rw [HK.out]
      go_wp2_with fail
      refine (inT_is _ _ _ true HV.out _).mono ?_
      rintro e w9 ⟨rfl, hw9⟩
      obtain rfl := hw9.symm
      go_wp2_with fail
      refine (inT_is _ _ _ false HW.out _).mono ?_
      rintro e w9 ⟨rfl, hw9⟩
      obtain rfl := hw9.symm
      go_wp2
      refine bodyPost_ret (v := .agg #[.int .i64 3, .slice none 0 0]) (by simp [results, Try.results10, go_sem, b0, b1]) rfl ?_
      rw [E.out.1, E.out.2]
      exact res_none rfl ((HB.out.2.setCell (by simp) _).setCell (by simp) _)
    have E : Hid (appsF G (m - (k + 1)) (k + 1) = f) := HGO.out (appF_ok HK.out h6 h7)
    have HW : Hid (decide (0 ≤ n2 ∧ n2 ≤ 9999) = true) := decide_eq_true h7
    clear h6 h7 HGO HBAD
    go_wp2_with fail
    refine (l1Fault_any _ _).mono ?_
    rintro e w9 ⟨rfl, hw9⟩
    obtain rfl := hw9.symm
    rw [HK.out]
    go_wp2_with fail
    refine (inT_is _ _ _ true HV.out _).mono ?_
    rintro e w9 ⟨rfl, hw9⟩
    obtain rfl := hw9.symm
    go_wp2_with fail
    refine (inT_is _ _ _ true HW.out _).mono ?_
    rintro e w9 ⟨rfl, hw9⟩
    obtain rfl := hw9.symm
    go_wp2
    go_roundw
    case rel => exact ⟨k + 1, by omega, by go_num, E, HB⟩
    case measure => simp [intOf]; omega
end Go.Proofs.Ytdbcmckoiacemaa

namespace Go.Proofs.Ytdbcmckoiacemaa
open Go.RowKit

/-- A source at block b: the bytes that it draws from, and how often it drew. -/
structure Src (w : World) (b : Nat) (o : Option Addr) (len cap : Nat) (at' : Int) : Prop where
  code : w.cell? ⟨b, 0, none⟩ = some (.slice o len cap)
  count : w.cell? ⟨b, 1, none⟩ = some (.int .i64 at')
  live : w.frozen? ⟨b, 1, none⟩ = false
  pos : 0 ≤ at'
  bytes : ∀ j, j < len → ∃ (g off : Nat) (n : Int), o = some ⟨g, off, none⟩ ∧ g ≠ b ∧ w.cell? ⟨g, off + j, none⟩ = some (.int .u8 n) ∧ 0 ≤ n ∧ n < 256

theorem Src.next {w : World} {b : Nat} {o : Option Addr} {len cap : Nat} {a : Int} (h : Src w b o len cap a) : Src (w.setCell ⟨b, 1, none⟩ (.int .i64 (a + 1))) b o len cap (a + 1) where
  code := (World.cell?_setCell_other _ _ _ _ (by simp)).trans h.code
  count := World.cell?_setCell_same _ _ _ h.count
  live := (World.frozen?_setCell _ _ _ _).trans h.live
  pos := by have := h.pos; omega
  bytes := fun j hj => by
    obtain ⟨g, off, n, e1, e2, e3, e4⟩ := h.bytes j hj
    exact ⟨g, off, n, e1, e2, (World.cell?_setCell_other _ _ _ _ (fun e => e2 (congrArg Addr.block e).symm)).trans e3, e4⟩
theorem Src.drewN {w : World} {b : Nat} {o : Option Addr} {len cap : Nat} {a : Int} (h : Src w b o len cap a) (n : Nat) : Src (w.drewN n) b o len cap a := ⟨h.code, h.count, h.live, h.pos, h.bytes⟩
/-- The world but for block b is as it was. -/
def But (b : Nat) (w w' : World) : Prop := w.grownBy w' (some b)
theorem But.next (w : World) (b : Nat) (v : Value) : But b w (w.setCell ⟨b, 1, none⟩ v) :=
  ⟨rfl, rfl, rfl, by simp [World.setCell], fun k _ hk => Below.heap_setCell w ⟨b, 1, none⟩ v k (fun e => hk (by simp [e]))⟩

set_option maxHeartbeats 400000 in
theorem l1Next_less (w : World) (b : Nat) (o : Option Addr) (len cap : Nat) (a n : Int) (h : Src w b o len cap a) (ha : a ≤ 1000000) (hn : n < 1) :
    Calls Try.prog 32 #[.pointer (some ⟨b, 0, none⟩), .int .i64 n] w fun e w' => e = .returned (.int .i64 0) ∧ w' = w.setCell ⟨b, 1, none⟩ (.int .i64 (a + 1)) := by
  have h1 := h.count
  have h2 := h.live
  have h3 := h.pos
  clear h
  go_enter Try.func32, Try.ntmps32
  go_wp2
  go_ret
  exact ⟨rfl, rfl⟩
set_option maxHeartbeats 400000 in
theorem l1Next_none (w : World) (b : Nat) (o : Option Addr) (cap : Nat) (a n : Int) (h : Src w b o 0 cap a) (ha : a ≤ 1000000) (hn : 1 ≤ n) :
    Calls Try.prog 32 #[.pointer (some ⟨b, 0, none⟩), .int .i64 n] w fun e w' => e = .returned (.int .i64 ((a * 7) % n)) ∧ w' = w.setCell ⟨b, 1, none⟩ (.int .i64 (a + 1)) := by
  have g0 := h.next.code
  have g1 := h.next.count
  have h1 := h.count
  have h2 := h.live
  have h3 := h.pos
  clear h
  go_enter Try.func32, Try.ntmps32
  go_wp2
  go_ret
  exact ⟨rfl, rfl⟩
set_option maxHeartbeats 400000 in
theorem l1Next_some (w : World) (b g off : Nat) (len cap : Nat) (a n x : Int) (h : Src w b (some ⟨g, off, none⟩) len cap a) (ha : a ≤ 1000000) (hl : 0 < len) (hl2 : len ≤ 1048576) (hn : 1 ≤ n) (hn2 : n ≤ 200)
    (hc : w.cell? ⟨g, off + (a % len).toNat, none⟩ = some (.int .u8 x)) (hg : g ≠ b) (x0 : 0 ≤ x) (x1 : x < 256) :
    Calls Try.prog 32 #[.pointer (some ⟨b, 0, none⟩), .int .i64 n] w fun e w' => e = .returned (.int .i64 ((x + a / len * 37) % n)) ∧ ∃ m, w' = (w.setCell ⟨b, 1, none⟩ (.int .i64 (a + 1))).drewN m := by
  have g0 := h.next.code
  have g1 := h.next.count
  have gc : (w.setCell ⟨b, 1, none⟩ (.int .i64 (a + 1))).cell? ⟨g, off + (a % len).toNat, none⟩ = some (.int .u8 x) := (World.cell?_setCell_other _ _ _ _ (fun e => hg (congrArg Addr.block e).symm)).trans hc
  have h1 := h.count
  have h2 := h.live
  have h3 := h.pos
  clear h hc
  have q0 : 0 ≤ a / len := Int.ediv_nonneg h3 (by omega)
  have q1 : a / len ≤ a := Int.ediv_le_self _ h3
  have r0 : 0 ≤ a % len := Int.emod_nonneg _ (by omega)
  have r1 : a % len < len := Int.emod_lt_of_pos _ (by omega)
  have hl0 : ((len : Int) == 0) = false := beq_eq_false_iff_ne.2 (by omega)
  go_enter Try.func32, Try.ntmps32
  go_wp2
  go_quiet (fail)
  go_wp2
  go_ret
  exact ⟨rfl, _, rfl⟩
set_option maxHeartbeats 400000 in
theorem l1Next_big (w : World) (b g off : Nat) (len cap : Nat) (a n x y : Int) (h : Src w b (some ⟨g, off, none⟩) len cap a) (ha : a ≤ 1000000) (hl : 0 < len) (hl2 : len ≤ 1048576) (hn : 200 < n)
    (hc : w.cell? ⟨g, off + (a % len).toNat, none⟩ = some (.int .u8 x)) (hd : w.cell? ⟨g, off + ((a + 1) % len).toNat, none⟩ = some (.int .u8 y)) (hg : g ≠ b) (x0 : 0 ≤ x) (x1 : x < 256) (y0 : 0 ≤ y) (y1 : y < 256) :
    Calls Try.prog 32 #[.pointer (some ⟨b, 0, none⟩), .int .i64 n] w fun e w' => e = .returned (.int .i64 (((x + a / len * 37) * 251 + y * 13 + a) % n)) ∧ ∃ m, w' = (w.setCell ⟨b, 1, none⟩ (.int .i64 (a + 1))).drewN m := by
  have g0 := h.next.code
  have g1 := h.next.count
  have gc : (w.setCell ⟨b, 1, none⟩ (.int .i64 (a + 1))).cell? ⟨g, off + (a % len).toNat, none⟩ = some (.int .u8 x) := (World.cell?_setCell_other _ _ _ _ (fun e => hg (congrArg Addr.block e).symm)).trans hc
  have gd : (w.setCell ⟨b, 1, none⟩ (.int .i64 (a + 1))).cell? ⟨g, off + ((a + 1) % len).toNat, none⟩ = some (.int .u8 y) := (World.cell?_setCell_other _ _ _ _ (fun e => hg (congrArg Addr.block e).symm)).trans hd
  have h1 := h.count
  have h2 := h.live
  have h3 := h.pos
  clear h hc hd
  have q0 : 0 ≤ a / len := Int.ediv_nonneg h3 (by omega)
  have q1 : a / len ≤ a := Int.ediv_le_self _ h3
  have r0 : 0 ≤ a % len := Int.emod_nonneg _ (by omega)
  have r1 : a % len < len := Int.emod_lt_of_pos _ (by omega)
  have s0 : 0 ≤ (a + 1) % len := Int.emod_nonneg _ (by omega)
  have s1 : (a + 1) % len < len := Int.emod_lt_of_pos _ (by omega)
  have hl0 : ((len : Int) == 0) = false := beq_eq_false_iff_ne.2 (by omega)
  go_enter Try.func32, Try.ntmps32
  go_wp2
  go_quiet (fail)
  go_wp2
  go_quiet (fail)
  go_wp2
  go_ret
  exact ⟨rfl, _, rfl⟩

theorem But.drewN {b : Nat} {w w' : World} (h : But b w w') (n : Nat) : But b w (w'.drewN n) := ⟨h.os, h.tape, h.output, h.size, h.block⟩
/-- Whatever it draws from: a number in its bounds; its count goes on by one; all else stays. -/
theorem l1Next_any (w : World) (b : Nat) (o : Option Addr) (len cap : Nat) (a n : Int) (h : Src w b o len cap a) (ha : a ≤ 1000000) (hl : len ≤ 1048576) :
    Calls Try.prog 32 #[.pointer (some ⟨b, 0, none⟩), .int .i64 n] w fun e w' => ∃ r : Int, e = .returned (.int .i64 r) ∧ 0 ≤ r ∧ (1 ≤ n → r < n) ∧ Src w' b o len cap (a + 1) ∧ But b w w' := by
  by_cases hn : n < 1
  · exact (l1Next_less w b o len cap a n h ha hn).mono fun e w' ⟨he, hw⟩ => ⟨0, he, Int.le_refl _, fun h1 => by omega, hw ▸ h.next, hw ▸ But.next _ _ _⟩
  by_cases h0 : len = 0
  · subst h0
    exact (l1Next_none w b o cap a n h ha (by omega)).mono fun e w' ⟨he, hw⟩ => ⟨_, he, Int.emod_nonneg _ (by omega), fun _ => Int.emod_lt_of_pos _ (by omega), hw ▸ h.next, hw ▸ But.next _ _ _⟩
  · have h3 := h.pos
    have r0 : 0 ≤ a % len := Int.emod_nonneg _ (by omega)
    have r1 : a % len < len := Int.emod_lt_of_pos _ (by omega)
    have s0 : 0 ≤ (a + 1) % len := Int.emod_nonneg _ (by omega)
    have s1 : (a + 1) % len < len := Int.emod_lt_of_pos _ (by omega)
    obtain ⟨g, off, x, rfl, hg, hx, x0, x1⟩ := h.bytes (a % len).toNat (by omega)
    obtain ⟨g', off', y, he', hg', hy, y0, y1⟩ := h.bytes ((a + 1) % len).toNat (by omega)
    simp only [Option.some.injEq, Addr.mk.injEq, and_true] at he'
    obtain ⟨rfl, rfl⟩ := he'
    by_cases h2 : 200 < n
    · exact (l1Next_big w b g off len cap a n x y h ha (by omega) hl h2 hx hy hg x0 x1 y0 y1).mono fun e w' ⟨he, m, hw⟩ => ⟨_, he, Int.emod_nonneg _ (by omega), fun _ => Int.emod_lt_of_pos _ (by omega), hw ▸ h.next.drewN m, hw ▸ (But.next _ _ _).drewN m⟩
    · exact (l1Next_some w b g off len cap a n x h ha (by omega) hl (by omega) (by omega) hx hg x0 x1).mono fun e w' ⟨he, m, hw⟩ => ⟨_, he, Int.emod_nonneg _ (by omega), fun _ => Int.emod_lt_of_pos _ (by omega), hw ▸ h.next.drewN m, hw ▸ (But.next _ _ _).drewN m⟩
end Go.Proofs.Ytdbcmckoiacemaa

namespace Go.Proofs.Ytdbcmckoiacemaa
open Go.RowKit

theorem ownsRow_form {w : World} {base : Nat} {e : TypeId} {size : Nat} {v : Value} {n : Nat} {xs : List Value} (h : w.ownsRow base e size v n xs) : ∃ ao cp, v = .slice ao n cp := by
  obtain ⟨_, ⟨rfl, rfl⟩ | ⟨g, cap, cur, rfl, _⟩⟩ := h
  · exact ⟨_, _, rfl⟩
  · exact ⟨_, _, rfl⟩
/-- A list of whole numbers that the call made, in new memory. -/
def Ints (w : World) (base : Nat) (v : Value) (xs : List Int) : Prop := w.ownsRow base 2 1 v xs.length (xs.map (Value.int .i64))
/-- The cell at a place of a list that the call made. -/
theorem Ints.at {w : World} {B : Nat} {ao : Option Addr} {cp : Nat} {xs : List Int} (h : Ints w B (.slice ao xs.length cp) xs) {k : Nat} (hk : k < xs.length) :
    ∃ g, ao = some ⟨g, 0, none⟩ ∧ B ≤ g ∧ w.cell? ⟨g, k, none⟩ = some (.int .i64 xs[k]) ∧ w.frozen? ⟨g, k, none⟩ = false := by
  have h0 := h
  obtain ⟨_, ⟨hv, hn⟩ | ⟨g, cap, cur, hv, hg, _⟩⟩ := h
  · omega
  · simp only [Value.slice.injEq] at hv
    obtain ⟨rfl, _, rfl⟩ := hv
    refine ⟨g, rfl, hg, ?_, World.ownsRow.frozenAt h0 k⟩
    rw [World.ownsRow.cellAt h0 k (by omega)]
    simp [hk]
theorem Ints.form {w : World} {B : Nat} {v : Value} {xs : List Int} (h : Ints w B v xs) : ∃ ao cp, v = .slice ao xs.length cp := ownsRow_form h

theorem Ints.later {w w' : World} {B : Nat} {v : Value} {xs : List Int} (h : Ints w B v xs) (hb : Below w.heap.size w w') : Ints w' B v xs := by
  obtain ⟨h1, h2⟩ := h
  refine ⟨h1, ?_⟩
  rcases h2 with h2 | ⟨g, cap, cur, hv, hg, hh, r⟩
  · exact Or.inl h2
  · have hlt : g < w.heap.size := by
      rcases Nat.lt_or_ge g w.heap.size with h | h
      · exact h
      · rw [Array.getElem?_eq_none h] at hh; cases hh
    exact Or.inr ⟨g, cap, cur, hv, hg, (hb.block g hlt).trans hh, r⟩
theorem Ints.alloc {w : World} {B : Nat} {v : Value} {xs : List Int} (h : Ints w B v xs) (o : Obj) : Ints (w.alloc o) B v xs := World.ownsRow.alloc h o
theorem Ints.mono {w : World} {B B' : Nat} {v : Value} {xs : List Int} (h : Ints w B v xs) (hb : B' ≤ B) : Ints w B' v xs := World.ownsRow.mono h hb
theorem Ints.drewN {w : World} {B : Nat} {v : Value} {xs : List Int} (h : Ints w B v xs) (n : Nat) : Ints (w.drewN n) B v xs := h
theorem Ints.lt {w : World} {B : Nat} {v : Value} {xs : List Int} (h : Ints w B v xs) : ∀ k, v.ownBlock = some k → B ≤ k ∧ k < w.heap.size := World.ownsRow.lt h
theorem Ints.grown {w w' : World} {B : Nat} {v : Value} {xs : List Int} (h : Ints w B v xs) {row : Option Nat} (hg : w.grownBy w' row) (hne : ∀ k, v.ownBlock = some k → row ≠ some k) : Ints w' B v xs :=
  World.ownsRow.kept h hg (by
    cases hv : v.ownBlock with
    | none => exact Or.inl rfl
    | some k => exact Or.inr (fun e => hne k hv e.symm))
theorem Ints.nil (w : World) (B : Nat) : Ints w B (.slice none 0 0) [] := World.ownsRow_nil w B _ 1
theorem grown_refl_alloc {w : World} (o : Obj) (row : Option Nat) : w.grownBy (w.alloc o) row := ⟨rfl, rfl, rfl, by simp, fun k hk _ => Below.heap_alloc w o k hk⟩
end Go.Proofs.Ytdbcmckoiacemaa

namespace Go.Proofs.Ytdbcmckoiacemaa
open Go.RowKit

theorem lt_of_cell {w : World} {b off : Nat} {v : Value} (h : w.cell? ⟨b, off, none⟩ = some v) : b < w.heap.size := World.block_lt_of_cell? w ⟨b, off, none⟩ h
theorem Src.lt {w : World} {b : Nat} {o : Option Addr} {len cap : Nat} {a : Int} (h : Src w b o len cap a) : b < w.heap.size := lt_of_cell h.code
theorem Src.later {w w' : World} {b : Nat} {o : Option Addr} {len cap : Nat} {a : Int} (h : Src w b o len cap a) (hb : Below w.heap.size w w') : Src w' b o len cap a where
  code := (hb.cell (p := ⟨b, 0, none⟩) h.lt).trans h.code
  count := (hb.cell (p := ⟨b, 1, none⟩) h.lt).trans h.count
  live := (hb.frozen (p := ⟨b, 1, none⟩) h.lt).trans h.live
  pos := h.pos
  bytes := fun j hj => by
    obtain ⟨g, off, n, e1, e2, e3, e4⟩ := h.bytes j hj
    exact ⟨g, off, n, e1, e2, (hb.cell (p := ⟨g, off + j, none⟩) (lt_of_cell e3)).trans e3, e4⟩
theorem Src.alloc {w : World} {b : Nat} {o : Option Addr} {len cap : Nat} {a : Int} (h : Src w b o len cap a) (x : Obj) : Src (w.alloc x) b o len cap a := h.later ((Below.refl _ _).alloc (Nat.le_refl _) _)
theorem But.refl (b : Nat) (w : World) : But b w w := ⟨rfl, rfl, rfl, Nat.le_refl _, fun _ _ _ => rfl⟩
theorem But.trans {b : Nat} {a c d : World} (h : But b a c) (k : But b c d) : But b a d := grown_trans h k
theorem But.alloc {b : Nat} {a c : World} (h : But b a c) (x : Obj) : But b a (c.alloc x) := grown_trans h (grown_refl_alloc x _)
theorem But.below {b : Nat} {a c d : World} (h : But b a c) (k : Below c.heap.size c d) : But b a d := grown_trans h ⟨k.os, k.tape, k.output, k.size, fun i hi _ => k.block i hi⟩
theorem But.cell {b : Nat} {w w' : World} (h : But b w w') {g off : Nat} {v : Value} (hc : w.cell? ⟨g, off, none⟩ = some v) (hg : g ≠ b) : w'.cell? ⟨g, off, none⟩ = some v := World.grownBy.cell h (a := ⟨g, off, none⟩) hc (by simp; exact hg)
theorem But.frozen {b : Nat} {w w' : World} (h : But b w w') {g off : Nat} (hl : g < w.heap.size) (hg : g ≠ b) : w'.frozen? ⟨g, off, none⟩ = w.frozen? ⟨g, off, none⟩ := World.frozen?_of_block (w := w) (h.block g hl (by simp; exact hg))
theorem But.ints {b B : Nat} {w w' : World} {v : Value} {xs : List Int} (h : But b w w') (hI : Ints w B v xs) (hb : b < B) : Ints w' B v xs := hI.grown h (fun k hk e => by have := (hI.lt k hk).1; simp at e; omega)
/-- What the source drew leaves all that was there ahead of it as it was. -/
theorem Below.but {B b : Nat} {a w w' : World} (h : Below B a w) (k : But b w w') (hB : B ≤ w.heap.size) (hb : B ≤ b) : Below B a w' := h.grown k hB (fun j e => by simp at e; omega)

/-- The bytes that come in. -/
def Code (w : World) (o : Option Addr) (len : Nat) : Prop := ∀ j, j < len → ∃ (g off : Nat) (n : Int), o = some ⟨g, off, none⟩ ∧ w.cell? ⟨g, off + j, none⟩ = some (.int .u8 n) ∧ 0 ≤ n ∧ n < 256
theorem Code.later {w w' : World} {o : Option Addr} {len : Nat} (h : Code w o len) (hb : Below w.heap.size w w') : Code w' o len := fun j hj => by
  obtain ⟨g, off, n, e1, e3, e4⟩ := h j hj
  exact ⟨g, off, n, e1, (hb.cell (p := ⟨g, off + j, none⟩) (lt_of_cell e3)).trans e3, e4⟩
set_option maxHeartbeats 400000 in
theorem l1Source_any (w : World) (o : Option Addr) (len cap : Nat) (h : Code w o len) :
    Calls Try.prog 29 #[.slice o len cap] w fun e w' => e = .returned (.pointer (some ⟨w.heap.size, 0, none⟩)) ∧ Src w' w.heap.size o len cap 0 ∧ Below w.heap.size w w' ∧ w'.heap.size = w.heap.size + 1 := by
  have HS : Hid (Src (w.alloc (.cells #[.slice o len cap, .int .i64 0] 88)) w.heap.size o len cap 0) := {
    code := World.cell?_alloc_mark w _ _ _ 0
    count := World.cell?_alloc_mark w _ _ _ 1
    live := by simp
    pos := Int.le_refl _
    bytes := fun j hj => by
      obtain ⟨g, off, n, e1, e3, e4⟩ := h j hj
      have hl := lt_of_cell e3
      exact ⟨g, off, n, e1, by omega, (World.cell?_alloc_lt _ _ _ hl).trans e3, e4⟩ }
  clear h
  go_enter Try.func29, Try.ntmps29
  go_wp2
  go_ret
  exact ⟨rfl, HS.out, (Below.refl _ _).alloc (Nat.le_refl _) _, by simp⟩

set_option maxHeartbeats 400000 in
theorem l1Pick_any (w : World) (b : Nat) (o : Option Addr) (len cap : Nat) (a : Int) (v : Value) (B : Nat) (xs : List Int) (h : Src w b o len cap a) (ha : a ≤ 1000000) (hl : len ≤ 1048576)
    (hI : Ints w B v xs) (hB : b < B) (hx : 0 < xs.length) (hx2 : xs.length ≤ 1000) :
    Calls Try.prog 34 #[.pointer (some ⟨b, 0, none⟩), v] w fun e w' => ∃ r : Int, e = .returned (.int .i64 r) ∧ r ∈ xs ∧ Src w' b o len cap (a + 1) ∧ But b w w' := by
  obtain ⟨ao, cp, rfl⟩ := hI.form
  have HN : Hid (Calls Try.prog 32 #[.pointer (some ⟨b, 0, none⟩), .int .i64 xs.length] w fun e w' => ∃ r : Int, e = .returned (.int .i64 r) ∧ 0 ≤ r ∧ (1 ≤ (xs.length : Int) → r < xs.length) ∧ Src w' b o len cap (a + 1) ∧ But b w w') := l1Next_any w b o len cap a xs.length h ha hl
  have HI : Hid (Ints w B (.slice ao xs.length cp) xs) := hI
  clear h hI
  go_enter Try.func34, Try.ntmps34
  go_wp2_with fail
  refine HN.out.mono ?_
  rintro e w1 ⟨r, rfl, r0, r1, hS, hT⟩
  have r1' : r < xs.length := r1 (by omega)
  clear r1
  have I1 : Ints w1 B (.slice ao xs.length cp) xs := hT.ints HI.out hB
  obtain ⟨k, rfl⟩ := Int.eq_ofNat_of_zero_le r0
  have hk : k < xs.length := by omega
  obtain ⟨g, rfl, _, hc, _⟩ := I1.at hk
  have HR : Hid (xs[k] ∈ xs ∧ Src w1 b o len cap (a + 1) ∧ But b w w1) := ⟨List.getElem_mem hk, hS, hT⟩
  clear hS hT I1
  go_wp2
  go_ret
  exact ⟨_, rfl, HR.out⟩
end Go.Proofs.Ytdbcmckoiacemaa

namespace Go.Proofs.Ytdbcmckoiacemaa
open Go.RowKit

set_option maxHeartbeats 1000000 in
theorem l1Key_any (w : World) (b : Nat) (o : Option Addr) (len cap : Nat) (a : Int) (h : Src w b o len cap a) (ha : a ≤ 900000) (hl : len ≤ 1048576) :
    Calls Try.prog 57 #[.pointer (some ⟨b, 0, none⟩)] w fun e w' => ∃ r : Int, e = .returned (.int .i64 r) ∧ faultOf r = 0 ∧ Src w' b o len cap (a + 5) ∧ But b w w' := by
  have H0 : Hid (Src w b o len cap a) := h
  have hp := h.pos
  clear h
  go_enter Try.func57, Try.ntmps57
  go_wp2_with fail
  refine (l1Next_any _ b o len cap a 4 H0.out (by omega) hl).mono ?_
  rintro e w1 ⟨r, rfl, r0, r1, hS, hT⟩
  have r4 : r < 4 := r1 (by omega)
  have H1 : Hid (Src w1 b o len cap (a + 1) ∧ But b w w1) := ⟨hS, hT⟩
  clear r1 hS hT
  go_wp2_with fail
  refine (l1Next_any _ b o len cap (a + 1) 3 H1.out.1 (by omega) hl).mono ?_
  rintro e w2 ⟨s, rfl, s0, s1, hS, hT⟩
  have s3 : s < 3 := s1 (by omega)
  have H2 : Hid (Src w2 b o len cap (a + 1 + 1) ∧ But b w w2) := ⟨hS, H1.out.2.trans hT⟩
  clear s1 hS hT H1
  go_wp2_with fail
  refine (l1Next_any _ b o len cap (a + 1 + 1) 3 H2.out.1 (by omega) hl).mono ?_
  rintro e w3 ⟨t, rfl, t0, t1, hS, hT⟩
  have t3 : t < 3 := t1 (by omega)
  have H3 : Hid (Src w3 b o len cap (a + 1 + 1 + 1) ∧ But b w w3) := ⟨hS, H2.out.2.trans hT⟩
  clear t1 hS hT H2
  go_wp2_with fail
  refine (l1Next_any _ b o len cap (a + 1 + 1 + 1) 3 H3.out.1 (by omega) hl).mono ?_
  rintro e w4 ⟨u, rfl, u0, u1, hS, hT⟩
  have u3 : u < 3 := u1 (by omega)
  have H4 : Hid (Src w4 b o len cap (a + 1 + 1 + 1 + 1) ∧ But b w w4) := ⟨hS, H3.out.2.trans hT⟩
  clear u1 hS hT H3
  go_wp2_with fail
  have hI : Ints (w4.alloc (.cells #[.int .i64 0, .int .i64 (10 + r), .int .i64 (20 + 10 * s + t), .int .i64 (180 + u)] 2)) w4.heap.size (.slice (some ⟨w4.heap.size, 0, none⟩) 4 4) [0, 10 + r, 20 + 10 * s + t, 180 + u] := World.ownsRow_lit w4 #[.int .i64 0, .int .i64 (10 + r), .int .i64 (20 + 10 * s + t), .int .i64 (180 + u)] 4 (Nat.le_refl _) (by decide) rfl
  refine (l1Pick_any _ b o len cap (a + 1 + 1 + 1 + 1) _ w4.heap.size [0, 10 + r, 20 + 10 * s + t, 180 + u] (H4.out.1.alloc _) (by omega) hl hI H4.out.1.lt (by simp) (by simp)).mono ?_
  rintro e w5 ⟨k, rfl, hk, hS, hT⟩
  have HR : Hid (faultOf k = 0 ∧ Src w5 b o len cap (a + 5) ∧ But b w w5) := by
    refine ⟨?_, ?_, (H4.out.2.alloc _).trans hT⟩
    · simp only [List.mem_cons, List.not_mem_nil, or_false] at hk
      apply faultOf_ok
      omega
    · have e5 : a + 1 + 1 + 1 + 1 + 1 = a + 5 := by omega
      rw [e5] at hS; exact hS
  clear hk hS hT hI H4
  go_wp2
  go_ret
  exact ⟨_, rfl, HR.out⟩
theorem fault_zero' {key : Int} (h : faultOf key = 0) : 0 ≤ key ∧ key ≤ 199 := by
  constructor
  · apply Classical.byContradiction; intro hn
    rw [faultOf_range (Or.inl (by omega))] at h; omega
  · apply Classical.byContradiction; intro hn
    rw [faultOf_range (Or.inr (by omega))] at h; omega

set_option maxHeartbeats 1000000 in
theorem l1Bent_any (w : World) (b : Nat) (o : Option Addr) (len cap : Nat) (a : Int) (h : Src w b o len cap a) (ha : a ≤ 800000) (hl : len ≤ 1048576) :
    Calls Try.prog 33 #[.pointer (some ⟨b, 0, none⟩)] w fun e w' => ∃ r : Int, e = .returned (.int .i64 r) ∧ -1 ≤ r ∧ r ≤ 200 ∧ Src w' b o len cap (a + 17) ∧ But b w w' := by
  have H0 : Hid (Src w b o len cap a ∧ But b w w) := ⟨h, But.refl _ _⟩
  have hp := h.pos
  clear h
  go_enter Try.func33, Try.ntmps33
  go_wp2_with fail
  refine (l1Key_any _ b o len cap (a) H0.out.1 (by omega) hl).mono ?_
  rintro e w1 ⟨k1, rfl, f1, hS, hT⟩
  have H1 : Hid (Src w1 b o len cap (a + 5) ∧ But b w w1) := ⟨hS, H0.out.2.trans hT⟩
  have g1 := fault_zero' f1
  clear hS hT H0 f1
  go_wp2_with fail
  refine (l1Key_any _ b o len cap (a + 5) H1.out.1 (by omega) hl).mono ?_
  rintro e w2 ⟨k2, rfl, f2, hS, hT⟩
  have H2 : Hid (Src w2 b o len cap (a + 5 + 5) ∧ But b w w2) := ⟨hS, H1.out.2.trans hT⟩
  have g2 := fault_zero' f2
  clear hS hT H1 f2
  go_wp2_with fail
  refine (l1Key_any _ b o len cap (a + 5 + 5) H2.out.1 (by omega) hl).mono ?_
  rintro e w3 ⟨k3, rfl, f3, hS, hT⟩
  have H3 : Hid (Src w3 b o len cap (a + 5 + 5 + 5) ∧ But b w w3) := ⟨hS, H2.out.2.trans hT⟩
  have g3 := fault_zero' f3
  clear hS hT H2 f3
  go_wp2_with fail
  refine (l1Next_any _ b o len cap (a + 5 + 5 + 5) 200 H3.out.1 (by omega) hl).mono ?_
  rintro e w4 ⟨u, rfl, u0, u1, hS, hT⟩
  have u2 : u < 200 := u1 (by omega)
  have H4 : Hid (Src w4 b o len cap (a + 5 + 5 + 5 + 1) ∧ But b w w4) := ⟨hS, H3.out.2.trans hT⟩
  clear u1 hS hT H3
  go_wp2_with fail
  have hI : Ints (w4.alloc (.cells #[.int .i64 k1, .int .i64 k2, .int .i64 k3, .int .i64 u, .int .i64 (-1), .int .i64 200] 2)) w4.heap.size (.slice (some ⟨w4.heap.size, 0, none⟩) 6 6) [k1, k2, k3, u, -1, 200] := World.ownsRow_lit w4 #[.int .i64 k1, .int .i64 k2, .int .i64 k3, .int .i64 u, .int .i64 (-1), .int .i64 200] 6 (Nat.le_refl _) (by decide) rfl
  refine (l1Pick_any _ b o len cap (a + 5 + 5 + 5 + 1) _ w4.heap.size [k1, k2, k3, u, -1, 200] (H4.out.1.alloc _) (by omega) hl hI H4.out.1.lt (by simp) (by simp)).mono ?_
  rintro e w5 ⟨k, rfl, hk, hS, hT⟩
  have HR : Hid (-1 ≤ k ∧ k ≤ 200 ∧ Src w5 b o len cap (a + 17) ∧ But b w w5) := by
    simp only [List.mem_cons, List.not_mem_nil, or_false] at hk
    have e5 : a + 5 + 5 + 5 + 1 + 1 = a + 17 := by omega
    rw [e5] at hS
    exact ⟨by omega, by omega, hS, (H4.out.2.alloc _).trans hT⟩
  clear hk hS hT hI H4
  go_wp2
  go_ret
  exact ⟨_, rfl, HR.out⟩

end Go.Proofs.Ytdbcmckoiacemaa

namespace Go.Proofs.Ytdbcmckoiacemaa
open Go.RowKit

theorem make_rowT {P : Program} {t e : TypeId} {z : Value} {size bytes : Nat} (ht : P.underlying t = some (.slice e)) (hinfo : (P.info? e).map (fun i => (i.zero, i.size, i.bytes)) = some (some z, size, bytes)) (n : Nat) (hn : bytes * n ≤ 281474976710656) (hm : n ≤ 9223372036854775807) (w : World) :
    (Instr.makeSlice t (.int .i64 (n : Int)) (.int .i64 (n : Int))).run P w = .ok (.slice (some ⟨w.heap.size, 0, none⟩) n n) (w.alloc (.cells (madeCells z.cells (n * size)) e)) := by
  obtain ⟨i, hi, hz, hs, hb⟩ := info_parts hinfo
  have hb' : (i.bytes : Int) * (n : Int) ≤ 281474976710656 := by
    have h : ((i.bytes * n : Nat) : Int) ≤ 281474976710656 := by rw [hb]; omega
    rwa [Int.natCast_mul] at h
  have hr := run_make (P := P) w t e i z ht hi hz .i64 .i64 n n (by omega) (Int.le_refl _) hb' (by omega)
  simp only [Int.toNat_natCast, hs] at hr
  exact hr

end Go.Proofs.Ytdbcmckoiacemaa

namespace Go.Proofs.Ytdbcmckoiacemaa
open Go.RowKit

theorem run_appX (t ty e : TypeId) (i : TypeInfo) (z : Value) (m bytes : Nat) (ht : Try.prog.underlying t = some (.slice e)) (hi : Try.prog.info? e = some i) (hz : i.zero = some z) (hsize : i.size = m) (hby : i.bytes = bytes) (hzs : z.cells.size = m) (hm : 0 < m) (hb5 : bytes ≤ 1000)
    (w : World) (base n0 : Nat) (L : List Int) (v : Value) (hown : OwnM w base e m v n0 L) (B n : Nat) (F : Nat → Int) (x : Value) (h : Row w B m n F x) (hn : n0 + n ≤ 2097152) (hbase : base ≤ w.heap.size) :
    ∃ ao cp w', (Builtin.append_ #[t, t] ty #[v, x]).run Try.prog w = .ok (.slice ao (n0 + n) cp) w' ∧ OwnM w' base e m (.slice ao (n0 + n) cp) (n0 + n) (L ++ nums F (n * m)) ∧ w.grownBy w' v.ownBlock ∧ ((Value.slice ao (n0 + n) cp).ownBlock = v.ownBlock ∨ (Value.slice ao (n0 + n) cp).ownBlock = some w.heap.size) := by
  have hbb : (n0 + n) * bytes ≤ 2097152 * 1000 := Nat.mul_le_mul hn hb5
  obtain ⟨ao, cp, rfl⟩ := h.form
  cases ao with
  | none =>
    have e0 : n = 0 := by
      rcases Nat.eq_zero_or_pos n with q | q
      · exact q
      · obtain ⟨g, o, hg, _⟩ := h.at q
        cases hg
    subst e0
    obtain ⟨av, cv, rfl⟩ := hown.form
    refine ⟨av, cv, w, ?_, ?_, ⟨rfl, rfl, rfl, Nat.le_refl _, fun _ _ _ => rfl⟩, Or.inl rfl⟩
    · rcases hown.2 with ⟨q, _⟩ | ⟨g, cap, cur, q, _, _, hnc, _⟩
      · cases q
        simp [Builtin.append_, run_underlying ht, sizeOf, typeInfo, hi, Builtin.lenOf, Builtin.firstCells]
      · cases q
        simp [Builtin.append_, run_underlying ht, sizeOf, typeInfo, hi, Builtin.lenOf, Builtin.firstCells, hnc, storeCells]
    · simpa [nums] using hown
  | some a =>
    obtain ⟨v', w', h1, h2, h3, _, h5⟩ := run_append_own_at (P := Try.prog) w base t ty e i z m bytes ht hi hz hsize hby hzs hm v n0 _ hown a n cp (vals F (n * m)) (vals_length _ _) (row_cells h) (vals_one _ _) (by unfold maxLen; omega) (by omega) hbase
    have h2' : OwnM w' base e m v' (n0 + n) (L ++ nums F (n * m)) := by
      unfold OwnM
      rw [List.map_append, nums_vals]
      exact h2
    obtain ⟨ao', cp', rfl⟩ := h2'.form
    exact ⟨ao', cp', w', h1, h2', h3, h5⟩
/-- .. with the word where the new row lies, for the walk. -/
theorem wpList_appX (e : TypeId) (i : TypeInfo) (z : Value) (m bytes : Nat) {ops : Array Oper} {rest : List Oper} {o : Oper} {a : Act} {Q : Exit → Act → World → Prop} (hgd : o.guard = none) (s x : Operand) (t : TypeId) (ho : o.op = .call { callee := .builtin .append, args := #[s, x], argTypes := #[t, t] })
    (ht : Try.prog.underlying t = some (.slice e)) (hi : Try.prog.info? e = some i) (hz : i.zero = some z) (hsize : i.size = m) (hby : i.bytes = bytes) (hzs : z.cells.size = m) (hm : 0 < m) (hb5 : bytes ≤ 1000)
    (w : World) (base n0 : Nat) (L : List Int) (v : Value) (hs : a.eval s = v) (hown : OwnM w base e m v n0 L) (B n : Nat) (F : Nat → Int) (u : Value) (hx : a.eval x = u) (h : Row w B m n F u) (hn : n0 + n ≤ 2097152) (hbase : base ≤ w.heap.size)
    (hK : ∀ ao cp w', OwnM w' base e m (.slice ao (n0 + n) cp) (n0 + n) (L ++ nums F (n * m)) → w.grownBy w' v.ownBlock → ((Value.slice ao (n0 + n) cp).ownBlock = v.ownBlock ∨ (Value.slice ao (n0 + n) cp).ownBlock = some w.heap.size) → wpList Try.prog ops Q rest (a.put o.dst (.slice ao (n0 + n) cp)) w') : wpList Try.prog ops Q (o :: rest) a w := by
  refine wpList_plain hgd fun K hK' => ?_
  obtain ⟨ao, cp, w', hr, h2, h3, h5⟩ := run_appX t o.type e i z m bytes ht hi hz hsize hby hzs hm hb5 w base n0 L v hown B n F u h hn hbase
  unfold Oper.wp execOp
  simp only [ho, resolve, invoke, builtin, Sem.run_bind, Sem.run_pure, Result.andThen_ok, List.map_toArray, List.map_cons, List.map_nil, hs, hx, hr]
  exact hK' _ _ (hK ao cp w' h2 h3 h5)
end Go.Proofs.Ytdbcmckoiacemaa

namespace Go.Proofs.Ytdbcmckoiacemaa
open Go.RowKit

theorem infoz_Item : (Try.prog.info? 36).map (fun i => (i.zero, i.size, i.bytes)) = some (some (.agg #[.int .i64 0, .int .i64 0, .int .i64 0]), 3, 24) := by kernel_rfl
theorem OwnM.len {w : World} {B : Nat} {e : TypeId} {m n : Nat} {v : Value} {L : List Int} (h : OwnM w B e m v n L) : L.length = n * m := by
  have := h.1
  simpa using this
theorem OwnM.rowL {w : World} {B : Nat} {e : TypeId} {m n : Nat} {v : Value} {L : List Int} (h : OwnM w B e m v n L) : Row w B m n (fun p => L.getD p 0) v ∧ Free w (n * m) v := (h.own h.len).row
theorem row_litT (w : World) (x0 x1 x2 : Int) (t : TypeId) (b : Nat) (hb : w.heap.size = b) : Row (w.alloc (.cells #[.int .i64 x0, .int .i64 x1, .int .i64 x2] t)) 0 3 1 (fun p => [x0, x1, x2].getD p 0) (.slice (some ⟨b, 0, none⟩) 1 1) := by
  subst hb
  refine ⟨_, _, rfl, fun _ => ⟨w.heap.size, 0, rfl, Nat.zero_le _, by simp, fun p hp => ?_⟩⟩
  rw [Nat.zero_add]
  match p, hp with
  | 0, _ => exact World.cell?_alloc_mark w _ _ _ 0
  | 1, _ => exact World.cell?_alloc_mark w _ _ _ 1
  | 2, _ => exact World.cell?_alloc_mark w _ _ _ 2
end Go.Proofs.Ytdbcmckoiacemaa

namespace Go.Proofs.Ytdbcmckoiacemaa
open Go.RowKit

theorem Src.keepT {w X X' : World} {b : Nat} {o : Option Addr} {len cap : Nat} {a a0 : Int} (h0 : Src w b o len cap a0) (h : Src X b o len cap a) (hT : But b w X) {row : Option Nat} (gr : X.grownBy X' row) (hr : ∀ r, row = some r → w.heap.size ≤ r) : Src X' b o len cap a ∧ But b w X' := by
  have hb := h0.lt
  have hbX : b < X.heap.size := Nat.lt_of_lt_of_le hb hT.size
  have kb : X'.heap[b]? = X.heap[b]? := gr.block b hbX (fun e => by have := hr b e.symm; omega)
  have hB : But b w X' := ⟨gr.os.trans hT.os, gr.tape.trans hT.tape, gr.output.trans hT.output, Nat.le_trans hT.size gr.size, fun i hi hne => (gr.block i (Nat.lt_of_lt_of_le hi hT.size) (fun e => by have := hr i e.symm; omega)).trans (hT.block i hi hne)⟩
  refine ⟨⟨(World.cell?_of_block (w := X) (a := ⟨b, 0, none⟩) kb).trans h.code, (World.cell?_of_block (w := X) (a := ⟨b, 1, none⟩) kb).trans h.count, (World.frozen?_of_block (w := X) (a := ⟨b, 1, none⟩) kb).trans h.live, h.pos, fun j hj => ?_⟩, hB⟩
  obtain ⟨g, off, n, e1, e2, e3, e4⟩ := h0.bytes j hj
  exact ⟨g, off, n, e1, e2, hB.cell e3 e2, e4⟩
theorem OwnM.but {w w' : World} {b B : Nat} {e : TypeId} {m n : Nat} {v : Value} {L : List Int} (h : OwnM w B e m v n L) (hT : But b w w') (hb : b < B) : OwnM w' B e m v n L :=
  h.keptB (fun k hk => hT.block k (h.block k hk).2 (fun e' => by have := Option.some.inj e'; have := (h.block k hk).1; omega))
/-- A row under way while the source is drawn from. -/
structure Draw (w : World) (b : Nat) (o : Option Addr) (len cap : Nat) (e : TypeId) (m n : Nat) (v : Value) (a : Int) (x : World) : Prop where
  own : ∃ L, OwnM x w.heap.size e m v n L
  src : Src x b o len cap a
  but : But b w x
theorem Blk3.but {x x' : World} {b c : Nat} {a0 a1 a2 : Value} (h : Blk3 x c a0 a1 a2) (hT : But b x x') (hc : c ≠ b) : Blk3 x' c a0 a1 a2 := h.kept (hT.block c h.lt (fun e => hc (Option.some.inj e)))
theorem But.setNew {b : Nat} {w x : World} (h : But b w x) {c : Nat} (hc : w.heap.size ≤ c) (off : Nat) (v : Value) : But b w (x.setCell ⟨c, off, none⟩ v) :=
  ⟨h.os, h.tape, h.output, by simpa [World.setCell] using h.size, fun k hk hne => (Below.heap_setCell x ⟨c, off, none⟩ v k (by simp; omega)).trans (h.block k hk hne)⟩
theorem Src.setNew {w x : World} {b : Nat} {o : Option Addr} {len cap : Nat} {a a0 : Int} (h0 : Src w b o len cap a0) (h : Src x b o len cap a) (hT : But b w x) {c : Nat} (hc : w.heap.size ≤ c) (off : Nat) (v : Value) : Src (x.setCell ⟨c, off, none⟩ v) b o len cap a :=
  (Src.keepT (X' := x.setCell ⟨c, off, none⟩ v) h0 h hT (row := some c) ⟨rfl, rfl, rfl, by simp [World.setCell], fun k _ hne => Below.heap_setCell x ⟨c, off, none⟩ v k (fun e => hne (by rw [e]))⟩ (fun r e => by have := Option.some.inj e; omega)).1
set_option maxRecDepth 100000 in
set_option maxHeartbeats 2000000 in
theorem l8DrawItem_any (w : World) (b : Nat) (o : Option Addr) (len cap : Nat) (a : Int) (h : Src w b o len cap a) (ha : a ≤ 600000) (hl : len ≤ 1048576) :
    Calls Try.prog 55 #[.pointer (some ⟨b, 0, none⟩)] w fun e w' => ∃ x0 x1 x2 a1 : Int, e = .returned (.agg #[.int .i64 x0, .int .i64 x1, .int .i64 x2]) ∧ a1 ≤ a + 10 ∧ Src w' b o len cap a1 ∧ But b w w' := by
  have H : Hid (Src w b o len cap a) := h
  have hbl := h.lt
  clear h
  have K0 : Hid (Blk3 (w.alloc (.cells #[.int .i64 0, .int .i64 0, .int .i64 0] 36)) w.heap.size (.int .i64 0) (.int .i64 0) (.int .i64 0)) := Blk3.new w _ _ _ _
  go_enter Try.func55, Try.ntmps55
  go_wp2_with fail
  refine (l1Key_any _ b o len cap a (H.out.alloc _) (by omega) hl).mono ?_
  rintro e w1 ⟨key, rfl, _, hS1, hT1⟩
  have K1 : Hid (Blk3 w1 w.heap.size (.int .i64 0) (.int .i64 0) (.int .i64 0) ∧ Src w1 b o len cap (a + 5) ∧ But b w w1) := ⟨K0.out.but hT1 (by omega), hS1, ((But.refl _ _).alloc _).trans hT1⟩
  clear hS1 hT1 K0
  have hI : Hid (Ints (w1.alloc (.cells #[.int .i64 1, .int .i64 1, .int .i64 1, .int .i64 2] 2)) w1.heap.size (.slice (some ⟨w1.heap.size, 0, none⟩) 4 4) [1, 1, 1, 2]) := World.ownsRow_lit w1 #[.int .i64 1, .int .i64 1, .int .i64 1, .int .i64 2] 4 (Nat.le_refl _) (by decide) rfl
  go_wp2_with fail
  refine (l1Pick_any _ b o len cap (a + 5) _ w1.heap.size [1, 1, 1, 2] (K1.out.2.1.alloc _) (by omega) hl hI.out K1.out.2.1.lt (by simp) (by simp)).mono ?_
  rintro e w2 ⟨kd, rfl, hkd, hS2, hT2⟩
  have K2 : Hid (Blk3 w2 w.heap.size (.int .i64 0) (.int .i64 0) (.int .i64 0) ∧ Src w2 b o len cap (a + 5 + 1) ∧ But b w w2) := ⟨(K1.out.1.alloc _).but hT2 (by omega), hS2, (K1.out.2.2.alloc _).trans hT2⟩
  have hz2 : w.heap.size + 1 ≤ w2.heap.size := K2.out.1.lt
  clear hS2 hT2 K1 hI
  by_cases hk : kd = 1
  · subst hk
    go_wp2_with fail
    refine (l1Next_any _ b o len cap (a + 5 + 1) 99 (K2.out.2.1.alloc _) (by omega) hl).mono ?_
    rintro e w3 ⟨v, rfl, _, _, hS3, hT3⟩
    have B3 := (Blk3.new w2 (.int .i64 key) (.int .i64 1) (.int .i64 0) 36).but hT3 (by omega)
    have R3 := (K2.out.1.alloc (.cells #[.int .i64 key, .int .i64 1, .int .i64 0] 36)).but hT3 (by omega)
    have T3 : But b w w3 := (K2.out.2.2.alloc _).trans hT3
    have S3 : Src w3 b o len cap (a + 5 + 1 + 1) := hS3
    have K3 : Hid (Src w3 b o len cap (a + 5 + 1 + 1) ∧ But b w w3) := ⟨S3, T3⟩
    obtain ⟨⟨b0, b1, b2⟩, fb0, fb1, fb2⟩ := B3
    obtain ⟨⟨r0, r1, r2⟩, fr0, fr1, fr2⟩ := R3
    have hlb := World.block_lt_of_cell? w3 _ b0
    have hlr := World.block_lt_of_cell? w3 _ r0
    have S4 : Hid (Src (w3.setCell ⟨w2.heap.size, 2, none⟩ (.int .i64 v)) b o len cap (a + 5 + 1 + 1) ∧ But b w (w3.setCell ⟨w2.heap.size, 2, none⟩ (.int .i64 v))) := ⟨Src.setNew H.out S3 T3 (by omega) _ _, T3.setNew (by omega) _ _⟩
    clear hS3 hT3 K2 S3 T3
    go_wp2
    refine bodyPost_ret (v := .agg #[.int .i64 key, .int .i64 1, .int .i64 v]) (by simp [results, Try.results55, go_sem, r0, r1, r2]) rfl ⟨key, 1, v, a + 5 + 1 + 1, rfl, by omega, ?_, ?_⟩
    · have A1 := Src.setNew H.out S4.out.1 S4.out.2 (Nat.le_refl _) 0 (.int .i64 key)
      have T1 := S4.out.2.setNew (Nat.le_refl _) 0 (.int .i64 key)
      have A2 := Src.setNew H.out A1 T1 (Nat.le_refl _) 1 (.int .i64 1)
      have T2 := T1.setNew (Nat.le_refl _) 1 (.int .i64 1)
      exact Src.setNew H.out A2 T2 (Nat.le_refl _) 2 (.int .i64 v)
    · exact ((S4.out.2.setNew (Nat.le_refl _) 0 _).setNew (Nat.le_refl _) 1 _).setNew (Nat.le_refl _) 2 _
  · have d : (kd == 1) = false := beq_eq_false_iff_ne.2 hk
    obtain ⟨⟨c0, c1, c2⟩, _⟩ := (((K2.out.1.set0 (.int .i64 key)).set1 (.int .i64 kd)).set2 (.int .i64 0)).alloc (.cells #[.int .i64 key, .int .i64 kd, .int .i64 0] 36)
    have S4 : Hid (Src w2 b o len cap (a + 5 + 1) ∧ But b w w2) := K2.out.2
    obtain ⟨⟨r0, r1, r2⟩, fr0, fr1, fr2⟩ := K2.out.1
    have hlr := World.block_lt_of_cell? w2 _ r0
    clear K2 hk hkd
    go_wp2
    refine bodyPost_ret (v := .agg #[.int .i64 key, .int .i64 kd, .int .i64 0]) (by simp [results, Try.results55, go_sem, c0, c1, c2]) rfl ⟨key, kd, 0, a + 5 + 1, rfl, by omega, ?_, ?_⟩
    · have A1 := Src.setNew H.out S4.out.1 S4.out.2 (Nat.le_refl _) 0 (.int .i64 key)
      have T1 := S4.out.2.setNew (Nat.le_refl _) 0 (.int .i64 key)
      have A2 := Src.setNew H.out A1 T1 (Nat.le_refl _) 1 (.int .i64 kd)
      have T2 := T1.setNew (Nat.le_refl _) 1 (.int .i64 kd)
      exact (Src.setNew H.out A2 T2 (Nat.le_refl _) 2 (.int .i64 0)).alloc _
    · exact (((S4.out.2.setNew (Nat.le_refl _) 0 _).setNew (Nat.le_refl _) 1 _).setNew (Nat.le_refl _) 2 _).alloc _
set_option maxRecDepth 100000 in
set_option maxHeartbeats 2000000 in
theorem l8Items_any (w : World) (b : Nat) (o : Option Addr) (len cap : Nat) (a : Int) (h : Src w b o len cap a) (ha : a ≤ 500000) (hl : len ≤ 1048576) :
    Calls Try.prog 31 #[.pointer (some ⟨b, 0, none⟩)] w fun e w' => ∃ (n : Nat) (ao : Option Addr) (cp : Nat) (a1 : Int), e = .returned (.slice ao n cp) ∧ n ≤ 3 ∧ a1 ≤ a + 40 ∧ Draw w b o len cap 36 3 n (.slice ao n cp) a1 w' := by
  have H : Hid (Src w b o len cap a) := h
  have hbl := h.lt
  clear h
  obtain ⟨i0, hi, hz0, hz1, hz2⟩ := info_parts infoz_Item
  have D0 : Hid (Draw w b o len cap 36 3 0 (.slice (some ⟨w.heap.size, 0, none⟩) 0 0) a (w.alloc (.cells #[] 36))) := ⟨⟨[], OwnM.lit0 _ _ _ _ rfl⟩, H.out.alloc _, (But.refl _ _).alloc _⟩
  go_enter Try.func31, Try.ntmps31
  go_wp2_with fail
  refine (l1Next_any _ b o len cap a 4 D0.out.src (by omega) hl).mono ?_
  rintro e w1 ⟨r, rfl, p0, p1, hS1, hT1⟩
  have p2 : r < 4 := p1 (by omega)
  obtain ⟨k0, rfl⟩ : ∃ k : Nat, r = k := ⟨r.toNat, by omega⟩
  have D1 : Hid (Draw w b o len cap 36 3 0 (.slice (some ⟨w.heap.size, 0, none⟩) 0 0) (a + 1) w1) := ⟨⟨[], OwnM.but (OwnM.lit0 w w.heap.size 36 3 rfl) hT1 hbl⟩, hS1, D0.out.but.trans hT1⟩
  clear hS1 hT1 D0 p0 p1
  go_wp2
  go_loopw [3, 4] (fun v k wr => ∃ (n z : Nat) (ao : Option Addr) (cp : Nat) (a1 : Int), v = .slice ao n cp ∧ k = .int .i64 z ∧ n + z ≤ 3 ∧ a1 + 10 * z ≤ a + 40 ∧ Hid (Draw w b o len cap 36 3 n (.slice ao n cp) a1 wr)) (fun _ k _ => (intOf k).toNat)
  case atStart => exact ⟨0, k0, _, _, a + 1, rfl, rfl, by omega, by omega, D1⟩
  case round =>
    clear D1
    obtain ⟨n, z, ao, cp, a1, rfl, rfl, hnz, haz, HD⟩ := hrel
    by_cases hz : 0 < z
    case neg =>
      obtain rfl : z = 0 := by omega
      go_wp2
      go_ret
      exact ⟨n, ao, cp, a1, rfl, by omega, by omega, HD.out⟩
    have dz : decide (0 < z) = true := decide_eq_true hz
    have hwz : IntKind.i64.wrap ((z : Int) - 1) = ((z - 1 : Nat) : Int) := by simp [IntKind.wrap, IntKind.bits, IntKind.signed]; omega
    go_wp2_with fail
    refine (l8DrawItem_any _ b o len cap a1 HD.out.src (by omega) hl).mono ?_
    rintro e w2 ⟨x0, x1, x2, a2, rfl, ha2, hS2, hT2⟩
    obtain ⟨L, hL⟩ := HD.out.own
    obtain ⟨r, hr⟩ : ∃ r, hasI (fun p => L.getD p 0) x0 n = r := ⟨_, rfl⟩
    have HH : Hid (hasI (fun p => L.getD p 0) x0 n = r) := hr
    have O2 : Hid (OwnM (w2.alloc (.cells #[.int .i64 x0, .int .i64 x1, .int .i64 x2] 36)) w.heap.size 36 3 (.slice ao n cp) n L) := (hL.but hT2 hbl).later (below_alloc _ _)
    have S2 : Hid (Src (w2.alloc (.cells #[.int .i64 x0, .int .i64 x1, .int .i64 x2] 36)) b o len cap a2 ∧ But b w (w2.alloc (.cells #[.int .i64 x0, .int .i64 x1, .int .i64 x2] 36))) := ⟨hS2.alloc _, (HD.out.but.trans hT2).alloc _⟩
    have hsz : w.heap.size ≤ w2.heap.size := (HD.out.but.trans hT2).size
    clear hL hS2 hT2 HD hr
    go_wp2_with fail
    refine (l8Has_is _ w.heap.size n _ x0 r HH.out _ O2.out.rowL.1 (by omega)).mono ?_
    rintro e w9 ⟨rfl, hw9⟩
    subst hw9
    cases r with
    | true =>
      go_wp2
      go_roundw
      case rel => exact ⟨n, z - 1, ao, cp, a2, rfl, by go_num, by omega, by omega, ⟨⟨L, O2.out⟩, S2.out.1, S2.out.2⟩⟩
      case measure => simp [intOf]; omega
    | false =>
      go_wp2_with (at_builtin; refine wpList_appX 36 i0 (.agg #[.int .i64 0, .int .i64 0, .int .i64 0]) 3 24 rfl _ _ 25 rfl Try.underlying25 hi hz0 hz1 hz2 rfl (by omega) (by omega) _ w.heap.size n L (.slice ao n cp) rfl (O2.out.later (below_alloc _ _)) 0 1 (fun p => [x0, x1, x2].getD p 0) _ rfl (row_litT _ x0 x1 x2 _ _ (by simp)) (by omega) (by simp; omega) ?_; intro ao3 cp3 w3 O3 G3 _)
      have K3 := Src.keepT H.out (S2.out.1.alloc (.cells #[.int .i64 x0, .int .i64 x1, .int .i64 x2] 36)) (S2.out.2.alloc _) G3 (fun r e => (O2.out.block r e).1)
      have D3 : Hid (Draw w b o len cap 36 3 (n + 1) (.slice ao3 (n + 1) cp3) a2 w3) := ⟨⟨_, O3⟩, K3.1, K3.2⟩
      clear O3 G3 K3 O2 S2
      go_wp2
      go_roundw
      case rel => exact ⟨n + 1, z - 1, ao3, cp3, a2, rfl, by go_num, by omega, by omega, D3⟩
      case measure => simp [intOf]; omega
theorem Row.turnedC {w w' : World} {b B m n : Nat} {F : Nat → Int} {v : Value} (h : Row w B m n F v) (hT : But b w w') (hb : b < B) : Row w' B m n F v := by
  rcases Nat.eq_zero_or_pos n with e | e
  · subst e
    obtain ⟨ao, cp, rfl, _⟩ := h
    exact ⟨ao, cp, rfl, fun q => absurd q (Nat.lt_irrefl 0)⟩
  · exact h.kept hT.size (fun k hk hlt => hT.block k hlt (fun e' => by have := Option.some.inj e'; have := (h.lt e k hk).1; omega))
end Go.Proofs.Ytdbcmckoiacemaa

