/-
  Own text, merged of PaiF, PaiG, PaiH, PaiI.
-/
import Derived.Test.YtdbcmckoiacemaaPk1
namespace Go.Proofs.Ytdbcmckoiacemaa
open Go.RowKit

/-- The list's box, the box of a pair, and that nothing old has turned. -/
def RisE (w : World) (b c : Nat) (v : Value) (k x : Int) (X : World) : Prop := Blk2 X b v (.func (.func 37) #[] #[]) ∧ Blk2 X c (.int .i64 k) (.int .i64 x) ∧ Below w.heap.size w X
theorem RisE.later {w X X' : World} {b c : Nat} {v : Value} {k x : Int} (h : RisE w b c v k x X) (hb : Below X.heap.size X X') : RisE w b c v k x X' := ⟨h.1.later hb, h.2.1.later hb, h.2.2.trans (hb.mono h.2.2.size)⟩
theorem RisE.drew {w X : World} {b c : Nat} {v : Value} {k x : Int} (h : RisE w b c v k x X) : RisE w b c v k x X.drew := ⟨h.1, h.2.1, h.2.2.drew⟩
/-- Where a pair of that key stands. -/
def atKey (L : Prs) (k : Int) : Prop := aheadN L k < L.length ∧ (L.getD (aheadN L k) (0, 0)).1 = k
def PlaceIs (w : World) (L : Prs) (k : Int) (e : Ending) (w' : World) : Prop := ∃ r : Bool, e = .returned (.tuple #[.int .i64 (aheadN L k), .bool r]) ∧ (r = true ↔ atKey L k) ∧ Below w.heap.size w w'
set_option maxRecDepth 100000 in
set_option maxHeartbeats 2000000 in
theorem place_any (L : Prs) (b B : Nat) (v : Value) (k x : Int) (w : World) (hb : Blk2 w b v (.func (.func 37) #[] #[])) (ho : Own w B 65 2 L.length (rowL L) v) (hr : Rises L) (hn : L.length ≤ 1000) :
    Calls Try.prog 64 #[.pointer (some ⟨b, 0, none⟩), .agg #[.int .i64 k, .int .i64 x]] w (PlaceIs w L k) := by
  obtain ⟨ao, cp, rfl⟩ := ho.form
  have HO : Hid (Own w B 65 2 L.length (rowL L) (.slice ao L.length cp) ∧ Rises L) := ⟨ho, hr⟩
  have HE : RisE w b w.heap.size (.slice ao L.length cp) k x ((w.alloc (.cells #[.int .i64 k, .int .i64 x] 65)).drew) := RisE.drew ⟨hb.alloc _, Blk2.new w _ _ _, below_alloc _ _⟩
  clear ho hr hb
  go_enter Try.func64, Try.ntmps64
  go_upto_region 1 with fail
  refine wp_region_held_drew (S := RisE w b w.heap.size (.slice ao L.length cp) k x) (by kernel_rfl) HE (fun hS => ?_)
  clear HE
  refine tkH 0 ?_ hS (fun wx hx => ?_) ?_; rotate_left
  · obtain ⟨⟨⟨hx0, hx1⟩, hx4, hx5⟩, ⟨⟨hx2, hx3⟩, hx6, hx7⟩, _⟩ := hx; go_simp; try with_reducible rfl
  refine tkH 1 ?_ hS (fun wx hx => ?_) ?_; rotate_left
  · obtain ⟨⟨⟨hx0, hx1⟩, hx4, hx5⟩, ⟨⟨hx2, hx3⟩, hx6, hx7⟩, _⟩ := hx; go_simp; try with_reducible rfl
  refine tkH 2 ?_ hS (fun wx hx => ?_) ?_; rotate_left
  · obtain ⟨⟨⟨hx0, hx1⟩, hx4, hx5⟩, ⟨⟨hx2, hx3⟩, hx6, hx7⟩, _⟩ := hx; go_simp; try with_reducible rfl
  refine tkH 3 ?_ hS (fun wx hx => ?_) ?_; rotate_left
  · obtain ⟨⟨⟨hx0, hx1⟩, hx4, hx5⟩, ⟨⟨hx2, hx3⟩, hx6, hx7⟩, _⟩ := hx; go_simp; try with_reducible rfl
  refine tkH 4 ?_ hS (fun wx hx => ?_) ?_; rotate_left
  · obtain ⟨⟨⟨hx0, hx1⟩, hx4, hx5⟩, ⟨⟨hx2, hx3⟩, hx6, hx7⟩, _⟩ := hx; go_simp; try with_reducible rfl
  refine tkH 5 ?_ hS (fun wx hx => ?_) ?_; rotate_left
  · obtain ⟨⟨⟨hx0, hx1⟩, hx4, hx5⟩, ⟨⟨hx2, hx3⟩, hx6, hx7⟩, _⟩ := hx; go_simp; try with_reducible rfl
  refine tkH 6 ?_ hS (fun wx hx => ?_) ?_; rotate_left
  · obtain ⟨⟨⟨hx0, hx1⟩, hx4, hx5⟩, ⟨⟨hx2, hx3⟩, hx6, hx7⟩, _⟩ := hx; go_simp; try with_reducible rfl
  refine tkH 7 ?_ hS (fun wx hx => ?_) ?_; rotate_left
  · obtain ⟨⟨⟨hx0, hx1⟩, hx4, hx5⟩, ⟨⟨hx2, hx3⟩, hx6, hx7⟩, _⟩ := hx; go_simp; try with_reducible rfl
  refine tkH 8 ?_ hS (fun wx hx => ?_) ?_; rotate_left
  · obtain ⟨⟨⟨hx0, hx1⟩, hx4, hx5⟩, ⟨⟨hx2, hx3⟩, hx6, hx7⟩, _⟩ := hx; go_simp; try with_reducible rfl
  refine rdH 9 (fun K hK => ?_)
  go_simp
  go_wp2_with fail
  refine (searchP_any _ _ _ _ B k x _ (HO.out.1.later hS.2.2).row.1 hn (fun i j h1 h2 h3 => rises_mono HO.out.2 i j h1 h2 h3)).mono ?_
  rintro e w1 ⟨i, r, rfl, hp, hr, q1⟩
  obtain rfl := place_is hp
  simp only [rowL_key] at hr
  have HR : Hid (r = true ↔ atKey L k) := hr
  have HB : Hid (Below w.heap.size w w1) := hS.2.2.trans (q1.mono hS.2.2.size)
  have hS1 := hS.later q1
  clear hp hr q1 hS HO
  go_wp2_with fail
  refine hK.out _ _ hS1 (fun hS => ?_)
  clear hK K hS1
  refine tkH 10 ?_ hS (fun wx hx => ?_) ?_; rotate_left
  · obtain ⟨⟨⟨hx0, hx1⟩, hx4, hx5⟩, ⟨⟨hx2, hx3⟩, hx6, hx7⟩, _⟩ := hx; go_simp; try with_reducible rfl
  refine tkH 11 ?_ hS (fun wx hx => ?_) ?_; rotate_left
  · obtain ⟨⟨⟨hx0, hx1⟩, hx4, hx5⟩, ⟨⟨hx2, hx3⟩, hx6, hx7⟩, _⟩ := hx; go_simp; try with_reducible rfl
  refine tkH 12 ?_ hS (fun wx hx => ?_) ?_; rotate_left
  · obtain ⟨⟨⟨hx0, hx1⟩, hx4, hx5⟩, ⟨⟨hx2, hx3⟩, hx6, hx7⟩, _⟩ := hx; go_simp; try with_reducible rfl
  refine tkH 13 ?_ hS (fun wx hx => ?_) ?_; rotate_left
  · obtain ⟨⟨⟨hx0, hx1⟩, hx4, hx5⟩, ⟨⟨hx2, hx3⟩, hx6, hx7⟩, _⟩ := hx; go_simp; try with_reducible rfl
  refine wpAnyH_done (by kernel_rfl) ?_ _
  go_simp
  go_wp2
  go_ret2
  exact ⟨r, rfl, HR.out, HB.out⟩
set_option maxRecDepth 100000 in
set_option maxHeartbeats 2000000 in
theorem find_any (L : Prs) (b B : Nat) (v : Value) (k x : Int) (w : World) (hb : Blk2 w b v (.func (.func 37) #[] #[])) (ho : Own w B 65 2 L.length (rowL L) v) (hr : Rises L) (hn : L.length ≤ 1000) :
    Calls Try.prog 45 #[.pointer (some ⟨b, 0, none⟩), .agg #[.int .i64 k, .int .i64 x]] w fun e w' => ∃ (r : Bool) (y z : Int), e = .returned (.tuple #[.agg #[.int .i64 y, .int .i64 z], .bool r]) ∧ (r = true ↔ atKey L k) ∧ (r = true → (y, z) = L.getD (aheadN L k) (0, 0)) ∧ (r = false → y = 0 ∧ z = 0) ∧ Below w.heap.size w w' := by
  obtain ⟨ao, cp, rfl⟩ := ho.form
  have HO : Hid (Own w B 65 2 L.length (rowL L) (.slice ao L.length cp) ∧ Rises L ∧ Blk2 w b (.slice ao L.length cp) (.func (.func 37) #[] #[])) := ⟨ho, hr, hb⟩
  clear ho hr hb
  go_enter Try.func45, Try.ntmps45
  go_wp2_with fail
  refine (place_any L b B _ k x _ ((HO.out.2.2.alloc _).alloc _) ((HO.out.1.alloc _).alloc _) HO.out.2.1 hn).mono ?_
  rintro e w1 ⟨r, rfl, hr, q1⟩
  have HR : Hid (r = true ↔ atKey L k) := hr
  have hz := Blk2.later (Blk2.new (w.alloc (.cells #[.int .i64 k, .int .i64 x] 65)) (.int .i64 0) (.int .i64 0) 65) q1
  rw [World.size_alloc] at hz
  have HZ : Hid (Blk2 w1 (w.heap.size + 1) (.int .i64 0) (.int .i64 0)) := hz
  have HB : Hid (Below w.heap.size w w1) := ((below_alloc w _).alloc (by simp) _).trans (q1.mono (by simp; omega))
  clear q1 hr hz
  cases r with
  | false =>
    obtain ⟨⟨z0, z1⟩, z2, z3⟩ := HZ.out
    go_wp2
    refine bodyPost_ret (v := .tuple #[.agg #[.int .i64 0, .int .i64 0], .bool false]) (by simp [results, Try.results45, go_sem, z0, z1]) rfl ⟨false, 0, 0, rfl, HR.out, fun q => (Bool.false_ne_true q).elim, fun _ => ⟨rfl, rfl⟩, ?_⟩
    exact ((HB.out.setCell (by simp) _).setCell (by simp) _)
  | true =>
    have hat := HR.out.1 rfl
    obtain ⟨g, o, hao, _, hg, y0, y1⟩ := (HO.out.1.later HB.out).row.1.at2 hat.1
    subst hao
    obtain ⟨hb0, hb1⟩ := (HO.out.2.2.later HB.out).1
    obtain ⟨y, Y⟩ : ∃ y, rowL L (aheadN L k * 2) = y := ⟨_, rfl⟩
    obtain ⟨z, Z⟩ : ∃ y, rowL L (aheadN L k * 2 + 1) = y := ⟨_, rfl⟩
    rw [Y] at y0
    rw [Z] at y1
    have HY : Hid ((y, z) = L.getD (aheadN L k) (0, 0)) := by
      unfold Hid
      rw [← Y, ← Z, rowL_key, rowL_val]
    have hlt := hat.1
    have ha : aheadN L k ≤ 1000 := Nat.le_trans (aheadN_le L k) hn
    obtain ⟨⟨z0, z1⟩, z2, z3⟩ := HZ.out
    have HT : Hid (atKey L k) := hat
    clear Y Z hat HR
    obtain ⟨A, hA⟩ : ∃ A, aheadN L k = A := ⟨_, rfl⟩
    rw [hA] at y0 y1 hlt ha
    rw [hA]
    have HAA : Hid (aheadN L k = A) := hA
    have HP := (Blk2.put HZ.out (.int .i64 y) (.int .i64 z)).1
    have q0 : (w1.setCell ⟨w.heap.size + 1, 0, none⟩ (.int .i64 y)).cell? ⟨w.heap.size + 1, 0, none⟩ = some (.int .i64 y) := World.cell?_setCell_same _ _ _ (u := .int .i64 0) z0
    have q1 := HP.2
    have HH : Hid (_ ∧ _) := ⟨q0, q1⟩
    clear hA q0 q1 HP
    go_wp2
    refine bodyPost_ret (v := .tuple #[.agg #[.int .i64 y, .int .i64 z], .bool true]) (by simp [results, Try.results45, go_sem, HH.out.1, HH.out.2]) rfl ⟨true, y, z, rfl, ⟨fun _ => HT.out, fun _ => rfl⟩, fun _ => HY.out, fun q => (Bool.false_ne_true q.symm).elim, ?_⟩
    exact ((HB.out.setCell (by simp) _).setCell (by simp) _)
theorem Blk2.set0P {x : World} {b : Nat} {a0 a1 : Value} (h : Blk2 x b a0 a1) (u : Value) : Blk2 (x.setCell ⟨b, 0, none⟩ u) b u a1 := by
  obtain ⟨⟨h0, h1⟩, f0, f1⟩ := h
  exact ⟨⟨World.cell?_setCell_same _ _ _ h0, (World.cell?_setCell_other _ _ _ _ (by simp)).trans h1⟩, by simpa using f0, by simpa using f1⟩
theorem own_grown {w w' : World} {b B : Nat} {v a0 a1 : Value} {n : Nat} {F : Nat → Int} (hb : Blk2 w b a0 a1) (ho : Own w B 65 2 n F v) (hB : b < B) (hg : w.grownBy w' v.ownBlock) : Blk2 w' b a0 a1 :=
  hb.kept (hg.block b hb.lt (fun e => by have := (own_in ho b e.symm).1; omega))
/-- What turned lies in the list's own blocks. -/
theorem grown_below {w w' : World} {B D : Nat} {v : Value} {n : Nat} {F : Nat → Int} (ho : Own w B 65 2 n F v) (hD : D ≤ B) (hDw : D ≤ w.heap.size) (hg : w.grownBy w' v.ownBlock) : Below D w w' :=
  ⟨hg.os, hg.tape, hg.output, hg.size, fun i hi => hg.block i (by omega) (fun e => by have := (own_in ho i e.symm).1; omega)⟩
/-- The list stands in its box: its own memory is behind the box. -/
def Ris (w : World) (b : Nat) (L : Prs) : Prop := ∃ v, Blk2 w b v (.func (.func 37) #[] #[]) ∧ Own w (b + 1) 65 2 L.length (rowL L) v
theorem Ris.later {w w' : World} {b : Nat} {L : Prs} (h : Ris w b L) (hb : Below w.heap.size w w') : Ris w' b L := by
  obtain ⟨v, h1, h2⟩ := h
  exact ⟨v, h1.later hb, h2.later hb⟩
theorem Ris.lt {w : World} {b : Nat} {L : Prs} (h : Ris w b L) : b < w.heap.size := by
  obtain ⟨v, h1, _⟩ := h
  exact h1.lt
theorem stored_is {w : World} {b : Nat} {v v' : Value} {L : Prs} (hb : Blk2 w b v (.func (.func 37) #[] #[])) (ho : Own w (b + 1) 65 2 L.length (rowL L) v') : Blk2 (w.setCell ⟨b, 0, none⟩ v') b v' (.func (.func 37) #[] #[]) ∧ Own (w.setCell ⟨b, 0, none⟩ v') (b + 1) 65 2 L.length (rowL L) v' :=
  ⟨Blk2.set0P hb _, own_kept ho (fun j hj => Below.heap_setCell w ⟨b, 0, none⟩ _ j (fun e => by have := (own_in ho j hj).1; simp at e; omega))⟩
/-- All blocks but two are as they were. -/
def KeptBut (b : Nat) (v : Value) (w w' : World) : Prop := w.heap.size ≤ w'.heap.size ∧ ∀ i, i < w.heap.size → i ≠ b → v.ownBlock ≠ some i → w'.heap[i]? = w.heap[i]?
theorem KeptBut.below {b : Nat} {v : Value} {w w' : World} (h : Below w.heap.size w w') : KeptBut b v w w' := ⟨h.size, fun i hi _ _ => h.block i hi⟩
theorem KeptBut.grown {b : Nat} {v : Value} {w w' : World} (h : w.grownBy w' v.ownBlock) : KeptBut b v w w' := ⟨h.size, fun i hi _ hv => h.block i hi (fun e => hv e.symm)⟩
theorem KeptBut.trans {b : Nat} {v : Value} {w w' w'' : World} (h : KeptBut b v w w') (_ : w.heap.size ≤ w'.heap.size) (h' : KeptBut b v w' w'') : KeptBut b v w w'' := ⟨Nat.le_trans h.1 h'.1, fun i hi h1 h2 => (h'.2 i (Nat.lt_of_lt_of_le hi h.1) h1 h2).trans (h.2 i hi h1 h2)⟩
theorem KeptBut.trans' {b : Nat} {v : Value} {w w' w'' : World} (h : KeptBut b v w w') (h' : KeptBut b v w' w'') : KeptBut b v w w'' := h.trans h.1 h'
theorem KeptBut.set {b k : Nat} {v u : Value} (w : World) : KeptBut b v w (w.setCell ⟨b, k, none⟩ u) := ⟨by simp, fun i _ h _ => Below.heap_setCell w ⟨b, k, none⟩ u i h⟩
set_option maxRecDepth 100000 in
set_option maxHeartbeats 2000000 in
theorem drop_any (L : Prs) (b : Nat) (v : Value) (k x : Int) (w : World) (hb : Blk2 w b v (.func (.func 37) #[] #[])) (ho : Own w (b + 1) 65 2 L.length (rowL L) v) (hr : Rises L) (hn : L.length ≤ 1000) :
    Calls Try.prog 61 #[.pointer (some ⟨b, 0, none⟩), .agg #[.int .i64 k, .int .i64 x]] w fun e w' => e = .returned (.tuple #[]) ∧ (∃ v', (Blk2 w' b v' (.func (.func 37) #[] #[]) ∧ Own w' (b + 1) 65 2 (gonePr L k).length (rowL (gonePr L k)) v') ∧ v'.ownBlock = v.ownBlock) ∧ Below b w w' ∧ KeptBut b v w w' := by
  obtain ⟨ao, cp, rfl⟩ := ho.form
  have HO : Hid (Own w (b + 1) 65 2 L.length (rowL L) (.slice ao L.length cp) ∧ Rises L ∧ Blk2 w b (.slice ao L.length cp) (.func (.func 37) #[] #[])) := ⟨ho, hr, hb⟩
  clear ho hr hb
  go_enter Try.func61, Try.ntmps61
  go_wp2_with fail
  refine (place_any L b (b + 1) _ k x _ (HO.out.2.2.alloc _) (HO.out.1.alloc _) HO.out.2.1 hn).mono ?_
  rintro e w1 ⟨r, rfl, hr, q1⟩
  have HR : Hid (r = true ↔ atKey L k) := hr
  have HB : Hid (Below w.heap.size w w1) := (below_alloc w _).trans (q1.mono (by simp))
  have hbw : Hid (b < w.heap.size) := HO.out.2.2.lt
  clear q1 hr
  by_cases hat : atKey L k
  · obtain rfl : r = true := HR.out.2 hat
    have HT : Hid (atKey L k) := hat
    have HE : Hid (gonePr L k = L.eraseIdx (aheadN L k)) := by
      unfold Hid
      rw [gone_is HO.out.2.1]; exact if_pos hat
    have O1 : Hid (Own w1 (b + 1) 65 2 L.length (rowL L) (.slice ao L.length cp) ∧ Blk2 w1 b (.slice ao L.length cp) (.func (.func 37) #[] #[])) := ⟨HO.out.1.later HB.out, HO.out.2.2.later HB.out⟩
    obtain ⟨⟨hb0, hb1⟩, _, _⟩ := O1.out.2
    have hlt := hat.1
    have ha : aheadN L k ≤ 1000 := Nat.le_trans (aheadN_le L k) hn
    obtain ⟨A, hA⟩ : ∃ A, aheadN L k = A := ⟨_, rfl⟩
    have HAA : Hid (aheadN L k = A) := hA
    rw [hA] at hlt ha
    rw [hA]
    clear hA HR hat
    go_wp2_with fail
    refine (delP_any _ (b + 1) L.length A (rowL L) _ O1.out.1 (by omega) hlt).mono ?_
    rintro e w2 ⟨v2, rfl, ho2, hg2, hob2⟩
    obtain ⟨e2, f2, rfl⟩ := ho2.form
    have HB2 : Hid (Blk2 w2 b (.slice ao L.length cp) (.func (.func 37) #[] #[])) := own_grown O1.out.2 O1.out.1 (by omega) hg2
    have HO2 : Hid (Own w2 (b + 1) 65 2 (gonePr L k).length (rowL (gonePr L k)) (.slice e2 (L.length - 1) f2)) := by
      unfold Hid
      rw [HE.out, HAA.out, List.length_eraseIdx_of_lt hlt]
      exact own_eqP ho2 (fun p _ => rowL_erase)
    have HD : Hid (Below b w w2) := (HB.out.mono (Nat.le_of_lt hbw.out)).trans (grown_below O1.out.1 (by omega) (by have := HB.out.size; have := hbw.out; omega) hg2)
    obtain ⟨⟨c0, c1⟩, c2, c3⟩ := HB2.out
    have HK : Hid (KeptBut b (.slice ao L.length cp) w w2) := (KeptBut.below HB.out).trans HB.out.size (KeptBut.grown hg2)
    have HOB : Hid ((Value.slice e2 (L.length - 1) f2).ownBlock = (Value.slice ao L.length cp).ownBlock) := hob2
    clear ho2 hg2 hob2
    go_wp2
    go_end0
    exact ⟨rfl, ⟨_, stored_is HB2.out HO2.out, HOB.out⟩, HD.out.setCell (Nat.le_refl _) _, HK.out.trans' (KeptBut.set _)⟩
  · obtain rfl : r = false := Bool.eq_false_iff.2 (fun q => hat (HR.out.1 q))
    have HE : Hid (gonePr L k = L) := by
      unfold Hid
      rw [gone_is HO.out.2.1]; exact if_neg hat
    clear hat HR
    go_wp2
    go_end0
    rw [HE.out]
    exact ⟨rfl, ⟨_, ⟨HO.out.2.2.later HB.out, HO.out.1.later HB.out⟩, rfl⟩, HB.out.mono (Nat.le_of_lt hbw.out), KeptBut.below HB.out⟩
end Go.Proofs.Ytdbcmckoiacemaa

namespace Go.Proofs.Ytdbcmckoiacemaa
open Go.RowKit

set_option maxRecDepth 100000 in
set_option maxHeartbeats 2000000 in
theorem put_any (L : Prs) (b : Nat) (k x : Int) (w : World) (h : Ris w b L) (hr : Rises L) (hn : L.length ≤ 900) :
    Calls Try.prog 59 #[.pointer (some ⟨b, 0, none⟩), .agg #[.int .i64 k, .int .i64 x]] w fun e w' => e = .returned (.tuple #[]) ∧ Ris w' b (putPr L k x) ∧ Below b w w' := by
  obtain ⟨v, hb, ho⟩ := h
  have HO : Hid (Blk2 w b v (.func (.func 37) #[] #[]) ∧ Own w (b + 1) 65 2 L.length (rowL L) v ∧ Rises L) := ⟨hb, ho, hr⟩
  have hbw : b < w.heap.size := hb.lt
  obtain ⟨G, hG⟩ : ∃ G, gonePr L k = G := ⟨_, rfl⟩
  have hGn : G.length ≤ 900 := by rw [← hG]; exact Nat.le_trans (List.length_filter_le _ _) hn
  have HGR : Hid (Rises G ∧ putPr L k x = G.insertIdx (aheadN G k) (k, x)) := by
    unfold Hid
    rw [← hG]
    exact ⟨gonePr_rises hr k, put_is hr k x⟩
  have HG : Hid (gonePr L k = G) := hG
  clear hb ho hr hG
  go_enter Try.func59, Try.ntmps59
  go_wp2_with fail
  refine (drop_any L b v k x _ (HO.out.1.alloc _) (HO.out.2.1.alloc _) HO.out.2.2 (by omega)).mono ?_
  rintro e w1 ⟨rfl, h1, q1, hk1⟩
  rw [HG.out] at h1
  obtain ⟨v1, ⟨hb1, ho1⟩, hv1⟩ := h1
  obtain ⟨ao, cp, rfl⟩ := ho1.form
  have HX1 : Blk2 w1 w.heap.size (.int .i64 k) (.int .i64 x) := (Blk2.new w _ _ 65).kept (hk1.2 _ (by simp) (by omega) (fun e => by have := (own_in HO.out.2.1 _ e).2; omega))
  have R1 : Hid (Blk2 w1 b (.slice ao G.length cp) (.func (.func 37) #[] #[]) ∧ Own w1 (b + 1) 65 2 G.length (rowL G) (.slice ao G.length cp) ∧ Blk2 w1 w.heap.size (.int .i64 k) (.int .i64 x) ∧ Below b w w1) := ⟨hb1, ho1, HX1, ((below_alloc w _).mono (Nat.le_of_lt hbw)).trans q1⟩
  obtain ⟨⟨c0, c1⟩, _, _⟩ := HX1
  have HVB : Hid (∀ q, (Value.slice ao G.length cp).ownBlock = some q → q < w.heap.size) := fun q hq => (own_in HO.out.2.1 q (hv1 ▸ hq)).2
  clear hv1 hb1 ho1 q1 hk1 HO
  go_wp2_with fail
  refine (place_any G b (b + 1) _ k x _ R1.out.1 R1.out.2.1 HGR.out.1 (by omega)).mono ?_
  rintro e w2 ⟨r, rfl, _, q2⟩
  have R2 : Hid (Blk2 w2 b (.slice ao G.length cp) (.func (.func 37) #[] #[]) ∧ Own w2 (b + 1) 65 2 G.length (rowL G) (.slice ao G.length cp) ∧ Blk2 w2 w.heap.size (.int .i64 k) (.int .i64 x) ∧ Below b w w2) := ⟨R1.out.1.later q2, R1.out.2.1.later q2, R1.out.2.2.1.later q2, R1.out.2.2.2.trans (q2.mono (by have := R1.out.2.2.2.size; omega))⟩
  have hle : aheadN G k ≤ G.length := aheadN_le G k
  obtain ⟨A, hA⟩ : ∃ A, aheadN G k = A := ⟨_, rfl⟩
  have HAA : Hid (putPr L k x = G.insertIdx A (k, x)) := by unfold Hid; rw [← hA]; exact HGR.out.2
  rw [hA] at hle
  rw [hA]
  clear hA q2 R1 c0 c1
  have hw2 : b < w2.heap.size := R2.out.1.lt
  have hc2 : w.heap.size < w2.heap.size := R2.out.2.2.1.lt
  have HI : Hid (Calls Try.prog 65 #[.slice ao G.length cp, .int .i64 A, .slice (some ⟨w2.heap.size, 0, none⟩) 1 1] (w2.drew.alloc (.cells #[.int .i64 k, .int .i64 x] 65)) (InsP (w2.drew.alloc (.cells #[.int .i64 k, .int .i64 x] 65)) (b + 1) G.length A (rowL G) [k, x] (.slice ao G.length cp))) :=
    insP_any _ (b + 1) G.length A w2.heap.size 1 (rowL G) [k, x] _ rfl (R2.out.2.1.later ((Below.drew (Below.refl _ _)).trans ((below_alloc _ _).mono (Nat.le_refl _)))) (by simp; omega) (by omega) hle (fun e => by have := (own_in R2.out.2.1 _ e).2; omega) (Blkk.made w2.drew _ _ _ rfl) (fun p hp => by
      rw [World.cell?_alloc_at (w := w2.drew) _ _ w2.heap.size p rfl]
      obtain rfl | rfl : p = 0 ∨ p = 1 := by omega
      all_goals rfl)
  have HYB : Hid (Below w2.heap.size w2 (w2.drew.alloc (.cells #[.int .i64 k, .int .i64 x] 65))) := (Below.drew (Below.refl _ _)).trans ((below_alloc _ _).mono (Nat.le_refl _))
  have SY : Hid (Blk2 (w2.drew.alloc (.cells #[.int .i64 k, .int .i64 x] 65)) b (.slice ao G.length cp) (.func (.func 37) #[] #[]) ∧ Blk2 (w2.drew.alloc (.cells #[.int .i64 k, .int .i64 x] 65)) w.heap.size (.int .i64 k) (.int .i64 x)) := ⟨R2.out.1.later HYB.out, R2.out.2.2.1.later HYB.out⟩
  have HOY : Hid (Own (w2.drew.alloc (.cells #[.int .i64 k, .int .i64 x] 65)) (b + 1) 65 2 G.length (rowL G) (.slice ao G.length cp) ∧ Below b w (w2.drew.alloc (.cells #[.int .i64 k, .int .i64 x] 65))) := ⟨R2.out.2.1.later HYB.out, R2.out.2.2.2.trans (HYB.out.mono (by omega))⟩
  obtain ⟨⟨p0, p1⟩, _, _⟩ := R2.out.1
  have hS0 : (fun X : World => Blk2 X w.heap.size (.int .i64 k) (.int .i64 x)) w2.drew := R2.out.2.2.1
  clear R2
  go_upto_region 3 with fail
  refine wp_region_held_drew (S := (fun X : World => Blk2 X w.heap.size (.int .i64 k) (.int .i64 x))) (by kernel_rfl) hS0 (fun hS => ?_)
  clear hS0
  refine tkH 0 ?_ hS (fun wx hx => ?_) ?_; rotate_left
  · obtain ⟨⟨hx2, hx3⟩, hx6, hx7⟩ := hx; go_simp; try with_reducible rfl
  refine tkH 1 ?_ hS (fun wx hx => ?_) ?_; rotate_left
  · obtain ⟨⟨hx2, hx3⟩, hx6, hx7⟩ := hx; go_simp; try with_reducible rfl
  refine tkH 2 ?_ hS (fun wx hx => ?_) ?_; rotate_left
  · obtain ⟨⟨hx2, hx3⟩, hx6, hx7⟩ := hx; go_simp; try with_reducible rfl
  refine tkH 3 ?_ hS (fun wx hx => ?_) ?_; rotate_left
  · obtain ⟨⟨hx2, hx3⟩, hx6, hx7⟩ := hx; go_simp; try with_reducible rfl
  refine tkH 5 ?_ hS (fun wx hx => ?_) ?_; rotate_left
  · obtain ⟨⟨hx2, hx3⟩, hx6, hx7⟩ := hx; go_simp; try with_reducible rfl
  refine tkH 6 ?_ hS (fun wx hx => ?_) ?_; rotate_left
  · obtain ⟨⟨hx2, hx3⟩, hx6, hx7⟩ := hx; go_simp; try with_reducible rfl
  refine wpAnyH_ready (rs := [4, 7]) (by kernel_rfl) (by simp) ?_
  refine AllReadyH.cons rfl (fun K hK => ?_) (AllReadyH.cons rfl (fun K hK => ?_) AllReadyH.nil)
  focus
    go_simp
    refine hK.out _ _ hS (fun hS => ?_)
    clear hK K p0 p1
    refine rdH 7 (fun K hK => ?_)
    go_simp
    refine hK.out _ _ SY.out.2 (fun hS => ?_)
    clear hK K
  rotate_left
  focus
    go_simp
    refine hK.out _ _ SY.out.2 (fun hS => ?_)
    clear hK K
    refine rdH 4 (fun K hK => ?_)
    go_simp
    refine hK.out _ _ hS (fun hS => ?_)
    clear hK K p0 p1
  rotate_left
  all_goals
    refine rdH 8 (fun K hK => ?_)
    go_simp
    go_wp2_with fail
    refine HI.out.mono ?_
    rintro e w3 ⟨a3, c3, rfl, ho3, hg3, _⟩
    have HB3 : Hid (Blk2 w3 b (.slice ao G.length cp) (.func (.func 37) #[] #[])) := own_grown SY.out.1 HOY.out.1 (by omega) hg3
    have hS3 : Blk2 w3 w.heap.size (.int .i64 k) (.int .i64 x) := SY.out.2.kept (hg3.block _ (by simp; omega) (fun e => by have := HVB.out _ e.symm; omega))
    have HO3 : Hid (Own w3 (b + 1) 65 2 (putPr L k x).length (rowL (putPr L k x)) (.slice a3 (G.length + 1) c3)) := by
      unfold Hid
      rw [HAA.out, List.length_insertIdx_of_le_length hle]
      exact own_eqP ho3 (fun p hp => rowL_insert hle hp)
    have HD3 : Hid (Below b w w3) := HOY.out.2.trans (grown_below HOY.out.1 (by omega) (by simp; omega) hg3)
    clear ho3 hg3
    go_wp2_with fail
    refine hK.out _ _ hS3 (fun hS => ?_)
    clear hK K hS3
    refine tkH 9 ?_ hS (fun wx hx => ?_) ?_; rotate_left
    · obtain ⟨⟨hx2, hx3⟩, hx6, hx7⟩ := hx; go_simp; try with_reducible rfl
    refine tkH 10 ?_ hS (fun wx hx => ?_) ?_; rotate_left
    · obtain ⟨⟨hx2, hx3⟩, hx6, hx7⟩ := hx; go_simp; try with_reducible rfl
    refine rdH 11 (fun K hK => ?_)
    obtain ⟨⟨x0, x1⟩, x2, x3⟩ := HB3.out
    go_simp
    refine hK.out _ _ (hS.kept (Below.heap_setCell _ ⟨b, 0, none⟩ _ _ (by simp; omega))) (fun hS => ?_)
    clear hK K x0 x1 x2 x3
    refine wpAnyH_done (by kernel_rfl) ?_ _
    go_simp
    go_end0
    exact ⟨rfl, ⟨_, stored_is HB3.out HO3.out⟩, HD3.out.setCell (Nat.le_refl _) _⟩
theorem take_put {L : Prs} (h : Rises L) {k : Nat} (hk : k < L.length) : putPr (L.take k) (L.getD k (0, 0)).1 (L.getD k (0, 0)).2 = L.take (k + 1) := by
  have hg : L.getD k (0, 0) = L[k] := by simp [List.getD, hk]
  rw [hg, putPr_end, List.take_succ_eq_append_getElem hk]
  intro a ha
  obtain ⟨i, hi, rfl⟩ := List.getElem_of_mem ha
  rw [List.getElem_take]
  have hi' : i < k := by
    rw [List.length_take] at hi; omega
  exact List.pairwise_iff_getElem.1 h i k (by omega) hk hi'
theorem rises_take {L : Prs} (h : Rises L) (k : Nat) : Rises (L.take k) := List.Pairwise.sublist (List.take_sublist k L) h
theorem Ris.new (w : World) : Ris (w.alloc (.cells #[.slice none 0 0, (.func (.func 37) #[] #[])] 69)) w.heap.size [] := ⟨_, Blk2.new w _ _ _, Own.nil _ _ _ _ _⟩
set_option maxRecDepth 100000 in
set_option maxHeartbeats 2000000 in
theorem filled_any (L : Prs) (v : Value) (B : Nat) (w : World) (h : Row w B 2 L.length (rowL L) v) (hr : Rises L) (hn : L.length ≤ 800) :
    Calls Try.prog 36 #[(.func (.func 37) #[] #[]), v] w fun e w' => ∃ b, e = .returned (.pointer (some ⟨b, 0, none⟩)) ∧ w.heap.size ≤ b ∧ Ris w' b L ∧ Below w.heap.size w w' := by
  obtain ⟨ao, cp, rfl⟩ := h.form
  have H : Hid (Row w B 2 L.length (rowL L) (.slice ao L.length cp) ∧ Rises L) := ⟨h, hr⟩
  clear h hr
  go_enter Try.func36, Try.ntmps36
  go_wp2
  go_loopw [13] (fun i wr => ∃ k : Nat, k ≤ L.length ∧ i = .int .i64 k ∧ Hid (Ris wr w.heap.size (L.take k) ∧ Below w.heap.size w wr)) (fun i _ => L.length - (intOf i).toNat)
  case atStart => exact ⟨0, Nat.zero_le _, rfl, Ris.new w, below_alloc _ _⟩
  case round =>
    obtain ⟨k, hk, rfl, HS⟩ := hrel
    by_cases hlt : k < L.length
    case neg =>
      obtain rfl : k = L.length := by omega
      have HE : Hid (Ris wr w.heap.size L ∧ Below w.heap.size w wr) := by
        have := HS.out
        rwa [List.take_length] at this
      clear HS
      go_wp2
      go_ret
      exact ⟨_, rfl, Nat.le_refl _, HE.out.1, HE.out.2⟩
    obtain ⟨g, o, hao, _, hg, y0, y1⟩ := (H.out.1.later HS.out.2).at2 hlt
    subst hao
    obtain ⟨n0, N0⟩ : ∃ x, rowL L (k * 2) = x := ⟨_, rfl⟩
    rw [N0] at y0
    obtain ⟨n1, N1⟩ : ∃ x, rowL L (k * 2 + 1) = x := ⟨_, rfl⟩
    rw [N1] at y1
    have HP : Hid (putPr (L.take k) n0 n1 = L.take (k + 1)) := by
      unfold Hid
      rw [← N0, ← N1, rowL_key, rowL_val]
      exact take_put H.out.2 hlt
    clear N0 N1
    have hz : Hid (w.heap.size < wr.heap.size) := HS.out.1.lt
    go_wp2_with fail
    refine (put_any (L.take k) w.heap.size n0 n1 _ (HS.out.1.later ?_) (rises_take H.out.2 k) (by rw [List.length_take]; omega)).mono ?_
    · exact below_alloc _ _
    rintro e w1 ⟨rfl, h1, q1⟩
    rw [HP.out] at h1
    have H1 : Hid (Ris w1 w.heap.size (L.take (k + 1)) ∧ Below w.heap.size w w1) := ⟨h1, HS.out.2.trans (((below_alloc wr _).mono (Nat.le_of_lt hz.out)).trans q1)⟩
    clear h1 q1 HS y0 y1
    go_wp2
    go_roundw
    case rel => exact ⟨k + 1, by omega, by go_num, H1⟩
    case measure => simp [intOf]; omega
end Go.Proofs.Ytdbcmckoiacemaa

namespace Go.Proofs.Ytdbcmckoiacemaa
open Go.RowKit

theorem pairsF_all {F : Nat → Int} : ∀ {m k : Nat}, pairsF F m k = 0 → ∀ j, j < m → pairF F (k + j) = 0
  | 0, _, _, j, hj => absurd hj (Nat.not_lt_zero j)
  | m + 1, k, h, j, hj => by
    rw [pairsF] at h
    by_cases h0 : pairF F k = 0
    · rw [if_neg (fun q => q h0)] at h
      cases j with
      | zero => exact h0
      | succ j =>
        have := pairsF_all h j (by omega)
        rwa [show k + 1 + j = k + (j + 1) by omega] at this
    · rw [if_pos h0] at h
      exact absurd h h0
theorem faultOf_in {k : Int} (h : faultOf k = 0) : 0 ≤ k ∧ k ≤ 199 := by
  rcases Classical.em (k < 0 ∨ 199 < k) with q | q
  · rw [faultOf_range q] at h; omega
  · omega
theorem pairF_zero {F : Nat → Int} {k : Nat} (h : pairF F k = 0) : faultOf (F (k * 2)) = 0 ∧ (0 ≤ F (k * 2 + 1) ∧ F (k * 2 + 1) ≤ 9999) ∧ (0 < k → F ((k - 1) * 2) < F (k * 2)) := by
  unfold pairF at h
  by_cases h1 : faultOf (F (k * 2)) = 0
  · rw [if_neg (fun q => q h1)] at h
    by_cases h2 : 0 ≤ F (k * 2 + 1) ∧ F (k * 2 + 1) ≤ 9999
    · rw [if_neg (fun q => q h2)] at h
      by_cases h3 : 0 < k ∧ F (k * 2) ≤ F ((k - 1) * 2)
      · rw [if_pos h3] at h; omega
      · exact ⟨h1, h2, fun q => by omega⟩
    · rw [if_pos h2] at h; omega
  · rw [if_pos h1] at h; exact absurd h h1
/-- A list without a fault: its keys rise, and it is short. -/
theorem pairs_rise {F : Nat → Int} {n : Nat} (h : pairsF F n 0 = 0) : Rises (listOf F n) ∧ n ≤ 200 := by
  have hall : ∀ j, j < n → pairF F j = 0 := fun j hj => by have := pairsF_all h j hj; rwa [Nat.zero_add] at this
  have hup : ∀ d i, i + d < n → F (i * 2) + d ≤ F ((i + d) * 2) := fun d => by
    induction d with
    | zero => intro i _; simp
    | succ d ih =>
      intro i hi
      have h1 := ih i (by omega)
      have h2 := (pairF_zero (hall (i + (d + 1)) hi)).2.2 (by omega)
      rw [show i + (d + 1) - 1 = i + d by omega] at h2
      omega
  constructor
  · refine List.pairwise_iff_getElem.2 fun i j hi hj hij => ?_
    rw [listOf_length] at hi hj
    simp only [listOf, List.getElem_map, List.getElem_range]
    have := hup (j - i) i (by omega)
    rw [show i + (j - i) = j by omega] at this
    omega
  · rcases Nat.lt_or_ge 200 n with q | q
    · have h1 := hup 200 0 (by omega)
      have h2 := faultOf_in (pairF_zero (hall (0 + 200) (by omega))).1
      have h3 := faultOf_in (pairF_zero (hall 0 (by omega))).1
      simp only [Nat.zero_add, Nat.zero_mul] at h1 h2 h3
      omega
    · exact q
/-- Whether a key has a pair, and its value. -/
def lookF (L : Prs) (k : Int) : Bool × Int := match L.find? (fun e => e.1 == k) with
  | some e => (true, e.2)
  | none => (false, 0)
theorem lookF_at {L : Prs} {k : Int} {i : Nat} (hi : i < L.length) (h : ∀ j, j < i → (L.getD j (0, 0)).1 ≠ k) (h1 : (L.getD i (0, 0)).1 = k) : lookF L k = (true, (L.getD i (0, 0)).2) := by
  unfold lookF
  have hf : L.find? (fun e => e.1 == k) = some (L.getD i (0, 0)) := by
    induction L generalizing i with
    | nil => simp at hi
    | cons e t ih =>
      cases i with
      | zero =>
        have : e.1 = k := by simpa using h1
        simp [this]
      | succ i =>
        have h0 := h 0 (by omega)
        have : ¬ e.1 = k := by simpa using h0
        rw [List.find?_cons_of_neg (by simpa using this), List.getD_cons_succ]
        exact ih (by simpa using hi) (fun j hj => by have := h (j + 1) (by omega); simpa using this) (by simpa using h1)
  rw [hf]
theorem lookF_no {L : Prs} {k : Int} (h : ∀ j, j < L.length → (L.getD j (0, 0)).1 ≠ k) : lookF L k = (false, 0) := by
  unfold lookF
  have hf : L.find? (fun e => e.1 == k) = none := by
    refine List.find?_eq_none.2 fun e he => ?_
    obtain ⟨i, hi, rfl⟩ := List.getElem_of_mem he
    have := h i hi
    simp only [List.getD_eq_getElem?_getD, List.getElem?_eq_getElem hi, Option.getD_some] at this
    simpa using this
  rw [hf]
theorem look_at {L : Prs} {k : Int} (h : atKey L k) : lookF L k = (true, (L.getD (aheadN L k) (0, 0)).2) := lookF_at h.1 (fun j hj => by have := aheadN_lt hj; omega) h.2
theorem look_no {L : Prs} (hr : Rises L) {k : Int} (h : ¬ atKey L k) : lookF L k = (false, 0) := by
  refine lookF_no fun j hj => ?_
  rcases Nat.lt_or_ge j (aheadN L k) with q | q
  · have := aheadN_lt q; omega
  · have h1 := aheadN_not (L := L) (k := k) (by omega)
    have h2 : (L.getD (aheadN L k) (0, 0)).1 ≠ k := fun e => h ⟨by omega, e⟩
    rcases Nat.eq_or_lt_of_le q with e | q
    · rw [← e]; exact h2
    · have := List.pairwise_iff_getElem.1 hr (aheadN L k) j (by omega) hj q
      simp only [List.getD_eq_getElem?_getD, List.getElem?_eq_getElem hj, List.getElem?_eq_getElem (show aheadN L k < L.length by omega), Option.getD_some] at h1 h2 ⊢
      omega
set_option maxRecDepth 100000 in
set_option maxHeartbeats 2000000 in
theorem l11Value_any (L : Prs) (v : Value) (B : Nat) (key : Int) (w : World) (h : Row w B 2 L.length (rowL L) v) (hn : L.length ≤ 1048576) :
    Calls Try.prog 53 #[v, .int .i64 key] w fun e w' => e = .returned (.tuple #[.int .i64 (lookF L key).2, .bool (lookF L key).1]) ∧ w' = w := by
  obtain ⟨ao, cp, rfl⟩ := h.form
  have H : Hid (Row w B 2 L.length (rowL L) (.slice ao L.length cp)) := h
  clear h
  obtain ⟨r, hr⟩ : ∃ r, lookF L key = r := ⟨_, rfl⟩
  have HR : Hid (lookF L key = r) := hr
  rw [hr]
  clear hr
  obtain ⟨r1, r2⟩ := r
  go_enter Try.func53, Try.ntmps53
  go_wp2
  go_loopw [6] (fun i wr => ∃ k : Nat, k ≤ L.length ∧ i = .int .i64 k ∧ Hid (∀ j, j < k → (L.getD j (0, 0)).1 ≠ key) ∧ wr = w) (fun i _ => L.length - (intOf i).toNat)
  case atStart => exact ⟨0, Nat.zero_le _, rfl, fun j hj => absurd hj (Nat.not_lt_zero j), rfl⟩
  case round =>
    obtain ⟨k, hk, rfl, HS, rfl⟩ := hrel
    by_cases hlt : k < L.length
    case neg =>
      have HE : Hid (r1 = false ∧ r2 = 0) := by
        have := HR.out.symm.trans (lookF_no fun j hj => HS.out j (by omega))
        exact (by simpa using this : r1 = false ∧ r2 = 0)
      clear HS HR
      go_wp2
      go_ret2
      rw [HE.out.1, HE.out.2]
      exact ⟨rfl, rfl⟩
    obtain ⟨g, o, hao, _, hg, y0, y1⟩ := H.out.at2 hlt
    subst hao
    rw [rowL_key] at y0
    rw [rowL_val] at y1
    obtain ⟨n0, N0⟩ : ∃ x, (L.getD k (0, 0)).1 = x := ⟨_, rfl⟩
    rw [N0] at y0
    obtain ⟨n1, N1⟩ : ∃ x, (L.getD k (0, 0)).2 = x := ⟨_, rfl⟩
    rw [N1] at y1
    have NN : Hid ((L.getD k (0, 0)).1 = n0 ∧ (L.getD k (0, 0)).2 = n1) := ⟨N0, N1⟩
    clear N0 N1
    by_cases he : n0 = key
    · have HE : Hid (r1 = true ∧ r2 = n1) := by
        have := HR.out.symm.trans (lookF_at hlt HS.out (NN.out.1.trans he))
        rw [NN.out.2] at this
        exact (by simpa using this : r1 = true ∧ r2 = n1)
      subst he
      clear HS HR NN
      go_wp2
      go_ret2
      rw [HE.out.1, HE.out.2]
      exact ⟨rfl, rfl⟩
    · have HS1 : Hid (∀ j, j < k + 1 → (L.getD j (0, 0)).1 ≠ key) := fun j hj => by
        rcases Nat.eq_or_lt_of_le (Nat.lt_succ_iff.1 hj) with rfl | q
        · rw [NN.out.1]; exact he
        · exact HS.out j q
      have d : (n0 == key) = false := beq_eq_false_iff_ne.2 he
      clear he HS HR NN
      go_wp2
      go_roundw
      case rel => exact ⟨k + 1, by omega, by go_num, HS1, trivial⟩
      case measure => simp [intOf]; omega
/-- What ValueIn answers. -/
def ValAns (n : Nat) (F : Nat → Int) (key c v : Int) (has : Bool) : Prop :=
  (pairsF F n 0 ≠ 0 ∧ c = pairsF F n 0 ∧ v = 0 ∧ has = false) ∨ (pairsF F n 0 = 0 ∧ faultOf key ≠ 0 ∧ c = faultOf key ∧ v = 0 ∧ has = false) ∨ (pairsF F n 0 = 0 ∧ faultOf key = 0 ∧ c = 0 ∧ lookF (listOf F n) key = (has, v))
theorem ValAns.get (n : Nat) (F : Nat → Int) (key : Int) : ∃ c v has, ValAns n F key c v has := by
  by_cases h : pairsF F n 0 = 0
  · by_cases h2 : faultOf key = 0
    · exact ⟨0, (lookF (listOf F n) key).2, (lookF (listOf F n) key).1, Or.inr (Or.inr ⟨h, h2, rfl, rfl⟩)⟩
    · exact ⟨faultOf key, 0, false, Or.inr (Or.inl ⟨h, h2, rfl, rfl, rfl⟩)⟩
  · exact ⟨_, 0, false, Or.inl ⟨h, rfl, rfl, rfl⟩⟩
theorem row_list {w : World} {B n : Nat} {F : Nat → Int} {v : Value} (h : Row w B 2 n F v) : Row w B 2 (listOf F n).length (rowL (listOf F n)) v := by
  rw [listOf_length]
  exact row_eqP h fun p hp => (rowL_listOf hp).symm
def ResGet (w : World) (c v : Int) (has : Bool) (e : Ending) (w' : World) : Prop := e = .returned (.agg #[.int .i64 c, .bool has, .int .i64 v]) ∧ Below w.heap.size w w'
set_option maxRecDepth 100000 in
set_option maxHeartbeats 2000000 in
theorem specValueIn_is (y : Value) (B n : Nat) (F : Nat → Int) (key c v : Int) (has : Bool) (w : World) (h : Row w B 2 n F y) (hn : n ≤ 1048576) (ha : ValAns n F key c v has) :
    Calls Try.prog 27 #[y, .int .i64 key] w (ResGet w c v has) := by
  have H : Hid (Row w B 2 n F y) := h
  clear h
  have HZ : Hid (Below w.heap.size w (w.alloc (.cells #[.int .i64 0, .bool false, .int .i64 0] 33))) := below_alloc _ _
  rcases ha with ⟨h1, rfl, rfl, rfl⟩ | ⟨h1, h2, rfl, rfl, rfl⟩ | ⟨h1, h2, rfl, h3⟩
  · obtain ⟨f, hf⟩ : ∃ f, pairsF F n 0 = f := ⟨_, rfl⟩
    have HF : Hid (pairsF F n 0 = f) := hf
    have d : (f != 0) = true := bne_iff_ne.2 (by rw [← hf]; exact h1)
    rw [hf]
    clear h1 hf
    go_enter Try.func27, Try.ntmps27
    go_wp2_with fail
    refine (specPairs_any _ B n F _ (H.out.alloc _) hn).mono ?_
    rintro e w1 ⟨rfl, q1⟩
    rw [HF.out]
    have hb := (Blk3.new w (.int .i64 0) (.bool false) (.int .i64 0) 33).later q1
    have HB : Hid (Below w.heap.size w w1) := HZ.out.trans (q1.mono (by simp))
    obtain ⟨⟨x0, x1, x2⟩, y0, y1, y2⟩ := hb
    clear q1
    go_wp2
    refine bodyPost_ret (v := .agg #[.int .i64 f, .bool false, .int .i64 0]) (by simp [results, Try.results27, go_sem, x0, x1, x2]) rfl ⟨rfl, ?_⟩
    exact ((HB.out.setCell (by simp) _).setCell (by simp) _).setCell (by simp) _
  · obtain ⟨f, hf⟩ : ∃ f, faultOf key = f := ⟨_, rfl⟩
    have HF : Hid (faultOf key = f ∧ pairsF F n 0 = 0) := ⟨hf, h1⟩
    have d : (f != 0) = true := bne_iff_ne.2 (by rw [← hf]; exact h2)
    rw [hf]
    clear h1 h2 hf
    go_enter Try.func27, Try.ntmps27
    go_wp2_with fail
    refine (specPairs_any _ B n F _ (H.out.alloc _) hn).mono ?_
    rintro e w1 ⟨rfl, q1⟩
    rw [HF.out.2]
    have hb := (Blk3.new w (.int .i64 0) (.bool false) (.int .i64 0) 33).later q1
    have HB : Hid (Below w.heap.size w w1) := HZ.out.trans (q1.mono (by simp))
    obtain ⟨⟨x0, x1, x2⟩, y0, y1, y2⟩ := hb
    clear q1
    go_wp2_with fail
    refine (l1Fault_any _ _).mono ?_
    rintro e w9 ⟨rfl, hw9⟩
    obtain rfl := hw9.symm
    rw [HF.out.1]
    go_wp2
    refine bodyPost_ret (v := .agg #[.int .i64 f, .bool false, .int .i64 0]) (by simp [results, Try.results27, go_sem, x0, x1, x2]) rfl ⟨rfl, ?_⟩
    exact ((HB.out.setCell (by simp) _).setCell (by simp) _).setCell (by simp) _
  · have HF : Hid (faultOf key = 0 ∧ pairsF F n 0 = 0 ∧ lookF (listOf F n) key = (has, v)) := ⟨h2, h1, h3⟩
    clear h1 h2 h3
    go_enter Try.func27, Try.ntmps27
    go_wp2_with fail
    refine (specPairs_any _ B n F _ (H.out.alloc _) hn).mono ?_
    rintro e w1 ⟨rfl, q1⟩
    rw [HF.out.2.1]
    have hb := (Blk3.new w (.int .i64 0) (.bool false) (.int .i64 0) 33).later q1
    have HB : Hid (Below w.heap.size w w1) := HZ.out.trans (q1.mono (by simp))
    obtain ⟨⟨x0, x1, x2⟩, y0, y1, y2⟩ := hb
    clear q1
    go_wp2_with fail
    refine (l1Fault_any _ _).mono ?_
    rintro e w9 ⟨rfl, hw9⟩
    obtain rfl := hw9.symm
    rw [HF.out.1]
    go_wp2_with fail
    refine (l11Value_any (listOf F n) _ B key _ (row_list (H.out.later HB.out)) (by rw [listOf_length]; exact hn)).mono ?_
    rintro e w9 ⟨rfl, hw9⟩
    obtain rfl := hw9.symm
    rw [HF.out.2.2]
    go_wp2
    refine bodyPost_ret (v := .agg #[.int .i64 0, .bool has, .int .i64 v]) (by simp [results, Try.results27, go_sem, x0, x1, x2]) rfl ⟨rfl, ?_⟩
    exact ((HB.out.setCell (by simp) _).setCell (by simp) _).setCell (by simp) _
end Go.Proofs.Ytdbcmckoiacemaa

namespace Go.Proofs.Ytdbcmckoiacemaa
open Go.RowKit

theorem Blk3.putP {x : World} {b : Nat} {a0 a1 a2 : Value} (h : Blk3 x b a0 a1 a2) (c0 c1 c2 : Value) : Blk3 (((x.setCell ⟨b, 0, none⟩ c0).setCell ⟨b, 1, none⟩ c1).setCell ⟨b, 2, none⟩ c2) b c0 c1 c2 := by
  obtain ⟨⟨h0, h1, h2⟩, f0, f1, f2⟩ := h
  refine ⟨⟨?_, ?_, ?_⟩, ?_, ?_, ?_⟩ <;> go_simp
set_option maxRecDepth 100000 in
set_option maxHeartbeats 2000000 in
theorem implValueIn_is (y : Value) (B n : Nat) (F : Nat → Int) (key c v : Int) (has : Bool) (w : World) (h : Row w B 2 n F y) (hn : n ≤ 1048576) (ha : ValAns n F key c v has) :
    Calls Try.prog 12 #[y, .int .i64 key] w (ResGet w c v has) := by
  have H : Hid (Row w B 2 n F y) := h
  clear h
  have HZ : Hid (Below w.heap.size w (w.alloc (.cells #[.int .i64 0, .bool false, .int .i64 0] 33))) := below_alloc _ _
  rcases ha with ⟨h1, rfl, rfl, rfl⟩ | ⟨h1, h2, rfl, rfl, rfl⟩ | ⟨h1, h2, rfl, h3⟩
  · obtain ⟨f, hf⟩ : ∃ f, pairsF F n 0 = f := ⟨_, rfl⟩
    have HF : Hid (pairsF F n 0 = f) := hf
    have d : (f != 0) = true := bne_iff_ne.2 (by rw [← hf]; exact h1)
    rw [hf]
    clear h1 hf
    go_enter Try.func12, Try.ntmps12
    go_wp2_with fail
    refine (implPairs_any _ B n F _ (H.out.alloc _) hn).mono ?_
    rintro e w1 ⟨rfl, q1⟩
    rw [HF.out]
    have hb := (Blk3.new w (.int .i64 0) (.bool false) (.int .i64 0) 33).later q1
    have HB : Hid (Below w.heap.size w w1) := HZ.out.trans (q1.mono (by simp))
    obtain ⟨⟨x0, x1, x2⟩, y0, y1, y2⟩ := hb
    clear q1
    go_wp2
    refine bodyPost_ret (v := .agg #[.int .i64 f, .bool false, .int .i64 0]) (by simp [results, Try.results12, go_sem, x0, x1, x2]) rfl ⟨rfl, ?_⟩
    exact ((HB.out.setCell (by simp) _).setCell (by simp) _).setCell (by simp) _
  · obtain ⟨f, hf⟩ : ∃ f, faultOf key = f := ⟨_, rfl⟩
    have HF : Hid (faultOf key = f ∧ pairsF F n 0 = 0) := ⟨hf, h1⟩
    have d : (f != 0) = true := bne_iff_ne.2 (by rw [← hf]; exact h2)
    rw [hf]
    clear h1 h2 hf
    go_enter Try.func12, Try.ntmps12
    go_wp2_with fail
    refine (implPairs_any _ B n F _ (H.out.alloc _) hn).mono ?_
    rintro e w1 ⟨rfl, q1⟩
    rw [HF.out.2]
    have hb := (Blk3.new w (.int .i64 0) (.bool false) (.int .i64 0) 33).later q1
    have HB : Hid (Below w.heap.size w w1) := HZ.out.trans (q1.mono (by simp))
    obtain ⟨⟨x0, x1, x2⟩, y0, y1, y2⟩ := hb
    clear q1
    go_wp2_with fail
    refine (keyFault_any _ _).mono ?_
    rintro e w9 ⟨rfl, hw9⟩
    obtain rfl := hw9.symm
    rw [HF.out.1]
    go_wp2
    refine bodyPost_ret (v := .agg #[.int .i64 f, .bool false, .int .i64 0]) (by simp [results, Try.results12, go_sem, x0, x1, x2]) rfl ⟨rfl, ?_⟩
    exact ((HB.out.setCell (by simp) _).setCell (by simp) _).setCell (by simp) _
  · have HF : Hid (faultOf key = 0 ∧ pairsF F n 0 = 0 ∧ lookF (listOf F n) key = (has, v)) := ⟨h2, h1, h3⟩
    clear h1 h2 h3
    go_enter Try.func12, Try.ntmps12
    go_wp2_with fail
    refine (implPairs_any _ B n F _ (H.out.alloc _) hn).mono ?_
    rintro e w1 ⟨rfl, q1⟩
    rw [HF.out.2.1]
    have hb := (Blk3.new w (.int .i64 0) (.bool false) (.int .i64 0) 33).later q1
    have HB : Hid (Below w.heap.size w w1) := HZ.out.trans (q1.mono (by simp))
    obtain ⟨⟨x0, x1, x2⟩, y0, y1, y2⟩ := hb
    clear q1
    go_wp2_with fail
    refine (keyFault_any _ _).mono ?_
    rintro e w9 ⟨rfl, hw9⟩
    obtain rfl := hw9.symm
    rw [HF.out.1]
    go_wp2_with fail
    refine (filled_any (listOf F n) _ B _ (row_list (H.out.later HB.out)) (pairs_rise HF.out.2.1).1 (by rw [listOf_length]; have := (pairs_rise HF.out.2.1).2; omega)).mono ?_
    rintro e w2 ⟨b, rfl, hbb, hris, q2⟩
    have HI : Hid (Ris w2 b (listOf F n) ∧ Below w1.heap.size w1 w2) := ⟨hris, q2⟩
    clear hris q2 hbb
    go_wp2_with fail
    obtain ⟨rv, hb1, ho1⟩ := HI.out.1
    refine (find_any (listOf F n) b (b + 1) rv key 0 _ hb1 ho1 (pairs_rise HF.out.2.1).1 (by rw [listOf_length]; have := (pairs_rise HF.out.2.1).2; omega)).mono ?_
    rintro e w3 ⟨r, y, z, rfl, hr, hr1, hr0, q3⟩
    have HL : Hid (has = r ∧ v = z) := by
      have h3 := HF.out.2.2
      cases r with
      | true =>
        rw [look_at (hr.1 rfl), ← hr1 rfl] at h3
        simp only [Prod.mk.injEq] at h3
        exact ⟨h3.1.symm, h3.2.symm⟩
      | false =>
        rw [look_no (pairs_rise HF.out.2.1).1 (fun q => (Bool.false_ne_true (hr.2 q)))] at h3
        simp only [Prod.mk.injEq] at h3
        exact ⟨h3.1.symm, h3.2.symm.trans (hr0 rfl).2.symm⟩
    have HB3 : Hid (Below w.heap.size w w3) := (HB.out.trans (HI.out.2.mono HB.out.size)).trans (q3.mono (Nat.le_trans HB.out.size HI.out.2.size))
    have hx := (Blk3.later ⟨⟨x0, x1, x2⟩, y0, y1, y2⟩ HI.out.2).later q3
    have hlt : w.heap.size < w3.heap.size := Nat.lt_of_lt_of_le (World.block_lt_of_cell? _ _ x0) (Nat.le_trans HI.out.2.size q3.size)
    obtain ⟨⟨z0, z1, z2⟩, t0, t1, t2⟩ := hx
    have HP : Hid (Blk3 ((((w3.setCell ⟨w.heap.size, 0, none⟩ (.int .i64 0)).setCell ⟨w.heap.size, 1, none⟩ (.bool r)).setCell ⟨w.heap.size, 2, none⟩ (.int .i64 z)).alloc (.cells #[.int .i64 y, .int .i64 z] 65)) w.heap.size (.int .i64 0) (.bool r) (.int .i64 z)) := Blk3.alloc (Blk3.putP ⟨⟨z0, z1, z2⟩, t0, t1, t2⟩ _ _ _) _
    clear hb1 ho1 hr hr1 hr0 q3 x0 x1 x2 y0 y1 y2
    go_wp2
    refine bodyPost_ret (v := .agg #[.int .i64 0, .bool r, .int .i64 z]) (by simp [results, Try.results12, go_sem, HP.out.1.1, HP.out.1.2.1, HP.out.1.2.2]) rfl ⟨by rw [HL.out.1, HL.out.2], ?_⟩
    repeat (first | exact HB3.out | refine Below.setCell ?_ (by first | omega | (simp <;> omega)) _ | refine Below.alloc ?_ (by first | omega | (simp <;> omega)) _)
theorem eqGetP_same (c v : Int) (has : Bool) (w : World) :
    Calls Try.prog 28 #[.agg #[.int .i64 c, .bool has, .int .i64 v], .agg #[.int .i64 c, .bool has, .int .i64 v]] w fun e w' => e = .returned (.bool true) ∧ Below w.heap.size w w' := by
  have d : (has != has) = false := by cases has <;> rfl
  go_enter Try.func28, Try.ntmps28
  go_wp2
  go_ret
  exact ⟨rfl, (below_alloc _ _).alloc (by simp) _⟩
set_option maxRecDepth 100000 in
set_option maxHeartbeats 2000000 in
theorem exactValueIn_walk (v : Value) (n : Nat) (F : Nat → Int) (key : Int) (w : World) (h : Row w 0 2 n F v) (hn : n ≤ 9223372036854775807) (_ : ∀ p, (Lit.int .i64 (F p)).wf = true) (_ : (Lit.int .i64 key).wf = true) :
    Calls Try.prog 6 #[v, .int .i64 key] w fun e w' => e = .returned (.bool true) ∧ Below w.heap.size w w' := by
  obtain ⟨ao, cp, rfl⟩ := h.form
  have H : Hid (Row w 0 2 n F (.slice ao n cp)) := h
  clear h
  by_cases hs : (1048576 : Int) < n
  · go_enter Try.func6, Try.ntmps6
    go_wp2_with fail
    refine (szPairS_no _ _ _ _ _ hs (by omega) (by omega) hn).mono ?_
    rintro e w1 ⟨rfl, rfl⟩
    go_wp2
    go_ret
    exact ⟨rfl, Below.refl _ _⟩
  have hb : n ≤ 1048576 := by omega
  have dz : decide ((1048576 : Int) - n < 0) = false := decide_eq_false (by omega)
  clear hs
  obtain ⟨c, z, has, ha⟩ := ValAns.get n F key
  have HA : Hid (ValAns n F key c z has) := ha
  clear ha
  go_enter Try.func6, Try.ntmps6
  go_wp2_with fail
  refine (szPairS_ok _ _ _ _ _ (by omega) (by omega)).mono ?_
  rintro e w1 ⟨rfl, hw1⟩
  obtain rfl := hw1.symm
  go_wp2_with fail
  refine (toPairS_any _ 0 n F _ H.out hb).mono ?_
  rintro e w2 ⟨u2, rfl, r2, _, q2⟩
  have Q2 : Hid (Below w.heap.size w w2) := q2
  have R2 : Hid (Row w2 0 2 n F u2) := r2.mono (Nat.zero_le _)
  clear r2 q2
  go_wp2_with fail
  refine (specValueIn_is _ 0 n F key c z has _ R2.out hb HA.out).mono ?_
  rintro e w3 ⟨rfl, q3⟩
  have Q3 : Hid (Below w.heap.size w (w3.alloc (.cells #[.int .i64 c, .bool has, .int .i64 z] 33))) := (Q2.out.trans (q3.mono Q2.out.size)).alloc (Q2.out.trans (q3.mono Q2.out.size)).size _
  have K3 : Hid (Blk3 (w3.alloc (.cells #[.int .i64 c, .bool has, .int .i64 z] 33)) w3.heap.size (.int .i64 c) (.bool has) (.int .i64 z)) := Blk3.new _ _ _ _ _
  clear q3 Q2 R2
  go_wp2_with fail
  refine (toPairS_any _ 0 n F _ (H.out.later Q3.out) hb).mono ?_
  rintro e w4 ⟨u4, rfl, r4, _, q4⟩
  have Q4 : Hid (Below w.heap.size w w4) := Q3.out.trans (q4.mono Q3.out.size)
  have R4 : Hid (Row w4 0 2 n F u4) := r4.mono (Nat.zero_le _)
  clear r4
  have K4 : Hid (Blk3 w4 w3.heap.size (.int .i64 c) (.bool has) (.int .i64 z)) := K3.out.later q4
  clear q4 K3 Q3
  go_wp2_with fail
  refine (implValueIn_is _ 0 n F key c z has _ R4.out hb HA.out).mono ?_
  rintro e w5 ⟨rfl, q5⟩
  obtain ⟨⟨b0, b1, b2⟩, _, _, _⟩ := K4.out.later q5
  have hl := (K4.out.later q5).lt
  have Q5' : Hid (Below w.heap.size w w5) := Q4.out.trans (q5.mono Q4.out.size)
  have R5' : Hid (Row w5 0 2 n F u4) := R4.out.later q5
  clear q5 Q4 R4 K4
  go_wp2_with fail
  refine (eqGetP_same c z has _).mono ?_
  rintro e w55 ⟨rfl, q5⟩
  have q5' := (below_alloc w5 (.cells #[.int .i64 c, .bool has, .int .i64 z] 33)).trans (q5.mono (by simp))
  have Q5 : Hid (Below w.heap.size w w55) := Q5'.out.trans (q5'.mono Q5'.out.size)
  have R5 : Hid (Row w55 0 2 n F u4) := R5'.out.later q5'
  clear q5 q5' Q5' R5' b0 b1 b2 hl
  go_wp2_with fail
  refine (toPairS_any _ 0 n F _ (H.out.later Q5.out) hb).mono ?_
  rintro e w6 ⟨u6, rfl, r6, _, q6⟩
  have Q6 : Hid (Below w.heap.size w w6) := Q5.out.trans (q6.mono Q5.out.size)
  have R6 : Hid (Row w6 0 2 n F u4 ∧ Row w6 0 2 n F u6) := ⟨R5.out.later q6, r6.mono (Nat.zero_le _)⟩
  clear r6 q6 Q5 R5
  go_wp2_with fail
  refine (eqPairS_same _ _ 0 0 n F _ R6.out.1 R6.out.2 hb).mono ?_
  rintro e w7 ⟨rfl, q7⟩
  have Q7 : Hid (Below w.heap.size w w7) := Q6.out.trans (q7.mono Q6.out.size)
  clear q7 Q6 R6
  go_wp2
  go_ret
  exact ⟨rfl, Q7.out⟩
end Go.Proofs.Ytdbcmckoiacemaa

