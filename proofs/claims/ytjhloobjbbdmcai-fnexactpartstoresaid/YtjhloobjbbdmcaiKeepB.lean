/-
  Own text. The program's columns.keepKeys: of the cells, locks and writes those whose key lies in a range.
-/
import Derived.Test.YtjhloobjbbdmcaiStoA
import Derived.Test.YtjhloobjbbdmcaiDelB
import Derived.Test.YtjhloobjbbdmcaiKeepA
namespace Go.Proofs.Ytjhloobjbbdmcai
open Go.RowKit Go.Maps Go.Sort Go.Shelf Go.Lib

/-- A struct whose key lies outside. -/
def outD (fr to : Int) (t : List Int) : Bool := decide (t.getD 0 0 < fr ∨ to ≤ t.getD 0 0)
/-- What a map has inside of a range. -/
def inM (m : Int → Int → Option Int) (fr to : Int) : Int → Int → Option Int := fun x y => if x < fr ∨ to ≤ x then none else m x y
/-- What it has while it is gone through. -/
def midM (m : Int → Int → Option Int) (fr to : Int) (left : Int → Int → Bool) : Int → Int → Option Int := fun x y => if left x y = true then m x y else inM m fr to x y
theorem midM_start (m : Int → Int → Option Int) (fr to : Int) (x y : Int) : m x y = midM m fr to (fun x y => (m x y).isSome) x y := by
  unfold midM inM
  cases h : m x y with
  | none => simp
  | some v => simp [h]
theorem midM_keep {m : Int → Int → Option Int} {fr to : Int} {left : Int → Int → Bool} {p q : Int} (hl : left p q = true) (hin : ¬ (p < fr ∨ to ≤ p)) (x y : Int) : midM m fr to left x y = midM m fr to (strike left p q) x y := by
  unfold midM strike
  by_cases e : x = p ∧ y = q
  · obtain ⟨rfl, rfl⟩ := e
    simp [hl, inM, hin]
  · rw [decide_eq_false e]
    simp
theorem midM_drop {m : Int → Int → Option Int} {fr to : Int} {left : Int → Int → Bool} {p q : Int} (hout : p < fr ∨ to ≤ p) (x y : Int) : delM (midM m fr to left) p q x y = midM m fr to (strike (strike left p q) p q) x y := by
  unfold midM strike delM
  by_cases e : x = p ∧ y = q
  · obtain ⟨rfl, rfl⟩ := e
    simp [inM, hout]
  · rw [decide_eq_false e, if_neg e]
    simp
theorem strike_two (left : Int → Int → Bool) (p q x y : Int) : strike (strike left p q) p q x y = strike left p q x y := by
  unfold strike
  cases left x y <;> cases decide (x = p ∧ y = q) <;> rfl
/-- The three variables of keepKeys' closures. -/
def GoneE (b1 b2 bg : Nat) (fr to : Int) (x : World) : Prop := x.cell? ⟨bg, 0, none⟩ = some (goneV b1 b2) ∧ x.cell? ⟨b1, 0, none⟩ = some (.int .i64 fr) ∧ x.cell? ⟨b2, 0, none⟩ = some (.int .i64 to)
theorem GoneE.kept {b1 b2 bg : Nat} {fr to : Int} {x x' : World} (h : GoneE b1 b2 bg fr to x) (hb : ∀ i, i = b1 ∨ i = b2 ∨ i = bg → x'.heap[i]? = x.heap[i]?) : GoneE b1 b2 bg fr to x' :=
  ⟨(World.cell?_of_block (w := x) (a := ⟨bg, 0, none⟩) (hb bg (by simp))).trans h.1, (World.cell?_of_block (w := x) (a := ⟨b1, 0, none⟩) (hb b1 (by simp))).trans h.2.1, (World.cell?_of_block (w := x) (a := ⟨b2, 0, none⟩) (hb b2 (by simp))).trans h.2.2⟩
theorem GoneE.lt {b1 b2 bg : Nat} {fr to : Int} {x : World} (h : GoneE b1 b2 bg fr to x) : ∀ i, i = b1 ∨ i = b2 ∨ i = bg → i < x.heap.size := by
  rintro i (rfl | rfl | rfl)
  · exact World.block_lt_of_cell? x _ h.2.1
  · exact World.block_lt_of_cell? x _ h.2.2
  · exact World.block_lt_of_cell? x _ h.1
theorem GoneE.later {b1 b2 bg : Nat} {fr to : Int} {x x' : World} (h : GoneE b1 b2 bg fr to x) (hb : Below x.heap.size x x') : GoneE b1 b2 bg fr to x' := h.kept (fun i hi => hb.block i (h.lt i hi))
theorem GoneE.new (w : World) (fr to : Int) (t t' : TypeId) : GoneE w.heap.size (w.heap.size + 1) (w.heap.size + 1 + 1) fr to (((w.alloc (.cells #[.int .i64 fr] t)).alloc (.cells #[.int .i64 to] t)).alloc (.cells #[goneV w.heap.size (w.heap.size + 1)] t')) := by
  have h1 := World.cell?_alloc_mark w #[.int .i64 fr] t (0, 0) 0
  have h2 := World.cell?_alloc_mark (w.alloc (.cells #[.int .i64 fr] t)) #[.int .i64 to] t (0, 0) 0
  have h3 := World.cell?_alloc_mark ((w.alloc (.cells #[.int .i64 fr] t)).alloc (.cells #[.int .i64 to] t)) #[goneV w.heap.size (w.heap.size + 1)] t' (0, 0) 0
  simp only [World.size_alloc] at h2 h3
  refine ⟨h3, ?_, ?_⟩
  · exact ((below_alloc _ _).cell (p := ⟨w.heap.size, 0, none⟩) (by simp; omega)).trans (((below_alloc _ _).cell (p := ⟨w.heap.size, 0, none⟩) (by simp)).trans h1)
  · exact ((below_alloc _ _).cell (p := ⟨w.heap.size + 1, 0, none⟩) (by simp)).trans h2
/-- What the deleting region stands on. -/
def DelBox (b g bp : Nat) (p q : Int) (x : World) : Prop := x.cell? ⟨b, 0, none⟩ = some (.map (some g)) ∧ x.cell? ⟨bp, 0, none⟩ = some (.int .i64 p) ∧ x.cell? ⟨bp, 1, none⟩ = some (.int .i64 q)
set_option maxRecDepth 100000 in
set_option maxHeartbeats 8000000 in
theorem keepKeys_is (B b N : Nat) (m : Int → Int → Option Int) (nl : Nat) (l : Nat → Int) (nw : Nat) (k : Nat → Int) (g : Nat) (u1 u2 : Value) (fr to : Int) (w : World) (h : Cols w B b N m nl l nw k g u1 u2) (hA : ApartC b g u1 u2) (hl : nl ≤ 200) (hw : nw ≤ 200) :
    Calls Try.prog 25 #[.pointer (some ⟨b, 0, none⟩), .int .i64 fr, .int .i64 to] w fun e w' => e = .returned (.tuple #[]) ∧ (∃ u1' u2', Cols w' B b N (inM m fr to) (selD l 5 (outD fr to) nl).length (fun p => (selD l 5 (outD fr to) nl).flatten.getD p 0) (selD k 4 (outD fr to) nw).length (fun p => (selD k 4 (outD fr to) nw).flatten.getD p 0) g u1' u2') ∧ Below B w w' := by
  obtain ⟨b1, d1, rfl⟩ := h.2.2.2.2.1.form
  obtain ⟨b2, d2, rfl⟩ := h.2.2.2.2.2.form
  have H : Hid (Cols w B b N m nl l nw k g (.slice b1 nl d1) (.slice b2 nw d2)) := h
  have HA : Hid (ApartC b g (.slice b1 nl d1) (.slice b2 nw d2)) := hA
  have hbl := h.2.2.1.lt
  have hgl := h.2.2.2.1.lt
  have hbg := hA.1
  have hG : (GoneE w.heap.size (w.heap.size + 1) (w.heap.size + 1 + 1) fr to (((w.alloc (.cells #[.int .i64 fr] 2)).alloc (.cells #[.int .i64 to] 2)).alloc (.cells #[goneV w.heap.size (w.heap.size + 1)] 87))) := GoneE.new w fr to _ _
  have hB3 : Below w.heap.size w (((w.alloc (.cells #[.int .i64 fr] 2)).alloc (.cells #[.int .i64 to] 2)).alloc (.cells #[goneV w.heap.size (w.heap.size + 1)] 87)) := ((below_alloc _ _).alloc (by simp) _).alloc (by simp; omega) _
  have hP := h.2.2.2.1.later hB3
  have p0 := (h.2.2.1.later hB3).1.1
  clear h hA
  have hst := fun (W : World) (a : Addr) => run_store Try.prog W a (goneV w.heap.size (w.heap.size + 1)) .plain rfl
  unfold goneV at hB3 hP p0 hst
  go_enter Try.func25, Try.ntmps25
  go_wp2_with (first | (at_range; refine wpList_prange _ rfl _ rfl g N m rfl hP ?_; intro w0 cnt hcnt hPR hB0 hs0) | go_in)
  go_frame
  simp only [World.size_alloc] at hPR hs0 hB0
  have HK0 : Hid (∀ i, i < w.heap.size → w0.heap[i]? = w.heap[i]?) := fun i hi => (hB0.block i (by omega)).trans (hB3.block i hi)
  have HT0 : Hid (w0.os = w.os ∧ w0.tape = w.tape ∧ w0.output = w.output) := ⟨hB0.os.trans hB3.os, hB0.tape.trans hB3.tape, hB0.output.trans hB3.output⟩
  have HG0 : Hid (GoneE w.heap.size (w.heap.size + 1) (w.heap.size + 1 + 1) fr to w0) := hG.later (by simp only [World.size_alloc]; exact hB0)
  have HH : Hid (∀ x y, (m x y).isSome = true → (m x y).isSome = true) := fun _ _ h => h
  obtain ⟨bg, hbgq⟩ : ∃ q, w.heap.size + 1 + 1 = q := ⟨_, rfl⟩
  obtain ⟨r, hr⟩ : ∃ r, bg + 1 = r := ⟨_, rfl⟩
  rw [hbgq] at hPR hs0 hB0 HG0
  rw [hr] at hPR hs0
  simp only [World.size_alloc, hbgq, hr]
  clear hP p0 hst hB3 hG hB0 HH
  go_loopw [7] (fun _ wr => ∃ (left : Int → Int → Bool) (cnt : Nat), Hid ((PR wr g r N (midM m fr to left) left cnt ∧ Sam w0 wr (r + 1) g r) ∧ ∀ x y, left x y = true → (m x y).isSome = true)) (fun _ wr => wr.rangeLeft g r)
  case atStart => exact ⟨_, cnt, ⟨hPR.congrM (fun x y => midM_start m fr to x y) (fun _ _ => rfl), ⟨⟨rfl, rfl, rfl⟩, by omega, fun _ _ _ _ => rfl⟩⟩, fun x y h => h⟩
  case round =>
    clear hPR hcnt
    obtain ⟨left, cnt1, HR⟩ := hrel
    have hpr := HR.out.1.1
    have hcl : ∀ x y, Wf x → Wf y → left x y = true → (midM m fr to left x y).isSome = true := fun x y _ _ q => by unfold midM; rw [if_pos q]; exact HR.out.2 x y q
    go_wp2_with (first | (at_next; refine wpList_pnext _ rfl _ rfl g r N _ left cnt1 rfl hpr hcl ?_ ?_) | go_in)
    · intro hdone
      have HPM : Hid (PM wr g N (inM m fr to)) := HR.out.1.1.pm.congrW (fun x y hx hy => by unfold midM; rw [if_neg (by rw [hdone x y hx hy]; exact Bool.false_ne_true)])
      have hK : ∀ i, i < w.heap.size → i ≠ g → wr.heap[i]? = w.heap[i]? := fun i h1 h2 => (HR.out.1.2.2.2 i (by omega) h2 (by omega)).trans (HK0.out i h1)
      have hsz := HR.out.1.2.2.1
      have HO1 : Hid (Own wr B 68 5 nl l (.slice b1 nl d1)) := H.out.2.2.2.2.1.kept (fun q hq => hK q (own_in H.out.2.2.2.2.1 q hq).2 (HA.out.2.1 q hq).2)
      have HO2 : Hid (Own wr B 70 4 nw k (.slice b2 nw d2)) := H.out.2.2.2.2.2.kept (fun q hq => hK q (own_in H.out.2.2.2.2.2 q hq).2 (HA.out.2.2.1 q hq).2)
      have HB : Hid (Blk3 wr b (.map (some g)) (.slice b1 nl d1) (.slice b2 nw d2)) := H.out.2.2.1.kept (hK b hbl (by omega))
      have HE : Hid (GoneE w.heap.size (w.heap.size + 1) bg fr to wr) := HG0.out.kept (fun i hi => HR.out.1.2.2.2 i (by omega) (by omega) (by omega))
      have HBB : Hid (Below B w wr) := ⟨HR.out.1.2.1.1.trans HT0.out.1, HR.out.1.2.1.2.1.trans HT0.out.2.1, HR.out.1.2.1.2.2.trans HT0.out.2.2, by omega, fun i hi => hK i (by have := H.out.1; omega) (by have := H.out.2.1; omega)⟩
      have HQ : Hid ((∀ q, (Value.slice b1 nl d1).ownBlock = some q → q < w.heap.size) ∧ ∀ q, (Value.slice b2 nw d2).ownBlock = some q → q < w.heap.size) := ⟨fun q hq => (own_in H.out.2.2.2.2.1 q hq).2, fun q hq => (own_in H.out.2.2.2.2.2 q hq).2⟩
      have hl1 : Hid (B ≤ b ∧ B ≤ g) := ⟨H.out.1, H.out.2.1⟩
      have p1 := HB.out.1.2.1
      clear hpr hcl HR hdone hK hsz HG0 HK0 HT0 H
      go_wp2_with fail
      refine (deleteLock_is bg (GoneE w.heap.size (w.heap.size + 1) bg fr to) (outD fr to) (fun x n0 n1 n2 n3 n4 hx => (goneLock_is n0 n1 n2 n3 n4 fr to bg _ _ _ rfl x hx.1 hx.2.1 hx.2.2).mono (fun e x' ⟨he, hx'⟩ => ⟨he, by rw [hx']; exact below_alloc _ _⟩)) (fun _ _ hx hb => hx.later hb) B nl l _ wr HO1.out hl HE.out (fun x x' q hq hx hgx => hx.kept (fun i hi => hgx.block i (hx.lt i hi) (by have := HQ.out.1 q hq; simp; omega)))).mono ?_
      rintro e w5 ⟨v1, rfl, ⟨ho1, hob1⟩, hg5, hE5⟩
      obtain ⟨e1, f1, rfl⟩ := ho1.form
      have hblk5 : ∀ i, i < wr.heap.size → (∀ q, (Value.slice b1 nl d1).ownBlock = some q → i ≠ q) → w5.heap[i]? = wr.heap[i]? := fun i h1 h2 => hg5.block i h1 (fun e => h2 i e.symm rfl)
      have HB5 : Hid (Blk3 w5 b (.map (some g)) (.slice b1 nl d1) (.slice b2 nw d2)) := HB.out.kept (hblk5 b HB.out.lt (fun q hq e => (HA.out.2.1 q hq).1 e.symm))
      have HP5 : Hid (PM w5 g N (inM m fr to)) := HPM.out.kept (hblk5 g HPM.out.lt (fun q hq e => (HA.out.2.1 q hq).2 e.symm))
      have HO25 : Hid (Own w5 B 70 4 nw k (.slice b2 nw d2)) := HO2.out.kept (fun j hj => hblk5 j (own_in HO2.out j hj).2 (fun q hq e => HA.out.2.2.2 q hq (by rw [hj, e])))
      have HB5' : Hid (Below B w w5) := HBB.out.trans ⟨hg5.os, hg5.tape, hg5.output, hg5.size, fun i hi => hg5.block i (Nat.lt_of_lt_of_le (by have := hl1.out; omega) HBB.out.size) (fun e => by have := (own_in HO1.out i e.symm).1; omega)⟩
      have HO15 : Hid (Own w5 B 68 5 (selD l 5 (outD fr to) nl).length (fun p => (selD l 5 (outD fr to) nl).flatten.getD p 0) (.slice e1 (selD l 5 (outD fr to) nl).length f1)) := ho1
      have HOB : Hid ((Value.slice e1 (selD l 5 (outD fr to) nl).length f1).ownBlock = (Value.slice b1 nl d1).ownBlock) := hob1
      have HE5 : Hid (GoneE w.heap.size (w.heap.size + 1) bg fr to w5) := hE5
      obtain ⟨n1, hn1⟩ : ∃ n, (selD l 5 (outD fr to) nl).length = n := ⟨_, rfl⟩
      have HN1 : Hid ((selD l 5 (outD fr to) nl).length = n1) := hn1
      rw [hn1] at HOB HO15
      rw [hn1]
      obtain ⟨⟨y0, y1, y2⟩, z0, z1, z2⟩ := HB5.out
      have hbl5 : b < w5.heap.size := HB5.out.lt
      clear ho1 hob1 hg5 hE5 hblk5 HB HPM HO2 HBB HO1 HE p1 hn1
      have HB6 : Hid (Blk3 (w5.setCell ⟨b, 1, none⟩ (.slice e1 n1 f1)) b (.map (some g)) (.slice e1 n1 f1) (.slice b2 nw d2)) := HB5.out.set1 _
      have HO26 : Hid (Own (w5.setCell ⟨b, 1, none⟩ (.slice e1 n1 f1)) B 70 4 nw k (.slice b2 nw d2)) := HO25.out.kept (fun q hq => Below.heap_setCell _ _ _ q (HA.out.2.2.1 q hq).1)
      have HO16 : Hid (Own (w5.setCell ⟨b, 1, none⟩ (.slice e1 n1 f1)) B 68 5 n1 (fun p => (selD l 5 (outD fr to) nl).flatten.getD p 0) (.slice e1 n1 f1)) := HO15.out.kept (fun q hq => Below.heap_setCell _ _ _ q (HA.out.2.1 q (HOB.out ▸ hq)).1)
      have HP6 : Hid (PM (w5.setCell ⟨b, 1, none⟩ (.slice e1 n1 f1)) g N (inM m fr to)) := HP5.out.setCell (a := ⟨b, 1, none⟩) hbg _
      have HE6 : Hid (GoneE w.heap.size (w.heap.size + 1) bg fr to (w5.setCell ⟨b, 1, none⟩ (.slice e1 n1 f1))) := HE5.out.kept (fun i hi => Below.heap_setCell _ _ _ i (by simp; omega))
      have HBB6 : Hid (Below B w (w5.setCell ⟨b, 1, none⟩ (.slice e1 n1 f1))) := HB5'.out.setCell (by simp; exact hl1.out.1) _
      clear HO25 HO15 HP5 HE5 HB5' HB5
      have q2 := HB6.out.1.2.2
      go_wp2_with fail
      refine (deleteWrite_is bg (GoneE w.heap.size (w.heap.size + 1) bg fr to) (outD fr to) (fun x n0 n1 n2 n3 hx => (goneWrite_is n0 n1 n2 n3 fr to bg _ _ _ rfl x hx.1 hx.2.1 hx.2.2).mono (fun e x' ⟨he, hx'⟩ => ⟨he, by rw [hx']; exact below_alloc _ _⟩)) (fun _ _ hx hb => hx.later hb) B nw k _ _ HO26.out hw HE6.out (fun x x' q hq hx hgx => hx.kept (fun i hi => hgx.block i (hx.lt i hi) (by have := HQ.out.2 q hq; simp; omega)))).mono ?_
      rintro e w7 ⟨v2, rfl, ⟨ho2, hob2⟩, hg7, hE7⟩
      obtain ⟨e2, f2, rfl⟩ := ho2.form
      have hblk7 : ∀ i, i < (w5.setCell ⟨b, 1, none⟩ (.slice e1 n1 f1)).heap.size → (∀ q, (Value.slice b2 nw d2).ownBlock = some q → i ≠ q) → w7.heap[i]? = (w5.setCell ⟨b, 1, none⟩ (.slice e1 n1 f1)).heap[i]? := fun i h1 h2 => hg7.block i h1 (fun e => h2 i e.symm rfl)
      have hB7 := HB6.out.kept (hblk7 b HB6.out.lt (fun q hq e => (HA.out.2.2.1 q hq).1 e.symm))
      have hP7 := HP6.out.kept (hblk7 g HP6.out.lt (fun q hq e => (HA.out.2.2.1 q hq).2 e.symm))
      have hO17 := HO16.out.kept (fun j hj => hblk7 j (own_in HO16.out j hj).2 (fun q hq e => HA.out.2.2.2 j (HOB.out ▸ hj) (by rw [hq, e])))
      have hBB7 := HBB6.out.trans (c := w7) ⟨hg7.os, hg7.tape, hg7.output, hg7.size, fun i hi => hg7.block i (Nat.lt_of_lt_of_le (by have := hl1.out; omega) HBB6.out.size) (fun e => by have := (own_in HO26.out i e.symm).1; omega)⟩
      have HF : Hid (Cols (w7.setCell ⟨b, 2, none⟩ (.slice e2 (selD k 4 (outD fr to) nw).length f2)) B b N (inM m fr to) (selD l 5 (outD fr to) nl).length (fun p => (selD l 5 (outD fr to) nl).flatten.getD p 0) (selD k 4 (outD fr to) nw).length (fun p => (selD k 4 (outD fr to) nw).flatten.getD p 0) g (.slice e1 n1 f1) (.slice e2 (selD k 4 (outD fr to) nw).length f2) ∧ Below B w (w7.setCell ⟨b, 2, none⟩ (.slice e2 (selD k 4 (outD fr to) nw).length f2))) := by
        refine ⟨⟨hl1.out.1, hl1.out.2, hB7.set2 _, hP7.setCell (a := ⟨b, 2, none⟩) hbg _, ?_, ho2.kept (fun q hq => Below.heap_setCell _ _ _ q (HA.out.2.2.1 q (hob2 ▸ hq)).1)⟩, hBB7.setCell (by simp; exact hl1.out.1) _⟩
        rw [HN1.out]
        exact hO17.kept (fun q hq => Below.heap_setCell _ _ _ q (HA.out.2.1 q (HOB.out ▸ hq)).1)
      have hbl7 : b < w7.heap.size := hB7.lt
      obtain ⟨⟨y0, y1, y2⟩, z0, z1, z2⟩ := hB7
      clear ho2 hob2 hg7 hE7 hblk7 hP7 hO17 hBB7 HB6 HP6 HO16 HO26 HBB6 HE6 q2
      go_wp2
      go_end0
      exact ⟨rfl, ⟨_, _, HF.out.1⟩, HF.out.2⟩
    · intro p q cc w1 cnt2 hx hy hc hlf hm hPR1 hlt hg1 hs1 hen
      have hsam := HR.out.1.2.step hg1 (fun j e => by simp at e; omega)
      have hG1 := HG0.out.kept (fun i hi => hsam.2.2 i (by omega) (by omega) (by omega))
      have HLT : Hid (cnt2 < wr.rangeLeft g r) := by unfold Hid; rw [hpr.left_eq]; exact hlt
      have HX : Hid (((Wf p ∧ Wf q) ∧ left p q = true) ∧ ∀ x y, left x y = true → (m x y).isSome = true) := ⟨⟨⟨hx, hy⟩, hlf⟩, HR.out.2⟩
      have HN : Hid (PR w1 g r N (midM m fr to left) (strike left p q) cnt2 ∧ Sam w0 w1 (r + 1) g r) := ⟨hPR1, hsam⟩
      have hcb : w1.cell? ⟨b, 0, none⟩ = some (.map (some g)) := (World.cell?_of_block (w := w) (a := ⟨b, 0, none⟩) ((hsam.2.2 b (by omega) (by omega) (by omega)).trans (HK0.out b hbl))).trans H.out.2.2.1.1.1
      have zr : r < w1.heap.size := hPR1.lt
      have zg : bg < w1.heap.size := by omega
      have zb : b < w1.heap.size := by omega
      obtain ⟨c0, c1, c2⟩ := hG1
      have g1 : (w1.alloc (.cells #[.int .i64 p, .int .i64 q] 89)).cell? ⟨w.heap.size, 0, none⟩ = some (.int .i64 fr) := ((below_alloc _ _).cell (p := ⟨w.heap.size, 0, none⟩) (by simp; omega)).trans c1
      have g2 : (w1.alloc (.cells #[.int .i64 p, .int .i64 q] 89)).cell? ⟨w.heap.size + 1, 0, none⟩ = some (.int .i64 to) := ((below_alloc _ _).cell (p := ⟨w.heap.size + 1, 0, none⟩) (by simp; omega)).trans c2
      have HGC : Hid ((w1.alloc (.cells #[.int .i64 p, .int .i64 q] 89)).cell? ⟨w.heap.size, 0, none⟩ = some (.int .i64 fr) ∧ (w1.alloc (.cells #[.int .i64 p, .int .i64 q] 89)).cell? ⟨w.heap.size + 1, 0, none⟩ = some (.int .i64 to)) := ⟨g1, g2⟩
      unfold goneV at c0
      clear hpr hcl HR hPR1 hg1 hlt hs1 hsam hx hy hlf hm hc c1 c2 g1 g2
      by_cases hin : p < fr ∨ to ≤ p
      · have HI : Hid (decide (p < fr ∨ to ≤ p) = true) := decide_eq_true hin
        have HIN : Hid (p < fr ∨ to ≤ p) := hin
        clear hin
        go_wp2_with fail
        refine (gone_is p fr to _ _ true HI.out _ HGC.out.1 HGC.out.2).mono ?_
        rintro e w2 ⟨rfl, rfl⟩
        go_wp2_with fail
        have h0 : DelBox b g w1.heap.size p q (w1.alloc (.cells #[.int .i64 p, .int .i64 q] 89)).drew := ⟨((below_alloc _ _).cell (p := ⟨b, 0, none⟩) (by simp; omega)).trans hcb, World.cell?_alloc_mark w1 _ _ _ 0, World.cell?_alloc_mark w1 _ _ _ 1⟩
        refine wp_region_held_drew (S := DelBox b g w1.heap.size p q) (by kernel_rfl) h0 (fun hS => ?_)
        clear h0
        refine wpAnyH_take (i := 0) (v := ?_) rfl (by kernel_rfl) (by kernel_rfl) (by kernel_rfl) (fun _ _ _ h => h) (Or.inl ⟨by kernel_rfl, ?_⟩) hS ?_
        rotate_left
        · intro wx hx
          obtain ⟨hx0, hx1, hx2⟩ := hx
          go_simp
          try with_reducible rfl
        refine wpAnyH_take (i := 1) (v := ?_) rfl (by kernel_rfl) (by kernel_rfl) (by kernel_rfl) (fun _ _ _ h => h) (Or.inl ⟨by kernel_rfl, ?_⟩) hS ?_
        rotate_left
        · intro wx hx
          obtain ⟨hx0, hx1, hx2⟩ := hx
          go_simp
          try with_reducible rfl
        refine wpAnyH_take (i := 2) (v := ?_) rfl (by kernel_rfl) (by kernel_rfl) (by kernel_rfl) (fun _ _ _ h => h) (Or.inl ⟨by kernel_rfl, ?_⟩) hS ?_
        rotate_left
        · intro wx hx
          obtain ⟨hx0, hx1, hx2⟩ := hx
          go_simp
          try with_reducible rfl
        refine wpAnyH_take (i := 3) (v := ?_) rfl (by kernel_rfl) (by kernel_rfl) (by kernel_rfl) (fun _ _ _ h => h) (Or.inl ⟨by kernel_rfl, ?_⟩) hS ?_
        rotate_left
        · intro wx hx
          obtain ⟨hx0, hx1, hx2⟩ := hx
          go_simp
          try with_reducible rfl
        refine wpAnyH_take (i := 4) (v := ?_) rfl (by kernel_rfl) (by kernel_rfl) (by kernel_rfl) (fun _ _ _ h => h) (Or.inl ⟨by kernel_rfl, ?_⟩) hS ?_
        rotate_left
        · intro wx hx
          obtain ⟨hx0, hx1, hx2⟩ := hx
          go_simp
          try with_reducible rfl
        refine wpAnyH_ready (rs := [5]) (by kernel_rfl) (by simp) ?_
        refine AllReadyH.cons rfl (fun K hK => ?_) AllReadyH.nil
        refine step_pdelete _ (by rfl) _ _ (by rfl) g r N (midM m fr to left) (strike left p q) cnt2 (by rfl) (HN.out.1.later (w' := (w1.alloc (.cells #[.int .i64 p, .int .i64 q] 89)).drew) (below_alloc _ _).drew) p q (by rfl) HX.out.1.1.1 HX.out.1.1.2 ?_
        intro w3 cnt3 hPR3 hle3 hg3
        have hsam3 := (HN.out.2.later (x' := (w1.alloc (.cells #[.int .i64 p, .int .i64 q] 89)).drew) (below_alloc _ _).drew).step hg3 (fun j e => by simp at e; omega)
        have hS' : DelBox b g w1.heap.size p q w3 := ⟨(World.cell?_of_block (a := ⟨b, 0, none⟩) (hg3.block b (by simp; omega) (by simp; omega))).trans hS.1, (World.cell?_of_block (a := ⟨w1.heap.size, 0, none⟩) (hg3.block w1.heap.size (by simp) (by simp; omega))).trans hS.2.1, (World.cell?_of_block (a := ⟨w1.heap.size, 1, none⟩) (hg3.block w1.heap.size (by simp) (by simp; omega))).trans hS.2.2⟩
        have HRn : Hid ((PR w3 g r N (midM m fr to (strike (strike left p q) p q)) (strike (strike left p q) p q) cnt3 ∧ Sam w0 w3 (r + 1) g r) ∧ ∀ x y, strike (strike left p q) p q x y = true → (m x y).isSome = true) := ⟨⟨hPR3.congrM (fun x y => midM_drop HIN.out x y) (fun _ _ => rfl), hsam3⟩, fun x y hq => HX.out.2 x y (by unfold strike at hq; simp at hq; exact hq.1)⟩
        have hl3 : cnt3 < wr.rangeLeft g r := Nat.lt_of_le_of_lt hle3 HLT.out
        have HL3 : Hid (cnt3 < wr.rangeLeft g r) := hl3
        go_simp
        refine hK.out _ _ hS' (fun hS => ?_)
        clear hK K hS' hS hPR3 hle3 hg3 hsam3 hl3
        refine wpAnyH_done (by kernel_rfl) ?_ _
        go_simp
        go_wp2
        go_roundw
        case rel => exact ⟨_, _, HRn⟩
        case measure => rw [HRn.out.1.1.left_eq]; exact HL3.out
      · have HI : Hid (decide (p < fr ∨ to ≤ p) = false) := decide_eq_false hin
        have HRn : Hid ((PR (w1.alloc (.cells #[.int .i64 p, .int .i64 q] 89)) g r N (midM m fr to (strike left p q)) (strike left p q) cnt2 ∧ Sam w0 (w1.alloc (.cells #[.int .i64 p, .int .i64 q] 89)) (r + 1) g r) ∧ ∀ x y, strike left p q x y = true → (m x y).isSome = true) := ⟨⟨(HN.out.1.congrM (fun x y => midM_keep HX.out.1.2 hin x y) (fun _ _ => rfl)).later (below_alloc _ _), HN.out.2.later (below_alloc _ _)⟩, fun x y hq => HX.out.2 x y (by unfold strike at hq; simp at hq; exact hq.1)⟩
        clear hin
        go_wp2_with fail
        refine (gone_is p fr to _ _ false HI.out _ HGC.out.1 HGC.out.2).mono ?_
        rintro e w2 ⟨rfl, rfl⟩
        go_wp2
        go_roundw
        case rel => exact ⟨_, _, HRn⟩
        case measure => rw [HRn.out.1.1.left_eq]; exact HLT.out
end Go.Proofs.Ytjhloobjbbdmcai
