/-
  Own text, merged of GrpC, OpenG, TxnA, TxnB, TxnC, TxnI, TxsA, OpenW, ColsZ, PartA, AppR, AddC, ColsM, Lay, KeysB.
-/
import Derived.Test.YtjkchhcnochjlaaGreatDoorPk1
namespace Go.Proofs.YtjkchhcnochjlaaGreatDoor
section
open Go.RowKit
def SmallS (S : Sto) : Prop := S.nc ≤ 1048576 ∧ S.nl ≤ 1048576 ∧ S.nw ≤ 1048576
def BigS (S : Sto) : Prop := S.nc ≤ 9223372036854775807 ∧ S.nl ≤ 9223372036854775807 ∧ S.nw ≤ 9223372036854775807
def sumN (f : Nat → Nat) : Nat → Nat
  | 0 => 0
  | n + 1 => sumN f n + f n
def sizeT (S : Nat → Sto) (i : Nat) : Nat := (S i).nc + (S i).nl + (S i).nw
def SzAns (n : Nat) (S : Nat → Sto) (left r : Int) : Prop := r = -1 ∨ (0 ≤ r ∧ n ≤ 1048576 ∧ ((sumN (sizeT S) n : Nat) : Int) ≤ left ∧ ∀ i, i < n → SmallS (S i))
def Two3 (w : World) (g o g' o' k : Nat) (V U : Nat → Nat → Value) (x : World) : Prop :=
  Below w.heap.size w x ∧ (x.cell? ⟨g, o + k * 3, none⟩ = some (V k 0) ∧ x.cell? ⟨g, o + k * 3 + 1, none⟩ = some (V k 1) ∧ x.cell? ⟨g, o + k * 3 + 2, none⟩ = some (V k 2)) ∧ x.cell? ⟨g', o' + k * 3, none⟩ = some (U k 0) ∧ x.cell? ⟨g', o' + k * 3 + 1, none⟩ = some (U k 1) ∧ x.cell? ⟨g', o' + k * 3 + 2, none⟩ = some (U k 2)
theorem Two3.drew {w x : World} {g o g' o' k : Nat} {V U : Nat → Nat → Value} (h : Two3 w g o g' o' k V U x) : Two3 w g o g' o' k V U x.drew := ⟨below_dr h.1 1, h.2⟩
set_option maxRecDepth 100000 in
set_option maxHeartbeats 4000000 in
theorem eqStoreS_same (n : Nat) (S : Nat → Sto) (V U : Nat → Nat → Value) (va vb : Value) (Ba Bb : Nat) (w : World) (ha : Stos w Ba n S V va) (hb : Stos w Bb n S U vb) (hn : n ≤ 1048576) (hs : ∀ i, i < n → SmallS (S i)) :
    Calls Tryz.prog 73 #[va, vb] w fun e w' => e = .returned (.bool true) ∧ Below w.heap.size w w' := by
  obtain ⟨ao, cp, rfl⟩ := ha.form
  obtain ⟨ao', cp', rfl⟩ := hb.form
  have H : Hid (Stos w Ba n S V (.slice ao n cp)) := ha
  have H' : Hid (Stos w Bb n S U (.slice ao' n cp')) := hb
  have HN : Hid (∀ i, i < n → SmallS (S i)) := hs
  clear ha hb hs
  go_enter Tryz.func73, Tryz.ntmps73
  go_wp2
  go_loopw [5] (fun i wr => ∃ k : Nat, k ≤ n ∧ i = .int .i64 k ∧ Hid (Below w.heap.size w wr)) (fun i _ => n - (intOf i).toNat)
  case atStart => exact ⟨0, Nat.zero_le _, rfl, Below.refl _ _⟩
  case round =>
    obtain ⟨k, hk, rfl, hR⟩ := hrel
    by_cases hlt : k < n
    · obtain ⟨g, o, rfl, _, hg, ⟨c0, c1, c2⟩, sk⟩ := (H.out.later hR.out).at hlt
      obtain ⟨g', o', rfl, _, hg', ⟨c0', c1', c2'⟩, sk'⟩ := (H'.out.later hR.out).at hlt
      have T : Hid (Two3 w g o g' o' k V U wr) := ⟨hR.out, ⟨c0, c1, c2⟩, c0', c1', c2'⟩
      obtain ⟨a0, d0, a1, d1, a2, d2, e0, e1, e2⟩ := sk.form
      obtain ⟨a0', d0', a1', d1', a2', d2', e0', e1', e2'⟩ := sk'.form
      obtain ⟨n0, hn0⟩ : ∃ x, (S k).nc = x := ⟨_, rfl⟩
      obtain ⟨n1, hn1⟩ : ∃ x, (S k).nl = x := ⟨_, rfl⟩
      obtain ⟨n2, hn2⟩ : ∃ x, (S k).nw = x := ⟨_, rfl⟩
      rw [e0, e1, e2, hn0, hn1, hn2] at sk
      rw [e0', e1', e2', hn0, hn1, hn2] at sk'
      rw [hn0] at e0 e0'
      rw [hn1] at e1 e1'
      rw [hn2] at e2 e2'
      have SK : Hid (St wr Ba (S k) (.slice a0 n0 d0) (.slice a1 n1 d1) (.slice a2 n2 d2)) := sk
      have SK' : Hid (St wr Bb (S k) (.slice a0' n0 d0') (.slice a1' n1 d1') (.slice a2' n2 d2')) := sk'
      have hN : Hid (SmallS (S k)) := HN.out k hlt
      clear sk sk' hn0 hn1 hn2 c0 c1 c2 c0' c1' c2'
      go_wp2_with fail
      refine wp_region_held_drew (S := Two3 w g o g' o' k V U) (by kernel_rfl) T.out.drew (fun hS => ?_)
      refine tkH 0 ?_ hS (fun wx hx => ?_) ?_; rotate_left
      · obtain ⟨_, ⟨hx0, hx1, hx2⟩, hx3, hx4, hx5⟩ := hx; rw [e0] at hx0; rw [e1] at hx1; rw [e2] at hx2; rw [e0'] at hx3; rw [e1'] at hx4; rw [e2'] at hx5; go_simp; try with_reducible rfl
      refine tkH 1 ?_ hS (fun wx hx => ?_) ?_; rotate_left
      · obtain ⟨_, ⟨hx0, hx1, hx2⟩, hx3, hx4, hx5⟩ := hx; rw [e0] at hx0; rw [e1] at hx1; rw [e2] at hx2; rw [e0'] at hx3; rw [e1'] at hx4; rw [e2'] at hx5; go_simp; try with_reducible rfl
      refine tkH 2 ?_ hS (fun wx hx => ?_) ?_; rotate_left
      · obtain ⟨_, ⟨hx0, hx1, hx2⟩, hx3, hx4, hx5⟩ := hx; rw [e0] at hx0; rw [e1] at hx1; rw [e2] at hx2; rw [e0'] at hx3; rw [e1'] at hx4; rw [e2'] at hx5; go_simp; try with_reducible rfl
      refine tkH 3 ?_ hS (fun wx hx => ?_) ?_; rotate_left
      · obtain ⟨_, ⟨hx0, hx1, hx2⟩, hx3, hx4, hx5⟩ := hx; rw [e0] at hx0; rw [e1] at hx1; rw [e2] at hx2; rw [e0'] at hx3; rw [e1'] at hx4; rw [e2'] at hx5; go_simp; try with_reducible rfl
      refine tkH 4 ?_ hS (fun wx hx => ?_) ?_; rotate_left
      · obtain ⟨_, ⟨hx0, hx1, hx2⟩, hx3, hx4, hx5⟩ := hx; rw [e0] at hx0; rw [e1] at hx1; rw [e2] at hx2; rw [e0'] at hx3; rw [e1'] at hx4; rw [e2'] at hx5; go_simp; try with_reducible rfl
      refine tkH 5 ?_ hS (fun wx hx => ?_) ?_; rotate_left
      · obtain ⟨_, ⟨hx0, hx1, hx2⟩, hx3, hx4, hx5⟩ := hx; rw [e0] at hx0; rw [e1] at hx1; rw [e2] at hx2; rw [e0'] at hx3; rw [e1'] at hx4; rw [e2'] at hx5; go_simp; try with_reducible rfl
      refine tkH 6 ?_ hS (fun wx hx => ?_) ?_; rotate_left
      · obtain ⟨_, ⟨hx0, hx1, hx2⟩, hx3, hx4, hx5⟩ := hx; rw [e0] at hx0; rw [e1] at hx1; rw [e2] at hx2; rw [e0'] at hx3; rw [e1'] at hx4; rw [e2'] at hx5; go_simp; try with_reducible rfl
      refine tkH 7 ?_ hS (fun wx hx => ?_) ?_; rotate_left
      · obtain ⟨_, ⟨hx0, hx1, hx2⟩, hx3, hx4, hx5⟩ := hx; rw [e0] at hx0; rw [e1] at hx1; rw [e2] at hx2; rw [e0'] at hx3; rw [e1'] at hx4; rw [e2'] at hx5; go_simp; try with_reducible rfl
      refine rdH 8 (fun K hK => ?_)
      go_simp
      go_wp2_with fail
      refine (eqStore_same (S k) _ _ _ _ _ _ Ba Bb _ (SK.out.later (below_dr (Below.refl _ _) 1)) (SK'.out.later (below_dr (Below.refl _ _) 1)) hN.out.1 hN.out.2.1 hN.out.2.2).mono ?_
      rintro e w1 ⟨rfl, q1⟩
      have hg2 : g < wr.heap.size := hg
      have hS' : Two3 w g o g' o' k V U w1 := by
        obtain ⟨hB, ⟨x0, x1, x2⟩, x3, x4, x5⟩ := hS
        exact ⟨hB.trans (q1.mono hB.size), ⟨(q1.cell (p := ⟨g, o + k * 3, none⟩) hg).trans x0, (q1.cell (p := ⟨g, o + k * 3 + 1, none⟩) hg).trans x1, (q1.cell (p := ⟨g, o + k * 3 + 2, none⟩) hg).trans x2⟩, (q1.cell (p := ⟨g', o' + k * 3, none⟩) hg').trans x3, (q1.cell (p := ⟨g', o' + k * 3 + 1, none⟩) hg').trans x4, (q1.cell (p := ⟨g', o' + k * 3 + 2, none⟩) hg').trans x5⟩
      clear q1
      go_wp2_with fail
      refine hK.out _ _ hS' (fun hS => ?_)
      clear hK K hS' T
      refine tkH 9 ?_ hS (fun wx hx => ?_) ?_; rotate_left
      · obtain ⟨_, ⟨hx0, hx1, hx2⟩, hx3, hx4, hx5⟩ := hx; rw [e0] at hx0; rw [e1] at hx1; rw [e2] at hx2; rw [e0'] at hx3; rw [e1'] at hx4; rw [e2'] at hx5; go_simp; try with_reducible rfl
      refine wpAnyH_done (by kernel_rfl) ?_ _
      have HB : Hid (Below w.heap.size w w1) := hS.1
      clear hS hR SK SK'
      go_simp
      go_wp2
      go_roundw
      case rel => exact ⟨k + 1, by omega, by go_num, HB⟩
      case measure => simp [intOf]; omega
    · obtain rfl : k = n := by omega
      go_wp2
      go_ret
      exact ⟨rfl, hR.out⟩
end

section
open Go.RowKit
theorem Blk2.set0 {x : World} {b : Nat} {a0 a1 : Value} (h : Blk2 x b a0 a1) (u : Value) : Blk2 (x.setCell ⟨b, 0, none⟩ u) b u a1 := by
  obtain ⟨⟨h0, h1⟩, f0, f1⟩ := h
  exact ⟨⟨World.cell?_setCell_same _ _ _ h0, (World.cell?_setCell_other _ _ _ _ (by simp)).trans h1⟩, by simpa using f0, by simpa using f1⟩
theorem Blk2.set1 {x : World} {b : Nat} {a0 a1 : Value} (h : Blk2 x b a0 a1) (u : Value) : Blk2 (x.setCell ⟨b, 1, none⟩ u) b a0 u := by
  obtain ⟨⟨h0, h1⟩, f0, f1⟩ := h
  exact ⟨⟨(World.cell?_setCell_other _ _ _ _ (by simp)).trans h0, World.cell?_setCell_same _ _ _ h1⟩, by simpa using f0, by simpa using f1⟩
theorem Blk2.setFar {x : World} {b : Nat} {a0 a1 : Value} (h : Blk2 x b a0 a1) {p : Addr} (hp : b ≠ p.block) (u : Value) : Blk2 (x.setCell p u) b a0 a1 := h.kept (Below.heap_setCell x p u b hp)
theorem FillS.kept {w w' : World} {g n k : Nat} {U : Nat → Nat → Value} (h : FillS w g n k U) (hs : w.heap.size ≤ w'.heap.size) (hb : w'.heap[g]? = w.heap[g]?) : FillS w' g n k U := by
  obtain ⟨h1, h2, h3⟩ := h
  have hc : ∀ p, w'.cell? ⟨g, p, none⟩ = w.cell? ⟨g, p, none⟩ := fun p => World.cell?_of_block (w := w) hb
  have hf : ∀ p, w'.frozen? ⟨g, p, none⟩ = w.frozen? ⟨g, p, none⟩ := fun p => World.frozen?_of_block (w := w) hb
  refine ⟨Nat.lt_of_lt_of_le h1 hs, fun p hp => ⟨?_, (hf p).trans (h2 p hp).2⟩, fun i hi => ?_⟩
  · obtain ⟨u, hu⟩ := (h2 p hp).1
    exact ⟨u, (hc p).trans hu⟩
  · obtain ⟨c0, c1, c2⟩ := h3 i hi
    exact ⟨(hc _).trans c0, (hc _).trans c1, (hc _).trans c2⟩
theorem FillS.far {w : World} {g n k : Nat} {U : Nat → Nat → Value} (h : FillS w g n k U) {a : Addr} (ha : g ≠ a.block) (u : Value) : FillS (w.setCell a u) g n k U := h.kept (by simp [World.setCell]) (Below.heap_setCell w a u g ha)

/-- Ranges and stores, as they came in or were laid. -/
def Grs (w : World) (B nr : Nat) (F : Nat → Int) (n : Nat) (S : Nat → Sto) (V : Nat → Nat → Value) (vr vs : Value) : Prop := Row w B 3 nr F vr ∧ Stos w B n S V vs
theorem Grs.later {w w' : World} {B nr : Nat} {F : Nat → Int} {n : Nat} {S : Nat → Sto} {V : Nat → Nat → Value} {vr vs : Value} (h : Grs w B nr F n S V vr vs) (hb : Below w.heap.size w w') : Grs w' B nr F n S V vr vs := ⟨h.1.later hb, h.2.later hb⟩
theorem Grs.alloc {w : World} {B nr : Nat} {F : Nat → Int} {n : Nat} {S : Nat → Sto} {V : Nat → Nat → Value} {vr vs : Value} (h : Grs w B nr F n S V vr vs) (o : Obj) : Grs (w.alloc o) B nr F n S V vr vs := ⟨h.1.alloc o, h.2.alloc o⟩
theorem Grs.mono {w : World} {B B' nr : Nat} {F : Nat → Int} {n : Nat} {S : Nat → Sto} {V : Nat → Nat → Value} {vr vs : Value} (h : Grs w B nr F n S V vr vs) (hB : B' ≤ B) : Grs w B' nr F n S V vr vs := ⟨h.1.mono hB, h.2.mono hB⟩
theorem Grs.form {w : World} {B nr : Nat} {F : Nat → Int} {n : Nat} {S : Nat → Sto} {V : Nat → Nat → Value} {vr vs : Value} (h : Grs w B nr F n S V vr vs) : ∃ a0 c0 a1 c1, vr = .slice a0 nr c0 ∧ vs = .slice a1 n c1 := by
  obtain ⟨a0, c0, h0⟩ := h.1.form
  obtain ⟨a1, c1, h1⟩ := h.2.form
  exact ⟨a0, c0, a1, c1, h0, h1⟩
/-- Ranges and stores in new memory, of which all may be written; their lists lie apart from each other. -/
def FineG (w : World) (lo nr : Nat) (F : Nat → Int) (n : Nat) (S : Nat → Sto) (ra : Option Addr) (rc g : Nat) (U : Nat → Nat → Value) (z : Nat → Nat) : Prop :=
  (Row w lo 3 nr F (.slice ra nr rc) ∧ Free w (nr * 3) (.slice ra nr rc) ∧ (0 < nr → ∀ k, (Value.slice ra nr rc).ownBlock = some k → k < g)) ∧ lo ≤ g ∧ FillS w g n n U ∧ Fine w z n S U ∧ z 0 = g + 1 ∧ (∀ i, i ≤ n → g < z i) ∧ z n ≤ w.heap.size
theorem FineG.grs {w : World} {lo nr : Nat} {F : Nat → Int} {n : Nat} {S : Nat → Sto} {ra : Option Addr} {rc g : Nat} {U : Nat → Nat → Value} {z : Nat → Nat} (h : FineG w lo nr F n S ra rc g U z) : Grs w lo nr F n S U (.slice ra nr rc) (.slice (some ⟨g, 0, none⟩) n n) :=
  ⟨h.1.1, MadeS.stos h.2.1 h.2.2.1 h.2.2.2.1 h.2.2.2.2.2.1⟩
theorem FineG.later {w w' : World} {lo nr : Nat} {F : Nat → Int} {n : Nat} {S : Nat → Sto} {ra : Option Addr} {rc g : Nat} {U : Nat → Nat → Value} {z : Nat → Nat} (h : FineG w lo nr F n S ra rc g U z) (hb : Below w.heap.size w w') : FineG w' lo nr F n S ra rc g U z := by
  obtain ⟨⟨h1, h2, h3⟩, h4, h5, h6, h7, h8, h9⟩ := h
  exact ⟨⟨h1.later hb, h2.ofRow h1 hb, h3⟩, h4, h5.later hb, h6.later hb, h7, h8, Nat.le_trans h9 hb.size⟩
/-- What toGroups answers. -/
def NewGr (w : World) (nr : Nat) (F : Nat → Int) (n : Nat) (S : Nat → Sto) (e : Ending) (w' : World) : Prop :=
  ∃ ra rc g U z, e = .returned (.agg #[.slice ra nr rc, .slice (some ⟨g, 0, none⟩) n n]) ∧ FineG w' w.heap.size nr F n S ra rc g U z ∧ Below w.heap.size w w'
set_option maxRecDepth 10000 in
set_option maxHeartbeats 2000000 in
theorem toGroups_any (nr : Nat) (F : Nat → Int) (n : Nat) (S : Nat → Sto) (V : Nat → Nat → Value) (vr vs : Value) (B : Nat) (w : World) (h : Grs w B nr F n S V vr vs) (hr : nr ≤ 1048576) (hn : n ≤ 1048576) (hs : ∀ i, i < n → SmallS (S i)) :
    Calls Tryz.prog 29 #[.agg #[vr, vs]] w (NewGr w nr F n S) := by
  obtain ⟨a0, c0, a1, c1, rfl, rfl⟩ := h.form
  have H : Hid (Grs w B nr F n S V (.slice a0 nr c0) (.slice a1 n c1)) := h
  have HN : Hid (∀ i, i < n → SmallS (S i)) := hs
  clear h hs
  go_enter Tryz.func29, Tryz.ntmps29
  go_wp2_with fail
  refine (toRangeS_any _ B _ _ _ (((H.out.1.alloc _).alloc _).alloc _) hr).mono ?_
  rintro e w1 ⟨u0, rfl, r0, f0, q1⟩
  obtain ⟨b0, d0, rfl⟩ := r0.form
  have k1 := (((Blk2.new w (.slice a0 nr c0) (.slice a1 n c1) 27).alloc (.cells #[.slice none 0 0, .slice none 0 0] 42)).alloc (.cells #[.slice none 0 0, .slice none 0 0] 42)).later q1
  have k2 := ((Blk2.new (w.alloc (.cells #[.slice a0 nr c0, .slice a1 n c1] 27)) (.slice none 0 0) (.slice none 0 0) 42).alloc (.cells #[.slice none 0 0, .slice none 0 0] 42)).later q1
  have k3 := (Blk2.new ((w.alloc (.cells #[.slice a0 nr c0, .slice a1 n c1] 27)).alloc (.cells #[.slice none 0 0, .slice none 0 0] 42)) (.slice none 0 0) (.slice none 0 0) 42).later q1
  simp only [World.size_alloc] at k2 k3 r0 q1
  have B1 : Hid (Below w.heap.size w w1) := (((below_alloc w _).alloc (by simp) _).alloc (by simp; omega) _).trans (q1.mono (by omega))
  have P1 : Hid (Blk2 w1 w.heap.size (.slice a0 nr c0) (.slice a1 n c1) ∧ Blk2 w1 (w.heap.size + 1) (.slice none 0 0) (.slice none 0 0) ∧ Blk2 w1 (w.heap.size + 2) (.slice none 0 0) (.slice none 0 0)) := ⟨k1, k2, k3⟩
  have R1 : Hid (Row w1 (w.heap.size + 3) 3 nr F (.slice b0 nr d0) ∧ Free w1 (nr * 3) (.slice b0 nr d0)) := ⟨r0, f0⟩
  obtain ⟨⟨_, x1⟩, _⟩ := k1
  obtain ⟨⟨y0, _⟩, z0, _⟩ := k3
  clear k2 r0 f0 q1
  go_wp2_with fail
  have B1' : Hid (Below w.heap.size w (w1.setCell ⟨w.heap.size + 2, 0, none⟩ (.slice b0 nr d0))) := B1.out.setCell (by simp) _
  refine (toStoreS_any n S V _ B _ (H.out.2.later B1'.out) hn (fun i hi => HN.out i hi)).mono ?_
  rintro e w2 ⟨g, U, z, rfl, hg, F2, G2, q2⟩
  have z1 : w.heap.size + 3 ≤ w1.heap.size := P1.out.2.2.lt
  have sz1 : (w1.setCell ⟨w.heap.size + 2, 0, none⟩ (.slice b0 nr d0)).heap.size = w1.heap.size := by simp [World.setCell]
  have k2 := (P1.out.2.1.setFar (p := ⟨w.heap.size + 2, 0, none⟩) (by simp) (.slice b0 nr d0)).later q2
  have k3 := (P1.out.2.2.set0 (.slice b0 nr d0)).later q2
  have hgg : w1.heap.size ≤ g := by have := hg.1; rw [sz1] at this; exact this
  have R2 : Hid (FineG w2 (w.heap.size + 3) nr F n S b0 d0 g U z) :=
    have e := R1.out.1.far (a := ⟨w.heap.size + 2, 0, none⟩) (Or.inl (by simp)) (.slice b0 nr d0)
    ⟨⟨e.later q2, (R1.out.2.far _ _).ofRow e q2, fun hn k hk => by have := (R1.out.1.lt hn k hk).2; omega⟩, by omega, F2, G2⟩
  have B2 : Hid (Below w.heap.size w w2) := B1'.out.trans (q2.mono (by have := B1'.out.size; omega))
  have hgs : Hid (w.heap.size + 3 ≤ g) := by unfold Hid; omega
  clear x1 y0 z0 q2 B1 B1' P1 R1 z1 sz1 F2 G2 hg hgg
  obtain ⟨⟨x0, x1⟩, y0, y1⟩ := k2
  obtain ⟨⟨p0, p1⟩, q0, q1⟩ := k3
  go_wp2
  refine bodyPost_ret (v := .agg #[.slice b0 nr d0, .slice (some ⟨g, 0, none⟩) n n]) (by simp [results, Tryz.results29, go_sem, x0, x1]) rfl ⟨b0, d0, g, U, z, rfl, ?_, ?_⟩
  · obtain ⟨⟨h1, h2, h3⟩, h4, h5, h6, h7, h8, h9⟩ := R2.out
    have hz : ∀ i, i < n → w.heap.size + 3 ≤ z i := fun i hi => by have := h8 i (by omega); have := hgs.out; omega
    have far : ∀ (a : Nat), a < w.heap.size + 3 → ∀ i, i < n → a < z i := fun a ha i hi => by have := hz i hi; omega
    refine ⟨⟨(((h1.far (Or.inl (by simp)) _).far (Or.inl (by simp)) _).far (Or.inl (by simp)) _).mono (by omega), ((h2.far _ _).far _ _).far _ _, h3⟩, by omega, ((h5.far (by simp; omega) _).far (by simp; omega) _).far (by simp; omega) _, ((h6.far (far _ (by simp)) _).far (far _ (by simp)) _).far (far _ (by simp)) _, h7, h8, by simpa [World.setCell] using h9⟩
  · exact ((B2.out.setCell (by simp; omega) _).setCell (by simp) _).setCell (by simp) _
set_option maxHeartbeats 1000000 in
theorem eqGroups_same (nr : Nat) (F : Nat → Int) (n : Nat) (S : Nat → Sto) (V U : Nat → Nat → Value) (vr vs ur us : Value) (B B' : Nat) (w : World) (h : Grs w B nr F n S V vr vs) (h' : Grs w B' nr F n S U ur us) (hr : nr ≤ 1048576) (hn : n ≤ 1048576) (hs : ∀ i, i < n → SmallS (S i)) :
    Calls Tryz.prog 40 #[.agg #[vr, vs], .agg #[ur, us]] w fun e w' => e = .returned (.bool true) ∧ Below w.heap.size w w' := by
  obtain ⟨a0, c0, a1, c1, rfl, rfl⟩ := h.form
  obtain ⟨b0, d0, b1, d1, rfl, rfl⟩ := h'.form
  have H : Hid (Grs w B nr F n S V (.slice a0 nr c0) (.slice a1 n c1)) := h
  have H' : Hid (Grs w B' nr F n S U (.slice b0 nr d0) (.slice b1 n d1)) := h'
  have HN : Hid (∀ i, i < n → SmallS (S i)) := hs
  clear h h' hs
  go_enter Tryz.func40, Tryz.ntmps40
  go_wp2_with fail
  refine (eqRangeS_same _ _ B B' _ _ _ ((H.out.1.alloc _).alloc _) ((H'.out.1.alloc _).alloc _) hr).mono ?_
  rintro e w1 ⟨rfl, q1⟩
  have k1 := ((Blk2.new w (.slice a0 nr c0) (.slice a1 n c1) 42).alloc (.cells #[.slice b0 nr d0, .slice b1 n d1] 42)).later q1
  have k2 := (Blk2.new (w.alloc (.cells #[.slice a0 nr c0, .slice a1 n c1] 42)) (.slice b0 nr d0) (.slice b1 n d1) 42).later q1
  simp only [World.size_alloc] at k2 q1
  have B1 : Hid (Below w.heap.size w w1) := ((below_alloc w _).alloc (by simp) _).trans (q1.mono (by omega))
  obtain ⟨⟨_, x1⟩, _⟩ := k1
  obtain ⟨⟨_, y1⟩, _⟩ := k2
  clear q1
  go_wp2_with fail
  refine (eqStoreS_same n S V U _ _ B B' _ (H.out.2.later B1.out) (H'.out.2.later B1.out) hn HN.out).mono ?_
  rintro e w2 ⟨rfl, q2⟩
  have B2 : Hid (Below w.heap.size w w2) := B1.out.trans (q2.mono B1.out.size)
  clear q2 x1 y1
  go_wp2
  go_ret
  exact ⟨rfl, B2.out⟩
end
end Go.Proofs.YtjkchhcnochjlaaGreatDoor

namespace Go.Proofs.YtjkchhcnochjlaaGreatDoor
section
open Go.ChangeShapes Go.WideShapes Go.ChangeAt Go.RowKit Go.Joins
end

section
open Go.ChangeShapes Go.WideShapes Go.ChangeAt Go.RowKit Go.Joins Go.Deep
instance : Inhabited Sto := ⟨⟨0, fun _ => 0, 0, fun _ => 0, 0, fun _ => 0⟩⟩
set_option maxRecDepth 100000 in
theorem open_stos {H : Type} {enc : TypeId × Value → H} {w : World} {base : Nat} {spare : Nat → Bool} {held : Bool} {fuel : Nat} {v : Value} {x : DataW H × List MemPlace}
    (h : DataW.trod enc Tryz.prog w base spare held fuel 25 [v] = some x) :
    ∃ n S V, Stos w base n S V v ∧ n ≤ maxLen ∧ ∀ i, i < n → (S i).nc ≤ maxLen ∧ (S i).nl ≤ maxLen ∧ (S i).nw ≤ maxLen := by
  rcases open_slice Tryz.underlying25 h with ⟨h0, _⟩ | ⟨a, len, cap, q, n, D, Pl, hv, hb, hl, hm, hmm, rfl, hx⟩
  · simp only [List.cons.injEq, and_true] at h0
    subst h0
    exact ⟨0, fun _ => default, fun _ _ => .bool true, ⟨⟨_, _, rfl, fun h => absurd h (Nat.lt_irrefl 0)⟩, fun i hi => absurd hi (Nat.not_lt_zero i)⟩, Nat.zero_le _, fun i hi => absurd hi (Nat.not_lt_zero i)⟩
  simp only [List.cons.injEq, and_true] at hv
  subst hv
  have hlq : len ≤ q := by rw [hmm]; split <;> omega
  have hce : Tryz.prog.cellsOf 149 = 3 := by kernel_rfl
  have each : ∀ i, i < len → ∃ y : Sto × (Nat → Value), ((w.cell? (a.add (i * 3)) = some (y.2 0) ∧ w.cell? (a.add (i * 3 + 1)) = some (y.2 1) ∧ w.cell? (a.add (i * 3 + 2)) = some (y.2 2)) ∧ St w base y.1 (y.2 0) (y.2 1) (y.2 2)) ∧ y.1.nc ≤ maxLen ∧ y.1.nl ≤ maxLen ∧ y.1.nw ≤ maxLen := by
    intro i hi
    obtain ⟨cs', h1, h2⟩ := hx i (by omega)
    rw [hce] at h1
    obtain ⟨_, hlen, hcell⟩ := World.cells?_some h1
    obtain ⟨xs, k, hk, hxy, _, hxl, hf⟩ := DataW.trod_struct Tryz.underlying149 h2
    match cs', hlen with
    | [u0, u1, u2], _ =>
      have t0 : DataW.trod enc Tryz.prog w base spare held k 145 (List.take (Tryz.prog.cellsOf 145) (List.drop 0 [u0, u1, u2])) = xs[0]? := hf 0 _ rfl
      have t1 : DataW.trod enc Tryz.prog w base spare held k 146 (List.take (Tryz.prog.cellsOf 146) (List.drop 1 [u0, u1, u2])) = xs[1]? := hf 1 _ rfl
      have t2 : DataW.trod enc Tryz.prog w base spare held k 147 (List.take (Tryz.prog.cellsOf 147) (List.drop 2 [u0, u1, u2])) = xs[2]? := hf 2 _ rfl
      rw [show Tryz.prog.cellsOf 145 = 1 by kernel_rfl] at t0
      rw [show Tryz.prog.cellsOf 146 = 1 by kernel_rfl] at t1
      rw [show Tryz.prog.cellsOf 147 = 1 by kernel_rfl] at t2
      simp only [List.drop_zero, List.drop_succ_cons, List.take_succ_cons, List.take_zero] at t0 t1 t2
      obtain ⟨z0, hz0⟩ : ∃ z, xs[0]? = some z := ⟨xs[0]'(by rw [hxl]; decide), by simp⟩
      obtain ⟨z1, hz1⟩ : ∃ z, xs[1]? = some z := ⟨xs[1]'(by rw [hxl]; decide), by simp⟩
      obtain ⟨z2, hz2⟩ : ∃ z, xs[2]? = some z := ⟨xs[2]'(by rw [hxl]; decide), by simp⟩
      rw [hz0] at t0
      rw [hz1] at t1
      rw [hz2] at t2
      obtain ⟨n0, F0, r0, l0, _⟩ := open_row (m := 3) Tryz.underlying145 Tryz.underlying248 (by kernel_rfl) (by decide) rfl (fun j f hf => by
        match j, hf with
        | 0, hf => cases hf; exact ⟨rfl, by kernel_rfl, Tryz.underlying2⟩
        | 1, hf => cases hf; exact ⟨rfl, by kernel_rfl, Tryz.underlying2⟩
        | 2, hf => cases hf; exact ⟨rfl, by kernel_rfl, Tryz.underlying2⟩) t0
      obtain ⟨n1, F1, r1, l1, _⟩ := open_row (m := 5) Tryz.underlying146 Tryz.underlying250 (by kernel_rfl) (by decide) rfl (fun j f hf => by
        match j, hf with
        | 0, hf => cases hf; exact ⟨rfl, by kernel_rfl, Tryz.underlying2⟩
        | 1, hf => cases hf; exact ⟨rfl, by kernel_rfl, Tryz.underlying2⟩
        | 2, hf => cases hf; exact ⟨rfl, by kernel_rfl, Tryz.underlying2⟩
        | 3, hf => cases hf; exact ⟨rfl, by kernel_rfl, Tryz.underlying2⟩
        | 4, hf => cases hf; exact ⟨rfl, by kernel_rfl, Tryz.underlying2⟩) t1
      obtain ⟨n2, F2, r2, l2, _⟩ := open_row (m := 4) Tryz.underlying147 Tryz.underlying252 (by kernel_rfl) (by decide) rfl (fun j f hf => by
        match j, hf with
        | 0, hf => cases hf; exact ⟨rfl, by kernel_rfl, Tryz.underlying2⟩
        | 1, hf => cases hf; exact ⟨rfl, by kernel_rfl, Tryz.underlying2⟩
        | 2, hf => cases hf; exact ⟨rfl, by kernel_rfl, Tryz.underlying2⟩
        | 3, hf => cases hf; exact ⟨rfl, by kernel_rfl, Tryz.underlying2⟩) t2
      have e0 := hcell 0 (by decide)
      have e1 := hcell 1 (by decide)
      have e2 := hcell 2 (by decide)
      rw [add_add] at e0 e1 e2
      refine ⟨(⟨n0, F0, n1, F1, n2, F2⟩, fun j => if j = 0 then u0 else if j = 1 then u1 else u2), ⟨⟨?_, ?_, ?_⟩, r0, r1, r2⟩, l0, l1, l2⟩
      · exact e0
      · exact e1
      · exact e2
  obtain ⟨Y, hY⟩ := choose_lt (α := Sto × (Nat → Value)) each
  refine ⟨len, fun i => (Y i).1, fun i j => (Y i).2 j, ⟨⟨_, _, rfl, fun hn => ?_⟩, fun i hi => (hY i hi).1.2⟩, Nat.le_trans hl hm, fun i hi => (hY i hi).2⟩
  obtain ⟨b, o, s⟩ := a
  have h0 := (hY 0 hn).1.1.1
  obtain rfl : s = none := by simpa [Addr.add] using World.cell?_spot h0
  refine ⟨b, o, rfl, hb, World.block_lt_of_cell? w _ h0, fun i hi => ?_⟩
  obtain ⟨c0, c1, c2⟩ := (hY i hi).1.1
  rw [WideShapes.add_plain] at c0 c1 c2
  exact ⟨c0, c1, c2⟩
end
end Go.Proofs.YtjkchhcnochjlaaGreatDoor

namespace Go.Proofs.YtjkchhcnochjlaaGreatDoor
open Go.RowKit

theorem make_rowT {P : Program} {t e : TypeId} {z : Value} {size bytes : Nat} (ht : P.underlying t = some (.slice e)) (hinfo : (P.info? e).map (fun i => (i.zero, i.size, i.bytes)) = some (some z, size, bytes)) (n : Nat) (hn : bytes * n ≤ 281474976710656) (hm : n ≤ 9223372036854775807) (w : World) :
    (Instr.makeSlice t (.int .i64 (n : Int)) (.int .i64 (n : Int))).run P w = .ok (.slice (some ⟨w.heap.size, 0, none⟩) n n) (w.alloc (.cells (madeCells z.cells (n * size)) e)) := by
  obtain ⟨i, hi, hz, hs, hb⟩ := info_parts hinfo
  have hb' : (i.bytes : Int) * (n : Int) ≤ 281474976710656 := by
    have h : ((i.bytes * n : Nat) : Int) ≤ 281474976710656 := by rw [hb]; omega
    rwa [Int.natCast_mul] at h
  have hr := run_make (P := P) w t e i z ht hi hz .i64 .i64 n n (by omega) (Int.le_refl _) hb' (by omega)
  simp only [Int.toNat_natCast, hs] at hr
  exact hr

theorem info_Item : (Tryz.prog.info? 116).map (fun i => (i.zero, i.size, i.bytes)) = some (some (.agg #[.int .i64 0, .int .i64 0, .int .i64 0]), 3, 24) := by kernel_rfl
set_option maxHeartbeats 400000 in
theorem toItem_any (x0 x1 x2 : Int) (w : World) :
    Calls Tryz.prog 122 #[.agg #[.int .i64 x0, .int .i64 x1, .int .i64 x2]] w fun e w' => e = .returned (.agg #[.int .i64 x0, .int .i64 x1, .int .i64 x2]) ∧ Below w.heap.size w w' := by
  go_enter Tryz.func122, Tryz.ntmps122
  go_wp2
  exact bodyPost_ret (v := .agg #[.int .i64 x0, .int .i64 x1, .int .i64 x2]) (by simp [results, Tryz.results122, go_sem]) rfl ⟨rfl, (((Below.refl _ _).alloc (Nat.le_refl _) _).alloc (by simp) _).alloc (by simp; omega) _⟩
set_option maxHeartbeats 400000 in
theorem toItemS_cap (v : Value) (B n : Nat) (F : Nat → Int) (w : World) (h : Row w B 3 n F v) (hn : n ≤ 1048576) :
    Calls Tryz.prog 89 #[v] w fun e w' => ∃ uo, e = .returned (.slice uo n n) ∧ Row w' w.heap.size 3 n F (.slice uo n n) ∧ Free w' (n * 3) (.slice uo n n) ∧ Below w.heap.size w w' := by
  obtain ⟨ao, cp, rfl⟩ := h.form
  have H : Hid (Row w B 3 n F (.slice ao n cp)) := h
  clear h
  have hmk := make_rowT Tryz.underlying111 info_Item n (by omega) (by omega)
  go_enter Tryz.func89, Tryz.ntmps89
  go_wp2
  go_loopw [4] (fun i wr => ∃ k : Nat, k ≤ n ∧ i = .int .i64 k ∧ Hid (Below w.heap.size w wr ∧ Fill wr w.heap.size 0 (n * 3) (k * 3) F)) (fun i _ => n - (intOf i).toNat)
  case atStart => exact ⟨0, Nat.zero_le _, rfl, below_alloc _ _, by rw [Nat.zero_mul]; exact Fill.made _ _ _ _ _⟩
  case round =>
    obtain ⟨k, hk, rfl, hR⟩ := hrel
    by_cases hlt : k < n
    · obtain ⟨g, o, rfl, _, hg, c0, c1, c2⟩ := H.out.at3 hlt
      have b0 := hR.out.1.cell (p := ⟨g, o + k * 3, none⟩) hg
      rw [c0] at b0
      have b1 := hR.out.1.cell (p := ⟨g, o + k * 3 + 1, none⟩) hg
      rw [c1] at b1
      have b2 := hR.out.1.cell (p := ⟨g, o + k * 3 + 2, none⟩) hg
      rw [c2] at b2
      clear c0 c1 c2
      go_wp2_with fail
      refine (toItem_any _ _ _ _).mono ?_
      rintro e w1 ⟨rfl, q1⟩
      have f1 := hR.out.2.later q1
      obtain ⟨v0, d0, e0⟩ := f1.at (p := k * 3) (by omega)
      obtain ⟨v1, d1, e1⟩ := f1.at (p := k * 3 + 1) (by omega)
      obtain ⟨v2, d2, e2⟩ := f1.at (p := k * 3 + 2) (by omega)
      have HF : Hid (Below w.heap.size w w1 ∧ Fill w1 w.heap.size 0 (n * 3) (k * 3) F) := ⟨hR.out.1.trans (q1.mono hR.out.1.size), f1⟩
      clear q1 f1 b0 b1 b2
      simp only [Nat.zero_add] at d0 e0 d1 e1 d2 e2
      go_wp2
      go_roundw
      case rel =>
        refine ⟨k + 1, by omega, by go_num, (((HF.out.1.setCell (Nat.le_refl _) _).setCell (Nat.le_refl _) _).setCell (Nat.le_refl _) _), ?_⟩
        have hq := (((HF.out.2.put0 (by omega)).put0 (by omega)).put0 (by omega))
        rwa [show k * 3 + 1 + 1 + 1 = (k + 1) * 3 by omega] at hq
      case measure => simp [intOf]; omega
    · obtain rfl : k = n := by omega
      go_wp2
      go_ret
      exact ⟨_, rfl, (hR.out.2.row (Nat.le_refl _) _).1, (hR.out.2.row (B := 0) (Nat.zero_le _) _).2, hR.out.1⟩
set_option maxHeartbeats 400000 in
theorem szItemS_ok (a : Option Addr) (n c : Nat) (left : Int) (w : World) (h : (n : Int) ≤ left) (h2 : left ≤ 1048576) :
    Calls Tryz.prog 77 #[.slice a n c, .int .i64 left] w fun e w' => e = .returned (.int .i64 (left - n)) ∧ w' = w := by
  have d : decide (left - n < 0) = false := decide_eq_false (by omega)
  go_enter Tryz.func77, Tryz.ntmps77
  go_wp2
  go_ret
  exact ⟨rfl, rfl⟩
set_option maxHeartbeats 400000 in
theorem szItemS_no (a : Option Addr) (n c : Nat) (left : Int) (w : World) (h : left < n) (h0 : 0 ≤ left) (h2 : left ≤ 1048576) (hn : n ≤ 9223372036854775807) :
    Calls Tryz.prog 77 #[.slice a n c, .int .i64 left] w fun e w' => e = .returned (.int .i64 (-1)) ∧ w' = w := by
  have d : decide (left - n < 0) = true := decide_eq_true (by omega)
  go_enter Tryz.func77, Tryz.ntmps77
  go_wp2
  go_ret
  exact ⟨rfl, rfl⟩

set_option maxHeartbeats 400000 in
theorem eqItem_same (x0 x1 x2 : Int) (w : World) :
    Calls Tryz.prog 154 #[.agg #[.int .i64 x0, .int .i64 x1, .int .i64 x2], .agg #[.int .i64 x0, .int .i64 x1, .int .i64 x2]] w fun e w' => e = .returned (.bool true) ∧ Below w.heap.size w w' := by
  go_enter Tryz.func154, Tryz.ntmps154
  go_wp2
  go_ret
  exact ⟨rfl, ((Below.refl _ _).alloc (Nat.le_refl _) _).alloc (by simp) _⟩
def TwoItem (w : World) (g o g' o' k : Nat) (F : Nat → Int) (x : World) : Prop := (x.cell? ⟨g, o + k * 3, none⟩ = some (.int .i64 (F (k * 3))) ∧ x.cell? ⟨g, o + k * 3 + 1, none⟩ = some (.int .i64 (F (k * 3 + 1))) ∧ x.cell? ⟨g, o + k * 3 + 2, none⟩ = some (.int .i64 (F (k * 3 + 2))) ∧ x.cell? ⟨g', o' + k * 3, none⟩ = some (.int .i64 (F (k * 3))) ∧ x.cell? ⟨g', o' + k * 3 + 1, none⟩ = some (.int .i64 (F (k * 3 + 1))) ∧ x.cell? ⟨g', o' + k * 3 + 2, none⟩ = some (.int .i64 (F (k * 3 + 2)))) ∧ Below w.heap.size w x
theorem TwoItem.later {w x x' : World} {g o g' o' k : Nat} {F : Nat → Int} (h : TwoItem w g o g' o' k F x) (hg : g < w.heap.size) (hg' : g' < w.heap.size) (hb : Below x.heap.size x x') : TwoItem w g o g' o' k F x' := by
  obtain ⟨⟨hx0, hx1, hx2, hx3, hx4, hx5⟩, hy⟩ := h
  exact ⟨⟨(hb.cell (Nat.lt_of_lt_of_le hg hy.size)).trans hx0, (hb.cell (Nat.lt_of_lt_of_le hg hy.size)).trans hx1, (hb.cell (Nat.lt_of_lt_of_le hg hy.size)).trans hx2, (hb.cell (Nat.lt_of_lt_of_le hg' hy.size)).trans hx3, (hb.cell (Nat.lt_of_lt_of_le hg' hy.size)).trans hx4, (hb.cell (Nat.lt_of_lt_of_le hg' hy.size)).trans hx5⟩, hy.trans (hb.mono hy.size)⟩
set_option maxRecDepth 100000 in
set_option maxHeartbeats 1000000 in
theorem eqItemS_same (va vb : Value) (Ba Bb n : Nat) (F : Nat → Int) (w : World) (ha : Row w Ba 3 n F va) (hb : Row w Bb 3 n F vb) (hn : n ≤ 1048576) :
    Calls Tryz.prog 107 #[va, vb] w fun e w' => e = .returned (.bool true) ∧ Below w.heap.size w w' := by
  obtain ⟨ao, ca, rfl⟩ := ha.form
  obtain ⟨bo, cb, rfl⟩ := hb.form
  have HA : Hid (Row w Ba 3 n F (.slice ao n ca)) := ha
  have HB : Hid (Row w Bb 3 n F (.slice bo n cb)) := hb
  clear ha hb
  go_enter Tryz.func107, Tryz.ntmps107
  go_wp2
  go_loopw [5] (fun i wr => ∃ k : Nat, k ≤ n ∧ i = .int .i64 k ∧ Below w.heap.size w wr) (fun i _ => n - (intOf i).toNat)
  case atStart => exact ⟨0, Nat.zero_le _, rfl, Below.refl _ _⟩
  case round =>
    obtain ⟨k, hk, rfl, hbw⟩ := hrel
    by_cases hlt : k < n
    · obtain ⟨g, o, rfl, _, hg, c0, c1, c2⟩ := HA.out.at3 hlt
      obtain ⟨g', o', rfl, _, hg', d0, d1, d2⟩ := HB.out.at3 hlt
      have h0 : TwoItem w g o g' o' k F wr.drew := ⟨⟨(hbw.cell (p := ⟨g, o + k * 3, none⟩) hg).trans c0, (hbw.cell (p := ⟨g, o + k * 3 + 1, none⟩) hg).trans c1, (hbw.cell (p := ⟨g, o + k * 3 + 2, none⟩) hg).trans c2, (hbw.cell (p := ⟨g', o' + k * 3, none⟩) hg').trans d0, (hbw.cell (p := ⟨g', o' + k * 3 + 1, none⟩) hg').trans d1, (hbw.cell (p := ⟨g', o' + k * 3 + 2, none⟩) hg').trans d2⟩, hbw.drew⟩
      clear c0 d0 c1 d1 c2 d2 hbw
      go_wp2_with fail
      refine wp_region_held_drew (S := TwoItem w g o g' o' k F) (by kernel_rfl) h0 (fun hS => ?_)
      clear h0
      refine tkH 0 ?_ hS (fun wx hx => ?_) ?_; rotate_left
      · obtain ⟨⟨hx0, hx1, hx2, hx3, hx4, hx5⟩, _⟩ := hx; go_simp; try with_reducible rfl
      refine tkH 1 ?_ hS (fun wx hx => ?_) ?_; rotate_left
      · obtain ⟨⟨hx0, hx1, hx2, hx3, hx4, hx5⟩, _⟩ := hx; go_simp; try with_reducible rfl
      refine tkH 2 ?_ hS (fun wx hx => ?_) ?_; rotate_left
      · obtain ⟨⟨hx0, hx1, hx2, hx3, hx4, hx5⟩, _⟩ := hx; go_simp; try with_reducible rfl
      refine tkH 3 ?_ hS (fun wx hx => ?_) ?_; rotate_left
      · obtain ⟨⟨hx0, hx1, hx2, hx3, hx4, hx5⟩, _⟩ := hx; go_simp; try with_reducible rfl
      refine tkH 4 ?_ hS (fun wx hx => ?_) ?_; rotate_left
      · obtain ⟨⟨hx0, hx1, hx2, hx3, hx4, hx5⟩, _⟩ := hx; go_simp; try with_reducible rfl
      refine tkH 5 ?_ hS (fun wx hx => ?_) ?_; rotate_left
      · obtain ⟨⟨hx0, hx1, hx2, hx3, hx4, hx5⟩, _⟩ := hx; go_simp; try with_reducible rfl
      refine tkH 6 ?_ hS (fun wx hx => ?_) ?_; rotate_left
      · obtain ⟨⟨hx0, hx1, hx2, hx3, hx4, hx5⟩, _⟩ := hx; go_simp; try with_reducible rfl
      refine tkH 7 ?_ hS (fun wx hx => ?_) ?_; rotate_left
      · obtain ⟨⟨hx0, hx1, hx2, hx3, hx4, hx5⟩, _⟩ := hx; go_simp; try with_reducible rfl
      refine rdH 8 (fun K hK => ?_)
      go_simp
      go_wp2_with fail
      refine (eqItem_same _ _ _ _).mono ?_
      rintro e w' ⟨rfl, hb⟩
      go_wp2_with fail
      refine hK.out _ _ (hS.later hg hg' hb) (fun hS => ?_)
      clear hK K
      refine tkH 9 ?_ hS (fun wx hx => ?_) ?_; rotate_left
      · obtain ⟨⟨hx0, hx1, hx2, hx3, hx4, hx5⟩, _⟩ := hx; go_simp; try with_reducible rfl
      refine wpAnyH_done (by kernel_rfl) ?_ _
      go_simp
      go_wp2
      go_roundw
      case rel => exact ⟨k + 1, by omega, by go_num, hS.2⟩
      case measure => simp [intOf]; omega
    · go_wp2
      go_ret
      exact ⟨rfl, hbw⟩
end Go.Proofs.YtjkchhcnochjlaaGreatDoor

namespace Go.Proofs.YtjkchhcnochjlaaGreatDoor
open Go.RowKit

/-- Whether one of the first k items has the key. -/
def hasI (F : Nat → Int) (key : Int) : Nat → Bool
  | 0 => false
  | k + 1 => hasI F key k || F (k * 3) == key
theorem hasI_true {F : Nat → Int} {key : Int} : ∀ {n : Nat}, hasI F key n = true ↔ ∃ i, i < n ∧ F (i * 3) = key
  | 0 => ⟨fun h => Bool.noConfusion h, fun h => by obtain ⟨i, hi, _⟩ := h; exact absurd hi (Nat.not_lt_zero i)⟩
  | n + 1 => by
    rw [hasI, Bool.or_eq_true, hasI_true (n := n), beq_iff_eq]
    refine ⟨fun h => ?_, fun ⟨i, hi, e⟩ => ?_⟩
    · rcases h with ⟨i, hi, e⟩ | e
      · exact ⟨i, by omega, e⟩
      · exact ⟨n, by omega, e⟩
    · rcases Nat.lt_or_ge i n with h | h
      · exact Or.inl ⟨i, h, e⟩
      · obtain rfl : i = n := by omega
        exact Or.inr e
/-- What is told of an item. -/
def itemF (k kd v : Int) : Int := if faultOf k ≠ 0 then faultOf k else if ¬ (1 ≤ kd ∧ kd ≤ 3) ∨ ¬ (0 ≤ v ∧ v ≤ 9999) then 3 else if v ≠ 0 ∧ kd ≠ 1 then 1 else 0
/-- What is told of m items from number k on. -/
def itemsF (F : Nat → Int) : Nat → Nat → Int
  | 0, _ => 0
  | m + 1, k => if itemF (F (k * 3)) (F (k * 3 + 1)) (F (k * 3 + 2)) ≠ 0 then itemF (F (k * 3)) (F (k * 3 + 1)) (F (k * 3 + 2)) else if hasI F (F (k * 3)) k = true then 6 else itemsF F m (k + 1)
theorem itemsF_bad {F : Nat → Int} {m k : Nat} {f : Int} (hm : 0 < m) (h : itemF (F (k * 3)) (F (k * 3 + 1)) (F (k * 3 + 2)) = f) (h0 : f ≠ 0) : itemsF F m k = f := by
  obtain ⟨m, rfl⟩ : ∃ q, m = q + 1 := ⟨m - 1, by omega⟩
  rw [itemsF, if_pos (by rw [h]; exact h0), h]
theorem itemsF_two {F : Nat → Int} {m k : Nat} (hm : 0 < m) (h : itemF (F (k * 3)) (F (k * 3 + 1)) (F (k * 3 + 2)) = 0) (h0 : hasI F (F (k * 3)) k = true) : itemsF F m k = 6 := by
  obtain ⟨m, rfl⟩ : ∃ q, m = q + 1 := ⟨m - 1, by omega⟩
  rw [itemsF, if_neg (fun q => q h), if_pos h0]
theorem itemsF_on {F : Nat → Int} {m k : Nat} (hm : 0 < m) (h : itemF (F (k * 3)) (F (k * 3 + 1)) (F (k * 3 + 2)) = 0) (h0 : hasI F (F (k * 3)) k = false) : itemsF F m k = itemsF F (m - 1) (k + 1) := by
  obtain ⟨m, rfl⟩ : ∃ q, m = q + 1 := ⟨m - 1, by omega⟩
  rw [itemsF, if_neg (fun q => q h), if_neg (by rw [h0]; exact Bool.false_ne_true)]; rfl
/-- What is told of a transaction. -/
def txnF (s c u st a : Int) (n : Nat) (F : Nat → Int) : Int :=
  if ¬ (1 ≤ s ∧ s ≤ 100000) ∨ ¬ (0 ≤ c ∧ c ≤ 100000) ∨ ¬ (0 ≤ u ∧ u ≤ 100000) ∨ ¬ (1 ≤ st ∧ st ≤ 7) then 3
  else if n < 1 ∨ 12 < n then 2
  else if itemsF F n 0 ≠ 0 then itemsF F n 0
  else if ¬ (0 ≤ a ∧ a ≤ n) then 3
  else if (st = 2 ∨ st = 3 ∨ st = 4) ∧ c ≤ s ∨ st = 1 ∧ c ≠ 0 then 1 else 0
theorem txnF_range {s c u st a : Int} {n : Nat} {F : Nat → Int} (h : ¬ (1 ≤ s ∧ s ≤ 100000) ∨ ¬ (0 ≤ c ∧ c ≤ 100000) ∨ ¬ (0 ≤ u ∧ u ≤ 100000) ∨ ¬ (1 ≤ st ∧ st ≤ 7)) : txnF s c u st a n F = 3 := by unfold txnF; rw [if_pos h]
/-- The first four numbers are as they should be. -/
def InB (s c u st : Int) : Prop := (1 ≤ s ∧ s ≤ 100000) ∧ (0 ≤ c ∧ c ≤ 100000) ∧ (0 ≤ u ∧ u ≤ 100000) ∧ (1 ≤ st ∧ st ≤ 7)
theorem InB.not {s c u st : Int} (h : InB s c u st) : ¬ (¬ (1 ≤ s ∧ s ≤ 100000) ∨ ¬ (0 ≤ c ∧ c ≤ 100000) ∨ ¬ (0 ≤ u ∧ u ≤ 100000) ∨ ¬ (1 ≤ st ∧ st ≤ 7)) := by
  obtain ⟨h0, h1, h2, h3⟩ := h
  rintro (q | q | q | q)
  · exact q h0
  · exact q h1
  · exact q h2
  · exact q h3
theorem txnF_many {s c u st a : Int} {n : Nat} {F : Nat → Int} (h : InB s c u st) (hn : n < 1 ∨ 12 < n) : txnF s c u st a n F = 2 := by unfold txnF; rw [if_neg h.not, if_pos hn]
theorem txnF_item {s c u st a : Int} {n : Nat} {F : Nat → Int} (h : InB s c u st) (hn : ¬ (n < 1 ∨ 12 < n)) {f : Int} (hf : itemsF F n 0 = f) (h0 : f ≠ 0) : txnF s c u st a n F = f := by unfold txnF; rw [if_neg h.not, if_neg hn, if_pos (by rw [hf]; exact h0), hf]
theorem txnF_at {s c u st a : Int} {n : Nat} {F : Nat → Int} (h : InB s c u st) (hn : ¬ (n < 1 ∨ 12 < n)) (hf : itemsF F n 0 = 0) (ha : ¬ (0 ≤ a ∧ a ≤ n)) : txnF s c u st a n F = 3 := by unfold txnF; rw [if_neg h.not, if_neg hn, if_neg (fun q => q hf), if_pos ha]
theorem txnF_form {s c u st a : Int} {n : Nat} {F : Nat → Int} (h : InB s c u st) (hn : ¬ (n < 1 ∨ 12 < n)) (hf : itemsF F n 0 = 0) (ha : 0 ≤ a ∧ a ≤ n) (hc : (st = 2 ∨ st = 3 ∨ st = 4) ∧ c ≤ s ∨ st = 1 ∧ c ≠ 0) : txnF s c u st a n F = 1 := by unfold txnF; rw [if_neg h.not, if_neg hn, if_neg (fun q => q hf), if_neg (fun q => q ha), if_pos hc]
theorem txnF_ok {s c u st a : Int} {n : Nat} {F : Nat → Int} (h : InB s c u st) (hn : ¬ (n < 1 ∨ 12 < n)) (hf : itemsF F n 0 = 0) (ha : 0 ≤ a ∧ a ≤ n) (hc : ¬ ((st = 2 ∨ st = 3 ∨ st = 4) ∧ c ≤ s ∨ st = 1 ∧ c ≠ 0)) : txnF s c u st a n F = 0 := by unfold txnF; rw [if_neg h.not, if_neg hn, if_neg (fun q => q hf), if_neg (fun q => q ha), if_neg hc]

theorem inT_is (v lo hi : Int) (r : Bool) (hr : decide (lo ≤ v ∧ v ≤ hi) = r) (w : World) :
    Calls Tryz.prog 13 #[.int .i64 v, .int .i64 lo, .int .i64 hi] w fun e w' => e = .returned (.bool r) ∧ w' = w := by
  by_cases h1 : lo ≤ v
  · by_cases h2 : v ≤ hi
    · have d : decide (v ≤ hi) = true := decide_eq_true h2
      rw [decide_eq_true (show lo ≤ v ∧ v ≤ hi from ⟨h1, h2⟩)] at hr
      subst hr
      go_enter Tryz.func13, Tryz.ntmps13
      go_wp2
      go_ret
      exact ⟨rfl, rfl⟩
    · have d : decide (v ≤ hi) = false := decide_eq_false h2
      rw [decide_eq_false (show ¬ (lo ≤ v ∧ v ≤ hi) from fun h => h2 h.2)] at hr
      subst hr
      go_enter Tryz.func13, Tryz.ntmps13
      go_wp2
      go_ret
      exact ⟨rfl, rfl⟩
  · have d : decide (lo ≤ v) = false := decide_eq_false h1
    rw [decide_eq_false (show ¬ (lo ≤ v ∧ v ≤ hi) from fun h => h1 h.1)] at hr
    subst hr
    go_enter Tryz.func13, Tryz.ntmps13
    go_wp2
    go_ret
    exact ⟨rfl, rfl⟩
theorem tsT_is (t : Int) (r : Bool) (hr : decide (1 ≤ t ∧ t ≤ 100000) = r) (w : World) :
    Calls Tryz.prog 78 #[.int .i64 t] w fun e w' => e = .returned (.bool r) ∧ w' = w := by
  have H : Hid (decide (1 ≤ t ∧ t ≤ 100000) = r) := hr
  clear hr
  go_enter Tryz.func78, Tryz.ntmps78
  go_wp2_with fail
  refine (inT_is _ _ _ r H.out _).mono ?_
  rintro e w' ⟨rfl, rfl⟩
  go_wp2
  go_ret
  exact ⟨rfl, rfl⟩
set_option maxHeartbeats 1000000 in
theorem l8Has_is (v : Value) (B n : Nat) (F : Nat → Int) (key : Int) (r : Bool) (hr : hasI F key n = r) (w : World) (h : Row w B 3 n F v) (hn : n ≤ 9223372036854775807) :
    Calls Tryz.prog 84 #[v, .int .i64 key] w fun e w' => e = .returned (.bool r) ∧ w' = w := by
  obtain ⟨ao, cp, rfl⟩ := h.form
  have H : Hid (Row w B 3 n F (.slice ao n cp)) := h
  have HR : Hid (hasI F key n = r) := hr
  clear h hr
  go_enter Tryz.func84, Tryz.ntmps84
  go_wp2
  go_loop [5] (fun i => ∃ k : Nat, k ≤ n ∧ i = .int .i64 k ∧ Hid (hasI F key k = false)) (fun i => n - (intOf i).toNat)
  case atStart => exact ⟨0, Nat.zero_le _, rfl, rfl⟩
  case round =>
    obtain ⟨k, hk, rfl, HS⟩ := hrel
    by_cases hlt : k < n
    case neg =>
      obtain rfl : n = k := by omega
      have E : Hid (r = false) := HR.out.symm.trans HS.out
      clear HS HR
      go_wp2
      go_ret
      exact ⟨by rw [E.out]; rfl, rfl⟩
    obtain ⟨g, o, rfl, _, hg, x0, _, _⟩ := H.out.at3 hlt
    obtain ⟨n0, N0⟩ : ∃ x, F (k * 3) = x := ⟨_, rfl⟩
    rw [N0] at x0
    by_cases hz : n0 = key
    · have E : Hid (r = true) := HR.out.symm.trans (hasI_true.2 ⟨k, hlt, N0.trans hz⟩)
      clear HS HR N0
      subst hz
      go_wp2
      go_ret
      exact ⟨by rw [E.out]; rfl, rfl⟩
    · have E : Hid (hasI F key (k + 1) = false) := by
        unfold Hid
        rw [hasI, HS.out, N0, beq_eq_false_iff_ne.2 hz]; rfl
      have d : (n0 == key) = false := beq_eq_false_iff_ne.2 hz
      clear HS N0 hz
      go_wp2
      go_round
      case rel => exact ⟨k + 1, by omega, by go_num, E⟩
      case measure => simp [intOf]; omega
set_option maxHeartbeats 1000000 in
theorem l8Item_is (k kd v : Int) (w : World) :
    Calls Tryz.prog 83 #[.agg #[.int .i64 k, .int .i64 kd, .int .i64 v]] w fun e w' => e = .returned (.int .i64 (itemF k kd v)) ∧ Below w.heap.size w w' := by
  by_cases hk : faultOf k = 0
  case neg =>
    have d : (faultOf k == 0) = false := beq_eq_false_iff_ne.2 hk
    have E : Hid (itemF k kd v = faultOf k) := by unfold Hid itemF; rw [if_pos hk]
    obtain ⟨f, hf⟩ : ∃ f, faultOf k = f := ⟨_, rfl⟩
    rw [hf] at d E
    have HF : Hid (faultOf k = f) := hf
    clear hk hf
    go_enter Tryz.func83, Tryz.ntmps83
    go_wp2_with fail
    refine (l1Fault_any _ _).mono ?_
    rintro e w1 ⟨rfl, rfl⟩
    rw [HF.out]
    go_wp2
    go_ret
    exact ⟨by rw [E.out]; rfl, below_alloc _ _⟩
  have HK : Hid (faultOf k = 0) := hk
  clear hk
  by_cases h1 : 1 ≤ kd ∧ kd ≤ 3
  case neg =>
    have E : Hid (itemF k kd v = 3) := by unfold Hid itemF; rw [if_neg (fun q => q HK.out), if_pos (Or.inl h1)]
    have D1 : Hid (decide (1 ≤ kd ∧ kd ≤ 3) = false) := decide_eq_false h1
    clear h1
    go_enter Tryz.func83, Tryz.ntmps83
    go_wp2_with fail
    refine (l1Fault_any _ _).mono ?_
    rintro e w1 ⟨rfl, rfl⟩
    rw [HK.out]
    go_wp2_with fail
    refine (inT_is _ _ _ _ D1.out _).mono ?_
    rintro e w1 ⟨rfl, rfl⟩
    go_wp2
    go_ret
    exact ⟨by rw [E.out]; rfl, below_alloc _ _⟩
  have D1 : Hid (decide (1 ≤ kd ∧ kd ≤ 3) = true) := decide_eq_true h1
  by_cases h2 : 0 ≤ v ∧ v ≤ 9999
  case neg =>
    have E : Hid (itemF k kd v = 3) := by unfold Hid itemF; rw [if_neg (fun q => q HK.out), if_pos (Or.inr h2)]
    have D2 : Hid (decide (0 ≤ v ∧ v ≤ 9999) = false) := decide_eq_false h2
    clear h1 h2
    go_enter Tryz.func83, Tryz.ntmps83
    go_wp2_with fail
    refine (l1Fault_any _ _).mono ?_
    rintro e w1 ⟨rfl, rfl⟩
    rw [HK.out]
    go_wp2_with fail
    refine (inT_is _ _ _ _ D1.out _).mono ?_
    rintro e w1 ⟨rfl, rfl⟩
    go_wp2_with fail
    refine (inT_is _ _ _ _ D2.out _).mono ?_
    rintro e w1 ⟨rfl, rfl⟩
    go_wp2
    go_ret
    exact ⟨by rw [E.out]; rfl, below_alloc _ _⟩
  have D2 : Hid (decide (0 ≤ v ∧ v ≤ 9999) = true) := decide_eq_true h2
  have HN : Hid (¬ (¬ (1 ≤ kd ∧ kd ≤ 3) ∨ ¬ (0 ≤ v ∧ v ≤ 9999))) := by
    rintro (q | q)
    · exact q h1
    · exact q h2
  clear h1 h2
  by_cases h3 : v = 0
  · have E : Hid (itemF k kd v = 0) := by unfold Hid itemF; rw [if_neg (fun q => q HK.out), if_neg HN.out, if_neg (fun q => q.1 h3)]
    subst h3
    go_enter Tryz.func83, Tryz.ntmps83
    go_wp2_with fail
    refine (l1Fault_any _ _).mono ?_
    rintro e w1 ⟨rfl, rfl⟩
    rw [HK.out]
    go_wp2_with fail
    refine (inT_is _ _ _ _ D1.out _).mono ?_
    rintro e w1 ⟨rfl, rfl⟩
    go_wp2_with fail
    refine (inT_is _ _ _ _ D2.out _).mono ?_
    rintro e w1 ⟨rfl, rfl⟩
    go_wp2
    go_ret
    exact ⟨by rw [E.out]; rfl, below_alloc _ _⟩
  have d3 : (v != 0) = true := bne_iff_ne.2 h3
  by_cases h4 : kd = 1
  focus
    have E : Hid (itemF k kd v = 0) := by unfold Hid itemF; rw [if_neg (fun q => q HK.out), if_neg HN.out, if_neg (fun q => q.2 h4)]
    subst h4
    clear h3
  rotate_left
  focus
    have E : Hid (itemF k kd v = 1) := by unfold Hid itemF; rw [if_neg (fun q => q HK.out), if_neg HN.out, if_pos ⟨h3, h4⟩]
    have d4 : (kd != 1) = true := bne_iff_ne.2 h4
    clear h3 h4
  rotate_left
  all_goals
    go_enter Tryz.func83, Tryz.ntmps83
    go_wp2_with fail
    refine (l1Fault_any _ _).mono ?_
    rintro e w1 ⟨rfl, rfl⟩
    rw [HK.out]
    go_wp2_with fail
    refine (inT_is _ _ _ _ D1.out _).mono ?_
    rintro e w1 ⟨rfl, rfl⟩
    go_wp2_with fail
    refine (inT_is _ _ _ _ D2.out _).mono ?_
    rintro e w1 ⟨rfl, rfl⟩
    go_wp2
    go_ret
    exact ⟨by rw [E.out]; rfl, below_alloc _ _⟩
end Go.Proofs.YtjkchhcnochjlaaGreatDoor

namespace Go.Proofs.YtjkchhcnochjlaaGreatDoor
open Go.RowKit

/-- Block b holds six cells, none frozen. -/
def Blk6 (x : World) (b : Nat) (a0 a1 a2 a3 a4 a5 : Value) : Prop :=
  (x.cell? ⟨b, 0, none⟩ = some a0 ∧ x.cell? ⟨b, 1, none⟩ = some a1 ∧ x.cell? ⟨b, 2, none⟩ = some a2 ∧ x.cell? ⟨b, 3, none⟩ = some a3 ∧ x.cell? ⟨b, 4, none⟩ = some a4 ∧ x.cell? ⟨b, 5, none⟩ = some a5) ∧
    x.frozen? ⟨b, 0, none⟩ = false ∧ x.frozen? ⟨b, 1, none⟩ = false ∧ x.frozen? ⟨b, 2, none⟩ = false ∧ x.frozen? ⟨b, 3, none⟩ = false ∧ x.frozen? ⟨b, 4, none⟩ = false ∧ x.frozen? ⟨b, 5, none⟩ = false
theorem Blk6.kept {x x' : World} {b : Nat} {a0 a1 a2 a3 a4 a5 : Value} (h : Blk6 x b a0 a1 a2 a3 a4 a5) (hb : x'.heap[b]? = x.heap[b]?) : Blk6 x' b a0 a1 a2 a3 a4 a5 := by
  obtain ⟨⟨h0, h1, h2, h3, h4, h5⟩, f0, f1, f2, f3, f4, f5⟩ := h
  exact ⟨⟨(World.cell?_of_block (w := x) (a := ⟨b, 0, none⟩) hb).trans h0, (World.cell?_of_block (w := x) (a := ⟨b, 1, none⟩) hb).trans h1, (World.cell?_of_block (w := x) (a := ⟨b, 2, none⟩) hb).trans h2, (World.cell?_of_block (w := x) (a := ⟨b, 3, none⟩) hb).trans h3, (World.cell?_of_block (w := x) (a := ⟨b, 4, none⟩) hb).trans h4, (World.cell?_of_block (w := x) (a := ⟨b, 5, none⟩) hb).trans h5⟩,
    (World.frozen?_of_block (w := x) (a := ⟨b, 0, none⟩) hb).trans f0, (World.frozen?_of_block (w := x) (a := ⟨b, 1, none⟩) hb).trans f1, (World.frozen?_of_block (w := x) (a := ⟨b, 2, none⟩) hb).trans f2, (World.frozen?_of_block (w := x) (a := ⟨b, 3, none⟩) hb).trans f3, (World.frozen?_of_block (w := x) (a := ⟨b, 4, none⟩) hb).trans f4, (World.frozen?_of_block (w := x) (a := ⟨b, 5, none⟩) hb).trans f5⟩
theorem Blk6.lt {x : World} {b : Nat} {a0 a1 a2 a3 a4 a5 : Value} (h : Blk6 x b a0 a1 a2 a3 a4 a5) : b < x.heap.size := World.block_lt_of_cell? x _ h.1.1
theorem Blk6.later {x x' : World} {b : Nat} {a0 a1 a2 a3 a4 a5 : Value} (h : Blk6 x b a0 a1 a2 a3 a4 a5) (hb : Below x.heap.size x x') : Blk6 x' b a0 a1 a2 a3 a4 a5 := h.kept (hb.block b h.lt)
theorem Blk6.alloc {x : World} {b : Nat} {a0 a1 a2 a3 a4 a5 : Value} (h : Blk6 x b a0 a1 a2 a3 a4 a5) (o : Obj) : Blk6 (x.alloc o) b a0 a1 a2 a3 a4 a5 := h.later ((Below.refl _ _).alloc (Nat.le_refl _) o)
theorem Blk6.new (w : World) (a0 a1 a2 a3 a4 a5 : Value) (t : TypeId) : Blk6 (w.alloc (.cells #[a0, a1, a2, a3, a4, a5] t)) w.heap.size a0 a1 a2 a3 a4 a5 := by
  refine ⟨⟨World.cell?_alloc_mark w _ _ _ 0, World.cell?_alloc_mark w _ _ _ 1, World.cell?_alloc_mark w _ _ _ 2, World.cell?_alloc_mark w _ _ _ 3, World.cell?_alloc_mark w _ _ _ 4, World.cell?_alloc_mark w _ _ _ 5⟩, ?_, ?_, ?_, ?_, ?_, ?_⟩ <;> simp
theorem Blk6.set5 {x : World} {b : Nat} {a0 a1 a2 a3 a4 a5 : Value} (h : Blk6 x b a0 a1 a2 a3 a4 a5) (u : Value) : Blk6 (x.setCell ⟨b, 5, none⟩ u) b a0 a1 a2 a3 a4 u := by
  obtain ⟨⟨h0, h1, h2, h3, h4, h5⟩, f0, f1, f2, f3, f4, f5⟩ := h
  refine ⟨⟨?_, ?_, ?_, ?_, ?_, World.cell?_setCell_same _ _ _ h5⟩, ?_, ?_, ?_, ?_, ?_, ?_⟩
  · exact (World.cell?_setCell_other _ _ _ _ (by simp)).trans h0
  · exact (World.cell?_setCell_other _ _ _ _ (by simp)).trans h1
  · exact (World.cell?_setCell_other _ _ _ _ (by simp)).trans h2
  · exact (World.cell?_setCell_other _ _ _ _ (by simp)).trans h3
  · exact (World.cell?_setCell_other _ _ _ _ (by simp)).trans h4
  all_goals rw [World.frozen?_setCell]; assumption
theorem below_dt {B : Nat} {a w : World} (h : Below B a w) (q : Nat) : Below B a (w.drewN q) := ⟨h.os, h.tape, h.output, h.size, h.block⟩
/-- A slice is no longer than its room. -/
def CapOk (y : Value) : Prop := ∀ ao n cp, y = .slice ao n cp → n ≤ cp
end Go.Proofs.YtjkchhcnochjlaaGreatDoor

namespace Go.Proofs.YtjkchhcnochjlaaGreatDoor
open Go.RowKit

set_option maxRecDepth 100000 in
set_option maxHeartbeats 2000000 in
theorem toTxn_any (s c u st a : Int) (n : Nat) (F : Nat → Int) (y : Value) (B : Nat) (w : World) (h : Row w B 3 n F y) (hn : n ≤ 1048576) :
    Calls Tryz.prog 57 #[.agg #[.int .i64 s, .int .i64 c, .int .i64 u, .int .i64 st, .int .i64 a, y]] w fun e w' => ∃ jo, e = .returned (.agg #[.int .i64 s, .int .i64 c, .int .i64 u, .int .i64 st, .int .i64 a, .slice jo n n]) ∧ Row w' w.heap.size 3 n F (.slice jo n n) ∧ Free w' (n * 3) (.slice jo n n) ∧ Below w.heap.size w w' := by
  obtain ⟨ao, cp, rfl⟩ := h.form
  have H : Hid (Row w B 3 n F (.slice ao n cp)) := h
  clear h
  go_enter Tryz.func57, Tryz.ntmps57
  go_wp2_with fail
  refine (toItemS_cap _ B n F _ ?_ hn).mono ?_
  · exact ((H.out.alloc _).alloc _).alloc _
  rintro e w1 ⟨jo, rfl, r1, f1, q1⟩
  have k2 := ((Blk6.new (w.alloc (.cells #[.int .i64 s, .int .i64 c, .int .i64 u, .int .i64 st, .int .i64 a, .slice ao n cp] 104)) (.int .i64 0) (.int .i64 0) (.int .i64 0) (.int .i64 0) (.int .i64 0) (.slice none 0 0) 113).alloc (.cells #[.int .i64 s, .int .i64 c, .int .i64 u, .int .i64 st, .int .i64 a, .slice none 0 0] 113)).later q1
  have k3 := (Blk6.new ((w.alloc (.cells #[.int .i64 s, .int .i64 c, .int .i64 u, .int .i64 st, .int .i64 a, .slice ao n cp] 104)).alloc (.cells #[.int .i64 0, .int .i64 0, .int .i64 0, .int .i64 0, .int .i64 0, .slice none 0 0] 113)) (.int .i64 s) (.int .i64 c) (.int .i64 u) (.int .i64 st) (.int .i64 a) (.slice none 0 0) 113).later q1
  simp only [World.size_alloc] at k2 k3 r1 q1
  have B1 : Hid (Below w.heap.size w w1) := (((below_alloc w _).alloc (by simp) _).alloc (by simp; omega) _).trans (q1.mono (by omega))
  have R1 : Hid (Row w1 (w.heap.size + 3) 3 n F (.slice jo n n) ∧ Free w1 (n * 3) (.slice jo n n)) := ⟨r1, f1⟩
  obtain ⟨⟨x0, x1, x2, x3, x4, x5⟩, y0, y1, y2, y3, y4, y5⟩ := k2
  obtain ⟨⟨p0, p1, p2, p3, p4, p5⟩, z0, z1, z2, z3, z4, z5⟩ := k3
  clear q1 r1 f1
  go_wp2
  refine bodyPost_ret (v := .agg #[.int .i64 s, .int .i64 c, .int .i64 u, .int .i64 st, .int .i64 a, .slice jo n n]) (by simp [results, Tryz.results57, go_sem, x0, x1, x2, x3, x4, x5]) rfl ⟨jo, rfl, ?_, ?_, ?_⟩
  · exact (((((((R1.out.1.far (Or.inl (by simp)) _).far (Or.inl (by simp)) _).far (Or.inl (by simp)) _).far (Or.inl (by simp)) _).far (Or.inl (by simp)) _).far (Or.inl (by simp)) _).far (Or.inl (by simp)) _).mono (by omega)
  · exact ((((((R1.out.2.far _ _).far _ _).far _ _).far _ _).far _ _).far _ _).far _ _
  · exact ((((((B1.out.setCell (by simp; omega) _).setCell (by simp) _).setCell (by simp) _).setCell (by simp) _).setCell (by simp) _).setCell (by simp) _).setCell (by simp) _
set_option maxHeartbeats 1000000 in
theorem szTxn_ok (s c u st a : Int) (ao : Option Addr) (n cp : Nat) (left : Int) (w : World) (h : (n : Int) ≤ left) (h2 : left ≤ 1048576) :
    Calls Tryz.prog 45 #[.agg #[.int .i64 s, .int .i64 c, .int .i64 u, .int .i64 st, .int .i64 a, .slice ao n cp], .int .i64 left] w fun e w' => e = .returned (.int .i64 (left - n)) ∧ Below w.heap.size w w' := by
  have d : decide (left - n < 0) = false := decide_eq_false (by omega)
  go_enter Tryz.func45, Tryz.ntmps45
  go_wp2_with fail
  refine (szItemS_ok _ _ _ _ _ h h2).mono ?_
  rintro e w1 ⟨rfl, rfl⟩
  go_wp2
  go_ret
  exact ⟨rfl, below_alloc _ _⟩
set_option maxHeartbeats 1000000 in
theorem szTxn_no (s c u st a : Int) (ao : Option Addr) (n cp : Nat) (left : Int) (w : World) (h : left < n) (h0 : 0 ≤ left) (h2 : left ≤ 1048576) (hn : n ≤ 9223372036854775807) :
    Calls Tryz.prog 45 #[.agg #[.int .i64 s, .int .i64 c, .int .i64 u, .int .i64 st, .int .i64 a, .slice ao n cp], .int .i64 left] w fun e w' => e = .returned (.int .i64 (-1)) ∧ Below w.heap.size w w' := by
  go_enter Tryz.func45, Tryz.ntmps45
  go_wp2_with fail
  refine (szItemS_no _ _ _ _ _ h h0 h2 hn).mono ?_
  rintro e w1 ⟨rfl, rfl⟩
  go_wp2
  go_ret
  exact ⟨rfl, below_alloc _ _⟩
set_option maxHeartbeats 1000000 in
theorem eqTxn_same (s c u st a : Int) (n : Nat) (F : Nat → Int) (y y' : Value) (B B' : Nat) (w : World) (h : Row w B 3 n F y) (h' : Row w B' 3 n F y') (hn : n ≤ 1048576) :
    Calls Tryz.prog 74 #[.agg #[.int .i64 s, .int .i64 c, .int .i64 u, .int .i64 st, .int .i64 a, y], .agg #[.int .i64 s, .int .i64 c, .int .i64 u, .int .i64 st, .int .i64 a, y']] w fun e w' => e = .returned (.bool true) ∧ Below w.heap.size w w' := by
  obtain ⟨ao, cp, rfl⟩ := h.form
  obtain ⟨bo, cq, rfl⟩ := h'.form
  have H : Hid (Row w B 3 n F (.slice ao n cp) ∧ Row w B' 3 n F (.slice bo n cq)) := ⟨h, h'⟩
  clear h h'
  go_enter Tryz.func74, Tryz.ntmps74
  go_wp2_with fail
  refine (eqItemS_same _ _ B B' n F _ ((H.out.1.alloc _).alloc _) ((H.out.2.alloc _).alloc _) hn).mono ?_
  rintro e w1 ⟨rfl, q1⟩
  have Q : Hid (Below w.heap.size w w1) := ((below_alloc _ _).alloc (by simp) _).trans (q1.mono (by simp; omega))
  clear q1
  go_wp2
  go_ret
  exact ⟨rfl, Q.out⟩
theorem capOk_nn (jo : Option Addr) (n : Nat) : CapOk (.slice jo n n) := fun _ _ _ h => by
  simp only [Value.slice.injEq] at h
  omega
end Go.Proofs.YtjkchhcnochjlaaGreatDoor

namespace Go.Proofs.YtjkchhcnochjlaaGreatDoor
open Go.RowKit

/-- A transaction: five numbers, its items. -/
structure Tx where
  s : Int
  c : Int
  u : Int
  st : Int
  a : Int
  m : Nat
  L : Nat → Int
def txV (t : Tx) (v : Value) (j : Nat) : Value := if j = 0 then .int .i64 t.s else if j = 1 then .int .i64 t.c else if j = 2 then .int .i64 t.u else if j = 3 then .int .i64 t.st else if j = 4 then .int .i64 t.a else v
/-- A row of n transactions from block B on: number i is T i, its items are V i. -/
def Txs (w : World) (B n : Nat) (T : Nat → Tx) (V : Nat → Value) (v : Value) : Prop :=
  (∃ ao cp, v = .slice ao n cp ∧ (0 < n → ∃ g o, ao = some ⟨g, o, none⟩ ∧ B ≤ g ∧ g < w.heap.size ∧ ∀ i, i < n → ∀ j, j < 6 → w.cell? ⟨g, o + i * 6 + j, none⟩ = some (txV (T i) (V i) j))) ∧ ∀ i, i < n → Row w B 3 (T i).m (T i).L (V i) ∧ CapOk (V i)
theorem Txs.form {w : World} {B n : Nat} {T : Nat → Tx} {V : Nat → Value} {v : Value} (h : Txs w B n T V v) : ∃ ao cp, v = .slice ao n cp := by
  obtain ⟨⟨ao, cp, rfl, _⟩, _⟩ := h; exact ⟨ao, cp, rfl⟩
theorem Txs.later {w w' : World} {B n : Nat} {T : Nat → Tx} {V : Nat → Value} {v : Value} (h : Txs w B n T V v) (hb : Below w.heap.size w w') : Txs w' B n T V v := by
  obtain ⟨⟨ao, cp, rfl, h1⟩, h2⟩ := h
  refine ⟨⟨ao, cp, rfl, fun hn => ?_⟩, fun i hi => ⟨(h2 i hi).1.later hb, (h2 i hi).2⟩⟩
  obtain ⟨g, o, rfl, hB, hg, hc⟩ := h1 hn
  exact ⟨g, o, rfl, hB, Nat.lt_of_lt_of_le hg hb.size, fun i hi j hj => (hb.cell (p := ⟨g, o + i * 6 + j, none⟩) hg).trans (hc i hi j hj)⟩
theorem Txs.alloc {w : World} {B n : Nat} {T : Nat → Tx} {V : Nat → Value} {v : Value} (h : Txs w B n T V v) (o : Obj) : Txs (w.alloc o) B n T V v := h.later (below_alloc _ _)
theorem Txs.mono {w : World} {B B' n : Nat} {T : Nat → Tx} {V : Nat → Value} {v : Value} (h : Txs w B n T V v) (hB : B' ≤ B) : Txs w B' n T V v := by
  obtain ⟨⟨ao, cp, rfl, h1⟩, h2⟩ := h
  refine ⟨⟨ao, cp, rfl, fun hn => ?_⟩, fun i hi => ⟨(h2 i hi).1.mono hB, (h2 i hi).2⟩⟩
  obtain ⟨g, o, rfl, hb, hg, hc⟩ := h1 hn
  exact ⟨g, o, rfl, by omega, hg, hc⟩
theorem Txs.at {w : World} {B n : Nat} {T : Nat → Tx} {V : Nat → Value} {ao : Option Addr} {cp : Nat} (h : Txs w B n T V (.slice ao n cp)) {i : Nat} (hi : i < n) :
    ∃ g o, ao = some ⟨g, o, none⟩ ∧ B ≤ g ∧ g < w.heap.size ∧ (w.cell? ⟨g, o + i * 6, none⟩ = some (.int .i64 (T i).s) ∧ w.cell? ⟨g, o + i * 6 + 1, none⟩ = some (.int .i64 (T i).c) ∧ w.cell? ⟨g, o + i * 6 + 2, none⟩ = some (.int .i64 (T i).u) ∧ w.cell? ⟨g, o + i * 6 + 3, none⟩ = some (.int .i64 (T i).st) ∧ w.cell? ⟨g, o + i * 6 + 4, none⟩ = some (.int .i64 (T i).a) ∧ w.cell? ⟨g, o + i * 6 + 5, none⟩ = some (V i)) ∧ Row w B 3 (T i).m (T i).L (V i) ∧ CapOk (V i) := by
  obtain ⟨⟨ao', cp', hv, h1⟩, h2⟩ := h
  simp only [Value.slice.injEq] at hv
  obtain ⟨rfl, _, rfl⟩ := hv
  obtain ⟨g, o, ha, hB, hg, hc⟩ := h1 (by omega)
  exact ⟨g, o, ha, hB, hg, ⟨hc i hi 0 (by decide), hc i hi 1 (by decide), hc i hi 2 (by decide), hc i hi 3 (by decide), hc i hi 4 (by decide), hc i hi 5 (by decide)⟩, h2 i hi⟩
theorem Txs.far {w : World} {B n : Nat} {T : Nat → Tx} {V : Nat → Value} {v : Value} (h : Txs w B n T V v) {a : Addr} (ha : a.block < B) (u : Value) : Txs (w.setCell a u) B n T V v := by
  obtain ⟨⟨ao, cp, rfl, h1⟩, h2⟩ := h
  refine ⟨⟨ao, cp, rfl, fun hn => ?_⟩, fun i hi => ⟨(h2 i hi).1.far (Or.inl ha) u, (h2 i hi).2⟩⟩
  obtain ⟨g, o, rfl, hB, hg, hc⟩ := h1 hn
  have hk : ∀ p, (w.setCell a u).cell? ⟨g, p, none⟩ = w.cell? ⟨g, p, none⟩ := fun p => World.cell?_of_block (Below.heap_setCell w a u g (by omega))
  exact ⟨g, o, rfl, hB, by simpa [World.setCell] using hg, fun i hi j hj => (hk _).trans (hc i hi j hj)⟩
/-- The transactions' own items: each may be written, and they lie one behind the other: those of number i from block z i on, below z (i + 1). -/
def FineT (w : World) (z : Nat → Nat) (n : Nat) (T : Nat → Tx) (U : Nat → Value) : Prop :=
  ∀ i, i < n → (Row w (z i) 3 (T i).m (T i).L (U i) ∧ Free w ((T i).m * 3) (U i) ∧ CapOk (U i)) ∧ (0 < (T i).m → ∀ k, (U i).ownBlock = some k → z i ≤ k ∧ k < z (i + 1)) ∧ z i ≤ z (i + 1)
theorem FineT.later {w w' : World} {z : Nat → Nat} {n : Nat} {T : Nat → Tx} {U : Nat → Value} (h : FineT w z n T U) (hb : Below w.heap.size w w') : FineT w' z n T U := fun i hi => by
  obtain ⟨⟨h1, h2, h3⟩, h4⟩ := h i hi
  exact ⟨⟨h1.later hb, h2.ofRow h1 hb, h3⟩, h4⟩
theorem FineT.far {w : World} {z : Nat → Nat} {n : Nat} {T : Nat → Tx} {U : Nat → Value} (h : FineT w z n T U) {a : Addr} (ha : ∀ i, i < n → a.block < z i) (u : Value) : FineT (w.setCell a u) z n T U := fun i hi => by
  obtain ⟨⟨h1, h2, h3⟩, h4⟩ := h i hi
  exact ⟨⟨h1.far (Or.inl (ha i hi)) u, h2.far _ _, h3⟩, h4⟩
def putV (U : Nat → Value) (k : Nat) (u : Value) (i : Nat) : Value := if i = k then u else U i
theorem FineT.put {w : World} {z : Nat → Nat} {k : Nat} {T : Nat → Tx} {U : Nat → Value} (h : FineT w z k T U) {u : Value} {a b : Nat} (hz : z k = a) (hs : Row w a 3 (T k).m (T k).L u ∧ Free w ((T k).m * 3) u ∧ CapOk u) (ho : 0 < (T k).m → ∀ q, u.ownBlock = some q → a ≤ q ∧ q < b) (hab : a ≤ b) : FineT w (fun i => if i = k + 1 then b else z i) (k + 1) T (putV U k u) := fun i hi => by
  by_cases q : i = k
  · subst q
    simp only [putV, if_true, if_neg (show ¬ (i = i + 1) by omega), hz]
    exact ⟨hs, ho, hab⟩
  · have := h i (by omega)
    simp only [putV, if_neg q, if_neg (show ¬ (i = k + 1) by omega), if_neg (show ¬ (i + 1 = k + 1) by omega)]
    exact this
/-- A block of N cells, none frozen, of which those that are D hold X. -/
def Fil (w : World) (g N : Nat) (X : Nat → Value) (D : Nat → Prop) : Prop := g < w.heap.size ∧ ∀ p, p < N → ((∃ u, w.cell? ⟨g, p, none⟩ = some u) ∧ w.frozen? ⟨g, p, none⟩ = false) ∧ (D p → w.cell? ⟨g, p, none⟩ = some (X p))
theorem Fil.later {w w' : World} {g N : Nat} {X : Nat → Value} {D : Nat → Prop} (h : Fil w g N X D) (hb : Below w.heap.size w w') : Fil w' g N X D := by
  refine ⟨Nat.lt_of_lt_of_le h.1 hb.size, fun p hp => ⟨⟨?_, (hb.frozen (p := ⟨g, p, none⟩) h.1).trans (h.2 p hp).1.2⟩, fun d => (hb.cell (p := ⟨g, p, none⟩) h.1).trans ((h.2 p hp).2 d)⟩⟩
  obtain ⟨u, hu⟩ := (h.2 p hp).1.1
  exact ⟨u, (hb.cell (p := ⟨g, p, none⟩) h.1).trans hu⟩
theorem Fil.congr {w : World} {g N : Nat} {X X' : Nat → Value} {D D' : Nat → Prop} (h : Fil w g N X D) (hd : ∀ p, p < N → D' p → D p ∧ X p = X' p) : Fil w g N X' D' :=
  ⟨h.1, fun p hp => ⟨(h.2 p hp).1, fun d => by rw [← (hd p hp d).2]; exact (h.2 p hp).2 (hd p hp d).1⟩⟩
theorem Fil.set {w : World} {g N : Nat} {X : Nat → Value} {D : Nat → Prop} (h : Fil w g N X D) {p : Nat} (hp : p < N) {v : Value} (hv : X p = v) : Fil (w.setCell ⟨g, p, none⟩ v) g N X (fun q => D q ∨ q = p) := by
  obtain ⟨u, hu⟩ := (h.2 p hp).1.1
  have same : (w.setCell ⟨g, p, none⟩ v).cell? ⟨g, p, none⟩ = some v := World.cell?_setCell_same _ _ _ hu
  have other : ∀ q, q ≠ p → (w.setCell ⟨g, p, none⟩ v).cell? ⟨g, q, none⟩ = w.cell? ⟨g, q, none⟩ := fun q hq => World.cell?_setCell_other _ _ _ _ (fun e => hq (congrArg Addr.off e).symm)
  refine ⟨by simpa [World.setCell] using h.1, fun q hq => ⟨⟨?_, by simp only [World.frozen?_setCell]; exact (h.2 q hq).1.2⟩, fun d => ?_⟩⟩
  · by_cases e : q = p
    · subst e; exact ⟨_, same⟩
    · rw [other q e]; exact (h.2 q hq).1.1
  · by_cases e : q = p
    · subst e; rw [same, hv]
    · rw [other q e]; exact (h.2 q hq).2 (d.resolve_right e)
theorem Fil.made (w : World) (z : Array Value) (N : Nat) (e : TypeId) (X : Nat → Value) : Fil (w.alloc (.cells (madeCells z N) e)) w.heap.size N X (fun p => p < 0) := by
  refine ⟨by simp, fun p hp => ⟨⟨⟨(madeCells z N)[p]'(by rw [size_madeCells]; exact hp), ?_⟩, by simp⟩, fun d => absurd d (Nat.not_lt_zero p)⟩⟩
  rw [World.cell?_alloc_mark]
  simp
/-- A block of n transactions of which the first k are laid. -/
def FillT (w : World) (g n k : Nat) (T : Nat → Tx) (U : Nat → Value) : Prop := Fil w g (n * 6) (fun p => txV (T (p / 6)) (U (p / 6)) (p % 6)) (fun p => p < k * 6)
theorem FillT.put {w : World} {g n k : Nat} {T : Nat → Tx} {U : Nat → Value} (h : FillT w g n k T U) (hk : k < n) (u : Value) :
    FillT ((((((w.setCell ⟨g, k * 6, none⟩ (.int .i64 (T k).s)).setCell ⟨g, k * 6 + 1, none⟩ (.int .i64 (T k).c)).setCell ⟨g, k * 6 + 2, none⟩ (.int .i64 (T k).u)).setCell ⟨g, k * 6 + 3, none⟩ (.int .i64 (T k).st)).setCell ⟨g, k * 6 + 4, none⟩ (.int .i64 (T k).a)).setCell ⟨g, k * 6 + 5, none⟩ u) g n (k + 1) T (putV U k u) := by
  have h0 : Fil w g (n * 6) (fun p => txV (T (p / 6)) (putV U k u (p / 6)) (p % 6)) (fun p => p < k * 6) := Fil.congr h (fun p _ d => ⟨d, by
    show txV (T (p / 6)) (U (p / 6)) (p % 6) = txV (T (p / 6)) (putV U k u (p / 6)) (p % 6)
    unfold putV
    rw [if_neg (by omega)]⟩)
  have x : ∀ j, j < 6 → txV (T ((k * 6 + j) / 6)) (putV U k u ((k * 6 + j) / 6)) ((k * 6 + j) % 6) = txV (T k) u j := fun j hj => by
    rw [show (k * 6 + j) / 6 = k by omega, show (k * 6 + j) % 6 = j by omega]
    unfold putV
    rw [if_pos rfl]
  have h1 := ((((((h0.set (p := k * 6) (by omega) (x 0 (by decide))).set (p := k * 6 + 1) (by omega) (x 1 (by decide))).set (p := k * 6 + 2) (by omega) (x 2 (by decide))).set (p := k * 6 + 3) (by omega) (x 3 (by decide))).set (p := k * 6 + 4) (by omega) (x 4 (by decide))).set (p := k * 6 + 5) (by omega) (x 5 (by decide)))
  exact Fil.congr h1 (fun p _ d => ⟨by omega, rfl⟩)
theorem FillT.cell {w : World} {g n k : Nat} {T : Nat → Tx} {U : Nat → Value} (h : FillT w g n k T U) (hn : k ≤ n) {i j : Nat} (hi : i < k) (hj : j < 6) : w.cell? ⟨g, i * 6 + j, none⟩ = some (txV (T i) (U i) j) := by
  have := (h.2 (i * 6 + j) (by omega)).2 (by omega)
  simp only [show (i * 6 + j) / 6 = i by omega, show (i * 6 + j) % 6 = j by omega] at this
  exact this
theorem info_Txn : (Tryz.prog.info? 113).map (fun i => (i.zero, i.size, i.bytes)) = some (some (.agg #[.int .i64 0, .int .i64 0, .int .i64 0, .int .i64 0, .int .i64 0, .slice none 0 0]), 6, 64) := by kernel_rfl
/-- What toTxnS answers. -/
def MadeT (w : World) (n : Nat) (T : Nat → Tx) (e : Ending) (w' : World) : Prop :=
  ∃ g U z, e = .returned (.slice (some ⟨g, 0, none⟩) n n) ∧ (w.heap.size ≤ g ∧ g < w'.heap.size) ∧ FillT w' g n n T U ∧ (FineT w' z n T U ∧ z 0 = g + 1 ∧ (∀ i, i ≤ n → g < z i) ∧ z n ≤ w'.heap.size) ∧ Below w.heap.size w w'
theorem MadeT.txs {w' : World} {n : Nat} {T : Nat → Tx} {g B : Nat} {U : Nat → Value} {z : Nat → Nat} (hB : B ≤ g) (h : FillT w' g n n T U) (hf : FineT w' z n T U) (hz : ∀ i, i ≤ n → g < z i) : Txs w' B n T U (.slice (some ⟨g, 0, none⟩) n n) :=
  ⟨⟨_, _, rfl, fun _ => ⟨g, 0, rfl, hB, h.1, fun i hi j hj => by
    simp only [Nat.zero_add]
    exact h.cell (Nat.le_refl _) hi hj⟩⟩, fun i hi => ⟨(hf i hi).1.1.mono (by have := hz i (by omega); omega), (hf i hi).1.2.2⟩⟩
set_option maxRecDepth 10000 in
set_option maxHeartbeats 4000000 in
theorem toTxnS_any (n : Nat) (T : Nat → Tx) (V : Nat → Value) (v : Value) (B : Nat) (w : World) (h : Txs w B n T V v) (hn : n ≤ 1048576) (hs : ∀ i, i < n → (T i).m ≤ 1048576) :
    Calls Tryz.prog 30 #[v] w (MadeT w n T) := by
  obtain ⟨ao, cp, rfl⟩ := h.form
  have H : Hid (Txs w B n T V (.slice ao n cp)) := h
  have HN : Hid (∀ i, i < n → (T i).m ≤ 1048576) := hs
  clear h hs
  have hmk := make_row Tryz.underlying43 info_Txn n (by omega) (by omega)
  go_enter Tryz.func30, Tryz.ntmps30
  go_wp2
  go_loopw [4] (fun i wr => ∃ k : Nat, k ≤ n ∧ i = .int .i64 k ∧ Hid (Below w.heap.size w wr ∧ ∃ U z, FillT wr w.heap.size n k T U ∧ FineT wr z k T U ∧ z 0 = w.heap.size + 1 ∧ (∀ i, i ≤ k → w.heap.size < z i) ∧ z k ≤ wr.heap.size)) (fun i _ => n - (intOf i).toNat)
  case atStart => exact ⟨0, Nat.zero_le _, rfl, below_alloc _ _, fun _ => .bool true, fun _ => w.heap.size + 1, Fil.congr (Fil.made _ _ _ _ (fun _ => .bool true)) (fun p _ (d : p < 0 * 6) => absurd d (by omega)), fun i hi => absurd hi (Nat.not_lt_zero i), rfl, fun _ _ => Nat.lt_succ_self _, by simp⟩
  case round =>
    obtain ⟨k, hk, rfl, hR⟩ := hrel
    by_cases hlt : k < n
    · obtain ⟨g, o, rfl, _, hg, ⟨c0, c1, c2, c3, c4, c5⟩, rk, _⟩ := H.out.at hlt
      have b0 := (hR.out.1.cell (p := ⟨g, o + k * 6, none⟩) hg).trans c0
      have b1 := (hR.out.1.cell (p := ⟨g, o + k * 6 + 1, none⟩) hg).trans c1
      have b2 := (hR.out.1.cell (p := ⟨g, o + k * 6 + 2, none⟩) hg).trans c2
      have b3 := (hR.out.1.cell (p := ⟨g, o + k * 6 + 3, none⟩) hg).trans c3
      have b4 := (hR.out.1.cell (p := ⟨g, o + k * 6 + 4, none⟩) hg).trans c4
      have b5 := (hR.out.1.cell (p := ⟨g, o + k * 6 + 5, none⟩) hg).trans c5
      obtain ⟨a1, d1, e1⟩ := rk.form
      rw [e1] at b5
      have RK : Hid (Row wr B 3 (T k).m (T k).L (.slice a1 (T k).m d1)) := by
        rw [e1] at rk
        exact rk.later hR.out.1
      have hN : Hid ((T k).m ≤ 1048576) := HN.out k hlt
      clear c0 c1 c2 c3 c4 c5 rk e1
      obtain ⟨t0, ht⟩ : ∃ t, T k = t := ⟨_, rfl⟩
      have HK : Hid (T k = t0) := ht
      rw [ht] at b0 b1 b2 b3 b4 b5 RK hN
      obtain ⟨s', c', u', st', a', m', L'⟩ := t0
      clear ht
      go_wp2_with fail
      refine (toTxn_any s' c' u' st' a' m' L' _ B _ RK.out hN.out).mono ?_
      rintro e w1 ⟨jo, rfl, r1, f1, q1⟩
      obtain ⟨U, z, F, hf, hz0, hz, hzk⟩ := hR.out.2
      have HF : Hid (((Below w.heap.size w w1 ∧ FillT w1 w.heap.size n k T U) ∧ FineT w1 z k T U ∧ z 0 = w.heap.size + 1 ∧ (∀ i, i ≤ k → w.heap.size < z i) ∧ z k ≤ wr.heap.size) ∧ (Row w1 wr.heap.size 3 m' L' (.slice jo m' m') ∧ Free w1 (m' * 3) (.slice jo m' m')) ∧ wr.heap.size ≤ w1.heap.size) := ⟨⟨⟨hR.out.1.trans (q1.mono hR.out.1.size), Fil.later F q1⟩, hf.later q1, hz0, hz, hzk⟩, ⟨r1, f1⟩, q1.size⟩
      obtain ⟨⟨⟨x0, y0⟩, z0⟩, _⟩ := HF.out.1.1.2.2 (k * 6) (by omega)
      obtain ⟨⟨⟨x1, y1⟩, z1⟩, _⟩ := HF.out.1.1.2.2 (k * 6 + 1) (by omega)
      obtain ⟨⟨⟨x2, y2⟩, z2⟩, _⟩ := HF.out.1.1.2.2 (k * 6 + 2) (by omega)
      obtain ⟨⟨⟨x3, y3⟩, z3⟩, _⟩ := HF.out.1.1.2.2 (k * 6 + 3) (by omega)
      obtain ⟨⟨⟨x4, y4⟩, z4⟩, _⟩ := HF.out.1.1.2.2 (k * 6 + 4) (by omega)
      obtain ⟨⟨⟨x5, y5⟩, z5⟩, _⟩ := HF.out.1.1.2.2 (k * 6 + 5) (by omega)
      clear q1 F hf hz0 hz hzk r1 f1 b0 b1 b2 b3 b4 b5 hR RK
      go_wp2
      go_roundw
      case rel =>
        obtain ⟨⟨⟨hB, hF⟩, hf, hz0, hz, hzk⟩, ⟨r1, f1⟩, hsz⟩ := HF.out
        have hp := hF.put hlt (.slice jo m' m')
        have hsk := hf.put (u := .slice jo m' m') (a := z k) (b := w1.heap.size) rfl ⟨by rw [HK.out]; exact r1.mono hzk, by rw [HK.out]; exact f1, capOk_nn jo m'⟩ (fun hm q hq => by rw [HK.out] at hm; exact ⟨Nat.le_trans hzk (r1.lt hm q hq).1, (r1.lt hm q hq).2⟩) (Nat.le_trans hzk hsz)
        rw [HK.out] at hp
        have hlo : ∀ i, i < k + 1 → w.heap.size < (if i = k + 1 then w1.heap.size else z i) := fun i hi => by rw [if_neg (by omega)]; exact hz i (by omega)
        refine ⟨k + 1, by omega, by go_num, (((((hB.setCell (Nat.le_refl _) _).setCell (Nat.le_refl _) _).setCell (Nat.le_refl _) _).setCell (Nat.le_refl _) _).setCell (Nat.le_refl _) _).setCell (Nat.le_refl _) _, putV U k (.slice jo m' m'), fun i => if i = k + 1 then w1.heap.size else z i, hp, (((((hsk.far hlo _).far hlo _).far hlo _).far hlo _).far hlo _).far hlo _, ?_, ?_, ?_⟩
        · show (if 0 = k + 1 then w1.heap.size else z 0) = _
          rw [if_neg (by omega)]; exact hz0
        · intro i hi
          show w.heap.size < (if i = k + 1 then w1.heap.size else z i)
          by_cases q : i = k + 1
          · rw [if_pos q]; have := hF.1; omega
          · rw [if_neg q]; exact hz i (by omega)
        · show (if k + 1 = k + 1 then w1.heap.size else z (k + 1)) ≤ _
          rw [if_pos rfl]; simp [World.setCell]
      case measure => simp [intOf]; omega
    · obtain rfl : k = n := by omega
      go_wp2
      go_ret
      obtain ⟨hB, U, z, F, hf, hz0, hz, hzk⟩ := hR.out
      exact ⟨w.heap.size, U, z, rfl, ⟨Nat.le_refl _, F.1⟩, F, ⟨hf, hz0, hz, hzk⟩, hB⟩
end Go.Proofs.YtjkchhcnochjlaaGreatDoor

namespace Go.Proofs.YtjkchhcnochjlaaGreatDoor
open Go.ChangeShapes Go.WideShapes Go.ChangeAt Go.RowKit Go.Joins Go.Deep

theorem cap_slice {H : Type} {enc : TypeId × Value → H} {w : World} {base : Nat} {spare : Nat → Bool} {held : Bool} {fuel : Nat} {t e : TypeId} {v : Value} {x : DataW H × List MemPlace} (ht : Tryz.prog.underlying t = some (.slice e))
    (h : DataW.trod enc Tryz.prog w base spare held fuel t [v] = some x) : CapOk v := by
  rcases open_slice ht h with ⟨h0, _⟩ | ⟨a, len, cap, q, n, D, Pl, hv, hb, hl, hm, hmm, rfl, hx⟩
  · simp only [List.cons.injEq, and_true] at h0
    subst h0
    intro ao n cp e
    cases e
    exact Nat.le_refl _
  · simp only [List.cons.injEq, and_true] at hv
    subst hv
    intro ao n cp e
    cases e
    exact hl
set_option maxRecDepth 100000 in
theorem open_txs {H : Type} {enc : TypeId × Value → H} {w : World} {base : Nat} {spare : Nat → Bool} {held : Bool} {fuel : Nat} {v : Value} {x : DataW H × List MemPlace}
    (h : DataW.trod enc Tryz.prog w base spare held fuel 28 [v] = some x) :
    ∃ n T V, Txs w base n T V v ∧ n ≤ maxLen ∧ ∀ i, i < n → (T i).m ≤ maxLen := by
  rcases open_slice Tryz.underlying28 h with ⟨h0, _⟩ | ⟨a, len, cap, q, n, D, Pl, hv, hb, hl, hm, hmm, rfl, hx⟩
  · simp only [List.cons.injEq, and_true] at h0
    subst h0
    exact ⟨0, fun _ => ⟨0, 0, 0, 0, 0, 0, fun _ => 0⟩, fun _ => .bool true, ⟨⟨_, _, rfl, fun h => absurd h (Nat.lt_irrefl 0)⟩, fun i hi => absurd hi (Nat.not_lt_zero i)⟩, Nat.zero_le _, fun i hi => absurd hi (Nat.not_lt_zero i)⟩
  simp only [List.cons.injEq, and_true] at hv
  subst hv
  have hlq : len ≤ q := by rw [hmm]; split <;> omega
  have hce : Tryz.prog.cellsOf 104 = 6 := by kernel_rfl
  have each : ∀ i, i < len → ∃ y : Tx × Value, ((∀ j, j < 6 → w.cell? (a.add (i * 6 + j)) = some (txV y.1 y.2 j)) ∧ Row w base 3 y.1.m y.1.L y.2 ∧ CapOk y.2) ∧ y.1.m ≤ maxLen := by
    intro i hi
    obtain ⟨cs', h1, h2⟩ := hx i (by omega)
    rw [hce] at h1
    obtain ⟨_, hlen, hcell⟩ := World.cells?_some h1
    obtain ⟨xs, k, hk, hxy, _, hxl, hf⟩ := DataW.trod_struct Tryz.underlying104 h2
    match cs', hlen with
    | [u0, u1, u2, u3, u4, u5], _ =>
      have t0 : DataW.trod enc Tryz.prog w base spare held k 2 (List.take (Tryz.prog.cellsOf 2) (List.drop 0 [u0, u1, u2, u3, u4, u5])) = xs[0]? := hf 0 _ rfl
      have t1 : DataW.trod enc Tryz.prog w base spare held k 2 (List.take (Tryz.prog.cellsOf 2) (List.drop 1 [u0, u1, u2, u3, u4, u5])) = xs[1]? := hf 1 _ rfl
      have t2 : DataW.trod enc Tryz.prog w base spare held k 2 (List.take (Tryz.prog.cellsOf 2) (List.drop 2 [u0, u1, u2, u3, u4, u5])) = xs[2]? := hf 2 _ rfl
      have t3 : DataW.trod enc Tryz.prog w base spare held k 2 (List.take (Tryz.prog.cellsOf 2) (List.drop 3 [u0, u1, u2, u3, u4, u5])) = xs[3]? := hf 3 _ rfl
      have t4 : DataW.trod enc Tryz.prog w base spare held k 2 (List.take (Tryz.prog.cellsOf 2) (List.drop 4 [u0, u1, u2, u3, u4, u5])) = xs[4]? := hf 4 _ rfl
      have t5 : DataW.trod enc Tryz.prog w base spare held k 102 (List.take (Tryz.prog.cellsOf 102) (List.drop 5 [u0, u1, u2, u3, u4, u5])) = xs[5]? := hf 5 _ rfl
      rw [show Tryz.prog.cellsOf 2 = 1 by kernel_rfl] at t0 t1 t2 t3 t4
      rw [show Tryz.prog.cellsOf 102 = 1 by kernel_rfl] at t5
      simp only [List.drop_zero, List.drop_succ_cons, List.take_succ_cons, List.take_zero] at t0 t1 t2 t3 t4 t5
      obtain ⟨z0, hz0⟩ : ∃ z, xs[0]? = some z := ⟨xs[0]'(by rw [hxl]; decide), by simp⟩
      obtain ⟨z1, hz1⟩ : ∃ z, xs[1]? = some z := ⟨xs[1]'(by rw [hxl]; decide), by simp⟩
      obtain ⟨z2, hz2⟩ : ∃ z, xs[2]? = some z := ⟨xs[2]'(by rw [hxl]; decide), by simp⟩
      obtain ⟨z3, hz3⟩ : ∃ z, xs[3]? = some z := ⟨xs[3]'(by rw [hxl]; decide), by simp⟩
      obtain ⟨z4, hz4⟩ : ∃ z, xs[4]? = some z := ⟨xs[4]'(by rw [hxl]; decide), by simp⟩
      obtain ⟨z5, hz5⟩ : ∃ z, xs[5]? = some z := ⟨xs[5]'(by rw [hxl]; decide), by simp⟩
      rw [hz0] at t0
      rw [hz1] at t1
      rw [hz2] at t2
      rw [hz3] at t3
      rw [hz4] at t4
      rw [hz5] at t5
      obtain ⟨s0, hs0, _, _⟩ := DataW.trod_int Tryz.underlying2 t0
      obtain ⟨s1, hs1, _, _⟩ := DataW.trod_int Tryz.underlying2 t1
      obtain ⟨s2, hs2, _, _⟩ := DataW.trod_int Tryz.underlying2 t2
      obtain ⟨s3, hs3, _, _⟩ := DataW.trod_int Tryz.underlying2 t3
      obtain ⟨s4, hs4, _, _⟩ := DataW.trod_int Tryz.underlying2 t4
      simp only [List.cons.injEq, and_true] at hs0 hs1 hs2 hs3 hs4
      obtain ⟨n5, F5, r5, l5, _⟩ := open_row (m := 3) Tryz.underlying102 Tryz.underlying205 (by kernel_rfl) (by decide) rfl (fun j f hf => by
        match j, hf with
        | 0, hf => cases hf; exact ⟨rfl, by kernel_rfl, Tryz.underlying2⟩
        | 1, hf => cases hf; exact ⟨rfl, by kernel_rfl, Tryz.underlying2⟩
        | 2, hf => cases hf; exact ⟨rfl, by kernel_rfl, Tryz.underlying2⟩) t5
      refine ⟨(⟨s0, s1, s2, s3, s4, n5, F5⟩, u5), ⟨fun j hj => ?_, r5, cap_slice Tryz.underlying102 t5⟩, l5⟩
      have ej := hcell j (by simpa using hj)
      rw [add_add] at ej
      rw [ej]
      match j, hj with
      | 0, _ => show some u0 = _; rw [hs0]; rfl
      | 1, _ => show some u1 = _; rw [hs1]; rfl
      | 2, _ => show some u2 = _; rw [hs2]; rfl
      | 3, _ => show some u3 = _; rw [hs3]; rfl
      | 4, _ => show some u4 = _; rw [hs4]; rfl
      | 5, _ => rfl
  haveI : Inhabited (Tx × Value) := ⟨(⟨0, 0, 0, 0, 0, 0, fun _ => 0⟩, .bool true)⟩
  obtain ⟨Y, hY⟩ := choose_lt (α := Tx × Value) each
  refine ⟨len, fun i => (Y i).1, fun i => (Y i).2, ⟨⟨_, _, rfl, fun hn => ?_⟩, fun i hi => (hY i hi).1.2⟩, Nat.le_trans hl hm, fun i hi => (hY i hi).2⟩
  obtain ⟨b, o, s⟩ := a
  have h0 := (hY 0 hn).1.1 0 (by decide)
  obtain rfl : s = none := by simpa [Addr.add] using World.cell?_spot h0
  refine ⟨b, o, rfl, hb, World.block_lt_of_cell? w _ h0, fun i hi j hj => ?_⟩
  have hc := (hY i hi).1.1 j hj
  rw [WideShapes.add_plain] at hc
  rw [Nat.add_assoc]
  exact hc
end Go.Proofs.YtjkchhcnochjlaaGreatDoor

namespace Go.Proofs.YtjkchhcnochjlaaGreatDoor
open Go.RowKit

def vals (F : Nat → Int) (N : Nat) : List Value := (List.range N).map fun p => .int .i64 (F p)
theorem vals_length (F : Nat → Int) (N : Nat) : (vals F N).length = N := by simp [vals]
theorem vals_at (F : Nat → Int) (N p : Nat) (h : p < N) : (vals F N)[p]? = some (.int .i64 (F p)) := by simp [vals, h]
theorem vals_one (F : Nat → Int) (N : Nat) : ∀ u ∈ vals F N, u.oneCell' = true := by
  intro u hu
  simp only [vals, List.mem_map] at hu
  obtain ⟨p, _, rfl⟩ := hu
  rfl
theorem vals_inv {F : Nat → Int} {N p : Nat} {u : Value} (h : (vals F N)[p]? = some u) : p < N ∧ u = .int .i64 (F p) := by
  have hp : p < N := by
    have := (List.getElem?_eq_some_iff.1 h).1
    rwa [vals_length] at this
  rw [vals_at F N p hp] at h
  exact ⟨hp, (Option.some.inj h).symm⟩
/-- A row that a call has made, n elements of m numbers each, with room behind them. -/
def Own (w : World) (B : Nat) (e : TypeId) (m n : Nat) (F : Nat → Int) (v : Value) : Prop := w.ownsRow B e m v n (vals F (n * m))
theorem Own.row {w : World} {B : Nat} {e : TypeId} {m n : Nat} {F : Nat → Int} {v : Value} (h : Own w B e m n F v) : Row w B m n F v ∧ Free w (n * m) v := by
  have h0 : w.ownsRow B e m v n (vals F (n * m)) := h
  rcases h.2 with ⟨rfl, rfl⟩ | ⟨g, cap, cur, rfl, hg, hw, _⟩
  · refine ⟨⟨_, _, rfl, fun q => absurd q (Nat.lt_irrefl 0)⟩, ?_⟩
    rw [Nat.zero_mul]
    exact Free.of0 _ _
  · have hgs : g < w.heap.size := (Array.getElem?_eq_some_iff.1 hw).1
    refine ⟨⟨_, _, rfl, fun _ => ⟨g, 0, rfl, hg, hgs, fun p hp => ?_⟩⟩, ?_⟩
    · rw [Nat.zero_add, World.ownsRow.cellAt h0 p hp, vals_at _ _ _ hp]
    · intro g' o' n' c' hv p hp
      simp only [Value.slice.injEq, Option.some.injEq, Addr.mk.injEq] at hv
      obtain ⟨⟨rfl, rfl, _⟩, _, _⟩ := hv
      rw [Nat.zero_add]
      exact World.ownsRow.frozenAt h0 p
theorem Own.nil (w : World) (B : Nat) (e : TypeId) (m : Nat) (F : Nat → Int) : Own w B e m 0 F (.slice none 0 0) := ⟨by rw [vals_length], Or.inl ⟨rfl, rfl⟩⟩
theorem Own.later {w w' : World} {B : Nat} {e : TypeId} {m n : Nat} {F : Nat → Int} {v : Value} (h : Own w B e m n F v) (hb : Below w.heap.size w w') : Own w' B e m n F v := by
  refine ⟨h.1, ?_⟩
  rcases h.2 with q | ⟨g, cap, cur, rfl, hg, hw, r⟩
  · exact Or.inl q
  · exact Or.inr ⟨g, cap, cur, rfl, hg, (hb.block g (Array.getElem?_eq_some_iff.1 hw).1).trans hw, r⟩
theorem Own.alloc {w : World} {B : Nat} {e : TypeId} {m n : Nat} {F : Nat → Int} {v : Value} (h : Own w B e m n F v) (o : Obj) : Own (w.alloc o) B e m n F v := h.later (below_alloc _ _)
theorem Own.mono {w : World} {B B' : Nat} {e : TypeId} {m n : Nat} {F : Nat → Int} {v : Value} (h : Own w B e m n F v) (hB : B' ≤ B) : Own w B' e m n F v := World.ownsRow.mono h hB
theorem Own.form {w : World} {B : Nat} {e : TypeId} {m n : Nat} {F : Nat → Int} {v : Value} (h : Own w B e m n F v) : ∃ ao cp, v = .slice ao n cp := h.row.1.form
theorem row_cells {w : World} {B m n : Nat} {F : Nat → Int} {a : Addr} {cp : Nat} (h : Row w B m n F (.slice (some a) n cp)) : ∀ j u, (vals F (n * m))[j]? = some u → w.cell? (a.add j) = some u := by
  intro j u hu
  obtain ⟨hj, rfl⟩ := vals_inv hu
  obtain ⟨ao, cp', hv, h⟩ := h
  have hn : 0 < n := Nat.pos_of_ne_zero (fun e => by rw [e, Nat.zero_mul] at hj; omega)
  obtain ⟨g, o, rfl, _, _, hc⟩ := h hn
  simp only [Value.slice.injEq, Option.some.injEq] at hv
  obtain ⟨rfl, _⟩ := hv
  rw [WideShapes.add_plain]
  exact hc j hj
theorem below_grownBy {B : Nat} {w x x' : World} {row : Option Nat} (h : Below B w x) (hB : B ≤ x.heap.size) (hr : ∀ b, row = some b → B ≤ b) (g : x.grownBy x' row) : Below B w x' :=
  ⟨g.os.trans h.os, g.tape.trans h.tape, g.output.trans h.output, Nat.le_trans h.size g.size, fun i hi => (g.block i (by omega) (by intro e; have := hr i e.symm; omega)).trans (h.block i hi)⟩
theorem own_empty (w : World) (e : TypeId) (m : Nat) : (w.alloc (.cells #[] e)).ownsRow w.heap.size e m (.slice (some ⟨w.heap.size, 0, none⟩) 0 0) 0 [] :=
  ⟨by simp, Or.inr ⟨w.heap.size, 0, #[], rfl, Nat.le_refl _, (MapKept.heap_alloc w _).1, Nat.le_refl _, Nat.zero_le _, by simp, by simp⟩⟩
theorem infoz_Lock : (Tryz.prog.info? 162).map (fun i => (i.zero, i.size, i.bytes)) = some (some (.agg #[.int .i64 0, .int .i64 0, .int .i64 0, .int .i64 0, .int .i64 0]), 5, 40) := by kernel_rfl
set_option maxRecDepth 100000 in
theorem cloneLocks_any (n : Nat) (F : Nat → Int) (v : Value) (B : Nat) (w : World) (h : Row w B 5 n F v) (hn : n ≤ 1048576) :
    Calls Tryz.prog 192 #[v] w fun e w' => ∃ v', e = .returned v' ∧ Own w' w.heap.size 162 5 n F v' ∧ Below w.heap.size w w' := by
  obtain ⟨ao, cp, rfl⟩ := h.form
  cases ao with
  | none =>
    have e0 : n = 0 := by
      rcases Nat.eq_zero_or_pos n with e | e
      · exact e
      · obtain ⟨ao, cp', hv, h⟩ := h
        obtain ⟨g, o, rfl, _⟩ := h e
        simp at hv
    subst e0
    clear h
    have he : ∀ w : World, (binOp .eql 123 (.slice none 0 cp) (.slice none 0 0)).run Tryz.prog w = .ok (.bool true) w := fun _ => rfl
    go_enter Tryz.func192, Tryz.ntmps192
    go_wp2
    go_ret
    exact ⟨_, rfl, Own.nil _ _ _ _ _, Below.refl _ _⟩
  | some a =>
    have H : Hid (Row w B 5 n F (.slice (some a) n cp)) := h
    clear h
    have he : ∀ w : World, (binOp .eql 123 (.slice (some a) n cp) (.slice none 0 0)).run Tryz.prog w = .ok (.bool false) w := fun _ => rfl
    obtain ⟨i0, hi, hz0, hz1, hz2⟩ := info_parts infoz_Lock
    go_enter Tryz.func192, Tryz.ntmps192
    go_wp2_with (at_builtin; refine wpList_append_own _ rfl _ _ 123 rfl w.heap.size 162 i0 (.agg #[.int .i64 0, .int .i64 0, .int .i64 0, .int .i64 0, .int .i64 0]) 5 40 Tryz.underlying123 hi hz0 hz1 hz2 rfl (by decide) _ 0 [] rfl (own_empty w 162 5) a n cp (vals F (n * 5)) rfl (vals_length _ _) (row_cells (H.out.alloc _)) (vals_one _ _) ?c3 ?c4 ?c5 ?_)
    case c3 => unfold maxLen; omega
    case c4 => omega
    case c5 => simp
    intro v' w1 ho hg _
    go_wp2
    go_ret
    refine ⟨v', rfl, ?_, below_grownBy (below_alloc w _) (by simp) (fun b hb => by simp [Value.ownBlock] at hb; omega) hg⟩
    simpa [Own] using ho
theorem infoz_Write : (Tryz.prog.info? 121).map (fun i => (i.zero, i.size, i.bytes)) = some (some (.agg #[.int .i64 0, .int .i64 0, .int .i64 0, .int .i64 0]), 4, 32) := by kernel_rfl
set_option maxRecDepth 100000 in
theorem cloneWrites_any (n : Nat) (F : Nat → Int) (v : Value) (B : Nat) (w : World) (h : Row w B 4 n F v) (hn : n ≤ 1048576) :
    Calls Tryz.prog 193 #[v] w fun e w' => ∃ v', e = .returned v' ∧ Own w' w.heap.size 121 4 n F v' ∧ Below w.heap.size w w' := by
  obtain ⟨ao, cp, rfl⟩ := h.form
  cases ao with
  | none =>
    have e0 : n = 0 := by
      rcases Nat.eq_zero_or_pos n with e | e
      · exact e
      · obtain ⟨ao, cp', hv, h⟩ := h
        obtain ⟨g, o, rfl, _⟩ := h e
        simp at hv
    subst e0
    clear h
    have he : ∀ w : World, (binOp .eql 124 (.slice none 0 cp) (.slice none 0 0)).run Tryz.prog w = .ok (.bool true) w := fun _ => rfl
    go_enter Tryz.func193, Tryz.ntmps193
    go_wp2
    go_ret
    exact ⟨_, rfl, Own.nil _ _ _ _ _, Below.refl _ _⟩
  | some a =>
    have H : Hid (Row w B 4 n F (.slice (some a) n cp)) := h
    clear h
    have he : ∀ w : World, (binOp .eql 124 (.slice (some a) n cp) (.slice none 0 0)).run Tryz.prog w = .ok (.bool false) w := fun _ => rfl
    obtain ⟨i0, hi, hz0, hz1, hz2⟩ := info_parts infoz_Write
    go_enter Tryz.func193, Tryz.ntmps193
    go_wp2_with (at_builtin; refine wpList_append_own _ rfl _ _ 124 rfl w.heap.size 121 i0 (.agg #[.int .i64 0, .int .i64 0, .int .i64 0, .int .i64 0]) 4 32 Tryz.underlying124 hi hz0 hz1 hz2 rfl (by decide) _ 0 [] rfl (own_empty w 121 4) a n cp (vals F (n * 4)) rfl (vals_length _ _) (row_cells (H.out.alloc _)) (vals_one _ _) ?c3 ?c4 ?c5 ?_)
    case c3 => unfold maxLen; omega
    case c4 => omega
    case c5 => simp
    intro v' w1 ho hg _
    go_wp2
    go_ret
    refine ⟨v', rfl, ?_, below_grownBy (below_alloc w _) (by simp) (fun b hb => by simp [Value.ownBlock] at hb; omega) hg⟩
    simpa [Own] using ho
/-- A row of structs of m numbers that a call has made, as a list of numbers. -/
def OwnM (w : World) (B : Nat) (e : TypeId) (m : Nat) (v : Value) (n : Nat) (L : List Int) : Prop := w.ownsRow B e m v n (L.map (Value.int .i64))
theorem vals_listM (L : List Int) : vals (fun p => L.getD p 0) L.length = L.map (Value.int .i64) := by
  apply List.ext_getElem?
  intro p
  rcases Nat.lt_or_ge p L.length with h | h
  · rw [vals_at _ _ _ h]
    simp [h]
  · rw [List.getElem?_eq_none (by rw [vals_length]; exact h), List.getElem?_eq_none (by simpa using h)]
theorem OwnM.own {w : World} {B : Nat} {e : TypeId} {m : Nat} {v : Value} {n : Nat} {L : List Int} (h : OwnM w B e m v n L) (hl : L.length = n * m) : Own w B e m n (fun p => L.getD p 0) v := by
  unfold Own
  rw [← hl, vals_listM]
  exact h
theorem OwnM.kept {w w' : World} {B : Nat} {e : TypeId} {m : Nat} {v : Value} {n : Nat} {L : List Int} (h : OwnM w B e m v n L) (hb : ∀ g, B ≤ g → g < w.heap.size → w'.heap[g]? = w.heap[g]?) : OwnM w' B e m v n L := by
  refine ⟨h.1, ?_⟩
  rcases h.2 with q | ⟨g, cap, cur, rfl, hg, hw, r⟩
  · exact Or.inl q
  · exact Or.inr ⟨g, cap, cur, rfl, hg, (hb g hg (Array.getElem?_eq_some_iff.1 hw).1).trans hw, r⟩
theorem OwnM.later {w w' : World} {B : Nat} {e : TypeId} {m : Nat} {v : Value} {n : Nat} {L : List Int} (h : OwnM w B e m v n L) (hb : Below w.heap.size w w') : OwnM w' B e m v n L := h.kept (fun g _ hg => hb.block g hg)
theorem OwnM.far {w : World} {B : Nat} {e : TypeId} {m : Nat} {v : Value} {n : Nat} {L : List Int} (h : OwnM w B e m v n L) {a : Addr} (ha : a.block < B) (u : Value) : OwnM (w.setCell a u) B e m v n L := h.kept (fun g hg _ => Below.heap_setCell w a u g (by omega))
theorem OwnM.nil (w : World) (B : Nat) (e : TypeId) (m : Nat) : OwnM w B e m (.slice none 0 0) 0 [] := ⟨by simp, Or.inl ⟨rfl, rfl⟩⟩
theorem OwnM.form {w : World} {B : Nat} {e : TypeId} {m : Nat} {v : Value} {n : Nat} {L : List Int} (h : OwnM w B e m v n L) : ∃ ao cp, v = .slice ao n cp := by
  rcases h.2 with ⟨rfl, rfl⟩ | ⟨g, cap, cur, rfl, _⟩
  · exact ⟨_, _, rfl⟩
  · exact ⟨_, _, rfl⟩
theorem OwnM.block {w : World} {B : Nat} {e : TypeId} {m : Nat} {v : Value} {n : Nat} {L : List Int} (h : OwnM w B e m v n L) : ∀ k, v.ownBlock = some k → B ≤ k ∧ k < w.heap.size := by
  intro k hk
  rcases h.2 with ⟨rfl, _⟩ | ⟨g, cap, cur, rfl, hg, hw, _⟩
  · simp [Value.ownBlock] at hk
  · simp [Value.ownBlock] at hk
    subst hk
    exact ⟨hg, (Array.getElem?_eq_some_iff.1 hw).1⟩
end Go.Proofs.YtjkchhcnochjlaaGreatDoor

namespace Go.Proofs.YtjkchhcnochjlaaGreatDoor
open Go.RowKit

/-- The numbers of the structs (m numbers each) among the first k whose first number lies from a to b. -/
def keepL (F : Nat → Int) (m : Nat) (a b : Int) : Nat → List Int
  | 0 => []
  | k + 1 => keepL F m a b k ++ (if a ≤ F (k * m) ∧ F (k * m) ≤ b then (List.range m).map (fun q => F (k * m + q)) else [])
def keepN (F : Nat → Int) (m : Nat) (a b : Int) : Nat → Nat
  | 0 => 0
  | k + 1 => keepN F m a b k + (if a ≤ F (k * m) ∧ F (k * m) ≤ b then 1 else 0)
theorem keep_yes {F : Nat → Int} {m : Nat} {a b : Int} {k : Nat} (h : a ≤ F (k * m) ∧ F (k * m) ≤ b) : keepL F m a b (k + 1) = keepL F m a b k ++ (List.range m).map (fun q => F (k * m + q)) ∧ keepN F m a b (k + 1) = keepN F m a b k + 1 := by
  rw [keepL, keepN, if_pos h, if_pos h]
  exact ⟨rfl, rfl⟩
theorem keep_no {F : Nat → Int} {m : Nat} {a b : Int} {k : Nat} (h : ¬ (a ≤ F (k * m) ∧ F (k * m) ≤ b)) : keepL F m a b (k + 1) = keepL F m a b k ∧ keepN F m a b (k + 1) = keepN F m a b k := by
  rw [keepL, keepN, if_neg h, if_neg h]
  exact ⟨List.append_nil _, rfl⟩
theorem keep_length (F : Nat → Int) (m : Nat) (a b : Int) : ∀ k, (keepL F m a b k).length = keepN F m a b k * m
  | 0 => by simp [keepL, keepN]
  | k + 1 => by
    have ih := keep_length F m a b k
    by_cases h : a ≤ F (k * m) ∧ F (k * m) ≤ b
    · rw [(keep_yes h).1, (keep_yes h).2, List.length_append, ih, List.length_map, List.length_range, Nat.succ_mul]
    · rw [(keep_no h).1, (keep_no h).2, ih]
theorem keep_le (F : Nat → Int) (m : Nat) (a b : Int) : ∀ k, keepN F m a b k ≤ k
  | 0 => Nat.le_refl _
  | k + 1 => by
    have ih := keep_le F m a b k
    by_cases h : a ≤ F (k * m) ∧ F (k * m) ≤ b
    · rw [(keep_yes h).2]; omega
    · rw [(keep_no h).2]; omega
def keepF (F : Nat → Int) (m : Nat) (a b : Int) (k : Nat) : Nat → Int := fun p => (keepL F m a b k).getD p 0
/-- The part of a store from fr on below to. -/
def partS (S : Sto) (fr tto : Int) : Sto := ⟨keepN S.c 3 fr (tto - 1) S.nc, keepF S.c 3 fr (tto - 1) S.nc, keepN S.l 5 fr (tto - 1) S.nl, keepF S.l 5 fr (tto - 1) S.nl, keepN S.k 4 fr (tto - 1) S.nw, keepF S.k 4 fr (tto - 1) S.nw⟩
/-- A row that a call has made and has done with: its block lies from lo on below hi. -/
def Done (x : World) (lo hi m n : Nat) (F : Nat → Int) (u : Value) : Prop := (Row x lo m n F u ∧ Free x (n * m) u) ∧ (0 < n → ∀ k, u.ownBlock = some k → k < hi)
theorem OwnM.done {w : World} {B : Nat} {e : TypeId} {m : Nat} {v : Value} {n : Nat} {L : List Int} (h : OwnM w B e m v n L) (hl : L.length = n * m) : Done w B w.heap.size m n (fun p => L.getD p 0) v := ⟨(h.own hl).row, fun _ k hk => (h.block k hk).2⟩
theorem Done.within {x x' : World} {lo hi m n B E : Nat} {F : Nat → Int} {u : Value} (h : Done x lo hi m n F u) (hw : Within B E x x') (hB : hi ≤ B) : Done x' lo hi m n F u :=
  ⟨⟨h.1.1.within hw (fun h0 k hk => Or.inl (Nat.lt_of_lt_of_le (h.2 h0 k hk) hB)), h.1.2.within h.1.1 hw (fun h0 k hk => Or.inl (Nat.lt_of_lt_of_le (h.2 h0 k hk) hB))⟩, h.2⟩
theorem Done.later {x x' : World} {lo hi m n : Nat} {F : Nat → Int} {u : Value} (h : Done x lo hi m n F u) (hb : Below x.heap.size x x') : Done x' lo hi m n F u := h.within (Within.grow (B := hi) (E := hi) hb) (Nat.le_refl _)
theorem Done.far {x : World} {lo hi m n : Nat} {F : Nat → Int} {u : Value} (h : Done x lo hi m n F u) {a : Addr} (ha : a.block < lo) (v : Value) : Done (x.setCell a v) lo hi m n F u := ⟨⟨h.1.1.far (Or.inl ha) v, h.1.2.far a v⟩, h.2⟩
theorem Done.mono {x : World} {lo hi lo' hi' m n : Nat} {F : Nat → Int} {u : Value} (h : Done x lo hi m n F u) (h1 : lo' ≤ lo) (h2 : hi ≤ hi') : Done x lo' hi' m n F u := ⟨⟨h.1.1.mono h1, h.1.2⟩, fun h0 k hk => Nat.lt_of_lt_of_le (h.2 h0 k hk) h2⟩
/-- What the model's part stands on: its result (the first block), the store that it makes (the second). -/
def PartEnv (w : World) (u0 u1 u2 : Value) (x : World) : Prop := Blk3 x w.heap.size (.slice none 0 0) (.slice none 0 0) (.slice none 0 0) ∧ Blk3 x (w.heap.size + 1) u0 u1 u2 ∧ Below w.heap.size w x
theorem PartEnv.later {w x x' : World} {u0 u1 u2 : Value} (h : PartEnv w u0 u1 u2 x) (hb : Below x.heap.size x x') : PartEnv w u0 u1 u2 x' := ⟨h.1.later hb, h.2.1.later hb, h.2.2.trans (hb.mono h.2.2.size)⟩
theorem PartEnv.within {w x x' : World} {u0 u1 u2 : Value} {B E : Nat} (h : PartEnv w u0 u1 u2 x) (hw : Within B E x x') (hB : w.heap.size + 2 ≤ B) : PartEnv w u0 u1 u2 x' := ⟨h.1.within hw (Or.inl (by omega)), h.2.1.within hw (Or.inl (by omega)), hw.below h.2.2 (by omega)⟩
theorem PartEnv.set0 {w x : World} {u0 u1 u2 : Value} (h : PartEnv w u0 u1 u2 x) (u : Value) : PartEnv w u u1 u2 (x.setCell ⟨w.heap.size + 1, 0, none⟩ u) := ⟨h.1.setFar (by simp) _, h.2.1.set0 _, h.2.2.setCell (by simp) _⟩
theorem PartEnv.set1 {w x : World} {u0 u1 u2 : Value} (h : PartEnv w u0 u1 u2 x) (u : Value) : PartEnv w u0 u u2 (x.setCell ⟨w.heap.size + 1, 1, none⟩ u) := ⟨h.1.setFar (by simp) _, h.2.1.set1 _, h.2.2.setCell (by simp) _⟩
theorem PartEnv.set2 {w x : World} {u0 u1 u2 : Value} (h : PartEnv w u0 u1 u2 x) (u : Value) : PartEnv w u0 u1 u (x.setCell ⟨w.heap.size + 1, 2, none⟩ u) := ⟨h.1.setFar (by simp) _, h.2.1.set2 _, h.2.2.setCell (by simp) _⟩
/-- D speaks of what lies below Z, and of no block of the part's own two. -/
structure Stays (w : World) (Z : Nat) (D : World → Prop) : Prop where
  lo : w.heap.size + 2 ≤ Z
  within : ∀ x x' E, D x → Within Z E x x' → D x'
  far : ∀ x a u, D x → a.block < w.heap.size + 2 → D (x.setCell a u)
/-- What a loop of the part stands on: the store that it makes, what is done, and the row under way. -/
def Mak (w : World) (Z : Nat) (D : World → Prop) (T : TypeId) (m : Nat) (u0 u1 u2 v : Value) (n : Nat) (L : List Int) (x : World) : Prop := PartEnv w u0 u1 u2 x ∧ D x ∧ OwnM x Z T m v n L
theorem Mak.later {w x x' : World} {Z : Nat} {D : World → Prop} {T : TypeId} {m : Nat} {u0 u1 u2 v : Value} {n : Nat} {L : List Int} (h : Mak w Z D T m u0 u1 u2 v n L x) (hs : Stays w Z D) (hb : Below x.heap.size x x') : Mak w Z D T m u0 u1 u2 v n L x' := ⟨h.1.later hb, hs.within x x' Z h.2.1 (Within.grow hb), h.2.2.later hb⟩
theorem Mak.step {w x x' : World} {Z : Nat} {D : World → Prop} {T : TypeId} {m : Nat} {u0 u1 u2 v v' : Value} {n n' : Nat} {L L' : List Int} (h : Mak w Z D T m u0 u1 u2 v n L x) (hs : Stays w Z D) (hg : x.grownBy x' v.ownBlock) (ho : OwnM x' Z T m v' n' L') : Mak w Z D T m u0 u1 u2 v' n' L' x' :=
  have hw : Within Z x.heap.size x x' := Within.of hg (fun b q => h.2.2.block b q)
  ⟨h.1.within hw hs.lo, hs.within _ _ _ h.2.1 hw, ho⟩
theorem Mak.set0 {w x : World} {Z : Nat} {D : World → Prop} {T : TypeId} {m : Nat} {u0 u1 u2 v : Value} {n : Nat} {L : List Int} (h : Mak w Z D T m u0 u1 u2 v n L x) (hs : Stays w Z D) : Mak w Z D T m v u1 u2 v n L (x.setCell ⟨w.heap.size + 1, 0, none⟩ v) := ⟨h.1.set0 _, hs.far _ _ _ h.2.1 (by simp), h.2.2.far (by have := hs.lo; simp; omega) _⟩
theorem Mak.set1 {w x : World} {Z : Nat} {D : World → Prop} {T : TypeId} {m : Nat} {u0 u1 u2 v : Value} {n : Nat} {L : List Int} (h : Mak w Z D T m u0 u1 u2 v n L x) (hs : Stays w Z D) : Mak w Z D T m u0 v u2 v n L (x.setCell ⟨w.heap.size + 1, 1, none⟩ v) := ⟨h.1.set1 _, hs.far _ _ _ h.2.1 (by simp), h.2.2.far (by have := hs.lo; simp; omega) _⟩
theorem Mak.set2 {w x : World} {Z : Nat} {D : World → Prop} {T : TypeId} {m : Nat} {u0 u1 u2 v : Value} {n : Nat} {L : List Int} (h : Mak w Z D T m u0 u1 u2 v n L x) (hs : Stays w Z D) : Mak w Z D T m u0 u1 v v n L (x.setCell ⟨w.heap.size + 1, 2, none⟩ v) := ⟨h.1.set2 _, hs.far _ _ _ h.2.1 (by simp), h.2.2.far (by have := hs.lo; simp; omega) _⟩
theorem Stays.none (w : World) : Stays w (w.heap.size + 2) (fun x => w.heap.size + 2 ≤ x.heap.size) := ⟨Nat.le_refl _, fun _ _ _ h hw => Nat.le_trans h hw.size, fun _ _ _ h _ => by simpa using h⟩
theorem Stays.more {w : World} {Z Z' : Nat} {D : World → Prop} {m n : Nat} {F : Nat → Int} {u : Value} (h : Stays w Z D) (hZ : Z ≤ Z') : Stays w Z' (fun x => Z' ≤ x.heap.size ∧ D x ∧ Done x Z Z' m n F u) :=
  ⟨Nat.le_trans h.lo hZ, fun x x' E hd hw => ⟨Nat.le_trans hd.1 hw.size, h.within x x' E hd.2.1 ⟨hw.os, hw.tape, hw.output, hw.size, fun k hk ho => hw.block k hk (by omega)⟩, hd.2.2.within hw (Nat.le_refl _)⟩, fun x a u hd ha => ⟨by simpa using hd.1, h.far x a u hd.2.1 ha, hd.2.2.far (Nat.lt_of_lt_of_le ha h.lo) u⟩⟩
/-- A new store, its rows in three blocks. -/
def NewSto (w : World) (R : Sto) (e : Ending) (w' : World) : Prop := ∃ a0 c0 a1 c1 a2 c2, e = .returned (.agg #[.slice a0 R.nc c0, .slice a1 R.nl c1, .slice a2 R.nw c2]) ∧ (St w' w.heap.size R (.slice a0 R.nc c0) (.slice a1 R.nl c1) (.slice a2 R.nw c2) ∧ FreeS w' R (.slice a0 R.nc c0) (.slice a1 R.nl c1) (.slice a2 R.nw c2) ∧ ApartD R (.slice a0 R.nc c0) (.slice a1 R.nl c1) (.slice a2 R.nw c2)) ∧ Below w.heap.size w w'
end Go.Proofs.YtjkchhcnochjlaaGreatDoor

namespace Go.Proofs.YtjkchhcnochjlaaGreatDoor
section
open Go.RowKit
/-- The first N numbers. -/
def nums (F : Nat → Int) (N : Nat) : List Int := (List.range N).map F
theorem nums_length (F : Nat → Int) (N : Nat) : (nums F N).length = N := by simp [nums]
theorem nums_vals (F : Nat → Int) (N : Nat) : (nums F N).map (Value.int .i64) = vals F N := by simp [nums, vals]
theorem run_app (t ty e : TypeId) (i : TypeInfo) (z : Value) (m bytes : Nat) (ht : Tryz.prog.underlying t = some (.slice e)) (hi : Tryz.prog.info? e = some i) (hz : i.zero = some z) (hsize : i.size = m) (hby : i.bytes = bytes) (hzs : z.cells.size = m) (hm : 0 < m) (hb5 : bytes ≤ 1000)
    (w : World) (base n0 : Nat) (L : List Int) (v : Value) (hown : OwnM w base e m v n0 L) (B n : Nat) (F : Nat → Int) (x : Value) (h : Row w B m n F x) (hn : n0 + n ≤ 1048576) (hbase : base ≤ w.heap.size) :
    ∃ ao cp w', (Builtin.append_ #[t, t] ty #[v, x]).run Tryz.prog w = .ok (.slice ao (n0 + n) cp) w' ∧ OwnM w' base e m (.slice ao (n0 + n) cp) (n0 + n) (L ++ nums F (n * m)) ∧ w.grownBy w' v.ownBlock := by
  have hbb : (n0 + n) * bytes ≤ 1048576 * 1000 := Nat.mul_le_mul hn hb5
  obtain ⟨ao, cp, rfl⟩ := h.form
  cases ao with
  | none =>
    have e0 : n = 0 := by
      rcases Nat.eq_zero_or_pos n with q | q
      · exact q
      · obtain ⟨g, o, hg, _⟩ := h.at q
        cases hg
    subst e0
    obtain ⟨av, cv, rfl⟩ := hown.form
    refine ⟨av, cv, w, ?_, ?_, ⟨rfl, rfl, rfl, Nat.le_refl _, fun _ _ _ => rfl⟩⟩
    · rcases hown.2 with ⟨q, _⟩ | ⟨g, cap, cur, q, _, _, hnc, _⟩
      · cases q
        simp [Builtin.append_, run_underlying ht, sizeOf, typeInfo, hi, Builtin.lenOf, Builtin.firstCells]
      · cases q
        simp [Builtin.append_, run_underlying ht, sizeOf, typeInfo, hi, Builtin.lenOf, Builtin.firstCells, hnc, storeCells]
    · simpa [nums] using hown
  | some a =>
    obtain ⟨v', w', h1, h2, h3, _⟩ := run_append_own (P := Tryz.prog) w base t ty e i z m bytes ht hi hz hsize hby hzs hm v n0 _ hown a n cp (vals F (n * m)) (vals_length _ _) (row_cells h) (vals_one _ _) (by unfold maxLen; omega) (by omega) hbase
    have h2' : OwnM w' base e m v' (n0 + n) (L ++ nums F (n * m)) := by
      unfold OwnM
      rw [List.map_append, nums_vals]
      exact h2
    obtain ⟨ao', cp', rfl⟩ := h2'.form
    exact ⟨ao', cp', w', h1, h2', h3⟩
/-- The law for the walk. -/
theorem wpList_app (e : TypeId) (i : TypeInfo) (z : Value) (m bytes : Nat) {ops : Array Oper} {rest : List Oper} {o : Oper} {a : Act} {Q : Exit → Act → World → Prop} (hgd : o.guard = none) (s x : Operand) (t : TypeId) (ho : o.op = .call { callee := .builtin .append, args := #[s, x], argTypes := #[t, t] })
    (ht : Tryz.prog.underlying t = some (.slice e)) (hi : Tryz.prog.info? e = some i) (hz : i.zero = some z) (hsize : i.size = m) (hby : i.bytes = bytes) (hzs : z.cells.size = m) (hm : 0 < m) (hb5 : bytes ≤ 1000)
    (w : World) (base n0 : Nat) (L : List Int) (v : Value) (hs : a.eval s = v) (hown : OwnM w base e m v n0 L) (B n : Nat) (F : Nat → Int) (u : Value) (hx : a.eval x = u) (h : Row w B m n F u) (hn : n0 + n ≤ 1048576) (hbase : base ≤ w.heap.size)
    (hK : ∀ ao cp w', OwnM w' base e m (.slice ao (n0 + n) cp) (n0 + n) (L ++ nums F (n * m)) → w.grownBy w' v.ownBlock → wpList Tryz.prog ops Q rest (a.put o.dst (.slice ao (n0 + n) cp)) w') : wpList Tryz.prog ops Q (o :: rest) a w := by
  refine wpList_plain hgd fun K hK' => ?_
  obtain ⟨ao, cp, w', hr, h2, h3⟩ := run_app t o.type e i z m bytes ht hi hz hsize hby hzs hm hb5 w base n0 L v hown B n F u h hn hbase
  unfold Oper.wp execOp
  simp only [ho, resolve, invoke, builtin, Sem.run_bind, Sem.run_pure, Result.andThen_ok, List.map_toArray, List.map_cons, List.map_nil, hs, hx, hr]
  exact hK' _ _ (hK ao cp w' h2 h3)
/-- .. and at one operation. -/
theorem wp_app (e : TypeId) (i : TypeInfo) (z : Value) (m bytes : Nat) {o : Oper} {a : Act} {K : Act → World → Prop} {Q : Exit → Act → World → Prop} (s x : Operand) (t : TypeId) (ho : o.op = .call { callee := .builtin .append, args := #[s, x], argTypes := #[t, t] })
    (ht : Tryz.prog.underlying t = some (.slice e)) (hi : Tryz.prog.info? e = some i) (hz : i.zero = some z) (hsize : i.size = m) (hby : i.bytes = bytes) (hzs : z.cells.size = m) (hm : 0 < m) (hb5 : bytes ≤ 1000)
    (w : World) (base n0 : Nat) (L : List Int) (v : Value) (hs : a.eval s = v) (hown : OwnM w base e m v n0 L) (B n : Nat) (F : Nat → Int) (u : Value) (hx : a.eval x = u) (h : Row w B m n F u) (hn : n0 + n ≤ 1048576) (hbase : base ≤ w.heap.size)
    (hK : ∀ ao cp w', OwnM w' base e m (.slice ao (n0 + n) cp) (n0 + n) (L ++ nums F (n * m)) → w.grownBy w' v.ownBlock → K (a.put o.dst (.slice ao (n0 + n) cp)) w') : o.wp Tryz.prog a w K Q := by
  obtain ⟨ao, cp, w', hr, h2, h3⟩ := run_app t o.type e i z m bytes ht hi hz hsize hby hzs hm hb5 w base n0 L v hown B n F u h hn hbase
  unfold Oper.wp execOp
  simp only [ho, resolve, invoke, builtin, Sem.run_bind, Sem.run_pure, Result.andThen_ok, List.map_toArray, List.map_cons, List.map_nil, hs, hx, hr]
  exact hK ao cp w' h2 h3
/-- .. and at one step of a region that draws. -/
theorem step_app (e : TypeId) (i : TypeInfo) (z : Value) (m bytes : Nat) {ops : Array Oper} {o : Oper} {a : Act} {K : Act → World → Prop} {Q : Exit → Act → World → Prop} {E : Prop} (hgd : o.guard = none) (s x : Operand) (t : TypeId) (ho : o.op = .call { callee := .builtin .append, args := #[s, x], argTypes := #[t, t] })
    (ht : Tryz.prog.underlying t = some (.slice e)) (hi : Tryz.prog.info? e = some i) (hz : i.zero = some z) (hsize : i.size = m) (hby : i.bytes = bytes) (hzs : z.cells.size = m) (hm : 0 < m) (hb5 : bytes ≤ 1000)
    (w : World) (base n0 : Nat) (L : List Int) (v : Value) (hs : a.eval s = v) (hown : OwnM w base e m v n0 L) (B n : Nat) (F : Nat → Int) (u : Value) (hx : a.eval x = u) (h : Row w B m n F u) (hn : n0 + n ≤ 1048576) (hbase : base ≤ w.heap.size)
    (hK : ∀ ao cp w', OwnM w' base e m (.slice ao (n0 + n) cp) (n0 + n) (L ++ nums F (n * m)) → w.grownBy w' v.ownBlock → K (a.put o.dst (.slice ao (n0 + n) cp)) w') :
    if Region.wanted o (yielded ops a.tmps) = true then Oper.wp Tryz.prog o a w K Q else E := by
  have hw : Region.wanted o (yielded ops a.tmps) = true := by simp [Region.wanted, hgd]
  rw [if_pos hw]
  exact wp_app e i z m bytes s x t ho ht hi hz hsize hby hzs hm hb5 w base n0 L v hs hown B n F u hx h hn hbase hK
theorem OwnM.lit0 (Y : World) (b : Nat) (e : TypeId) (m : Nat) (hb : Y.heap.size = b) : OwnM (Y.alloc (.cells #[] e)) b e m (.slice (some ⟨b, 0, none⟩) 0 0) 0 [] := by
  subst hb
  exact World.ownsRow_lit Y #[] 0 (Nat.le_refl _) (Nat.zero_le _) (by simp)
/-- The first k elements, and those from k on. -/
theorem Row.head {w : World} {B m n : Nat} {F : Nat → Int} {ao : Option Addr} {cp : Nat} (h : Row w B m n F (.slice ao n cp)) {k : Nat} (hk : k ≤ n) (c' : Nat) : Row w B m k F (.slice ao k c') := by
  obtain ⟨ao', cp', hv, h⟩ := h
  simp only [Value.slice.injEq] at hv
  obtain ⟨rfl, _, _⟩ := hv
  refine ⟨_, _, rfl, fun hn => ?_⟩
  obtain ⟨g, o, ha, hB, hg, hc⟩ := h (by omega)
  exact ⟨g, o, ha, hB, hg, fun p hp => hc p (Nat.lt_of_lt_of_le hp (Nat.mul_le_mul_right m hk))⟩
theorem Row.tail {w : World} {B m n g o : Nat} {F : Nat → Int} {cp : Nat} (h : Row w B m n F (.slice (some ⟨g, o, none⟩) n cp)) {k : Nat} (hk : k < n) (c' : Nat) : Row w B m (n - k) (fun p => F (k * m + p)) (.slice (some ⟨g, o + k * m, none⟩) (n - k) c') := by
  obtain ⟨ao', cp', hv, h⟩ := h
  obtain ⟨g', o', ha, hB, hg, hc⟩ := h (by omega)
  simp only [Value.slice.injEq] at hv
  obtain ⟨rfl, _, _⟩ := hv
  simp only [Option.some.injEq, Addr.mk.injEq] at ha
  obtain ⟨rfl, rfl, _⟩ := ha
  refine ⟨_, _, rfl, fun _ => ⟨g, o + k * m, rfl, hB, hg, fun p hp => ?_⟩⟩
  rw [Nat.add_assoc]
  refine hc _ ?_
  have e1 : (n - k) * m = n * m - k * m := Nat.sub_mul n k m
  have e2 : k * m ≤ n * m := Nat.mul_le_mul_right m (by omega)
  omega
theorem Row.tailS {w : World} {B m n g o : Nat} {F : Nat → Int} {cp : Nat} (h : Row w B m n F (.slice (some ⟨g, o, none⟩) n cp)) {k : Nat} (hk : k < n) (hc : n ≤ cp) : Row w B m (n - k) (fun p => F (k * m + p)) (.slice (if cp = k then some ⟨g, o, none⟩ else some ⟨g, o + k * m, none⟩) (n - k) (cp - k)) := by
  rw [if_neg (by omega)]
  exact h.tail hk _
theorem Row.over (w : World) (B m n k : Nat) (F : Nat → Int) (ao : Option Addr) (c : Nat) (hk : ¬ k < n) : Row w B m (n - k) F (.slice ao (n - k) c) := ⟨_, _, rfl, fun q => by omega⟩
theorem OwnM.keptB {w w' : World} {B : Nat} {e : TypeId} {m : Nat} {v : Value} {n : Nat} {L : List Int} (h : OwnM w B e m v n L) (hb : ∀ k, v.ownBlock = some k → w'.heap[k]? = w.heap[k]?) : OwnM w' B e m v n L := by
  obtain ⟨h1, h2⟩ := h
  refine ⟨h1, ?_⟩
  rcases h2 with q | ⟨g, cap, cur, rfl, q1, q2, q3⟩
  · exact Or.inl q
  · exact Or.inr ⟨g, cap, cur, rfl, q1, (hb g rfl).trans q2, q3⟩
theorem OwnM.set {w : World} {B : Nat} {e : TypeId} {m : Nat} {v : Value} {n : Nat} {L : List Int} (h : OwnM w B e m v n L) {c : Nat} (hc : ∀ k, v.ownBlock = some k → k ≠ c) (j : Nat) (u : Value) : OwnM (w.setCell ⟨c, j, none⟩ u) B e m v n L :=
  h.keptB (fun k hk => Below.heap_setCell w _ u k (hc k hk))
theorem OwnM.cap {w : World} {B : Nat} {e : TypeId} {m n : Nat} {ao : Option Addr} {cp : Nat} {L : List Int} (h : OwnM w B e m (.slice ao n cp) n L) : n ≤ cp := by
  rcases h.2 with ⟨q, e⟩ | ⟨g, cap, cur, q, _, _, hn, _⟩
  · cases q; exact Nat.le_refl _
  · cases q; exact hn
theorem run_appL (t ty e : TypeId) (i : TypeInfo) (z : Value) (m bytes : Nat) (ht : Tryz.prog.underlying t = some (.slice e)) (hi : Tryz.prog.info? e = some i) (hz : i.zero = some z) (hsize : i.size = m) (hby : i.bytes = bytes) (hzs : z.cells.size = m) (hm : 0 < m) (hb5 : bytes ≤ 1000)
    (w : World) (base n0 : Nat) (L : List Int) (v : Value) (hown : OwnM w base e m v n0 L) (B n : Nat) (F : Nat → Int) (x : Value) (h : Row w B m n F x) (hn : n0 + n ≤ 1048576) (hbase : base ≤ w.heap.size) :
    ∃ ao cp w', (Builtin.append_ #[t, t] ty #[v, x]).run Tryz.prog w = .ok (.slice ao (n0 + n) cp) w' ∧ OwnM w' base e m (.slice ao (n0 + n) cp) (n0 + n) (L ++ nums F (n * m)) ∧ w.grownBy w' v.ownBlock ∧ ((Value.slice ao (n0 + n) cp).ownBlock = v.ownBlock ∨ (Value.slice ao (n0 + n) cp).ownBlock = some w.heap.size) := by
  have hbb : (n0 + n) * bytes ≤ 1048576 * 1000 := Nat.mul_le_mul hn hb5
  obtain ⟨ao, cp, rfl⟩ := h.form
  cases ao with
  | none =>
    have e0 : n = 0 := by
      rcases Nat.eq_zero_or_pos n with q | q
      · exact q
      · obtain ⟨g, o, hg, _⟩ := h.at q
        cases hg
    subst e0
    obtain ⟨av, cv, rfl⟩ := hown.form
    refine ⟨av, cv, w, ?_, ?_, ⟨rfl, rfl, rfl, Nat.le_refl _, fun _ _ _ => rfl⟩, Or.inl rfl⟩
    · rcases hown.2 with ⟨q, _⟩ | ⟨g, cap, cur, q, _, _, hnc, _⟩
      · cases q
        simp [Builtin.append_, run_underlying ht, sizeOf, typeInfo, hi, Builtin.lenOf, Builtin.firstCells]
      · cases q
        simp [Builtin.append_, run_underlying ht, sizeOf, typeInfo, hi, Builtin.lenOf, Builtin.firstCells, hnc, storeCells]
    · simpa [nums] using hown
  | some a =>
    obtain ⟨v', w', h1, h2, h3, _, h5⟩ := run_append_own_at (P := Tryz.prog) w base t ty e i z m bytes ht hi hz hsize hby hzs hm v n0 _ hown a n cp (vals F (n * m)) (vals_length _ _) (row_cells h) (vals_one _ _) (by unfold maxLen; omega) (by omega) hbase
    have h2' : OwnM w' base e m v' (n0 + n) (L ++ nums F (n * m)) := by
      unfold OwnM
      rw [List.map_append, nums_vals]
      exact h2
    obtain ⟨ao', cp', rfl⟩ := h2'.form
    exact ⟨ao', cp', w', h1, h2', h3, h5⟩
/-- .. with the word where the new row lies, for the walk. -/
theorem wpList_appL (e : TypeId) (i : TypeInfo) (z : Value) (m bytes : Nat) {ops : Array Oper} {rest : List Oper} {o : Oper} {a : Act} {Q : Exit → Act → World → Prop} (hgd : o.guard = none) (s x : Operand) (t : TypeId) (ho : o.op = .call { callee := .builtin .append, args := #[s, x], argTypes := #[t, t] })
    (ht : Tryz.prog.underlying t = some (.slice e)) (hi : Tryz.prog.info? e = some i) (hz : i.zero = some z) (hsize : i.size = m) (hby : i.bytes = bytes) (hzs : z.cells.size = m) (hm : 0 < m) (hb5 : bytes ≤ 1000)
    (w : World) (base n0 : Nat) (L : List Int) (v : Value) (hs : a.eval s = v) (hown : OwnM w base e m v n0 L) (B n : Nat) (F : Nat → Int) (u : Value) (hx : a.eval x = u) (h : Row w B m n F u) (hn : n0 + n ≤ 1048576) (hbase : base ≤ w.heap.size)
    (hK : ∀ ao cp w', OwnM w' base e m (.slice ao (n0 + n) cp) (n0 + n) (L ++ nums F (n * m)) → w.grownBy w' v.ownBlock → ((Value.slice ao (n0 + n) cp).ownBlock = v.ownBlock ∨ (Value.slice ao (n0 + n) cp).ownBlock = some w.heap.size) → wpList Tryz.prog ops Q rest (a.put o.dst (.slice ao (n0 + n) cp)) w') : wpList Tryz.prog ops Q (o :: rest) a w := by
  refine wpList_plain hgd fun K hK' => ?_
  obtain ⟨ao, cp, w', hr, h2, h3, h5⟩ := run_appL t o.type e i z m bytes ht hi hz hsize hby hzs hm hb5 w base n0 L v hown B n F u h hn hbase
  unfold Oper.wp execOp
  simp only [ho, resolve, invoke, builtin, Sem.run_bind, Sem.run_pure, Result.andThen_ok, List.map_toArray, List.map_cons, List.map_nil, hs, hx, hr]
  exact hK' _ _ (hK ao cp w' h2 h3 h5)
end
end Go.Proofs.YtjkchhcnochjlaaGreatDoor

namespace Go.Proofs.YtjkchhcnochjlaaGreatDoor
section
open Go.RowKit
/-- The place of one more. -/
def placeAt (p : Nat → Prop) (n k : Nat) : Prop := k ≤ n ∧ (∀ j, j < k → p j) ∧ (k < n → ¬ p k)

theorem lt_cell {X : World} {b k : Nat} {v : Value} (h : X.cell? ⟨b, k, none⟩ = some v) : b < X.heap.size := World.block_lt_of_cell? X ⟨b, k, none⟩ h
end

section
open Go.RowKit
end

section
open Go.RowKit
end
end Go.Proofs.YtjkchhcnochjlaaGreatDoor

namespace Go.Proofs.YtjkchhcnochjlaaGreatDoor
open Go.RowKit

theorem isTime_is (v : Int) (r : Bool) (hr : decide (1 ≤ v ∧ v ≤ 100000) = r) (w : World) :
    Calls Tryz.prog 67 #[.int .i64 v] w fun e w' => e = .returned (.bool r) ∧ w' = w := by
  by_cases h1 : 1 ≤ v
  · by_cases h2 : v ≤ 100000
    · have d : decide (v ≤ 100000) = true := decide_eq_true h2
      rw [decide_eq_true (show 1 ≤ v ∧ v ≤ 100000 from ⟨h1, h2⟩)] at hr
      subst hr
      go_enter Tryz.func67, Tryz.ntmps67
      go_wp2
      go_ret
      exact ⟨rfl, rfl⟩
    · have d : decide (v ≤ 100000) = false := decide_eq_false h2
      rw [decide_eq_false (show ¬ (1 ≤ v ∧ v ≤ 100000) from fun h => h2 h.2)] at hr
      subst hr
      go_enter Tryz.func67, Tryz.ntmps67
      go_wp2
      go_ret
      exact ⟨rfl, rfl⟩
  · have d : decide (1 ≤ v) = false := decide_eq_false h1
    rw [decide_eq_false (show ¬ (1 ≤ v ∧ v ≤ 100000) from fun h => h1 h.1)] at hr
    subst hr
    go_enter Tryz.func67, Tryz.ntmps67
    go_wp2
    go_ret
    exact ⟨rfl, rfl⟩
theorem isValue_is (v : Int) (r : Bool) (hr : decide (0 ≤ v ∧ v ≤ 9999) = r) (w : World) :
    Calls Tryz.prog 66 #[.int .i64 v] w fun e w' => e = .returned (.bool r) ∧ w' = w := by
  by_cases h1 : 0 ≤ v
  · by_cases h2 : v ≤ 9999
    · have d : decide (v ≤ 9999) = true := decide_eq_true h2
      rw [decide_eq_true (show 0 ≤ v ∧ v ≤ 9999 from ⟨h1, h2⟩)] at hr
      subst hr
      go_enter Tryz.func66, Tryz.ntmps66
      go_wp2
      go_ret
      exact ⟨rfl, rfl⟩
    · have d : decide (v ≤ 9999) = false := decide_eq_false h2
      rw [decide_eq_false (show ¬ (0 ≤ v ∧ v ≤ 9999) from fun h => h2 h.2)] at hr
      subst hr
      go_enter Tryz.func66, Tryz.ntmps66
      go_wp2
      go_ret
      exact ⟨rfl, rfl⟩
  · have d : decide (0 ≤ v) = false := decide_eq_false h1
    rw [decide_eq_false (show ¬ (0 ≤ v ∧ v ≤ 9999) from fun h => h1 h.1)] at hr
    subst hr
    go_enter Tryz.func66, Tryz.ntmps66
    go_wp2
    go_ret
    exact ⟨rfl, rfl⟩
theorem isUntil_is (v : Int) (r : Bool) (hr : decide (0 ≤ v ∧ v ≤ 100000) = r) (w : World) :
    Calls Tryz.prog 90 #[.int .i64 v] w fun e w' => e = .returned (.bool r) ∧ w' = w := by
  by_cases h1 : 0 ≤ v
  · by_cases h2 : v ≤ 100000
    · have d : decide (v ≤ 100000) = true := decide_eq_true h2
      rw [decide_eq_true (show 0 ≤ v ∧ v ≤ 100000 from ⟨h1, h2⟩)] at hr
      subst hr
      go_enter Tryz.func90, Tryz.ntmps90
      go_wp2
      go_ret
      exact ⟨rfl, rfl⟩
    · have d : decide (v ≤ 100000) = false := decide_eq_false h2
      rw [decide_eq_false (show ¬ (0 ≤ v ∧ v ≤ 100000) from fun h => h2 h.2)] at hr
      subst hr
      go_enter Tryz.func90, Tryz.ntmps90
      go_wp2
      go_ret
      exact ⟨rfl, rfl⟩
  · have d : decide (0 ≤ v) = false := decide_eq_false h1
    rw [decide_eq_false (show ¬ (0 ≤ v ∧ v ≤ 100000) from fun h => h1 h.1)] at hr
    subst hr
    go_enter Tryz.func90, Tryz.ntmps90
    go_wp2
    go_ret
    exact ⟨rfl, rfl⟩
theorem isLockKind_is (v : Int) (r : Bool) (hr : decide (1 ≤ v ∧ v ≤ 3) = r) (w : World) :
    Calls Tryz.prog 161 #[.int .i64 v] w fun e w' => e = .returned (.bool r) ∧ w' = w := by
  by_cases h1 : 1 ≤ v
  · by_cases h2 : v ≤ 3
    · have d : decide (v ≤ 3) = true := decide_eq_true h2
      rw [decide_eq_true (show 1 ≤ v ∧ v ≤ 3 from ⟨h1, h2⟩)] at hr
      subst hr
      go_enter Tryz.func161, Tryz.ntmps161
      go_wp2
      go_ret
      exact ⟨rfl, rfl⟩
    · have d : decide (v ≤ 3) = false := decide_eq_false h2
      rw [decide_eq_false (show ¬ (1 ≤ v ∧ v ≤ 3) from fun h => h2 h.2)] at hr
      subst hr
      go_enter Tryz.func161, Tryz.ntmps161
      go_wp2
      go_ret
      exact ⟨rfl, rfl⟩
  · have d : decide (1 ≤ v) = false := decide_eq_false h1
    rw [decide_eq_false (show ¬ (1 ≤ v ∧ v ≤ 3) from fun h => h1 h.1)] at hr
    subst hr
    go_enter Tryz.func161, Tryz.ntmps161
    go_wp2
    go_ret
    exact ⟨rfl, rfl⟩

/-- How two numbers stand to each other: -1, 0 or 1. -/
def cmpOf (a b : Int) : Int := if a < b then -1 else if b < a then 1 else 0
theorem compare_is (a b r : Int) (hr : cmpOf a b = r) (w : World) :
    Calls Tryz.prog 142 #[.int .i64 a, .int .i64 b] w fun e w' => e = .returned (.int .i64 r) ∧ w' = w := by
  unfold cmpOf at hr
  by_cases h1 : a < b
  · rw [if_pos h1] at hr
    subst hr
    go_enter Tryz.func142, Tryz.ntmps142
    go_wp2
    go_ret
    exact ⟨rfl, rfl⟩
  · rw [if_neg h1] at hr
    have d1 : decide (a < b) = false := decide_eq_false h1
    by_cases h2 : b < a
    · rw [if_pos h2] at hr
      subst hr
      clear h1
      go_enter Tryz.func142, Tryz.ntmps142
      go_wp2
      go_ret
      exact ⟨rfl, rfl⟩
    · rw [if_neg h2] at hr
      subst hr
      have d2 : decide (b < a) = false := decide_eq_false h2
      clear h1 h2
      go_enter Tryz.func142, Tryz.ntmps142
      go_wp2
      go_ret
      exact ⟨rfl, rfl⟩
/-- The first of two numbers that is not 0. -/
def orOf (a b : Int) : Int := if a = 0 then b else a
set_option maxHeartbeats 1000000 in
theorem or_is (a b r : Int) (g : Nat) (hr : orOf a b = r) (w : World) (h0 : w.cell? ⟨g, 0, none⟩ = some (.int .i64 a)) (h1 : w.cell? ⟨g, 1, none⟩ = some (.int .i64 b)) :
    Calls Tryz.prog 141 #[.slice (some ⟨g, 0, none⟩) 2 2] w fun e w' => e = .returned (.int .i64 r) ∧ w' = w := by
  unfold orOf at hr
  by_cases ha : a = 0
  · rw [if_pos ha] at hr
    subst hr ha
    go_enter Tryz.func141, Tryz.ntmps141
    go_wp2
    go_loop [8] (fun i => i = .int .i64 0 ∨ i = .int .i64 1 ∨ (i = .int .i64 2 ∧ b = 0)) (fun i => 2 - (intOf i).toNat)
    case atStart => exact Or.inl rfl
    case round =>
      rcases hrel with rfl | rfl | ⟨rfl, rfl⟩
      · go_wp2
        go_round
        case rel => exact Or.inr (Or.inl rfl)
        case measure => simp [intOf]
      · by_cases hb : b = 0
        · subst hb
          go_wp2
          go_round
          case rel => exact Or.inr (Or.inr ⟨rfl, by simp⟩)
          case measure => simp [intOf]
        · have d : (b == 0) = false := beq_eq_false_iff_ne.2 hb
          clear hb
          go_wp2
          go_ret
          exact ⟨rfl, rfl⟩
      · go_wp2
        go_ret
        exact ⟨rfl, rfl⟩
  · rw [if_neg ha] at hr
    subst hr
    have d : (a == 0) = false := beq_eq_false_iff_ne.2 ha
    clear ha
    go_enter Tryz.func141, Tryz.ntmps141
    go_wp2
    go_loop [8] (fun i => i = .int .i64 0) (fun i => 2 - (intOf i).toNat)
    case atStart => rfl
    case round =>
      subst hrel
      go_wp2
      go_ret
      exact ⟨rfl, rfl⟩

/-- Four cells of two boxes, and that nothing old has turned. -/
def Four (w : World) (a0 a1 b0 b1 : Int) (x : World) : Prop := x.cell? ⟨w.heap.size, 0, none⟩ = some (.int .i64 a0) ∧ x.cell? ⟨w.heap.size, 1, none⟩ = some (.int .i64 a1) ∧ x.cell? ⟨w.heap.size + 1, 0, none⟩ = some (.int .i64 b0) ∧ x.cell? ⟨w.heap.size + 1, 1, none⟩ = some (.int .i64 b1) ∧ Below w.heap.size w x
theorem Four.later {w x x' : World} {a0 a1 b0 b1 : Int} (h : Four w a0 a1 b0 b1 x) (hb : Below x.heap.size x x') : Four w a0 a1 b0 b1 x' := by
  obtain ⟨h0, h1, h2, h3, h4⟩ := h
  exact ⟨(hb.cell (World.block_lt_of_cell? x _ h0)).trans h0, (hb.cell (World.block_lt_of_cell? x _ h1)).trans h1, (hb.cell (World.block_lt_of_cell? x _ h2)).trans h2, (hb.cell (World.block_lt_of_cell? x _ h3)).trans h3, h4.trans (hb.mono h4.size)⟩

theorem below_alloc_drew (X : World) (o : Obj) : Below X.drew.heap.size X.drew (X.alloc o).drew := ⟨rfl, rfl, rfl, (below_alloc X o).size, (below_alloc X o).block⟩
theorem two_cells (X : World) (n : Nat) (hn : X.heap.size = n) (a b : Value) (t : TypeId) : (X.alloc (.cells #[a, b] t)).drew.cell? ⟨n, 0, none⟩ = some a ∧ (X.alloc (.cells #[a, b] t)).drew.cell? ⟨n, 1, none⟩ = some b := by
  subst hn
  exact ⟨World.cell?_alloc_mark X _ _ _ 0, World.cell?_alloc_mark X _ _ _ 1⟩
set_option maxRecDepth 100000 in
set_option maxHeartbeats 1000000 in
theorem compareCells_is (x0 x1 x2 y0 y1 y2 : Int) (r : Int) (hr : orOf (cmpOf x0 y0) (cmpOf x1 y1) = r) (w : World) :
    Calls Tryz.prog 160 #[.agg #[.int .i64 x0, .int .i64 x1, .int .i64 x2], .agg #[.int .i64 y0, .int .i64 y1, .int .i64 y2]] w fun e w' => e = .returned (.int .i64 r) ∧ Below w.heap.size w w' := by
  obtain ⟨c0, C0⟩ : ∃ c, Hid (cmpOf x0 y0 = c) := ⟨_, rfl⟩
  obtain ⟨c1, C1⟩ : ∃ c, Hid (cmpOf x1 y1 = c) := ⟨_, rfl⟩
  have HR : Hid (orOf c0 c1 = r) := by unfold Hid; rw [← C0.out, ← C1.out]; exact hr
  clear hr
  go_enter Tryz.func160, Tryz.ntmps160
  go_wp2_with fail
  have h0 : Four w x0 x1 y0 y1 (((w.alloc (.cells #[.int .i64 x0, .int .i64 x1, .int .i64 x2] 212)).alloc (.cells #[.int .i64 y0, .int .i64 y1, .int .i64 y2] 212)).drew) := ⟨by simp, by simp, by simp, by simp, ((below_alloc _ _).alloc (by simp) _).drew⟩
  refine wp_region_held_drew (S := Four w x0 x1 y0 y1) (by kernel_rfl) h0 (fun hS => ?_)
  clear h0
  refine tkH 0 ?_ hS (fun wx hx => ?_) ?_; rotate_left
  · obtain ⟨hx0, hx1, hx2, hx3, _⟩ := hx; go_simp; try with_reducible rfl
  refine tkH 1 ?_ hS (fun wx hx => ?_) ?_; rotate_left
  · obtain ⟨hx0, hx1, hx2, hx3, _⟩ := hx; go_simp; try with_reducible rfl
  refine tkH 2 ?_ hS (fun wx hx => ?_) ?_; rotate_left
  · obtain ⟨hx0, hx1, hx2, hx3, _⟩ := hx; go_simp; try with_reducible rfl
  refine tkH 3 ?_ hS (fun wx hx => ?_) ?_; rotate_left
  · obtain ⟨hx0, hx1, hx2, hx3, _⟩ := hx; go_simp; try with_reducible rfl
  refine tkH 5 ?_ hS (fun wx hx => ?_) ?_; rotate_left
  · obtain ⟨hx0, hx1, hx2, hx3, _⟩ := hx; go_simp; try with_reducible rfl
  refine tkH 6 ?_ hS (fun wx hx => ?_) ?_; rotate_left
  · obtain ⟨hx0, hx1, hx2, hx3, _⟩ := hx; go_simp; try with_reducible rfl
  refine tkH 7 ?_ hS (fun wx hx => ?_) ?_; rotate_left
  · obtain ⟨hx0, hx1, hx2, hx3, _⟩ := hx; go_simp; try with_reducible rfl
  refine tkH 8 ?_ hS (fun wx hx => ?_) ?_; rotate_left
  · obtain ⟨hx0, hx1, hx2, hx3, _⟩ := hx; go_simp; try with_reducible rfl
  refine rdH 4 (fun K hK => ?_)
  go_simp
  go_wp2_with fail
  refine (compare_is _ _ c0 C0.out _).mono ?_
  rintro e w1 ⟨rfl, rfl⟩
  have hS' := hS
  go_wp2_with fail
  refine hK.out _ _ hS' (fun hS => ?_)
  clear hK K hS'
  refine rdH 9 (fun K hK => ?_)
  go_simp
  go_wp2_with fail
  refine (compare_is _ _ c1 C1.out _).mono ?_
  rintro e w1 ⟨rfl, rfl⟩
  have hS' := hS
  go_wp2_with fail
  refine hK.out _ _ hS' (fun hS => ?_)
  clear hK K hS'
  refine rdH 10 (fun K hK => ?_)
  go_simp
  refine hK.out _ _ (hS.later (below_alloc_drew _ _)) (fun hS => ?_)
  clear hK K
  refine rdH 11 (fun K hK => ?_)
  go_simp
  go_wp2_with fail
  refine (or_is c0 c1 r _ HR.out _ (two_cells _ _ (by simp) _ _ _).1 (two_cells _ _ (by simp) _ _ _).2).mono ?_
  rintro e w1 ⟨rfl, rfl⟩
  have hS' := hS
  go_wp2_with fail
  refine hK.out _ _ hS' (fun hS => ?_)
  clear hK K hS'
  refine tkH 12 ?_ hS (fun wx hx => ?_) ?_; rotate_left
  · obtain ⟨hx0, hx1, hx2, hx3, _⟩ := hx; go_simp; try with_reducible rfl
  refine wpAnyH_done (by kernel_rfl) ?_ _
  go_simp
  go_wp2
  go_ret
  exact ⟨rfl, hS.2.2.2.2⟩
set_option maxRecDepth 100000 in
set_option maxHeartbeats 1000000 in
theorem compareWrites_is (x0 x1 x2 x3 y0 y1 y2 y3 : Int) (r : Int) (hr : orOf (cmpOf x0 y0) (cmpOf x1 y1) = r) (w : World) :
    Calls Tryz.prog 163 #[.agg #[.int .i64 x0, .int .i64 x1, .int .i64 x2, .int .i64 x3], .agg #[.int .i64 y0, .int .i64 y1, .int .i64 y2, .int .i64 y3]] w fun e w' => e = .returned (.int .i64 r) ∧ Below w.heap.size w w' := by
  obtain ⟨c0, C0⟩ : ∃ c, Hid (cmpOf x0 y0 = c) := ⟨_, rfl⟩
  obtain ⟨c1, C1⟩ : ∃ c, Hid (cmpOf x1 y1 = c) := ⟨_, rfl⟩
  have HR : Hid (orOf c0 c1 = r) := by unfold Hid; rw [← C0.out, ← C1.out]; exact hr
  clear hr
  go_enter Tryz.func163, Tryz.ntmps163
  go_wp2_with fail
  have h0 : Four w x0 x1 y0 y1 (((w.alloc (.cells #[.int .i64 x0, .int .i64 x1, .int .i64 x2, .int .i64 x3] 121)).alloc (.cells #[.int .i64 y0, .int .i64 y1, .int .i64 y2, .int .i64 y3] 121)).drew) := ⟨by simp, by simp, by simp, by simp, ((below_alloc _ _).alloc (by simp) _).drew⟩
  refine wp_region_held_drew (S := Four w x0 x1 y0 y1) (by kernel_rfl) h0 (fun hS => ?_)
  clear h0
  refine tkH 0 ?_ hS (fun wx hx => ?_) ?_; rotate_left
  · obtain ⟨hx0, hx1, hx2, hx3, _⟩ := hx; go_simp; try with_reducible rfl
  refine tkH 1 ?_ hS (fun wx hx => ?_) ?_; rotate_left
  · obtain ⟨hx0, hx1, hx2, hx3, _⟩ := hx; go_simp; try with_reducible rfl
  refine tkH 2 ?_ hS (fun wx hx => ?_) ?_; rotate_left
  · obtain ⟨hx0, hx1, hx2, hx3, _⟩ := hx; go_simp; try with_reducible rfl
  refine tkH 3 ?_ hS (fun wx hx => ?_) ?_; rotate_left
  · obtain ⟨hx0, hx1, hx2, hx3, _⟩ := hx; go_simp; try with_reducible rfl
  refine tkH 5 ?_ hS (fun wx hx => ?_) ?_; rotate_left
  · obtain ⟨hx0, hx1, hx2, hx3, _⟩ := hx; go_simp; try with_reducible rfl
  refine tkH 6 ?_ hS (fun wx hx => ?_) ?_; rotate_left
  · obtain ⟨hx0, hx1, hx2, hx3, _⟩ := hx; go_simp; try with_reducible rfl
  refine tkH 7 ?_ hS (fun wx hx => ?_) ?_; rotate_left
  · obtain ⟨hx0, hx1, hx2, hx3, _⟩ := hx; go_simp; try with_reducible rfl
  refine tkH 8 ?_ hS (fun wx hx => ?_) ?_; rotate_left
  · obtain ⟨hx0, hx1, hx2, hx3, _⟩ := hx; go_simp; try with_reducible rfl
  refine rdH 4 (fun K hK => ?_)
  go_simp
  go_wp2_with fail
  refine (compare_is _ _ c0 C0.out _).mono ?_
  rintro e w1 ⟨rfl, rfl⟩
  have hS' := hS
  go_wp2_with fail
  refine hK.out _ _ hS' (fun hS => ?_)
  clear hK K hS'
  refine rdH 9 (fun K hK => ?_)
  go_simp
  go_wp2_with fail
  refine (compare_is _ _ c1 C1.out _).mono ?_
  rintro e w1 ⟨rfl, rfl⟩
  have hS' := hS
  go_wp2_with fail
  refine hK.out _ _ hS' (fun hS => ?_)
  clear hK K hS'
  refine rdH 10 (fun K hK => ?_)
  go_simp
  refine hK.out _ _ (hS.later (below_alloc_drew _ _)) (fun hS => ?_)
  clear hK K
  refine rdH 11 (fun K hK => ?_)
  go_simp
  go_wp2_with fail
  refine (or_is c0 c1 r _ HR.out _ (two_cells _ _ (by simp) _ _ _).1 (two_cells _ _ (by simp) _ _ _).2).mono ?_
  rintro e w1 ⟨rfl, rfl⟩
  have hS' := hS
  go_wp2_with fail
  refine hK.out _ _ hS' (fun hS => ?_)
  clear hK K hS'
  refine tkH 12 ?_ hS (fun wx hx => ?_) ?_; rotate_left
  · obtain ⟨hx0, hx1, hx2, hx3, _⟩ := hx; go_simp; try with_reducible rfl
  refine wpAnyH_done (by kernel_rfl) ?_ _
  go_simp
  go_wp2
  go_ret
  exact ⟨rfl, hS.2.2.2.2⟩
theorem compareLocks_is (x0 x1 x2 x3 x4 y0 y1 y2 y3 y4 : Int) (r : Int) (hr : cmpOf x0 y0 = r) (w : World) :
    Calls Tryz.prog 162 #[.agg #[.int .i64 x0, .int .i64 x1, .int .i64 x2, .int .i64 x3, .int .i64 x4], .agg #[.int .i64 y0, .int .i64 y1, .int .i64 y2, .int .i64 y3, .int .i64 y4]] w fun e w' => e = .returned (.int .i64 r) ∧ Below w.heap.size w w' := by
  have HR : Hid (cmpOf x0 y0 = r) := hr
  clear hr
  go_enter Tryz.func162, Tryz.ntmps162
  go_wp2_with fail
  refine (compare_is _ _ r HR.out _).mono ?_
  rintro e w1 ⟨rfl, rfl⟩
  go_wp2
  go_ret
  exact ⟨rfl, (below_alloc _ _).alloc (by simp) _⟩
theorem commitFits_is (x0 x1 x2 x3 : Int) (r : Bool) (hr : decide ((x3 = 4 → x1 = x2) ∧ (x3 ≠ 4 → x2 < x1)) = r) (w : World) :
    Calls Tryz.prog 164 #[.agg #[.int .i64 x0, .int .i64 x1, .int .i64 x2, .int .i64 x3]] w fun e w' => e = .returned (.bool r) ∧ Below w.heap.size w w' := by
  by_cases h3 : x3 = 4
  · by_cases h1 : x1 = x2
    · rw [decide_eq_true (show ((x3 = 4 → x1 = x2) ∧ (x3 ≠ 4 → x2 < x1)) from ⟨fun _ => h1, fun h => absurd h3 h⟩)] at hr
      subst hr h3 h1
      go_enter Tryz.func164, Tryz.ntmps164
      go_wp2
      go_ret
      exact ⟨by simp, below_alloc _ _⟩
    · rw [decide_eq_false (show ¬ ((x3 = 4 → x1 = x2) ∧ (x3 ≠ 4 → x2 < x1)) from fun h => h1 (h.1 h3))] at hr
      subst hr h3
      have d : (x1 == x2) = false := beq_eq_false_iff_ne.2 h1
      clear h1
      go_enter Tryz.func164, Tryz.ntmps164
      go_wp2
      go_ret
      exact ⟨rfl, below_alloc _ _⟩
  · have d3 : (x3 == 4) = false := beq_eq_false_iff_ne.2 h3
    by_cases h1 : x2 < x1
    · rw [decide_eq_true (show ((x3 = 4 → x1 = x2) ∧ (x3 ≠ 4 → x2 < x1)) from ⟨fun h => absurd h h3, fun _ => h1⟩)] at hr
      have d : decide (x2 < x1) = true := decide_eq_true h1
      subst hr
      clear h3 h1
      go_enter Tryz.func164, Tryz.ntmps164
      go_wp2
      go_ret
      exact ⟨rfl, below_alloc _ _⟩
    · rw [decide_eq_false (show ¬ ((x3 = 4 → x1 = x2) ∧ (x3 ≠ 4 → x2 < x1)) from fun h => h1 (h.2 h3))] at hr
      have d : decide (x2 < x1) = false := decide_eq_false h1
      subst hr
      clear h3 h1
      go_enter Tryz.func164, Tryz.ntmps164
      go_wp2
      go_ret
      exact ⟨rfl, below_alloc _ _⟩
end Go.Proofs.YtjkchhcnochjlaaGreatDoor

namespace Go.Proofs
open Go.Shelf
def Tryz.laysFormat_ren : Go.Shelf.Ren := ⟨fun | 173 => 38 | 246 => 71 | 283 => 101 | 284 => 102 | 285 => 103 | 286 => 104 | 129 => 147 | 317 => 146 | 318 => 148 | 319 => 149 | 320 => 150 | 337 => 182 | 338 => 183 | n => n, fun | 2 => 2 | 3 => 3 | 9 => 9 | 4 => 4 | 171 => 186 | 0 => 0 | 53 => 187 | 37 => 79 | 5 => 5 | 173 => 190 | 212 => 237 | 51 => 238 | 20 => 20 | 213 => 239 | 46 => 241 | 232 => 298 | 233 => 299 | n => n, fun | 17 => 0 | 18 => 1 | 19 => 2 | n => n⟩
theorem Tryz.laysFormat : Go.Proofs.LaysM.n173 Tryz.prog Tryz.laysFormat_ren := {
  mixed := by kernel_rfl
  f129 := Tryz.func147.trans (congrArg some (by kernel_rfl))
  f173 := Tryz.func38.trans (congrArg some (by kernel_rfl))
  f246 := Tryz.func71.trans (congrArg some (by kernel_rfl))
  f283 := Tryz.func101.trans (congrArg some (by kernel_rfl))
  f284 := Tryz.func102.trans (congrArg some (by kernel_rfl))
  f285 := Tryz.func103.trans (congrArg some (by kernel_rfl))
  f286 := Tryz.func104.trans (congrArg some (by kernel_rfl))
  f317 := Tryz.func146.trans (congrArg some (by kernel_rfl))
  f318 := Tryz.func148.trans (congrArg some (by kernel_rfl))
  f319 := Tryz.func149.trans (congrArg some (by kernel_rfl))
  f320 := Tryz.func150.trans (congrArg some (by kernel_rfl))
  f337 := Tryz.func182.trans (congrArg some (by kernel_rfl))
  f338 := Tryz.func183.trans (congrArg some (by kernel_rfl))
  t0 := Tryz.underlying0
  a0 := Tryz.isAgg0
  z0 := Tryz.sizeOf0
  v0 := Tryz.zeroValue0
  t2 := Tryz.underlying2
  a2 := Tryz.isAgg2
  z2 := Tryz.sizeOf2
  v2 := Tryz.zeroValue2
  t3 := Tryz.underlying3
  a3 := Tryz.isAgg3
  z3 := Tryz.sizeOf3
  v3 := Tryz.zeroValue3
  t4 := Tryz.underlying4
  a4 := Tryz.isAgg4
  z4 := Tryz.sizeOf4
  v4 := Tryz.zeroValue4
  t5 := Tryz.underlying5
  a5 := Tryz.isAgg5
  z5 := Tryz.sizeOf5
  v5 := Tryz.zeroValue5
  t9 := Tryz.underlying9
  a9 := Tryz.isAgg9
  z9 := Tryz.sizeOf9
  v9 := Tryz.zeroValue9
  t20 := Tryz.underlying20
  a20 := Tryz.isAgg20
  z20 := Tryz.sizeOf20
  v20 := Tryz.zeroValue20
  t37 := Tryz.underlying79
  a37 := Tryz.isAgg79
  z37 := Tryz.sizeOf79
  v37 := Tryz.zeroValue79
  t46 := Tryz.underlying241
  a46 := Tryz.isAgg241
  z46 := Tryz.sizeOf241
  v46 := Tryz.zeroValue241
  t51 := Tryz.underlying238
  a51 := Tryz.isAgg238
  z51 := Tryz.sizeOf238
  v51 := Tryz.zeroValue238
  t53 := Tryz.underlying187
  a53 := Tryz.isAgg187
  z53 := Tryz.sizeOf187
  v53 := Tryz.zeroValue187
  t171 := Tryz.underlying186
  a171 := Tryz.isAgg186
  z171 := Tryz.sizeOf186
  v171 := Tryz.zeroValue186
  t173 := Tryz.underlying190
  a173 := Tryz.isAgg190
  z173 := Tryz.sizeOf190
  v173 := Tryz.zeroValue190
  t212 := Tryz.underlying237
  a212 := Tryz.isAgg237
  z212 := Tryz.sizeOf237
  v212 := Tryz.zeroValue237
  t213 := Tryz.underlying239
  a213 := Tryz.isAgg239
  z213 := Tryz.sizeOf239
  t232 := Tryz.underlying298
  a232 := Tryz.isAgg298
  z232 := Tryz.sizeOf298
  v232 := Tryz.zeroValue298
  t233 := Tryz.underlying299
  a233 := Tryz.isAgg299
  z233 := Tryz.sizeOf299
  v233 := Tryz.zeroValue299
  g17 := by kernel_rfl
  g18 := by kernel_rfl
  g19 := by kernel_rfl
  i0 := by kernel_rfl
  i2 := by kernel_rfl
  i3 := by kernel_rfl
  i4 := by kernel_rfl
  i5 := by kernel_rfl
  i9 := by kernel_rfl
  i20 := by kernel_rfl
  i37 := by kernel_rfl
  i46 := by kernel_rfl
  i51 := by kernel_rfl
  i53 := by kernel_rfl
  i171 := by kernel_rfl
  i173 := by kernel_rfl
  i212 := by kernel_rfl
  i232 := by kernel_rfl
  i233 := by kernel_rfl
  m17 := by kernel_rfl
  m18 := by kernel_rfl
  m19 := by kernel_rfl }
end Go.Proofs

namespace Go.Proofs.YtjkchhcnochjlaaGreatDoor
open Go.RowKit

/-- The kind of a key from 0 to 199, and where its kind begins. -/
def kindAt (key : Int) : Int := if key < 10 then 0 else if key < 20 then 1 else if key < 180 then 2 else 3
def firstAt (key : Int) : Int := if key < 10 then 0 else if key < 20 then 10 else if key < 180 then 20 else 180

set_option maxHeartbeats 400000 in
theorem tellKey_any (key : Int) (w : World) (h0 : 0 ≤ key) (h1 : key ≤ 199) :
    Calls Tryz.prog 188 #[.int .i64 key] w fun e w' => e = .returned (.complex .f64 (floatOfInt .f64 (kindAt key)) (floatOfInt .f64 (key - firstAt key))) ∧ w' = w := by
  by_cases h180 : 180 ≤ key
  · have e1 : kindAt key = 3 := by unfold kindAt; repeat rw [if_neg (by omega)]
    have e2 : firstAt key = 180 := by unfold firstAt; repeat rw [if_neg (by omega)]
    rw [e1, e2]; clear e1 e2
    go_enter Tryz.func188, Tryz.ntmps188
    go_wp2
    go_rounds 1
    go_ret
    exact ⟨rfl, rfl⟩
  by_cases h20 : 20 ≤ key
  · have e1 : kindAt key = 2 := by unfold kindAt; rw [if_neg (by omega), if_neg (by omega), if_pos (by omega)]
    have e2 : firstAt key = 20 := by unfold firstAt; rw [if_neg (by omega), if_neg (by omega), if_pos (by omega)]
    rw [e1, e2]; clear e1 e2
    go_enter Tryz.func188, Tryz.ntmps188
    go_wp2
    go_rounds 2
    go_ret
    exact ⟨rfl, rfl⟩
  by_cases h10 : 10 ≤ key
  · have e1 : kindAt key = 1 := by unfold kindAt; rw [if_neg (by omega), if_pos (by omega)]
    have e2 : firstAt key = 10 := by unfold firstAt; rw [if_neg (by omega), if_pos (by omega)]
    rw [e1, e2]; clear e1 e2
    go_enter Tryz.func188, Tryz.ntmps188
    go_wp2
    go_rounds 3
    go_ret
    exact ⟨rfl, rfl⟩
  · have e1 : kindAt key = 0 := by unfold kindAt; rw [if_pos (by omega)]
    have e2 : firstAt key = 0 := by unfold firstAt; rw [if_pos (by omega)]
    rw [e1, e2]; clear e1 e2
    go_enter Tryz.func188, Tryz.ntmps188
    go_wp2
    go_rounds 4
    go_ret
    exact ⟨by simp, rfl⟩

theorem kindAt_0 {key : Int} (h : key < 10) : kindAt key = 0 ∧ firstAt key = 0 := by unfold kindAt firstAt; rw [if_pos h, if_pos h]; exact ⟨rfl, rfl⟩
theorem kindAt_1 {key : Int} (h : 10 ≤ key) (h' : key < 20) : kindAt key = 1 ∧ firstAt key = 10 := by
  unfold kindAt firstAt; rw [if_neg (by omega), if_pos h', if_neg (by omega), if_pos h']; exact ⟨rfl, rfl⟩
theorem kindAt_2 {key : Int} (h : 20 ≤ key) (h' : key < 180) : kindAt key = 2 ∧ firstAt key = 20 := by
  unfold kindAt firstAt; rw [if_neg (by omega), if_neg (by omega), if_pos h', if_neg (by omega), if_neg (by omega), if_pos h']; exact ⟨rfl, rfl⟩
theorem kindAt_3 {key : Int} (h : 180 ≤ key) : kindAt key = 3 ∧ firstAt key = 180 := by
  unfold kindAt firstAt; rw [if_neg (by omega), if_neg (by omega), if_neg (by omega), if_neg (by omega), if_neg (by omega), if_neg (by omega)]; exact ⟨rfl, rfl⟩

set_option maxHeartbeats 400000 in
theorem partsTold_entry (r : Int) (w : World) (h0 : 0 ≤ r) (h1 : r ≤ 199) :
    Calls Tryz.prog 187 #[.complex .f64 (floatOfInt .f64 2) (floatOfInt .f64 r)] w fun e w' => e = .returned (.tuple #[.int .i64 2, .int .i64 (r / 10), .int .i64 (r % 10)]) ∧ w' = w := by
  have k2 := fun w => run_to_int 2 (by omega) (by omega) w
  have kr := fun w => run_to_int r h0 h1 w
  go_enter Tryz.func187, Tryz.ntmps187
  go_wp2
  go_ret3
  exact ⟨rfl, rfl⟩
set_option maxHeartbeats 400000 in
theorem partsTold_other (k r : Int) (w : World) (hk0 : 0 ≤ k) (hk3 : k ≤ 3) (hk : (k == 2) = false) (h0 : 0 ≤ r) (h1 : r ≤ 199) :
    Calls Tryz.prog 187 #[.complex .f64 (floatOfInt .f64 k) (floatOfInt .f64 r)] w fun e w' => e = .returned (.tuple #[.int .i64 k, .int .i64 r, .int .i64 0]) ∧ w' = w := by
  have k2 := fun w => run_to_int k hk0 (by omega) w
  have kr := fun w => run_to_int r h0 h1 w
  go_enter Tryz.func187, Tryz.ntmps187
  go_wp2
  go_ret3
  exact ⟨rfl, rfl⟩

set_option maxHeartbeats 1000000 in
theorem keyFault_any (key : Int) (w : World) :
    Calls Tryz.prog 159 #[.int .i64 key] w fun e w' => e = .returned (.int .i64 (faultOf key)) ∧ w' = w := by
  by_cases hlo : key < 0
  · rw [faultOf_range (Or.inl hlo)]
    go_enter Tryz.func159, Tryz.ntmps159
    go_wp2
    go_ret
    exact ⟨rfl, rfl⟩
  by_cases hhi : 199 < key
  · rw [faultOf_range (Or.inr hhi)]
    go_enter Tryz.func159, Tryz.ntmps159
    go_wp2
    go_ret
    exact ⟨rfl, rfl⟩
  by_cases h10 : key < 10
  · have HE := kindAt_0 h10
    by_cases hz : key = 0
    · subst hz
      rw [faultOf_ok (Or.inl rfl)]
      go_enter Tryz.func159, Tryz.ntmps159
      go_wp2_with fail
      refine (tellKey_any _ _ (by omega) (by omega)).mono ?_
      rintro e w' ⟨rfl, rfl⟩
      rw [HE.1, HE.2]; clear HE
      go_wp2_with fail
      refine (partsTold_other _ _ _ (by omega) (by omega) rfl (by omega) (by omega)).mono ?_
      rintro e w' ⟨rfl, rfl⟩
      go_wp2
      go_ret
      exact ⟨rfl, rfl⟩
    · rw [faultOf_form (by omega) (by omega) (by omega)]
      have d0 : (key == 0) = false := beq_eq_false_iff_ne.2 hz
      go_enter Tryz.func159, Tryz.ntmps159
      go_wp2_with fail
      refine (tellKey_any _ _ (by omega) (by omega)).mono ?_
      rintro e w' ⟨rfl, rfl⟩
      rw [HE.1, HE.2]; clear HE
      go_wp2_with fail
      refine (partsTold_other _ _ _ (by omega) (by omega) rfl (by omega) (by omega)).mono ?_
      rintro e w' ⟨rfl, rfl⟩
      go_wp2
      go_ret
      exact ⟨rfl, rfl⟩
  by_cases h20 : key < 20
  · have HE := kindAt_1 (by omega) h20
    rw [faultOf_ok (by omega)]
    go_enter Tryz.func159, Tryz.ntmps159
    go_wp2_with fail
    refine (tellKey_any _ _ (by omega) (by omega)).mono ?_
    rintro e w' ⟨rfl, rfl⟩
    rw [HE.1, HE.2]; clear HE
    go_wp2_with fail
    refine (partsTold_other _ _ _ (by omega) (by omega) rfl (by omega) (by omega)).mono ?_
    rintro e w' ⟨rfl, rfl⟩
    go_wp2
    go_ret
    exact ⟨rfl, rfl⟩
  by_cases h180 : key < 180
  · have HE := kindAt_2 (by omega) h180
    by_cases hok : key < 120 ∧ key % 10 ≤ 5
    · rw [faultOf_ok (by omega)]
      have b1 : (key - 20) / 10 ≤ 9 := by omega
      have b2 : 0 ≤ (key - 20) / 10 := by omega
      have b3 : (key - 20) % 10 ≤ 5 := by omega
      have b4 : 0 ≤ (key - 20) % 10 := by omega
      clear hok
      go_enter Tryz.func159, Tryz.ntmps159
      go_wp2_with fail
      refine (tellKey_any _ _ (by omega) (by omega)).mono ?_
      rintro e w' ⟨rfl, rfl⟩
      rw [HE.1, HE.2]; clear HE
      go_wp2_with fail
      refine (partsTold_entry _ _ (by omega) (by omega)).mono ?_
      rintro e w' ⟨rfl, rfl⟩
      go_wp2
      go_ret
      exact ⟨rfl, rfl⟩
    · rw [faultOf_form (by omega) (by omega) (by omega)]
      have b2 : 0 ≤ (key - 20) / 10 := by omega
      have b4 : 0 ≤ (key - 20) % 10 := by omega
      by_cases b1 : (key - 20) / 10 ≤ 9
      · have b3 : 5 < (key - 20) % 10 := by omega
        have d3 : decide (5 < (key - 20) % 10) = true := decide_eq_true b3
        clear hok
        go_enter Tryz.func159, Tryz.ntmps159
        go_wp2_with fail
        refine (tellKey_any _ _ (by omega) (by omega)).mono ?_
        rintro e w' ⟨rfl, rfl⟩
        rw [HE.1, HE.2]; clear HE
        go_wp2_with fail
        refine (partsTold_entry _ _ (by omega) (by omega)).mono ?_
        rintro e w' ⟨rfl, rfl⟩
        go_wp2
        go_ret
        exact ⟨rfl, rfl⟩
      · have b3 : 9 < (key - 20) / 10 := by omega
        have d3 : decide (9 < (key - 20) / 10) = true := decide_eq_true b3
        clear hok b1
        go_enter Tryz.func159, Tryz.ntmps159
        go_wp2_with fail
        refine (tellKey_any _ _ (by omega) (by omega)).mono ?_
        rintro e w' ⟨rfl, rfl⟩
        rw [HE.1, HE.2]; clear HE
        go_wp2_with fail
        refine (partsTold_entry _ _ (by omega) (by omega)).mono ?_
        rintro e w' ⟨rfl, rfl⟩
        go_wp2
        go_ret
        exact ⟨rfl, rfl⟩
  · have HE := kindAt_3 (key := key) (by omega)
    by_cases hok : key < 190
    focus
      rw [faultOf_ok (by omega)]
    rotate_left
    focus
      rw [faultOf_form (by omega) (by omega) (by omega)]
      have d3 : decide (9 < key - 180) = true := decide_eq_true (by omega)
    rotate_left
    all_goals
      go_enter Tryz.func159, Tryz.ntmps159
      go_wp2_with fail
      refine (tellKey_any _ _ (by omega) (by omega)).mono ?_
      rintro e w' ⟨rfl, rfl⟩
      rw [HE.1, HE.2]; clear HE
      go_wp2_with fail
      refine (partsTold_other _ _ _ (by omega) (by omega) rfl (by omega) (by omega)).mono ?_
      rintro e w' ⟨rfl, rfl⟩
      go_wp2
      go_ret
      exact ⟨rfl, rfl⟩
end Go.Proofs.YtjkchhcnochjlaaGreatDoor

