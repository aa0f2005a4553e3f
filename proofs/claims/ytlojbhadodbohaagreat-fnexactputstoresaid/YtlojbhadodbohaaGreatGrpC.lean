/-
  Own text. What toGroups, eqGroups and szGroups do.
-/
import Derived.Test.YtlojbhadodbohaaGreatGrpB
import Derived.Test.YtlojbhadodbohaaGreatStorQ
namespace Go.Proofs.YtlojbhadodbohaaGreat
open Go.RowKit

theorem Blk2.set0 {x : World} {b : Nat} {a0 a1 : Value} (h : Blk2 x b a0 a1) (u : Value) : Blk2 (x.setCell ⟨b, 0, none⟩ u) b u a1 := by
  obtain ⟨⟨h0, h1⟩, f0, f1⟩ := h
  exact ⟨⟨World.cell?_setCell_same _ _ _ h0, (World.cell?_setCell_other _ _ _ _ (by simp)).trans h1⟩, by simpa using f0, by simpa using f1⟩
theorem Blk2.set1 {x : World} {b : Nat} {a0 a1 : Value} (h : Blk2 x b a0 a1) (u : Value) : Blk2 (x.setCell ⟨b, 1, none⟩ u) b a0 u := by
  obtain ⟨⟨h0, h1⟩, f0, f1⟩ := h
  exact ⟨⟨(World.cell?_setCell_other _ _ _ _ (by simp)).trans h0, World.cell?_setCell_same _ _ _ h1⟩, by simpa using f0, by simpa using f1⟩
theorem Blk2.setFar {x : World} {b : Nat} {a0 a1 : Value} (h : Blk2 x b a0 a1) {p : Addr} (hp : b ≠ p.block) (u : Value) : Blk2 (x.setCell p u) b a0 a1 := h.kept (Below.heap_setCell x p u b hp)
theorem FillS.kept {w w' : World} {g n k : Nat} {U : Nat → Nat → Value} (h : FillS w g n k U) (hs : w.heap.size ≤ w'.heap.size) (hb : w'.heap[g]? = w.heap[g]?) : FillS w' g n k U := by
  obtain ⟨h1, h2, h3⟩ := h
  have hc : ∀ p, w'.cell? ⟨g, p, none⟩ = w.cell? ⟨g, p, none⟩ := fun p => World.cell?_of_block (w := w) hb
  have hf : ∀ p, w'.frozen? ⟨g, p, none⟩ = w.frozen? ⟨g, p, none⟩ := fun p => World.frozen?_of_block (w := w) hb
  refine ⟨Nat.lt_of_lt_of_le h1 hs, fun p hp => ⟨?_, (hf p).trans (h2 p hp).2⟩, fun i hi => ?_⟩
  · obtain ⟨u, hu⟩ := (h2 p hp).1
    exact ⟨u, (hc p).trans hu⟩
  · obtain ⟨c0, c1, c2⟩ := h3 i hi
    exact ⟨(hc _).trans c0, (hc _).trans c1, (hc _).trans c2⟩
theorem FillS.far {w : World} {g n k : Nat} {U : Nat → Nat → Value} (h : FillS w g n k U) {a : Addr} (ha : g ≠ a.block) (u : Value) : FillS (w.setCell a u) g n k U := h.kept (by simp [World.setCell]) (Below.heap_setCell w a u g ha)

/-- Ranges and stores, as they came in or were laid. -/
def Grs (w : World) (B nr : Nat) (F : Nat → Int) (n : Nat) (S : Nat → Sto) (V : Nat → Nat → Value) (vr vs : Value) : Prop := Row w B 3 nr F vr ∧ Stos w B n S V vs
theorem Grs.later {w w' : World} {B nr : Nat} {F : Nat → Int} {n : Nat} {S : Nat → Sto} {V : Nat → Nat → Value} {vr vs : Value} (h : Grs w B nr F n S V vr vs) (hb : Below w.heap.size w w') : Grs w' B nr F n S V vr vs := ⟨h.1.later hb, h.2.later hb⟩
theorem Grs.alloc {w : World} {B nr : Nat} {F : Nat → Int} {n : Nat} {S : Nat → Sto} {V : Nat → Nat → Value} {vr vs : Value} (h : Grs w B nr F n S V vr vs) (o : Obj) : Grs (w.alloc o) B nr F n S V vr vs := ⟨h.1.alloc o, h.2.alloc o⟩
theorem Grs.mono {w : World} {B B' nr : Nat} {F : Nat → Int} {n : Nat} {S : Nat → Sto} {V : Nat → Nat → Value} {vr vs : Value} (h : Grs w B nr F n S V vr vs) (hB : B' ≤ B) : Grs w B' nr F n S V vr vs := ⟨h.1.mono hB, h.2.mono hB⟩
theorem Grs.form {w : World} {B nr : Nat} {F : Nat → Int} {n : Nat} {S : Nat → Sto} {V : Nat → Nat → Value} {vr vs : Value} (h : Grs w B nr F n S V vr vs) : ∃ a0 c0 a1 c1, vr = .slice a0 nr c0 ∧ vs = .slice a1 n c1 := by
  obtain ⟨a0, c0, h0⟩ := h.1.form
  obtain ⟨a1, c1, h1⟩ := h.2.form
  exact ⟨a0, c0, a1, c1, h0, h1⟩
/-- Ranges and stores in new memory, of which all may be written; their lists lie apart from each other. -/
def FineG (w : World) (lo nr : Nat) (F : Nat → Int) (n : Nat) (S : Nat → Sto) (ra : Option Addr) (rc g : Nat) (U : Nat → Nat → Value) (z : Nat → Nat) : Prop :=
  (Row w lo 3 nr F (.slice ra nr rc) ∧ Free w (nr * 3) (.slice ra nr rc) ∧ (0 < nr → ∀ k, (Value.slice ra nr rc).ownBlock = some k → k < g)) ∧ lo ≤ g ∧ FillS w g n n U ∧ Fine w z n S U ∧ z 0 = g + 1 ∧ (∀ i, i ≤ n → g < z i) ∧ z n ≤ w.heap.size
theorem FineG.grs {w : World} {lo nr : Nat} {F : Nat → Int} {n : Nat} {S : Nat → Sto} {ra : Option Addr} {rc g : Nat} {U : Nat → Nat → Value} {z : Nat → Nat} (h : FineG w lo nr F n S ra rc g U z) : Grs w lo nr F n S U (.slice ra nr rc) (.slice (some ⟨g, 0, none⟩) n n) :=
  ⟨h.1.1, MadeS.stos h.2.1 h.2.2.1 h.2.2.2.1 h.2.2.2.2.2.1⟩
theorem FineG.later {w w' : World} {lo nr : Nat} {F : Nat → Int} {n : Nat} {S : Nat → Sto} {ra : Option Addr} {rc g : Nat} {U : Nat → Nat → Value} {z : Nat → Nat} (h : FineG w lo nr F n S ra rc g U z) (hb : Below w.heap.size w w') : FineG w' lo nr F n S ra rc g U z := by
  obtain ⟨⟨h1, h2, h3⟩, h4, h5, h6, h7, h8, h9⟩ := h
  exact ⟨⟨h1.later hb, h2.ofRow h1 hb, h3⟩, h4, h5.later hb, h6.later hb, h7, h8, Nat.le_trans h9 hb.size⟩
/-- What toGroups answers. -/
def NewGr (w : World) (nr : Nat) (F : Nat → Int) (n : Nat) (S : Nat → Sto) (e : Ending) (w' : World) : Prop :=
  ∃ ra rc g U z, e = .returned (.agg #[.slice ra nr rc, .slice (some ⟨g, 0, none⟩) n n]) ∧ FineG w' w.heap.size nr F n S ra rc g U z ∧ Below w.heap.size w w'
set_option maxRecDepth 10000 in
set_option maxHeartbeats 2000000 in
theorem toGroups_any (nr : Nat) (F : Nat → Int) (n : Nat) (S : Nat → Sto) (V : Nat → Nat → Value) (vr vs : Value) (B : Nat) (w : World) (h : Grs w B nr F n S V vr vs) (hr : nr ≤ 1048576) (hn : n ≤ 1048576) (hs : ∀ i, i < n → SmallS (S i)) :
    Calls Tryz.prog 10 #[.agg #[vr, vs]] w (NewGr w nr F n S) := by
  obtain ⟨a0, c0, a1, c1, rfl, rfl⟩ := h.form
  have H : Hid (Grs w B nr F n S V (.slice a0 nr c0) (.slice a1 n c1)) := h
  have HN : Hid (∀ i, i < n → SmallS (S i)) := hs
  clear h hs
  go_enter Tryz.func10, Tryz.ntmps10
  go_wp2_with fail
  refine (toRangeS_any _ B _ _ _ (((H.out.1.alloc _).alloc _).alloc _) hr).mono ?_
  rintro e w1 ⟨u0, rfl, r0, f0, q1⟩
  obtain ⟨b0, d0, rfl⟩ := r0.form
  have k1 := (((Blk2.new w (.slice a0 nr c0) (.slice a1 n c1) 25).alloc (.cells #[.slice none 0 0, .slice none 0 0] 36)).alloc (.cells #[.slice none 0 0, .slice none 0 0] 36)).later q1
  have k2 := ((Blk2.new (w.alloc (.cells #[.slice a0 nr c0, .slice a1 n c1] 25)) (.slice none 0 0) (.slice none 0 0) 36).alloc (.cells #[.slice none 0 0, .slice none 0 0] 36)).later q1
  have k3 := (Blk2.new ((w.alloc (.cells #[.slice a0 nr c0, .slice a1 n c1] 25)).alloc (.cells #[.slice none 0 0, .slice none 0 0] 36)) (.slice none 0 0) (.slice none 0 0) 36).later q1
  simp only [World.size_alloc] at k2 k3 r0 q1
  have B1 : Hid (Below w.heap.size w w1) := (((below_alloc w _).alloc (by simp) _).alloc (by simp; omega) _).trans (q1.mono (by omega))
  have P1 : Hid (Blk2 w1 w.heap.size (.slice a0 nr c0) (.slice a1 n c1) ∧ Blk2 w1 (w.heap.size + 1) (.slice none 0 0) (.slice none 0 0) ∧ Blk2 w1 (w.heap.size + 2) (.slice none 0 0) (.slice none 0 0)) := ⟨k1, k2, k3⟩
  have R1 : Hid (Row w1 (w.heap.size + 3) 3 nr F (.slice b0 nr d0) ∧ Free w1 (nr * 3) (.slice b0 nr d0)) := ⟨r0, f0⟩
  obtain ⟨⟨_, x1⟩, _⟩ := k1
  obtain ⟨⟨y0, _⟩, z0, _⟩ := k3
  clear k2 r0 f0 q1
  go_wp2_with fail
  have B1' : Hid (Below w.heap.size w (w1.setCell ⟨w.heap.size + 2, 0, none⟩ (.slice b0 nr d0))) := B1.out.setCell (by simp) _
  refine (toStoreS_any n S V _ B _ (H.out.2.later B1'.out) hn (fun i hi => HN.out i hi)).mono ?_
  rintro e w2 ⟨g, U, z, rfl, hg, F2, G2, q2⟩
  have z1 : w.heap.size + 3 ≤ w1.heap.size := P1.out.2.2.lt
  have sz1 : (w1.setCell ⟨w.heap.size + 2, 0, none⟩ (.slice b0 nr d0)).heap.size = w1.heap.size := by simp [World.setCell]
  have k2 := (P1.out.2.1.setFar (p := ⟨w.heap.size + 2, 0, none⟩) (by simp) (.slice b0 nr d0)).later q2
  have k3 := (P1.out.2.2.set0 (.slice b0 nr d0)).later q2
  have hgg : w1.heap.size ≤ g := by have := hg.1; rw [sz1] at this; exact this
  have R2 : Hid (FineG w2 (w.heap.size + 3) nr F n S b0 d0 g U z) :=
    have e := R1.out.1.far (a := ⟨w.heap.size + 2, 0, none⟩) (Or.inl (by simp)) (.slice b0 nr d0)
    ⟨⟨e.later q2, (R1.out.2.far _ _).ofRow e q2, fun hn k hk => by have := (R1.out.1.lt hn k hk).2; omega⟩, by omega, F2, G2⟩
  have B2 : Hid (Below w.heap.size w w2) := B1'.out.trans (q2.mono (by have := B1'.out.size; omega))
  have hgs : Hid (w.heap.size + 3 ≤ g) := by unfold Hid; omega
  clear x1 y0 z0 q2 B1 B1' P1 R1 z1 sz1 F2 G2 hg hgg
  obtain ⟨⟨x0, x1⟩, y0, y1⟩ := k2
  obtain ⟨⟨p0, p1⟩, q0, q1⟩ := k3
  go_wp2
  refine bodyPost_ret (v := .agg #[.slice b0 nr d0, .slice (some ⟨g, 0, none⟩) n n]) (by simp [results, Tryz.results10, go_sem, x0, x1]) rfl ⟨b0, d0, g, U, z, rfl, ?_, ?_⟩
  · obtain ⟨⟨h1, h2, h3⟩, h4, h5, h6, h7, h8, h9⟩ := R2.out
    have hz : ∀ i, i < n → w.heap.size + 3 ≤ z i := fun i hi => by have := h8 i (by omega); have := hgs.out; omega
    have far : ∀ (a : Nat), a < w.heap.size + 3 → ∀ i, i < n → a < z i := fun a ha i hi => by have := hz i hi; omega
    refine ⟨⟨(((h1.far (Or.inl (by simp)) _).far (Or.inl (by simp)) _).far (Or.inl (by simp)) _).mono (by omega), ((h2.far _ _).far _ _).far _ _, h3⟩, by omega, ((h5.far (by simp; omega) _).far (by simp; omega) _).far (by simp; omega) _, ((h6.far (far _ (by simp)) _).far (far _ (by simp)) _).far (far _ (by simp)) _, h7, h8, by simpa [World.setCell] using h9⟩
  · exact ((B2.out.setCell (by simp; omega) _).setCell (by simp) _).setCell (by simp) _
set_option maxHeartbeats 1000000 in
theorem eqGroups_same (nr : Nat) (F : Nat → Int) (n : Nat) (S : Nat → Sto) (V U : Nat → Nat → Value) (vr vs ur us : Value) (B B' : Nat) (w : World) (h : Grs w B nr F n S V vr vs) (h' : Grs w B' nr F n S U ur us) (hr : nr ≤ 1048576) (hn : n ≤ 1048576) (hs : ∀ i, i < n → SmallS (S i)) :
    Calls Tryz.prog 14 #[.agg #[vr, vs], .agg #[ur, us]] w fun e w' => e = .returned (.bool true) ∧ Below w.heap.size w w' := by
  obtain ⟨a0, c0, a1, c1, rfl, rfl⟩ := h.form
  obtain ⟨b0, d0, b1, d1, rfl, rfl⟩ := h'.form
  have H : Hid (Grs w B nr F n S V (.slice a0 nr c0) (.slice a1 n c1)) := h
  have H' : Hid (Grs w B' nr F n S U (.slice b0 nr d0) (.slice b1 n d1)) := h'
  have HN : Hid (∀ i, i < n → SmallS (S i)) := hs
  clear h h' hs
  go_enter Tryz.func14, Tryz.ntmps14
  go_wp2_with fail
  refine (eqRangeS_same _ _ B B' _ _ _ ((H.out.1.alloc _).alloc _) ((H'.out.1.alloc _).alloc _) hr).mono ?_
  rintro e w1 ⟨rfl, q1⟩
  have k1 := ((Blk2.new w (.slice a0 nr c0) (.slice a1 n c1) 36).alloc (.cells #[.slice b0 nr d0, .slice b1 n d1] 36)).later q1
  have k2 := (Blk2.new (w.alloc (.cells #[.slice a0 nr c0, .slice a1 n c1] 36)) (.slice b0 nr d0) (.slice b1 n d1) 36).later q1
  simp only [World.size_alloc] at k2 q1
  have B1 : Hid (Below w.heap.size w w1) := ((below_alloc w _).alloc (by simp) _).trans (q1.mono (by omega))
  obtain ⟨⟨_, x1⟩, _⟩ := k1
  obtain ⟨⟨_, y1⟩, _⟩ := k2
  clear q1
  go_wp2_with fail
  refine (eqStoreS_same n S V U _ _ B B' _ (H.out.2.later B1.out) (H'.out.2.later B1.out) hn HN.out).mono ?_
  rintro e w2 ⟨rfl, q2⟩
  have B2 : Hid (Below w.heap.size w w2) := B1.out.trans (q2.mono B1.out.size)
  clear q2 x1 y1
  go_wp2
  go_ret
  exact ⟨rfl, B2.out⟩
set_option maxHeartbeats 1000000 in
theorem szGroups_any (nr : Nat) (F : Nat → Int) (n : Nat) (S : Nat → Sto) (V : Nat → Nat → Value) (vr vs : Value) (B : Nat) (w : World) (h : Grs w B nr F n S V vr vs) (hr : nr ≤ 9223372036854775807) (hn : n ≤ 9223372036854775807) (hs : ∀ i, i < n → BigS (S i)) :
    Calls Tryz.prog 7 #[.agg #[vr, vs], .int .i64 1048576] w fun e w' => ∃ r, e = .returned (.int .i64 r) ∧ (r = -1 ∨ (0 ≤ r ∧ nr ≤ 1048576 ∧ (n ≤ 1048576 ∧ sumN (sizeT S) n ≤ 1048576) ∧ ∀ i, i < n → SmallS (S i))) ∧ Below w.heap.size w w' := by
  obtain ⟨a0, c0, a1, c1, rfl, rfl⟩ := h.form
  have H : Hid (Grs w B nr F n S V (.slice a0 nr c0) (.slice a1 n c1)) := h
  have HN : Hid (∀ i, i < n → BigS (S i)) := hs
  clear h hs
  by_cases hl : (1048576 : Int) < nr
  · go_enter Tryz.func7, Tryz.ntmps7
    go_wp2_with fail
    refine (szRangeS_no _ _ _ 1048576 _ hl (by omega) (by omega) hr).mono ?_
    rintro e w1 ⟨rfl, rfl⟩
    go_wp2
    go_ret
    exact ⟨-1, rfl, Or.inl rfl, below_alloc _ _⟩
  go_enter Tryz.func7, Tryz.ntmps7
  go_wp2_with fail
  refine (szRangeS_ok _ _ _ 1048576 _ (by omega) (by omega)).mono ?_
  rintro e w1 ⟨rfl, hw1⟩
  have d : decide ((1048576 : Int) - nr < 0) = false := decide_eq_false (by omega)
  have k1 : Blk2 w1 w.heap.size (.slice a0 nr c0) (.slice a1 n c1) := by rw [hw1]; exact Blk2.new w _ _ _
  have B1 : Hid (Below w.heap.size w w1) := by rw [hw1]; exact below_alloc _ _
  clear hw1
  obtain ⟨⟨_, x1⟩, _⟩ := k1
  go_wp2_with fail
  refine (szStoreS_any n S V _ B (1048576 - nr) _ (H.out.2.later B1.out) hn HN.out (by omega) (by omega)).mono ?_
  rintro e w2 ⟨r, rfl, hA, q2⟩
  have B2 : Hid (Below w.heap.size w w2) := B1.out.trans (q2.mono B1.out.size)
  clear q2 x1
  rcases hA with rfl | ⟨h1, h3, h2, h4⟩
  · go_wp2
    go_ret
    exact ⟨-1, rfl, Or.inl rfl, B2.out⟩
  · have dr : decide (r < 0) = false := decide_eq_false (by omega)
    have HA : Hid (∀ i, i < n → SmallS (S i)) := h4
    clear h4
    go_wp2
    go_ret
    exact ⟨r, rfl, Or.inr ⟨h1, by omega, ⟨h3, by omega⟩, HA.out⟩, B2.out⟩
end Go.Proofs.YtlojbhadodbohaaGreat
