/-
  Own text. Rows of stores: plain facts on memory; what the law's helpers over them do: toStoreS, szStoreS, eqStoreS, and the same of groups.
-/
import Derived.Test.YtpfmbfmlpoibeaaGreatColsE
import Derived.Test.YtpfmbfmlpoibeaaGreatLawT
import Derived.Test.YtpfmbfmlpoibeaaGreatRngA
namespace Go.Proofs.YtpfmbfmlpoibeaaGreat
open Go.RowKit

/-- A row of n stores from block B on: number i is S i, its lists are V i 0, V i 1, V i 2. -/
def Stos (w : World) (B n : Nat) (S : Nat → Sto) (V : Nat → Nat → Value) (v : Value) : Prop :=
  (∃ ao cp, v = .slice ao n cp ∧ (0 < n → ∃ g o, ao = some ⟨g, o, none⟩ ∧ B ≤ g ∧ g < w.heap.size ∧ ∀ i, i < n → w.cell? ⟨g, o + i * 3, none⟩ = some (V i 0) ∧ w.cell? ⟨g, o + i * 3 + 1, none⟩ = some (V i 1) ∧ w.cell? ⟨g, o + i * 3 + 2, none⟩ = some (V i 2))) ∧ ∀ i, i < n → St w B (S i) (V i 0) (V i 1) (V i 2)
theorem Stos.form {w : World} {B n : Nat} {S : Nat → Sto} {V : Nat → Nat → Value} {v : Value} (h : Stos w B n S V v) : ∃ ao cp, v = .slice ao n cp := by
  obtain ⟨⟨ao, cp, rfl, _⟩, _⟩ := h; exact ⟨ao, cp, rfl⟩
theorem Stos.later {w w' : World} {B n : Nat} {S : Nat → Sto} {V : Nat → Nat → Value} {v : Value} (h : Stos w B n S V v) (hb : Below w.heap.size w w') : Stos w' B n S V v := by
  obtain ⟨⟨ao, cp, rfl, h1⟩, h2⟩ := h
  refine ⟨⟨ao, cp, rfl, fun hn => ?_⟩, fun i hi => (h2 i hi).later hb⟩
  obtain ⟨g, o, rfl, hB, hg, hc⟩ := h1 hn
  refine ⟨g, o, rfl, hB, Nat.lt_of_lt_of_le hg hb.size, fun i hi => ?_⟩
  obtain ⟨c0, c1, c2⟩ := hc i hi
  exact ⟨(hb.cell (p := ⟨g, o + i * 3, none⟩) hg).trans c0, (hb.cell (p := ⟨g, o + i * 3 + 1, none⟩) hg).trans c1, (hb.cell (p := ⟨g, o + i * 3 + 2, none⟩) hg).trans c2⟩
theorem Stos.alloc {w : World} {B n : Nat} {S : Nat → Sto} {V : Nat → Nat → Value} {v : Value} (h : Stos w B n S V v) (o : Obj) : Stos (w.alloc o) B n S V v := h.later (below_alloc _ _)
theorem Stos.mono {w : World} {B B' n : Nat} {S : Nat → Sto} {V : Nat → Nat → Value} {v : Value} (h : Stos w B n S V v) (hB : B' ≤ B) : Stos w B' n S V v := by
  obtain ⟨⟨ao, cp, rfl, h1⟩, h2⟩ := h
  refine ⟨⟨ao, cp, rfl, fun hn => ?_⟩, fun i hi => (h2 i hi).mono hB⟩
  obtain ⟨g, o, rfl, hb, hg, hc⟩ := h1 hn
  exact ⟨g, o, rfl, by omega, hg, hc⟩
theorem Stos.at {w : World} {B n : Nat} {S : Nat → Sto} {V : Nat → Nat → Value} {ao : Option Addr} {cp : Nat} (h : Stos w B n S V (.slice ao n cp)) {i : Nat} (hi : i < n) :
    ∃ g o, ao = some ⟨g, o, none⟩ ∧ B ≤ g ∧ g < w.heap.size ∧ (w.cell? ⟨g, o + i * 3, none⟩ = some (V i 0) ∧ w.cell? ⟨g, o + i * 3 + 1, none⟩ = some (V i 1) ∧ w.cell? ⟨g, o + i * 3 + 2, none⟩ = some (V i 2)) ∧ St w B (S i) (V i 0) (V i 1) (V i 2) := by
  obtain ⟨⟨ao', cp', hv, h1⟩, h2⟩ := h
  simp only [Value.slice.injEq] at hv
  obtain ⟨rfl, _, rfl⟩ := hv
  obtain ⟨g, o, ha, hB, hg, hc⟩ := h1 (by omega)
  exact ⟨g, o, ha, hB, hg, hc i hi, h2 i hi⟩
theorem Stos.far {w : World} {B n : Nat} {S : Nat → Sto} {V : Nat → Nat → Value} {v : Value} (h : Stos w B n S V v) {a : Addr} (ha : a.block < B) (u : Value) : Stos (w.setCell a u) B n S V v := by
  obtain ⟨⟨ao, cp, rfl, h1⟩, h2⟩ := h
  refine ⟨⟨ao, cp, rfl, fun hn => ?_⟩, fun i hi => (h2 i hi).far ha u⟩
  obtain ⟨g, o, rfl, hB, hg, hc⟩ := h1 hn
  have hk : ∀ p, (w.setCell a u).cell? ⟨g, p, none⟩ = w.cell? ⟨g, p, none⟩ := fun p => World.cell?_of_block (Below.heap_setCell w a u g (by omega))
  refine ⟨g, o, rfl, hB, by simpa [World.setCell] using hg, fun i hi => ?_⟩
  obtain ⟨c0, c1, c2⟩ := hc i hi
  exact ⟨(hk _).trans c0, (hk _).trans c1, (hk _).trans c2⟩

/-- The stores' own lists: each may be written, and they lie one behind the other: those of number i from block z i on, below z (i + 1). -/
def Fine (w : World) (z : Nat → Nat) (n : Nat) (S : Nat → Sto) (U : Nat → Nat → Value) : Prop :=
  ∀ i, i < n → (St w (z i) (S i) (U i 0) (U i 1) (U i 2) ∧ FreeS w (S i) (U i 0) (U i 1) (U i 2) ∧ ApartD (S i) (U i 0) (U i 1) (U i 2)) ∧ OwnIn (S i) (U i 0) (U i 1) (U i 2) (fun k => z i ≤ k ∧ k < z (i + 1)) ∧ z i ≤ z (i + 1)
theorem Fine.later {w w' : World} {z : Nat → Nat} {n : Nat} {S : Nat → Sto} {U : Nat → Nat → Value} (h : Fine w z n S U) (hb : Below w.heap.size w w') : Fine w' z n S U := fun i hi => by
  obtain ⟨⟨h1, h2, h3⟩, h4⟩ := h i hi
  exact ⟨⟨h1.later hb, h2.later h1 hb, h3⟩, h4⟩
theorem Fine.far {w : World} {z : Nat → Nat} {n : Nat} {S : Nat → Sto} {U : Nat → Nat → Value} (h : Fine w z n S U) {a : Addr} (ha : ∀ i, i < n → a.block < z i) (u : Value) : Fine (w.setCell a u) z n S U := fun i hi => by
  obtain ⟨⟨h1, h2, h3⟩, h4⟩ := h i hi
  exact ⟨⟨h1.far (ha i hi) u, h2.far _ _, h3⟩, h4⟩

/-- A block of stores that is filled: of its n stores the first k are laid. -/
def FillS (w : World) (g n k : Nat) (U : Nat → Nat → Value) : Prop :=
  g < w.heap.size ∧ (∀ p, p < n * 3 → (∃ u, w.cell? ⟨g, p, none⟩ = some u) ∧ w.frozen? ⟨g, p, none⟩ = false) ∧ ∀ i, i < k → w.cell? ⟨g, i * 3, none⟩ = some (U i 0) ∧ w.cell? ⟨g, i * 3 + 1, none⟩ = some (U i 1) ∧ w.cell? ⟨g, i * 3 + 2, none⟩ = some (U i 2)
theorem FillS.later {w w' : World} {g n k : Nat} {U : Nat → Nat → Value} (h : FillS w g n k U) (hb : Below w.heap.size w w') : FillS w' g n k U := by
  obtain ⟨h1, h2, h3⟩ := h
  refine ⟨Nat.lt_of_lt_of_le h1 hb.size, fun p hp => ⟨?_, (hb.frozen (p := ⟨g, p, none⟩) h1).trans (h2 p hp).2⟩, fun i hi => ?_⟩
  · obtain ⟨u, hu⟩ := (h2 p hp).1
    exact ⟨u, (hb.cell (p := ⟨g, p, none⟩) h1).trans hu⟩
  · obtain ⟨c0, c1, c2⟩ := h3 i hi
    exact ⟨(hb.cell (p := ⟨g, i * 3, none⟩) h1).trans c0, (hb.cell (p := ⟨g, i * 3 + 1, none⟩) h1).trans c1, (hb.cell (p := ⟨g, i * 3 + 2, none⟩) h1).trans c2⟩
theorem FillS.at {w : World} {g n k : Nat} {U : Nat → Nat → Value} (h : FillS w g n k U) {p : Nat} (hp : p < n * 3) : ∃ u, w.cell? ⟨g, p, none⟩ = some u ∧ w.frozen? ⟨g, p, none⟩ = false := by
  obtain ⟨⟨u, hu⟩, hf⟩ := h.2.1 p hp
  exact ⟨u, hu, hf⟩
theorem FillS.made (w : World) (z : Array Value) (n : Nat) (e : TypeId) (U : Nat → Nat → Value) : FillS (w.alloc (.cells (madeCells z (n * 3)) e)) w.heap.size n 0 U := by
  refine ⟨by simp, fun p hp => ⟨⟨(madeCells z (n * 3))[p]'(by rw [size_madeCells]; exact hp), ?_⟩, by simp⟩, fun p hp => absurd hp (Nat.not_lt_zero p)⟩
  rw [World.cell?_alloc_mark]
  simp
/-- The lists of a further store. -/
def putU (U : Nat → Nat → Value) (k : Nat) (u0 u1 u2 : Value) (i j : Nat) : Value := if i = k then (if j = 0 then u0 else if j = 1 then u1 else u2) else U i j
theorem FillS.put {w : World} {g n k : Nat} {U : Nat → Nat → Value} (h : FillS w g n k U) (hk : k < n) (u0 u1 u2 : Value) : FillS (((w.setCell ⟨g, k * 3, none⟩ u0).setCell ⟨g, k * 3 + 1, none⟩ u1).setCell ⟨g, k * 3 + 2, none⟩ u2) g n (k + 1) (putU U k u0 u1 u2) := by
  obtain ⟨h1, h2, h3⟩ := h
  obtain ⟨⟨a0, b0⟩, _⟩ := h2 (k * 3) (by omega)
  obtain ⟨⟨a1, b1⟩, _⟩ := h2 (k * 3 + 1) (by omega)
  obtain ⟨⟨a2, b2⟩, _⟩ := h2 (k * 3 + 2) (by omega)
  have c1 : (w.setCell ⟨g, k * 3, none⟩ u0).cell? ⟨g, k * 3 + 1, none⟩ = some a1 := (World.cell?_setCell_other _ _ _ _ (by intro q; simp at q)).trans b1
  have c2 : ((w.setCell ⟨g, k * 3, none⟩ u0).setCell ⟨g, k * 3 + 1, none⟩ u1).cell? ⟨g, k * 3 + 2, none⟩ = some a2 := (World.cell?_setCell_other _ _ _ _ (by intro q; simp at q)).trans ((World.cell?_setCell_other _ _ _ _ (by intro q; simp at q)).trans b2)
  have other : ∀ p, p ≠ k * 3 → p ≠ k * 3 + 1 → p ≠ k * 3 + 2 → (((w.setCell ⟨g, k * 3, none⟩ u0).setCell ⟨g, k * 3 + 1, none⟩ u1).setCell ⟨g, k * 3 + 2, none⟩ u2).cell? ⟨g, p, none⟩ = w.cell? ⟨g, p, none⟩ := fun p q0 q1 q2 =>
    (World.cell?_setCell_other _ _ _ _ (by intro q; simp at q; try omega)).trans ((World.cell?_setCell_other _ _ _ _ (by intro q; simp at q; try omega)).trans (World.cell?_setCell_other _ _ _ _ (by intro q; simp at q; try omega)))
  have s0 : (((w.setCell ⟨g, k * 3, none⟩ u0).setCell ⟨g, k * 3 + 1, none⟩ u1).setCell ⟨g, k * 3 + 2, none⟩ u2).cell? ⟨g, k * 3, none⟩ = some u0 := (World.cell?_setCell_other _ _ _ _ (by intro q; simp at q)).trans ((World.cell?_setCell_other _ _ _ _ (by intro q; simp at q)).trans (World.cell?_setCell_same _ _ _ b0))
  have s1 : (((w.setCell ⟨g, k * 3, none⟩ u0).setCell ⟨g, k * 3 + 1, none⟩ u1).setCell ⟨g, k * 3 + 2, none⟩ u2).cell? ⟨g, k * 3 + 1, none⟩ = some u1 := (World.cell?_setCell_other _ _ _ _ (by intro q; simp at q)).trans (World.cell?_setCell_same _ _ _ c1)
  have s2 : (((w.setCell ⟨g, k * 3, none⟩ u0).setCell ⟨g, k * 3 + 1, none⟩ u1).setCell ⟨g, k * 3 + 2, none⟩ u2).cell? ⟨g, k * 3 + 2, none⟩ = some u2 := World.cell?_setCell_same _ _ _ c2
  refine ⟨by simpa [World.setCell] using h1, fun p hp => ⟨?_, by simp only [World.frozen?_setCell]; exact (h2 p hp).2⟩, fun i hi => ?_⟩
  · by_cases q0 : p = k * 3
    · subst q0; exact ⟨_, s0⟩
    by_cases q1 : p = k * 3 + 1
    · subst q1; exact ⟨_, s1⟩
    by_cases q2 : p = k * 3 + 2
    · subst q2; exact ⟨_, s2⟩
    obtain ⟨u, hu⟩ := (h2 p hp).1
    exact ⟨u, (other p q0 q1 q2).trans hu⟩
  · unfold putU
    by_cases q : i = k
    · subst q
      simp only [if_true]
      exact ⟨s0, s1, s2⟩
    · rw [if_neg q, if_neg q, if_neg q]
      obtain ⟨d0, d1, d2⟩ := h3 i (by omega)
      exact ⟨(other _ (by omega) (by omega) (by omega)).trans d0, (other _ (by omega) (by omega) (by omega)).trans d1, (other _ (by omega) (by omega) (by omega)).trans d2⟩
theorem Fine.put {w : World} {z : Nat → Nat} {k : Nat} {S : Nat → Sto} {U : Nat → Nat → Value} (h : Fine w z k S U) {u0 u1 u2 : Value} {a b : Nat} (hz : z k = a) (hs : St w a (S k) u0 u1 u2 ∧ FreeS w (S k) u0 u1 u2 ∧ ApartD (S k) u0 u1 u2) (ho : OwnIn (S k) u0 u1 u2 (fun q => a ≤ q ∧ q < b)) (hab : a ≤ b) : Fine w (fun i => if i = k + 1 then b else z i) (k + 1) S (putU U k u0 u1 u2) := fun i hi => by
  by_cases q : i = k
  · subst q
    simp only [putU, if_true, if_neg (show ¬ (i = i + 1) by omega), hz]
    exact ⟨hs, ho, hab⟩
  · have := h i (by omega)
    simp only [putU, if_neg q, if_neg (show ¬ (i = k + 1) by omega), if_neg (show ¬ (i + 1 = k + 1) by omega)]
    exact this

theorem info_Store : (Tryz.prog.info? 37).map (fun i => (i.zero, i.size, i.bytes)) = some (some (.agg #[.slice none 0 0, .slice none 0 0, .slice none 0 0]), 3, 72) := by kernel_rfl
/-- What toStoreS answers. -/
def MadeS (w : World) (n : Nat) (S : Nat → Sto) (e : Ending) (w' : World) : Prop :=
  ∃ g U z, e = .returned (.slice (some ⟨g, 0, none⟩) n n) ∧ (w.heap.size ≤ g ∧ g < w'.heap.size) ∧ FillS w' g n n U ∧ (Fine w' z n S U ∧ z 0 = g + 1 ∧ (∀ i, i ≤ n → g < z i) ∧ z n ≤ w'.heap.size) ∧ Below w.heap.size w w'
theorem MadeS.stos {w' : World} {n : Nat} {S : Nat → Sto} {g B : Nat} {U : Nat → Nat → Value} {z : Nat → Nat} (hB : B ≤ g) (h : FillS w' g n n U) (hf : Fine w' z n S U) (hz : ∀ i, i ≤ n → g < z i) : Stos w' B n S U (.slice (some ⟨g, 0, none⟩) n n) :=
  ⟨⟨_, _, rfl, fun _ => ⟨g, 0, rfl, hB, h.1, fun i hi => by
    obtain ⟨c0, c1, c2⟩ := h.2.2 i hi
    simp only [Nat.zero_add]
    exact ⟨c0, c1, c2⟩⟩⟩, fun i hi => (hf i hi).1.1.mono (by have := hz i (by omega); omega)⟩
set_option maxRecDepth 10000 in
set_option maxHeartbeats 2000000 in
theorem toStoreS_any (n : Nat) (S : Nat → Sto) (V : Nat → Nat → Value) (v : Value) (B : Nat) (w : World) (h : Stos w B n S V v) (hn : n ≤ 1048576) (hs : ∀ i, i < n → (S i).nc ≤ 1048576 ∧ (S i).nl ≤ 1048576 ∧ (S i).nw ≤ 1048576) :
    Calls Tryz.prog 46 #[v] w (MadeS w n S) := by
  obtain ⟨ao, cp, rfl⟩ := h.form
  have H : Hid (Stos w B n S V (.slice ao n cp)) := h
  have HN : Hid (∀ i, i < n → (S i).nc ≤ 1048576 ∧ (S i).nl ≤ 1048576 ∧ (S i).nw ≤ 1048576) := hs
  clear h hs
  have hmk := make_row Tryz.underlying25 info_Store n (by omega) (by omega)
  go_enter Tryz.func46, Tryz.ntmps46
  go_wp2
  go_loopw [4] (fun i wr => ∃ k : Nat, k ≤ n ∧ i = .int .i64 k ∧ Hid (Below w.heap.size w wr ∧ ∃ U z, FillS wr w.heap.size n k U ∧ Fine wr z k S U ∧ z 0 = w.heap.size + 1 ∧ (∀ i, i ≤ k → w.heap.size < z i) ∧ z k ≤ wr.heap.size)) (fun i _ => n - (intOf i).toNat)
  case atStart => exact ⟨0, Nat.zero_le _, rfl, below_alloc _ _, fun _ _ => .bool true, fun _ => w.heap.size + 1, FillS.made _ _ _ _ _, fun i hi => absurd hi (Nat.not_lt_zero i), rfl, fun _ _ => Nat.lt_succ_self _, by simp⟩
  case round =>
    obtain ⟨k, hk, rfl, hR⟩ := hrel
    by_cases hlt : k < n
    · obtain ⟨g, o, rfl, _, hg, ⟨c0, c1, c2⟩, sk⟩ := H.out.at hlt
      have b0 := hR.out.1.cell (p := ⟨g, o + k * 3, none⟩) hg
      rw [c0] at b0
      have b1 := hR.out.1.cell (p := ⟨g, o + k * 3 + 1, none⟩) hg
      rw [c1] at b1
      have b2 := hR.out.1.cell (p := ⟨g, o + k * 3 + 2, none⟩) hg
      rw [c2] at b2
      clear c0 c1 c2
      obtain ⟨a0, d0, a1, d1, a2, d2, e0, e1, e2⟩ := sk.form
      rw [e0] at b0
      rw [e1] at b1
      rw [e2] at b2
      have SK : Hid (St wr B (S k) (.slice a0 (S k).nc d0) (.slice a1 (S k).nl d1) (.slice a2 (S k).nw d2)) := by
        rw [e0, e1, e2] at sk
        exact sk.later hR.out.1
      clear sk e0 e1 e2
      have hN := HN.out k hlt
      obtain ⟨n0, hn0⟩ : ∃ x, (S k).nc = x := ⟨_, rfl⟩
      obtain ⟨n1, hn1⟩ : ∃ x, (S k).nl = x := ⟨_, rfl⟩
      obtain ⟨n2, hn2⟩ : ∃ x, (S k).nw = x := ⟨_, rfl⟩
      rw [hn0] at b0
      rw [hn1] at b1
      rw [hn2] at b2
      have SK' : Hid (St wr B (S k) (.slice a0 n0 d0) (.slice a1 n1 d1) (.slice a2 n2 d2)) := by rw [← hn0, ← hn1, ← hn2]; exact SK.out
      have hN' : Hid ((S k).nc ≤ 1048576 ∧ (S k).nl ≤ 1048576 ∧ (S k).nw ≤ 1048576) := hN
      clear hN SK hn0 hn1 hn2
      go_wp2_with fail
      refine (toStore_any (S k) _ _ _ B _ SK'.out hN'.out.1 hN'.out.2.1 hN'.out.2.2).mono ?_
      rintro e w1 ⟨u0, u1, u2, rfl, s1, ⟨f1, a1'⟩, q1⟩
      obtain ⟨i0, j0, i1, j1, i2, j2, rfl, rfl, rfl⟩ := s1.form
      obtain ⟨U, z, F, hf, hz0, hz, hzk⟩ := hR.out.2
      have HF : Hid (((Below w.heap.size w w1 ∧ FillS w1 w.heap.size n k U) ∧ Fine w1 z k S U ∧ z 0 = w.heap.size + 1 ∧ (∀ i, i ≤ k → w.heap.size < z i) ∧ z k ≤ wr.heap.size) ∧ (St w1 wr.heap.size (S k) (.slice i0 (S k).nc j0) (.slice i1 (S k).nl j1) (.slice i2 (S k).nw j2) ∧ FreeS w1 (S k) (.slice i0 (S k).nc j0) (.slice i1 (S k).nl j1) (.slice i2 (S k).nw j2) ∧ ApartD (S k) (.slice i0 (S k).nc j0) (.slice i1 (S k).nl j1) (.slice i2 (S k).nw j2)) ∧ wr.heap.size ≤ w1.heap.size) := ⟨⟨⟨hR.out.1.trans (q1.mono hR.out.1.size), F.later q1⟩, hf.later q1, hz0, hz, hzk⟩, ⟨s1, f1, a1'.d s1⟩, q1.size⟩
      obtain ⟨x0, y0, z0⟩ := HF.out.1.1.2.at (p := k * 3) (by omega)
      obtain ⟨x1, y1, z1⟩ := HF.out.1.1.2.at (p := k * 3 + 1) (by omega)
      obtain ⟨x2, y2, z2⟩ := HF.out.1.1.2.at (p := k * 3 + 2) (by omega)
      clear q1 F hf hz0 hz hzk s1 f1 a1' b0 b1 b2 hR
      go_wp2
      go_roundw
      case rel =>
        obtain ⟨⟨⟨hB, hF⟩, hf, hz0, hz, hzk⟩, ⟨s1, f1, a1'⟩, hsz⟩ := HF.out
        refine ⟨k + 1, by omega, by go_num, ((hB.setCell (Nat.le_refl _) _).setCell (Nat.le_refl _) _).setCell (Nat.le_refl _) _, putU U k (.slice i0 (S k).nc j0) (.slice i1 (S k).nl j1) (.slice i2 (S k).nw j2), fun i => if i = k + 1 then w1.heap.size else z i, hF.put hlt (.slice i0 (S k).nc j0) (.slice i1 (S k).nl j1) (.slice i2 (S k).nw j2), ?_, ?_, ?_, ?_⟩
        · have h1 : Fine w1 (fun i => if i = k + 1 then w1.heap.size else z i) (k + 1) S (putU U k (.slice i0 (S k).nc j0) (.slice i1 (S k).nl j1) (.slice i2 (S k).nw j2)) := hf.put rfl ⟨s1.mono hzk, f1, a1'⟩ (s1.ownIn.mono (fun q hq => ⟨Nat.le_trans hzk hq.1, hq.2⟩)) (Nat.le_trans hzk hsz)
          have hlo : ∀ i, i < k + 1 → w.heap.size < (if i = k + 1 then w1.heap.size else z i) := fun i hi => by rw [if_neg (by omega)]; exact hz i (by omega)
          exact ((h1.far hlo _).far hlo _).far hlo _
        · show (if 0 = k + 1 then w1.heap.size else z 0) = _
          rw [if_neg (by omega)]; exact hz0
        · intro i hi
          show w.heap.size < (if i = k + 1 then w1.heap.size else z i)
          by_cases q : i = k + 1
          · rw [if_pos q]; have := hF.1; omega
          · rw [if_neg q]; exact hz i (by omega)
        · show (if k + 1 = k + 1 then w1.heap.size else z (k + 1)) ≤ _
          rw [if_pos rfl]; simp [World.setCell]
      case measure => simp [intOf]; omega
    · obtain rfl : k = n := by omega
      go_wp2
      go_ret
      obtain ⟨hB, U, z, F, hf, hz0, hz, hzk⟩ := hR.out
      exact ⟨w.heap.size, U, z, rfl, ⟨Nat.le_refl _, F.1⟩, F, ⟨hf, hz0, hz, hzk⟩, hB⟩
end Go.Proofs.YtpfmbfmlpoibeaaGreat
