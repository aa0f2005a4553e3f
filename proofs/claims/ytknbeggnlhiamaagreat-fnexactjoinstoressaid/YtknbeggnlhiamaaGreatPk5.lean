/-
  Own text, merged of JoiD, Lay, PartD, SortD, JoiF, RegQ, JoiE.
-/
import Derived.Test.YtknbeggnlhiamaaGreatPk4
namespace Go.Proofs.YtknbeggnlhiamaaGreat
open Go.RowKit

def ApaJ (u v : Value) : Prop := ∀ q, u.ownBlock = some q → v.ownBlock ≠ some q
theorem ApaJ.symm {u v : Value} (h : ApaJ u v) : ApaJ v u := fun q h1 h2 => h q h2 h1
/-- The boxes: of the second store, of the answer, of the store under way; what it holds lies apart. -/
structure Jog (w x : World) (b : Nat) (y0 y1 y2 u0 u1 u2 : Value) (n0 n1 n2 : Nat) (L0 L1 L2 : List Int) : Prop where
  below : Below w.heap.size w x
  bb : Blk3 x (w.heap.size + 1) y0 y1 y2
  rb : Blk3 x (w.heap.size + 2) (.slice none 0 0) (.slice none 0 0) (.slice none 0 0)
  lo : w.heap.size + 3 ≤ b
  blk : Blk3 x b u0 u1 u2
  o0 : OwnM x (w.heap.size + 3) 62 3 u0 n0 L0
  o1 : OwnM x (w.heap.size + 3) 65 5 u1 n1 L1
  o2 : OwnM x (w.heap.size + 3) 68 4 u2 n2 L2
  a01 : ApaJ u0 u1
  a02 : ApaJ u0 u2
  a12 : ApaJ u1 u2
  nb : (∀ k, u0.ownBlock = some k → k ≠ b) ∧ (∀ k, u1.ownBlock = some k → k ≠ b) ∧ ∀ k, u2.ownBlock = some k → k ≠ b
theorem Jog.later {w x x' : World} {b : Nat} {y0 y1 y2 u0 u1 u2 : Value} {n0 n1 n2 : Nat} {L0 L1 L2 : List Int} (h : Jog w x b y0 y1 y2 u0 u1 u2 n0 n1 n2 L0 L1 L2) (hb : Below x.heap.size x x') : Jog w x' b y0 y1 y2 u0 u1 u2 n0 n1 n2 L0 L1 L2 :=
  ⟨h.below.trans (hb.mono h.below.size), h.bb.later hb, h.rb.later hb, h.lo, h.blk.later hb, h.o0.later hb, h.o1.later hb, h.o2.later hb, h.a01, h.a02, h.a12, h.nb⟩
theorem OwnM.monoJ {w : World} {B B' : Nat} {e : TypeId} {m n : Nat} {v : Value} {L : List Int} (h : OwnM w B e m v n L) (hB : B' ≤ B) : OwnM w B' e m v n L := World.ownsRow.mono h hB
theorem OwnM.farJ {w : World} {B b j : Nat} {e : TypeId} {m n : Nat} {v : Value} {L : List Int} (h : OwnM w B e m v n L) (hb : ∀ k, v.ownBlock = some k → k ≠ b) (u : Value) : OwnM (w.setCell ⟨b, j, none⟩ u) B e m v n L :=
  h.keptB (fun k hk => Below.heap_setCell w ⟨b, j, none⟩ u k (hb k hk))
theorem ApaJ.of {x : World} {B S : Nat} {e e' : TypeId} {m m' : Nat} {u v : Value} {n n' : Nat} {L L' : List Int} {x' : World} (hu : OwnM x' S e m u n L) (hv : OwnM x B e' m' v n' L') (hS : x.heap.size ≤ S) : ApaJ u v := fun q h1 h2 => by
  have a := (hu.block q h1).1
  have b := (hv.block q h2).2
  omega
theorem Row.cellJ {w : World} {B m n g o : Nat} {F : Nat → Int} {cp : Nat} (h : Row w B m n F (.slice (some ⟨g, o, none⟩) n cp)) {k : Nat} (hk : k < n) {q : Nat} (hq : q < m) : g < w.heap.size ∧ w.cell? ⟨g, o + k * m + q, none⟩ = some (.int .i64 (F (k * m + q))) := by
  obtain ⟨ao, cp', e, hr⟩ := h
  cases e
  obtain ⟨g', o', e, _, hg, hc⟩ := hr (by omega)
  cases e
  refine ⟨hg, ?_⟩
  have hlt : k * m + q < n * m := by
    calc k * m + q < k * m + m := by omega
      _ = (k + 1) * m := by rw [Nat.succ_mul]
      _ ≤ n * m := Nat.mul_le_mul_right m hk
  rw [Nat.add_assoc]
  exact hc _ hlt
theorem listF_flatten {m : Nat} (hm : 0 < m) (n : Nat) (F : Nat → Int) : (listF m n F).flatten = nums F (n * m) := by
  have hl := flat_lenJ (listF m n F) listF_all
  rw [listF_len] at hl
  apply List.ext_getElem
  · rw [hl, nums_length]
  · intro i h1 h2
    have hi : i < n * m := by rw [hl] at h1; exact h1
    have e := listF_flat (F := F) hm hi
    unfold flatF at e
    rw [List.getD_eq_getElem?_getD, List.getElem?_eq_getElem h1] at e
    simpa [nums] using e
theorem apartD_apj {x : World} {B0 B1 : Nat} {R : Sto} {u0 u1 u2 : Value} (r0 : Row x B0 3 R.nc R.c u0) (r1 : Row x B1 5 R.nl R.l u1) (h01 : ApaJ u0 u1) (h02 : ApaJ u0 u2) (h12 : ApaJ u1 u2) : ApartD R u0 u1 u2 := by
  have own : ∀ {B m n : Nat} {F : Nat → Int} {u : Value}, Row x B m n F u → 0 < n → ∃ k, u.ownBlock = some k := fun hr hn => by
    obtain ⟨ao, cp, rfl, hr⟩ := hr
    obtain ⟨g, o, rfl, _⟩ := hr hn
    exact ⟨g, rfl⟩
  refine ⟨fun h0 _ e => ?_, fun h0 _ e => ?_, fun h1 _ e => ?_⟩
  · obtain ⟨k, hk⟩ := own r0 h0
    exact h01 k hk (e ▸ hk)
  · obtain ⟨k, hk⟩ := own r0 h0
    exact h02 k hk (e ▸ hk)
  · obtain ⟨k, hk⟩ := own r1 h1
    exact h12 k hk (e ▸ hk)
theorem Jog.put0 {w x x' : World} {b : Nat} {y0 y1 y2 u0 u1 u2 u : Value} {n0 n1 n2 n : Nat} {L0 L1 L2 L : List Int} (h : Jog w x b y0 y1 y2 u0 u1 u2 n0 n1 n2 L0 L1 L2) (hb : Below x.heap.size x x') (ho : OwnM x' x.heap.size 62 3 u n L) : Jog w (x'.setCell ⟨b, 0, none⟩ u) b y0 y1 y2 u u1 u2 n n1 n2 L L1 L2 := by
  have hbl := h.blk.lt
  have hnb : ∀ k, u.ownBlock = some k → k ≠ b := fun k hk => by have := (ho.block k hk).1; omega
  have hl := h.lo
  have hs := h.below.size
  refine ⟨(h.below.trans (hb.mono h.below.size)).setCell (by show w.heap.size ≤ b; omega) _, (h.bb.later hb).setFar (by show w.heap.size + 1 ≠ b; omega) _, (h.rb.later hb).setFar (by show w.heap.size + 2 ≠ b; omega) _, hl, (h.blk.later hb).set0 _, ?_, (h.o1.later hb).farJ h.nb.2.1 _, (h.o2.later hb).farJ h.nb.2.2 _, ApaJ.of ho h.o1 (Nat.le_refl _), ApaJ.of ho h.o2 (Nat.le_refl _), h.a12, ⟨hnb, h.nb.2.1, h.nb.2.2⟩⟩
  exact (ho.monoJ (by omega)).farJ hnb _
theorem Jog.put1 {w x x' : World} {b : Nat} {y0 y1 y2 u0 u1 u2 u : Value} {n0 n1 n2 n : Nat} {L0 L1 L2 L : List Int} (h : Jog w x b y0 y1 y2 u0 u1 u2 n0 n1 n2 L0 L1 L2) (hb : Below x.heap.size x x') (ho : OwnM x' x.heap.size 65 5 u n L) : Jog w (x'.setCell ⟨b, 1, none⟩ u) b y0 y1 y2 u0 u u2 n0 n n2 L0 L L2 := by
  have hbl := h.blk.lt
  have hnb : ∀ k, u.ownBlock = some k → k ≠ b := fun k hk => by have := (ho.block k hk).1; omega
  have hl := h.lo
  have hs := h.below.size
  refine ⟨(h.below.trans (hb.mono h.below.size)).setCell (by show w.heap.size ≤ b; omega) _, (h.bb.later hb).setFar (by show w.heap.size + 1 ≠ b; omega) _, (h.rb.later hb).setFar (by show w.heap.size + 2 ≠ b; omega) _, hl, (h.blk.later hb).set1 _, (h.o0.later hb).farJ h.nb.1 _, ?_, (h.o2.later hb).farJ h.nb.2.2 _, (ApaJ.of ho h.o0 (Nat.le_refl _)).symm, h.a02, ApaJ.of ho h.o2 (Nat.le_refl _), ⟨h.nb.1, hnb, h.nb.2.2⟩⟩
  exact (ho.monoJ (by omega)).farJ hnb _
theorem Jog.put2 {w x x' : World} {b : Nat} {y0 y1 y2 u0 u1 u2 u : Value} {n0 n1 n2 n : Nat} {L0 L1 L2 L : List Int} (h : Jog w x b y0 y1 y2 u0 u1 u2 n0 n1 n2 L0 L1 L2) (hb : Below x.heap.size x x') (ho : OwnM x' x.heap.size 68 4 u n L) : Jog w (x'.setCell ⟨b, 2, none⟩ u) b y0 y1 y2 u0 u1 u n0 n1 n L0 L1 L := by
  have hbl := h.blk.lt
  have hnb : ∀ k, u.ownBlock = some k → k ≠ b := fun k hk => by have := (ho.block k hk).1; omega
  have hl := h.lo
  have hs := h.below.size
  refine ⟨(h.below.trans (hb.mono h.below.size)).setCell (by show w.heap.size ≤ b; omega) _, (h.bb.later hb).setFar (by show w.heap.size + 1 ≠ b; omega) _, (h.rb.later hb).setFar (by show w.heap.size + 2 ≠ b; omega) _, hl, (h.blk.later hb).set2 _, (h.o0.later hb).farJ h.nb.1 _, (h.o1.later hb).farJ h.nb.2.1 _, ?_, h.a01, (ApaJ.of ho h.o0 (Nat.le_refl _)).symm, (ApaJ.of ho h.o1 (Nat.le_refl _)).symm, ⟨h.nb.1, h.nb.2.1, hnb⟩⟩
  exact (ho.monoJ (by omega)).farJ hnb _
/-- What a round's region reads of the second store: its box, and the element. -/
def JR (b : Nat) (y0 y1 y2 : Value) (g o : Nat) (vs : List Int) (X : World) : Prop := Blk3 X b y0 y1 y2 ∧ ∀ q, q < vs.length → X.cell? ⟨g, o + q, none⟩ = some (.int .i64 (vs.getD q 0))
theorem JR.later {b : Nat} {y0 y1 y2 : Value} {g o : Nat} {vs : List Int} {X X' : World} (h : JR b y0 y1 y2 g o vs X) (hb : Below X.heap.size X X') : JR b y0 y1 y2 g o vs X' :=
  ⟨h.1.later hb, fun q hq => (hb.cell (p := ⟨g, o + q, none⟩) (World.block_lt_of_cell? X _ (h.2 q hq))).trans (h.2 q hq)⟩
theorem JR.far {b c j : Nat} {y0 y1 y2 : Value} {g o : Nat} {vs : List Int} {X : World} (h : JR b y0 y1 y2 g o vs X) (h1 : b ≠ c) (h2 : g ≠ c) (u : Value) : JR b y0 y1 y2 g o vs (X.setCell ⟨c, j, none⟩ u) :=
  ⟨h.1.setFar h1 u, fun q hq => (World.cell?_setCell_other _ _ _ _ (fun e => h2 (congrArg Addr.block e).symm)).trans (h.2 q hq)⟩
set_option maxRecDepth 100000 in
set_option maxHeartbeats 8000000 in
theorem l2Join_any (A T : Sto) (v0 v1 v2 y0 y1 y2 : Value) (B B' : Nat) (w : World) (h : St w B A v0 v1 v2) (h' : St w B' T y0 y1 y2) (hA : A.nc ≤ 200 ∧ A.nl ≤ 200 ∧ A.nw ≤ 200) (hT : T.nc ≤ 200 ∧ T.nl ≤ 200 ∧ T.nw ≤ 200) :
    Calls Tryz.prog 17 #[.agg #[v0, v1, v2], .agg #[y0, y1, y2]] w (NewSto w (joinS A T)) := by
  obtain ⟨a0, c0, a1, c1, a2, c2, rfl, rfl, rfl⟩ := h.form
  obtain ⟨p0, q0, p1, q1, p2, q2, rfl, rfl, rfl⟩ := h'.form
  have H : Hid (St w B A (.slice a0 A.nc c0) (.slice a1 A.nl c1) (.slice a2 A.nw c2)) := h
  have H' : Hid (St w B' T (.slice p0 T.nc q0) (.slice p1 T.nl q1) (.slice p2 T.nw q2)) := h'
  have HA : Hid (A.nc ≤ 200 ∧ A.nl ≤ 200 ∧ A.nw ≤ 200) := hA
  have HT : Hid (T.nc ≤ 200 ∧ T.nl ≤ 200 ∧ T.nw ≤ 200) := hT
  clear h h' hA hT
  go_enter Tryz.func17, Tryz.ntmps17
  go_upto_region 1 with fail
  have q3 : Below w.heap.size w (((w.alloc (.cells #[.slice a0 A.nc c0, .slice a1 A.nl c1, .slice a2 A.nw c2] 32)).alloc (.cells #[.slice p0 T.nc q0, .slice p1 T.nl q1, .slice p2 T.nw q2] 32)).alloc (.cells #[.slice none 0 0, .slice none 0 0, .slice none 0 0] 32)) := ((below_alloc _ _).alloc (by simp) _).alloc (by simp; omega) _
  have bb3 : Blk3 (((w.alloc (.cells #[.slice a0 A.nc c0, .slice a1 A.nl c1, .slice a2 A.nw c2] 32)).alloc (.cells #[.slice p0 T.nc q0, .slice p1 T.nl q1, .slice p2 T.nw q2] 32)).alloc (.cells #[.slice none 0 0, .slice none 0 0, .slice none 0 0] 32)) (w.heap.size + 1) (.slice p0 T.nc q0) (.slice p1 T.nl q1) (.slice p2 T.nw q2) := by
    have := Blk3.new (w.alloc (.cells #[.slice a0 A.nc c0, .slice a1 A.nl c1, .slice a2 A.nw c2] 32)) (.slice p0 T.nc q0) (.slice p1 T.nl q1) (.slice p2 T.nw q2) 32
    rw [World.size_alloc] at this
    exact this.alloc _
  have rb3 : Blk3 (((w.alloc (.cells #[.slice a0 A.nc c0, .slice a1 A.nl c1, .slice a2 A.nw c2] 32)).alloc (.cells #[.slice p0 T.nc q0, .slice p1 T.nl q1, .slice p2 T.nw q2] 32)).alloc (.cells #[.slice none 0 0, .slice none 0 0, .slice none 0 0] 32)) (w.heap.size + 2) (.slice none 0 0) (.slice none 0 0) (.slice none 0 0) := by
    have := Blk3.new ((w.alloc (.cells #[.slice a0 A.nc c0, .slice a1 A.nl c1, .slice a2 A.nw c2] 32)).alloc (.cells #[.slice p0 T.nc q0, .slice p1 T.nl q1, .slice p2 T.nw q2] 32)) (.slice none 0 0) (.slice none 0 0) (.slice none 0 0) 32
    rwa [World.size_alloc, World.size_alloc] at this
  have sz3 : (((w.alloc (.cells #[.slice a0 A.nc c0, .slice a1 A.nl c1, .slice a2 A.nw c2] 32)).alloc (.cells #[.slice p0 T.nc q0, .slice p1 T.nl q1, .slice p2 T.nw q2] 32)).alloc (.cells #[.slice none 0 0, .slice none 0 0, .slice none 0 0] 32)).heap.size = w.heap.size + 3 := by rw [World.size_alloc, World.size_alloc, World.size_alloc]
  have E3 : Hid (Below w.heap.size w (((w.alloc (.cells #[.slice a0 A.nc c0, .slice a1 A.nl c1, .slice a2 A.nw c2] 32)).alloc (.cells #[.slice p0 T.nc q0, .slice p1 T.nl q1, .slice p2 T.nw q2] 32)).alloc (.cells #[.slice none 0 0, .slice none 0 0, .slice none 0 0] 32)) ∧ Blk3 (((w.alloc (.cells #[.slice a0 A.nc c0, .slice a1 A.nl c1, .slice a2 A.nw c2] 32)).alloc (.cells #[.slice p0 T.nc q0, .slice p1 T.nl q1, .slice p2 T.nw q2] 32)).alloc (.cells #[.slice none 0 0, .slice none 0 0, .slice none 0 0] 32)) (w.heap.size + 1) (.slice p0 T.nc q0) (.slice p1 T.nl q1) (.slice p2 T.nw q2) ∧ Blk3 (((w.alloc (.cells #[.slice a0 A.nc c0, .slice a1 A.nl c1, .slice a2 A.nw c2] 32)).alloc (.cells #[.slice p0 T.nc q0, .slice p1 T.nl q1, .slice p2 T.nw q2] 32)).alloc (.cells #[.slice none 0 0, .slice none 0 0, .slice none 0 0] 32)) (w.heap.size + 2) (.slice none 0 0) (.slice none 0 0) (.slice none 0 0)) := ⟨q3, bb3, rb3⟩
  have Z3 : Hid ((((w.alloc (.cells #[.slice a0 A.nc c0, .slice a1 A.nl c1, .slice a2 A.nw c2] 32)).alloc (.cells #[.slice p0 T.nc q0, .slice p1 T.nl q1, .slice p2 T.nw q2] 32)).alloc (.cells #[.slice none 0 0, .slice none 0 0, .slice none 0 0] 32)).heap.size = w.heap.size + 3) := sz3
  clear q3 bb3 rb3 sz3
  go_wp2_with fail
  refine (l2Copy_own A _ _ _ B _ (H.out.later E3.out.1) ⟨by have := HA.out; omega, by have := HA.out; omega, by have := HA.out; omega⟩).mono ?_
  rintro e w1 ⟨d0, e0, d1, e1, d2, e2, rfl, ⟨⟨o0, o1, o2⟩, ap⟩, q4⟩
  rw [Z3.out] at o0 o1 o2
  have zw1 : w.heap.size + 3 ≤ w1.heap.size := by have := q4.size; rw [Z3.out] at this; exact this
  obtain ⟨b, hb⟩ : ∃ b, w1.heap.size = b := ⟨_, rfl⟩
  have blk1 := Blk3.new w1 (.slice d0 A.nc e0) (.slice d1 A.nl e1) (.slice d2 A.nw e2) 32
  have J1 : Hid (Jog w (w1.alloc (.cells #[.slice d0 A.nc e0, .slice d1 A.nl e1, .slice d2 A.nw e2] 32)) b (.slice p0 T.nc q0) (.slice p1 T.nl q1) (.slice p2 T.nw q2) (.slice d0 A.nc e0) (.slice d1 A.nl e1) (.slice d2 A.nw e2) A.nc A.nl A.nw (insN k0 k1 3 A.nc A.c T.c 0).flatten (insN k0 kN 5 A.nl A.l T.l 0).flatten (insN k0 k1 4 A.nw A.k T.k 0).flatten) := by
    have nn : ∀ {T m n F} {v : Value}, Own w1 (w.heap.size + 3) T m n F v → 0 < m → OwnM w1 (w.heap.size + 3) T m v n (listF m n F).flatten := fun {T m n F v} h hm => by
      unfold OwnM
      rw [listF_flatten hm, nums_vals]
      exact h
    have p0 := nn o0 (by omega)
    have p1 := nn o1 (by omega)
    have p2 := nn o2 (by omega)
    rw [hb] at blk1 zw1
    exact ⟨(E3.out.1.trans (q4.mono E3.out.1.size)).trans ((below_alloc w1 _).mono (by omega)), (E3.out.2.1.later q4).alloc _, (E3.out.2.2.later q4).alloc _, zw1, blk1, p0.later (below_alloc _ _), p1.later (below_alloc _ _), p2.later (below_alloc _ _), ap.1, ap.2.1, ap.2.2, fun k hk => by have := (p0.block k hk).2; omega, fun k hk => by have := (p1.block k hk).2; omega, fun k hk => by have := (p2.block k hk).2; omega⟩
  clear o0 o1 o2 ap q4 E3 Z3 blk1
  go_upto_region 2 with fail
  generalize w1.alloc (.cells #[.slice d0 A.nc e0, .slice d1 A.nl e1, .slice d2 A.nw e2] 32) = x0 at J1 ⊢
  clear hb zw1
  clear w1
  rw [show w.heap.size + 1 + 1 = w.heap.size + 2 from rfl]
  go_wp2
  go_loopw [6] (fun i wr => ∃ (k : Nat) (ao : Option Addr) (cp : Nat), k ≤ T.nc ∧ i = .int .i64 k ∧ Hid (Jog w wr b (.slice p0 T.nc q0) (.slice p1 T.nl q1) (.slice p2 T.nw q2) (.slice ao (A.nc + k) cp) (.slice d1 A.nl e1) (.slice d2 A.nw e2) (A.nc + k) A.nl A.nw (insN k0 k1 3 A.nc A.c T.c k).flatten (insN k0 kN 5 A.nl A.l T.l 0).flatten (insN k0 k1 4 A.nw A.k T.k 0).flatten)) (fun i _ => T.nc - (intOf i).toNat)
  case atStart => exact ⟨0, _, _, Nat.zero_le _, rfl, J1⟩
  case round =>
    obtain ⟨k, ao, cp, hk, rfl, HJ⟩ := hrel
    obtain ⟨wv, rfl⟩ : ∃ x, x = wr := ⟨_, rfl⟩
    obtain ⟨⟨t0, t1, t2⟩, ft0, ft1, ft2⟩ := HJ.out.bb
    by_cases hlt : k < T.nc
    · obtain ⟨g, o, rfl, _⟩ := H'.out.1.at hlt
      obtain ⟨x0, hx0⟩ : ∃ x, T.c (k * 3) = x := ⟨_, rfl⟩
      obtain ⟨x1, hx1⟩ : ∃ x, T.c (k * 3 + 1) = x := ⟨_, rfl⟩
      obtain ⟨x2, hx2⟩ : ∃ x, T.c (k * 3 + 2) = x := ⟨_, rfl⟩
      have hst : struD T.c 3 k = [x0, x1, x2] := by rw [← hx0, ← hx1, ← hx2]; rfl
      have HR : Hid (JR (w.heap.size + 1) (.slice (some ⟨g, o, none⟩) T.nc q0) (.slice p1 T.nl q1) (.slice p2 T.nw q2) g (o + k * 3) [x0, x1, x2] wv ∧ g < w.heap.size) := by
        have c := fun q (hq : q < 3) => ((H'.out.later HJ.out.below).1.cellJ hlt hq).2
        have c0 := c 0 (by omega)
        have c1 := c 1 (by omega)
        have c2 := c 2 (by omega)
        rw [Nat.add_zero, Nat.add_zero, hx0] at c0
        rw [hx1] at c1
        rw [hx2] at c2
        refine ⟨⟨HJ.out.bb, fun q hq => ?_⟩, (H'.out.1.cellJ hlt (q := 0) (by omega)).1⟩
        have hq' : q < 3 := hq
        match q, hq' with
        | 0, _ => exact c0
        | 1, _ => exact c1
        | 2, _ => exact c2
      have HX : Hid (struD T.c 3 k = [x0, x1, x2]) := hst
      clear hx0 hx1 hx2 hst
      go_upto_region 5 with fail
      clear t0 t1 t2 ft0 ft1 ft2
      refine wp_region_held_drew (S := JR (w.heap.size + 1) (.slice (some ⟨g, o, none⟩) T.nc q0) (.slice p1 T.nl q1) (.slice p2 T.nw q2) g (o + k * 3) [x0, x1, x2]) (by kernel_rfl) HR.out.1 (fun hS => ?_)
      refine tkH 0 ?_ hS (fun wx hx => ?_) ?_; rotate_left
      · obtain ⟨⟨⟨hx0, hx1, hx2⟩, _⟩, he⟩ := hx; have e0 : wx.cell? ⟨g, o + k * 3, none⟩ = some (.int .i64 x0) := he 0 (by simp); have e1 : wx.cell? ⟨g, o + k * 3 + 1, none⟩ = some (.int .i64 x1) := he 1 (by simp); have e2 : wx.cell? ⟨g, o + k * 3 + 2, none⟩ = some (.int .i64 x2) := he 2 (by simp); go_simp; try with_reducible rfl
      refine tkH 2 ?_ hS (fun wx hx => ?_) ?_; rotate_left
      · obtain ⟨⟨⟨hx0, hx1, hx2⟩, _⟩, he⟩ := hx; have e0 : wx.cell? ⟨g, o + k * 3, none⟩ = some (.int .i64 x0) := he 0 (by simp); have e1 : wx.cell? ⟨g, o + k * 3 + 1, none⟩ = some (.int .i64 x1) := he 1 (by simp); have e2 : wx.cell? ⟨g, o + k * 3 + 2, none⟩ = some (.int .i64 x2) := he 2 (by simp); go_simp; try with_reducible rfl
      refine tkH 3 ?_ hS (fun wx hx => ?_) ?_; rotate_left
      · obtain ⟨⟨⟨hx0, hx1, hx2⟩, _⟩, he⟩ := hx; have e0 : wx.cell? ⟨g, o + k * 3, none⟩ = some (.int .i64 x0) := he 0 (by simp); have e1 : wx.cell? ⟨g, o + k * 3 + 1, none⟩ = some (.int .i64 x1) := he 1 (by simp); have e2 : wx.cell? ⟨g, o + k * 3 + 2, none⟩ = some (.int .i64 x2) := he 2 (by simp); go_simp; try with_reducible rfl
      refine tkH 4 ?_ hS (fun wx hx => ?_) ?_; rotate_left
      · obtain ⟨⟨⟨hx0, hx1, hx2⟩, _⟩, he⟩ := hx; have e0 : wx.cell? ⟨g, o + k * 3, none⟩ = some (.int .i64 x0) := he 0 (by simp); have e1 : wx.cell? ⟨g, o + k * 3 + 1, none⟩ = some (.int .i64 x1) := he 1 (by simp); have e2 : wx.cell? ⟨g, o + k * 3 + 2, none⟩ = some (.int .i64 x2) := he 2 (by simp); go_simp; try with_reducible rfl
      refine tkH 5 ?_ hS (fun wx hx => ?_) ?_; rotate_left
      · obtain ⟨⟨⟨hx0, hx1, hx2⟩, _⟩, he⟩ := hx; have e0 : wx.cell? ⟨g, o + k * 3, none⟩ = some (.int .i64 x0) := he 0 (by simp); have e1 : wx.cell? ⟨g, o + k * 3 + 1, none⟩ = some (.int .i64 x1) := he 1 (by simp); have e2 : wx.cell? ⟨g, o + k * 3 + 2, none⟩ = some (.int .i64 x2) := he 2 (by simp); go_simp; try with_reducible rfl
      refine tkH 6 ?_ hS (fun wx hx => ?_) ?_; rotate_left
      · obtain ⟨⟨⟨hx0, hx1, hx2⟩, _⟩, he⟩ := hx; have e0 : wx.cell? ⟨g, o + k * 3, none⟩ = some (.int .i64 x0) := he 0 (by simp); have e1 : wx.cell? ⟨g, o + k * 3 + 1, none⟩ = some (.int .i64 x1) := he 1 (by simp); have e2 : wx.cell? ⟨g, o + k * 3 + 2, none⟩ = some (.int .i64 x2) := he 2 (by simp); go_simp; try with_reducible rfl
      obtain ⟨⟨t0, t1, t2⟩, ft0, ft1, ft2⟩ := HJ.out.blk
      refine rdH 1 (fun K hK => ?_)
      go_simp
      refine hK.out _ _ hS (fun hS => ?_)
      clear hK K t0 t1 t2 ft0 ft1 ft2
      refine rdH 7 (fun K hK => ?_)
      go_simp
      go_wp2_with fail
      have hlen : (insN k0 k1 3 A.nc A.c T.c k).length = A.nc + k := insN_len _ _ _ _ _ _ _
      have hrow := (HJ.out.o0.own (by rw [flat_lenJ (insN k0 k1 3 A.nc A.c T.c k) (insN_wide _ _ _ _ _ _ _), hlen])).row.1
      have hcap := HJ.out.o0.cap
      refine (l2AddCell_any (A.nc + k) (flatF (insN k0 k1 3 A.nc A.c T.c k)) ao cp (w.heap.size + 3) x0 x1 x2 _ (hrow.drewN 1) (by have := HA.out; have := HT.out; omega) hcap).mono ?_
      rintro e w7 ⟨k', y, z, hk', rfl, O7, q70⟩
      have q7 : Below wv.heap.size wv w7 := ⟨q70.os, q70.tape, q70.output, q70.size, q70.block⟩
      clear q70
      rw [ins_cells hlen rfl (insN_wide _ _ _ _ _ _ _) hk', ← HX.out] at O7
      change OwnM w7 wv.heap.size 62 3 (.slice y (A.nc + (k + 1)) z) (A.nc + (k + 1)) (insN k0 k1 3 A.nc A.c T.c (k + 1)).flatten at O7
      have JN : Hid (Jog w (w7.setCell ⟨b, 0, none⟩ (.slice y (A.nc + (k + 1)) z)) b (.slice (some ⟨g, o, none⟩) T.nc q0) (.slice p1 T.nl q1) (.slice p2 T.nw q2) (.slice y (A.nc + (k + 1)) z) (.slice d1 A.nl e1) (.slice d2 A.nw e2) (A.nc + (k + 1)) A.nl A.nw (insN k0 k1 3 A.nc A.c T.c (k + 1)).flatten (insN k0 kN 5 A.nl A.l T.l 0).flatten (insN k0 k1 4 A.nw A.k T.k 0).flatten) := HJ.out.put0 q7 O7
      have BK := HJ.out.blk.later q7
      have S7 := JR.later (X := wv) hS q7
      have hbl := HJ.out.lo
      clear O7 q7 hk' hS hrow hcap hlen
      go_wp2_with fail
      refine hK.out _ _ S7 (fun hS => ?_)
      clear hK K S7
      refine tkH 8 ?_ hS (fun wx hx => ?_) ?_; rotate_left
      · obtain ⟨⟨⟨hx0, hx1, hx2⟩, _⟩, he⟩ := hx; have e0 : wx.cell? ⟨g, o + k * 3, none⟩ = some (.int .i64 x0) := he 0 (by simp); have e1 : wx.cell? ⟨g, o + k * 3 + 1, none⟩ = some (.int .i64 x1) := he 1 (by simp); have e2 : wx.cell? ⟨g, o + k * 3 + 2, none⟩ = some (.int .i64 x2) := he 2 (by simp); go_simp; try with_reducible rfl
      obtain ⟨⟨t0, t1, t2⟩, ft0, ft1, ft2⟩ := BK
      refine rdH 9 (fun K hK => ?_)
      go_simp
      refine hK.out _ _ (hS.far (by omega) (by have := HR.out.2; omega) _) (fun hS => ?_)
      clear hK K t0 t1 t2 ft0 ft1 ft2 hS
      try rw [Nat.add_assoc]
      generalize w7.setCell ⟨b, 0, none⟩ (.slice y (A.nc + (k + 1)) z) = x9 at JN ⊢
      refine wpAnyH_done (by kernel_rfl) ?_ _
      go_simp
      have hkb : k ≤ 200 := by have := HT.out; omega
      go_wp2
      go_roundw
      case rel => exact ⟨k + 1, y, z, hlt, by go_num, JN⟩
      case measure => simp [intOf]; omega
    · obtain rfl : k = T.nc := by omega
      go_upto_region 6 with fail
      clear t0 t1 t2 ft0 ft1 ft2
      obtain ⟨f0, rfl⟩ : ∃ x, x = ao := ⟨_, rfl⟩
      obtain ⟨g0, rfl⟩ : ∃ x, x = cp := ⟨_, rfl⟩
      go_wp2
      go_loopw [7] (fun i wr => ∃ (k : Nat) (ao : Option Addr) (cp : Nat), k ≤ T.nl ∧ i = .int .i64 k ∧ Hid (Jog w wr b (.slice p0 T.nc q0) (.slice p1 T.nl q1) (.slice p2 T.nw q2) (.slice f0 (A.nc + T.nc) g0) (.slice ao (A.nl + k) cp) (.slice d2 A.nw e2) (A.nc + T.nc) (A.nl + k) A.nw (insN k0 k1 3 A.nc A.c T.c T.nc).flatten (insN k0 kN 5 A.nl A.l T.l k).flatten (insN k0 k1 4 A.nw A.k T.k 0).flatten)) (fun i _ => T.nl - (intOf i).toNat)
      case atStart => exact ⟨0, _, _, Nat.zero_le _, rfl, HJ⟩
      case round =>
        obtain ⟨k, ao, cp, hk, rfl, HJ⟩ := hrel
        obtain ⟨wv, rfl⟩ : ∃ x, x = wr := ⟨_, rfl⟩
        obtain ⟨⟨t0, t1, t2⟩, ft0, ft1, ft2⟩ := HJ.out.bb
        by_cases hlt : k < T.nl
        · obtain ⟨g, o, rfl, _⟩ := H'.out.2.1.at hlt
          obtain ⟨x0, hx0⟩ : ∃ x, T.l (k * 5) = x := ⟨_, rfl⟩
          obtain ⟨x1, hx1⟩ : ∃ x, T.l (k * 5 + 1) = x := ⟨_, rfl⟩
          obtain ⟨x2, hx2⟩ : ∃ x, T.l (k * 5 + 2) = x := ⟨_, rfl⟩
          obtain ⟨x3, hx3⟩ : ∃ x, T.l (k * 5 + 3) = x := ⟨_, rfl⟩
          obtain ⟨x4, hx4⟩ : ∃ x, T.l (k * 5 + 4) = x := ⟨_, rfl⟩
          have hst : struD T.l 5 k = [x0, x1, x2, x3, x4] := by rw [← hx0, ← hx1, ← hx2, ← hx3, ← hx4]; rfl
          have HR : Hid (JR (w.heap.size + 1) (.slice p0 T.nc q0) (.slice (some ⟨g, o, none⟩) T.nl q1) (.slice p2 T.nw q2) g (o + k * 5) [x0, x1, x2, x3, x4] wv ∧ g < w.heap.size) := by
            have c := fun q (hq : q < 5) => ((H'.out.later HJ.out.below).2.1.cellJ hlt hq).2
            have c0 := c 0 (by omega)
            have c1 := c 1 (by omega)
            have c2 := c 2 (by omega)
            have c3 := c 3 (by omega)
            have c4 := c 4 (by omega)
            rw [Nat.add_zero, Nat.add_zero, hx0] at c0
            rw [hx1] at c1
            rw [hx2] at c2
            rw [hx3] at c3
            rw [hx4] at c4
            refine ⟨⟨HJ.out.bb, fun q hq => ?_⟩, (H'.out.2.1.cellJ hlt (q := 0) (by omega)).1⟩
            have hq' : q < 5 := hq
            match q, hq' with
            | 0, _ => exact c0
            | 1, _ => exact c1
            | 2, _ => exact c2
            | 3, _ => exact c3
            | 4, _ => exact c4
          have HX : Hid (struD T.l 5 k = [x0, x1, x2, x3, x4]) := hst
          clear hx0 hx1 hx2 hx3 hx4 hst
          go_upto_region 9 with fail
          clear t0 t1 t2 ft0 ft1 ft2
          refine wp_region_held_drew (S := JR (w.heap.size + 1) (.slice p0 T.nc q0) (.slice (some ⟨g, o, none⟩) T.nl q1) (.slice p2 T.nw q2) g (o + k * 5) [x0, x1, x2, x3, x4]) (by kernel_rfl) HR.out.1 (fun hS => ?_)
          refine tkH 0 ?_ hS (fun wx hx => ?_) ?_; rotate_left
          · obtain ⟨⟨⟨hx0, hx1, hx2⟩, _⟩, he⟩ := hx; have e0 : wx.cell? ⟨g, o + k * 5, none⟩ = some (.int .i64 x0) := he 0 (by simp); have e1 : wx.cell? ⟨g, o + k * 5 + 1, none⟩ = some (.int .i64 x1) := he 1 (by simp); have e2 : wx.cell? ⟨g, o + k * 5 + 2, none⟩ = some (.int .i64 x2) := he 2 (by simp); have e3 : wx.cell? ⟨g, o + k * 5 + 3, none⟩ = some (.int .i64 x3) := he 3 (by simp); have e4 : wx.cell? ⟨g, o + k * 5 + 4, none⟩ = some (.int .i64 x4) := he 4 (by simp); go_simp; try with_reducible rfl
          refine tkH 2 ?_ hS (fun wx hx => ?_) ?_; rotate_left
          · obtain ⟨⟨⟨hx0, hx1, hx2⟩, _⟩, he⟩ := hx; have e0 : wx.cell? ⟨g, o + k * 5, none⟩ = some (.int .i64 x0) := he 0 (by simp); have e1 : wx.cell? ⟨g, o + k * 5 + 1, none⟩ = some (.int .i64 x1) := he 1 (by simp); have e2 : wx.cell? ⟨g, o + k * 5 + 2, none⟩ = some (.int .i64 x2) := he 2 (by simp); have e3 : wx.cell? ⟨g, o + k * 5 + 3, none⟩ = some (.int .i64 x3) := he 3 (by simp); have e4 : wx.cell? ⟨g, o + k * 5 + 4, none⟩ = some (.int .i64 x4) := he 4 (by simp); go_simp; try with_reducible rfl
          refine tkH 3 ?_ hS (fun wx hx => ?_) ?_; rotate_left
          · obtain ⟨⟨⟨hx0, hx1, hx2⟩, _⟩, he⟩ := hx; have e0 : wx.cell? ⟨g, o + k * 5, none⟩ = some (.int .i64 x0) := he 0 (by simp); have e1 : wx.cell? ⟨g, o + k * 5 + 1, none⟩ = some (.int .i64 x1) := he 1 (by simp); have e2 : wx.cell? ⟨g, o + k * 5 + 2, none⟩ = some (.int .i64 x2) := he 2 (by simp); have e3 : wx.cell? ⟨g, o + k * 5 + 3, none⟩ = some (.int .i64 x3) := he 3 (by simp); have e4 : wx.cell? ⟨g, o + k * 5 + 4, none⟩ = some (.int .i64 x4) := he 4 (by simp); go_simp; try with_reducible rfl
          refine tkH 4 ?_ hS (fun wx hx => ?_) ?_; rotate_left
          · obtain ⟨⟨⟨hx0, hx1, hx2⟩, _⟩, he⟩ := hx; have e0 : wx.cell? ⟨g, o + k * 5, none⟩ = some (.int .i64 x0) := he 0 (by simp); have e1 : wx.cell? ⟨g, o + k * 5 + 1, none⟩ = some (.int .i64 x1) := he 1 (by simp); have e2 : wx.cell? ⟨g, o + k * 5 + 2, none⟩ = some (.int .i64 x2) := he 2 (by simp); have e3 : wx.cell? ⟨g, o + k * 5 + 3, none⟩ = some (.int .i64 x3) := he 3 (by simp); have e4 : wx.cell? ⟨g, o + k * 5 + 4, none⟩ = some (.int .i64 x4) := he 4 (by simp); go_simp; try with_reducible rfl
          refine tkH 5 ?_ hS (fun wx hx => ?_) ?_; rotate_left
          · obtain ⟨⟨⟨hx0, hx1, hx2⟩, _⟩, he⟩ := hx; have e0 : wx.cell? ⟨g, o + k * 5, none⟩ = some (.int .i64 x0) := he 0 (by simp); have e1 : wx.cell? ⟨g, o + k * 5 + 1, none⟩ = some (.int .i64 x1) := he 1 (by simp); have e2 : wx.cell? ⟨g, o + k * 5 + 2, none⟩ = some (.int .i64 x2) := he 2 (by simp); have e3 : wx.cell? ⟨g, o + k * 5 + 3, none⟩ = some (.int .i64 x3) := he 3 (by simp); have e4 : wx.cell? ⟨g, o + k * 5 + 4, none⟩ = some (.int .i64 x4) := he 4 (by simp); go_simp; try with_reducible rfl
          refine tkH 6 ?_ hS (fun wx hx => ?_) ?_; rotate_left
          · obtain ⟨⟨⟨hx0, hx1, hx2⟩, _⟩, he⟩ := hx; have e0 : wx.cell? ⟨g, o + k * 5, none⟩ = some (.int .i64 x0) := he 0 (by simp); have e1 : wx.cell? ⟨g, o + k * 5 + 1, none⟩ = some (.int .i64 x1) := he 1 (by simp); have e2 : wx.cell? ⟨g, o + k * 5 + 2, none⟩ = some (.int .i64 x2) := he 2 (by simp); have e3 : wx.cell? ⟨g, o + k * 5 + 3, none⟩ = some (.int .i64 x3) := he 3 (by simp); have e4 : wx.cell? ⟨g, o + k * 5 + 4, none⟩ = some (.int .i64 x4) := he 4 (by simp); go_simp; try with_reducible rfl
          obtain ⟨⟨t0, t1, t2⟩, ft0, ft1, ft2⟩ := HJ.out.blk
          refine rdH 1 (fun K hK => ?_)
          go_simp
          refine hK.out _ _ hS (fun hS => ?_)
          clear hK K t0 t1 t2 ft0 ft1 ft2
          refine rdH 7 (fun K hK => ?_)
          go_simp
          go_wp2_with fail
          have hlen : (insN k0 kN 5 A.nl A.l T.l k).length = A.nl + k := insN_len _ _ _ _ _ _ _
          have hrow := (HJ.out.o1.own (by rw [flat_lenJ (insN k0 kN 5 A.nl A.l T.l k) (insN_wide _ _ _ _ _ _ _), hlen])).row.1
          have hcap := HJ.out.o1.cap
          refine (l2AddLock_any (A.nl + k) (flatF (insN k0 kN 5 A.nl A.l T.l k)) ao cp (w.heap.size + 3) x0 x1 x2 x3 x4 _ (hrow.drewN 1) (by have := HA.out; have := HT.out; omega) hcap).mono ?_
          rintro e w7 ⟨k', y, z, hk', rfl, O7, q70⟩
          have q7 : Below wv.heap.size wv w7 := ⟨q70.os, q70.tape, q70.output, q70.size, q70.block⟩
          clear q70
          rw [ins_locks hlen rfl (insN_wide _ _ _ _ _ _ _) hk', ← HX.out] at O7
          change OwnM w7 wv.heap.size 65 5 (.slice y (A.nl + (k + 1)) z) (A.nl + (k + 1)) (insN k0 kN 5 A.nl A.l T.l (k + 1)).flatten at O7
          have JN : Hid (Jog w (w7.setCell ⟨b, 1, none⟩ (.slice y (A.nl + (k + 1)) z)) b (.slice p0 T.nc q0) (.slice (some ⟨g, o, none⟩) T.nl q1) (.slice p2 T.nw q2) (.slice f0 (A.nc + T.nc) g0) (.slice y (A.nl + (k + 1)) z) (.slice d2 A.nw e2) (A.nc + T.nc) (A.nl + (k + 1)) A.nw (insN k0 k1 3 A.nc A.c T.c T.nc).flatten (insN k0 kN 5 A.nl A.l T.l (k + 1)).flatten (insN k0 k1 4 A.nw A.k T.k 0).flatten) := HJ.out.put1 q7 O7
          have BK := HJ.out.blk.later q7
          have S7 := JR.later (X := wv) hS q7
          have hbl := HJ.out.lo
          clear O7 q7 hk' hS hrow hcap hlen
          go_wp2_with fail
          refine hK.out _ _ S7 (fun hS => ?_)
          clear hK K S7
          refine tkH 8 ?_ hS (fun wx hx => ?_) ?_; rotate_left
          · obtain ⟨⟨⟨hx0, hx1, hx2⟩, _⟩, he⟩ := hx; have e0 : wx.cell? ⟨g, o + k * 5, none⟩ = some (.int .i64 x0) := he 0 (by simp); have e1 : wx.cell? ⟨g, o + k * 5 + 1, none⟩ = some (.int .i64 x1) := he 1 (by simp); have e2 : wx.cell? ⟨g, o + k * 5 + 2, none⟩ = some (.int .i64 x2) := he 2 (by simp); have e3 : wx.cell? ⟨g, o + k * 5 + 3, none⟩ = some (.int .i64 x3) := he 3 (by simp); have e4 : wx.cell? ⟨g, o + k * 5 + 4, none⟩ = some (.int .i64 x4) := he 4 (by simp); go_simp; try with_reducible rfl
          obtain ⟨⟨t0, t1, t2⟩, ft0, ft1, ft2⟩ := BK
          refine rdH 9 (fun K hK => ?_)
          go_simp
          refine hK.out _ _ (hS.far (by omega) (by have := HR.out.2; omega) _) (fun hS => ?_)
          clear hK K t0 t1 t2 ft0 ft1 ft2 hS
          try rw [Nat.add_assoc]
          generalize w7.setCell ⟨b, 1, none⟩ (.slice y (A.nl + (k + 1)) z) = x9 at JN ⊢
          refine wpAnyH_done (by kernel_rfl) ?_ _
          go_simp
          have hkb : k ≤ 200 := by have := HT.out; omega
          go_wp2
          go_roundw
          case rel => exact ⟨k + 1, y, z, hlt, by go_num, JN⟩
          case measure => simp [intOf]; omega
        · obtain rfl : k = T.nl := by omega
          go_upto_region 10 with fail
          clear t0 t1 t2 ft0 ft1 ft2
          obtain ⟨f1, rfl⟩ : ∃ x, x = ao := ⟨_, rfl⟩
          obtain ⟨g1, rfl⟩ : ∃ x, x = cp := ⟨_, rfl⟩
          go_wp2
          go_loopw [8] (fun i wr => ∃ (k : Nat) (ao : Option Addr) (cp : Nat), k ≤ T.nw ∧ i = .int .i64 k ∧ Hid (Jog w wr b (.slice p0 T.nc q0) (.slice p1 T.nl q1) (.slice p2 T.nw q2) (.slice f0 (A.nc + T.nc) g0) (.slice f1 (A.nl + T.nl) g1) (.slice ao (A.nw + k) cp) (A.nc + T.nc) (A.nl + T.nl) (A.nw + k) (insN k0 k1 3 A.nc A.c T.c T.nc).flatten (insN k0 kN 5 A.nl A.l T.l T.nl).flatten (insN k0 k1 4 A.nw A.k T.k k).flatten)) (fun i _ => T.nw - (intOf i).toNat)
          case atStart => exact ⟨0, _, _, Nat.zero_le _, rfl, HJ⟩
          case round =>
            obtain ⟨k, ao, cp, hk, rfl, HJ⟩ := hrel
            obtain ⟨wv, rfl⟩ : ∃ x, x = wr := ⟨_, rfl⟩
            obtain ⟨⟨t0, t1, t2⟩, ft0, ft1, ft2⟩ := HJ.out.bb
            by_cases hlt : k < T.nw
            · obtain ⟨g, o, rfl, _⟩ := H'.out.2.2.at hlt
              obtain ⟨x0, hx0⟩ : ∃ x, T.k (k * 4) = x := ⟨_, rfl⟩
              obtain ⟨x1, hx1⟩ : ∃ x, T.k (k * 4 + 1) = x := ⟨_, rfl⟩
              obtain ⟨x2, hx2⟩ : ∃ x, T.k (k * 4 + 2) = x := ⟨_, rfl⟩
              obtain ⟨x3, hx3⟩ : ∃ x, T.k (k * 4 + 3) = x := ⟨_, rfl⟩
              have hst : struD T.k 4 k = [x0, x1, x2, x3] := by rw [← hx0, ← hx1, ← hx2, ← hx3]; rfl
              have HR : Hid (JR (w.heap.size + 1) (.slice p0 T.nc q0) (.slice p1 T.nl q1) (.slice (some ⟨g, o, none⟩) T.nw q2) g (o + k * 4) [x0, x1, x2, x3] wv ∧ g < w.heap.size) := by
                have c := fun q (hq : q < 4) => ((H'.out.later HJ.out.below).2.2.cellJ hlt hq).2
                have c0 := c 0 (by omega)
                have c1 := c 1 (by omega)
                have c2 := c 2 (by omega)
                have c3 := c 3 (by omega)
                rw [Nat.add_zero, Nat.add_zero, hx0] at c0
                rw [hx1] at c1
                rw [hx2] at c2
                rw [hx3] at c3
                refine ⟨⟨HJ.out.bb, fun q hq => ?_⟩, (H'.out.2.2.cellJ hlt (q := 0) (by omega)).1⟩
                have hq' : q < 4 := hq
                match q, hq' with
                | 0, _ => exact c0
                | 1, _ => exact c1
                | 2, _ => exact c2
                | 3, _ => exact c3
              have HX : Hid (struD T.k 4 k = [x0, x1, x2, x3]) := hst
              clear hx0 hx1 hx2 hx3 hst
              go_upto_region 13 with fail
              clear t0 t1 t2 ft0 ft1 ft2
              refine wp_region_held_drew (S := JR (w.heap.size + 1) (.slice p0 T.nc q0) (.slice p1 T.nl q1) (.slice (some ⟨g, o, none⟩) T.nw q2) g (o + k * 4) [x0, x1, x2, x3]) (by kernel_rfl) HR.out.1 (fun hS => ?_)
              refine tkH 0 ?_ hS (fun wx hx => ?_) ?_; rotate_left
              · obtain ⟨⟨⟨hx0, hx1, hx2⟩, _⟩, he⟩ := hx; have e0 : wx.cell? ⟨g, o + k * 4, none⟩ = some (.int .i64 x0) := he 0 (by simp); have e1 : wx.cell? ⟨g, o + k * 4 + 1, none⟩ = some (.int .i64 x1) := he 1 (by simp); have e2 : wx.cell? ⟨g, o + k * 4 + 2, none⟩ = some (.int .i64 x2) := he 2 (by simp); have e3 : wx.cell? ⟨g, o + k * 4 + 3, none⟩ = some (.int .i64 x3) := he 3 (by simp); go_simp; try with_reducible rfl
              refine tkH 2 ?_ hS (fun wx hx => ?_) ?_; rotate_left
              · obtain ⟨⟨⟨hx0, hx1, hx2⟩, _⟩, he⟩ := hx; have e0 : wx.cell? ⟨g, o + k * 4, none⟩ = some (.int .i64 x0) := he 0 (by simp); have e1 : wx.cell? ⟨g, o + k * 4 + 1, none⟩ = some (.int .i64 x1) := he 1 (by simp); have e2 : wx.cell? ⟨g, o + k * 4 + 2, none⟩ = some (.int .i64 x2) := he 2 (by simp); have e3 : wx.cell? ⟨g, o + k * 4 + 3, none⟩ = some (.int .i64 x3) := he 3 (by simp); go_simp; try with_reducible rfl
              refine tkH 3 ?_ hS (fun wx hx => ?_) ?_; rotate_left
              · obtain ⟨⟨⟨hx0, hx1, hx2⟩, _⟩, he⟩ := hx; have e0 : wx.cell? ⟨g, o + k * 4, none⟩ = some (.int .i64 x0) := he 0 (by simp); have e1 : wx.cell? ⟨g, o + k * 4 + 1, none⟩ = some (.int .i64 x1) := he 1 (by simp); have e2 : wx.cell? ⟨g, o + k * 4 + 2, none⟩ = some (.int .i64 x2) := he 2 (by simp); have e3 : wx.cell? ⟨g, o + k * 4 + 3, none⟩ = some (.int .i64 x3) := he 3 (by simp); go_simp; try with_reducible rfl
              refine tkH 4 ?_ hS (fun wx hx => ?_) ?_; rotate_left
              · obtain ⟨⟨⟨hx0, hx1, hx2⟩, _⟩, he⟩ := hx; have e0 : wx.cell? ⟨g, o + k * 4, none⟩ = some (.int .i64 x0) := he 0 (by simp); have e1 : wx.cell? ⟨g, o + k * 4 + 1, none⟩ = some (.int .i64 x1) := he 1 (by simp); have e2 : wx.cell? ⟨g, o + k * 4 + 2, none⟩ = some (.int .i64 x2) := he 2 (by simp); have e3 : wx.cell? ⟨g, o + k * 4 + 3, none⟩ = some (.int .i64 x3) := he 3 (by simp); go_simp; try with_reducible rfl
              refine tkH 5 ?_ hS (fun wx hx => ?_) ?_; rotate_left
              · obtain ⟨⟨⟨hx0, hx1, hx2⟩, _⟩, he⟩ := hx; have e0 : wx.cell? ⟨g, o + k * 4, none⟩ = some (.int .i64 x0) := he 0 (by simp); have e1 : wx.cell? ⟨g, o + k * 4 + 1, none⟩ = some (.int .i64 x1) := he 1 (by simp); have e2 : wx.cell? ⟨g, o + k * 4 + 2, none⟩ = some (.int .i64 x2) := he 2 (by simp); have e3 : wx.cell? ⟨g, o + k * 4 + 3, none⟩ = some (.int .i64 x3) := he 3 (by simp); go_simp; try with_reducible rfl
              refine tkH 6 ?_ hS (fun wx hx => ?_) ?_; rotate_left
              · obtain ⟨⟨⟨hx0, hx1, hx2⟩, _⟩, he⟩ := hx; have e0 : wx.cell? ⟨g, o + k * 4, none⟩ = some (.int .i64 x0) := he 0 (by simp); have e1 : wx.cell? ⟨g, o + k * 4 + 1, none⟩ = some (.int .i64 x1) := he 1 (by simp); have e2 : wx.cell? ⟨g, o + k * 4 + 2, none⟩ = some (.int .i64 x2) := he 2 (by simp); have e3 : wx.cell? ⟨g, o + k * 4 + 3, none⟩ = some (.int .i64 x3) := he 3 (by simp); go_simp; try with_reducible rfl
              obtain ⟨⟨t0, t1, t2⟩, ft0, ft1, ft2⟩ := HJ.out.blk
              refine rdH 1 (fun K hK => ?_)
              go_simp
              refine hK.out _ _ hS (fun hS => ?_)
              clear hK K t0 t1 t2 ft0 ft1 ft2
              refine rdH 7 (fun K hK => ?_)
              go_simp
              go_wp2_with fail
              have hlen : (insN k0 k1 4 A.nw A.k T.k k).length = A.nw + k := insN_len _ _ _ _ _ _ _
              have hrow := (HJ.out.o2.own (by rw [flat_lenJ (insN k0 k1 4 A.nw A.k T.k k) (insN_wide _ _ _ _ _ _ _), hlen])).row.1
              have hcap := HJ.out.o2.cap
              refine (l2AddWrite_any (A.nw + k) (flatF (insN k0 k1 4 A.nw A.k T.k k)) ao cp (w.heap.size + 3) x0 x1 x2 x3 _ (hrow.drewN 1) (by have := HA.out; have := HT.out; omega) hcap).mono ?_
              rintro e w7 ⟨k', y, z, hk', rfl, O7, q70⟩
              have q7 : Below wv.heap.size wv w7 := ⟨q70.os, q70.tape, q70.output, q70.size, q70.block⟩
              clear q70
              rw [ins_writes hlen rfl (insN_wide _ _ _ _ _ _ _) hk', ← HX.out] at O7
              change OwnM w7 wv.heap.size 68 4 (.slice y (A.nw + (k + 1)) z) (A.nw + (k + 1)) (insN k0 k1 4 A.nw A.k T.k (k + 1)).flatten at O7
              have JN : Hid (Jog w (w7.setCell ⟨b, 2, none⟩ (.slice y (A.nw + (k + 1)) z)) b (.slice p0 T.nc q0) (.slice p1 T.nl q1) (.slice (some ⟨g, o, none⟩) T.nw q2) (.slice f0 (A.nc + T.nc) g0) (.slice f1 (A.nl + T.nl) g1) (.slice y (A.nw + (k + 1)) z) (A.nc + T.nc) (A.nl + T.nl) (A.nw + (k + 1)) (insN k0 k1 3 A.nc A.c T.c T.nc).flatten (insN k0 kN 5 A.nl A.l T.l T.nl).flatten (insN k0 k1 4 A.nw A.k T.k (k + 1)).flatten) := HJ.out.put2 q7 O7
              have BK := HJ.out.blk.later q7
              have S7 := JR.later (X := wv) hS q7
              have hbl := HJ.out.lo
              clear O7 q7 hk' hS hrow hcap hlen
              go_wp2_with fail
              refine hK.out _ _ S7 (fun hS => ?_)
              clear hK K S7
              refine tkH 8 ?_ hS (fun wx hx => ?_) ?_; rotate_left
              · obtain ⟨⟨⟨hx0, hx1, hx2⟩, _⟩, he⟩ := hx; have e0 : wx.cell? ⟨g, o + k * 4, none⟩ = some (.int .i64 x0) := he 0 (by simp); have e1 : wx.cell? ⟨g, o + k * 4 + 1, none⟩ = some (.int .i64 x1) := he 1 (by simp); have e2 : wx.cell? ⟨g, o + k * 4 + 2, none⟩ = some (.int .i64 x2) := he 2 (by simp); have e3 : wx.cell? ⟨g, o + k * 4 + 3, none⟩ = some (.int .i64 x3) := he 3 (by simp); go_simp; try with_reducible rfl
              obtain ⟨⟨t0, t1, t2⟩, ft0, ft1, ft2⟩ := BK
              refine rdH 9 (fun K hK => ?_)
              go_simp
              refine hK.out _ _ (hS.far (by omega) (by have := HR.out.2; omega) _) (fun hS => ?_)
              clear hK K t0 t1 t2 ft0 ft1 ft2 hS
              try rw [Nat.add_assoc]
              generalize w7.setCell ⟨b, 2, none⟩ (.slice y (A.nw + (k + 1)) z) = x9 at JN ⊢
              refine wpAnyH_done (by kernel_rfl) ?_ _
              go_simp
              have hkb : k ≤ 200 := by have := HT.out; omega
              go_wp2
              go_roundw
              case rel => exact ⟨k + 1, y, z, hlt, by go_num, JN⟩
              case measure => simp [intOf]; omega
            · obtain rfl : k = T.nw := by omega
              obtain ⟨⟨s0, s1, s2⟩, fs0, fs1, fs2⟩ := HJ.out.blk
              obtain ⟨⟨r0, r1, r2⟩, fr0, fr1, fr2⟩ := HJ.out.rb
              have hlo : (w.heap.size + 2 : Nat) < w.heap.size + 3 := Nat.lt_succ_self _
              have hR : joinS A T = ⟨A.nc + T.nc, flatF (insN k0 k1 3 A.nc A.c T.c T.nc), A.nl + T.nl, flatF (insN k0 kN 5 A.nl A.l T.l T.nl), A.nw + T.nw, flatF (insN k0 k1 4 A.nw A.k T.k T.nw)⟩ := by
                unfold joinS stoOf joinC joinL joinW
                rw [← insN_all, ← insN_all, ← insN_all, insN_len, insN_len, insN_len]
              have hw0 := (HJ.out.o0.own (by rw [flat_lenJ _ (insN_wide _ _ _ _ _ _ _), insN_len])).row
              have hw1 := (HJ.out.o1.own (by rw [flat_lenJ _ (insN_wide _ _ _ _ _ _ _), insN_len])).row
              have hw2 := (HJ.out.o2.own (by rw [flat_lenJ _ (insN_wide _ _ _ _ _ _ _), insN_len])).row
              go_wp2
              rw [hR]
              refine bodyPost_ret (v := .agg #[.slice f0 (A.nc + T.nc) g0, .slice f1 (A.nl + T.nl) g1, .slice ao (A.nw + T.nw) cp]) (by simp [results, Tryz.results17, go_sem, r0, r1, r2]) rfl ⟨f0, g0, f1, g1, ao, cp, rfl, ⟨⟨?_, ?_, ?_⟩, ⟨?_, ?_, ?_⟩, ?_⟩, ?_⟩
              · exact (((hw0.1.far (Or.inl hlo) _).far (Or.inl hlo) _).far (Or.inl hlo) _).mono (by omega)
              · exact (((hw1.1.far (Or.inl hlo) _).far (Or.inl hlo) _).far (Or.inl hlo) _).mono (by omega)
              · exact (((hw2.1.far (Or.inl hlo) _).far (Or.inl hlo) _).far (Or.inl hlo) _).mono (by omega)
              · exact ((hw0.2.far _ _).far _ _).far _ _
              · exact ((hw1.2.far _ _).far _ _).far _ _
              · exact ((hw2.2.far _ _).far _ _).far _ _
              · exact apartD_apj (R := ⟨_, _, _, _, _, _⟩) hw0.1 hw1.1 HJ.out.a01 HJ.out.a02 HJ.out.a12
              · exact ((HJ.out.below.setCell (by simp) _).setCell (by simp) _).setCell (by simp) _
end Go.Proofs.YtknbeggnlhiamaaGreat

namespace Go.Proofs
open Go.Shelf
def Tryz.sortCell_ren : Go.Shelf.Ren := ⟨fun | 6 => 50 | 15 => 79 | 14 => 78 | 28 => 95 | 29 => 96 | 20 => 87 | 21 => 88 | 22 => 89 | 23 => 90 | 24 => 91 | 25 => 92 | 26 => 93 | 27 => 94 | 46 => 115 | 47 => 116 | 48 => 117 | 49 => 118 | 50 => 119 | 57 => 126 | n => n, fun | 22 => 28 | 24 => 62 | 25 => 83 | 3 => 3 | 39 => 111 | 0 => 0 | 53 => 129 | 55 => 131 | 4 => 4 | 46 => 122 | 45 => 121 | 50 => 126 | 5 => 5 | 9 => 9 | 66 => 144 | 70 => 148 | 76 => 154 | 77 => 155 | n => n, fun | n => n⟩
theorem Tryz.sortCell : Go.Proofs.SlLaysF0.n6 Tryz.prog Tryz.sortCell_ren := {
  mixed := by kernel_rfl
  f6 := ⟨Tryz.f50.name, by decide, Tryz.func50.trans (congrArg some (by kernel_rfl))⟩
  f14 := ⟨Tryz.f78.name, by decide, Tryz.func78.trans (congrArg some (by kernel_rfl))⟩
  f15 := Tryz.func79.trans (congrArg some (by kernel_rfl))
  f20 := ⟨Tryz.f87.name, by decide, Tryz.func87.trans (congrArg some (by kernel_rfl))⟩
  f21 := ⟨Tryz.f88.name, by decide, Tryz.func88.trans (congrArg some (by kernel_rfl))⟩
  f22 := ⟨Tryz.f89.name, by decide, Tryz.func89.trans (congrArg some (by kernel_rfl))⟩
  f23 := ⟨Tryz.f90.name, by decide, Tryz.func90.trans (congrArg some (by kernel_rfl))⟩
  f24 := ⟨Tryz.f91.name, by decide, Tryz.func91.trans (congrArg some (by kernel_rfl))⟩
  f25 := ⟨Tryz.f92.name, by decide, Tryz.func92.trans (congrArg some (by kernel_rfl))⟩
  f26 := ⟨Tryz.f93.name, by decide, Tryz.func93.trans (congrArg some (by kernel_rfl))⟩
  f27 := ⟨Tryz.f94.name, by decide, Tryz.func94.trans (congrArg some (by kernel_rfl))⟩
  f28 := Tryz.func95.trans (congrArg some (by kernel_rfl))
  f29 := Tryz.func96.trans (congrArg some (by kernel_rfl))
  f46 := ⟨Tryz.f115.name, by decide, Tryz.func115.trans (congrArg some (by kernel_rfl))⟩
  f47 := Tryz.func116.trans (congrArg some (by kernel_rfl))
  f48 := Tryz.func117.trans (congrArg some (by kernel_rfl))
  f49 := ⟨Tryz.f118.name, by decide, Tryz.func118.trans (congrArg some (by kernel_rfl))⟩
  f50 := ⟨Tryz.f119.name, by decide, Tryz.func119.trans (congrArg some (by kernel_rfl))⟩
  f57 := ⟨Tryz.f126.name, by decide, Tryz.func126.trans (congrArg some (by kernel_rfl))⟩
  t0 := Tryz.underlying0
  a0 := Tryz.isAgg0
  z0 := Tryz.sizeOf0
  v0 := Tryz.zeroValue0
  t3 := Tryz.underlying3
  a3 := Tryz.isAgg3
  z3 := Tryz.sizeOf3
  v3 := Tryz.zeroValue3
  t4 := Tryz.underlying4
  a4 := Tryz.isAgg4
  z4 := Tryz.sizeOf4
  v4 := Tryz.zeroValue4
  t5 := Tryz.underlying5
  a5 := Tryz.isAgg5
  z5 := Tryz.sizeOf5
  v5 := Tryz.zeroValue5
  t9 := Tryz.underlying9
  a9 := Tryz.isAgg9
  z9 := Tryz.sizeOf9
  v9 := Tryz.zeroValue9
  t22 := Tryz.underlying28
  a22 := Tryz.isAgg28
  z22 := Tryz.sizeOf28
  v22 := Tryz.zeroValue28
  t25 := Tryz.underlying83
  a25 := Tryz.isAgg83
  z25 := Tryz.sizeOf83
  v25 := Tryz.zeroValue83
  t39 := Tryz.underlying111
  a39 := Tryz.isAgg111
  z39 := Tryz.sizeOf111
  v39 := Tryz.zeroValue111
  t45 := Tryz.underlying121
  a45 := Tryz.isAgg121
  z45 := Tryz.sizeOf121
  v45 := Tryz.zeroValue121
  t46 := Tryz.underlying122
  a46 := Tryz.isAgg122
  z46 := Tryz.sizeOf122
  v46 := Tryz.zeroValue122
  t50 := Tryz.underlying126
  a50 := Tryz.isAgg126
  z50 := Tryz.sizeOf126
  v50 := Tryz.zeroValue126
  t53 := Tryz.underlying129
  a53 := Tryz.isAgg129
  z53 := Tryz.sizeOf129
  v53 := Tryz.zeroValue129
  t55 := Tryz.underlying131
  a55 := Tryz.isAgg131
  z55 := Tryz.sizeOf131
  v55 := Tryz.zeroValue131
  t66 := Tryz.underlying144
  a66 := Tryz.isAgg144
  z66 := Tryz.sizeOf144
  v66 := Tryz.zeroValue144
  t70 := Tryz.underlying148
  a70 := Tryz.isAgg148
  z70 := Tryz.sizeOf148
  v70 := Tryz.zeroValue148
  t76 := Tryz.underlying154
  a76 := Tryz.isAgg154
  z76 := Tryz.sizeOf154
  v76 := Tryz.zeroValue154
  t77 := Tryz.underlying155
  a77 := Tryz.isAgg155
  z77 := Tryz.sizeOf155
  v77 := Tryz.zeroValue155 }
def Tryz.sortLock_ren : Go.Shelf.Ren := ⟨fun | 6 => 52 | 15 => 79 | 14 => 82 | 28 => 95 | 29 => 96 | 20 => 98 | 21 => 99 | 22 => 100 | 23 => 101 | 24 => 102 | 25 => 103 | 26 => 104 | 27 => 105 | 46 => 120 | 47 => 116 | 48 => 117 | 49 => 121 | 50 => 122 | 57 => 127 | n => n, fun | 22 => 29 | 24 => 65 | 25 => 85 | 3 => 3 | 39 => 111 | 0 => 0 | 53 => 129 | 55 => 131 | 4 => 4 | 46 => 122 | 45 => 121 | 50 => 126 | 5 => 5 | 9 => 9 | 66 => 144 | 70 => 148 | 76 => 154 | 77 => 155 | n => n, fun | n => n⟩
theorem Tryz.sortLock : Go.Proofs.SlLaysF0.n6 Tryz.prog Tryz.sortLock_ren := {
  mixed := by kernel_rfl
  f6 := ⟨Tryz.f52.name, by decide, Tryz.func52.trans (congrArg some (by kernel_rfl))⟩
  f14 := ⟨Tryz.f82.name, by decide, Tryz.func82.trans (congrArg some (by kernel_rfl))⟩
  f15 := Tryz.func79.trans (congrArg some (by kernel_rfl))
  f20 := ⟨Tryz.f98.name, by decide, Tryz.func98.trans (congrArg some (by kernel_rfl))⟩
  f21 := ⟨Tryz.f99.name, by decide, Tryz.func99.trans (congrArg some (by kernel_rfl))⟩
  f22 := ⟨Tryz.f100.name, by decide, Tryz.func100.trans (congrArg some (by kernel_rfl))⟩
  f23 := ⟨Tryz.f101.name, by decide, Tryz.func101.trans (congrArg some (by kernel_rfl))⟩
  f24 := ⟨Tryz.f102.name, by decide, Tryz.func102.trans (congrArg some (by kernel_rfl))⟩
  f25 := ⟨Tryz.f103.name, by decide, Tryz.func103.trans (congrArg some (by kernel_rfl))⟩
  f26 := ⟨Tryz.f104.name, by decide, Tryz.func104.trans (congrArg some (by kernel_rfl))⟩
  f27 := ⟨Tryz.f105.name, by decide, Tryz.func105.trans (congrArg some (by kernel_rfl))⟩
  f28 := Tryz.func95.trans (congrArg some (by kernel_rfl))
  f29 := Tryz.func96.trans (congrArg some (by kernel_rfl))
  f46 := ⟨Tryz.f120.name, by decide, Tryz.func120.trans (congrArg some (by kernel_rfl))⟩
  f47 := Tryz.func116.trans (congrArg some (by kernel_rfl))
  f48 := Tryz.func117.trans (congrArg some (by kernel_rfl))
  f49 := ⟨Tryz.f121.name, by decide, Tryz.func121.trans (congrArg some (by kernel_rfl))⟩
  f50 := ⟨Tryz.f122.name, by decide, Tryz.func122.trans (congrArg some (by kernel_rfl))⟩
  f57 := ⟨Tryz.f127.name, by decide, Tryz.func127.trans (congrArg some (by kernel_rfl))⟩
  t0 := Tryz.underlying0
  a0 := Tryz.isAgg0
  z0 := Tryz.sizeOf0
  v0 := Tryz.zeroValue0
  t3 := Tryz.underlying3
  a3 := Tryz.isAgg3
  z3 := Tryz.sizeOf3
  v3 := Tryz.zeroValue3
  t4 := Tryz.underlying4
  a4 := Tryz.isAgg4
  z4 := Tryz.sizeOf4
  v4 := Tryz.zeroValue4
  t5 := Tryz.underlying5
  a5 := Tryz.isAgg5
  z5 := Tryz.sizeOf5
  v5 := Tryz.zeroValue5
  t9 := Tryz.underlying9
  a9 := Tryz.isAgg9
  z9 := Tryz.sizeOf9
  v9 := Tryz.zeroValue9
  t22 := Tryz.underlying29
  a22 := Tryz.isAgg29
  z22 := Tryz.sizeOf29
  v22 := Tryz.zeroValue29
  t25 := Tryz.underlying85
  a25 := Tryz.isAgg85
  z25 := Tryz.sizeOf85
  v25 := Tryz.zeroValue85
  t39 := Tryz.underlying111
  a39 := Tryz.isAgg111
  z39 := Tryz.sizeOf111
  v39 := Tryz.zeroValue111
  t45 := Tryz.underlying121
  a45 := Tryz.isAgg121
  z45 := Tryz.sizeOf121
  v45 := Tryz.zeroValue121
  t46 := Tryz.underlying122
  a46 := Tryz.isAgg122
  z46 := Tryz.sizeOf122
  v46 := Tryz.zeroValue122
  t50 := Tryz.underlying126
  a50 := Tryz.isAgg126
  z50 := Tryz.sizeOf126
  v50 := Tryz.zeroValue126
  t53 := Tryz.underlying129
  a53 := Tryz.isAgg129
  z53 := Tryz.sizeOf129
  v53 := Tryz.zeroValue129
  t55 := Tryz.underlying131
  a55 := Tryz.isAgg131
  z55 := Tryz.sizeOf131
  v55 := Tryz.zeroValue131
  t66 := Tryz.underlying144
  a66 := Tryz.isAgg144
  z66 := Tryz.sizeOf144
  v66 := Tryz.zeroValue144
  t70 := Tryz.underlying148
  a70 := Tryz.isAgg148
  z70 := Tryz.sizeOf148
  v70 := Tryz.zeroValue148
  t76 := Tryz.underlying154
  a76 := Tryz.isAgg154
  z76 := Tryz.sizeOf154
  v76 := Tryz.zeroValue154
  t77 := Tryz.underlying155
  a77 := Tryz.isAgg155
  z77 := Tryz.sizeOf155
  v77 := Tryz.zeroValue155 }
def Tryz.sortWrite_ren : Go.Shelf.Ren := ⟨fun | 6 => 54 | 15 => 79 | 14 => 83 | 28 => 95 | 29 => 96 | 20 => 106 | 21 => 107 | 22 => 108 | 23 => 109 | 24 => 110 | 25 => 111 | 26 => 112 | 27 => 113 | 46 => 123 | 47 => 116 | 48 => 117 | 49 => 124 | 50 => 125 | 57 => 128 | n => n, fun | 22 => 30 | 24 => 68 | 25 => 87 | 3 => 3 | 39 => 111 | 0 => 0 | 53 => 129 | 55 => 131 | 4 => 4 | 46 => 122 | 45 => 121 | 50 => 126 | 5 => 5 | 9 => 9 | 66 => 144 | 70 => 148 | 76 => 154 | 77 => 155 | n => n, fun | n => n⟩
theorem Tryz.sortWrite : Go.Proofs.SlLaysF0.n6 Tryz.prog Tryz.sortWrite_ren := {
  mixed := by kernel_rfl
  f6 := ⟨Tryz.f54.name, by decide, Tryz.func54.trans (congrArg some (by kernel_rfl))⟩
  f14 := ⟨Tryz.f83.name, by decide, Tryz.func83.trans (congrArg some (by kernel_rfl))⟩
  f15 := Tryz.func79.trans (congrArg some (by kernel_rfl))
  f20 := ⟨Tryz.f106.name, by decide, Tryz.func106.trans (congrArg some (by kernel_rfl))⟩
  f21 := ⟨Tryz.f107.name, by decide, Tryz.func107.trans (congrArg some (by kernel_rfl))⟩
  f22 := ⟨Tryz.f108.name, by decide, Tryz.func108.trans (congrArg some (by kernel_rfl))⟩
  f23 := ⟨Tryz.f109.name, by decide, Tryz.func109.trans (congrArg some (by kernel_rfl))⟩
  f24 := ⟨Tryz.f110.name, by decide, Tryz.func110.trans (congrArg some (by kernel_rfl))⟩
  f25 := ⟨Tryz.f111.name, by decide, Tryz.func111.trans (congrArg some (by kernel_rfl))⟩
  f26 := ⟨Tryz.f112.name, by decide, Tryz.func112.trans (congrArg some (by kernel_rfl))⟩
  f27 := ⟨Tryz.f113.name, by decide, Tryz.func113.trans (congrArg some (by kernel_rfl))⟩
  f28 := Tryz.func95.trans (congrArg some (by kernel_rfl))
  f29 := Tryz.func96.trans (congrArg some (by kernel_rfl))
  f46 := ⟨Tryz.f123.name, by decide, Tryz.func123.trans (congrArg some (by kernel_rfl))⟩
  f47 := Tryz.func116.trans (congrArg some (by kernel_rfl))
  f48 := Tryz.func117.trans (congrArg some (by kernel_rfl))
  f49 := ⟨Tryz.f124.name, by decide, Tryz.func124.trans (congrArg some (by kernel_rfl))⟩
  f50 := ⟨Tryz.f125.name, by decide, Tryz.func125.trans (congrArg some (by kernel_rfl))⟩
  f57 := ⟨Tryz.f128.name, by decide, Tryz.func128.trans (congrArg some (by kernel_rfl))⟩
  t0 := Tryz.underlying0
  a0 := Tryz.isAgg0
  z0 := Tryz.sizeOf0
  v0 := Tryz.zeroValue0
  t3 := Tryz.underlying3
  a3 := Tryz.isAgg3
  z3 := Tryz.sizeOf3
  v3 := Tryz.zeroValue3
  t4 := Tryz.underlying4
  a4 := Tryz.isAgg4
  z4 := Tryz.sizeOf4
  v4 := Tryz.zeroValue4
  t5 := Tryz.underlying5
  a5 := Tryz.isAgg5
  z5 := Tryz.sizeOf5
  v5 := Tryz.zeroValue5
  t9 := Tryz.underlying9
  a9 := Tryz.isAgg9
  z9 := Tryz.sizeOf9
  v9 := Tryz.zeroValue9
  t22 := Tryz.underlying30
  a22 := Tryz.isAgg30
  z22 := Tryz.sizeOf30
  v22 := Tryz.zeroValue30
  t25 := Tryz.underlying87
  a25 := Tryz.isAgg87
  z25 := Tryz.sizeOf87
  v25 := Tryz.zeroValue87
  t39 := Tryz.underlying111
  a39 := Tryz.isAgg111
  z39 := Tryz.sizeOf111
  v39 := Tryz.zeroValue111
  t45 := Tryz.underlying121
  a45 := Tryz.isAgg121
  z45 := Tryz.sizeOf121
  v45 := Tryz.zeroValue121
  t46 := Tryz.underlying122
  a46 := Tryz.isAgg122
  z46 := Tryz.sizeOf122
  v46 := Tryz.zeroValue122
  t50 := Tryz.underlying126
  a50 := Tryz.isAgg126
  z50 := Tryz.sizeOf126
  v50 := Tryz.zeroValue126
  t53 := Tryz.underlying129
  a53 := Tryz.isAgg129
  z53 := Tryz.sizeOf129
  v53 := Tryz.zeroValue129
  t55 := Tryz.underlying131
  a55 := Tryz.isAgg131
  z55 := Tryz.sizeOf131
  v55 := Tryz.zeroValue131
  t66 := Tryz.underlying144
  a66 := Tryz.isAgg144
  z66 := Tryz.sizeOf144
  v66 := Tryz.zeroValue144
  t70 := Tryz.underlying148
  a70 := Tryz.isAgg148
  z70 := Tryz.sizeOf148
  v70 := Tryz.zeroValue148
  t76 := Tryz.underlying154
  a76 := Tryz.isAgg154
  z76 := Tryz.sizeOf154
  v76 := Tryz.zeroValue154
  t77 := Tryz.underlying155
  a77 := Tryz.isAgg155
  z77 := Tryz.sizeOf155
  v77 := Tryz.zeroValue155 }
end Go.Proofs

namespace Go.Proofs.YtknbeggnlhiamaaGreat
section
open Go.RowKit Go.Sort Go.Shelf Go.Lib
/-- x is w behind some draws, with new blocks. -/
def Grw (w x : World) : Prop := ∃ q os, x = grow (w.drewN q) os
theorem grw_two (w : World) (o o' : Obj) : Grw w ((w.alloc o).alloc o').drew := ⟨1, #[o] ++ #[o'], by rw [← grow_grow, ← alloc_eq_grow, ← alloc_eq_grow]; rfl⟩
theorem grw_alloc2 (w : World) (o o' : Obj) : Grw w ((w.alloc o).alloc o') := ⟨0, #[o] ++ #[o'], by rw [← grow_grow, ← alloc_eq_grow, ← alloc_eq_grow]; rfl⟩
theorem Grw.alloc_drew {w X : World} {o : Obj} (h : Grw w X.drew) : Grw w (X.alloc o).drew := by
  obtain ⟨q, os, e⟩ := h
  exact ⟨q, os ++ #[o], by rw [← grow_grow, ← e, ← alloc_eq_grow]; rfl⟩
def Four6 (w : World) (a0 a1 b0 b1 : Int) (x : World) : Prop := Four w a0 a1 b0 b1 x ∧ Grw w x
set_option maxRecDepth 100000 in
set_option maxHeartbeats 1000000 in
theorem compareCells_lays (x0 x1 x2 y0 y1 y2 : Int) (r : Int) (hr : orOf (cmpOf x0 y0) (cmpOf x1 y1) = r) (w : World) :
    Calls Tryz.prog 51 #[.agg #[.int .i64 x0, .int .i64 x1, .int .i64 x2], .agg #[.int .i64 y0, .int .i64 y1, .int .i64 y2]] w fun e w' => e = .returned (.int .i64 r) ∧ Grw w w' := by
  obtain ⟨c0, C0⟩ : ∃ c, Hid (cmpOf x0 y0 = c) := ⟨_, rfl⟩
  obtain ⟨c1, C1⟩ : ∃ c, Hid (cmpOf x1 y1 = c) := ⟨_, rfl⟩
  have HR : Hid (orOf c0 c1 = r) := by unfold Hid; rw [← C0.out, ← C1.out]; exact hr
  clear hr
  go_enter Tryz.func51, Tryz.ntmps51
  go_wp2_with fail
  have h0 : Four6 w x0 x1 y0 y1 (((w.alloc (.cells #[.int .i64 x0, .int .i64 x1, .int .i64 x2] 62)).alloc (.cells #[.int .i64 y0, .int .i64 y1, .int .i64 y2] 62)).drew) := ⟨⟨by simp, by simp, by simp, by simp, ((below_alloc _ _).alloc (by simp) _).drew⟩, grw_two _ _ _⟩
  refine wp_region_held_drew (S := Four6 w x0 x1 y0 y1) (by kernel_rfl) h0 (fun hS => ?_)
  clear h0
  refine tkH 0 ?_ hS (fun wx hx => ?_) ?_; rotate_left
  · obtain ⟨⟨hx0, hx1, hx2, hx3, _⟩, _⟩ := hx; go_simp; try with_reducible rfl
  refine tkH 1 ?_ hS (fun wx hx => ?_) ?_; rotate_left
  · obtain ⟨⟨hx0, hx1, hx2, hx3, _⟩, _⟩ := hx; go_simp; try with_reducible rfl
  refine tkH 2 ?_ hS (fun wx hx => ?_) ?_; rotate_left
  · obtain ⟨⟨hx0, hx1, hx2, hx3, _⟩, _⟩ := hx; go_simp; try with_reducible rfl
  refine tkH 3 ?_ hS (fun wx hx => ?_) ?_; rotate_left
  · obtain ⟨⟨hx0, hx1, hx2, hx3, _⟩, _⟩ := hx; go_simp; try with_reducible rfl
  refine tkH 5 ?_ hS (fun wx hx => ?_) ?_; rotate_left
  · obtain ⟨⟨hx0, hx1, hx2, hx3, _⟩, _⟩ := hx; go_simp; try with_reducible rfl
  refine tkH 6 ?_ hS (fun wx hx => ?_) ?_; rotate_left
  · obtain ⟨⟨hx0, hx1, hx2, hx3, _⟩, _⟩ := hx; go_simp; try with_reducible rfl
  refine tkH 7 ?_ hS (fun wx hx => ?_) ?_; rotate_left
  · obtain ⟨⟨hx0, hx1, hx2, hx3, _⟩, _⟩ := hx; go_simp; try with_reducible rfl
  refine tkH 8 ?_ hS (fun wx hx => ?_) ?_; rotate_left
  · obtain ⟨⟨hx0, hx1, hx2, hx3, _⟩, _⟩ := hx; go_simp; try with_reducible rfl
  refine rdH 4 (fun K hK => ?_)
  go_simp
  go_wp2_with fail
  refine (compare_is _ _ c0 C0.out _).mono ?_
  rintro e w1 ⟨rfl, rfl⟩
  have hS' := hS
  go_wp2_with fail
  refine hK.out _ _ hS' (fun hS => ?_)
  clear hK K hS'
  refine rdH 9 (fun K hK => ?_)
  go_simp
  go_wp2_with fail
  refine (compare_is _ _ c1 C1.out _).mono ?_
  rintro e w1 ⟨rfl, rfl⟩
  have hS' := hS
  go_wp2_with fail
  refine hK.out _ _ hS' (fun hS => ?_)
  clear hK K hS'
  refine rdH 10 (fun K hK => ?_)
  go_simp
  refine hK.out _ _ ⟨hS.1.later (below_alloc_drew _ _), hS.2.alloc_drew⟩ (fun hS => ?_)
  clear hK K
  refine rdH 11 (fun K hK => ?_)
  go_simp
  go_wp2_with fail
  refine (or_is c0 c1 r _ HR.out _ (two_cells _ _ (by simp) _ _ _).1 (two_cells _ _ (by simp) _ _ _).2).mono ?_
  rintro e w1 ⟨rfl, rfl⟩
  have hS' := hS
  go_wp2_with fail
  refine hK.out _ _ hS' (fun hS => ?_)
  clear hK K hS'
  refine tkH 12 ?_ hS (fun wx hx => ?_) ?_; rotate_left
  · obtain ⟨⟨hx0, hx1, hx2, hx3, _⟩, _⟩ := hx; go_simp; try with_reducible rfl
  refine wpAnyH_done (by kernel_rfl) ?_ _
  go_simp
  go_wp2
  go_ret
  exact ⟨rfl, hS.2⟩
set_option maxRecDepth 100000 in
set_option maxHeartbeats 1000000 in
theorem compareWrites_lays (x0 x1 x2 x3 y0 y1 y2 y3 : Int) (r : Int) (hr : orOf (cmpOf x0 y0) (cmpOf x1 y1) = r) (w : World) :
    Calls Tryz.prog 55 #[.agg #[.int .i64 x0, .int .i64 x1, .int .i64 x2, .int .i64 x3], .agg #[.int .i64 y0, .int .i64 y1, .int .i64 y2, .int .i64 y3]] w fun e w' => e = .returned (.int .i64 r) ∧ Grw w w' := by
  obtain ⟨c0, C0⟩ : ∃ c, Hid (cmpOf x0 y0 = c) := ⟨_, rfl⟩
  obtain ⟨c1, C1⟩ : ∃ c, Hid (cmpOf x1 y1 = c) := ⟨_, rfl⟩
  have HR : Hid (orOf c0 c1 = r) := by unfold Hid; rw [← C0.out, ← C1.out]; exact hr
  clear hr
  go_enter Tryz.func55, Tryz.ntmps55
  go_wp2_with fail
  have h0 : Four6 w x0 x1 y0 y1 (((w.alloc (.cells #[.int .i64 x0, .int .i64 x1, .int .i64 x2, .int .i64 x3] 68)).alloc (.cells #[.int .i64 y0, .int .i64 y1, .int .i64 y2, .int .i64 y3] 68)).drew) := ⟨⟨by simp, by simp, by simp, by simp, ((below_alloc _ _).alloc (by simp) _).drew⟩, grw_two _ _ _⟩
  refine wp_region_held_drew (S := Four6 w x0 x1 y0 y1) (by kernel_rfl) h0 (fun hS => ?_)
  clear h0
  refine tkH 0 ?_ hS (fun wx hx => ?_) ?_; rotate_left
  · obtain ⟨⟨hx0, hx1, hx2, hx3, _⟩, _⟩ := hx; go_simp; try with_reducible rfl
  refine tkH 1 ?_ hS (fun wx hx => ?_) ?_; rotate_left
  · obtain ⟨⟨hx0, hx1, hx2, hx3, _⟩, _⟩ := hx; go_simp; try with_reducible rfl
  refine tkH 2 ?_ hS (fun wx hx => ?_) ?_; rotate_left
  · obtain ⟨⟨hx0, hx1, hx2, hx3, _⟩, _⟩ := hx; go_simp; try with_reducible rfl
  refine tkH 3 ?_ hS (fun wx hx => ?_) ?_; rotate_left
  · obtain ⟨⟨hx0, hx1, hx2, hx3, _⟩, _⟩ := hx; go_simp; try with_reducible rfl
  refine tkH 5 ?_ hS (fun wx hx => ?_) ?_; rotate_left
  · obtain ⟨⟨hx0, hx1, hx2, hx3, _⟩, _⟩ := hx; go_simp; try with_reducible rfl
  refine tkH 6 ?_ hS (fun wx hx => ?_) ?_; rotate_left
  · obtain ⟨⟨hx0, hx1, hx2, hx3, _⟩, _⟩ := hx; go_simp; try with_reducible rfl
  refine tkH 7 ?_ hS (fun wx hx => ?_) ?_; rotate_left
  · obtain ⟨⟨hx0, hx1, hx2, hx3, _⟩, _⟩ := hx; go_simp; try with_reducible rfl
  refine tkH 8 ?_ hS (fun wx hx => ?_) ?_; rotate_left
  · obtain ⟨⟨hx0, hx1, hx2, hx3, _⟩, _⟩ := hx; go_simp; try with_reducible rfl
  refine rdH 4 (fun K hK => ?_)
  go_simp
  go_wp2_with fail
  refine (compare_is _ _ c0 C0.out _).mono ?_
  rintro e w1 ⟨rfl, rfl⟩
  have hS' := hS
  go_wp2_with fail
  refine hK.out _ _ hS' (fun hS => ?_)
  clear hK K hS'
  refine rdH 9 (fun K hK => ?_)
  go_simp
  go_wp2_with fail
  refine (compare_is _ _ c1 C1.out _).mono ?_
  rintro e w1 ⟨rfl, rfl⟩
  have hS' := hS
  go_wp2_with fail
  refine hK.out _ _ hS' (fun hS => ?_)
  clear hK K hS'
  refine rdH 10 (fun K hK => ?_)
  go_simp
  refine hK.out _ _ ⟨hS.1.later (below_alloc_drew _ _), hS.2.alloc_drew⟩ (fun hS => ?_)
  clear hK K
  refine rdH 11 (fun K hK => ?_)
  go_simp
  go_wp2_with fail
  refine (or_is c0 c1 r _ HR.out _ (two_cells _ _ (by simp) _ _ _).1 (two_cells _ _ (by simp) _ _ _).2).mono ?_
  rintro e w1 ⟨rfl, rfl⟩
  have hS' := hS
  go_wp2_with fail
  refine hK.out _ _ hS' (fun hS => ?_)
  clear hK K hS'
  refine tkH 12 ?_ hS (fun wx hx => ?_) ?_; rotate_left
  · obtain ⟨⟨hx0, hx1, hx2, hx3, _⟩, _⟩ := hx; go_simp; try with_reducible rfl
  refine wpAnyH_done (by kernel_rfl) ?_ _
  go_simp
  go_wp2
  go_ret
  exact ⟨rfl, hS.2⟩
theorem compareLocks_lays (x0 x1 x2 x3 x4 y0 y1 y2 y3 y4 : Int) (r : Int) (hr : cmpOf x0 y0 = r) (w : World) :
    Calls Tryz.prog 53 #[.agg #[.int .i64 x0, .int .i64 x1, .int .i64 x2, .int .i64 x3, .int .i64 x4], .agg #[.int .i64 y0, .int .i64 y1, .int .i64 y2, .int .i64 y3, .int .i64 y4]] w fun e w' => e = .returned (.int .i64 r) ∧ Grw w w' := by
  have HR : Hid (cmpOf x0 y0 = r) := hr
  clear hr
  go_enter Tryz.func53, Tryz.ntmps53
  go_wp2_with fail
  refine (compare_is _ _ r HR.out _).mono ?_
  rintro e w1 ⟨rfl, rfl⟩
  go_wp2
  go_ret
  exact ⟨rfl, grw_alloc2 _ _ _⟩
theorem lt_cmpOf (a b : Int) : cmpOf a b < 0 ↔ a < b := by
  unfold cmpOf
  by_cases h1 : a < b
  · simp [h1]
  · by_cases h2 : b < a <;> simp [h1, h2]
theorem cmpOf_zero (a b : Int) : cmpOf a b = 0 ↔ a = b := by
  unfold cmpOf
  by_cases h1 : a < b
  · simp [h1]; omega
  · by_cases h2 : b < a
    · simp [h1, h2]; omega
    · simp [h1, h2]; omega
/-- The order by two numbers. -/
def cf2 {α : Type} (k s : α → Int) (x y : α) : Int := orOf (cmpOf (k x) (k y)) (cmpOf (s x) (s y))
theorem lt_cf2 {α : Type} (k s : α → Int) (x y : α) : ltOf (cf2 k s) x y = decide (k x < k y ∨ k x = k y ∧ s x < s y) := by
  unfold ltOf cf2 orOf
  by_cases h : cmpOf (k x) (k y) = 0
  · rw [if_pos h]
    have := (cmpOf_zero _ _).1 h
    simp [lt_cmpOf, this]
  · rw [if_neg h]
    have : ¬ k x = k y := fun e => h ((cmpOf_zero _ _).2 e)
    simp [lt_cmpOf, this]
theorem swo_cf2 {α : Type} (k s : α → Int) : SWO (ltOf (cf2 k s)) where
  irrefl x := by rw [lt_cf2]; simp
  trans x y z h1 h2 := by rw [lt_cf2] at *; simp at *; omega
  ntrans x y z h1 h2 := by rw [lt_cf2] at *; simp at *; omega
/-- The order by one number. -/
def cf1 {α : Type} (k : α → Int) (x y : α) : Int := cmpOf (k x) (k y)
theorem lt_cf1 {α : Type} (k : α → Int) (x y : α) : ltOf (cf1 k) x y = decide (k x < k y) := by
  unfold ltOf cf1
  simp [lt_cmpOf]
theorem swo_cf1 {α : Type} (k : α → Int) : SWO (ltOf (cf1 k)) where
  irrefl x := by rw [lt_cf1]; simp
  trans x y z h1 h2 := by rw [lt_cf1] at *; simp at *; omega
  ntrans x y z h1 h2 := by rw [lt_cf1] at *; simp at *; omega
end

section
open Go.RowKit Go.Sort Go.Shelf Go.Lib
/-- A struct of m numbers, as its cells. -/
def encM (m : Nat) (x : List Int) : List Value := (List.range m).map fun q => Value.int .i64 (x.getD q 0)
theorem encM_len (m : Nat) (x : List Int) : (encM m x).length = m := by simp [encM]
theorem encM_one (m : Nat) (x : List Int) : ∀ v ∈ encM m x, v.oneCell' = true := by
  intro v hv
  simp only [encM, List.mem_map] at hv
  obtain ⟨q, _, rfl⟩ := hv
  rfl
theorem encM_get (m : Nat) (x : List Int) (q : Nat) (hq : q < m) : (encM m x)[q]! = .int .i64 (x.getD q 0) := by
  rw [getElem!_pos _ q (by rw [encM_len]; exact hq)]
  simp [encM]
/-- The structs of a row. -/
def rowD (m n : Nat) (F : Nat → Int) : Array (List Int) := (Array.range n).map fun i => (List.range m).map fun q => F (i * m + q)
theorem rowD_size (m n : Nat) (F : Nat → Int) : (rowD m n F).size = n := by simp [rowD]
theorem rowD_get (m n : Nat) (F : Nat → Int) (i : Nat) (hi : i < n) : (rowD m n F)[i]! = (List.range m).map fun q => F (i * m + q) := by
  rw [getElem!_pos _ i (by rw [rowD_size]; exact hi)]
  simp [rowD]
/-- The numbers of a row of structs. -/
def rowF (m : Nat) (d : Array (List Int)) : Nat → Int := fun t => (d[t / m]!).getD (t % m) 0
theorem div_lt {m n t : Nat} (ht : t < n * m) : t / m < n ∧ t % m < m := by
  have hm : 0 < m := Nat.pos_of_ne_zero (fun e => by subst e; simp at ht)
  exact ⟨(Nat.div_lt_iff_lt_mul hm).2 ht, Nat.mod_lt _ hm⟩
theorem rowF_rowD (m n : Nat) (F : Nat → Int) (t : Nat) (ht : t < n * m) : rowF m (rowD m n F) t = F t := by
  obtain ⟨h1, h2⟩ := div_lt ht
  unfold rowF
  rw [rowD_get m n F _ h1]
  have : ((List.range m).map fun q => F (t / m * m + q)).getD (t % m) 0 = F (t / m * m + t % m) := by simp [h2]
  rw [this, Nat.mul_comm, Nat.div_add_mod]
theorem holds_row {w : World} {B m n blk off cap : Nat} {F : Nat → Int} (h : Row w B m n F (.slice (some ⟨blk, off, none⟩) n cap)) (hf : Free w (n * m) (.slice (some ⟨blk, off, none⟩) n cap)) : HoldsK (encM m) m w blk off (rowD m n F) := by
  intro t ht
  rw [size_flatK, rowD_size] at ht
  obtain ⟨h1, h2⟩ := div_lt ht
  rw [get_flatK _ _ _ _ (by rw [rowD_size]; exact ht), encM_get _ _ _ h2]
  have hF := rowF_rowD m n F t ht
  unfold rowF at hF
  rw [hF]
  refine ⟨?_, hf blk off n cap rfl t ht⟩
  obtain ⟨g, o, he, _, _, hc⟩ := h.at h1
  simp at he
  obtain ⟨rfl, rfl⟩ := he
  have := hc (t % m) h2
  rw [Nat.add_assoc, Nat.mul_comm (t / m) m, Nat.div_add_mod] at this
  exact this
theorem row_holds {w : World} {B m n blk off cap : Nat} {d : Array (List Int)} (hd : d.size = n) (hB : B ≤ blk) (hb : blk < w.heap.size) (h : HoldsK (encM m) m w blk off d) : Row w B m n (rowF m d) (.slice (some ⟨blk, off, none⟩) n cap) ∧ Free w (n * m) (.slice (some ⟨blk, off, none⟩) n cap) := by
  have hc : ∀ t, t < n * m → w.cell? ⟨blk, off + t, none⟩ = some (.int .i64 (rowF m d t)) ∧ w.frozen? ⟨blk, off + t, none⟩ = false := by
    intro t ht
    obtain ⟨h1, h2⟩ := div_lt ht
    have := h t (by rw [size_flatK, hd]; exact ht)
    rw [get_flatK _ _ _ _ (by rw [hd]; exact ht), encM_get _ _ _ h2] at this
    exact this
  refine ⟨⟨_, _, rfl, fun _ => ⟨blk, off, rfl, hB, hb, fun t ht => (hc t ht).1⟩⟩, ?_⟩
  intro g o n' c hv t ht
  simp only [Value.slice.injEq, Option.some.injEq, Addr.mk.injEq] at hv
  obtain ⟨⟨rfl, rfl, _⟩, _, _⟩ := hv
  exact (hc t ht).2
theorem sort_grown (enc : List Int → List Value) (k : Nat) (w : World) (blk off q : Nat) (d : Array (List Int)) (os : Array Obj) : w.grownBy (sortWorldK enc k w blk off q d os) (some blk) := by
  refine ⟨rfl, rfl, rfl, size_sortWorldK_c enc k w blk off q d os, fun i hi hne => ?_⟩
  unfold sortWorldK putRowK putRow grow
  have h1 : i < (mapBlock (Go.Sort.ahead w q) blk (putCells id off (flatK enc k d))).heap.size := by simpa [mapBlock, Go.Sort.ahead] using hi
  show ((mapBlock (Go.Sort.ahead w q) blk (putCells id off (flatK enc k d))).heap ++ os)[i]? = w.heap[i]?
  rw [Array.getElem?_append_left h1]
  simp [mapBlock, Go.Sort.ahead, Array.getElem?_modify]
  intro e
  exact absurd (by rw [e]) hne
theorem extract_all (d : Array (List Int)) (n : Nat) (h : d.size = n) : d.extract 0 n = d := by
  subst h
  simp
theorem cmpCell_lays (blk off size : Nat) (w : World) : CmpLays Tryz.prog 51 #[] (encM 3) 3 (cf2 (fun x => x.getD 0 0) (fun x => x.getD 1 0)) blk off size w :=
  fun _ _ _ _ x y => compareCells_lays (x.getD 0 0) (x.getD 1 0) (x.getD 2 0) (y.getD 0 0) (y.getD 1 0) (y.getD 2 0) _ rfl _
set_option maxHeartbeats 1000000 in
theorem sortCell_is (B n blk off cap : Nat) (F : Nat → Int) (w : World) (h : Row w B 3 n F (.slice (some ⟨blk, off, none⟩) n cap)) (hf : Free w (n * 3) (.slice (some ⟨blk, off, none⟩) n cap)) (hB : B ≤ blk) (hb : blk < w.heap.size) (hn : n ≤ 1048576) :
    Calls Tryz.prog 50 #[.slice (some ⟨blk, off, none⟩) n cap, .func (.func 51) #[] #[]] w fun e w' => e = .returned (.tuple #[]) ∧ ∃ d : Array (List Int), d.size = n ∧ (d.toList.Perm (rowD 3 n F).toList ∧ SortedIn (ltOf (cf2 (fun x => x.getD 0 0) (fun x => x.getD 1 0))) 0 n d) ∧ (Row w' B 3 n (rowF 3 d) (.slice (some ⟨blk, off, none⟩) n cap) ∧ Free w' (n * 3) (.slice (some ⟨blk, off, none⟩) n cap)) ∧ w.grownBy w' (some blk) := by
  have eg : ∀ args w, (callFunc 51 args).run Tryz.prog w = .ok (.enter 51 args) w := enters_of Tryz.func51 (by kernel_rfl) rfl
  have hH := holds_row h hf
  have hcon := AnyQ.slices_SortFunc Tryz.sortCell 3 Tryz.isAgg62 Tryz.sizeOf62 (encM 3) (encM_len 3) (encM_one 3) (cf2 (fun x => x.getD 0 0) (fun x => x.getD 1 0)) (swo_cf2 _ _) 51 #[] blk off cap (rowD 3 n F) w eg (cmpCell_lays blk off _ w) hH hb (by rw [rowD_size]; omega)
  rw [rowD_size] at hcon
  change Calls Tryz.prog 50 _ _ _ at hcon
  refine hcon.mono ?_
  rintro e w' ⟨rfl, d, q, os, ⟨p1, _, p3⟩, hs, rfl⟩
  rw [rowD_size] at p1
  refine ⟨rfl, d, p1, ⟨?_, hs⟩, row_holds p1 hB (Nat.lt_of_lt_of_le hb (size_sortWorldK_c _ _ _ _ _ _ _ _)) (holdsK_sortWorldK_c _ _ _ _ _ (rowD 3 n F) _ _ _ hH hb (by rw [rowD_size, p1])), sort_grown _ _ _ _ _ _ _ _⟩
  rw [extract_all d n p1, extract_all (rowD 3 n F) n (rowD_size _ _ _)] at p3
  exact p3
theorem cmpLock_lays (blk off size : Nat) (w : World) : CmpLays Tryz.prog 53 #[] (encM 5) 5 (cf1 (fun x => x.getD 0 0)) blk off size w :=
  fun _ _ _ _ x y => compareLocks_lays (x.getD 0 0) (x.getD 1 0) (x.getD 2 0) (x.getD 3 0) (x.getD 4 0) (y.getD 0 0) (y.getD 1 0) (y.getD 2 0) (y.getD 3 0) (y.getD 4 0) _ rfl _
set_option maxHeartbeats 1000000 in
theorem sortLock_is (B n blk off cap : Nat) (F : Nat → Int) (w : World) (h : Row w B 5 n F (.slice (some ⟨blk, off, none⟩) n cap)) (hf : Free w (n * 5) (.slice (some ⟨blk, off, none⟩) n cap)) (hB : B ≤ blk) (hb : blk < w.heap.size) (hn : n ≤ 1048576) :
    Calls Tryz.prog 52 #[.slice (some ⟨blk, off, none⟩) n cap, .func (.func 53) #[] #[]] w fun e w' => e = .returned (.tuple #[]) ∧ ∃ d : Array (List Int), d.size = n ∧ (d.toList.Perm (rowD 5 n F).toList ∧ SortedIn (ltOf (cf1 (fun x => x.getD 0 0))) 0 n d) ∧ (Row w' B 5 n (rowF 5 d) (.slice (some ⟨blk, off, none⟩) n cap) ∧ Free w' (n * 5) (.slice (some ⟨blk, off, none⟩) n cap)) ∧ w.grownBy w' (some blk) := by
  have eg : ∀ args w, (callFunc 53 args).run Tryz.prog w = .ok (.enter 53 args) w := enters_of Tryz.func53 (by kernel_rfl) rfl
  have hH := holds_row h hf
  have hcon := AnyQ.slices_SortFunc Tryz.sortLock 5 Tryz.isAgg65 Tryz.sizeOf65 (encM 5) (encM_len 5) (encM_one 5) (cf1 (fun x => x.getD 0 0)) (swo_cf1 _) 53 #[] blk off cap (rowD 5 n F) w eg (cmpLock_lays blk off _ w) hH hb (by rw [rowD_size]; omega)
  rw [rowD_size] at hcon
  change Calls Tryz.prog 52 _ _ _ at hcon
  refine hcon.mono ?_
  rintro e w' ⟨rfl, d, q, os, ⟨p1, _, p3⟩, hs, rfl⟩
  rw [rowD_size] at p1
  refine ⟨rfl, d, p1, ⟨?_, hs⟩, row_holds p1 hB (Nat.lt_of_lt_of_le hb (size_sortWorldK_c _ _ _ _ _ _ _ _)) (holdsK_sortWorldK_c _ _ _ _ _ (rowD 5 n F) _ _ _ hH hb (by rw [rowD_size, p1])), sort_grown _ _ _ _ _ _ _ _⟩
  rw [extract_all d n p1, extract_all (rowD 5 n F) n (rowD_size _ _ _)] at p3
  exact p3
theorem cmpWrite_lays (blk off size : Nat) (w : World) : CmpLays Tryz.prog 55 #[] (encM 4) 4 (cf2 (fun x => x.getD 0 0) (fun x => x.getD 1 0)) blk off size w :=
  fun _ _ _ _ x y => compareWrites_lays (x.getD 0 0) (x.getD 1 0) (x.getD 2 0) (x.getD 3 0) (y.getD 0 0) (y.getD 1 0) (y.getD 2 0) (y.getD 3 0) _ rfl _
set_option maxHeartbeats 1000000 in
theorem sortWrite_is (B n blk off cap : Nat) (F : Nat → Int) (w : World) (h : Row w B 4 n F (.slice (some ⟨blk, off, none⟩) n cap)) (hf : Free w (n * 4) (.slice (some ⟨blk, off, none⟩) n cap)) (hB : B ≤ blk) (hb : blk < w.heap.size) (hn : n ≤ 1048576) :
    Calls Tryz.prog 54 #[.slice (some ⟨blk, off, none⟩) n cap, .func (.func 55) #[] #[]] w fun e w' => e = .returned (.tuple #[]) ∧ ∃ d : Array (List Int), d.size = n ∧ (d.toList.Perm (rowD 4 n F).toList ∧ SortedIn (ltOf (cf2 (fun x => x.getD 0 0) (fun x => x.getD 1 0))) 0 n d) ∧ (Row w' B 4 n (rowF 4 d) (.slice (some ⟨blk, off, none⟩) n cap) ∧ Free w' (n * 4) (.slice (some ⟨blk, off, none⟩) n cap)) ∧ w.grownBy w' (some blk) := by
  have eg : ∀ args w, (callFunc 55 args).run Tryz.prog w = .ok (.enter 55 args) w := enters_of Tryz.func55 (by kernel_rfl) rfl
  have hH := holds_row h hf
  have hcon := AnyQ.slices_SortFunc Tryz.sortWrite 4 Tryz.isAgg68 Tryz.sizeOf68 (encM 4) (encM_len 4) (encM_one 4) (cf2 (fun x => x.getD 0 0) (fun x => x.getD 1 0)) (swo_cf2 _ _) 55 #[] blk off cap (rowD 4 n F) w eg (cmpWrite_lays blk off _ w) hH hb (by rw [rowD_size]; omega)
  rw [rowD_size] at hcon
  change Calls Tryz.prog 54 _ _ _ at hcon
  refine hcon.mono ?_
  rintro e w' ⟨rfl, d, q, os, ⟨p1, _, p3⟩, hs, rfl⟩
  rw [rowD_size] at p1
  refine ⟨rfl, d, p1, ⟨?_, hs⟩, row_holds p1 hB (Nat.lt_of_lt_of_le hb (size_sortWorldK_c _ _ _ _ _ _ _ _)) (holdsK_sortWorldK_c _ _ _ _ _ (rowD 4 n F) _ _ _ hH hb (by rw [rowD_size, p1])), sort_grown _ _ _ _ _ _ _ _⟩
  rw [extract_all d n p1, extract_all (rowD 4 n F) n (rowD_size _ _ _)] at p3
  exact p3
end

section
open Go.RowKit Go.Sort Go.Shelf Go.Lib
end

section
open Go.RowKit Go.Sort Go.Shelf Go.Lib
end
end Go.Proofs.YtknbeggnlhiamaaGreat

namespace Go.Proofs.YtknbeggnlhiamaaGreat
section
open Go.RowKit Go.Maps
end

section
open Go.RowKit Go.Sort Go.Shelf Go.Lib
theorem rowD_list (m n : Nat) (F : Nat → Int) : (rowD m n F).toList = (List.range n).map (struD F m) := by
  unfold rowD struD
  simp
theorem rowD_flat {m : Nat} (hm : 0 < m) (L : List (List Int)) (hL : ∀ t ∈ L, t.length = m) : (rowD m L.length (fun p => L.flatten.getD p 0)).toList = L := by
  rw [rowD_list]
  apply List.ext_getElem (by simp)
  intro i h1 h2
  have hi : i < L.length := h2
  simp only [List.getElem_map, List.getElem_range]
  apply List.ext_getElem
  · rw [struD_len, hL _ (List.getElem_mem _)]
  · intro q h3 h4
    have hq : q < m := by rw [struD_len] at h3; exact h3
    have hlt : i * m + q < L.length * m := by
      calc i * m + q < i * m + m := by omega
        _ = (i + 1) * m := by rw [Nat.succ_mul]
        _ ≤ L.length * m := Nat.mul_le_mul_right m hi
    have e := flat_get (m := m) L (i * m + q) hL hlt
    have d1 : (i * m + q) / m = i := by rw [Nat.mul_comm, Nat.mul_add_div hm, Nat.div_eq_of_lt hq, Nat.add_zero]
    have d2 : (i * m + q) % m = q := by rw [Nat.mul_comm, Nat.mul_add_mod, Nat.mod_eq_of_lt hq]
    rw [d1, d2] at e
    have s1 : (struD (fun p => L.flatten.getD p 0) m i)[q] = L.flatten.getD (i * m + q) 0 := by simp [struD]
    rw [s1, e]
    simp [hi, hL _ (List.getElem_mem hi), hq]
end
end Go.Proofs.YtknbeggnlhiamaaGreat

namespace Go.Proofs.YtknbeggnlhiamaaGreat
open Go.RowKit Go.Sort Go.Shelf Go.Lib

theorem Free.keptJ {w w' : World} {N : Nat} {v : Value} (h : Free w N v) (hb : ∀ k, v.ownBlock = some k → w'.heap[k]? = w.heap[k]?) : Free w' N v := fun g o n c e p hp =>
  (World.frozen?_of_block (w := w) (a := ⟨g, o + p, none⟩) (hb g (by rw [e]; rfl))).trans (h g o n c e p hp)
theorem weak2_of {d : Array (List Int)} {n : Nat} (hd : d.size = n) (hs : SortedIn (ltOf (cf2 (fun x => x.getD 0 0) (fun x => x.getD 1 0))) 0 n d) : Weak k0 k1 d.toList := by
  unfold Weak
  rw [List.pairwise_iff_getElem]
  intro i j hi hj hij
  have hi' : i < d.size := by simpa using hi
  have hj' : j < d.size := by simpa using hj
  have h3 := hs i j (Nat.zero_le _) hij (by omega)
  rw [lt_cf2, getElem!_pos d i hi', getElem!_pos d j hj'] at h3
  have h4 := of_decide_eq_false h3
  simpa [Up2, Lt2, k0, k1] using h4
theorem weak1_of {d : Array (List Int)} {n : Nat} (hd : d.size = n) (hs : SortedIn (ltOf (cf1 (fun x => x.getD 0 0))) 0 n d) : Weak k0 kN d.toList := by
  unfold Weak
  rw [List.pairwise_iff_getElem]
  intro i j hi hj hij
  have hi' : i < d.size := by simpa using hi
  have hj' : j < d.size := by simpa using hj
  have h3 := hs i j (Nat.zero_le _) hij (by omega)
  rw [lt_cf1, getElem!_pos d i hi', getElem!_pos d j hj'] at h3
  have h4 := of_decide_eq_false h3
  simpa [Up2, Lt2, k0, kN] using h4
/-- Rows of one width are the rows of their numbers. -/
theorem rowD_both {m a b : Nat} (hm : 0 < m) (F G : Nat → Int) : (rowD m (a + b) (fun p => (nums F (a * m) ++ nums G (b * m)).getD p 0)).toList = listF m a F ++ listF m b G := by
  have hw : ∀ t ∈ listF m a F ++ listF m b G, t.length = m := fun t ht => by
    rcases List.mem_append.1 ht with q | q
    · exact listF_all t q
    · exact listF_all t q
  have h := rowD_flat hm (listF m a F ++ listF m b G) hw
  rw [List.length_append, listF_len, listF_len, List.flatten_append, listF_flatten hm, listF_flatten hm] at h
  exact h
theorem rowF_flat {m n : Nat} {d : Array (List Int)} (hd : d.size = n) (hw : ∀ t ∈ d.toList, t.length = m) {t : Nat} (ht : t < n * m) : rowF m d t = flatF d.toList t := by
  have hl : d.toList.length = n := by rw [Array.length_toList, hd]
  have e := flat_get (m := m) d.toList t hw (by rw [hl]; exact ht)
  unfold flatF
  rw [e]
  have hi : t / m < d.size := by rw [hd]; exact (div_lt ht).1
  unfold rowF
  rw [getElem!_pos d _ hi]
  simp [hi]
/-- A row that a call has made, sorted: its list, which rises weakly; nothing else has turned. -/
def SortedJ (w : World) (f g : List Int → Int) (B m n : Nat) (v : Value) (R : List (List Int)) (e : Ending) (w' : World) : Prop :=
  e = .returned (.tuple #[]) ∧ ∃ P, (P.length = n ∧ Weak f g P ∧ P.Perm R) ∧ (Row w' B m n (flatF P) v ∧ Free w' (n * m) v) ∧ w.grownBy w' v.ownBlock
theorem sortCellJ (B a b : Nat) (F G : Nat → Int) (ao : Option Addr) (cp : Nat) (w : World) (h : OwnM w B 62 3 (.slice ao (a + b) cp) (a + b) (nums F (a * 3) ++ nums G (b * 3))) (hn : a + b ≤ 1048576) :
    Calls Tryz.prog 50 #[.slice ao (a + b) cp, .func (.func 51) #[] #[]] w (SortedJ w k0 k1 B 3 (a + b) (.slice ao (a + b) cp) (listF 3 a F ++ listF 3 b G)) := by
  have hlen : (nums F (a * 3) ++ nums G (b * 3)).length = (a + b) * 3 := by rw [List.length_append, nums_length, nums_length, Nat.add_mul]
  obtain ⟨hr, hf⟩ := (h.own hlen).row
  rcases Nat.eq_zero_or_pos (a + b) with e | e
  · have hcon := AnyF.slices_SortFunc_none Tryz.sortCell ao cp (.func (.func 51) #[] #[]) w
    change Calls Tryz.prog 50 _ _ _ at hcon
    rw [e] at hr hf ⊢
    refine hcon.mono ?_
    rintro e' w' ⟨rfl, rfl⟩
    obtain ⟨ea, eb⟩ : a = 0 ∧ b = 0 := by omega
    subst ea eb
    exact ⟨rfl, [], ⟨rfl, List.Pairwise.nil, List.Perm.refl _⟩, ⟨⟨_, _, rfl, fun q => absurd q (Nat.lt_irrefl 0)⟩, hf⟩, ⟨rfl, rfl, rfl, Nat.le_refl _, fun _ _ _ => rfl⟩⟩
  · obtain ⟨g, o, rfl, hB, hg, _⟩ := hr.at e
    refine (sortCell_is B (a + b) g o cp _ w hr hf hB hg hn).mono ?_
    rintro e' w' ⟨rfl, d, h1, ⟨h2, h3⟩, ⟨h4, h5⟩, h6⟩
    rw [rowD_both (by omega)] at h2
    have hw : ∀ t ∈ d.toList, t.length = 3 := fun t ht => by
      rcases List.mem_append.1 (h2.mem_iff.1 ht) with q | q
      · exact listF_all t q
      · exact listF_all t q
    exact ⟨rfl, d.toList, ⟨by rw [Array.length_toList, h1], weak2_of h1 h3, h2⟩, ⟨h4.congr (fun p hp => rowF_flat h1 hw hp), h5⟩, h6⟩
theorem sortLockJ (B a b : Nat) (F G : Nat → Int) (ao : Option Addr) (cp : Nat) (w : World) (h : OwnM w B 65 5 (.slice ao (a + b) cp) (a + b) (nums F (a * 5) ++ nums G (b * 5))) (hn : a + b ≤ 1048576) :
    Calls Tryz.prog 52 #[.slice ao (a + b) cp, .func (.func 53) #[] #[]] w (SortedJ w k0 kN B 5 (a + b) (.slice ao (a + b) cp) (listF 5 a F ++ listF 5 b G)) := by
  have hlen : (nums F (a * 5) ++ nums G (b * 5)).length = (a + b) * 5 := by rw [List.length_append, nums_length, nums_length, Nat.add_mul]
  obtain ⟨hr, hf⟩ := (h.own hlen).row
  rcases Nat.eq_zero_or_pos (a + b) with e | e
  · have hcon := AnyF.slices_SortFunc_none Tryz.sortLock ao cp (.func (.func 53) #[] #[]) w
    change Calls Tryz.prog 52 _ _ _ at hcon
    rw [e] at hr hf ⊢
    refine hcon.mono ?_
    rintro e' w' ⟨rfl, rfl⟩
    obtain ⟨ea, eb⟩ : a = 0 ∧ b = 0 := by omega
    subst ea eb
    exact ⟨rfl, [], ⟨rfl, List.Pairwise.nil, List.Perm.refl _⟩, ⟨⟨_, _, rfl, fun q => absurd q (Nat.lt_irrefl 0)⟩, hf⟩, ⟨rfl, rfl, rfl, Nat.le_refl _, fun _ _ _ => rfl⟩⟩
  · obtain ⟨g, o, rfl, hB, hg, _⟩ := hr.at e
    refine (sortLock_is B (a + b) g o cp _ w hr hf hB hg hn).mono ?_
    rintro e' w' ⟨rfl, d, h1, ⟨h2, h3⟩, ⟨h4, h5⟩, h6⟩
    rw [rowD_both (by omega)] at h2
    have hw : ∀ t ∈ d.toList, t.length = 5 := fun t ht => by
      rcases List.mem_append.1 (h2.mem_iff.1 ht) with q | q
      · exact listF_all t q
      · exact listF_all t q
    exact ⟨rfl, d.toList, ⟨by rw [Array.length_toList, h1], weak1_of h1 h3, h2⟩, ⟨h4.congr (fun p hp => rowF_flat h1 hw hp), h5⟩, h6⟩
theorem sortWriteJ (B a b : Nat) (F G : Nat → Int) (ao : Option Addr) (cp : Nat) (w : World) (h : OwnM w B 68 4 (.slice ao (a + b) cp) (a + b) (nums F (a * 4) ++ nums G (b * 4))) (hn : a + b ≤ 1048576) :
    Calls Tryz.prog 54 #[.slice ao (a + b) cp, .func (.func 55) #[] #[]] w (SortedJ w k0 k1 B 4 (a + b) (.slice ao (a + b) cp) (listF 4 a F ++ listF 4 b G)) := by
  have hlen : (nums F (a * 4) ++ nums G (b * 4)).length = (a + b) * 4 := by rw [List.length_append, nums_length, nums_length, Nat.add_mul]
  obtain ⟨hr, hf⟩ := (h.own hlen).row
  rcases Nat.eq_zero_or_pos (a + b) with e | e
  · have hcon := AnyF.slices_SortFunc_none Tryz.sortWrite ao cp (.func (.func 55) #[] #[]) w
    change Calls Tryz.prog 54 _ _ _ at hcon
    rw [e] at hr hf ⊢
    refine hcon.mono ?_
    rintro e' w' ⟨rfl, rfl⟩
    obtain ⟨ea, eb⟩ : a = 0 ∧ b = 0 := by omega
    subst ea eb
    exact ⟨rfl, [], ⟨rfl, List.Pairwise.nil, List.Perm.refl _⟩, ⟨⟨_, _, rfl, fun q => absurd q (Nat.lt_irrefl 0)⟩, hf⟩, ⟨rfl, rfl, rfl, Nat.le_refl _, fun _ _ _ => rfl⟩⟩
  · obtain ⟨g, o, rfl, hB, hg, _⟩ := hr.at e
    refine (sortWrite_is B (a + b) g o cp _ w hr hf hB hg hn).mono ?_
    rintro e' w' ⟨rfl, d, h1, ⟨h2, h3⟩, ⟨h4, h5⟩, h6⟩
    rw [rowD_both (by omega)] at h2
    have hw : ∀ t ∈ d.toList, t.length = 4 := fun t ht => by
      rcases List.mem_append.1 (h2.mem_iff.1 ht) with q | q
      · exact listF_all t q
      · exact listF_all t q
    exact ⟨rfl, d.toList, ⟨by rw [Array.length_toList, h1], weak2_of h1 h3, h2⟩, ⟨h4.congr (fun p hp => rowF_flat h1 hw hp), h5⟩, h6⟩
end Go.Proofs.YtknbeggnlhiamaaGreat

namespace Go.Proofs.YtknbeggnlhiamaaGreat
open Go.RowKit

def allQ : Nat → List (List Bool)
  | 0 => [[]]
  | n + 1 => (allQ n).flatMap fun A => [false :: A, true :: A]
theorem mem_allQ : ∀ (n : Nat) (A : List Bool), A.length = n → A ∈ allQ n
  | 0, [], _ => by simp [allQ]
  | 0, _ :: _, h => by simp at h
  | _ + 1, [], h => by simp at h
  | n + 1, x :: A, h => by
    have h1 := mem_allQ n A (by simpa using h)
    simp only [allQ, List.mem_flatMap]
    exact ⟨A, h1, by cases x <;> simp⟩
/-- Which operations are done: the literals of A, the first k calls, the one more. -/
def mkQ (n : Nat) (oL oC : Nat → Nat) (oE : Nat) (l0 : Array Bool) (A : List Bool) (e : Bool) (k : Nat) : Array Bool :=
  (fun x : Array Bool => if e then x.setIfInBounds oE true else x) <|
  (List.range n).foldl (fun l i => (fun l2 : Array Bool => if i < k then l2.setIfInBounds (oC i) true else l2) (if A.getD i false then l.setIfInBounds (oL i) true else l)) l0
def leftQ (e : Bool) : Nat := if e then 0 else 1
def remQ (n : Nat) (A : List Bool) (e : Bool) (k : Nat) : Nat := A.countP (fun x => !x) + (n - k) + leftQ e
def isQ (n : Nat) (oL : Nat → Nat) (A : List Bool) (j : Nat) : Bool := (List.range n).any fun i => oL i == j && A.getD i true == false
def chkQ1 (md : Region.Mode) (ops : Array Oper) (n : Nat) (oL oC : Nat → Nat) (oE : Nat) (l0 : Array Bool) (A : List Bool) (e : Bool) (k : Nat) : Bool :=
  !((List.range k).all fun i => A.getD i false) ||
  (if k == n then A == List.replicate n true
   else (!(Region.ready md ops (mkQ n oL oC oE l0 A e k)).isEmpty) &&
    ((Region.ready md ops (mkQ n oL oC oE l0 A e k)).all fun j => isQ n oL A j || (oE == j && !e) || (oC k == j && A.getD k false)) &&
    ((List.range n).all fun i => A.getD i true || ((mkQ n oL oC oE l0 A e k).setIfInBounds (oL i) true == mkQ n oL oC oE l0 (A.set i true) e k && remQ n (A.set i true) e k + 1 == remQ n A e k)) &&
    (e || ((mkQ n oL oC oE l0 A e k).setIfInBounds oE true == mkQ n oL oC oE l0 A true k)) &&
    (!A.getD k false || ((mkQ n oL oC oE l0 A e k).setIfInBounds (oC k) true == mkQ n oL oC oE l0 A e (k + 1) && remQ n A e (k + 1) + 1 == remQ n A e k)))
def chkQ (md : Region.Mode) (ops : Array Oper) (n : Nat) (oL oC : Nat → Nat) (oE : Nat) (l0 : Array Bool) : Bool :=
  (allQ n).all fun A => (List.range (n + 1)).all fun k => chkQ1 md ops n oL oC oE l0 A false k && chkQ1 md ops n oL oC oE l0 A true k
theorem chkQ_at {md : Region.Mode} {ops : Array Oper} {n : Nat} {oL oC : Nat → Nat} {oE : Nat} {l0 : Array Bool} (h : chkQ md ops n oL oC oE l0 = true) {A : List Bool} {e : Bool} {k : Nat} (hA : A.length = n) (hk : k ≤ n) : chkQ1 md ops n oL oC oE l0 A e k = true := by
  have := List.all_eq_true.1 (List.all_eq_true.1 h A (mem_allQ _ _ hA)) k (List.mem_range.2 (by omega))
  rw [Bool.and_eq_true] at this
  cases e
  · exact this.1
  · exact this.2
/-- An operation that hands on what stands. -/
def OpQ (ops : Array Oper) (Q : Exit → Act → World → Prop) (j : Nat) (a : Act) (x : World) (R : Act → World → Prop) : Prop :=
  ∃ o, ops[j]? = some o ∧ o.guard = none ∧ ∀ K : Act → World → Prop, (∀ a' x', R a' x' → K a' x') → Oper.wp Tryz.prog o a x K Q
theorem wpAnyH_concs {ops : Array Oper} {Q : Exit → Act → World → Prop} {md : Region.Mode} {S : World → Prop} (n : Nat) (oL oC : Nat → Nat) (oE : Nat) (l0 : Array Bool) (f : Nat) (Z : List Bool → Bool → Nat → Act → World → Prop)
    (hchk : chkQ md ops n oL oC oE l0 = true) (hlen : ∀ A e k a x, Z A e k a x → A.length = n ∧ k ≤ n ∧ ∀ i, i < k → A.getD i false = true) (hS : ∀ A e k a x, Z A e k a x → S x)
    (hlit : ∀ A e k a x i, Z A e k a x → i < n → A.getD i true = false → OpQ ops Q (oL i) a x (Z (A.set i true) e k))
    (hcall : ∀ A e k a x, Z A e k a x → k < n → A.getD k false = true → OpQ ops Q (oC k) a x (Z A e (k + 1)))
    (hone : ∀ A k a x, Z A false k a x → OpQ ops Q oE a x (Z A true k))
    (hend : ∀ e a x, Z (List.replicate n true) e n a x → wpAnyH Tryz.prog md ops Q S (leftQ e + f) (mkQ n oL oC oE l0 (List.replicate n true) e n) a x) :
    ∀ (c : Nat) (A : List Bool) (e : Bool) (k : Nat) (a : Act) (x : World), remQ n A e k = c → Z A e k a x → wpAnyH Tryz.prog md ops Q S (c + f) (mkQ n oL oC oE l0 A e k) a x := by
  have fin : ∀ (c : Nat) (A : List Bool) (e : Bool) (a : Act) (x : World), remQ n A e n = c → Z A e n a x → wpAnyH Tryz.prog md ops Q S (c + f) (mkQ n oL oC oE l0 A e n) a x := by
    intro c A e a x hr h
    obtain ⟨h1, h2, h3⟩ := hlen _ _ _ _ _ h
    have hc := chkQ_at (e := e) hchk h1 h2
    have hgo : ((List.range n).all fun i => A.getD i false) = true := List.all_eq_true.2 fun i hi => h3 i (List.mem_range.1 hi)
    unfold chkQ1 at hc
    rw [hgo, if_pos (beq_self_eq_true _)] at hc
    simp only [Bool.not_true, Bool.false_or, beq_iff_eq] at hc
    have hn : c = leftQ e := by
      rw [← hr, hc]
      unfold remQ
      rw [List.countP_replicate]
      simp
    rw [hn]
    rw [hc] at h ⊢
    exact hend e a x h
  intro c
  induction c with
  | zero =>
    intro A e k a x hr h
    have h1 := (hlen _ _ _ _ _ h).2.1
    obtain rfl : k = n := by unfold remQ at hr; omega
    exact fin 0 A e a x hr h
  | succ c ih =>
    intro A e k a x hr h
    by_cases hk : k = n
    · subst hk
      exact fin (c + 1) A e a x hr h
    obtain ⟨q1, q2, q3⟩ := hlen _ _ _ _ _ h
    have h1 := chkQ_at (e := e) hchk q1 q2
    have hgo : ((List.range k).all fun i => A.getD i false) = true := List.all_eq_true.2 fun i hi => q3 i (List.mem_range.1 hi)
    unfold chkQ1 at h1
    rw [hgo, if_neg (by simp [hk])] at h1
    simp only [Bool.not_true, Bool.false_or, Bool.and_eq_true] at h1
    obtain ⟨⟨⟨⟨hne, hall⟩, hl⟩, he1⟩, hcl⟩ := h1
    rw [show c + 1 + f = (c + f) + 1 by omega]
    refine ⟨fun h0 => by rw [h0] at hne; simp at hne, fun j hj => ?_⟩
    have hj' := List.all_eq_true.1 hall j hj
    rw [Bool.or_eq_true, Bool.or_eq_true] at hj'
    rcases hj' with (hj' | hj') | hj'
    · obtain ⟨i, hi, hij⟩ := List.any_eq_true.1 hj'
      rw [Bool.and_eq_true, beq_iff_eq, beq_iff_eq] at hij
      obtain ⟨hij, hAi⟩ := hij
      have hin : i < n := List.mem_range.1 hi
      subst hij
      have hcl' := List.all_eq_true.1 hl i hi
      rw [hAi] at hcl'
      simp only [Bool.false_or, Bool.and_eq_true, beq_iff_eq] at hcl'
      obtain ⟨o', ho, hg, hwp⟩ := hlit A e k a x i h hin hAi
      refine wpOp_step ho (fun K' hK => ?_)
      rw [if_pos (by simp [Region.wanted, hg])]
      refine hwp K' (fun a' x' h' => hK _ _ ⟨hS _ _ _ _ _ h', ?_⟩)
      rw [hcl'.1]
      exact ih _ _ _ _ _ (by have := hcl'.2; omega) h'
    · rw [Bool.and_eq_true, beq_iff_eq] at hj'
      obtain ⟨rfl, he⟩ := hj'
      obtain rfl : e = false := by simpa using he
      simp only [Bool.false_or, beq_iff_eq] at he1
      obtain ⟨o', ho, hg, hwp⟩ := hone A k a x h
      refine wpOp_step ho (fun K' hK => ?_)
      rw [if_pos (by simp [Region.wanted, hg])]
      refine hwp K' (fun a' x' h' => hK _ _ ⟨hS _ _ _ _ _ h', ?_⟩)
      rw [he1]
      refine ih _ _ _ _ _ ?_ h'
      unfold remQ leftQ at hr ⊢
      simp only [Bool.false_eq_true, if_false, if_true] at hr ⊢
      omega
    · rw [Bool.and_eq_true, beq_iff_eq] at hj'
      obtain ⟨hij, hAk⟩ := hj'
      subst hij
      rw [hAk] at hcl
      simp only [Bool.not_true, Bool.false_or, Bool.and_eq_true, beq_iff_eq] at hcl
      obtain ⟨o', ho, hg, hwp⟩ := hcall A e k a x h (by omega) hAk
      refine wpOp_step ho (fun K' hK => ?_)
      rw [if_pos (by simp [Region.wanted, hg])]
      refine hwp K' (fun a' x' h' => hK _ _ ⟨hS _ _ _ _ _ h', ?_⟩)
      rw [hcl.1]
      exact ih _ _ _ _ _ (by have := hcl.2; omega) h'
theorem actQ_ext {a b : Act} (hs : a.tmps.size = b.tmps.size) (hd : a.defers = b.defers) (he : ∀ t, a.eval (.tmp t) = b.eval (.tmp t)) : a = b := by
  obtain ⟨ta, da⟩ := a
  obtain ⟨tb, db⟩ := b
  simp only at hs hd
  subst hd
  have : ta = tb := by
    apply Array.ext hs
    intro i h1 h2
    have := he i
    simpa [Act.eval, Array.getD, h1, h2] using this
  rw [this]
theorem sizeQ_put (a : Act) (d : Option Tmp) (v : Value) : (a.put d v).tmps.size = a.tmps.size := by cases d <;> simp [Act.put]
theorem defersQ_put (a : Act) (d : Option Tmp) (v : Value) : (a.put d v).defers = a.defers := by cases d <;> rfl
/-- Slots laid one behind the other. -/
def putsQ : List (Nat × Value) → Act → Act
  | [], a => a
  | (t, v) :: l, a => putsQ l (a.put (some t) v)
/-- A frame that differs in these slots alone is the frame in which they are laid. -/
theorem putsQ_is : ∀ (l : List Nat) (a a' : Act), (∀ t ∈ l, t < a.tmps.size) → l.Nodup → a'.tmps.size = a.tmps.size → a'.defers = a.defers → (∀ t, t ∉ l → a'.eval (.tmp t) = a.eval (.tmp t)) → a' = putsQ (l.map fun t => (t, a'.eval (.tmp t))) a
  | [], a, a', _, _, hs, hd, he => actQ_ext hs hd (fun t => he t (by simp))
  | t :: l, a, a', hl, hn, hs, hd, he => by
    have hn' := List.nodup_cons.1 hn
    show a' = putsQ (l.map fun t => (t, a'.eval (.tmp t))) (a.put (some t) (a'.eval (.tmp t)))
    refine putsQ_is l _ a' (fun u hu => by rw [sizeQ_put]; exact hl u (List.mem_cons_of_mem _ hu)) hn'.2 (by rw [sizeQ_put]; exact hs) (by rw [defersQ_put]; exact hd) (fun u hu => ?_)
    by_cases e : u = t
    · subst e
      rw [Act.eval_put_same _ _ _ (hl u List.mem_cons_self)]
    · rw [Act.eval_put_ne _ _ _ _ (Ne.symm e)]
      exact he u (fun q => by rcases List.mem_cons.1 q with q | q; exact e q; exact hu q)
end Go.Proofs.YtknbeggnlhiamaaGreat

namespace Go.Proofs.YtknbeggnlhiamaaGreat
open Go.RowKit

def tyJ : Nat → TypeId
  | 0 => 62
  | 1 => 65
  | _ => 68
def msJ : Nat → Nat
  | 0 => 3
  | 1 => 5
  | _ => 4
/-- Where the region stands: A: which literals are laid, e: is the box laid, k: how many calls are done. -/
structure ZJ (W0 : World) (a0 : Act) (VA VB : Nat → Value) (N : Nat → Nat) (LL : Nat → List Int) (A : List Bool) (e : Bool) (k : Nat) (a : Act) (x : World) : Prop where
  size : a.tmps.size = a0.tmps.size
  defers : a.defers = a0.defers
  rest : ∀ t : Nat, (∀ i : Nat, i < 3 → t ≠ 10 + 6 * i ∧ t ≠ 11 + 6 * i) → t ≠ 5 → a.eval (.tmp t) = a0.eval (.tmp t)
  below : Below W0.heap.size W0 x
  alen : A.length = 3
  kle : k ≤ 3
  got : ∀ i, i < k → A.getD i false = true
  laid : ∀ i, i < 3 → k ≤ i → A.getD i false = true → ∃ g, a.eval (.tmp (10 + 6 * i)) = .slice (some ⟨g, 0, none⟩) 2 2 ∧ x.cell? ⟨g, 0, none⟩ = some (VA i) ∧ x.cell? ⟨g, 1, none⟩ = some (VB i)
  done : ∀ i, i < k → ∃ ao cp, a.eval (.tmp (11 + 6 * i)) = .slice ao (N i) cp ∧ OwnM x W0.heap.size (tyJ i) (msJ i) (.slice ao (N i) cp) (N i) (LL i)
  apart : ∀ i j, i < j → j < k → ApaJ (a.eval (.tmp (11 + 6 * i))) (a.eval (.tmp (11 + 6 * j)))
  one : e = true → ∃ g, a.eval (.tmp 5) = .pointer (some ⟨g, 0, none⟩) ∧ Blk3 x g (.slice none 0 0) (.slice none 0 0) (.slice none 0 0) ∧ W0.heap.size ≤ g ∧ ∀ i, i < k → ∀ q, (a.eval (.tmp (11 + 6 * i))).ownBlock = some q → q ≠ g
theorem setJ_self {A : List Bool} {i : Nat} (h : i < A.length) (d : Bool) : (A.set i true).getD i d = true := by
  simp [List.getD_eq_getElem?_getD, h]
theorem setJ_off {A : List Bool} {i j : Nat} (h : i ≠ j) (d : Bool) : (A.set i true).getD j d = A.getD j d := by
  simp [List.getD_eq_getElem?_getD, List.getElem?_set_ne h]
section
variable {W0 : World} {a0 : Act} {VA VB : Nat → Value} {N : Nat → Nat} {LL : Nat → List Int} {A : List Bool} {e : Bool} {k : Nat} {a : Act} {x : World}
theorem ZJ.lay (h : ZJ W0 a0 VA VB N LL A e k a x) (hs : 24 ≤ a0.tmps.size) {i : Nat} (hi : i < 3) (t : TypeId) : ZJ W0 a0 VA VB N LL (A.set i true) e k (a.put (some (10 + 6 * i)) (.slice (some ⟨x.heap.size, 0, none⟩) 2 2)) (x.alloc (.cells #[VA i, VB i] t)) where
  size := by rw [sizeQ_put]; exact h.size
  defers := by rw [defersQ_put]; exact h.defers
  rest := fun u hu h5 => by rw [Act.eval_put_ne _ _ _ _ (Ne.symm (hu i hi).1)]; exact h.rest u hu h5
  below := h.below.alloc h.below.size _
  alen := by rw [List.length_set]; exact h.alen
  kle := h.kle
  got := fun j hj => by
    by_cases q : i = j
    · subst q; exact setJ_self (by rw [h.alen]; exact hi) _
    · rw [setJ_off q]; exact h.got j hj
  laid := fun j hj hkj hA => by
    by_cases q : i = j
    · subst q
      refine ⟨x.heap.size, Act.eval_put_same _ _ _ (by rw [h.size]; omega), ?_, ?_⟩
      · exact World.cell?_alloc_mark x _ _ _ 0
      · exact World.cell?_alloc_mark x _ _ _ 1
    · rw [setJ_off q] at hA
      obtain ⟨g, e1, e2, e3⟩ := h.laid j hj hkj hA
      have hb := below_alloc x (.cells #[VA i, VB i] t)
      exact ⟨g, by rw [Act.eval_put_ne _ _ _ _ (by omega)]; exact e1, (hb.cell (p := ⟨g, 0, none⟩) (World.block_lt_of_cell? x _ e2)).trans e2, (hb.cell (p := ⟨g, 1, none⟩) (World.block_lt_of_cell? x _ e3)).trans e3⟩
  done := fun j hj => by
    obtain ⟨ao, cp, e1, e2⟩ := h.done j hj
    exact ⟨ao, cp, by rw [Act.eval_put_ne _ _ _ _ (by omega)]; exact e1, e2.later (below_alloc _ _)⟩
  apart := fun j l hjl hl => by
    rw [Act.eval_put_ne _ _ _ _ (by omega), Act.eval_put_ne _ _ _ _ (by omega)]
    exact h.apart j l hjl hl
  one := fun he => by
    obtain ⟨g, e1, e2, e3, e4⟩ := h.one he
    refine ⟨g, by rw [Act.eval_put_ne _ _ _ _ (by omega)]; exact e1, e2.alloc _, e3, fun j hj q hq => ?_⟩
    rw [Act.eval_put_ne _ _ _ _ (by omega)] at hq
    exact e4 j hj q hq
theorem ZJ.call (h : ZJ W0 a0 VA VB N LL A e k a x) (hs : 24 ≤ a0.tmps.size) (hk : k < 3) (hA : A.getD k false = true) {x' : World} {ao : Option Addr} {cp : Nat} (ho : OwnM x' x.heap.size (tyJ k) (msJ k) (.slice ao (N k) cp) (N k) (LL k)) (hb : Below x.heap.size x x') : ZJ W0 a0 VA VB N LL A e (k + 1) (a.put (some (11 + 6 * k)) (.slice ao (N k) cp)) x' where
  size := by rw [sizeQ_put]; exact h.size
  defers := by rw [defersQ_put]; exact h.defers
  rest := fun u hu h5 => by rw [Act.eval_put_ne _ _ _ _ (Ne.symm (hu k hk).2)]; exact h.rest u hu h5
  below := h.below.trans (hb.mono h.below.size)
  alen := h.alen
  kle := hk
  got := fun j hj => by
    by_cases q : j = k
    · subst q; exact hA
    · exact h.got j (by omega)
  laid := fun j hj hkj hA => by
    obtain ⟨g, e1, e2, e3⟩ := h.laid j hj (by omega) hA
    exact ⟨g, by rw [Act.eval_put_ne _ _ _ _ (by omega)]; exact e1, (hb.cell (p := ⟨g, 0, none⟩) (World.block_lt_of_cell? x _ e2)).trans e2, (hb.cell (p := ⟨g, 1, none⟩) (World.block_lt_of_cell? x _ e3)).trans e3⟩
  done := fun j hj => by
    by_cases q : j = k
    · subst q
      exact ⟨ao, cp, Act.eval_put_same _ _ _ (by rw [h.size]; omega), ho.monoJ h.below.size⟩
    · obtain ⟨ao', cp', e1, e2⟩ := h.done j (by omega)
      exact ⟨ao', cp', by rw [Act.eval_put_ne _ _ _ _ (by omega)]; exact e1, e2.later hb⟩
  apart := fun j l hjl hl => by
    by_cases q : l = k
    · subst q
      rw [Act.eval_put_ne _ _ _ _ (by omega : (11 + 6 * l : Nat) ≠ 11 + 6 * j), Act.eval_put_same _ _ _ (by rw [h.size]; omega)]
      obtain ⟨ao', cp', e1, e2⟩ := h.done j hjl
      rw [e1]
      exact (ApaJ.of ho e2 (Nat.le_refl _)).symm
    · rw [Act.eval_put_ne _ _ _ _ (by omega), Act.eval_put_ne _ _ _ _ (by omega)]
      exact h.apart j l hjl (by omega)
  one := fun he => by
    obtain ⟨g, e1, e2, e3, e4⟩ := h.one he
    refine ⟨g, by rw [Act.eval_put_ne _ _ _ _ (by omega)]; exact e1, e2.later hb, e3, fun j hj q hq => ?_⟩
    by_cases r : j = k
    · subst r
      rw [Act.eval_put_same _ _ _ (by rw [h.size]; omega)] at hq
      have := (ho.block q hq).1
      have := e2.lt
      omega
    · rw [Act.eval_put_ne _ _ _ _ (by omega)] at hq
      exact e4 j (by omega) q hq
theorem ZJ.box (h : ZJ W0 a0 VA VB N LL A false k a x) (hs : 24 ≤ a0.tmps.size) (t : TypeId) : ZJ W0 a0 VA VB N LL A true k (a.put (some 5) (.pointer (some ⟨x.heap.size, 0, none⟩))) (x.alloc (.cells #[.slice none 0 0, .slice none 0 0, .slice none 0 0] t)) where
  size := by rw [sizeQ_put]; exact h.size
  defers := by rw [defersQ_put]; exact h.defers
  rest := fun u hu h5 => by rw [Act.eval_put_ne _ _ _ _ (Ne.symm h5)]; exact h.rest u hu h5
  below := h.below.alloc h.below.size _
  alen := h.alen
  kle := h.kle
  got := h.got
  laid := fun j hj hkj hA => by
    obtain ⟨g, e1, e2, e3⟩ := h.laid j hj hkj hA
    have hb := below_alloc x (.cells #[.slice none 0 0, .slice none 0 0, .slice none 0 0] t)
    exact ⟨g, by rw [Act.eval_put_ne _ _ _ _ (by omega)]; exact e1, (hb.cell (p := ⟨g, 0, none⟩) (World.block_lt_of_cell? x _ e2)).trans e2, (hb.cell (p := ⟨g, 1, none⟩) (World.block_lt_of_cell? x _ e3)).trans e3⟩
  done := fun j hj => by
    obtain ⟨ao, cp, e1, e2⟩ := h.done j hj
    exact ⟨ao, cp, by rw [Act.eval_put_ne _ _ _ _ (by omega)]; exact e1, e2.later (below_alloc _ _)⟩
  apart := fun j l hjl hl => by
    rw [Act.eval_put_ne _ _ _ _ (by omega), Act.eval_put_ne _ _ _ _ (by omega)]
    exact h.apart j l hjl hl
  one := fun _ => by
    refine ⟨x.heap.size, Act.eval_put_same _ _ _ (by rw [h.size]; omega), Blk3.new _ _ _ _ _, h.below.size, fun j hj q hq => ?_⟩
    rw [Act.eval_put_ne _ _ _ _ (by omega)] at hq
    obtain ⟨ao, cp, e1, e2⟩ := h.done j hj
    rw [e1] at hq
    have := (e2.block q hq).2
    omega
end
theorem ZJ.start {W0 : World} {a0 : Act} {VA VB : Nat → Value} {N : Nat → Nat} {LL : Nat → List Int} : ZJ W0 a0 VA VB N LL [false, false, false] false 0 a0 W0 where
  size := rfl
  defers := rfl
  rest := fun _ _ _ => rfl
  below := Below.refl _ _
  alen := rfl
  kle := Nat.zero_le _
  got := fun _ h => absurd h (Nat.not_lt_zero _)
  laid := fun i hi _ hA => by
    match i, hi with
    | 0, _ => cases hA
    | 1, _ => cases hA
    | 2, _ => cases hA
  done := fun _ h => absurd h (Nat.not_lt_zero _)
  apart := fun _ _ _ h => absurd h (Nat.not_lt_zero _)
  one := fun h => by cases h
theorem wp_litQ {o : Oper} {d : Nat} {v : Value} {c : Obj} {a : Act} {w : World} {K : Act → World → Prop} {Q : Exit → Act → World → Prop} (t : TypeId) (n : Nat) (ps : Array (Nat × Operand)) (hop : o.op = .buildSlice t n ps) (hd : o.dst = some d) (qs : Array (Nat × Value)) (hq : (ps.map fun (i, x) => (i, a.eval x)) = qs) (hr : (Instr.buildSlice t n qs).run Tryz.prog w = .ok v (w.alloc c)) (h : K (a.put (some d) v) (w.alloc c)) : Oper.wp Tryz.prog o a w K Q := by
  unfold Oper.wp execOp
  simp only [hop, hq, Sem.run_bind, hr, Result.andThen_ok, Sem.run_pure]
  show K (a.put o.dst v) (w.alloc c)
  rw [hd]
  exact h
theorem run_twoCell (p q : Option Addr) (n n' c c' : Nat) (w : World) : (Instr.buildSlice 103 2 #[(0, .slice p n c), (1, .slice q n' c')]).run Tryz.prog w = .ok (.slice (some ⟨w.heap.size, 0, none⟩) 2 2) (w.alloc (.cells #[.slice p n c, .slice q n' c'] 28)) := by
  first | kernel_rfl | rfl | go_simp
theorem wp_concCell {o : Oper} {d : Nat} {a : Act} {w : World} {K : Act → World → Prop} {Q : Exit → Act → World → Prop} (i : Nat) (ts : Array TypeId) (hop : o.op = .call { callee := .value (.func 47), args := #[.tmp i], argTypes := ts }) (hd : o.dst = some d) (h : Calls Tryz.prog 47 #[a.eval (.tmp i)] w (fun e w' => ∃ v, e = .returned v ∧ K (a.put (some d) v) w')) : Oper.wp Tryz.prog o a w K Q := by
  have he : (execOp a.eval o).run Tryz.prog w = .ok (.enter 47 #[a.eval (.tmp i)]) w := by
    unfold execOp
    simp only [hop, resolve, invoke, Sem.run_bind, List.map_toArray, List.map_cons, List.map_nil]
    generalize a.eval (.tmp i) = x
    kernel_rfl
  unfold Oper.wp
  rw [he, Oper.upon_enter]
  refine h.mono ?_
  rintro e w' ⟨v, rfl, hk⟩
  show K (a.put o.dst v) w'
  rw [hd]
  exact hk
theorem run_twoLock (p q : Option Addr) (n n' c c' : Nat) (w : World) : (Instr.buildSlice 105 2 #[(0, .slice p n c), (1, .slice q n' c')]).run Tryz.prog w = .ok (.slice (some ⟨w.heap.size, 0, none⟩) 2 2) (w.alloc (.cells #[.slice p n c, .slice q n' c'] 29)) := by
  first | kernel_rfl | rfl | go_simp
theorem wp_concLock {o : Oper} {d : Nat} {a : Act} {w : World} {K : Act → World → Prop} {Q : Exit → Act → World → Prop} (i : Nat) (ts : Array TypeId) (hop : o.op = .call { callee := .value (.func 48), args := #[.tmp i], argTypes := ts }) (hd : o.dst = some d) (h : Calls Tryz.prog 48 #[a.eval (.tmp i)] w (fun e w' => ∃ v, e = .returned v ∧ K (a.put (some d) v) w')) : Oper.wp Tryz.prog o a w K Q := by
  have he : (execOp a.eval o).run Tryz.prog w = .ok (.enter 48 #[a.eval (.tmp i)]) w := by
    unfold execOp
    simp only [hop, resolve, invoke, Sem.run_bind, List.map_toArray, List.map_cons, List.map_nil]
    generalize a.eval (.tmp i) = x
    kernel_rfl
  unfold Oper.wp
  rw [he, Oper.upon_enter]
  refine h.mono ?_
  rintro e w' ⟨v, rfl, hk⟩
  show K (a.put o.dst v) w'
  rw [hd]
  exact hk
theorem run_twoWrite (p q : Option Addr) (n n' c c' : Nat) (w : World) : (Instr.buildSlice 107 2 #[(0, .slice p n c), (1, .slice q n' c')]).run Tryz.prog w = .ok (.slice (some ⟨w.heap.size, 0, none⟩) 2 2) (w.alloc (.cells #[.slice p n c, .slice q n' c'] 30)) := by
  first | kernel_rfl | rfl | go_simp
theorem wp_concWrite {o : Oper} {d : Nat} {a : Act} {w : World} {K : Act → World → Prop} {Q : Exit → Act → World → Prop} (i : Nat) (ts : Array TypeId) (hop : o.op = .call { callee := .value (.func 49), args := #[.tmp i], argTypes := ts }) (hd : o.dst = some d) (h : Calls Tryz.prog 49 #[a.eval (.tmp i)] w (fun e w' => ∃ v, e = .returned v ∧ K (a.put (some d) v) w')) : Oper.wp Tryz.prog o a w K Q := by
  have he : (execOp a.eval o).run Tryz.prog w = .ok (.enter 49 #[a.eval (.tmp i)]) w := by
    unfold execOp
    simp only [hop, resolve, invoke, Sem.run_bind, List.map_toArray, List.map_cons, List.map_nil]
    generalize a.eval (.tmp i) = x
    kernel_rfl
  unfold Oper.wp
  rw [he, Oper.upon_enter]
  refine h.mono ?_
  rintro e w' ⟨v, rfl, hk⟩
  show K (a.put o.dst v) w'
  rw [hd]
  exact hk
theorem wp_boxQ {o : Oper} {d : Nat} {a : Act} {w : World} {K : Act → World → Prop} {Q : Exit → Act → World → Prop} (hop : o.op = .alloc 32) (hd : o.dst = some d) (h : K (a.put (some d) (.pointer (some ⟨w.heap.size, 0, none⟩))) (w.alloc (.cells #[.slice none 0 0, .slice none 0 0, .slice none 0 0] 32))) : Oper.wp Tryz.prog o a w K Q := by
  have he : (execOp a.eval o).run Tryz.prog w = .ok (.value (.pointer (some ⟨w.heap.size, 0, none⟩))) (w.alloc (.cells #[.slice none 0 0, .slice none 0 0, .slice none 0 0] 32)) := by
    unfold execOp
    simp only [hop]
    first | kernel_rfl | rfl | go_simp
  unfold Oper.wp
  rw [he, Oper.upon_value, hd]
  exact h
/-- The boxes of joined. -/
def Bx (w : World) (v0 v1 v2 y0 y1 y2 : Value) (x : World) : Prop := (Below w.heap.size w x ∧ w.heap.size + 3 ≤ x.heap.size) ∧ Blk3 x w.heap.size v0 v1 v2 ∧ Blk3 x (w.heap.size + 1) y0 y1 y2 ∧ Blk3 x (w.heap.size + 2) (.slice none 0 0) (.slice none 0 0) (.slice none 0 0)
theorem Bx.later {w x x' : World} {v0 v1 v2 y0 y1 y2 : Value} (h : Bx w v0 v1 v2 y0 y1 y2 x) (hb : Below x.heap.size x x') : Bx w v0 v1 v2 y0 y1 y2 x' := ⟨⟨h.1.1.trans (hb.mono h.1.1.size), Nat.le_trans h.1.2 hb.size⟩, h.2.1.later hb, h.2.2.1.later hb, h.2.2.2.later hb⟩
theorem Bx.far {w x : World} {v0 v1 v2 y0 y1 y2 : Value} {g j : Nat} (h : Bx w v0 v1 v2 y0 y1 y2 x) (hg : w.heap.size + 3 ≤ g) (u : Value) : Bx w v0 v1 v2 y0 y1 y2 (x.setCell ⟨g, j, none⟩ u) :=
  ⟨⟨h.1.1.setCell (by show w.heap.size ≤ g; omega) _, by simpa [World.setCell] using h.1.2⟩, h.2.1.setFar (by show w.heap.size ≠ g; omega) _, h.2.2.1.setFar (by show w.heap.size + 1 ≠ g; omega) _, h.2.2.2.setFar (by show w.heap.size + 2 ≠ g; omega) _⟩
theorem Bx.drew {w x : World} {v0 v1 v2 y0 y1 y2 : Value} (h : Bx w v0 v1 v2 y0 y1 y2 x) : Bx w v0 v1 v2 y0 y1 y2 x.drew := ⟨⟨h.1.1.drew, h.1.2⟩, h.2⟩
theorem Bx.new (w : World) (v0 v1 v2 y0 y1 y2 : Value) (t : TypeId) : Bx w v0 v1 v2 y0 y1 y2 (((w.alloc (.cells #[v0, v1, v2] t)).alloc (.cells #[y0, y1, y2] t)).alloc (.cells #[.slice none 0 0, .slice none 0 0, .slice none 0 0] t)) := by
  refine ⟨⟨((below_alloc _ _).alloc (by simp) _).alloc (by simp; omega) _, by rw [World.size_alloc, World.size_alloc, World.size_alloc]; omega⟩, ((Blk3.new w v0 v1 v2 t).alloc _).alloc _, ?_, ?_⟩
  · have := Blk3.new (w.alloc (.cells #[v0, v1, v2] t)) y0 y1 y2 t
    rw [World.size_alloc] at this
    exact this.alloc _
  · have := Blk3.new ((w.alloc (.cells #[v0, v1, v2] t)).alloc (.cells #[y0, y1, y2] t)) (.slice none 0 0) (.slice none 0 0) (.slice none 0 0) t
    rwa [World.size_alloc, World.size_alloc] at this
theorem Jog.made {w X : World} {g : Nat} {v0 v1 v2 y0 y1 y2 u0 u1 u2 : Value} {n0 n1 n2 : Nat} {L0 L1 L2 : List Int} (h : Bx w v0 v1 v2 y0 y1 y2 X) (hg : w.heap.size + 3 ≤ g) (hb : Blk3 X g (.slice none 0 0) (.slice none 0 0) (.slice none 0 0)) (o0 : OwnM X (w.heap.size + 3) 62 3 u0 n0 L0) (o1 : OwnM X (w.heap.size + 3) 65 5 u1 n1 L1) (o2 : OwnM X (w.heap.size + 3) 68 4 u2 n2 L2) (a01 : ApaJ u0 u1) (a02 : ApaJ u0 u2) (a12 : ApaJ u1 u2)
    (h0 : ∀ q, u0.ownBlock = some q → q ≠ g) (h1 : ∀ q, u1.ownBlock = some q → q ≠ g) (h2 : ∀ q, u2.ownBlock = some q → q ≠ g) : Jog w (((X.setCell ⟨g, 0, none⟩ u0).setCell ⟨g, 1, none⟩ u1).setCell ⟨g, 2, none⟩ u2) g y0 y1 y2 u0 u1 u2 n0 n1 n2 L0 L1 L2 := by
  have p : w.heap.size ≤ g := by omega
  have p1 : w.heap.size + 1 ≠ g := by omega
  have p2 : w.heap.size + 2 ≠ g := by omega
  exact ⟨((h.1.1.setCell p _).setCell p _).setCell p _, ((h.2.2.1.setFar p1 _).setFar p1 _).setFar p1 _, ((h.2.2.2.setFar p2 _).setFar p2 _).setFar p2 _, hg, ((hb.set0 u0).set1 u1).set2 u2, ((o0.farJ h0 _).farJ h0 _).farJ h0 _, ((o1.farJ h1 _).farJ h1 _).farJ h1 _, ((o2.farJ h2 _).farJ h2 _).farJ h2 _, a01, a02, a12, h0, h1, h2⟩
theorem wpAnyH_atQ {P : Program} {md : Region.Mode} {ops : Array Oper} {Q : Exit → Act → World → Prop} {S : World → Prop} {n n' : Nat} {L L' : Array Bool} {a : Act} {w : World} (hn : n = n') (hL : L = L') (h : wpAnyH P md ops Q S n' L' a w) : wpAnyH P md ops Q S n L a w := by
  subst hn hL; exact h
/-- The drawn region of joined, in whatever order. -/
theorem wpAnyH_joined {ops : Array Oper} {Q : Exit → Act → World → Prop} {S : World → Prop} {L : Array Bool} {a : Act} {W : World} (f : Nat) (VA VB : Nat → Value) (N : Nat → Nat) (LL : Nat → List Int) (hsz : 24 ≤ a.tmps.size)
    (hchk : chkQ .any ops 3 (fun i => 4 + 6 * i) (fun i => 5 + 6 * i) 19 L = true)
    (hva : ∀ i, i < 3 → a.eval (.tmp (7 + 6 * i)) = VA i ∧ a.eval (.tmp (9 + 6 * i)) = VB i)
    (hlit : ∀ i, i < 3 → ∃ o t, ops[4 + 6 * i]? = some o ∧ o.guard = none ∧ ∀ (b : Act) (x : World) (K : Act → World → Prop), b.eval (.tmp (7 + 6 * i)) = VA i → b.eval (.tmp (9 + 6 * i)) = VB i → K (b.put (some (10 + 6 * i)) (.slice (some ⟨x.heap.size, 0, none⟩) 2 2)) (x.alloc (.cells #[VA i, VB i] t)) → Oper.wp Tryz.prog o b x K Q)
    (hcall : ∀ k, k < 3 → ∃ o, ops[5 + 6 * k]? = some o ∧ o.guard = none ∧ ∀ (b : Act) (x : World) (g : Nat) (K : Act → World → Prop), b.eval (.tmp (10 + 6 * k)) = .slice (some ⟨g, 0, none⟩) 2 2 → x.cell? ⟨g, 0, none⟩ = some (VA k) → x.cell? ⟨g, 1, none⟩ = some (VB k) → Below W.heap.size W x → (∀ ao cp x', OwnM x' x.heap.size (tyJ k) (msJ k) (.slice ao (N k) cp) (N k) (LL k) → Below x.heap.size x x' → K (b.put (some (11 + 6 * k)) (.slice ao (N k) cp)) x') → Oper.wp Tryz.prog o b x K Q)
    (hone : ∃ o, ops[19]? = some o ∧ o.guard = none ∧ ∀ (b : Act) (x : World) (K : Act → World → Prop), K (b.put (some 5) (.pointer (some ⟨x.heap.size, 0, none⟩))) (x.alloc (.cells #[.slice none 0 0, .slice none 0 0, .slice none 0 0] 32)) → Oper.wp Tryz.prog o b x K Q)
    (hS : ∀ x, Below W.heap.size W x → S x)
    (hend : ∀ (e : Bool) (p0 p1 p2 : Value) (f0 f1 f2 : Option Addr) (m0 m1 m2 : Nat) (z : Value) (x : World), Below W.heap.size W x →
      (OwnM x W.heap.size 62 3 (.slice f0 (N 0) m0) (N 0) (LL 0) ∧ OwnM x W.heap.size 65 5 (.slice f1 (N 1) m1) (N 1) (LL 1) ∧ OwnM x W.heap.size 68 4 (.slice f2 (N 2) m2) (N 2) (LL 2)) →
      (ApaJ (.slice f0 (N 0) m0) (.slice f1 (N 1) m1) ∧ ApaJ (.slice f0 (N 0) m0) (.slice f2 (N 2) m2) ∧ ApaJ (.slice f1 (N 1) m1) (.slice f2 (N 2) m2)) →
      (e = true → ∃ g, z = .pointer (some ⟨g, 0, none⟩) ∧ Blk3 x g (.slice none 0 0) (.slice none 0 0) (.slice none 0 0) ∧ W.heap.size ≤ g ∧ (∀ q, (Value.slice f0 (N 0) m0).ownBlock = some q → q ≠ g) ∧ (∀ q, (Value.slice f1 (N 1) m1).ownBlock = some q → q ≠ g) ∧ ∀ q, (Value.slice f2 (N 2) m2).ownBlock = some q → q ≠ g) →
      wpAnyH Tryz.prog .any ops Q S (leftQ e + f) (mkQ 3 (fun i => 4 + 6 * i) (fun i => 5 + 6 * i) 19 L [true, true, true] e 3) (putsQ [(10, p0), (16, p1), (22, p2), (11, .slice f0 (N 0) m0), (17, .slice f1 (N 1) m1), (23, .slice f2 (N 2) m2), (5, z)] a) x) :
    wpAnyH Tryz.prog .any ops Q S (7 + f) L a W := by
  refine wpAnyH_atQ (L' := mkQ 3 (fun i => 4 + 6 * i) (fun i => 5 + 6 * i) 19 L [false, false, false] false 0) rfl rfl ?_
  refine wpAnyH_concs 3 (fun i => 4 + 6 * i) (fun i => 5 + 6 * i) 19 L f (ZJ W a VA VB N LL) hchk (fun A e k b x h => ⟨h.alen, h.kle, h.got⟩) (fun A e k b x h => hS x h.below) ?_ ?_ ?_ ?_ 7 [false, false, false] false 0 a W rfl ZJ.start
  · intro A e k b x i h hi hA
    obtain ⟨o, t, ho, hg, hwp⟩ := hlit i hi
    refine ⟨o, ho, hg, fun K hK => hwp b x K ?_ ?_ (hK _ _ (h.lay hsz hi t))⟩
    · rw [h.rest (7 + 6 * i) (fun j hj => ⟨by omega, by omega⟩) (by omega)]; exact (hva i hi).1
    · rw [h.rest (9 + 6 * i) (fun j hj => ⟨by omega, by omega⟩) (by omega)]; exact (hva i hi).2
  · intro A e k b x h hk hA
    obtain ⟨o, ho, hg, hwp⟩ := hcall k hk
    obtain ⟨g, e1, e2, e3⟩ := h.laid k hk (Nat.le_refl _) hA
    exact ⟨o, ho, hg, fun K hK => hwp b x g K e1 e2 e3 h.below (fun ao cp x' h1 h2 => hK _ _ (h.call hsz hk hA h1 h2))⟩
  · intro A k b x h
    obtain ⟨o, ho, hg, hwp⟩ := hone
    exact ⟨o, ho, hg, fun K hK => hwp b x K (hK _ _ (h.box hsz _))⟩
  · intro e b x h
    have hb := putsQ_is [10, 16, 22, 11, 17, 23, 5] a b (fun t ht => by simp at ht; omega) (by decide) h.size h.defers (fun t ht => h.rest t (fun i hi => by
      simp at ht
      match i, hi with
      | 0, _ => omega
      | 1, _ => omega
      | 2, _ => omega) (by simp at ht; omega))
    obtain ⟨f0, m0, d0, o0⟩ := h.done 0 (by omega)
    obtain ⟨f1, m1, d1, o1⟩ := h.done 1 (by omega)
    obtain ⟨f2, m2, d2, o2⟩ := h.done 2 (by omega)
    have a01 := h.apart 0 1 (by omega) (by omega)
    have a02 := h.apart 0 2 (by omega) (by omega)
    have a12 := h.apart 1 2 (by omega) (by omega)
    rw [d0, d1] at a01
    rw [d0, d2] at a02
    rw [d1, d2] at a12
    have hq := hend e (b.eval (.tmp 10)) (b.eval (.tmp 16)) (b.eval (.tmp 22)) f0 f1 f2 m0 m1 m2 (b.eval (.tmp 5)) x h.below ⟨o0, o1, o2⟩ ⟨a01, a02, a12⟩ (fun he => by
      obtain ⟨g, e1, e2, e3, e4⟩ := h.one he
      refine ⟨g, e1, e2, e3, fun q hq => e4 0 (by omega) q (by rw [d0]; exact hq), fun q hq => e4 1 (by omega) q (by rw [d1]; exact hq), fun q hq => e4 2 (by omega) q (by rw [d2]; exact hq)⟩)
    rw [← d0, ← d1, ← d2] at hq
    rw [hb]
    exact hq
set_option maxRecDepth 100000 in
set_option maxHeartbeats 8000000 in
theorem joined_any (A T : Sto) (v0 v1 v2 y0 y1 y2 : Value) (B B' : Nat) (w : World) (h : St w B A v0 v1 v2) (h' : St w B' T y0 y1 y2) (hA : A.nc ≤ 200 ∧ A.nl ≤ 200 ∧ A.nw ≤ 200) (hT : T.nc ≤ 200 ∧ T.nl ≤ 200 ∧ T.nw ≤ 200) :
    Calls Tryz.prog 22 #[.agg #[v0, v1, v2], .agg #[y0, y1, y2]] w fun e w' => ∃ P Q R, (Weak k0 k1 P ∧ P.Perm (listF 3 A.nc A.c ++ listF 3 T.nc T.c)) ∧ (Weak k0 kN Q ∧ Q.Perm (listF 5 A.nl A.l ++ listF 5 T.nl T.l)) ∧ (Weak k0 k1 R ∧ R.Perm (listF 4 A.nw A.k ++ listF 4 T.nw T.k)) ∧ NewSto w (stoOf P Q R) e w' := by
  obtain ⟨a0, c0, a1, c1, a2, c2, rfl, rfl, rfl⟩ := h.form
  obtain ⟨p0, q0, p1, q1, p2, q2, rfl, rfl, rfl⟩ := h'.form
  have H : Hid (St w B A (.slice a0 A.nc c0) (.slice a1 A.nl c1) (.slice a2 A.nw c2)) := h
  have H' : Hid (St w B' T (.slice p0 T.nc q0) (.slice p1 T.nl q1) (.slice p2 T.nw q2)) := h'
  have HA : Hid (A.nc ≤ 200 ∧ A.nl ≤ 200 ∧ A.nw ≤ 200) := hA
  have HT : Hid (T.nc ≤ 200 ∧ T.nl ≤ 200 ∧ T.nw ≤ 200) := hT
  clear h h' hA hT
  go_enter Tryz.func22, Tryz.ntmps22
  go_upto_region 1 with fail
  have E3 : Hid (Bx w (.slice a0 A.nc c0) (.slice a1 A.nl c1) (.slice a2 A.nw c2) (.slice p0 T.nc q0) (.slice p1 T.nl q1) (.slice p2 T.nw q2) (((w.alloc (.cells #[.slice a0 A.nc c0, .slice a1 A.nl c1, .slice a2 A.nw c2] 32)).alloc (.cells #[.slice p0 T.nc q0, .slice p1 T.nl q1, .slice p2 T.nw q2] 32)).alloc (.cells #[.slice none 0 0, .slice none 0 0, .slice none 0 0] 32))) := Bx.new w _ _ _ _ _ _ _
  generalize (((w.alloc (.cells #[.slice a0 A.nc c0, .slice a1 A.nl c1, .slice a2 A.nw c2] 32)).alloc (.cells #[.slice p0 T.nc q0, .slice p1 T.nl q1, .slice p2 T.nw q2] 32)).alloc (.cells #[.slice none 0 0, .slice none 0 0, .slice none 0 0] 32)) = W3 at E3 ⊢
  rw [show w.heap.size + 1 + 1 = w.heap.size + 2 from rfl]
  go_cut [5] (fun p wx => ∃ g f0 m0 f1 m1 f2 m2, p = .pointer (some ⟨g, 0, none⟩) ∧ Hid (Jog w wx g (.slice p0 T.nc q0) (.slice p1 T.nl q1) (.slice p2 T.nw q2) (.slice f0 (A.nc + T.nc) m0) (.slice f1 (A.nl + T.nl) m1) (.slice f2 (A.nw + T.nw) m2) (A.nc + T.nc) (A.nl + T.nl) (A.nw + T.nw) (nums A.c (A.nc * 3) ++ nums T.c (T.nc * 3)) (nums A.l (A.nl * 5) ++ nums T.l (T.nl * 5)) (nums A.k (A.nw * 4) ++ nums T.k (T.nw * 4))))
  case first =>
    refine wp_region_held_drew (S := Bx w (.slice a0 A.nc c0) (.slice a1 A.nl c1) (.slice a2 A.nw c2) (.slice p0 T.nc q0) (.slice p1 T.nl q1) (.slice p2 T.nw q2)) (by kernel_rfl) E3.out.drew (fun hS => ?_)
    have E4 : Hid (Bx w (.slice a0 A.nc c0) (.slice a1 A.nl c1) (.slice a2 A.nw c2) (.slice p0 T.nc q0) (.slice p1 T.nl q1) (.slice p2 T.nw q2) W3.drew) := hS
    clear E3
    generalize W3.drew = z0 at hS E4 ⊢
    refine tkH 0 ?_ hS (fun wx hx => ?_) ?_; rotate_left
    · obtain ⟨_, ⟨⟨hx0, hx1, hx2⟩, _⟩, ⟨⟨hx3, hx4, hx5⟩, _⟩, _⟩ := hx; go_simp; try with_reducible rfl
    refine tkH 1 ?_ hS (fun wx hx => ?_) ?_; rotate_left
    · obtain ⟨_, ⟨⟨hx0, hx1, hx2⟩, _⟩, ⟨⟨hx3, hx4, hx5⟩, _⟩, _⟩ := hx; go_simp; try with_reducible rfl
    refine tkH 2 ?_ hS (fun wx hx => ?_) ?_; rotate_left
    · obtain ⟨_, ⟨⟨hx0, hx1, hx2⟩, _⟩, ⟨⟨hx3, hx4, hx5⟩, _⟩, _⟩ := hx; go_simp; try with_reducible rfl
    refine tkH 3 ?_ hS (fun wx hx => ?_) ?_; rotate_left
    · obtain ⟨_, ⟨⟨hx0, hx1, hx2⟩, _⟩, ⟨⟨hx3, hx4, hx5⟩, _⟩, _⟩ := hx; go_simp; try with_reducible rfl
    refine tkH 6 ?_ hS (fun wx hx => ?_) ?_; rotate_left
    · obtain ⟨_, ⟨⟨hx0, hx1, hx2⟩, _⟩, ⟨⟨hx3, hx4, hx5⟩, _⟩, _⟩ := hx; go_simp; try with_reducible rfl
    refine tkH 7 ?_ hS (fun wx hx => ?_) ?_; rotate_left
    · obtain ⟨_, ⟨⟨hx0, hx1, hx2⟩, _⟩, ⟨⟨hx3, hx4, hx5⟩, _⟩, _⟩ := hx; go_simp; try with_reducible rfl
    refine tkH 8 ?_ hS (fun wx hx => ?_) ?_; rotate_left
    · obtain ⟨_, ⟨⟨hx0, hx1, hx2⟩, _⟩, ⟨⟨hx3, hx4, hx5⟩, _⟩, _⟩ := hx; go_simp; try with_reducible rfl
    refine tkH 9 ?_ hS (fun wx hx => ?_) ?_; rotate_left
    · obtain ⟨_, ⟨⟨hx0, hx1, hx2⟩, _⟩, ⟨⟨hx3, hx4, hx5⟩, _⟩, _⟩ := hx; go_simp; try with_reducible rfl
    refine tkH 12 ?_ hS (fun wx hx => ?_) ?_; rotate_left
    · obtain ⟨_, ⟨⟨hx0, hx1, hx2⟩, _⟩, ⟨⟨hx3, hx4, hx5⟩, _⟩, _⟩ := hx; go_simp; try with_reducible rfl
    refine tkH 13 ?_ hS (fun wx hx => ?_) ?_; rotate_left
    · obtain ⟨_, ⟨⟨hx0, hx1, hx2⟩, _⟩, ⟨⟨hx3, hx4, hx5⟩, _⟩, _⟩ := hx; go_simp; try with_reducible rfl
    refine tkH 14 ?_ hS (fun wx hx => ?_) ?_; rotate_left
    · obtain ⟨_, ⟨⟨hx0, hx1, hx2⟩, _⟩, ⟨⟨hx3, hx4, hx5⟩, _⟩, _⟩ := hx; go_simp; try with_reducible rfl
    refine tkH 15 ?_ hS (fun wx hx => ?_) ?_; rotate_left
    · obtain ⟨_, ⟨⟨hx0, hx1, hx2⟩, _⟩, ⟨⟨hx3, hx4, hx5⟩, _⟩, _⟩ := hx; go_simp; try with_reducible rfl
    try simp only [Act.put, List.getElem_toArray, List.getElem_cons_zero, List.getElem_cons_succ, List.setIfInBounds_toArray, List.set_cons_succ, List.set_cons_zero]
    refine wpAnyH_joined 2 (fun i => match i with | 0 => .slice a0 A.nc c0 | 1 => .slice a1 A.nl c1 | _ => .slice a2 A.nw c2) (fun i => match i with | 0 => .slice p0 T.nc q0 | 1 => .slice p1 T.nl q1 | _ => .slice p2 T.nw q2) (fun i => match i with | 0 => A.nc + T.nc | 1 => A.nl + T.nl | _ => A.nw + T.nw) (fun i => match i with | 0 => nums A.c (A.nc * 3) ++ nums T.c (T.nc * 3) | 1 => nums A.l (A.nl * 5) ++ nums T.l (T.nl * 5) | _ => nums A.k (A.nw * 4) ++ nums T.k (T.nw * 4)) (by simp) (by kernel_rfl) (fun i hi => ?_) (fun i hi => ?_) (fun i hi => ?_) ⟨_, rfl, rfl, fun b x K h => wp_boxQ rfl rfl h⟩ (fun x hb => E4.out.later hb) ?_
    · match i, hi with
      | 0, _ => exact ⟨rfl, rfl⟩
      | 1, _ => exact ⟨rfl, rfl⟩
      | 2, _ => exact ⟨rfl, rfl⟩
    · match i, hi with
      | 0, _ =>
        refine ⟨_, 28, rfl, rfl, fun b x K e1 e2 h => ?_⟩
        have e1' : b.eval (.tmp 7) = .slice a0 A.nc c0 := e1
        have e2' : b.eval (.tmp 9) = .slice p0 T.nc q0 := e2
        exact wp_litQ _ _ _ rfl rfl #[(0, .slice a0 A.nc c0), (1, .slice p0 T.nc q0)] (by simp [e1', e2']) (run_twoCell _ _ _ _ _ _ x) h
      | 1, _ =>
        refine ⟨_, 29, rfl, rfl, fun b x K e1 e2 h => ?_⟩
        have e1' : b.eval (.tmp 13) = .slice a1 A.nl c1 := e1
        have e2' : b.eval (.tmp 15) = .slice p1 T.nl q1 := e2
        exact wp_litQ _ _ _ rfl rfl #[(0, .slice a1 A.nl c1), (1, .slice p1 T.nl q1)] (by simp [e1', e2']) (run_twoLock _ _ _ _ _ _ x) h
      | 2, _ =>
        refine ⟨_, 30, rfl, rfl, fun b x K e1 e2 h => ?_⟩
        have e1' : b.eval (.tmp 19) = .slice a2 A.nw c2 := e1
        have e2' : b.eval (.tmp 21) = .slice p2 T.nw q2 := e2
        exact wp_litQ _ _ _ rfl rfl #[(0, .slice a2 A.nw c2), (1, .slice p2 T.nw q2)] (by simp [e1', e2']) (run_twoWrite _ _ _ _ _ _ x) h
    · match i, hi with
      | 0, _ =>
        refine ⟨_, rfl, rfl, fun b x g K e1 e2 e3 hb h => wp_concCell _ _ rfl rfl ?_⟩
        have e1' : b.eval (.tmp 10) = .slice (some ⟨g, 0, none⟩) 2 2 := e1
        rw [e1']
        have hwx := E4.out.1.1.trans (hb.mono E4.out.1.1.size)
        refine (concatCell_any g 0 A.nc T.nc A.c T.c a0 p0 c0 q0 x ⟨(H.out.1.later hwx).mono (Nat.zero_le _), (H'.out.1.later hwx).mono (Nat.zero_le _), e2, e3⟩ HA.out.1 HT.out.1).mono ?_
        rintro e x' ⟨ao, cp, rfl, o, q⟩
        exact ⟨_, rfl, h ao cp x' o q⟩
      | 1, _ =>
        refine ⟨_, rfl, rfl, fun b x g K e1 e2 e3 hb h => wp_concLock _ _ rfl rfl ?_⟩
        have e1' : b.eval (.tmp 16) = .slice (some ⟨g, 0, none⟩) 2 2 := e1
        rw [e1']
        have hwx := E4.out.1.1.trans (hb.mono E4.out.1.1.size)
        refine (concatLock_any g 0 A.nl T.nl A.l T.l a1 p1 c1 q1 x ⟨(H.out.2.1.later hwx).mono (Nat.zero_le _), (H'.out.2.1.later hwx).mono (Nat.zero_le _), e2, e3⟩ HA.out.2.1 HT.out.2.1).mono ?_
        rintro e x' ⟨ao, cp, rfl, o, q⟩
        exact ⟨_, rfl, h ao cp x' o q⟩
      | 2, _ =>
        refine ⟨_, rfl, rfl, fun b x g K e1 e2 e3 hb h => wp_concWrite _ _ rfl rfl ?_⟩
        have e1' : b.eval (.tmp 22) = .slice (some ⟨g, 0, none⟩) 2 2 := e1
        rw [e1']
        have hwx := E4.out.1.1.trans (hb.mono E4.out.1.1.size)
        refine (concatWrite_any g 0 A.nw T.nw A.k T.k a2 p2 c2 q2 x ⟨(H.out.2.2.later hwx).mono (Nat.zero_le _), (H'.out.2.2.later hwx).mono (Nat.zero_le _), e2, e3⟩ HA.out.2.2 HT.out.2.2).mono ?_
        rintro e x' ⟨ao, cp, rfl, o, q⟩
        exact ⟨_, rfl, h ao cp x' o q⟩
    · intro e r0 r1 r2 f0 f1 f2 m0 m1 m2 z x hbx ho ha hz
      try simp only [putsQ, Act.put, List.setIfInBounds_toArray, List.set_cons_succ, List.set_cons_zero]
      have hJ : ∀ (g : Nat) (X : World), Below x.heap.size x X → Blk3 X g (.slice none 0 0) (.slice none 0 0) (.slice none 0 0) → z0.heap.size ≤ g → (∀ q, (Value.slice f0 (A.nc + T.nc) m0).ownBlock = some q → q ≠ g) → (∀ q, (Value.slice f1 (A.nl + T.nl) m1).ownBlock = some q → q ≠ g) → (∀ q, (Value.slice f2 (A.nw + T.nw) m2).ownBlock = some q → q ≠ g) →
          Hid (Jog w (((X.setCell ⟨g, 0, none⟩ (.slice f0 (A.nc + T.nc) m0)).setCell ⟨g, 1, none⟩ (.slice f1 (A.nl + T.nl) m1)).setCell ⟨g, 2, none⟩ (.slice f2 (A.nw + T.nw) m2)) g (.slice p0 T.nc q0) (.slice p1 T.nl q1) (.slice p2 T.nw q2) (.slice f0 (A.nc + T.nc) m0) (.slice f1 (A.nl + T.nl) m1) (.slice f2 (A.nw + T.nw) m2) (A.nc + T.nc) (A.nl + T.nl) (A.nw + T.nw) (nums A.c (A.nc * 3) ++ nums T.c (T.nc * 3)) (nums A.l (A.nl * 5) ++ nums T.l (T.nl * 5)) (nums A.k (A.nw * 4) ++ nums T.k (T.nw * 4))) := fun g X hX hb hg h0 h1 h2 =>
        Jog.made (E4.out.later (hbx.trans (hX.mono hbx.size))) (Nat.le_trans E4.out.1.2 hg) hb ((ho.1.later hX).monoJ E4.out.1.2) ((ho.2.1.later hX).monoJ E4.out.1.2) ((ho.2.2.later hX).monoJ E4.out.1.2) ha.1 ha.2.1 ha.2.2 h0 h1 h2
      have HJ : Hid (∀ (g : Nat) (X : World), Below x.heap.size x X → Blk3 X g (.slice none 0 0) (.slice none 0 0) (.slice none 0 0) → z0.heap.size ≤ g → (∀ q, (Value.slice f0 (A.nc + T.nc) m0).ownBlock = some q → q ≠ g) → (∀ q, (Value.slice f1 (A.nl + T.nl) m1).ownBlock = some q → q ≠ g) → (∀ q, (Value.slice f2 (A.nw + T.nw) m2).ownBlock = some q → q ≠ g) →
          Hid (Jog w (((X.setCell ⟨g, 0, none⟩ (.slice f0 (A.nc + T.nc) m0)).setCell ⟨g, 1, none⟩ (.slice f1 (A.nl + T.nl) m1)).setCell ⟨g, 2, none⟩ (.slice f2 (A.nw + T.nw) m2)) g (.slice p0 T.nc q0) (.slice p1 T.nl q1) (.slice p2 T.nw q2) (.slice f0 (A.nc + T.nc) m0) (.slice f1 (A.nl + T.nl) m1) (.slice f2 (A.nw + T.nw) m2) (A.nc + T.nc) (A.nl + T.nl) (A.nw + T.nw) (nums A.c (A.nc * 3) ++ nums T.c (T.nc * 3)) (nums A.l (A.nl * 5) ++ nums T.l (T.nl * 5)) (nums A.k (A.nw * 4) ++ nums T.k (T.nw * 4)))) := hJ
      have hS : Bx w (.slice a0 A.nc c0) (.slice a1 A.nl c1) (.slice a2 A.nw c2) (.slice p0 T.nc q0) (.slice p1 T.nl q1) (.slice p2 T.nw q2) x := E4.out.later hbx
      have HO : Hid ((∀ q, (Value.slice f0 (A.nc + T.nc) m0).ownBlock = some q → q < x.heap.size) ∧ (∀ q, (Value.slice f1 (A.nl + T.nl) m1).ownBlock = some q → q < x.heap.size) ∧ ∀ q, (Value.slice f2 (A.nw + T.nw) m2).ownBlock = some q → q < x.heap.size) := ⟨fun q h => (ho.1.block q h).2, fun q h => (ho.2.1.block q h).2, fun q h => (ho.2.2.block q h).2⟩
      have HZ : Hid (z0.heap.size ≤ x.heap.size) := hbx.size
      clear hJ hbx ho ha
      cases e
      focus
        clear hz
        refine wpAnyH_atQ (n' := 3) (L' := #[true, true, true, true, true, true, true, true, true, true, true, true, true, true, true, true, true, true, false, false, false]) rfl (by kernel_rfl) ?_
        refine tkH 18 ?_ hS (fun wx hx => ?_) ?_; rotate_left
        · obtain ⟨_, ⟨⟨hx0, hx1, hx2⟩, _⟩, ⟨⟨hx3, hx4, hx5⟩, _⟩, _⟩ := hx; go_simp; try with_reducible rfl
        refine rdH 19 (fun K hK => ?_)
        go_simp
        refine hK.out _ _ (hS.later (below_alloc _ _)) (fun hS => ?_)
        clear hK K
        have gb : Hid (Blk3 (x.alloc (.cells #[.slice none 0 0, .slice none 0 0, .slice none 0 0] 32)) x.heap.size (.slice none 0 0) (.slice none 0 0) (.slice none 0 0)) := Blk3.new _ _ _ _ _
        have HJX := HJ.out x.heap.size _ (below_alloc _ _) gb.out HZ.out (fun q h => Nat.ne_of_lt (HO.out.1 q h)) (fun q h => Nat.ne_of_lt (HO.out.2.1 q h)) (fun q h => Nat.ne_of_lt (HO.out.2.2 q h))
        clear HJ HO HZ
        generalize x.alloc (.cells #[.slice none 0 0, .slice none 0 0, .slice none 0 0] 32) = X at hS gb HJX ⊢
        generalize x.heap.size = g at gb HJX ⊢
      rotate_left
      focus
        obtain ⟨g, rfl, gb', hg, n0, n1, n2⟩ := hz rfl
        have gb : Hid (Blk3 x g (.slice none 0 0) (.slice none 0 0) (.slice none 0 0)) := gb'
        have HJX := HJ.out g x (Below.refl _ _) gb' hg n0 n1 n2
        clear HJ HO HZ gb' hg n0 n1 n2
        refine wpAnyH_atQ (n' := 2) (L' := #[true, true, true, true, true, true, true, true, true, true, true, true, true, true, true, true, true, true, false, true, false]) rfl (by kernel_rfl) ?_
        refine tkH 18 ?_ hS (fun wx hx => ?_) ?_; rotate_left
        · obtain ⟨_, ⟨⟨hx0, hx1, hx2⟩, _⟩, ⟨⟨hx3, hx4, hx5⟩, _⟩, _⟩ := hx; go_simp; try with_reducible rfl
      rotate_left
      all_goals
        obtain ⟨⟨t0, t1, t2⟩, ft0, ft1, ft2⟩ := gb.out
        refine rdH 20 (fun K hK => ?_)
        go_simp
        have hge := HJX.out.lo
        refine hK.out _ _ (Bx.far (Bx.far (Bx.far hS hge _) hge _) hge _) (fun hS => ?_)
        clear hK K hS t0 t1 t2 ft0 ft1 ft2
        refine wpAnyH_done (by kernel_rfl) ?_ _
        go_simp
        go_wp2_with fail
        go_meet
        case rel => exact ⟨g, f0, m0, f1, m1, f2, m2, rfl, HJX⟩
  case rest =>
    obtain ⟨g, f0, m0, f1, m1, f2, m2, rfl, HJ⟩ := hcut
    clear E3
    have hlo := HJ.out.lo
    obtain ⟨⟨t0, t1, t2⟩, ft0, ft1, ft2⟩ := HJ.out.blk
    go_wp2_with fail
    refine (sortCellJ (w.heap.size + 3) A.nc T.nc A.c T.c f0 m0 _ HJ.out.o0 (by have := HA.out; have := HT.out; omega)).mono ?_
    rintro e w4 ⟨rfl, P, hP, ⟨rP, fP⟩, gP⟩
    have HP : Hid (P.length = A.nc + T.nc ∧ Weak k0 k1 P ∧ P.Perm (listF 3 A.nc A.c ++ listF 3 T.nc T.c)) := hP
    have b4 : Hid (Blk3 w4 g (.slice f0 (A.nc + T.nc) m0) (.slice f1 (A.nl + T.nl) m1) (.slice f2 (A.nw + T.nw) m2) ∧ Blk3 w4 (w.heap.size + 2) (.slice none 0 0) (.slice none 0 0) (.slice none 0 0) ∧ Below w.heap.size w w4) := ⟨HJ.out.blk.kept (gP.block g HJ.out.blk.lt (fun e => HJ.out.nb.1 g e.symm rfl)), HJ.out.rb.kept (gP.block _ HJ.out.rb.lt (fun e => by have := (HJ.out.o0.block _ e.symm).1; omega)), below_grownBy HJ.out.below HJ.out.below.size (fun q e => by have := (HJ.out.o0.block q e).1; omega) gP⟩
    have o4 : Hid (OwnM w4 (w.heap.size + 3) 65 5 (.slice f1 (A.nl + T.nl) m1) (A.nl + T.nl) (nums A.l (A.nl * 5) ++ nums T.l (T.nl * 5)) ∧ OwnM w4 (w.heap.size + 3) 68 4 (.slice f2 (A.nw + T.nw) m2) (A.nw + T.nw) (nums A.k (A.nw * 4) ++ nums T.k (T.nw * 4))) := ⟨HJ.out.o1.keptB (fun k hk => gP.block k (HJ.out.o1.block k hk).2 (fun e => HJ.out.a01 k e.symm hk)), HJ.out.o2.keptB (fun k hk => gP.block k (HJ.out.o2.block k hk).2 (fun e => HJ.out.a02 k e.symm hk))⟩
    have R4 : Hid ((Row w4 (w.heap.size + 3) 3 (A.nc + T.nc) (flatF P) (.slice f0 (A.nc + T.nc) m0) ∧ Free w4 ((A.nc + T.nc) * 3) (.slice f0 (A.nc + T.nc) m0)) ∧ ∀ k, (Value.slice f0 (A.nc + T.nc) m0).ownBlock = some k → w.heap.size + 3 ≤ k ∧ k < w4.heap.size) := ⟨⟨rP, fP⟩, fun k hk => ⟨(HJ.out.o0.block k hk).1, Nat.lt_of_lt_of_le (HJ.out.o0.block k hk).2 gP.size⟩⟩
    have HN : Hid ((ApaJ (.slice f0 (A.nc + T.nc) m0) (.slice f1 (A.nl + T.nl) m1) ∧ ApaJ (.slice f0 (A.nc + T.nc) m0) (.slice f2 (A.nw + T.nw) m2) ∧ ApaJ (.slice f1 (A.nl + T.nl) m1) (.slice f2 (A.nw + T.nw) m2)) ∧ (∀ k, (Value.slice f1 (A.nl + T.nl) m1).ownBlock = some k → k ≠ g) ∧ ∀ k, (Value.slice f2 (A.nw + T.nw) m2).ownBlock = some k → k ≠ g) := ⟨⟨HJ.out.a01, HJ.out.a02, HJ.out.a12⟩, HJ.out.nb.2⟩
    clear HJ hP rP fP gP t0 t1 t2 ft0 ft1 ft2
    obtain ⟨⟨t0, t1, t2⟩, ft0, ft1, ft2⟩ := b4.out.1
    go_wp2_with fail
    refine (sortLockJ (w.heap.size + 3) A.nl T.nl A.l T.l f1 m1 _ o4.out.1 (by have := HA.out; have := HT.out; omega)).mono ?_
    rintro e w5 ⟨rfl, Q, hQ, ⟨rQ, fQ⟩, gQ⟩
    have HQ : Hid (Q.length = A.nl + T.nl ∧ Weak k0 kN Q ∧ Q.Perm (listF 5 A.nl A.l ++ listF 5 T.nl T.l)) := hQ
    have b5 : Hid (Blk3 w5 g (.slice f0 (A.nc + T.nc) m0) (.slice f1 (A.nl + T.nl) m1) (.slice f2 (A.nw + T.nw) m2) ∧ Blk3 w5 (w.heap.size + 2) (.slice none 0 0) (.slice none 0 0) (.slice none 0 0) ∧ Below w.heap.size w w5) := ⟨b4.out.1.kept (gQ.block g b4.out.1.lt (fun e => HN.out.2.1 g e.symm rfl)), b4.out.2.1.kept (gQ.block _ b4.out.2.1.lt (fun e => by have := (o4.out.1.block _ e.symm).1; omega)), below_grownBy b4.out.2.2 b4.out.2.2.size (fun q e => by have := (o4.out.1.block q e).1; omega) gQ⟩
    have o5 : Hid (OwnM w5 (w.heap.size + 3) 68 4 (.slice f2 (A.nw + T.nw) m2) (A.nw + T.nw) (nums A.k (A.nw * 4) ++ nums T.k (T.nw * 4))) := o4.out.2.keptB (fun k hk => gQ.block k (o4.out.2.block k hk).2 (fun e => HN.out.1.2.2 k e.symm hk))
    have R5 : Hid (((Row w5 (w.heap.size + 3) 3 (A.nc + T.nc) (flatF P) (.slice f0 (A.nc + T.nc) m0) ∧ Free w5 ((A.nc + T.nc) * 3) (.slice f0 (A.nc + T.nc) m0)) ∧ ∀ k, (Value.slice f0 (A.nc + T.nc) m0).ownBlock = some k → w.heap.size + 3 ≤ k ∧ k < w5.heap.size) ∧ (Row w5 (w.heap.size + 3) 5 (A.nl + T.nl) (flatF Q) (.slice f1 (A.nl + T.nl) m1) ∧ Free w5 ((A.nl + T.nl) * 5) (.slice f1 (A.nl + T.nl) m1)) ∧ ∀ k, (Value.slice f1 (A.nl + T.nl) m1).ownBlock = some k → w.heap.size + 3 ≤ k ∧ k < w5.heap.size) := ⟨⟨⟨R4.out.1.1.kept gQ.size (fun k hk hl => gQ.block k hl (fun e => HN.out.1.1 k hk e.symm)), R4.out.1.2.keptJ (fun k hk => gQ.block k (R4.out.2 k hk).2 (fun e => HN.out.1.1 k hk e.symm))⟩, fun k hk => ⟨(R4.out.2 k hk).1, Nat.lt_of_lt_of_le (R4.out.2 k hk).2 gQ.size⟩⟩, ⟨rQ, fQ⟩, fun k hk => ⟨(o4.out.1.block k hk).1, Nat.lt_of_lt_of_le (o4.out.1.block k hk).2 gQ.size⟩⟩
    clear R4 o4 b4 hQ rQ fQ gQ t0 t1 t2 ft0 ft1 ft2
    obtain ⟨⟨t0, t1, t2⟩, ft0, ft1, ft2⟩ := b5.out.1
    go_wp2_with fail
    refine (sortWriteJ (w.heap.size + 3) A.nw T.nw A.k T.k f2 m2 _ o5.out (by have := HA.out; have := HT.out; omega)).mono ?_
    rintro e w6 ⟨rfl, R, hR, ⟨rR, fR⟩, gR⟩
    have HR : Hid (R.length = A.nw + T.nw ∧ Weak k0 k1 R ∧ R.Perm (listF 4 A.nw A.k ++ listF 4 T.nw T.k)) := hR
    have b6 : Hid (Blk3 w6 g (.slice f0 (A.nc + T.nc) m0) (.slice f1 (A.nl + T.nl) m1) (.slice f2 (A.nw + T.nw) m2) ∧ Blk3 w6 (w.heap.size + 2) (.slice none 0 0) (.slice none 0 0) (.slice none 0 0) ∧ Below w.heap.size w w6) := ⟨b5.out.1.kept (gR.block g b5.out.1.lt (fun e => HN.out.2.2 g e.symm rfl)), b5.out.2.1.kept (gR.block _ b5.out.2.1.lt (fun e => by have := (o5.out.block _ e.symm).1; omega)), below_grownBy b5.out.2.2 b5.out.2.2.size (fun q e => by have := (o5.out.block q e).1; omega) gR⟩
    have R6 : Hid ((Row w6 (w.heap.size + 3) 3 (A.nc + T.nc) (flatF P) (.slice f0 (A.nc + T.nc) m0) ∧ Free w6 ((A.nc + T.nc) * 3) (.slice f0 (A.nc + T.nc) m0)) ∧ (Row w6 (w.heap.size + 3) 5 (A.nl + T.nl) (flatF Q) (.slice f1 (A.nl + T.nl) m1) ∧ Free w6 ((A.nl + T.nl) * 5) (.slice f1 (A.nl + T.nl) m1)) ∧ Row w6 (w.heap.size + 3) 4 (A.nw + T.nw) (flatF R) (.slice f2 (A.nw + T.nw) m2) ∧ Free w6 ((A.nw + T.nw) * 4) (.slice f2 (A.nw + T.nw) m2)) := ⟨⟨R5.out.1.1.1.kept gR.size (fun k hk hl => gR.block k hl (fun e => HN.out.1.2.1 k hk e.symm)), R5.out.1.1.2.keptJ (fun k hk => gR.block k (R5.out.1.2 k hk).2 (fun e => HN.out.1.2.1 k hk e.symm))⟩, ⟨R5.out.2.1.1.kept gR.size (fun k hk hl => gR.block k hl (fun e => HN.out.1.2.2 k hk e.symm)), R5.out.2.1.2.keptJ (fun k hk => gR.block k (R5.out.2.2 k hk).2 (fun e => HN.out.1.2.2 k hk e.symm))⟩, rR, fR⟩
    clear R5 o5 b5 hR rR fR gR t0 t1 t2 ft0 ft1 ft2
    obtain ⟨⟨t0, t1, t2⟩, ft0, ft1, ft2⟩ := b6.out.1
    obtain ⟨⟨r0, r1, r2⟩, fr0, fr1, fr2⟩ := b6.out.2.1
    have hS : Hid (stoOf P Q R = ⟨A.nc + T.nc, flatF P, A.nl + T.nl, flatF Q, A.nw + T.nw, flatF R⟩) := by
      unfold Hid stoOf
      rw [HP.out.1, HQ.out.1, HR.out.1]
    have hlo2 : (w.heap.size + 2 : Nat) < w.heap.size + 3 := Nat.lt_succ_self _
    go_wp2
    refine bodyPost_ret (v := .agg #[.slice f0 (A.nc + T.nc) m0, .slice f1 (A.nl + T.nl) m1, .slice f2 (A.nw + T.nw) m2]) (by simp [results, Tryz.results22, go_sem, r0, r1, r2]) rfl ⟨P, Q, R, HP.out.2, HQ.out.2, HR.out.2, ?_⟩
    rw [hS.out]
    refine ⟨f0, m0, f1, m1, f2, m2, rfl, ⟨⟨?_, ?_, ?_⟩, ⟨?_, ?_, ?_⟩, ?_⟩, ?_⟩
    · exact (((R6.out.1.1.far (Or.inl hlo2) _).far (Or.inl hlo2) _).far (Or.inl hlo2) _).mono (by omega)
    · exact (((R6.out.2.1.1.far (Or.inl hlo2) _).far (Or.inl hlo2) _).far (Or.inl hlo2) _).mono (by omega)
    · exact (((R6.out.2.2.1.far (Or.inl hlo2) _).far (Or.inl hlo2) _).far (Or.inl hlo2) _).mono (by omega)
    · exact ((R6.out.1.2.far _ _).far _ _).far _ _
    · exact ((R6.out.2.1.2.far _ _).far _ _).far _ _
    · exact ((R6.out.2.2.2.far _ _).far _ _).far _ _
    · exact apartD_apj (R := ⟨_, _, _, _, _, _⟩) R6.out.1.1 R6.out.2.1.1 HN.out.1.1 HN.out.1.2.1 HN.out.1.2.2
    · exact ((b6.out.2.2.setCell (by simp) _).setCell (by simp) _).setCell (by simp) _
end Go.Proofs.YtknbeggnlhiamaaGreat

