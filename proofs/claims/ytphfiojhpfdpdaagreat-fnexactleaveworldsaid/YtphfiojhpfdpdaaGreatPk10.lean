/-
  Own text, merged of WldS, WldC, WldF, WldM, AcmC, WldT, TxnJ, LivA, WldY, WldZ, TxsE, AcmD, WldU.
-/
import Derived.Test.YtphfiojhpfdpdaaGreatPk9
namespace Go.Proofs.YtphfiojhpfdpdaaGreat
open Go.RowKit

theorem Grs.above {w w' : World} {B nr : Nat} {F : Nat → Int} {n : Nat} {S : Nat → Sto} {V : Nat → Nat → Value} {vr vs : Value} (h : Grs w B nr F n S V vr vs) (hs : w.heap.size ≤ w'.heap.size) (hb : ∀ q, B ≤ q → q < w.heap.size → w'.heap[q]? = w.heap[q]?) : Grs w' B nr F n S V vr vs := ⟨h.1.above hs hb, h.2.above hs hb⟩
theorem OwnV.stos {x : World} {B : Nat} {v : Value} {k : Nat} {U : Nat → Nat → Value} {S : Nat → Sto} (h : OwnV x B v k U) (hs : ∀ i, i < k → St x B (S i) (U i 0) (U i 1) (U i 2)) : Stos x B k S U v := by
  rcases h.2 with ⟨e, e0⟩ | ⟨g, cap, cur, e, hB, hg, _⟩
  · subst e0
    exact ⟨⟨none, 0, e, fun q => absurd q (Nat.lt_irrefl 0)⟩, hs⟩
  · subst e
    have hf := h.fill
    refine ⟨⟨_, _, rfl, fun _ => ⟨g, 0, rfl, hB, hf.1, fun i hi => ?_⟩⟩, hs⟩
    rw [Nat.zero_add]
    exact hf.2.2 i hi
/-- What stands while a world is copied: the argument in block w.heap.size, the answer's box behind it, the copy in block z; its groups were laid by y0, from block lo on; its transactions lie from block B2 on. -/
structure CpyE (w : World) (nw nx bd : Int) (vr vs vt : Value) (z lo : Nat) (y0 : World) (xr vS : Value) (B2 k : Nat) (T : Nat → Tx) (Y : Nat → Value) (v : Value) (x : World) : Prop where
  below : Below w.heap.size w x
  arg : Blk6 x w.heap.size (.int .i64 nw) (.int .i64 nx) (.int .i64 bd) vr vs vt
  res : Blk6 x (w.heap.size + 1) (.int .i64 0) (.int .i64 0) (.int .i64 0) (.slice none 0 0) (.slice none 0 0) (.slice none 0 0)
  out : Blk6 x z (.int .i64 nw) (.int .i64 nx) (.int .i64 bd) xr vS v
  kept : y0.heap.size ≤ x.heap.size ∧ ∀ q, lo ≤ q → q < y0.heap.size → x.heap[q]? = y0.heap[q]?
  hz : (w.heap.size + 1 < z ∧ z < B2 ∧ B2 ≤ x.heap.size) ∧ (z < lo ∨ y0.heap.size ≤ z) ∧ (w.heap.size + 1 < lo ∧ y0.heap.size ≤ B2)
  txs : WrkT x B2 k T Y v
theorem CpyE.later {w : World} {nw nx bd : Int} {vr vs vt : Value} {z lo : Nat} {y0 : World} {xr vS : Value} {B2 k : Nat} {T : Nat → Tx} {Y : Nat → Value} {v : Value} {x x' : World} (h : CpyE w nw nx bd vr vs vt z lo y0 xr vS B2 k T Y v x) (hb : Below x.heap.size x x') : CpyE w nw nx bd vr vs vt z lo y0 xr vS B2 k T Y v x' :=
  ⟨h.below.trans (hb.mono h.below.size), h.arg.later hb, h.res.later hb, h.out.later hb, ⟨Nat.le_trans h.kept.1 hb.size, fun q h1 h2 => (hb.block q (Nat.lt_of_lt_of_le h2 h.kept.1)).trans (h.kept.2 q h1 h2)⟩, ⟨⟨h.hz.1.1, h.hz.1.2.1, Nat.le_trans h.hz.1.2.2 hb.size⟩, h.hz.2⟩, h.txs.later hb⟩
/-- One more transaction: the row grew, and its box tells so. -/
theorem CpyE.put {w : World} {nw nx bd : Int} {vr vs vt : Value} {z lo : Nat} {y0 : World} {xr vS : Value} {B2 k : Nat} {T : Nat → Tx} {Y Y' : Nat → Value} {v v' : Value} {x x' : World} (h : CpyE w nw nx bd vr vs vt z lo y0 xr vS B2 k T Y v x) (hg : x.grownBy x' v.ownBlock) (ht : WrkT x' B2 (k + 1) T Y' v') : CpyE w nw nx bd vr vs vt z lo y0 xr vS B2 (k + 1) T Y' v' (x'.setCell ⟨z, 5, none⟩ v') := by
  have hv : ∀ q, v.ownBlock = some q → B2 ≤ q := fun q hq => (h.txs.own.lt q hq).1
  have hz := h.hz
  have hs : (x'.setCell ⟨z, 5, none⟩ v').heap.size = x'.heap.size := by simp [World.setCell]
  have hk : ∀ q, q < x.heap.size → q < B2 → q ≠ z → (x'.setCell ⟨z, 5, none⟩ v').heap[q]? = x.heap[q]? := fun q h1 h2 h3 => (Below.heap_setCell x' ⟨z, 5, none⟩ v' q h3).trans (hg.block q h1 (fun e => by have := hv q e.symm; omega))
  refine ⟨?_, h.arg.kept (hk _ h.arg.lt (by omega) (by omega)), h.res.kept (hk _ h.res.lt (by omega) (by omega)), (h.out.kept (hg.block z h.out.lt (fun e => by have := hv z e.symm; omega))).put5 v', ⟨by rw [hs]; exact Nat.le_trans h.kept.1 hg.size, fun q h1 h2 => (hk q (Nat.lt_of_lt_of_le h2 h.kept.1) (by omega) (by omega)).trans (h.kept.2 q h1 h2)⟩, ⟨⟨hz.1.1, hz.1.2.1, by rw [hs]; exact Nat.le_trans hz.1.2.2 hg.size⟩, hz.2⟩, ht.far (by show z < B2; omega) _⟩
  exact (h.below.grown hg (by have := h.below.size; omega) (fun q e => by have := hv q e; omega)).setCell (by show w.heap.size ≤ z; omega) _
/-- What stands while a transaction is read. -/
def CpyS (w : World) (gx q : Nat) (vt : Value) (t : Tx) (y : Value) (X : World) : Prop :=
  X.cell? ⟨w.heap.size, 5, none⟩ = some vt ∧ (X.cell? ⟨gx, q, none⟩ = some (.int .i64 t.s) ∧ X.cell? ⟨gx, q + 1, none⟩ = some (.int .i64 t.c) ∧ X.cell? ⟨gx, q + 2, none⟩ = some (.int .i64 t.u) ∧ X.cell? ⟨gx, q + 3, none⟩ = some (.int .i64 t.st) ∧ X.cell? ⟨gx, q + 4, none⟩ = some (.int .i64 t.a) ∧ X.cell? ⟨gx, q + 5, none⟩ = some y)
theorem CpyS.kept {w : World} {gx q : Nat} {vt : Value} {t : Tx} {y : Value} {X X' : World} (h : CpyS w gx q vt t y X) (h1 : X'.heap[w.heap.size]? = X.heap[w.heap.size]?) (h2 : X'.heap[gx]? = X.heap[gx]?) : CpyS w gx q vt t y X' :=
  ⟨(World.cell?_of_block (w := X) (a := ⟨w.heap.size, 5, none⟩) h1).trans h.1, (World.cell?_of_block (w := X) (a := ⟨gx, q, none⟩) h2).trans h.2.1, (World.cell?_of_block (w := X) (a := ⟨gx, q + 1, none⟩) h2).trans h.2.2.1, (World.cell?_of_block (w := X) (a := ⟨gx, q + 2, none⟩) h2).trans h.2.2.2.1, (World.cell?_of_block (w := X) (a := ⟨gx, q + 3, none⟩) h2).trans h.2.2.2.2.1, (World.cell?_of_block (w := X) (a := ⟨gx, q + 4, none⟩) h2).trans h.2.2.2.2.2.1, (World.cell?_of_block (w := X) (a := ⟨gx, q + 5, none⟩) h2).trans h.2.2.2.2.2.2⟩
theorem CpyS.later {w : World} {gx q : Nat} {vt : Value} {t : Tx} {y : Value} {X X' : World} (h : CpyS w gx q vt t y X) (hb : Below X.heap.size X X') : CpyS w gx q vt t y X' := h.kept (hb.block _ (lt_cell h.1)) (hb.block _ (lt_cell h.2.1))
set_option maxRecDepth 100000 in
set_option maxHeartbeats 8000000 in
theorem l10Copy_own (nw nx bd : Int) (nr : Nat) (F : Nat → Int) (n : Nat) (S : Nat → Sto) (V : Nat → Nat → Value) (vr vs : Value) (nt : Nat) (T : Nat → Tx) (X : Nat → Value) (vt : Value) (B : Nat) (w : World) (h : Grs w B nr F n S V vr vs) (hx : Txs w B nt T X vt) (hr : 0 < nr ∧ nr ≤ 12) (hn : n ≤ 12) (hs : ∀ i, i < n → (S i).nc ≤ 1048576 ∧ (S i).nl ≤ 1048576 ∧ (S i).nw ≤ 1048576) (hnt : nt ≤ 16) (hit : ∀ i, i < nt → 1 ≤ (T i).m ∧ (T i).m ≤ 12) :
    Calls Tryz.prog 28 #[.agg #[.int .i64 nw, .int .i64 nx, .int .i64 bd, vr, vs, vt]] w fun e w' => ∃ xr vS U Y v, e = .returned (.agg #[.int .i64 nw, .int .i64 nx, .int .i64 bd, xr, vS, v]) ∧ (∃ B2, (w.heap.size ≤ B2 ∧ B2 ≤ w'.heap.size) ∧ WrkT w' B2 nt T Y v ∧ ∀ x : World, w'.heap.size ≤ x.heap.size → (∀ q, w.heap.size ≤ q → q < B2 → x.heap[q]? = w'.heap[q]?) → Grs x w.heap.size nr F n S U xr vS) ∧ Below w.heap.size w w' := by
  obtain ⟨a0, c0, a1, c1, rfl, rfl⟩ := h.form
  obtain ⟨a2, c2, rfl⟩ := hx.form
  have HG : Hid (Grs w B nr F n S V (.slice a0 nr c0) (.slice a1 n c1) ∧ Txs w 0 nt T X (.slice a2 nt c2)) := ⟨h, hx.mono (Nat.zero_le _)⟩
  have HH : Hid ((0 < nr ∧ nr ≤ 12) ∧ (∀ i, i < n → (S i).nc ≤ 1048576 ∧ (S i).nl ≤ 1048576 ∧ (S i).nw ≤ 1048576) ∧ ∀ i, i < nt → 1 ≤ (T i).m ∧ (T i).m ≤ 12) := ⟨hr, hs, hit⟩
  have HR0 : Hid (Blk6 ((w.alloc (.cells #[.int .i64 nw, .int .i64 nx, .int .i64 bd, .slice a0 nr c0, .slice a1 n c1, .slice a2 nt c2] 39)).alloc (.cells #[.int .i64 0, .int .i64 0, .int .i64 0, .slice none 0 0, .slice none 0 0, .slice none 0 0] 39)).drew (w.heap.size + 1) (.int .i64 0) (.int .i64 0) (.int .i64 0) (.slice none 0 0) (.slice none 0 0) (.slice none 0 0)) := by have := Blk6.new (w.alloc (.cells #[.int .i64 nw, .int .i64 nx, .int .i64 bd, .slice a0 nr c0, .slice a1 n c1, .slice a2 nt c2] 39)) (.int .i64 0) (.int .i64 0) (.int .i64 0) (.slice none 0 0) (.slice none 0 0) (.slice none 0 0) 39; exact Blk6.later (by simpa using this) (Below.refl _ _).drew
  have hS0 : (fun X : World => Blk6 X w.heap.size (.int .i64 nw) (.int .i64 nx) (.int .i64 bd) (.slice a0 nr c0) (.slice a1 n c1) (.slice a2 nt c2) ∧ Below w.heap.size w X) ((w.alloc (.cells #[.int .i64 nw, .int .i64 nx, .int .i64 bd, .slice a0 nr c0, .slice a1 n c1, .slice a2 nt c2] 39)).alloc (.cells #[.int .i64 0, .int .i64 0, .int .i64 0, .slice none 0 0, .slice none 0 0, .slice none 0 0] 39)).drew := ⟨((Blk6.new w _ _ _ _ _ _ _).alloc _).later (Below.refl _ _).drew, ((below_alloc w _).alloc (by simp) _).drew⟩
  clear h hx hr hs hit
  go_enter Tryz.func28, Tryz.ntmps28
  go_upto_region 1 with fail
  go_cut [3] (fun p wx => ∃ (z lo : Nat) (y0 : World) (xr vS : Value) (U : Nat → Nat → Value) (B2 : Nat), p = .pointer (some ⟨z, 0, none⟩) ∧ Hid (Grs y0 lo nr F n S U xr vS ∧ CpyE w nw nx bd (.slice a0 nr c0) (.slice a1 n c1) (.slice a2 nt c2) z lo y0 xr vS B2 0 T (fun _ => .bool true) (.slice none 0 0) wx))
  case first =>
    refine wp_region_held_drew (S := fun X : World => Blk6 X w.heap.size (.int .i64 nw) (.int .i64 nx) (.int .i64 bd) (.slice a0 nr c0) (.slice a1 n c1) (.slice a2 nt c2) ∧ Below w.heap.size w X) (by kernel_rfl) hS0 (fun hS => ?_)
    generalize ((w.alloc (.cells #[.int .i64 nw, .int .i64 nx, .int .i64 bd, .slice a0 nr c0, .slice a1 n c1, .slice a2 nt c2] 39)).alloc (.cells #[.int .i64 0, .int .i64 0, .int .i64 0, .slice none 0 0, .slice none 0 0, .slice none 0 0] 39)).drew = wa at hS HR0 ⊢
    clear hS0
    have hl1 : w.heap.size + 1 < wa.heap.size := HR0.out.lt
    refine tkH 0 ?_ hS (fun wx hx => ?_) ?_; rotate_left
    · obtain ⟨⟨hx0, hx1, hx2, hx3, hx4, hx5⟩, _⟩ := hx.1; go_simp; try with_reducible rfl
    refine tkH 1 ?_ hS (fun wx hx => ?_) ?_; rotate_left
    · obtain ⟨⟨hx0, hx1, hx2, hx3, hx4, hx5⟩, _⟩ := hx.1; go_simp; try with_reducible rfl
    refine tkH 2 ?_ hS (fun wx hx => ?_) ?_; rotate_left
    · obtain ⟨⟨hx0, hx1, hx2, hx3, hx4, hx5⟩, _⟩ := hx.1; go_simp; try with_reducible rfl
    try simp only [Act.put, List.getElem_toArray, List.getElem_cons_zero, List.getElem_cons_succ, List.setIfInBounds_toArray, List.set_cons_succ, List.set_cons_zero]
    refine tkH 3 ?_ hS (fun wx hx => ?_) ?_; rotate_left
    · obtain ⟨⟨hx0, hx1, hx2, hx3, hx4, hx5⟩, _⟩ := hx.1; go_simp; try with_reducible rfl
    refine tkH 4 ?_ hS (fun wx hx => ?_) ?_; rotate_left
    · obtain ⟨⟨hx0, hx1, hx2, hx3, hx4, hx5⟩, _⟩ := hx.1; go_simp; try with_reducible rfl
    refine tkH 5 ?_ hS (fun wx hx => ?_) ?_; rotate_left
    · obtain ⟨⟨hx0, hx1, hx2, hx3, hx4, hx5⟩, _⟩ := hx.1; go_simp; try with_reducible rfl
    try simp only [Act.put, List.getElem_toArray, List.getElem_cons_zero, List.getElem_cons_succ, List.setIfInBounds_toArray, List.set_cons_succ, List.set_cons_zero]
    refine wpAnyH_ready (rs := [6, 8]) (by kernel_rfl) (by simp) ?_
    refine AllReadyH.cons rfl (fun K hK => ?_) (AllReadyH.cons rfl (fun K hK => ?_) AllReadyH.nil)
    · go_simp
      go_wp2_with fail
      refine (l7Copy_is nr F n S V _ _ B _ (HG.out.1.later hS.2) HH.out.1 hn HH.out.2.1).mono ?_
      rintro e w1 ⟨xr, vS, U, rfl, ⟨hR, hV, hSt, _⟩, q1⟩
      obtain ⟨xa, xc, rfl⟩ := hR.form
      obtain ⟨sa, sc, rfl⟩ := (hV.stos hSt).form
      have HGG : Hid (Grs w1 wa.heap.size nr F n S U (.slice xa nr xc) (.slice sa n sc)) := ⟨hR, hV.stos hSt⟩
      have HR1 : Hid (Blk6 w1 (w.heap.size + 1) (.int .i64 0) (.int .i64 0) (.int .i64 0) (.slice none 0 0) (.slice none 0 0) (.slice none 0 0) ∧ wa.heap.size ≤ w1.heap.size) := ⟨HR0.out.later q1, q1.size⟩
      have hS1 : Blk6 w1 w.heap.size (.int .i64 nw) (.int .i64 nx) (.int .i64 bd) (.slice a0 nr c0) (.slice a1 n c1) (.slice a2 nt c2) ∧ Below w.heap.size w w1 := ⟨hS.1.later q1, hS.2.trans (q1.mono hS.2.size)⟩
      have HA1 : Hid (Blk6 w1 w.heap.size (.int .i64 nw) (.int .i64 nx) (.int .i64 bd) (.slice a0 nr c0) (.slice a1 n c1) (.slice a2 nt c2) ∧ Below w.heap.size w w1) := hS1
      clear hR hV hSt q1
      go_wp2_with fail
      refine hK.out _ _ hS1 (fun hS => ?_)
      clear hK K hS1
      refine tkH 7 ?_ hS (fun wx hx => ?_) ?_; rotate_left
      · obtain ⟨⟨hx0, hx1, hx2, hx3, hx4, hx5⟩, _⟩ := hx.1; go_simp; try with_reducible rfl
      try simp only [Act.put, List.getElem_toArray, List.getElem_cons_zero, List.getElem_cons_succ, List.setIfInBounds_toArray, List.set_cons_succ, List.set_cons_zero]
      refine rdH 8 (fun K hK => ?_)
      go_simp
      refine hK.out _ _ ⟨hS.1.alloc _, hS.2.alloc hS.2.size _⟩ (fun hS => ?_)
      clear hK K
      refine rdH 9 (fun K hK => ?_)
      go_simp
      refine hK.out _ _ ⟨HA1.out.1.alloc _, HA1.out.2.alloc HA1.out.2.size _⟩ (fun hS => ?_)
      clear hK K hS
      refine wpAnyH_done (by kernel_rfl) ?_ _
      go_simp
      go_step
      go_meet
      case rel =>
        refine ⟨w1.heap.size, wa.heap.size, w1, _, _, U, w1.heap.size + 1, rfl, HGG.out, HA1.out.2.alloc HA1.out.2.size _, HA1.out.1.alloc _, HR1.out.1.alloc _, Blk6.new w1 _ _ _ _ _ _ _, ⟨by simp, fun q _ hq => (below_alloc w1 _).block q hq⟩, ⟨⟨by have := HR1.out.2; omega, Nat.lt_succ_self _, by simp⟩, Or.inr (Nat.le_refl _), hl1, Nat.le_succ _⟩, ⟨World.ownsRow_nil _ _ _ _, fun i hi => absurd hi (Nat.not_lt_zero i), fun i hi => absurd hi (Nat.not_lt_zero i), fun i _ hi => absurd hi (Nat.not_lt_zero i)⟩⟩
    · go_simp
      have HKZ : Hid (Blk6 (wa.alloc (.cells #[.int .i64 0, .int .i64 0, .int .i64 0, .slice none 0 0, .slice none 0 0, .slice none 0 0] 39)) wa.heap.size (.int .i64 0) (.int .i64 0) (.int .i64 0) (.slice none 0 0) (.slice none 0 0) (.slice none 0 0)) := Blk6.new wa _ _ _ _ _ _ _
      refine hK.out _ _ ⟨hS.1.alloc _, hS.2.alloc hS.2.size _⟩ (fun hS => ?_)
      clear hK K
      refine rdH 6 (fun K hK => ?_)
      go_simp
      go_wp2_with fail
      refine (l7Copy_is nr F n S V _ _ B _ (HG.out.1.later hS.2) HH.out.1 hn HH.out.2.1).mono ?_
      rintro e w1 ⟨xr, vS, U, rfl, ⟨hR, hV, hSt, _⟩, q1⟩
      obtain ⟨xa, xc, rfl⟩ := hR.form
      obtain ⟨sa, sc, rfl⟩ := (hV.stos hSt).form
      rw [World.size_alloc] at hR hV hSt
      have HGG : Hid (Grs w1 (wa.heap.size + 1) nr F n S U (.slice xa nr xc) (.slice sa n sc)) := ⟨hR, hV.stos hSt⟩
      have HR1 : Hid (Blk6 w1 (w.heap.size + 1) (.int .i64 0) (.int .i64 0) (.int .i64 0) (.slice none 0 0) (.slice none 0 0) (.slice none 0 0) ∧ wa.heap.size + 1 ≤ w1.heap.size ∧ Blk6 w1 wa.heap.size (.int .i64 0) (.int .i64 0) (.int .i64 0) (.slice none 0 0) (.slice none 0 0) (.slice none 0 0)) := ⟨(HR0.out.alloc _).later q1, by have := q1.size; rw [World.size_alloc] at this; exact this, HKZ.out.later q1⟩
      have hS1 : Blk6 w1 w.heap.size (.int .i64 nw) (.int .i64 nx) (.int .i64 bd) (.slice a0 nr c0) (.slice a1 n c1) (.slice a2 nt c2) ∧ Below w.heap.size w w1 := ⟨hS.1.later q1, hS.2.trans (q1.mono hS.2.size)⟩
      have HA1 : Hid (Blk6 w1 w.heap.size (.int .i64 nw) (.int .i64 nx) (.int .i64 bd) (.slice a0 nr c0) (.slice a1 n c1) (.slice a2 nt c2) ∧ Below w.heap.size w w1) := hS1
      clear hR hV hSt q1
      go_wp2_with fail
      refine hK.out _ _ hS1 (fun hS => ?_)
      clear hK K hS1 HKZ
      refine tkH 7 ?_ hS (fun wx hx => ?_) ?_; rotate_left
      · obtain ⟨⟨hx0, hx1, hx2, hx3, hx4, hx5⟩, _⟩ := hx.1; go_simp; try with_reducible rfl
      try simp only [Act.put, List.getElem_toArray, List.getElem_cons_zero, List.getElem_cons_succ, List.setIfInBounds_toArray, List.set_cons_succ, List.set_cons_zero]
      refine rdH 9 (fun K hK => ?_)
      obtain ⟨⟨y0, y1, y2, y3, y4, y5⟩, v0, v1, v2, v3, v4, v5⟩ := HR1.out.2.2
      go_simp
      have hne0 : w.heap.size ≠ wa.heap.size := by omega
      have hne1 : w.heap.size + 1 ≠ wa.heap.size := by omega
      have hle7 : w.heap.size ≤ wa.heap.size := by omega
      have W6 := withinP_set6 w1 wa.heap.size (.int .i64 nw) (.int .i64 nx) (.int .i64 bd) (.slice xa nr xc) (.slice sa n sc) (.slice none 0 0)
      have HW6 : Hid _ := W6
      have HOUT : Hid _ := Blk6.putAll HR1.out.2.2 (.int .i64 nw) (.int .i64 nx) (.int .i64 bd) (.slice xa nr xc) (.slice sa n sc) (.slice none 0 0)
      have HARG := HA1.out.1.kept (W6.block w.heap.size HA1.out.1.lt (Or.inl (by omega)))
      have HRES := HR1.out.1.kept (W6.block (w.heap.size + 1) HR1.out.1.lt (Or.inl (by omega)))
      have HBEL : Below w.heap.size w ((((((w1.setCell ⟨wa.heap.size, 0, none⟩ (.int .i64 nw)).setCell ⟨wa.heap.size, 1, none⟩ (.int .i64 nx)).setCell ⟨wa.heap.size, 2, none⟩ (.int .i64 bd)).setCell ⟨wa.heap.size, 3, none⟩ (.slice xa nr xc)).setCell ⟨wa.heap.size, 4, none⟩ (.slice sa n sc)).setCell ⟨wa.heap.size, 5, none⟩ (.slice none 0 0)) := (((((HA1.out.2.setCell hle7 _).setCell hle7 _).setCell hle7 _).setCell hle7 _).setCell hle7 _).setCell hle7 _
      refine hK.out _ _ ⟨HARG, HBEL⟩ (fun hS => ?_)
      clear hK K hS y0 y1 y2 y3 y4 y5 v0 v1 v2 v3 v4 v5
      refine wpAnyH_done (by kernel_rfl) ?_ _
      go_simp
      go_step
      go_meet
      case rel =>
        refine ⟨wa.heap.size, wa.heap.size + 1, w1, _, _, U, w1.heap.size, rfl, HGG.out, HBEL, HARG, HRES, HOUT.out, ⟨HW6.out.size, fun q h1 h2 => HW6.out.block q h2 (Or.inr h1)⟩, ⟨⟨hl1, by have := HR1.out.2.1; omega, HW6.out.size⟩, Or.inl (Nat.lt_succ_self _), by omega, Nat.le_refl _⟩, ⟨World.ownsRow_nil _ _ _ _, fun i hi => absurd hi (Nat.not_lt_zero i), fun i hi => absurd hi (Nat.not_lt_zero i), fun i _ hi => absurd hi (Nat.not_lt_zero i)⟩⟩
  case rest =>
    clear hS0 HR0
    obtain ⟨z, lo, y0, xr, vS, U, B2, rfl, HX0⟩ := hcut
    obtain ⟨hgy, he0⟩ := HX0.out
    obtain ⟨xa, xc, sa, sc, rfl, rfl⟩ := hgy.form
    have HGY : Hid (Grs y0 lo nr F n S U (.slice xa nr xc) (.slice sa n sc)) := hgy
    have HE0 := hid_mkW he0
    clear HX0 hgy he0
    obtain ⟨i1, hi1, jz0, jz1, jz2⟩ := info_parts infoz_TxnW
    go_wp2
    go_loopw [4] (fun i wr => ∃ (k : Nat) (Y : Nat → Value) (v : Value), k ≤ nt ∧ i = .int .i64 k ∧ Hid (CpyE w nw nx bd (.slice a0 nr c0) (.slice a1 n c1) (.slice a2 nt c2) z lo y0 (.slice xa nr xc) (.slice sa n sc) B2 k T Y v wr)) (fun i _ => nt - (intOf i).toNat)
    case atStart => exact ⟨0, _, _, Nat.zero_le _, rfl, HE0⟩
    case round =>
      clear HE0
      obtain ⟨k, Y, v, hk, rfl, HE⟩ := hrel
      have vform : ∃ va vc, v = .slice va k vc := by
        rcases HE.out.txs.own.2 with ⟨e, e0⟩ | ⟨g', cap', cur', e, _⟩
        · exact ⟨none, 0, by rw [e, e0]⟩
        · exact ⟨_, _, e⟩
      obtain ⟨va, vc, rfl⟩ := vform
      obtain ⟨⟨p0, p1, p2, p3, p4, p5⟩, _⟩ := HE.out.arg
      by_cases hlt : k < nt
      case neg =>
        obtain rfl : k = nt := by omega
        obtain ⟨⟨o0, o1, o2, o3, o4, o5⟩, _⟩ := HE.out.out
        obtain ⟨⟨r0, r1, r2, r3, r4, r5⟩, f0, f1, f2, f3, f4, f5⟩ := HE.out.res
        have HP : Hid _ := Blk6.putAll HE.out.res (.int .i64 nw) (.int .i64 nx) (.int .i64 bd) (.slice xa nr xc) (.slice sa n sc) (.slice va k vc)
        have HQ : Hid _ := withinP_set6 wr (w.heap.size + 1) (.int .i64 nw) (.int .i64 nx) (.int .i64 bd) (.slice xa nr xc) (.slice sa n sc) (.slice va k vc)
        have hlo : w.heap.size + 1 < lo := HE.out.hz.2.2.1
        have hB2 : w.heap.size + 1 < B2 := by have := HE.out.hz.1; omega
        go_wp2
        obtain ⟨⟨q0, q1, q2, q3, q4, q5⟩, _⟩ := HP.out
        have hle1 : w.heap.size ≤ w.heap.size + 1 := Nat.le_succ _
        refine bodyPost_ret (v := .agg #[.int .i64 nw, .int .i64 nx, .int .i64 bd, .slice xa nr xc, .slice sa n sc, .slice va k vc]) (by simp [results, Tryz.results28, go_sem, q0, q1, q2, q3, q4, q5]) rfl ⟨_, _, U, Y, _, rfl, ?_, ?_⟩
        · exact ⟨B2, ⟨by omega, Nat.le_trans HE.out.hz.1.2.2 HQ.out.size⟩, ((((((HE.out.txs.far (a := ⟨w.heap.size + 1, 0, none⟩) hB2 _).far (a := ⟨w.heap.size + 1, 1, none⟩) hB2 _).far (a := ⟨w.heap.size + 1, 2, none⟩) hB2 _).far (a := ⟨w.heap.size + 1, 3, none⟩) hB2 _).far (a := ⟨w.heap.size + 1, 4, none⟩) hB2 _).far (a := ⟨w.heap.size + 1, 5, none⟩) hB2 _), fun x hx hq => ((HGY.out.above (w' := x) (Nat.le_trans HE.out.kept.1 (Nat.le_trans HQ.out.size hx)) (fun q h1 h2 => (hq q (by omega) (Nat.lt_of_lt_of_le h2 HE.out.hz.2.2.2)).trans ((HQ.out.block q (Nat.lt_of_lt_of_le h2 HE.out.kept.1) (Or.inr (by omega))).trans (HE.out.kept.2 q h1 h2)))).mono (by omega))⟩
        · exact (((((HE.out.below.setCell hle1 _).setCell hle1 _).setCell hle1 _).setCell hle1 _).setCell hle1 _).setCell hle1 _
      have hm12 := HH.out.2.2 k hlt
      obtain ⟨gx, ox, hax, _, hgx, hxs, hrow, _⟩ := HG.out.2.at hlt
      subst hax
      obtain ⟨t, ht⟩ : ∃ t, T k = t := ⟨_, rfl⟩
      have HT : Hid (T k = t) := ht
      rw [ht] at hxs hrow hm12
      obtain ⟨y, hy⟩ : ∃ y, X k = y := ⟨_, rfl⟩
      rw [hy] at hxs hrow
      clear ht hy
      obtain ⟨yo, yc, rfl⟩ := hrow.form
      have HRX : Hid (Row wr.drew 0 3 t.m t.L (.slice yo t.m yc)) := (hrow.later HE.out.below).later (Below.refl _ _).drew
      have HEA : Hid (CpyE w nw nx bd (.slice a0 nr c0) (.slice a1 n c1) (.slice (some ⟨gx, ox, none⟩) nt c2) z lo y0 (.slice xa nr xc) (.slice sa n sc) B2 k T Y (.slice va k vc) wr.drew) := HE.out.later (Below.refl _ _).drew
      have hb0 : CpyS w gx (ox + k * 6) (.slice (some ⟨gx, ox, none⟩) nt c2) t (.slice yo t.m yc) wr := ⟨p5, (HE.out.below.cell (p := ⟨gx, ox + k * 6, none⟩) hgx).trans hxs.1, (HE.out.below.cell (p := ⟨gx, ox + k * 6 + 1, none⟩) hgx).trans hxs.2.1, (HE.out.below.cell (p := ⟨gx, ox + k * 6 + 2, none⟩) hgx).trans hxs.2.2.1, (HE.out.below.cell (p := ⟨gx, ox + k * 6 + 3, none⟩) hgx).trans hxs.2.2.2.1, (HE.out.below.cell (p := ⟨gx, ox + k * 6 + 4, none⟩) hgx).trans hxs.2.2.2.2.1, (HE.out.below.cell (p := ⟨gx, ox + k * 6 + 5, none⟩) hgx).trans hxs.2.2.2.2.2⟩
      have hS0 : CpyS w gx (ox + k * 6) (.slice (some ⟨gx, ox, none⟩) nt c2) t (.slice yo t.m yc) wr.drew := hb0.later (Below.refl _ _).drew
      clear hrow hxs HE hb0
      go_wp2_with fail
      refine wp_region_held_drew (S := CpyS w gx (ox + k * 6) (.slice (some ⟨gx, ox, none⟩) nt c2) t (.slice yo t.m yc)) (by kernel_rfl) hS0 (fun hS => ?_)
      generalize wr.drew = wa at hS HRX HEA ⊢
      clear hS0 p0 p1 p2 p3 p4 p5
      refine tkH 0 ?_ hS (fun wx hx => ?_) ?_; rotate_left
      · obtain ⟨hx5, hy0, hy1, hy2, hy3, hy4, hy5⟩ := hx; go_simp; try with_reducible rfl
      refine tkH 2 ?_ hS (fun wx hx => ?_) ?_; rotate_left
      · obtain ⟨hx5, hy0, hy1, hy2, hy3, hy4, hy5⟩ := hx; go_simp; try with_reducible rfl
      refine tkH 3 ?_ hS (fun wx hx => ?_) ?_; rotate_left
      · obtain ⟨hx5, hy0, hy1, hy2, hy3, hy4, hy5⟩ := hx; go_simp; try with_reducible rfl
      try simp only [Act.put, List.getElem_toArray, List.getElem_cons_zero, List.getElem_cons_succ, List.setIfInBounds_toArray, List.set_cons_succ, List.set_cons_zero]
      refine tkH 4 ?_ hS (fun wx hx => ?_) ?_; rotate_left
      · obtain ⟨hx5, hy0, hy1, hy2, hy3, hy4, hy5⟩ := hx; go_simp; try with_reducible rfl
      refine tkH 5 ?_ hS (fun wx hx => ?_) ?_; rotate_left
      · obtain ⟨hx5, hy0, hy1, hy2, hy3, hy4, hy5⟩ := hx; go_simp; try with_reducible rfl
      refine tkH 6 ?_ hS (fun wx hx => ?_) ?_; rotate_left
      · obtain ⟨hx5, hy0, hy1, hy2, hy3, hy4, hy5⟩ := hx; go_simp; try with_reducible rfl
      try simp only [Act.put, List.getElem_toArray, List.getElem_cons_zero, List.getElem_cons_succ, List.setIfInBounds_toArray, List.set_cons_succ, List.set_cons_zero]
      refine wpAnyH_ready (rs := [1, 7]) (by kernel_rfl) (by simp) ?_
      refine AllReadyH.cons rfl (fun K hK => ?_) (AllReadyH.cons rfl (fun K hK => ?_) AllReadyH.nil)
      focus
        have o4 : wa.cell? ⟨z, 5, none⟩ = some (.slice va k vc) := HEA.out.out.1.2.2.2.2.2
        go_simp
        refine hK.out _ _ hS (fun hS => ?_)
        clear hK K
        clear o4
        try simp only [Act.put, List.getElem_toArray, List.getElem_cons_zero, List.getElem_cons_succ, List.setIfInBounds_toArray, List.set_cons_succ, List.set_cons_zero]
        refine rdH 7 (fun K hK => ?_)
        go_simp
        go_wp2_with fail
        refine (l8Copy_is t.s t.c t.u t.st t.a t.m t.L _ 0 _ HRX.out hm12.2).mono ?_
        rintro e w1 ⟨ao2, cp2, rfl, ⟨hy, hyf⟩, hcy, q1⟩
        have hS1 := hS.later q1
        have HEX : Hid (CpyE w nw nx bd (.slice a0 nr c0) (.slice a1 n c1) (.slice (some ⟨gx, ox, none⟩) nt c2) z lo y0 (.slice xa nr xc) (.slice sa n sc) B2 k T Y (.slice va k vc) (w1.alloc (.cells #[.int .i64 t.s, .int .i64 t.c, .int .i64 t.u, .int .i64 t.st, .int .i64 t.a, .slice ao2 t.m cp2] 69))) := (HEA.out.later q1).later (below_alloc _ _)
        have o5 : w1.cell? ⟨z, 5, none⟩ = some (.slice va k vc) := (HEA.out.later q1).out.1.2.2.2.2.2
        have hB2 : B2 ≤ wa.heap.size := HEA.out.hz.1.2.2
        have hyo : ∀ q, (Value.slice ao2 t.m cp2).ownBlock = some q → wa.heap.size ≤ q ∧ q < w1.heap.size := fun q hq => hy.lt (by omega) q hq
        have hYl : ∀ i, i < k → 0 < (T i).m → ∀ q, (Y i).ownBlock = some q → q < wa.heap.size := fun i hi h0 q hq => ((HEA.out.txs.items i hi).2.2 h0 q hq).2
        have hvl : ∀ q, (Value.slice va k vc).ownBlock = some q → B2 ≤ q ∧ q < wa.heap.size := fun q hq => HEA.out.txs.own.lt q hq
        obtain ⟨g4, cap4, w4, hrun, hown4, hg4, hor, hlt4⟩ := run_append_lies (P := Tryz.prog) (w1.alloc (.cells #[.int .i64 t.s, .int .i64 t.c, .int .i64 t.u, .int .i64 t.st, .int .i64 t.a, .slice ao2 t.m cp2] 69)) 37 37 B2 69 i1 (.agg #[.int .i64 0, .int .i64 0, .int .i64 0, .int .i64 0, .int .i64 0, .slice none 0 0]) 6 64 Tryz.underlying37 hi1 jz0 jz1 jz2 rfl (by omega) (.slice va k vc) k (tvals T Y k) HEX.out.txs.own ⟨w1.heap.size, 0, none⟩ 1 1 [.int .i64 t.s, .int .i64 t.c, .int .i64 t.u, .int .i64 t.st, .int .i64 t.a, .slice ao2 t.m cp2] rfl (fun j u hj => by rw [Addr.add_lit, Nat.zero_add, World.cell?_alloc_at (w := w1) _ _ w1.heap.size j rfl]; simpa using hj) (by intro u hu; simp only [List.mem_cons, List.not_mem_nil, or_false] at hu; rcases hu with rfl | rfl | rfl | rfl | rfl | rfl <;> rfl) (by omega) (by unfold maxLen; omega) (by omega) (by have := HEX.out.hz.1.2.2; exact this) (w1.heap.size + 1) (by simp)
        have HRUN : Hid (∀ ty, (Builtin.append_ #[37, 37] ty #[.slice va k vc, .slice (some ⟨w1.heap.size, 0, none⟩) 1 1]).run Tryz.prog (w1.alloc (.cells #[.int .i64 t.s, .int .i64 t.c, .int .i64 t.u, .int .i64 t.st, .int .i64 t.a, .slice ao2 t.m cp2] 69)) = .ok (.slice (some ⟨g4, 0, none⟩) (k + 1) cap4) w4) := fun ty => hrun
        have HW4 : Hid (WrkT w4 B2 (k + 1) T (fun i => if i = k then .slice ao2 t.m cp2 else Y i) (.slice (some ⟨g4, 0, none⟩) (k + 1) cap4)) := by
          refine HEX.out.txs.put ⟨by rw [HT.out]; exact (hy.mono hB2).later (below_alloc _ _), hcy⟩ (fun _ q hq => ⟨fun e => by have := hvl q e; have := hyo q hq; omega, by have := (hyo q hq).2; simp; omega⟩) (by rw [HT.out]; exact hyf.ofRow hy (below_alloc _ _)) (fun i hi h0 _ q hq e => by have := hYl i hi h0 q hq; have := (hyo q e).1; omega) (by rw [HT.out]; exact hown4) hg4 (fun q hq => ?_)
          have e : g4 = q := by simpa [Value.ownBlock] using hq
          rcases hor with e1 | e1
          · exact Or.inl (by rw [e1, e])
          · exact Or.inr (by rw [← e, e1]; simp)
        have HPUT : Hid (CpyE w nw nx bd (.slice a0 nr c0) (.slice a1 n c1) (.slice (some ⟨gx, ox, none⟩) nt c2) z lo y0 (.slice xa nr xc) (.slice sa n sc) B2 (k + 1) T (fun i => if i = k then .slice ao2 t.m cp2 else Y i) (.slice (some ⟨g4, 0, none⟩) (k + 1) cap4) (w4.setCell ⟨z, 5, none⟩ (.slice (some ⟨g4, 0, none⟩) (k + 1) cap4))) := HEX.out.put hg4 HW4.out
        have HOZ : Hid (Blk6 w4 z (.int .i64 nw) (.int .i64 nx) (.int .i64 bd) (.slice xa nr xc) (.slice sa n sc) (.slice va k vc)) := HEX.out.out.kept (hg4.block z HEX.out.out.lt (fun e => by have := (hvl z e.symm).1; have := HEX.out.hz.1.2.1; omega))
        have hS5 : CpyS w gx (ox + k * 6) (.slice (some ⟨gx, ox, none⟩) nt c2) t (.slice yo t.m yc) (w1.alloc (.cells #[.int .i64 t.s, .int .i64 t.c, .int .i64 t.u, .int .i64 t.st, .int .i64 t.a, .slice ao2 t.m cp2] 69)) := hS1.later (below_alloc _ _)
        have HS4 : Hid (CpyS w gx (ox + k * 6) (.slice (some ⟨gx, ox, none⟩) nt c2) t (.slice yo t.m yc) w4) := hS5.kept (hg4.block _ (lt_cell hS5.1) (fun e => by have := (hvl _ e.symm).1; have := HEX.out.hz.1; omega)) (hg4.block _ (lt_cell hS5.2.1) (fun e => by have := (hvl _ e.symm).1; have := HEX.out.hz.1; omega))
        have HSF : Hid (CpyS w gx (ox + k * 6) (.slice (some ⟨gx, ox, none⟩) nt c2) t (.slice yo t.m yc) (w4.setCell ⟨z, 5, none⟩ (.slice (some ⟨g4, 0, none⟩) (k + 1) cap4))) := HS4.out.kept (Below.heap_setCell w4 ⟨z, 5, none⟩ _ _ (fun e => by have e' : w.heap.size = z := e; have := HEX.out.hz.1; omega)) (Below.heap_setCell w4 ⟨z, 5, none⟩ _ _ (fun e => by have e' : gx = z := e; have := HEX.out.hz.1; omega))
        have HS5 : Hid (CpyS w gx (ox + k * 6) (.slice (some ⟨gx, ox, none⟩) nt c2) t (.slice yo t.m yc) (w1.alloc (.cells #[.int .i64 t.s, .int .i64 t.c, .int .i64 t.u, .int .i64 t.st, .int .i64 t.a, .slice ao2 t.m cp2] 69))) := hS5
        have o6 : (w1.alloc (.cells #[.int .i64 t.s, .int .i64 t.c, .int .i64 t.u, .int .i64 t.st, .int .i64 t.a, .slice ao2 t.m cp2] 69)).cell? ⟨z, 5, none⟩ = some (.slice va k vc) := HEX.out.out.1.2.2.2.2.2
        clear hy hyf hcy q1 hyo hYl hvl hrun hown4 hg4 hor hlt4 hS5 HW4 HEX
        go_wp2_with fail
        refine hK.out _ _ hS1 (fun hS => ?_)
        clear hK K hS1
        try simp only [Act.put, List.getElem_toArray, List.getElem_cons_zero, List.getElem_cons_succ, List.setIfInBounds_toArray, List.set_cons_succ, List.set_cons_zero]
        refine rdH 8 (fun K hK => ?_)
        go_simp
        refine hK.out _ _ HS5.out (fun hS => ?_)
      rotate_left
      focus
        go_simp
        go_wp2_with fail
        refine (l8Copy_is t.s t.c t.u t.st t.a t.m t.L _ 0 _ HRX.out hm12.2).mono ?_
        rintro e w1 ⟨ao2, cp2, rfl, ⟨hy, hyf⟩, hcy, q1⟩
        have hS1 := hS.later q1
        have HEX : Hid (CpyE w nw nx bd (.slice a0 nr c0) (.slice a1 n c1) (.slice (some ⟨gx, ox, none⟩) nt c2) z lo y0 (.slice xa nr xc) (.slice sa n sc) B2 k T Y (.slice va k vc) (w1.alloc (.cells #[.int .i64 t.s, .int .i64 t.c, .int .i64 t.u, .int .i64 t.st, .int .i64 t.a, .slice ao2 t.m cp2] 69))) := (HEA.out.later q1).later (below_alloc _ _)
        have o5 : w1.cell? ⟨z, 5, none⟩ = some (.slice va k vc) := (HEA.out.later q1).out.1.2.2.2.2.2
        have hB2 : B2 ≤ wa.heap.size := HEA.out.hz.1.2.2
        have hyo : ∀ q, (Value.slice ao2 t.m cp2).ownBlock = some q → wa.heap.size ≤ q ∧ q < w1.heap.size := fun q hq => hy.lt (by omega) q hq
        have hYl : ∀ i, i < k → 0 < (T i).m → ∀ q, (Y i).ownBlock = some q → q < wa.heap.size := fun i hi h0 q hq => ((HEA.out.txs.items i hi).2.2 h0 q hq).2
        have hvl : ∀ q, (Value.slice va k vc).ownBlock = some q → B2 ≤ q ∧ q < wa.heap.size := fun q hq => HEA.out.txs.own.lt q hq
        obtain ⟨g4, cap4, w4, hrun, hown4, hg4, hor, hlt4⟩ := run_append_lies (P := Tryz.prog) (w1.alloc (.cells #[.int .i64 t.s, .int .i64 t.c, .int .i64 t.u, .int .i64 t.st, .int .i64 t.a, .slice ao2 t.m cp2] 69)) 37 37 B2 69 i1 (.agg #[.int .i64 0, .int .i64 0, .int .i64 0, .int .i64 0, .int .i64 0, .slice none 0 0]) 6 64 Tryz.underlying37 hi1 jz0 jz1 jz2 rfl (by omega) (.slice va k vc) k (tvals T Y k) HEX.out.txs.own ⟨w1.heap.size, 0, none⟩ 1 1 [.int .i64 t.s, .int .i64 t.c, .int .i64 t.u, .int .i64 t.st, .int .i64 t.a, .slice ao2 t.m cp2] rfl (fun j u hj => by rw [Addr.add_lit, Nat.zero_add, World.cell?_alloc_at (w := w1) _ _ w1.heap.size j rfl]; simpa using hj) (by intro u hu; simp only [List.mem_cons, List.not_mem_nil, or_false] at hu; rcases hu with rfl | rfl | rfl | rfl | rfl | rfl <;> rfl) (by omega) (by unfold maxLen; omega) (by omega) (by have := HEX.out.hz.1.2.2; exact this) (w1.heap.size + 1) (by simp)
        have HRUN : Hid (∀ ty, (Builtin.append_ #[37, 37] ty #[.slice va k vc, .slice (some ⟨w1.heap.size, 0, none⟩) 1 1]).run Tryz.prog (w1.alloc (.cells #[.int .i64 t.s, .int .i64 t.c, .int .i64 t.u, .int .i64 t.st, .int .i64 t.a, .slice ao2 t.m cp2] 69)) = .ok (.slice (some ⟨g4, 0, none⟩) (k + 1) cap4) w4) := fun ty => hrun
        have HW4 : Hid (WrkT w4 B2 (k + 1) T (fun i => if i = k then .slice ao2 t.m cp2 else Y i) (.slice (some ⟨g4, 0, none⟩) (k + 1) cap4)) := by
          refine HEX.out.txs.put ⟨by rw [HT.out]; exact (hy.mono hB2).later (below_alloc _ _), hcy⟩ (fun _ q hq => ⟨fun e => by have := hvl q e; have := hyo q hq; omega, by have := (hyo q hq).2; simp; omega⟩) (by rw [HT.out]; exact hyf.ofRow hy (below_alloc _ _)) (fun i hi h0 _ q hq e => by have := hYl i hi h0 q hq; have := (hyo q e).1; omega) (by rw [HT.out]; exact hown4) hg4 (fun q hq => ?_)
          have e : g4 = q := by simpa [Value.ownBlock] using hq
          rcases hor with e1 | e1
          · exact Or.inl (by rw [e1, e])
          · exact Or.inr (by rw [← e, e1]; simp)
        have HPUT : Hid (CpyE w nw nx bd (.slice a0 nr c0) (.slice a1 n c1) (.slice (some ⟨gx, ox, none⟩) nt c2) z lo y0 (.slice xa nr xc) (.slice sa n sc) B2 (k + 1) T (fun i => if i = k then .slice ao2 t.m cp2 else Y i) (.slice (some ⟨g4, 0, none⟩) (k + 1) cap4) (w4.setCell ⟨z, 5, none⟩ (.slice (some ⟨g4, 0, none⟩) (k + 1) cap4))) := HEX.out.put hg4 HW4.out
        have HOZ : Hid (Blk6 w4 z (.int .i64 nw) (.int .i64 nx) (.int .i64 bd) (.slice xa nr xc) (.slice sa n sc) (.slice va k vc)) := HEX.out.out.kept (hg4.block z HEX.out.out.lt (fun e => by have := (hvl z e.symm).1; have := HEX.out.hz.1.2.1; omega))
        have hS5 : CpyS w gx (ox + k * 6) (.slice (some ⟨gx, ox, none⟩) nt c2) t (.slice yo t.m yc) (w1.alloc (.cells #[.int .i64 t.s, .int .i64 t.c, .int .i64 t.u, .int .i64 t.st, .int .i64 t.a, .slice ao2 t.m cp2] 69)) := hS1.later (below_alloc _ _)
        have HS4 : Hid (CpyS w gx (ox + k * 6) (.slice (some ⟨gx, ox, none⟩) nt c2) t (.slice yo t.m yc) w4) := hS5.kept (hg4.block _ (lt_cell hS5.1) (fun e => by have := (hvl _ e.symm).1; have := HEX.out.hz.1; omega)) (hg4.block _ (lt_cell hS5.2.1) (fun e => by have := (hvl _ e.symm).1; have := HEX.out.hz.1; omega))
        have HSF : Hid (CpyS w gx (ox + k * 6) (.slice (some ⟨gx, ox, none⟩) nt c2) t (.slice yo t.m yc) (w4.setCell ⟨z, 5, none⟩ (.slice (some ⟨g4, 0, none⟩) (k + 1) cap4))) := HS4.out.kept (Below.heap_setCell w4 ⟨z, 5, none⟩ _ _ (fun e => by have e' : w.heap.size = z := e; have := HEX.out.hz.1; omega)) (Below.heap_setCell w4 ⟨z, 5, none⟩ _ _ (fun e => by have e' : gx = z := e; have := HEX.out.hz.1; omega))
        have HS5 : Hid (CpyS w gx (ox + k * 6) (.slice (some ⟨gx, ox, none⟩) nt c2) t (.slice yo t.m yc) (w1.alloc (.cells #[.int .i64 t.s, .int .i64 t.c, .int .i64 t.u, .int .i64 t.st, .int .i64 t.a, .slice ao2 t.m cp2] 69))) := hS5
        have o6 : (w1.alloc (.cells #[.int .i64 t.s, .int .i64 t.c, .int .i64 t.u, .int .i64 t.st, .int .i64 t.a, .slice ao2 t.m cp2] 69)).cell? ⟨z, 5, none⟩ = some (.slice va k vc) := HEX.out.out.1.2.2.2.2.2
        clear hy hyf hcy q1 hyo hYl hvl hrun hown4 hg4 hor hlt4 hS5 HW4 HEX
        go_wp2_with fail
        refine hK.out _ _ hS1 (fun hS => ?_)
        clear hK K hS1
        try simp only [Act.put, List.getElem_toArray, List.getElem_cons_zero, List.getElem_cons_succ, List.setIfInBounds_toArray, List.set_cons_succ, List.set_cons_zero]
        refine wpAnyH_ready (rs := [1, 8]) (by kernel_rfl) (by simp) ?_
        refine AllReadyH.cons rfl (fun K hK => ?_) (AllReadyH.cons rfl (fun K hK => ?_) AllReadyH.nil)
        focus
          go_simp
          refine hK.out _ _ hS (fun hS => ?_)
          clear hK K
          try simp only [Act.put, List.getElem_toArray, List.getElem_cons_zero, List.getElem_cons_succ, List.setIfInBounds_toArray, List.set_cons_succ, List.set_cons_zero]
          refine rdH 8 (fun K hK => ?_)
          go_simp
          refine hK.out _ _ HS5.out (fun hS => ?_)
        rotate_left
        focus
          go_simp
          refine hK.out _ _ HS5.out (fun hS => ?_)
          clear hK K
          try simp only [Act.put, List.getElem_toArray, List.getElem_cons_zero, List.getElem_cons_succ, List.setIfInBounds_toArray, List.set_cons_succ, List.set_cons_zero]
          refine rdH 1 (fun K hK => ?_)
          go_simp
          refine hK.out _ _ hS (fun hS => ?_)
        rotate_left
      rotate_left 2
      all_goals
        clear hK K
        clear o5 o6
        try simp only [Act.put, List.getElem_toArray, List.getElem_cons_zero, List.getElem_cons_succ, List.setIfInBounds_toArray, List.set_cons_succ, List.set_cons_zero]
        refine rdH 9 (fun K hK => ?_)
        refine step_appInM rfl _ _ 37 37 rfl _ _ (by simp [Act.eval]) (by simp [Act.eval]) (HRUN.out _) ?_
        refine hK.out _ _ HS4.out (fun hS => ?_)
        clear hK K
        refine tkH 10 ?_ hS (fun wx hx => ?_) ?_; rotate_left
        · obtain ⟨hx5, hy0, hy1, hy2, hy3, hy4, hy5⟩ := hx; go_simp; try with_reducible rfl
        refine rdH 11 (fun K hK => ?_)
        obtain ⟨⟨z0, z1, z2, z3, z4, z5⟩, f0, f1, f2, f3, f4, f5⟩ := HOZ.out
        go_simp
        refine hK.out _ _ HSF.out (fun hS => ?_)
        clear hK K hS z0 z1 z2 z3 z4 z5 f0 f1 f2 f3 f4 f5
        refine wpAnyH_done (by kernel_rfl) ?_ _
        go_simp
        go_wp2
        go_roundw
        case rel => exact ⟨k + 1, _, _, by omega, by go_num, HPUT⟩
        case measure => simp [intOf]; omega
end Go.Proofs.YtphfiojhpfdpdaaGreat

namespace Go.Proofs.YtphfiojhpfdpdaaGreat
open Go.RowKit

theorem BlkW.put {x : World} {b : Nat} {a0 a1 a2 a3 a4 a5 : Value} (h : BlkW x b a0 a1 a2 a3 a4 a5) (c0 c1 c2 c3 c4 c5 : Value) : BlkW ((((((x.setCell ⟨b, 0, none⟩ c0).setCell ⟨b, 1, none⟩ c1).setCell ⟨b, 2, none⟩ c2).setCell ⟨b, 3, none⟩ c3).setCell ⟨b, 4, none⟩ c4).setCell ⟨b, 5, none⟩ c5) b c0 c1 c2 c3 c4 c5 := by
  obtain ⟨h0, h1, h2, h3, h4, h5⟩ := h
  refine ⟨?_, ?_, ?_, ?_, ?_, ?_⟩
  · exact setCell_other (by decide) (setCell_other (by decide) (setCell_other (by decide) (setCell_other (by decide) (setCell_other (by decide) (World.cell?_setCell_same _ _ _ h0)))))
  · exact setCell_other (by decide) (setCell_other (by decide) (setCell_other (by decide) (setCell_other (by decide) (World.cell?_setCell_same _ _ _ (setCell_other (by decide) h1)))))
  · exact setCell_other (by decide) (setCell_other (by decide) (setCell_other (by decide) (World.cell?_setCell_same _ _ _ (setCell_other (by decide) (setCell_other (by decide) h2)))))
  · exact setCell_other (by decide) (setCell_other (by decide) (World.cell?_setCell_same _ _ _ (setCell_other (by decide) (setCell_other (by decide) (setCell_other (by decide) h3)))))
  · exact setCell_other (by decide) (World.cell?_setCell_same _ _ _ (setCell_other (by decide) (setCell_other (by decide) (setCell_other (by decide) (setCell_other (by decide) h4)))))
  · exact World.cell?_setCell_same _ _ _ (setCell_other (by decide) (setCell_other (by decide) (setCell_other (by decide) (setCell_other (by decide) (setCell_other (by decide) h5)))))
set_option maxHeartbeats 1000000 in
theorem l10Bad_is (c : Int) (w : World) : Calls Tryz.prog 26 #[.int .i64 c] w fun e w' => e = .returned (.agg #[.int .i64 c, .bool false, .int .i64 0, .int .i64 0, .int .i64 0, .slice none 0 0, .slice none 0 0, .slice none 0 0]) ∧ Below w.heap.size w w' := by
  go_enter Tryz.func26, Tryz.ntmps26
  go_wp2
  exact bodyPost_ret (v := .agg #[.int .i64 c, .bool false, .int .i64 0, .int .i64 0, .int .i64 0, .slice none 0 0, .slice none 0 0, .slice none 0 0]) (by simp [results, Tryz.results26, go_sem]) rfl ⟨rfl, below_alloc _ _⟩
end Go.Proofs.YtphfiojhpfdpdaaGreat

namespace Go.Proofs.YtphfiojhpfdpdaaGreat
open Go.RowKit

/-- The three blocks of toWorld: the box, the answer, what is laid. -/
def ToW (w : World) (v0 v1 v2 v3 v4 v5 u0 u1 u2 u3 u4 u5 : Value) (x : World) : Prop :=
  Below w.heap.size w x ∧ Blk6 x w.heap.size v0 v1 v2 v3 v4 v5 ∧ Blk6 x (w.heap.size + 1) (.int .i64 0) (.int .i64 0) (.int .i64 0) (.slice none 0 0) (.slice none 0 0) (.slice none 0 0) ∧ Blk6 x (w.heap.size + 2) u0 u1 u2 u3 u4 u5
theorem ToW.later {w : World} {v0 v1 v2 v3 v4 v5 u0 u1 u2 u3 u4 u5 : Value} {x x' : World} (h : ToW w v0 v1 v2 v3 v4 v5 u0 u1 u2 u3 u4 u5 x) (hb : Below x.heap.size x x') : ToW w v0 v1 v2 v3 v4 v5 u0 u1 u2 u3 u4 u5 x' :=
  ⟨h.1.trans (hb.mono h.1.size), h.2.1.later hb, h.2.2.1.later hb, h.2.2.2.later hb⟩
theorem hid_mkE {p : Prop} (h : p) : Hid p := h
theorem size_set (x : World) (a : Addr) (u : Value) : (x.setCell a u).heap.size = x.heap.size := by simp [World.setCell]
theorem FineG.farE {w : World} {lo nr : Nat} {F : Nat → Int} {n : Nat} {S : Nat → Sto} {ra : Option Addr} {rc g : Nat} {U : Nat → Nat → Value} {z : Nat → Nat} (h : FineG w lo nr F n S ra rc g U z) {b j : Nat} (hb : b < lo) (u : Value) : FineG (w.setCell ⟨b, j, none⟩ u) lo nr F n S ra rc g U z := by
  obtain ⟨⟨h1, h2, h3⟩, h4, h5, h6, h7, h8, h9⟩ := h
  exact ⟨⟨h1.far (Or.inl (by show b < lo; exact hb)) _, h2.far _ _, h3⟩, h4, h5.far (by show g ≠ b; omega) _, h6.far (fun i hi => by show b < z i; have := h8 i (by omega); omega) _, h7, h8, by rw [size_set]; exact h9⟩
theorem FineG.monoE {w : World} {lo lo' nr : Nat} {F : Nat → Int} {n : Nat} {S : Nat → Sto} {ra : Option Addr} {rc g : Nat} {U : Nat → Nat → Value} {z : Nat → Nat} (h : FineG w lo nr F n S ra rc g U z) (hl : lo' ≤ lo) : FineG w lo' nr F n S ra rc g U z :=
  ⟨⟨h.1.1.mono hl, h.1.2⟩, Nat.le_trans hl h.2.1, h.2.2⟩
theorem FillT.farE {w : World} {g n k : Nat} {T : Nat → Tx} {U : Nat → Value} (h : FillT w g n k T U) {b j : Nat} (hb : g ≠ b) (u : Value) : FillT (w.setCell ⟨b, j, none⟩ u) g n k T U := by
  have hk : ∀ p, (w.setCell ⟨b, j, none⟩ u).cell? ⟨g, p, none⟩ = w.cell? ⟨g, p, none⟩ := fun p => World.cell?_of_block (w := w) (a := ⟨g, p, none⟩) (Below.heap_setCell w ⟨b, j, none⟩ u g hb)
  refine ⟨by rw [size_set]; exact h.1, fun p hp => ⟨⟨?_, by simp only [World.frozen?_setCell]; exact (h.2 p hp).1.2⟩, fun d => (hk p).trans ((h.2 p hp).2 d)⟩⟩
  obtain ⟨v, hv⟩ := (h.2 p hp).1.1
  exact ⟨v, (hk p).trans hv⟩
set_option maxRecDepth 100000 in
set_option maxHeartbeats 4000000 in
theorem toWorld_any (nw nx bd : Int) (nr : Nat) (F : Nat → Int) (n : Nat) (S : Nat → Sto) (V : Nat → Nat → Value) (vr vs : Value) (nt : Nat) (T : Nat → Tx) (X : Nat → Value) (vt : Value) (B : Nat) (w : World) (h : Grs w B nr F n S V vr vs) (ht : Txs w B nt T X vt) (hs : nr ≤ 1048576 ∧ n ≤ 1048576 ∧ ∀ i, i < n → SmallS (S i)) (hx : nt ≤ 1048576 ∧ ∀ i, i < nt → (T i).m ≤ 1048576) :
    Calls Tryz.prog 7 #[.agg #[.int .i64 nw, .int .i64 nx, .int .i64 bd, vr, vs, vt]] w (NewWd w nw nx bd nr F n S nt T) := by
  obtain ⟨a0, c0, a1, c1, rfl, rfl⟩ := h.form
  obtain ⟨at', ct, rfl⟩ := ht.form
  have H : Hid (Grs w B nr F n S V (.slice a0 nr c0) (.slice a1 n c1) ∧ Txs w B nt T X (.slice at' nt ct)) := ⟨h, ht⟩
  have HN : Hid ((nr ≤ 1048576 ∧ n ≤ 1048576 ∧ ∀ i, i < n → SmallS (S i)) ∧ nt ≤ 1048576 ∧ ∀ i, i < nt → (T i).m ≤ 1048576) := ⟨hs, hx⟩
  have W0 : Hid (ToW w (.int .i64 nw) (.int .i64 nx) (.int .i64 bd) (.slice a0 nr c0) (.slice a1 n c1) (.slice at' nt ct) (.int .i64 nw) (.int .i64 0) (.int .i64 0) (.slice none 0 0) (.slice none 0 0) (.slice none 0 0) (((w.alloc (.cells #[.int .i64 nw, .int .i64 nx, .int .i64 bd, .slice a0 nr c0, .slice a1 n c1, .slice at' nt ct] 30)).alloc (.cells #[.int .i64 0, .int .i64 0, .int .i64 0, .slice none 0 0, .slice none 0 0, .slice none 0 0] 39)).alloc (.cells #[.int .i64 nw, .int .i64 0, .int .i64 0, .slice none 0 0, .slice none 0 0, .slice none 0 0] 39))) := by
    have k1 := Blk6.new (w.alloc (.cells #[.int .i64 nw, .int .i64 nx, .int .i64 bd, .slice a0 nr c0, .slice a1 n c1, .slice at' nt ct] 30)) (.int .i64 0) (.int .i64 0) (.int .i64 0) (.slice none 0 0) (.slice none 0 0) (.slice none 0 0) 39
    have k2 := Blk6.new ((w.alloc (.cells #[.int .i64 nw, .int .i64 nx, .int .i64 bd, .slice a0 nr c0, .slice a1 n c1, .slice at' nt ct] 30)).alloc (.cells #[.int .i64 0, .int .i64 0, .int .i64 0, .slice none 0 0, .slice none 0 0, .slice none 0 0] 39)) (.int .i64 nw) (.int .i64 0) (.int .i64 0) (.slice none 0 0) (.slice none 0 0) (.slice none 0 0) 39
    rw [World.size_alloc] at k1
    rw [World.size_alloc, World.size_alloc] at k2
    exact ⟨((below_alloc _ _).alloc (by simp) _).alloc (by simp; omega) _, ((Blk6.new w _ _ _ _ _ _ _).alloc _).alloc _, k1.alloc _, k2⟩
  clear h ht hs hx
  go_enter Tryz.func7, Tryz.ntmps7
  go_wp2_with fail
  generalize ((w.alloc (.cells #[.int .i64 nw, .int .i64 nx, .int .i64 bd, .slice a0 nr c0, .slice a1 n c1, .slice at' nt ct] 30)).alloc (.cells #[.int .i64 0, .int .i64 0, .int .i64 0, .slice none 0 0, .slice none 0 0, .slice none 0 0] 39)).alloc (.cells #[.int .i64 nw, .int .i64 0, .int .i64 0, .slice none 0 0, .slice none 0 0, .slice none 0 0] 39) = x0 at W0 ⊢
  refine (toOracle_any nx bd _).mono ?_
  rintro e y1 ⟨rfl, q1⟩
  have W1 : Hid (ToW w (.int .i64 nw) (.int .i64 nx) (.int .i64 bd) (.slice a0 nr c0) (.slice a1 n c1) (.slice at' nt ct) (.int .i64 nw) (.int .i64 0) (.int .i64 0) (.slice none 0 0) (.slice none 0 0) (.slice none 0 0) y1) := W0.out.later q1
  have W1' : Hid (ToW w (.int .i64 nw) (.int .i64 nx) (.int .i64 bd) (.slice a0 nr c0) (.slice a1 n c1) (.slice at' nt ct) (.int .i64 nw) (.int .i64 nx) (.int .i64 bd) (.slice none 0 0) (.slice none 0 0) (.slice none 0 0) ((y1.setCell ⟨w.heap.size + 2, 1, none⟩ (.int .i64 nx)).setCell ⟨w.heap.size + 2, 2, none⟩ (.int .i64 bd))) := ⟨(W1.out.1.setCell (by show w.heap.size ≤ w.heap.size + 2; omega) _).setCell (by show w.heap.size ≤ w.heap.size + 2; omega) _, (W1.out.2.1.farE (by show w.heap.size ≠ w.heap.size + 2; omega) _).farE (by show w.heap.size ≠ w.heap.size + 2; omega) _, (W1.out.2.2.1.farE (by show w.heap.size + 1 ≠ w.heap.size + 2; omega) _).farE (by show w.heap.size + 1 ≠ w.heap.size + 2; omega) _, W1.out.2.2.2.put12 _ _⟩
  obtain ⟨_, ⟨⟨b0, b1, b2, b3, b4, b5⟩, _⟩, _, ⟨⟨o0, o1, o2, o3, o4, o5⟩, p0, p1, p2, p3, p4, p5⟩⟩ := W1.out
  clear q1 W0
  go_wp2_with fail
  clear b0 b1 b2 b3 b4 b5 o0 o1 o2 o3 o4 o5 p0 p1 p2 p3 p4 p5 W1
  generalize (y1.setCell ⟨w.heap.size + 2, 1, none⟩ (.int .i64 nx)).setCell ⟨w.heap.size + 2, 2, none⟩ (.int .i64 bd) = x1 at W1' ⊢
  refine (toGroups_any nr F n S V _ _ B _ (H.out.1.later W1'.out.1) HN.out.1.1 HN.out.1.2.1 HN.out.1.2.2).mono ?_
  rintro e y2 ⟨ra, rc, g, U, z, rfl, hg, q2⟩
  have W2 : Hid (ToW w (.int .i64 nw) (.int .i64 nx) (.int .i64 bd) (.slice a0 nr c0) (.slice a1 n c1) (.slice at' nt ct) (.int .i64 nw) (.int .i64 nx) (.int .i64 bd) (.slice none 0 0) (.slice none 0 0) (.slice none 0 0) y2) := W1'.out.later q2
  have lo : Hid (w.heap.size + 3 ≤ x1.heap.size) := W1'.out.2.2.2.lt
  have W2' : Hid (ToW w (.int .i64 nw) (.int .i64 nx) (.int .i64 bd) (.slice a0 nr c0) (.slice a1 n c1) (.slice at' nt ct) (.int .i64 nw) (.int .i64 nx) (.int .i64 bd) (.slice ra nr rc) (.slice (some ⟨g, 0, none⟩) n n) (.slice none 0 0) ((y2.setCell ⟨w.heap.size + 2, 3, none⟩ (.slice ra nr rc)).setCell ⟨w.heap.size + 2, 4, none⟩ (.slice (some ⟨g, 0, none⟩) n n))) := ⟨(W2.out.1.setCell (by show w.heap.size ≤ w.heap.size + 2; omega) _).setCell (by show w.heap.size ≤ w.heap.size + 2; omega) _, (W2.out.2.1.farE (by show w.heap.size ≠ w.heap.size + 2; omega) _).farE (by show w.heap.size ≠ w.heap.size + 2; omega) _, (W2.out.2.2.1.farE (by show w.heap.size + 1 ≠ w.heap.size + 2; omega) _).farE (by show w.heap.size + 1 ≠ w.heap.size + 2; omega) _, W2.out.2.2.2.put34 _ _⟩
  have G2 : Hid (FineG ((y2.setCell ⟨w.heap.size + 2, 3, none⟩ (.slice ra nr rc)).setCell ⟨w.heap.size + 2, 4, none⟩ (.slice (some ⟨g, 0, none⟩) n n)) x1.heap.size nr F n S ra rc g U z) := (hg.farE (by have := lo.out; omega) _).farE (by have := lo.out; omega) _
  obtain ⟨_, ⟨⟨b0, b1, b2, b3, b4, b5⟩, _⟩, _, ⟨⟨o0, o1, o2, o3, o4, o5⟩, p0, p1, p2, p3, p4, p5⟩⟩ := W2.out
  clear q2 hg W1'
  go_wp2_with fail
  clear b0 b1 b2 b3 b4 b5 o0 o1 o2 o3 o4 o5 p0 p1 p2 p3 p4 p5 W2
  generalize (y2.setCell ⟨w.heap.size + 2, 3, none⟩ (.slice ra nr rc)).setCell ⟨w.heap.size + 2, 4, none⟩ (.slice (some ⟨g, 0, none⟩) n n) = x2 at W2' G2 ⊢
  refine (toTxnS_any nt T X _ B _ (H.out.2.later W2'.out.1) HN.out.2.1 HN.out.2.2).mono ?_
  rintro e y3 ⟨gt, Y, zt, rfl, hgt, FT, ⟨fine, ft0, ft1, ft2⟩, q3⟩
  have W3 : Hid (ToW w (.int .i64 nw) (.int .i64 nx) (.int .i64 bd) (.slice a0 nr c0) (.slice a1 n c1) (.slice at' nt ct) (.int .i64 nw) (.int .i64 nx) (.int .i64 bd) (.slice ra nr rc) (.slice (some ⟨g, 0, none⟩) n n) (.slice none 0 0) y3) := W2'.out.later q3
  have G3 : Hid (FineG y3 x1.heap.size nr F n S ra rc g U z ∧ z n ≤ gt) := ⟨G2.out.later q3, Nat.le_trans G2.out.2.2.2.2.2.2 hgt.1⟩
  have TT : Hid ((gt < y3.heap.size ∧ FillT y3 gt nt nt T Y ∧ FineT y3 zt nt T Y ∧ zt 0 = gt + 1 ∧ (∀ i, i ≤ nt → gt < zt i) ∧ zt nt ≤ y3.heap.size) ∧ x1.heap.size ≤ gt) := ⟨⟨hgt.2, FT, fine, ft0, ft1, ft2⟩, by have := G2.out.2.1; have := G2.out.2.2.2.2.2.1 n (Nat.le_refl _); have := G3.out.2; omega⟩
  have KL := hid_mkE ((W3.out.2.2.1.farE (p := ⟨w.heap.size + 2, 5, none⟩) (by show w.heap.size + 1 ≠ w.heap.size + 2; omega) (.slice (some ⟨gt, 0, none⟩) nt nt)).putAll (.int .i64 nw) (.int .i64 nx) (.int .i64 bd) (.slice ra nr rc) (.slice (some ⟨g, 0, none⟩) n n) (.slice (some ⟨gt, 0, none⟩) nt nt))
  obtain ⟨_, _, ⟨⟨d0, d1, d2, d3, d4, d5⟩, e0, e1, e2, e3, e4, e5⟩, ⟨⟨o0, o1, o2, o3, o4, o5⟩, p0, p1, p2, p3, p4, p5⟩⟩ := W3.out
  clear q3 FT fine ft0 ft1 ft2 hgt W2' G2
  go_wp2
  obtain ⟨⟨k0, k1, k2, k3, k4, k5⟩, _⟩ := KL.out
  have hlo := lo.out
  have htl := TT.out.2
  refine bodyPost_ret (v := .agg #[.int .i64 nw, .int .i64 nx, .int .i64 bd, .slice ra nr rc, .slice (some ⟨g, 0, none⟩) n n, .slice (some ⟨gt, 0, none⟩) nt nt]) (by simp [results, Tryz.results7, go_sem, k0, k1, k2, k3, k4, k5]) rfl ⟨ra, rc, g, U, z, gt, Y, zt, rfl, ?_, ?_, ?_⟩
  · have s : ∀ {y : World} (b j : Nat) (u : Value), b < x1.heap.size → FineG y x1.heap.size nr F n S ra rc g U z → FineG (y.setCell ⟨b, j, none⟩ u) x1.heap.size nr F n S ra rc g U z := fun b j u hb q => q.farE hb u
    exact FineG.monoE (s _ _ _ (by omega) (s _ _ _ (by omega) (s _ _ _ (by omega) (s _ _ _ (by omega) (s _ _ _ (by omega) (s _ _ _ (by omega) (s _ _ _ (by omega) G3.out.1))))))) (by omega)
  · have s : ∀ {y : World} (b j : Nat) (u : Value), b < x1.heap.size → (gt < y.heap.size ∧ FillT y gt nt nt T Y ∧ FineT y zt nt T Y ∧ zt 0 = gt + 1 ∧ (∀ i, i ≤ nt → gt < zt i) ∧ zt nt ≤ y.heap.size) → (gt < (y.setCell ⟨b, j, none⟩ u).heap.size ∧ FillT (y.setCell ⟨b, j, none⟩ u) gt nt nt T Y ∧ FineT (y.setCell ⟨b, j, none⟩ u) zt nt T Y ∧ zt 0 = gt + 1 ∧ (∀ i, i ≤ nt → gt < zt i) ∧ zt nt ≤ (y.setCell ⟨b, j, none⟩ u).heap.size) := fun b j u hb q => ⟨by rw [size_set]; exact q.1, q.2.1.farE (by omega) _, q.2.2.1.far (fun i hi => by show b < zt i; have := q.2.2.2.2.1 i (by omega); omega) _, q.2.2.2.1, q.2.2.2.2.1, by rw [size_set]; exact q.2.2.2.2.2⟩
    exact ⟨G3.out.2, s _ _ _ (by omega) (s _ _ _ (by omega) (s _ _ _ (by omega) (s _ _ _ (by omega) (s _ _ _ (by omega) (s _ _ _ (by omega) (s _ _ _ (by omega) TT.out.1))))))⟩
  · have s : ∀ {y : World} (b j : Nat) (u : Value), w.heap.size ≤ b → Below w.heap.size w y → Below w.heap.size w (y.setCell ⟨b, j, none⟩ u) := fun b j u hb q => q.setCell (by show w.heap.size ≤ b; exact hb) u
    exact s _ _ _ (by omega) (s _ _ _ (by omega) (s _ _ _ (by omega) (s _ _ _ (by omega) (s _ _ _ (by omega) (s _ _ _ (by omega) (s _ _ _ (by omega) W3.out.1))))))
end Go.Proofs.YtphfiojhpfdpdaaGreat

namespace Go.Proofs.YtphfiojhpfdpdaaGreat
open Go.RowKit

set_option maxRecDepth 100000 in
set_option maxHeartbeats 8000000 in
theorem implWorldFault_any (nw nx bd : Int) (nr : Nat) (F : Nat → Int) (n : Nat) (S : Nat → Sto) (V : Nat → Nat → Value) (vr vs : Value) (nt : Nat) (T : Nat → Tx) (X : Nat → Value) (vt : Value) (B : Nat) (w : World) (h : Grs w B nr F n S V vr vs) (hx : Txs w B nt T X vt) (hr : nr ≤ 9223372036854775807) (hn : n ≤ 9223372036854775807) (ht : nt ≤ 9223372036854775807) :
    Calls Tryz.prog 45 #[.agg #[.int .i64 nw, .int .i64 nx, .int .i64 bd, vr, vs, vt]] w fun e w' => e = .returned (.int .i64 (worldF nw nx bd nr F n S nt T)) ∧ Below w.heap.size w w' := by
  obtain ⟨a0, c0, a1, c1, rfl, rfl⟩ := h.form
  obtain ⟨a2, c2, rfl⟩ := hx.form
  have H : Hid (LiesD (w.alloc (.cells #[.int .i64 nw, .int .i64 nx, .int .i64 bd, .slice a0 nr c0, .slice a1 n c1, .slice a2 nt c2] 39)) w.heap.size nw nx bd nr F n S V (.slice a0 nr c0) (.slice a1 n c1) nt T X (.slice a2 nt c2) ∧ Below w.heap.size w (w.alloc (.cells #[.int .i64 nw, .int .i64 nx, .int .i64 bd, .slice a0 nr c0, .slice a1 n c1, .slice a2 nt c2] 39))) := ⟨⟨Blk6.new w _ _ _ _ _ _ _, (h.mono (Nat.zero_le _)).alloc _, (hx.mono (Nat.zero_le _)).alloc _⟩, below_alloc _ _⟩
  clear h hx
  by_cases h0 : 0 ≤ nw ∧ nw ≤ 100000
  case neg =>
    have D0 : Hid (decide (0 ≤ nw ∧ nw ≤ 100000) = false) := decide_eq_false h0
    have E : Hid (worldF nw nx bd nr F n S nt T = 3) := worldF_now h0
    clear h0
    go_enter Tryz.func45, Tryz.ntmps45
    go_wp2_with fail
    refine (isNowW_is nw false D0.out _).mono ?_
    rintro e w1 ⟨rfl, hw1⟩
    obtain rfl := hw1.symm
    go_wp2
    go_ret
    exact ⟨by rw [E.out]; rfl, H.out.2⟩
  have D0 : Hid (decide (0 ≤ nw ∧ nw ≤ 100000) = true) := decide_eq_true h0
  have H0 : Hid (0 ≤ nw ∧ nw ≤ 100000) := h0
  clear h0
  obtain ⟨f1, hf1⟩ : ∃ f, oFault nx bd = f := ⟨_, rfl⟩
  have HF1 : Hid (oFault nx bd = f1) := hf1
  clear hf1
  go_enter Tryz.func45, Tryz.ntmps45
  go_wp2_with fail
  refine (isNowW_is nw true D0.out _).mono ?_
  rintro e w1 ⟨rfl, hw1⟩
  obtain rfl := hw1.symm
  go_wp2_with fail
  refine (implOracleFault_any nx bd _).mono ?_
  rw [HF1.out]
  rintro e w2 ⟨rfl, hw2⟩
  have H2 : Hid (LiesD w2 w.heap.size nw nx bd nr F n S V (.slice a0 nr c0) (.slice a1 n c1) nt T X (.slice a2 nt c2) ∧ Below w.heap.size w w2) := by
    rw [hw2]
    exact ⟨H.out.1.later (below_alloc _ _), H.out.2.alloc (by have := H.out.2.size; omega) _⟩
  clear hw2 H
  by_cases hz1 : f1 = 0
  case neg =>
    have d : (f1 != 0) = true := bne_iff_ne.2 hz1
    have E : Hid (worldF nw nx bd nr F n S nt T = f1) := (worldF_oracle H0.out (by rw [HF1.out]; exact hz1)).trans HF1.out
    clear hz1
    go_wp2
    go_ret
    exact ⟨by rw [E.out]; rfl, H2.out.2⟩
  subst hz1
  obtain ⟨f2, hf2⟩ : ∃ f, groupsF nr F n S = f := ⟨_, rfl⟩
  have HF2 : Hid (groupsF nr F n S = f2) := hf2
  clear hf2
  obtain ⟨⟨⟨p0, p1, p2, p3, p4, p5⟩, _⟩, _⟩ := H2.out.1
  go_wp2_with fail
  refine (implGroupsFault_any nr F n S V _ _ 0 _ H2.out.1.2.1 hr hn).mono ?_
  rw [HF2.out]
  rintro e w3 ⟨rfl, q3⟩
  have H3 : Hid (LiesD w3 w.heap.size nw nx bd nr F n S V (.slice a0 nr c0) (.slice a1 n c1) nt T X (.slice a2 nt c2) ∧ Below w.heap.size w w3) := ⟨H2.out.1.later q3, H2.out.2.trans (q3.mono H2.out.2.size)⟩
  clear q3 H2 p0 p1 p2 p3 p4 p5
  by_cases hz2 : f2 = 0
  case neg =>
    have d : (f2 != 0) = true := bne_iff_ne.2 hz2
    have E : Hid (worldF nw nx bd nr F n S nt T = f2) := (worldF_groups H0.out HF1.out (by rw [HF2.out]; exact hz2)).trans HF2.out
    clear hz2
    go_wp2
    go_ret
    exact ⟨by rw [E.out]; rfl, H3.out.2⟩
  subst hz2
  obtain ⟨⟨⟨p0, p1, p2, p3, p4, p5⟩, _⟩, _⟩ := H3.out.1
  by_cases h16 : 16 < nt
  · have d : decide ((nt : Int) > 16) = true := decide_eq_true (by omega)
    have E : Hid (worldF nw nx bd nr F n S nt T = 2) := worldF_many H0.out HF1.out HF2.out h16
    go_wp2
    go_ret
    exact ⟨by rw [E.out]; rfl, H3.out.2⟩
  have d : decide ((nt : Int) > 16) = false := decide_eq_false (by omega)
  have EW : Hid (worldF nw nx bd nr F n S nt T = scan (placeF nx T) nt) := worldF_txns H0.out HF1.out HF2.out h16
  have hn16 : nt ≤ 16 := by omega
  clear h16 HF1 HF2 H0 ht
  go_wp2
  clear p0 p1 p2 p3 p4 p5 d
  go_loopw [30] (fun i wr => ∃ k : Nat, k ≤ nt ∧ i = .int .i64 k ∧ Hid (scan (placeF nx T) k = 0) ∧ Hid (LiesD wr w.heap.size nw nx bd nr F n S V (.slice a0 nr c0) (.slice a1 n c1) nt T X (.slice a2 nt c2) ∧ Below w.heap.size w wr)) (fun i _ => nt - (intOf i).toNat)
  case atStart => exact ⟨0, Nat.zero_le _, rfl, rfl, H3⟩
  case round =>
    clear H3
    obtain ⟨k, hk, rfl, HS, HB⟩ := hrel
    by_cases hlt : k < nt
    case neg =>
      obtain rfl : k = nt := by omega
      have E : Hid (worldF nw nx bd nr F n S k T = 0) := EW.out.trans HS.out
      go_wp2
      go_ret
      exact ⟨by rw [E.out]; rfl, HB.out.2⟩
    obtain ⟨⟨⟨p0, p1, p2, p3, p4, p5⟩, _⟩, _⟩ := HB.out.1
    obtain ⟨f, hf⟩ : ∃ f, placeF nx T k = f := ⟨_, rfl⟩
    have HF : Hid (placeF nx T k = f) := hf
    clear hf
    go_wp2_with fail
    refine (implPlace_any nw nx bd _ _ nt T X _ k _ HB.out.1.2.2 hlt hn16).mono ?_
    rw [HF.out]
    rintro e w4 ⟨rfl, q4⟩
    have H4 : Hid (LiesD w4 w.heap.size nw nx bd nr F n S V (.slice a0 nr c0) (.slice a1 n c1) nt T X (.slice a2 nt c2) ∧ Below w.heap.size w w4) := ⟨HB.out.1.later q4, HB.out.2.trans (q4.mono HB.out.2.size)⟩
    clear q4 HB p0 p1 p2 p3 p4 p5
    by_cases hz : f = 0
    case neg =>
      have d' : (f != 0) = true := bne_iff_ne.2 hz
      have E : Hid (worldF nw nx bd nr F n S nt T = f) := EW.out.trans ((scan_stop HS.out (by rw [HF.out]; exact hz) hlt).trans HF.out)
      clear hz HF HS EW
      go_wp2
      go_ret
      exact ⟨by rw [E.out]; rfl, H4.out.2⟩
    subst hz
    have HS1 : Hid (scan (placeF nx T) (k + 1) = 0) := scan_go HS.out HF.out
    clear HS HF
    go_wp2
    go_roundw
    case rel => exact ⟨k + 1, by omega, by go_num, HS1, H4⟩
    case measure => simp [intOf]; omega
end Go.Proofs.YtphfiojhpfdpdaaGreat

namespace Go.Proofs.YtphfiojhpfdpdaaGreat
open Go.RowKit

theorem itemF_key {k kd v : Int} (h : itemF k kd v = 0) : faultOf k = 0 := by
  unfold itemF at h
  by_cases q : faultOf k = 0
  · exact q
  · rw [if_pos q] at h
    exact h
theorem itemsF_key {F : Nat → Int} {m : Nat} (hm : 0 < m) (h : itemsF F m 0 = 0) : faultOf (F 0) = 0 := by
  by_cases q : itemF (F (0 * 3)) (F (0 * 3 + 1)) (F (0 * 3 + 2)) = 0
  · rw [Nat.zero_mul] at q
    exact itemF_key q
  · exact absurd ((itemsF_bad hm rfl q).symm.trans h) q
/-- What a transaction without a fault keeps. -/
theorem txF_fine {t : Tx} (h : txF t = 0) : (1 ≤ t.m ∧ t.m ≤ 12) ∧ faultOf (t.L 0) = 0 := by
  unfold txF txnF at h
  split at h
  · omega
  split at h
  · omega
  rename_i h1
  split at h
  · rename_i h2; exact absurd h h2
  rename_i h2
  exact ⟨⟨by omega, by omega⟩, itemsF_key (by omega) (Decidable.not_not.1 h2)⟩
/-- What a world without a fault keeps. -/
theorem world_fine {nw nx bd : Int} {nr : Nat} {F : Nat → Int} {n : Nat} {S : Nat → Sto} {nt : Nat} {T : Nat → Tx} (h : worldF nw nx bd nr F n S nt T = 0) :
    groupsF nr F n S = 0 ∧ nt ≤ 16 ∧ ∀ i, i < nt → (1 ≤ (T i).m ∧ (T i).m ≤ 12) ∧ faultOf ((T i).L 0) = 0 := by
  unfold worldF at h
  split at h
  · omega
  split at h
  · rename_i q; exact absurd h q
  split at h
  · rename_i q; exact absurd h q
  rename_i h2
  split at h
  · omega
  rename_i h3
  refine ⟨Decidable.not_not.1 h2, by omega, fun i hi => txF_fine ?_⟩
  have := scan_zero h i hi
  unfold placeF at this
  split at this
  · rename_i q; exact absurd this q
  · rename_i q; exact Decidable.not_not.1 q
end Go.Proofs.YtphfiojhpfdpdaaGreat

namespace Go.Proofs.YtphfiojhpfdpdaaGreat
open Go.RowKit

/-- A world as answer, to be read: a code, whether it moved, the world. -/
def ResWR (w : World) (c : Int) (mv : Bool) (nw nx bd : Int) (nr : Nat) (F : Nat → Int) (n : Nat) (S : Nat → Sto) (nt : Nat) (T : Nat → Tx) (e : Ending) (w' : World) : Prop :=
  ∃ xr vS U Y v, e = .returned (.agg #[.int .i64 c, .bool mv, .int .i64 nw, .int .i64 nx, .int .i64 bd, xr, vS, v]) ∧ Grs w' w.heap.size nr F n S U xr vS ∧ Txs w' w.heap.size nt T Y v ∧ Below w.heap.size w w'
/-- A world as answer that owns its memory. -/
def ResWG (w : World) (c : Int) (mv : Bool) (nw nx bd : Int) (nr : Nat) (F : Nat → Int) (n : Nat) (S : Nat → Sto) (nt : Nat) (T : Nat → Tx) (e : Ending) (w' : World) : Prop :=
  ∃ ra rc sa sc U z Y va vc lo, e = .returned (.agg #[.int .i64 c, .bool mv, .int .i64 nw, .int .i64 nx, .int .i64 bd, .slice ra nr rc, .slice sa n sc, .slice va nt vc]) ∧ FineR w' lo w'.heap.size nr F n S ra rc sa U z ∧ OwnT w' w.heap.size lo nt T Y va ∧ (w.heap.size ≤ lo ∧ lo ≤ w'.heap.size) ∧ Below w.heap.size w w'
theorem ResWG.none {w w' : World} {c : Int} {F : Nat → Int} {S : Nat → Sto} {T : Nat → Tx} {e : Ending} (he : e = .returned (.agg #[.int .i64 c, .bool false, .int .i64 0, .int .i64 0, .int .i64 0, .slice Option.none 0 0, .slice Option.none 0 0, .slice Option.none 0 0])) (hb : Below w.heap.size w w') : ResWG w c false 0 0 0 0 F 0 S 0 T e w' :=
  ⟨Option.none, 0, Option.none, 0, _, _, fun _ => .bool true, Option.none, 0, w.heap.size, he, fineR_nil w' w.heap.size F S hb.size, ⟨fun q => absurd q (Nat.lt_irrefl 0), fun i hi => absurd hi (Nat.not_lt_zero i), fun i _ hi => absurd hi (Nat.not_lt_zero i)⟩, ⟨Nat.le_refl _, hb.size⟩, hb⟩
theorem ResWG.read {w w' : World} {c : Int} {mv : Bool} {nw nx bd : Int} {nr : Nat} {F : Nat → Int} {n : Nat} {S : Nat → Sto} {nt : Nat} {T : Nat → Tx} {e : Ending} (h : ResWG w c mv nw nx bd nr F n S nt T e w') : ResWR w c mv nw nx bd nr F n S nt T e w' := by
  obtain ⟨ra, rc, sa, sc, U, z, Y, va, vc, lo, he, hF, hO, hl, hb⟩ := h
  exact ⟨_, _, U, Y, _, he, (hF.grs sc).mono hl.1, hO.txs vc, hb⟩
theorem OwnT.low {w : World} {lo lo' tp n : Nat} {T : Nat → Tx} {U : Nat → Value} {ao : Option Addr} (h : OwnT w lo tp n T U ao) (hl : lo' ≤ lo) : OwnT w lo' tp n T U ao :=
  ⟨fun hn => by obtain ⟨g, e, hg, hf, ha⟩ := h.fill hn; exact ⟨g, e, ⟨by omega, hg.2⟩, hf, ha⟩, fun i hi => ⟨(h.items i hi).1.mono hl, (h.items i hi).2.1, (h.items i hi).2.2.1, fun h0 q hq => by have := (h.items i hi).2.2.2 h0 q hq; omega⟩, h.apart⟩
theorem heapT_put8 {x : World} {b q : Nat} (h : q ≠ b) (c0 c1 c2 c3 c4 c5 c6 c7 : Value) : (put8 x b c0 c1 c2 c3 c4 c5 c6 c7).heap[q]? = x.heap[q]? := by
  have s : ∀ (y : World) (j : Nat) (u : Value), (y.setCell ⟨b, j, none⟩ u).heap[q]? = y.heap[q]? := fun y j u => Below.heap_setCell y ⟨b, j, none⟩ u q h
  unfold put8
  rw [s, s, s, s, s, s, s, s]
theorem sizeT_put8 (x : World) (b : Nat) (c0 c1 c2 c3 c4 c5 c6 c7 : Value) : (put8 x b c0 c1 c2 c3 c4 c5 c6 c7).heap.size = x.heap.size := by
  have s : ∀ (y : World) (j : Nat) (u : Value), (y.setCell ⟨b, j, none⟩ u).heap.size = y.heap.size := fun y j u => by simp [World.setCell]
  unfold put8
  rw [s, s, s, s, s, s, s, s]
theorem Txs.above {w w' : World} {B n : Nat} {T : Nat → Tx} {V : Nat → Value} {v : Value} (h : Txs w B n T V v) (hs : w.heap.size ≤ w'.heap.size) (hb : ∀ q, B ≤ q → q < w.heap.size → w'.heap[q]? = w.heap[q]?) : Txs w' B n T V v := by
  obtain ⟨⟨ao, cp, rfl, h1⟩, h2⟩ := h
  refine ⟨⟨ao, cp, rfl, fun hn => ?_⟩, fun i hi => ⟨(h2 i hi).1.above hs hb, (h2 i hi).2⟩⟩
  obtain ⟨g, o, rfl, hB, hg, hc⟩ := h1 hn
  exact ⟨g, o, rfl, hB, Nat.lt_of_lt_of_le hg hs, fun i hi j hj => (World.cell?_of_block (w := w) (a := ⟨g, o + i * 6 + j, none⟩) (hb g hB hg)).trans (hc i hi j hj)⟩
theorem Blk5w.set0 {x : World} {b : Nat} {a0 a1 a2 a3 a4 : Value} (h : Blk5w x b a0 a1 a2 a3 a4) (u : Value) : Blk5w (x.setCell ⟨b, 0, none⟩ u) b u a1 a2 a3 a4 := by
  obtain ⟨⟨h0, h1, h2, h3, h4⟩, h5⟩ := h
  refine ⟨⟨?_, ?_, ?_, ?_, ?_⟩, fun j => ?_⟩
  · go_simp
  · go_simp
  · go_simp
  · go_simp
  · go_simp
  · rw [World.frozen?_setCell]; exact h5 j
end Go.Proofs.YtphfiojhpfdpdaaGreat

namespace Go.Proofs.YtphfiojhpfdpdaaGreat
open Go.RowKit

theorem txnF_zero {s c u st a : Int} {n : Nat} {F : Nat → Int} (h : txnF s c u st a n F = 0) : InB s c u st ∧ (1 ≤ n ∧ n ≤ 12) ∧ itemsF F n 0 = 0 ∧ (0 ≤ a ∧ a ≤ n) ∧ ¬ ((st = 2 ∨ st = 3 ∨ st = 4) ∧ c ≤ s ∨ st = 1 ∧ c ≠ 0) := by
  unfold txnF at h
  split at h
  · omega
  rename_i h0
  split at h
  · omega
  rename_i h1
  split at h
  · exact absurd h (by assumption)
  rename_i h2
  split at h
  · omega
  rename_i h3
  split at h
  · omega
  rename_i h4
  refine ⟨?_, ⟨by omega, by omega⟩, Decidable.not_not.1 h2, Decidable.not_not.1 h3, h4⟩
  unfold InB
  omega
theorem mapF (f : Int) : f = 0 ∨ (f ≠ 0 ∧ (f != 0) = true ∧ (f == 0) = false) := by
  by_cases h0 : f = 0
  · exact Or.inl h0
  · exact Or.inr ⟨h0, bne_iff_ne.2 h0, beq_eq_false_iff_ne.2 h0⟩
/-- A truth beside TxnFault. -/
def TruthT (f : Int) (q r : Bool) : Prop := (f ≠ 0 ∧ r = false) ∨ (f = 0 ∧ r = q)
theorem TruthT.get (f : Int) (q : Bool) : ∃ r, TruthT f q r := by
  by_cases h : f = 0
  · exact ⟨_, Or.inr ⟨h, rfl⟩⟩
  · exact ⟨_, Or.inl ⟨h, rfl⟩⟩
set_option maxHeartbeats 1000000 in
theorem implIsOver_is (s c u st a : Int) (n : Nat) (F : Nat → Int) (y : Value) (f : Int) (hf : txnF s c u st a n F = f) (w : World) (h : Row w 0 3 n F y) (hcap : CapOk y) (r : Bool) (hr : TruthT f (decide (st = 4 ∨ st = 6 ∨ st = 7)) r) :
    Calls Tryz.prog 33 #[.agg #[.int .i64 s, .int .i64 c, .int .i64 u, .int .i64 st, .int .i64 a, y]] w fun e w' => e = .returned (.bool r) ∧ Below w.heap.size w w' := by
  obtain ⟨ao, cp, rfl⟩ := h.form
  have H : Hid (Row w 0 3 n F (.slice ao n cp)) := h
  clear h
  have HF : Hid (txnF s c u st a n F = f) := hf
  rcases mapF f with rfl | ⟨h0, h1, h2⟩
  · obtain ⟨⟨_, _, _, hst⟩, ⟨_, hn12⟩, _⟩ := txnF_zero hf
    obtain ⟨t, ht⟩ := StT.get hst
    have HT : Hid (StT st t) := ht
    obtain ⟨b, hb⟩ : ∃ b, decide (st = 4 ∨ st = 6 ∨ st = 7) = b := ⟨_, rfl⟩
    have HB : Hid (decide (st = 4 ∨ st = 6 ∨ st = 7) = b) := hb
    obtain rfl : r = b := by
      rcases hr with ⟨q, _⟩ | ⟨_, q⟩
      · exact absurd rfl q
      · exact q.trans hb
    clear hf ht hst hb hr
    go_enter Tryz.func33, Tryz.ntmps33
    go_wp2_with fail
    refine (implTxnFault_any s c u st a n F _ _ (H.out.alloc _) hcap).mono ?_
    rintro e w1 ⟨rfl, q1⟩
    rw [HF.out]
    have Q : Hid (Below w.heap.size w w1) := (below_alloc _ _).trans (q1.mono (by simp))
    have K1 : Hid (Blk6 w1 w.heap.size (.int .i64 s) (.int .i64 c) (.int .i64 u) (.int .i64 st) (.int .i64 a) (.slice ao n cp)) := (Blk6.new w _ _ _ _ _ _ _).later q1
    obtain ⟨⟨k0, k1, k2, k3, k4, k5⟩, _⟩ := K1.out
    have hlt1 := K1.out.lt
    clear q1
    go_wp2_with fail
    refine (stateOf_is _ _ _ _ _ _ _ _ t HT.out hn12 _).mono ?_
    rintro e w2 ⟨rfl, q2⟩
    have Q : Hid (Below w.heap.size w w2) := Q.out.trans (q2.mono Q.out.size)
    clear q2
    go_wp2_with fail
    refine (isEnd_is st a n t HT.out _).mono ?_
    rintro e w9 ⟨rfl, hw9⟩
    obtain rfl := hw9.symm
    rw [HB.out]
    go_wp2
    go_ret
    exact ⟨rfl, Q.out⟩
  · obtain rfl : r = false := by
      rcases hr with ⟨_, q⟩ | ⟨q, _⟩
      · exact q
      · exact absurd q h0
    clear hf h0 h1 hr
    go_enter Tryz.func33, Tryz.ntmps33
    go_wp2_with fail
    refine (implTxnFault_any s c u st a n F _ _ (H.out.alloc _) hcap).mono ?_
    rintro e w1 ⟨rfl, q1⟩
    rw [HF.out]
    have Q : Hid (Below w.heap.size w w1) := (below_alloc _ _).trans (q1.mono (by simp))
    have K1 : Hid (Blk6 w1 w.heap.size (.int .i64 s) (.int .i64 c) (.int .i64 u) (.int .i64 st) (.int .i64 a) (.slice ao n cp)) := (Blk6.new w _ _ _ _ _ _ _).later q1
    obtain ⟨⟨k0, k1, k2, k3, k4, k5⟩, _⟩ := K1.out
    have hlt1 := K1.out.lt
    clear q1
    go_wp2
    go_ret
    exact ⟨rfl, Q.out⟩
end Go.Proofs.YtphfiojhpfdpdaaGreat

namespace Go.Proofs.YtphfiojhpfdpdaaGreat
open Go.RowKit

/-- Whether a transaction is over. -/
def overT (t : Tx) : Bool := decide (t.st = 4 ∨ t.st = 6 ∨ t.st = 7)
theorem world_txF {nw nx bd : Int} {nr : Nat} {F : Nat → Int} {n : Nat} {S : Nat → Sto} {nt : Nat} {T : Nat → Tx} (h : worldF nw nx bd nr F n S nt T = 0) : ∀ i, i < nt → txF (T i) = 0 := fun i hi => by
  unfold worldF at h
  split at h
  · omega
  split at h
  · rename_i q; exact absurd h q
  split at h
  · rename_i q; exact absurd h q
  split at h
  · omega
  have := scan_zero h i hi
  unfold placeF at this
  split at this
  · rename_i q; exact absurd this q
  · rename_i q; exact Decidable.not_not.1 q
set_option maxHeartbeats 1000000 in
theorem l8Over_at (b q : Nat) (s c u st a : Int) (m : Nat) (L : Nat → Int) (y : Value) (w : World) (h : LiesX w b q s c u st a m L y) :
    Calls Tryz.prog 27 #[.pointer (some ⟨b, q, none⟩)] w fun e w' => e = .returned (.bool (decide (st = 4 ∨ st = 6 ∨ st = 7))) ∧ w' = w := by
  obtain ⟨⟨_, _, _, k3, _, _⟩, _⟩ := h
  by_cases h4 : st = 4
  · subst h4
    go_enter Tryz.func27, Tryz.ntmps27
    go_wp2
    go_ret
    exact ⟨rfl, rfl⟩
  by_cases h6 : st = 6
  · subst h6
    go_enter Tryz.func27, Tryz.ntmps27
    go_wp2
    go_ret
    exact ⟨rfl, rfl⟩
  by_cases h7 : st = 7
  · subst h7
    go_enter Tryz.func27, Tryz.ntmps27
    go_wp2
    go_ret
    exact ⟨rfl, rfl⟩
  have E : Hid (decide (st = 4 ∨ st = 6 ∨ st = 7) = false) := decide_eq_false (by omega)
  have d4 : (st == 4) = false := beq_eq_false_iff_ne.2 h4
  have d6 : (st == 6) = false := beq_eq_false_iff_ne.2 h6
  have d7 : (st == 7) = false := beq_eq_false_iff_ne.2 h7
  clear h4 h6 h7
  go_enter Tryz.func27, Tryz.ntmps27
  go_wp2
  go_ret
  exact ⟨by rw [E.out]; rfl, rfl⟩
end Go.Proofs.YtphfiojhpfdpdaaGreat

namespace Go.Proofs.YtphfiojhpfdpdaaGreat
open Go.RowKit

/-- The transactions when the one in place p has left. -/
def leftT (T : Nat → Tx) (p i : Nat) : Tx := if i = p then { T i with st := 7 } else T i
theorem leftT_m (T : Nat → Tx) (p i : Nat) : (leftT T p i).m = (T i).m := by unfold leftT; split <;> rfl
theorem leftT_L (T : Nat → Tx) (p i : Nat) : (leftT T p i).L = (T i).L := by unfold leftT; split <;> rfl
theorem tvals_left (T : Nat → Tx) (Y : Nat → Value) (p : Nat) : ∀ n, tvals (leftT T p) Y n = if p < n then (tvals T Y n).set (p * 6 + 3) (.int .i64 7) else tvals T Y n := fun n => by
  apply List.ext_getElem?
  intro j
  by_cases hj : j < n * 6
  · have e1 := tvals_get (leftT T p) Y n (j / 6) (j % 6) (by omega) (by omega)
    have e2 := tvals_get T Y n (j / 6) (j % 6) (by omega) (by omega)
    rw [show j / 6 * 6 + j % 6 = j by omega] at e1 e2
    rw [e1]
    by_cases hp : p < n
    · rw [if_pos hp, List.getElem?_set]
      by_cases q : p * 6 + 3 = j
      · subst q
        rw [if_pos rfl, if_pos (by rw [tvals_length]; exact hj)]
        rw [show (p * 6 + 3) / 6 = p by omega, show (p * 6 + 3) % 6 = 3 by omega]
        unfold leftT
        rw [if_pos rfl]
        rfl
      · rw [if_neg q, e2]
        unfold leftT
        by_cases q2 : j / 6 = p
        · rw [if_pos q2]
          have q3 : j % 6 ≠ 3 := fun e => q (by omega)
          unfold txV
          simp only [q3, if_false]
        · rw [if_neg q2]
    · rw [if_neg hp, e2]
      unfold leftT
      rw [if_neg (by omega)]
  · rw [List.getElem?_eq_none (by rw [tvals_length]; omega)]
    by_cases hp : p < n
    · rw [if_pos hp, List.getElem?_eq_none (by rw [List.length_set, tvals_length]; omega)]
    · rw [if_neg hp, List.getElem?_eq_none (by rw [tvals_length]; omega)]
theorem WrkT.left {x : World} {B n : Nat} {T : Nat → Tx} {Y : Nat → Value} {g vc p : Nat} (h : WrkT x B n T Y (.slice (some ⟨g, 0, none⟩) n vc)) (hp : p < n) : WrkT (x.setCell ⟨g, p * 6 + 3, none⟩ (.int .i64 7)) B n (leftT T p) Y (.slice (some ⟨g, 0, none⟩) n vc) ∧ x.grownBy (x.setCell ⟨g, p * 6 + 3, none⟩ (.int .i64 7)) (some g) := by
  have hs := World.ownsRow.stored h.own (p * 6 + 3) (.int .i64 7)
  have hne : ∀ i, i < n → 0 < (T i).m → ∀ k, (Y i).ownBlock = some k → some k ≠ some g := fun i hi h0 k hk e => ((h.items i hi).2.2 h0 k hk).1 (by rw [Option.some.inj e]; rfl)
  refine ⟨⟨?_, fun i hi => ?_, fun i hi => ?_, fun i j hi hj hij h0 h1 => ?_⟩, hs.2⟩
  · rw [tvals_left, if_pos hp]
    exact hs.1
  · rw [leftT_m, leftT_L]
    exact ⟨(h.items i hi).1.turned hs.2 (hne i hi), (h.items i hi).2.1, fun h0 k hk => ⟨((h.items i hi).2.2 h0 k hk).1, Nat.lt_of_lt_of_le ((h.items i hi).2.2 h0 k hk).2 hs.2.size⟩⟩
  · rw [leftT_m]
    exact (h.free i hi).far _ _
  · rw [leftT_m] at h0 h1
    exact h.apart i j hi hj hij h0 h1
/-- The code that a place asks. -/
def plcF (f : Int) (nt : Nat) (pl : Int) : Int := if f ≠ 0 then f else if ¬ (0 ≤ pl ∧ pl < nt) then 3 else 0
set_option maxRecDepth 100000 in
set_option maxHeartbeats 4000000 in
theorem l10Place_is (b : Nat) (nw nx bd : Int) (nr : Nat) (F : Nat → Int) (n : Nat) (S : Nat → Sto) (V : Nat → Nat → Value) (vr vs : Value) (nt : Nat) (T : Nat → Tx) (X : Nat → Value) (vt : Value) (pl : Int) (w : World) (h : LiesD w b nw nx bd nr F n S V vr vs nt T X vt) (h16 : nt ≤ 16) :
    Calls Tryz.prog 53 #[.pointer (some ⟨b, 0, none⟩), .int .i64 pl] w fun e w' => e = .returned (.bool (decide (0 ≤ pl ∧ pl < nt))) ∧ w' = w := by
  obtain ⟨a2, c2, rfl⟩ := h.2.2.form
  obtain ⟨⟨⟨p0, p1, p2, p3, p4, p5⟩, _⟩, _⟩ := h
  obtain ⟨r, HR⟩ : ∃ r, Hid (decide (0 ≤ pl ∧ pl < (nt : Int)) = r) := ⟨_, rfl⟩
  have HI : Hid (decide (0 ≤ pl ∧ pl ≤ (nt : Int) - 1) = r) := by
    unfold Hid
    rw [← HR.out]
    exact decide_eq_decide.2 (by omega)
  have hwr : IntKind.i64.wrap ((nt : Int) - 1) = (nt : Int) - 1 := by simp [IntKind.wrap, IntKind.bits, IntKind.signed]; omega
  go_enter Tryz.func53, Tryz.ntmps53
  go_wp2_with fail
  refine (l1In_is pl 0 ((nt : Int) - 1) r HI.out _).mono ?_
  rintro e wx ⟨rfl, hwx⟩
  obtain rfl := hwx.symm
  go_wp2
  go_ret
  exact ⟨by rw [HR.out]; rfl, rfl⟩
set_option maxRecDepth 100000 in
set_option maxHeartbeats 4000000 in
theorem l10Asked_is (b : Nat) (nw nx bd : Int) (nr : Nat) (F : Nat → Int) (n : Nat) (S : Nat → Sto) (V : Nat → Nat → Value) (vr vs : Value) (nt : Nat) (T : Nat → Tx) (X : Nat → Value) (vt : Value) (pl : Int) (w : World) (h : LiesD w b nw nx bd nr F n S V vr vs nt T X vt) (hr : nr ≤ 9223372036854775807) (hn : n ≤ 9223372036854775807) (ht : nt ≤ 9223372036854775807) (hm : ∀ i, i < nt → (T i).m ≤ 9223372036854775807) :
    Calls Tryz.prog 25 #[.pointer (some ⟨b, 0, none⟩), .int .i64 pl] w fun e w' => e = .returned (.int .i64 (plcF (worldF nw nx bd nr F n S nt T) nt pl)) ∧ Below w.heap.size w w' := by
  have H : Hid (LiesD w b nw nx bd nr F n S V vr vs nt T X vt) := h
  have HM : Hid (∀ i, i < nt → (T i).m ≤ 9223372036854775807) := hm
  clear h hm
  obtain ⟨f, E⟩ : ∃ f, Hid (worldF nw nx bd nr F n S nt T = f) := ⟨_, rfl⟩
  by_cases hf : f = 0
  · have H16 : Hid (nt ≤ 16) := (world_fine (E.out.trans hf)).2.1
    subst hf
    obtain ⟨r, HR⟩ : ∃ r, Hid (decide (0 ≤ pl ∧ pl < (nt : Int)) = r) := ⟨_, rfl⟩
    go_enter Tryz.func25, Tryz.ntmps25
    go_wp2_with fail
    refine (l10Fault_any _ nw nx bd nr F n S V _ _ nt T X _ _ H.out hr hn ht HM.out).mono ?_
    rw [E.out]
    rintro e w1 ⟨rfl, q1⟩
    have H1 : Hid (LiesD w1 b nw nx bd nr F n S V vr vs nt T X vt ∧ Below w.heap.size w w1) := ⟨H.out.later q1, q1⟩
    clear q1
    go_wp2_with fail
    refine (l10Place_is b nw nx bd nr F n S V _ _ nt T X _ pl _ H1.out.1 H16.out).mono ?_
    rw [HR.out]
    rintro e wx ⟨rfl, hwx⟩
    obtain rfl := hwx.symm
    cases r
    · have EA : Hid (plcF 0 nt pl = 3) := by unfold Hid plcF; rw [if_neg (by decide), if_pos (decide_eq_false_iff_not.1 HR.out)]
      go_wp2
      go_ret
      exact ⟨by rw [E.out, EA.out]; rfl, H1.out.2⟩
    · have EA : Hid (plcF 0 nt pl = 0) := by unfold Hid plcF; rw [if_neg (by decide), if_neg (fun q => q (decide_eq_true_iff.1 HR.out))]
      go_wp2
      go_ret
      exact ⟨by rw [E.out, EA.out]; rfl, H1.out.2⟩
  · have d : (f != 0) = true := bne_iff_ne.2 hf
    have EA : Hid (plcF f nt pl = f) := by unfold Hid plcF; rw [if_pos hf]
    go_enter Tryz.func25, Tryz.ntmps25
    go_wp2_with fail
    refine (l10Fault_any _ nw nx bd nr F n S V _ _ nt T X _ _ H.out hr hn ht HM.out).mono ?_
    rw [E.out]
    rintro e w1 ⟨rfl, q1⟩
    have Q : Hid (Below w.heap.size w w1) := q1
    clear q1
    go_wp2
    go_ret
    exact ⟨by rw [E.out, EA.out]; rfl, Q.out⟩
set_option maxRecDepth 100000 in
set_option maxHeartbeats 4000000 in
theorem askPlace_is (nw nx bd : Int) (nr : Nat) (F : Nat → Int) (n : Nat) (S : Nat → Sto) (V : Nat → Nat → Value) (vr vs : Value) (nt : Nat) (T : Nat → Tx) (X : Nat → Value) (vt : Value) (pl : Int) (w : World) (h : Grs w 0 nr F n S V vr vs) (hx : Txs w 0 nt T X vt) (hr : nr ≤ 9223372036854775807) (hn : n ≤ 9223372036854775807) (ht : nt ≤ 9223372036854775807) :
    Calls Tryz.prog 32 #[.agg #[.int .i64 nw, .int .i64 nx, .int .i64 bd, vr, vs, vt], .int .i64 pl] w fun e w' => e = .returned (.int .i64 (plcF (worldF nw nx bd nr F n S nt T) nt pl)) ∧ Below w.heap.size w w' := by
  obtain ⟨a0, c0, a1, c1, rfl, rfl⟩ := h.form
  obtain ⟨a2, c2, rfl⟩ := hx.form
  have H0 : Hid (LiesD (w.alloc (.cells #[.int .i64 nw, .int .i64 nx, .int .i64 bd, .slice a0 nr c0, .slice a1 n c1, .slice a2 nt c2] 39)) w.heap.size nw nx bd nr F n S V (.slice a0 nr c0) (.slice a1 n c1) nt T X (.slice a2 nt c2) ∧ Below w.heap.size w (w.alloc (.cells #[.int .i64 nw, .int .i64 nx, .int .i64 bd, .slice a0 nr c0, .slice a1 n c1, .slice a2 nt c2] 39))) := ⟨⟨Blk6.new w _ _ _ _ _ _ _, h.alloc _, hx.alloc _⟩, below_alloc _ _⟩
  clear h hx
  obtain ⟨f, E⟩ : ∃ f, Hid (worldF nw nx bd nr F n S nt T = f) := ⟨_, rfl⟩
  obtain ⟨⟨k0, k1, k2, k3, k4, k5⟩, _⟩ := H0.out.1.1
  go_enter Tryz.func32, Tryz.ntmps32
  go_wp2_with fail
  refine (implWorldFault_any nw nx bd nr F n S V _ _ nt T X _ 0 _ H0.out.1.2.1 H0.out.1.2.2 hr hn ht).mono ?_
  rw [E.out]
  rintro e w1 ⟨rfl, q1⟩
  obtain ⟨⟨⟨j0, j1, j2, j3, j4, j5⟩, _⟩, _⟩ := H0.out.1.later q1
  have Q : Hid (Below w.heap.size w w1) := H0.out.2.trans (q1.mono H0.out.2.size)
  clear q1 H0 k0 k1 k2 k3 k4 k5
  by_cases hf : f = 0
  · subst hf
    by_cases hneg : pl < 0
    · have d0 : decide (pl < 0) = true := decide_eq_true hneg
      have EA : Hid (plcF 0 nt pl = 3) := by unfold Hid plcF; rw [if_neg (by decide), if_pos (by omega)]
      go_wp2
      go_ret
      exact ⟨by rw [E.out, EA.out]; rfl, Q.out⟩
    have d0 : decide (pl < 0) = false := decide_eq_false hneg
    by_cases hbig : (nt : Int) ≤ pl
    · have d1 : decide (pl ≥ (nt : Int)) = true := decide_eq_true hbig
      have d1' : decide ((nt : Int) ≤ pl) = true := decide_eq_true hbig
      have EA : Hid (plcF 0 nt pl = 3) := by unfold Hid plcF; rw [if_neg (by decide), if_pos (by omega)]
      go_wp2
      go_ret
      exact ⟨by rw [E.out, EA.out]; rfl, Q.out⟩
    · have d1 : decide (pl ≥ (nt : Int)) = false := decide_eq_false hbig
      have d1' : decide ((nt : Int) ≤ pl) = false := decide_eq_false hbig
      have EA : Hid (plcF 0 nt pl = 0) := by unfold Hid plcF; rw [if_neg (by decide), if_neg (by omega)]
      go_wp2
      go_ret
      exact ⟨by rw [E.out, EA.out]; rfl, Q.out⟩
  · have d : (f != 0) = true := bne_iff_ne.2 hf
    have EA : Hid (plcF f nt pl = f) := by unfold Hid plcF; rw [if_pos hf]
    go_wp2
    go_ret
    exact ⟨by rw [E.out, EA.out]; rfl, Q.out⟩
end Go.Proofs.YtphfiojhpfdpdaaGreat

namespace Go.Proofs.YtphfiojhpfdpdaaGreat
open Go.RowKit

/-- What LeaveWorld answers. -/
def LeaveAns (nw nx bd : Int) (nr : Nat) (F : Nat → Int) (n : Nat) (S : Nat → Sto) (nt : Nat) (T : Nat → Tx) (pl c : Int) (mv : Bool) (nw' nx' bd' : Int) (nr' n' nt' : Nat) : Prop :=
  (plcF (worldF nw nx bd nr F n S nt T) nt pl ≠ 0 ∧ c = plcF (worldF nw nx bd nr F n S nt T) nt pl ∧ (mv = false ∧ nw' = 0 ∧ nx' = 0 ∧ bd' = 0 ∧ nr' = 0 ∧ n' = 0 ∧ nt' = 0)) ∨
  (plcF (worldF nw nx bd nr F n S nt T) nt pl = 0 ∧ overT (T pl.toNat) = true ∧ c = 10 ∧ (mv = false ∧ nw' = 0 ∧ nx' = 0 ∧ bd' = 0 ∧ nr' = 0 ∧ n' = 0 ∧ nt' = 0)) ∨
  (plcF (worldF nw nx bd nr F n S nt T) nt pl = 0 ∧ overT (T pl.toNat) = false ∧ c = 0 ∧ (mv = true ∧ nw' = nw ∧ nx' = nx ∧ bd' = bd ∧ nr' = nr ∧ n' = n ∧ nt' = nt))
theorem LeaveAns.get (nw nx bd : Int) (nr : Nat) (F : Nat → Int) (n : Nat) (S : Nat → Sto) (nt : Nat) (T : Nat → Tx) (pl : Int) : ∃ c mv nw' nx' bd' nr' n' nt', (nr' ≤ nr ∧ n' ≤ n ∧ nt' ≤ nt) ∧ LeaveAns nw nx bd nr F n S nt T pl c mv nw' nx' bd' nr' n' nt' := by
  by_cases h : plcF (worldF nw nx bd nr F n S nt T) nt pl = 0
  · cases q : overT (T pl.toNat)
    · exact ⟨_, _, _, _, _, _, _, _, ⟨Nat.le_refl _, Nat.le_refl _, Nat.le_refl _⟩, Or.inr (Or.inr ⟨h, q, rfl, rfl, rfl, rfl, rfl, rfl, rfl, rfl⟩)⟩
    · exact ⟨_, _, _, _, _, _, _, _, ⟨Nat.zero_le _, Nat.zero_le _, Nat.zero_le _⟩, Or.inr (Or.inl ⟨h, q, rfl, rfl, rfl, rfl, rfl, rfl, rfl, rfl⟩)⟩
  · exact ⟨_, _, _, _, _, _, _, _, ⟨Nat.zero_le _, Nat.zero_le _, Nat.zero_le _⟩, Or.inl ⟨h, rfl, rfl, rfl, rfl, rfl, rfl, rfl, rfl⟩⟩
theorem plcF_zero {f : Int} {nt : Nat} {pl : Int} (h : plcF f nt pl = 0) : f = 0 ∧ 0 ≤ pl ∧ pl < nt := by
  unfold plcF at h
  split at h
  · rename_i q; exact absurd h q
  · rename_i q
    split at h
    · omega
    · rename_i q2; exact ⟨Decidable.not_not.1 q, Decidable.not_not.1 q2⟩
theorem WrkT.slot {x : World} {B n : Nat} {T : Nat → Tx} {Y : Nat → Value} {v : Value} (h : WrkT x B n T Y v) (hn : 0 < n) : ∃ g vc cur, v = .slice (some ⟨g, 0, none⟩) n vc ∧ B ≤ g ∧ x.heap[g]? = some (.cells cur 69 (0, 0)) ∧ n * 6 ≤ cur.size := by
  rcases h.own.2 with ⟨_, rfl⟩ | ⟨g, cap, cur, e, hB, hg, h1, _, h2, _⟩
  · omega
  · exact ⟨g, cap, cur, e, hB, hg, by omega⟩
set_option maxRecDepth 100000 in
set_option maxHeartbeats 8000000 in
theorem specLeave_is (nw nx bd : Int) (nr : Nat) (F : Nat → Int) (n : Nat) (S : Nat → Sto) (V : Nat → Nat → Value) (vr vs : Value) (nt : Nat) (T : Nat → Tx) (X : Nat → Value) (vt : Value) (pl : Int) (B : Nat) (c : Int) (mv : Bool) (nw' nx' bd' : Int) (nr' n' nt' : Nat) (w : World) (h : Grs w B nr F n S V vr vs) (hx : Txs w B nt T X vt) (hr : nr ≤ 9223372036854775807) (hn : n ≤ 9223372036854775807) (ht : nt ≤ 9223372036854775807) (hm : ∀ i, i < nt → (T i).m ≤ 9223372036854775807) (hA : LeaveAns nw nx bd nr F n S nt T pl c mv nw' nx' bd' nr' n' nt') :
    Calls Tryz.prog 6 #[.agg #[.int .i64 nw, .int .i64 nx, .int .i64 bd, vr, vs, vt], .int .i64 pl] w (ResWR w c mv nw' nx' bd' nr' F n' S nt' (leftT T pl.toNat)) := by
  obtain ⟨a0, c0, a1, c1, rfl, rfl⟩ := h.form
  obtain ⟨a2, c2, rfl⟩ := hx.form
  have HM : Hid (∀ i, i < nt → (T i).m ≤ 9223372036854775807) := hm
  have H0 : Hid (LiesD ((w.alloc (.cells #[.int .i64 nw, .int .i64 nx, .int .i64 bd, .slice a0 nr c0, .slice a1 n c1, .slice a2 nt c2] 39)).alloc (.cells #[.int .i64 0, .bool false, .int .i64 0, .int .i64 0, .int .i64 0, .slice none 0 0, .slice none 0 0, .slice none 0 0] 41)) w.heap.size nw nx bd nr F n S V (.slice a0 nr c0) (.slice a1 n c1) nt T X (.slice a2 nt c2) ∧ BlkZ ((w.alloc (.cells #[.int .i64 nw, .int .i64 nx, .int .i64 bd, .slice a0 nr c0, .slice a1 n c1, .slice a2 nt c2] 39)).alloc (.cells #[.int .i64 0, .bool false, .int .i64 0, .int .i64 0, .int .i64 0, .slice none 0 0, .slice none 0 0, .slice none 0 0] 41)) (w.heap.size + 1) (.int .i64 0) (.bool false) (.int .i64 0) (.int .i64 0) (.int .i64 0) (.slice none 0 0) (.slice none 0 0) (.slice none 0 0) ∧ Below w.heap.size w ((w.alloc (.cells #[.int .i64 nw, .int .i64 nx, .int .i64 bd, .slice a0 nr c0, .slice a1 n c1, .slice a2 nt c2] 39)).alloc (.cells #[.int .i64 0, .bool false, .int .i64 0, .int .i64 0, .int .i64 0, .slice none 0 0, .slice none 0 0, .slice none 0 0] 41))) := ⟨⟨(Blk6.new w _ _ _ _ _ _ _).alloc _, ((h.mono (Nat.zero_le _)).alloc _).alloc _, ((hx.mono (Nat.zero_le _)).alloc _).alloc _⟩, by have := BlkZ.new (w.alloc (.cells #[.int .i64 nw, .int .i64 nx, .int .i64 bd, .slice a0 nr c0, .slice a1 n c1, .slice a2 nt c2] 39)) (.int .i64 0) (.bool false) (.int .i64 0) (.int .i64 0) (.int .i64 0) (.slice none 0 0) (.slice none 0 0) (.slice none 0 0) 41; simpa using this, (below_alloc _ _).alloc (by simp) _⟩
  clear h hx hm
  obtain ⟨f, E⟩ : ∃ f, Hid (worldF nw nx bd nr F n S nt T = f) := ⟨_, rfl⟩
  obtain ⟨c1', EA⟩ : ∃ c1', Hid (plcF (worldF nw nx bd nr F n S nt T) nt pl = c1') := ⟨_, rfl⟩
  rcases hA with ⟨h1, rfl, rfl, rfl, rfl, rfl, rfl, rfl, rfl⟩ | ⟨h1, hv, rfl, rfl, rfl, rfl, rfl, rfl, rfl, rfl⟩ | ⟨h1, hv, rfl, rfl, ew, ex, eb, er, en, et⟩
  · rw [EA.out] at h1
    have d : (c1' != 0) = true := bne_iff_ne.2 h1
    rw [EA.out]
    clear h1
    go_enter Tryz.func6, Tryz.ntmps6
    go_wp2_with fail
    refine (l10Asked_is _ nw nx bd nr F n S V _ _ nt T X _ _ _ H0.out.1 hr hn ht HM.out).mono ?_
    rw [EA.out]
    rintro e w1 ⟨rfl, q1⟩
    have H1 : Hid (LiesD w1 w.heap.size nw nx bd nr F n S V (.slice a0 nr c0) (.slice a1 n c1) nt T X (.slice a2 nt c2) ∧ BlkZ w1 (w.heap.size + 1) (.int .i64 0) (.bool false) (.int .i64 0) (.int .i64 0) (.int .i64 0) (.slice none 0 0) (.slice none 0 0) (.slice none 0 0) ∧ Below w.heap.size w w1) := ⟨H0.out.1.later q1, H0.out.2.1.later q1, H0.out.2.2.trans (q1.mono (by simp; omega))⟩
    clear q1 H0
    go_wp2_with fail
    refine (l10Bad_is c1' _).mono ?_
    rintro e w2 ⟨rfl, q2⟩
    have HX : Hid (BlkZ w2 (w.heap.size + 1) (.int .i64 0) (.bool false) (.int .i64 0) (.int .i64 0) (.int .i64 0) (.slice none 0 0) (.slice none 0 0) (.slice none 0 0)) := H1.out.2.1.later q2
    have HB : Hid (Below w.heap.size w w2) := H1.out.2.2.trans (q2.mono H1.out.2.2.size)
    clear q2 H1
    obtain ⟨⟨⟨k0, k1, k2, k3, k4, k5, k6, k7⟩, _⟩, fz⟩ := HX.out
    have HP := hid_mkW (HX.out.1.put (.int .i64 c1') (.bool false) (.int .i64 0) (.int .i64 0) (.int .i64 0) (.slice none 0 0) (.slice none 0 0) (.slice none 0 0))
    have f0 := fz 0 (by decide)
    have f1 := fz 1 (by decide)
    have f2 := fz 2 (by decide)
    have f3 := fz 3 (by decide)
    have f4 := fz 4 (by decide)
    have f5 := fz 5 (by decide)
    have f6 := fz 6 (by decide)
    have f7 := fz 7 (by decide)
    clear fz
    go_wp2
    obtain ⟨q0, q1, q2, q3, q4, q5, q6, q7⟩ := HP.out
    unfold put8 at q0 q1 q2 q3 q4 q5 q6 q7
    exact bodyPost_ret (v := .agg #[.int .i64 c1', .bool false, .int .i64 0, .int .i64 0, .int .i64 0, .slice none 0 0, .slice none 0 0, .slice none 0 0]) (by simp [results, Tryz.results6, go_sem, q0, q1, q2, q3, q4, q5, q6, q7]) rfl (ResWG.none rfl (below_put8 HB.out (Nat.le_succ _) _ _ _ _ _ _ _ _)).read
  · obtain ⟨hz, hp0, hp1⟩ := plcF_zero h1
    obtain rfl : c1' = 0 := EA.out.symm.trans h1
    obtain ⟨p, rfl⟩ : ∃ p : Nat, pl = p := ⟨pl.toNat, by omega⟩
    rw [Int.toNat_natCast] at hv
    have hp : p < nt := by omega
    have HV : Hid (decide ((T p).st = 4 ∨ (T p).st = 6 ∨ (T p).st = 7) = true) := hv
    have HTF : Hid (txF (T p) = 0) := world_txF hz p hp
    clear h1 hv hz hp0 hp1
    go_enter Tryz.func6, Tryz.ntmps6
    go_wp2_with fail
    refine (l10Asked_is _ nw nx bd nr F n S V _ _ nt T X _ _ _ H0.out.1 hr hn ht HM.out).mono ?_
    rw [EA.out]
    rintro e w1 ⟨rfl, q1⟩
    have H1 : Hid (LiesD w1 w.heap.size nw nx bd nr F n S V (.slice a0 nr c0) (.slice a1 n c1) nt T X (.slice a2 nt c2) ∧ BlkZ w1 (w.heap.size + 1) (.int .i64 0) (.bool false) (.int .i64 0) (.int .i64 0) (.int .i64 0) (.slice none 0 0) (.slice none 0 0) (.slice none 0 0) ∧ Below w.heap.size w w1) := ⟨H0.out.1.later q1, H0.out.2.1.later q1, H0.out.2.2.trans (q1.mono (by simp; omega))⟩
    clear q1 H0
    obtain ⟨⟨p0, p1, p2, p3, p4, p5⟩, _⟩ := H1.out.1.1
    obtain ⟨gx, ox, eax, hgx, LX⟩ := H1.out.1.2.2.lies hp
    obtain rfl := eax
    have LX : Hid (LiesX w1 gx (ox + p * 6) (T p).s (T p).c (T p).u (T p).st (T p).a (T p).m (T p).L (X p)) := LX
    go_wp2_with fail
    refine (l8Over_at gx (ox + p * 6) _ _ _ _ _ _ _ _ _ LX.out).mono ?_
    rw [HV.out]
    rintro e wx ⟨rfl, hwx⟩
    obtain rfl := hwx.symm
    clear LX hgx
    clear p0 p1 p2 p3 p4 p5
    go_wp2_with fail
    refine (l10Bad_is 10 _).mono ?_
    rintro e w2 ⟨rfl, q2⟩
    have HX : Hid (BlkZ w2 (w.heap.size + 1) (.int .i64 0) (.bool false) (.int .i64 0) (.int .i64 0) (.int .i64 0) (.slice none 0 0) (.slice none 0 0) (.slice none 0 0)) := H1.out.2.1.later q2
    have HB : Hid (Below w.heap.size w w2) := H1.out.2.2.trans (q2.mono H1.out.2.2.size)
    clear q2 H1
    obtain ⟨⟨⟨k0, k1, k2, k3, k4, k5, k6, k7⟩, _⟩, fz⟩ := HX.out
    have HP := hid_mkW (HX.out.1.put (.int .i64 10) (.bool false) (.int .i64 0) (.int .i64 0) (.int .i64 0) (.slice none 0 0) (.slice none 0 0) (.slice none 0 0))
    have f0 := fz 0 (by decide)
    have f1 := fz 1 (by decide)
    have f2 := fz 2 (by decide)
    have f3 := fz 3 (by decide)
    have f4 := fz 4 (by decide)
    have f5 := fz 5 (by decide)
    have f6 := fz 6 (by decide)
    have f7 := fz 7 (by decide)
    clear fz
    go_wp2
    obtain ⟨q0, q1, q2, q3, q4, q5, q6, q7⟩ := HP.out
    unfold put8 at q0 q1 q2 q3 q4 q5 q6 q7
    exact bodyPost_ret (v := .agg #[.int .i64 10, .bool false, .int .i64 0, .int .i64 0, .int .i64 0, .slice none 0 0, .slice none 0 0, .slice none 0 0]) (by simp [results, Tryz.results6, go_sem, q0, q1, q2, q3, q4, q5, q6, q7]) rfl (ResWG.none rfl (below_put8 HB.out (Nat.le_succ _) _ _ _ _ _ _ _ _)).read
  · obtain ⟨hz, hp0, hp1⟩ := plcF_zero h1
    obtain rfl := ew.symm
    obtain rfl := eb.symm
    obtain rfl := ex.symm
    obtain rfl := er.symm
    obtain rfl := en.symm
    obtain rfl := et.symm
    have Z := world_fine hz
    have ZG := groupsF_zero Z.1
    have HZ : Hid ((n = nr ∧ 0 < nr ∧ nr ≤ 12 ∧ n ≤ 12) ∧ (∀ i, i < n → storeF (S i) = 0) ∧ nt ≤ 16 ∧ (∀ i, i < nt → 1 ≤ (T i).m ∧ (T i).m ≤ 12) ∧ ∀ i, i < n → (S i).nc ≤ 1048576 ∧ (S i).nl ≤ 1048576 ∧ (S i).nw ≤ 1048576) := ⟨⟨ZG.2.1, ZG.1.n1, by have := ZG.1.n6; omega, by have := ZG.1.n6; have := ZG.2.1; omega⟩, fun i hi => (ZG.2.2.1 i hi).1, Z.2.1, fun i hi => (Z.2.2 i hi).1, fun i hi => by have := (storeF_zero (ZG.2.2.1 i hi).1).1; omega⟩
    obtain rfl : c1' = 0 := EA.out.symm.trans h1
    obtain ⟨p, rfl⟩ : ∃ p : Nat, pl = p := ⟨pl.toNat, by omega⟩
    rw [Int.toNat_natCast] at hv ⊢
    have hp : p < nt := by omega
    have h16 : nt ≤ 16 := Z.2.1
    have HV : Hid (decide ((T p).st = 4 ∨ (T p).st = 6 ∨ (T p).st = 7) = false) := hv
    have HTF : Hid (txF (T p) = 0) := world_txF hz p hp
    clear h1 hv hz hp0 hp1 Z ZG
    go_enter Tryz.func6, Tryz.ntmps6
    go_wp2_with fail
    refine (l10Asked_is _ nw nx bd nr F n S V _ _ nt T X _ _ _ H0.out.1 hr hn ht HM.out).mono ?_
    rw [EA.out]
    rintro e w1 ⟨rfl, q1⟩
    have H1 : Hid (LiesD w1 w.heap.size nw nx bd nr F n S V (.slice a0 nr c0) (.slice a1 n c1) nt T X (.slice a2 nt c2) ∧ BlkZ w1 (w.heap.size + 1) (.int .i64 0) (.bool false) (.int .i64 0) (.int .i64 0) (.int .i64 0) (.slice none 0 0) (.slice none 0 0) (.slice none 0 0) ∧ Below w.heap.size w w1) := ⟨H0.out.1.later q1, H0.out.2.1.later q1, H0.out.2.2.trans (q1.mono (by simp; omega))⟩
    clear q1 H0
    obtain ⟨⟨p0, p1, p2, p3, p4, p5⟩, _⟩ := H1.out.1.1
    obtain ⟨gx, ox, eax, hgx, LX⟩ := H1.out.1.2.2.lies hp
    obtain rfl := eax
    have LX : Hid (LiesX w1 gx (ox + p * 6) (T p).s (T p).c (T p).u (T p).st (T p).a (T p).m (T p).L (X p)) := LX
    go_wp2_with fail
    refine (l8Over_at gx (ox + p * 6) _ _ _ _ _ _ _ _ _ LX.out).mono ?_
    rw [HV.out]
    rintro e wx ⟨rfl, hwx⟩
    obtain rfl := hwx.symm
    clear LX hgx
    go_wp2_with fail
    refine (l10Copy_own nw nx bd nr F n S V _ _ nt T X _ 0 _ H1.out.1.2.1 H1.out.1.2.2 ⟨HZ.out.1.2.1, HZ.out.1.2.2.1⟩ HZ.out.1.2.2.2 HZ.out.2.2.2.2 HZ.out.2.2.1 HZ.out.2.2.2.1).mono ?_
    rintro e w2 ⟨xr, vS, U, Y, v, rfl, ⟨B2, hl, hT, hg⟩, q2⟩
    obtain ⟨xa, xc, sa, sc, rfl, rfl⟩ := (hg w2 (Nat.le_refl _) (fun _ _ _ => rfl)).form
    obtain ⟨g, vc, cur, rfl, hBg, hgc, hcz⟩ := hT.slot (Nat.lt_of_le_of_lt (Nat.zero_le _) hp)
    have hg2 : g < w2.heap.size := (Array.getElem?_eq_some_iff.1 hgc).1
    have hlz : w.heap.size + 1 < w1.heap.size := H1.out.2.1.1.2
    have hW := below_alloc w2 (.cells #[.int .i64 nw, .int .i64 nx, .int .i64 bd, .slice xa nr xc, .slice sa n sc, .slice (some ⟨g, 0, none⟩) nt vc] 39)
    have HX1 : Hid (BlkZ (w2.alloc (.cells #[.int .i64 nw, .int .i64 nx, .int .i64 bd, .slice xa nr xc, .slice sa n sc, .slice (some ⟨g, 0, none⟩) nt vc] 39)) (w.heap.size + 1) (.int .i64 0) (.bool false) (.int .i64 0) (.int .i64 0) (.int .i64 0) (.slice none 0 0) (.slice none 0 0) (.slice none 0 0) ∧ Below w.heap.size w (w2.alloc (.cells #[.int .i64 nw, .int .i64 nx, .int .i64 bd, .slice xa nr xc, .slice sa n sc, .slice (some ⟨g, 0, none⟩) nt vc] 39)) ∧ Blk6 (w2.alloc (.cells #[.int .i64 nw, .int .i64 nx, .int .i64 bd, .slice xa nr xc, .slice sa n sc, .slice (some ⟨g, 0, none⟩) nt vc] 39)) w2.heap.size (.int .i64 nw) (.int .i64 nx) (.int .i64 bd) (.slice xa nr xc) (.slice sa n sc) (.slice (some ⟨g, 0, none⟩) nt vc) ∧ WrkT (w2.alloc (.cells #[.int .i64 nw, .int .i64 nx, .int .i64 bd, .slice xa nr xc, .slice sa n sc, .slice (some ⟨g, 0, none⟩) nt vc] 39)) B2 nt T Y (.slice (some ⟨g, 0, none⟩) nt vc)) := ⟨(H1.out.2.1.later q2).later hW, (H1.out.2.2.trans (q2.mono H1.out.2.2.size)).alloc (Nat.le_trans H1.out.2.2.size q2.size) _, Blk6.new w2 _ _ _ _ _ _ _, hT.later hW⟩
    have HGL : Hid (∀ x : World, w2.heap.size ≤ x.heap.size → (∀ q, w1.heap.size ≤ q → q < B2 → x.heap[q]? = (w2.alloc (.cells #[.int .i64 nw, .int .i64 nx, .int .i64 bd, .slice xa nr xc, .slice sa n sc, .slice (some ⟨g, 0, none⟩) nt vc] 39)).heap[q]?) → Grs x w1.heap.size nr F n S U (.slice xa nr xc) (.slice sa n sc)) := fun x h1 h2 => hg x h1 (fun q h3 h4 => (h2 q h3 h4).trans (hW.block q (by omega)))
    have hgy : (w2.alloc (.cells #[.int .i64 nw, .int .i64 nx, .int .i64 bd, .slice xa nr xc, .slice sa n sc, .slice (some ⟨g, 0, none⟩) nt vc] 39)).heap[g]? = some (.cells cur 69 (0, 0)) := (hW.block g hg2).trans hgc
    have hzy : w2.heap.size < (w2.alloc (.cells #[.int .i64 nw, .int .i64 nx, .int .i64 bd, .slice xa nr xc, .slice sa n sc, .slice (some ⟨g, 0, none⟩) nt vc] 39)).heap.size := by simp
    clear hg hT q2 H1 p0 p1 p2 p3 p4 p5 hW hgc
    go_upto_region 7 with fail
    generalize (w2.alloc (.cells #[.int .i64 nw, .int .i64 nx, .int .i64 bd, .slice xa nr xc, .slice sa n sc, .slice (some ⟨g, 0, none⟩) nt vc] 39)) = wy at HX1 HGL hgy hzy ⊢
    go_cut [6] (fun pp wx => pp = .pointer (some ⟨w2.heap.size, 0, none⟩) ∧ Hid (BlkZ wx (w.heap.size + 1) (.int .i64 0) (.bool false) (.int .i64 0) (.int .i64 0) (.int .i64 0) (.slice none 0 0) (.slice none 0 0) (.slice none 0 0) ∧ Below w.heap.size w wx ∧ Grs wx w1.heap.size nr F n S U (.slice xa nr xc) (.slice sa n sc) ∧ Txs wx B2 nt (leftT T p) Y (.slice (some ⟨g, 0, none⟩) nt vc) ∧ Blk6 wx w2.heap.size (.int .i64 nw) (.int .i64 nx) (.int .i64 bd) (.slice xa nr xc) (.slice sa n sc) (.slice (some ⟨g, 0, none⟩) nt vc)))
    case first =>
      obtain ⟨⟨o0, o1, o2, o3, o4, o5⟩, _⟩ := HX1.out.2.2.1
      have hc3 : wy.cell? ⟨g, p * 6 + 3, none⟩ = some (.int .i64 (T p).st) := by
        rw [World.ownsRow.cellAt HX1.out.2.2.2.own _ (by omega), tvals_get T Y nt p 3 hp (by omega)]
        rfl
      have hf3 : wy.frozen? ⟨g, p * 6 + 3, none⟩ = false := World.ownsRow.frozenAt HX1.out.2.2.2.own _
      have hq : ∀ q, q ≠ g → (wy.setCell ⟨g, p * 6 + 3, none⟩ (.int .i64 7)).heap[q]? = wy.heap[q]? := fun q h => Below.heap_setCell wy ⟨g, p * 6 + 3, none⟩ _ q h
      have hsz : wy.heap.size ≤ (wy.setCell ⟨g, p * 6 + 3, none⟩ (.int .i64 7)).heap.size := by simp [World.setCell]
      have HFIN : Hid (BlkZ (wy.setCell ⟨g, p * 6 + 3, none⟩ (.int .i64 7)) (w.heap.size + 1) (.int .i64 0) (.bool false) (.int .i64 0) (.int .i64 0) (.int .i64 0) (.slice none 0 0) (.slice none 0 0) (.slice none 0 0) ∧ Below w.heap.size w (wy.setCell ⟨g, p * 6 + 3, none⟩ (.int .i64 7)) ∧ Grs (wy.setCell ⟨g, p * 6 + 3, none⟩ (.int .i64 7)) w1.heap.size nr F n S U (.slice xa nr xc) (.slice sa n sc) ∧ Txs (wy.setCell ⟨g, p * 6 + 3, none⟩ (.int .i64 7)) B2 nt (leftT T p) Y (.slice (some ⟨g, 0, none⟩) nt vc) ∧ Blk6 (wy.setCell ⟨g, p * 6 + 3, none⟩ (.int .i64 7)) w2.heap.size (.int .i64 nw) (.int .i64 nx) (.int .i64 bd) (.slice xa nr xc) (.slice sa n sc) (.slice (some ⟨g, 0, none⟩) nt vc)) := by
        refine ⟨⟨HX1.out.1.1.kept (hq (w.heap.size + 1) (by omega)) hsz, fun j hj => (World.frozen?_of_block (w := wy) (a := ⟨w.heap.size + 1, j, none⟩) (hq (w.heap.size + 1) (by omega))).trans (HX1.out.1.2 j hj)⟩, HX1.out.2.1.setCell (by show w.heap.size ≤ g; omega) _, ?_, (HX1.out.2.2.2.left hp).1.txs, HX1.out.2.2.1.kept (hq w2.heap.size (by omega))⟩
        exact HGL.out _ (by omega) (fun q h1 h2 => hq q (by omega))
      go_wp2_with fail
      go_meet
      case rel => exact ⟨rfl, HFIN⟩
    case rest =>
      obtain ⟨rfl, HY⟩ := hcut
      have HX := hid_mkW HY.out.1
      have HB := hid_mkW (And.intro HY.out.2.1 (And.intro HY.out.2.2.1 HY.out.2.2.2.1))
      obtain ⟨⟨o0, o1, o2, o3, o4, o5⟩, _⟩ := HY.out.2.2.2.2
      clear HY HX1 HGL hgy
      obtain ⟨⟨⟨k0, k1, k2, k3, k4, k5, k6, k7⟩, _⟩, fz⟩ := HX.out
      have HP := hid_mkW (HX.out.1.put (.int .i64 0) (.bool true) (.int .i64 nw) (.int .i64 nx) (.int .i64 bd) (.slice xa nr xc) (.slice sa n sc) (.slice (some ⟨g, 0, none⟩) nt vc))
      have f0 := fz 0 (by decide)
      have f1 := fz 1 (by decide)
      have f2 := fz 2 (by decide)
      have f3 := fz 3 (by decide)
      have f4 := fz 4 (by decide)
      have f5 := fz 5 (by decide)
      have f6 := fz 6 (by decide)
      have f7 := fz 7 (by decide)
      clear fz
      go_wp2
      obtain ⟨q0, q1, q2, q3, q4, q5, q6, q7⟩ := HP.out
      unfold put8 at q0 q1 q2 q3 q4 q5 q6 q7
      refine bodyPost_ret (v := .agg #[.int .i64 0, .bool true, .int .i64 nw, .int .i64 nx, .int .i64 bd, .slice xa nr xc, .slice sa n sc, .slice (some ⟨g, 0, none⟩) nt vc]) (by simp [results, Tryz.results6, go_sem, q0, q1, q2, q3, q4, q5, q6, q7]) rfl ?_
      refine ⟨_, _, U, Y, _, rfl, ?_, ?_, below_put8 HB.out.1 (Nat.le_succ _) _ _ _ _ _ _ _ _⟩
      · exact (grs_put8 HB.out.2.1 hlz _ _ _ _ _ _ _ _).mono (by omega)
      · exact (HB.out.2.2.above (Nat.le_of_eq (sizeT_put8 _ _ _ _ _ _ _ _ _ _).symm) (fun q hq _ => heapT_put8 (by omega) _ _ _ _ _ _ _ _)).mono (by omega)
set_option maxRecDepth 100000 in
set_option maxHeartbeats 8000000 in
theorem implLeave_is (nw nx bd : Int) (nr : Nat) (F : Nat → Int) (n : Nat) (S : Nat → Sto) (V : Nat → Nat → Value) (vr vs : Value) (nt : Nat) (T : Nat → Tx) (X : Nat → Value) (vt : Value) (pl : Int) (B : Nat) (c : Int) (mv : Bool) (nw' nx' bd' : Int) (nr' n' nt' : Nat) (w : World) (h : Grs w B nr F n S V vr vs) (hx : Txs w B nt T X vt) (hr : nr ≤ 9223372036854775807) (hn : n ≤ 9223372036854775807) (ht : nt ≤ 9223372036854775807) (hm : ∀ i, i < nt → (T i).m ≤ 9223372036854775807) (hA : LeaveAns nw nx bd nr F n S nt T pl c mv nw' nx' bd' nr' n' nt') :
    Calls Tryz.prog 8 #[.agg #[.int .i64 nw, .int .i64 nx, .int .i64 bd, vr, vs, vt], .int .i64 pl] w (ResWG w c mv nw' nx' bd' nr' F n' S nt' (leftT T pl.toNat)) := by
  obtain ⟨a0, c0, a1, c1, rfl, rfl⟩ := h.form
  obtain ⟨a2, c2, rfl⟩ := hx.form
  have HM : Hid (∀ i, i < nt → (T i).m ≤ 9223372036854775807) := hm
  have H0 : Hid (LiesD ((w.alloc (.cells #[.int .i64 nw, .int .i64 nx, .int .i64 bd, .slice a0 nr c0, .slice a1 n c1, .slice a2 nt c2] 39)).alloc (.cells #[.int .i64 0, .bool false, .int .i64 0, .int .i64 0, .int .i64 0, .slice none 0 0, .slice none 0 0, .slice none 0 0] 41)) w.heap.size nw nx bd nr F n S V (.slice a0 nr c0) (.slice a1 n c1) nt T X (.slice a2 nt c2) ∧ BlkZ ((w.alloc (.cells #[.int .i64 nw, .int .i64 nx, .int .i64 bd, .slice a0 nr c0, .slice a1 n c1, .slice a2 nt c2] 39)).alloc (.cells #[.int .i64 0, .bool false, .int .i64 0, .int .i64 0, .int .i64 0, .slice none 0 0, .slice none 0 0, .slice none 0 0] 41)) (w.heap.size + 1) (.int .i64 0) (.bool false) (.int .i64 0) (.int .i64 0) (.int .i64 0) (.slice none 0 0) (.slice none 0 0) (.slice none 0 0) ∧ Below w.heap.size w ((w.alloc (.cells #[.int .i64 nw, .int .i64 nx, .int .i64 bd, .slice a0 nr c0, .slice a1 n c1, .slice a2 nt c2] 39)).alloc (.cells #[.int .i64 0, .bool false, .int .i64 0, .int .i64 0, .int .i64 0, .slice none 0 0, .slice none 0 0, .slice none 0 0] 41))) := ⟨⟨(Blk6.new w _ _ _ _ _ _ _).alloc _, ((h.mono (Nat.zero_le _)).alloc _).alloc _, ((hx.mono (Nat.zero_le _)).alloc _).alloc _⟩, by have := BlkZ.new (w.alloc (.cells #[.int .i64 nw, .int .i64 nx, .int .i64 bd, .slice a0 nr c0, .slice a1 n c1, .slice a2 nt c2] 39)) (.int .i64 0) (.bool false) (.int .i64 0) (.int .i64 0) (.int .i64 0) (.slice none 0 0) (.slice none 0 0) (.slice none 0 0) 41; simpa using this, (below_alloc _ _).alloc (by simp) _⟩
  clear h hx hm
  obtain ⟨f, E⟩ : ∃ f, Hid (worldF nw nx bd nr F n S nt T = f) := ⟨_, rfl⟩
  obtain ⟨c1', EA⟩ : ∃ c1', Hid (plcF (worldF nw nx bd nr F n S nt T) nt pl = c1') := ⟨_, rfl⟩
  rcases hA with ⟨h1, rfl, rfl, rfl, rfl, rfl, rfl, rfl, rfl⟩ | ⟨h1, hv, rfl, rfl, rfl, rfl, rfl, rfl, rfl, rfl⟩ | ⟨h1, hv, rfl, rfl, ew, ex, eb, er, en, et⟩
  · rw [EA.out] at h1
    have d : (c1' != 0) = true := bne_iff_ne.2 h1
    rw [EA.out]
    clear h1
    obtain ⟨⟨k0, k1, k2, k3, k4, k5⟩, _⟩ := H0.out.1.1
    go_enter Tryz.func8, Tryz.ntmps8
    go_wp2_with fail
    refine (askPlace_is nw nx bd nr F n S V _ _ nt T X _ _ _ H0.out.1.2.1 H0.out.1.2.2 hr hn ht).mono ?_
    rw [EA.out]
    rintro e w1 ⟨rfl, q1⟩
    have H1 : Hid (LiesD w1 w.heap.size nw nx bd nr F n S V (.slice a0 nr c0) (.slice a1 n c1) nt T X (.slice a2 nt c2) ∧ BlkZ w1 (w.heap.size + 1) (.int .i64 0) (.bool false) (.int .i64 0) (.int .i64 0) (.int .i64 0) (.slice none 0 0) (.slice none 0 0) (.slice none 0 0) ∧ Below w.heap.size w w1) := ⟨H0.out.1.later q1, H0.out.2.1.later q1, H0.out.2.2.trans (q1.mono (by simp; omega))⟩
    clear q1 H0 k0 k1 k2 k3 k4 k5
    have HX : Hid (BlkZ w1 (w.heap.size + 1) (.int .i64 0) (.bool false) (.int .i64 0) (.int .i64 0) (.int .i64 0) (.slice none 0 0) (.slice none 0 0) (.slice none 0 0)) := H1.out.2.1
    have HB : Hid (Below w.heap.size w w1) := H1.out.2.2
    clear H1
    obtain ⟨⟨⟨k0, k1, k2, k3, k4, k5, k6, k7⟩, _⟩, fz⟩ := HX.out
    have HP := hid_mkW (HX.out.1.put (.int .i64 c1') (.bool false) (.int .i64 0) (.int .i64 0) (.int .i64 0) (.slice none 0 0) (.slice none 0 0) (.slice none 0 0))
    have f0 := fz 0 (by decide)
    have f1 := fz 1 (by decide)
    have f2 := fz 2 (by decide)
    have f3 := fz 3 (by decide)
    have f4 := fz 4 (by decide)
    have f5 := fz 5 (by decide)
    have f6 := fz 6 (by decide)
    have f7 := fz 7 (by decide)
    clear fz
    go_wp2
    obtain ⟨q0, q1, q2, q3, q4, q5, q6, q7⟩ := HP.out
    unfold put8 at q0 q1 q2 q3 q4 q5 q6 q7
    exact bodyPost_ret (v := .agg #[.int .i64 c1', .bool false, .int .i64 0, .int .i64 0, .int .i64 0, .slice none 0 0, .slice none 0 0, .slice none 0 0]) (by simp [results, Tryz.results8, go_sem, q0, q1, q2, q3, q4, q5, q6, q7]) rfl (ResWG.none rfl (below_put8 HB.out (Nat.le_succ _) _ _ _ _ _ _ _ _))
  · obtain ⟨hz, hp0, hp1⟩ := plcF_zero h1
    obtain rfl : c1' = 0 := EA.out.symm.trans h1
    obtain ⟨p, rfl⟩ : ∃ p : Nat, pl = p := ⟨pl.toNat, by omega⟩
    rw [Int.toNat_natCast] at hv
    have hp : p < nt := by omega
    have HV : Hid (decide ((T p).st = 4 ∨ (T p).st = 6 ∨ (T p).st = 7) = true) := hv
    have HTF : Hid (txF (T p) = 0) := world_txF hz p hp
    clear h1 hv hz hp0 hp1
    obtain ⟨⟨k0, k1, k2, k3, k4, k5⟩, _⟩ := H0.out.1.1
    go_enter Tryz.func8, Tryz.ntmps8
    go_wp2_with fail
    refine (askPlace_is nw nx bd nr F n S V _ _ nt T X _ _ _ H0.out.1.2.1 H0.out.1.2.2 hr hn ht).mono ?_
    rw [EA.out]
    rintro e we1 ⟨rfl, q1⟩
    have HE1 : Hid (LiesD we1 w.heap.size nw nx bd nr F n S V (.slice a0 nr c0) (.slice a1 n c1) nt T X (.slice a2 nt c2) ∧ BlkZ we1 (w.heap.size + 1) (.int .i64 0) (.bool false) (.int .i64 0) (.int .i64 0) (.int .i64 0) (.slice none 0 0) (.slice none 0 0) (.slice none 0 0) ∧ Below w.heap.size w we1) := ⟨H0.out.1.later q1, H0.out.2.1.later q1, H0.out.2.2.trans (q1.mono (by simp; omega))⟩
    clear q1 H0 k0 k1 k2 k3 k4 k5
    obtain ⟨⟨p0, p1, p2, p3, p4, p5⟩, _⟩ := HE1.out.1.1
    obtain ⟨gx, ox, eax, hgx, LX⟩ := HE1.out.1.2.2.lies hp
    obtain rfl := eax
    obtain ⟨⟨x0, x1, x2, x3, x4, x5⟩, hrow, hcap⟩ := LX
    have HRC : Hid (Row we1 0 3 (T p).m (T p).L (X p) ∧ CapOk (X p)) := ⟨hrow, hcap⟩
    have HTT : Hid (TruthT 0 (decide ((T p).st = 4 ∨ (T p).st = 6 ∨ (T p).st = 7)) true) := Or.inr ⟨rfl, HV.out.symm⟩
    clear hrow hcap
    go_wp2_with fail
    refine (implIsOver_is _ _ _ _ _ _ _ _ 0 HTF.out _ HRC.out.1 HRC.out.2 true HTT.out).mono ?_
    rintro e w1 ⟨rfl, q1⟩
    have H1 : Hid (LiesD w1 w.heap.size nw nx bd nr F n S V (.slice a0 nr c0) (.slice a1 n c1) nt T X (.slice (some ⟨gx, ox, none⟩) nt c2) ∧ BlkZ w1 (w.heap.size + 1) (.int .i64 0) (.bool false) (.int .i64 0) (.int .i64 0) (.int .i64 0) (.slice none 0 0) (.slice none 0 0) (.slice none 0 0) ∧ Below w.heap.size w w1) := ⟨HE1.out.1.later q1, HE1.out.2.1.later q1, HE1.out.2.2.trans (q1.mono HE1.out.2.2.size)⟩
    clear q1 HE1 x0 x1 x2 x3 x4 x5 p0 p1 p2 p3 p4 p5 HRC hgx
    have HX : Hid (BlkZ w1 (w.heap.size + 1) (.int .i64 0) (.bool false) (.int .i64 0) (.int .i64 0) (.int .i64 0) (.slice none 0 0) (.slice none 0 0) (.slice none 0 0)) := H1.out.2.1
    have HB : Hid (Below w.heap.size w w1) := H1.out.2.2
    clear H1
    obtain ⟨⟨⟨k0, k1, k2, k3, k4, k5, k6, k7⟩, _⟩, fz⟩ := HX.out
    have HP := hid_mkW (HX.out.1.put (.int .i64 10) (.bool false) (.int .i64 0) (.int .i64 0) (.int .i64 0) (.slice none 0 0) (.slice none 0 0) (.slice none 0 0))
    have f0 := fz 0 (by decide)
    have f1 := fz 1 (by decide)
    have f2 := fz 2 (by decide)
    have f3 := fz 3 (by decide)
    have f4 := fz 4 (by decide)
    have f5 := fz 5 (by decide)
    have f6 := fz 6 (by decide)
    have f7 := fz 7 (by decide)
    clear fz
    go_wp2
    obtain ⟨q0, q1, q2, q3, q4, q5, q6, q7⟩ := HP.out
    unfold put8 at q0 q1 q2 q3 q4 q5 q6 q7
    exact bodyPost_ret (v := .agg #[.int .i64 10, .bool false, .int .i64 0, .int .i64 0, .int .i64 0, .slice none 0 0, .slice none 0 0, .slice none 0 0]) (by simp [results, Tryz.results8, go_sem, q0, q1, q2, q3, q4, q5, q6, q7]) rfl (ResWG.none rfl (below_put8 HB.out (Nat.le_succ _) _ _ _ _ _ _ _ _))
  · obtain ⟨hz, hp0, hp1⟩ := plcF_zero h1
    obtain rfl := ew.symm
    obtain rfl := eb.symm
    obtain rfl := ex.symm
    obtain rfl := er.symm
    obtain rfl := en.symm
    obtain rfl := et.symm
    have Z := world_fine hz
    have ZG := groupsF_zero Z.1
    have HZ : Hid ((n = nr ∧ 0 < nr ∧ nr ≤ 12 ∧ n ≤ 12) ∧ (∀ i, i < n → storeF (S i) = 0) ∧ nt ≤ 16 ∧ (∀ i, i < nt → 1 ≤ (T i).m ∧ (T i).m ≤ 12) ∧ ∀ i, i < n → (S i).nc ≤ 1048576 ∧ (S i).nl ≤ 1048576 ∧ (S i).nw ≤ 1048576) := ⟨⟨ZG.2.1, ZG.1.n1, by have := ZG.1.n6; omega, by have := ZG.1.n6; have := ZG.2.1; omega⟩, fun i hi => (ZG.2.2.1 i hi).1, Z.2.1, fun i hi => (Z.2.2 i hi).1, fun i hi => by have := (storeF_zero (ZG.2.2.1 i hi).1).1; omega⟩
    obtain rfl : c1' = 0 := EA.out.symm.trans h1
    obtain ⟨p, rfl⟩ : ∃ p : Nat, pl = p := ⟨pl.toNat, by omega⟩
    rw [Int.toNat_natCast] at hv ⊢
    have hp : p < nt := by omega
    have h16 : nt ≤ 16 := Z.2.1
    have HV : Hid (decide ((T p).st = 4 ∨ (T p).st = 6 ∨ (T p).st = 7) = false) := hv
    have HTF : Hid (txF (T p) = 0) := world_txF hz p hp
    clear h1 hv hz hp0 hp1 Z ZG
    obtain ⟨⟨k0, k1, k2, k3, k4, k5⟩, _⟩ := H0.out.1.1
    go_enter Tryz.func8, Tryz.ntmps8
    go_wp2_with fail
    refine (askPlace_is nw nx bd nr F n S V _ _ nt T X _ _ _ H0.out.1.2.1 H0.out.1.2.2 hr hn ht).mono ?_
    rw [EA.out]
    rintro e we1 ⟨rfl, q1⟩
    have HE1 : Hid (LiesD we1 w.heap.size nw nx bd nr F n S V (.slice a0 nr c0) (.slice a1 n c1) nt T X (.slice a2 nt c2) ∧ BlkZ we1 (w.heap.size + 1) (.int .i64 0) (.bool false) (.int .i64 0) (.int .i64 0) (.int .i64 0) (.slice none 0 0) (.slice none 0 0) (.slice none 0 0) ∧ Below w.heap.size w we1) := ⟨H0.out.1.later q1, H0.out.2.1.later q1, H0.out.2.2.trans (q1.mono (by simp; omega))⟩
    clear q1 H0 k0 k1 k2 k3 k4 k5
    obtain ⟨⟨p0, p1, p2, p3, p4, p5⟩, _⟩ := HE1.out.1.1
    obtain ⟨gx, ox, eax, hgx, LX⟩ := HE1.out.1.2.2.lies hp
    obtain rfl := eax
    obtain ⟨⟨x0, x1, x2, x3, x4, x5⟩, hrow, hcap⟩ := LX
    have HRC : Hid (Row we1 0 3 (T p).m (T p).L (X p) ∧ CapOk (X p)) := ⟨hrow, hcap⟩
    have HTT : Hid (TruthT 0 (decide ((T p).st = 4 ∨ (T p).st = 6 ∨ (T p).st = 7)) false) := Or.inr ⟨rfl, HV.out.symm⟩
    clear hrow hcap
    go_wp2_with fail
    refine (implIsOver_is _ _ _ _ _ _ _ _ 0 HTF.out _ HRC.out.1 HRC.out.2 false HTT.out).mono ?_
    rintro e w1 ⟨rfl, q1⟩
    have H1 : Hid (LiesD w1 w.heap.size nw nx bd nr F n S V (.slice a0 nr c0) (.slice a1 n c1) nt T X (.slice (some ⟨gx, ox, none⟩) nt c2) ∧ BlkZ w1 (w.heap.size + 1) (.int .i64 0) (.bool false) (.int .i64 0) (.int .i64 0) (.int .i64 0) (.slice none 0 0) (.slice none 0 0) (.slice none 0 0) ∧ Below w.heap.size w w1) := ⟨HE1.out.1.later q1, HE1.out.2.1.later q1, HE1.out.2.2.trans (q1.mono HE1.out.2.2.size)⟩
    clear q1 HE1 x0 x1 x2 x3 x4 x5 p0 p1 p2 p3 p4 p5 HRC hgx
    obtain ⟨⟨p0, p1, p2, p3, p4, p5⟩, _⟩ := H1.out.1.1
    go_wp2_with fail
    refine (workOn_is nw nx bd nr F n S V _ _ nt T X _ 0 _ H1.out.1.2.1 H1.out.1.2.2 HZ.out.2.1 HZ.out.1.1 HZ.out.1.2.2.2 HZ.out.2.2.1 HZ.out.2.2.2.1).mono ?_
    rintro e w2 ⟨b, B2, g, P, Y, v, rfl, hW⟩
    obtain ⟨gt, vc, cur, rfl, hBg, hgc, hcz⟩ := hW.txs.slot (Nat.lt_of_le_of_lt (Nat.zero_le _) hp)
    have hg2 : gt < w2.heap.size := (Array.getElem?_eq_some_iff.1 hgc).1
    obtain ⟨⟨b0, b1, b2, b3, b4⟩, _⟩ := hW.kb
    obtain ⟨wy, hy1, hy2, hy3⟩ := hW.back
    have hl1 : w.heap.size + 1 < w1.heap.size := H1.out.2.1.1.2
    have hbb := hW.hb
    have hc3 : w2.cell? ⟨gt, p * 6 + 3, none⟩ = some (.int .i64 (T p).st) := by
      rw [World.ownsRow.cellAt hW.txs.own _ (by omega), tvals_get T Y nt p 3 hp (by omega)]
      rfl
    have hf3 : w2.frozen? ⟨gt, p * 6 + 3, none⟩ = false := World.ownsRow.frozenAt hW.txs.own _
    have HK : Hid (Blk5w (w2.setCell ⟨gt, p * 6 + 3, none⟩ (.int .i64 7)) b (.int .i64 nw) (.int .i64 nx) (.int .i64 bd) (.slice (some ⟨g, 0, none⟩) n n) (.slice (some ⟨gt, 0, none⟩) nt vc)) := hW.kb.kept (Below.heap_setCell w2 ⟨gt, p * 6 + 3, none⟩ _ b (by show b ≠ gt; omega))
    have hbg : b ≤ gt := by omega
    have hwg : w1.heap.size ≤ gt := by omega
    have HWK : Hid (Work (w2.setCell ⟨gt, p * 6 + 3, none⟩ (.int .i64 7)) w1.heap.size n F S (some ⟨g, 0, none⟩) P) := hy2.later (by rw [hy1]; exact hy3.setCell hbg _)
    have HTX : Hid (WrkT (w2.setCell ⟨gt, p * 6 + 3, none⟩ (.int .i64 7)) B2 nt (leftT T p) Y (.slice (some ⟨gt, 0, none⟩) nt vc)) := (hW.txs.left hp).1
    have HB3 : Hid (Below w1.heap.size w1 (w2.setCell ⟨gt, p * 6 + 3, none⟩ (.int .i64 7))) := hW.below.setCell hwg _
    have hs3 : (w2.setCell ⟨gt, p * 6 + 3, none⟩ (.int .i64 7)).heap.size = w2.heap.size := by simp [World.setCell]
    have HBB : Hid ((w1.heap.size ≤ b ∧ b < B2 ∧ B2 ≤ w2.heap.size) ∧ (w2.setCell ⟨gt, p * 6 + 3, none⟩ (.int .i64 7)).heap.size = w2.heap.size) := ⟨hbb, hs3⟩
    clear hW hy1 hy2 hy3 p0 p1 p2 p3 p4 p5 hbb hs3 hgc hBg hbg hwg
    go_wp2_with fail
    generalize (w2.setCell ⟨gt, p * 6 + 3, none⟩ (.int .i64 7)) = w3 at HK HWK HTX HB3 HBB ⊢
    clear b0 b1 b2 b3 b4 hc3 hf3
    refine (told_is b nw nx bd n F S g P w1.heap.size nt (some ⟨gt, 0, none⟩) vc true w3 HK.out HWK.out HZ.out.1.2.2.2).mono ?_
    rintro e w4 ⟨ra, rc, sa, sc, U, z, rfl, hF, q4⟩
    have HX : Hid (BlkZ w4 (w.heap.size + 1) (.int .i64 0) (.bool false) (.int .i64 0) (.int .i64 0) (.int .i64 0) (.slice none 0 0) (.slice none 0 0) (.slice none 0 0)) := (H1.out.2.1.later HB3.out).later q4
    have HB : Hid (Below w.heap.size w w4) := (H1.out.2.2.trans (HB3.out.mono H1.out.2.2.size)).trans (q4.mono (Nat.le_trans H1.out.2.2.size HB3.out.size))
    have HFF : Hid (FineR w4 w3.heap.size w4.heap.size n F n S ra rc sa U z ∧ OwnT w4 B2 w3.heap.size nt (leftT T p) Y (some ⟨gt, 0, none⟩) ∧ w3.heap.size ≤ w4.heap.size) := ⟨hF, HTX.out.ownT.later (Nat.le_refl _) q4, q4.size⟩
    clear hF q4 H1 HK HWK HTX
    obtain ⟨⟨⟨k0, k1, k2, k3, k4, k5, k6, k7⟩, _⟩, fz⟩ := HX.out
    have HP := hid_mkW (HX.out.1.put (.int .i64 0) (.bool true) (.int .i64 nw) (.int .i64 nx) (.int .i64 bd) (.slice ra n rc) (.slice sa n sc) (.slice (some ⟨gt, 0, none⟩) nt vc))
    have f0 := fz 0 (by decide)
    have f1 := fz 1 (by decide)
    have f2 := fz 2 (by decide)
    have f3 := fz 3 (by decide)
    have f4 := fz 4 (by decide)
    have f5 := fz 5 (by decide)
    have f6 := fz 6 (by decide)
    have f7 := fz 7 (by decide)
    clear fz
    go_wp2
    obtain ⟨q0, q1, q2, q3, q4, q5, q6, q7⟩ := HP.out
    unfold put8 at q0 q1 q2 q3 q4 q5 q6 q7
    refine bodyPost_ret (v := .agg #[.int .i64 0, .bool true, .int .i64 nw, .int .i64 nx, .int .i64 bd, .slice ra n rc, .slice sa n sc, .slice (some ⟨gt, 0, none⟩) nt vc]) (by simp [results, Tryz.results8, go_sem, q0, q1, q2, q3, q4, q5, q6, q7]) rfl ?_
    rw [← HZ.out.1.1]
    have hz := HBB.out
    have hsz := sizeT_put8 w4 (w.heap.size + 1) (.int .i64 0) (.bool true) (.int .i64 nw) (.int .i64 nx) (.int .i64 bd) (.slice ra n rc) (.slice sa n sc) (.slice (some ⟨gt, 0, none⟩) nt vc)
    refine ⟨ra, rc, sa, sc, U, z, Y, (some ⟨gt, 0, none⟩), vc, w3.heap.size, rfl, ?_, ?_, ⟨by omega, ?_⟩, below_put8 HB.out (Nat.le_succ _) _ _ _ _ _ _ _ _⟩
    · exact (fineR_put8 HFF.out.1 (by omega) _ _ _ _ _ _ _ _).up (Nat.le_refl _)
    · exact (HFF.out.2.1.kept (Nat.le_of_eq hsz.symm) HFF.out.2.2 (fun q hq _ => heapT_put8 (by omega) _ _ _ _ _ _ _ _)).low (by omega)
    · show w3.heap.size ≤ (put8 w4 (w.heap.size + 1) _ _ _ _ _ _ _ _).heap.size
      rw [sizeT_put8]
      exact HFF.out.2.2
end Go.Proofs.YtphfiojhpfdpdaaGreat

namespace Go.Proofs.YtphfiojhpfdpdaaGreat
open Go.RowKit

set_option maxHeartbeats 2000000 in
theorem markGroups_lim (nr : Nat) (F : Nat → Int) (n : Nat) (S : Nat → Sto) (ra : Option Addr) (rc g : Nat) (U : Nat → Nat → Value) (z : Nat → Nat) (lo : Nat) (w : World) (h : FineG w lo nr F n S ra rc g U z) (hr : nr ≤ 1048576) (hn : n ≤ 1048576) (hs : ∀ i, i < n → SmallS (S i)) (ht : sumN (sizeT S) n ≤ 1048576) :
    Calls Tryz.prog 39 #[.agg #[.slice ra nr rc, .slice (some ⟨g, 0, none⟩) n n], .int .i64 1] w fun e w' => ∃ k : Int, (0 ≤ k ∧ k ≤ 20000000) ∧ e = .returned (.int .i64 k) ∧ Within lo (z n) w w' := by
  have H : Hid (FineG w lo nr F n S ra rc g U z) := h
  have HN : Hid ((∀ i, i < n → SmallS (S i)) ∧ sumN (sizeT S) n ≤ 1048576) := ⟨hs, ht⟩
  clear h hs ht
  have hb2 := Blk2.new w (.slice ra nr rc) (.slice (some ⟨g, 0, none⟩) n n) 36
  have HB : Hid (Blk2 (w.alloc (.cells #[.slice ra nr rc, .slice (some ⟨g, 0, none⟩) n n] 36)) w.heap.size (.slice ra nr rc) (.slice (some ⟨g, 0, none⟩) n n)) := hb2
  clear hb2
  go_enter Tryz.func39, Tryz.ntmps39
  go_wp2_with fail
  refine (markRangeS_turn _ lo nr F 1 _ (H.out.1.1.alloc _) (H.out.1.2.1.ofRow H.out.1.1 (below_alloc _ _)) hr (by omega) (by omega)).mono ?_
  rintro e w1 ⟨rfl, _, _, g1⟩
  have hzn : g < z n := H.out.2.2.2.2.2.1 n (Nat.le_refl _)
  have hz0 : z 0 = g + 1 := H.out.2.2.2.2.1
  have hzs : z n ≤ w.heap.size := H.out.2.2.2.2.2.2
  have W1 : Hid (Within lo (g + 1) (w.alloc (.cells #[.slice ra nr rc, .slice (some ⟨g, 0, none⟩) n n] 36)) w1) := Within.of g1 (fun b q => by obtain ⟨h0, h1⟩ := turn_eq q; exact ⟨(H.out.1.1.lt h0 b h1).1, by have := H.out.1.2.2 h0 b h1; omega⟩)
  have g1b := g1.block w.heap.size (by simp) (fun q => by obtain ⟨h0, h1⟩ := turn_eq q.symm; have := (H.out.1.1.lt h0 _ h1).2; omega)
  have HB1 : Hid (Blk2 w1 w.heap.size (.slice ra nr rc) (.slice (some ⟨g, 0, none⟩) n n)) := HB.out.kept g1b
  have gg : w1.heap[g]? = w.heap[g]? := by
    have h1 := g1.block g (by have := H.out.2.2.1.1; simp; omega) (fun q => by obtain ⟨h0, h1⟩ := turn_eq q.symm; have := H.out.1.2.2 h0 _ h1; omega)
    exact h1.trans ((below_alloc w _).block g H.out.2.2.1.1)
  have FL : Hid (FillS w1 g n n U) := H.out.2.2.1.kept (Nat.le_trans (by simp) g1.size) gg
  have FI : Hid (Fine w1 z n S U) := fun i hi => by
    obtain ⟨⟨x1, x2, x3⟩, x4, x5⟩ := (H.out.2.2.2.1.later (below_alloc w (.cells #[.slice ra nr rc, .slice (some ⟨g, 0, none⟩) n n] 36))) i hi
    have ho : OwnIn (S i) (U i 0) (U i 1) (U i 2) (fun j => j < lo ∨ g + 1 ≤ j) := x4.mono (fun j hj => Or.inr (by have := H.out.2.2.2.1.up i (by omega) 0 (Nat.zero_le _); omega))
    exact ⟨⟨x1.within W1.out ho, x2.within x1 W1.out ho, x3⟩, x4, x5⟩
  have hs1 : z n ≤ w1.heap.size := Nat.le_trans hzs (Nat.le_trans (by simp) g1.size)
  clear g1 g1b gg
  obtain ⟨⟨p0, p1⟩, _⟩ := HB1.out
  go_wp2_with fail
  refine (markStoreS_any n n g S U z (1 + nr * 3) _ FL.out FI.out (by omega) hs1 HN.out.1 HN.out.2 (by omega) (by omega) hn).mono ?_
  rintro e w2 ⟨rfl, _, W2⟩
  have hlo : lo ≤ g := H.out.2.1
  have WW : Hid (Within lo (z n) w w2) := ((Within.grow (below_alloc w _)).trans (W1.out.mono (Nat.le_refl _) (by omega))).trans (W2.mono (by omega) (Nat.le_refl _))
  clear W2 W1 FL FI HB1 HB p0 p1
  go_wp2
  go_ret
  exact ⟨1 + nr * 3 + (sumN (markT S) n : Nat), ⟨by omega, by have := markT_le S n; have := HN.out.2; omega⟩, rfl, WW.out⟩
theorem FillT.withinW {w w' : World} {g n k B E : Nat} {T : Nat → Tx} {U : Nat → Value} (h : FillT w g n k T U) (hw : Within B E w w') (hg : g < B ∨ E ≤ g) : FillT w' g n k T U := Fil.within h hw hg
theorem FineT.withinW {w w' : World} {z : Nat → Nat} {n B E : Nat} {T : Nat → Tx} {U : Nat → Value} (h : FineT w z n T U) (hw : Within B E w w') (hz : ∀ i, i ≤ n → E ≤ z i) : FineT w' z n T U := fun i hi => by
  obtain ⟨⟨h1, h2, h3⟩, h4, h5⟩ := h i hi
  have ho : 0 < (T i).m → ∀ q, (U i).ownBlock = some q → q < B ∨ E ≤ q := fun h0 q hq => Or.inr (by have := (h4 h0 q hq).1; have := hz i (by omega); omega)
  exact ⟨⟨h1.within hw ho, h2.within h1 hw ho, h3⟩, h4, h5⟩
/-- A world of its own: its groups, then its transactions, block behind block. -/
def OwnW (w : World) (lo nr : Nat) (F : Nat → Int) (n : Nat) (S : Nat → Sto) (ra : Option Addr) (rc g : Nat) (U : Nat → Nat → Value) (z : Nat → Nat) (nt : Nat) (T : Nat → Tx) (gt : Nat) (Y : Nat → Value) (zt : Nat → Nat) : Prop :=
  FineG w lo nr F n S ra rc g U z ∧ (z n ≤ gt ∧ gt < w.heap.size ∧ FillT w gt nt nt T Y ∧ FineT w zt nt T Y ∧ zt 0 = gt + 1 ∧ (∀ i, i ≤ nt → gt < zt i) ∧ zt nt ≤ w.heap.size)
theorem OwnW.later {w w' : World} {lo nr : Nat} {F : Nat → Int} {n : Nat} {S : Nat → Sto} {ra : Option Addr} {rc g : Nat} {U : Nat → Nat → Value} {z : Nat → Nat} {nt : Nat} {T : Nat → Tx} {gt : Nat} {Y : Nat → Value} {zt : Nat → Nat} (h : OwnW w lo nr F n S ra rc g U z nt T gt Y zt) (hb : Below w.heap.size w w') : OwnW w' lo nr F n S ra rc g U z nt T gt Y zt :=
  ⟨h.1.later hb, h.2.1, Nat.lt_of_lt_of_le h.2.2.1 hb.size, Fil.later h.2.2.2.1 hb, h.2.2.2.2.1.later hb, h.2.2.2.2.2.1, h.2.2.2.2.2.2.1, Nat.le_trans h.2.2.2.2.2.2.2 hb.size⟩
set_option maxRecDepth 100000 in
set_option maxHeartbeats 4000000 in
theorem markWorld_any (nw nx bd : Int) (lo nr : Nat) (F : Nat → Int) (n : Nat) (S : Nat → Sto) (ra : Option Addr) (rc g : Nat) (U : Nat → Nat → Value) (z : Nat → Nat) (nt : Nat) (T : Nat → Tx) (gt : Nat) (Y : Nat → Value) (zt : Nat → Nat) (w : World) (h : OwnW w lo nr F n S ra rc g U z nt T gt Y zt) (hs : (nr ≤ 1048576 ∧ n ≤ 1048576 ∧ ∀ i, i < n → SmallS (S i)) ∧ nt ≤ 1048576 ∧ ∀ i, i < nt → (T i).m ≤ 1048576) (ht : sumN (sizeT S) n ≤ 1048576 ∧ sumN (sizeX T) nt ≤ 1048576) :
    Calls Tryz.prog 11 #[.agg #[.int .i64 nw, .int .i64 nx, .int .i64 bd, .slice ra nr rc, .slice (some ⟨g, 0, none⟩) n n, .slice (some ⟨gt, 0, none⟩) nt nt], .int .i64 1] w fun e w' => ∃ k : Int, 0 ≤ k ∧ e = .returned (.int .i64 k) ∧ Within lo (zt nt) w w' := by
  have H : Hid (OwnW (w.alloc (.cells #[.int .i64 nw, .int .i64 nx, .int .i64 bd, .slice ra nr rc, .slice (some ⟨g, 0, none⟩) n n, .slice (some ⟨gt, 0, none⟩) nt nt] 39)) lo nr F n S ra rc g U z nt T gt Y zt) := h.later (below_alloc _ _)
  have HB : Hid (Blk6 (w.alloc (.cells #[.int .i64 nw, .int .i64 nx, .int .i64 bd, .slice ra nr rc, .slice (some ⟨g, 0, none⟩) n n, .slice (some ⟨gt, 0, none⟩) nt nt] 39)) w.heap.size (.int .i64 nw) (.int .i64 nx) (.int .i64 bd) (.slice ra nr rc) (.slice (some ⟨g, 0, none⟩) n n) (.slice (some ⟨gt, 0, none⟩) nt nt)) := Blk6.new w _ _ _ _ _ _ _
  have hzt : zt nt ≤ w.heap.size := h.2.2.2.2.2.2.2
  have HN : Hid (((nr ≤ 1048576 ∧ n ≤ 1048576 ∧ ∀ i, i < n → SmallS (S i)) ∧ nt ≤ 1048576 ∧ ∀ i, i < nt → (T i).m ≤ 1048576) ∧ sumN (sizeT S) n ≤ 1048576 ∧ sumN (sizeX T) nt ≤ 1048576) := ⟨hs, ht⟩
  clear h hs ht
  go_enter Tryz.func11, Tryz.ntmps11
  go_wp2_with fail
  refine (markGroups_lim nr F n S ra rc g U z lo _ H.out.1 HN.out.1.1.1 HN.out.1.1.2.1 HN.out.1.1.2.2 HN.out.2.1).mono ?_
  rintro e w1 ⟨k, hk, rfl, W1⟩
  have hgt : zt 0 = gt + 1 := H.out.2.2.2.2.2.1
  have hzz := H.out.2.2.2.2.1.up nt (Nat.le_refl _) 0 (Nat.zero_le _)
  have hzg := H.out.2.1
  have HK : Hid (Blk6 w1 w.heap.size (.int .i64 nw) (.int .i64 nx) (.int .i64 bd) (.slice ra nr rc) (.slice (some ⟨g, 0, none⟩) n n) (.slice (some ⟨gt, 0, none⟩) nt nt)) := HB.out.kept (W1.block _ (by simp) (Or.inr (by omega)))
  have HT : Hid (FillT w1 gt nt nt T Y ∧ FineT w1 zt nt T Y ∧ ∀ i, i ≤ nt → gt < zt i) := ⟨H.out.2.2.2.1.withinW W1 (Or.inr hzg), H.out.2.2.2.2.1.withinW W1 (fun i hi => by have := H.out.2.2.2.2.2.2.1 i hi; omega), H.out.2.2.2.2.2.2.1⟩
  have HW1 : Hid (Within lo (zt nt) w w1) := (Within.grow (below_alloc w _)).trans (W1.mono (Nat.le_refl _) (by omega))
  have hlo : lo ≤ gt := by have := H.out.1.2.1; have := H.out.1.2.2.2.2.2.1 n (Nat.le_refl _); omega
  clear W1 H HB
  obtain ⟨⟨p0, p1, p2, p3, p4, p5⟩, _⟩ := HK.out
  go_wp2_with fail
  refine (markTxnS_any nt nt gt T Y zt k _ HT.out.1 HT.out.2.1 HT.out.2.2 HN.out.1.2.2 HN.out.2.2 hk.1 hk.2 HN.out.1.2.1).mono ?_
  rintro e w2 ⟨rfl, W2⟩
  have HW2 : Hid (Within lo (zt nt) w w2) := HW1.out.trans (W2.mono hlo (Nat.le_refl _))
  clear W2 HW1 HT HK p0 p1 p2 p3 p4 p5
  go_wp2
  go_ret
  exact ⟨_, by omega, rfl, HW2.out⟩
end Go.Proofs.YtphfiojhpfdpdaaGreat

namespace Go.Proofs.YtphfiojhpfdpdaaGreat
open Go.RowKit

theorem OwnW.grs {w : World} {lo nr : Nat} {F : Nat → Int} {n : Nat} {S : Nat → Sto} {ra : Option Addr} {rc g : Nat} {U : Nat → Nat → Value} {z : Nat → Nat} {nt : Nat} {T : Nat → Tx} {gt : Nat} {Y : Nat → Value} {zt : Nat → Nat} (h : OwnW w lo nr F n S ra rc g U z nt T gt Y zt) : Grs w 0 nr F n S U (.slice ra nr rc) (.slice (some ⟨g, 0, none⟩) n n) ∧ Txs w 0 nt T Y (.slice (some ⟨gt, 0, none⟩) nt nt) := by
  obtain ⟨hF, _, hgt, hfil, hfin, _⟩ := h
  refine ⟨hF.grs.mono (Nat.zero_le _), ⟨⟨_, _, rfl, fun _ => ⟨gt, 0, rfl, Nat.zero_le _, hgt, fun i hi j hj => ?_⟩⟩, fun i hi => ⟨(hfin i hi).1.1.mono (Nat.zero_le _), (hfin i hi).1.2.2⟩⟩⟩
  rw [Nat.zero_add]
  exact hfil.cell (Nat.le_refl _) hi hj
theorem NewWd.own {w w' : World} {nw nx bd : Int} {nr : Nat} {F : Nat → Int} {n : Nat} {S : Nat → Sto} {nt : Nat} {T : Nat → Tx} {e : Ending} (h : NewWd w nw nx bd nr F n S nt T e w') :
    ∃ ra rc g U z gt Y zt, e = .returned (.agg #[.int .i64 nw, .int .i64 nx, .int .i64 bd, .slice ra nr rc, .slice (some ⟨g, 0, none⟩) n n, .slice (some ⟨gt, 0, none⟩) nt nt]) ∧ OwnW w' w.heap.size nr F n S ra rc g U z nt T gt Y zt ∧ Below w.heap.size w w' := by
  obtain ⟨ra, rc, g, U, z, gt, Y, zt, he, hF, hT, hb⟩ := h
  exact ⟨ra, rc, g, U, z, gt, Y, zt, he, ⟨hF, hT⟩, hb⟩
end Go.Proofs.YtphfiojhpfdpdaaGreat

namespace Go.Proofs.YtphfiojhpfdpdaaGreat
open Go.RowKit

/-- What the law stands on: its argument (block w.heap.size), what the model answered (laid by w3, its box behind it), the program's copy (block q), what the program answered (block G): its transactions from block lt on, its groups from block lo on, below tp. -/
structure EnvU (w : World) (nw nx bd : Int) (vr vs vt : Value) (w3 : World) (c : Int) (mv : Bool) (nw' nx' bd' : Int) (xr vS xv : Value) (q : Nat) (ur us ut : Value) (G nr' : Nat) (F : Nat → Int) (n' : Nat) (S : Nat → Sto) (nt' : Nat) (T : Nat → Tx) (ra : Option Addr) (rc : Nat) (sa : Option Addr) (sc : Nat) (va : Option Addr) (vc : Nat) (U : Nat → Nat → Value) (z : Nat → Nat) (Y : Nat → Value) (lt lo tp : Nat) (x : World) : Prop where
  below : Below w.heap.size w x
  arg : Blk6 x w.heap.size (.int .i64 nw) (.int .i64 nx) (.int .i64 bd) vr vs vt
  want : BlkR x w3.heap.size (.int .i64 c) (.bool mv) (.int .i64 nw') (.int .i64 nx') (.int .i64 bd') xr vS xv
  copy : Blk6 x q (.int .i64 nw) (.int .i64 nx) (.int .i64 bd) ur us ut
  got : BlkR x G (.int .i64 c) (.bool mv) (.int .i64 nw') (.int .i64 nx') (.int .i64 bd') (.slice ra nr' rc) (.slice sa n' sc) (.slice va nt' vc)
  keep : w3.heap.size ≤ x.heap.size ∧ ∀ p, w.heap.size ≤ p → p < w3.heap.size → x.heap[p]? = w3.heap[p]?
  fine : FineR x lo tp nr' F n' S ra rc sa U z
  own : OwnT x lt lo nt' T Y va
  ord : (lt ≤ lo ∧ lo ≤ tp) ∧ tp ≤ x.heap.size
theorem EnvU.later {w : World} {nw nx bd : Int} {vr vs vt : Value} {w3 : World} {c : Int} {mv : Bool} {nw' nx' bd' : Int} {xr vS xv : Value} {q : Nat} {ur us ut : Value} {G nr' : Nat} {F : Nat → Int} {n' : Nat} {S : Nat → Sto} {nt' : Nat} {T : Nat → Tx} {ra : Option Addr} {rc : Nat} {sa : Option Addr} {sc : Nat} {va : Option Addr} {vc : Nat} {U : Nat → Nat → Value} {z : Nat → Nat} {Y : Nat → Value} {lt lo tp : Nat} {x x' : World} (h : EnvU w nw nx bd vr vs vt w3 c mv nw' nx' bd' xr vS xv q ur us ut G nr' F n' S nt' T ra rc sa sc va vc U z Y lt lo tp x) (hb : Below x.heap.size x x') : EnvU w nw nx bd vr vs vt w3 c mv nw' nx' bd' xr vS xv q ur us ut G nr' F n' S nt' T ra rc sa sc va vc U z Y lt lo tp x' :=
  ⟨h.below.trans (hb.mono h.below.size), h.arg.later hb, h.want.later hb, h.copy.later hb, h.got.later hb, ⟨Nat.le_trans h.keep.1 hb.size, fun p h1 h2 => (hb.block p (Nat.lt_of_lt_of_le h2 h.keep.1)).trans (h.keep.2 p h1 h2)⟩, h.fine.later hb, h.own.later (Nat.le_trans h.ord.1.2 h.ord.2) hb, ⟨h.ord.1, Nat.le_trans h.ord.2 hb.size⟩⟩
theorem EnvU.within {w : World} {nw nx bd : Int} {vr vs vt : Value} {w3 : World} {c : Int} {mv : Bool} {nw' nx' bd' : Int} {xr vS xv : Value} {q : Nat} {ur us ut : Value} {G nr' : Nat} {F : Nat → Int} {n' : Nat} {S : Nat → Sto} {nt' : Nat} {T : Nat → Tx} {ra : Option Addr} {rc : Nat} {sa : Option Addr} {sc : Nat} {va : Option Addr} {vc : Nat} {U : Nat → Nat → Value} {z : Nat → Nat} {Y : Nat → Value} {lt lo tp : Nat} {x x' : World} {B E : Nat} (h : EnvU w nw nx bd vr vs vt w3 c mv nw' nx' bd' xr vS xv q ur us ut G nr' F n' S nt' T ra rc sa sc va vc U z Y lt lo tp x) (hw : Within B E x x') (hB : w3.heap.size < B) (hw0 : w.heap.size < w3.heap.size) (hq : E ≤ q) (hG : E ≤ G) (hl : E ≤ lt) : EnvU w nw nx bd vr vs vt w3 c mv nw' nx' bd' xr vS xv q ur us ut G nr' F n' S nt' T ra rc sa sc va vc U z Y lt lo tp x' := by
  have ho := h.ord
  refine ⟨hw.below h.below (by omega), h.arg.kept (hw.block _ h.arg.lt (Or.inl (by omega))), h.want.kept (hw.block _ h.want.2 (Or.inl hB)) hw.size, h.copy.kept (hw.block _ h.copy.lt (Or.inr hq)), h.got.kept (hw.block _ h.got.2 (Or.inr hG)) hw.size, ⟨Nat.le_trans h.keep.1 hw.size, fun p h1 h2 => (hw.block p (Nat.lt_of_lt_of_le h2 h.keep.1) (Or.inl (by omega))).trans (h.keep.2 p h1 h2)⟩, h.fine.within hw (by omega), h.own.kept hw.size (by omega) (fun p h1 h2 => hw.block p (by omega) (Or.inr (by omega))), ⟨ho.1, Nat.le_trans ho.2 hw.size⟩⟩
end Go.Proofs.YtphfiojhpfdpdaaGreat

