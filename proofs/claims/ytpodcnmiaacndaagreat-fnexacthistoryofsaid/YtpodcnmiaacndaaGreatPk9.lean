/-
  Own text, merged of GrpW, RslB, FatX, WrkA, AppT, WrkB, DonE, AcmB, AcmC.
-/
import Derived.Test.YtpodcnmiaacndaaGreatPk8
namespace Go.Proofs.YtpodcnmiaacndaaGreat
section
open Go.RowKit Go.Maps
/-- A range's store that is worked on: its range and its columns, in block b. -/
def RSt (x : World) (B b : Nat) (fr tto ep : Int) (N : Nat) (m : Int → Int → Option Int) (nl : Nat) (l : Nat → Int) (nw : Nat) (k : Nat → Int) (g : Nat) (u1 u2 : Value) : Prop :=
  (x.cell? ⟨b, 0, none⟩ = some (.int .i64 fr) ∧ x.cell? ⟨b, 1, none⟩ = some (.int .i64 tto) ∧ x.cell? ⟨b, 2, none⟩ = some (.int .i64 ep)) ∧ ColsO x B b 3 N m nl l nw k g u1 u2 ∧ ApartC b g u1 u2
def PtE (w : World) (s0 s1 s2 r0 r1 r2 : Value) (x : World) : Prop := Blk3 x w.heap.size s0 s1 s2 ∧ Blk3 x (w.heap.size + 1) r0 r1 r2
set_option maxRecDepth 100000 in
set_option maxHeartbeats 4000000 in
theorem pointTo_is (S : Sto) (v0 v1 v2 : Value) (fr tto ep : Int) (B : Nat) (w : World) (h : St w B S v0 v1 v2) (hz : storeF S = 0) :
    Calls Tryz.prog 118 #[.agg #[v0, v1, v2], .agg #[.int .i64 fr, .int .i64 tto, .int .i64 ep]] w fun e w' => ∃ b g u1 u2, e = .returned (.pointer (some ⟨b, 0, none⟩)) ∧ RSt w' w.heap.size b fr tto ep S.nc (cellM S S.nc) S.nl S.l S.nw S.k g u1 u2 ∧ Below w.heap.size w w' := by
  obtain ⟨a0, c0, a1, c1, a2, c2, rfl, rfl, rfl⟩ := h.form
  have H : Hid (St w B S (.slice a0 S.nc c0) (.slice a1 S.nl c1) (.slice a2 S.nw c2)) := h
  have Z := storeF_zero hz
  have HZ : Hid ((S.nc ≤ 200 ∧ S.nl ≤ 200 ∧ S.nw ≤ 200) ∧ scan (cellF S.c) S.nc = 0) := ⟨Z.1, Z.2.1⟩
  have HP : Hid (PtE w (.slice a0 S.nc c0) (.slice a1 S.nl c1) (.slice a2 S.nw c2) (.int .i64 fr) (.int .i64 tto) (.int .i64 ep) ((w.alloc (.cells #[.slice a0 S.nc c0, .slice a1 S.nl c1, .slice a2 S.nw c2] 176)).alloc (.cells #[.int .i64 fr, .int .i64 tto, .int .i64 ep] 180)) ∧ Below w.heap.size w ((w.alloc (.cells #[.slice a0 S.nc c0, .slice a1 S.nl c1, .slice a2 S.nw c2] 176)).alloc (.cells #[.int .i64 fr, .int .i64 tto, .int .i64 ep] 180))) := by
    refine ⟨⟨(Blk3.new w _ _ _ _).alloc _, ?_⟩, (below_alloc _ _).alloc (by simp) _⟩
    have := Blk3.new (w.alloc (.cells #[.slice a0 S.nc c0, .slice a1 S.nl c1, .slice a2 S.nw c2] 176)) (.int .i64 fr) (.int .i64 tto) (.int .i64 ep) 180
    rwa [World.size_alloc] at this
  clear h hz Z
  go_enter Tryz.func118, Tryz.ntmps118
  go_wp2_with fail
  generalize (w.alloc (.cells #[.slice a0 S.nc c0, .slice a1 S.nl c1, .slice a2 S.nw c2] 176)).alloc (.cells #[.int .i64 fr, .int .i64 tto, .int .i64 ep] 180) = w1 at HP ⊢
  refine wp_region_held_drew (S := PtE w (.slice a0 S.nc c0) (.slice a1 S.nl c1) (.slice a2 S.nw c2) (.int .i64 fr) (.int .i64 tto) (.int .i64 ep)) (by kernel_rfl) ⟨HP.out.1.1.kept rfl, HP.out.1.2.kept rfl⟩ (fun hS => ?_)
  refine tkH 0 ?_ hS (fun wx hx => ?_) ?_; rotate_left
  · obtain ⟨⟨⟨hx0, hx1, hx2⟩, _⟩, ⟨hx3, hx4, hx5⟩, _⟩ := hx; go_simp; try with_reducible rfl
  refine tkH 1 ?_ hS (fun wx hx => ?_) ?_; rotate_left
  · obtain ⟨⟨⟨hx0, hx1, hx2⟩, _⟩, ⟨hx3, hx4, hx5⟩, _⟩ := hx; go_simp; try with_reducible rfl
  refine rdH 2 (fun K hK => ?_)
  go_simp
  go_wp2_with fail
  refine (columnsOf_apart S B _ _ _ _ ((H.out.later HP.out.2).later (below_dr (Below.refl _ _) 1)) HZ.out.1.1 HZ.out.1.2.1 HZ.out.1.2.2 HZ.out.2).mono ?_
  rintro e w2 ⟨b, g, u1, u2, rfl, hC, hap, q2⟩
  have q2' : Below w1.heap.size w1 w2 := ⟨q2.os, q2.tape, q2.output, q2.size, q2.block⟩
  obtain ⟨b1, d1, rfl⟩ := hC.2.2.2.2.1.form
  obtain ⟨b2, d2, rfl⟩ := hC.2.2.2.2.2.form
  have HC : Hid (Cols w2 w1.heap.size b S.nc (cellM S S.nc) S.nl S.l S.nw S.k g (.slice b1 S.nl d1) (.slice b2 S.nw d2) ∧ ApartC b g (.slice b1 S.nl d1) (.slice b2 S.nw d2)) := ⟨hC, hap⟩
  have HB2 : Hid (Below w.heap.size w w2 ∧ w.heap.size ≤ w1.heap.size) := ⟨HP.out.2.trans (q2'.mono HP.out.2.size), HP.out.2.size⟩
  have hS' : PtE w (.slice a0 S.nc c0) (.slice a1 S.nl c1) (.slice a2 S.nw c2) (.int .i64 fr) (.int .i64 tto) (.int .i64 ep) w2 := ⟨hS.1.later q2, hS.2.later q2⟩
  obtain ⟨⟨t0, t1, t2⟩, _⟩ := hC.2.2.1
  clear hC hap q2 q2'
  go_wp2_with fail
  refine hK.out _ _ hS' (fun hS => ?_)
  clear hK K hS'
  refine tkH 3 ?_ hS (fun wx hx => ?_) ?_; rotate_left
  · obtain ⟨⟨⟨hx0, hx1, hx2⟩, _⟩, ⟨hx3, hx4, hx5⟩, _⟩ := hx; go_simp; try with_reducible rfl
  refine rdH 4 (fun K hK => ?_)
  go_simp
  refine hK.out _ _ hS (fun hS => ?_)
  clear hK K
  refine tkH 5 ?_ hS (fun wx hx => ?_) ?_; rotate_left
  · obtain ⟨⟨⟨hx0, hx1, hx2⟩, _⟩, ⟨hx3, hx4, hx5⟩, _⟩ := hx; go_simp; try with_reducible rfl
  refine rdH 6 (fun K hK => ?_)
  go_simp
  refine hK.out _ _ (show PtE w _ _ _ _ _ _ _ from ⟨hS.1.alloc _, hS.2.alloc _⟩) (fun hS => ?_)
  clear hK K
  refine tkH 7 ?_ hS (fun wx hx => ?_) ?_; rotate_left
  · obtain ⟨⟨⟨hx0, hx1, hx2⟩, _⟩, ⟨hx3, hx4, hx5⟩, _⟩ := hx; go_simp; try with_reducible rfl
  refine wpAnyH_done (by kernel_rfl) ?_ _
  clear hS t0 t1 t2
  go_simp
  go_wp2
  go_ret
  have hlt := HC.out.1.2.2.1.lt
  have hgl := HC.out.1.2.2.2.1.lt
  have cl : ∀ (j : Nat) (u : Value), (#[.int .i64 fr, .int .i64 tto, .int .i64 ep, .map (some g), .slice b1 S.nl d1, .slice b2 S.nw d2] : Array Value)[j]? = some u → (w2.alloc (.cells #[.int .i64 fr, .int .i64 tto, .int .i64 ep, .map (some g), .slice b1 S.nl d1, .slice b2 S.nw d2] 202)).cell? ⟨w2.heap.size, j, none⟩ = some u := fun j u hu => (World.cell?_alloc_mark w2 _ _ _ j).trans hu
  have cf : ∀ (j : Nat), (w2.alloc (.cells #[.int .i64 fr, .int .i64 tto, .int .i64 ep, .map (some g), .slice b1 S.nl d1, .slice b2 S.nw d2] 202)).frozen? ⟨w2.heap.size, j, none⟩ = false := fun j => by simp
  refine ⟨w2.heap.size, g, _, _, rfl, ⟨⟨cl 0 _ rfl, cl 1 _ rfl, cl 2 _ rfl⟩, ⟨HB2.out.1.size, Nat.le_trans HB2.out.2 HC.out.1.2.1, ⟨⟨cl 3 _ rfl, cl 4 _ rfl, cl 5 _ rfl⟩, cf 3, cf 4, cf 5⟩, HC.out.1.2.2.2.1.later (below_alloc _ _), (HC.out.1.2.2.2.2.1.later (below_alloc _ _)).mono HB2.out.2, (HC.out.1.2.2.2.2.2.later (below_alloc _ _)).mono HB2.out.2⟩, ⟨by omega, fun q e => ⟨by have := (own_in HC.out.1.2.2.2.2.1 q e).2; omega, (HC.out.2.2.1 q e).2⟩, fun q e => ⟨by have := (own_in HC.out.1.2.2.2.2.2 q e).2; omega, (HC.out.2.2.2.1 q e).2⟩, HC.out.2.2.2.2⟩⟩, HB2.out.1.trans ((below_alloc _ _).mono HB2.out.1.size)⟩
theorem mapSelf {S : Sto} (hz : scan (cellF S.c) S.nc = 0) : MapRow (cellM S S.nc) S.nc S.c :=
  ⟨cells_rise hz, fun i hi => by
    have hc := cellF_zero (scan_zero hz i hi)
    have hk := faultOf_zero hc.1
    exact ⟨wf_small hk.1 (by omega), wf_small (by omega) hc.2.2.1⟩, fun i hi => cellM_at hz hi ⟨rfl, rfl⟩, fun _ _ _ _ _ h => cellM_some h⟩
end

section
open Go.RowKit
section
/-- The lists of the first k stores, one behind the other. -/
def listU (U : Nat → Nat → Value) : Nat → List Value
  | 0 => []
  | k + 1 => listU U k ++ [U k 0, U k 1, U k 2]
theorem listU_len (U : Nat → Nat → Value) : ∀ k, (listU U k).length = k * 3
  | 0 => rfl
  | k + 1 => by
    show (listU U k ++ [U k 0, U k 1, U k 2]).length = (k + 1) * 3
    rw [List.length_append, listU_len U k]
    simp only [List.length_cons, List.length_nil]
    omega
theorem listU_at (U : Nat → Nat → Value) : ∀ k i, i < k → (listU U k)[i * 3]? = some (U i 0) ∧ (listU U k)[i * 3 + 1]? = some (U i 1) ∧ (listU U k)[i * 3 + 2]? = some (U i 2)
  | 0, i, hi => absurd hi (Nat.not_lt_zero i)
  | k + 1, i, hi => by
    have hl := listU_len U k
    show (listU U k ++ [U k 0, U k 1, U k 2])[i * 3]? = _ ∧ (listU U k ++ [U k 0, U k 1, U k 2])[i * 3 + 1]? = _ ∧ (listU U k ++ [U k 0, U k 1, U k 2])[i * 3 + 2]? = _
    by_cases q : i = k
    · subst q
      rw [List.getElem?_append_right (by omega), List.getElem?_append_right (by omega), List.getElem?_append_right (by omega), hl, Nat.sub_self, show i * 3 + 1 - i * 3 = 1 by omega, show i * 3 + 2 - i * 3 = 2 by omega]
      exact ⟨rfl, rfl, rfl⟩
    · obtain ⟨h0, h1, h2⟩ := listU_at U k i (by omega)
      rw [List.getElem?_append_left (by omega), List.getElem?_append_left (by omega), List.getElem?_append_left (by omega)]
      exact ⟨h0, h1, h2⟩
/-- What is turned is a list of its own: the stores' lists stand. -/
theorem Fine.past {x x' : World} {z : Nat → Nat} {k : Nat} {S : Nat → Sto} {U : Nat → Nat → Value} {v : Value} (h : Fine x z k S U) (hg : x.grownBy x' v.ownBlock) (hs : ∀ q, v.ownBlock = some q → Spare k S U q) : Fine x' z k S U := fun i hi => by
  obtain ⟨⟨⟨s0, s1, s2⟩, ⟨f0, f1, f2⟩, h3⟩, h4⟩ := h i hi
  have x0 : 0 < (S i).nc → ∀ k, (U i 0).ownBlock = some k → some k ≠ v.ownBlock := fun hp k hk e => (hs k e.symm i hi).1 hp k hk rfl
  have x1 : 0 < (S i).nl → ∀ k, (U i 1).ownBlock = some k → some k ≠ v.ownBlock := fun hp k hk e => (hs k e.symm i hi).2.1 hp k hk rfl
  have x2 : 0 < (S i).nw → ∀ k, (U i 2).ownBlock = some k → some k ≠ v.ownBlock := fun hp k hk e => (hs k e.symm i hi).2.2 hp k hk rfl
  exact ⟨⟨⟨s0.turned hg x0, s1.turned hg x1, s2.turned hg x2⟩, ⟨f0.turned s0 hg x0, f1.turned s1 hg x1, f2.turned s2 hg x2⟩, h3⟩, h4⟩
end

section
open Go.RowKit Go.Maps
theorem RSt.later {x x' : World} {B b : Nat} {fr tto ep : Int} {N : Nat} {m : Int → Int → Option Int} {nl : Nat} {l : Nat → Int} {nw : Nat} {k : Nat → Int} {g : Nat} {u1 u2 : Value} (h : RSt x B b fr tto ep N m nl l nw k g u1 u2) (hb : Below x.heap.size x x') : RSt x' B b fr tto ep N m nl l nw k g u1 u2 := by
  have hl := h.2.1.2.2.1.lt
  exact ⟨⟨(hb.cell (p := ⟨b, 0, none⟩) hl).trans h.1.1, (hb.cell (p := ⟨b, 1, none⟩) hl).trans h.1.2.1, (hb.cell (p := ⟨b, 2, none⟩) hl).trans h.1.2.2⟩, h.2.1.later hb, h.2.2⟩
/-- The stores that are worked on: number i lies in block P i. -/
def ToldG (w : World) (B n : Nat) (F : Nat → Int) (S : Nat → Sto) (P : Nat → Nat) : Prop := ∀ i, i < n → ∃ N m g u1 u2, (N ≤ 400 ∧ (S i).nl ≤ 200 ∧ (S i).nw ≤ 200) ∧ MapRow m (S i).nc (S i).c ∧ RSt w B (P i) (F (i * 3)) (F (i * 3 + 1)) (F (i * 3 + 2)) N m (S i).nl (S i).l (S i).nw (S i).k g u1 u2
def PtrRow (w : World) (n : Nat) (pa : Option Addr) (P : Nat → Nat) : Prop := 0 < n → ∃ gp op, pa = some ⟨gp, op, none⟩ ∧ gp < w.heap.size ∧ ∀ i, i < n → w.cell? ⟨gp, op + i, none⟩ = some (.pointer (some ⟨P i, 0, none⟩))
end

section
open Go.RowKit Go.Maps
end
end

section
open Go.RowKit Go.Maps
section
theorem Own.keptB {w w' : World} {B : Nat} {e : TypeId} {m n : Nat} {F : Nat → Int} {v : Value} (h : Own w B e m n F v) (hb : ∀ q, B ≤ q → q < w.heap.size → w'.heap[q]? = w.heap[q]?) : Own w' B e m n F v := by
  refine ⟨h.1, ?_⟩
  rcases h.2 with q | ⟨g, cap, cur, rfl, hg, hw, r⟩
  · exact Or.inl q
  · exact Or.inr ⟨g, cap, cur, rfl, hg, (hb g hg (Array.getElem?_eq_some_iff.1 hw).1).trans hw, r⟩
theorem RSt.keptB {x x' : World} {B b : Nat} {fr tto ep : Int} {N : Nat} {m : Int → Int → Option Int} {nl : Nat} {l : Nat → Int} {nw : Nat} {k : Nat → Int} {g : Nat} {u1 u2 : Value} (h : RSt x B b fr tto ep N m nl l nw k g u1 u2) (hb : ∀ q, B ≤ q → q < x.heap.size → x'.heap[q]? = x.heap[q]?) : RSt x' B b fr tto ep N m nl l nw k g u1 u2 := by
  obtain ⟨⟨h0, h1, h2⟩, ⟨c1, c2, c3, c4, c5, c6⟩, h4⟩ := h
  have e := hb b c1 c3.lt
  exact ⟨⟨(World.cell?_of_block (w := x) (a := ⟨b, 0, none⟩) e).trans h0, (World.cell?_of_block (w := x) (a := ⟨b, 1, none⟩) e).trans h1, (World.cell?_of_block (w := x) (a := ⟨b, 2, none⟩) e).trans h2⟩, ⟨c1, c2, c3.kept e, c4.kept (hb g c2 c4.lt), c5.keptB hb, c6.keptB hb⟩, h4⟩
theorem RSt.mono {x : World} {B B' b : Nat} {fr tto ep : Int} {N : Nat} {m : Int → Int → Option Int} {nl : Nat} {l : Nat → Int} {nw : Nat} {k : Nat → Int} {g : Nat} {u1 u2 : Value} (h : RSt x B b fr tto ep N m nl l nw k g u1 u2) (hB : B' ≤ B) : RSt x B' b fr tto ep N m nl l nw k g u1 u2 :=
  ⟨h.1, ⟨Nat.le_trans hB h.2.1.1, Nat.le_trans hB h.2.1.2.1, h.2.1.2.2.1, h.2.1.2.2.2.1, h.2.1.2.2.2.2.1.mono hB, h.2.1.2.2.2.2.2.mono hB⟩, h.2.2⟩
theorem ToldG.keptB {x x' : World} {B n : Nat} {F : Nat → Int} {S : Nat → Sto} {P : Nat → Nat} (h : ToldG x B n F S P) (hb : ∀ q, B ≤ q → q < x.heap.size → x'.heap[q]? = x.heap[q]?) : ToldG x' B n F S P := fun i hi => by
  obtain ⟨N, m, g, u1, u2, h1, h2, h3⟩ := h i hi
  exact ⟨N, m, g, u1, u2, h1, h2, h3.keptB hb⟩
theorem ToldG.later {x x' : World} {B n : Nat} {F : Nat → Int} {S : Nat → Sto} {P : Nat → Nat} (h : ToldG x B n F S P) (hb : Below x.heap.size x x') : ToldG x' B n F S P := h.keptB (fun q _ hq => hb.block q hq)
theorem ToldG.mono {x : World} {B B' n : Nat} {F : Nat → Int} {S : Nat → Sto} {P : Nat → Nat} (h : ToldG x B n F S P) (hB : B' ≤ B) : ToldG x B' n F S P := fun i hi => by
  obtain ⟨N, m, g, u1, u2, h1, h2, h3⟩ := h i hi
  exact ⟨N, m, g, u1, u2, h1, h2, h3.mono hB⟩
/-- One more store that is worked on. -/
theorem ToldG.put {x : World} {B k b : Nat} {F : Nat → Int} {S : Nat → Sto} {P : Nat → Nat} (h : ToldG x B k F S P) {fr tto ep : Int} (hF : F (k * 3) = fr ∧ F (k * 3 + 1) = tto ∧ F (k * 3 + 2) = ep) (hz : storeF (S k) = 0) {g : Nat} {u1 u2 : Value} (hr : RSt x B b fr tto ep (S k).nc (cellM (S k) (S k).nc) (S k).nl (S k).l (S k).nw (S k).k g u1 u2) : ToldG x B (k + 1) F S (fun i => if i = k then b else P i) := fun i hi => by
  have Z := storeF_zero hz
  by_cases q : i = k
  · subst q
    simp only [if_pos]
    rw [hF.1, hF.2.1, hF.2.2]
    exact ⟨(S i).nc, cellM (S i) (S i).nc, g, u1, u2, ⟨by have := Z.1.1; omega, Z.1.2.1, Z.1.2.2⟩, mapSelf Z.2.1, hr⟩
  · simp only [if_neg q]
    exact h i (by omega)
/-- A new row of pointers, k of them laid. -/
def FillP (w : World) (g n k : Nat) (P : Nat → Nat) : Prop := g < w.heap.size ∧ (∀ p, p < n → (∃ u, w.cell? ⟨g, p, none⟩ = some u) ∧ w.frozen? ⟨g, p, none⟩ = false) ∧ ∀ i, i < k → w.cell? ⟨g, i, none⟩ = some (.pointer (some ⟨P i, 0, none⟩))
theorem FillP.later {w w' : World} {g n k : Nat} {P : Nat → Nat} (h : FillP w g n k P) (hb : Below w.heap.size w w') : FillP w' g n k P := by
  obtain ⟨h1, h2, h3⟩ := h
  refine ⟨Nat.lt_of_lt_of_le h1 hb.size, fun p hp => ⟨?_, (hb.frozen (p := ⟨g, p, none⟩) h1).trans (h2 p hp).2⟩, fun i hi => (hb.cell (p := ⟨g, i, none⟩) h1).trans (h3 i hi)⟩
  obtain ⟨u, hu⟩ := (h2 p hp).1
  exact ⟨u, (hb.cell (p := ⟨g, p, none⟩) h1).trans hu⟩
theorem FillP.made (w : World) (z : Array Value) (n : Nat) (e : TypeId) (P : Nat → Nat) : FillP (w.alloc (.cells (madeCells z n) e)) w.heap.size n 0 P := by
  refine ⟨by simp, fun p hp => ⟨⟨(madeCells z n)[p]'(by rw [size_madeCells]; omega), ?_⟩, by simp⟩, fun p hp => absurd hp (Nat.not_lt_zero p)⟩
  rw [World.cell?_alloc_mark]
  simp
theorem FillP.at {w : World} {g n k p : Nat} {P : Nat → Nat} (h : FillP w g n k P) (hp : p < n) : ∃ u, w.cell? ⟨g, p, none⟩ = some u ∧ w.frozen? ⟨g, p, none⟩ = false := by
  obtain ⟨⟨u, hu⟩, hf⟩ := h.2.1 p hp
  exact ⟨u, hu, hf⟩
theorem FillP.put {w : World} {g n k : Nat} {P : Nat → Nat} (h : FillP w g n k P) (hk : k < n) (b : Nat) : FillP (w.setCell ⟨g, k, none⟩ (.pointer (some ⟨b, 0, none⟩))) g n (k + 1) (fun i => if i = k then b else P i) := by
  obtain ⟨h1, h2, h3⟩ := h
  obtain ⟨u, hu⟩ := (h2 k hk).1
  refine ⟨by simpa [World.setCell] using h1, fun p hp => ⟨?_, by simp [(h2 p hp).2]⟩, fun i hi => ?_⟩
  · obtain ⟨v, hv⟩ := (h2 p hp).1
    by_cases q : p = k
    · subst q
      exact ⟨_, World.cell?_setCell_same _ _ _ hu⟩
    · exact ⟨v, by rw [World.cell?_setCell_other _ _ _ _ (by intro e; simp at e; first | done | omega)]; exact hv⟩
  · by_cases q : i = k
    · subst q
      simp only [if_pos]
      exact World.cell?_setCell_same _ _ _ hu
    · simp only [if_neg q]
      rw [World.cell?_setCell_other _ _ _ _ (by intro e; simp at e; first | done | omega)]
      exact h3 i (by omega)
theorem info_Ptr : (Tryz.prog.info? 193).map (fun i => (i.zero, i.size, i.bytes)) = some (some (.pointer none), 1, 8) := by kernel_rfl
/-- What the region that points reads: the groups' box, the store's copy in block b, the range. -/
def PtaE (w : World) (vr vs : Value) (b : Nat) (s0 s1 s2 : Value) (gr oR k : Nat) (fr tto ep : Int) (x : World) : Prop :=
  Blk2 x w.heap.size vr vs ∧ Blk3 x b s0 s1 s2 ∧ x.cell? ⟨gr, oR + k * 3, none⟩ = some (.int .i64 fr) ∧ x.cell? ⟨gr, oR + k * 3 + 1, none⟩ = some (.int .i64 tto) ∧ x.cell? ⟨gr, oR + k * 3 + 2, none⟩ = some (.int .i64 ep)
theorem PtaE.kept {w x x' : World} {vr vs : Value} {b : Nat} {s0 s1 s2 : Value} {gr oR k : Nat} {fr tto ep : Int} (h : PtaE w vr vs b s0 s1 s2 gr oR k fr tto ep x) (hb : ∀ q, q = w.heap.size ∨ q = b ∨ q = gr → x'.heap[q]? = x.heap[q]?) : PtaE w vr vs b s0 s1 s2 gr oR k fr tto ep x' := by
  obtain ⟨h1, h2, h3, h4, h5⟩ := h
  have e := hb gr (Or.inr (Or.inr rfl))
  exact ⟨h1.kept (hb _ (Or.inl rfl)), h2.kept (hb _ (Or.inr (Or.inl rfl))), (World.cell?_of_block (w := x) (a := ⟨gr, oR + k * 3, none⟩) e).trans h3, (World.cell?_of_block (w := x) (a := ⟨gr, oR + k * 3 + 1, none⟩) e).trans h4, (World.cell?_of_block (w := x) (a := ⟨gr, oR + k * 3 + 2, none⟩) e).trans h5⟩
/-- Where the row of pointers stands, k of them laid. -/
def PtaT (w : World) (vr vs : Value) (n k : Nat) (F : Nat → Int) (S : Nat → Sto) (x : World) : Prop :=
  (Below w.heap.size w x ∧ Blk2 x w.heap.size vr vs) ∧ ∃ P, FillP x (w.heap.size + 1) n k P ∧ ToldG x (w.heap.size + 2) k F S P
set_option maxRecDepth 100000 in
set_option maxHeartbeats 8000000 in
theorem pointToAll_is (nr : Nat) (F : Nat → Int) (n : Nat) (S : Nat → Sto) (V : Nat → Nat → Value) (vr vs : Value) (B : Nat) (w : World) (h : Grs w B nr F n S V vr vs) (hz : ∀ i, i < n → storeF (S i) = 0) (hn : n = nr) (hm : n ≤ 12) :
    Calls Tryz.prog 75 #[.agg #[vr, vs]] w fun e w' => ∃ g P, e = .returned (.slice (some ⟨g, 0, none⟩) n n) ∧ PtrRow w' n (some ⟨g, 0, none⟩) P ∧ ToldG w' w.heap.size n F S P ∧ Below w.heap.size w w' := by
  obtain ⟨a0, c0, a1, c1, rfl, rfl⟩ := h.form
  have HG : Hid (Grs w B nr F n S V (.slice a0 nr c0) (.slice a1 n c1)) := h
  have HZ : Hid (∀ i, i < n → storeF (S i) = 0) := hz
  have HM : Hid (n = nr) := hn
  clear h hz hn
  have hmk := make_row Tryz.underlying123 info_Ptr n (by omega) (by omega)
  have b0 : Hid (Blk2 (w.alloc (.cells #[.slice a0 nr c0, .slice a1 n c1] 40)) w.heap.size (.slice a0 nr c0) (.slice a1 n c1)) := Blk2.new w (.slice a0 nr c0) (.slice a1 n c1) 40
  obtain ⟨⟨p0, p1⟩, _⟩ := b0.out
  have q0 := (b0.out.alloc (.cells (madeCells #[Value.pointer none] n) 193)).1
  obtain ⟨q0, q1⟩ := q0
  go_enter Tryz.func75, Tryz.ntmps75
  go_wp2
  go_loopw [13] (fun i wr => ∃ k : Nat, k ≤ n ∧ i = .int .i64 k ∧ Hid (PtaT w (.slice a0 nr c0) (.slice a1 n c1) n k F S wr)) (fun i _ => n - (intOf i).toNat)
  case atStart =>
    refine ⟨0, Nat.zero_le _, rfl, ⟨(below_alloc _ _).alloc (by simp) _, b0.out.alloc _⟩, fun _ => 0, ?_, fun i hi => absurd hi (Nat.not_lt_zero i)⟩
    have := FillP.made (w.alloc (.cells #[.slice a0 nr c0, .slice a1 n c1] 40)) #[Value.pointer none] n 193 (fun _ => 0)
    rwa [World.size_alloc] at this
  case round =>
    obtain ⟨k, hk, rfl, hR⟩ := hrel
    by_cases hlt : k < n
    · have hkr : k < nr := by have := HM.out; omega
      obtain ⟨g, o, rfl, _, hg, ⟨b0', b1', b2'⟩, sk⟩ := HG.out.2.at hlt
      obtain ⟨gr, oR, rfl, _, hgr, t0, t1, t2⟩ := HG.out.1.at3 hkr
      obtain ⟨i0', d0', i1', d1', i2', d2', e0', e1', e2'⟩ := sk.form
      rw [e0'] at b0'
      rw [e1'] at b1'
      rw [e2'] at b2'
      rw [e0', e1', e2'] at sk
      obtain ⟨fr, hfr⟩ : ∃ x, F (k * 3) = x := ⟨_, rfl⟩
      obtain ⟨tto, hto⟩ : ∃ x, F (k * 3 + 1) = x := ⟨_, rfl⟩
      obtain ⟨ep, hep⟩ : ∃ x, F (k * 3 + 2) = x := ⟨_, rfl⟩
      rw [hfr] at t0
      rw [hto] at t1
      rw [hep] at t2
      have HF : Hid (F (k * 3) = fr ∧ F (k * 3 + 1) = tto ∧ F (k * 3 + 2) = ep) := ⟨hfr, hto, hep⟩
      have y0 := (hR.out.1.1.cell (p := ⟨g, o + k * 3, none⟩) hg).trans b0'
      have y1 := (hR.out.1.1.cell (p := ⟨g, o + k * 3 + 1, none⟩) hg).trans b1'
      have y2 := (hR.out.1.1.cell (p := ⟨g, o + k * 3 + 2, none⟩) hg).trans b2'
      have x0 := (hR.out.1.1.cell (p := ⟨gr, oR + k * 3, none⟩) hgr).trans t0
      have x1 := (hR.out.1.1.cell (p := ⟨gr, oR + k * 3 + 1, none⟩) hgr).trans t1
      have x2 := (hR.out.1.1.cell (p := ⟨gr, oR + k * 3 + 2, none⟩) hgr).trans t2
      obtain ⟨n0, hn0⟩ : ∃ x, (S k).nc = x := ⟨_, rfl⟩
      obtain ⟨n1, hn1⟩ : ∃ x, (S k).nl = x := ⟨_, rfl⟩
      obtain ⟨n2, hn2⟩ : ∃ x, (S k).nw = x := ⟨_, rfl⟩
      rw [hn0] at y0
      rw [hn1] at y1
      rw [hn2] at y2
      rw [hn0, hn1, hn2] at sk
      have SK : Hid (St wr B (S k) (.slice i0' n0 d0') (.slice i1' n1 d1') (.slice i2' n2 d2')) := sk.later hR.out.1.1
      clear hfr hto hep sk e0' e1' e2' b0' b1' b2' t0 t1 t2 hn0 hn1 hn2
      have zz : Hid (w.heap.size + 2 ≤ wr.heap.size) := by obtain ⟨_, P, hF, _⟩ := hR.out; have := hF.1; unfold Hid; omega
      have ZW : Hid (gr < w.heap.size) := hgr
      have HS0 : Hid (PtaE w (.slice (some ⟨gr, oR, none⟩) nr c0) (.slice (some ⟨g, o, none⟩) n c1) wr.heap.size (.slice i0' n0 d0') (.slice i1' n1 d1') (.slice i2' n2 d2') gr oR k fr tto ep (wr.alloc (.cells #[.slice i0' n0 d0', .slice i1' n1 d1', .slice i2' n2 d2'] 176))) := ⟨hR.out.1.2.alloc _, Blk3.new wr _ _ _ _, ((below_alloc wr _).cell (p := ⟨gr, oR + k * 3, none⟩) (by show gr < wr.heap.size; have := zz.out; have := ZW.out; omega)).trans x0, ((below_alloc wr _).cell (p := ⟨gr, oR + k * 3 + 1, none⟩) (by show gr < wr.heap.size; have := zz.out; have := ZW.out; omega)).trans x1, ((below_alloc wr _).cell (p := ⟨gr, oR + k * 3 + 2, none⟩) (by show gr < wr.heap.size; have := zz.out; have := ZW.out; omega)).trans x2⟩
      clear x0 x1 x2 hg hgr p0 p1 q0 q1 hmk
      go_upto_region 5 with fail
      refine wp_region_held_drew (S := PtaE w (.slice (some ⟨gr, oR, none⟩) nr c0) (.slice (some ⟨g, o, none⟩) n c1) wr.heap.size (.slice i0' n0 d0') (.slice i1' n1 d1') (.slice i2' n2 d2') gr oR k fr tto ep) (by kernel_rfl) (HS0.out.kept (fun _ _ => rfl)) (fun hS => ?_)
      clear y0 y1 y2
      refine tkH 0 ?_ hS (fun wx hx => ?_) ?_; rotate_left
      · obtain ⟨⟨⟨hx0, hx1⟩, _⟩, ⟨⟨hx2, hx3, hx4⟩, _⟩, hx5, hx6, hx7⟩ := hx; go_simp; try with_reducible rfl
      refine tkH 1 ?_ hS (fun wx hx => ?_) ?_; rotate_left
      · obtain ⟨⟨⟨hx0, hx1⟩, _⟩, ⟨⟨hx2, hx3, hx4⟩, _⟩, hx5, hx6, hx7⟩ := hx; go_simp; try with_reducible rfl
      refine tkH 2 ?_ hS (fun wx hx => ?_) ?_; rotate_left
      · obtain ⟨⟨⟨hx0, hx1⟩, _⟩, ⟨⟨hx2, hx3, hx4⟩, _⟩, hx5, hx6, hx7⟩ := hx; go_simp; try with_reducible rfl
      refine tkH 3 ?_ hS (fun wx hx => ?_) ?_; rotate_left
      · obtain ⟨⟨⟨hx0, hx1⟩, _⟩, ⟨⟨hx2, hx3, hx4⟩, _⟩, hx5, hx6, hx7⟩ := hx; go_simp; try with_reducible rfl
      refine tkH 4 ?_ hS (fun wx hx => ?_) ?_; rotate_left
      · obtain ⟨⟨⟨hx0, hx1⟩, _⟩, ⟨⟨hx2, hx3, hx4⟩, _⟩, hx5, hx6, hx7⟩ := hx; go_simp; try with_reducible rfl
      refine tkH 5 ?_ hS (fun wx hx => ?_) ?_; rotate_left
      · obtain ⟨⟨⟨hx0, hx1⟩, _⟩, ⟨⟨hx2, hx3, hx4⟩, _⟩, hx5, hx6, hx7⟩ := hx; go_simp; try with_reducible rfl
      refine tkH 6 ?_ hS (fun wx hx => ?_) ?_; rotate_left
      · obtain ⟨⟨⟨hx0, hx1⟩, _⟩, ⟨⟨hx2, hx3, hx4⟩, _⟩, hx5, hx6, hx7⟩ := hx; go_simp; try with_reducible rfl
      refine tkH 7 ?_ hS (fun wx hx => ?_) ?_; rotate_left
      · obtain ⟨⟨⟨hx0, hx1⟩, _⟩, ⟨⟨hx2, hx3, hx4⟩, _⟩, hx5, hx6, hx7⟩ := hx; go_simp; try with_reducible rfl
      refine rdH 8 (fun K hK => ?_)
      go_simp
      go_wp2_with fail
      refine (pointTo_is (S k) _ _ _ fr tto ep B _ (SK.out.later ((below_alloc _ _).drew)) (HZ.out k hlt)).mono ?_
      rintro e w4 ⟨b, gm, u1, u2, rfl, hRS, q4⟩
      have q4' : Below wr.heap.size wr w4 := (below_alloc wr _).trans (Below.mono ⟨q4.os, q4.tape, q4.output, q4.size, q4.block⟩ (by simp))
      have z4 : Hid (wr.heap.size ≤ w4.heap.size) := q4'.size
      have RS : Hid (RSt w4 (w.heap.size + 2) b fr tto ep (S k).nc (cellM (S k) (S k).nc) (S k).nl (S k).l (S k).nw (S k).k gm u1 u2) := hRS.mono (by have := zz.out; simp; omega)
      have R4 : Hid ((Below w.heap.size w w4 ∧ Blk2 w4 w.heap.size (.slice (some ⟨gr, oR, none⟩) nr c0) (.slice (some ⟨g, o, none⟩) n c1)) ∧ ∃ P, FillP w4 (w.heap.size + 1) n k P ∧ ToldG w4 (w.heap.size + 2) k F S P) := by
        obtain ⟨⟨h1, h2⟩, P, h3, h4⟩ := hR.out
        exact ⟨⟨h1.trans (q4'.mono h1.size), h2.later q4'⟩, P, h3.later q4', h4.later q4'⟩
      have hS' := hS.kept (x' := w4) (fun q hq => q4.block q (by have := zz.out; have := ZW.out; simp; rcases hq with e | e | e <;> omega))
      clear q4 q4' hRS hR HS0 SK
      go_wp2_with fail
      refine hK.out _ _ hS' (fun hS => ?_)
      clear hK K hS'
      refine tkH 9 ?_ hS (fun wx hx => ?_) ?_; rotate_left
      · obtain ⟨⟨⟨hx0, hx1⟩, _⟩, ⟨⟨hx2, hx3, hx4⟩, _⟩, hx5, hx6, hx7⟩ := hx; go_simp; try with_reducible rfl
      obtain ⟨⟨h1, h2⟩, P, h3, h4⟩ := R4.out
      obtain ⟨ux, x0, x1⟩ := h3.at hlt
      have R5 : Hid (PtaT w (.slice (some ⟨gr, oR, none⟩) nr c0) (.slice (some ⟨g, o, none⟩) n c1) n (k + 1) F S (w4.setCell ⟨w.heap.size + 1, k, none⟩ (.pointer (some ⟨b, 0, none⟩)))) := ⟨⟨h1.setCell (Nat.le_succ _) _, h2.kept (Below.heap_setCell _ _ _ _ (by show w.heap.size ≠ w.heap.size + 1; omega))⟩, _, h3.put hlt b, (h4.put HF.out (HZ.out k hlt) RS.out).keptB (fun q hq _ => Below.heap_setCell _ _ _ q (by show q ≠ w.heap.size + 1; omega))⟩
      clear h1 h2 h3 h4 R4 RS
      refine rdH 10 (fun K hK => ?_)
      go_simp
      have hS' := hS.kept (x' := w4.setCell ⟨w.heap.size + 1, k, none⟩ (.pointer (some ⟨b, 0, none⟩))) (fun q hq => Below.heap_setCell _ _ _ q (by show q ≠ w.heap.size + 1; have := zz.out; have := ZW.out; rcases hq with e | e | e <;> omega))
      refine hK.out _ _ hS' (fun hS => ?_)
      clear hK K hS'
      refine wpAnyH_done (by kernel_rfl) ?_ _
      clear hS x0 x1
      go_simp
      generalize w4.setCell ⟨w.heap.size + 1, k, none⟩ (.pointer (some ⟨b, 0, none⟩)) = x4 at R5 ⊢
      go_wp2
      go_roundw
      case rel => exact ⟨k + 1, by omega, by go_num, R5⟩
      case measure => simp [intOf]; omega
    · obtain rfl : k = n := by omega
      go_wp2
      go_ret
      obtain ⟨⟨hB, _⟩, P, hF, hT⟩ := hR.out
      exact ⟨w.heap.size + 1, P, rfl, fun _ => ⟨_, _, rfl, hF.1, fun i hi => by rw [Nat.zero_add]; exact hF.2.2 i hi⟩, hT.mono (by omega), hB⟩
end

section
open Go.RowKit Go.Maps
theorem listU_inv {V : Nat → Nat → Value} {n j : Nat} {u : Value} (h : (listU V n)[j]? = some u) : ∃ i r, i < n ∧ r < 3 ∧ j = i * 3 + r ∧ u = V i r := by
  have hj : j < n * 3 := by
    have := (List.getElem?_eq_some_iff.1 h).1
    rw [listU_len] at this
    exact this
  obtain ⟨h0, h1, h2⟩ := listU_at V n (j / 3) (by omega)
  have e : j = j / 3 * 3 + j % 3 := by omega
  have hr : j % 3 = 0 ∨ j % 3 = 1 ∨ j % 3 = 2 := by omega
  rcases hr with r | r | r
  · refine ⟨j / 3, 0, by omega, by omega, by omega, ?_⟩
    rw [show j / 3 * 3 = j by omega, h] at h0
    exact Option.some.inj h0
  · refine ⟨j / 3, 1, by omega, by omega, by omega, ?_⟩
    rw [show j / 3 * 3 + 1 = j by omega, h] at h1
    exact Option.some.inj h1
  · refine ⟨j / 3, 2, by omega, by omega, by omega, ?_⟩
    rw [show j / 3 * 3 + 2 = j by omega, h] at h2
    exact Option.some.inj h2
theorem St.slices {w : World} {B : Nat} {S : Sto} {u0 u1 u2 : Value} (h : St w B S u0 u1 u2) : u0.oneCell' = true ∧ u1.oneCell' = true ∧ u2.oneCell' = true := by
  obtain ⟨a0, c0, a1, c1, a2, c2, rfl, rfl, rfl⟩ := h.form
  exact ⟨rfl, rfl, rfl⟩
theorem Stos.one {w : World} {B n : Nat} {S : Nat → Sto} {V : Nat → Nat → Value} {v : Value} (h : Stos w B n S V v) : ∀ u ∈ listU V n, u.oneCell' = true := fun u hu => by
  obtain ⟨j, hj⟩ := List.getElem?_of_mem hu
  obtain ⟨i, r, hi, hr, _, rfl⟩ := listU_inv hj
  obtain ⟨h0, h1, h2⟩ := (h.2 i hi).slices
  have hr : r = 0 ∨ r = 1 ∨ r = 2 := by omega
  rcases hr with rfl | rfl | rfl
  · exact h0
  · exact h1
  · exact h2
theorem Stos.cells {w : World} {B n : Nat} {S : Nat → Sto} {V : Nat → Nat → Value} {a : Addr} {cp : Nat} (h : Stos w B n S V (.slice (some a) n cp)) : ∀ j u, (listU V n)[j]? = some u → w.cell? (a.add j) = some u := fun j u hu => by
  obtain ⟨i, r, hi, hr, rfl, rfl⟩ := listU_inv hu
  obtain ⟨ao, cp', hv, h'⟩ := h.1
  obtain ⟨g, o, rfl, _, _, hc⟩ := h' (by omega)
  simp only [Value.slice.injEq, Option.some.injEq] at hv
  obtain ⟨rfl, _⟩ := hv
  rw [WideShapes.add_plain]
  obtain ⟨h0, h1, h2⟩ := hc i hi
  have hr : r = 0 ∨ r = 1 ∨ r = 2 := by omega
  rcases hr with rfl | rfl | rfl
  · exact h0
  · rw [← Nat.add_assoc]; exact h1
  · rw [← Nat.add_assoc]; exact h2
end

section
open Go.RowKit Go.Maps
end

section
open Go.RowKit Go.Maps
end
end
end Go.Proofs.YtpodcnmiaacndaaGreat

namespace Go.Proofs.YtpodcnmiaacndaaGreat
section
open Go.RowKit
theorem Stos.o {w : World} {n : Nat} {S : Nat → Sto} {V : Nat → Nat → Value} {g o c1 : Nat} (h : Stos w 0 n S V (.slice (some ⟨g, o, none⟩) n c1)) {j : Nat} (hj : j < n) : LiesO w g (o + j * 3) (S j) (V j 0) (V j 1) (V j 2) := by
  obtain ⟨g', o', e, _, _, b, s⟩ := h.at hj
  simp only [Option.some.injEq, Addr.mk.injEq] at e
  obtain ⟨rfl, rfl, _⟩ := e
  exact ⟨b, s⟩
end

section
open Go.RowKit
end
end Go.Proofs.YtpodcnmiaacndaaGreat

namespace Go.Proofs.YtpodcnmiaacndaaGreat
section
open Go.RowKit Go.Maps
/-- The rows of pointers that are worked on, and what they point at. -/
def Work (x : World) (B n : Nat) (F : Nat → Int) (S : Nat → Sto) (pa : Option Addr) (P : Nat → Nat) : Prop := PtrRow x n pa P ∧ ToldG x B n F S P
theorem PtrRow.later {x x' : World} {n : Nat} {pa : Option Addr} {P : Nat → Nat} (h : PtrRow x n pa P) (hb : Below x.heap.size x x') : PtrRow x' n pa P := fun hn => by
  obtain ⟨gp, op, e, hg, hc⟩ := h hn
  exact ⟨gp, op, e, Nat.lt_of_lt_of_le hg hb.size, fun i hi => (hb.cell (p := ⟨gp, op + i, none⟩) hg).trans (hc i hi)⟩
theorem Work.later {x x' : World} {B n : Nat} {F : Nat → Int} {S : Nat → Sto} {pa : Option Addr} {P : Nat → Nat} (h : Work x B n F S pa P) (hb : Below x.heap.size x x') : Work x' B n F S pa P := ⟨h.1.later hb, h.2.later hb⟩
def StE (bc p : Nat) (key tto : Int) (x : World) : Prop := x.cell? ⟨bc, 0, none⟩ = some (.int .i64 key) ∧ x.cell? ⟨p, 1, none⟩ = some (.int .i64 tto)
theorem storeOf1_is (p bc : Nat) (key tto : Int) (r : Bool) (hr : decide (key < tto) = r) (w : World) (hc : w.cell? ⟨bc, 0, none⟩ = some (.int .i64 key)) (hp : w.cell? ⟨p, 1, none⟩ = some (.int .i64 tto)) :
    Calls Tryz.prog 178 #[.pointer (some ⟨p, 0, none⟩), .pointer (some ⟨bc, 0, none⟩)] w fun e w' => e = .returned (.bool r) ∧ Below w.heap.size w w' := by
  go_enter Tryz.func178, Tryz.ntmps178
  go_wp2_with fail
  refine wp_region_held_drew (S := StE bc p key tto) (by kernel_rfl) ⟨hc, hp⟩ (fun hS => ?_)
  clear hc hp
  refine tkH 0 ?_ hS (fun wx hx => ?_) ?_; rotate_left
  · obtain ⟨hx0, hx1⟩ := hx; go_simp; try with_reducible rfl
  refine tkH 1 ?_ hS (fun wx hx => ?_) ?_; rotate_left
  · obtain ⟨hx0, hx1⟩ := hx; go_simp; try with_reducible rfl
  refine tkH 2 ?_ hS (fun wx hx => ?_) ?_; rotate_left
  · obtain ⟨hx0, hx1⟩ := hx; go_simp; try with_reducible rfl
  refine tkH 3 ?_ hS (fun wx hx => ?_) ?_; rotate_left
  · obtain ⟨hx0, hx1⟩ := hx; go_simp; try with_reducible rfl
  refine tkH 4 ?_ hS (fun wx hx => ?_) ?_; rotate_left
  · obtain ⟨hx0, hx1⟩ := hx; go_simp; try with_reducible rfl
  refine tkH 5 ?_ hS (fun wx hx => ?_) ?_; rotate_left
  · obtain ⟨hx0, hx1⟩ := hx; go_simp; try with_reducible rfl
  refine tkH 6 ?_ hS (fun wx hx => ?_) ?_; rotate_left
  · obtain ⟨hx0, hx1⟩ := hx; go_simp; try with_reducible rfl
  refine tkH 7 ?_ hS (fun wx hx => ?_) ?_; rotate_left
  · obtain ⟨hx0, hx1⟩ := hx; go_simp; try with_reducible rfl
  refine wpAnyH_done (by kernel_rfl) ?_ _
  clear hS
  go_simp
  go_wp2
  go_ret
  exact ⟨by first | rfl | (rw [← hr]; rfl) | rw [hr], below_dr (Below.refl _ _) 1⟩
set_option maxRecDepth 100000 in
set_option maxHeartbeats 4000000 in
theorem indexWork_is (bc : Nat) (key : Int) (B n : Nat) (F : Nat → Int) (S : Nat → Sto) (pa : Option Addr) (cp : Nat) (P : Nat → Nat) (j : Nat) (w : World) (h : Work w B n F S pa P) (hj : AtR n F key j) (hn : n ≤ 12) (hw : w.cell? ⟨bc, 0, none⟩ = some (.int .i64 key)) :
    Calls Tryz.prog 177 #[.slice pa n cp, .func (.func 178) #[] #[.pointer (some ⟨bc, 0, none⟩)]] w fun e w' => e = .returned (.int .i64 j) ∧ Below w.heap.size w w' := by
  have hbc := World.block_lt_of_cell? w _ hw
  have hjn := hj.1
  obtain ⟨gp, op, rfl, hg, hc⟩ := h.1 (by omega)
  have H : Hid (Work w B n F S (some ⟨gp, op, none⟩) P) := h
  have HJ : Hid (AtR n F key j) := hj
  have HC0 : Hid (∀ i, i < n → w.cell? ⟨gp, op + i, none⟩ = some (.pointer (some ⟨P i, 0, none⟩))) := hc
  have HW : Hid (w.cell? ⟨bc, 0, none⟩ = some (.int .i64 key)) := hw
  clear h hj hw hc
  go_enter Tryz.func177, Tryz.ntmps177
  go_wp2
  go_loopw [8] (fun i wr => ∃ k : Nat, k ≤ j ∧ i = .int .i64 k ∧ Hid (Below w.heap.size w wr)) (fun i _ => n - (intOf i).toNat)
  case atStart => exact ⟨0, Nat.zero_le _, rfl, Below.refl _ _⟩
  case round =>
    obtain ⟨k, hk, rfl, HB⟩ := hrel
    have hlt : k < n := by omega
    have x0 : wr.cell? ⟨gp, op + k, none⟩ = some (.pointer (some ⟨P k, 0, none⟩)) := (HB.out.cell (p := ⟨gp, op + k, none⟩) hg).trans (HC0.out k hlt)
    obtain ⟨N, m, gm, u1, u2, _, _, hR⟩ := (H.out.later HB.out).2 k hlt
    have t1 := hR.1.2.1
    obtain ⟨tto, hto⟩ : ∃ x, F (k * 3 + 1) = x := ⟨_, rfl⟩
    rw [hto] at t1
    have T1 : Hid (wr.cell? ⟨P k, 1, none⟩ = some (.int .i64 tto)) := t1
    have HC : Hid (wr.cell? ⟨bc, 0, none⟩ = some (.int .i64 key)) := (HB.out.cell (p := ⟨bc, 0, none⟩) hbc).trans HW.out
    clear hR t1
    by_cases hkj : k = j
    · subst hkj
      have D : Hid (decide (key < tto) = true) := decide_eq_true (by rw [← hto]; exact HJ.out.2.1)
      clear hto
      go_wp2_with fail
      refine (storeOf1_is (P k) bc key tto true D.out _ HC.out T1.out).mono ?_
      rintro e w1 ⟨rfl, q1⟩
      have HB1 : Hid (Below w.heap.size w w1) := HB.out.trans (q1.mono HB.out.size)
      clear q1
      go_wp2
      go_ret
      exact ⟨rfl, HB1.out⟩
    · have D : Hid (decide (key < tto) = false) := decide_eq_false (by rw [← hto]; have := HJ.out.2.2 k (by omega); omega)
      clear hto
      go_wp2_with fail
      refine (storeOf1_is (P k) bc key tto false D.out _ HC.out T1.out).mono ?_
      rintro e w1 ⟨rfl, q1⟩
      have HB1 : Hid (Below w.heap.size w w1) := HB.out.trans (q1.mono HB.out.size)
      clear q1
      go_wp2
      go_roundw
      case rel => exact ⟨k + 1, by omega, by go_num, HB1⟩
      case measure => simp [intOf]; omega
set_option maxRecDepth 100000 in
set_option maxHeartbeats 2000000 in
theorem storeOf_is (key : Int) (B n : Nat) (F : Nat → Int) (S : Nat → Sto) (pa : Option Addr) (cp : Nat) (P : Nat → Nat) (j : Nat) (w : World) (h : Work w B n F S pa P) (hj : AtR n F key j) (hn : n ≤ 12) :
    Calls Tryz.prog 119 #[.slice pa n cp, .int .i64 key] w fun e w' => e = .returned (.pointer (some ⟨P j, 0, none⟩)) ∧ Below w.heap.size w w' := by
  have hjn := hj.1
  obtain ⟨gp, op, rfl, hg, hc⟩ := h.1 (by omega)
  have H : Hid (Work w B n F S (some ⟨gp, op, none⟩) P) := h
  have HJ : Hid (AtR n F key j) := hj
  have HC0 : Hid (w.cell? ⟨gp, op + j, none⟩ = some (.pointer (some ⟨P j, 0, none⟩))) := hc j hjn
  clear h hj hc
  have hjj : (j : Int) < (n : Int) := by omega
  go_enter Tryz.func119, Tryz.ntmps119
  go_wp2_with fail
  refine (indexWork_is w.heap.size key B n F S _ _ P j _ (H.out.later (below_alloc _ _)) HJ.out hn (World.cell?_alloc_mark w _ _ _ 0)).mono ?_
  rintro e w1 ⟨rfl, q1⟩
  have HB1 : Hid (Below w.heap.size w w1) := (below_alloc _ _).trans (q1.mono (by simp))
  have x0 : w1.cell? ⟨gp, op + j, none⟩ = some (.pointer (some ⟨P j, 0, none⟩)) := (HB1.out.cell (p := ⟨gp, op + j, none⟩) hg).trans HC0.out
  clear q1
  go_wp2
  go_ret
  exact ⟨rfl, HB1.out⟩
end

section
open Go.RowKit
end

section
open Go.RowKit
end
end Go.Proofs.YtpodcnmiaacndaaGreat

namespace Go.Proofs.YtpodcnmiaacndaaGreat
open Go.RowKit

/-- Five cells of a block. -/
def Blk5w (x : World) (b : Nat) (a0 a1 a2 a3 a4 : Value) : Prop := (x.cell? ⟨b, 0, none⟩ = some a0 ∧ x.cell? ⟨b, 1, none⟩ = some a1 ∧ x.cell? ⟨b, 2, none⟩ = some a2 ∧ x.cell? ⟨b, 3, none⟩ = some a3 ∧ x.cell? ⟨b, 4, none⟩ = some a4) ∧ ∀ j, x.frozen? ⟨b, j, none⟩ = false
theorem Blk5w.kept {x x' : World} {b : Nat} {a0 a1 a2 a3 a4 : Value} (h : Blk5w x b a0 a1 a2 a3 a4) (hb : x'.heap[b]? = x.heap[b]?) : Blk5w x' b a0 a1 a2 a3 a4 := by
  have hc : ∀ j, x'.cell? ⟨b, j, none⟩ = x.cell? ⟨b, j, none⟩ := fun j => World.cell?_of_block (w := x) hb
  have hf : ∀ j, x'.frozen? ⟨b, j, none⟩ = x.frozen? ⟨b, j, none⟩ := fun j => World.frozen?_of_block (w := x) hb
  obtain ⟨⟨h0, h1, h2, h3, h4⟩, h5⟩ := h
  exact ⟨⟨(hc 0).trans h0, (hc 1).trans h1, (hc 2).trans h2, (hc 3).trans h3, (hc 4).trans h4⟩, fun j => (hf j).trans (h5 j)⟩
theorem Blk5w.lt {x : World} {b : Nat} {a0 a1 a2 a3 a4 : Value} (h : Blk5w x b a0 a1 a2 a3 a4) : b < x.heap.size := World.block_lt_of_cell? x _ h.1.1
theorem Blk5w.later {x x' : World} {b : Nat} {a0 a1 a2 a3 a4 : Value} (h : Blk5w x b a0 a1 a2 a3 a4) (hb : Below x.heap.size x x') : Blk5w x' b a0 a1 a2 a3 a4 := h.kept (hb.block b h.lt)
/-- The cells of n transactions, one behind the other. -/
def tvals (T : Nat → Tx) (Y : Nat → Value) : Nat → List Value
  | 0 => []
  | n + 1 => tvals T Y n ++ [.int .i64 (T n).s, .int .i64 (T n).c, .int .i64 (T n).u, .int .i64 (T n).st, .int .i64 (T n).a, Y n]
theorem tvals_length (T : Nat → Tx) (Y : Nat → Value) : ∀ n, (tvals T Y n).length = n * 6
  | 0 => rfl
  | n + 1 => by
    rw [tvals, List.length_append, tvals_length T Y n]
    simp only [List.length_cons, List.length_nil]
    omega
theorem tvals_get (T : Nat → Tx) (Y : Nat → Value) : ∀ (n i j : Nat), i < n → j < 6 → (tvals T Y n)[i * 6 + j]? = some (txV (T i) (Y i) j)
  | 0, i, _, hi, _ => absurd hi (Nat.not_lt_zero i)
  | n + 1, i, j, hi, hj => by
    rw [tvals]
    rcases Nat.lt_or_ge i n with q | q
    · rw [List.getElem?_append_left (by rw [tvals_length]; omega)]
      exact tvals_get T Y n i j q hj
    · obtain rfl : i = n := by omega
      rw [List.getElem?_append_right (by rw [tvals_length]; omega), tvals_length, show i * 6 + j - i * 6 = j by omega]
      match j, hj with
      | 0, _ => rfl
      | 1, _ => rfl
      | 2, _ => rfl
      | 3, _ => rfl
      | 4, _ => rfl
      | 5, _ => rfl
theorem tvals_congr {T : Nat → Tx} {Y Z : Nat → Value} : ∀ {n : Nat}, (∀ i, i < n → Y i = Z i) → tvals T Y n = tvals T Z n
  | 0, _ => rfl
  | n + 1, h => by rw [tvals, tvals, tvals_congr (fun i hi => h i (by omega)), h n (by omega)]
/-- Transactions under way: a row of their own, items of their own. -/
structure WrkT (x : World) (B n : Nat) (T : Nat → Tx) (Y : Nat → Value) (v : Value) : Prop where
  own : x.ownsRow B 90 6 v n (tvals T Y n)
  items : ∀ i, i < n → Row x B 3 (T i).m (T i).L (Y i) ∧ CapOk (Y i) ∧ (0 < (T i).m → ∀ k, (Y i).ownBlock = some k → v.ownBlock ≠ some k ∧ k < x.heap.size)
  free : ∀ i, i < n → Free x ((T i).m * 3) (Y i)
  apart : ∀ i j, i < n → j < n → i ≠ j → 0 < (T i).m → 0 < (T j).m → ∀ q, (Y i).ownBlock = some q → (Y j).ownBlock ≠ some q
theorem WrkT.txs {x : World} {B n : Nat} {T : Nat → Tx} {Y : Nat → Value} {v : Value} (h : WrkT x B n T Y v) : Txs x B n T Y v := by
  refine ⟨?_, fun i hi => ⟨(h.items i hi).1, (h.items i hi).2.1⟩⟩
  rcases h.own.2 with ⟨rfl, rfl⟩ | ⟨g, cap, cur, rfl, hB, hg, _⟩
  · exact ⟨_, _, rfl, fun q => absurd q (Nat.lt_irrefl 0)⟩
  · refine ⟨_, _, rfl, fun hn => ⟨g, 0, rfl, hB, (Array.getElem?_eq_some_iff.1 hg).1, fun i hi j hj => ?_⟩⟩
    rw [Nat.zero_add, World.ownsRow.cellAt h.own _ (by omega), tvals_get T Y n i j hi hj]
theorem WrkT.grown {x x' : World} {B n : Nat} {T : Nat → Tx} {Y : Nat → Value} {v : Value} {row : Option Nat} (h : WrkT x B n T Y v) (hg : x.grownBy x' row) (hv : ∀ k, v.ownBlock = some k → row ≠ some k) (hi : ∀ i, i < n → 0 < (T i).m → ∀ k, (Y i).ownBlock = some k → row ≠ some k) : WrkT x' B n T Y v :=
  ⟨h.own.kept hg (by cases hq : v.ownBlock with | none => exact Or.inl rfl | some k => exact Or.inr (fun e => hv k hq e.symm)), fun i hin => ⟨(h.items i hin).1.turned hg (fun h0 k hk e => hi i hin h0 k hk e.symm), (h.items i hin).2.1, fun h0 k hk => ⟨((h.items i hin).2.2 h0 k hk).1, Nat.lt_of_lt_of_le ((h.items i hin).2.2 h0 k hk).2 hg.size⟩⟩, fun i hin => (h.free i hin).turned (h.items i hin).1 hg (fun h0 k hk e => hi i hin h0 k hk e.symm), h.apart⟩
theorem WrkT.later {x x' : World} {B n : Nat} {T : Nat → Tx} {Y : Nat → Value} {v : Value} (h : WrkT x B n T Y v) (hb : Below x.heap.size x x') : WrkT x' B n T Y v :=
  h.grown (row := none) ⟨hb.os, hb.tape, hb.output, hb.size, fun i hi _ => hb.block i hi⟩ (fun _ _ e => by cases e) (fun _ _ _ _ _ e => by cases e)
/-- One more. -/
theorem WrkT.put {x : World} {B n : Nat} {T : Nat → Tx} {Y : Nat → Value} {v : Value} (h : WrkT x B n T Y v) {y v' : Value} {x' : World} (hy : Row x B 3 (T n).m (T n).L y ∧ CapOk y) (hyb : 0 < (T n).m → ∀ k, y.ownBlock = some k → v.ownBlock ≠ some k ∧ k < x.heap.size) (hyf : Free x ((T n).m * 3) y) (hya : ∀ i, i < n → 0 < (T i).m → 0 < (T n).m → ∀ q, (Y i).ownBlock = some q → y.ownBlock ≠ some q)
    (ho : x'.ownsRow B 90 6 v' (n + 1) (tvals T Y n ++ [.int .i64 (T n).s, .int .i64 (T n).c, .int .i64 (T n).u, .int .i64 (T n).st, .int .i64 (T n).a, y])) (hg : x.grownBy x' v.ownBlock) (hv' : ∀ k, v'.ownBlock = some k → v.ownBlock = some k ∨ x.heap.size ≤ k) : WrkT x' B (n + 1) T (fun i => if i = n then y else Y i) v' := by
  refine ⟨?_, fun i hi => ?_, fun i hi => ?_, fun i j hi hj hij h0 h1 q hq => ?_⟩
  · rw [tvals, if_pos rfl, tvals_congr (Z := Y) (fun i hi => if_neg (by omega))]
    exact ho
  · have hall : Row x B 3 (T i).m (T i).L (if i = n then y else Y i) ∧ CapOk (if i = n then y else Y i) ∧ (0 < (T i).m → ∀ k, (if i = n then y else Y i).ownBlock = some k → v.ownBlock ≠ some k ∧ k < x.heap.size) := by
      by_cases q : i = n
      · subst q
        rw [if_pos rfl]
        exact ⟨hy.1, hy.2, hyb⟩
      · rw [if_neg q]
        exact h.items i (by omega)
    refine ⟨hall.1.turned hg (fun h0 k hk e => (hall.2.2 h0 k hk).1 e.symm), hall.2.1, fun h0 k hk => ?_⟩
    have := hall.2.2 h0 k hk
    exact ⟨fun e => (hv' k e).elim this.1 (fun q => by omega), Nat.lt_of_lt_of_le this.2 hg.size⟩
  · by_cases q : i = n
    · subst q
      rw [if_pos rfl]
      exact hyf.turned hy.1 hg (fun h0 k hk e => (hyb h0 k hk).1 e.symm)
    · rw [if_neg q]
      exact (h.free i (by omega)).turned (h.items i (by omega)).1 hg (fun h0 k hk e => ((h.items i (by omega)).2.2 h0 k hk).1 e.symm)
  · by_cases q1 : i = n
    · subst q1
      rw [if_pos rfl] at hq
      rw [if_neg (fun e => hij e.symm)]
      exact fun e => hya j (by omega) h1 h0 q e hq
    · rw [if_neg q1] at hq
      by_cases q2 : j = n
      · subst q2
        rw [if_pos rfl]
        exact hya i (by omega) h0 h1 q hq
      · rw [if_neg q2]
        exact h.apart i j (by omega) (by omega) hij h0 h1 q hq
end Go.Proofs.YtpodcnmiaacndaaGreat

namespace Go.Proofs.YtpodcnmiaacndaaGreat
open Go.RowKit

theorem run_appX (t ty e : TypeId) (i : TypeInfo) (z : Value) (m bytes : Nat) (ht : Tryz.prog.underlying t = some (.slice e)) (hi : Tryz.prog.info? e = some i) (hz : i.zero = some z) (hsize : i.size = m) (hby : i.bytes = bytes) (hzs : z.cells.size = m) (hm : 0 < m) (hb5 : bytes ≤ 1000)
    (w : World) (base n0 : Nat) (L : List Int) (v : Value) (hown : OwnM w base e m v n0 L) (B n : Nat) (F : Nat → Int) (x : Value) (h : Row w B m n F x) (hn : n0 + n ≤ 2097152) (hbase : base ≤ w.heap.size) :
    ∃ ao cp w', (Builtin.append_ #[t, t] ty #[v, x]).run Tryz.prog w = .ok (.slice ao (n0 + n) cp) w' ∧ OwnM w' base e m (.slice ao (n0 + n) cp) (n0 + n) (L ++ nums F (n * m)) ∧ w.grownBy w' v.ownBlock ∧ ((Value.slice ao (n0 + n) cp).ownBlock = v.ownBlock ∨ (Value.slice ao (n0 + n) cp).ownBlock = some w.heap.size) := by
  have hbb : (n0 + n) * bytes ≤ 2097152 * 1000 := Nat.mul_le_mul hn hb5
  obtain ⟨ao, cp, rfl⟩ := h.form
  cases ao with
  | none =>
    have e0 : n = 0 := by
      rcases Nat.eq_zero_or_pos n with q | q
      · exact q
      · obtain ⟨g, o, hg, _⟩ := h.at q
        cases hg
    subst e0
    obtain ⟨av, cv, rfl⟩ := hown.form
    refine ⟨av, cv, w, ?_, ?_, ⟨rfl, rfl, rfl, Nat.le_refl _, fun _ _ _ => rfl⟩, Or.inl rfl⟩
    · rcases hown.2 with ⟨q, _⟩ | ⟨g, cap, cur, q, _, _, hnc, _⟩
      · cases q
        simp [Builtin.append_, run_underlying ht, sizeOf, typeInfo, hi, Builtin.lenOf, Builtin.firstCells]
      · cases q
        simp [Builtin.append_, run_underlying ht, sizeOf, typeInfo, hi, Builtin.lenOf, Builtin.firstCells, hnc, storeCells]
    · simpa [nums] using hown
  | some a =>
    obtain ⟨v', w', h1, h2, h3, _, h5⟩ := run_append_own_at (P := Tryz.prog) w base t ty e i z m bytes ht hi hz hsize hby hzs hm v n0 _ hown a n cp (vals F (n * m)) (vals_length _ _) (row_cells h) (vals_one _ _) (by unfold maxLen; omega) (by omega) hbase
    have h2' : OwnM w' base e m v' (n0 + n) (L ++ nums F (n * m)) := by
      unfold OwnM
      rw [List.map_append, nums_vals]
      exact h2
    obtain ⟨ao', cp', rfl⟩ := h2'.form
    exact ⟨ao', cp', w', h1, h2', h3, h5⟩
/-- .. with the word where the new row lies, for the walk. -/
theorem wpList_appX (e : TypeId) (i : TypeInfo) (z : Value) (m bytes : Nat) {ops : Array Oper} {rest : List Oper} {o : Oper} {a : Act} {Q : Exit → Act → World → Prop} (hgd : o.guard = none) (s x : Operand) (t : TypeId) (ho : o.op = .call { callee := .builtin .append, args := #[s, x], argTypes := #[t, t] })
    (ht : Tryz.prog.underlying t = some (.slice e)) (hi : Tryz.prog.info? e = some i) (hz : i.zero = some z) (hsize : i.size = m) (hby : i.bytes = bytes) (hzs : z.cells.size = m) (hm : 0 < m) (hb5 : bytes ≤ 1000)
    (w : World) (base n0 : Nat) (L : List Int) (v : Value) (hs : a.eval s = v) (hown : OwnM w base e m v n0 L) (B n : Nat) (F : Nat → Int) (u : Value) (hx : a.eval x = u) (h : Row w B m n F u) (hn : n0 + n ≤ 2097152) (hbase : base ≤ w.heap.size)
    (hK : ∀ ao cp w', OwnM w' base e m (.slice ao (n0 + n) cp) (n0 + n) (L ++ nums F (n * m)) → w.grownBy w' v.ownBlock → ((Value.slice ao (n0 + n) cp).ownBlock = v.ownBlock ∨ (Value.slice ao (n0 + n) cp).ownBlock = some w.heap.size) → wpList Tryz.prog ops Q rest (a.put o.dst (.slice ao (n0 + n) cp)) w') : wpList Tryz.prog ops Q (o :: rest) a w := by
  refine wpList_plain hgd fun K hK' => ?_
  obtain ⟨ao, cp, w', hr, h2, h3, h5⟩ := run_appX t o.type e i z m bytes ht hi hz hsize hby hzs hm hb5 w base n0 L v hown B n F u h hn hbase
  unfold Oper.wp execOp
  simp only [ho, resolve, invoke, builtin, Sem.run_bind, Sem.run_pure, Result.andThen_ok, List.map_toArray, List.map_cons, List.map_nil, hs, hx, hr]
  exact hK' _ _ (hK ao cp w' h2 h3 h5)
end Go.Proofs.YtpodcnmiaacndaaGreat

namespace Go.Proofs.YtpodcnmiaacndaaGreat
open Go.RowKit

theorem infoz_ItemW : (Tryz.prog.info? 141).map (fun i => (i.zero, i.size, i.bytes)) = some (some (.agg #[.int .i64 0, .int .i64 0, .int .i64 0]), 3, 24) := by kernel_rfl
theorem infoz_TxnW : (Tryz.prog.info? 90).map (fun i => (i.zero, i.size, i.bytes)) = some (some (.agg #[.int .i64 0, .int .i64 0, .int .i64 0, .int .i64 0, .int .i64 0, .slice none 0 0]), 6, 64) := by kernel_rfl
/-- What stands while workOn works: the world that came in, in its box; the work in block b; its transactions so far. -/
structure WrkE (w : World) (b B2 : Nat) (nw nx bd : Int) (vr vs vt : Value) (n : Nat) (F : Nat → Int) (S : Nat → Sto) (g : Nat) (P : Nat → Nat) (k : Nat) (T : Nat → Tx) (Y : Nat → Value) (v : Value) (x : World) : Prop where
  below : Below w.heap.size w x
  kb : Blk5w x b (.int .i64 nw) (.int .i64 nx) (.int .i64 bd) (.slice (some ⟨g, 0, none⟩) n n) v
  work : Work x w.heap.size n F S (some ⟨g, 0, none⟩) P
  hb : w.heap.size ≤ b ∧ b < B2 ∧ B2 ≤ x.heap.size
  txs : WrkT x B2 k T Y v
  back : ∃ w1 : World, w1.heap.size = b ∧ Work w1 w.heap.size n F S (some ⟨g, 0, none⟩) P ∧ Below b w1 x
theorem WrkT.far {x : World} {B n : Nat} {T : Nat → Tx} {Y : Nat → Value} {v : Value} (h : WrkT x B n T Y v) {a : Addr} (ha : a.block < B) (u : Value) : WrkT (x.setCell a u) B n T Y v :=
  ⟨ownsRow_setCell_below h.own ha u, fun i hi => ⟨(h.items i hi).1.far (Or.inl ha) u, (h.items i hi).2.1, fun h0 k hk => by have := (h.items i hi).2.2 h0 k hk; simpa using this⟩, fun i hi => (h.free i hi).far _ _, h.apart⟩
theorem Blk5w.set4 {x : World} {b : Nat} {a0 a1 a2 a3 a4 : Value} (h : Blk5w x b a0 a1 a2 a3 a4) (u : Value) : Blk5w (x.setCell ⟨b, 4, none⟩ u) b a0 a1 a2 a3 u := by
  obtain ⟨⟨h0, h1, h2, h3, h4⟩, h5⟩ := h
  refine ⟨⟨?_, ?_, ?_, ?_, ?_⟩, fun j => ?_⟩
  · go_simp
  · go_simp
  · go_simp
  · go_simp
  · go_simp
  · rw [World.frozen?_setCell]; exact h5 j
/-- What stands in the loop: behind w1 lies the work, in block b. -/
structure WrkI (w1 : World) (nw nx bd : Int) (n : Nat) (g : Nat) (k : Nat) (T : Nat → Tx) (Y : Nat → Value) (v : Value) (x : World) : Prop where
  back : Below w1.heap.size w1 x
  kb : Blk5w x w1.heap.size (.int .i64 nw) (.int .i64 nx) (.int .i64 bd) (.slice (some ⟨g, 0, none⟩) n n) v
  txs : WrkT x (w1.heap.size + 1) k T Y v
theorem WrkI.later {w1 : World} {nw nx bd : Int} {n g k : Nat} {T : Nat → Tx} {Y : Nat → Value} {v : Value} {x x' : World} (h : WrkI w1 nw nx bd n g k T Y v x) (hb : Below x.heap.size x x') : WrkI w1 nw nx bd n g k T Y v x' := ⟨h.back.trans (hb.mono h.back.size), h.kb.later hb, h.txs.later hb⟩
set_option maxRecDepth 100000 in
set_option maxHeartbeats 8000000 in
theorem workOn_is (nw nx bd : Int) (nr : Nat) (F : Nat → Int) (n : Nat) (S : Nat → Sto) (V : Nat → Nat → Value) (vr vs : Value) (nt : Nat) (T : Nat → Tx) (X : Nat → Value) (vt : Value) (B : Nat) (w : World) (h : Grs w B nr F n S V vr vs) (hx : Txs w B nt T X vt) (hz : ∀ i, i < n → storeF (S i) = 0) (hn : n = nr) (hm : n ≤ 12) (hnt : nt ≤ 16) (hit : ∀ i, i < nt → 1 ≤ (T i).m ∧ (T i).m ≤ 12) :
    Calls Tryz.prog 36 #[.agg #[.int .i64 nw, .int .i64 nx, .int .i64 bd, vr, vs, vt]] w fun e w' => ∃ b B2 g P Y v, e = .returned (.pointer (some ⟨b, 0, none⟩)) ∧ WrkE w b B2 nw nx bd vr vs vt n F S g P nt T Y v w' := by
  obtain ⟨a0, c0, a1, c1, rfl, rfl⟩ := h.form
  obtain ⟨a2, c2, rfl⟩ := hx.form
  have H : Hid (Blk6 (w.alloc (.cells #[.int .i64 nw, .int .i64 nx, .int .i64 bd, .slice a0 nr c0, .slice a1 n c1, .slice a2 nt c2] 43)) w.heap.size (.int .i64 nw) (.int .i64 nx) (.int .i64 bd) (.slice a0 nr c0) (.slice a1 n c1) (.slice a2 nt c2) ∧ Below w.heap.size w (w.alloc (.cells #[.int .i64 nw, .int .i64 nx, .int .i64 bd, .slice a0 nr c0, .slice a1 n c1, .slice a2 nt c2] 43))) := ⟨Blk6.new w _ _ _ _ _ _ _, below_alloc _ _⟩
  have HG : Hid (Grs w B nr F n S V (.slice a0 nr c0) (.slice a1 n c1) ∧ Txs w B nt T X (.slice a2 nt c2)) := ⟨h, hx⟩
  have HZ : Hid ((∀ i, i < n → storeF (S i) = 0) ∧ n = nr) := ⟨hz, hn⟩
  have HIT : Hid (∀ i, i < nt → 1 ≤ (T i).m ∧ (T i).m ≤ 12) := hit
  clear h hx hz hn hit
  go_enter Tryz.func36, Tryz.ntmps36
  go_upto_region 1 with fail
  refine wp_region_held_drew (S := fun x : World => Blk6 x w.heap.size (.int .i64 nw) (.int .i64 nx) (.int .i64 bd) (.slice a0 nr c0) (.slice a1 n c1) (.slice a2 nt c2) ∧ Below w.heap.size w x) (by kernel_rfl) ⟨H.out.1, H.out.2.drew⟩ (fun hS => ?_)
  clear H
  refine tkH 0 ?_ hS (fun wx hx => ?_) ?_; rotate_left
  · obtain ⟨⟨⟨hx0, hx1, hx2, hx3, hx4, hx5⟩, _⟩, _⟩ := hx; go_simp; try with_reducible rfl
  refine tkH 1 ?_ hS (fun wx hx => ?_) ?_; rotate_left
  · obtain ⟨⟨⟨hx0, hx1, hx2, hx3, hx4, hx5⟩, _⟩, _⟩ := hx; go_simp; try with_reducible rfl
  refine tkH 2 ?_ hS (fun wx hx => ?_) ?_; rotate_left
  · obtain ⟨⟨⟨hx0, hx1, hx2, hx3, hx4, hx5⟩, _⟩, _⟩ := hx; go_simp; try with_reducible rfl
  refine tkH 3 ?_ hS (fun wx hx => ?_) ?_; rotate_left
  · obtain ⟨⟨⟨hx0, hx1, hx2, hx3, hx4, hx5⟩, _⟩, _⟩ := hx; go_simp; try with_reducible rfl
  refine tkH 4 ?_ hS (fun wx hx => ?_) ?_; rotate_left
  · obtain ⟨⟨⟨hx0, hx1, hx2, hx3, hx4, hx5⟩, _⟩, _⟩ := hx; go_simp; try with_reducible rfl
  refine tkH 5 ?_ hS (fun wx hx => ?_) ?_; rotate_left
  · obtain ⟨⟨⟨hx0, hx1, hx2, hx3, hx4, hx5⟩, _⟩, _⟩ := hx; go_simp; try with_reducible rfl
  refine rdH 6 (fun K hK => ?_)
  go_simp
  go_wp2_with fail
  refine (pointToAll_is nr F n S V _ _ B _ (HG.out.1.later hS.2) HZ.out.1 HZ.out.2 hm).mono ?_
  rintro e w1 ⟨g, P, rfl, hP, hT, q1⟩
  have hS1 : Blk6 w1 w.heap.size (.int .i64 nw) (.int .i64 nx) (.int .i64 bd) (.slice a0 nr c0) (.slice a1 n c1) (.slice a2 nt c2) ∧ Below w.heap.size w w1 := ⟨hS.1.later q1, hS.2.trans (q1.mono hS.2.size)⟩
  have HW1 : Hid (Work w1 w.heap.size n F S (some ⟨g, 0, none⟩) P ∧ Below w.heap.size w w1) := ⟨⟨hP, hT.mono hS.2.size⟩, hS.2.trans (q1.mono hS.2.size)⟩
  have HL1 : Hid (w.heap.size < w1.heap.size) := Nat.lt_of_lt_of_le hS.1.lt q1.size
  clear hS hP hT q1
  go_wp2_with fail
  refine hK.out _ _ hS1 (fun hS => ?_)
  clear hK K hS1
  refine tkH 7 ?_ hS (fun wx hx => ?_) ?_; rotate_left
  · obtain ⟨⟨⟨hx0, hx1, hx2, hx3, hx4, hx5⟩, _⟩, _⟩ := hx; go_simp; try with_reducible rfl
  refine rdH 8 (fun K hK => ?_)
  go_simp
  refine hK.out _ _ ⟨hS.1.alloc _, hS.2.alloc hS.2.size _⟩ (fun hS => ?_)
  clear hK K
  have E0 : Hid ((WrkI w1 nw nx bd n g 0 T (fun _ => .bool true) (.slice none 0 0)) (w1.alloc (.cells #[.int .i64 nw, .int .i64 nx, .int .i64 bd, .slice (some ⟨g, 0, none⟩) n n, .slice none 0 0] 127)) ∧ Blk6 (w1.alloc (.cells #[.int .i64 nw, .int .i64 nx, .int .i64 bd, .slice (some ⟨g, 0, none⟩) n n, .slice none 0 0] 127)) w.heap.size (.int .i64 nw) (.int .i64 nx) (.int .i64 bd) (.slice a0 nr c0) (.slice a1 n c1) (.slice a2 nt c2)) :=
    ⟨⟨below_alloc _ _, ⟨⟨World.cell?_alloc_mark w1 _ _ _ 0, World.cell?_alloc_mark w1 _ _ _ 1, World.cell?_alloc_mark w1 _ _ _ 2, World.cell?_alloc_mark w1 _ _ _ 3, World.cell?_alloc_mark w1 _ _ _ 4⟩, fun j => by simp⟩, ⟨World.ownsRow_nil _ _ _ _, fun i hi => absurd hi (Nat.not_lt_zero i), fun i hi => absurd hi (Nat.not_lt_zero i), fun i _ hi => absurd hi (Nat.not_lt_zero i)⟩⟩, hS.1⟩
  have hlw : w.heap.size < w1.heap.size := HL1.out
  refine tkH 9 ?_ hS (fun wx hx => ?_) ?_; rotate_left
  · obtain ⟨⟨⟨hx0, hx1, hx2, hx3, hx4, hx5⟩, _⟩, _⟩ := hx; go_simp; try with_reducible rfl
  clear hS HL1
  refine wpAnyH_done (by kernel_rfl) ?_ _
  go_simp
  obtain ⟨⟨p0, p1, p2, p3, p4, p5⟩, _⟩ := E0.out.2
  obtain ⟨i0, hi, iz0, iz1, iz2⟩ := info_parts infoz_ItemW
  obtain ⟨i1, hi1, jz0, jz1, jz2⟩ := info_parts infoz_TxnW
  go_wp2
  clear p0 p1 p2 p3 p4 p5
  go_loopw [18] (fun i wr => ∃ (k : Nat) (Y : Nat → Value) (v : Value), k ≤ nt ∧ i = .int .i64 k ∧ Hid (WrkI w1 nw nx bd n g k T Y v wr)) (fun i _ => nt - (intOf i).toNat)
  case atStart => exact ⟨0, _, _, Nat.zero_le _, rfl, E0.out.1⟩
  case round =>
    clear E0
    obtain ⟨k, Y, v, hk, rfl, HE⟩ := hrel
    by_cases hlt : k < nt
    case neg =>
      obtain rfl : k = nt := by omega
      go_wp2
      go_ret
      exact ⟨w1.heap.size, w1.heap.size + 1, g, P, Y, v, rfl, HW1.out.2.trans (HE.out.back.mono HW1.out.2.size), HE.out.kb, HW1.out.1.later HE.out.back, ⟨HW1.out.2.size, Nat.lt_succ_self _, HE.out.kb.lt⟩, HE.out.txs, w1, rfl, HW1.out.1, HE.out.back⟩
    have hmk := HIT.out k hlt
    obtain ⟨gx, ox, hax, _, hgx, ⟨x0, x1, x2, x3, x4, x5⟩, hrow, hcap⟩ := (HG.out.2.later (HW1.out.2.trans (HE.out.back.mono HW1.out.2.size))).at hlt
    subst hax
    obtain ⟨t, ht⟩ : ∃ t, T k = t := ⟨_, rfl⟩
    have HT : Hid (T k = t) := ht
    rw [ht] at x0 x1 x2 x3 x4 hrow hmk
    obtain ⟨y, hy⟩ : ∃ y, X k = y := ⟨_, rfl⟩
    rw [hy] at x5 hrow hcap
    clear ht hy
    obtain ⟨yo, yc, rfl⟩ := hrow.form
    have HR : Hid (Row wr B 3 t.m t.L (.slice yo t.m yc)) := hrow
    have hzb : w1.heap.size + 1 ≤ wr.heap.size := HE.out.kb.lt
    have HC0 : Hid (Blk6 (wr.alloc (.cells #[.int .i64 t.s, .int .i64 t.c, .int .i64 t.u, .int .i64 t.st, .int .i64 t.a, .slice yo t.m yc] 90)) wr.heap.size (.int .i64 t.s) (.int .i64 t.c) (.int .i64 t.u) (.int .i64 t.st) (.int .i64 t.a) (.slice yo t.m yc)) := Blk6.new wr _ _ _ _ _ _ _
    clear hrow hcap
    go_wp2_with (at_builtin; refine wpList_appX 141 i0 (.agg #[.int .i64 0, .int .i64 0, .int .i64 0]) 3 24 rfl _ _ 88 rfl Tryz.underlying88 hi iz0 iz1 iz2 rfl (by omega) (by omega) _ (w1.heap.size + 1) 0 [] (.slice none 0 0) rfl (OwnM.nil _ _ _ _) B t.m t.L (.slice yo t.m yc) rfl (HR.out.alloc _) (by omega) (by simp; omega) ?_; intro ao2 cp2 w2 O2 G2 B2; have KC := HC0.out.kept (G2.block _ (by simp) (fun e => by simp [Value.ownBlock] at e)); obtain ⟨⟨k0, k1, k2, k3, k4, k5⟩, f0, f1, f2, f3, f4, f5⟩ := KC)
    have GB : Below wr.heap.size wr w2 := (below_alloc wr _).trans ⟨G2.os, G2.tape, G2.output, by have := G2.size; simpa using this, fun i hi => G2.block i (by simp; omega) (fun e => by simp [Value.ownBlock] at e)⟩
    have KC2 := (HC0.out.kept (G2.block _ (by simp) (fun e => by simp [Value.ownBlock] at e))).set5 (.slice ao2 t.m cp2)
    rw [Nat.zero_add, List.nil_append] at O2
    rw [Nat.zero_add] at B2
    have hob : ∀ q, (Value.slice ao2 t.m cp2).ownBlock = some q → q = wr.heap.size + 1 := fun q hq => by
      rcases B2 with e | e
      · rw [hq] at e; simp [Value.ownBlock] at e
      · rw [hq] at e; simpa using e
    obtain ⟨w3, hw3⟩ : ∃ w3, w3 = w2.setCell ⟨wr.heap.size, 5, none⟩ (.slice ao2 t.m cp2) := ⟨_, rfl⟩
    rw [← hw3] at KC2
    rw [← hw3]
    have hcb : ∀ q, (Value.slice ao2 t.m cp2).ownBlock = some q → q ≠ wr.heap.size := fun q hq => by have := hob q hq; omega
    have B3 : Below wr.heap.size wr w3 := by rw [hw3]; exact GB.setCell (Nat.le_refl _) _
    have HE3 : Hid (WrkI w1 nw nx bd n g k T Y v w3) := HE.out.later B3
    have O3 : OwnM w3 (w1.heap.size + 1) 141 3 (.slice ao2 t.m cp2) t.m (nums t.L (t.m * 3)) := by rw [hw3]; exact O2.set hcb 5 _
    have hsz3 : wr.heap.size + 1 < w3.heap.size := by
      have hb3 := O3.block
      obtain ⟨q, hq⟩ : ∃ q, (Value.slice ao2 t.m cp2).ownBlock = some q := by
        rcases O3.2 with ⟨_, e⟩ | ⟨g', cap', cur', e, _⟩
        · omega
        · rw [e]; exact ⟨g', rfl⟩
      have := hob q hq
      have := (hb3 q hq).2
      omega
    have HIT3 : Hid (Row w3 (w1.heap.size + 1) 3 t.m t.L (.slice ao2 t.m cp2) ∧ CapOk (.slice ao2 t.m cp2) ∧ ∀ q, (Value.slice ao2 t.m cp2).ownBlock = some q → v.ownBlock ≠ some q ∧ q < w3.heap.size) := by
      refine ⟨?_, fun _ _ _ e => by cases e; exact O3.cap, fun q hq => ⟨fun e => by have := (HE.out.txs.own.lt q e).2; have := hob q hq; omega, (O3.block q hq).2⟩⟩
      have := (O3.own (nums_length _ _)).row.1
      obtain ⟨ao, cp, e, hr⟩ := this
      refine ⟨ao, cp, e, fun h0 => ?_⟩
      obtain ⟨g', o', e1, e2, e3, e4⟩ := hr h0
      exact ⟨g', o', e1, e2, e3, fun p hp => by rw [e4 p hp]; simp [nums, hp]⟩
    have HFA : Hid (Free w3 (t.m * 3) (.slice ao2 t.m cp2) ∧ ∀ i, i < k → 0 < (T i).m → ∀ q, (Y i).ownBlock = some q → (Value.slice ao2 t.m cp2).ownBlock ≠ some q) := ⟨(O3.own (nums_length _ _)).row.2, fun i hi h0 q hq e => by have := ((HE.out.txs.items i hi).2.2 h0 q hq).2; have := hob q e; omega⟩
    have HVC : Hid (∀ q, v.ownBlock = some q → q < wr.heap.size ∧ w1.heap.size + 1 ≤ q) := fun q hq => ⟨(HE.out.txs.own.lt q hq).2, (HE.out.txs.own.lt q hq).1⟩
    have HKC : Hid (Blk6 w3 wr.heap.size (.int .i64 t.s) (.int .i64 t.c) (.int .i64 t.u) (.int .i64 t.st) (.int .i64 t.a) (.slice ao2 t.m cp2)) := KC2
    clear KC2 O2 G2 B2 GB hob O3 hcb B3 HE k0 k1 k2 k3 k4 k5 f0 f1 f2 f3 f4 f5 hw3 HC0 HR x0 x1 x2 x3 x4 x5
    have BX : Hid (Below w3.heap.size w3 (w3.drew.alloc (.cells #[.int .i64 t.s, .int .i64 t.c, .int .i64 t.u, .int .i64 t.st, .int .i64 t.a, .slice ao2 t.m cp2] 90))) := (Below.drew (Below.refl _ _)).trans ((below_alloc _ _).mono (Nat.le_refl _))
    obtain ⟨g4, cap4, w4, hrun, hown4, hg4, hor, hlt4⟩ := run_append_lies (P := Tryz.prog) (w3.drew.alloc (.cells #[.int .i64 t.s, .int .i64 t.c, .int .i64 t.u, .int .i64 t.st, .int .i64 t.a, .slice ao2 t.m cp2] 90)) 41 41 (w1.heap.size + 1) 90 i1 (.agg #[.int .i64 0, .int .i64 0, .int .i64 0, .int .i64 0, .int .i64 0, .slice none 0 0]) 6 64 Tryz.underlying41 hi1 jz0 jz1 jz2 rfl (by omega) v k (tvals T Y k) (HE3.out.txs.later BX.out).own ⟨w3.heap.size, 0, none⟩ 1 1 [.int .i64 t.s, .int .i64 t.c, .int .i64 t.u, .int .i64 t.st, .int .i64 t.a, .slice ao2 t.m cp2] rfl (fun j u hj => by rw [Addr.add_lit, Nat.zero_add, World.cell?_alloc_at (w := w3.drew) _ _ w3.heap.size j rfl]; simpa using hj) (by intro u hu; simp only [List.mem_cons, List.not_mem_nil, or_false] at hu; rcases hu with rfl | rfl | rfl | rfl | rfl | rfl <;> rfl) (by omega) (by unfold maxLen; omega) (by omega) (by simp; omega) (w3.heap.size + 1) (by simp)
    have HRUN : Hid (∀ ty, (Builtin.append_ #[41, 41] ty #[v, .slice (some ⟨w3.heap.size, 0, none⟩) 1 1]).run Tryz.prog (w3.drew.alloc (.cells #[.int .i64 t.s, .int .i64 t.c, .int .i64 t.u, .int .i64 t.st, .int .i64 t.a, .slice ao2 t.m cp2] 90)) = .ok (.slice (some ⟨g4, 0, none⟩) (k + 1) cap4) w4) := fun ty => hrun
    have HW4 : Hid (WrkT w4 (w1.heap.size + 1) (k + 1) T (fun i => if i = k then .slice ao2 t.m cp2 else Y i) (.slice (some ⟨g4, 0, none⟩) (k + 1) cap4)) := by
      refine (HE3.out.txs.later BX.out).put ⟨by rw [HT.out]; exact HIT3.out.1.later BX.out, HIT3.out.2.1⟩ (fun _ q hq => ⟨(HIT3.out.2.2 q hq).1, Nat.lt_of_lt_of_le (HIT3.out.2.2 q hq).2 BX.out.size⟩) (by rw [HT.out]; exact HFA.out.1.ofRow HIT3.out.1 BX.out) (fun i hi h0 _ q hq => HFA.out.2 i hi h0 q hq) (by rw [HT.out]; exact hown4) hg4 (fun q hq => ?_)
      have e : g4 = q := by simpa [Value.ownBlock] using hq
      rcases hor with e1 | e1
      · exact Or.inl (by rw [e1, e])
      · exact Or.inr (by rw [← e, e1]; simp)
    have HK4 : Hid (Blk5w w4 w1.heap.size (.int .i64 nw) (.int .i64 nx) (.int .i64 bd) (.slice (some ⟨g, 0, none⟩) n n) v) := (HE3.out.kb.later BX.out).kept (hg4.block _ (by have := BX.out.size; omega) (fun e => by have := (HVC.out _ e.symm).2; omega))
    have HB4 : Hid (Below w1.heap.size w1 w4) := (HE3.out.back.trans (BX.out.mono HE3.out.back.size)).grown hg4 (by have := BX.out.size; omega) (fun r e => by have := (HVC.out r e).2; omega)
    have HKX : Hid (Blk6 (w3.drew.alloc (.cells #[.int .i64 t.s, .int .i64 t.c, .int .i64 t.u, .int .i64 t.st, .int .i64 t.a, .slice ao2 t.m cp2] 90)) wr.heap.size (.int .i64 t.s) (.int .i64 t.c) (.int .i64 t.u) (.int .i64 t.st) (.int .i64 t.a) (.slice ao2 t.m cp2)) := HKC.out.later BX.out
    have HKC4 : Hid (Blk6 w4 wr.heap.size (.int .i64 t.s) (.int .i64 t.c) (.int .i64 t.u) (.int .i64 t.st) (.int .i64 t.a) (.slice ao2 t.m cp2)) := HKX.out.kept (hg4.block _ (by have := BX.out.size; omega) (fun e => by have := (HVC.out _ e.symm).1; omega))
    have vform : ∃ va vc, v = .slice va k vc := by
      rcases HE3.out.txs.own.2 with ⟨e, e0⟩ | ⟨g', cap', cur', e, _⟩
      · exact ⟨none, 0, by rw [e, e0]⟩
      · exact ⟨_, _, e⟩
    obtain ⟨va, vc, rfl⟩ := vform
    obtain ⟨⟨b0, b1, b2, b3, b4⟩, _⟩ := HE3.out.kb
    have hl13 : w1.heap.size < w3.heap.size := by omega
    have hS0 : (fun X : World => Blk6 X wr.heap.size (.int .i64 t.s) (.int .i64 t.c) (.int .i64 t.u) (.int .i64 t.st) (.int .i64 t.a) (.slice ao2 t.m cp2)) w3.drew := HKC.out
    clear hown4 hg4 hor hlt4 hrun BX HIT3 HE3 HKC HFA
    go_upto_region 6 with fail
    refine wp_region_held_drew (S := (fun X : World => Blk6 X wr.heap.size (.int .i64 t.s) (.int .i64 t.c) (.int .i64 t.u) (.int .i64 t.st) (.int .i64 t.a) (.slice ao2 t.m cp2))) (by kernel_rfl) hS0 (fun hS => ?_)
    clear hS0
    refine tkH 0 ?_ hS (fun wx hx => ?_) ?_; rotate_left
    · obtain ⟨⟨hx0, hx1, hx2, hx3, hx4, hx5⟩, _⟩ := hx; go_simp; try with_reducible rfl
    refine tkH 1 ?_ hS (fun wx hx => ?_) ?_; rotate_left
    · obtain ⟨⟨hx0, hx1, hx2, hx3, hx4, hx5⟩, _⟩ := hx; go_simp; try with_reducible rfl
    refine tkH 2 ?_ hS (fun wx hx => ?_) ?_; rotate_left
    · obtain ⟨⟨hx0, hx1, hx2, hx3, hx4, hx5⟩, _⟩ := hx; go_simp; try with_reducible rfl
    refine tkH 3 ?_ hS (fun wx hx => ?_) ?_; rotate_left
    · obtain ⟨⟨hx0, hx1, hx2, hx3, hx4, hx5⟩, _⟩ := hx; go_simp; try with_reducible rfl
    refine tkH 5 ?_ hS (fun wx hx => ?_) ?_; rotate_left
    · obtain ⟨⟨hx0, hx1, hx2, hx3, hx4, hx5⟩, _⟩ := hx; go_simp; try with_reducible rfl
    refine wpAnyH_ready (rs := [4, 6]) (by kernel_rfl) (by simp) ?_
    refine AllReadyH.cons rfl (fun K hK => ?_) (AllReadyH.cons rfl (fun K hK => ?_) AllReadyH.nil)
    focus
      go_simp
      refine hK.out _ _ hS (fun hS => ?_)
      clear hK K
      refine rdH 6 (fun K hK => ?_)
      go_simp
      refine hK.out _ _ HKX.out (fun hS => ?_)
    rotate_left
    focus
      go_simp
      refine hK.out _ _ HKX.out (fun hS => ?_)
      clear hK K
      refine rdH 4 (fun K hK => ?_)
      go_simp
      refine hK.out _ _ hS (fun hS => ?_)
    rotate_left
    all_goals
      clear hK K
      clear b0 b1 b2 b3 b4
      refine rdH 7 (fun K hK => ?_)
      refine step_appInM rfl _ _ 41 41 rfl _ _ (by simp [Act.eval]) (by simp [Act.eval]) (HRUN.out _) ?_
      refine hK.out _ _ HKC4.out (fun hS => ?_)
      clear hK K
      refine tkH 8 ?_ hS (fun wx hx => ?_) ?_; rotate_left
      · obtain ⟨⟨hx0, hx1, hx2, hx3, hx4, hx5⟩, _⟩ := hx; go_simp; try with_reducible rfl
      refine tkH 9 ?_ hS (fun wx hx => ?_) ?_; rotate_left
      · obtain ⟨⟨hx0, hx1, hx2, hx3, hx4, hx5⟩, _⟩ := hx; go_simp; try with_reducible rfl
      refine rdH 10 (fun K hK => ?_)
      obtain ⟨⟨z0, z1, z2, z3, z4⟩, zf⟩ := HK4.out
      have zf4 := zf 4
      go_simp
      refine hK.out _ _ (hS.kept (Below.heap_setCell _ ⟨w1.heap.size, 4, none⟩ _ _ (by simp; omega))) (fun hS => ?_)
      clear hK K z0 z1 z2 z3 z4 zf zf4
      refine wpAnyH_done (by kernel_rfl) ?_ _
      go_simp
      go_wp2
      go_roundw
      case rel => exact ⟨k + 1, _, _, by omega, by go_num, HB4.out.setCell (Nat.le_refl _) _, HK4.out.set4 _, HW4.out.far (by simp) _⟩
      case measure => simp [intOf]; omega
end Go.Proofs.YtpodcnmiaacndaaGreat

namespace Go.Proofs.YtpodcnmiaacndaaGreat
open Go.RowKit

/-- Whether a transaction is done, and when. -/
def DoneAt (n : Nat) (F : Nat → Int) (S : Nat → Sto) (t : Tx) (r : Option Int) : Prop := ∃ j, AtR n F (t.L 0) j ∧ ((∃ i, doneW (S j).k (S j).nw (t.L 0) t.s i ∧ r = some ((S j).k (i * 4 + 1))) ∨ ((∀ i, ¬ doneW (S j).k (S j).nw (t.L 0) t.s i) ∧ r = none))
/-- What of the first k was done. -/
def donesL (R : Nat → Option Int) : Nat → Prs
  | 0 => []
  | k + 1 => match R k with
    | some c => putD (donesL R k) (k, c)
    | none => donesL R k
theorem donesL_lt (R : Nat → Option Int) : ∀ (k : Nat) (e : Int × Int), e ∈ donesL R k → e.1 < k
  | 0, e, h => absurd h (by simp [donesL])
  | k + 1, e, h => by
    rw [donesL] at h
    split at h
    · rcases putD_mem h with rfl | q
      · show (k : Int) < _; omega
      · have := donesL_lt R k e q; omega
    · have := donesL_lt R k e h; omega
theorem donesL_len (R : Nat → Option Int) : ∀ k, (donesL R k).length ≤ k
  | 0 => by simp [donesL]
  | k + 1 => by
    have := donesL_len R k
    rw [donesL]
    split
    · rw [putD_length]; omega
    · omega
theorem donesL_rises (R : Nat → Option Int) : ∀ k, RisesD (donesL R k)
  | 0 => List.Pairwise.nil
  | k + 1 => by
    rw [donesL]
    split
    · exact putD_rises (donesL_rises R k) (fun e he => by have := donesL_lt R k e he; show e.1 ≠ (k : Int); omega)
    · exact donesL_rises R k
set_option maxRecDepth 100000 in
set_option maxHeartbeats 1000000 in
theorem filledD_nil (w : World) : Calls Tryz.prog 77 #[(.func (.func 78) #[] #[]), .slice none 0 0] w fun e w' => e = .returned (.pointer (some ⟨w.heap.size, 0, none⟩)) ∧ RisD w' w.heap.size [] ∧ Below w.heap.size w w' := by
  have HR : Hid (RisD (w.alloc (.cells #[.slice none 0 0, (.func (.func 78) #[] #[])] 136)) w.heap.size []) := ⟨_, Blk2.new w _ _ _, Own.nil _ _ _ _ _⟩
  go_enter Tryz.func77, Tryz.ntmps77
  go_wp2
  go_loopw [13] (fun i wr => i = .int .i64 0 ∧ wr = w.alloc (.cells #[.slice none 0 0, (.func (.func 78) #[] #[])] 136)) (fun _ _ => 0)
  case atStart => exact ⟨rfl, rfl⟩
  case round =>
    obtain ⟨rfl, rfl⟩ := hrel
    go_wp2
    go_ret
    exact ⟨rfl, HR.out, below_alloc _ _⟩
/-- What stands while dones looks: the work in block b, the list in block d. -/
structure DonE (x0 : World) (b : Nat) (nw nx bd : Int) (n : Nat) (F : Nat → Int) (S : Nat → Sto) (g : Nat) (P : Nat → Nat) (Bw : Nat) (nt : Nat) (T : Nat → Tx) (Y : Nat → Value) (v : Value) (x : World) : Prop where
  below : Below x0.heap.size x0 x
  kb : Blk5w x b (.int .i64 nw) (.int .i64 nx) (.int .i64 bd) (.slice (some ⟨g, 0, none⟩) n n) v
  work : Work x Bw n F S (some ⟨g, 0, none⟩) P
  txs : Txs x 0 nt T Y v
theorem DonE.later {x0 : World} {b : Nat} {nw nx bd : Int} {n : Nat} {F : Nat → Int} {S : Nat → Sto} {g : Nat} {P : Nat → Nat} {Bw nt : Nat} {T : Nat → Tx} {Y : Nat → Value} {v : Value} {x x' : World} (h : DonE x0 b nw nx bd n F S g P Bw nt T Y v x) (hb : Below x.heap.size x x') : DonE x0 b nw nx bd n F S g P Bw nt T Y v x' :=
  ⟨h.below.trans (hb.mono h.below.size), h.kb.later hb, h.work.later hb, h.txs.later hb⟩
theorem firstW_one {k : Nat → Int} {n : Nat} {key start : Int} {i j : Nat} (h : firstW k n key start i) (h' : firstW k n key start j) : i = j := by
  rcases Nat.lt_trichotomy i j with q | q | q
  · exact absurd h.2.1 (h'.2.2 i q)
  · exact q
  · exact absurd h'.2.1 (h.2.2 j q)
theorem doneT {k : Nat → Int} {nw : Nat} {key start : Int} {u : Value} {r : Option Int} (hT : Told (doneW k nw key start) k u) (hD : (∃ i, doneW k nw key start i ∧ r = some (k (i * 4 + 1))) ∨ ((∀ i, ¬ doneW k nw key start i) ∧ r = none)) :
    ∃ (a0 a1 a2 a3 : Int) (s : Bool), u = .tuple #[.agg #[.int .i64 a0, .int .i64 a1, .int .i64 a2, .int .i64 a3], .bool s] ∧ ((s = true ∧ r = some a1) ∨ (s = false ∧ r = none)) := by
  rcases hT with ⟨i, hi, rfl⟩ | ⟨hno, rfl⟩
  · rcases hD with ⟨j, hj, rfl⟩ | ⟨hno, _⟩
    · obtain rfl := firstW_one hi.1 hj.1
      exact ⟨_, _, _, _, true, rfl, Or.inl ⟨rfl, rfl⟩⟩
    · exact absurd hi (hno i)
  · rcases hD with ⟨j, hj, _⟩ | ⟨_, rfl⟩
    · exact absurd hj (hno j)
    · exact ⟨0, 0, 0, 0, false, rfl, Or.inr ⟨rfl, rfl⟩⟩
theorem sE_later {x0 : World} {c : Nat} {t : Tx} {y : Value} {L : Prs} {x x' : World} (h : (Below x0.heap.size x0 x) ∧ Blk6 x c (.int .i64 t.s) (.int .i64 t.c) (.int .i64 t.u) (.int .i64 t.st) (.int .i64 t.a) y ∧ RisD x x0.heap.size L) (hb : Below x.heap.size x x') : (Below x0.heap.size x0 x') ∧ Blk6 x' c (.int .i64 t.s) (.int .i64 t.c) (.int .i64 t.u) (.int .i64 t.st) (.int .i64 t.a) y ∧ RisD x' x0.heap.size L :=
  ⟨h.1.trans (hb.mono h.1.size), h.2.1.later hb, h.2.2.later hb⟩
theorem Blk4.putD {x : World} {b : Nat} {a0 a1 a2 a3 : Value} (h : Blk4 x b a0 a1 a2 a3) (c0 c1 c2 c3 : Value) : Blk4 ((((x.setCell ⟨b, 0, none⟩ c0).setCell ⟨b, 1, none⟩ c1).setCell ⟨b, 2, none⟩ c2).setCell ⟨b, 3, none⟩ c3) b c0 c1 c2 c3 := by
  obtain ⟨⟨h0, h1, h2, h3⟩, f0, f1, f2, f3⟩ := h
  refine ⟨⟨?_, ?_, ?_, ?_⟩, ?_, ?_, ?_, ?_⟩ <;> go_simp
set_option maxRecDepth 100000 in
set_option maxHeartbeats 8000000 in
theorem dones_is (x0 : World) (b : Nat) (nw nx bd : Int) (n : Nat) (F : Nat → Int) (S : Nat → Sto) (g : Nat) (P : Nat → Nat) (Bw nt : Nat) (T : Nat → Tx) (Y : Nat → Value) (v : Value) (R : Nat → Option Int) (h : DonE x0 b nw nx bd n F S g P Bw nt T Y v x0) (hR : ∀ i, i < nt → DoneAt n F S (T i) (R i)) (hn : n ≤ 12) (hnt : nt ≤ 16) (hit : ∀ i, i < nt → 1 ≤ (T i).m) :
    Calls Tryz.prog 76 #[.pointer (some ⟨b, 0, none⟩)] x0 fun e x' => ∃ ao cp, e = .returned (.slice ao (donesL R nt).length cp) ∧ Own x' x0.heap.size 92 2 (donesL R nt).length (rowL (donesL R nt)) (.slice ao (donesL R nt).length cp) ∧ Below x0.heap.size x0 x' := by
  obtain ⟨va, vc, rfl⟩ := h.txs.form
  have H0 : Hid (DonE x0 b nw nx bd n F S g P Bw nt T Y (.slice va nt vc) x0) := h
  have HRR : Hid ((∀ i, i < nt → DoneAt n F S (T i) (R i)) ∧ ∀ i, i < nt → 1 ≤ (T i).m) := ⟨hR, hit⟩
  clear h hR hit
  go_enter Tryz.func76, Tryz.ntmps76
  go_wp2_with fail
  refine (filledD_nil _).mono ?_
  rintro e w1 ⟨rfl, r1, q1⟩
  have H1 : Hid ((Below x0.heap.size x0 w1) ∧ RisD w1 x0.heap.size (donesL R 0)) := ⟨q1, r1⟩
  clear r1 q1
  obtain ⟨⟨p0, p1, p2, p3, p4⟩, _⟩ := H0.out.kb.later H1.out.1
  go_wp2
  clear p0 p1 p2 p3 p4
  go_loopw [15] (fun i wr => ∃ k : Nat, k ≤ nt ∧ i = .int .i64 k ∧ Hid ((Below x0.heap.size x0 wr) ∧ RisD wr x0.heap.size (donesL R k))) (fun i _ => nt - (intOf i).toNat)
  case atStart => exact ⟨0, Nat.zero_le _, rfl, H1⟩
  case round =>
    clear H1
    obtain ⟨k, hk, rfl, HB⟩ := hrel
    by_cases hlt : k < nt
    case neg =>
      obtain rfl : k = nt := by omega
      obtain ⟨rv, hb1, ho1⟩ := HB.out.2
      obtain ⟨ro, rc, rfl⟩ := ho1.form
      have HO : Hid (Own wr (x0.heap.size + 1) 92 2 (donesL R k).length (rowL (donesL R k)) (.slice ro (donesL R k).length rc)) := ho1
      obtain ⟨⟨z0, z1⟩, _, _⟩ := hb1
      clear ho1
      obtain ⟨LN, hLN⟩ : ∃ LN, (donesL R k).length = LN := ⟨_, rfl⟩
      have HLN : Hid ((donesL R k).length = LN) := hLN
      rw [hLN] at z0
      clear hLN
      go_wp2
      refine bodyPost_ret (v := .slice ro LN rc) (by simp [results, Tryz.results76, go_sem]) rfl ?_
      rw [← HLN.out]
      exact ⟨ro, rc, rfl, HO.out.mono (by omega), HB.out.1⟩
    obtain ⟨gx, ox, hax, _, hgx, ⟨c0, c1, c2, c3, c4, c5⟩, hrow, _⟩ := (H0.out.txs.later HB.out.1).at hlt
    subst hax
    obtain ⟨t, ht⟩ : ∃ t, T k = t := ⟨_, rfl⟩
    have hm1 := HRR.out.2 k hlt
    have hDk := HRR.out.1 k hlt
    rw [ht] at c0 c1 c2 c3 c4 hrow hm1 hDk
    obtain ⟨y, hy⟩ : ∃ y, Y k = y := ⟨_, rfl⟩
    rw [hy] at c5 hrow
    clear ht hy
    obtain ⟨yo, yc, rfl⟩ := hrow.form
    obtain ⟨gy, oy, hyo, _, hgy, k0, k1, k2⟩ := hrow.at3 (k := 0) (by omega)
    subst hyo
    simp only [Nat.zero_mul, Nat.add_zero] at k0 k1 k2
    obtain ⟨key, hkey⟩ : ∃ x, t.L 0 = x := ⟨_, rfl⟩
    rw [hkey] at k0
    obtain ⟨j, hj, hD⟩ := hDk
    rw [hkey] at hj hD
    have HJ : Hid (AtR n F key j) := hj
    have HD : Hid ((∃ i, doneW (S j).k (S j).nw key t.s i ∧ R k = some ((S j).k (i * 4 + 1))) ∨ ((∀ i, ¬ doneW (S j).k (S j).nw key t.s i) ∧ R k = none)) := hD
    have hS0 : (fun X : World => (Below x0.heap.size x0 X) ∧ Blk6 X wr.heap.size (.int .i64 t.s) (.int .i64 t.c) (.int .i64 t.u) (.int .i64 t.st) (.int .i64 t.a) (.slice (some ⟨gy, oy, none⟩) t.m yc) ∧ RisD X x0.heap.size (donesL R k)) (wr.alloc (.cells #[.int .i64 t.s, .int .i64 t.c, .int .i64 t.u, .int .i64 t.st, .int .i64 t.a, .slice (some ⟨gy, oy, none⟩) t.m yc] 90)).drew := ⟨(HB.out.1.alloc HB.out.1.size _).drew, Blk6.new wr _ _ _ _ _ _ _, HB.out.2.later (below_alloc _ _).drew⟩
    clear hrow hj hD hkey
    go_upto_region 6 with fail
    refine wp_region_held_drew (S := (fun X : World => (Below x0.heap.size x0 X) ∧ Blk6 X wr.heap.size (.int .i64 t.s) (.int .i64 t.c) (.int .i64 t.u) (.int .i64 t.st) (.int .i64 t.a) (.slice (some ⟨gy, oy, none⟩) t.m yc) ∧ RisD X x0.heap.size (donesL R k))) (by kernel_rfl) hS0 (fun hS => ?_)
    generalize (wr.alloc (.cells #[.int .i64 t.s, .int .i64 t.c, .int .i64 t.u, .int .i64 t.st, .int .i64 t.a, .slice (some ⟨gy, oy, none⟩) t.m yc] 90)).drew = wa at hS ⊢
    clear hS0 c0 c1 c2 c3 c4 c5 k0 k1 k2
    refine tkH 0 ?_ hS (fun wx hx => ?_) ?_; rotate_left
    · obtain ⟨⟨hx0, hx1, hx2, hx3, hx4⟩, _⟩ := H0.out.kb.later hx.1; obtain ⟨⟨hy0, hy1, hy2, hy3, hy4, hy5⟩, _⟩ := hx.2.1; go_simp; try with_reducible rfl
    refine tkH 1 ?_ hS (fun wx hx => ?_) ?_; rotate_left
    · obtain ⟨⟨hx0, hx1, hx2, hx3, hx4⟩, _⟩ := H0.out.kb.later hx.1; obtain ⟨⟨hy0, hy1, hy2, hy3, hy4, hy5⟩, _⟩ := hx.2.1; go_simp; try with_reducible rfl
    refine tkH 2 ?_ hS (fun wx hx => ?_) ?_; rotate_left
    · obtain ⟨⟨hx0, hx1, hx2, hx3, hx4⟩, _⟩ := H0.out.kb.later hx.1; obtain ⟨⟨hy0, hy1, hy2, hy3, hy4, hy5⟩, _⟩ := hx.2.1; go_simp; try with_reducible rfl
    try simp only [Act.put, List.getElem_toArray, List.getElem_cons_zero, List.getElem_cons_succ, List.setIfInBounds_toArray, List.set_cons_succ, List.set_cons_zero]
    refine tkH 3 ?_ hS (fun wx hx => ?_) ?_; rotate_left
    · obtain ⟨⟨hx0, hx1, hx2, hx3, hx4⟩, _⟩ := H0.out.kb.later hx.1; obtain ⟨⟨hy0, hy1, hy2, hy3, hy4, hy5⟩, _⟩ := hx.2.1; go_simp; try with_reducible rfl
    refine tkH 4 ?_ hS (fun wx hx => ?_) ?_; rotate_left
    · obtain ⟨⟨hx0, hx1, hx2, hx3, hx4⟩, _⟩ := H0.out.kb.later hx.1; obtain ⟨⟨hy0, hy1, hy2, hy3, hy4, hy5⟩, _⟩ := hx.2.1; go_simp; try with_reducible rfl
    refine tkH 8 ?_ hS (fun wx hx => ?_) ?_; rotate_left
    · obtain ⟨⟨hx0, hx1, hx2, hx3, hx4⟩, _⟩ := H0.out.kb.later hx.1; obtain ⟨⟨hy0, hy1, hy2, hy3, hy4, hy5⟩, _⟩ := hx.2.1; go_simp; try with_reducible rfl
    try simp only [Act.put, List.getElem_toArray, List.getElem_cons_zero, List.getElem_cons_succ, List.setIfInBounds_toArray, List.set_cons_succ, List.set_cons_zero]
    refine tkH 9 ?_ hS (fun wx hx => ?_) ?_; rotate_left
    · obtain ⟨⟨hx0, hx1, hx2, hx3, hx4⟩, _⟩ := H0.out.kb.later hx.1; obtain ⟨⟨hy0, hy1, hy2, hy3, hy4, hy5⟩, _⟩ := hx.2.1; go_simp; try with_reducible rfl
    refine tkH 10 ?_ hS (fun wx hx => ?_) ?_; rotate_left
    · obtain ⟨⟨hx0, hx1, hx2, hx3, hx4⟩, _⟩ := H0.out.kb.later hx.1; obtain ⟨⟨hy0, hy1, hy2, hy3, hy4, hy5⟩, _⟩ := hx.2.1; go_simp; try with_reducible rfl
    try simp only [Act.put, List.getElem_toArray, List.getElem_cons_zero, List.getElem_cons_succ, List.setIfInBounds_toArray, List.set_cons_succ, List.set_cons_zero]
    refine wpAnyH_ready (rs := [5, 15]) (by kernel_rfl) (by simp) ?_
    refine AllReadyH.cons rfl (fun K hK => ?_) (AllReadyH.cons rfl (fun K hK => ?_) AllReadyH.nil)
    focus
      go_simp
      go_wp2_with fail
      refine (storeOf_is key Bw n F S _ n P j _ (H0.out.work.later hS.1) HJ.out hn).mono ?_
      rintro e w5 ⟨rfl, q5⟩
      have hS5 := sE_later hS q5
      go_wp2_with fail
      refine hK.out _ _ hS5 (fun hS => ?_)
      clear hK K hS5
      refine tkH 6 ?_ hS (fun wx hx => ?_) ?_; rotate_left
      · obtain ⟨⟨hx0, hx1, hx2, hx3, hx4⟩, _⟩ := H0.out.kb.later hx.1; obtain ⟨⟨hy0, hy1, hy2, hy3, hy4, hy5⟩, _⟩ := hx.2.1; go_simp; try with_reducible rfl
      refine tkH 7 ?_ hS (fun wx hx => ?_) ?_; rotate_left
      · obtain ⟨⟨hx0, hx1, hx2, hx3, hx4⟩, _⟩ := H0.out.kb.later hx.1; obtain ⟨⟨hy0, hy1, hy2, hy3, hy4, hy5⟩, _⟩ := hx.2.1; go_simp; try with_reducible rfl
      try simp only [Act.put, List.getElem_toArray, List.getElem_cons_zero, List.getElem_cons_succ, List.setIfInBounds_toArray, List.set_cons_succ, List.set_cons_zero]
      refine wpAnyH_ready (rs := [11, 15]) (by kernel_rfl) (by simp) ?_
      refine AllReadyH.cons rfl (fun K hK => ?_) (AllReadyH.cons rfl (fun K hK => ?_) AllReadyH.nil)
      focus
        go_simp
        go_wp2_with fail
        obtain ⟨N, mm, gm, u1, u2, hNl, _, hRS⟩ := (H0.out.work.later hS.1).2 j HJ.out.1
        refine (doneOf_anyO _ (P j) 3 N mm _ _ _ _ gm u1 u2 key t.s _ hRS.2.1 hNl.2.2).mono ?_
        rintro e w6 ⟨u, rfl, hTold, q6⟩
        obtain ⟨a0, a1, a2, a3, sb, rfl, hsb⟩ := doneT hTold HD.out
        have HSB : Hid ((sb = true ∧ R k = some a1) ∨ (sb = false ∧ R k = none)) := hsb
        have hS6 := sE_later hS q6
        clear hTold hsb hRS hNl
        go_wp2_with fail
        refine hK.out _ _ hS6 (fun hS => ?_)
        clear hK K hS6 q6 q5
        refine tkH 12 ?_ hS (fun wx hx => ?_) ?_; rotate_left
        · obtain ⟨⟨hx0, hx1, hx2, hx3, hx4⟩, _⟩ := H0.out.kb.later hx.1; obtain ⟨⟨hy0, hy1, hy2, hy3, hy4, hy5⟩, _⟩ := hx.2.1; go_simp; try with_reducible rfl
        refine tkH 13 ?_ hS (fun wx hx => ?_) ?_; rotate_left
        · obtain ⟨⟨hx0, hx1, hx2, hx3, hx4⟩, _⟩ := H0.out.kb.later hx.1; obtain ⟨⟨hy0, hy1, hy2, hy3, hy4, hy5⟩, _⟩ := hx.2.1; go_simp; try with_reducible rfl
        refine tkH 14 ?_ hS (fun wx hx => ?_) ?_; rotate_left
        · obtain ⟨⟨hx0, hx1, hx2, hx3, hx4⟩, _⟩ := H0.out.kb.later hx.1; obtain ⟨⟨hy0, hy1, hy2, hy3, hy4, hy5⟩, _⟩ := hx.2.1; go_simp; try with_reducible rfl
        try simp only [Act.put, List.getElem_toArray, List.getElem_cons_zero, List.getElem_cons_succ, List.setIfInBounds_toArray, List.set_cons_succ, List.set_cons_zero]
        refine rdH 15 (fun K hK => ?_)
        go_simp
        have HQ : Hid (Blk4 (w6.alloc (.cells #[.int .i64 0, .int .i64 0, .int .i64 0, .int .i64 0] 191)) w6.heap.size (.int .i64 0) (.int .i64 0) (.int .i64 0) (.int .i64 0) ∧ Below w6.heap.size w6 (w6.alloc (.cells #[.int .i64 0, .int .i64 0, .int .i64 0, .int .i64 0] 191))) := ⟨Blk4.new _ _ _ _ _ _, below_alloc _ _⟩
        have HSA : Hid ((Below x0.heap.size x0 w6) ∧ Blk6 w6 wr.heap.size (.int .i64 t.s) (.int .i64 t.c) (.int .i64 t.u) (.int .i64 t.st) (.int .i64 t.a) (.slice (some ⟨gy, oy, none⟩) t.m yc) ∧ RisD w6 x0.heap.size (donesL R k)) := hS
        refine hK.out _ _ (sE_later hS (below_alloc _ _)) (fun hS => ?_)
        clear hK K
        refine rdH 16 (fun K hK => ?_)
        obtain ⟨⟨z0, z1, z2, z3⟩, zf⟩ := HQ.out.1
        have hqlt : w6.heap.size < (w6.alloc (.cells #[.int .i64 0, .int .i64 0, .int .i64 0, .int .i64 0] 191)).heap.size := HQ.out.1.lt
        obtain ⟨f0, f1, f2, f3⟩ := zf
        have HQ2 : Hid (Blk4 (w6.alloc (.cells #[.int .i64 a0, .int .i64 a1, .int .i64 a2, .int .i64 a3] 191)) w6.heap.size (.int .i64 a0) (.int .i64 a1) (.int .i64 a2) (.int .i64 a3) ∧ Below w6.heap.size w6 (w6.alloc (.cells #[.int .i64 a0, .int .i64 a1, .int .i64 a2, .int .i64 a3] 191))) := ⟨Blk4.new _ _ _ _ _ _, below_alloc _ _⟩
        go_simp
        refine hK.out _ _ (sE_later HSA.out HQ2.out.2) (fun hS => ?_)
        clear hK K z0 z1 z2 z3 f0 f1 f2 f3
        refine tkH 17 ?_ hS (fun wx hx => ?_) ?_; rotate_left
        · obtain ⟨⟨hx0, hx1, hx2, hx3, hx4⟩, _⟩ := H0.out.kb.later hx.1; obtain ⟨⟨hy0, hy1, hy2, hy3, hy4, hy5⟩, _⟩ := hx.2.1; go_simp; try with_reducible rfl
        refine wpAnyH_done (by kernel_rfl) ?_ _
        go_simp
        generalize (w6.alloc (.cells #[.int .i64 a0, .int .i64 a1, .int .i64 a2, .int .i64 a3] 191)) = wz at HQ2 hS ⊢
      rotate_left
      focus
        go_simp
        have HQ : Hid (Blk4 (w5.alloc (.cells #[.int .i64 0, .int .i64 0, .int .i64 0, .int .i64 0] 191)) w5.heap.size (.int .i64 0) (.int .i64 0) (.int .i64 0) (.int .i64 0) ∧ Below w5.heap.size w5 (w5.alloc (.cells #[.int .i64 0, .int .i64 0, .int .i64 0, .int .i64 0] 191))) := ⟨Blk4.new _ _ _ _ _ _, below_alloc _ _⟩
        have HSA : Hid ((Below x0.heap.size x0 w5) ∧ Blk6 w5 wr.heap.size (.int .i64 t.s) (.int .i64 t.c) (.int .i64 t.u) (.int .i64 t.st) (.int .i64 t.a) (.slice (some ⟨gy, oy, none⟩) t.m yc) ∧ RisD w5 x0.heap.size (donesL R k)) := hS
        refine hK.out _ _ (sE_later hS (below_alloc _ _)) (fun hS => ?_)
        clear hK K
        refine rdH 11 (fun K hK => ?_)
        go_simp
        go_wp2_with fail
        obtain ⟨N, mm, gm, u1, u2, hNl, _, hRS⟩ := (H0.out.work.later hS.1).2 j HJ.out.1
        refine (doneOf_anyO _ (P j) 3 N mm _ _ _ _ gm u1 u2 key t.s _ hRS.2.1 hNl.2.2).mono ?_
        rintro e w6 ⟨u, rfl, hTold, q6⟩
        obtain ⟨a0, a1, a2, a3, sb, rfl, hsb⟩ := doneT hTold HD.out
        have HSB : Hid ((sb = true ∧ R k = some a1) ∨ (sb = false ∧ R k = none)) := hsb
        have hS6 := sE_later hS q6
        clear hTold hsb hRS hNl
        have HQ : Hid (Blk4 w6 w5.heap.size (.int .i64 0) (.int .i64 0) (.int .i64 0) (.int .i64 0) ∧ Below w5.heap.size w5 w6) := ⟨HQ.out.1.later q6, HQ.out.2.trans (q6.mono HQ.out.2.size)⟩
        go_wp2_with fail
        refine hK.out _ _ hS6 (fun hS => ?_)
        clear hK K hS6 q6 q5
        refine tkH 12 ?_ hS (fun wx hx => ?_) ?_; rotate_left
        · obtain ⟨⟨hx0, hx1, hx2, hx3, hx4⟩, _⟩ := H0.out.kb.later hx.1; obtain ⟨⟨hy0, hy1, hy2, hy3, hy4, hy5⟩, _⟩ := hx.2.1; go_simp; try with_reducible rfl
        refine tkH 13 ?_ hS (fun wx hx => ?_) ?_; rotate_left
        · obtain ⟨⟨hx0, hx1, hx2, hx3, hx4⟩, _⟩ := H0.out.kb.later hx.1; obtain ⟨⟨hy0, hy1, hy2, hy3, hy4, hy5⟩, _⟩ := hx.2.1; go_simp; try with_reducible rfl
        refine tkH 14 ?_ hS (fun wx hx => ?_) ?_; rotate_left
        · obtain ⟨⟨hx0, hx1, hx2, hx3, hx4⟩, _⟩ := H0.out.kb.later hx.1; obtain ⟨⟨hy0, hy1, hy2, hy3, hy4, hy5⟩, _⟩ := hx.2.1; go_simp; try with_reducible rfl
        try simp only [Act.put, List.getElem_toArray, List.getElem_cons_zero, List.getElem_cons_succ, List.setIfInBounds_toArray, List.set_cons_succ, List.set_cons_zero]
        refine rdH 16 (fun K hK => ?_)
        obtain ⟨⟨z0, z1, z2, z3⟩, zf⟩ := HQ.out.1
        have hqlt : w5.heap.size < w6.heap.size := HQ.out.1.lt
        obtain ⟨f0, f1, f2, f3⟩ := zf
        have HQ2 : Hid (Blk4 ((((w6.setCell ⟨w5.heap.size, 0, none⟩ (.int .i64 a0)).setCell ⟨w5.heap.size, 1, none⟩ (.int .i64 a1)).setCell ⟨w5.heap.size, 2, none⟩ (.int .i64 a2)).setCell ⟨w5.heap.size, 3, none⟩ (.int .i64 a3)) w5.heap.size (.int .i64 a0) (.int .i64 a1) (.int .i64 a2) (.int .i64 a3) ∧ Below w5.heap.size w5 ((((w6.setCell ⟨w5.heap.size, 0, none⟩ (.int .i64 a0)).setCell ⟨w5.heap.size, 1, none⟩ (.int .i64 a1)).setCell ⟨w5.heap.size, 2, none⟩ (.int .i64 a2)).setCell ⟨w5.heap.size, 3, none⟩ (.int .i64 a3))) := ⟨Blk4.putD HQ.out.1 _ _ _ _, (((HQ.out.2.setCell (Nat.le_refl _) _).setCell (Nat.le_refl _) _).setCell (Nat.le_refl _) _).setCell (Nat.le_refl _) _⟩
        go_simp
        refine hK.out _ _ (sE_later HSA.out HQ2.out.2) (fun hS => ?_)
        clear hK K z0 z1 z2 z3 f0 f1 f2 f3
        refine tkH 17 ?_ hS (fun wx hx => ?_) ?_; rotate_left
        · obtain ⟨⟨hx0, hx1, hx2, hx3, hx4⟩, _⟩ := H0.out.kb.later hx.1; obtain ⟨⟨hy0, hy1, hy2, hy3, hy4, hy5⟩, _⟩ := hx.2.1; go_simp; try with_reducible rfl
        refine wpAnyH_done (by kernel_rfl) ?_ _
        go_simp
        generalize ((((w6.setCell ⟨w5.heap.size, 0, none⟩ (.int .i64 a0)).setCell ⟨w5.heap.size, 1, none⟩ (.int .i64 a1)).setCell ⟨w5.heap.size, 2, none⟩ (.int .i64 a2)).setCell ⟨w5.heap.size, 3, none⟩ (.int .i64 a3)) = wz at HQ2 hS ⊢
      rotate_left
    rotate_left 2
    focus
      go_simp
      have HQ : Hid (Blk4 (wa.alloc (.cells #[.int .i64 0, .int .i64 0, .int .i64 0, .int .i64 0] 191)) wa.heap.size (.int .i64 0) (.int .i64 0) (.int .i64 0) (.int .i64 0) ∧ Below wa.heap.size wa (wa.alloc (.cells #[.int .i64 0, .int .i64 0, .int .i64 0, .int .i64 0] 191))) := ⟨Blk4.new _ _ _ _ _ _, below_alloc _ _⟩
      have HSA : Hid ((Below x0.heap.size x0 wa) ∧ Blk6 wa wr.heap.size (.int .i64 t.s) (.int .i64 t.c) (.int .i64 t.u) (.int .i64 t.st) (.int .i64 t.a) (.slice (some ⟨gy, oy, none⟩) t.m yc) ∧ RisD wa x0.heap.size (donesL R k)) := hS
      refine hK.out _ _ (sE_later hS (below_alloc _ _)) (fun hS => ?_)
      clear hK K
      refine rdH 5 (fun K hK => ?_)
      go_simp
      go_wp2_with fail
      refine (storeOf_is key Bw n F S _ n P j _ (H0.out.work.later hS.1) HJ.out hn).mono ?_
      rintro e w5 ⟨rfl, q5⟩
      have hS5 := sE_later hS q5
      have HQ : Hid (Blk4 w5 wa.heap.size (.int .i64 0) (.int .i64 0) (.int .i64 0) (.int .i64 0) ∧ Below wa.heap.size wa w5) := ⟨HQ.out.1.later q5, HQ.out.2.trans (q5.mono HQ.out.2.size)⟩
      go_wp2_with fail
      refine hK.out _ _ hS5 (fun hS => ?_)
      clear hK K hS5
      refine tkH 6 ?_ hS (fun wx hx => ?_) ?_; rotate_left
      · obtain ⟨⟨hx0, hx1, hx2, hx3, hx4⟩, _⟩ := H0.out.kb.later hx.1; obtain ⟨⟨hy0, hy1, hy2, hy3, hy4, hy5⟩, _⟩ := hx.2.1; go_simp; try with_reducible rfl
      refine tkH 7 ?_ hS (fun wx hx => ?_) ?_; rotate_left
      · obtain ⟨⟨hx0, hx1, hx2, hx3, hx4⟩, _⟩ := H0.out.kb.later hx.1; obtain ⟨⟨hy0, hy1, hy2, hy3, hy4, hy5⟩, _⟩ := hx.2.1; go_simp; try with_reducible rfl
      try simp only [Act.put, List.getElem_toArray, List.getElem_cons_zero, List.getElem_cons_succ, List.setIfInBounds_toArray, List.set_cons_succ, List.set_cons_zero]
      refine rdH 11 (fun K hK => ?_)
      go_simp
      go_wp2_with fail
      obtain ⟨N, mm, gm, u1, u2, hNl, _, hRS⟩ := (H0.out.work.later hS.1).2 j HJ.out.1
      refine (doneOf_anyO _ (P j) 3 N mm _ _ _ _ gm u1 u2 key t.s _ hRS.2.1 hNl.2.2).mono ?_
      rintro e w6 ⟨u, rfl, hTold, q6⟩
      obtain ⟨a0, a1, a2, a3, sb, rfl, hsb⟩ := doneT hTold HD.out
      have HSB : Hid ((sb = true ∧ R k = some a1) ∨ (sb = false ∧ R k = none)) := hsb
      have hS6 := sE_later hS q6
      clear hTold hsb hRS hNl
      have HQ : Hid (Blk4 w6 wa.heap.size (.int .i64 0) (.int .i64 0) (.int .i64 0) (.int .i64 0) ∧ Below wa.heap.size wa w6) := ⟨HQ.out.1.later q6, HQ.out.2.trans (q6.mono HQ.out.2.size)⟩
      go_wp2_with fail
      refine hK.out _ _ hS6 (fun hS => ?_)
      clear hK K hS6 q6 q5
      refine tkH 12 ?_ hS (fun wx hx => ?_) ?_; rotate_left
      · obtain ⟨⟨hx0, hx1, hx2, hx3, hx4⟩, _⟩ := H0.out.kb.later hx.1; obtain ⟨⟨hy0, hy1, hy2, hy3, hy4, hy5⟩, _⟩ := hx.2.1; go_simp; try with_reducible rfl
      refine tkH 13 ?_ hS (fun wx hx => ?_) ?_; rotate_left
      · obtain ⟨⟨hx0, hx1, hx2, hx3, hx4⟩, _⟩ := H0.out.kb.later hx.1; obtain ⟨⟨hy0, hy1, hy2, hy3, hy4, hy5⟩, _⟩ := hx.2.1; go_simp; try with_reducible rfl
      refine tkH 14 ?_ hS (fun wx hx => ?_) ?_; rotate_left
      · obtain ⟨⟨hx0, hx1, hx2, hx3, hx4⟩, _⟩ := H0.out.kb.later hx.1; obtain ⟨⟨hy0, hy1, hy2, hy3, hy4, hy5⟩, _⟩ := hx.2.1; go_simp; try with_reducible rfl
      try simp only [Act.put, List.getElem_toArray, List.getElem_cons_zero, List.getElem_cons_succ, List.setIfInBounds_toArray, List.set_cons_succ, List.set_cons_zero]
      refine rdH 16 (fun K hK => ?_)
      obtain ⟨⟨z0, z1, z2, z3⟩, zf⟩ := HQ.out.1
      have hqlt : wa.heap.size < w6.heap.size := HQ.out.1.lt
      obtain ⟨f0, f1, f2, f3⟩ := zf
      have HQ2 : Hid (Blk4 ((((w6.setCell ⟨wa.heap.size, 0, none⟩ (.int .i64 a0)).setCell ⟨wa.heap.size, 1, none⟩ (.int .i64 a1)).setCell ⟨wa.heap.size, 2, none⟩ (.int .i64 a2)).setCell ⟨wa.heap.size, 3, none⟩ (.int .i64 a3)) wa.heap.size (.int .i64 a0) (.int .i64 a1) (.int .i64 a2) (.int .i64 a3) ∧ Below wa.heap.size wa ((((w6.setCell ⟨wa.heap.size, 0, none⟩ (.int .i64 a0)).setCell ⟨wa.heap.size, 1, none⟩ (.int .i64 a1)).setCell ⟨wa.heap.size, 2, none⟩ (.int .i64 a2)).setCell ⟨wa.heap.size, 3, none⟩ (.int .i64 a3))) := ⟨Blk4.putD HQ.out.1 _ _ _ _, (((HQ.out.2.setCell (Nat.le_refl _) _).setCell (Nat.le_refl _) _).setCell (Nat.le_refl _) _).setCell (Nat.le_refl _) _⟩
      go_simp
      refine hK.out _ _ (sE_later HSA.out HQ2.out.2) (fun hS => ?_)
      clear hK K z0 z1 z2 z3 f0 f1 f2 f3
      refine tkH 17 ?_ hS (fun wx hx => ?_) ?_; rotate_left
      · obtain ⟨⟨hx0, hx1, hx2, hx3, hx4⟩, _⟩ := H0.out.kb.later hx.1; obtain ⟨⟨hy0, hy1, hy2, hy3, hy4, hy5⟩, _⟩ := hx.2.1; go_simp; try with_reducible rfl
      refine wpAnyH_done (by kernel_rfl) ?_ _
      go_simp
      generalize ((((w6.setCell ⟨wa.heap.size, 0, none⟩ (.int .i64 a0)).setCell ⟨wa.heap.size, 1, none⟩ (.int .i64 a1)).setCell ⟨wa.heap.size, 2, none⟩ (.int .i64 a2)).setCell ⟨wa.heap.size, 3, none⟩ (.int .i64 a3)) = wz at HQ2 hS ⊢
    rotate_left
    all_goals
      have HSZ : Hid ((Below x0.heap.size x0 wz) ∧ Blk6 wz wr.heap.size (.int .i64 t.s) (.int .i64 t.c) (.int .i64 t.u) (.int .i64 t.st) (.int .i64 t.a) (.slice (some ⟨gy, oy, none⟩) t.m yc) ∧ RisD wz x0.heap.size (donesL R k)) := hS
      obtain ⟨⟨z0, z1, z2, z3⟩, _⟩ := HQ2.out.1
      clear hS HSA HQ HQ2
      rcases HSB.out with ⟨e1, e2⟩ | ⟨e1, e2⟩
      · subst e1
        have HE : Hid (donesL R (k + 1) = putD (donesL R k) (k, a1)) := by unfold Hid; rw [donesL, e2]
        clear e2 HSB
        go_wp2_with fail
        refine (put_anyD (donesL R k) x0.heap.size k a1 _ HSZ.out.2.2 (donesL_rises R k) (fun e he => by have := donesL_lt R k e he; omega) (by have := donesL_len R k; omega)).mono ?_
        rintro e w7 ⟨rfl, r7, q7⟩
        rw [← HE.out] at r7
        have H7 : Hid ((Below x0.heap.size x0 w7) ∧ RisD w7 x0.heap.size (donesL R (k + 1))) := ⟨HSZ.out.1.trans q7, r7⟩
        clear r7 q7 HSZ
        go_wp2
        go_roundw
        case rel => exact ⟨k + 1, by omega, by go_num, H7⟩
        case measure => simp [intOf]; omega
      · subst e1
        have HE : Hid (donesL R (k + 1) = donesL R k) := by unfold Hid; rw [donesL, e2]
        clear e2 HSB
        go_wp2
        go_roundw
        case rel =>
          refine ⟨k + 1, by omega, by go_num, HSZ.out.1, ?_⟩
          rw [HE.out]
          exact HSZ.out.2.2
        case measure => simp [intOf]; omega
end Go.Proofs.YtpodcnmiaacndaaGreat

namespace Go.Proofs.YtpodcnmiaacndaaGreat
open Go.RowKit

/-- The model's place: behind all whose commit is not above. -/
theorem place_model {L : Prs} {x : Int × Int} {i : Nat} (hx : ∀ e ∈ L, e.1 < x.1) (h : placeAt (fun j => (L.getD j (0, 0)).2 ≤ x.2) L.length i) : i = aheadDN L x := by
  obtain ⟨h1, h2, h3⟩ := h
  rcases Nat.lt_trichotomy i (aheadDN L x) with q | q | q
  · have hl := aheadDN_lt q
    unfold ltD at hl
    exact absurd (show (L.getD i (0, 0)).2 ≤ x.2 by omega) (h3 (Nat.lt_of_lt_of_le q (aheadDN_le L x)))
  · exact q
  · have hlen : aheadDN L x < L.length := by omega
    have hn := aheadDN_not hlen
    have hle := h2 _ q
    have hg : L.getD (aheadDN L x) (0, 0) = L[aheadDN L x] := by simp [List.getD, hlen]
    have hm := hx _ (List.getElem_mem hlen)
    simp only at hle
    rw [hg] at hn hle
    unfold ltD at hn
    exact absurd (show _ ∨ _ by omega) hn
theorem row_litD (w : World) (x0 x1 : Int) (t : TypeId) : Row (w.alloc (.cells #[.int .i64 x0, .int .i64 x1] t)) 0 2 1 (fun p => [x0, x1].getD p 0) (.slice (some ⟨w.heap.size, 0, none⟩) 1 1) := by
  refine ⟨_, _, rfl, fun _ => ⟨w.heap.size, 0, rfl, Nat.zero_le _, by simp, fun p hp => ?_⟩⟩
  rw [Nat.zero_add, World.cell?_alloc_mark]
  match p, hp with
  | 0, _ => rfl
  | 1, _ => rfl
/-- What the model asks of the first item's store, and whether it was done. -/
theorem stat_done {nl : Nat} {l : Nat → Int} {nw : Nat} {k : Nat → Int} {key start : Int} {r : Option Int} (hD : (∃ i, doneW k nw key start i ∧ r = some (k (i * 4 + 1))) ∨ ((∀ i, ¬ doneW k nw key start i) ∧ r = none)) :
    ∃ st, StatIs nl l nw k key start st ∧ ((st = 2 ∧ ∃ i, firstW k nw key start i ∧ r = some (k (i * 4 + 1))) ∨ (st ≠ 2 ∧ r = none)) := by
  obtain ⟨st, hst⟩ := StatIs.get nl l nw k key start
  refine ⟨st, hst, ?_⟩
  rcases hD with ⟨i, hi, rfl⟩ | ⟨hno, rfl⟩
  · refine Or.inl ⟨?_, i, hi.1, rfl⟩
    rcases hst with ⟨j, hj, h⟩ | ⟨hn, _⟩
    · obtain rfl := firstW_one hi.1 hj
      rcases h with ⟨h4, _⟩ | ⟨_, h2⟩
      · exact absurd h4 hi.2
      · exact h2
    · exact absurd hi.1 (hn i)
  · refine Or.inr ⟨?_, rfl⟩
    rintro rfl
    rcases hst with ⟨j, hj, h⟩ | ⟨_, h⟩
    · rcases h with ⟨_, h⟩ | ⟨h4, _⟩
      · exact absurd h (by decide)
      · exact hno j ⟨hj, h4⟩
    · rcases h with ⟨j, _, ⟨_, h⟩ | ⟨_, h⟩⟩ | ⟨_, h⟩
      · exact absurd h (by decide)
      · exact absurd h (by decide)
      · exact absurd h (by decide)
/-- What stands while a commit is looked up. -/
def LookE (w : World) (b gx ox k gs os gw ow i : Nat) (vt vw : Value) (s c : Int) (X : World) : Prop :=
  (X.cell? ⟨b, 5, none⟩ = some vt ∧ X.cell? ⟨gx, ox + k * 6, none⟩ = some (.int .i64 s) ∧ X.cell? ⟨gs, os + 2, none⟩ = some vw ∧ X.cell? ⟨gw, ow + i * 4 + 1, none⟩ = some (.int .i64 c)) ∧ Below w.heap.size w X
theorem LookE.later {w X X' : World} {b gx ox k gs os gw ow i : Nat} {vt vw : Value} {s c : Int} (h : LookE w b gx ox k gs os gw ow i vt vw s c X) (hb : Below X.heap.size X X') : LookE w b gx ox k gs os gw ow i vt vw s c X' :=
  ⟨⟨(hb.cell (lt_cell h.1.1)).trans h.1.1, (hb.cell (lt_cell h.1.2.1)).trans h.1.2.1, (hb.cell (lt_cell h.1.2.2.1)).trans h.1.2.2.1, (hb.cell (lt_cell h.1.2.2.2)).trans h.1.2.2.2⟩, h.2.trans (hb.mono h.2.size)⟩
/-- What stands while the place is looked for. -/
def InE (w : World) (z k : Nat) (c : Int) (L : Prs) (v : Value) (X : World) : Prop := Blk2 X z (.int .i64 k) (.int .i64 c) ∧ Own X w.heap.size 92 2 L.length (rowL L) v ∧ Below w.heap.size w X
theorem InE.drewN {w X : World} {z k : Nat} {c : Int} {L : Prs} {v : Value} (h : InE w z k c L v X) (q : Nat) : InE w z k c L v (X.drewN q) := ⟨h.1, h.2.1, below_dn h.2.2 _⟩
theorem Own.capD {w : World} {B : Nat} {e : TypeId} {m n : Nat} {ao : Option Addr} {cp : Nat} {F : Nat → Int} (h : Own w B e m n F (.slice ao n cp)) : n ≤ cp := by
  rcases h.2 with ⟨q, e⟩ | ⟨g, cap, cur, q, _, _, hn, _⟩
  · cases q; exact Nat.le_refl _
  · cases q; exact hn
set_option maxRecDepth 100000 in
set_option maxHeartbeats 8000000 in
theorem l11Committed_is (b : Nat) (nw nx bd : Int) (nr : Nat) (F : Nat → Int) (n : Nat) (S : Nat → Sto) (V : Nat → Nat → Value) (vr vs : Value) (nt : Nat) (T : Nat → Tx) (X : Nat → Value) (vt : Value) (R : Nat → Option Int) (w : World) (h : LiesD w b nw nx bd nr F n S V vr vs nt T X vt) (hr : nr ≤ 6) (hn : n = nr) (hs : ∀ i, i < n → (S i).nl ≤ 200 ∧ (S i).nw ≤ 200) (hnt : nt ≤ 16) (hit : ∀ i, i < nt → 1 ≤ (T i).m) (hR : ∀ i, i < nt → DoneAt nr F S (T i) (R i)) :
    Calls Tryz.prog 74 #[.pointer (some ⟨b, 0, none⟩)] w fun e w' => ∃ ao cp, e = .returned (.slice ao (donesL R nt).length cp) ∧ Own w' w.heap.size 92 2 (donesL R nt).length (rowL (donesL R nt)) (.slice ao (donesL R nt).length cp) ∧ Below w.heap.size w w' := by
  obtain ⟨a0, c0, a1, c1, rfl, rfl⟩ := h.2.1.form
  obtain ⟨a2, c2, rfl⟩ := h.2.2.form
  have H : Hid (LiesD w b nw nx bd nr F n S V (.slice a0 nr c0) (.slice a1 n c1) nt T X (.slice a2 nt c2)) := h
  have HR : Hid (∀ i, i < nt → DoneAt nr F S (T i) (R i)) := hR
  have HIT : Hid (∀ i, i < nt → 1 ≤ (T i).m) := hit
  have HS : Hid (∀ i, i < n → (S i).nl ≤ 200 ∧ (S i).nw ≤ 200) := hs
  have p5 : w.cell? ⟨b, 5, none⟩ = some (.slice a2 nt c2) := h.1.1.2.2.2.2.2
  have hb : b < w.heap.size := h.1.lt
  obtain ⟨i0, hi, hz0, hz1, hz2⟩ := info_parts infoz_Done
  clear h hR hit hs
  go_enter Tryz.func74, Tryz.ntmps74
  go_wp2
  go_loopw [3, 4] (fun out i wr => ∃ (k : Nat) (ao : Option Addr) (cp : Nat), k ≤ nt ∧ i = .int .i64 k ∧ out = .slice ao (donesL R k).length cp ∧ Hid (Own wr w.heap.size 92 2 (donesL R k).length (rowL (donesL R k)) (.slice ao (donesL R k).length cp)) ∧ Hid (Below w.heap.size w wr)) (fun _ i _ => nt - (intOf i).toNat)
  case atStart => exact ⟨0, _, _, Nat.zero_le _, rfl, rfl, (OwnM.lit0 w w.heap.size 92 2 rfl).own rfl, below_alloc _ _⟩
  case round =>
    obtain ⟨k, ao, cp, hk, rfl, rfl, HO, HB⟩ := hrel
    have q5 := (HB.out.cell (p := ⟨b, 5, none⟩) hb).trans p5
    by_cases hlt : k < nt
    case neg =>
      obtain rfl : k = nt := by omega
      obtain ⟨LN, hLN⟩ : ∃ LN, (donesL R k).length = LN := ⟨_, rfl⟩
      have HLN : Hid ((donesL R k).length = LN) := hLN
      rw [hLN]
      clear hLN
      go_wp2
      refine bodyPost_ret (v := .slice ao LN cp) (by simp [results, Tryz.results74, go_sem]) rfl ?_
      rw [← HLN.out]
      exact ⟨ao, cp, rfl, HO.out, HB.out⟩
    obtain ⟨L, hL⟩ : ∃ L, donesL R k = L := ⟨_, rfl⟩
    have hLl : L.length ≤ 16 := by have := donesL_len R k; rw [hL] at this; omega
    have HLT : Hid ((∀ e ∈ L, e.1 < (k : Int)) ∧ donesL R k = L) := ⟨fun e he => donesL_lt R k e (by rw [hL]; exact he), hL⟩
    rw [hL] at HO ⊢
    clear hL
    obtain ⟨gx, ox, hax, _, hgx, ⟨x0, _, _, _, _, x5⟩, hrow, _⟩ := H.out.2.2.at hlt
    subst hax
    have hm1 := HIT.out k hlt
    obtain ⟨j, hj, hD⟩ := HR.out k hlt
    obtain ⟨t, ht⟩ : ∃ t, T k = t := ⟨_, rfl⟩
    rw [ht] at x0 hrow hm1 hj hD
    obtain ⟨y, hy⟩ : ∃ y, X k = y := ⟨_, rfl⟩
    rw [hy] at x5 hrow
    clear ht hy
    obtain ⟨yo, yc, rfl⟩ := hrow.form
    obtain ⟨gy, oy, hyo, _, hgy, k0, _, _⟩ := hrow.at3 (k := 0) (by omega)
    subst hyo
    simp only [Nat.zero_mul, Nat.add_zero] at k0
    obtain ⟨key, hkey⟩ : ∃ x, t.L 0 = x := ⟨_, rfl⟩
    rw [hkey] at k0 hj hD
    have HJ : Hid (AtR nr F key j) := hj
    have hjn : j < n := by rw [hn]; exact hj.1
    obtain ⟨gs, os, has, _, hgs, _, _⟩ := H.out.2.1.2.at hjn
    subst has
    obtain ⟨st, hst, hD⟩ := stat_done (nl := (S j).nl) (l := (S j).l) hD
    have HST : Hid (StatIs (S j).nl (S j).l (S j).nw (S j).k key t.s st) := hst
    have HDD : Hid ((st = 2 ∧ ∃ i, firstW (S j).k (S j).nw key t.s i ∧ R k = some ((S j).k (i * 4 + 1))) ∨ (st ≠ 2 ∧ R k = none)) := hD
    clear hj hD hst hrow hkey
    have r0 := (HB.out.cell (p := ⟨gx, ox + k * 6, none⟩) hgx).trans x0
    have r5 := (HB.out.cell (p := ⟨gx, ox + k * 6 + 5, none⟩) hgx).trans x5
    have rk := (HB.out.cell (p := ⟨gy, oy, none⟩) hgy).trans k0
    go_wp2_with fail
    refine (l7For_at nr F n S V _ _ gs os c1 key j b _ (H.out.later HB.out).groups hr HJ.out hjn).mono ?_
    rintro e w1 ⟨rfl, hw1⟩
    have HB1 : Hid (Below w.heap.size w w1) := by rw [hw1]; exact below_dr HB.out 1
    have HO1 : Hid (Own w1 w.heap.size 92 2 L.length (rowL L) (.slice ao L.length cp)) := by rw [hw1]; exact HO.out
    have L1 : Hid (LiesO w1 gs (os + j * 3) (S j) (V j 0) (V j 1) (V j 2)) := (H.out.2.1.2.later HB1.out).o hjn
    clear hw1 q5 r0 r5 rk HO HB
    have q5 := (HB1.out.cell (p := ⟨b, 5, none⟩) hb).trans p5
    have r0 := (HB1.out.cell (p := ⟨gx, ox + k * 6, none⟩) hgx).trans x0
    go_wp2_with fail
    refine (l4Status_isO (S j) gs (os + j * 3) _ _ _ key t.s st _ L1.out (HS.out j hjn).1 (HS.out j hjn).2 HST.out).mono ?_
    rintro e w2 ⟨rfl, hw2⟩
    obtain rfl := hw2.symm
    clear hw2
    rcases HDD.out with ⟨h2, i, hfi, hRk⟩ | ⟨h2, hRk⟩
    case inr =>
      have d2 : (st != 2) = true := bne_iff_ne.2 h2
      have HE : Hid (donesL R (k + 1) = L) := by unfold Hid; rw [donesL, hRk]; exact HLT.out.2
      clear h2 hRk HDD
      go_wp2
      go_roundw
      case rel => exact ⟨k + 1, ao, cp, by omega, by go_num, by rw [HE.out], by rw [HE.out]; exact HO1, HB1⟩
      case measure => simp [intOf]; omega
    subst h2
    obtain ⟨f0, e0, f1, e1, f2, e2, v0, v1, v2⟩ := L1.out.2.form
    have p2 := L1.out.1.2.2
    rw [v2] at p2
    have R2 := L1.out.2.2.2
    rw [v2] at R2
    obtain ⟨gw, ow, rfl, _, hgw, _, y1, _, _⟩ := R2.at4 hfi.1
    obtain ⟨c, hc⟩ : ∃ c, (S j).k (i * 4 + 1) = c := ⟨_, rfl⟩
    rw [hc] at y1 hRk
    have HNX : Hid (donesL R (k + 1) = putD L (k, c)) := by unfold Hid; rw [donesL, hRk, HLT.out.2]
    have HFI : Hid (firstW (S j).k (S j).nw key t.s i) := hfi
    have hin : (i : Int) < ((S j).nw : Int) := by have := hfi.1; omega
    have hS0 : LookE w b gx ox k gs (os + j * 3) gw ow i (.slice (some ⟨gx, ox, none⟩) nt c2) (.slice (some ⟨gw, ow, none⟩) (S j).nw e2) t.s c w1.drew := ⟨⟨q5, r0, p2, y1⟩, HB1.out.drew⟩
    clear hfi hRk hc HDD HST v0 v1 v2 R2
    go_wp2_with fail
    refine wp_region_held_drew (S := LookE w b gx ox k gs (os + j * 3) gw ow i (.slice (some ⟨gx, ox, none⟩) nt c2) (.slice (some ⟨gw, ow, none⟩) (S j).nw e2) t.s c) (by kernel_rfl) hS0 (fun hS => ?_)
    have La : Hid (LiesO w1.drew gs (os + j * 3) (S j) (V j 0) (V j 1) (V j 2)) := L1.out.later (Below.refl _ w1).drew
    have HOa : Hid (Own w1.drew w.heap.size 92 2 L.length (rowL L) (.slice ao L.length cp)) := HO1.out
    clear hS0 q5 r0 p2 y1 L1 HO1 HB1
    generalize w1.drew = wa at hS La HOa ⊢
    refine tkH 0 ?_ hS (fun wx hx => ?_) ?_; rotate_left
    · obtain ⟨⟨hx0, hx1, hx2, hx3⟩, _⟩ := hx; go_simp; try with_reducible rfl
    refine tkH 1 ?_ hS (fun wx hx => ?_) ?_; rotate_left
    · obtain ⟨⟨hx0, hx1, hx2, hx3⟩, _⟩ := hx; go_simp; try with_reducible rfl
    refine tkH 2 ?_ hS (fun wx hx => ?_) ?_; rotate_left
    · obtain ⟨⟨hx0, hx1, hx2, hx3⟩, _⟩ := hx; go_simp; try with_reducible rfl
    try simp only [Act.put, List.getElem_toArray, List.getElem_cons_zero, List.getElem_cons_succ, List.setIfInBounds_toArray, List.set_cons_succ, List.set_cons_zero]
    refine tkH 3 ?_ hS (fun wx hx => ?_) ?_; rotate_left
    · obtain ⟨⟨hx0, hx1, hx2, hx3⟩, _⟩ := hx; go_simp; try with_reducible rfl
    refine tkH 4 ?_ hS (fun wx hx => ?_) ?_; rotate_left
    · obtain ⟨⟨hx0, hx1, hx2, hx3⟩, _⟩ := hx; go_simp; try with_reducible rfl
    refine tkH 5 ?_ hS (fun wx hx => ?_) ?_; rotate_left
    · obtain ⟨⟨hx0, hx1, hx2, hx3⟩, _⟩ := hx; go_simp; try with_reducible rfl
    try simp only [Act.put, List.getElem_toArray, List.getElem_cons_zero, List.getElem_cons_succ, List.setIfInBounds_toArray, List.set_cons_succ, List.set_cons_zero]
    refine tkH 6 ?_ hS (fun wx hx => ?_) ?_; rotate_left
    · obtain ⟨⟨hx0, hx1, hx2, hx3⟩, _⟩ := hx; go_simp; try with_reducible rfl
    refine tkH 7 ?_ hS (fun wx hx => ?_) ?_; rotate_left
    · obtain ⟨⟨hx0, hx1, hx2, hx3⟩, _⟩ := hx; go_simp; try with_reducible rfl
    refine tkH 8 ?_ hS (fun wx hx => ?_) ?_; rotate_left
    · obtain ⟨⟨hx0, hx1, hx2, hx3⟩, _⟩ := hx; go_simp; try with_reducible rfl
    try simp only [Act.put, List.getElem_toArray, List.getElem_cons_zero, List.getElem_cons_succ, List.setIfInBounds_toArray, List.set_cons_succ, List.set_cons_zero]
    refine tkH 9 ?_ hS (fun wx hx => ?_) ?_; rotate_left
    · obtain ⟨⟨hx0, hx1, hx2, hx3⟩, _⟩ := hx; go_simp; try with_reducible rfl
    refine tkH 10 ?_ hS (fun wx hx => ?_) ?_; rotate_left
    · obtain ⟨⟨hx0, hx1, hx2, hx3⟩, _⟩ := hx; go_simp; try with_reducible rfl
    refine tkH 11 ?_ hS (fun wx hx => ?_) ?_; rotate_left
    · obtain ⟨⟨hx0, hx1, hx2, hx3⟩, _⟩ := hx; go_simp; try with_reducible rfl
    try simp only [Act.put, List.getElem_toArray, List.getElem_cons_zero, List.getElem_cons_succ, List.setIfInBounds_toArray, List.set_cons_succ, List.set_cons_zero]
    refine tkH 12 ?_ hS (fun wx hx => ?_) ?_; rotate_left
    · obtain ⟨⟨hx0, hx1, hx2, hx3⟩, _⟩ := hx; go_simp; try with_reducible rfl
    refine tkH 13 ?_ hS (fun wx hx => ?_) ?_; rotate_left
    · obtain ⟨⟨hx0, hx1, hx2, hx3⟩, _⟩ := hx; go_simp; try with_reducible rfl
    refine tkH 14 ?_ hS (fun wx hx => ?_) ?_; rotate_left
    · obtain ⟨⟨hx0, hx1, hx2, hx3⟩, _⟩ := hx; go_simp; try with_reducible rfl
    try simp only [Act.put, List.getElem_toArray, List.getElem_cons_zero, List.getElem_cons_succ, List.setIfInBounds_toArray, List.set_cons_succ, List.set_cons_zero]
    have HSA : Hid (LookE w b gx ox k gs (os + j * 3) gw ow i (.slice (some ⟨gx, ox, none⟩) nt c2) (.slice (some ⟨gw, ow, none⟩) (S j).nw e2) t.s c wa) := hS
    refine wpAnyH_ready (rs := [15, 20]) (by kernel_rfl) (by simp) ?_
    refine AllReadyH.cons rfl (fun K hK => ?_) (AllReadyH.cons rfl (fun K hK => ?_) AllReadyH.nil)
    focus
      go_simp
      go_wp2_with fail
      refine (write_yesO (S j) gs (os + j * 3) _ _ _ key t.s i _ La.out (HS.out j hjn).2 HFI.out).mono ?_
      rintro e w3 ⟨rfl, hw3⟩
      obtain rfl := hw3.symm
      clear hw3
      go_wp2_with fail
      refine hK.out _ _ hS (fun hS => ?_)
      clear hK K
      refine tkH 16 ?_ hS (fun wx hx => ?_) ?_; rotate_left
      · obtain ⟨⟨hx0, hx1, hx2, hx3⟩, _⟩ := hx; go_simp; try with_reducible rfl
      refine tkH 17 ?_ hS (fun wx hx => ?_) ?_; rotate_left
      · obtain ⟨⟨hx0, hx1, hx2, hx3⟩, _⟩ := hx; go_simp; try with_reducible rfl
      refine tkH 18 ?_ hS (fun wx hx => ?_) ?_; rotate_left
      · obtain ⟨⟨hx0, hx1, hx2, hx3⟩, _⟩ := hx; go_simp; try with_reducible rfl
      try simp only [Act.put, List.getElem_toArray, List.getElem_cons_zero, List.getElem_cons_succ, List.setIfInBounds_toArray, List.set_cons_succ, List.set_cons_zero]
      refine tkH 19 ?_ hS (fun wx hx => ?_) ?_; rotate_left
      · obtain ⟨⟨hx0, hx1, hx2, hx3⟩, _⟩ := hx; go_simp; try with_reducible rfl
      refine rdH 20 (fun K hK => ?_)
      go_simp
      refine hK.out _ _ (HSA.out.later (below_alloc _ _)) (fun hS => ?_)
      clear hK K
    rotate_left
    focus
      go_simp
      refine hK.out _ _ (HSA.out.later (below_alloc _ _)) (fun hS => ?_)
      clear hK K
      refine rdH 15 (fun K hK => ?_)
      go_simp
      go_wp2_with fail
      refine (write_yesO (S j) gs (os + j * 3) _ _ _ key t.s i _ (La.out.later (below_alloc _ _)) (HS.out j hjn).2 HFI.out).mono ?_
      rintro e w3 ⟨rfl, hw3⟩
      obtain rfl := hw3.symm
      clear hw3
      go_wp2_with fail
      refine hK.out _ _ hS (fun hS => ?_)
      clear hK K
      refine tkH 16 ?_ hS (fun wx hx => ?_) ?_; rotate_left
      · obtain ⟨⟨hx0, hx1, hx2, hx3⟩, _⟩ := hx; go_simp; try with_reducible rfl
      refine tkH 17 ?_ hS (fun wx hx => ?_) ?_; rotate_left
      · obtain ⟨⟨hx0, hx1, hx2, hx3⟩, _⟩ := hx; go_simp; try with_reducible rfl
      refine tkH 18 ?_ hS (fun wx hx => ?_) ?_; rotate_left
      · obtain ⟨⟨hx0, hx1, hx2, hx3⟩, _⟩ := hx; go_simp; try with_reducible rfl
      try simp only [Act.put, List.getElem_toArray, List.getElem_cons_zero, List.getElem_cons_succ, List.setIfInBounds_toArray, List.set_cons_succ, List.set_cons_zero]
      refine tkH 19 ?_ hS (fun wx hx => ?_) ?_; rotate_left
      · obtain ⟨⟨hx0, hx1, hx2, hx3⟩, _⟩ := hx; go_simp; try with_reducible rfl
    rotate_left
    all_goals
      refine rdH 21 (fun K hK => ?_)
      go_simp
      refine hK.out _ _ (HSA.out.later (below_alloc wa (.cells #[.int .i64 k, .int .i64 c] 92))) (fun hS => ?_)
      clear hK K
      refine wpAnyH_done (by kernel_rfl) ?_ _
      go_simp
      have HI0 : Hid (InE w wa.heap.size k c L (.slice ao L.length cp) (wa.alloc (.cells #[.int .i64 k, .int .i64 c] 92))) := ⟨Blk2.new wa _ _ _, HOa.out.alloc _, HSA.out.2.alloc HSA.out.2.size _⟩
      generalize (wa.alloc (.cells #[.int .i64 k, .int .i64 c] 92)) = Xa at HI0 ⊢
      clear hS HSA La HOa
      go_wp2
      go_loopw [8] (fun i2 wr2 => ∃ q : Nat, i2 = .int .i64 q ∧ q ≤ L.length ∧ Hid (∀ j, j < q → (L.getD j (0, 0)).2 ≤ c) ∧ Hid (InE w wa.heap.size k c L (.slice ao L.length cp) wr2)) (fun i2 _ => L.length - (intOf i2).toNat)
      case atStart => exact ⟨0, rfl, Nat.zero_le _, fun j hj => absurd hj (Nat.not_lt_zero j), HI0⟩
      case round =>
        clear HI0
        obtain ⟨q, rfl, hq, hP, HI⟩ := hrel
        have hcap : L.length ≤ cp := HI.out.2.1.capD
        obtain ⟨⟨t0, t1⟩, _, _⟩ := HI.out.1
        by_cases hlt2 : q < L.length
        · obtain ⟨g2, o2, hao2, _, hg2, _, z1⟩ := HI.out.2.1.row.1.at2 hlt2
          subst hao2
          rw [rowL_val] at z1
          obtain ⟨y2, N2⟩ : ∃ y, (L.getD q (0, 0)).2 = y := ⟨_, rfl⟩
          rw [N2] at z1
          have HN2 : Hid ((L.getD q (0, 0)).2 = y2) := N2
          clear N2
          by_cases hle : y2 ≤ c
          · have HP : Hid (∀ j, j < q + 1 → (L.getD j (0, 0)).2 ≤ c) := fun j hj => by
              rcases Nat.lt_or_ge j q with r | r
              · exact hP.out j r
              · obtain rfl : j = q := by omega
                rw [HN2.out]
                exact hle
            have d2 : decide (y2 ≤ c) = true := decide_eq_true hle
            clear hP
            go_wp2
            go_quiet (fail)
            go_wp2
            go_roundw
            case rel => exact ⟨q + 1, by go_num, by omega, HP, HI.out.drewN _⟩
            case measure => simp [intOf]; omega
          · have HQ : Hid (q = aheadDN L (k, c)) := place_model HLT.out.1 ⟨hq, hP.out, fun _ => by show ¬ ((L.getD q (0, 0)).2 ≤ c); rw [HN2.out]; exact hle⟩
            have d2 : decide (y2 ≤ c) = false := decide_eq_false hle
            clear hP
            go_wp2
            go_quiet (fail)
            have HI : Hid (InE w wa.heap.size k c L (.slice (some ⟨g2, o2, none⟩) L.length cp) (wr.drewN nq)) := HI.out.drewN _
            generalize wr.drewN nq = Xr at HI ⊢
            have hzr : wa.heap.size < Xr.heap.size := HI.out.1.lt
            have HRow : Hid (Row Xr 0 2 L.length (rowL L) (.slice (some ⟨g2, o2, none⟩) L.length cp)) := HI.out.2.1.row.1.mono (Nat.zero_le _)
            have HBX : Hid (Below w.heap.size w Xr) := HI.out.2.2
            have hqcp : q ≤ cp := by omega
            go_wp2_with (at_builtin; refine wpList_app 92 i0 (.agg #[.int .i64 0, .int .i64 0]) 2 16 rfl _ _ 50 rfl Tryz.underlying50 hi hz0 hz1 hz2 rfl (by omega) (by omega) _ Xr.heap.size 0 [] _ rfl (OwnM.lit0 _ _ _ _ (by simp)) 0 q (rowL L) _ rfl ((HRow.out.head hq cp).alloc _) (by omega) (by simp) ?_; intro ao1 cp1 w2 O2 G2)
            rw [Nat.zero_add, List.nil_append] at O2
            have D2 : Below Xr.heap.size Xr w2 := (below_alloc _ _).grown G2 (by simp) (fun r e => by cases e; exact Nat.le_refl _)
            have O2' : Hid (OwnM w2 Xr.heap.size 92 2 (.slice ao1 q cp1) q (nums (rowL L) (q * 2))) := O2
            clear O2 G2
            refine wp_region_held_drew (S := fun Y : World => Below Xr.heap.size Xr Y) (by kernel_rfl) D2.drew (fun hS => ?_)
            refine tkH 0 ?_ hS (fun wx hx => ?_) ?_; rotate_left
            · have hx0 := (hx.cell (p := ⟨wa.heap.size, 0, none⟩) hzr).trans HI.out.1.1.1; have hx1 := (hx.cell (p := ⟨wa.heap.size, 1, none⟩) hzr).trans HI.out.1.1.2; go_simp; try with_reducible rfl
            refine tkH 1 ?_ hS (fun wx hx => ?_) ?_; rotate_left
            · have hx0 := (hx.cell (p := ⟨wa.heap.size, 0, none⟩) hzr).trans HI.out.1.1.1; have hx1 := (hx.cell (p := ⟨wa.heap.size, 1, none⟩) hzr).trans HI.out.1.1.2; go_simp; try with_reducible rfl
            refine tkH 4 ?_ hS (fun wx hx => ?_) ?_; rotate_left
            · have hx0 := (hx.cell (p := ⟨wa.heap.size, 0, none⟩) hzr).trans HI.out.1.1.1; have hx1 := (hx.cell (p := ⟨wa.heap.size, 1, none⟩) hzr).trans HI.out.1.1.2; go_simp; try with_reducible rfl
            refine tkH 5 ?_ hS (fun wx hx => ?_) ?_; rotate_left
            · have hx0 := (hx.cell (p := ⟨wa.heap.size, 0, none⟩) hzr).trans HI.out.1.1.1; have hx1 := (hx.cell (p := ⟨wa.heap.size, 1, none⟩) hzr).trans HI.out.1.1.2; go_simp; try with_reducible rfl
            refine tkH 6 ?_ hS (fun wx hx => ?_) ?_; rotate_left
            · have hx0 := (hx.cell (p := ⟨wa.heap.size, 0, none⟩) hzr).trans HI.out.1.1.1; have hx1 := (hx.cell (p := ⟨wa.heap.size, 1, none⟩) hzr).trans HI.out.1.1.2; go_simp; try with_reducible rfl
            try simp only [Act.put, List.getElem_toArray, List.getElem_cons_zero, List.getElem_cons_succ, List.setIfInBounds_toArray, List.set_cons_succ, List.set_cons_zero]
            refine rdH 2 (fun K hK => ?_)
            go_simp
            have S3 : Below Xr.heap.size Xr (w2.drew.alloc (.cells #[.int .i64 k, .int .i64 c] 92)) := hS.alloc hS.size _
            have O3 : Hid (OwnM (w2.drew.alloc (.cells #[.int .i64 k, .int .i64 c] 92)) Xr.heap.size 92 2 (.slice ao1 q cp1) q (nums (rowL L) (q * 2))) := O2'.out.later (below_alloc w2 _).drew
            have R3 : Hid (Row (w2.drew.alloc (.cells #[.int .i64 k, .int .i64 c] 92)) 0 2 1 (fun p => [(k : Int), c].getD p 0) (.slice (some ⟨w2.heap.size, 0, none⟩) 1 1)) := row_litD w2.drew k c 92
            refine hK.out _ _ S3 (fun hS => ?_)
            clear hK K S3
            refine rdH 3 (fun K hK => ?_)
            refine step_app 92 i0 (.agg #[.int .i64 0, .int .i64 0]) 2 16 (by rfl) _ _ 50 (by rfl) Tryz.underlying50 hi hz0 hz1 hz2 rfl (by omega) (by omega) _ Xr.heap.size q (nums (rowL L) (q * 2)) (.slice ao1 q cp1) (by rfl) O3.out 0 1 (fun p => [(k : Int), c].getD p 0) (.slice (some ⟨w2.heap.size, 0, none⟩) 1 1) (by rfl) R3.out (by omega) hS.size ?_
            intro ao3 cp3 w4 O4 G4
            have S4 : Below Xr.heap.size Xr w4 := hS.grown G4 hS.size (fun r e => (O3.out.block r e).1)
            have O4' : Hid (OwnM w4 Xr.heap.size 92 2 (.slice ao3 (q + 1) cp3) (q + 1) (nums (rowL L) (q * 2) ++ [(k : Int), c])) := O4
            clear O4 G4 O3 R3 O2'
            refine hK.out _ _ S4 (fun hS => ?_)
            clear hK K S4
            refine rdH 7 (fun K hK => ?_)
            refine step_app 92 i0 (.agg #[.int .i64 0, .int .i64 0]) 2 16 (by rfl) _ _ 50 (by rfl) Tryz.underlying50 hi hz0 hz1 hz2 rfl (by omega) (by omega) _ Xr.heap.size (q + 1) (nums (rowL L) (q * 2) ++ [(k : Int), c]) (.slice ao3 (q + 1) cp3) (by rfl) O4'.out 0 (L.length - q) (fun p => rowL L (q * 2 + p)) (.slice (if cp = q then some ⟨g2, o2, none⟩ else some ⟨g2, o2 + q * 2, none⟩) (L.length - q) (cp - q)) (by rfl) ((HRow.out.later hS).tailS hlt2 hcap) (by omega) hS.size ?_
            intro ao5 cp5 w6 O6 G6
            have S6 : Below Xr.heap.size Xr w6 := hS.grown G6 hS.size (fun r e => (O4'.out.block r e).1)
            have HO6 : Hid (Own w6 w.heap.size 92 2 (donesL R (k + 1)).length (rowL (donesL R (k + 1))) (.slice ao5 (donesL R (k + 1)).length cp5)) := by
              have e1 : q + 1 + (L.length - q) = L.length + 1 := by omega
              rw [e1] at O6
              unfold Hid
              rw [HNX.out, putD_length]
              refine own_eqP ((OwnM.own O6 (by rw [List.length_append, List.length_append, nums_length, nums_length]; simp; omega)).mono HBX.out.size) (fun p hp => ?_)
              unfold putD
              rw [← HQ.out]
              exact rowL_insert hq hp
            have e8 : Hid (q + 1 + (L.length - q) = (donesL R (k + 1)).length) := by unfold Hid; rw [HNX.out, putD_length]; omega
            clear O6 G6 O4'
            refine hK.out _ _ S6 (fun hS => ?_)
            clear hK K S6
            refine tkH 8 ?_ hS (fun wx hx => ?_) ?_; rotate_left
            · have hx0 := (hx.cell (p := ⟨wa.heap.size, 0, none⟩) hzr).trans HI.out.1.1.1; have hx1 := (hx.cell (p := ⟨wa.heap.size, 1, none⟩) hzr).trans HI.out.1.1.2; go_simp; try with_reducible rfl
            refine wpAnyH_done (by kernel_rfl) ?_ _
            go_simp
            go_wp2
            all_goals
              go_roundw
              case rel => exact ⟨k + 1, ao5, cp5, by omega, by go_num, by rw [e8.out], HO6, HBX.out.trans (hS.mono HBX.out.size)⟩
              case measure => simp [intOf]; omega
        · have HQ : Hid (q = aheadDN L (k, c)) := place_model HLT.out.1 ⟨hq, hP.out, fun r => absurd r hlt2⟩
          clear hP
          go_wp2
          go_quiet (fail)
          have HI : Hid (InE w wa.heap.size k c L (.slice ao L.length cp) (wr.drewN nq)) := HI.out.drewN _
          generalize wr.drewN nq = Xr at HI ⊢
          have hzr : wa.heap.size < Xr.heap.size := HI.out.1.lt
          have HRow : Hid (Row Xr 0 2 L.length (rowL L) (.slice ao L.length cp)) := HI.out.2.1.row.1.mono (Nat.zero_le _)
          have HBX : Hid (Below w.heap.size w Xr) := HI.out.2.2
          have hqcp : q ≤ cp := by omega
          go_wp2_with (at_builtin; refine wpList_app 92 i0 (.agg #[.int .i64 0, .int .i64 0]) 2 16 rfl _ _ 50 rfl Tryz.underlying50 hi hz0 hz1 hz2 rfl (by omega) (by omega) _ Xr.heap.size 0 [] _ rfl (OwnM.lit0 _ _ _ _ (by simp)) 0 q (rowL L) _ rfl ((HRow.out.head hq cp).alloc _) (by omega) (by simp) ?_; intro ao1 cp1 w2 O2 G2)
          rw [Nat.zero_add, List.nil_append] at O2
          have D2 : Below Xr.heap.size Xr w2 := (below_alloc _ _).grown G2 (by simp) (fun r e => by cases e; exact Nat.le_refl _)
          have O2' : Hid (OwnM w2 Xr.heap.size 92 2 (.slice ao1 q cp1) q (nums (rowL L) (q * 2))) := O2
          clear O2 G2
          refine wp_region_held_drew (S := fun Y : World => Below Xr.heap.size Xr Y) (by kernel_rfl) D2.drew (fun hS => ?_)
          refine tkH 0 ?_ hS (fun wx hx => ?_) ?_; rotate_left
          · have hx0 := (hx.cell (p := ⟨wa.heap.size, 0, none⟩) hzr).trans HI.out.1.1.1; have hx1 := (hx.cell (p := ⟨wa.heap.size, 1, none⟩) hzr).trans HI.out.1.1.2; go_simp; try with_reducible rfl
          refine tkH 1 ?_ hS (fun wx hx => ?_) ?_; rotate_left
          · have hx0 := (hx.cell (p := ⟨wa.heap.size, 0, none⟩) hzr).trans HI.out.1.1.1; have hx1 := (hx.cell (p := ⟨wa.heap.size, 1, none⟩) hzr).trans HI.out.1.1.2; go_simp; try with_reducible rfl
          refine tkH 4 ?_ hS (fun wx hx => ?_) ?_; rotate_left
          · have hx0 := (hx.cell (p := ⟨wa.heap.size, 0, none⟩) hzr).trans HI.out.1.1.1; have hx1 := (hx.cell (p := ⟨wa.heap.size, 1, none⟩) hzr).trans HI.out.1.1.2; go_simp; try with_reducible rfl
          refine tkH 5 ?_ hS (fun wx hx => ?_) ?_; rotate_left
          · have hx0 := (hx.cell (p := ⟨wa.heap.size, 0, none⟩) hzr).trans HI.out.1.1.1; have hx1 := (hx.cell (p := ⟨wa.heap.size, 1, none⟩) hzr).trans HI.out.1.1.2; go_simp; try with_reducible rfl
          refine tkH 6 ?_ hS (fun wx hx => ?_) ?_; rotate_left
          · have hx0 := (hx.cell (p := ⟨wa.heap.size, 0, none⟩) hzr).trans HI.out.1.1.1; have hx1 := (hx.cell (p := ⟨wa.heap.size, 1, none⟩) hzr).trans HI.out.1.1.2; go_simp; try with_reducible rfl
          try simp only [Act.put, List.getElem_toArray, List.getElem_cons_zero, List.getElem_cons_succ, List.setIfInBounds_toArray, List.set_cons_succ, List.set_cons_zero]
          refine rdH 2 (fun K hK => ?_)
          go_simp
          have S3 : Below Xr.heap.size Xr (w2.drew.alloc (.cells #[.int .i64 k, .int .i64 c] 92)) := hS.alloc hS.size _
          have O3 : Hid (OwnM (w2.drew.alloc (.cells #[.int .i64 k, .int .i64 c] 92)) Xr.heap.size 92 2 (.slice ao1 q cp1) q (nums (rowL L) (q * 2))) := O2'.out.later (below_alloc w2 _).drew
          have R3 : Hid (Row (w2.drew.alloc (.cells #[.int .i64 k, .int .i64 c] 92)) 0 2 1 (fun p => [(k : Int), c].getD p 0) (.slice (some ⟨w2.heap.size, 0, none⟩) 1 1)) := row_litD w2.drew k c 92
          refine hK.out _ _ S3 (fun hS => ?_)
          clear hK K S3
          refine rdH 3 (fun K hK => ?_)
          refine step_app 92 i0 (.agg #[.int .i64 0, .int .i64 0]) 2 16 (by rfl) _ _ 50 (by rfl) Tryz.underlying50 hi hz0 hz1 hz2 rfl (by omega) (by omega) _ Xr.heap.size q (nums (rowL L) (q * 2)) (.slice ao1 q cp1) (by rfl) O3.out 0 1 (fun p => [(k : Int), c].getD p 0) (.slice (some ⟨w2.heap.size, 0, none⟩) 1 1) (by rfl) R3.out (by omega) hS.size ?_
          intro ao3 cp3 w4 O4 G4
          have S4 : Below Xr.heap.size Xr w4 := hS.grown G4 hS.size (fun r e => (O3.out.block r e).1)
          have O4' : Hid (OwnM w4 Xr.heap.size 92 2 (.slice ao3 (q + 1) cp3) (q + 1) (nums (rowL L) (q * 2) ++ [(k : Int), c])) := O4
          clear O4 G4 O3 R3 O2'
          refine hK.out _ _ S4 (fun hS => ?_)
          clear hK K S4
          refine rdH 7 (fun K hK => ?_)
          refine step_app 92 i0 (.agg #[.int .i64 0, .int .i64 0]) 2 16 (by rfl) _ _ 50 (by rfl) Tryz.underlying50 hi hz0 hz1 hz2 rfl (by omega) (by omega) _ Xr.heap.size (q + 1) (nums (rowL L) (q * 2) ++ [(k : Int), c]) (.slice ao3 (q + 1) cp3) (by rfl) O4'.out 0 (L.length - q) (fun p => rowL L (q * 2 + p)) (.slice (if cp = q then ao else Option.map (fun x => x.add (q * 2)) ao) (L.length - q) (cp - q)) (by rfl) (Row.over _ _ _ _ _ _ _ _ hlt2) (by omega) hS.size ?_
          intro ao5 cp5 w6 O6 G6
          have S6 : Below Xr.heap.size Xr w6 := hS.grown G6 hS.size (fun r e => (O4'.out.block r e).1)
          have HO6 : Hid (Own w6 w.heap.size 92 2 (donesL R (k + 1)).length (rowL (donesL R (k + 1))) (.slice ao5 (donesL R (k + 1)).length cp5)) := by
            have e1 : q + 1 + (L.length - q) = L.length + 1 := by omega
            rw [e1] at O6
            unfold Hid
            rw [HNX.out, putD_length]
            refine own_eqP ((OwnM.own O6 (by rw [List.length_append, List.length_append, nums_length, nums_length]; simp; omega)).mono HBX.out.size) (fun p hp => ?_)
            unfold putD
            rw [← HQ.out]
            exact rowL_insert hq hp
          have e8 : Hid (q + 1 + (L.length - q) = (donesL R (k + 1)).length) := by unfold Hid; rw [HNX.out, putD_length]; omega
          clear O6 G6 O4'
          refine hK.out _ _ S6 (fun hS => ?_)
          clear hK K S6
          refine tkH 8 ?_ hS (fun wx hx => ?_) ?_; rotate_left
          · have hx0 := (hx.cell (p := ⟨wa.heap.size, 0, none⟩) hzr).trans HI.out.1.1.1; have hx1 := (hx.cell (p := ⟨wa.heap.size, 1, none⟩) hzr).trans HI.out.1.1.2; go_simp; try with_reducible rfl
          refine wpAnyH_done (by kernel_rfl) ?_ _
          go_simp
          go_wp2
          all_goals
            go_roundw
            case rel => exact ⟨k + 1, ao5, cp5, by omega, by go_num, by rw [e8.out], HO6, HBX.out.trans (hS.mono HBX.out.size)⟩
            case measure => simp [intOf]; omega
end Go.Proofs.YtpodcnmiaacndaaGreat

namespace Go.Proofs.YtpodcnmiaacndaaGreat
open Go.RowKit

theorem itemF_key {k kd v : Int} (h : itemF k kd v = 0) : faultOf k = 0 := by
  unfold itemF at h
  by_cases q : faultOf k = 0
  · exact q
  · rw [if_pos q] at h
    exact h
theorem itemsF_key {F : Nat → Int} {m : Nat} (hm : 0 < m) (h : itemsF F m 0 = 0) : faultOf (F 0) = 0 := by
  by_cases q : itemF (F (0 * 3)) (F (0 * 3 + 1)) (F (0 * 3 + 2)) = 0
  · rw [Nat.zero_mul] at q
    exact itemF_key q
  · exact absurd ((itemsF_bad hm rfl q).symm.trans h) q
/-- What a transaction without a fault keeps. -/
theorem txF_fine {t : Tx} (h : txF t = 0) : (1 ≤ t.m ∧ t.m ≤ 12) ∧ faultOf (t.L 0) = 0 := by
  unfold txF txnF at h
  split at h
  · omega
  split at h
  · omega
  rename_i h1
  split at h
  · rename_i h2; exact absurd h h2
  rename_i h2
  exact ⟨⟨by omega, by omega⟩, itemsF_key (by omega) (Decidable.not_not.1 h2)⟩
/-- What a world without a fault keeps. -/
theorem world_fine {nw nx bd : Int} {nr : Nat} {F : Nat → Int} {n : Nat} {S : Nat → Sto} {nt : Nat} {T : Nat → Tx} (h : worldF nw nx bd nr F n S nt T = 0) :
    groupsF nr F n S = 0 ∧ nt ≤ 16 ∧ ∀ i, i < nt → (1 ≤ (T i).m ∧ (T i).m ≤ 12) ∧ faultOf ((T i).L 0) = 0 := by
  unfold worldF at h
  split at h
  · omega
  split at h
  · rename_i q; exact absurd h q
  split at h
  · rename_i q; exact absurd h q
  rename_i h2
  split at h
  · omega
  rename_i h3
  refine ⟨Decidable.not_not.1 h2, by omega, fun i hi => txF_fine ?_⟩
  have := scan_zero h i hi
  unfold placeF at this
  split at this
  · rename_i q; exact absurd this q
  · rename_i q; exact Decidable.not_not.1 q
theorem DoneAt.get {nr : Nat} {F : Nat → Int} {S : Nat → Sto} (hG : Good nr F) {t : Tx} (hk : faultOf (t.L 0) = 0) : ∃ r, DoneAt nr F S t r := by
  obtain ⟨j, hj⟩ := hG.at (key := t.L 0) (faultOf_zero hk).2
  rcases firstW_or (S j).k (S j).nw (t.L 0) t.s with hno | ⟨i, hi⟩
  · exact ⟨none, j, hj, Or.inr ⟨fun i q => hno i q.1, rfl⟩⟩
  · by_cases e : (S j).k (i * 4 + 3) = 4
    · exact ⟨none, j, hj, Or.inr ⟨fun i' q => q.2 (by rw [firstW_one q.1 hi]; exact e), rfl⟩⟩
    · exact ⟨_, j, hj, Or.inl ⟨i, ⟨hi, e⟩, rfl⟩⟩
theorem res_noneD {w w' : World} {c : Int} {e : Ending} (he : e = .returned (.agg #[.int .i64 c, .slice none 0 0])) (hb : Below w.heap.size w w') : ResRow 2 w c ([] : Prs).length (rowL []) e w' :=
  ⟨none, 0, he, ⟨_, _, rfl, fun q => absurd q (Nat.lt_irrefl 0)⟩, by rw [show ([] : Prs).length * 2 = 0 from rfl]; exact Free.of0 _ _, hb⟩
end Go.Proofs.YtpodcnmiaacndaaGreat

