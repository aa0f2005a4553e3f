/-
  Own text, merged of GrpW, OrcA, OrcB, WldA, WldB, WldC, WldD.
-/
import Derived.Test.YtdfikaehipdjaaaPk4
namespace Go.Proofs.Ytdfikaehipdjaaa
section
open Go.RowKit Go.Maps
/-- A range's store that is worked on: its range and its columns, in block b. -/
def RSt (x : World) (B b : Nat) (fr to ep : Int) (N : Nat) (m : Int → Int → Option Int) (nl : Nat) (l : Nat → Int) (nw : Nat) (k : Nat → Int) (g : Nat) (u1 u2 : Value) : Prop :=
  (x.cell? ⟨b, 0, none⟩ = some (.int .i64 fr) ∧ x.cell? ⟨b, 1, none⟩ = some (.int .i64 to) ∧ x.cell? ⟨b, 2, none⟩ = some (.int .i64 ep)) ∧ ColsO x B b 3 N m nl l nw k g u1 u2 ∧ ApartC b g u1 u2
def PtE (w : World) (s0 s1 s2 r0 r1 r2 : Value) (x : World) : Prop := Blk3 x w.heap.size s0 s1 s2 ∧ Blk3 x (w.heap.size + 1) r0 r1 r2
set_option maxRecDepth 100000 in
set_option maxHeartbeats 4000000 in
theorem pointTo_is (S : Sto) (v0 v1 v2 : Value) (fr to ep : Int) (B : Nat) (w : World) (h : St w B S v0 v1 v2) (hz : storeF S = 0) :
    Calls Try.prog 23 #[.agg #[v0, v1, v2], .agg #[.int .i64 fr, .int .i64 to, .int .i64 ep]] w fun e w' => ∃ b g u1 u2, e = .returned (.pointer (some ⟨b, 0, none⟩)) ∧ RSt w' w.heap.size b fr to ep S.nc (cellM S S.nc) S.nl S.l S.nw S.k g u1 u2 ∧ Below w.heap.size w w' := by
  obtain ⟨a0, c0, a1, c1, a2, c2, rfl, rfl, rfl⟩ := h.form
  have H : Hid (St w B S (.slice a0 S.nc c0) (.slice a1 S.nl c1) (.slice a2 S.nw c2)) := h
  have Z := storeF_zero hz
  have HZ : Hid ((S.nc ≤ 200 ∧ S.nl ≤ 200 ∧ S.nw ≤ 200) ∧ scan (cellF S.c) S.nc = 0) := ⟨Z.1, Z.2.1⟩
  have HP : Hid (PtE w (.slice a0 S.nc c0) (.slice a1 S.nl c1) (.slice a2 S.nw c2) (.int .i64 fr) (.int .i64 to) (.int .i64 ep) ((w.alloc (.cells #[.slice a0 S.nc c0, .slice a1 S.nl c1, .slice a2 S.nw c2] 48)).alloc (.cells #[.int .i64 fr, .int .i64 to, .int .i64 ep] 54)) ∧ Below w.heap.size w ((w.alloc (.cells #[.slice a0 S.nc c0, .slice a1 S.nl c1, .slice a2 S.nw c2] 48)).alloc (.cells #[.int .i64 fr, .int .i64 to, .int .i64 ep] 54))) := by
    refine ⟨⟨(Blk3.new w _ _ _ _).alloc _, ?_⟩, (below_alloc _ _).alloc (by simp) _⟩
    have := Blk3.new (w.alloc (.cells #[.slice a0 S.nc c0, .slice a1 S.nl c1, .slice a2 S.nw c2] 48)) (.int .i64 fr) (.int .i64 to) (.int .i64 ep) 54
    rwa [World.size_alloc] at this
  clear h hz Z
  go_enter Try.func23, Try.ntmps23
  go_wp2_with fail
  generalize (w.alloc (.cells #[.slice a0 S.nc c0, .slice a1 S.nl c1, .slice a2 S.nw c2] 48)).alloc (.cells #[.int .i64 fr, .int .i64 to, .int .i64 ep] 54) = w1 at HP ⊢
  refine wp_region_held_drew (S := PtE w (.slice a0 S.nc c0) (.slice a1 S.nl c1) (.slice a2 S.nw c2) (.int .i64 fr) (.int .i64 to) (.int .i64 ep)) (by kernel_rfl) ⟨HP.out.1.1.kept rfl, HP.out.1.2.kept rfl⟩ (fun hS => ?_)
  refine tkH 0 ?_ hS (fun wx hx => ?_) ?_; rotate_left
  · obtain ⟨⟨⟨hx0, hx1, hx2⟩, _⟩, ⟨hx3, hx4, hx5⟩, _⟩ := hx; go_simp; try with_reducible rfl
  refine tkH 1 ?_ hS (fun wx hx => ?_) ?_; rotate_left
  · obtain ⟨⟨⟨hx0, hx1, hx2⟩, _⟩, ⟨hx3, hx4, hx5⟩, _⟩ := hx; go_simp; try with_reducible rfl
  refine rdH 2 (fun K hK => ?_)
  go_simp
  go_wp2_with fail
  refine (columnsOf_apart S B _ _ _ _ ((H.out.later HP.out.2).later (below_dr (Below.refl _ _) 1)) HZ.out.1.1 HZ.out.1.2.1 HZ.out.1.2.2 HZ.out.2).mono ?_
  rintro e w2 ⟨b, g, u1, u2, rfl, hC, hap, q2⟩
  have q2' : Below w1.heap.size w1 w2 := ⟨q2.os, q2.tape, q2.output, q2.size, q2.block⟩
  obtain ⟨b1, d1, rfl⟩ := hC.2.2.2.2.1.form
  obtain ⟨b2, d2, rfl⟩ := hC.2.2.2.2.2.form
  have HC : Hid (Cols w2 w1.heap.size b S.nc (cellM S S.nc) S.nl S.l S.nw S.k g (.slice b1 S.nl d1) (.slice b2 S.nw d2) ∧ ApartC b g (.slice b1 S.nl d1) (.slice b2 S.nw d2)) := ⟨hC, hap⟩
  have HB2 : Hid (Below w.heap.size w w2 ∧ w.heap.size ≤ w1.heap.size) := ⟨HP.out.2.trans (q2'.mono HP.out.2.size), HP.out.2.size⟩
  have hS' : PtE w (.slice a0 S.nc c0) (.slice a1 S.nl c1) (.slice a2 S.nw c2) (.int .i64 fr) (.int .i64 to) (.int .i64 ep) w2 := ⟨hS.1.later q2, hS.2.later q2⟩
  obtain ⟨⟨t0, t1, t2⟩, _⟩ := hC.2.2.1
  clear hC hap q2 q2'
  go_wp2_with fail
  refine hK.out _ _ hS' (fun hS => ?_)
  clear hK K hS'
  refine tkH 3 ?_ hS (fun wx hx => ?_) ?_; rotate_left
  · obtain ⟨⟨⟨hx0, hx1, hx2⟩, _⟩, ⟨hx3, hx4, hx5⟩, _⟩ := hx; go_simp; try with_reducible rfl
  refine rdH 4 (fun K hK => ?_)
  go_simp
  refine hK.out _ _ hS (fun hS => ?_)
  clear hK K
  refine tkH 5 ?_ hS (fun wx hx => ?_) ?_; rotate_left
  · obtain ⟨⟨⟨hx0, hx1, hx2⟩, _⟩, ⟨hx3, hx4, hx5⟩, _⟩ := hx; go_simp; try with_reducible rfl
  refine rdH 6 (fun K hK => ?_)
  go_simp
  refine hK.out _ _ (show PtE w _ _ _ _ _ _ _ from ⟨hS.1.alloc _, hS.2.alloc _⟩) (fun hS => ?_)
  clear hK K
  refine tkH 7 ?_ hS (fun wx hx => ?_) ?_; rotate_left
  · obtain ⟨⟨⟨hx0, hx1, hx2⟩, _⟩, ⟨hx3, hx4, hx5⟩, _⟩ := hx; go_simp; try with_reducible rfl
  refine wpAnyH_done (by kernel_rfl) ?_ _
  clear hS t0 t1 t2
  go_simp
  go_wp2
  go_ret
  have hlt := HC.out.1.2.2.1.lt
  have hgl := HC.out.1.2.2.2.1.lt
  have cl : ∀ (j : Nat) (u : Value), (#[.int .i64 fr, .int .i64 to, .int .i64 ep, .map (some g), .slice b1 S.nl d1, .slice b2 S.nw d2] : Array Value)[j]? = some u → (w2.alloc (.cells #[.int .i64 fr, .int .i64 to, .int .i64 ep, .map (some g), .slice b1 S.nl d1, .slice b2 S.nw d2] 78)).cell? ⟨w2.heap.size, j, none⟩ = some u := fun j u hu => (World.cell?_alloc_mark w2 _ _ _ j).trans hu
  have cf : ∀ (j : Nat), (w2.alloc (.cells #[.int .i64 fr, .int .i64 to, .int .i64 ep, .map (some g), .slice b1 S.nl d1, .slice b2 S.nw d2] 78)).frozen? ⟨w2.heap.size, j, none⟩ = false := fun j => by simp
  refine ⟨w2.heap.size, g, _, _, rfl, ⟨⟨cl 0 _ rfl, cl 1 _ rfl, cl 2 _ rfl⟩, ⟨HB2.out.1.size, Nat.le_trans HB2.out.2 HC.out.1.2.1, ⟨⟨cl 3 _ rfl, cl 4 _ rfl, cl 5 _ rfl⟩, cf 3, cf 4, cf 5⟩, HC.out.1.2.2.2.1.later (below_alloc _ _), (HC.out.1.2.2.2.2.1.later (below_alloc _ _)).mono HB2.out.2, (HC.out.1.2.2.2.2.2.later (below_alloc _ _)).mono HB2.out.2⟩, ⟨by omega, fun q e => ⟨by have := (own_in HC.out.1.2.2.2.2.1 q e).2; omega, (HC.out.2.2.1 q e).2⟩, fun q e => ⟨by have := (own_in HC.out.1.2.2.2.2.2 q e).2; omega, (HC.out.2.2.2.1 q e).2⟩, HC.out.2.2.2.2⟩⟩, HB2.out.1.trans ((below_alloc _ _).mono HB2.out.1.size)⟩
theorem mapSelf {S : Sto} (hz : scan (cellF S.c) S.nc = 0) : MapRow (cellM S S.nc) S.nc S.c :=
  ⟨cells_rise hz, fun i hi => by
    have hc := cellF_zero (scan_zero hz i hi)
    have hk := faultOf_zero hc.1
    exact ⟨wf_small hk.1 (by omega), wf_small (by omega) hc.2.2.1⟩, fun i hi => cellM_at hz hi ⟨rfl, rfl⟩, fun _ _ _ _ _ h => cellM_some h⟩
end

section
open Go.RowKit
section
/-- The lists of the first k stores, one behind the other. -/
def listU (U : Nat → Nat → Value) : Nat → List Value
  | 0 => []
  | k + 1 => listU U k ++ [U k 0, U k 1, U k 2]
theorem listU_len (U : Nat → Nat → Value) : ∀ k, (listU U k).length = k * 3
  | 0 => rfl
  | k + 1 => by
    show (listU U k ++ [U k 0, U k 1, U k 2]).length = (k + 1) * 3
    rw [List.length_append, listU_len U k]
    simp only [List.length_cons, List.length_nil]
    omega
theorem listU_at (U : Nat → Nat → Value) : ∀ k i, i < k → (listU U k)[i * 3]? = some (U i 0) ∧ (listU U k)[i * 3 + 1]? = some (U i 1) ∧ (listU U k)[i * 3 + 2]? = some (U i 2)
  | 0, i, hi => absurd hi (Nat.not_lt_zero i)
  | k + 1, i, hi => by
    have hl := listU_len U k
    show (listU U k ++ [U k 0, U k 1, U k 2])[i * 3]? = _ ∧ (listU U k ++ [U k 0, U k 1, U k 2])[i * 3 + 1]? = _ ∧ (listU U k ++ [U k 0, U k 1, U k 2])[i * 3 + 2]? = _
    by_cases q : i = k
    · subst q
      rw [List.getElem?_append_right (by omega), List.getElem?_append_right (by omega), List.getElem?_append_right (by omega), hl, Nat.sub_self, show i * 3 + 1 - i * 3 = 1 by omega, show i * 3 + 2 - i * 3 = 2 by omega]
      exact ⟨rfl, rfl, rfl⟩
    · obtain ⟨h0, h1, h2⟩ := listU_at U k i (by omega)
      rw [List.getElem?_append_left (by omega), List.getElem?_append_left (by omega), List.getElem?_append_left (by omega)]
      exact ⟨h0, h1, h2⟩
theorem listU_put (U : Nat → Nat → Value) (u0 u1 u2 : Value) : ∀ k j, j ≤ k → listU (putU U k u0 u1 u2) j = listU U j
  | _, 0, _ => rfl
  | k, j + 1, hj => by
    show listU (putU U k u0 u1 u2) j ++ [putU U k u0 u1 u2 j 0, putU U k u0 u1 u2 j 1, putU U k u0 u1 u2 j 2] = listU U j ++ [U j 0, U j 1, U j 2]
    rw [listU_put U u0 u1 u2 k j (by omega)]
    unfold putU
    rw [if_neg (by omega), if_neg (by omega), if_neg (by omega)]
theorem listU_new (U : Nat → Nat → Value) (u0 u1 u2 : Value) (k : Nat) : listU (putU U k u0 u1 u2) (k + 1) = listU U k ++ [u0, u1, u2] := by
  show listU (putU U k u0 u1 u2) k ++ [putU U k u0 u1 u2 k 0, putU U k u0 u1 u2 k 1, putU U k u0 u1 u2 k 2] = _
  rw [listU_put U u0 u1 u2 k k (Nat.le_refl _)]
  simp [putU]
/-- A row of stores that a call owns. -/
def OwnV (x : World) (B : Nat) (v : Value) (k : Nat) (U : Nat → Nat → Value) : Prop := x.ownsRow B 48 3 v k (listU U k)
theorem OwnV.block {x : World} {B : Nat} {v : Value} {k : Nat} {U : Nat → Nat → Value} (h : OwnV x B v k U) : ∀ q, v.ownBlock = some q → B ≤ q ∧ q < x.heap.size := World.ownsRow.lt h
theorem OwnV.keptB {x x' : World} {B : Nat} {v : Value} {k : Nat} {U : Nat → Nat → Value} (h : OwnV x B v k U) (hb : ∀ q, v.ownBlock = some q → x'.heap[q]? = x.heap[q]?) : OwnV x' B v k U := by
  obtain ⟨h1, h2⟩ := h
  refine ⟨h1, ?_⟩
  rcases h2 with q | ⟨g, cap, cur, rfl, q1, q2, q3⟩
  · exact Or.inl q
  · exact Or.inr ⟨g, cap, cur, rfl, q1, (hb g rfl).trans q2, q3⟩
theorem OwnV.later {x x' : World} {B : Nat} {v : Value} {k : Nat} {U : Nat → Nat → Value} (h : OwnV x B v k U) (hb : Below x.heap.size x x') : OwnV x' B v k U := h.keptB (fun q hq => hb.block q (h.block q hq).2)
theorem OwnV.far {x : World} {B : Nat} {v : Value} {k : Nat} {U : Nat → Nat → Value} (h : OwnV x B v k U) {a : Addr} (ha : a.block < B) (u : Value) : OwnV (x.setCell a u) B v k U := h.keptB (fun q hq => Below.heap_setCell x a u q (by have := (h.block q hq).1; omega))
theorem OwnV.fill {x : World} {B g cp : Nat} {k : Nat} {U : Nat → Nat → Value} (h : OwnV x B (.slice (some ⟨g, 0, none⟩) k cp) k U) : FillS x g k k U := by
  have hc : ∀ p, p < k * 3 → x.cell? ⟨g, p, none⟩ = (listU U k)[p]? := fun p hp => World.ownsRow.cellAt h p hp
  refine ⟨(h.block g rfl).2, fun p hp => ⟨⟨(listU U k)[p]'(by rw [listU_len]; exact hp), ?_⟩, World.ownsRow.frozenAt h p⟩, fun i hi => ?_⟩
  · rw [hc p hp, List.getElem?_eq_getElem]
  · obtain ⟨h0, h1, h2⟩ := listU_at U k i hi
    exact ⟨(hc _ (by omega)).trans h0, (hc _ (by omega)).trans h1, (hc _ (by omega)).trans h2⟩
/-- Groups under way: kr ranges and k stores are laid. -/
structure GT (w x : World) (kr k : Nat) (F : Nat → Int) (S : Nat → Sto) (U : Nat → Nat → Value) (z : Nat → Nat) (vr vs : Value) : Prop where
  below : Below w.heap.size w x
  res : Blk3 x w.heap.size (.int .i64 0) (.slice none 0 0) (.slice none 0 0)
  blk : Blk2 x (w.heap.size + 1) vr vs
  lo : w.heap.size + 2 ≤ x.heap.size
  rr : OwnM x (w.heap.size + 2) 54 3 vr kr (nums F (kr * 3))
  rs : OwnV x (w.heap.size + 2) vs k U
  fine : Fine x z k S U
  zl : ∀ i, i ≤ k → w.heap.size + 2 ≤ z i
  zh : z k ≤ x.heap.size
  sr : ∀ q, vr.ownBlock = some q → Spare k S U q
  ss : ∀ q, vs.ownBlock = some q → Spare k S U q
  ap : ApaO vr vs
theorem GT.later {w x x' : World} {kr k : Nat} {F : Nat → Int} {S : Nat → Sto} {U : Nat → Nat → Value} {z : Nat → Nat} {vr vs : Value} (h : GT w x kr k F S U z vr vs) (hb : Below x.heap.size x x') : GT w x' kr k F S U z vr vs :=
  ⟨h.below.trans (hb.mono h.below.size), h.res.later hb, h.blk.later hb, Nat.le_trans h.lo hb.size, h.rr.later hb, h.rs.later hb, h.fine.later hb, h.zl, Nat.le_trans h.zh hb.size, h.sr, h.ss, h.ap⟩
/-- What is turned is a list of its own: the stores' lists stand. -/
theorem Fine.past {x x' : World} {z : Nat → Nat} {k : Nat} {S : Nat → Sto} {U : Nat → Nat → Value} {v : Value} (h : Fine x z k S U) (hg : x.grownBy x' v.ownBlock) (hs : ∀ q, v.ownBlock = some q → Spare k S U q) : Fine x' z k S U := fun i hi => by
  obtain ⟨⟨⟨s0, s1, s2⟩, ⟨f0, f1, f2⟩, h3⟩, h4⟩ := h i hi
  have x0 : 0 < (S i).nc → ∀ k, (U i 0).ownBlock = some k → some k ≠ v.ownBlock := fun hp k hk e => (hs k e.symm i hi).1 hp k hk rfl
  have x1 : 0 < (S i).nl → ∀ k, (U i 1).ownBlock = some k → some k ≠ v.ownBlock := fun hp k hk e => (hs k e.symm i hi).2.1 hp k hk rfl
  have x2 : 0 < (S i).nw → ∀ k, (U i 2).ownBlock = some k → some k ≠ v.ownBlock := fun hp k hk e => (hs k e.symm i hi).2.2 hp k hk rfl
  exact ⟨⟨⟨s0.turned hg x0, s1.turned hg x1, s2.turned hg x2⟩, ⟨f0.turned s0 hg x0, f1.turned s1 hg x1, f2.turned s2 hg x2⟩, h3⟩, h4⟩
/-- A block behind all of them holds none of their lists. -/
theorem Fine.spare {x : World} {z : Nat → Nat} {k : Nat} {S : Nat → Sto} {U : Nat → Nat → Value} (h : Fine x z k S U) {q : Nat} (hq : z k ≤ q) : Spare k S U q := fun i hi => by
  obtain ⟨_, h4, _⟩ := h i hi
  have := h.up k (Nat.le_refl _) (i + 1) (by omega)
  exact h4.mono (fun p hp => by omega)
theorem blk2_past {x x' : World} {b : Nat} {row : Option Nat} {a0 a1 : Value} (h : Blk2 x b a0 a1) (hg : x.grownBy x' row) (hb : row ≠ some b) : Blk2 x' b a0 a1 := h.kept (hg.block b h.lt (fun q => hb q.symm))
theorem blk3_past {x x' : World} {b : Nat} {row : Option Nat} {a0 a1 a2 : Value} (h : Blk3 x b a0 a1 a2) (hg : x.grownBy x' row) (hb : row ≠ some b) : Blk3 x' b a0 a1 a2 := h.kept (hg.block b h.lt (fun q => hb q.symm))
theorem GT.putR {w x y : World} {kr k : Nat} {F : Nat → Int} {S : Nat → Sto} {U : Nat → Nat → Value} {z : Nat → Nat} {vr vs u : Value} (h : GT w x kr k F S U z vr vs) (ho : OwnM y (w.heap.size + 2) 54 3 u (kr + 1) (nums F ((kr + 1) * 3))) (hg : x.grownBy y vr.ownBlock) (hat : u.ownBlock = vr.ownBlock ∨ u.ownBlock = some x.heap.size) :
    GT w (y.setCell ⟨w.heap.size + 1, 0, none⟩ u) (kr + 1) k F S U z u vs := by
  have nb : ∀ b, b < w.heap.size + 2 → vr.ownBlock ≠ some b := fun b hb e => by have := (h.rr.block b e).1; omega
  have hlt : (⟨w.heap.size + 1, 0, none⟩ : Addr).block < w.heap.size + 2 := Nat.lt_succ_self _
  refine ⟨(below_past h.below h.rr (by omega) hg).setCell (Nat.le_succ _) _, (blk3_past h.res hg (nb _ (by omega))).setFar (by simp) _, (blk2_past h.blk hg (nb _ (by omega))).set0 _, by have := h.lo; have := hg.size; simp [World.setCell]; omega, ho.far hlt _, (h.rs.keptB (fun q hq => hg.block q (h.rs.block q hq).2 (fun e => h.ap q e.symm hq))).far hlt _, (h.fine.past hg h.sr).far (fun i hi => by have := h.zl i (by omega); show w.heap.size + 1 < z i; omega) _, h.zl, by have := h.zh; have := hg.size; simp [World.setCell]; omega, fun q hq => ?_, h.ss, fun q hq e => ?_⟩
  · rcases hat with e | e
    · exact h.sr q (e ▸ hq)
    · rw [e] at hq
      simp at hq
      exact h.fine.spare (by have := h.zh; omega)
  · rcases hat with e' | e'
    · exact h.ap q (e' ▸ hq) e
    · rw [e'] at hq
      simp at hq
      have := (h.rs.block q e).2
      omega
theorem GT.putS {w x y : World} {kr k : Nat} {F : Nat → Int} {S : Nat → Sto} {U : Nat → Nat → Value} {z : Nat → Nat} {vr vs u u0 u1 u2 : Value} {zz zt : Nat} (h : GT w x kr k F S U z vr vs) (hk : St x zz (S k) u0 u1 u2 ∧ FreeS x (S k) u0 u1 u2 ∧ ApartD (S k) u0 u1 u2) (hok : OwnIn (S k) u0 u1 u2 (fun q => zz ≤ q ∧ q < zt)) (hz : z k ≤ zz ∧ zz ≤ zt ∧ zt ≤ x.heap.size) (hr0 : ∀ q, vr.ownBlock = some q → q < zz) (hs0 : ∀ q, vs.ownBlock = some q → q < zz)
    (ho : OwnV y (w.heap.size + 2) u (k + 1) (putU U k u0 u1 u2)) (hg : x.grownBy y vs.ownBlock) (hat : u.ownBlock = vs.ownBlock ∨ u.ownBlock = some x.heap.size) :
    GT w (y.setCell ⟨w.heap.size + 1, 1, none⟩ u) kr (k + 1) F S (putU U k u0 u1 u2) (fun i => if i = k + 1 then zt else z i) vr u := by
  have nb : ∀ b, b < w.heap.size + 2 → vs.ownBlock ≠ some b := fun b hb e => by have := (h.rs.block b e).1; omega
  have hlt : (⟨w.heap.size + 1, 1, none⟩ : Addr).block < w.heap.size + 2 := Nat.lt_succ_self _
  have f1 : Fine x (fun i => if i = k + 1 then zt else z i) (k + 1) S (putU U k u0 u1 u2) := h.fine.put rfl ⟨hk.1.mono hz.1, hk.2⟩ (hok.mono (fun q hq => ⟨Nat.le_trans hz.1 hq.1, hq.2⟩)) (by omega)
  have spOld : ∀ q, q < zz → Spare k S U q → Spare (k + 1) S (putU U k u0 u1 u2) q := fun q hq hs i hi => by
    by_cases e : i = k
    · subst e
      simp only [putU, if_true]
      exact hok.mono (fun p hp => by omega)
    · have := hs i (by omega)
      simp only [putU, if_neg e]
      exact this
  have zl' : ∀ i, i ≤ k + 1 → w.heap.size + 2 ≤ (if i = k + 1 then zt else z i) := fun i hi => by
    by_cases e : i = k + 1
    · rw [if_pos e]; have := h.zl k (Nat.le_refl _); omega
    · rw [if_neg e]; exact h.zl i (by omega)
  have bel : Below w.heap.size w y := ⟨hg.os.trans h.below.os, hg.tape.trans h.below.tape, hg.output.trans h.below.output, Nat.le_trans h.below.size hg.size, fun i hi => (hg.block i (Nat.lt_of_lt_of_le hi h.below.size) (fun e => nb i (by omega) e.symm)).trans (h.below.block i hi)⟩
  refine ⟨bel.setCell (Nat.le_succ _) _, (blk3_past h.res hg (nb _ (by omega))).setFar (by simp) _, (blk2_past h.blk hg (nb _ (by omega))).set1 _, by have := h.lo; have := hg.size; simp [World.setCell]; omega, (h.rr.keptB (fun q hq => hg.block q (h.rr.block q hq).2 (fun e => h.ap q hq e.symm))).far hlt _, ho.far hlt _, (f1.past hg (fun q hq => spOld q (hs0 q hq) (h.ss q hq))).far (fun i hi => by have := zl' i (by omega); show w.heap.size + 1 < _; omega) _, zl', ?_, fun q hq => spOld q (hr0 q hq) (h.sr q hq), fun q hq => ?_, fun q hq e => ?_⟩
  · show (if k + 1 = k + 1 then zt else z (k + 1)) ≤ _
    rw [if_pos rfl]
    have := hg.size
    simp [World.setCell]
    omega
  · rcases hat with e | e
    · exact spOld q (hs0 q (e ▸ hq)) (h.ss q (e ▸ hq))
    · rw [e] at hq
      simp at hq
      refine f1.spare ?_
      show (if k + 1 = k + 1 then zt else z (k + 1)) ≤ q
      rw [if_pos rfl]
      omega
  · rcases hat with e' | e'
    · exact h.ap q hq (e' ▸ e)
    · rw [e'] at e
      simp at e
      have := hr0 q hq
      omega
theorem GT.fineR {w x : World} {k : Nat} {F : Nat → Int} {S : Nat → Sto} {U : Nat → Nat → Value} {z : Nat → Nat} {ra : Option Addr} {rc : Nat} {sa : Option Addr} {sc : Nat} (h : GT w x k k F S U z (.slice ra k rc) (.slice sa k sc)) : FineR x (w.heap.size + 2) x.heap.size k F k S ra rc sa U z := by
  have hl : (nums F (k * 3)).length = k * 3 := nums_length _ _
  have o := (h.rr.own hl).row
  refine ⟨⟨o.1.congr (fun p hp => ?_), o.2⟩, ⟨fun hk => ?_, h.fine⟩, ⟨fun i hi => h.zl i (by omega), fun i hi => Nat.le_trans (h.fine.up k (Nat.le_refl _) (i + 1) (by omega)) h.zh, Nat.le_refl _⟩, fun hk q hq => ⟨h.sr q hq, fun _ e => ?_, (h.rr.block q hq).2⟩⟩
  · simp [nums, hp]
  · rcases h.rs.2 with ⟨q, e⟩ | ⟨g, cap, cur, q, hb, hc, _⟩
    · omega
    · simp only [Value.slice.injEq] at q
      obtain ⟨rfl, _, rfl⟩ := q
      exact ⟨g, rfl, hb, OwnV.fill h.rs, h.ss g rfl⟩
  · subst e
    exact h.ap q hq rfl
end

section
open Go.RowKit Go.Maps
theorem RSt.later {x x' : World} {B b : Nat} {fr to ep : Int} {N : Nat} {m : Int → Int → Option Int} {nl : Nat} {l : Nat → Int} {nw : Nat} {k : Nat → Int} {g : Nat} {u1 u2 : Value} (h : RSt x B b fr to ep N m nl l nw k g u1 u2) (hb : Below x.heap.size x x') : RSt x' B b fr to ep N m nl l nw k g u1 u2 := by
  have hl := h.2.1.2.2.1.lt
  exact ⟨⟨(hb.cell (p := ⟨b, 0, none⟩) hl).trans h.1.1, (hb.cell (p := ⟨b, 1, none⟩) hl).trans h.1.2.1, (hb.cell (p := ⟨b, 2, none⟩) hl).trans h.1.2.2⟩, h.2.1.later hb, h.2.2⟩
/-- The stores that are worked on: number i lies in block P i. -/
def ToldG (w : World) (B n : Nat) (F : Nat → Int) (S : Nat → Sto) (P : Nat → Nat) : Prop := ∀ i, i < n → ∃ N m g u1 u2, (N ≤ 400 ∧ (S i).nl ≤ 200 ∧ (S i).nw ≤ 200) ∧ MapRow m (S i).nc (S i).c ∧ RSt w B (P i) (F (i * 3)) (F (i * 3 + 1)) (F (i * 3 + 2)) N m (S i).nl (S i).l (S i).nw (S i).k g u1 u2
def PtrRow (w : World) (n : Nat) (pa : Option Addr) (P : Nat → Nat) : Prop := 0 < n → ∃ gp op, pa = some ⟨gp, op, none⟩ ∧ gp < w.heap.size ∧ ∀ i, i < n → w.cell? ⟨gp, op + i, none⟩ = some (.pointer (some ⟨P i, 0, none⟩))
theorem nums_three (F : Nat → Int) (k : Nat) : nums F ((k + 1) * 3) = nums F (k * 3) ++ [F (k * 3), F (k * 3 + 1), F (k * 3 + 2)] := by
  unfold nums
  rw [show (k + 1) * 3 = k * 3 + 1 + 1 + 1 by omega, List.range_succ, List.range_succ, List.range_succ]
  simp
theorem within_set (x : World) (b j : Nat) (u : Value) : Within b (b + 1) x (x.setCell ⟨b, j, none⟩ u) := ⟨rfl, rfl, rfl, by simp [World.setCell], fun q _ ho => Below.heap_setCell x ⟨b, j, none⟩ u q (by show q ≠ b; omega)⟩
theorem FineR.mono {w : World} {lo lo' tp nr : Nat} {F : Nat → Int} {n : Nat} {S : Nat → Sto} {ra : Option Addr} {rc : Nat} {sa : Option Addr} {U : Nat → Nat → Value} {z : Nat → Nat} (h : FineR w lo tp nr F n S ra rc sa U z) (hl : lo' ≤ lo) : FineR w lo' tp nr F n S ra rc sa U z :=
  ⟨⟨h.1.1.mono hl, h.1.2⟩, ⟨fun hn => by obtain ⟨g, x1, x2, x3⟩ := h.2.1.1 hn; exact ⟨g, x1, by omega, x3⟩, h.2.1.2⟩, ⟨fun i hi => Nat.le_trans hl (h.2.2.1.1 i hi), h.2.2.1.2⟩, h.2.2.2⟩
theorem FineR.up {w : World} {lo lo' tp nr : Nat} {F : Nat → Int} {n : Nat} {S : Nat → Sto} {ra : Option Addr} {rc : Nat} {sa : Option Addr} {U : Nat → Nat → Value} {z : Nat → Nat} (h : FineR w lo tp nr F n S ra rc sa U z) (hl : lo' ≤ lo) : FineR w lo' w.heap.size nr F n S ra rc sa U z := by
  have h' := h.mono hl
  refine ⟨h'.1, h'.2.1, ⟨h'.2.2.1.1, fun i hi => Nat.le_trans (h'.2.2.1.2.1 i hi) h'.2.2.1.2.2, Nat.le_refl _⟩, fun hn q e => ?_⟩
  obtain ⟨x1, x2, x3⟩ := h'.2.2.2 hn q e
  exact ⟨x1, x2, Nat.lt_of_lt_of_le x3 h'.2.2.1.2.2⟩
def RgS (pk : Nat) (fr to ep : Int) (x : World) : Prop := x.cell? ⟨pk, 0, none⟩ = some (.int .i64 fr) ∧ x.cell? ⟨pk, 1, none⟩ = some (.int .i64 to) ∧ x.cell? ⟨pk, 2, none⟩ = some (.int .i64 ep)
theorem RgS.below {w x : World} {pk : Nat} {fr to ep : Int} (h : RgS pk fr to ep w) (hb : Below w.heap.size w x) : RgS pk fr to ep x :=
  ⟨(hb.cell (p := ⟨pk, 0, none⟩) (World.block_lt_of_cell? w _ h.1)).trans h.1, (hb.cell (p := ⟨pk, 1, none⟩) (World.block_lt_of_cell? w _ h.2.1)).trans h.2.1, (hb.cell (p := ⟨pk, 2, none⟩) (World.block_lt_of_cell? w _ h.2.2)).trans h.2.2⟩
set_option maxRecDepth 100000 in
set_option maxHeartbeats 16000000 in
theorem groupsTold_is (n : Nat) (pa : Option Addr) (pc : Nat) (F : Nat → Int) (S : Nat → Sto) (P : Nat → Nat) (B : Nat) (w : World) (hp : PtrRow w n pa P) (ht : ToldG w B n F S P) (hn : n ≤ 12) :
    Calls Try.prog 22 #[.slice pa n pc] w (ResGr w 0 n F n S) := by
  have HP : Hid (PtrRow w n pa P) := hp
  have HT : Hid (ToldG w B n F S P) := ht
  clear hp ht
  go_enter Try.func22, Try.ntmps22
  go_wp2
  go_loopw [8] (fun i wr => ∃ (k : Nat) (U : Nat → Nat → Value) (z : Nat → Nat) (ra : Option Addr) (rc : Nat) (sa : Option Addr) (sc : Nat), k ≤ n ∧ i = .int .i64 k ∧ Hid (GT w wr k k F S U z (.slice ra k rc) (.slice sa k sc))) (fun i _ => n - (intOf i).toNat)
  case atStart =>
    refine ⟨0, fun _ _ => .bool true, fun _ => w.heap.size + 2, none, 0, none, 0, Nat.zero_le _, rfl, ⟨(below_alloc _ _).alloc (by simp) _, (Blk3.new w _ _ _ _).alloc _, ?_, by simp, OwnM.nil _ _ _ _, ⟨rfl, Or.inl ⟨rfl, rfl⟩⟩, fun i hi => absurd hi (Nat.not_lt_zero i), fun _ _ => Nat.le_refl _, by simp, (fun q e => by cases e), (fun q e => by cases e), (fun q e => by cases e)⟩⟩
    have := Blk2.new (w.alloc (.cells #[.int .i64 0, .slice none 0 0, .slice none 0 0] 42)) (.slice none 0 0) (.slice none 0 0) 27
    rwa [World.size_alloc] at this
  case round =>
    obtain ⟨k, U, z, ra, rc, sa, sc, hk, rfl, TT⟩ := hrel
    by_cases hlt : k < n
    · obtain ⟨gp, op, rfl, hgp, hpc⟩ := HP.out (by omega)
      have pk := (TT.out.below.cell (p := ⟨gp, op + k, none⟩) hgp).trans (hpc k hlt)
      obtain ⟨N, m, gm, u1, u2, hN, hM, hR⟩ := HT.out k hlt
      obtain ⟨fr, hfr⟩ : ∃ x, F (k * 3) = x := ⟨_, rfl⟩
      obtain ⟨to, hto⟩ : ∃ x, F (k * 3 + 1) = x := ⟨_, rfl⟩
      obtain ⟨ep, hep⟩ : ∃ x, F (k * 3 + 2) = x := ⟨_, rfl⟩
      rw [hfr, hto, hep] at hR
      have HF : Hid (F (k * 3) = fr ∧ F (k * 3 + 1) = to ∧ F (k * 3 + 2) = ep) := ⟨hfr, hto, hep⟩
      have RG : Hid (RgS (P k) fr to ep w) := hR.1
      have RS : Hid ((N ≤ 400 ∧ (S k).nl ≤ 200 ∧ (S k).nw ≤ 200) ∧ MapRow m (S k).nc (S k).c ∧ RSt w B (P k) fr to ep N m (S k).nl (S k).l (S k).nw (S k).k gm u1 u2) := ⟨hN, hM, hR⟩
      obtain ⟨i0, hi, hz0, hz1, hz2⟩ := info_parts info_Range
      obtain ⟨j0, gi, gz0, gz1, gz2⟩ := info_parts info_Store
      have F0 : wr.drew.cell? ⟨w.heap.size + 1, 0, none⟩ = some (.slice ra k rc) := TT.out.blk.1.1
      have F0d : wr.cell? ⟨w.heap.size + 1, 0, none⟩ = some (.slice ra k rc) := TT.out.blk.1.1
      have F1 : (wr.alloc (.cells #[.int .i64 fr, .int .i64 to, .int .i64 ep] 54)).drew.cell? ⟨w.heap.size + 1, 0, none⟩ = some (.slice ra k rc) := (TT.out.later (below_alloc _ _)).blk.1.1
      have F1d : (wr.alloc (.cells #[.int .i64 fr, .int .i64 to, .int .i64 ep] 54)).cell? ⟨w.heap.size + 1, 0, none⟩ = some (.slice ra k rc) := (TT.out.later (below_alloc _ _)).blk.1.1
      have TA : Hid (GT w (wr.alloc (.cells #[.int .i64 fr, .int .i64 to, .int .i64 ep] 54)).drew k k F S U z (.slice ra k rc) (.slice sa k sc)) := TT.out.later (below_alloc _ _).drew
      clear hN hM hR hfr hto hep hpc
      go_upto_region 5 with fail
      clear pk
      refine wp_region_held_drew (S := RgS (P k) fr to ep) (by kernel_rfl) (RG.out.below TT.out.below.drew) (fun hS => ?_)
      refine tkH 0 ?_ hS (fun wx hx => ?_) ?_; rotate_left
      · obtain ⟨hx0, hx1, hx2⟩ := hx; go_simp; try with_reducible rfl
      refine tkH 2 ?_ hS (fun wx hx => ?_) ?_; rotate_left
      · obtain ⟨hx0, hx1, hx2⟩ := hx; go_simp; try with_reducible rfl
      refine tkH 3 ?_ hS (fun wx hx => ?_) ?_; rotate_left
      · obtain ⟨hx0, hx1, hx2⟩ := hx; go_simp; try with_reducible rfl
      refine tkH 4 ?_ hS (fun wx hx => ?_) ?_; rotate_left
      · obtain ⟨hx0, hx1, hx2⟩ := hx; go_simp; try with_reducible rfl
      refine tkH 5 ?_ hS (fun wx hx => ?_) ?_; rotate_left
      · obtain ⟨hx0, hx1, hx2⟩ := hx; go_simp; try with_reducible rfl
      refine wpAnyH_ready (rs := [1, 6]) (by kernel_rfl) (by simp) ?_
      refine AllReadyH.cons rfl (fun K hK => ?_) (AllReadyH.cons rfl (fun K hK => ?_) AllReadyH.nil)
      focus
        go_simp
        refine hK.out _ _ hS (fun hS => ?_)
        clear hK K
        refine rdH 6 (fun K hK => ?_)
        go_simp
        refine hK.out _ _ (RG.out.below TA.out.below) (fun hS => ?_)
        clear hK K
        refine rdH 7 (fun K hK => ?_)
        refine step_append_lies _ (by rfl) _ _ 24 (by rfl) (w.heap.size + 2) 54 i0 (.agg #[.int .i64 0, .int .i64 0, .int .i64 0]) 3 24 Try.underlying24 hi hz0 hz1 hz2 rfl (by omega) (.slice ra k rc) k _ (by rfl) TA.out.rr ⟨wr.heap.size, 0, none⟩ 1 1 [.int .i64 fr, .int .i64 to, .int .i64 ep] (by rfl) (by rfl) (World.news_of_block (cs := #[.int .i64 fr, .int .i64 to, .int .i64 ep]) (t := 54) (fr := (0, 0)) (heap_alloc_new wr _)) (by simp [Value.oneCell']) (by omega) (by unfold maxLen; omega) (by omega) TA.out.lo (wr.heap.size + 1) (by simp) ?_
        intro gg cap y OY GY AY LY
        have OR : OwnM y (w.heap.size + 2) 54 3 (.slice (some ⟨gg, 0, none⟩) (k + 1) cap) (k + 1) (nums F ((k + 1) * 3)) := by
          unfold OwnM
          rw [nums_three, HF.out.1, HF.out.2.1, HF.out.2.2, List.map_append]
          exact OY
        have T1 := TA.out.putR OR GY (by rcases AY with e | e; exact Or.inl e.symm; exact Or.inr (by rw [e]; simp [Value.ownBlock]))
        have hS' := RG.out.below (below_past TA.out.below TA.out.rr (by omega) GY)
        refine hK.out _ _ hS' (fun hS => ?_)
        clear hK K hS'
        refine tkH 8 ?_ hS (fun wx hx => ?_) ?_; rotate_left
        · obtain ⟨hx0, hx1, hx2⟩ := hx; go_simp; try with_reducible rfl
        obtain ⟨⟨t0, t1⟩, ft0, ft1⟩ := blk2_past TA.out.blk GY (fun e => by have := (TA.out.rr.block _ e).1; omega)
        have T1' : Hid (GT w (y.setCell ⟨w.heap.size + 1, 0, none⟩ (.slice (some ⟨gg, 0, none⟩) (k + 1) cap)) (k + 1) k F S U z (.slice (some ⟨gg, 0, none⟩) (k + 1) cap) (.slice sa k sc)) := T1
        clear T1
        refine rdH 9 (fun K hK => ?_)
        go_simp
        refine hK.out _ _ (RG.out.below T1'.out.below) (fun hS => ?_)
        clear hK K
        refine wpAnyH_done (by kernel_rfl) ?_ _
        clear hS
        go_simp
        generalize y.setCell ⟨w.heap.size + 1, 0, none⟩ (.slice (some ⟨gg, 0, none⟩) (k + 1) cap) = x1 at T1' ⊢
        clear t0 t1 ft0 ft1 OY GY AY LY OR TA TT F0 F1 F1d F0d
        go_wp2_with fail
        have G0 : x1.drew.cell? ⟨w.heap.size + 1, 1, none⟩ = some (.slice sa k sc) := T1'.out.blk.1.2
        refine wp_region_held_drew (S := fun _ => True) (by kernel_rfl) trivial (fun hS => ?_)
        refine tkH 0 ?_ hS (fun wx hx => ?_) ?_; rotate_left
        · go_simp; try with_reducible rfl
        refine tkH 2 ?_ hS (fun wx hx => ?_) ?_; rotate_left
        · go_simp; try with_reducible rfl
        refine tkH 3 ?_ hS (fun wx hx => ?_) ?_; rotate_left
        · go_simp; try with_reducible rfl
        refine tkH 4 ?_ hS (fun wx hx => ?_) ?_; rotate_left
        · go_simp; try with_reducible rfl
        refine wpAnyH_ready (rs := [1, 5]) (by kernel_rfl) (by simp) ?_
        refine AllReadyH.cons rfl (fun K hK => ?_) (AllReadyH.cons rfl (fun K hK => ?_) AllReadyH.nil)
        focus
          go_simp
          refine hK.out _ _ trivial (fun hS => ?_)
          clear hK K
          refine rdH 5 (fun K hK => ?_)
          go_simp
          go_wp2_with fail
          refine (store_isO _ (P k) 3 _ _ _ _ _ _ gm u1 u2 _ (((RS.out.2.2.later T1'.out.below).2.1).later (below_dr (Below.refl _ _) 1)) RS.out.1.2.1 RS.out.1.2.2 RS.out.1.1 (S k).nc (S k).c RS.out.2.1).mono ?_
          rintro e x2 ⟨d0, e0, d1, e1, d2, e2, rfl, ⟨s3, f3, a3⟩, q2⟩
          have q2' : Below x1.heap.size x1 x2 := ⟨q2.os, q2.tape, q2.output, q2.size, q2.block⟩
          have ZX : Hid (x1.heap.size ≤ x2.heap.size) := q2'.size
          have TB : Hid (GT w x2 (k + 1) k F S U z (.slice (some ⟨gg, 0, none⟩) (k + 1) cap) (.slice sa k sc)) := T1'.out.later q2'
          have SC : Hid ((St (x2.alloc (.cells #[.slice d0 (S k).nc e0, .slice d1 (S k).nl e1, .slice d2 (S k).nw e2] 48)) x1.heap.size (S k) (.slice d0 (S k).nc e0) (.slice d1 (S k).nl e1) (.slice d2 (S k).nw e2) ∧ FreeS (x2.alloc (.cells #[.slice d0 (S k).nc e0, .slice d1 (S k).nl e1, .slice d2 (S k).nw e2] 48)) (S k) (.slice d0 (S k).nc e0) (.slice d1 (S k).nl e1) (.slice d2 (S k).nw e2) ∧ ApartD (S k) (.slice d0 (S k).nc e0) (.slice d1 (S k).nl e1) (.slice d2 (S k).nw e2)) ∧ OwnIn (S k) (.slice d0 (S k).nc e0) (.slice d1 (S k).nl e1) (.slice d2 (S k).nw e2) (fun q => x1.heap.size ≤ q ∧ q < x2.heap.size)) := ⟨⟨s3.alloc _, f3.later s3 (below_alloc _ _), a3⟩, s3.ownIn⟩
          have TC : Hid (GT w (x2.alloc (.cells #[.slice d0 (S k).nc e0, .slice d1 (S k).nl e1, .slice d2 (S k).nw e2] 48)) (k + 1) k F S U z (.slice (some ⟨gg, 0, none⟩) (k + 1) cap) (.slice sa k sc)) := TB.out.later (below_alloc _ _)
          have G2 : x2.cell? ⟨w.heap.size + 1, 1, none⟩ = some (.slice sa k sc) := TB.out.blk.1.2
          have G3 : (x2.alloc (.cells #[.slice d0 (S k).nc e0, .slice d1 (S k).nl e1, .slice d2 (S k).nw e2] 48)).cell? ⟨w.heap.size + 1, 1, none⟩ = some (.slice sa k sc) := TC.out.blk.1.2
          have G3d : True := trivial
          clear s3 f3 a3 q2 q2' TB
          go_wp2_with fail
          refine hK.out _ _ trivial (fun hS => ?_)
          clear hK K
          refine rdH 6 (fun K hK => ?_)
        rotate_left
        focus
          go_simp
          go_wp2_with fail
          refine (store_isO _ (P k) 3 _ _ _ _ _ _ gm u1 u2 _ (((RS.out.2.2.later T1'.out.below).2.1).later (below_dr (Below.refl _ _) 1)) RS.out.1.2.1 RS.out.1.2.2 RS.out.1.1 (S k).nc (S k).c RS.out.2.1).mono ?_
          rintro e x2 ⟨d0, e0, d1, e1, d2, e2, rfl, ⟨s3, f3, a3⟩, q2⟩
          have q2' : Below x1.heap.size x1 x2 := ⟨q2.os, q2.tape, q2.output, q2.size, q2.block⟩
          have ZX : Hid (x1.heap.size ≤ x2.heap.size) := q2'.size
          have TB : Hid (GT w x2 (k + 1) k F S U z (.slice (some ⟨gg, 0, none⟩) (k + 1) cap) (.slice sa k sc)) := T1'.out.later q2'
          have SC : Hid ((St (x2.alloc (.cells #[.slice d0 (S k).nc e0, .slice d1 (S k).nl e1, .slice d2 (S k).nw e2] 48)) x1.heap.size (S k) (.slice d0 (S k).nc e0) (.slice d1 (S k).nl e1) (.slice d2 (S k).nw e2) ∧ FreeS (x2.alloc (.cells #[.slice d0 (S k).nc e0, .slice d1 (S k).nl e1, .slice d2 (S k).nw e2] 48)) (S k) (.slice d0 (S k).nc e0) (.slice d1 (S k).nl e1) (.slice d2 (S k).nw e2) ∧ ApartD (S k) (.slice d0 (S k).nc e0) (.slice d1 (S k).nl e1) (.slice d2 (S k).nw e2)) ∧ OwnIn (S k) (.slice d0 (S k).nc e0) (.slice d1 (S k).nl e1) (.slice d2 (S k).nw e2) (fun q => x1.heap.size ≤ q ∧ q < x2.heap.size)) := ⟨⟨s3.alloc _, f3.later s3 (below_alloc _ _), a3⟩, s3.ownIn⟩
          have TC : Hid (GT w (x2.alloc (.cells #[.slice d0 (S k).nc e0, .slice d1 (S k).nl e1, .slice d2 (S k).nw e2] 48)) (k + 1) k F S U z (.slice (some ⟨gg, 0, none⟩) (k + 1) cap) (.slice sa k sc)) := TB.out.later (below_alloc _ _)
          have G2 : x2.cell? ⟨w.heap.size + 1, 1, none⟩ = some (.slice sa k sc) := TB.out.blk.1.2
          have G3 : (x2.alloc (.cells #[.slice d0 (S k).nc e0, .slice d1 (S k).nl e1, .slice d2 (S k).nw e2] 48)).cell? ⟨w.heap.size + 1, 1, none⟩ = some (.slice sa k sc) := TC.out.blk.1.2
          have G3d : True := trivial
          clear s3 f3 a3 q2 q2' TB
          go_wp2_with fail
          refine hK.out _ _ trivial (fun hS => ?_)
          clear hK K
          refine wpAnyH_ready (rs := [1, 6]) (by kernel_rfl) (by simp) ?_
          refine AllReadyH.cons rfl (fun K hK => ?_) (AllReadyH.cons rfl (fun K hK => ?_) AllReadyH.nil)
          focus
            go_simp
            refine hK.out _ _ trivial (fun hS => ?_)
            clear hK K
            refine rdH 6 (fun K hK => ?_)
          rotate_left
          focus
            go_simp
            refine hK.out _ _ trivial (fun hS => ?_)
            clear hK K
            refine rdH 1 (fun K hK => ?_)
          rotate_left
        rotate_left 2
      rotate_left 3
      focus
        go_simp
        refine hK.out _ _ (RG.out.below TA.out.below) (fun hS => ?_)
        clear hK K
        refine rdH 1 (fun K hK => ?_)
        go_simp
        refine hK.out _ _ hS (fun hS => ?_)
        clear hK K
        refine rdH 7 (fun K hK => ?_)
        refine step_append_lies _ (by rfl) _ _ 24 (by rfl) (w.heap.size + 2) 54 i0 (.agg #[.int .i64 0, .int .i64 0, .int .i64 0]) 3 24 Try.underlying24 hi hz0 hz1 hz2 rfl (by omega) (.slice ra k rc) k _ (by rfl) TA.out.rr ⟨wr.heap.size, 0, none⟩ 1 1 [.int .i64 fr, .int .i64 to, .int .i64 ep] (by rfl) (by rfl) (World.news_of_block (cs := #[.int .i64 fr, .int .i64 to, .int .i64 ep]) (t := 54) (fr := (0, 0)) (heap_alloc_new wr _)) (by simp [Value.oneCell']) (by omega) (by unfold maxLen; omega) (by omega) TA.out.lo (wr.heap.size + 1) (by simp) ?_
        intro gg cap y OY GY AY LY
        have OR : OwnM y (w.heap.size + 2) 54 3 (.slice (some ⟨gg, 0, none⟩) (k + 1) cap) (k + 1) (nums F ((k + 1) * 3)) := by
          unfold OwnM
          rw [nums_three, HF.out.1, HF.out.2.1, HF.out.2.2, List.map_append]
          exact OY
        have T1 := TA.out.putR OR GY (by rcases AY with e | e; exact Or.inl e.symm; exact Or.inr (by rw [e]; simp [Value.ownBlock]))
        have hS' := RG.out.below (below_past TA.out.below TA.out.rr (by omega) GY)
        refine hK.out _ _ hS' (fun hS => ?_)
        clear hK K hS'
        refine tkH 8 ?_ hS (fun wx hx => ?_) ?_; rotate_left
        · obtain ⟨hx0, hx1, hx2⟩ := hx; go_simp; try with_reducible rfl
        obtain ⟨⟨t0, t1⟩, ft0, ft1⟩ := blk2_past TA.out.blk GY (fun e => by have := (TA.out.rr.block _ e).1; omega)
        have T1' : Hid (GT w (y.setCell ⟨w.heap.size + 1, 0, none⟩ (.slice (some ⟨gg, 0, none⟩) (k + 1) cap)) (k + 1) k F S U z (.slice (some ⟨gg, 0, none⟩) (k + 1) cap) (.slice sa k sc)) := T1
        clear T1
        refine rdH 9 (fun K hK => ?_)
        go_simp
        refine hK.out _ _ (RG.out.below T1'.out.below) (fun hS => ?_)
        clear hK K
        refine wpAnyH_done (by kernel_rfl) ?_ _
        clear hS
        go_simp
        generalize y.setCell ⟨w.heap.size + 1, 0, none⟩ (.slice (some ⟨gg, 0, none⟩) (k + 1) cap) = x1 at T1' ⊢
        clear t0 t1 ft0 ft1 OY GY AY LY OR TA TT F0 F1 F1d F0d
        go_wp2_with fail
        have G0 : x1.drew.cell? ⟨w.heap.size + 1, 1, none⟩ = some (.slice sa k sc) := T1'.out.blk.1.2
        refine wp_region_held_drew (S := fun _ => True) (by kernel_rfl) trivial (fun hS => ?_)
        refine tkH 0 ?_ hS (fun wx hx => ?_) ?_; rotate_left
        · go_simp; try with_reducible rfl
        refine tkH 2 ?_ hS (fun wx hx => ?_) ?_; rotate_left
        · go_simp; try with_reducible rfl
        refine tkH 3 ?_ hS (fun wx hx => ?_) ?_; rotate_left
        · go_simp; try with_reducible rfl
        refine tkH 4 ?_ hS (fun wx hx => ?_) ?_; rotate_left
        · go_simp; try with_reducible rfl
        refine wpAnyH_ready (rs := [1, 5]) (by kernel_rfl) (by simp) ?_
        refine AllReadyH.cons rfl (fun K hK => ?_) (AllReadyH.cons rfl (fun K hK => ?_) AllReadyH.nil)
        focus
          go_simp
          refine hK.out _ _ trivial (fun hS => ?_)
          clear hK K
          refine rdH 5 (fun K hK => ?_)
          go_simp
          go_wp2_with fail
          refine (store_isO _ (P k) 3 _ _ _ _ _ _ gm u1 u2 _ (((RS.out.2.2.later T1'.out.below).2.1).later (below_dr (Below.refl _ _) 1)) RS.out.1.2.1 RS.out.1.2.2 RS.out.1.1 (S k).nc (S k).c RS.out.2.1).mono ?_
          rintro e x2 ⟨d0, e0, d1, e1, d2, e2, rfl, ⟨s3, f3, a3⟩, q2⟩
          have q2' : Below x1.heap.size x1 x2 := ⟨q2.os, q2.tape, q2.output, q2.size, q2.block⟩
          have ZX : Hid (x1.heap.size ≤ x2.heap.size) := q2'.size
          have TB : Hid (GT w x2 (k + 1) k F S U z (.slice (some ⟨gg, 0, none⟩) (k + 1) cap) (.slice sa k sc)) := T1'.out.later q2'
          have SC : Hid ((St (x2.alloc (.cells #[.slice d0 (S k).nc e0, .slice d1 (S k).nl e1, .slice d2 (S k).nw e2] 48)) x1.heap.size (S k) (.slice d0 (S k).nc e0) (.slice d1 (S k).nl e1) (.slice d2 (S k).nw e2) ∧ FreeS (x2.alloc (.cells #[.slice d0 (S k).nc e0, .slice d1 (S k).nl e1, .slice d2 (S k).nw e2] 48)) (S k) (.slice d0 (S k).nc e0) (.slice d1 (S k).nl e1) (.slice d2 (S k).nw e2) ∧ ApartD (S k) (.slice d0 (S k).nc e0) (.slice d1 (S k).nl e1) (.slice d2 (S k).nw e2)) ∧ OwnIn (S k) (.slice d0 (S k).nc e0) (.slice d1 (S k).nl e1) (.slice d2 (S k).nw e2) (fun q => x1.heap.size ≤ q ∧ q < x2.heap.size)) := ⟨⟨s3.alloc _, f3.later s3 (below_alloc _ _), a3⟩, s3.ownIn⟩
          have TC : Hid (GT w (x2.alloc (.cells #[.slice d0 (S k).nc e0, .slice d1 (S k).nl e1, .slice d2 (S k).nw e2] 48)) (k + 1) k F S U z (.slice (some ⟨gg, 0, none⟩) (k + 1) cap) (.slice sa k sc)) := TB.out.later (below_alloc _ _)
          have G2 : x2.cell? ⟨w.heap.size + 1, 1, none⟩ = some (.slice sa k sc) := TB.out.blk.1.2
          have G3 : (x2.alloc (.cells #[.slice d0 (S k).nc e0, .slice d1 (S k).nl e1, .slice d2 (S k).nw e2] 48)).cell? ⟨w.heap.size + 1, 1, none⟩ = some (.slice sa k sc) := TC.out.blk.1.2
          have G3d : True := trivial
          clear s3 f3 a3 q2 q2' TB
          go_wp2_with fail
          refine hK.out _ _ trivial (fun hS => ?_)
          clear hK K
          refine rdH 6 (fun K hK => ?_)
        rotate_left
        focus
          go_simp
          go_wp2_with fail
          refine (store_isO _ (P k) 3 _ _ _ _ _ _ gm u1 u2 _ (((RS.out.2.2.later T1'.out.below).2.1).later (below_dr (Below.refl _ _) 1)) RS.out.1.2.1 RS.out.1.2.2 RS.out.1.1 (S k).nc (S k).c RS.out.2.1).mono ?_
          rintro e x2 ⟨d0, e0, d1, e1, d2, e2, rfl, ⟨s3, f3, a3⟩, q2⟩
          have q2' : Below x1.heap.size x1 x2 := ⟨q2.os, q2.tape, q2.output, q2.size, q2.block⟩
          have ZX : Hid (x1.heap.size ≤ x2.heap.size) := q2'.size
          have TB : Hid (GT w x2 (k + 1) k F S U z (.slice (some ⟨gg, 0, none⟩) (k + 1) cap) (.slice sa k sc)) := T1'.out.later q2'
          have SC : Hid ((St (x2.alloc (.cells #[.slice d0 (S k).nc e0, .slice d1 (S k).nl e1, .slice d2 (S k).nw e2] 48)) x1.heap.size (S k) (.slice d0 (S k).nc e0) (.slice d1 (S k).nl e1) (.slice d2 (S k).nw e2) ∧ FreeS (x2.alloc (.cells #[.slice d0 (S k).nc e0, .slice d1 (S k).nl e1, .slice d2 (S k).nw e2] 48)) (S k) (.slice d0 (S k).nc e0) (.slice d1 (S k).nl e1) (.slice d2 (S k).nw e2) ∧ ApartD (S k) (.slice d0 (S k).nc e0) (.slice d1 (S k).nl e1) (.slice d2 (S k).nw e2)) ∧ OwnIn (S k) (.slice d0 (S k).nc e0) (.slice d1 (S k).nl e1) (.slice d2 (S k).nw e2) (fun q => x1.heap.size ≤ q ∧ q < x2.heap.size)) := ⟨⟨s3.alloc _, f3.later s3 (below_alloc _ _), a3⟩, s3.ownIn⟩
          have TC : Hid (GT w (x2.alloc (.cells #[.slice d0 (S k).nc e0, .slice d1 (S k).nl e1, .slice d2 (S k).nw e2] 48)) (k + 1) k F S U z (.slice (some ⟨gg, 0, none⟩) (k + 1) cap) (.slice sa k sc)) := TB.out.later (below_alloc _ _)
          have G2 : x2.cell? ⟨w.heap.size + 1, 1, none⟩ = some (.slice sa k sc) := TB.out.blk.1.2
          have G3 : (x2.alloc (.cells #[.slice d0 (S k).nc e0, .slice d1 (S k).nl e1, .slice d2 (S k).nw e2] 48)).cell? ⟨w.heap.size + 1, 1, none⟩ = some (.slice sa k sc) := TC.out.blk.1.2
          have G3d : True := trivial
          clear s3 f3 a3 q2 q2' TB
          go_wp2_with fail
          refine hK.out _ _ trivial (fun hS => ?_)
          clear hK K
          refine wpAnyH_ready (rs := [1, 6]) (by kernel_rfl) (by simp) ?_
          refine AllReadyH.cons rfl (fun K hK => ?_) (AllReadyH.cons rfl (fun K hK => ?_) AllReadyH.nil)
          focus
            go_simp
            refine hK.out _ _ trivial (fun hS => ?_)
            clear hK K
            refine rdH 6 (fun K hK => ?_)
          rotate_left
          focus
            go_simp
            refine hK.out _ _ trivial (fun hS => ?_)
            clear hK K
            refine rdH 1 (fun K hK => ?_)
          rotate_left
        rotate_left 2
      rotate_left 3
      all_goals
        go_simp
        refine hK.out _ _ trivial (fun hS => ?_)
        clear hK K
        refine rdH 7 (fun K hK => ?_)
        refine step_append_lies _ (by rfl) _ _ 25 (by rfl) (w.heap.size + 2) 48 j0 (.agg #[.slice none 0 0, .slice none 0 0, .slice none 0 0]) 3 72 Try.underlying25 gi gz0 gz1 gz2 rfl (by omega) (.slice sa k sc) k _ (by rfl) TC.out.rs ⟨x2.heap.size, 0, none⟩ 1 1 [.slice d0 (S k).nc e0, .slice d1 (S k).nl e1, .slice d2 (S k).nw e2] (by rfl) (by rfl) (World.news_of_block (cs := #[.slice d0 (S k).nc e0, .slice d1 (S k).nl e1, .slice d2 (S k).nw e2]) (t := 48) (fr := (0, 0)) (heap_alloc_new x2 _)) (by simp [Value.oneCell']) (by omega) (by unfold maxLen; omega) (by omega) TC.out.lo (x2.heap.size + 1) (by simp) ?_
        intro hh cap' y OY GY AY LY
        have OS : OwnV y (w.heap.size + 2) (.slice (some ⟨hh, 0, none⟩) (k + 1) cap') (k + 1) (putU U k (.slice d0 (S k).nc e0) (.slice d1 (S k).nl e1) (.slice d2 (S k).nw e2)) := by
          unfold OwnV
          rw [listU_new]
          exact OY
        have T2 : Hid (GT w (y.setCell ⟨w.heap.size + 1, 1, none⟩ (.slice (some ⟨hh, 0, none⟩) (k + 1) cap')) (k + 1) (k + 1) F S (putU U k (.slice d0 (S k).nc e0) (.slice d1 (S k).nl e1) (.slice d2 (S k).nw e2)) (fun i => if i = k + 1 then x2.heap.size else z i) (.slice (some ⟨gg, 0, none⟩) (k + 1) cap) (.slice (some ⟨hh, 0, none⟩) (k + 1) cap')) := TC.out.putS (zz := x1.heap.size) (zt := x2.heap.size) SC.out.1 SC.out.2 ⟨T1'.out.zh, ZX.out, by simp⟩ (fun q e => (T1'.out.rr.block q e).2) (fun q e => (T1'.out.rs.block q e).2) OS GY (by rcases AY with e | e; exact Or.inl e.symm; exact Or.inr (by rw [e]; simp [Value.ownBlock]))
        refine hK.out _ _ trivial (fun hS => ?_)
        clear hK K
        refine tkH 8 ?_ hS (fun wx hx => ?_) ?_; rotate_left
        · go_simp; try with_reducible rfl
        obtain ⟨⟨t0, t1⟩, ft0, ft1⟩ := blk2_past TC.out.blk GY (fun e => by have := (TC.out.rs.block _ e).1; omega)
        refine rdH 9 (fun K hK => ?_)
        go_simp
        refine hK.out _ _ trivial (fun hS => ?_)
        clear hK K
        refine wpAnyH_done (by kernel_rfl) ?_ _
        clear hS
        go_simp
        generalize y.setCell ⟨w.heap.size + 1, 1, none⟩ (.slice (some ⟨hh, 0, none⟩) (k + 1) cap') = x4 at T2 ⊢
        clear t0 t1 ft0 ft1 OY GY AY LY OS TC SC ZX T1' G0 G2 G3 G3d
        go_wp2
        go_roundw
        case rel => exact ⟨k + 1, putU U k (.slice d0 (S k).nc e0) (.slice d1 (S k).nl e1) (.slice d2 (S k).nw e2), fun i => if i = k + 1 then x2.heap.size else z i, some ⟨gg, 0, none⟩, cap, some ⟨hh, 0, none⟩, cap', by omega, by go_num, T2⟩
        case measure => simp [intOf]; omega
    · obtain rfl : k = n := by omega
      obtain ⟨⟨t0, t1⟩, _⟩ := TT.out.blk
      obtain ⟨⟨r0, r1, r2⟩, f0, f1, f2⟩ := TT.out.res
      go_wp2
      refine bodyPost_ret (v := .agg #[.int .i64 0, .slice ra k rc, .slice sa k sc]) (by simp [results, Try.results22, go_sem, r0, r1, r2]) rfl ⟨ra, rc, sa, sc, U, z, rfl, ?_, ((TT.out.below.setCell (Nat.le_refl _) _).setCell (Nat.le_refl _) _).setCell (Nat.le_refl _) _⟩
      have h1 := TT.out.fineR
      have h2 := ((h1.within (within_set _ w.heap.size 0 (.int .i64 0)) (by omega)).within (within_set _ w.heap.size 1 (.slice ra k rc)) (by omega)).within (within_set _ w.heap.size 2 (.slice sa k sc)) (by omega)
      exact h2.up (by omega)
end

section
open Go.RowKit Go.Maps
theorem fineR_nil (w : World) (lo : Nat) (F : Nat → Int) (T : Nat → Sto) (_ : lo ≤ w.heap.size) : FineR w lo w.heap.size 0 F 0 T none 0 none (fun _ _ => .bool true) (fun _ => lo) :=
  ⟨⟨⟨_, _, rfl, fun h => absurd h (Nat.lt_irrefl 0)⟩, Free.of0 _ _⟩, ⟨fun h => absurd h (Nat.lt_irrefl 0), fun i hi => absurd hi (Nat.not_lt_zero i)⟩, ⟨fun i hi => absurd hi (Nat.not_lt_zero i), fun i hi => absurd hi (Nat.not_lt_zero i), Nat.le_refl _⟩, fun h => absurd h (Nat.lt_irrefl 0)⟩
theorem resGr_nil {w w' : World} {c : Int} {e : Ending} {F : Nat → Int} {T : Nat → Sto} (he : e = .returned (.agg #[.int .i64 c, .slice none 0 0, .slice none 0 0])) (hb : Below w.heap.size w w') : ResGr w c 0 F 0 T e w' := ⟨none, 0, none, 0, _, _, he, fineR_nil w' w.heap.size F T hb.size, hb⟩
/-- The call's blocks: the store, and the answer that is under way. -/
def CallN (w : World) (B : Nat) (S : Sto) (v0 v1 v2 : Value) (x : World) : Prop := Blk3 x w.heap.size v0 v1 v2 ∧ Blk3 x (w.heap.size + 1) (.int .i64 0) (.slice none 0 0) (.slice none 0 0) ∧ St x B S v0 v1 v2 ∧ Below w.heap.size w x
theorem CallN.later {w x x' : World} {B : Nat} {S : Sto} {v0 v1 v2 : Value} (h : CallN w B S v0 v1 v2 x) (hb : Below x.heap.size x x') : CallN w B S v0 v1 v2 x' := ⟨h.1.later hb, h.2.1.later hb, h.2.2.1.later hb, h.2.2.2.trans (hb.mono h.2.2.2.size)⟩
theorem CallN.new {w : World} {B : Nat} {S : Sto} {v0 v1 v2 : Value} (h : St w B S v0 v1 v2) (t t' : TypeId) : CallN w B S v0 v1 v2 ((w.alloc (.cells #[v0, v1, v2] t)).alloc (.cells #[.int .i64 0, .slice none 0 0, .slice none 0 0] t')) := by
  refine ⟨(Blk3.new _ _ _ _ _).alloc _, ?_, (h.alloc _).alloc _, (below_alloc _ _).alloc (by simp) _⟩
  have := Blk3.new (w.alloc (.cells #[v0, v1, v2] t)) (.int .i64 0) (.slice none 0 0) (.slice none 0 0) t'
  rwa [World.size_alloc] at this
def NewAns (S : Sto) (ep : Int) (c : Int) (nr : Nat) (F : Nat → Int) (n : Nat) (T : Nat → Sto) : Prop :=
  ((storeF S ≠ 0 ∧ c = storeF S ∨ storeF S = 0 ∧ ¬ (1 ≤ ep ∧ ep ≤ 9999) ∧ c = 3) ∧ nr = 0 ∧ n = 0) ∨ (storeF S = 0 ∧ (1 ≤ ep ∧ ep ≤ 9999) ∧ c = 0 ∧ nr = 1 ∧ F = wholeF ep ∧ n = 1 ∧ T = fun _ => S)
/-- What the last region reads: the store, the list of ranges and the one range. -/
def NewE (w : World) (v0 v1 v2 : Value) (rb : Nat) (gr oR rc : Nat) (ep : Int) (x : World) : Prop := Blk3 x w.heap.size v0 v1 v2 ∧ x.cell? ⟨rb, 1, none⟩ = some (.slice (some ⟨gr, oR, none⟩) 1 rc) ∧ x.cell? ⟨gr, oR, none⟩ = some (.int .i64 0) ∧ x.cell? ⟨gr, oR + 1, none⟩ = some (.int .i64 200) ∧ x.cell? ⟨gr, oR + 2, none⟩ = some (.int .i64 ep)
theorem NewE.kept {w x x' : World} {v0 v1 v2 : Value} {rb gr oR rc : Nat} {ep : Int} (h : NewE w v0 v1 v2 rb gr oR rc ep x) (hb : ∀ q, q = w.heap.size ∨ q = rb ∨ q = gr → x'.heap[q]? = x.heap[q]?) : NewE w v0 v1 v2 rb gr oR rc ep x' := by
  have k : ∀ b p, b = w.heap.size ∨ b = rb ∨ b = gr → x'.cell? ⟨b, p, none⟩ = x.cell? ⟨b, p, none⟩ := fun b p h' => World.cell?_of_block (w := x) (a := ⟨b, p, none⟩) (hb b h')
  obtain ⟨h0, h1, h2, h3, h4⟩ := h
  exact ⟨h0.kept (hb _ (Or.inl rfl)), (k _ _ (Or.inr (Or.inl rfl))).trans h1, (k _ _ (Or.inr (Or.inr rfl))).trans h2, (k _ _ (Or.inr (Or.inr rfl))).trans h3, (k _ _ (Or.inr (Or.inr rfl))).trans h4⟩
set_option maxRecDepth 100000 in
set_option maxHeartbeats 8000000 in
theorem implNewGroups_is (S : Sto) (v0 v1 v2 : Value) (ep c : Int) (nr : Nat) (F : Nat → Int) (n : Nat) (T : Nat → Sto) (B : Nat) (w : World) (h : St w B S v0 v1 v2) (hA : NewAns S ep c nr F n T) :
    Calls Try.prog 13 #[.agg #[v0, v1, v2], .int .i64 ep] w (ResGr w c nr F n T) := by
  obtain ⟨a0, c0, a1, c1, a2, c2, rfl, rfl, rfl⟩ := h.form
  have HE : Hid (CallN w B S (.slice a0 S.nc c0) (.slice a1 S.nl c1) (.slice a2 S.nw c2) ((w.alloc (.cells #[.slice a0 S.nc c0, .slice a1 S.nl c1, .slice a2 S.nw c2] 48)).alloc (.cells #[.int .i64 0, .slice none 0 0, .slice none 0 0] 42))) := CallN.new h _ _
  clear h
  obtain ⟨f, hf⟩ : ∃ f, storeF S = f := ⟨_, rfl⟩
  have HF : Hid (storeF S = f) := hf
  obtain ⟨⟨p0, p1, p2⟩, _⟩ := HE.out.1
  rcases hA with ⟨hc, rfl, rfl⟩ | ⟨hz, he, rfl, rfl, rfl, rfl, rfl⟩
  · rcases hc with ⟨hz, hc⟩ | ⟨hz, he, rfl⟩
    · rw [hf] at hz hc
      subst hc
      have d : (c == 0) = false := beq_eq_false_iff_ne.2 hz
      have d' : (c != 0) = true := bne_iff_ne.2 hz
      clear hz HF
      go_enter Try.func13, Try.ntmps13
      go_wp2_with fail
      refine (implFault_any S _ _ _ B _ HE.out.2.2.1).mono ?_
      rw [hf]
      rintro e w1 ⟨rfl, q1⟩
      have HE : Hid (CallN w B S (.slice a0 S.nc c0) (.slice a1 S.nl c1) (.slice a2 S.nw c2) w1) := HE.out.later q1
      clear q1 p0 p1 p2 hf
      obtain ⟨⟨p0, p1, p2⟩, _⟩ := HE.out.1
      obtain ⟨⟨r0, r1, r2⟩, f0, f1, f2⟩ := HE.out.2.1
      go_wp2
      exact bodyPost_ret (v := .agg #[.int .i64 c, .slice none 0 0, .slice none 0 0]) (by simp [results, Try.results13, go_sem, r0, r1, r2]) rfl (resGr_nil rfl (((HE.out.2.2.2.setCell (Nat.le_succ _) _).setCell (Nat.le_succ _) _).setCell (Nat.le_succ _) _))
    · rw [hf] at hz
      subst hz
      have HP : Hid (¬ (1 ≤ ep ∧ ep ≤ 9999)) := he
      clear he HF
      go_enter Try.func13, Try.ntmps13
      go_wp2_with fail
      refine (implFault_any S _ _ _ B _ HE.out.2.2.1).mono ?_
      rw [hf]
      rintro e w1 ⟨rfl, q1⟩
      have HE : Hid (CallN w B S (.slice a0 S.nc c0) (.slice a1 S.nl c1) (.slice a2 S.nw c2) w1) := HE.out.later q1
      clear q1 p0 p1 p2 hf
      obtain ⟨⟨p0, p1, p2⟩, _⟩ := HE.out.1
      obtain ⟨⟨r0, r1, r2⟩, f0, f1, f2⟩ := HE.out.2.1
      go_wp2_with fail
      refine (implWhole_bad ep HP.out _).mono ?_
      rintro e w2 ⟨ao, cp, rfl, _, _, q2⟩
      have HE : Hid (CallN w B S (.slice a0 S.nc c0) (.slice a1 S.nl c1) (.slice a2 S.nw c2) (w2.alloc (.cells #[.int .i64 3, .slice ao 0 cp] 57))) := (HE.out.later q2).later (below_alloc _ _)
      clear q2 p0 p1 p2 r0 r1 r2 f0 f1 f2
      obtain ⟨⟨r0, r1, r2⟩, f0, f1, f2⟩ := HE.out.2.1
      go_wp2
      exact bodyPost_ret (v := .agg #[.int .i64 3, .slice none 0 0, .slice none 0 0]) (by simp [results, Try.results13, go_sem, r0, r1, r2]) rfl (resGr_nil rfl (((HE.out.2.2.2.setCell (Nat.le_succ _) _).setCell (Nat.le_succ _) _).setCell (Nat.le_succ _) _))
  · rw [hf] at hz
    subst hz
    have HP : Hid (1 ≤ ep ∧ ep ≤ 9999) := he
    have HZ : Hid (storeF S = 0) := HF.out
    clear he HF
    go_enter Try.func13, Try.ntmps13
    go_wp2_with fail
    refine (implFault_any S _ _ _ B _ HE.out.2.2.1).mono ?_
    rw [hf]
    rintro e w1 ⟨rfl, q1⟩
    have HE : Hid (CallN w B S (.slice a0 S.nc c0) (.slice a1 S.nl c1) (.slice a2 S.nw c2) w1) := HE.out.later q1
    clear q1 p0 p1 p2 hf
    obtain ⟨⟨p0, p1, p2⟩, _⟩ := HE.out.1
    obtain ⟨⟨r0, r1, r2⟩, f0, f1, f2⟩ := HE.out.2.1
    have z1 : Hid (w.heap.size + 2 ≤ w1.heap.size) := HE.out.2.1.lt
    go_wp2_with fail
    refine (implWhole_ok ep HP.out _).mono ?_
    rintro e w2 ⟨ao, cp, rfl, rw2, fr2, q2⟩
    obtain ⟨gr, oR, rfl, hlo2, hgr, x0, x1, x2⟩ := rw2.at3 (k := 0) (by omega)
    have y0 : w2.cell? ⟨gr, oR, none⟩ = some (.int .i64 0) := by simpa [wholeF] using x0
    have y1 : w2.cell? ⟨gr, oR + 1, none⟩ = some (.int .i64 200) := by simpa [wholeF] using x1
    have y2 : w2.cell? ⟨gr, oR + 2, none⟩ = some (.int .i64 ep) := by simpa [wholeF] using x2
    have HE : Hid (CallN w B S (.slice a0 S.nc c0) (.slice a1 S.nl c1) (.slice a2 S.nw c2) (w2.alloc (.cells #[.int .i64 0, .slice (some ⟨gr, oR, none⟩) 1 cp] 57))) := (HE.out.later q2).later (below_alloc _ _)
    have RW : Hid (Row (w2.alloc (.cells #[.int .i64 0, .slice (some ⟨gr, oR, none⟩) 1 cp] 57)) w1.heap.size 3 1 (wholeF ep) (.slice (some ⟨gr, oR, none⟩) 1 cp) ∧ Free (w2.alloc (.cells #[.int .i64 0, .slice (some ⟨gr, oR, none⟩) 1 cp] 57)) (1 * 3) (.slice (some ⟨gr, oR, none⟩) 1 cp)) := ⟨rw2.alloc _, fr2.ofRow rw2 (below_alloc _ _)⟩
    have NE : Hid (NewE w (.slice a0 S.nc c0) (.slice a1 S.nl c1) (.slice a2 S.nw c2) w2.heap.size gr oR cp ep (w2.alloc (.cells #[.int .i64 0, .slice (some ⟨gr, oR, none⟩) 1 cp] 57))) := ⟨HE.out.1, (Blk2.new w2 _ _ _).1.2, ((below_alloc w2 _).cell (p := ⟨gr, oR, none⟩) hgr).trans y0, ((below_alloc w2 _).cell (p := ⟨gr, oR + 1, none⟩) hgr).trans y1, ((below_alloc w2 _).cell (p := ⟨gr, oR + 2, none⟩) hgr).trans y2⟩
    have k0 := (Blk2.new w2 (.int .i64 0) (.slice (some ⟨gr, oR, none⟩) 1 cp) 57).1.1
    have zz : Hid (w.heap.size + 2 ≤ w1.heap.size ∧ w1.heap.size ≤ gr ∧ gr < w2.heap.size ∧ w2.heap.size < (w2.alloc (.cells #[.int .i64 0, .slice (some ⟨gr, oR, none⟩) 1 cp] 57)).heap.size) := ⟨z1.out, hlo2, hgr, by simp⟩
    clear rw2 fr2 q2 x0 x1 x2 y0 y1 y2 p0 p1 p2 r0 r1 r2 f0 f1 f2 hlo2 hgr
    go_wp2_with fail
    generalize w2.alloc (.cells #[.int .i64 0, .slice (some ⟨gr, oR, none⟩) 1 cp] 57) = w3 at HE RW NE zz ⊢
    clear k0
    refine wp_region_held_drew (S := NewE w (.slice a0 S.nc c0) (.slice a1 S.nl c1) (.slice a2 S.nw c2) w2.heap.size gr oR cp ep) (by kernel_rfl) (NE.out.kept (fun _ _ => rfl)) (fun hS => ?_)
    refine tkH 0 ?_ hS (fun wx hx => ?_) ?_; rotate_left
    · obtain ⟨⟨⟨hx0, hx1, hx2⟩, _⟩, hx3, hx4, hx5, hx6⟩ := hx; go_simp; try with_reducible rfl
    refine tkH 1 ?_ hS (fun wx hx => ?_) ?_; rotate_left
    · obtain ⟨⟨⟨hx0, hx1, hx2⟩, _⟩, hx3, hx4, hx5, hx6⟩ := hx; go_simp; try with_reducible rfl
    refine tkH 2 ?_ hS (fun wx hx => ?_) ?_; rotate_left
    · obtain ⟨⟨⟨hx0, hx1, hx2⟩, _⟩, hx3, hx4, hx5, hx6⟩ := hx; go_simp; try with_reducible rfl
    refine tkH 3 ?_ hS (fun wx hx => ?_) ?_; rotate_left
    · obtain ⟨⟨⟨hx0, hx1, hx2⟩, _⟩, hx3, hx4, hx5, hx6⟩ := hx; go_simp; try with_reducible rfl
    refine tkH 4 ?_ hS (fun wx hx => ?_) ?_; rotate_left
    · obtain ⟨⟨⟨hx0, hx1, hx2⟩, _⟩, hx3, hx4, hx5, hx6⟩ := hx; go_simp; try with_reducible rfl
    refine rdH 5 (fun K hK => ?_)
    go_simp
    go_wp2_with fail
    refine (pointTo_is S _ _ _ 0 200 ep B _ (HE.out.2.2.1.later (below_dr (Below.refl _ _) 1)) HZ.out).mono ?_
    rintro e w4 ⟨b, gm, u1, u2, rfl, hRS, q4⟩
    have q4' : Below w3.heap.size w3 w4 := ⟨q4.os, q4.tape, q4.output, q4.size, q4.block⟩
    have Z := storeF_zero HZ.out
    have z34 : Hid (w3.heap.size ≤ w4.heap.size) := q4'.size
    have HE5 : Hid (CallN w B S (.slice a0 S.nc c0) (.slice a1 S.nl c1) (.slice a2 S.nw c2) (w4.alloc (.cells #[.pointer (some ⟨b, 0, none⟩)] 60))) := (HE.out.later q4').later (below_alloc _ _)
    have TO : Hid (ToldG (w4.alloc (.cells #[.pointer (some ⟨b, 0, none⟩)] 60)) w3.heap.size 1 (wholeF ep) (fun _ => S) (fun _ => b)) := fun i hi => by
      obtain rfl : i = 0 := by omega
      exact ⟨S.nc, cellM S S.nc, gm, u1, u2, ⟨by have := Z.1.1; omega, Z.1.2.1, Z.1.2.2⟩, mapSelf Z.2.1, hRS.later (below_alloc _ _)⟩
    have PR : Hid (PtrRow (w4.alloc (.cells #[.pointer (some ⟨b, 0, none⟩)] 60)) 1 (some ⟨w4.heap.size, 0, none⟩) (fun _ => b)) := fun _ => ⟨w4.heap.size, 0, rfl, by simp, fun i hi => by
      obtain rfl : i = 0 := by omega
      exact World.cell?_alloc_mark w4 #[.pointer (some ⟨b, 0, none⟩)] _ _ 0⟩
    have hS' := hS.kept (x' := w4) (fun q hq => q4'.block q (by have := zz.out; rcases hq with e | e | e <;> omega))
    have hS5 := hS'.kept (x' := w4.alloc (.cells #[.pointer (some ⟨b, 0, none⟩)] 60)) (fun q hq => (below_alloc w4 _).block q (by have := zz.out; have := z34.out; rcases hq with e | e | e <;> omega))
    clear q4 q4' hRS Z HE RW
    go_wp2_with fail
    refine hK.out _ _ hS' (fun hS => ?_)
    clear hK K hS'
    refine rdH 6 (fun K hK => ?_)
    go_simp
    refine hK.out _ _ hS5 (fun hS => ?_)
    clear hK K hS5
    have z45 : Hid (w4.heap.size < (w4.alloc (.cells #[.pointer (some ⟨b, 0, none⟩)] 60)).heap.size) := by unfold Hid; simp
    refine rdH 7 (fun K hK => ?_)
    go_simp
    go_wp2_with fail
    refine (groupsTold_is 1 _ _ (wholeF ep) (fun _ => S) (fun _ => b) w3.heap.size _ PR.out TO.out (by omega)).mono ?_
    rintro e w6 ⟨xa, xc, ya, yc, U, z, rfl, hR, q6⟩
    have HE6 : Hid (CallN w B S (.slice a0 S.nc c0) (.slice a1 S.nl c1) (.slice a2 S.nw c2) w6) := HE5.out.later q6
    have HR : Hid (FineR w6 (w.heap.size + 2) w6.heap.size 1 (wholeF ep) 1 (fun _ => S) xa xc ya U z) := hR.mono (by have := zz.out; have := z34.out; have := z45.out; omega)
    have hS' := hS.kept (x' := w6) (fun q hq => q6.block q (by have := zz.out; have := z34.out; have := z45.out; rcases hq with e | e | e <;> omega))
    clear q6 hR HE5 TO PR
    go_wp2_with fail
    refine hK.out _ _ hS' (fun hS => ?_)
    clear hK K hS'
    obtain ⟨⟨r0, r1, r2⟩, f0, f1, f2⟩ := HE6.out.2.1
    refine rdH 8 (fun K hK => ?_)
    go_simp
    have kp : ∀ (X : World) (p : Nat) (u : Value) (q : Nat), q = w.heap.size ∨ q = w2.heap.size ∨ q = gr → (X.setCell ⟨w.heap.size + 1, p, none⟩ u).heap[q]? = X.heap[q]? := fun X p u q hq => Below.heap_setCell X ⟨w.heap.size + 1, p, none⟩ u q (by show q ≠ w.heap.size + 1; have := zz.out; rcases hq with e | e | e <;> omega)
    refine hK.out _ _ (hS.kept (fun q hq => (kp _ _ _ q hq).trans ((kp _ _ _ q hq).trans (kp _ _ _ q hq)))) (fun hS => ?_)
    clear hK K
    refine wpAnyH_done (by kernel_rfl) ?_ _
    clear hS kp
    go_simp
    go_wp2
    refine bodyPost_ret (v := .agg #[.int .i64 0, .slice xa 1 xc, .slice ya 1 yc]) (by simp [results, Try.results13, go_sem, r0, r1, r2]) rfl ⟨xa, xc, ya, yc, U, z, rfl, ?_, ((HE6.out.2.2.2.setCell (Nat.le_succ _) _).setCell (Nat.le_succ _) _).setCell (Nat.le_succ _) _⟩
    exact (((HR.out.within (within_set _ (w.heap.size + 1) 0 _) (Nat.le_refl _)).within (within_set _ (w.heap.size + 1) 1 _) (Nat.le_refl _)).within (within_set _ (w.heap.size + 1) 2 _) (Nat.le_refl _)).up (by omega)
theorem NewAns.get (S : Sto) (ep : Int) : ∃ c nr F n T, SmallG nr n T ∧ NewAns S ep c nr F n T := by
  have small : SmallG 0 0 (fun _ => S) := ⟨by omega, by omega, fun i hi => absurd hi (Nat.not_lt_zero i), by simp [sumN]⟩
  by_cases hz : storeF S = 0
  · by_cases he : 1 ≤ ep ∧ ep ≤ 9999
    · have Z := (storeF_zero hz).1
      refine ⟨0, 1, wholeF ep, 1, fun _ => S, ⟨by omega, by omega, fun i _ => ?_, ?_⟩, Or.inr ⟨hz, he, rfl, rfl, rfl, rfl, rfl⟩⟩
      · show SmallS S
        unfold SmallS; omega
      · simp only [sumN, sizeT]; omega
    · exact ⟨3, 0, wholeF ep, 0, fun _ => S, small, Or.inl ⟨Or.inr ⟨hz, he, rfl⟩, rfl, rfl⟩⟩
  · exact ⟨_, 0, wholeF ep, 0, fun _ => S, small, Or.inl ⟨Or.inl ⟨hz, rfl⟩, rfl, rfl⟩⟩
end
end

section
open Go.RowKit Go.Maps
section
theorem Own.keptB {w w' : World} {B : Nat} {e : TypeId} {m n : Nat} {F : Nat → Int} {v : Value} (h : Own w B e m n F v) (hb : ∀ q, B ≤ q → q < w.heap.size → w'.heap[q]? = w.heap[q]?) : Own w' B e m n F v := by
  refine ⟨h.1, ?_⟩
  rcases h.2 with q | ⟨g, cap, cur, rfl, hg, hw, r⟩
  · exact Or.inl q
  · exact Or.inr ⟨g, cap, cur, rfl, hg, (hb g hg (Array.getElem?_eq_some_iff.1 hw).1).trans hw, r⟩
theorem RSt.keptB {x x' : World} {B b : Nat} {fr to ep : Int} {N : Nat} {m : Int → Int → Option Int} {nl : Nat} {l : Nat → Int} {nw : Nat} {k : Nat → Int} {g : Nat} {u1 u2 : Value} (h : RSt x B b fr to ep N m nl l nw k g u1 u2) (hb : ∀ q, B ≤ q → q < x.heap.size → x'.heap[q]? = x.heap[q]?) : RSt x' B b fr to ep N m nl l nw k g u1 u2 := by
  obtain ⟨⟨h0, h1, h2⟩, ⟨c1, c2, c3, c4, c5, c6⟩, h4⟩ := h
  have e := hb b c1 c3.lt
  exact ⟨⟨(World.cell?_of_block (w := x) (a := ⟨b, 0, none⟩) e).trans h0, (World.cell?_of_block (w := x) (a := ⟨b, 1, none⟩) e).trans h1, (World.cell?_of_block (w := x) (a := ⟨b, 2, none⟩) e).trans h2⟩, ⟨c1, c2, c3.kept e, c4.kept (hb g c2 c4.lt), c5.keptB hb, c6.keptB hb⟩, h4⟩
theorem RSt.mono {x : World} {B B' b : Nat} {fr to ep : Int} {N : Nat} {m : Int → Int → Option Int} {nl : Nat} {l : Nat → Int} {nw : Nat} {k : Nat → Int} {g : Nat} {u1 u2 : Value} (h : RSt x B b fr to ep N m nl l nw k g u1 u2) (hB : B' ≤ B) : RSt x B' b fr to ep N m nl l nw k g u1 u2 :=
  ⟨h.1, ⟨Nat.le_trans hB h.2.1.1, Nat.le_trans hB h.2.1.2.1, h.2.1.2.2.1, h.2.1.2.2.2.1, h.2.1.2.2.2.2.1.mono hB, h.2.1.2.2.2.2.2.mono hB⟩, h.2.2⟩
theorem ToldG.keptB {x x' : World} {B n : Nat} {F : Nat → Int} {S : Nat → Sto} {P : Nat → Nat} (h : ToldG x B n F S P) (hb : ∀ q, B ≤ q → q < x.heap.size → x'.heap[q]? = x.heap[q]?) : ToldG x' B n F S P := fun i hi => by
  obtain ⟨N, m, g, u1, u2, h1, h2, h3⟩ := h i hi
  exact ⟨N, m, g, u1, u2, h1, h2, h3.keptB hb⟩
theorem ToldG.later {x x' : World} {B n : Nat} {F : Nat → Int} {S : Nat → Sto} {P : Nat → Nat} (h : ToldG x B n F S P) (hb : Below x.heap.size x x') : ToldG x' B n F S P := h.keptB (fun q _ hq => hb.block q hq)
theorem ToldG.mono {x : World} {B B' n : Nat} {F : Nat → Int} {S : Nat → Sto} {P : Nat → Nat} (h : ToldG x B n F S P) (hB : B' ≤ B) : ToldG x B' n F S P := fun i hi => by
  obtain ⟨N, m, g, u1, u2, h1, h2, h3⟩ := h i hi
  exact ⟨N, m, g, u1, u2, h1, h2, h3.mono hB⟩
/-- One more store that is worked on. -/
theorem ToldG.put {x : World} {B k b : Nat} {F : Nat → Int} {S : Nat → Sto} {P : Nat → Nat} (h : ToldG x B k F S P) {fr to ep : Int} (hF : F (k * 3) = fr ∧ F (k * 3 + 1) = to ∧ F (k * 3 + 2) = ep) (hz : storeF (S k) = 0) {g : Nat} {u1 u2 : Value} (hr : RSt x B b fr to ep (S k).nc (cellM (S k) (S k).nc) (S k).nl (S k).l (S k).nw (S k).k g u1 u2) : ToldG x B (k + 1) F S (fun i => if i = k then b else P i) := fun i hi => by
  have Z := storeF_zero hz
  by_cases q : i = k
  · subst q
    simp only [if_pos]
    rw [hF.1, hF.2.1, hF.2.2]
    exact ⟨(S i).nc, cellM (S i) (S i).nc, g, u1, u2, ⟨by have := Z.1.1; omega, Z.1.2.1, Z.1.2.2⟩, mapSelf Z.2.1, hr⟩
  · simp only [if_neg q]
    exact h i (by omega)
end

section
open Go.RowKit Go.Maps
theorem listU_inv {V : Nat → Nat → Value} {n j : Nat} {u : Value} (h : (listU V n)[j]? = some u) : ∃ i r, i < n ∧ r < 3 ∧ j = i * 3 + r ∧ u = V i r := by
  have hj : j < n * 3 := by
    have := (List.getElem?_eq_some_iff.1 h).1
    rw [listU_len] at this
    exact this
  obtain ⟨h0, h1, h2⟩ := listU_at V n (j / 3) (by omega)
  have e : j = j / 3 * 3 + j % 3 := by omega
  have hr : j % 3 = 0 ∨ j % 3 = 1 ∨ j % 3 = 2 := by omega
  rcases hr with r | r | r
  · refine ⟨j / 3, 0, by omega, by omega, by omega, ?_⟩
    rw [show j / 3 * 3 = j by omega, h] at h0
    exact Option.some.inj h0
  · refine ⟨j / 3, 1, by omega, by omega, by omega, ?_⟩
    rw [show j / 3 * 3 + 1 = j by omega, h] at h1
    exact Option.some.inj h1
  · refine ⟨j / 3, 2, by omega, by omega, by omega, ?_⟩
    rw [show j / 3 * 3 + 2 = j by omega, h] at h2
    exact Option.some.inj h2
theorem Stos.cells {w : World} {B n : Nat} {S : Nat → Sto} {V : Nat → Nat → Value} {a : Addr} {cp : Nat} (h : Stos w B n S V (.slice (some a) n cp)) : ∀ j u, (listU V n)[j]? = some u → w.cell? (a.add j) = some u := fun j u hu => by
  obtain ⟨i, r, hi, hr, rfl, rfl⟩ := listU_inv hu
  obtain ⟨ao, cp', hv, h'⟩ := h.1
  obtain ⟨g, o, rfl, _, _, hc⟩ := h' (by omega)
  simp only [Value.slice.injEq, Option.some.injEq] at hv
  obtain ⟨rfl, _⟩ := hv
  rw [WideShapes.add_plain]
  obtain ⟨h0, h1, h2⟩ := hc i hi
  have hr : r = 0 ∨ r = 1 ∨ r = 2 := by omega
  rcases hr with rfl | rfl | rfl
  · exact h0
  · rw [← Nat.add_assoc]; exact h1
  · rw [← Nat.add_assoc]; exact h2
end

section
open Go.RowKit Go.Maps
end

section
open Go.RowKit Go.Maps
end
end
end Go.Proofs.Ytdfikaehipdjaaa

namespace Go.Proofs.Ytdfikaehipdjaaa
open Go.RowKit

theorem implNewOracle_any (f : Int) (w : World) :
    Calls Try.prog 12 #[.int .i64 f] w fun e w' => e = .returned (.agg #[.int .i64 (if f < 1 ∨ 100000 < f then 3 else 0), .int .i64 0, .int .i64 (if f < 1 ∨ 100000 < f then 0 else f), .int .i64 (if f < 1 ∨ 100000 < f then 0 else f)]) ∧ Below w.heap.size w w' := by
  by_cases h1 : f < 1
  · rw [if_pos (by omega), if_pos (by omega)]
    go_enter Try.func12, Try.ntmps12
    go_wp2
    exact bodyPost_ret (v := .agg #[.int .i64 3, .int .i64 0, .int .i64 0, .int .i64 0]) (by simp [results, Try.results12, go_sem]) rfl ⟨rfl, by repeat (first | exact Below.refl _ _ | assumption | refine Below.setCell ?_ (by first | omega | (simp <;> omega)) _ | refine Below.alloc ?_ (by first | omega | (simp <;> omega)) _)⟩
  by_cases h2 : 100000 < f
  · rw [if_pos (by omega), if_pos (by omega)]
    have d1 : decide (f ≤ 100000) = false := decide_eq_false (by omega)
    go_enter Try.func12, Try.ntmps12
    go_wp2
    exact bodyPost_ret (v := .agg #[.int .i64 3, .int .i64 0, .int .i64 0, .int .i64 0]) (by simp [results, Try.results12, go_sem]) rfl ⟨rfl, by repeat (first | exact Below.refl _ _ | assumption | refine Below.setCell ?_ (by first | omega | (simp <;> omega)) _ | refine Below.alloc ?_ (by first | omega | (simp <;> omega)) _)⟩
  · rw [if_neg (by omega), if_neg (by omega)]
    have d1 : decide (f ≤ 100000) = true := decide_eq_true (by omega)
    go_enter Try.func12, Try.ntmps12
    go_wp2
    exact bodyPost_ret (v := .agg #[.int .i64 0, .int .i64 0, .int .i64 f, .int .i64 f]) (by simp [results, Try.results12, go_sem]) rfl ⟨rfl, by repeat (first | exact Below.refl _ _ | assumption | refine Below.setCell ?_ (by first | omega | (simp <;> omega)) _ | refine Below.alloc ?_ (by first | omega | (simp <;> omega)) _)⟩

end Go.Proofs.Ytdfikaehipdjaaa

namespace Go.Proofs.Ytdfikaehipdjaaa
open Go.RowKit

theorem eqOracle_same (a b : Int) (w : World) :
    Calls Try.prog 24 #[.agg #[.int .i64 a, .int .i64 b], .agg #[.int .i64 a, .int .i64 b]] w fun e w' => e = .returned (.bool true) ∧ w' = (w.alloc (.cells #[.int .i64 a, .int .i64 b] 23)).alloc (.cells #[.int .i64 a, .int .i64 b] 23) := by
  go_enter Try.func24, Try.ntmps24
  go_wp2
  go_ret
  exact ⟨rfl, rfl⟩
end Go.Proofs.Ytdfikaehipdjaaa

namespace Go.Proofs.Ytdfikaehipdjaaa
open Go.RowKit

theorem eqTxnS_nil (w : World) : Calls Try.prog 26 #[.slice none 0 0, .slice none 0 0] w fun e w' => e = .returned (.bool true) ∧ w' = w := by
  go_enter Try.func26, Try.ntmps26
  go_wp2
  go_loop [5] (fun i => i = .int .i64 0) (fun i => 1 - (intOf i).toNat)
  case atStart => rfl
  case round =>
    obtain rfl := hrel
    go_wp2
    go_ret
    exact ⟨rfl, rfl⟩
theorem markTxnS_nil (k0 : Int) (w : World) : Calls Try.prog 28 #[.slice none 0 0, .int .i64 k0] w fun e w' => e = .returned (.int .i64 k0) ∧ w' = w := by
  go_enter Try.func28, Try.ntmps28
  go_wp2
  go_loop [1, 5] (fun k i => i = .int .i64 0 ∧ k = .int .i64 k0) (fun _ i => 1 - (intOf i).toNat)
  case atStart => exact ⟨rfl, rfl⟩
  case round =>
    obtain ⟨rfl, rfl⟩ := hrel
    go_wp2
    go_ret
    exact ⟨rfl, rfl⟩
theorem heldTxnS_nil (k0 : Int) (w : World) : Calls Try.prog 30 #[.slice none 0 0, .int .i64 k0] w fun e w' => e = .returned (.int .i64 k0) ∧ w' = w := by
  go_enter Try.func30, Try.ntmps30
  go_wp2
  go_loop [1, 5] (fun k i => i = .int .i64 0 ∧ k = .int .i64 k0) (fun _ i => 1 - (intOf i).toNat)
  case atStart => exact ⟨rfl, rfl⟩
  case round =>
    obtain ⟨rfl, rfl⟩ := hrel
    go_wp2
    go_ret
    exact ⟨rfl, rfl⟩
/-- A block of six cells, none frozen; one of eight. -/
def BlkW (x : World) (b : Nat) (a0 a1 a2 a3 a4 a5 : Value) : Prop := x.cell? ⟨b, 0, none⟩ = some a0 ∧ x.cell? ⟨b, 1, none⟩ = some a1 ∧ x.cell? ⟨b, 2, none⟩ = some a2 ∧ x.cell? ⟨b, 3, none⟩ = some a3 ∧ x.cell? ⟨b, 4, none⟩ = some a4 ∧ x.cell? ⟨b, 5, none⟩ = some a5
theorem BlkW.later {x x' : World} {b : Nat} {a0 a1 a2 a3 a4 a5 : Value} (h : BlkW x b a0 a1 a2 a3 a4 a5) (hb : Below x.heap.size x x') : BlkW x' b a0 a1 a2 a3 a4 a5 := by
  have hl := World.block_lt_of_cell? x _ h.1
  obtain ⟨h0, h1, h2, h3, h4, h5⟩ := h
  exact ⟨(hb.cell (p := ⟨b, 0, none⟩) hl).trans h0, (hb.cell (p := ⟨b, 1, none⟩) hl).trans h1, (hb.cell (p := ⟨b, 2, none⟩) hl).trans h2, (hb.cell (p := ⟨b, 3, none⟩) hl).trans h3, (hb.cell (p := ⟨b, 4, none⟩) hl).trans h4, (hb.cell (p := ⟨b, 5, none⟩) hl).trans h5⟩
theorem BlkW.new (w : World) (a0 a1 a2 a3 a4 a5 : Value) (t : TypeId) : BlkW (w.alloc (.cells #[a0, a1, a2, a3, a4, a5] t)) w.heap.size a0 a1 a2 a3 a4 a5 :=
  ⟨World.cell?_alloc_mark w _ _ _ 0, World.cell?_alloc_mark w _ _ _ 1, World.cell?_alloc_mark w _ _ _ 2, World.cell?_alloc_mark w _ _ _ 3, World.cell?_alloc_mark w _ _ _ 4, World.cell?_alloc_mark w _ _ _ 5⟩
def BlkR (x : World) (b : Nat) (c m a0 a1 a2 a3 a4 a5 : Value) : Prop := (x.cell? ⟨b, 0, none⟩ = some c ∧ x.cell? ⟨b, 1, none⟩ = some m ∧ x.cell? ⟨b, 2, none⟩ = some a0 ∧ x.cell? ⟨b, 3, none⟩ = some a1 ∧ x.cell? ⟨b, 4, none⟩ = some a2 ∧ x.cell? ⟨b, 5, none⟩ = some a3 ∧ x.cell? ⟨b, 6, none⟩ = some a4 ∧ x.cell? ⟨b, 7, none⟩ = some a5) ∧ b < x.heap.size
theorem BlkR.kept {x x' : World} {b : Nat} {c m a0 a1 a2 a3 a4 a5 : Value} (h : BlkR x b c m a0 a1 a2 a3 a4 a5) (hb : x'.heap[b]? = x.heap[b]?) (hs : x.heap.size ≤ x'.heap.size) : BlkR x' b c m a0 a1 a2 a3 a4 a5 := by
  obtain ⟨⟨h0, h1, h2, h3, h4, h5, h6, h7⟩, hl⟩ := h
  have k : ∀ p, x'.cell? ⟨b, p, none⟩ = x.cell? ⟨b, p, none⟩ := fun p => World.cell?_of_block (w := x) (a := ⟨b, p, none⟩) hb
  exact ⟨⟨(k 0).trans h0, (k 1).trans h1, (k 2).trans h2, (k 3).trans h3, (k 4).trans h4, (k 5).trans h5, (k 6).trans h6, (k 7).trans h7⟩, Nat.lt_of_lt_of_le hl hs⟩
theorem BlkR.later {x x' : World} {b : Nat} {c m a0 a1 a2 a3 a4 a5 : Value} (h : BlkR x b c m a0 a1 a2 a3 a4 a5) (hb : Below x.heap.size x x') : BlkR x' b c m a0 a1 a2 a3 a4 a5 := h.kept (hb.block b h.2) hb.size
theorem BlkR.new (w : World) (c m a0 a1 a2 a3 a4 a5 : Value) (t : TypeId) : BlkR (w.alloc (.cells #[c, m, a0, a1, a2, a3, a4, a5] t)) w.heap.size c m a0 a1 a2 a3 a4 a5 :=
  ⟨⟨World.cell?_alloc_mark w _ _ _ 0, World.cell?_alloc_mark w _ _ _ 1, World.cell?_alloc_mark w _ _ _ 2, World.cell?_alloc_mark w _ _ _ 3, World.cell?_alloc_mark w _ _ _ 4, World.cell?_alloc_mark w _ _ _ 5, World.cell?_alloc_mark w _ _ _ 6, World.cell?_alloc_mark w _ _ _ 7⟩, by simp⟩
set_option maxRecDepth 100000 in
set_option maxHeartbeats 2000000 in
theorem eqWorld_same (nw nx bd : Int) (nr : Nat) (F : Nat → Int) (n : Nat) (S : Nat → Sto) (V U : Nat → Nat → Value) (ra : Option Addr) (rc : Nat) (sa : Option Addr) (sc : Nat) (qa : Option Addr) (qc : Nat) (pa : Option Addr) (pc : Nat) (B B' : Nat) (w : World) (h : Grs w B nr F n S V (.slice ra nr rc) (.slice sa n sc)) (h' : Grs w B' nr F n S U (.slice qa nr qc) (.slice pa n pc)) (hs : SmallG nr n S) :
    Calls Try.prog 14 #[.agg #[.int .i64 nw, .int .i64 nx, .int .i64 bd, .slice ra nr rc, .slice sa n sc, .slice none 0 0], .agg #[.int .i64 nw, .int .i64 nx, .int .i64 bd, .slice qa nr qc, .slice pa n pc, .slice none 0 0]] w fun e w' => e = .returned (.bool true) ∧ Below w.heap.size w w' := by
  have H : Hid (Grs w B nr F n S V (.slice ra nr rc) (.slice sa n sc) ∧ Grs w B' nr F n S U (.slice qa nr qc) (.slice pa n pc)) := ⟨h, h'⟩
  have HN : Hid (SmallG nr n S) := hs
  clear h h' hs
  go_enter Try.func14, Try.ntmps14
  go_wp2_with fail
  refine (eqOracle_same nx bd _).mono ?_
  rintro e w1 ⟨rfl, hw1⟩
  have q1 : Below w.heap.size w w1 := by
    rw [hw1]
    exact ((((Below.refl w.heap.size w).alloc (Nat.le_refl _) _).alloc (by simp) _).alloc (by simp; omega) _).alloc (by simp; omega) _
  have B0 : Hid (BlkW w1 w.heap.size (.int .i64 nw) (.int .i64 nx) (.int .i64 bd) (.slice ra nr rc) (.slice sa n sc) (.slice none 0 0) ∧ BlkW w1 (w.heap.size + 1) (.int .i64 nw) (.int .i64 nx) (.int .i64 bd) (.slice qa nr qc) (.slice pa n pc) (.slice none 0 0)) := by
    have k := BlkW.new w (.int .i64 nw) (.int .i64 nx) (.int .i64 bd) (.slice ra nr rc) (.slice sa n sc) (.slice none 0 0) 30
    have k' := BlkW.new (w.alloc (.cells #[.int .i64 nw, .int .i64 nx, .int .i64 bd, .slice ra nr rc, .slice sa n sc, .slice none 0 0] 30)) (.int .i64 nw) (.int .i64 nx) (.int .i64 bd) (.slice qa nr qc) (.slice pa n pc) (.slice none 0 0) 30
    rw [World.size_alloc] at k'
    rw [hw1]
    exact ⟨((k.later (below_alloc _ _)).later (below_alloc _ _)).later (below_alloc _ _), (k'.later (below_alloc _ _)).later (below_alloc _ _)⟩
  have H : Hid ((Grs w1 B nr F n S V (.slice ra nr rc) (.slice sa n sc) ∧ Grs w1 B' nr F n S U (.slice qa nr qc) (.slice pa n pc)) ∧ Below w.heap.size w w1) := ⟨⟨H.out.1.later q1, H.out.2.later q1⟩, q1⟩
  clear hw1 q1
  obtain ⟨⟨s0, s1, s2, s3, s4, s5⟩, ⟨t0, t1, t2, t3, t4, t5⟩⟩ := B0.out
  go_wp2_with fail
  refine (eqGroups_same nr F n S V U _ _ _ _ B B' _ H.out.1.1 H.out.1.2 HN.out.1 HN.out.2.1 HN.out.2.2.1).mono ?_
  rintro e w2 ⟨rfl, q2⟩
  have Q : Hid (Below w.heap.size w w2) := H.out.2.trans (q2.mono H.out.2.size)
  have B2 : Hid (BlkW w2 w.heap.size (.int .i64 nw) (.int .i64 nx) (.int .i64 bd) (.slice ra nr rc) (.slice sa n sc) (.slice none 0 0) ∧ BlkW w2 (w.heap.size + 1) (.int .i64 nw) (.int .i64 nx) (.int .i64 bd) (.slice qa nr qc) (.slice pa n pc) (.slice none 0 0)) := ⟨B0.out.1.later q2, B0.out.2.later q2⟩
  clear s0 s1 s2 s3 s4 s5 t0 t1 t2 t3 t4 t5 q2 H B0
  obtain ⟨⟨s0, s1, s2, s3, s4, s5⟩, ⟨t0, t1, t2, t3, t4, t5⟩⟩ := B2.out
  go_wp2_with fail
  refine (eqTxnS_nil _).mono ?_
  rintro e w3 ⟨rfl, hw3⟩
  obtain rfl := hw3.symm
  go_wp2
  go_ret
  exact ⟨rfl, Q.out⟩
set_option maxRecDepth 100000 in
set_option maxHeartbeats 2000000 in
theorem eqWorldResult_same (c : Int) (mv : Bool) (nw nx bd : Int) (nr : Nat) (F : Nat → Int) (n : Nat) (S : Nat → Sto) (V U : Nat → Nat → Value) (ra : Option Addr) (rc : Nat) (sa : Option Addr) (sc : Nat) (qa : Option Addr) (qc : Nat) (pa : Option Addr) (pc : Nat) (B B' : Nat) (w : World) (h : Grs w B nr F n S V (.slice ra nr rc) (.slice sa n sc)) (h' : Grs w B' nr F n S U (.slice qa nr qc) (.slice pa n pc)) (hs : SmallG nr n S) :
    Calls Try.prog 6 #[.agg #[.int .i64 c, .bool mv, .int .i64 nw, .int .i64 nx, .int .i64 bd, .slice ra nr rc, .slice sa n sc, .slice none 0 0], .agg #[.int .i64 c, .bool mv, .int .i64 nw, .int .i64 nx, .int .i64 bd, .slice qa nr qc, .slice pa n pc, .slice none 0 0]] w fun e w' => e = .returned (.bool true) ∧ Below w.heap.size w w' := by
  have H : Hid (Grs w B nr F n S V (.slice ra nr rc) (.slice sa n sc) ∧ Grs w B' nr F n S U (.slice qa nr qc) (.slice pa n pc)) := ⟨h, h'⟩
  have HN : Hid (SmallG nr n S) := hs
  clear h h' hs
  go_enter Try.func6, Try.ntmps6
  go_wp2_with fail
  refine (eqWorld_same nw nx bd nr F n S V U ra rc sa sc qa qc pa pc B B' _ ((H.out.1.later (below_alloc _ _)).later (below_alloc _ _)) ((H.out.2.later (below_alloc _ _)).later (below_alloc _ _)) HN.out).mono ?_
  rintro e w2 ⟨rfl, q2⟩
  have Q : Hid (Below w.heap.size w w2) := ((below_alloc w _).alloc (by simp) _).trans (q2.mono (by simp; omega))
  clear q2
  go_wp2
  go_ret
  exact ⟨rfl, Q.out⟩
set_option maxHeartbeats 2000000 in
theorem markWorldResult_any (c : Int) (mv : Bool) (nw nx bd : Int) (nr : Nat) (F : Nat → Int) (n : Nat) (S : Nat → Sto) (ra : Option Addr) (rc : Nat) (sa : Option Addr) (sc : Nat) (U : Nat → Nat → Value) (z : Nat → Nat) (lo tp : Nat) (w : World) (h : FineR w lo tp nr F n S ra rc sa U z) (hs : SmallG nr n S) :
    Calls Try.prog 7 #[.agg #[.int .i64 c, .bool mv, .int .i64 nw, .int .i64 nx, .int .i64 bd, .slice ra nr rc, .slice sa n sc, .slice none 0 0], .int .i64 1] w fun e w' => e = .returned (.int .i64 (1 + nr * 3 + (sumN (markT S) n : Nat))) ∧ MarkG w' lo nr n S ra rc sa sc U ∧ Within lo tp w w' := by
  have H : Hid (FineR w lo tp nr F n S ra rc sa U z) := h
  have HN : Hid (SmallG nr n S) := hs
  obtain ⟨t, ht⟩ : ∃ t, sumN (markT S) n = t := ⟨_, rfl⟩
  have HT : Hid (sumN (markT S) n = t) := ht
  have HI : Hid (∀ x, FineR x lo tp nr F n S ra rc sa U z → Calls Try.prog 15 #[.agg #[.int .i64 nw, .int .i64 nx, .int .i64 bd, .slice ra nr rc, .slice sa n sc, .slice none 0 0], .int .i64 1] x fun e w' => e = .returned (.int .i64 (1 + nr * 3 + (t : Nat))) ∧ MarkG w' lo nr n S ra rc sa sc U ∧ Within lo tp x w') := by
    intro x hx
    have X : Hid (FineR x lo tp nr F n S ra rc sa U z) := hx
    have hb := X.out.2.2.1.2.2
    have k := BlkW.new x (.int .i64 nw) (.int .i64 nx) (.int .i64 bd) (.slice ra nr rc) (.slice sa n sc) (.slice none 0 0) 30
    have K : Hid (BlkW (x.alloc (.cells #[.int .i64 nw, .int .i64 nx, .int .i64 bd, .slice ra nr rc, .slice sa n sc, .slice none 0 0] 30)) x.heap.size (.int .i64 nw) (.int .i64 nx) (.int .i64 bd) (.slice ra nr rc) (.slice sa n sc) (.slice none 0 0)) := k
    clear hx ht k
    go_enter Try.func15, Try.ntmps15
    go_wp2_with fail
    refine (markGroups_full nr F n S ra rc sa sc U z lo tp _ (X.out.later (below_alloc _ _)) HN.out).mono ?_
    rw [HT.out]
    rintro e w1 ⟨rfl, m1, W1⟩
    have Q : Hid (MarkG w1 lo nr n S ra rc sa sc U ∧ Within lo tp x w1) := ⟨m1, (Within.grow (below_alloc _ _)).trans W1⟩
    have k5 : w1.cell? ⟨x.heap.size, 5, none⟩ = some (.slice none 0 0) := (World.cell?_of_block (w := x.alloc _) (a := ⟨x.heap.size, 5, none⟩) (W1.block x.heap.size (by simp) (Or.inr hb))).trans K.out.2.2.2.2.2
    clear m1 W1 hb
    go_wp2_with fail
    refine (markTxnS_nil _ _).mono ?_
    rintro e w3 ⟨rfl, hw3⟩
    obtain rfl := hw3.symm
    go_wp2
    go_ret
    exact ⟨rfl, Q.out.1, Q.out.2⟩
  rw [ht]
  clear h hs ht
  go_enter Try.func7, Try.ntmps7
  go_wp2_with fail
  refine (HI.out _ (H.out.later (below_alloc _ _))).mono ?_
  rintro e w1 ⟨rfl, m1, W1⟩
  have Q : Hid (MarkG w1 lo nr n S ra rc sa sc U ∧ Within lo tp w w1) := ⟨m1, (Within.grow (below_alloc _ _)).trans W1⟩
  clear m1 W1
  go_wp2
  go_ret
  exact ⟨rfl, Q.out.1, Q.out.2⟩
set_option maxHeartbeats 2000000 in
theorem heldWorldResult_any (c : Int) (mv : Bool) (nw nx bd : Int) (nr n : Nat) (S : Nat → Sto) (ra : Option Addr) (rc : Nat) (sa : Option Addr) (sc : Nat) (U : Nat → Nat → Value) (lo : Nat) (w : World) (h : MarkG w lo nr n S ra rc sa sc U) (hs : SmallG nr n S) :
    Calls Try.prog 8 #[.agg #[.int .i64 c, .bool mv, .int .i64 nw, .int .i64 nx, .int .i64 bd, .slice ra nr rc, .slice sa n sc, .slice none 0 0], .int .i64 1] w fun e w' => e = .returned (.int .i64 (1 + nr * 3 + (sumN (markT S) n : Nat))) ∧ Below w.heap.size w w' := by
  have H : Hid (MarkG w lo nr n S ra rc sa sc U) := h
  have HN : Hid (SmallG nr n S) := hs
  obtain ⟨t, ht⟩ : ∃ t, sumN (markT S) n = t := ⟨_, rfl⟩
  have HT : Hid (sumN (markT S) n = t) := ht
  have d1 : decide ((1 : Int) + nr * 3 + (t : Nat) < 0) = false := decide_eq_false (by omega)
  have HI : Hid (∀ x, MarkG x lo nr n S ra rc sa sc U → Calls Try.prog 16 #[.agg #[.int .i64 nw, .int .i64 nx, .int .i64 bd, .slice ra nr rc, .slice sa n sc, .slice none 0 0], .int .i64 1] x fun e w' => e = .returned (.int .i64 (1 + nr * 3 + (t : Nat))) ∧ Below x.heap.size x w') := by
    intro x hx
    have X : Hid (MarkG x lo nr n S ra rc sa sc U) := hx
    have k := BlkW.new x (.int .i64 nw) (.int .i64 nx) (.int .i64 bd) (.slice ra nr rc) (.slice sa n sc) (.slice none 0 0) 30
    have K : Hid (BlkW (x.alloc (.cells #[.int .i64 nw, .int .i64 nx, .int .i64 bd, .slice ra nr rc, .slice sa n sc, .slice none 0 0] 30)) x.heap.size (.int .i64 nw) (.int .i64 nx) (.int .i64 bd) (.slice ra nr rc) (.slice sa n sc) (.slice none 0 0)) := k
    clear hx ht k
    go_enter Try.func16, Try.ntmps16
    go_wp2_with fail
    refine (heldGroups_any nr n S ra rc sa sc U lo _ (X.out.later (below_alloc _ _)) HN.out).mono ?_
    rw [HT.out]
    rintro e w1 ⟨rfl, q1⟩
    have Q : Hid (Below x.heap.size x w1) := (below_alloc _ _).trans (q1.mono (by simp))
    obtain ⟨_, _, _, _, _, k5⟩ := K.out.later q1
    clear q1
    go_wp2_with fail
    refine (heldTxnS_nil _ _).mono ?_
    rintro e w3 ⟨rfl, hw3⟩
    obtain rfl := hw3.symm
    go_wp2
    go_ret
    exact ⟨rfl, Q.out⟩
  rw [ht]
  clear h hs ht
  go_enter Try.func8, Try.ntmps8
  go_wp2_with fail
  refine (HI.out _ (H.out.later (below_alloc _ _))).mono ?_
  rintro e w1 ⟨rfl, q1⟩
  have Q : Hid (Below w.heap.size w w1) := (below_alloc _ _).trans (q1.mono (by simp))
  clear q1
  go_wp2
  go_ret
  exact ⟨rfl, Q.out⟩
end Go.Proofs.Ytdfikaehipdjaaa

namespace Go.Proofs.Ytdfikaehipdjaaa
open Go.RowKit

theorem hid_mkW {p : Prop} (h : p) : Hid p := h
theorem rowE (w : World) (B m : Nat) (F : Nat → Int) (a : Option Addr) (c : Nat) : Row w B m 0 F (.slice a 0 c) := ⟨a, c, rfl, fun q => absurd q (Nat.lt_irrefl 0)⟩
theorem stE (w : World) (B : Nat) (a0 a1 a2 : Option Addr) (c0 c1 c2 : Nat) : St w B emptyS (.slice a0 0 c0) (.slice a1 0 c1) (.slice a2 0 c2) := ⟨rowE w B 3 _ a0 c0, rowE w B 5 _ a1 c1, rowE w B 4 _ a2 c2⟩
theorem l2Part_nil (b : Nat) (w : World) (h : w.cell? ⟨b, 0, none⟩ = some (.slice none 0 0) ∧ w.cell? ⟨b, 1, none⟩ = some (.slice none 0 0) ∧ w.cell? ⟨b, 2, none⟩ = some (.slice none 0 0)) :
    Calls Try.prog 31 #[.pointer (some ⟨b, 0, none⟩), .int .i64 0, .int .i64 200] w fun e w' => ∃ a0 c0 a1 c1 a2 c2, e = .returned (.agg #[.slice a0 0 c0, .slice a1 0 c1, .slice a2 0 c2]) ∧ Below w.heap.size w w' :=
  (l2Part_any emptyS b _ _ _ 0 200 w ⟨h, stE w 0 none none none 0 0 0⟩ ⟨Nat.zero_le _, Nat.zero_le _, Nat.zero_le _⟩ ⟨by decide, by decide⟩).mono (fun e w' q => by
    obtain ⟨a0, c0, a1, c1, a2, c2, he, _, hb⟩ := q
    exact ⟨a0, c0, a1, c1, a2, c2, he, hb⟩)
/-- What the cutting region reads: the one range. -/
def RgE (g : Nat) (x : World) : Prop := (x.cell? ⟨g, 0, none⟩ = some (.int .i64 0) ∧ x.cell? ⟨g, 1, none⟩ = some (.int .i64 200) ∧ x.cell? ⟨g, 2, none⟩ = some (.int .i64 1)) ∧ g < x.heap.size
theorem RgE.kept {g : Nat} {x x' : World} (h : RgE g x) (hb : x'.heap[g]? = x.heap[g]?) (hs : x.heap.size ≤ x'.heap.size) : RgE g x' := by
  obtain ⟨⟨h0, h1, h2⟩, hl⟩ := h
  have k : ∀ p, x'.cell? ⟨g, p, none⟩ = x.cell? ⟨g, p, none⟩ := fun p => World.cell?_of_block (w := x) (a := ⟨g, p, none⟩) hb
  exact ⟨⟨(k 0).trans h0, (k 1).trans h1, (k 2).trans h2⟩, Nat.lt_of_lt_of_le hl hs⟩
theorem RgE.later {g : Nat} {x x' : World} (h : RgE g x) (hb : Below x.heap.size x x') : RgE g x' := h.kept (hb.block g h.2) hb.size
/-- Ahead of the one range, and behind it. -/
def CutA (w : World) (g : Nat) (x : World) : Prop := (Below w.heap.size w x ∧ RgE g x) ∧ Blk3 x w.heap.size (.slice none 0 0) (.slice none 0 0) (.slice none 0 0) ∧ Blk2 x (w.heap.size + 1) (.slice none 0 0) (.slice none 0 0) ∧ Blk2 x (w.heap.size + 2) (.slice (some ⟨g, 0, none⟩) 1 1) (.slice none 0 0)
theorem CutA.later {w : World} {g : Nat} {x x' : World} (h : CutA w g x) (hb : Below x.heap.size x x') : CutA w g x' := ⟨⟨h.1.1.trans (hb.mono h.1.1.size), h.1.2.later hb⟩, h.2.1.later hb, h.2.2.1.later hb, h.2.2.2.later hb⟩
def CutB (w : World) (g : Nat) (x : World) : Prop := ∃ sa sc U, (Below w.heap.size w x ∧ Stos x (w.heap.size + 3) 1 (fun _ => emptyS) U (.slice sa 1 sc)) ∧ Blk2 x (w.heap.size + 1) (.slice none 0 0) (.slice none 0 0) ∧ Blk2 x (w.heap.size + 2) (.slice (some ⟨g, 0, none⟩) 1 1) (.slice sa 1 sc)
set_option maxRecDepth 100000 in
set_option maxHeartbeats 8000000 in
theorem l7Cut_nil (g : Nat) (w : World) (h : RgE g w) :
    Calls Try.prog 18 #[.agg #[.slice none 0 0, .slice none 0 0, .slice none 0 0], .slice (some ⟨g, 0, none⟩) 1 1] w fun e w' => ∃ sa sc U, e = .returned (.agg #[.slice (some ⟨g, 0, none⟩) 1 1, .slice sa 1 sc]) ∧ Stos w' (w.heap.size + 3) 1 (fun _ => emptyS) U (.slice sa 1 sc) ∧ Below w.heap.size w w' := by
  have HG : Hid (g < w.heap.size) := h.2
  obtain ⟨j0, gi, gz0, gz1, gz2⟩ := info_parts info_Store
  have A0 : Hid (CutA w g (((w.alloc (.cells #[.slice none 0 0, .slice none 0 0, .slice none 0 0] 48)).alloc (.cells #[.slice none 0 0, .slice none 0 0] 27)).alloc (.cells #[.slice (some ⟨g, 0, none⟩) 1 1, .slice none 0 0] 27))) := by
    have k1 := Blk2.new (w.alloc (.cells #[.slice none 0 0, .slice none 0 0, .slice none 0 0] 48)) (.slice none 0 0) (.slice none 0 0) 27
    have k2 := Blk2.new ((w.alloc (.cells #[.slice none 0 0, .slice none 0 0, .slice none 0 0] 48)).alloc (.cells #[.slice none 0 0, .slice none 0 0] 27)) (.slice (some ⟨g, 0, none⟩) 1 1) (.slice none 0 0) 27
    rw [World.size_alloc] at k1
    rw [World.size_alloc, World.size_alloc] at k2
    exact ⟨⟨((below_alloc _ _).alloc (by simp) _).alloc (by simp; omega) _, ((h.later (below_alloc _ _)).later (below_alloc _ _)).later (below_alloc _ _)⟩, ((Blk3.new w _ _ _ _).alloc _).alloc _, k1.alloc _, k2⟩
  clear h
  go_enter Try.func18, Try.ntmps18
  go_wp2
  generalize ((w.alloc (.cells #[.slice none 0 0, .slice none 0 0, .slice none 0 0] 48)).alloc (.cells #[.slice none 0 0, .slice none 0 0] 27)).alloc (.cells #[.slice (some ⟨g, 0, none⟩) 1 1, .slice none 0 0] 27) = x0 at A0 ⊢
  go_loopw [6] (fun i wr => (i = .int .i64 0 ∧ Hid (CutA w g wr)) ∨ (i = .int .i64 1 ∧ Hid (CutB w g wr))) (fun i _ => 1 - (intOf i).toNat)
  case atStart => exact Or.inl ⟨rfl, A0⟩
  case round =>
    clear A0
    rcases hrel with ⟨rfl, AX⟩ | ⟨rfl, BX⟩
    · go_upto_region 5 with fail
      refine wp_region_held_drew (S := RgE g) (by kernel_rfl) (AX.out.1.2.kept rfl (Nat.le_refl _)) (fun hS => ?_)
      have AX : Hid (CutA w g wr.drew) := AX.out.later (Below.drew (Below.refl _ _))
      generalize wr.drew = z0 at AX hS ⊢
      refine tkH 0 ?_ hS (fun wx hx => ?_) ?_; rotate_left
      · obtain ⟨⟨hx0, hx1, hx2⟩, _⟩ := hx; go_simp; try with_reducible rfl
      refine tkH 2 ?_ hS (fun wx hx => ?_) ?_; rotate_left
      · obtain ⟨⟨hx0, hx1, hx2⟩, _⟩ := hx; go_simp; try with_reducible rfl
      refine tkH 3 ?_ hS (fun wx hx => ?_) ?_; rotate_left
      · obtain ⟨⟨hx0, hx1, hx2⟩, _⟩ := hx; go_simp; try with_reducible rfl
      refine tkH 4 ?_ hS (fun wx hx => ?_) ?_; rotate_left
      · obtain ⟨⟨hx0, hx1, hx2⟩, _⟩ := hx; go_simp; try with_reducible rfl
      refine tkH 5 ?_ hS (fun wx hx => ?_) ?_; rotate_left
      · obtain ⟨⟨hx0, hx1, hx2⟩, _⟩ := hx; go_simp; try with_reducible rfl
      refine tkH 6 ?_ hS (fun wx hx => ?_) ?_; rotate_left
      · obtain ⟨⟨hx0, hx1, hx2⟩, _⟩ := hx; go_simp; try with_reducible rfl
      refine tkH 7 ?_ hS (fun wx hx => ?_) ?_; rotate_left
      · obtain ⟨⟨hx0, hx1, hx2⟩, _⟩ := hx; go_simp; try with_reducible rfl
      refine tkH 8 ?_ hS (fun wx hx => ?_) ?_; rotate_left
      · obtain ⟨⟨hx0, hx1, hx2⟩, _⟩ := hx; go_simp; try with_reducible rfl
      refine tkH 9 ?_ hS (fun wx hx => ?_) ?_; rotate_left
      · obtain ⟨⟨hx0, hx1, hx2⟩, _⟩ := hx; go_simp; try with_reducible rfl
      refine tkH 10 ?_ hS (fun wx hx => ?_) ?_; rotate_left
      · obtain ⟨⟨hx0, hx1, hx2⟩, _⟩ := hx; go_simp; try with_reducible rfl
      refine tkH 11 ?_ hS (fun wx hx => ?_) ?_; rotate_left
      · obtain ⟨⟨hx0, hx1, hx2⟩, _⟩ := hx; go_simp; try with_reducible rfl
      simp only [Act.put, List.getElem_toArray, List.getElem_cons_zero, List.getElem_cons_succ, List.setIfInBounds_toArray, List.set_cons_succ, List.set_cons_zero]
      refine wpAnyH_ready (rs := [1, 12]) (by kernel_rfl) (by simp) ?_
      refine AllReadyH.cons rfl (fun K hK => ?_) (AllReadyH.cons rfl (fun K hK => ?_) AllReadyH.nil)
      focus
        obtain ⟨⟨_, g1⟩, _⟩ := AX.out.2.2.2
        go_simp
        refine hK.out _ _ hS (fun hS => ?_)
        clear hK K g1
        refine rdH 12 (fun K hK => ?_)
        go_simp
        go_wp2_with fail
        refine (l2Part_nil _ _ AX.out.2.1.1).mono ?_
        rintro e z1 ⟨d0, e0, d1, e1, d2, e2, rfl, q⟩
        have AX : Hid (CutA w g z1) := AX.out.later q
        go_wp2_with fail
        refine hK.out _ _ (hS.later q) (fun hS => ?_)
        clear hK K q
        refine rdH 13 (fun K hK => ?_)
        go_simp
        have NB : Hid (Blk3 (z1.alloc (.cells #[.slice d0 0 e0, .slice d1 0 e1, .slice d2 0 e2] 48)) z1.heap.size (.slice d0 0 e0) (.slice d1 0 e1) (.slice d2 0 e2) ∧ (z1.alloc (.cells #[.slice d0 0 e0, .slice d1 0 e1, .slice d2 0 e2] 48)).heap.size = z1.heap.size + 1) := ⟨Blk3.new _ _ _ _ _, by simp⟩
        have AX : Hid (CutA w g (z1.alloc (.cells #[.slice d0 0 e0, .slice d1 0 e1, .slice d2 0 e2] 48))) := AX.out.later (below_alloc _ _)
        refine hK.out _ _ (hS.later (below_alloc _ _)) (fun hS => ?_)
        clear hK K
      rotate_left
      focus
        go_simp
        go_wp2_with fail
        refine (l2Part_nil _ _ AX.out.2.1.1).mono ?_
        rintro e z1 ⟨d0, e0, d1, e1, d2, e2, rfl, q⟩
        have AX : Hid (CutA w g z1) := AX.out.later q
        go_wp2_with fail
        refine hK.out _ _ (hS.later q) (fun hS => ?_)
        clear hK K q
        refine wpAnyH_ready (rs := [1, 13]) (by kernel_rfl) (by simp) ?_
        refine AllReadyH.cons rfl (fun K hK => ?_) (AllReadyH.cons rfl (fun K hK => ?_) AllReadyH.nil)
        focus
          obtain ⟨⟨_, g1⟩, _⟩ := AX.out.2.2.2
          go_simp
          refine hK.out _ _ hS (fun hS => ?_)
          clear hK K g1
          refine rdH 13 (fun K hK => ?_)
          go_simp
          have NB : Hid (Blk3 (z1.alloc (.cells #[.slice d0 0 e0, .slice d1 0 e1, .slice d2 0 e2] 48)) z1.heap.size (.slice d0 0 e0) (.slice d1 0 e1) (.slice d2 0 e2) ∧ (z1.alloc (.cells #[.slice d0 0 e0, .slice d1 0 e1, .slice d2 0 e2] 48)).heap.size = z1.heap.size + 1) := ⟨Blk3.new _ _ _ _ _, by simp⟩
          have AX : Hid (CutA w g (z1.alloc (.cells #[.slice d0 0 e0, .slice d1 0 e1, .slice d2 0 e2] 48))) := AX.out.later (below_alloc _ _)
          refine hK.out _ _ (hS.later (below_alloc _ _)) (fun hS => ?_)
          clear hK K
        rotate_left
        focus
          go_simp
          have NB : Hid (Blk3 (z1.alloc (.cells #[.slice d0 0 e0, .slice d1 0 e1, .slice d2 0 e2] 48)) z1.heap.size (.slice d0 0 e0) (.slice d1 0 e1) (.slice d2 0 e2) ∧ (z1.alloc (.cells #[.slice d0 0 e0, .slice d1 0 e1, .slice d2 0 e2] 48)).heap.size = z1.heap.size + 1) := ⟨Blk3.new _ _ _ _ _, by simp⟩
          have AX : Hid (CutA w g (z1.alloc (.cells #[.slice d0 0 e0, .slice d1 0 e1, .slice d2 0 e2] 48))) := AX.out.later (below_alloc _ _)
          refine hK.out _ _ (hS.later (below_alloc _ _)) (fun hS => ?_)
          clear hK K
          refine rdH 1 (fun K hK => ?_)
          obtain ⟨⟨_, g1⟩, _⟩ := AX.out.2.2.2
          go_simp
          refine hK.out _ _ hS (fun hS => ?_)
          clear hK K g1
        rotate_left
      rotate_left 2
      all_goals
        refine rdH 14 (fun K hK => ?_)
        refine step_append_lies _ (by rfl) _ _ 25 (by rfl) (w.heap.size + 3) 48 j0 (.agg #[.slice none 0 0, .slice none 0 0, .slice none 0 0]) 3 72 Try.underlying25 gi gz0 gz1 gz2 rfl (by omega) (.slice none 0 0) 0 _ (by rfl) (⟨rfl, Or.inl ⟨rfl, rfl⟩⟩ : OwnV _ (w.heap.size + 3) (.slice none 0 0) 0 (fun _ _ => .bool true)) ⟨z1.heap.size, 0, none⟩ 1 1 [.slice d0 0 e0, .slice d1 0 e1, .slice d2 0 e2] (by rfl) (by rfl) (World.news_of_block (cs := #[.slice d0 0 e0, .slice d1 0 e1, .slice d2 0 e2]) (t := 48) (fr := (0, 0)) (heap_alloc_new z1 _)) (by simp [Value.oneCell']) (by omega) (by unfold maxLen; omega) (by omega) AX.out.2.2.2.lt (z1.heap.size + 1) (by simp) ?_
        intro hh cap' yy OY GY AY LY
        have OS : OwnV yy (w.heap.size + 3) (.slice (some ⟨hh, 0, none⟩) (0 + 1) cap') (0 + 1) (putU (fun _ _ => .bool true) 0 (.slice d0 0 e0) (.slice d1 0 e1) (.slice d2 0 e2)) := by
          unfold OwnV
          rw [listU_new]
          exact OY
        have hf := OS.fill
        have hlo : w.heap.size + 3 ≤ hh := (OS.block hh (by simp [Value.ownBlock])).1
        have bl : Below w.heap.size w yy := ⟨GY.os.trans AX.out.1.1.os, GY.tape.trans AX.out.1.1.tape, GY.output.trans AX.out.1.1.output, Nat.le_trans AX.out.1.1.size GY.size, fun i hi => (GY.block i (Nat.lt_of_lt_of_le hi AX.out.1.1.size) (fun e => by simp [Value.ownBlock] at e)).trans (AX.out.1.1.block i hi)⟩
        have nk : ∀ q, q < (z1.alloc (.cells #[.slice d0 0 e0, .slice d1 0 e1, .slice d2 0 e2] 48)).heap.size → yy.heap[q]? = (z1.alloc (.cells #[.slice d0 0 e0, .slice d1 0 e1, .slice d2 0 e2] 48)).heap[q]? := fun q hq => GY.block q hq (fun e => by simp [Value.ownBlock] at e)
        have kb1 : Blk2 yy (w.heap.size + 1) (.slice none 0 0) (.slice none 0 0) := AX.out.2.2.1.kept (nk _ AX.out.2.2.1.lt)
        have kb2 : Blk2 yy (w.heap.size + 2) (.slice (some ⟨g, 0, none⟩) 1 1) (.slice none 0 0) := AX.out.2.2.2.kept (nk _ AX.out.2.2.2.lt)
        have hS2 : RgE g yy := hS.kept (nk _ hS.2) GY.size
        have hgw := HG.out
        have hS3 : RgE g (yy.setCell ⟨w.heap.size + 2, 1, none⟩ (.slice (some ⟨hh, 0, none⟩) 1 cap')) := hS2.kept (Below.heap_setCell _ _ _ g (by show g ≠ w.heap.size + 2; omega)) (by simp [World.setCell])
        have CB : Hid (CutB w g (yy.setCell ⟨w.heap.size + 2, 1, none⟩ (.slice (some ⟨hh, 0, none⟩) 1 cap'))) := by
          refine ⟨some ⟨hh, 0, none⟩, cap', putU (fun _ _ => .bool true) 0 (.slice d0 0 e0) (.slice d1 0 e1) (.slice d2 0 e2), ⟨bl.setCell (by show w.heap.size ≤ w.heap.size + 2; omega) _, ?_, ?_⟩, kb1.setFar (by show w.heap.size + 1 ≠ w.heap.size + 2; omega) _, kb2.set1 _⟩
          · have hf2 : ∀ i, i < 1 → (yy.setCell ⟨w.heap.size + 2, 1, none⟩ (.slice (some ⟨hh, 0, none⟩) 1 cap')).cell? ⟨hh, 0 + i * 3, none⟩ = some (putU (fun _ _ => .bool true) 0 (.slice d0 0 e0) (.slice d1 0 e1) (.slice d2 0 e2) i 0) ∧ (yy.setCell ⟨w.heap.size + 2, 1, none⟩ (.slice (some ⟨hh, 0, none⟩) 1 cap')).cell? ⟨hh, 0 + i * 3 + 1, none⟩ = some (putU (fun _ _ => .bool true) 0 (.slice d0 0 e0) (.slice d1 0 e1) (.slice d2 0 e2) i 1) ∧ (yy.setCell ⟨w.heap.size + 2, 1, none⟩ (.slice (some ⟨hh, 0, none⟩) 1 cap')).cell? ⟨hh, 0 + i * 3 + 2, none⟩ = some (putU (fun _ _ => .bool true) 0 (.slice d0 0 e0) (.slice d1 0 e1) (.slice d2 0 e2) i 2) := fun i hi => by
              have h3 := hf.2.2 i hi
              have kk : ∀ p, (yy.setCell ⟨w.heap.size + 2, 1, none⟩ (.slice (some ⟨hh, 0, none⟩) 1 cap')).cell? ⟨hh, p, none⟩ = yy.cell? ⟨hh, p, none⟩ := fun p => World.cell?_of_block (w := yy) (a := ⟨hh, p, none⟩) (Below.heap_setCell _ _ _ hh (by show hh ≠ w.heap.size + 2; omega))
              rw [Nat.zero_add]
              exact ⟨(kk _).trans h3.1, (kk _).trans h3.2.1, (kk _).trans h3.2.2⟩
            exact ⟨_, _, rfl, fun _ => ⟨hh, 0, rfl, hlo, by have := hf.1; simpa [World.setCell] using this, hf2⟩⟩
          · intro i hi
            obtain rfl : i = 0 := by omega
            simp only [putU, if_true]
            exact stE _ _ _ _ _ _ _ _
        refine hK.out _ _ hS2 (fun hS => ?_)
        clear hK K hS2
        refine tkH 15 ?_ hS (fun wx hx => ?_) ?_; rotate_left
        · obtain ⟨⟨hx0, hx1, hx2⟩, _⟩ := hx; go_simp; try with_reducible rfl
        obtain ⟨⟨t0, t1⟩, ft0, ft1⟩ := kb2
        refine rdH 16 (fun K hK => ?_)
        go_simp
        refine hK.out _ _ hS3 (fun hS => ?_)
        clear hK K hS3
        refine wpAnyH_done (by kernel_rfl) ?_ _
        clear hS
        go_simp
        generalize yy.setCell ⟨w.heap.size + 2, 1, none⟩ (.slice (some ⟨hh, 0, none⟩) 1 cap') = x4 at CB ⊢
        clear t0 t1 ft0 ft1 OY GY AY LY OS hf hlo bl nk kb1 hgw AX NB
        go_wp2
        go_roundw
        case rel => exact Or.inr ⟨by go_num, CB⟩
        case measure => simp [intOf]
    · obtain ⟨sa, sc, U, ⟨bl, st⟩, ⟨⟨r0, r1⟩, f0, f1⟩, k2⟩ := BX.out
      have HS : Hid (Stos wr (w.heap.size + 3) 1 (fun _ => emptyS) U (.slice sa 1 sc) ∧ Below w.heap.size w wr) := ⟨st, bl⟩
      obtain ⟨⟨t0, t1⟩, _⟩ := k2
      have HR := hid_mkW (Blk2.put ⟨⟨r0, r1⟩, f0, f1⟩ (.slice (some ⟨g, 0, none⟩) 1 1) (.slice sa 1 sc))
      clear st bl BX
      go_wp2
      obtain ⟨⟨q0, q1⟩, _⟩ := HR.out
      refine bodyPost_ret (v := .agg #[.slice (some ⟨g, 0, none⟩) 1 1, .slice sa 1 sc]) (by simp [results, Try.results18, go_sem, q0, q1]) rfl ⟨sa, sc, U, rfl, (HS.out.1.far (by show w.heap.size + 1 < w.heap.size + 3; omega) _).far (by show w.heap.size + 1 < w.heap.size + 3; omega) _, (HS.out.2.setCell (Nat.le_succ _) _).setCell (Nat.le_succ _) _⟩
/-- What NewWorld answers. -/
def NwAns (f c x : Int) (nr : Nat) (F : Nat → Int) (n : Nat) : Prop := (¬ (1 ≤ f ∧ f ≤ 100000) ∧ c = 3 ∧ x = 0 ∧ nr = 0 ∧ n = 0) ∨ ((1 ≤ f ∧ f ≤ 100000) ∧ c = 0 ∧ x = f ∧ nr = 1 ∧ F = wholeF 1 ∧ n = 1)
theorem NwAns.get (f : Int) : ∃ c x nr F n, SmallG nr n (fun _ => emptyS) ∧ NwAns f c x nr F n := by
  have hs : ∀ m : Nat, m ≤ 1 → SmallG m m (fun _ => emptyS) := fun m hm => ⟨by omega, by omega, fun i _ => (show SmallS emptyS by unfold SmallS emptyS; decide), by
    rcases Nat.lt_or_ge m 1 with h | h
    · obtain rfl : m = 0 := by omega
      simp [sumN]
    · obtain rfl : m = 1 := by omega
      simp [sumN, sizeT, emptyS]⟩
  by_cases h : 1 ≤ f ∧ f ≤ 100000
  · exact ⟨0, f, 1, wholeF 1, 1, hs 1 (Nat.le_refl _), Or.inr ⟨h, rfl, rfl, rfl, rfl, rfl⟩⟩
  · exact ⟨3, 0, 0, wholeF 1, 0, hs 0 (Nat.zero_le _), Or.inl ⟨h, rfl, rfl, rfl, rfl⟩⟩
/-- A world without transactions as an answer: groups that may be compared; groups in memory of their own. -/
def ResW (w : World) (c x : Int) (nr : Nat) (F : Nat → Int) (n : Nat) (e : Ending) (w' : World) : Prop := ∃ ra rc sa sc U, e = .returned (.agg #[.int .i64 c, .bool false, .int .i64 0, .int .i64 x, .int .i64 x, .slice ra nr rc, .slice sa n sc, .slice none 0 0]) ∧ Grs w' w.heap.size nr F n (fun _ => emptyS) U (.slice ra nr rc) (.slice sa n sc) ∧ Below w.heap.size w w'
def ResWF (w : World) (c x : Int) (nr : Nat) (F : Nat → Int) (n : Nat) (e : Ending) (w' : World) : Prop := ∃ ra rc sa sc U z, e = .returned (.agg #[.int .i64 c, .bool false, .int .i64 0, .int .i64 x, .int .i64 x, .slice ra nr rc, .slice sa n sc, .slice none 0 0]) ∧ FineR w' w.heap.size w'.heap.size nr F n (fun _ => emptyS) ra rc sa U z ∧ Below w.heap.size w w'
theorem grsE (w : World) (B : Nat) (F : Nat → Int) (U : Nat → Nat → Value) (S : Nat → Sto) : Grs w B 0 F 0 S U (.slice none 0 0) (.slice none 0 0) := ⟨rowE w B 3 F none 0, ⟨⟨none, 0, rfl, fun q => absurd q (Nat.lt_irrefl 0)⟩, fun i hi => absurd hi (Nat.not_lt_zero i)⟩⟩
/-- The answer's block: eight cells, none frozen. -/
def BlkZ (x : World) (b : Nat) (a0 a1 a2 a3 a4 a5 a6 a7 : Value) : Prop := BlkR x b a0 a1 a2 a3 a4 a5 a6 a7 ∧ ∀ p, p < 8 → x.frozen? ⟨b, p, none⟩ = false
theorem BlkZ.later {x x' : World} {b : Nat} {a0 a1 a2 a3 a4 a5 a6 a7 : Value} (h : BlkZ x b a0 a1 a2 a3 a4 a5 a6 a7) (hb : Below x.heap.size x x') : BlkZ x' b a0 a1 a2 a3 a4 a5 a6 a7 := ⟨h.1.later hb, fun p hp => (hb.frozen (p := ⟨b, p, none⟩) h.1.2).trans (h.2 p hp)⟩
theorem BlkZ.new (w : World) (a0 a1 a2 a3 a4 a5 a6 a7 : Value) (t : TypeId) : BlkZ (w.alloc (.cells #[a0, a1, a2, a3, a4, a5, a6, a7] t)) w.heap.size a0 a1 a2 a3 a4 a5 a6 a7 := ⟨BlkR.new w _ _ _ _ _ _ _ _ _, fun p _ => by simp⟩
theorem setCell_other {x : World} {b i j : Nat} {u v : Value} (hn : i ≠ j) (h : x.cell? ⟨b, i, none⟩ = some u) : (x.setCell ⟨b, j, none⟩ v).cell? ⟨b, i, none⟩ = some u := (World.cell?_setCell_other _ _ _ _ (fun e => hn (congrArg Addr.off e).symm)).trans h
def put8 (x : World) (b : Nat) (c0 c1 c2 c3 c4 c5 c6 c7 : Value) : World := (((((((x.setCell ⟨b, 0, none⟩ c0).setCell ⟨b, 1, none⟩ c1).setCell ⟨b, 2, none⟩ c2).setCell ⟨b, 3, none⟩ c3).setCell ⟨b, 4, none⟩ c4).setCell ⟨b, 5, none⟩ c5).setCell ⟨b, 6, none⟩ c6).setCell ⟨b, 7, none⟩ c7
theorem BlkR.put {x : World} {b : Nat} {a0 a1 a2 a3 a4 a5 a6 a7 : Value} (h : BlkR x b a0 a1 a2 a3 a4 a5 a6 a7) (c0 c1 c2 c3 c4 c5 c6 c7 : Value) :
    (put8 x b c0 c1 c2 c3 c4 c5 c6 c7).cell? ⟨b, 0, none⟩ = some c0 ∧ (put8 x b c0 c1 c2 c3 c4 c5 c6 c7).cell? ⟨b, 1, none⟩ = some c1 ∧ (put8 x b c0 c1 c2 c3 c4 c5 c6 c7).cell? ⟨b, 2, none⟩ = some c2 ∧ (put8 x b c0 c1 c2 c3 c4 c5 c6 c7).cell? ⟨b, 3, none⟩ = some c3 ∧ (put8 x b c0 c1 c2 c3 c4 c5 c6 c7).cell? ⟨b, 4, none⟩ = some c4 ∧ (put8 x b c0 c1 c2 c3 c4 c5 c6 c7).cell? ⟨b, 5, none⟩ = some c5 ∧ (put8 x b c0 c1 c2 c3 c4 c5 c6 c7).cell? ⟨b, 6, none⟩ = some c6 ∧ (put8 x b c0 c1 c2 c3 c4 c5 c6 c7).cell? ⟨b, 7, none⟩ = some c7 := by
  obtain ⟨⟨h0, h1, h2, h3, h4, h5, h6, h7⟩, _⟩ := h
  unfold put8
  refine ⟨?_, ?_, ?_, ?_, ?_, ?_, ?_, ?_⟩
  · exact setCell_other (by decide) (setCell_other (by decide) (setCell_other (by decide) (setCell_other (by decide) (setCell_other (by decide) (setCell_other (by decide) (setCell_other (by decide) (World.cell?_setCell_same _ _ _ h0)))))))
  · exact setCell_other (by decide) (setCell_other (by decide) (setCell_other (by decide) (setCell_other (by decide) (setCell_other (by decide) (setCell_other (by decide) (World.cell?_setCell_same _ _ _ (setCell_other (by decide) h1)))))))
  · exact setCell_other (by decide) (setCell_other (by decide) (setCell_other (by decide) (setCell_other (by decide) (setCell_other (by decide) (World.cell?_setCell_same _ _ _ (setCell_other (by decide) (setCell_other (by decide) h2)))))))
  · exact setCell_other (by decide) (setCell_other (by decide) (setCell_other (by decide) (setCell_other (by decide) (World.cell?_setCell_same _ _ _ (setCell_other (by decide) (setCell_other (by decide) (setCell_other (by decide) h3)))))))
  · exact setCell_other (by decide) (setCell_other (by decide) (setCell_other (by decide) (World.cell?_setCell_same _ _ _ (setCell_other (by decide) (setCell_other (by decide) (setCell_other (by decide) (setCell_other (by decide) h4)))))))
  · exact setCell_other (by decide) (setCell_other (by decide) (World.cell?_setCell_same _ _ _ (setCell_other (by decide) (setCell_other (by decide) (setCell_other (by decide) (setCell_other (by decide) (setCell_other (by decide) h5)))))))
  · exact setCell_other (by decide) (World.cell?_setCell_same _ _ _ (setCell_other (by decide) (setCell_other (by decide) (setCell_other (by decide) (setCell_other (by decide) (setCell_other (by decide) (setCell_other (by decide) h6)))))))
  · exact World.cell?_setCell_same _ _ _ (setCell_other (by decide) (setCell_other (by decide) (setCell_other (by decide) (setCell_other (by decide) (setCell_other (by decide) (setCell_other (by decide) (setCell_other (by decide) h7)))))))
theorem below_put8 {w x : World} {b : Nat} (h : Below w.heap.size w x) (hb : w.heap.size ≤ b) (c0 c1 c2 c3 c4 c5 c6 c7 : Value) : Below w.heap.size w (put8 x b c0 c1 c2 c3 c4 c5 c6 c7) := (((((((h.setCell hb _).setCell hb _).setCell hb _).setCell hb _).setCell hb _).setCell hb _).setCell hb _).setCell hb _
theorem grs_put8 {x : World} {B b nr : Nat} {F : Nat → Int} {n : Nat} {S : Nat → Sto} {U : Nat → Nat → Value} {vr vs : Value} (h : Grs x B nr F n S U vr vs) (hb : b < B) (c0 c1 c2 c3 c4 c5 c6 c7 : Value) : Grs (put8 x b c0 c1 c2 c3 c4 c5 c6 c7) B nr F n S U vr vs := by
  have s : ∀ {y : World} (j : Nat) (u : Value), Grs y B nr F n S U vr vs → Grs (y.setCell ⟨b, j, none⟩ u) B nr F n S U vr vs := fun j u q => ⟨q.1.far (Or.inl (by show b < B; exact hb)) _, q.2.far (by show b < B; exact hb) _⟩
  exact s _ _ (s _ _ (s _ _ (s _ _ (s _ _ (s _ _ (s _ _ (s _ _ h)))))))
theorem fineR_put8 {x : World} {lo tp b nr : Nat} {F : Nat → Int} {n : Nat} {S : Nat → Sto} {ra : Option Addr} {rc : Nat} {sa : Option Addr} {U : Nat → Nat → Value} {z : Nat → Nat} (h : FineR x lo tp nr F n S ra rc sa U z) (hb : b + 1 ≤ lo) (c0 c1 c2 c3 c4 c5 c6 c7 : Value) : FineR (put8 x b c0 c1 c2 c3 c4 c5 c6 c7) lo tp nr F n S ra rc sa U z := by
  have s : ∀ {y : World} (j : Nat) (u : Value), FineR y lo tp nr F n S ra rc sa U z → FineR (y.setCell ⟨b, j, none⟩ u) lo tp nr F n S ra rc sa U z := fun j u q => q.within (within_set _ b j _) hb
  exact s _ _ (s _ _ (s _ _ (s _ _ (s _ _ (s _ _ (s _ _ (s _ _ h)))))))
end Go.Proofs.Ytdfikaehipdjaaa

namespace Go.Proofs.Ytdfikaehipdjaaa
open Go.RowKit

theorem BlkW.put {x : World} {b : Nat} {a0 a1 a2 a3 a4 a5 : Value} (h : BlkW x b a0 a1 a2 a3 a4 a5) (c0 c1 c2 c3 c4 c5 : Value) : BlkW ((((((x.setCell ⟨b, 0, none⟩ c0).setCell ⟨b, 1, none⟩ c1).setCell ⟨b, 2, none⟩ c2).setCell ⟨b, 3, none⟩ c3).setCell ⟨b, 4, none⟩ c4).setCell ⟨b, 5, none⟩ c5) b c0 c1 c2 c3 c4 c5 := by
  obtain ⟨h0, h1, h2, h3, h4, h5⟩ := h
  refine ⟨?_, ?_, ?_, ?_, ?_, ?_⟩
  · exact setCell_other (by decide) (setCell_other (by decide) (setCell_other (by decide) (setCell_other (by decide) (setCell_other (by decide) (World.cell?_setCell_same _ _ _ h0)))))
  · exact setCell_other (by decide) (setCell_other (by decide) (setCell_other (by decide) (setCell_other (by decide) (World.cell?_setCell_same _ _ _ (setCell_other (by decide) h1)))))
  · exact setCell_other (by decide) (setCell_other (by decide) (setCell_other (by decide) (World.cell?_setCell_same _ _ _ (setCell_other (by decide) (setCell_other (by decide) h2)))))
  · exact setCell_other (by decide) (setCell_other (by decide) (World.cell?_setCell_same _ _ _ (setCell_other (by decide) (setCell_other (by decide) (setCell_other (by decide) h3)))))
  · exact setCell_other (by decide) (World.cell?_setCell_same _ _ _ (setCell_other (by decide) (setCell_other (by decide) (setCell_other (by decide) (setCell_other (by decide) h4)))))
  · exact World.cell?_setCell_same _ _ _ (setCell_other (by decide) (setCell_other (by decide) (setCell_other (by decide) (setCell_other (by decide) (setCell_other (by decide) h5)))))
set_option maxHeartbeats 1000000 in
theorem l10Bad_is (c : Int) (w : World) : Calls Try.prog 10 #[.int .i64 c] w fun e w' => e = .returned (.agg #[.int .i64 c, .bool false, .int .i64 0, .int .i64 0, .int .i64 0, .slice none 0 0, .slice none 0 0, .slice none 0 0]) ∧ Below w.heap.size w w' := by
  go_enter Try.func10, Try.ntmps10
  go_wp2
  exact bodyPost_ret (v := .agg #[.int .i64 c, .bool false, .int .i64 0, .int .i64 0, .int .i64 0, .slice none 0 0, .slice none 0 0, .slice none 0 0]) (by simp [results, Try.results10, go_sem]) rfl ⟨rfl, below_alloc _ _⟩
set_option maxRecDepth 100000 in
set_option maxHeartbeats 4000000 in
theorem l10Empty_is (f : Int) (w : World) : Calls Try.prog 11 #[.int .i64 f] w fun e w' => ∃ ra rc sa sc U, e = .returned (.agg #[.int .i64 0, .int .i64 f, .int .i64 f, .slice ra 1 rc, .slice sa 1 sc, .slice none 0 0]) ∧ Grs w' (w.heap.size + 1) 1 (wholeF 1) 1 (fun _ => emptyS) U (.slice ra 1 rc) (.slice sa 1 sc) ∧ Below w.heap.size w w' := by
  have RG : Hid (RgE (w.heap.size + 1) ((w.alloc (.cells #[.int .i64 0, .int .i64 0, .int .i64 0, .slice none 0 0, .slice none 0 0, .slice none 0 0] 30)).alloc (.cells #[.int .i64 0, .int .i64 200, .int .i64 1] 54))) := by
    have k := Blk3.new (w.alloc (.cells #[.int .i64 0, .int .i64 0, .int .i64 0, .slice none 0 0, .slice none 0 0, .slice none 0 0] 30)) (.int .i64 0) (.int .i64 200) (.int .i64 1) 54
    rw [World.size_alloc] at k
    exact ⟨k.1, k.lt⟩
  go_enter Try.func11, Try.ntmps11
  go_wp2_with fail
  refine (l7Cut_nil (w.heap.size + 1) _ RG.out).mono ?_
  rintro e w1 ⟨sa, sc, U, rfl, st, q⟩
  have hz : ((w.alloc (.cells #[.int .i64 0, .int .i64 0, .int .i64 0, .slice none 0 0, .slice none 0 0, .slice none 0 0] 30)).alloc (.cells #[.int .i64 0, .int .i64 200, .int .i64 1] 54)).heap.size = w.heap.size + 2 := by simp
  rw [hz] at st
  have kw := ((BlkW.new w (.int .i64 0) (.int .i64 0) (.int .i64 0) (.slice none 0 0) (.slice none 0 0) (.slice none 0 0) 30).later (below_alloc _ (.cells #[.int .i64 0, .int .i64 200, .int .i64 1] 54))).later q
  have fz : ∀ p, p < 6 → w1.frozen? ⟨w.heap.size, p, none⟩ = false := fun p _ => (q.frozen (p := ⟨w.heap.size, p, none⟩) (by show w.heap.size < _; rw [hz]; omega)).trans (by simp)
  have HG : Hid (Grs w1 (w.heap.size + 1) 1 (wholeF 1) 1 (fun _ => emptyS) U (.slice (some ⟨w.heap.size + 1, 0, none⟩) 1 1) (.slice sa 1 sc) ∧ Below w.heap.size w w1) := by
    refine ⟨⟨⟨_, _, rfl, fun _ => ⟨w.heap.size + 1, 0, rfl, Nat.le_refl _, (RG.out.later q).2, fun p hp => ?_⟩⟩, st.mono (by omega)⟩, ((below_alloc _ _).alloc (by simp) _).trans (q.mono (by rw [hz]; omega))⟩
    obtain ⟨⟨g0, g1, g2⟩, _⟩ := RG.out.later q
    have : p = 0 ∨ p = 1 ∨ p = 2 := by omega
    rcases this with rfl | rfl | rfl
    · exact g0
    · exact g1
    · exact g2
  have HP := hid_mkW (kw.put (.int .i64 0) (.int .i64 f) (.int .i64 f) (.slice (some ⟨w.heap.size + 1, 0, none⟩) 1 1) (.slice sa 1 sc) (.slice none 0 0))
  obtain ⟨k0, k1, k2, k3, k4, k5⟩ := kw
  have f0 := fz 0 (by decide)
  have f1 := fz 1 (by decide)
  have f2 := fz 2 (by decide)
  have f3 := fz 3 (by decide)
  have f4 := fz 4 (by decide)
  have f5 := fz 5 (by decide)
  clear fz st q hz RG
  go_wp2
  have far : ∀ {y : World} (j : Nat) (u : Value), Grs y (w.heap.size + 1) 1 (wholeF 1) 1 (fun _ => emptyS) U (.slice (some ⟨w.heap.size + 1, 0, none⟩) 1 1) (.slice sa 1 sc) → Grs (y.setCell ⟨w.heap.size, j, none⟩ u) (w.heap.size + 1) 1 (wholeF 1) 1 (fun _ => emptyS) U (.slice (some ⟨w.heap.size + 1, 0, none⟩) 1 1) (.slice sa 1 sc) := fun j u h => ⟨h.1.far (Or.inl (by show w.heap.size < w.heap.size + 1; omega)) _, h.2.far (by show w.heap.size < w.heap.size + 1; omega) _⟩
  obtain ⟨q0, q1, q2, q3, q4, q5⟩ := HP.out
  exact bodyPost_ret (v := .agg #[.int .i64 0, .int .i64 f, .int .i64 f, .slice (some ⟨w.heap.size + 1, 0, none⟩) 1 1, .slice sa 1 sc, .slice none 0 0]) (by simp [results, Try.results11, go_sem, q0, q1, q2, q3, q4, q5]) rfl ⟨_, _, sa, sc, U, rfl, far _ _ (far _ _ (far _ _ (far _ _ (far _ _ (far _ _ HG.out.1))))), (((((HG.out.2.setCell (Nat.le_refl _) _).setCell (Nat.le_refl _) _).setCell (Nat.le_refl _) _).setCell (Nat.le_refl _) _).setCell (Nat.le_refl _) _).setCell (Nat.le_refl _) _⟩
set_option maxRecDepth 100000 in
set_option maxHeartbeats 4000000 in
theorem specNewWorld_is (f c x : Int) (nr : Nat) (F : Nat → Int) (n : Nat) (w : World) (hA : NwAns f c x nr F n) : Calls Try.prog 4 #[.int .i64 f] w (ResW w c x nr F n) := by
  have HZ : Hid (BlkZ (w.alloc (.cells #[.int .i64 0, .bool false, .int .i64 0, .int .i64 0, .int .i64 0, .slice none 0 0, .slice none 0 0, .slice none 0 0] 32)) w.heap.size (.int .i64 0) (.bool false) (.int .i64 0) (.int .i64 0) (.int .i64 0) (.slice none 0 0) (.slice none 0 0) (.slice none 0 0)) := BlkZ.new w _ _ _ _ _ _ _ _ _
  rcases hA with ⟨hf, rfl, rfl, rfl, rfl⟩ | ⟨hf, rfl, rfl, rfl, rfl, rfl⟩
  · have HD : Hid (decide (1 ≤ f ∧ f ≤ 100000) = false) := decide_eq_false hf
    clear hf
    go_enter Try.func4, Try.ntmps4
    go_wp2_with fail
    refine (l2Ts_is f false HD.out _).mono ?_
    rintro e w1 ⟨rfl, hw1⟩
    obtain rfl := hw1.symm
    clear hw1
    go_wp2_with fail
    refine (l10Bad_is 3 _).mono ?_
    rintro e w2 ⟨rfl, q⟩
    have HX : Hid (BlkZ w2 w.heap.size (.int .i64 0) (.bool false) (.int .i64 0) (.int .i64 0) (.int .i64 0) (.slice none 0 0) (.slice none 0 0) (.slice none 0 0)) := HZ.out.later q
    have HB : Hid (Below w.heap.size w w2) := (below_alloc _ _).trans (q.mono (by simp))
    clear q HZ
    obtain ⟨⟨⟨k0, k1, k2, k3, k4, k5, k6, k7⟩, _⟩, fz⟩ := HX.out
    have HP := hid_mkW (HX.out.1.put (.int .i64 3) (.bool false) (.int .i64 0) (.int .i64 0) (.int .i64 0) (.slice none 0 0) (.slice none 0 0) (.slice none 0 0))
    have f0 := fz 0 (by decide)
    have f1 := fz 1 (by decide)
    have f2 := fz 2 (by decide)
    have f3 := fz 3 (by decide)
    have f4 := fz 4 (by decide)
    have f5 := fz 5 (by decide)
    have f6 := fz 6 (by decide)
    have f7 := fz 7 (by decide)
    clear fz
    go_wp2
    obtain ⟨q0, q1, q2, q3, q4, q5, q6, q7⟩ := HP.out
    unfold put8 at q0 q1 q2 q3 q4 q5 q6 q7
    exact bodyPost_ret (v := .agg #[.int .i64 3, .bool false, .int .i64 0, .int .i64 0, .int .i64 0, .slice none 0 0, .slice none 0 0, .slice none 0 0]) (by simp [results, Try.results4, go_sem, q0, q1, q2, q3, q4, q5, q6, q7]) rfl ⟨none, 0, none, 0, fun _ _ => .bool true, rfl, grsE _ _ _ _ _, below_put8 HB.out (Nat.le_refl _) _ _ _ _ _ _ _ _⟩
  · have HD : Hid (decide (1 ≤ x ∧ x ≤ 100000) = true) := decide_eq_true hf
    clear hf
    go_enter Try.func4, Try.ntmps4
    go_wp2_with fail
    refine (l2Ts_is x true HD.out _).mono ?_
    rintro e w1 ⟨rfl, hw1⟩
    obtain rfl := hw1.symm
    clear hw1
    go_wp2_with fail
    refine (l10Empty_is x _).mono ?_
    rintro e w2 ⟨ra, rc, sa, sc, U, rfl, hg, q⟩
    have HX : Hid (BlkZ w2 w.heap.size (.int .i64 0) (.bool false) (.int .i64 0) (.int .i64 0) (.int .i64 0) (.slice none 0 0) (.slice none 0 0) (.slice none 0 0)) := HZ.out.later q
    have HB : Hid (Below w.heap.size w w2 ∧ Grs w2 (w.heap.size + 1) 1 (wholeF 1) 1 (fun _ => emptyS) U (.slice ra 1 rc) (.slice sa 1 sc)) := ⟨(below_alloc _ _).trans (q.mono (by simp)), hg.mono (by simp)⟩
    clear q HZ hg
    obtain ⟨⟨⟨k0, k1, k2, k3, k4, k5, k6, k7⟩, _⟩, fz⟩ := HX.out
    have HP := hid_mkW (HX.out.1.put (.int .i64 0) (.bool false) (.int .i64 0) (.int .i64 x) (.int .i64 x) (.slice ra 1 rc) (.slice sa 1 sc) (.slice none 0 0))
    have f0 := fz 0 (by decide)
    have f1 := fz 1 (by decide)
    have f2 := fz 2 (by decide)
    have f3 := fz 3 (by decide)
    have f4 := fz 4 (by decide)
    have f5 := fz 5 (by decide)
    have f6 := fz 6 (by decide)
    have f7 := fz 7 (by decide)
    clear fz
    go_wp2
    obtain ⟨q0, q1, q2, q3, q4, q5, q6, q7⟩ := HP.out
    unfold put8 at q0 q1 q2 q3 q4 q5 q6 q7
    exact bodyPost_ret (v := .agg #[.int .i64 0, .bool false, .int .i64 0, .int .i64 x, .int .i64 x, .slice ra 1 rc, .slice sa 1 sc, .slice none 0 0]) (by simp [results, Try.results4, go_sem, q0, q1, q2, q3, q4, q5, q6, q7]) rfl ⟨ra, rc, sa, sc, U, rfl, (grs_put8 HB.out.2 (Nat.lt_succ_self _) _ _ _ _ _ _ _ _).mono (Nat.le_succ _), below_put8 HB.out.1 (Nat.le_refl _) _ _ _ _ _ _ _ _⟩
theorem field_groups1 (c : Int) (a : Option Addr) (p q : Nat) (b : Option Addr) (r s : Nat) (w : World) : (Instr.field 42 (.agg #[.int .i64 c, .slice a p q, .slice b r s]) 1).run Try.prog w = .ok (.agg #[.slice a p q, .slice b r s]) w := by kernel_rfl
theorem storeF_empty : storeF emptyS = 0 := by
  have h : ∀ g : Nat → Int, scan g 0 = 0 := fun _ => rfl
  have hn : needs emptyS := ⟨fun i hi => absurd hi (Nat.not_lt_zero i), fun i hi => absurd hi (Nat.not_lt_zero i)⟩
  have ho : once emptyS := ⟨fun i hi => absurd hi (Nat.not_lt_zero i), fun i hi => absurd hi (Nat.not_lt_zero i)⟩
  unfold storeF
  rw [if_neg (by unfold emptyS; decide), if_neg (fun q => q (h _)), if_neg (fun q => q (h _)), if_neg (fun q => q (h _)), if_neg (fun q => q hn), if_neg (fun q => q ho)]
end Go.Proofs.Ytdfikaehipdjaaa

namespace Go.Proofs.Ytdfikaehipdjaaa
open Go.RowKit

theorem heap_put8 {x : World} {b q : Nat} (h : q ≠ b) (c0 c1 c2 c3 c4 c5 c6 c7 : Value) : (put8 x b c0 c1 c2 c3 c4 c5 c6 c7).heap[q]? = x.heap[q]? := by
  have s : ∀ (y : World) (j : Nat) (u : Value), (y.setCell ⟨b, j, none⟩ u).heap[q]? = y.heap[q]? := fun y j u => Below.heap_setCell y ⟨b, j, none⟩ u q h
  unfold put8
  rw [s, s, s, s, s, s, s, s]
theorem Blk4.keptW {x x' : World} {b : Nat} {a0 a1 a2 a3 : Value} (h : Blk4 x b a0 a1 a2 a3) (hb : x'.heap[b]? = x.heap[b]?) : Blk4 x' b a0 a1 a2 a3 := by
  obtain ⟨⟨h0, h1, h2, h3⟩, f0, f1, f2, f3⟩ := h
  exact ⟨⟨(World.cell?_of_block (w := x) (a := ⟨b, 0, none⟩) hb).trans h0, (World.cell?_of_block (w := x) (a := ⟨b, 1, none⟩) hb).trans h1, (World.cell?_of_block (w := x) (a := ⟨b, 2, none⟩) hb).trans h2, (World.cell?_of_block (w := x) (a := ⟨b, 3, none⟩) hb).trans h3⟩, (World.frozen?_of_block (w := x) (a := ⟨b, 0, none⟩) hb).trans f0, (World.frozen?_of_block (w := x) (a := ⟨b, 1, none⟩) hb).trans f1, (World.frozen?_of_block (w := x) (a := ⟨b, 2, none⟩) hb).trans f2, (World.frozen?_of_block (w := x) (a := ⟨b, 3, none⟩) hb).trans f3⟩
set_option maxRecDepth 100000 in
set_option maxHeartbeats 4000000 in
theorem implNewWorld_is (f c x : Int) (nr : Nat) (F : Nat → Int) (n : Nat) (w : World) (hA : NwAns f c x nr F n) : Calls Try.prog 5 #[.int .i64 f] w (ResWF w c x nr F n) := by
  have HZ : Hid (BlkZ (w.alloc (.cells #[.int .i64 0, .bool false, .int .i64 0, .int .i64 0, .int .i64 0, .slice none 0 0, .slice none 0 0, .slice none 0 0] 32)) w.heap.size (.int .i64 0) (.bool false) (.int .i64 0) (.int .i64 0) (.int .i64 0) (.slice none 0 0) (.slice none 0 0) (.slice none 0 0)) := BlkZ.new w _ _ _ _ _ _ _ _ _
  rcases hA with ⟨hf, rfl, rfl, rfl, rfl⟩ | ⟨hf, rfl, rfl, rfl, rfl, rfl⟩
  · have hq : f < 1 ∨ 100000 < f := by omega
    have HO : Hid (∀ y, Calls Try.prog 12 #[.int .i64 f] y fun e w' => e = .returned (.agg #[.int .i64 3, .int .i64 0, .int .i64 0, .int .i64 0]) ∧ Below y.heap.size y w') := fun y => (implNewOracle_any f y).mono (fun e w' h => by
      rw [if_pos hq, if_pos hq] at h
      exact h)
    clear hf hq
    go_enter Try.func5, Try.ntmps5
    go_wp2_with fail
    refine (HO.out _).mono ?_
    rintro e w2 ⟨rfl, q⟩
    have HX : Hid (BlkZ (w2.alloc (.cells #[.int .i64 3, .int .i64 0, .int .i64 0, .int .i64 0] 39)) w.heap.size (.int .i64 0) (.bool false) (.int .i64 0) (.int .i64 0) (.int .i64 0) (.slice none 0 0) (.slice none 0 0) (.slice none 0 0)) := (HZ.out.later q).later (below_alloc _ _)
    have HB : Hid (Below w.heap.size w (w2.alloc (.cells #[.int .i64 3, .int .i64 0, .int .i64 0, .int .i64 0] 39))) := ((below_alloc _ _).trans (q.mono (by simp))).alloc (by have := q.size; simp at this; omega) _
    obtain ⟨⟨g0, g1, g2, g3⟩, _⟩ := Blk4.new w2 (.int .i64 3) (.int .i64 0) (.int .i64 0) (.int .i64 0) 39
    clear q HZ
    obtain ⟨⟨⟨k0, k1, k2, k3, k4, k5, k6, k7⟩, _⟩, fz⟩ := HX.out
    have HP := hid_mkW (HX.out.1.put (.int .i64 3) (.bool false) (.int .i64 0) (.int .i64 0) (.int .i64 0) (.slice none 0 0) (.slice none 0 0) (.slice none 0 0))
    have f0 := fz 0 (by decide)
    have f1 := fz 1 (by decide)
    have f2 := fz 2 (by decide)
    have f3 := fz 3 (by decide)
    have f4 := fz 4 (by decide)
    have f5 := fz 5 (by decide)
    have f6 := fz 6 (by decide)
    have f7 := fz 7 (by decide)
    clear fz
    go_wp2
    obtain ⟨q0, q1, q2, q3, q4, q5, q6, q7⟩ := HP.out
    unfold put8 at q0 q1 q2 q3 q4 q5 q6 q7
    exact bodyPost_ret (v := .agg #[.int .i64 3, .bool false, .int .i64 0, .int .i64 0, .int .i64 0, .slice none 0 0, .slice none 0 0, .slice none 0 0]) (by simp [results, Try.results5, go_sem, q0, q1, q2, q3, q4, q5, q6, q7]) rfl ⟨none, 0, none, 0, _, _, rfl, fineR_nil _ w.heap.size F (fun _ => emptyS) (below_put8 HB.out (Nat.le_refl _) _ _ _ _ _ _ _ _).size, below_put8 HB.out (Nat.le_refl _) _ _ _ _ _ _ _ _⟩
  · have hq : ¬ (x < 1 ∨ 100000 < x) := by omega
    have HO : Hid (∀ y, Calls Try.prog 12 #[.int .i64 x] y fun e w' => e = .returned (.agg #[.int .i64 0, .int .i64 0, .int .i64 x, .int .i64 x]) ∧ Below y.heap.size y w') := fun y => (implNewOracle_any x y).mono (fun e w' h => by
      rw [if_neg hq, if_neg hq] at h
      exact h)
    clear hf hq
    go_enter Try.func5, Try.ntmps5
    go_wp2_with fail
    refine (HO.out _).mono ?_
    rintro e w2 ⟨rfl, q⟩
    have HX : Hid (BlkZ (w2.alloc (.cells #[.int .i64 0, .int .i64 0, .int .i64 x, .int .i64 x] 39)).drew w.heap.size (.int .i64 0) (.bool false) (.int .i64 0) (.int .i64 0) (.int .i64 0) (.slice none 0 0) (.slice none 0 0) (.slice none 0 0)) := ((HZ.out.later q).later (below_alloc _ _)).later (Below.drew (Below.refl _ _))
    have HB : Hid (Below w.heap.size w (w2.alloc (.cells #[.int .i64 0, .int .i64 0, .int .i64 x, .int .i64 x] 39)).drew) := (((below_alloc _ _).trans (q.mono (by simp))).alloc (by have := q.size; simp at this; omega) _).drew
    have K4 := Blk4.new w2 (.int .i64 0) (.int .i64 0) (.int .i64 x) (.int .i64 x) 39
    have zw : Hid (w.heap.size + 1 ≤ (w2.alloc (.cells #[.int .i64 0, .int .i64 0, .int .i64 x, .int .i64 x] 39)).drew.heap.size) := by
      have h1 := q.size
      rw [World.size_alloc] at h1
      show w.heap.size + 1 ≤ (w2.alloc _).heap.size
      rw [World.size_alloc]
      omega
    have HN : Hid (w2.heap.size ≠ w.heap.size) := by
      have h1 := q.size
      rw [World.size_alloc] at h1
      exact (by omega : w2.heap.size ≠ w.heap.size)
    have hS0 : (fun y => Blk4 y w2.heap.size (.int .i64 0) (.int .i64 0) (.int .i64 x) (.int .i64 x)) (w2.alloc (.cells #[.int .i64 0, .int .i64 0, .int .i64 x, .int .i64 x] 39)).drew := K4.later (Below.drew (Below.refl _ _))
    obtain ⟨⟨g0, g1, g2, g3⟩, _⟩ := K4
    have fg := field_groups1
    clear q HZ
    go_wp2_with fail
    refine wp_region_held_drew (S := fun y => Blk4 y w2.heap.size (.int .i64 0) (.int .i64 0) (.int .i64 x) (.int .i64 x)) (by kernel_rfl) hS0 (fun hS => ?_)
    clear hS0 g0 g1 g2 g3
    generalize (w2.alloc (.cells #[.int .i64 0, .int .i64 0, .int .i64 x, .int .i64 x] 39)).drew = y0 at HX HB zw hS ⊢
    refine tkH 0 ?_ hS (fun wx hx => ?_) ?_; rotate_left
    · obtain ⟨⟨hx0, hx1, hx2, hx3⟩, _⟩ := hx; go_simp; try with_reducible rfl
    refine tkH 1 ?_ hS (fun wx hx => ?_) ?_; rotate_left
    · obtain ⟨⟨hx0, hx1, hx2, hx3⟩, _⟩ := hx; go_simp; try with_reducible rfl
    refine tkH 2 ?_ hS (fun wx hx => ?_) ?_; rotate_left
    · obtain ⟨⟨hx0, hx1, hx2, hx3⟩, _⟩ := hx; go_simp; try with_reducible rfl
    refine rdH 3 (fun K hK => ?_)
    go_simp
    go_wp2_with fail
    refine (implNewGroups_is emptyS _ _ _ 1 0 1 (wholeF 1) 1 (fun _ => emptyS) 0 _ (stE _ 0 none none none 0 0 0) (Or.inr ⟨storeF_empty, by decide, rfl, rfl, rfl, rfl, rfl⟩)).mono ?_
    rintro e y1 ⟨ra, rc, sa, sc, U, z, rfl, hR, q⟩
    have HR : Hid (FineR y1 y0.heap.size y1.heap.size 1 (wholeF 1) 1 (fun _ => emptyS) ra rc sa U z) := hR
    have HX : Hid (BlkZ y1 w.heap.size (.int .i64 0) (.bool false) (.int .i64 0) (.int .i64 0) (.int .i64 0) (.slice none 0 0) (.slice none 0 0) (.slice none 0 0)) := HX.out.later q
    have HB : Hid (Below w.heap.size w y1) := HB.out.trans (q.mono HB.out.size)
    have hS' := hS.later q
    clear hR q
    go_wp2_with fail
    refine hK.out _ _ hS' (fun hS => ?_)
    clear hK K hS'
    refine tkH 4 ?_ hS (fun wx hx => ?_) ?_; rotate_left
    · obtain ⟨⟨hx0, hx1, hx2, hx3⟩, _⟩ := hx; go_simp; try with_reducible rfl
    refine tkH 5 ?_ hS (fun wx hx => ?_) ?_; rotate_left
    · obtain ⟨⟨hx0, hx1, hx2, hx3⟩, _⟩ := hx; go_simp; try with_reducible rfl
    refine tkH 6 ?_ hS (fun wx hx => ?_) ?_; rotate_left
    · obtain ⟨⟨hx0, hx1, hx2, hx3⟩, _⟩ := hx; go_simp; try with_reducible rfl
    simp only [Act.put, List.getElem_toArray, List.getElem_cons_zero, List.getElem_cons_succ, List.setIfInBounds_toArray, List.set_cons_succ, List.set_cons_zero]
    obtain ⟨⟨⟨k0, k1, k2, k3, k4, k5, k6, k7⟩, _⟩, fz⟩ := HX.out
    have HP := hid_mkW (HX.out.1.put (.int .i64 0) (.bool false) (.int .i64 0) (.int .i64 x) (.int .i64 x) (.slice ra 1 rc) (.slice sa 1 sc) (.slice none 0 0))
    have f0 := fz 0 (by decide)
    have f1 := fz 1 (by decide)
    have f2 := fz 2 (by decide)
    have f3 := fz 3 (by decide)
    have f4 := fz 4 (by decide)
    have f5 := fz 5 (by decide)
    have f6 := fz 6 (by decide)
    have f7 := fz 7 (by decide)
    clear fz
    have hS3 : Blk4 (put8 y1 w.heap.size (.int .i64 0) (.bool false) (.int .i64 0) (.int .i64 x) (.int .i64 x) (.slice ra 1 rc) (.slice sa 1 sc) (.slice none 0 0)) w2.heap.size (.int .i64 0) (.int .i64 0) (.int .i64 x) (.int .i64 x) := hS.keptW (heap_put8 HN.out _ _ _ _ _ _ _ _)
    refine rdH 7 (fun K hK => ?_)
    go_simp
    refine hK.out _ _ hS3 (fun hS => ?_)
    clear hK K hS3
    refine wpAnyH_done (by kernel_rfl) ?_ _
    clear hS
    go_simp
    go_wp2
    obtain ⟨q0, q1, q2, q3, q4, q5, q6, q7⟩ := HP.out
    unfold put8 at q0 q1 q2 q3 q4 q5 q6 q7
    exact bodyPost_ret (v := .agg #[.int .i64 0, .bool false, .int .i64 0, .int .i64 x, .int .i64 x, .slice ra 1 rc, .slice sa 1 sc, .slice none 0 0]) (by simp [results, Try.results5, go_sem, q0, q1, q2, q3, q4, q5, q6, q7]) rfl ⟨ra, rc, sa, sc, U, z, rfl, (fineR_put8 HR.out zw.out _ _ _ _ _ _ _ _).up (by have := zw.out; omega), below_put8 HB.out (Nat.le_refl _) _ _ _ _ _ _ _ _⟩
theorem below_within {w x x' : World} {B lo tp : Nat} (h : Below B w x) (hw : Within lo tp x x') (hb : B ≤ lo) (hs : B ≤ x.heap.size) : Below B w x' :=
  ⟨hw.os.trans h.os, hw.tape.trans h.tape, hw.output.trans h.output, Nat.le_trans h.size hw.size, fun i hi => (hw.block i (Nat.lt_of_lt_of_le hi hs) (Or.inl (Nat.lt_of_lt_of_le hi hb))).trans (h.block i hi)⟩
/-- What the law stands on: the model's answer in block b3, the program's in block b4. -/
def LawW (w w1 : World) (b4 : Nat) (c x : Int) (nr n : Nat) (m0 : Option Addr) (p0 : Nat) (m1 : Option Addr) (p1 : Nat) (g0 : Option Addr) (q0 : Nat) (g1 : Option Addr) (q1 : Nat) (y : World) : Prop :=
  (Below w.heap.size w y ∧ Below w1.heap.size w1 y) ∧ BlkR y w1.heap.size (.int .i64 c) (.bool false) (.int .i64 0) (.int .i64 x) (.int .i64 x) (.slice m0 nr p0) (.slice m1 n p1) (.slice none 0 0) ∧ BlkR y b4 (.int .i64 c) (.bool false) (.int .i64 0) (.int .i64 x) (.int .i64 x) (.slice g0 nr q0) (.slice g1 n q1) (.slice none 0 0)
theorem LawW.later {w w1 : World} {b4 : Nat} {c x : Int} {nr n : Nat} {m0 : Option Addr} {p0 : Nat} {m1 : Option Addr} {p1 : Nat} {g0 : Option Addr} {q0 : Nat} {g1 : Option Addr} {q1 : Nat} {y y' : World} (h : LawW w w1 b4 c x nr n m0 p0 m1 p1 g0 q0 g1 q1 y) (hb : Below y.heap.size y y') : LawW w w1 b4 c x nr n m0 p0 m1 p1 g0 q0 g1 q1 y' :=
  ⟨⟨h.1.1.trans (hb.mono h.1.1.size), h.1.2.trans (hb.mono h.1.2.size)⟩, h.2.1.later hb, h.2.2.later hb⟩
set_option maxRecDepth 100000 in
set_option maxHeartbeats 8000000 in
theorem exactNewWorld_walk (f : Int) (w : World) : Calls Try.prog 3 #[.int .i64 f] w fun e w' => e = .returned (.bool true) ∧ Below w.heap.size w w' := by
  obtain ⟨c, x, nr, F, n, hs, hA⟩ := NwAns.get f
  have HS : Hid (SmallG nr n (fun _ => emptyS)) := hs
  have HA : Hid (NwAns f c x nr F n) := hA
  obtain ⟨t, ht⟩ : ∃ t, sumN (markT (fun _ => emptyS)) n = t := ⟨_, rfl⟩
  have HT : Hid (sumN (markT (fun _ => emptyS)) n = t) := ht
  have dr : decide ((1 : Int) + nr * 3 + (t : Nat) < 0) = false := decide_eq_false (by omega)
  clear hs hA ht
  go_enter Try.func3, Try.ntmps3
  go_wp2_with fail
  refine (specNewWorld_is f c x nr F n _ HA.out).mono ?_
  rintro e w1 ⟨m0, p0, m1, p1, UM, rfl, gm, q1⟩
  have GM : Hid (Grs w1 0 nr F n (fun _ => emptyS) UM (.slice m0 nr p0) (.slice m1 n p1)) := gm.mono (Nat.zero_le _)
  have K1 : Hid (BlkR (w1.alloc (.cells #[.int .i64 c, .bool false, .int .i64 0, .int .i64 x, .int .i64 x, .slice m0 nr p0, .slice m1 n p1, .slice none 0 0] 32)) w1.heap.size (.int .i64 c) (.bool false) (.int .i64 0) (.int .i64 x) (.int .i64 x) (.slice m0 nr p0) (.slice m1 n p1) (.slice none 0 0) ∧ Below w.heap.size w (w1.alloc (.cells #[.int .i64 c, .bool false, .int .i64 0, .int .i64 x, .int .i64 x, .slice m0 nr p0, .slice m1 n p1, .slice none 0 0] 32)) ∧ Below w1.heap.size w1 (w1.alloc (.cells #[.int .i64 c, .bool false, .int .i64 0, .int .i64 x, .int .i64 x, .slice m0 nr p0, .slice m1 n p1, .slice none 0 0] 32))) := ⟨BlkR.new w1 _ _ _ _ _ _ _ _ _, q1.alloc q1.size _, below_alloc _ _⟩
  clear gm q1
  go_wp2_with fail
  have zlo : Hid ((w1.alloc (.cells #[.int .i64 c, .bool false, .int .i64 0, .int .i64 x, .int .i64 x, .slice m0 nr p0, .slice m1 n p1, .slice none 0 0] 32)).heap.size = w1.heap.size + 1) := World.size_alloc _ _
  generalize w1.alloc (.cells #[.int .i64 c, .bool false, .int .i64 0, .int .i64 x, .int .i64 x, .slice m0 nr p0, .slice m1 n p1, .slice none 0 0] 32) = x1 at K1 zlo ⊢
  refine (implNewWorld_is f c x nr F n _ HA.out).mono ?_
  rintro e w2 ⟨g0, q0, g1, q1, UG, zG, rfl, rg, q2⟩
  have Q2 : Hid (LawW w w1 w2.heap.size c x nr n m0 p0 m1 p1 g0 q0 g1 q1 (w2.alloc (.cells #[.int .i64 c, .bool false, .int .i64 0, .int .i64 x, .int .i64 x, .slice g0 nr q0, .slice g1 n q1, .slice none 0 0] 32))) := ⟨⟨(K1.out.2.1.trans (q2.mono K1.out.2.1.size)).alloc (by have := K1.out.2.1.size; have := q2.size; omega) _, (K1.out.2.2.trans (q2.mono K1.out.2.2.size)).alloc (by have := K1.out.2.2.size; have := q2.size; omega) _⟩, (K1.out.1.later q2).later (below_alloc _ _), BlkR.new w2 _ _ _ _ _ _ _ _ _⟩
  have G2 : Hid (FineR (w2.alloc (.cells #[.int .i64 c, .bool false, .int .i64 0, .int .i64 x, .int .i64 x, .slice g0 nr q0, .slice g1 n q1, .slice none 0 0] 32)) x1.heap.size w2.heap.size nr F n (fun _ => emptyS) g0 q0 g1 UG zG) := rg.later (below_alloc _ _)
  have z2 : Hid (x1.heap.size ≤ w2.heap.size) := q2.size
  have HLO : Hid (w.heap.size ≤ x1.heap.size) := K1.out.2.1.size
  clear rg q2 K1
  obtain ⟨_, ⟨⟨s0, s1, s2, s3, s4, s5, s6, s7⟩, _⟩, ⟨⟨t0, t1, t2, t3, t4, t5, t6, t7⟩, _⟩⟩ := Q2.out
  go_wp2_with fail
  refine (eqWorldResult_same c false 0 x x nr F n (fun _ => emptyS) UG UM g0 q0 g1 q1 m0 p0 m1 p1 _ 0 _ (G2.out.grs q1) (GM.out.later Q2.out.1.2) HS.out).mono ?_
  rintro e w3 ⟨rfl, q3⟩
  have Q3 : Hid (LawW w w1 w2.heap.size c x nr n m0 p0 m1 p1 g0 q0 g1 q1 w3) := Q2.out.later q3
  have G3 : Hid (FineR w3 x1.heap.size w2.heap.size nr F n (fun _ => emptyS) g0 q0 g1 UG zG) := G2.out.later q3
  clear q3 Q2 G2 s0 s1 s2 s3 s4 s5 s6 s7 t0 t1 t2 t3 t4 t5 t6 t7
  obtain ⟨_, _, ⟨⟨t0, t1, t2, t3, t4, t5, t6, t7⟩, _⟩⟩ := Q3.out
  go_wp2_with fail
  refine (markWorldResult_any c false 0 x x nr F n (fun _ => emptyS) g0 q0 g1 q1 UG zG x1.heap.size w2.heap.size _ G3.out HS.out).mono ?_
  rw [HT.out]
  rintro e w4 ⟨rfl, m4, W4⟩
  have Q4 : Hid (LawW w w1 w2.heap.size c x nr n m0 p0 m1 p1 g0 q0 g1 q1 w4) := by
    have hz := zlo.out
    have hq := Q3.out
    have hw := hq.1.1.size
    have hw1 := hq.1.2.size
    have h12 : w.heap.size ≤ x1.heap.size := HLO.out
    refine ⟨⟨below_within hq.1.1 W4 h12 hw, below_within hq.1.2 W4 (by omega) hw1⟩, hq.2.1.kept (W4.block w1.heap.size hq.2.1.2 (Or.inl (by omega))) W4.size, hq.2.2.kept (W4.block w2.heap.size hq.2.2.2 (Or.inr (Nat.le_refl _))) W4.size⟩
  have M4 : Hid (MarkG w4 x1.heap.size nr n (fun _ => emptyS) g0 q0 g1 q1 UG) := m4
  clear m4 W4 Q3 G3 t0 t1 t2 t3 t4 t5 t6 t7
  obtain ⟨_, _, ⟨⟨t0, t1, t2, t3, t4, t5, t6, t7⟩, _⟩⟩ := Q4.out
  go_wp2_with fail
  refine (heldWorldResult_any c false 0 x x nr n (fun _ => emptyS) g0 q0 g1 q1 UG _ _ M4.out HS.out).mono ?_
  rw [HT.out]
  rintro e w5 ⟨rfl, q5⟩
  have Q5 : Hid (LawW w w1 w2.heap.size c x nr n m0 p0 m1 p1 g0 q0 g1 q1 w5) := Q4.out.later q5
  have M5 : Hid (MarkG w5 x1.heap.size nr n (fun _ => emptyS) g0 q0 g1 q1 UG) := M4.out.later q5
  clear q5 Q4 M4 t0 t1 t2 t3 t4 t5 t6 t7
  go_wp2_with fail
  refine (implNewWorld_is f c x nr F n _ HA.out).mono ?_
  rintro e w6 ⟨h0, r0, h1, r1, UH, zH, rfl, rh, q6⟩
  have Q6 : Hid (LawW w w1 w2.heap.size c x nr n m0 p0 m1 p1 g0 q0 g1 q1 (w6.alloc (.cells #[.int .i64 c, .bool false, .int .i64 0, .int .i64 x, .int .i64 x, .slice h0 nr r0, .slice h1 n r1, .slice none 0 0] 32))) := (Q5.out.later q6).later (below_alloc _ _)
  have H6 : Hid (FineR (w6.alloc (.cells #[.int .i64 c, .bool false, .int .i64 0, .int .i64 x, .int .i64 x, .slice h0 nr r0, .slice h1 n r1, .slice none 0 0] 32)) w5.heap.size w6.heap.size nr F n (fun _ => emptyS) h0 r0 h1 UH zH) := rh.later (below_alloc _ _)
  have M6 : Hid (MarkG (w6.alloc (.cells #[.int .i64 c, .bool false, .int .i64 0, .int .i64 x, .int .i64 x, .slice h0 nr r0, .slice h1 n r1, .slice none 0 0] 32)) x1.heap.size nr n (fun _ => emptyS) g0 q0 g1 q1 UG) := (M5.out.later q6).later (below_alloc _ _)
  clear rh q6 Q5 M5
  obtain ⟨_, ⟨⟨s0, s1, s2, s3, s4, s5, s6, s7⟩, _⟩, _⟩ := Q6.out
  obtain ⟨⟨t0, t1, t2, t3, t4, t5, t6, t7⟩, _⟩ := BlkR.new w6 (.int .i64 c) (.bool false) (.int .i64 0) (.int .i64 x) (.int .i64 x) (.slice h0 nr r0) (.slice h1 n r1) (.slice none 0 0) 32
  go_wp2_with fail
  refine (eqWorldResult_same c false 0 x x nr F n (fun _ => emptyS) UH UM h0 r0 h1 r1 m0 p0 m1 p1 _ 0 _ (H6.out.grs r1) (GM.out.later Q6.out.1.2) HS.out).mono ?_
  rintro e w7 ⟨rfl, q7⟩
  have Q7 : Hid (LawW w w1 w2.heap.size c x nr n m0 p0 m1 p1 g0 q0 g1 q1 w7) := Q6.out.later q7
  have M7 : Hid (MarkG w7 x1.heap.size nr n (fun _ => emptyS) g0 q0 g1 q1 UG) := M6.out.later q7
  clear q7 Q6 H6 M6 s0 s1 s2 s3 s4 s5 s6 s7 t0 t1 t2 t3 t4 t5 t6 t7
  obtain ⟨_, _, ⟨⟨t0, t1, t2, t3, t4, t5, t6, t7⟩, _⟩⟩ := Q7.out
  go_wp2_with fail
  refine (heldWorldResult_any c false 0 x x nr n (fun _ => emptyS) g0 q0 g1 q1 UG _ _ M7.out HS.out).mono ?_
  rw [HT.out]
  rintro e w8 ⟨rfl, q8⟩
  have Q8 : Hid (Below w.heap.size w w8) := Q7.out.1.1.trans (q8.mono Q7.out.1.1.size)
  clear q8 Q7 M7 t0 t1 t2 t3 t4 t5 t6 t7
  go_wp2
  go_ret
  exact ⟨rfl, Q8.out⟩
end Go.Proofs.Ytdfikaehipdjaaa

