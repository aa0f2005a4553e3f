/-
  Own text. StoreFor: the model's l7For, the program's pointTo and what its store tells; what both StoreFor answer.
-/
import Derived.Test.YtlojbhadodbohaaGreatGrpL
import Derived.Test.YtlojbhadodbohaaGreatStoA
import Derived.Test.YtlojbhadodbohaaGreatCopyA
namespace Go.Proofs.YtlojbhadodbohaaGreat
open Go.RowKit Go.Maps

/-- What l7For reads: the two lists of the groups. -/
def ForE (b : Nat) (vr vs : Value) (x : World) : Prop := x.cell? ⟨b, 0, none⟩ = some vr ∧ x.cell? ⟨b, 1, none⟩ = some vs
/-- A range's store that is worked on: its range and its columns, in block b. -/
def RSt (x : World) (B b : Nat) (fr to ep : Int) (N : Nat) (m : Int → Int → Option Int) (nl : Nat) (l : Nat → Int) (nw : Nat) (k : Nat → Int) (g : Nat) (u1 u2 : Value) : Prop :=
  (x.cell? ⟨b, 0, none⟩ = some (.int .i64 fr) ∧ x.cell? ⟨b, 1, none⟩ = some (.int .i64 to) ∧ x.cell? ⟨b, 2, none⟩ = some (.int .i64 ep)) ∧ ColsO x B b 3 N m nl l nw k g u1 u2 ∧ ApartC b g u1 u2
def PtE (w : World) (s0 s1 s2 r0 r1 r2 : Value) (x : World) : Prop := Blk3 x w.heap.size s0 s1 s2 ∧ Blk3 x (w.heap.size + 1) r0 r1 r2
set_option maxRecDepth 100000 in
set_option maxHeartbeats 4000000 in
theorem pointTo_is (S : Sto) (v0 v1 v2 : Value) (fr to ep : Int) (B : Nat) (w : World) (h : St w B S v0 v1 v2) (hz : storeF S = 0) :
    Calls Tryz.prog 68 #[.agg #[v0, v1, v2], .agg #[.int .i64 fr, .int .i64 to, .int .i64 ep]] w fun e w' => ∃ b g u1 u2, e = .returned (.pointer (some ⟨b, 0, none⟩)) ∧ RSt w' w.heap.size b fr to ep S.nc (cellM S S.nc) S.nl S.l S.nw S.k g u1 u2 ∧ Below w.heap.size w w' := by
  obtain ⟨a0, c0, a1, c1, a2, c2, rfl, rfl, rfl⟩ := h.form
  have H : Hid (St w B S (.slice a0 S.nc c0) (.slice a1 S.nl c1) (.slice a2 S.nw c2)) := h
  have Z := storeF_zero hz
  have HZ : Hid ((S.nc ≤ 200 ∧ S.nl ≤ 200 ∧ S.nw ≤ 200) ∧ scan (cellF S.c) S.nc = 0) := ⟨Z.1, Z.2.1⟩
  have HP : Hid (PtE w (.slice a0 S.nc c0) (.slice a1 S.nl c1) (.slice a2 S.nw c2) (.int .i64 fr) (.int .i64 to) (.int .i64 ep) ((w.alloc (.cells #[.slice a0 S.nc c0, .slice a1 S.nl c1, .slice a2 S.nw c2] 45)).alloc (.cells #[.int .i64 fr, .int .i64 to, .int .i64 ep] 102)) ∧ Below w.heap.size w ((w.alloc (.cells #[.slice a0 S.nc c0, .slice a1 S.nl c1, .slice a2 S.nw c2] 45)).alloc (.cells #[.int .i64 fr, .int .i64 to, .int .i64 ep] 102))) := by
    refine ⟨⟨(Blk3.new w _ _ _ _).alloc _, ?_⟩, (below_alloc _ _).alloc (by simp) _⟩
    have := Blk3.new (w.alloc (.cells #[.slice a0 S.nc c0, .slice a1 S.nl c1, .slice a2 S.nw c2] 45)) (.int .i64 fr) (.int .i64 to) (.int .i64 ep) 102
    rwa [World.size_alloc] at this
  clear h hz Z
  go_enter Tryz.func68, Tryz.ntmps68
  go_wp2_with fail
  generalize (w.alloc (.cells #[.slice a0 S.nc c0, .slice a1 S.nl c1, .slice a2 S.nw c2] 45)).alloc (.cells #[.int .i64 fr, .int .i64 to, .int .i64 ep] 102) = w1 at HP ⊢
  refine wp_region_held_drew (S := PtE w (.slice a0 S.nc c0) (.slice a1 S.nl c1) (.slice a2 S.nw c2) (.int .i64 fr) (.int .i64 to) (.int .i64 ep)) (by kernel_rfl) ⟨HP.out.1.1.kept rfl, HP.out.1.2.kept rfl⟩ (fun hS => ?_)
  refine wpAnyH_take (i := 0) (v := ?_) rfl (by kernel_rfl) (by kernel_rfl) (by kernel_rfl) (fun _ _ _ h => h) (Or.inl ⟨by kernel_rfl, ?_⟩) hS ?_
  rotate_left
  · intro wx hx
    obtain ⟨⟨⟨hx0, hx1, hx2⟩, _⟩, ⟨hx3, hx4, hx5⟩, _⟩ := hx
    go_simp
    try with_reducible rfl
  refine wpAnyH_take (i := 1) (v := ?_) rfl (by kernel_rfl) (by kernel_rfl) (by kernel_rfl) (fun _ _ _ h => h) (Or.inl ⟨by kernel_rfl, ?_⟩) hS ?_
  rotate_left
  · intro wx hx
    obtain ⟨⟨⟨hx0, hx1, hx2⟩, _⟩, ⟨hx3, hx4, hx5⟩, _⟩ := hx
    go_simp
    try with_reducible rfl
  refine wpAnyH_ready (rs := [2]) (by kernel_rfl) (by simp) ?_
  refine AllReadyH.cons rfl (fun K hK => ?_) AllReadyH.nil
  go_simp
  go_wp2_with fail
  refine (columnsOf_apart S B _ _ _ _ ((H.out.later HP.out.2).later (below_dr (Below.refl _ _) 1)) HZ.out.1.1 HZ.out.1.2.1 HZ.out.1.2.2 HZ.out.2).mono ?_
  rintro e w2 ⟨b, g, u1, u2, rfl, hC, hap, q2⟩
  have q2' : Below w1.heap.size w1 w2 := ⟨q2.os, q2.tape, q2.output, q2.size, q2.block⟩
  obtain ⟨b1, d1, rfl⟩ := hC.2.2.2.2.1.form
  obtain ⟨b2, d2, rfl⟩ := hC.2.2.2.2.2.form
  have HC : Hid (Cols w2 w1.heap.size b S.nc (cellM S S.nc) S.nl S.l S.nw S.k g (.slice b1 S.nl d1) (.slice b2 S.nw d2) ∧ ApartC b g (.slice b1 S.nl d1) (.slice b2 S.nw d2)) := ⟨hC, hap⟩
  have HB2 : Hid (Below w.heap.size w w2 ∧ w.heap.size ≤ w1.heap.size) := ⟨HP.out.2.trans (q2'.mono HP.out.2.size), HP.out.2.size⟩
  have hS' : PtE w (.slice a0 S.nc c0) (.slice a1 S.nl c1) (.slice a2 S.nw c2) (.int .i64 fr) (.int .i64 to) (.int .i64 ep) w2 := ⟨hS.1.later q2, hS.2.later q2⟩
  obtain ⟨⟨t0, t1, t2⟩, _⟩ := hC.2.2.1
  clear hC hap q2 q2'
  go_wp2_with fail
  refine hK.out _ _ hS' (fun hS => ?_)
  clear hK K hS'
  refine wpAnyH_take (i := 3) (v := ?_) rfl (by kernel_rfl) (by kernel_rfl) (by kernel_rfl) (fun _ _ _ h => h) (Or.inl ⟨by kernel_rfl, ?_⟩) hS ?_
  rotate_left
  · intro wx hx
    obtain ⟨⟨⟨hx0, hx1, hx2⟩, _⟩, ⟨hx3, hx4, hx5⟩, _⟩ := hx
    go_simp
    try with_reducible rfl
  refine wpAnyH_ready (rs := [4]) (by kernel_rfl) (by simp) ?_
  refine AllReadyH.cons rfl (fun K hK => ?_) AllReadyH.nil
  go_simp
  refine hK.out _ _ hS (fun hS => ?_)
  clear hK K
  refine wpAnyH_take (i := 5) (v := ?_) rfl (by kernel_rfl) (by kernel_rfl) (by kernel_rfl) (fun _ _ _ h => h) (Or.inl ⟨by kernel_rfl, ?_⟩) hS ?_
  rotate_left
  · intro wx hx
    obtain ⟨⟨⟨hx0, hx1, hx2⟩, _⟩, ⟨hx3, hx4, hx5⟩, _⟩ := hx
    go_simp
    try with_reducible rfl
  refine wpAnyH_ready (rs := [6]) (by kernel_rfl) (by simp) ?_
  refine AllReadyH.cons rfl (fun K hK => ?_) AllReadyH.nil
  go_simp
  refine hK.out _ _ (show PtE w _ _ _ _ _ _ _ from ⟨hS.1.alloc _, hS.2.alloc _⟩) (fun hS => ?_)
  clear hK K
  refine wpAnyH_take (i := 7) (v := ?_) rfl (by kernel_rfl) (by kernel_rfl) (by kernel_rfl) (fun _ _ _ h => h) (Or.inl ⟨by kernel_rfl, ?_⟩) hS ?_
  rotate_left
  · intro wx hx
    obtain ⟨⟨⟨hx0, hx1, hx2⟩, _⟩, ⟨hx3, hx4, hx5⟩, _⟩ := hx
    go_simp
    try with_reducible rfl
  refine wpAnyH_done (by kernel_rfl) ?_ _
  clear hS t0 t1 t2
  go_simp
  go_wp2
  go_ret
  have hlt := HC.out.1.2.2.1.lt
  have hgl := HC.out.1.2.2.2.1.lt
  have cl : ∀ (j : Nat) (u : Value), (#[.int .i64 fr, .int .i64 to, .int .i64 ep, .map (some g), .slice b1 S.nl d1, .slice b2 S.nw d2] : Array Value)[j]? = some u → (w2.alloc (.cells #[.int .i64 fr, .int .i64 to, .int .i64 ep, .map (some g), .slice b1 S.nl d1, .slice b2 S.nw d2] 131)).cell? ⟨w2.heap.size, j, none⟩ = some u := fun j u hu => (World.cell?_alloc_mark w2 _ _ _ j).trans hu
  have cf : ∀ (j : Nat), (w2.alloc (.cells #[.int .i64 fr, .int .i64 to, .int .i64 ep, .map (some g), .slice b1 S.nl d1, .slice b2 S.nw d2] 131)).frozen? ⟨w2.heap.size, j, none⟩ = false := fun j => by simp
  refine ⟨w2.heap.size, g, _, _, rfl, ⟨⟨cl 0 _ rfl, cl 1 _ rfl, cl 2 _ rfl⟩, ⟨HB2.out.1.size, Nat.le_trans HB2.out.2 HC.out.1.2.1, ⟨⟨cl 3 _ rfl, cl 4 _ rfl, cl 5 _ rfl⟩, cf 3, cf 4, cf 5⟩, HC.out.1.2.2.2.1.later (below_alloc _ _), (HC.out.1.2.2.2.2.1.later (below_alloc _ _)).mono HB2.out.2, (HC.out.1.2.2.2.2.2.later (below_alloc _ _)).mono HB2.out.2⟩, ⟨by omega, fun q e => ⟨by have := (own_in HC.out.1.2.2.2.2.1 q e).2; omega, (HC.out.2.2.1 q e).2⟩, fun q e => ⟨by have := (own_in HC.out.1.2.2.2.2.2 q e).2; omega, (HC.out.2.2.2.1 q e).2⟩, HC.out.2.2.2.2⟩⟩, HB2.out.1.trans ((below_alloc _ _).mono HB2.out.1.size)⟩
theorem mapSelf {S : Sto} (hz : scan (cellF S.c) S.nc = 0) : MapRow (cellM S S.nc) S.nc S.c :=
  ⟨cells_rise hz, fun i hi => by
    have hc := cellF_zero (scan_zero hz i hi)
    have hk := faultOf_zero hc.1
    exact ⟨wf_small hk.1 (by omega), wf_small (by omega) hc.2.2.1⟩, fun i hi => cellM_at hz hi ⟨rfl, rfl⟩, fun _ _ _ _ _ h => cellM_some h⟩
def ForAns (nr : Nat) (F : Nat → Int) (n : Nat) (S : Nat → Sto) (key c : Int) (R : Sto) : Prop :=
  (groupsF nr F n S ≠ 0 ∧ c = groupsF nr F n S ∧ R = emptyS) ∨ (groupsF nr F n S = 0 ∧ faultOf key ≠ 0 ∧ c = faultOf key ∧ R = emptyS) ∨ (groupsF nr F n S = 0 ∧ faultOf key = 0 ∧ ∃ j, AtR nr F key j ∧ c = 0 ∧ R = S j)
/-- What the last region of the program's StoreFor reads. -/
def ForS (w : World) (gr oR j g o nr c0 n c1 : Nat) (fr to ep : Int) (s0 s1 s2 : Value) (x : World) : Prop :=
  (x.cell? ⟨w.heap.size, 0, none⟩ = some (.slice (some ⟨gr, oR, none⟩) nr c0) ∧ x.cell? ⟨w.heap.size, 1, none⟩ = some (.slice (some ⟨g, o, none⟩) n c1)) ∧ (x.cell? ⟨gr, oR + j * 3, none⟩ = some (.int .i64 fr) ∧ x.cell? ⟨gr, oR + j * 3 + 1, none⟩ = some (.int .i64 to) ∧ x.cell? ⟨gr, oR + j * 3 + 2, none⟩ = some (.int .i64 ep)) ∧ x.cell? ⟨g, o + j * 3, none⟩ = some s0 ∧ x.cell? ⟨g, o + j * 3 + 1, none⟩ = some s1 ∧ x.cell? ⟨g, o + j * 3 + 2, none⟩ = some s2
theorem ForS.kept {w x x' : World} {gr oR j g o nr c0 n c1 : Nat} {fr to ep : Int} {s0 s1 s2 : Value} (h : ForS w gr oR j g o nr c0 n c1 fr to ep s0 s1 s2 x) (hgr : gr < w.heap.size) (hg : g < w.heap.size) (hb : ∀ i, i ≤ w.heap.size → x'.heap[i]? = x.heap[i]?) : ForS w gr oR j g o nr c0 n c1 fr to ep s0 s1 s2 x' := by
  have k : ∀ b p, b ≤ w.heap.size → x'.cell? ⟨b, p, none⟩ = x.cell? ⟨b, p, none⟩ := fun b p hb' => World.cell?_of_block (w := x) (a := ⟨b, p, none⟩) (hb b hb')
  obtain ⟨⟨h0, h1⟩, ⟨h2, h3, h4⟩, h5, h6, h7⟩ := h
  exact ⟨⟨(k _ _ (Nat.le_refl _)).trans h0, (k _ _ (Nat.le_refl _)).trans h1⟩, ⟨(k _ _ (by omega)).trans h2, (k _ _ (by omega)).trans h3, (k _ _ (by omega)).trans h4⟩, (k _ _ (by omega)).trans h5, (k _ _ (by omega)).trans h6, (k _ _ (by omega)).trans h7⟩
theorem ForAns.get (nr : Nat) (F : Nat → Int) (n : Nat) (S : Nat → Sto) (key : Int) : ∃ c R, SmallS R ∧ ForAns nr F n S key c R := by
  have small : SmallS emptyS := by unfold SmallS emptyS; decide
  by_cases hz : groupsF nr F n S = 0
  · have Z := groupsF_zero hz
    by_cases hk : faultOf key = 0
    · obtain ⟨j, hj⟩ := Z.1.at (key := key) (by have := (faultOf_zero hk).2; omega)
      have hs := storeF_zero (Z.2.2.1 j (by have := hj.1; have := Z.2.1; omega)).1
      exact ⟨0, S j, by unfold SmallS; have := hs.1; omega, Or.inr (Or.inr ⟨hz, hk, j, hj, rfl, rfl⟩)⟩
    · exact ⟨_, emptyS, small, Or.inr (Or.inl ⟨hz, hk, rfl, rfl⟩)⟩
  · exact ⟨_, emptyS, small, Or.inl ⟨hz, rfl, rfl⟩⟩
end Go.Proofs.YtlojbhadodbohaaGreat
